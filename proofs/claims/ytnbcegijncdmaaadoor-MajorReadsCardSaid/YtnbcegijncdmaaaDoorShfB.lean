/- The contracts of package shift's Put at the first bit, of Seen, Line and Says on a shift of one word, and of layer 15's closed example. -/
import Derived.Test.YtnbcegijncdmaaaDoorShfA
import Derived.Test.YtnbcegijncdmaaaDoorWirS
import Derived.Deep.RegionWith
namespace Go.Proofs.YtnbcegijncdmaaaDoor.Ly15
open Go.ChangeShapes Go.WideShapes Go.ChangeAt Go.RowKit Base Ly3
set_option linter.unusedVariables false
set_option linter.unusedSimpArgs false

theorem of_any (a b : Bool) (w : World) :
    Calls Tryd.prog 76 #[.bool a, .bool b] w fun e w' => e = .returned (.tuple #[.bool (a && !b), .bool (a != b)]) ∧ w = w' := by
  cases a <;> cases b
  all_goals
    go_enter Tryd.func76, Tryd.ntmps76
    go_wp2
    go_ret2
    exact ⟨rfl, rfl⟩
theorem place_any (y : Bool) (p : Int) (hp : Hid ((if y then 1 else 0) = p)) (w : World) : Calls Tryd.prog 74 #[.bool y] w fun e w' => e = .returned (.int .i64 p) ∧ w = w' := by
  rw [← hp.out]
  cases y
  all_goals
    go_enter Tryd.func74, Tryd.ntmps74
    go_wp2
    go_ret
    exact ⟨rfl, rfl⟩
theorem idx0 (a b c d : Bool) (W : World) : (Instr.index 38 (.agg #[.bool a, .bool b, .bool c, .bool d]) (.int .i64 0)).run Tryd.prog W = .ok (.bool a) W := by kernel_rfl
theorem idx1 (a b c d : Bool) (W : World) : (Instr.index 38 (.agg #[.bool a, .bool b, .bool c, .bool d]) (.int .i64 1)).run Tryd.prog W = .ok (.bool b) W := by kernel_rfl
theorem idx2 (a b c d : Bool) (W : World) : (Instr.index 38 (.agg #[.bool a, .bool b, .bool c, .bool d]) (.int .i64 2)).run Tryd.prog W = .ok (.bool c) W := by kernel_rfl
theorem idx3 (a b c d : Bool) (W : World) : (Instr.index 38 (.agg #[.bool a, .bool b, .bool c, .bool d]) (.int .i64 3)).run Tryd.prog W = .ok (.bool d) W := by kernel_rfl
def PRela (w : World) (b l : Nat) (f : Nat → Bool) (i : Value) (wr : World) : Prop := (i = .int .i64 0 ∧ ShF wr b true 1 f ∧ Wrote b w wr) ∨ (i = .int .i64 1 ∧ ShF wr b true 1 (upd (upd (f) 2 (said l 0)) 3 true) ∧ Wrote b w wr) ∨ (i = .int .i64 2 ∧ ShF wr b true 1 (upd (upd (upd (upd (f) 2 (said l 0)) 3 true) 258 (said l 1)) 259 true) ∧ Wrote b w wr) ∨ (i = .int .i64 3 ∧ ShF wr b true 1 (upd (upd (upd (upd (upd (upd (f) 2 (said l 0)) 3 true) 258 (said l 1)) 259 true) 514 (said l 2)) 515 true) ∧ Wrote b w wr) ∨ (i = .int .i64 4 ∧ ShF wr b true 1 (upd (upd (upd (upd (upd (upd (upd (upd (f) 2 (said l 0)) 3 true) 258 (said l 1)) 259 true) 514 (said l 2)) 515 true) 770 (said l 3)) 771 true) ∧ Wrote b w wr)
set_option maxRecDepth 100000 in
set_option maxHeartbeats 1000000 in
theorem put_a (b : Nat) (f : Nat → Bool) (l : Nat) (hl : l < 256) (w : World) (h : ShF w b true 1 f) (hU : Up w) :
    Calls Tryd.prog 25 #[.pointer (some ⟨b, 0, none⟩), .int .i64 0, .bool false, .int .u8 l] w fun e w' => e = .returned (.tuple #[]) ∧ Hid (ShF w' b true 1 (upd (upd (upd (upd (upd (upd (upd (upd (f) 2 (said l 0)) 3 true) 258 (said l 1)) 259 true) 514 (said l 2)) 515 true) 770 (said l 3)) 771 true)) ∧ Hid (Wrote b w w') := by
  have H := Lib.hid h
  have HU := Lib.hid hU
  clear h hU
  have HP := Lib.hid (fun W => place_any false 0 rfl W)
  go_enter Tryd.func25, Tryd.ntmps25
  go_wp2_with fail
  refine (sis0 b f _ H.out).mono ?_
  rintro e w' ⟨rfl, rfl⟩
  go_wp2_with fail
  refine (says_any l _ hl HU.out).mono ?_
  rintro e w1 ⟨rfl, hb1⟩
  have H1 := Lib.hid (H.out.kept hb1)
  have HW1 : Hid (Wrote b w w1) := Lib.hid (Wrote.of_below hb1)
  clear hb1 H HU
  go_wp2_with fail
  go_loopw [16] (fun i wr => PRela w b l f i wr) (fun i _ => 4 - (intOf i).toNat)
  case atStart => exact .inl ⟨rfl, H1.out, HW1.out⟩
  case round =>
    clear H1 HW1
    rcases hrel with ⟨rfl, hs, hw⟩ | ⟨rfl, hs, hw⟩ | ⟨rfl, hs, hw⟩ | ⟨rfl, hs, hw⟩ | ⟨rfl, hs, hw⟩
    · have z0 := hs.more 2 (by omega) (by omega)
      have z1 := hs.more 3 (by omega) (by omega)
      have z2 := hs.free 2
      have z3 := hs.free 3
      have HS := Lib.hid hs
      have HW := Lib.hid hw
      clear hs hw
      have ij := fun W => idx0 (said l 0) (said l 1) (said l 2) (said l 3) W
      go_wp2_with fail
      clear ij
      go_region_with (first | (go_at_call 74; refine (HP.out _).mono ?_; rintro e w' ⟨rfl, rfl⟩))
      all_goals
        go_wp2_with fail
        go_roundw
        case rel => first | exact .inr (.inl ⟨rfl, ((HS.out.set 2 (by omega) (by omega) _).set 3 (by omega) (by omega) true).drew, ((HW.out.set (p := ⟨b, 2, none⟩) (.inl rfl) _).set (p := ⟨b, 3, none⟩) (.inl rfl) _).drew⟩) | exact .inr (.inl ⟨rfl, ((HS.out.set 2 (by omega) (by omega) _).set 3 (by omega) (by omega) true), ((HW.out.set (p := ⟨b, 2, none⟩) (.inl rfl) _).set (p := ⟨b, 3, none⟩) (.inl rfl) _)⟩)
        case measure => simp [intOf]
    · have z0 := hs.more 258 (by omega) (by omega)
      have z1 := hs.more 259 (by omega) (by omega)
      have z2 := hs.free 258
      have z3 := hs.free 259
      have HS := Lib.hid hs
      have HW := Lib.hid hw
      clear hs hw
      have ij := fun W => idx1 (said l 0) (said l 1) (said l 2) (said l 3) W
      go_wp2_with fail
      clear ij
      go_region_with (first | (go_at_call 74; refine (HP.out _).mono ?_; rintro e w' ⟨rfl, rfl⟩))
      all_goals
        go_wp2_with fail
        go_roundw
        case rel => first | exact .inr (.inr (.inl ⟨rfl, ((HS.out.set 258 (by omega) (by omega) _).set 259 (by omega) (by omega) true).drew, ((HW.out.set (p := ⟨b, 258, none⟩) (.inl rfl) _).set (p := ⟨b, 259, none⟩) (.inl rfl) _).drew⟩)) | exact .inr (.inr (.inl ⟨rfl, ((HS.out.set 258 (by omega) (by omega) _).set 259 (by omega) (by omega) true), ((HW.out.set (p := ⟨b, 258, none⟩) (.inl rfl) _).set (p := ⟨b, 259, none⟩) (.inl rfl) _)⟩))
        case measure => simp [intOf]
    · have z0 := hs.more 514 (by omega) (by omega)
      have z1 := hs.more 515 (by omega) (by omega)
      have z2 := hs.free 514
      have z3 := hs.free 515
      have HS := Lib.hid hs
      have HW := Lib.hid hw
      clear hs hw
      have ij := fun W => idx2 (said l 0) (said l 1) (said l 2) (said l 3) W
      go_wp2_with fail
      clear ij
      go_region_with (first | (go_at_call 74; refine (HP.out _).mono ?_; rintro e w' ⟨rfl, rfl⟩))
      all_goals
        go_wp2_with fail
        go_roundw
        case rel => first | exact .inr (.inr (.inr (.inl ⟨rfl, ((HS.out.set 514 (by omega) (by omega) _).set 515 (by omega) (by omega) true).drew, ((HW.out.set (p := ⟨b, 514, none⟩) (.inl rfl) _).set (p := ⟨b, 515, none⟩) (.inl rfl) _).drew⟩))) | exact .inr (.inr (.inr (.inl ⟨rfl, ((HS.out.set 514 (by omega) (by omega) _).set 515 (by omega) (by omega) true), ((HW.out.set (p := ⟨b, 514, none⟩) (.inl rfl) _).set (p := ⟨b, 515, none⟩) (.inl rfl) _)⟩)))
        case measure => simp [intOf]
    · have z0 := hs.more 770 (by omega) (by omega)
      have z1 := hs.more 771 (by omega) (by omega)
      have z2 := hs.free 770
      have z3 := hs.free 771
      have HS := Lib.hid hs
      have HW := Lib.hid hw
      clear hs hw
      have ij := fun W => idx3 (said l 0) (said l 1) (said l 2) (said l 3) W
      go_wp2_with fail
      clear ij
      go_region_with (first | (go_at_call 74; refine (HP.out _).mono ?_; rintro e w' ⟨rfl, rfl⟩))
      all_goals
        go_wp2_with fail
        go_roundw
        case rel => first | exact .inr (.inr (.inr (.inr ⟨rfl, ((HS.out.set 770 (by omega) (by omega) _).set 771 (by omega) (by omega) true).drew, ((HW.out.set (p := ⟨b, 770, none⟩) (.inl rfl) _).set (p := ⟨b, 771, none⟩) (.inl rfl) _).drew⟩))) | exact .inr (.inr (.inr (.inr ⟨rfl, ((HS.out.set 770 (by omega) (by omega) _).set 771 (by omega) (by omega) true), ((HW.out.set (p := ⟨b, 770, none⟩) (.inl rfl) _).set (p := ⟨b, 771, none⟩) (.inl rfl) _)⟩)))
        case measure => simp [intOf]
    · have HS := Lib.hid hs
      have HW := Lib.hid hw
      clear hs hw
      go_wp2_with fail
      go_end0
      exact ⟨rfl, HS, HW⟩
def PRelb (w : World) (b l : Nat) (f : Nat → Bool) (i : Value) (wr : World) : Prop := (i = .int .i64 0 ∧ ShF wr b true 1 f ∧ Wrote b w wr) ∨ (i = .int .i64 1 ∧ ShF wr b true 1 (upd (upd (f) 4 (said l 0)) 5 true) ∧ Wrote b w wr) ∨ (i = .int .i64 2 ∧ ShF wr b true 1 (upd (upd (upd (upd (f) 4 (said l 0)) 5 true) 260 (said l 1)) 261 true) ∧ Wrote b w wr) ∨ (i = .int .i64 3 ∧ ShF wr b true 1 (upd (upd (upd (upd (upd (upd (f) 4 (said l 0)) 5 true) 260 (said l 1)) 261 true) 516 (said l 2)) 517 true) ∧ Wrote b w wr) ∨ (i = .int .i64 4 ∧ ShF wr b true 1 (upd (upd (upd (upd (upd (upd (upd (upd (f) 4 (said l 0)) 5 true) 260 (said l 1)) 261 true) 516 (said l 2)) 517 true) 772 (said l 3)) 773 true) ∧ Wrote b w wr)
set_option maxRecDepth 100000 in
set_option maxHeartbeats 1000000 in
theorem put_b (b : Nat) (f : Nat → Bool) (l : Nat) (hl : l < 256) (w : World) (h : ShF w b true 1 f) (hU : Up w) :
    Calls Tryd.prog 25 #[.pointer (some ⟨b, 0, none⟩), .int .i64 0, .bool true, .int .u8 l] w fun e w' => e = .returned (.tuple #[]) ∧ Hid (ShF w' b true 1 (upd (upd (upd (upd (upd (upd (upd (upd (f) 4 (said l 0)) 5 true) 260 (said l 1)) 261 true) 516 (said l 2)) 517 true) 772 (said l 3)) 773 true)) ∧ Hid (Wrote b w w') := by
  have H := Lib.hid h
  have HU := Lib.hid hU
  clear h hU
  have HP := Lib.hid (fun W => place_any true 1 rfl W)
  go_enter Tryd.func25, Tryd.ntmps25
  go_wp2_with fail
  refine (sis0 b f _ H.out).mono ?_
  rintro e w' ⟨rfl, rfl⟩
  go_wp2_with fail
  refine (says_any l _ hl HU.out).mono ?_
  rintro e w1 ⟨rfl, hb1⟩
  have H1 := Lib.hid (H.out.kept hb1)
  have HW1 : Hid (Wrote b w w1) := Lib.hid (Wrote.of_below hb1)
  clear hb1 H HU
  go_wp2_with fail
  go_loopw [16] (fun i wr => PRelb w b l f i wr) (fun i _ => 4 - (intOf i).toNat)
  case atStart => exact .inl ⟨rfl, H1.out, HW1.out⟩
  case round =>
    clear H1 HW1
    rcases hrel with ⟨rfl, hs, hw⟩ | ⟨rfl, hs, hw⟩ | ⟨rfl, hs, hw⟩ | ⟨rfl, hs, hw⟩ | ⟨rfl, hs, hw⟩
    · have z0 := hs.more 4 (by omega) (by omega)
      have z1 := hs.more 5 (by omega) (by omega)
      have z2 := hs.free 4
      have z3 := hs.free 5
      have HS := Lib.hid hs
      have HW := Lib.hid hw
      clear hs hw
      have ij := fun W => idx0 (said l 0) (said l 1) (said l 2) (said l 3) W
      go_wp2_with fail
      clear ij
      go_region_with (first | (go_at_call 74; refine (HP.out _).mono ?_; rintro e w' ⟨rfl, rfl⟩))
      all_goals
        go_wp2_with fail
        go_roundw
        case rel => first | exact .inr (.inl ⟨rfl, ((HS.out.set 4 (by omega) (by omega) _).set 5 (by omega) (by omega) true).drew, ((HW.out.set (p := ⟨b, 4, none⟩) (.inl rfl) _).set (p := ⟨b, 5, none⟩) (.inl rfl) _).drew⟩) | exact .inr (.inl ⟨rfl, ((HS.out.set 4 (by omega) (by omega) _).set 5 (by omega) (by omega) true), ((HW.out.set (p := ⟨b, 4, none⟩) (.inl rfl) _).set (p := ⟨b, 5, none⟩) (.inl rfl) _)⟩)
        case measure => simp [intOf]
    · have z0 := hs.more 260 (by omega) (by omega)
      have z1 := hs.more 261 (by omega) (by omega)
      have z2 := hs.free 260
      have z3 := hs.free 261
      have HS := Lib.hid hs
      have HW := Lib.hid hw
      clear hs hw
      have ij := fun W => idx1 (said l 0) (said l 1) (said l 2) (said l 3) W
      go_wp2_with fail
      clear ij
      go_region_with (first | (go_at_call 74; refine (HP.out _).mono ?_; rintro e w' ⟨rfl, rfl⟩))
      all_goals
        go_wp2_with fail
        go_roundw
        case rel => first | exact .inr (.inr (.inl ⟨rfl, ((HS.out.set 260 (by omega) (by omega) _).set 261 (by omega) (by omega) true).drew, ((HW.out.set (p := ⟨b, 260, none⟩) (.inl rfl) _).set (p := ⟨b, 261, none⟩) (.inl rfl) _).drew⟩)) | exact .inr (.inr (.inl ⟨rfl, ((HS.out.set 260 (by omega) (by omega) _).set 261 (by omega) (by omega) true), ((HW.out.set (p := ⟨b, 260, none⟩) (.inl rfl) _).set (p := ⟨b, 261, none⟩) (.inl rfl) _)⟩))
        case measure => simp [intOf]
    · have z0 := hs.more 516 (by omega) (by omega)
      have z1 := hs.more 517 (by omega) (by omega)
      have z2 := hs.free 516
      have z3 := hs.free 517
      have HS := Lib.hid hs
      have HW := Lib.hid hw
      clear hs hw
      have ij := fun W => idx2 (said l 0) (said l 1) (said l 2) (said l 3) W
      go_wp2_with fail
      clear ij
      go_region_with (first | (go_at_call 74; refine (HP.out _).mono ?_; rintro e w' ⟨rfl, rfl⟩))
      all_goals
        go_wp2_with fail
        go_roundw
        case rel => first | exact .inr (.inr (.inr (.inl ⟨rfl, ((HS.out.set 516 (by omega) (by omega) _).set 517 (by omega) (by omega) true).drew, ((HW.out.set (p := ⟨b, 516, none⟩) (.inl rfl) _).set (p := ⟨b, 517, none⟩) (.inl rfl) _).drew⟩))) | exact .inr (.inr (.inr (.inl ⟨rfl, ((HS.out.set 516 (by omega) (by omega) _).set 517 (by omega) (by omega) true), ((HW.out.set (p := ⟨b, 516, none⟩) (.inl rfl) _).set (p := ⟨b, 517, none⟩) (.inl rfl) _)⟩)))
        case measure => simp [intOf]
    · have z0 := hs.more 772 (by omega) (by omega)
      have z1 := hs.more 773 (by omega) (by omega)
      have z2 := hs.free 772
      have z3 := hs.free 773
      have HS := Lib.hid hs
      have HW := Lib.hid hw
      clear hs hw
      have ij := fun W => idx3 (said l 0) (said l 1) (said l 2) (said l 3) W
      go_wp2_with fail
      clear ij
      go_region_with (first | (go_at_call 74; refine (HP.out _).mono ?_; rintro e w' ⟨rfl, rfl⟩))
      all_goals
        go_wp2_with fail
        go_roundw
        case rel => first | exact .inr (.inr (.inr (.inr ⟨rfl, ((HS.out.set 772 (by omega) (by omega) _).set 773 (by omega) (by omega) true).drew, ((HW.out.set (p := ⟨b, 772, none⟩) (.inl rfl) _).set (p := ⟨b, 773, none⟩) (.inl rfl) _).drew⟩))) | exact .inr (.inr (.inr (.inr ⟨rfl, ((HS.out.set 772 (by omega) (by omega) _).set 773 (by omega) (by omega) true), ((HW.out.set (p := ⟨b, 772, none⟩) (.inl rfl) _).set (p := ⟨b, 773, none⟩) (.inl rfl) _)⟩)))
        case measure => simp [intOf]
    · have HS := Lib.hid hs
      have HW := Lib.hid hw
      clear hs hw
      go_wp2_with fail
      go_end0
      exact ⟨rfl, HS, HW⟩
end Go.Proofs.YtnbcegijncdmaaaDoor.Ly15
