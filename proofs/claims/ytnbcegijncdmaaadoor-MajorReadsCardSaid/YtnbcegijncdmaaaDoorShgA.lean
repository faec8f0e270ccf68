/- The contracts of package shift on a shift of any size: New, Bits, is, Put, Line; no condition. -/
import Derived.Test.YtnbcegijncdmaaaDoorShfB
import Derived.RegionTactic
import Derived.IntWalk
namespace Go.Proofs.YtnbcegijncdmaaaDoor.Ly15
open Go.ChangeShapes Go.WideShapes Go.ChangeAt Go.RowKit Base Ly3
set_option linter.unusedVariables false
set_option linter.unusedSimpArgs false

set_option maxRecDepth 100000 in
theorem snew_gen (md : Int) (n : Nat) (hn : (n : Int) = min (max md 0) 8) (w : World) : Calls Tryd.prog 24 #[.int .i64 md] w fun e w' => e = .returned (.pointer (some ⟨w.heap.size, 0, none⟩)) ∧ Hid (ShF w' w.heap.size true n (fun _ => false)) ∧ Hid (Below w.heap.size w w') := by
  rcases (show md < 0 ∨ (0 ≤ md ∧ md ≤ 8) ∨ 8 < md by omega) with h | ⟨h, h2⟩ | h
  · obtain rfl : n = 0 := by omega
    clear hn
    go_enter Tryd.func24, Tryd.ntmps24
    go_upto_region 1 with (fail)
    refine wp_region_lit ?_
    repeat (first | refine wpList_build rfl 109 #[(0, .const (.bool true)), (1, .tmp 5)] rfl ?hb ?_ | go_step)
    case hb => kernel_rfl
    try simp only [if_pos h]
    generalize hcs : Option.getD _ _ = cs
    have HC : Hid (cs.toList = .bool true :: .int .i64 0 :: List.replicate 1024 (.bool false)) := Lib.hid (by rw [← hcs]; kernel_rfl)
    clear hcs
    go_wp2
    go_ret
    exact ⟨rfl, ShF.of_list (Obj1.new _ _ _) HC.out, (Below.refl _ _).alloc (Nat.le_refl _) _⟩
  · obtain rfl : md = (n : Int) := by omega
    clear hn
    go_enter Tryd.func24, Tryd.ntmps24
    go_upto_region 1 with (fail)
    refine wp_region_lit ?_
    repeat (first | refine wpList_build rfl 109 #[(0, .const (.bool true)), (1, .tmp 5)] rfl ?hb ?_ | go_step)
    case hb => kernel_rfl
    generalize hcs : Option.getD _ _ = cs
    have HC : Hid (cs.toList = .bool true :: .int .i64 n :: List.replicate 1024 (.bool false)) := Lib.hid (by rw [← hcs]; kernel_rfl)
    clear hcs
    go_wp2
    go_ret
    exact ⟨rfl, ShF.of_list (Obj1.new _ _ _) HC.out, (Below.refl _ _).alloc (Nat.le_refl _) _⟩
  · obtain rfl : n = 8 := by omega
    clear hn
    go_enter Tryd.func24, Tryd.ntmps24
    go_upto_region 1 with (fail)
    refine wp_region_lit ?_
    repeat (first | refine wpList_build rfl 109 #[(0, .const (.bool true)), (1, .tmp 5)] rfl ?hb ?_ | go_step)
    case hb => kernel_rfl
    try simp only [if_neg (show ¬ md < 0 by omega), if_pos h]
    generalize hcs : Option.getD _ _ = cs
    have HC : Hid (cs.toList = .bool true :: .int .i64 8 :: List.replicate 1024 (.bool false)) := Lib.hid (by rw [← hcs]; kernel_rfl)
    clear hcs
    go_wp2
    go_ret
    exact ⟨rfl, ShF.of_list (Obj1.new _ _ _) HC.out, (Below.refl _ _).alloc (Nat.le_refl _) _⟩
theorem long0 (n : Nat) (hn : n ≤ 8) (w : World) : Calls Tryd.prog 69 #[.int .i64 n] w fun e w' => e = .returned (.int .i64 ((n : Int) * 8)) ∧ w = w' := by
  have hw : IntKind.i64.wrap ((n : Int) * 8) = (n : Int) * 8 := IntWalk.i64_in _ (by omega)
  go_enter Tryd.func69, Tryd.ntmps69
  go_wp2
  go_ret
  exact ⟨rfl, rfl⟩
theorem long_nat (n : Nat) (hn : n ≤ 8) (w : World) : Calls Tryd.prog 69 #[.int .i64 n] w fun e w' => e = .returned (.int .i64 ((8 * n : Nat) : Int)) ∧ w = w' := by
  have := long0 n hn w
  rwa [show (n : Int) * 8 = ((8 * n : Nat) : Int) by omega] at this
theorem sbits_gen {b n : Nat} {f : Nat → Bool} {w : World} (h : ShF w b true n f) (hn : n ≤ 8) : Calls Tryd.prog 28 #[.pointer (some ⟨b, 0, none⟩)] w fun e w' => e = .returned (.int .i64 ((8 * n : Nat) : Int)) ∧ w = w' := by
  have c0 := h.at0
  have c1 := h.at1
  clear h
  go_enter Tryd.func28, Tryd.ntmps28
  go_wp2_with fail
  refine (long_nat n hn _).mono ?_
  rintro e w' ⟨rfl, rfl⟩
  go_wp2
  go_ret
  exact ⟨rfl, rfl⟩
theorem sis_in {b n m : Nat} {f : Nat → Bool} {w : World} (h : ShF w b true n f) (hn : n ≤ 8) (hm : m < 8 * n) : Calls Tryd.prog 73 #[.pointer (some ⟨b, 0, none⟩), .int .i64 m] w fun e w' => e = .returned (.bool true) ∧ w = w' := by
  have H := Lib.hid h
  obtain ⟨z, HZ⟩ : ∃ z, Hid (8 * n = z) := ⟨_, Lib.hid rfl⟩
  have HS := Lib.hid (sbits_gen h hn)
  rw [HZ.out] at HS hm
  have hmi : (m : Int) < (z : Int) := by omega
  clear h
  go_enter Tryd.func73, Tryd.ntmps73
  go_wp2_with fail
  refine HS.out.mono ?_
  rintro e w' ⟨rfl, rfl⟩
  go_wp2
  go_ret
  exact ⟨rfl, rfl⟩
theorem sis_out {b n : Nat} {m : Int} {f : Nat → Bool} {w : World} (h : ShF w b true n f) (hn : n ≤ 8) (hm : m < 0 ∨ (8 * n : Nat) ≤ m) : Calls Tryd.prog 73 #[.pointer (some ⟨b, 0, none⟩), .int .i64 m] w fun e w' => e = .returned (.bool false) ∧ w = w' := by
  obtain ⟨z, HZ⟩ : ∃ z, Hid (8 * n = z) := ⟨_, Lib.hid rfl⟩
  have HS := Lib.hid (sbits_gen h hn)
  rw [HZ.out] at HS hm
  clear h
  rcases (show m < 0 ∨ (0 ≤ m ∧ ¬ m < (z : Int)) by omega) with h | ⟨h, h1⟩
  · clear hm
    go_enter Tryd.func73, Tryd.ntmps73
    go_wp2
    go_ret
    exact ⟨rfl, rfl⟩
  · clear hm
    have h2 : decide (m < (z : Int)) = false := decide_eq_false h1
    go_enter Tryd.func73, Tryd.ntmps73
    go_wp2_with fail
    refine HS.out.mono ?_
    rintro e w' ⟨rfl, rfl⟩
    go_wp2
    go_ret
    exact ⟨rfl, rfl⟩
/-- After so many lines of a look. -/
def putK (f : Nat → Bool) (l m j : Nat) : Nat → Nat → Bool
  | 0 => f
  | k + 1 => upd (upd (putK f l m j k) (2 + 256 * k + 4 * m + 2 * j) (said l k)) (2 + 256 * k + 4 * m + 2 * j + 1) true
theorem putK_step {W : World} {b n l m j k o o' : Nat} {f : Nat → Bool} (hs : ShF W b true n (putK f l m j k)) (ho : o = 2 + 256 * k + 4 * m + 2 * j) (ho' : o' = o + 1) (hm : m < 64) (hj : j < 2) (hk : k < 4) : ShF ((W.setCell ⟨b, o, none⟩ (.bool (said l k))).setCell ⟨b, o', none⟩ (.bool true)) b true n (putK f l m j (k + 1)) := by
  subst ho
  subst ho'
  exact (hs.set _ (by omega) (by omega) _).set _ (by omega) (by omega) _
def PRelg (w : World) (b n l m j : Nat) (f : Nat → Bool) (i : Value) (wr : World) : Prop := ∃ k : Nat, k ≤ 4 ∧ i = .int .i64 k ∧ ShF wr b true n (putK f l m j k) ∧ Wrote b w wr
theorem sput_out {b n : Nat} {f : Nat → Bool} {w : World} (h : ShF w b true n f) (hn : n ≤ 8) (m : Int) (y : Bool) (l : Int) (hm : m < 0 ∨ (8 * n : Nat) ≤ m) : Calls Tryd.prog 25 #[.pointer (some ⟨b, 0, none⟩), .int .i64 m, .bool y, .int .u8 l] w fun e w' => e = .returned (.tuple #[]) ∧ w = w' := by
  have H := Lib.hid (sis_out h hn hm)
  clear h hm
  go_enter Tryd.func25, Tryd.ntmps25
  go_wp2_with fail
  refine H.out.mono ?_
  rintro e w' ⟨rfl, rfl⟩
  go_wp2
  refine bodyPost_ret (results_none rfl _ _ _) rfl ?_
  exact ⟨rfl, rfl⟩
set_option maxRecDepth 100000 in
set_option maxHeartbeats 2000000 in
theorem sput0 {b n m l : Nat} {f : Nat → Bool} {w : World} (h : ShF w b true n f) (hn : n ≤ 8) (hm : m < 8 * n) (hl : l < 256) (hU : Up w) :
    Calls Tryd.prog 25 #[.pointer (some ⟨b, 0, none⟩), .int .i64 m, .bool false, .int .u8 l] w fun e w' => e = .returned (.tuple #[]) ∧ Hid (ShF w' b true n (putK f l m 0 4)) ∧ Hid (Wrote b w w') := by
  have H := Lib.hid h
  have HU := Lib.hid hU
  have HI := Lib.hid (sis_in h hn hm)
  have hm64 : m < 64 := by omega
  have hmi : (m : Int) < 64 := by omega
  have HP := Lib.hid (fun W => place_any false 0 rfl W)
  clear h hU hm
  go_enter Tryd.func25, Tryd.ntmps25
  go_wp2_with fail
  refine HI.out.mono ?_
  rintro e w' ⟨rfl, rfl⟩
  go_wp2_with fail
  refine (says_any l _ hl HU.out).mono ?_
  rintro e w1 ⟨rfl, hb1⟩
  have HST : Hid (PRelg w b n l m 0 f (.int .i64 0) w1) := Lib.hid ⟨0, by omega, rfl, H.out.kept hb1, Wrote.of_below hb1⟩
  clear hb1 H HU HI
  go_wp2_with fail
  go_loopw [16] (fun i wr => PRelg w b n l m 0 f i wr) (fun i _ => 4 - (intOf i).toNat)
  case atStart => exact HST.out
  case round =>
    clear HST
    obtain ⟨k, hk, rfl, hs, hw⟩ := hrel
    have HS := Lib.hid hs
    have HW := Lib.hid hw
    clear hs hw
    rcases (show k = 0 ∨ k = 1 ∨ k = 2 ∨ k = 3 ∨ k = 4 by omega) with rfl | rfl | rfl | rfl | rfl
    · have z0 := HS.out.more (2 + m * 4) (by omega) (by omega)
      have z1 := HS.out.more (2 + m * 4 + 1) (by omega) (by omega)
      have z2 := HS.out.free (2 + m * 4)
      have z3 := HS.out.free (2 + m * 4 + 1)
      have ij := fun W => idx0 (said l 0) (said l 1) (said l 2) (said l 3) W
      go_wp2_with fail
      clear ij
      go_region_with (first | (go_at_call 74; refine (HP.out _).mono ?_; rintro e w' ⟨rfl, rfl⟩))
      all_goals
        go_wp2_with fail
        go_roundw
        case rel => first | exact ⟨1, by omega, rfl, putK_step HS.out (by omega) (by omega) hm64 (by omega) (by omega), (HW.out.set (.inl rfl) _).set (.inl rfl) _⟩ | exact ⟨1, by omega, rfl, (putK_step HS.out (by omega) (by omega) hm64 (by omega) (by omega)).drew, ((HW.out.set (.inl rfl) _).set (.inl rfl) _).drew⟩
        case measure => simp [intOf]
    · have z0 := HS.out.more (258 + m * 4) (by omega) (by omega)
      have z1 := HS.out.more (258 + m * 4 + 1) (by omega) (by omega)
      have z2 := HS.out.free (258 + m * 4)
      have z3 := HS.out.free (258 + m * 4 + 1)
      have ij := fun W => idx1 (said l 0) (said l 1) (said l 2) (said l 3) W
      go_wp2_with fail
      clear ij
      go_region_with (first | (go_at_call 74; refine (HP.out _).mono ?_; rintro e w' ⟨rfl, rfl⟩))
      all_goals
        go_wp2_with fail
        go_roundw
        case rel => first | exact ⟨2, by omega, rfl, putK_step HS.out (by omega) (by omega) hm64 (by omega) (by omega), (HW.out.set (.inl rfl) _).set (.inl rfl) _⟩ | exact ⟨2, by omega, rfl, (putK_step HS.out (by omega) (by omega) hm64 (by omega) (by omega)).drew, ((HW.out.set (.inl rfl) _).set (.inl rfl) _).drew⟩
        case measure => simp [intOf]
    · have z0 := HS.out.more (514 + m * 4) (by omega) (by omega)
      have z1 := HS.out.more (514 + m * 4 + 1) (by omega) (by omega)
      have z2 := HS.out.free (514 + m * 4)
      have z3 := HS.out.free (514 + m * 4 + 1)
      have ij := fun W => idx2 (said l 0) (said l 1) (said l 2) (said l 3) W
      go_wp2_with fail
      clear ij
      go_region_with (first | (go_at_call 74; refine (HP.out _).mono ?_; rintro e w' ⟨rfl, rfl⟩))
      all_goals
        go_wp2_with fail
        go_roundw
        case rel => first | exact ⟨3, by omega, rfl, putK_step HS.out (by omega) (by omega) hm64 (by omega) (by omega), (HW.out.set (.inl rfl) _).set (.inl rfl) _⟩ | exact ⟨3, by omega, rfl, (putK_step HS.out (by omega) (by omega) hm64 (by omega) (by omega)).drew, ((HW.out.set (.inl rfl) _).set (.inl rfl) _).drew⟩
        case measure => simp [intOf]
    · have z0 := HS.out.more (770 + m * 4) (by omega) (by omega)
      have z1 := HS.out.more (770 + m * 4 + 1) (by omega) (by omega)
      have z2 := HS.out.free (770 + m * 4)
      have z3 := HS.out.free (770 + m * 4 + 1)
      have ij := fun W => idx3 (said l 0) (said l 1) (said l 2) (said l 3) W
      go_wp2_with fail
      clear ij
      go_region_with (first | (go_at_call 74; refine (HP.out _).mono ?_; rintro e w' ⟨rfl, rfl⟩))
      all_goals
        go_wp2_with fail
        go_roundw
        case rel => first | exact ⟨4, by omega, rfl, putK_step HS.out (by omega) (by omega) hm64 (by omega) (by omega), (HW.out.set (.inl rfl) _).set (.inl rfl) _⟩ | exact ⟨4, by omega, rfl, (putK_step HS.out (by omega) (by omega) hm64 (by omega) (by omega)).drew, ((HW.out.set (.inl rfl) _).set (.inl rfl) _).drew⟩
        case measure => simp [intOf]
    · go_wp2
      go_end0
      exact ⟨rfl, HS, HW⟩
set_option maxRecDepth 100000 in
set_option maxHeartbeats 2000000 in
theorem sput1 {b n m l : Nat} {f : Nat → Bool} {w : World} (h : ShF w b true n f) (hn : n ≤ 8) (hm : m < 8 * n) (hl : l < 256) (hU : Up w) :
    Calls Tryd.prog 25 #[.pointer (some ⟨b, 0, none⟩), .int .i64 m, .bool true, .int .u8 l] w fun e w' => e = .returned (.tuple #[]) ∧ Hid (ShF w' b true n (putK f l m 1 4)) ∧ Hid (Wrote b w w') := by
  have H := Lib.hid h
  have HU := Lib.hid hU
  have HI := Lib.hid (sis_in h hn hm)
  have hm64 : m < 64 := by omega
  have hmi : (m : Int) < 64 := by omega
  have HP := Lib.hid (fun W => place_any true 1 rfl W)
  clear h hU hm
  go_enter Tryd.func25, Tryd.ntmps25
  go_wp2_with fail
  refine HI.out.mono ?_
  rintro e w' ⟨rfl, rfl⟩
  go_wp2_with fail
  refine (says_any l _ hl HU.out).mono ?_
  rintro e w1 ⟨rfl, hb1⟩
  have HST : Hid (PRelg w b n l m 1 f (.int .i64 0) w1) := Lib.hid ⟨0, by omega, rfl, H.out.kept hb1, Wrote.of_below hb1⟩
  clear hb1 H HU HI
  go_wp2_with fail
  go_loopw [16] (fun i wr => PRelg w b n l m 1 f i wr) (fun i _ => 4 - (intOf i).toNat)
  case atStart => exact HST.out
  case round =>
    clear HST
    obtain ⟨k, hk, rfl, hs, hw⟩ := hrel
    have HS := Lib.hid hs
    have HW := Lib.hid hw
    clear hs hw
    rcases (show k = 0 ∨ k = 1 ∨ k = 2 ∨ k = 3 ∨ k = 4 by omega) with rfl | rfl | rfl | rfl | rfl
    · have z0 := HS.out.more (2 + m * 4 + 2) (by omega) (by omega)
      have z1 := HS.out.more (2 + m * 4 + 2 + 1) (by omega) (by omega)
      have z2 := HS.out.free (2 + m * 4 + 2)
      have z3 := HS.out.free (2 + m * 4 + 2 + 1)
      have ij := fun W => idx0 (said l 0) (said l 1) (said l 2) (said l 3) W
      go_wp2_with fail
      clear ij
      go_region_with (first | (go_at_call 74; refine (HP.out _).mono ?_; rintro e w' ⟨rfl, rfl⟩))
      all_goals
        go_wp2_with fail
        go_roundw
        case rel => first | exact ⟨1, by omega, rfl, putK_step HS.out (by omega) (by omega) hm64 (by omega) (by omega), (HW.out.set (.inl rfl) _).set (.inl rfl) _⟩ | exact ⟨1, by omega, rfl, (putK_step HS.out (by omega) (by omega) hm64 (by omega) (by omega)).drew, ((HW.out.set (.inl rfl) _).set (.inl rfl) _).drew⟩
        case measure => simp [intOf]
    · have z0 := HS.out.more (258 + m * 4 + 2) (by omega) (by omega)
      have z1 := HS.out.more (258 + m * 4 + 2 + 1) (by omega) (by omega)
      have z2 := HS.out.free (258 + m * 4 + 2)
      have z3 := HS.out.free (258 + m * 4 + 2 + 1)
      have ij := fun W => idx1 (said l 0) (said l 1) (said l 2) (said l 3) W
      go_wp2_with fail
      clear ij
      go_region_with (first | (go_at_call 74; refine (HP.out _).mono ?_; rintro e w' ⟨rfl, rfl⟩))
      all_goals
        go_wp2_with fail
        go_roundw
        case rel => first | exact ⟨2, by omega, rfl, putK_step HS.out (by omega) (by omega) hm64 (by omega) (by omega), (HW.out.set (.inl rfl) _).set (.inl rfl) _⟩ | exact ⟨2, by omega, rfl, (putK_step HS.out (by omega) (by omega) hm64 (by omega) (by omega)).drew, ((HW.out.set (.inl rfl) _).set (.inl rfl) _).drew⟩
        case measure => simp [intOf]
    · have z0 := HS.out.more (514 + m * 4 + 2) (by omega) (by omega)
      have z1 := HS.out.more (514 + m * 4 + 2 + 1) (by omega) (by omega)
      have z2 := HS.out.free (514 + m * 4 + 2)
      have z3 := HS.out.free (514 + m * 4 + 2 + 1)
      have ij := fun W => idx2 (said l 0) (said l 1) (said l 2) (said l 3) W
      go_wp2_with fail
      clear ij
      go_region_with (first | (go_at_call 74; refine (HP.out _).mono ?_; rintro e w' ⟨rfl, rfl⟩))
      all_goals
        go_wp2_with fail
        go_roundw
        case rel => first | exact ⟨3, by omega, rfl, putK_step HS.out (by omega) (by omega) hm64 (by omega) (by omega), (HW.out.set (.inl rfl) _).set (.inl rfl) _⟩ | exact ⟨3, by omega, rfl, (putK_step HS.out (by omega) (by omega) hm64 (by omega) (by omega)).drew, ((HW.out.set (.inl rfl) _).set (.inl rfl) _).drew⟩
        case measure => simp [intOf]
    · have z0 := HS.out.more (770 + m * 4 + 2) (by omega) (by omega)
      have z1 := HS.out.more (770 + m * 4 + 2 + 1) (by omega) (by omega)
      have z2 := HS.out.free (770 + m * 4 + 2)
      have z3 := HS.out.free (770 + m * 4 + 2 + 1)
      have ij := fun W => idx3 (said l 0) (said l 1) (said l 2) (said l 3) W
      go_wp2_with fail
      clear ij
      go_region_with (first | (go_at_call 74; refine (HP.out _).mono ?_; rintro e w' ⟨rfl, rfl⟩))
      all_goals
        go_wp2_with fail
        go_roundw
        case rel => first | exact ⟨4, by omega, rfl, putK_step HS.out (by omega) (by omega) hm64 (by omega) (by omega), (HW.out.set (.inl rfl) _).set (.inl rfl) _⟩ | exact ⟨4, by omega, rfl, (putK_step HS.out (by omega) (by omega) hm64 (by omega) (by omega)).drew, ((HW.out.set (.inl rfl) _).set (.inl rfl) _).drew⟩
        case measure => simp [intOf]
    · go_wp2
      go_end0
      exact ⟨rfl, HS, HW⟩
/-- What a line said of a bit. -/
def lineF (f : Nat → Bool) (k m : Nat) : Bool × Bool :=
  if f (2 + 256 * k + 4 * m + 1) = true ∧ f (2 + 256 * k + 4 * m + 3) = true then (f (2 + 256 * k + 4 * m) && !f (2 + 256 * k + 4 * m + 2), f (2 + 256 * k + 4 * m) != f (2 + 256 * k + 4 * m + 2)) else (false, false)
theorem line_out {b n : Nat} {f : Nat → Bool} {w : World} (h : ShF w b true n f) (hn : n ≤ 8) (k m : Int) (hm : (m < 0 ∨ (8 * n : Nat) ≤ m) ∨ (0 ≤ m ∧ m < (8 * n : Nat) ∧ (k < 0 ∨ 4 ≤ k))) : Calls Tryd.prog 29 #[.pointer (some ⟨b, 0, none⟩), .int .i64 k, .int .i64 m] w fun e w' => e = .returned (.tuple #[.bool false, .bool false]) ∧ w = w' := by
  rcases hm with hm | ⟨h0, h1, hk⟩
  · have H := Lib.hid (sis_out h hn hm)
    clear h hm
    go_enter Tryd.func29, Tryd.ntmps29
    go_wp2_with fail
    refine H.out.mono ?_
    rintro e w' ⟨rfl, rfl⟩
    go_wp2
    go_ret2
    exact ⟨rfl, rfl⟩
  · obtain ⟨m, rfl⟩ : ∃ j : Nat, m = (j : Int) := ⟨m.toNat, by omega⟩
    have H := Lib.hid (sis_in (m := m) h hn (by omega))
    clear h h0 h1
    rcases (show k < 0 ∨ (0 ≤ k ∧ 4 ≤ k) by omega) with h | ⟨h, h1⟩
    all_goals
      clear hk
      go_enter Tryd.func29, Tryd.ntmps29
      go_wp2_with fail
      refine H.out.mono ?_
      rintro e w' ⟨rfl, rfl⟩
      go_wp2
      go_ret2
      exact ⟨rfl, rfl⟩
set_option maxRecDepth 100000 in
set_option maxHeartbeats 2000000 in
theorem line_in {b n k m : Nat} {f : Nat → Bool} {w : World} (h : ShF w b true n f) (hn : n ≤ 8) (hk : k < 4) (hm : m < 8 * n) : Calls Tryd.prog 29 #[.pointer (some ⟨b, 0, none⟩), .int .i64 k, .int .i64 m] w fun e w' => e = .returned (.tuple #[.bool (lineF f k m).1, .bool (lineF f k m).2]) ∧ Below w.heap.size w w' := by
  have H := Lib.hid (sis_in h hn hm)
  have hlt := h.lt
  have hm64 : (m : Int) < 64 := by omega
  have hki : (k : Int) < 4 := by omega
  have hr : lineF f k m = lineF f k m := rfl
  have k0 := h.more (2 + k * 256 + m * 4) (by omega) (by omega)
  have k1 := h.more (2 + k * 256 + m * 4 + 1) (by omega) (by omega)
  have k2 := h.more (2 + k * 256 + m * 4 + 2) (by omega) (by omega)
  have k3 := h.more (2 + k * 256 + m * 4 + 3) (by omega) (by omega)
  rw [show 2 + k * 256 + m * 4 = 2 + 256 * k + 4 * m by omega] at k0 k1 k2 k3
  unfold lineF at hr ⊢
  clear hr
  generalize f (2 + 256 * k + 4 * m) = a0 at k0 ⊢
  generalize f (2 + 256 * k + 4 * m + 1) = x0 at k1 ⊢
  generalize f (2 + 256 * k + 4 * m + 2) = a1 at k2 ⊢
  generalize f (2 + 256 * k + 4 * m + 3) = x1 at k3 ⊢
  rw [show 2 + 256 * k + 4 * m = 2 + k * 256 + m * 4 by omega] at k0 k1 k2 k3
  clear h hm hk
  cases x0 <;> cases x1
  all_goals
    go_enter Tryd.func29, Tryd.ntmps29
    go_wp2_with (first | (go_at_call 73; refine H.out.mono ?_; rintro e w' ⟨rfl, rfl⟩) | (go_at_call 76; refine (of_any _ _ _).mono ?_; rintro e w' ⟨rfl, rfl⟩))
    go_ret2
    refine ⟨rfl, ?_⟩
    repeat (first | exact Below.refl _ _ | refine Below.setCell ?_ (by first | omega | (simp; done) | (simp; omega)) _ | refine Below.alloc ?_ (by first | omega | (simp; done) | (simp; omega)) _ | refine below_drewN' ?_ _ | refine Below.drew ?_)
end Go.Proofs.YtnbcegijncdmaaaDoor.Ly15
