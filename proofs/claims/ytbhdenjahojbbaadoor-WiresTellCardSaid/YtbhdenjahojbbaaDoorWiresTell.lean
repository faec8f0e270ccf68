/- Any lines are as high, as many, and say of a level, as the document tells, and so is any one with a line that stands otherwise: for every input; no condition but that the table of the lines is as the program's text lays it, which the card ties. -/
import Derived.Test.YtbhdenjahojbbaaDoorWirD
import Derived.Test.YtbhdenjahojbbaaDoorSh
import Derived.Test.YtbhdenjahojbbaaDoorTie
import Derived.Test.YtbhdenjahojbbaaDoorCards
import Derived.Test.YtbhdenjahojbbaaDoorLaid
import Derived.LaidMore
import Derived.SevenTiedAt
import Derived.Stop.Joined
import Derived.Test.YtbhdenjahojbbaaDoorRows
import Derived.WalkKit
import Derived.ProofKit
import Derived.OpenShut
import Derived.ShutString
import Derived.ChangeOld
import Derived.Below
namespace Go.Proofs.YtbhdenjahojbbaaDoor.lawWiresTell
open Go.ChangeShapes Go.WideShapes Go.ChangeAt Go.RowKit Base
open Go.ChangeMaps (open_string shut_string)
set_option linter.unusedVariables false
set_option linter.unusedSimpArgs false
theorem own : ownKnob Tryd.prog.godebug = none := by kernel_rfl
theorem laidOut : laidOutB Tryd.prog = true := by kernel_rfl
open Ly3

theorem gUp : Tryd.prog.globalNamed "busbar/wires.upright" = some 0 := by kernel_rfl
theorem tUp : (Tryd.prog.globals[0]?).map (·.type) = some 23 := by kernel_rfl
theorem of_laid {W : World} (h : laidMetH Tryd.prog Rows.wiresTellRow.laid W) : Up W := by
  rw [MakeChecks.laidMetH_plain _ _ _ (by kernel_rfl)] at h
  obtain ⟨ps, ⟨g0, t0, cs0, f0, p0, q0, hg0, ht0, hv0, hd0, _, _⟩, _, _⟩ := h
  obtain rfl := Option.some.inj (gUp.symm.trans hg0)
  obtain rfl := Option.some.inj (tUp.symm.trans ht0)
  have e := exact_cells (sh := .ar 4 .bool) 10 rfl (by kernel_rfl) hd0 rfl
  obtain ⟨l0⟩ := cs0
  simp at e
  subst e
  exact ⟨by simpa using World.var?_cell hg0 hv0 0, by simpa using World.var?_cell hg0 hv0 1, by simpa using World.var?_cell hg0 hv0 2, by simpa using World.var?_cell hg0 hv0 3⟩

def IRel (W : World) (i : Value) (wr : World) : Prop := ∃ (k : Nat) (x : Kin W), k ≤ 4 ∧ i = .int .i64 k ∧ wr = x.world
def JRel (i : Value) : Prop := ∃ k : Nat, k ≤ 4 ∧ i = .int .i64 k
theorem box4 {w : World} {a b c d : Value} {t : TypeId} (x : Kin (w.alloc (.cells #[a, b, c, d] t))) :
    x.world.cell? ⟨w.heap.size, 0, none⟩ = some a ∧ x.world.cell? ⟨w.heap.size, 1, none⟩ = some b ∧ x.world.cell? ⟨w.heap.size, 2, none⟩ = some c ∧ x.world.cell? ⟨w.heap.size, 3, none⟩ = some d :=
  ⟨Kin.box (Below.refl _ _) x 0, Kin.box (Below.refl _ _) x 1, Kin.box (Below.refl _ _) x 2, Kin.box (Below.refl _ _) x 3⟩

set_option maxRecDepth 100000 in
set_option maxHeartbeats 2000000 in
theorem walk0 (l : Nat) (ln : Int) (h : Bool) (w : World) (hU : Up w) (hl : l < 256) :
    Calls Tryd.prog 3 #[.int .u8 l, .int .i64 ln, .bool h] w fun e w' => e = .returned (.bool true) ∧ Below w.heap.size w w' := by
  have l0 : (0 : Int) ≤ (l : Int) := by omega
  have l1 : (l : Int) ≤ 255 := by omega
  obtain ⟨T, HT⟩ : ∃ T, Hid (setF l ln h = T) := ⟨_, Lib.hid rfl⟩
  have hT : T < 256 := by rw [← HT.out]; exact setF_lt hl
  have HTk : Hid (∀ k : Nat, k < 4 → hb T k = if (k : Int) = ln then h else hb l k) := Lib.hid (fun k hk => by rw [← HT.out]; exact hb_set l ln h k hl hk)
  have HTl : Hid (¬ (0 ≤ ln ∧ ln ≤ 3) → T = l) := Lib.hid (fun hn => by rw [← HT.out]; unfold setF; rw [if_neg hn])
  have CS := Lib.hid (fun W => set_any l ln h W hl)
  rw [HT.out] at CS
  have HU := Lib.hid hU
  clear hU
  go_enter Tryd.func3, Tryd.ntmps3
  go_wp2_with fail
  refine (says_any l w hl HU.out).mono ?_
  rintro e w1 ⟨rfl, hb1⟩
  have HB1 := Lib.hid hb1
  clear hb1
  have KB := Lib.hid (fun x => box4 (w := w1) (a := .bool (said l 0)) (b := .bool (said l 1)) (c := .bool (said l 2)) (d := .bool (said l 3)) (t := 23) x)
  have hS : ∀ k, Hid (said l k = (hb l k == (k == 0 || k == 3))) := fun k => Lib.hid rfl
  generalize hs0 : said l 0 = s0 at *
  generalize hs1 : said l 1 = s1 at *
  generalize hs2 : said l 2 = s2 at *
  generalize hs3 : said l 3 = s3 at *
  have HS0 := Lib.hid hs0
  have HS1 := Lib.hid hs1
  have HS2 := Lib.hid hs2
  have HS3 := Lib.hid hs3
  clear hs0 hs1 hs2 hs3
  go_wp2_with fail
  go_loopw [9, 10] (fun i _ wr => IRel (w1.alloc (.cells #[.bool s0, .bool s1, .bool s2, .bool s3] 23)) i wr) (fun i _ _ => 4 - (intOf i).toNat)
  case atStart => exact ⟨0, Kin.me _, by omega, rfl, rfl⟩
  case round =>
    obtain ⟨k, x, hk, rfl, rfl⟩ := hrel
    have kb := KB.out
    rcases (show k = 0 ∨ k = 1 ∨ k = 2 ∨ k = 3 ∨ k = 4 by omega) with rfl | rfl | rfl | rfl | rfl
    · obtain ⟨u, HQ⟩ : ∃ u, Hid (hb l 0 = u) := ⟨_, Lib.hid rfl⟩
      have A1 := Lib.hid (fun W => high_c l 0 u HQ.out W hl (by omega))
      have A2 := Lib.hid (fun W => rhigh_c l 0 u HQ.out W hl (by omega))
      cases u
      · have es : s0 = false := by rw [← HS0.out, (hS 0).out, HQ.out]; rfl
        have kb' : ∀ z : Kin (w1.alloc (.cells #[.bool s0, .bool s1, .bool s2, .bool s3] 23)), z.world.cell? ⟨w1.heap.size, 0, none⟩ = some (.bool false) := fun z => (kb z).1.trans (by rw [es])
        clear kb es
        go_wp2_with fail
        refine wp_region_kin2 (by kernel_rfl) (by kernel_rfl) ?_
        repeat (go_big_quiet_step (first | (go_at_call 9; exact Calls.kin_same _ (A1.out _)) | (go_at_call 10; exact Calls.kin_same _ (A2.out _))))
        refine wpQuiet_nil ?_
        intro _ hw'
        obtain ⟨kx, hw''⟩ := hw'
        subst hw''
        go_wp2
        go_roundw
        case rel => exact ⟨0+1, kx, by omega, rfl, rfl⟩
        case measure => simp [intOf]
      · have es : s0 = true := by rw [← HS0.out, (hS 0).out, HQ.out]; rfl
        have kb' : ∀ z : Kin (w1.alloc (.cells #[.bool s0, .bool s1, .bool s2, .bool s3] 23)), z.world.cell? ⟨w1.heap.size, 0, none⟩ = some (.bool true) := fun z => (kb z).1.trans (by rw [es])
        clear kb es
        go_wp2_with fail
        refine wp_region_kin2 (by kernel_rfl) (by kernel_rfl) ?_
        repeat (go_big_quiet_step (first | (go_at_call 9; exact Calls.kin_same _ (A1.out _)) | (go_at_call 10; exact Calls.kin_same _ (A2.out _))))
        refine wpQuiet_nil ?_
        intro _ hw'
        obtain ⟨kx, hw''⟩ := hw'
        subst hw''
        go_wp2
        go_roundw
        case rel => exact ⟨0+1, kx, by omega, rfl, rfl⟩
        case measure => simp [intOf]
    · obtain ⟨u, HQ⟩ : ∃ u, Hid (hb l 1 = u) := ⟨_, Lib.hid rfl⟩
      have A1 := Lib.hid (fun W => high_c l 1 u HQ.out W hl (by omega))
      have A2 := Lib.hid (fun W => rhigh_c l 1 u HQ.out W hl (by omega))
      cases u
      · have es : s1 = true := by rw [← HS1.out, (hS 1).out, HQ.out]; rfl
        have kb' : ∀ z : Kin (w1.alloc (.cells #[.bool s0, .bool s1, .bool s2, .bool s3] 23)), z.world.cell? ⟨w1.heap.size, 1, none⟩ = some (.bool true) := fun z => (kb z).2.1.trans (by rw [es])
        clear kb es
        go_wp2_with fail
        refine wp_region_kin2 (by kernel_rfl) (by kernel_rfl) ?_
        repeat (go_big_quiet_step (first | (go_at_call 9; exact Calls.kin_same _ (A1.out _)) | (go_at_call 10; exact Calls.kin_same _ (A2.out _))))
        refine wpQuiet_nil ?_
        intro _ hw'
        obtain ⟨kx, hw''⟩ := hw'
        subst hw''
        go_wp2
        go_roundw
        case rel => exact ⟨1+1, kx, by omega, rfl, rfl⟩
        case measure => simp [intOf]
      · have es : s1 = false := by rw [← HS1.out, (hS 1).out, HQ.out]; rfl
        have kb' : ∀ z : Kin (w1.alloc (.cells #[.bool s0, .bool s1, .bool s2, .bool s3] 23)), z.world.cell? ⟨w1.heap.size, 1, none⟩ = some (.bool false) := fun z => (kb z).2.1.trans (by rw [es])
        clear kb es
        go_wp2_with fail
        refine wp_region_kin2 (by kernel_rfl) (by kernel_rfl) ?_
        repeat (go_big_quiet_step (first | (go_at_call 9; exact Calls.kin_same _ (A1.out _)) | (go_at_call 10; exact Calls.kin_same _ (A2.out _))))
        refine wpQuiet_nil ?_
        intro _ hw'
        obtain ⟨kx, hw''⟩ := hw'
        subst hw''
        go_wp2
        go_roundw
        case rel => exact ⟨1+1, kx, by omega, rfl, rfl⟩
        case measure => simp [intOf]
    · obtain ⟨u, HQ⟩ : ∃ u, Hid (hb l 2 = u) := ⟨_, Lib.hid rfl⟩
      have A1 := Lib.hid (fun W => high_c l 2 u HQ.out W hl (by omega))
      have A2 := Lib.hid (fun W => rhigh_c l 2 u HQ.out W hl (by omega))
      cases u
      · have es : s2 = true := by rw [← HS2.out, (hS 2).out, HQ.out]; rfl
        have kb' : ∀ z : Kin (w1.alloc (.cells #[.bool s0, .bool s1, .bool s2, .bool s3] 23)), z.world.cell? ⟨w1.heap.size, 2, none⟩ = some (.bool true) := fun z => (kb z).2.2.1.trans (by rw [es])
        clear kb es
        go_wp2_with fail
        refine wp_region_kin2 (by kernel_rfl) (by kernel_rfl) ?_
        repeat (go_big_quiet_step (first | (go_at_call 9; exact Calls.kin_same _ (A1.out _)) | (go_at_call 10; exact Calls.kin_same _ (A2.out _))))
        refine wpQuiet_nil ?_
        intro _ hw'
        obtain ⟨kx, hw''⟩ := hw'
        subst hw''
        go_wp2
        go_roundw
        case rel => exact ⟨2+1, kx, by omega, rfl, rfl⟩
        case measure => simp [intOf]
      · have es : s2 = false := by rw [← HS2.out, (hS 2).out, HQ.out]; rfl
        have kb' : ∀ z : Kin (w1.alloc (.cells #[.bool s0, .bool s1, .bool s2, .bool s3] 23)), z.world.cell? ⟨w1.heap.size, 2, none⟩ = some (.bool false) := fun z => (kb z).2.2.1.trans (by rw [es])
        clear kb es
        go_wp2_with fail
        refine wp_region_kin2 (by kernel_rfl) (by kernel_rfl) ?_
        repeat (go_big_quiet_step (first | (go_at_call 9; exact Calls.kin_same _ (A1.out _)) | (go_at_call 10; exact Calls.kin_same _ (A2.out _))))
        refine wpQuiet_nil ?_
        intro _ hw'
        obtain ⟨kx, hw''⟩ := hw'
        subst hw''
        go_wp2
        go_roundw
        case rel => exact ⟨2+1, kx, by omega, rfl, rfl⟩
        case measure => simp [intOf]
    · obtain ⟨u, HQ⟩ : ∃ u, Hid (hb l 3 = u) := ⟨_, Lib.hid rfl⟩
      have A1 := Lib.hid (fun W => high_c l 3 u HQ.out W hl (by omega))
      have A2 := Lib.hid (fun W => rhigh_c l 3 u HQ.out W hl (by omega))
      cases u
      · have es : s3 = false := by rw [← HS3.out, (hS 3).out, HQ.out]; rfl
        have kb' : ∀ z : Kin (w1.alloc (.cells #[.bool s0, .bool s1, .bool s2, .bool s3] 23)), z.world.cell? ⟨w1.heap.size, 3, none⟩ = some (.bool false) := fun z => (kb z).2.2.2.trans (by rw [es])
        clear kb es
        go_wp2_with fail
        refine wp_region_kin2 (by kernel_rfl) (by kernel_rfl) ?_
        repeat (go_big_quiet_step (first | (go_at_call 9; exact Calls.kin_same _ (A1.out _)) | (go_at_call 10; exact Calls.kin_same _ (A2.out _))))
        refine wpQuiet_nil ?_
        intro _ hw'
        obtain ⟨kx, hw''⟩ := hw'
        subst hw''
        go_wp2
        go_roundw
        case rel => exact ⟨3+1, kx, by omega, rfl, rfl⟩
        case measure => simp [intOf]
      · have es : s3 = true := by rw [← HS3.out, (hS 3).out, HQ.out]; rfl
        have kb' : ∀ z : Kin (w1.alloc (.cells #[.bool s0, .bool s1, .bool s2, .bool s3] 23)), z.world.cell? ⟨w1.heap.size, 3, none⟩ = some (.bool true) := fun z => (kb z).2.2.2.trans (by rw [es])
        clear kb es
        go_wp2_with fail
        refine wp_region_kin2 (by kernel_rfl) (by kernel_rfl) ?_
        repeat (go_big_quiet_step (first | (go_at_call 9; exact Calls.kin_same _ (A1.out _)) | (go_at_call 10; exact Calls.kin_same _ (A2.out _))))
        refine wpQuiet_nil ?_
        intro _ hw'
        obtain ⟨kx, hw''⟩ := hw'
        subst hw''
        go_wp2
        go_roundw
        case rel => exact ⟨3+1, kx, by omega, rfl, rfl⟩
        case measure => simp [intOf]
    · clear kb
      go_wp2_with fail
      go_wp2_with fail
      refine (CS.out _).mono ?_; rintro e w' ⟨rfl, rfl⟩
      go_wp2_with fail
      go_loop [12, 13] (fun i _ => JRel i) (fun i _ => 4 - (intOf i).toNat)
      case atStart => exact ⟨0, by omega, rfl⟩
      case round =>
        obtain ⟨k, hk, rfl⟩ := hrel
        rcases Nat.lt_or_eq_of_le hk with hlt | heq
        · obtain ⟨u, HQ⟩ : ∃ u, Hid (hb l k = u) := ⟨_, Lib.hid rfl⟩
          have A2 := Lib.hid (fun W => rhigh_c l k u HQ.out W hl hlt)
          cases hkl : (k : Int) == ln
          · have A3 := Lib.hid (fun W => high_c T k u (by rw [HTk.out k hlt, if_neg (by simpa using hkl)]; exact HQ.out) W hT hlt)
            go_wp2_with fail
            refine (A2.out _).mono ?_; rintro e w' ⟨rfl, rfl⟩
            go_wp2_with fail
            refine (A3.out _).mono ?_; rintro e w' ⟨rfl, rfl⟩
            go_wp2
            go_round
            case rel => exact ⟨k + 1, by omega, by go_num⟩
            case measure => simp [intOf]; omega
          · have A3 := Lib.hid (fun W => high_c T k h (by rw [HTk.out k hlt, if_pos (by simpa using hkl)]) W hT hlt)
            go_wp2_with fail
            refine (A2.out _).mono ?_; rintro e w' ⟨rfl, rfl⟩
            go_wp2_with fail
            refine (A3.out _).mono ?_; rintro e w' ⟨rfl, rfl⟩
            go_wp2
            go_round
            case rel => exact ⟨k + 1, by omega, by go_num⟩
            case measure => simp [intOf]; omega
        · obtain rfl : k = 4 := heq
          obtain ⟨u, HQ⟩ : ∃ u, Hid (hiF l ln = u) := ⟨_, Lib.hid rfl⟩
          obtain ⟨p, HP⟩ : ∃ p, Hid (cnt l 4 = p) := ⟨_, Lib.hid rfl⟩
          have B1 := Lib.hid (fun W => high_any l ln W hl)
          have B2 := Lib.hid (fun W => rhigh_any l ln W hl)
          have B3 := Lib.hid (fun W => count_any l W hl)
          have B4 := Lib.hid (fun W => rcount_any l W hl)
          rw [HQ.out] at B1 B2
          rw [HP.out] at B3 B4
          have hU2 : Up x.world := (HU.out.kept HB1.out).kept (((Below.refl _ _).alloc (Nat.le_refl _) _).trans (x.below.mono (by simp)))
          have ONE := Lib.hid (one_any x.world hU2)
          have hfin := HB1.out.trans ((x.end1).mono HB1.out.size)
          have HF := Lib.hid hfin
          clear hU2 hfin
          rcases (show ln < 0 ∨ (0 ≤ ln ∧ 3 < ln) ∨ (0 ≤ ln ∧ ln ≤ 3) by omega) with g | ⟨g, g1⟩ | ⟨g, g1⟩
          · obtain rfl : T = l := HTl.out (by omega)
            go_wp2_with fail
            refine (B1.out _).mono ?_; rintro e w' ⟨rfl, rfl⟩
            go_wp2_with fail
            refine (B2.out _).mono ?_; rintro e w' ⟨rfl, rfl⟩
            go_wp2_with fail
            refine (B3.out _).mono ?_; rintro e w' ⟨rfl, rfl⟩
            go_wp2_with fail
            refine (B4.out _).mono ?_; rintro e w' ⟨rfl, rfl⟩
            go_wp2_with fail
            refine ONE.out.mono ?_
            rintro e w9 ⟨rfl, hb9⟩
            go_wp2
            go_ret
            exact ⟨rfl, HF.out.trans (hb9.mono HF.out.size)⟩
          · obtain rfl : T = l := HTl.out (by omega)
            go_wp2_with fail
            refine (B1.out _).mono ?_; rintro e w' ⟨rfl, rfl⟩
            go_wp2_with fail
            refine (B2.out _).mono ?_; rintro e w' ⟨rfl, rfl⟩
            go_wp2_with fail
            refine (B3.out _).mono ?_; rintro e w' ⟨rfl, rfl⟩
            go_wp2_with fail
            refine (B4.out _).mono ?_; rintro e w' ⟨rfl, rfl⟩
            go_wp2_with fail
            refine ONE.out.mono ?_
            rintro e w9 ⟨rfl, hb9⟩
            go_wp2
            go_ret
            exact ⟨rfl, HF.out.trans (hb9.mono HF.out.size)⟩
          · skip
            go_wp2_with fail
            refine (B1.out _).mono ?_; rintro e w' ⟨rfl, rfl⟩
            go_wp2_with fail
            refine (B2.out _).mono ?_; rintro e w' ⟨rfl, rfl⟩
            go_wp2_with fail
            refine (B3.out _).mono ?_; rintro e w' ⟨rfl, rfl⟩
            go_wp2_with fail
            refine (B4.out _).mono ?_; rintro e w' ⟨rfl, rfl⟩
            go_wp2_with fail
            refine ONE.out.mono ?_
            rintro e w9 ⟨rfl, hb9⟩
            go_wp2
            go_ret
            exact ⟨rfl, HF.out.trans (hb9.mono HF.out.size)⟩

theorem walk (l i : Int) (h : Bool) (w : World) (hU : Up w) (l0 : 0 ≤ l) (l1 : l ≤ 255) (_ : -9223372036854775808 ≤ i) (_ : i ≤ 9223372036854775807) :
    Calls Tryd.prog 3 #[.int .u8 l, .int .i64 i, .bool h] w fun e w' => e = .returned (.bool true) ∧ Below w.heap.size w w' := by
  obtain ⟨n, rfl⟩ : ∃ n : Nat, l = n := ⟨l.toNat, by omega⟩
  exact walk0 n i h w hU (by omega)

theorem door_met (os : Os) (args : Array Value) : laidMetH Tryd.prog Rows.wiresTellRow.laid ((World.doorLaid Tryd.prog 400 os).forCall (fun _ _ => 0) ⟨#[], args, []⟩).memory :=
  laidMetH_of_parts3 (fuel := 8) (laidMet_of_run' 8 (by kernel_rfl) (by kernel_rfl)) (by kernel_rfl) (by kernel_rfl)
set_option maxRecDepth 100000 in
theorem lifted (os : Os) (started : os.Started) (H : Type) (enc : TypeId × Value → H) :
    ReturnsInHanded {} Tryd.checked os 3 .any (fun w args => (Rows.wiresTellSpec.pre enc Tryd.prog Tryd.f3 [] false w args ∧ laidMetH Tryd.prog Rows.wiresTellRow.laid w) ∧ sizedMet enc Tryd.prog Tryd.f3 (OpenSpec.ofChange Rows.wiresTellSpec) false w args)
      (Rows.wiresTellSpec.post enc Tryd.prog Tryd.f3 false true false false) := by
  refine returnsInHanded_of_change_and (C := Tryd.checked) (X := fun w _ => laidMetH Tryd.prog Rows.wiresTellRow.laid w) (fun _ _ _ hh h => h.of_heap hh) own started (by kernel_rfl) Tryd.func3
    (ChangeSpec.witness_shaped (enc := enc) (C := Tryd.checked) (os := os) (X := fun w _ => laidMetH Tryd.prog Rows.wiresTellRow.laid w) false (World.doorLaid Tryd.prog 400 os) #[.int .u8 0, .int .i64 0, .bool false] 8 rfl (World.shaped_of_RefB (by kernel_rfl) (by kernel_rfl)) (by kernel_rfl) (by kernel_rfl) (by kernel_rfl) (door_met os _)) ?_
  intro W base args ds gs before hval0 hW _ _ hL _
  have hval : ∀ (j : Nat) t v, Tryd.f3.params[j]? = some t → args[j]? = some v → Value.okWide Tryd.prog W .any base t v := hval0
  have hW' := hW
  obtain ⟨p, q, hA0, hV, rfl, hfz, hnd⟩ := hW
  have hA : DataW.TrodAll enc Tryd.prog W 0 (fun _ => true) true Tryd.f3.params.toList args.toList ds p := hA0
  rw [Tryd.params3] at hA hval
  obtain ⟨v0, vs0, d0, ds0, p0, q0, hargs, rfl, rfl, h0, r0⟩ := trodAll_cons hA
  obtain ⟨v1, vs1, d1, ds1, p1, q1, rfl, rfl, rfl, h1, r1⟩ := trodAll_cons r0
  obtain ⟨v2, vs2, d2, ds2, p2, q2, rfl, rfl, rfl, h2, r2⟩ := trodAll_cons r1
  obtain ⟨rfl, rfl, rfl⟩ := trodAll_nil r2
  obtain rfl : args = #[v0, v1, v2] := by cases args; simp_all
  obtain ⟨rfl, rfl⟩ := trodVars_none hV
  obtain ⟨l, rfl, rfl, rfl, wf0⟩ := open_int Tryd.underlying22 (hval 0 22 v0 rfl rfl) h0
  have bd0 := bounds_u8 wf0
  obtain ⟨i, rfl, rfl, rfl, wf1⟩ := open_int Tryd.underlying3 (hval 1 3 v1 rfl rfl) h1
  have bd1 := bounds_i64 wf1
  obtain ⟨h, rfl, rfl, rfl⟩ := open_bool Tryd.underlying4 (hval 2 4 v2 rfl rfl) h2
  clear hA0 hval0
  refine (walk l i h W (of_laid hL) bd0.1 bd0.2 bd1.1 bd1.2).mono fun e W' ⟨he, bel⟩ => ?_
  subst he
  exact ⟨_, rfl, _, _, _, [], _, [], hW', trodAll_mk1 (shut_bool Tryd.underlying4 _), (trodAll_cons_mk (shut_int Tryd.underlying22 wf0) (trodAll_cons_mk (shut_int Tryd.underlying3 wf1) (trodAll_cons_mk (shut_bool Tryd.underlying4 h) trodAll_mk0))), rfl, bel.frame _, fun h => by cases h⟩

theorem over : Rows.wiresTellRow.holds Tryd.pinned (OpenSpec.ofChange Rows.wiresTellSpec) :=
  OpenClaim.holds_of_wide 3 Tryd.f3 rfl rfl rfl rfl rfl rfl rfl ⟨rfl, rfl, rfl, rfl, rfl⟩ rfl rfl rfl rfl rfl (by kernel_rfl) Tryd.func3 (by kernel_rfl)
    (of_decide_eq_true (by kernel_rfl)) (by unfold Func.isWrapper; first | (rw [if_pos (by decide +kernel)]; kernel_rfl) | (rw [if_neg (by decide +kernel)]; exact ⟨rfl, rfl⟩))
    (fun os started H enc _ => lifted os started H enc)

/-- The card: what the row lists is tied to the program's text. -/
theorem proved : Rows.WiresTellCardSaid :=
  Claim7.holds_tied_plain_at .later [] [.data] true Rows.wiresTellCard.stood.harness false
    over (fun _ h => by cases h) (by kernel_rfl) (fun _ h => by cases h) wiresTell_row_tie rfl ⟨rfl, rfl⟩ (by kernel_rfl) rfl
    (fun f fn hf hfn => by
      obtain rfl : f = 3 := Option.some.inj ((show Tryd.prog.funcNamed "busbar/busbarlaw03.WiresTell" = some 3 by kernel_rfl).symm.trans hf) |>.symm
      obtain rfl : fn = Tryd.f3 := (Option.some.inj (Tryd.func3.symm.trans hfn)).symm
      exact ⟨by kernel_rfl, fun j t ht => by
        rw [Tryd.params3] at ht
        have hm : t ∈ [22, 3, 4] := by simpa using Array.mem_of_getElem? ht
        have hall : ([22, 3, 4].all fun u => !Tryd.prog.wantsStandIn u) = true := by kernel_rfl
        exact (show Tryd.prog.wantsStandIn t = false by simpa using List.all_eq_true.1 hall t hm)⟩)
    (by kernel_rfl)
end Go.Proofs.YtbhdenjahojbbaaDoor.lawWiresTell
