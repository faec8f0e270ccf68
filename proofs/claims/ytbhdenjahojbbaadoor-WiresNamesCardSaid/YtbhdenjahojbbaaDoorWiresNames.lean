/- Any lines have the document's text, and each line its name, unlike all others': for every input; no condition but that the two tables of the lines are as the program's text lays them, which the card ties. -/
import Derived.Test.YtbhdenjahojbbaaDoorWirT
import Derived.Test.YtbhdenjahojbbaaDoorSh
import Derived.Test.YtbhdenjahojbbaaDoorTie
import Derived.Test.YtbhdenjahojbbaaDoorCards
import Derived.Test.YtbhdenjahojbbaaDoorLaid
import Derived.LaidMore
import Derived.SevenTiedAt
import Derived.Stop.Joined
import Derived.Test.YtbhdenjahojbbaaDoorRows
import Derived.WalkKit
import Derived.ProofKit
import Derived.OpenShut
import Derived.ShutString
import Derived.ChangeOld
import Derived.Below
namespace Go.Proofs.YtbhdenjahojbbaaDoor.lawWiresNames
open Go.ChangeShapes Go.WideShapes Go.ChangeAt Go.RowKit Base
open Go.ChangeMaps (open_string shut_string)
set_option linter.unusedVariables false
set_option linter.unusedSimpArgs false
theorem own : ownKnob Tryd.prog.godebug = none := by kernel_rfl
theorem laidOut : laidOutB Tryd.prog = true := by kernel_rfl
open Ly3

theorem gUp : Tryd.prog.globalNamed "busbar/wires.upright" = some 0 := by kernel_rfl
theorem tUp : (Tryd.prog.globals[0]?).map (·.type) = some 23 := by kernel_rfl
theorem gNm : Tryd.prog.globalNamed "busbar/wires.names" = some 1 := by kernel_rfl
theorem tNm : (Tryd.prog.globals[1]?).map (·.type) = some 47 := by kernel_rfl
theorem of_laid {W : World} (h : laidMetH Tryd.prog Rows.wiresNamesRow.laid W) : Up W ∧ Nm W := by
  rw [MakeChecks.laidMetH_plain _ _ _ (by kernel_rfl)] at h
  obtain ⟨ps, ⟨g0, t0, cs0, f0, p0, q0, hg0, ht0, hv0, hd0, hrest, _⟩, _, _⟩ := h
  obtain ⟨g1, t1, cs1, f1, p1, q1, hg1, ht1, hv1, hd1, _, _⟩ := hrest
  obtain rfl := Option.some.inj (gUp.symm.trans hg0)
  obtain rfl := Option.some.inj (tUp.symm.trans ht0)
  obtain rfl := Option.some.inj (gNm.symm.trans hg1)
  obtain rfl := Option.some.inj (tNm.symm.trans ht1)
  have e := exact_cells (sh := .ar 4 .bool) 10 rfl (by kernel_rfl) hd0 rfl
  have e1 := exact_cells (sh := .ar 4 .str) 10 rfl (by kernel_rfl) hd1 rfl
  obtain ⟨l0⟩ := cs0
  obtain ⟨l1⟩ := cs1
  simp at e e1
  subst e e1
  exact ⟨⟨by simpa using World.var?_cell hg0 hv0 0, by simpa using World.var?_cell hg0 hv0 1, by simpa using World.var?_cell hg0 hv0 2, by simpa using World.var?_cell hg0 hv0 3⟩,
    ⟨by simpa [nmS] using World.var?_cell hg1 hv1 0, by simpa [nmS] using World.var?_cell hg1 hv1 1, by simpa [nmS] using World.var?_cell hg1 hv1 2, by simpa [nmS] using World.var?_cell hg1 hv1 3⟩⟩

theorem name_c (k : Nat) (s : ByteArray) (hs : nmS k = s) (w : World) (hk : k < 4) (hN : Nm w) : Calls Tryd.prog 21 #[.int .i64 k] w fun e w' => e = .returned (.string s) ∧ w = w' := by
  subst hs; exact name_at k w hk hN
def nmI (i : Int) : ByteArray := if 0 ≤ i ∧ i ≤ 3 then nmS i.toNat else ByteArray.empty
theorem name_i (i : Int) (s : ByteArray) (hs : nmI i = s) (w : World) (hN : Nm w) : Calls Tryd.prog 21 #[.int .i64 i] w fun e w' => e = .returned (.string s) ∧ w = w' := by
  subst hs
  unfold nmI
  by_cases h : 0 ≤ i ∧ i ≤ 3
  · obtain ⟨k, rfl⟩ : ∃ k : Nat, i = k := ⟨i.toNat, by omega⟩
    rw [if_pos h]
    simpa using name_at k w (by omega) hN
  · rw [if_neg h]
    exact name_no i w (by omega)
def IRel (W : World) (i : Value) (wr : World) : Prop := ∃ (k : Nat) (x : Kin W), k ≤ 4 ∧ i = .int .i64 k ∧ wr = x.world

set_option maxRecDepth 100000 in
set_option maxHeartbeats 4000000 in
theorem walk0 (l : Nat) (a b : Int) (w : World) (hU : Up w) (hN : Nm w) (hl : l < 256) :
    Calls Tryd.prog 7 #[.int .u8 l, .int .i64 a, .int .i64 b] w fun e w' => e = .returned (.bool true) ∧ Below w.heap.size w w' := by
  have HU := Lib.hid hU
  have HN := Lib.hid hN
  clear hU hN
  go_enter Tryd.func7, Tryd.ntmps7
  go_wp2_with fail
  refine (text_any l w hl).mono ?_
  rintro e w1 ⟨rfl, hb1⟩
  have HB1 := Lib.hid hb1
  clear hb1
  obtain ⟨s0, HS0⟩ : ∃ s, Hid (sgn l 0 = s) := ⟨_, Lib.hid rfl⟩
  rw [HS0.out]
  obtain ⟨s1, HS1⟩ : ∃ s, Hid (sgn l 1 = s) := ⟨_, Lib.hid rfl⟩
  rw [HS1.out]
  obtain ⟨s2, HS2⟩ : ∃ s, Hid (sgn l 2 = s) := ⟨_, Lib.hid rfl⟩
  rw [HS2.out]
  obtain ⟨s3, HS3⟩ : ∃ s, Hid (sgn l 3 = s) := ⟨_, Lib.hid rfl⟩
  rw [HS3.out]
  go_wp2_with fail
  go_loopw [8] (fun i wr => IRel w1 i wr) (fun i _ => 4 - (intOf i).toNat)
  case atStart => exact ⟨0, Kin.me _, by omega, rfl, rfl⟩
  case round =>
    obtain ⟨k, x, hk, rfl, rfl⟩ := hrel
    rcases (show k = 0 ∨ k = 1 ∨ k = 2 ∨ k = 3 ∨ k = 4 by omega) with rfl | rfl | rfl | rfl | rfl
    · obtain ⟨u, HQ⟩ : ∃ u, Hid (hb l 0 = u) := ⟨_, Lib.hid rfl⟩
      have A1 := Lib.hid (fun W => high_c l 0 u HQ.out W hl (by omega))
      have es : s0 = if u then 35 else 46 := by rw [← HS0.out]; unfold sgn; rw [HQ.out]
      have e1 : ((((⟨#[s0, s1, s2, s3]⟩ : ByteArray)[0]'(show 0 < 4 by decide)).toNat : Int) == 35) = u := by show ((s0.toNat : Int) == 35) = u; rw [es]; cases u <;> decide
      have e2 : ((((⟨#[s0, s1, s2, s3]⟩ : ByteArray)[0]'(show 0 < 4 by decide)).toNat : Int) != 35) = !u := by show ((s0.toNat : Int) != 35) = !u; rw [es]; cases u <;> decide
      have e3 : u = false → ((((⟨#[s0, s1, s2, s3]⟩ : ByteArray)[0]'(show 0 < 4 by decide)).toNat : Int) != 46) = false := by rintro rfl; show ((s0.toNat : Int) != 46) = false; rw [es]; decide
      clear es
      cases u
      · have e3' := e3 rfl
        clear e3
        go_wp2_with fail
        refine wp_region_kin2 (by kernel_rfl) (by kernel_rfl) ?_
        repeat (go_big_quiet_step (first | (go_at_call 9; exact Calls.kin_same _ (A1.out _))))
        refine wpQuiet_nil ?_
        intro _ hw'
        obtain ⟨kx, hw''⟩ := hw'
        subst hw''
        go_wp2
        go_roundw
        case rel => exact ⟨0+1, kx, by omega, rfl, rfl⟩
        case measure => simp [intOf]
      · clear e3
        go_wp2_with fail
        refine wp_region_kin2 (by kernel_rfl) (by kernel_rfl) ?_
        repeat (go_big_quiet_step (first | (go_at_call 9; exact Calls.kin_same _ (A1.out _))))
        refine wpQuiet_nil ?_
        intro _ hw'
        obtain ⟨kx, hw''⟩ := hw'
        subst hw''
        go_wp2
        go_roundw
        case rel => exact ⟨0+1, kx, by omega, rfl, rfl⟩
        case measure => simp [intOf]
    · obtain ⟨u, HQ⟩ : ∃ u, Hid (hb l 1 = u) := ⟨_, Lib.hid rfl⟩
      have A1 := Lib.hid (fun W => high_c l 1 u HQ.out W hl (by omega))
      have es : s1 = if u then 35 else 46 := by rw [← HS1.out]; unfold sgn; rw [HQ.out]
      have e1 : ((((⟨#[s0, s1, s2, s3]⟩ : ByteArray)[1]'(show 1 < 4 by decide)).toNat : Int) == 35) = u := by show ((s1.toNat : Int) == 35) = u; rw [es]; cases u <;> decide
      have e2 : ((((⟨#[s0, s1, s2, s3]⟩ : ByteArray)[1]'(show 1 < 4 by decide)).toNat : Int) != 35) = !u := by show ((s1.toNat : Int) != 35) = !u; rw [es]; cases u <;> decide
      have e3 : u = false → ((((⟨#[s0, s1, s2, s3]⟩ : ByteArray)[1]'(show 1 < 4 by decide)).toNat : Int) != 46) = false := by rintro rfl; show ((s1.toNat : Int) != 46) = false; rw [es]; decide
      clear es
      cases u
      · have e3' := e3 rfl
        clear e3
        go_wp2_with fail
        refine wp_region_kin2 (by kernel_rfl) (by kernel_rfl) ?_
        repeat (go_big_quiet_step (first | (go_at_call 9; exact Calls.kin_same _ (A1.out _))))
        refine wpQuiet_nil ?_
        intro _ hw'
        obtain ⟨kx, hw''⟩ := hw'
        subst hw''
        go_wp2
        go_roundw
        case rel => exact ⟨1+1, kx, by omega, rfl, rfl⟩
        case measure => simp [intOf]
      · clear e3
        go_wp2_with fail
        refine wp_region_kin2 (by kernel_rfl) (by kernel_rfl) ?_
        repeat (go_big_quiet_step (first | (go_at_call 9; exact Calls.kin_same _ (A1.out _))))
        refine wpQuiet_nil ?_
        intro _ hw'
        obtain ⟨kx, hw''⟩ := hw'
        subst hw''
        go_wp2
        go_roundw
        case rel => exact ⟨1+1, kx, by omega, rfl, rfl⟩
        case measure => simp [intOf]
    · obtain ⟨u, HQ⟩ : ∃ u, Hid (hb l 2 = u) := ⟨_, Lib.hid rfl⟩
      have A1 := Lib.hid (fun W => high_c l 2 u HQ.out W hl (by omega))
      have es : s2 = if u then 35 else 46 := by rw [← HS2.out]; unfold sgn; rw [HQ.out]
      have e1 : ((((⟨#[s0, s1, s2, s3]⟩ : ByteArray)[2]'(show 2 < 4 by decide)).toNat : Int) == 35) = u := by show ((s2.toNat : Int) == 35) = u; rw [es]; cases u <;> decide
      have e2 : ((((⟨#[s0, s1, s2, s3]⟩ : ByteArray)[2]'(show 2 < 4 by decide)).toNat : Int) != 35) = !u := by show ((s2.toNat : Int) != 35) = !u; rw [es]; cases u <;> decide
      have e3 : u = false → ((((⟨#[s0, s1, s2, s3]⟩ : ByteArray)[2]'(show 2 < 4 by decide)).toNat : Int) != 46) = false := by rintro rfl; show ((s2.toNat : Int) != 46) = false; rw [es]; decide
      clear es
      cases u
      · have e3' := e3 rfl
        clear e3
        go_wp2_with fail
        refine wp_region_kin2 (by kernel_rfl) (by kernel_rfl) ?_
        repeat (go_big_quiet_step (first | (go_at_call 9; exact Calls.kin_same _ (A1.out _))))
        refine wpQuiet_nil ?_
        intro _ hw'
        obtain ⟨kx, hw''⟩ := hw'
        subst hw''
        go_wp2
        go_roundw
        case rel => exact ⟨2+1, kx, by omega, rfl, rfl⟩
        case measure => simp [intOf]
      · clear e3
        go_wp2_with fail
        refine wp_region_kin2 (by kernel_rfl) (by kernel_rfl) ?_
        repeat (go_big_quiet_step (first | (go_at_call 9; exact Calls.kin_same _ (A1.out _))))
        refine wpQuiet_nil ?_
        intro _ hw'
        obtain ⟨kx, hw''⟩ := hw'
        subst hw''
        go_wp2
        go_roundw
        case rel => exact ⟨2+1, kx, by omega, rfl, rfl⟩
        case measure => simp [intOf]
    · obtain ⟨u, HQ⟩ : ∃ u, Hid (hb l 3 = u) := ⟨_, Lib.hid rfl⟩
      have A1 := Lib.hid (fun W => high_c l 3 u HQ.out W hl (by omega))
      have es : s3 = if u then 35 else 46 := by rw [← HS3.out]; unfold sgn; rw [HQ.out]
      have e1 : ((((⟨#[s0, s1, s2, s3]⟩ : ByteArray)[3]'(show 3 < 4 by decide)).toNat : Int) == 35) = u := by show ((s3.toNat : Int) == 35) = u; rw [es]; cases u <;> decide
      have e2 : ((((⟨#[s0, s1, s2, s3]⟩ : ByteArray)[3]'(show 3 < 4 by decide)).toNat : Int) != 35) = !u := by show ((s3.toNat : Int) != 35) = !u; rw [es]; cases u <;> decide
      have e3 : u = false → ((((⟨#[s0, s1, s2, s3]⟩ : ByteArray)[3]'(show 3 < 4 by decide)).toNat : Int) != 46) = false := by rintro rfl; show ((s3.toNat : Int) != 46) = false; rw [es]; decide
      clear es
      cases u
      · have e3' := e3 rfl
        clear e3
        go_wp2_with fail
        refine wp_region_kin2 (by kernel_rfl) (by kernel_rfl) ?_
        repeat (go_big_quiet_step (first | (go_at_call 9; exact Calls.kin_same _ (A1.out _))))
        refine wpQuiet_nil ?_
        intro _ hw'
        obtain ⟨kx, hw''⟩ := hw'
        subst hw''
        go_wp2
        go_roundw
        case rel => exact ⟨3+1, kx, by omega, rfl, rfl⟩
        case measure => simp [intOf]
      · clear e3
        go_wp2_with fail
        refine wp_region_kin2 (by kernel_rfl) (by kernel_rfl) ?_
        repeat (go_big_quiet_step (first | (go_at_call 9; exact Calls.kin_same _ (A1.out _))))
        refine wpQuiet_nil ?_
        intro _ hw'
        obtain ⟨kx, hw''⟩ := hw'
        subst hw''
        go_wp2
        go_roundw
        case rel => exact ⟨3+1, kx, by omega, rfl, rfl⟩
        case measure => simp [intOf]
    · have hbx : Below w.heap.size w x.world := HB1.out.trans (x.below.mono HB1.out.size)
      have HF := Lib.hid hbx
      have ONE := Lib.hid (one_any x.world (HU.out.kept hbx))
      have HN2 := Lib.hid (HN.out.kept hbx)
      clear hbx
      by_cases ha : 0 ≤ a ∧ a ≤ 3
      · obtain ⟨ka, rfl⟩ : ∃ k : Nat, a = k := ⟨a.toNat, by omega⟩
        by_cases hb' : 0 ≤ b ∧ b ≤ 3
        · obtain ⟨kb, rfl⟩ : ∃ k : Nat, b = k := ⟨b.toNat, by omega⟩
          have hka : ka < 4 := by omega
          have hkb : kb < 4 := by omega
          clear ha hb'
          rcases (show ka = 0 ∨ ka = 1 ∨ ka = 2 ∨ ka = 3 by omega) with rfl | rfl | rfl | rfl
          · rcases (show kb = 0 ∨ kb = 1 ∨ kb = 2 ∨ kb = 3 by omega) with rfl | rfl | rfl | rfl
            · go_wp2_with fail
              refine (name_c 0 ⟨#[97, 120]⟩ rfl _ (by omega) HN2.out).mono ?_; rintro e w' ⟨rfl, rfl⟩
              go_wp2_with fail
              refine (name_c 0 ⟨#[97, 120]⟩ rfl _ (by omega) HN2.out).mono ?_; rintro e w' ⟨rfl, rfl⟩
              go_wp2_with fail
              all_goals
                refine (name_c 2 ⟨#[97, 121]⟩ rfl _ (by omega) HN2.out).mono ?_; rintro e w' ⟨rfl, rfl⟩
                go_wp2_with fail
                refine ONE.out.mono ?_
                rintro e w9 ⟨rfl, hb9⟩
                go_wp2
                go_ret
                exact ⟨by first | rfl | (simp; omega), HF.out.trans (hb9.mono HF.out.size)⟩
            · go_wp2_with fail
              refine (name_c 0 ⟨#[97, 120]⟩ rfl _ (by omega) HN2.out).mono ?_; rintro e w' ⟨rfl, rfl⟩
              go_wp2_with fail
              refine (name_c 1 ⟨#[98, 120]⟩ rfl _ (by omega) HN2.out).mono ?_; rintro e w' ⟨rfl, rfl⟩
              go_wp2_with fail
              all_goals
                refine (name_c 2 ⟨#[97, 121]⟩ rfl _ (by omega) HN2.out).mono ?_; rintro e w' ⟨rfl, rfl⟩
                go_wp2_with fail
                refine ONE.out.mono ?_
                rintro e w9 ⟨rfl, hb9⟩
                go_wp2
                go_ret
                exact ⟨by first | rfl | (simp; omega), HF.out.trans (hb9.mono HF.out.size)⟩
            · go_wp2_with fail
              refine (name_c 0 ⟨#[97, 120]⟩ rfl _ (by omega) HN2.out).mono ?_; rintro e w' ⟨rfl, rfl⟩
              go_wp2_with fail
              refine (name_c 2 ⟨#[97, 121]⟩ rfl _ (by omega) HN2.out).mono ?_; rintro e w' ⟨rfl, rfl⟩
              go_wp2_with fail
              all_goals
                refine (name_c 2 ⟨#[97, 121]⟩ rfl _ (by omega) HN2.out).mono ?_; rintro e w' ⟨rfl, rfl⟩
                go_wp2_with fail
                refine ONE.out.mono ?_
                rintro e w9 ⟨rfl, hb9⟩
                go_wp2
                go_ret
                exact ⟨by first | rfl | (simp; omega), HF.out.trans (hb9.mono HF.out.size)⟩
            · go_wp2_with fail
              refine (name_c 0 ⟨#[97, 120]⟩ rfl _ (by omega) HN2.out).mono ?_; rintro e w' ⟨rfl, rfl⟩
              go_wp2_with fail
              refine (name_c 3 ⟨#[98, 121]⟩ rfl _ (by omega) HN2.out).mono ?_; rintro e w' ⟨rfl, rfl⟩
              go_wp2_with fail
              all_goals
                refine (name_c 2 ⟨#[97, 121]⟩ rfl _ (by omega) HN2.out).mono ?_; rintro e w' ⟨rfl, rfl⟩
                go_wp2_with fail
                refine ONE.out.mono ?_
                rintro e w9 ⟨rfl, hb9⟩
                go_wp2
                go_ret
                exact ⟨by first | rfl | (simp; omega), HF.out.trans (hb9.mono HF.out.size)⟩
          · rcases (show kb = 0 ∨ kb = 1 ∨ kb = 2 ∨ kb = 3 by omega) with rfl | rfl | rfl | rfl
            · go_wp2_with fail
              refine (name_c 1 ⟨#[98, 120]⟩ rfl _ (by omega) HN2.out).mono ?_; rintro e w' ⟨rfl, rfl⟩
              go_wp2_with fail
              refine (name_c 0 ⟨#[97, 120]⟩ rfl _ (by omega) HN2.out).mono ?_; rintro e w' ⟨rfl, rfl⟩
              go_wp2_with fail
              all_goals
                refine (name_c 2 ⟨#[97, 121]⟩ rfl _ (by omega) HN2.out).mono ?_; rintro e w' ⟨rfl, rfl⟩
                go_wp2_with fail
                refine ONE.out.mono ?_
                rintro e w9 ⟨rfl, hb9⟩
                go_wp2
                go_ret
                exact ⟨by first | rfl | (simp; omega), HF.out.trans (hb9.mono HF.out.size)⟩
            · go_wp2_with fail
              refine (name_c 1 ⟨#[98, 120]⟩ rfl _ (by omega) HN2.out).mono ?_; rintro e w' ⟨rfl, rfl⟩
              go_wp2_with fail
              refine (name_c 1 ⟨#[98, 120]⟩ rfl _ (by omega) HN2.out).mono ?_; rintro e w' ⟨rfl, rfl⟩
              go_wp2_with fail
              all_goals
                refine (name_c 2 ⟨#[97, 121]⟩ rfl _ (by omega) HN2.out).mono ?_; rintro e w' ⟨rfl, rfl⟩
                go_wp2_with fail
                refine ONE.out.mono ?_
                rintro e w9 ⟨rfl, hb9⟩
                go_wp2
                go_ret
                exact ⟨by first | rfl | (simp; omega), HF.out.trans (hb9.mono HF.out.size)⟩
            · go_wp2_with fail
              refine (name_c 1 ⟨#[98, 120]⟩ rfl _ (by omega) HN2.out).mono ?_; rintro e w' ⟨rfl, rfl⟩
              go_wp2_with fail
              refine (name_c 2 ⟨#[97, 121]⟩ rfl _ (by omega) HN2.out).mono ?_; rintro e w' ⟨rfl, rfl⟩
              go_wp2_with fail
              all_goals
                refine (name_c 2 ⟨#[97, 121]⟩ rfl _ (by omega) HN2.out).mono ?_; rintro e w' ⟨rfl, rfl⟩
                go_wp2_with fail
                refine ONE.out.mono ?_
                rintro e w9 ⟨rfl, hb9⟩
                go_wp2
                go_ret
                exact ⟨by first | rfl | (simp; omega), HF.out.trans (hb9.mono HF.out.size)⟩
            · go_wp2_with fail
              refine (name_c 1 ⟨#[98, 120]⟩ rfl _ (by omega) HN2.out).mono ?_; rintro e w' ⟨rfl, rfl⟩
              go_wp2_with fail
              refine (name_c 3 ⟨#[98, 121]⟩ rfl _ (by omega) HN2.out).mono ?_; rintro e w' ⟨rfl, rfl⟩
              go_wp2_with fail
              all_goals
                refine (name_c 2 ⟨#[97, 121]⟩ rfl _ (by omega) HN2.out).mono ?_; rintro e w' ⟨rfl, rfl⟩
                go_wp2_with fail
                refine ONE.out.mono ?_
                rintro e w9 ⟨rfl, hb9⟩
                go_wp2
                go_ret
                exact ⟨by first | rfl | (simp; omega), HF.out.trans (hb9.mono HF.out.size)⟩
          · rcases (show kb = 0 ∨ kb = 1 ∨ kb = 2 ∨ kb = 3 by omega) with rfl | rfl | rfl | rfl
            · go_wp2_with fail
              refine (name_c 2 ⟨#[97, 121]⟩ rfl _ (by omega) HN2.out).mono ?_; rintro e w' ⟨rfl, rfl⟩
              go_wp2_with fail
              refine (name_c 0 ⟨#[97, 120]⟩ rfl _ (by omega) HN2.out).mono ?_; rintro e w' ⟨rfl, rfl⟩
              go_wp2_with fail
              all_goals
                refine (name_c 2 ⟨#[97, 121]⟩ rfl _ (by omega) HN2.out).mono ?_; rintro e w' ⟨rfl, rfl⟩
                go_wp2_with fail
                refine ONE.out.mono ?_
                rintro e w9 ⟨rfl, hb9⟩
                go_wp2
                go_ret
                exact ⟨by first | rfl | (simp; omega), HF.out.trans (hb9.mono HF.out.size)⟩
            · go_wp2_with fail
              refine (name_c 2 ⟨#[97, 121]⟩ rfl _ (by omega) HN2.out).mono ?_; rintro e w' ⟨rfl, rfl⟩
              go_wp2_with fail
              refine (name_c 1 ⟨#[98, 120]⟩ rfl _ (by omega) HN2.out).mono ?_; rintro e w' ⟨rfl, rfl⟩
              go_wp2_with fail
              all_goals
                refine (name_c 2 ⟨#[97, 121]⟩ rfl _ (by omega) HN2.out).mono ?_; rintro e w' ⟨rfl, rfl⟩
                go_wp2_with fail
                refine ONE.out.mono ?_
                rintro e w9 ⟨rfl, hb9⟩
                go_wp2
                go_ret
                exact ⟨by first | rfl | (simp; omega), HF.out.trans (hb9.mono HF.out.size)⟩
            · go_wp2_with fail
              refine (name_c 2 ⟨#[97, 121]⟩ rfl _ (by omega) HN2.out).mono ?_; rintro e w' ⟨rfl, rfl⟩
              go_wp2_with fail
              refine (name_c 2 ⟨#[97, 121]⟩ rfl _ (by omega) HN2.out).mono ?_; rintro e w' ⟨rfl, rfl⟩
              go_wp2_with fail
              all_goals
                refine (name_c 2 ⟨#[97, 121]⟩ rfl _ (by omega) HN2.out).mono ?_; rintro e w' ⟨rfl, rfl⟩
                go_wp2_with fail
                refine ONE.out.mono ?_
                rintro e w9 ⟨rfl, hb9⟩
                go_wp2
                go_ret
                exact ⟨by first | rfl | (simp; omega), HF.out.trans (hb9.mono HF.out.size)⟩
            · go_wp2_with fail
              refine (name_c 2 ⟨#[97, 121]⟩ rfl _ (by omega) HN2.out).mono ?_; rintro e w' ⟨rfl, rfl⟩
              go_wp2_with fail
              refine (name_c 3 ⟨#[98, 121]⟩ rfl _ (by omega) HN2.out).mono ?_; rintro e w' ⟨rfl, rfl⟩
              go_wp2_with fail
              all_goals
                refine (name_c 2 ⟨#[97, 121]⟩ rfl _ (by omega) HN2.out).mono ?_; rintro e w' ⟨rfl, rfl⟩
                go_wp2_with fail
                refine ONE.out.mono ?_
                rintro e w9 ⟨rfl, hb9⟩
                go_wp2
                go_ret
                exact ⟨by first | rfl | (simp; omega), HF.out.trans (hb9.mono HF.out.size)⟩
          · rcases (show kb = 0 ∨ kb = 1 ∨ kb = 2 ∨ kb = 3 by omega) with rfl | rfl | rfl | rfl
            · go_wp2_with fail
              refine (name_c 3 ⟨#[98, 121]⟩ rfl _ (by omega) HN2.out).mono ?_; rintro e w' ⟨rfl, rfl⟩
              go_wp2_with fail
              refine (name_c 0 ⟨#[97, 120]⟩ rfl _ (by omega) HN2.out).mono ?_; rintro e w' ⟨rfl, rfl⟩
              go_wp2_with fail
              all_goals
                refine (name_c 2 ⟨#[97, 121]⟩ rfl _ (by omega) HN2.out).mono ?_; rintro e w' ⟨rfl, rfl⟩
                go_wp2_with fail
                refine ONE.out.mono ?_
                rintro e w9 ⟨rfl, hb9⟩
                go_wp2
                go_ret
                exact ⟨by first | rfl | (simp; omega), HF.out.trans (hb9.mono HF.out.size)⟩
            · go_wp2_with fail
              refine (name_c 3 ⟨#[98, 121]⟩ rfl _ (by omega) HN2.out).mono ?_; rintro e w' ⟨rfl, rfl⟩
              go_wp2_with fail
              refine (name_c 1 ⟨#[98, 120]⟩ rfl _ (by omega) HN2.out).mono ?_; rintro e w' ⟨rfl, rfl⟩
              go_wp2_with fail
              all_goals
                refine (name_c 2 ⟨#[97, 121]⟩ rfl _ (by omega) HN2.out).mono ?_; rintro e w' ⟨rfl, rfl⟩
                go_wp2_with fail
                refine ONE.out.mono ?_
                rintro e w9 ⟨rfl, hb9⟩
                go_wp2
                go_ret
                exact ⟨by first | rfl | (simp; omega), HF.out.trans (hb9.mono HF.out.size)⟩
            · go_wp2_with fail
              refine (name_c 3 ⟨#[98, 121]⟩ rfl _ (by omega) HN2.out).mono ?_; rintro e w' ⟨rfl, rfl⟩
              go_wp2_with fail
              refine (name_c 2 ⟨#[97, 121]⟩ rfl _ (by omega) HN2.out).mono ?_; rintro e w' ⟨rfl, rfl⟩
              go_wp2_with fail
              all_goals
                refine (name_c 2 ⟨#[97, 121]⟩ rfl _ (by omega) HN2.out).mono ?_; rintro e w' ⟨rfl, rfl⟩
                go_wp2_with fail
                refine ONE.out.mono ?_
                rintro e w9 ⟨rfl, hb9⟩
                go_wp2
                go_ret
                exact ⟨by first | rfl | (simp; omega), HF.out.trans (hb9.mono HF.out.size)⟩
            · go_wp2_with fail
              refine (name_c 3 ⟨#[98, 121]⟩ rfl _ (by omega) HN2.out).mono ?_; rintro e w' ⟨rfl, rfl⟩
              go_wp2_with fail
              refine (name_c 3 ⟨#[98, 121]⟩ rfl _ (by omega) HN2.out).mono ?_; rintro e w' ⟨rfl, rfl⟩
              go_wp2_with fail
              all_goals
                refine (name_c 2 ⟨#[97, 121]⟩ rfl _ (by omega) HN2.out).mono ?_; rintro e w' ⟨rfl, rfl⟩
                go_wp2_with fail
                refine ONE.out.mono ?_
                rintro e w9 ⟨rfl, hb9⟩
                go_wp2
                go_ret
                exact ⟨by first | rfl | (simp; omega), HF.out.trans (hb9.mono HF.out.size)⟩
        · have hbn : b < 0 ∨ 3 < b := by omega
          have hka : ka < 4 := by omega
          have NO := Lib.hid (fun W => name_no b W hbn)
          clear ha hb' hbn
          rcases (show ka = 0 ∨ ka = 1 ∨ ka = 2 ∨ ka = 3 by omega) with rfl | rfl | rfl | rfl
          · go_wp2_with fail
            refine (name_c 0 ⟨#[97, 120]⟩ rfl _ (by omega) HN2.out).mono ?_; rintro e w' ⟨rfl, rfl⟩
            go_wp2_with fail
            refine (NO.out _).mono ?_; rintro e w' ⟨rfl, rfl⟩
            go_wp2_with fail
            all_goals
              refine (name_c 2 ⟨#[97, 121]⟩ rfl _ (by omega) HN2.out).mono ?_; rintro e w' ⟨rfl, rfl⟩
              go_wp2_with fail
              refine ONE.out.mono ?_
              rintro e w9 ⟨rfl, hb9⟩
              go_wp2
              go_ret
              exact ⟨by first | rfl | (simp; omega), HF.out.trans (hb9.mono HF.out.size)⟩
          · go_wp2_with fail
            refine (name_c 1 ⟨#[98, 120]⟩ rfl _ (by omega) HN2.out).mono ?_; rintro e w' ⟨rfl, rfl⟩
            go_wp2_with fail
            refine (NO.out _).mono ?_; rintro e w' ⟨rfl, rfl⟩
            go_wp2_with fail
            all_goals
              refine (name_c 2 ⟨#[97, 121]⟩ rfl _ (by omega) HN2.out).mono ?_; rintro e w' ⟨rfl, rfl⟩
              go_wp2_with fail
              refine ONE.out.mono ?_
              rintro e w9 ⟨rfl, hb9⟩
              go_wp2
              go_ret
              exact ⟨by first | rfl | (simp; omega), HF.out.trans (hb9.mono HF.out.size)⟩
          · go_wp2_with fail
            refine (name_c 2 ⟨#[97, 121]⟩ rfl _ (by omega) HN2.out).mono ?_; rintro e w' ⟨rfl, rfl⟩
            go_wp2_with fail
            refine (NO.out _).mono ?_; rintro e w' ⟨rfl, rfl⟩
            go_wp2_with fail
            all_goals
              refine (name_c 2 ⟨#[97, 121]⟩ rfl _ (by omega) HN2.out).mono ?_; rintro e w' ⟨rfl, rfl⟩
              go_wp2_with fail
              refine ONE.out.mono ?_
              rintro e w9 ⟨rfl, hb9⟩
              go_wp2
              go_ret
              exact ⟨by first | rfl | (simp; omega), HF.out.trans (hb9.mono HF.out.size)⟩
          · go_wp2_with fail
            refine (name_c 3 ⟨#[98, 121]⟩ rfl _ (by omega) HN2.out).mono ?_; rintro e w' ⟨rfl, rfl⟩
            go_wp2_with fail
            refine (NO.out _).mono ?_; rintro e w' ⟨rfl, rfl⟩
            go_wp2_with fail
            all_goals
              refine (name_c 2 ⟨#[97, 121]⟩ rfl _ (by omega) HN2.out).mono ?_; rintro e w' ⟨rfl, rfl⟩
              go_wp2_with fail
              refine ONE.out.mono ?_
              rintro e w9 ⟨rfl, hb9⟩
              go_wp2
              go_ret
              exact ⟨by first | rfl | (simp; omega), HF.out.trans (hb9.mono HF.out.size)⟩
      · have NA := Lib.hid (fun W => name_no a W (by omega))
        obtain ⟨o, HO⟩ : ∃ o, Hid (nmI b = o) := ⟨_, Lib.hid rfl⟩
        have NB := Lib.hid (fun W h => name_i b o HO.out W h)
        rcases (show a < 0 ∨ (0 ≤ a ∧ 3 < a) by omega) with g | ⟨g, g1⟩
        all_goals
          clear ha
          go_wp2_with fail
          refine (NA.out _).mono ?_; rintro e w' ⟨rfl, rfl⟩
          go_wp2_with fail
          refine (NB.out _ HN2.out).mono ?_; rintro e w' ⟨rfl, rfl⟩
          go_wp2_with fail
          all_goals
            refine (name_c 2 ⟨#[97, 121]⟩ rfl _ (by omega) HN2.out).mono ?_; rintro e w' ⟨rfl, rfl⟩
            go_wp2_with fail
            refine ONE.out.mono ?_
            rintro e w9 ⟨rfl, hb9⟩
            go_wp2
            go_ret
            exact ⟨by first | rfl | (simp; omega), HF.out.trans (hb9.mono HF.out.size)⟩

theorem walk (l a b : Int) (w : World) (hUN : Up w ∧ Nm w) (l0 : 0 ≤ l) (l1 : l ≤ 255) (_ : -9223372036854775808 ≤ a) (_ : a ≤ 9223372036854775807) (_ : -9223372036854775808 ≤ b) (_ : b ≤ 9223372036854775807) :
    Calls Tryd.prog 7 #[.int .u8 l, .int .i64 a, .int .i64 b] w fun e w' => e = .returned (.bool true) ∧ Below w.heap.size w w' := by
  obtain ⟨n, rfl⟩ : ∃ n : Nat, l = n := ⟨l.toNat, by omega⟩
  exact walk0 n a b w hUN.1 hUN.2 (by omega)

theorem door_met (os : Os) (args : Array Value) : laidMetH Tryd.prog Rows.wiresNamesRow.laid ((World.doorLaid Tryd.prog 400 os).forCall (fun _ _ => 0) ⟨#[], args, []⟩).memory :=
  laidMetH_of_parts3 (fuel := 8) (laidMet_of_run' 8 (by kernel_rfl) (by kernel_rfl)) (by kernel_rfl) (by kernel_rfl)
set_option maxRecDepth 100000 in
theorem lifted (os : Os) (started : os.Started) (H : Type) (enc : TypeId × Value → H) :
    ReturnsInHanded {} Tryd.checked os 7 .any (fun w args => (Rows.wiresNamesSpec.pre enc Tryd.prog Tryd.f7 [] false w args ∧ laidMetH Tryd.prog Rows.wiresNamesRow.laid w) ∧ sizedMet enc Tryd.prog Tryd.f7 (OpenSpec.ofChange Rows.wiresNamesSpec) false w args)
      (Rows.wiresNamesSpec.post enc Tryd.prog Tryd.f7 false true false false) := by
  refine returnsInHanded_of_change_and (C := Tryd.checked) (X := fun w _ => laidMetH Tryd.prog Rows.wiresNamesRow.laid w) (fun _ _ _ hh h => h.of_heap hh) own started (by kernel_rfl) Tryd.func7
    (ChangeSpec.witness_shaped (enc := enc) (C := Tryd.checked) (os := os) (X := fun w _ => laidMetH Tryd.prog Rows.wiresNamesRow.laid w) false (World.doorLaid Tryd.prog 400 os) #[.int .u8 0, .int .i64 0, .int .i64 0] 8 rfl (World.shaped_of_RefB (by kernel_rfl) (by kernel_rfl)) (by kernel_rfl) (by kernel_rfl) (by kernel_rfl) (door_met os _)) ?_
  intro W base args ds gs before hval0 hW _ _ hL _
  have hval : ∀ (j : Nat) t v, Tryd.f7.params[j]? = some t → args[j]? = some v → Value.okWide Tryd.prog W .any base t v := hval0
  have hW' := hW
  obtain ⟨p, q, hA0, hV, rfl, hfz, hnd⟩ := hW
  have hA : DataW.TrodAll enc Tryd.prog W 0 (fun _ => true) true Tryd.f7.params.toList args.toList ds p := hA0
  rw [Tryd.params7] at hA hval
  obtain ⟨v0, vs0, d0, ds0, p0, q0, hargs, rfl, rfl, h0, r0⟩ := trodAll_cons hA
  obtain ⟨v1, vs1, d1, ds1, p1, q1, rfl, rfl, rfl, h1, r1⟩ := trodAll_cons r0
  obtain ⟨v2, vs2, d2, ds2, p2, q2, rfl, rfl, rfl, h2, r2⟩ := trodAll_cons r1
  obtain ⟨rfl, rfl, rfl⟩ := trodAll_nil r2
  obtain rfl : args = #[v0, v1, v2] := by cases args; simp_all
  obtain ⟨rfl, rfl⟩ := trodVars_none hV
  obtain ⟨l, rfl, rfl, rfl, wf0⟩ := open_int Tryd.underlying22 (hval 0 22 v0 rfl rfl) h0
  have bd0 := bounds_u8 wf0
  obtain ⟨a, rfl, rfl, rfl, wf1⟩ := open_int Tryd.underlying3 (hval 1 3 v1 rfl rfl) h1
  have bd1 := bounds_i64 wf1
  obtain ⟨b, rfl, rfl, rfl, wf2⟩ := open_int Tryd.underlying3 (hval 2 3 v2 rfl rfl) h2
  have bd2 := bounds_i64 wf2
  clear hA0 hval0
  refine (walk l a b W (of_laid hL) bd0.1 bd0.2 bd1.1 bd1.2 bd2.1 bd2.2).mono fun e W' ⟨he, bel⟩ => ?_
  subst he
  exact ⟨_, rfl, _, _, _, [], _, [], hW', trodAll_mk1 (shut_bool Tryd.underlying4 _), (trodAll_cons_mk (shut_int Tryd.underlying22 wf0) (trodAll_cons_mk (shut_int Tryd.underlying3 wf1) (trodAll_cons_mk (shut_int Tryd.underlying3 wf2) trodAll_mk0))), rfl, bel.frame _, fun h => by cases h⟩

theorem over : Rows.wiresNamesRow.holds Tryd.pinned (OpenSpec.ofChange Rows.wiresNamesSpec) :=
  OpenClaim.holds_of_wide 7 Tryd.f7 rfl rfl rfl rfl rfl rfl rfl ⟨rfl, rfl, rfl, rfl, rfl⟩ rfl rfl rfl rfl rfl (by kernel_rfl) Tryd.func7 (by kernel_rfl)
    (of_decide_eq_true (by kernel_rfl)) (by unfold Func.isWrapper; first | (rw [if_pos (by decide +kernel)]; kernel_rfl) | (rw [if_neg (by decide +kernel)]; exact ⟨rfl, rfl⟩))
    (fun os started H enc _ => lifted os started H enc)

/-- The card: what the row lists is tied to the program's text. -/
theorem proved : Rows.WiresNamesCardSaid :=
  Claim7.holds_tied_plain_at .later [] [.data,.data] true Rows.wiresNamesCard.stood.harness false
    over (fun _ h => by cases h) (by kernel_rfl) (fun _ h => by cases h) wiresNames_row_tie rfl ⟨rfl, rfl⟩ (by kernel_rfl) rfl
    (fun f fn hf hfn => by
      obtain rfl : f = 7 := Option.some.inj ((show Tryd.prog.funcNamed "busbar/busbarlaw03.WiresNames" = some 7 by kernel_rfl).symm.trans hf) |>.symm
      obtain rfl : fn = Tryd.f7 := (Option.some.inj (Tryd.func7.symm.trans hfn)).symm
      exact ⟨by kernel_rfl, fun j t ht => by
        rw [Tryd.params7] at ht
        have hm : t ∈ [22, 3, 3] := by simpa using Array.mem_of_getElem? ht
        have hall : ([22, 3, 3].all fun u => !Tryd.prog.wantsStandIn u) = true := by kernel_rfl
        exact (show Tryd.prog.wantsStandIn t = false by simpa using List.all_eq_true.1 hall t hm)⟩)
    (by kernel_rfl)
end Go.Proofs.YtbhdenjahojbbaaDoor.lawWiresNames
