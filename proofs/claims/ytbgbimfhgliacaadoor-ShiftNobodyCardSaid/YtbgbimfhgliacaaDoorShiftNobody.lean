/- A shift that nobody made looked at nothing: for every bit that is asked and all lines; no condition but that the table of the lines is as the program's text lays it, which the card ties. -/
import Derived.Test.YtbgbimfhgliacaaDoorShfC
import Derived.Test.YtbgbimfhgliacaaDoorSh
import Derived.Test.YtbgbimfhgliacaaDoorTie
import Derived.Test.YtbgbimfhgliacaaDoorCards
import Derived.Test.YtbgbimfhgliacaaDoorLaid
import Derived.LaidMore
import Derived.SevenTiedAt
import Derived.Stop.Joined
import Derived.Test.YtbgbimfhgliacaaDoorRows
import Derived.WalkKit
import Derived.ProofKit
import Derived.OpenShut
import Derived.ShutString
import Derived.ChangeOld
import Derived.Below
namespace Go.Proofs.YtbgbimfhgliacaaDoor.lawShiftNobody
open Go.ChangeShapes Go.WideShapes Go.ChangeAt Go.RowKit Base
open Go.ChangeMaps (open_string shut_string)
set_option linter.unusedVariables false
set_option linter.unusedSimpArgs false
theorem own : ownKnob Tryd.prog.godebug = none := by kernel_rfl
theorem laidOut : laidOutB Tryd.prog = true := by kernel_rfl
open Ly15 Ly3

theorem gUp : Tryd.prog.globalNamed "busbar/wires.upright" = some 0 := by kernel_rfl
theorem tUp : (Tryd.prog.globals[0]?).map (·.type) = some 35 := by kernel_rfl
theorem of_laid {W : World} (h : laidMetH Tryd.prog Rows.shiftNobodyRow.laid W) : Up W := by
  rw [MakeChecks.laidMetH_plain _ _ _ (by kernel_rfl)] at h
  obtain ⟨ps, ⟨g0, t0, cs0, f0, p0, q0, hg0, ht0, hv0, hd0, _, _⟩, _, _⟩ := h
  obtain rfl := Option.some.inj (gUp.symm.trans hg0)
  obtain rfl := Option.some.inj (tUp.symm.trans ht0)
  have e := exact_cells (sh := .ar 4 .bool) 10 rfl (by kernel_rfl) hd0 rfl
  obtain ⟨l0⟩ := cs0
  simp at e
  subst e
  exact ⟨by simpa using World.var?_cell hg0 hv0 0, by simpa using World.var?_cell hg0 hv0 1, by simpa using World.var?_cell hg0 hv0 2, by simpa using World.var?_cell hg0 hv0 3⟩

def cellsN : Array Value := #[.bool false, .int .i64 0] ++ Array.replicate 1024 (.bool false)
theorem nob_new {w : World} {cs : Array Value} (e : cs.toList = .bool false :: .int .i64 0 :: List.replicate 1024 (.bool false)) : Nob (w.alloc (.cells cs 31)) (.pointer (some ⟨w.heap.size, 0, none⟩)) :=
  .inr ⟨_, rfl, ShF.of_list (Obj1.new _ _ _) e⟩

/-- What the blocks of Says hold, on a shift that nobody made. -/
def YRelN (w : World) (i : Value) (wr : World) : Prop := ∃ k : Nat, k ≤ 4 ∧ i = .int .i64 k ∧ Fo wr w.heap.size #[.bool false, .bool false, .bool false, .bool false] ∧ Below w.heap.size w wr
theorem fo_same {w : World} {s : Nat} (h : Fo w s #[.bool false, .bool false, .bool false, .bool false]) (k : Nat) (hk : k < 4) : Fo ((w.setCell ⟨s + 1 + 1, k, none⟩ (.bool false)).setCell ⟨s + 1 + 1 + 1, k, none⟩ (.bool false)) s #[.bool false, .bool false, .bool false, .bool false] := by
  have := h.set k (.bool false)
  rwa [show (#[.bool false, .bool false, .bool false, .bool false] : Array Value).setIfInBounds k (.bool false) = #[.bool false, .bool false, .bool false, .bool false] by rcases (show k = 0 ∨ k = 1 ∨ k = 2 ∨ k = 3 by omega) with rfl | rfl | rfl | rfl <;> rfl] at this
set_option maxRecDepth 100000 in
set_option maxHeartbeats 1000000 in
theorem says_nob (v : Value) (n : Int) (w : World) (h : Nob w v) : Calls Tryd.prog 7 #[v, .int .i64 n] w fun e w' => e = .returned (.tuple #[.agg #[.bool false, .bool false, .bool false, .bool false], .agg #[.bool false, .bool false, .bool false, .bool false]]) ∧ Hid (Below w.heap.size w w') := by
  have H := Lib.hid h
  have H4 := Lib.hid (fo_new w)
  clear h
  go_enter Tryd.func7, Tryd.ntmps7
  go_wp2
  go_loopw [9] (fun i wr => YRelN w i wr) (fun i _ => 4 - (intOf i).toNat)
  case atStart =>
    refine ⟨0, by omega, rfl, H4.out, ?_⟩
    repeat (first | exact Below.refl _ _ | refine Below.setCell ?_ (by first | omega | (simp; done) | (simp; omega)) _ | refine Below.alloc ?_ (by first | omega | (simp; done) | (simp; omega)) _ | refine below_drewN' ?_ _ | refine Below.drew ?_)
  case round =>
    clear H4
    obtain ⟨k, hk, rfl, h4, hbel⟩ := hrel
    have HB := Lib.hid hbel
    have HS := Lib.hid (H.out.kept hbel)
    have hz1 := hbel.size
    have K5 := Lib.hid h4
    clear hbel h4
    rcases (show k = 0 ∨ k = 1 ∨ k = 2 ∨ k = 3 ∨ k = 4 by omega) with rfl | rfl | rfl | rfl | rfl
    · go_wp2_with fail
      refine (line_nob _ _ _ _ HS.out).mono ?_
      rintro e w' ⟨rfl, rfl⟩
      have f2 := K5.out.2.2.1.free 0
      have f3 := K5.out.2.2.2.free 0
      have g2 := K5.out.2.2.1.cell 0
      have g3 := K5.out.2.2.2.cell 0
      go_wp2
      go_roundw
      case rel => exact ⟨1, by omega, rfl, fo_same K5.out 0 (by omega), (HB.out.setCell (by simp <;> omega) _).setCell (by simp <;> omega) _⟩
      case measure => simp [intOf]
    · go_wp2_with fail
      refine (line_nob _ _ _ _ HS.out).mono ?_
      rintro e w' ⟨rfl, rfl⟩
      have f2 := K5.out.2.2.1.free 1
      have f3 := K5.out.2.2.2.free 1
      have g2 := K5.out.2.2.1.cell 1
      have g3 := K5.out.2.2.2.cell 1
      go_wp2
      go_roundw
      case rel => exact ⟨2, by omega, rfl, fo_same K5.out 1 (by omega), (HB.out.setCell (by simp <;> omega) _).setCell (by simp <;> omega) _⟩
      case measure => simp [intOf]
    · go_wp2_with fail
      refine (line_nob _ _ _ _ HS.out).mono ?_
      rintro e w' ⟨rfl, rfl⟩
      have f2 := K5.out.2.2.1.free 2
      have f3 := K5.out.2.2.2.free 2
      have g2 := K5.out.2.2.1.cell 2
      have g3 := K5.out.2.2.2.cell 2
      go_wp2
      go_roundw
      case rel => exact ⟨3, by omega, rfl, fo_same K5.out 2 (by omega), (HB.out.setCell (by simp <;> omega) _).setCell (by simp <;> omega) _⟩
      case measure => simp [intOf]
    · go_wp2_with fail
      refine (line_nob _ _ _ _ HS.out).mono ?_
      rintro e w' ⟨rfl, rfl⟩
      have f2 := K5.out.2.2.1.free 3
      have f3 := K5.out.2.2.2.free 3
      have g2 := K5.out.2.2.1.cell 3
      have g3 := K5.out.2.2.2.cell 3
      go_wp2
      go_roundw
      case rel => exact ⟨4, by omega, rfl, fo_same K5.out 3 (by omega), (HB.out.setCell (by simp <;> omega) _).setCell (by simp <;> omega) _⟩
      case measure => simp [intOf]
    · have a0 := K5.out.1.cell 0
      have a1 := K5.out.1.cell 1
      have a2 := K5.out.1.cell 2
      have a3 := K5.out.1.cell 3
      have b0 := K5.out.2.1.cell 0
      have b1 := K5.out.2.1.cell 1
      have b2 := K5.out.2.1.cell 2
      have b3 := K5.out.2.1.cell 3
      have c0 := K5.out.2.2.1.cell 0
      have c1 := K5.out.2.2.1.cell 1
      have c2 := K5.out.2.2.1.cell 2
      have c3 := K5.out.2.2.1.cell 3
      have d0 := K5.out.2.2.2.cell 0
      have d1 := K5.out.2.2.2.cell 1
      have d2 := K5.out.2.2.2.cell 2
      have d3 := K5.out.2.2.2.cell 3
      simp at a0 a1 a2 a3 b0 b1 b2 b3 c0 c1 c2 c3 d0 d1 d2 d3
      have fa0 := K5.out.1.free 0
      have fa1 := K5.out.1.free 1
      have fa2 := K5.out.1.free 2
      have fa3 := K5.out.1.free 3
      have fb0 := K5.out.2.1.free 0
      have fb1 := K5.out.2.1.free 1
      have fb2 := K5.out.2.1.free 2
      have fb3 := K5.out.2.1.free 3
      go_wp2_with fail
      go_region
      go_wp2
      refine bodyPost_ret (v := .tuple #[.agg #[.bool false, .bool false, .bool false, .bool false], .agg #[.bool false, .bool false, .bool false, .bool false]]) (by simp [results, Tryd.results7, go_sem, a0, a1, a2, a3, b0, b1, b2, b3]) rfl ⟨rfl, ?_⟩
      exact Lib.hid (below8 HB.out _ _ _ _ _ _ _ _).drew

set_option maxRecDepth 100000 in
set_option maxHeartbeats 2000000 in
theorem walk (n l : Int) (w : World) (hU : Up w) (n0 : -9223372036854775808 ≤ n) (n1 : n ≤ 9223372036854775807) (l0 : 0 ≤ l) (l1 : l ≤ 255) :
    Calls Tryd.prog 3 #[.int .i64 n, .int .u8 l] w fun e w' => e = .returned (.bool true) ∧ Below w.heap.size w w' := by
  have HU := Lib.hid hU
  clear hU
  have HNil : Hid (∀ W : World, Nob W (.pointer none)) := fun W => .inl rfl
  go_enter Tryd.func3, Tryd.ntmps3
  go_wp2_with fail
  refine wp_loop_rounds 3 ?_
  rw [rounds_succ]
  go_upto_region 4 with (fail)
  refine wp_region_lit ?_
  repeat (first | refine wpList_build rfl 31 #[] rfl ?hb ?_ | go_step)
  case hb => kernel_rfl
  generalize hcs : Option.getD _ _ = cs
  have HC : Hid (cs.toList = .bool false :: .int .i64 0 :: List.replicate 1024 (.bool false)) := Lib.hid (by rw [← hcs]; kernel_rfl)
  clear hcs
  have HN := Lib.hid (nob_new (w := w) HC.out)
  clear HC
  go_wp2_with fail
  refine (put_nob _ _ _ _ _ HN.out).mono ?_
  rintro e w' ⟨rfl, rfl⟩
  go_wp2_with fail
  refine (put_nob _ _ _ _ _ HN.out).mono ?_
  rintro e w' ⟨rfl, rfl⟩
  go_wp2_with fail
  refine (line_nob _ _ _ _ HN.out).mono ?_
  rintro e w' ⟨rfl, rfl⟩
  go_wp2_with fail
  refine (says_nob _ _ _ HN.out).mono ?_
  rintro e w1 ⟨rfl, hb1⟩
  have HN1 := Lib.hid (((HN.out.kept hb1.out).kept ((Below.refl _ _).alloc (Nat.le_refl _) (.cells #[.bool false, .bool false, .bool false, .bool false] 35))).kept ((Below.refl _ _).alloc (Nat.le_refl _) (.cells #[.bool false, .bool false, .bool false, .bool false] 35)))
  have HB1 : Hid (Below w.heap.size w w1) := Lib.hid (((Below.refl _ _).alloc (Nat.le_refl _) _).trans (hb1.out.mono (by simp)))
  clear hb1
  go_wp2_with fail
  refine (bits_nob _ _ HN1.out).mono ?_
  rintro e w' ⟨rfl, rfl⟩
  go_wp2_with fail
  refine (seen_nob _ _ HN1.out).mono ?_
  rintro e w' ⟨rfl, rfl⟩
  have hn1 := fun W => arr_ne W
  go_wp2_with fail
  clear hn1
  rw [rounds_succ]
  go_upto_region 4 with (fail)
  refine wp_region_lit ?_
  repeat (first | refine wpList_build rfl 31 #[] rfl ?hb ?_ | go_step)
  case hb => kernel_rfl
  generalize Option.getD _ _ = cs2
  go_wp2_with fail
  refine (put_nob _ _ _ _ _ (HNil.out _)).mono ?_
  rintro e w' ⟨rfl, rfl⟩
  go_wp2_with fail
  refine (put_nob _ _ _ _ _ (HNil.out _)).mono ?_
  rintro e w' ⟨rfl, rfl⟩
  go_wp2_with fail
  refine (line_nob _ _ _ _ (HNil.out _)).mono ?_
  rintro e w' ⟨rfl, rfl⟩
  go_wp2_with fail
  refine (says_nob _ _ _ (HNil.out _)).mono ?_
  rintro e w2 ⟨rfl, hb2⟩
  have HB2 : Hid (Below w.heap.size w w2) := Lib.hid ((((HB1.out.alloc HB1.out.size _).alloc (by simp; exact Nat.le_succ_of_le HB1.out.size) _).alloc (by simp; exact Nat.le_trans HB1.out.size (by omega)) _).trans (hb2.out.mono (by simp; exact Nat.le_trans HB1.out.size (by omega))))
  clear hb2
  go_wp2_with fail
  refine (bits_nob _ _ (HNil.out _)).mono ?_
  rintro e w' ⟨rfl, rfl⟩
  go_wp2_with fail
  refine (seen_nob _ _ (HNil.out _)).mono ?_
  rintro e w' ⟨rfl, rfl⟩
  have hn2 := fun W => arr_ne W
  go_wp2_with fail
  clear hn2
  rw [rounds_succ]
  go_wp2_with fail
  have HUz := Lib.hid (HU.out.kept HB2.out)
  refine (one_any _ ((HUz.out.kept ((Below.refl _ _).alloc (Nat.le_refl _) _)).kept ((Below.refl _ _).alloc (Nat.le_refl _) _))).mono ?_
  rintro e w3 ⟨rfl, hb3⟩
  go_wp2
  go_ret
  exact ⟨rfl, ((HB2.out.alloc HB2.out.size _).alloc (by simp; exact Nat.le_succ_of_le HB2.out.size) _).trans (hb3.mono (by simp; exact Nat.le_trans HB2.out.size (by omega)))⟩

theorem door_met (os : Os) (args : Array Value) : laidMetH Tryd.prog Rows.shiftNobodyRow.laid ((World.doorLaid Tryd.prog 400 os).forCall (fun _ _ => 0) ⟨#[], args, []⟩).memory :=
  laidMetH_of_parts3 (fuel := 8) (laidMet_of_run' 8 (by kernel_rfl) (by kernel_rfl)) (by kernel_rfl) (by kernel_rfl)
set_option maxRecDepth 100000 in
theorem lifted (os : Os) (started : os.Started) (H : Type) (enc : TypeId × Value → H) :
    ReturnsInHanded {} Tryd.checked os 3 .any (fun w args => (Rows.shiftNobodySpec.pre enc Tryd.prog Tryd.f3 [] false w args ∧ laidMetH Tryd.prog Rows.shiftNobodyRow.laid w) ∧ sizedMet enc Tryd.prog Tryd.f3 (OpenSpec.ofChange Rows.shiftNobodySpec) false w args)
      (Rows.shiftNobodySpec.post enc Tryd.prog Tryd.f3 false true false false) := by
  refine returnsInHanded_of_change_and (C := Tryd.checked) (X := fun w _ => laidMetH Tryd.prog Rows.shiftNobodyRow.laid w) (fun _ _ _ hh h => h.of_heap hh) own started (by kernel_rfl) Tryd.func3
    (ChangeSpec.witness_shaped (enc := enc) (C := Tryd.checked) (os := os) (X := fun w _ => laidMetH Tryd.prog Rows.shiftNobodyRow.laid w) false (World.doorLaid Tryd.prog 400 os) #[.int .i64 0, .int .u8 0] 8 rfl (World.shaped_of_RefB (by kernel_rfl) (by kernel_rfl)) (by kernel_rfl) (by kernel_rfl) (by kernel_rfl) (door_met os _)) ?_
  intro W base args ds gs before hval0 hW _ _ hL _
  have hval : ∀ (j : Nat) t v, Tryd.f3.params[j]? = some t → args[j]? = some v → Value.okWide Tryd.prog W .any base t v := hval0
  have hW' := hW
  obtain ⟨p, q, hA0, hV, rfl, hfz, hnd⟩ := hW
  have hA : DataW.TrodAll enc Tryd.prog W 0 (fun _ => true) true Tryd.f3.params.toList args.toList ds p := hA0
  rw [Tryd.params3] at hA hval
  obtain ⟨v0, vs0, d0, ds0, p0, q0, hargs, rfl, rfl, h0, r0⟩ := trodAll_cons hA
  obtain ⟨v1, vs1, d1, ds1, p1, q1, rfl, rfl, rfl, h1, r1⟩ := trodAll_cons r0
  obtain ⟨rfl, rfl, rfl⟩ := trodAll_nil r1
  obtain rfl : args = #[v0, v1] := by cases args; simp_all
  obtain ⟨rfl, rfl⟩ := trodVars_none hV
  obtain ⟨n, rfl, rfl, rfl, wf0⟩ := open_int Tryd.underlying3 (hval 0 3 v0 rfl rfl) h0
  have bd0 := bounds_i64 wf0
  obtain ⟨l, rfl, rfl, rfl, wf1⟩ := open_int Tryd.underlying22 (hval 1 22 v1 rfl rfl) h1
  have bd1 := bounds_u8 wf1
  clear hA0 hval0
  refine (walk n l W (of_laid hL) bd0.1 bd0.2 bd1.1 bd1.2).mono fun e W' ⟨he, bel⟩ => ?_
  subst he
  exact ⟨_, rfl, _, _, _, [], _, [], hW', trodAll_mk1 (shut_bool Tryd.underlying4 _), (trodAll_cons_mk (shut_int Tryd.underlying3 wf0) (trodAll_cons_mk (shut_int Tryd.underlying22 wf1) trodAll_mk0)), rfl, bel.frame _, fun h => by cases h⟩

theorem over : Rows.shiftNobodyRow.holds Tryd.pinned (OpenSpec.ofChange Rows.shiftNobodySpec) :=
  OpenClaim.holds_of_wide 3 Tryd.f3 rfl rfl rfl rfl rfl rfl rfl ⟨rfl, rfl, rfl, rfl, rfl⟩ rfl rfl rfl rfl rfl (by kernel_rfl) Tryd.func3 (by kernel_rfl)
    (of_decide_eq_true (by kernel_rfl)) (by unfold Func.isWrapper; first | (rw [if_pos (by decide +kernel)]; kernel_rfl) | (rw [if_neg (by decide +kernel)]; exact ⟨rfl, rfl⟩))
    (fun os started H enc _ => lifted os started H enc)

/-- The card: what the row lists is tied to the program's text. -/
theorem proved : Rows.ShiftNobodyCardSaid :=
  Claim7.holds_tied_plain_at .later [] [.data] true Rows.shiftNobodyCard.stood.harness false
    over (fun _ h => by cases h) (by kernel_rfl) (fun _ h => by cases h) shiftNobody_row_tie rfl ⟨rfl, rfl⟩ (by kernel_rfl) rfl
    (fun f fn hf hfn => by
      obtain rfl : f = 3 := Option.some.inj ((show Tryd.prog.funcNamed "busbar/busbarlaw15.ShiftNobody" = some 3 by kernel_rfl).symm.trans hf) |>.symm
      obtain rfl : fn = Tryd.f3 := (Option.some.inj (Tryd.func3.symm.trans hfn)).symm
      exact ⟨by kernel_rfl, fun j t ht => by
        rw [Tryd.params3] at ht
        have hm : t ∈ [3, 22] := by simpa using Array.mem_of_getElem? ht
        have hall : ([3, 22].all fun u => !Tryd.prog.wantsStandIn u) = true := by kernel_rfl
        exact (show Tryd.prog.wantsStandIn t = false by simpa using List.all_eq_true.1 hall t hm)⟩)
    (by kernel_rfl)
end Go.Proofs.YtbgbimfhgliacaaDoor.lawShiftNobody
