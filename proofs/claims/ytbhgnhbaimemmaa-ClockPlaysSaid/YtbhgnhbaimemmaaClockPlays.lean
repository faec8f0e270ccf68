/- Whatever a clock does, it is at the document's place, in its frame, and has passed the places that it says: for every length, every list of steps and every place; no condition. -/
import Derived.Deep.DeepCutAuto
import Derived.Deep.CutBlock
import Derived.RegionTactic
import Derived.ChangeAlike
import Derived.Test.YtbhgnhbaimemmaaClkE
import Derived.Test.YtbhgnhbaimemmaaSh
import Derived.Test.YtbhgnhbaimemmaaRows
import Derived.WalkKit
import Derived.ProofKit
import Derived.OpenShut
import Derived.ShutString
import Derived.ChangeOld
import Derived.Below
namespace Go.Proofs.Ytbhgnhbaimemmaa.lawClockPlays
open Go.ChangeShapes Go.WideShapes Go.ChangeAt Go.RowKit Base
open Go.ChangeMaps (open_string shut_string)
set_option linter.unusedVariables false
set_option linter.unusedSimpArgs false
theorem own : ownKnob Try.prog.godebug = none := by kernel_rfl
theorem laidOut : laidOutB Try.prog = true := by kernel_rfl
open Ly5

/-- The clock and the document's one, d steps behind a place. -/
structure St (w wr : World) (b g : Nat) (aa d L f : Int) : Prop where
  aa0 : 0 ≤ aa
  aa1 : aa < L
  l0 : 8 ≤ L
  l1 : L ≤ 1048576
  d0 : 0 ≤ d
  d1 : d ≤ 2
  f0 : 0 ≤ f
  clk : Clk wr b (nx aa L d) L aa L f
  ref : Obj1 wr g 43 #[.int .i64 (nx aa L d), .int .i64 (nx aa L d - d), .int .i64 L, .int .i64 f]
  bel : Below w.heap.size w wr
theorem St.kept {w wr w' : World} {b g : Nat} {aa d L f : Int} (h : St w wr b g aa d L f) (hb : Below wr.heap.size wr w') : St w w' b g aa d L f :=
  ⟨h.aa0, h.aa1, h.l0, h.l1, h.d0, h.d1, h.f0, Obj1.kept h.clk hb, h.ref.kept hb, h.bel.trans (hb.mono h.bel.size)⟩
theorem rp0 (a l p : Int) : rpB a 0 l p = false := by
  unfold rpB
  rw [Bool.and_eq_false_imp]
  intro h
  have := of_decide_eq_true h
  first | (simp; done) | (simp; omega)
theorem rp1 (aa l p : Int) (h0 : 0 ≤ aa) (h1 : aa < l) (h8 : 8 ≤ l) : (nx aa l 1 == p) = rpB (nx aa l 1) 1 l p := by
  unfold rpB nx
  rw [Bool.eq_iff_iff]
  split <;> simp <;> omega
theorem rp2 (aa l p : Int) (h0 : 0 ≤ aa) (h1 : aa < l) (h8 : 8 ≤ l) : (nx aa l 1 == p || nx aa l 2 == p) = rpB (nx aa l 2) 2 l p := by
  unfold rpB nx
  rw [Bool.eq_iff_iff]
  split <;> split <;> simp <;> omega
theorem step_nx {a l : Int} (h0 : 0 ≤ a) (h1 : a < l) (h8 : 8 ≤ l) : Step a l (nx a l 1) := by unfold Step nx; split <;> omega
theorem step_nx2 {a l : Int} (h0 : 0 ≤ a) (h1 : a < l) (h8 : 8 ≤ l) : Step (nx a l 1) l (nx a l 2) := by unfold Step nx; split <;> split <;> omega
theorem passed_st {w wr : World} {b g : Nat} {aa d L f : Int} (p : Int) (h : St w wr b g aa d L f) :
    Calls Try.prog 30 #[.pointer (some ⟨b, 0, none⟩), .int .i64 p] wr fun e w' => e = .returned (.bool (rpB (nx aa L d) d L p)) ∧ Below wr.heap.size wr w' := by
  obtain ⟨h0, h1, l0, l1, d0, d1, f0, hc, _, _⟩ := h
  rcases (show d = 0 ∨ d = 1 ∨ d = 2 by omega) with rfl | rfl | rfl
  · rw [rp0]
    rw [nx_zero h1] at hc
    exact passed0 b aa L f p wr hc h0 h1 l1
  · rw [← rp1 aa L p h0 h1 l0]
    exact passed1 b _ L aa f p wr hc h0 h1 l0 l1 (step_nx h0 h1 l0)
  · rw [← rp2 aa L p h0 h1 l0]
    exact passed2 b _ (nx aa L 1) L aa f p wr hc h0 h1 l0 l1 (step_nx h0 h1 l0) (step_nx2 h0 h1 l0)
theorem rpassed_st {w wr : World} {b g : Nat} {aa d L f : Int} (p : Int) (h : St w wr b g aa d L f) (W : World) :
    Calls Try.prog 31 #[.agg #[.int .i64 (nx aa L d), .int .i64 (nx aa L d - d), .int .i64 L, .int .i64 f], .int .i64 p] W fun e w' => e = .returned (.bool (rpB (nx aa L d) d L p)) ∧ Below W.heap.size W w' := by
  obtain ⟨b0, b1⟩ := nx_bd h.aa0 h.aa1 h.d0 (by have := h.d1; have := h.l0; omega)
  exact rpassed _ _ _ _ _ W b0 b1 h.l1 h.d0 h.d1

set_option maxRecDepth 100000 in
set_option maxHeartbeats 1000000 in
theorem walk_no (x : Int) (A : Option Addr) (n c : Nat) (p : Int) (w : World) (h : x < 8 ∨ 1048576 < x) :
    Calls Try.prog 5 #[.int .i64 x, .slice A n c, .int .i64 p] w fun e w' => e = .returned (.bool true) ∧ Below w.heap.size w w' := by
  rcases (show x < 8 ∨ (8 ≤ x ∧ 1048576 < x) by omega) with g | ⟨g, g1⟩
  all_goals
    go_enter Try.func5, Try.ntmps5
    go_wp2_with fail
    refine (new_no _ _ h).mono ?_; rintro e w' ⟨rfl, rfl⟩
    go_wp2_with fail
    refine (one_any _).mono ?_
    rintro e w1 ⟨rfl, hb1⟩
    go_wp2
    go_ret
    exact ⟨rfl, hb1⟩

theorem row3 {w : World} {A : Option Addr} {n : Nat} {rows : List (List Value)} (hg : Grid w A n 3 rows) (hr : ∀ r ∈ rows, Reads w (.fld (.int .i64) (.fld (.int .i64) (.fld (.int .i64) .nil))) r) (k : Nat) (hk : k < n) :
    ∃ x y z : Int, ∃ b off, A = some ⟨b, off, none⟩ ∧ b < w.heap.size ∧ w.cell? ⟨b, off + k * 3, none⟩ = some (.int .i64 x) ∧ w.cell? ⟨b, off + k * 3 + 1, none⟩ = some (.int .i64 y) ∧ w.cell? ⟨b, off + k * 3 + 2, none⟩ = some (.int .i64 z) ∧
      ((-9223372036854775808 ≤ x ∧ x ≤ 9223372036854775807) ∧ (-9223372036854775808 ≤ y ∧ y ≤ 9223372036854775807) ∧ (-9223372036854775808 ≤ z ∧ z ≤ 9223372036854775807)) := by
  obtain ⟨b, off, e, hb, hc⟩ := hg.2 (by omega)
  have hkl : k < rows.length := by rw [hg.1]; exact hk
  obtain ⟨_, _, er, ⟨x, rfl, hx⟩, _, _, rfl, ⟨y, rfl, hy⟩, _, _, rfl, ⟨z, rfl, hz⟩, rfl⟩ := hr _ (List.getElem_mem hkl)
  have e2 : rows[k]? = some [.int .i64 x, .int .i64 y, .int .i64 z] := by rw [List.getElem?_eq_getElem hkl, er]; rfl
  refine ⟨x, y, z, b, off, e, hb, ?_, ?_, ?_, bounds_i64 hx, bounds_i64 hy, bounds_i64 hz⟩
  · have := hc k 0 hk (by omega); rw [e2] at this; simpa using this
  · have := hc k 1 hk (by omega); rw [e2] at this; simpa [Nat.add_assoc] using this
  · have := hc k 2 hk (by omega); rw [e2] at this; simpa [Nat.add_assoc] using this
def PRel (w : World) (b g n : Nat) (i : Value) (wr : World) : Prop := ∃ (k : Nat) (aa d L f : Int), k ≤ n ∧ k ≤ 100 ∧ f ≤ k ∧ i = .int .i64 k ∧ St w wr b g aa d L f
def KRel (wc : World) (a : Int) (i : Value) (wq : World) : Prop := ∃ (j : Nat) (x : Kin wc), j ≤ 7 ∧ i = .int .i64 (a + j) ∧ wq = x.world
def MRel (w : World) (b g k : Nat) (wx : World) : Prop := ∃ aa d L f : Int, f ≤ k + 1 ∧ St w wx b g aa d L f
set_option maxRecDepth 100000 in
set_option maxHeartbeats 4000000 in
theorem walk_in (x : Int) (A : Option Addr) (n c : Nat) (rows : List (List Value)) (p : Int) (w : World) (h0 : 8 ≤ x) (h1 : x ≤ 1048576) (hg : Grid w A n 3 rows) (hr : ∀ r ∈ rows, Reads w (.fld (.int .i64) (.fld (.int .i64) (.fld (.int .i64) .nil))) r) (hn : n ≤ 9223372036854775807) :
    Calls Try.prog 5 #[.int .i64 x, .slice A n c, .int .i64 p] w fun e w' => e = .returned (.bool true) ∧ Below w.heap.size w w' := by
  have HG := Lib.hid hg
  have HRR := Lib.hid hr
  clear hg hr
  go_enter Try.func5, Try.ntmps5
  go_wp2_with fail
  refine (new_yes x w h0 h1).mono ?_
  rintro e w1 ⟨rfl, hc1, hb1⟩
  have HC1 := Lib.hid hc1
  have HB1 := Lib.hid hb1
  have hz1 := hc1.lt
  clear hc1 hb1
  have hst : Hid (PRel w w.heap.size w1.heap.size n (.int .i64 0) (w1.alloc (.cells #[.int .i64 0, .int .i64 (-1), .int .i64 x, .int .i64 0] 43))) := by
    have e0 : nx (x - 1) x 1 = 0 := by unfold nx; rw [if_neg (by omega)]; omega
    refine Lib.hid ⟨0, x - 1, 1, x, 0, by omega, by omega, by omega, rfl, by omega, by omega, h0, h1, by omega, by omega, by omega, ?_, ?_, HB1.out.alloc HB1.out.size _⟩
    · rw [e0]; exact Obj1.alloc HC1.out _
    · rw [e0]; exact Obj1.new _ _ _
  go_wp2_with fail
  go_loopw [10] (fun i wr => PRel w w.heap.size w1.heap.size n i wr) (fun i _ => 100 - (intOf i).toNat)
  case atStart => exact hst.out
  case round =>
    obtain ⟨k, aa, d, L, f, hkn, hk100, hfk, rfl, hS⟩ := hrel
    have HS := Lib.hid hS
    clear hS hst
    have hSg := HS.out
    by_cases hlt : k < n ∧ k < 100
    · obtain ⟨hlt, hlt2⟩ := hlt
      obtain ⟨r0, r1, r2, hrow⟩ := row3 HG.out HRR.out k hlt
      obtain ⟨ab, ao, rfl, habl, a0, a1, a2, bd⟩ := hrow
      have a0' := (hSg.bel.cell (p := ⟨ab, ao + k * 3, none⟩) habl).trans a0
      have a1' := (hSg.bel.cell (p := ⟨ab, ao + k * 3 + 1, none⟩) habl).trans a1
      have a2' := (hSg.bel.cell (p := ⟨ab, ao + k * 3 + 2, none⟩) habl).trans a2
      clear a0 a1 a2 hSg
      obtain ⟨bd0, bd1, bd2⟩ := bd
      have HS0 := Lib.hid (HS.out.kept (w' := (wr.alloc (.cells #[.int .i64 r0, .int .i64 r1, .int .i64 r2] 45))) ((Below.refl _ _).alloc (Nat.le_refl _) _))
      have HACT := Lib.hid (Obj1.new wr 45 #[.int .i64 r0, .int .i64 r1, .int .i64 r2])
      have hbg : w.heap.size < w1.heap.size := hz1
      have hgr : w1.heap.size < wr.heap.size := HS.out.ref.lt
      go_upto_block 2 with (fail)
      go_cut [11] from 37 to 172 (fun _ wx => MRel w w.heap.size w1.heap.size k wx)
      case first =>
        have l0 := HS.out.l0
        have l1 := HS.out.l1
        rcases (show r0 = 6 ∨ r0 = 7 ∨ (¬ r0 = 6 ∧ ¬ r0 = 7) by omega) with rfl | rfl | ⟨n6, n7⟩
        · rcases (show r1 < 0 ∨ r1 = 0 ∨ (0 < r1 ∧ r1 < L - 1) ∨ r1 = L - 1 ∨ L - 1 < r1 by omega) with c | rfl | ⟨c, c'⟩ | rfl | c
          · skip
            go_wp2_with fail
            refine (set_any _ _ L aa L f _ _ HS0.out.clk l0 l1 (by omega) (by omega)).mono ?_
            rintro e w3 ⟨rfl, hc3, hw3⟩
            rw [show max 0 (min r1 (L - 1)) = 0 by omega] at hc3
            have o3 := HS0.out.ref.touch hw3 (by omega)
            have a3 := HACT.out.touch hw3 (by omega)
            have e0 := a3.cell 0
            have e1 := a3.cell 1
            have e2 := a3.cell 2
            have q0 := o3.cell 0
            have q1 := o3.cell 1
            have q2 := o3.cell 2
            have qf0 := o3.free 0
            have qf1 := o3.free 1
            simp only [List.getElem?_toArray, List.getElem?_cons_zero, List.getElem?_cons_succ] at e0 e1 e2 q0 q1 q2
            have M : MRel w w.heap.size w1.heap.size k ((w3.setCell ⟨w1.heap.size, 0, none⟩ (.int .i64 0)).setCell ⟨w1.heap.size, 1, none⟩ (.int .i64 0)) := by
              refine ⟨0, 0, L, f, by omega, by omega, by omega, l0, l1, by omega, by omega, HS0.out.f0, ?_, ?_, ?_⟩
              · rw [nx_zero (by omega)]; exact (Obj1.far (Obj1.far hc3 _ (by simp; omega) _) _ (by simp; omega) _)
              · rw [nx_zero (by omega), Int.sub_zero]; exact (o3.set 0 _).set 1 _
              · exact (((HS0.out.bel.trans (hw3.below (Nat.le_refl _) HS0.out.bel.size))).setCell (by simp; omega) _).setCell (by simp; omega) _
            have HM := Lib.hid M
            clear M hc3 hw3 o3 a3
            go_wp2_with fail
            all_goals first | (exfalso; omega) | skip
            all_goals
              go_meet
              exact HM.out
          · skip
            go_wp2_with fail
            refine (set_any _ _ L aa L f _ _ HS0.out.clk l0 l1 (by omega) (by omega)).mono ?_
            rintro e w3 ⟨rfl, hc3, hw3⟩
            rw [show max 0 (min 0 (L - 1)) = 0 by omega] at hc3
            have o3 := HS0.out.ref.touch hw3 (by omega)
            have a3 := HACT.out.touch hw3 (by omega)
            have e0 := a3.cell 0
            have e1 := a3.cell 1
            have e2 := a3.cell 2
            have q0 := o3.cell 0
            have q1 := o3.cell 1
            have q2 := o3.cell 2
            have qf0 := o3.free 0
            have qf1 := o3.free 1
            simp only [List.getElem?_toArray, List.getElem?_cons_zero, List.getElem?_cons_succ] at e0 e1 e2 q0 q1 q2
            have M : MRel w w.heap.size w1.heap.size k ((w3.setCell ⟨w1.heap.size, 0, none⟩ (.int .i64 0)).setCell ⟨w1.heap.size, 1, none⟩ (.int .i64 0)) := by
              refine ⟨0, 0, L, f, by omega, by omega, by omega, l0, l1, by omega, by omega, HS0.out.f0, ?_, ?_, ?_⟩
              · rw [nx_zero (by omega)]; exact (Obj1.far (Obj1.far hc3 _ (by simp; omega) _) _ (by simp; omega) _)
              · rw [nx_zero (by omega), Int.sub_zero]; exact (o3.set 0 _).set 1 _
              · exact (((HS0.out.bel.trans (hw3.below (Nat.le_refl _) HS0.out.bel.size))).setCell (by simp; omega) _).setCell (by simp; omega) _
            have HM := Lib.hid M
            clear M hc3 hw3 o3 a3
            go_wp2_with fail
            all_goals first | (exfalso; omega) | skip
            all_goals
              go_meet
              exact HM.out
          · skip
            go_wp2_with fail
            refine (set_any _ _ L aa L f _ _ HS0.out.clk l0 l1 (by omega) (by omega)).mono ?_
            rintro e w3 ⟨rfl, hc3, hw3⟩
            rw [show max 0 (min r1 (L - 1)) = r1 by omega] at hc3
            have o3 := HS0.out.ref.touch hw3 (by omega)
            have a3 := HACT.out.touch hw3 (by omega)
            have e0 := a3.cell 0
            have e1 := a3.cell 1
            have e2 := a3.cell 2
            have q0 := o3.cell 0
            have q1 := o3.cell 1
            have q2 := o3.cell 2
            have qf0 := o3.free 0
            have qf1 := o3.free 1
            simp only [List.getElem?_toArray, List.getElem?_cons_zero, List.getElem?_cons_succ] at e0 e1 e2 q0 q1 q2
            have M : MRel w w.heap.size w1.heap.size k ((w3.setCell ⟨w1.heap.size, 0, none⟩ (.int .i64 r1)).setCell ⟨w1.heap.size, 1, none⟩ (.int .i64 r1)) := by
              refine ⟨r1, 0, L, f, by omega, by omega, by omega, l0, l1, by omega, by omega, HS0.out.f0, ?_, ?_, ?_⟩
              · rw [nx_zero (by omega)]; exact (Obj1.far (Obj1.far hc3 _ (by simp; omega) _) _ (by simp; omega) _)
              · rw [nx_zero (by omega), Int.sub_zero]; exact (o3.set 0 _).set 1 _
              · exact (((HS0.out.bel.trans (hw3.below (Nat.le_refl _) HS0.out.bel.size))).setCell (by simp; omega) _).setCell (by simp; omega) _
            have HM := Lib.hid M
            clear M hc3 hw3 o3 a3
            go_wp2_with fail
            all_goals first | (exfalso; omega) | skip
            all_goals
              go_meet
              exact HM.out
          · skip
            go_wp2_with fail
            refine (set_any _ _ L aa L f _ _ HS0.out.clk l0 l1 (by omega) (by omega)).mono ?_
            rintro e w3 ⟨rfl, hc3, hw3⟩
            rw [show max 0 (min (L - 1) (L - 1)) = (L - 1) by omega] at hc3
            have o3 := HS0.out.ref.touch hw3 (by omega)
            have a3 := HACT.out.touch hw3 (by omega)
            have e0 := a3.cell 0
            have e1 := a3.cell 1
            have e2 := a3.cell 2
            have q0 := o3.cell 0
            have q1 := o3.cell 1
            have q2 := o3.cell 2
            have qf0 := o3.free 0
            have qf1 := o3.free 1
            simp only [List.getElem?_toArray, List.getElem?_cons_zero, List.getElem?_cons_succ] at e0 e1 e2 q0 q1 q2
            have M : MRel w w.heap.size w1.heap.size k ((w3.setCell ⟨w1.heap.size, 0, none⟩ (.int .i64 (L - 1))).setCell ⟨w1.heap.size, 1, none⟩ (.int .i64 (L - 1))) := by
              refine ⟨(L - 1), 0, L, f, by omega, by omega, by omega, l0, l1, by omega, by omega, HS0.out.f0, ?_, ?_, ?_⟩
              · rw [nx_zero (by omega)]; exact (Obj1.far (Obj1.far hc3 _ (by simp; omega) _) _ (by simp; omega) _)
              · rw [nx_zero (by omega), Int.sub_zero]; exact (o3.set 0 _).set 1 _
              · exact (((HS0.out.bel.trans (hw3.below (Nat.le_refl _) HS0.out.bel.size))).setCell (by simp; omega) _).setCell (by simp; omega) _
            have HM := Lib.hid M
            clear M hc3 hw3 o3 a3
            go_wp2_with fail
            all_goals first | (exfalso; omega) | skip
            all_goals
              go_meet
              exact HM.out
          · skip
            go_wp2_with fail
            refine (set_any _ _ L aa L f _ _ HS0.out.clk l0 l1 (by omega) (by omega)).mono ?_
            rintro e w3 ⟨rfl, hc3, hw3⟩
            rw [show max 0 (min r1 (L - 1)) = (L - 1) by omega] at hc3
            have o3 := HS0.out.ref.touch hw3 (by omega)
            have a3 := HACT.out.touch hw3 (by omega)
            have e0 := a3.cell 0
            have e1 := a3.cell 1
            have e2 := a3.cell 2
            have q0 := o3.cell 0
            have q1 := o3.cell 1
            have q2 := o3.cell 2
            have qf0 := o3.free 0
            have qf1 := o3.free 1
            simp only [List.getElem?_toArray, List.getElem?_cons_zero, List.getElem?_cons_succ] at e0 e1 e2 q0 q1 q2
            have M : MRel w w.heap.size w1.heap.size k ((w3.setCell ⟨w1.heap.size, 0, none⟩ (.int .i64 (L - 1))).setCell ⟨w1.heap.size, 1, none⟩ (.int .i64 (L - 1))) := by
              refine ⟨(L - 1), 0, L, f, by omega, by omega, by omega, l0, l1, by omega, by omega, HS0.out.f0, ?_, ?_, ?_⟩
              · rw [nx_zero (by omega)]; exact (Obj1.far (Obj1.far hc3 _ (by simp; omega) _) _ (by simp; omega) _)
              · rw [nx_zero (by omega), Int.sub_zero]; exact (o3.set 0 _).set 1 _
              · exact (((HS0.out.bel.trans (hw3.below (Nat.le_refl _) HS0.out.bel.size))).setCell (by simp; omega) _).setCell (by simp; omega) _
            have HM := Lib.hid M
            clear M hc3 hw3 o3 a3
            go_wp2_with fail
            all_goals first | (exfalso; omega) | skip
            all_goals
              go_meet
              exact HM.out
        · have e0 := HACT.out.cell 0
          have e1 := HACT.out.cell 1
          have e2 := HACT.out.cell 2
          simp only [List.getElem?_toArray, List.getElem?_cons_zero, List.getElem?_cons_succ] at e0 e1 e2
          by_cases hfine : 8 ≤ r2 ∧ r2 ≤ 1048576 ∧ 0 ≤ r1 ∧ r1 < r2
          · obtain ⟨u0, u1, u2, u3⟩ := hfine
            go_wp2_with fail
            refine (enter_yes _ _ L aa L f _ _ _ HS0.out.clk (by omega) u0 u1 u2 u3).mono ?_
            rintro e w3 ⟨rfl, hc3, hw3⟩
            clear e0 e1 e2
            have o3 := HS0.out.ref.touch hw3 (by omega)
            have a3 := HACT.out.touch hw3 (by omega)
            have e0 := a3.cell 0
            have e1 := a3.cell 1
            have e2 := a3.cell 2
            have q0 := o3.cell 0
            have q1 := o3.cell 1
            have q2 := o3.cell 2
            have q3 := o3.cell 3
            have qf0 := o3.free 0
            have qf1 := o3.free 1
            have qf2 := o3.free 2
            have qf3 := o3.free 3
            simp only [List.getElem?_toArray, List.getElem?_cons_zero, List.getElem?_cons_succ] at e0 e1 e2 q0 q1 q2 q3
            have M : MRel w w.heap.size w1.heap.size k (((w3.drew.setCell ⟨w1.heap.size, 0, none⟩ (.int .i64 r1)).setCell ⟨w1.heap.size, 1, none⟩ (.int .i64 r1)).setCell ⟨w1.heap.size, 2, none⟩ (.int .i64 r2)) := by
              refine ⟨r1, 0, r2, f, by omega, u2, u3, u0, u1, by omega, by omega, HS0.out.f0, ?_, ?_, ?_⟩
              · rw [nx_zero (by omega)]; exact (Obj1.far (Obj1.far (Obj1.far (Obj1.drew hc3) _ (by simp; omega) _) _ (by simp; omega) _) _ (by simp; omega) _)
              · rw [nx_zero (by omega), Int.sub_zero]; exact ((o3.drew.set 0 _).set 1 _).set 2 _
              · exact (((((HS0.out.bel.trans (hw3.below (Nat.le_refl _) HS0.out.bel.size))).drew).setCell (by simp; omega) _).setCell (by simp; omega) _).setCell (by simp; omega) _
            have HM := Lib.hid M
            clear M hc3 hw3 o3 a3
            go_wp2_with fail
            go_region
            all_goals
              go_wp2_with fail
              go_meet
              exact HM.out
          · have HM : Hid (MRel w w.heap.size w1.heap.size k (wr.alloc (.cells #[.int .i64 7, .int .i64 r1, .int .i64 r2] 45))) := Lib.hid ⟨aa, d, L, f, by omega, HS0.out⟩
            rcases (show r2 < 8 ∨ (8 ≤ r2 ∧ 1048576 < r2) ∨ (8 ≤ r2 ∧ r2 ≤ 1048576 ∧ r1 < 0) ∨ (8 ≤ r2 ∧ r2 ≤ 1048576 ∧ 0 ≤ r1 ∧ r2 ≤ r1) by omega) with u | ⟨u, u1⟩ | ⟨u, u1, u2⟩ | ⟨u, u1, u2, u3⟩
            all_goals
              clear hfine
              go_wp2_with fail
              refine (enter_no _ _ L aa L f _ _ _ HS0.out.clk (by omega) (by omega)).mono ?_
              rintro e w' ⟨rfl, rfl⟩
              go_wp2_with fail
              go_meet
              exact HM.out
        · have e0 := HACT.out.cell 0
          have e1 := HACT.out.cell 1
          have e2 := HACT.out.cell 2
          simp only [List.getElem?_toArray, List.getElem?_cons_zero, List.getElem?_cons_succ] at e0 e1 e2
          have n6' : (r0 == 6) = false := by simpa using n6
          have n7' : (r0 == 7) = false := by simpa using n7
          obtain ⟨A0, A1⟩ := nx_bd HS0.out.aa0 HS0.out.aa1 HS0.out.d0 (by have := HS0.out.d1; omega)
          go_wp2_with fail
          refine (tick_any _ _ L aa L f r1 _ HS0.out.clk A0 A1 l1 l0 HS0.out.f0 (by omega) (by omega) (by omega)).mono ?_
          rintro e w3 ⟨rfl, hc3, hw3⟩
          clear e0 e1 e2
          have o3 := HS0.out.ref.touch hw3 (by omega)
          have a3 := HACT.out.touch hw3 (by omega)
          have e0 := a3.cell 0
          have e1 := a3.cell 1
          have e2 := a3.cell 2
          have q0 := o3.cell 0
          have q1 := o3.cell 1
          have q2 := o3.cell 2
          have q3 := o3.cell 3
          simp only [List.getElem?_toArray, List.getElem?_cons_zero, List.getElem?_cons_succ] at e0 e1 e2 q0 q1 q2 q3
          have hcl : 0 ≤ cl r1 ∧ cl r1 ≤ 2 := by unfold cl; split; omega; split <;> omega
          have hnf := nf_bd (a := nx aa L d) (l := L) (d := cl r1) (f := f)
          have HC3 := Lib.hid hc3
          have HO3 := Lib.hid o3
          have HW3 := Lib.hid (HS0.out.bel.trans (hw3.below (Nat.le_refl _) HS0.out.bel.size))
          clear hc3 o3 a3 hw3
          go_wp2_with fail
          refine (rtick (nx aa L d) (nx aa L d - d) L f r1 _ A0 A1 l0 l1 HS0.out.f0 (by omega) (by omega) (by omega)).mono ?_
          rintro e w4 ⟨rfl, hb4⟩
          have o4 := HO3.out.kept hb4
          have f0 := o4.free 0
          have f1 := o4.free 1
          have f2 := o4.free 2
          have f3 := o4.free 3
          have z0 := o4.cell 0
          have z1 := o4.cell 1
          have z2 := o4.cell 2
          have z3 := o4.cell 3
          simp only [List.getElem?_toArray, List.getElem?_cons_zero, List.getElem?_cons_succ] at z0 z1 z2 z3
          have M : MRel w w.heap.size w1.heap.size k ((((w4.setCell ⟨w1.heap.size, 0, none⟩ (.int .i64 (nx (nx aa L d) L (cl r1)))).setCell ⟨w1.heap.size, 1, none⟩ (.int .i64 (nx (nx aa L d) L (cl r1) - cl r1))).setCell ⟨w1.heap.size, 2, none⟩ (.int .i64 L)).setCell ⟨w1.heap.size, 3, none⟩ (.int .i64 (nf (nx aa L d) L (cl r1) f))) := by
            refine ⟨nx aa L d, cl r1, L, nf (nx aa L d) L (cl r1) f, by omega, A0, A1, l0, l1, hcl.1, hcl.2, by have := HS0.out.f0; omega, ?_, ?_, ?_⟩
            · exact Obj1.far (Obj1.far (Obj1.far (Obj1.far (Obj1.kept HC3.out hb4) _ (by simp; omega) _) _ (by simp; omega) _) _ (by simp; omega) _) _ (by simp; omega) _
            · exact (((o4.set 0 _).set 1 _).set 2 _).set 3 _
            · exact ((((HW3.out.trans (hb4.mono HW3.out.size)).setCell (by simp; omega) _).setCell (by simp; omega) _).setCell (by simp; omega) _).setCell (by simp; omega) _
          have HM := Lib.hid M
          clear M o4 hb4
          go_wp2_with fail
          go_meet
          exact HM.out
      case rest =>
        obtain ⟨aa', d', L', f', hf', hS'⟩ := hcut
        have HS' := Lib.hid hS'
        have HK := Lib.hid (fun q : Kin wc => hS'.kept q.below)
        have hL : 0 < L' := by have := hS'.l0; omega
        obtain ⟨A0, A1⟩ := nx_bd hS'.aa0 hS'.aa1 hS'.d0 (by have := hS'.d1; have := hS'.l0; omega)
        have hLb := hS'.l1
        have g0 := fun q : Kin wc => (HK.out q).ref.cell 0
        have g1 := fun q : Kin wc => (HK.out q).ref.cell 1
        have g2 := fun q : Kin wc => (HK.out q).ref.cell 2
        have g3 := fun q : Kin wc => (HK.out q).ref.cell 3
        simp only [List.getElem?_toArray, List.getElem?_cons_zero, List.getElem?_cons_succ] at g0 g1 g2 g3
        clear hS'
        obtain ⟨wo, rfl⟩ : ∃ wo : World, wo = wr := ⟨_, rfl⟩
        go_wp2_with fail
        refine wp_region_kin (by kernel_rfl) (by kernel_rfl) ?_
        repeat (go_big_quiet_step (first | (go_at_call 27; exact Calls.kin_same _ (pos_any _ _ _ _ _ _ _ (HK.out _).clk hL)) | (go_at_call 28; exact Calls.kin_same _ (long_any _ _ _ _ _ _ _ (HK.out _).clk hL)) | (go_at_call 29; exact Calls.kin_same _ (frame_any _ _ _ _ _ _ _ (HK.out _).clk hL)) | (go_at_call 30; exact Calls.kin _ (passed_st p (HK.out _))) | (go_at_call 31; exact Calls.kin _ (rpassed_st p HS'.out _))))
        refine wpQuiet_nil ?_
        intro _ hw'
        obtain ⟨kx, hw''⟩ := hw'
        subst hw''
        go_wp2_with fail
        go_loopw [14] (fun i wq => KRel wc (nx aa' L' d' - 3) i wq) (fun i _ => (nx aa' L' d' + 4 - intOf i).toNat)
        case atStart => exact ⟨0, kx, by omega, by simp, rfl⟩
        case round =>
          obtain ⟨j, z, hj, rfl, rfl⟩ := hrel
          rcases Nat.lt_or_eq_of_le hj with hj2 | hj2
          · go_wp2_with fail
            refine wp_region_kin2 (by kernel_rfl) (by kernel_rfl) ?_
            repeat (go_big_quiet_step (first | (go_at_call 30; exact Calls.kin _ (passed_st _ (HK.out _))) | (go_at_call 31; exact Calls.kin _ (rpassed_st _ HS'.out _))))
            refine wpQuiet_nil ?_
            intro _ hw'
            obtain ⟨kx, hw''⟩ := hw'
            subst hw''
            go_wp2
            go_roundw
            case rel => exact ⟨j + 1, kx, by omega, by push_cast; rw [Int.add_assoc], rfl⟩
            case measure => simp [intOf]; omega
          · subst hj2
            go_wp2
            go_roundw
            case rel => exact ⟨k + 1, aa', d', L', f', by omega, by omega, by push_cast; omega, by push_cast; rfl, HK.out z⟩
            case measure => simp [intOf]; omega
    · rcases (show k = n ∨ (k < n ∧ k = 100) by omega) with rfl | ⟨g1, rfl⟩
      all_goals
        clear hlt
        go_wp2_with fail
        refine (one_any _).mono ?_
        rintro e w9 ⟨rfl, hb9⟩
        go_wp2
        go_ret
        exact ⟨rfl, hSg.bel.trans (hb9.mono hSg.bel.size)⟩
theorem walk (x : Int) (A : Option Addr) (n c : Nat) (rows : List (List Value)) (p : Int) (w : World) (_ : -9223372036854775808 ≤ x) (_ : x ≤ 9223372036854775807) (hg : Grid w A n 3 rows) (hr : ∀ r ∈ rows, Reads w (.fld (.int .i64) (.fld (.int .i64) (.fld (.int .i64) .nil))) r) (hnc : n ≤ c) (hcm : c ≤ maxLen) (_ : -9223372036854775808 ≤ p) (_ : p ≤ 9223372036854775807) :
    Calls Try.prog 5 #[.int .i64 x, .slice A n c, .int .i64 p] w fun e w' => e = .returned (.bool true) ∧ Below w.heap.size w w' := by
  unfold maxLen at hcm
  by_cases h : 8 ≤ x ∧ x ≤ 1048576
  · exact walk_in x A n c rows p w h.1 h.2 hg hr (by omega)
  · exact walk_no x A n c p w (by omega)

set_option maxRecDepth 100000 in
theorem lifted (os : Os) (started : os.Started) (H : Type) (enc : TypeId × Value → H) :
    ReturnsInHanded {} Try.checked os 5 .any (Rows.clockPlaysSpec.pre6 enc Try.prog Try.f5 Rows.clockPlaysRow.domain false) (Rows.clockPlaysSpec.post enc Try.prog Try.f5 false true false false) := by
  refine returnsInHanded_of_change (C := Try.checked) own started (by kernel_rfl) Try.func5
    (ChangeSpec.witness6 (enc := enc) (C := Try.checked) false ⟨#[], #[.int .i64 0, .slice none 0 0, .int .i64 0], []⟩ 8 (by kernel_rfl) (by kernel_rfl) (by kernel_rfl) (by kernel_rfl)) ?_
  intro W base args ds gs before hval0 hW hcnd _
  have hval : ∀ (j : Nat) t v, Try.f5.params[j]? = some t → args[j]? = some v → Value.okWide Try.prog W .any base t v := hval0
  have hW' := hW
  obtain ⟨p, q, hA0, hV, rfl, hfz, hnd⟩ := hW
  have hA : DataW.TrodAll enc Try.prog W 0 (fun _ => true) true Try.f5.params.toList args.toList ds p := hA0
  rw [Try.params5] at hA hval
  obtain ⟨v0, vs0, d0, ds0, p0, q0, hargs, rfl, rfl, h0, r0⟩ := trodAll_cons hA
  obtain ⟨v1, vs1, d1, ds1, p1, q1, rfl, rfl, rfl, h1, r1⟩ := trodAll_cons r0
  obtain ⟨v2, vs2, d2, ds2, p2, q2, rfl, rfl, rfl, h2, r2⟩ := trodAll_cons r1
  obtain ⟨rfl, rfl, rfl⟩ := trodAll_nil r2
  obtain rfl : args = #[v0, v1, v2] := by cases args; simp_all
  obtain ⟨rfl, rfl⟩ := trodVars_none hV
  obtain ⟨x, rfl, rfl, rfl, wf0⟩ := open_int Try.underlying3 (hval 0 3 v0 rfl rfl) h0
  have bd0 := bounds_i64 wf0
  have k1 := h1
  have lt1 : ∀ x ∈ p1, x.block < W.heap.size := by obtain ⟨m, hm⟩ := k1; exact DataW.trod_lt m _ _ _ hm
  obtain ⟨lA, ln, lc, rfl⟩ := okWide_slice Try.underlying38 (hval 1 38 v1 rfl rfl)
  obtain ⟨l, g1, rd1, cb1, cc1⟩ := reads_slice (e := .fld (.int .i64) (.fld (.int .i64) (.fld (.int .i64) .nil))) 30 (by kernel_rfl) k1
  obtain ⟨p, rfl, rfl, rfl, wf2⟩ := open_int Try.underlying3 (hval 2 3 v2 rfl rfl) h2
  have bd2 := bounds_i64 wf2
  clear hA0 hval0
  refine (walk x lA ln lc l p W bd0.1 bd0.2 g1 rd1 cb1 cc1 bd2.1 bd2.2).mono fun e W' ⟨he, bel⟩ => ?_
  subst he
  exact ⟨_, rfl, _, _, _, [], _, [], hW', trodAll_mk1 (shut_bool Try.underlying4 _), (trodAll_cons_mk (shut_int Try.underlying3 wf0) (trodAll_cons_mk (Below.trod laidOut (by kernel_rfl) (of_decide_eq_true (by kernel_rfl)) k1 bel lt1) (trodAll_cons_mk (shut_int Try.underlying3 wf2) trodAll_mk0))), rfl, bel.frame _, fun h => by cases h⟩

theorem over : Rows.clockPlaysRow.holds Try.pinned (OpenSpec.ofChange Rows.clockPlaysSpec) :=
  OpenClaim.holds_of_wide 5 Try.f5 rfl rfl rfl rfl rfl rfl rfl ⟨rfl, rfl, rfl, rfl, rfl⟩ rfl rfl rfl rfl rfl (by kernel_rfl) Try.func5 (by kernel_rfl)
    (of_decide_eq_true (by kernel_rfl)) (by unfold Func.isWrapper; first | (rw [if_pos (by decide +kernel)]; kernel_rfl) | (rw [if_neg (by decide +kernel)]; exact ⟨rfl, rfl⟩))
    (fun os started H enc _ => lifted os started H enc)

/-- The statement. -/
theorem proved : Rows.ClockPlaysSaid := over
end Go.Proofs.Ytbhgnhbaimemmaa.lawClockPlays
