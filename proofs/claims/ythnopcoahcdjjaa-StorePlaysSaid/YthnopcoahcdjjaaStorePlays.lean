/- Whatever is written, spoilt, and however many frames go by, each answer, and each place, is the document's: for every list of steps, and every range; no condition. -/
import Derived.Deep.DeepCutAuto
import Derived.Deep.CutBlock
import Derived.RegionTactic
import Derived.Test.YthnopcoahcdjjaaStoG
import Derived.Test.YthnopcoahcdjjaaSh
import Derived.Test.YthnopcoahcdjjaaRows
import Derived.WalkKit
import Derived.ProofKit
import Derived.OpenShut
import Derived.ShutString
import Derived.ChangeOld
import Derived.Below
namespace Go.Proofs.Ythnopcoahcdjjaa.lawStorePlays
open Go.ChangeShapes Go.WideShapes Go.ChangeAt Go.RowKit Base
open Go.ChangeMaps (open_string shut_string)
set_option linter.unusedVariables false
set_option linter.unusedSimpArgs false
theorem own : ownKnob Try.prog.godebug = none := by kernel_rfl
theorem laidOut : laidOutB Try.prog = true := by kernel_rfl
open Ly13

/-- The store and the document's places hold the same. -/
def Both (w : World) (bs br : Nat) (f : Nat → Int) (p : Nat → Bool) (x : Nat → Int) (wr : World) : Prop := Below w.heap.size w wr ∧ Sto wr bs f p x ∧ RS wr br f p x
theorem Both.kept {w wr w' : World} {bs br : Nat} {f : Nat → Int} {p : Nat → Bool} {x : Nat → Int} (h : Both w bs br f p x wr) (hb : Below wr.heap.size wr w') : Both w bs br f p x w' := ⟨h.1.trans (hb.mono h.1.size), h.2.1.kept hb, h.2.2.kept hb⟩
def PRel (w : World) (bs br n : Nat) (i : Value) (wr : World) : Prop := ∃ (k : Nat) (f : Nat → Int) (p : Nat → Bool) (x : Nat → Int), k ≤ n ∧ k ≤ 60 ∧ i = .int .i64 k ∧ (∀ j, j < 64 → 0 ≤ x j ∧ x j ≤ k) ∧ Both w bs br f p x wr
def MRel (w : World) (bs br k : Nat) (wx : World) : Prop := ∃ (f : Nat → Int) (p : Nat → Bool) (x : Nat → Int), (∀ j, j < 64 → 0 ≤ x j ∧ x j ≤ k + 1) ∧ Both w bs br f p x wx
def KRel (wc : World) (i : Value) (wq : World) : Prop := ∃ (j : Nat) (x : Kin wc), j ≤ 66 ∧ i = .int .i64 ((j : Int) - 1) ∧ wq = x.world
/-- Behind j of the places: the store holds all, the document's places j of them. -/
def WRel (w wr : World) (bs br ba : Nat) (act : Array Value) (f : Nat → Int) (p : Nat → Bool) (x : Nat → Int) (a n : Nat) (ws : List Int) (i : Value) (wq : World) : Prop :=
  ∃ j : Nat, j ≤ n ∧ i = .int .i64 j ∧ Below w.heap.size w wq ∧ Sto wq bs (ovrW f a ws) (ovr p a n true) (ovr x a n 0) ∧ RS wq br (ovrW f a (ws.take j)) (ovr p a j true) (ovr x a j 0) ∧ Obj1 wq ba 70 act
def SRel (w wr : World) (bs br ba : Nat) (act : Array Value) (f : Nat → Int) (p : Nat → Bool) (x : Nat → Int) (a n : Nat) (i : Value) (wq : World) : Prop :=
  ∃ j : Nat, j ≤ n ∧ i = .int .i64 j ∧ Below w.heap.size w wq ∧ Sto wq bs f (ovr p a n false) (ovr x a n 0) ∧ RS wq br f (ovr p a j false) (ovr x a j 0) ∧ Obj1 wq ba 70 act
def FRel (w : World) (bs br : Nat) (f : Nat → Int) (p : Nat → Bool) (x : Nat → Int) (i : Value) (wq : World) : Prop :=
  ∃ j : Nat, j ≤ 64 ∧ i = .int .i64 j ∧ Below w.heap.size w wq ∧ Sto wq bs f p (agd p x 64) ∧ RS wq br f p (agx p x j)

theorem spn (x : Nat → Int) (a n k : Nat) (h : ∀ j, j < 64 → 0 ≤ x j ∧ x j ≤ k) (j : Nat) (hj : j < 64) : 0 ≤ ovr x a n 0 j ∧ ovr x a n 0 j ≤ k + 1 := by
  unfold ovr
  have := h j hj
  split <;> omega

set_option maxRecDepth 100000 in
set_option maxHeartbeats 8000000 in
theorem walk_in (A : Option Addr) (n c : Nat) (rows : List (List Value)) (a0 m0 : Int) (w : World) (hg : Grid w A n (Sh.size shA) rows) (hr : ∀ r ∈ rows, Reads w shA r) (hn : n ≤ 9223372036854775807)
    (ha0 : -9223372036854775808 ≤ a0) (ha1 : a0 ≤ 9223372036854775807) (hm0 : -9223372036854775808 ≤ m0) (hm1 : m0 ≤ 9223372036854775807) :
    Calls Try.prog 11 #[.slice A n c, .int .i64 a0, .int .i64 m0] w fun e w' => e = .returned (.bool true) ∧ Below w.heap.size w w' := by
  have HG := Lib.hid hg
  have HRR := Lib.hid hr
  obtain ⟨i, zc, hi, hz, hzc⟩ := info_ref
  have HZC := Lib.hid hzc
  have HI := Lib.hid hi
  have HZ := Lib.hid hz
  clear hg hr hi hz hzc
  go_enter Try.func11, Try.ntmps11
  go_wp2_with fail
  refine (new_ex w).mono ?_
  rintro e w1 ⟨bs, rfl, n1, m1, HS1, HB1⟩
  obtain ⟨br, HBR⟩ : ∃ br, Hid (w1.heap.size = br) := ⟨_, Lib.hid rfl⟩
  have HSR : Hid (bs < br) := by show _ < _; rw [← HBR.out]; exact m1
  have HNS : Hid (w.heap.size ≤ bs) := n1
  have hst : Hid (PRel w bs br n (.int .i64 0) (w1.alloc (.cells zc TR))) :=
    Lib.hid ⟨0, _, _, _, by omega, by omega, rfl, fun j _ => ⟨Int.le_refl _, Int.le_refl _⟩, HB1.out.alloc HB1.out.size _, HS1.out.kept ((Below.refl _ _).alloc (Nat.le_refl _) _), ⟨zc, by rw [← HBR.out]; exact Obj1.new _ _ _, HZC.out⟩⟩
  clear n1 m1
  go_wp2_with (refine wpList_allocA rfl TR rfl HI.out HZ.out ?_)
  rw [HBR.out]
  generalize w1.alloc (.cells zc TR) = w2 at hst ⊢
  clear HZC HI HZ HB1 HS1
  go_loopw [9] (fun i wr => PRel w bs br n i wr) (fun i _ => 60 - (intOf i).toNat)
  case atStart => exact hst.out
  case round =>
    obtain ⟨k, f, p, x, hkn, hk60, rfl, hx, hB⟩ := hrel
    have HBO := Lib.hid hB
    have HX := Lib.hid hx
    clear hB hx hst
    by_cases hlt : k < n ∧ k < 60
    · obtain ⟨hlt, hlt2⟩ := hlt
      obtain ⟨kd, aa, mm, B, bn, bc, ws, ab, ao, rfl, habl, c0, c1, c2, c3, ⟨aa0, aa1⟩, ⟨mm0, mm1⟩, hbc, hbm, hlw⟩ := row4 HG.out HRR.out k hlt
      have k0 := (HBO.out.1.cell (p := ⟨ab, ao + k * 4, none⟩) habl).trans c0
      have k1 := (HBO.out.1.cell (p := ⟨ab, ao + k * 4 + 1, none⟩) habl).trans c1
      have k2 := (HBO.out.1.cell (p := ⟨ab, ao + k * 4 + 2, none⟩) habl).trans c2
      have k3 := (HBO.out.1.cell (p := ⟨ab, ao + k * 4 + 3, none⟩) habl).trans c3
      clear c0 c1 c2 c3
      unfold maxLen at hbm
      have HLW := Lib.hid hlw
      have HBA := Lib.hid (HBO.out.kept (w' := wr.alloc (.cells #[.int .i64 kd, .int .i64 aa, .int .i64 mm, .slice B bn bc] 70)) ((Below.refl _ _).alloc (Nat.le_refl _) _))
      have HACT := Lib.hid (Obj1.new wr 70 #[.int .i64 kd, .int .i64 aa, .int .i64 mm, .slice B bn bc])
      obtain ⟨ba, HBAE⟩ : ∃ ba, Hid (wr.heap.size = ba) := ⟨_, Lib.hid rfl⟩
      rw [HBAE.out] at HACT
      have HNE : Hid (bs ≠ br ∧ bs ≠ ba ∧ br ≠ ba) := by
        have := HSR.out
        have := HBO.out.2.2.lt
        have := HBAE.out
        exact Lib.hid ⟨by omega, by omega, by omega⟩
      have HRN : Hid (w.heap.size ≤ br) := by show _ ≤ _; have := HNS.out; have := HSR.out; omega
      clear hlw
      by_cases hbn : bn ≤ 200
      · go_wp2_with fail
        rw [HBAE.out]
        generalize wr.alloc (.cells #[.int .i64 kd, .int .i64 aa, .int .i64 mm, .slice B bn bc] 70) = wa at HBA HACT ⊢
        have e2 : wa.cell? ⟨ba, 2, none⟩ = some (.int .i64 mm) := HACT.out.cell 2
        go_quiet (fail)
        have HBb := Lib.hid (show Both w bs br f p x (wa.drewN nq) from ⟨below_drewN' HBA.out.1 nq, HBA.out.2.1.drewN nq, HBA.out.2.2.drewN nq⟩)
        have HAb := Lib.hid (HACT.out.drewN nq)
        have HLb := Lib.hid (HLW.out.kept HBb.out.1)
        generalize wa.drewN nq = wb at HBb HAb HLb ⊢
        clear HBA HACT e2 k0 k1 k2 k3 HBO
        have e0 : wb.cell? ⟨ba, 0, none⟩ = some (.int .i64 kd) := HAb.out.cell 0
        have e1 : wb.cell? ⟨ba, 1, none⟩ = some (.int .i64 aa) := HAb.out.cell 1
        have e3 : wb.cell? ⟨ba, 3, none⟩ = some (.slice B bn bc) := HAb.out.cell 3
        go_upto_block 2 with (fail)
        rw [show decide ((k : Int) < 60) = true from decide_eq_true (by omega), show decide (200 < (bn : Int)) = false from decide_eq_false (by omega)]
        go_cut [11, 12, 13, 14, 15] from 49 to 141 (fun _ _ _ _ _ wx => MRel w bs br k wx)
        case first =>
          have HX1 := Lib.hid (show ∀ j, j < 64 → 0 ≤ x j ∧ x j ≤ k + 1 from fun j hj => by have := HX.out j hj; omega)
          by_cases hk0 : kd = 0
          · subst hk0
            by_cases hrt : Rt aa bn
            · as_aux_lemma =>
                obtain ⟨r0, r1, r2⟩ := id hrt
                obtain ⟨a, rfl⟩ : ∃ a : Nat, aa = (a : Int) := ⟨aa.toNat, by omega⟩
                have HRT := Lib.hid hrt
                clear hrt
                go_wp2_with fail
                refine (right_yes _ _ _ HRT.out).mono ?_
                rintro e w' ⟨rfl, rfl⟩
                go_wp2_with fail
                refine (write_ok bs a bn bc B ws f p x _ HBb.out.2.1 HLb.out (by omega) (by omega)).mono ?_
                rintro e w3 ⟨rfl, hx3, hw3⟩
                have hst : Hid (WRel w wb bs br ba #[.int .i64 0, .int .i64 a, .int .i64 mm, .slice B bn bc] f p x a bn ws (.int .i64 0) w3) :=
                  Lib.hid ⟨0, by omega, rfl, HBb.out.1.trans (hw3.below HNS.out HBb.out.1.size), hx3, by rw [List.take_zero, ovrW_zero, ovr_zero, ovr_zero]; exact HBb.out.2.2.touch hw3 (Ne.symm HNE.out.1), HAb.out.touch hw3 (Ne.symm HNE.out.2.1)⟩
                have HL3 := Lib.hid (HLb.out.1)
                clear hx3 hw3 e0 e1 e3
                go_wp2_with fail
                go_loopw [13] (fun i wq => WRel w wb bs br ba #[.int .i64 0, .int .i64 a, .int .i64 mm, .slice B bn bc] f p x a bn ws i wq) (fun i _ => bn - (intOf i).toNat)
                case atStart => exact hst.out
                case round =>
                  obtain ⟨j, hj, rfl, hB, hS, hR, hA⟩ := hrel
                  by_cases hlt : j < bn
                  · obtain ⟨q, HQ⟩ : ∃ q : Nat, Hid (a + j = q) := ⟨_, Lib.hid rfl⟩
                    have hq64 : q < 64 := by have := HQ.out; omega
                    have hqi : (a : Int) + (j : Int) = (q : Int) := by have := HQ.out; omega
                    obtain ⟨tb, tq, rfl, hcw⟩ := cell_of (HLW.out.kept hB) j hlt
                    have hjl : j < ws.length := by have := HL3.out; simp at this; omega
                    obtain ⟨u, HU⟩ : ∃ u, Hid (ws.getD j 0 = u) := ⟨_, Lib.hid rfl⟩
                    rw [HU.out] at hcw
                    have g1 := hR.word q hq64
                    have g2 := hR.good q hq64
                    have g3 := hR.age q hq64
                    have f1 := hR.free (q * 3)
                    have f2 := hR.free (q * 3 + 1)
                    have f3 := hR.free (q * 3 + 2)
                    have a1 : wr.cell? ⟨ba, 1, none⟩ = some (.int .i64 a) := hA.cell 1
                    have a3 : wr.cell? ⟨ba, 3, none⟩ = some (.slice (some ⟨tb, tq, none⟩) bn bc) := hA.cell 3
                    have HB := Lib.hid hB
                    have HS := Lib.hid hS
                    have HR := Lib.hid hR
                    have HA := Lib.hid hA
                    clear hB hS hR hA hst
                    go_wp2
                    go_region
                    go_wp2
                    go_roundw
                    case rel =>
                      have HWR := (wrote3 (Wrote.refl br wr) (q * 3) (q * 3 + 1) (q * 3 + 2) (.int .u8 u) (.bool true) (.int .i64 0)).drew
                      refine ⟨j + 1, by omega, by go_num, HB.out.trans (HWR.below HRN.out HB.out.size), HS.out.touch HWR HNE.out.1, ?_, HA.out.touch HWR (Ne.symm HNE.out.2.2)⟩
                      rw [← ovrW_succ f a j ws hjl, ← ovr_succ, ← ovr_succ, HQ.out, HU.out]
                      exact (HR.out.set3 q hq64 u true 0).drew
                    case measure => simp [intOf]; omega
                  · obtain rfl : j = bn := by omega
                    have HM : Hid (MRel w bs br k wr) := Lib.hid ⟨_, _, _, fun i hi => spn x a j k HX.out i hi, hB, hS, by rw [List.take_of_length_le (by have := HL3.out; simp at this; omega)] at hR; exact hR⟩
                    clear hB hS hR hA hst
                    go_wp2_with fail
                    go_meet
                    exact HM.out
            · as_aux_lemma =>
                have HRT := Lib.hid hrt
                clear hrt
                go_wp2_with fail
                refine (right_no _ _ _ HRT.out (by omega) (by omega)).mono ?_
                rintro e w' ⟨rfl, rfl⟩
                go_wp2_with fail
                refine (write_bad bs aa bn bc B _ HBb.out.2.1.made HRT.out aa0 aa1 (by omega)).mono ?_
                rintro e w' ⟨rfl, rfl⟩
                go_wp2_with fail
                go_loopw [13] (fun i wq => i = .int .i64 0 ∧ wq = wb) (fun i _ => 0)
                case atStart => exact ⟨rfl, rfl⟩
                case round =>
                  obtain ⟨rfl, rfl⟩ := hrel
                  go_wp2_with fail
                  go_meet
                  exact ⟨f, p, x, HX1.out, HBb.out⟩
          · by_cases hk1 : kd = 1
            · subst hk1
              by_cases hrt : Rt aa mm
              · as_aux_lemma =>
                  obtain ⟨r0, r1, r2⟩ := id hrt
                  obtain ⟨a, rfl⟩ : ∃ a : Nat, aa = (a : Int) := ⟨aa.toNat, by omega⟩
                  obtain ⟨m, rfl⟩ : ∃ m : Nat, mm = (m : Int) := ⟨mm.toNat, by omega⟩
                  have HRT := Lib.hid hrt
                  clear hrt hk0
                  go_wp2_with fail
                  refine (right_yes _ _ _ HRT.out).mono ?_
                  rintro e w' ⟨rfl, rfl⟩
                  go_wp2_with fail
                  refine (spoil_ok bs a m f p x _ HBb.out.2.1 (by omega) (by omega)).mono ?_
                  rintro e w3 ⟨rfl, hx3, hw3⟩
                  have hst : Hid (SRel w wb bs br ba #[.int .i64 1, .int .i64 a, .int .i64 m, .slice B bn bc] f p x a m (.int .i64 0) w3) :=
                    Lib.hid ⟨0, by omega, rfl, HBb.out.1.trans (hw3.below HNS.out HBb.out.1.size), hx3, by rw [ovr_zero, ovr_zero]; exact HBb.out.2.2.touch hw3 (Ne.symm HNE.out.1), HAb.out.touch hw3 (Ne.symm HNE.out.2.1)⟩
                  clear hx3 hw3 e0 e1 e3
                  go_wp2_with fail
                  go_loopw [14] (fun i wq => SRel w wb bs br ba #[.int .i64 1, .int .i64 a, .int .i64 m, .slice B bn bc] f p x a m i wq) (fun i _ => m - (intOf i).toNat)
                  case atStart => exact hst.out
                  case round =>
                    obtain ⟨j, hj, rfl, hB, hS, hR, hA⟩ := hrel
                    by_cases hlt : j < m
                    · obtain ⟨q, HQ⟩ : ∃ q : Nat, Hid (a + j = q) := ⟨_, Lib.hid rfl⟩
                      have hq64 : q < 64 := by have := HQ.out; omega
                      have hqi : (a : Int) + (j : Int) = (q : Int) := by have := HQ.out; omega
                      obtain ⟨u, HU⟩ : ∃ u, Hid (f q = u) := ⟨_, Lib.hid rfl⟩
                      have g1 := hR.word q hq64
                      rw [HU.out] at g1
                      have g2 := hR.good q hq64
                      have g3 := hR.age q hq64
                      have f1 := hR.free (q * 3)
                      have f2 := hR.free (q * 3 + 1)
                      have f3 := hR.free (q * 3 + 2)
                      have a1 : wr.cell? ⟨ba, 1, none⟩ = some (.int .i64 a) := hA.cell 1
                      have HB := Lib.hid hB
                      have HS := Lib.hid hS
                      have HR := Lib.hid hR
                      have HA := Lib.hid hA
                      clear hB hS hR hA hst
                      go_wp2
                      go_region
                      go_wp2
                      go_roundw
                      case rel =>
                        have HWR := (wrote3 (Wrote.refl br wr) (q * 3) (q * 3 + 1) (q * 3 + 2) (.int .u8 u) (.bool false) (.int .i64 0)).drew
                        have HRS := (HR.out.set3 q hq64 u false 0).drew
                        rw [← HU.out, upd_same, ← HQ.out, ovr_succ, ovr_succ] at HRS
                        rw [← HU.out, ← HQ.out] at HWR ⊢
                        exact ⟨j + 1, by omega, by go_num, HB.out.trans (HWR.below HRN.out HB.out.size), HS.out.touch HWR HNE.out.1, HRS, HA.out.touch HWR (Ne.symm HNE.out.2.2)⟩
                      case measure => simp [intOf]; omega
                    · obtain rfl : j = m := by omega
                      have HM : Hid (MRel w bs br k wr) := Lib.hid ⟨_, _, _, fun i hi => spn x a j k HX.out i hi, hB, hS, hR⟩
                      clear hB hS hR hA hst
                      go_wp2_with fail
                      go_meet
                      exact HM.out
              · as_aux_lemma =>
                  have HRT := Lib.hid hrt
                  clear hrt hk0
                  go_wp2_with fail
                  refine (right_no _ _ _ HRT.out (by omega) (by omega)).mono ?_
                  rintro e w' ⟨rfl, rfl⟩
                  go_wp2_with fail
                  refine (spoil_bad bs aa mm _ HBb.out.2.1.made HRT.out aa0 aa1 mm0 mm1).mono ?_
                  rintro e w' ⟨rfl, rfl⟩
                  go_wp2_with fail
                  go_loopw [14] (fun i wq => i = .int .i64 0 ∧ wq = wb) (fun i _ => 0)
                  case atStart => exact ⟨rfl, rfl⟩
                  case round =>
                    obtain ⟨rfl, rfl⟩ := hrel
                    go_wp2_with fail
                    go_meet
                    exact ⟨f, p, x, HX1.out, HBb.out⟩
            · as_aux_lemma =>
                have k0' : (kd == 0) = false := by simpa using hk0
                have k1' : (kd == 1) = false := by simpa using hk1
                clear hk0 hk1
                go_wp2_with fail
                refine (frame_any bs f p x _ HBb.out.2.1 (fun i hi => by have := HX.out i hi; omega)).mono ?_
                rintro e w3 ⟨rfl, hx3, hw3⟩
                have hst : Hid (FRel w bs br f p x (.int .i64 0) w3) :=
                  Lib.hid ⟨0, by omega, rfl, HBb.out.1.trans (hw3.below HNS.out HBb.out.1.size), hx3, by rw [agx_zero]; exact HBb.out.2.2.touch hw3 (Ne.symm HNE.out.1)⟩
                clear hx3 hw3 e0 e1 e3
                go_wp2_with fail
                go_loopw [15] (fun i wq => FRel w bs br f p x i wq) (fun i _ => 64 - (intOf i).toNat)
                case atStart => exact hst.out
                case round =>
                  obtain ⟨j, hj, rfl, hB, hS, hR⟩ := hrel
                  by_cases hlt : j < 64
                  · obtain ⟨y, HY⟩ : ∃ y, Hid (x j = y) := ⟨_, Lib.hid rfl⟩
                    have y0 : 0 ≤ y := by have := HX.out j hlt; have := HY.out; omega
                    have y1 : y ≤ 100 := by have := HX.out j hlt; have := HY.out; omega
                    obtain ⟨v, HV⟩ : ∃ v, Hid (p j = v) := ⟨_, Lib.hid rfl⟩
                    have g2 := hR.good j hlt
                    have g3 := hR.age j hlt
                    rw [HV.out] at g2
                    rw [show agx p x j j = x j by unfold agx; rw [if_neg (by omega)], HY.out] at g3
                    have f3 := hR.free (j * 3 + 2)
                    have HB := Lib.hid hB
                    have HS := Lib.hid hS
                    have HR := Lib.hid hR
                    clear hB hS hR hst
                    cases v
                    · go_wp2
                      go_roundw
                      case rel => exact ⟨j + 1, by omega, by go_num, HB.out, HS.out, by rw [agx_off p x j HV.out]; exact HR.out⟩
                      case measure => simp [intOf]; omega
                    · go_wp2
                      go_roundw
                      case rel =>
                        have HWR := (Wrote.refl br wr).set (p := ⟨br, j * 3 + 2, none⟩) (.inl rfl) (.int .i64 (y + 1))
                        refine ⟨j + 1, by omega, by go_num, HB.out.trans (HWR.below HRN.out HB.out.size), HS.out.touch HWR HNE.out.1, ?_⟩
                        rw [← agx_on p x j HV.out, HY.out]
                        exact HR.out.setX j hlt _
                      case measure => simp [intOf]; omega
                  · obtain rfl : j = 64 := by omega
                    have HM : Hid (MRel w bs br k wr) := Lib.hid ⟨f, p, agx p x 64, fun i hi => by
                      have := HX.out i hi
                      unfold agx
                      split <;> omega, hB, hS.like (fun _ _ => rfl) (fun _ _ => rfl) (fun i hi => agx_agd p x (fun k hk => by have := HX.out k hk; omega) i hi), hR⟩
                    clear hB hS hR hst
                    go_wp2_with fail
                    go_meet
                    exact HM.out
        case rest =>
          as_aux_lemma =>
            obtain ⟨f', p', x', hx', hM⟩ := hcut
            have HXM := Lib.hid hx'
            have HM := Lib.hid hM
            have HK := Lib.hid (fun q : Kin wc => hM.kept q.below)
            clear hx' hM HBb HAb HLb e0 e1 e3
            obtain ⟨wo, rfl⟩ : ∃ wo : World, wo = wr := ⟨_, rfl⟩
            go_wp2_with fail
            go_loopw [16] (fun i wq => KRel wc i wq) (fun i _ => (65 - intOf i).toNat)
            case atStart => exact ⟨0, Kin.me wc, by omega, rfl, rfl⟩
            case round =>
              obtain ⟨j, z, hj, rfl, rfl⟩ := hrel
              by_cases h66 : j = 66
              · subst h66
                go_wp2
                go_roundw
                case rel => exact ⟨k + 1, f', p', x', by omega, by omega, by push_cast; rfl, fun i hi => by have := HXM.out i hi; push_cast; omega, HK.out z⟩
                case measure => simp [intOf]; omega
              · by_cases hout : j = 0 ∨ j = 65
                · have hmade := (HK.out z).2.1.made
                  rcases hout with rfl | rfl
                  all_goals
                    go_wp2_with (first | (go_at_call 40; refine (good_out _ _ _ hmade (by omega) (by omega) (by omega)).mono ?_; rintro e w' ⟨rfl, rfl⟩) | (go_at_call 41; refine (age_out _ _ _ hmade (by omega) (by omega) (by omega)).mono ?_; rintro e w' ⟨rfl, rfl⟩))
                    go_roundw
                    case rel => first | exact ⟨1, z, by omega, by go_num, rfl⟩ | exact ⟨66, z, by omega, by go_num, rfl⟩
                    case measure => simp [intOf]
                · obtain ⟨t, rfl⟩ : ∃ t, j = t + 1 := ⟨j - 1, by omega⟩
                  have ht64 : t < 64 := by omega
                  have ht6 : ((t : Int) == 64) = false := by simp; omega
                  rw [show (((t + 1 : Nat) : Int) - 1) = (t : Int) by omega]
                  obtain ⟨u, HU⟩ : ∃ u, Hid (f' t = u) := ⟨_, Lib.hid rfl⟩
                  obtain ⟨v, HV⟩ : ∃ v, Hid (p' t = v) := ⟨_, Lib.hid rfl⟩
                  obtain ⟨y, HY⟩ : ∃ y, Hid (x' t = y) := ⟨_, Lib.hid rfl⟩
                  have g2 := (HK.out z).2.2.good t ht64
                  have g3 := (HK.out z).2.2.age t ht64
                  rw [HV.out] at g2
                  rw [HY.out] at g3
                  cases v
                  all_goals
                    go_wp2_with fail
                    refine (read1 bs t u _ _ _ _ _ (HK.out z).2.1 ht64 HU.out HV.out).mono ?_
                    rintro e w5 ⟨gs, rfl, ngs, mgs, HO, hb5⟩
                    have B5 := Lib.hid ((HK.out z).kept hb5.out)
                    have K0 := fun q : Kin w5 => Kin.at (HO.out.cell 0) q
                    have K1 := fun q : Kin w5 => Kin.at (v := .int .u8 u) ((B5.out.2.2.word t ht64).trans (by rw [HU.out])) q
                    have K2 := fun q : Kin w5 => Kin.at (B5.out.2.2.good t ht64 |>.trans (by rw [HV.out])) q
                    have M0 := Lib.hid (fun q : Kin w5 => Kin.at B5.out.2.1.made q)
                    have M1 := Lib.hid (fun q : Kin w5 => Kin.at (B5.out.2.1.good t ht64 |>.trans (by rw [HV.out])) q)
                    have M2 := Lib.hid (fun q : Kin w5 => Kin.at (B5.out.2.1.age t ht64 |>.trans (by rw [HY.out])) q)
                    clear g2 g3 ngs mgs
                    go_wp2_with fail
                    refine wp_region_kin (by kernel_rfl) (by kernel_rfl) ?_
                    repeat (go_big_quiet_step (first | (go_at_call 40; exact Calls.kin_same _ (good_in _ _ _ _ (M0.out _) ht64 (M1.out _))) | (go_at_call 41; exact Calls.kin_same _ (age_in _ _ _ _ _ (M0.out _) ht64 (M1.out _) (M2.out _)))))
                    refine wpQuiet_nil ?_
                    intro _ hw'
                    obtain ⟨kx, hw''⟩ := hw'
                    subst hw''
                    go_wp2
                    go_roundw
                    case rel => exact ⟨t + 2, z.on (hb5.out.trans (kx.below.mono hb5.out.size)), by omega, by go_num, rfl⟩
                    case measure => simp [intOf]; omega
      · as_aux_lemma =>
          have e3 : (wr.alloc (.cells #[.int .i64 kd, .int .i64 aa, .int .i64 mm, .slice B bn bc] 70)).cell? ⟨wr.heap.size, 3, none⟩ = some (.slice B bn bc) := (Obj1.new _ _ _).cell 3
          have hbn' : 200 < bn := by omega
          go_wp2_with fail
          go_ret
          exact ⟨rfl, HBA.out.1⟩
    · rcases (show k = n ∨ (k < n ∧ k = 60) by omega) with rfl | ⟨g1, rfl⟩
      all_goals
        clear hlt
        by_cases hrt : Rt a0 m0
        · as_aux_lemma =>
            obtain ⟨r0, r1, r2⟩ := id hrt
            obtain ⟨a, rfl⟩ : ∃ a : Nat, a0 = (a : Int) := ⟨a0.toNat, by omega⟩
            obtain ⟨m, rfl⟩ : ∃ m : Nat, m0 = (m : Int) := ⟨m0.toNat, by omega⟩
            have HRT := Lib.hid hrt
            clear hrt
            go_wp2_with fail
            refine (read_ok bs a m f p x _ HBO.out.2.1 (by omega) (by omega)).mono ?_
            rintro e w5 ⟨rfl, ho5, hb5⟩
            have HO5 := Lib.hid ho5
            have HB5 := Lib.hid (HBO.out.kept hb5)
            obtain ⟨gs, HGS⟩ : ∃ gs, Hid (wr.heap.size = gs) := ⟨_, Lib.hid rfl⟩
            rw [HGS.out] at HO5 ⊢
            clear ho5 hb5
            go_wp2_with fail
            refine (right_yes _ _ _ HRT.out).mono ?_
            rintro e w' ⟨rfl, rfl⟩
            obtain ⟨Y, HYY⟩ : ∃ Y, Hid (allG p a m = Y) := ⟨_, Lib.hid rfl⟩
            rw [HYY.out]
            go_wp2_with fail
            go_loopw [24, 25] (fun g i wq => ∃ j t : Nat, j ≤ m ∧ g = .bool (allG p a j) ∧ i = .int .i64 j ∧ wq = w5.drewN t) (fun _ i _ => m - (intOf i).toNat)
            case atStart => exact ⟨0, 0, by omega, rfl, rfl, rfl⟩
            case round =>
              obtain ⟨j, t, hj, rfl, rfl, rfl⟩ := hrel
              by_cases hlt : j < m
              · obtain ⟨q, HQ⟩ : ∃ q : Nat, Hid (a + j = q) := ⟨_, Lib.hid rfl⟩
                have hq64 : q < 64 := by have := HQ.out; omega
                have hqi : (a : Int) + (j : Int) = (q : Int) := by have := HQ.out; omega
                obtain ⟨u, HU⟩ : ∃ u, Hid (f q = u) := ⟨_, Lib.hid rfl⟩
                obtain ⟨v, HV⟩ : ∃ v, Hid (p q = v) := ⟨_, Lib.hid rfl⟩
                obtain ⟨y, HY⟩ : ∃ y, Hid (allG p a j = y) := ⟨_, Lib.hid rfl⟩
                have g1 := HB5.out.2.2.word q hq64
                have g2 := HB5.out.2.2.good q hq64
                have g3 : w5.cell? ⟨gs, j, none⟩ = some (.int .u8 u) := by
                  rw [HO5.out.cell j, List.getElem?_toArray]
                  simp [wrd, hlt, HQ.out, HU.out]
                rw [HU.out] at g1
                rw [HV.out] at g2
                rw [HY.out]
                cases y
                all_goals
                  go_wp2_with fail
                  go_quiet (fail)
                  go_wp2
                  go_roundw
                  case rel => exact ⟨j + 1, _, by omega, by simp [allG, HY.out, HQ.out, HV.out], by go_num, rfl⟩
                  case measure => simp [intOf]; omega
              · obtain rfl : j = m := by omega
                rw [HYY.out]
                cases Y
                all_goals
                  go_wp2_with fail
                  refine (one_any _).mono ?_
                  rintro e w9 ⟨rfl, hb9⟩
                  go_wp2
                  go_ret
                  exact ⟨rfl, (below_drewN' HB5.out.1 t).trans (hb9.mono (below_drewN' HB5.out.1 t).size)⟩
        · as_aux_lemma =>
            have HRT := Lib.hid hrt
            clear hrt
            go_wp2_with fail
            refine (read_bad bs a0 m0 _ HBO.out.2.1.made HRT.out ha0 ha1 hm0 hm1).mono ?_
            rintro e w' ⟨rfl, rfl⟩
            go_wp2_with fail
            refine (right_no _ _ _ HRT.out hm0 hm1).mono ?_
            rintro e w' ⟨rfl, rfl⟩
            go_wp2_with fail
            refine (one_any _).mono ?_
            rintro e w9 ⟨rfl, hb9⟩
            go_wp2
            go_ret
            exact ⟨rfl, HBO.out.1.trans (hb9.mono HBO.out.1.size)⟩

theorem walk (A : Option Addr) (n c : Nat) (rows : List (List Value)) (a0 m0 : Int) (w : World) (hg : Grid w A n (Sh.size shA) rows) (hr : ∀ r ∈ rows, Reads w shA r) (hnc : n ≤ c) (hcm : c ≤ maxLen)
    (ha0 : -9223372036854775808 ≤ a0) (ha1 : a0 ≤ 9223372036854775807) (hm0 : -9223372036854775808 ≤ m0) (hm1 : m0 ≤ 9223372036854775807) :
    Calls Try.prog 11 #[.slice A n c, .int .i64 a0, .int .i64 m0] w fun e w' => e = .returned (.bool true) ∧ Below w.heap.size w w' := by
  unfold maxLen at hcm
  exact walk_in A n c rows a0 m0 w hg hr (by omega) ha0 ha1 hm0 hm1

set_option maxRecDepth 100000 in
theorem lifted (os : Os) (started : os.Started) (H : Type) (enc : TypeId × Value → H) :
    ReturnsInHanded {} Try.checked os 11 .any (Rows.storePlaysSpec.pre6 enc Try.prog Try.f11 Rows.storePlaysRow.domain false) (Rows.storePlaysSpec.post enc Try.prog Try.f11 false true false false) := by
  refine returnsInHanded_of_change (C := Try.checked) own started (by kernel_rfl) Try.func11
    (ChangeSpec.witness6 (enc := enc) (C := Try.checked) false ⟨#[], #[.slice none 0 0, .int .i64 0, .int .i64 0], []⟩ 8 (by kernel_rfl) (by kernel_rfl) (by kernel_rfl) (by kernel_rfl)) ?_
  intro W base args ds gs before hval0 hW hcnd _
  have hval : ∀ (j : Nat) t v, Try.f11.params[j]? = some t → args[j]? = some v → Value.okWide Try.prog W .any base t v := hval0
  have hW' := hW
  obtain ⟨p, q, hA0, hV, rfl, hfz, hnd⟩ := hW
  have hA : DataW.TrodAll enc Try.prog W 0 (fun _ => true) true Try.f11.params.toList args.toList ds p := hA0
  rw [Try.params11] at hA hval
  obtain ⟨v0, vs0, d0, ds0, p0, q0, hargs, rfl, rfl, h0, r0⟩ := trodAll_cons hA
  obtain ⟨v1, vs1, d1, ds1, p1, q1, rfl, rfl, rfl, h1, r1⟩ := trodAll_cons r0
  obtain ⟨v2, vs2, d2, ds2, p2, q2, rfl, rfl, rfl, h2, r2⟩ := trodAll_cons r1
  obtain ⟨rfl, rfl, rfl⟩ := trodAll_nil r2
  obtain rfl : args = #[v0, v1, v2] := by cases args; simp_all
  obtain ⟨rfl, rfl⟩ := trodVars_none hV
  have k0 := h0
  have lt0 : ∀ x ∈ p0, x.block < W.heap.size := by obtain ⟨m, hm⟩ := k0; exact DataW.trod_lt m _ _ _ hm
  obtain ⟨lA, ln, lc, rfl⟩ := okWide_slice Try.underlying63 (hval 0 63 v0 rfl rfl)
  obtain ⟨l, g0, rd0, cb0, cc0⟩ := reads_slice (e := shA) 30 (by kernel_rfl) k0
  obtain ⟨a0, rfl, rfl, rfl, wf1⟩ := open_int Try.underlying3 (hval 1 3 v1 rfl rfl) h1
  have bd1 := bounds_i64 wf1
  obtain ⟨m0, rfl, rfl, rfl, wf2⟩ := open_int Try.underlying3 (hval 2 3 v2 rfl rfl) h2
  have bd2 := bounds_i64 wf2
  clear hA0 hval0
  refine (walk lA ln lc l a0 m0 W g0 rd0 cb0 cc0 bd1.1 bd1.2 bd2.1 bd2.2).mono fun e W' ⟨he, bel⟩ => ?_
  subst he
  exact ⟨_, rfl, _, _, _, [], _, [], hW', trodAll_mk1 (shut_bool Try.underlying4 _), (trodAll_cons_mk (Below.trod laidOut (by kernel_rfl) (of_decide_eq_true (by kernel_rfl)) k0 bel lt0) (trodAll_cons_mk (shut_int Try.underlying3 wf1) (trodAll_cons_mk (shut_int Try.underlying3 wf2) trodAll_mk0))), rfl, bel.frame _, fun h => by cases h⟩

theorem over : Rows.storePlaysRow.holds Try.pinned (OpenSpec.ofChange Rows.storePlaysSpec) :=
  OpenClaim.holds_of_wide 11 Try.f11 rfl rfl rfl rfl rfl rfl rfl ⟨rfl, rfl, rfl, rfl, rfl⟩ rfl rfl rfl rfl rfl (by kernel_rfl) Try.func11 (by kernel_rfl)
    (of_decide_eq_true (by kernel_rfl)) (by unfold Func.isWrapper; first | (rw [if_pos (by decide +kernel)]; kernel_rfl) | (rw [if_neg (by decide +kernel)]; exact ⟨rfl, rfl⟩))
    (fun os started H enc _ => lifted os started H enc)

/-- The statement. -/
theorem proved : Rows.StorePlaysSaid := over
end Go.Proofs.Ythnopcoahcdjjaa.lawStorePlays
