/- Package diag and the document: Suspect, Worst, Clean, Share; no condition but sizes. -/
import Derived.Test.YtanhblokhcaoiaaDoorTxt
import Derived.Test.YtanhblokhcaoiaaDoorGenA
import Derived.RegionTactic
import Derived.Deep.DeepCutAuto
import Derived.Deep.CutBlock
namespace Go.Proofs.YtanhblokhcaoiaaDoor.Dg
open Go.ChangeShapes Go.WideShapes Go.ChangeAt Go.RowKit Base
set_option linter.unusedVariables false
set_option linter.unusedSimpArgs false

abbrev T4 : TypeId := 22
abbrev TC : TypeId := 24
def oF (a b c d : Int) (i : Nat) : Int := if i = 0 then a else if i = 1 then b else if i = 2 then c else d
theorem four {i : Nat} (h : i < 4) : i = 0 ∨ i = 1 ∨ i = 2 ∨ i = 3 := by omega
theorem ix4 (a b c d : Int) {i : Nat} (h : i < 4) (W : World) : (Instr.index T4 (.agg #[.int .i64 a, .int .i64 b, .int .i64 c, .int .i64 d]) (.int .i64 (i : Int))).run Tryd.prog W = .ok (.int .i64 (oF a b c d i)) W := by
  rcases four h with rfl | rfl | rfl | rfl <;> kernel_rfl
theorem cell4 {w : World} {g : Nat} {T : TypeId} {a b c d : Int} (h : Obj1 w g T #[.int .i64 a, .int .i64 b, .int .i64 c, .int .i64 d]) {i : Nat} (hi : i < 4) : w.cell? ⟨g, i, none⟩ = some (.int .i64 (oF a b c d i)) := by
  rw [h.cell]
  rcases four hi with rfl | rfl | rfl | rfl <;> rfl
theorem cell5 {w : World} {g : Nat} {T : TypeId} {e a b c d : Int} (h : Obj1 w g T #[.int .i64 e, .int .i64 a, .int .i64 b, .int .i64 c, .int .i64 d]) {i : Nat} (hi : i < 4) : w.cell? ⟨g, 1 + i, none⟩ = some (.int .i64 (oF a b c d i)) := by
  rw [h.cell]
  rcases four hi with rfl | rfl | rfl | rfl <;> rfl
def lstI (o : Nat → Int) : Nat → Int
  | 0 => -1
  | k + 1 => if 0 < o k then (k : Int) else lstI o k
def cn (o : Nat → Int) : Nat → Nat
  | 0 => 0
  | k + 1 => cn o k + (if 0 < o k then 1 else 0)
theorem cn_le (o : Nat → Int) : ∀ k, cn o k ≤ k
  | 0 => Nat.le_refl _
  | k + 1 => by have := cn_le o k; unfold cn; split <;> omega
theorem cn_mono (o : Nat → Int) (k : Nat) : ∀ m, cn o k ≤ cn o (k + m)
  | 0 => Nat.le_refl _
  | m + 1 => Nat.le_trans (cn_mono o k m) (by rw [show k + (m + 1) = (k + m) + 1 by omega]; show _ ≤ cn o (k + m) + _; omega)
theorem lst_cn (o : Nat → Int) : ∀ k, -1 ≤ lstI o k ∧ lstI o k < k ∧ (0 ≤ lstI o k ↔ 0 < cn o k)
  | 0 => by simp [lstI, cn]
  | k + 1 => by
    have h := lst_cn o k
    unfold lstI cn
    split <;> omega
def susF (o : Nat → Int) : Int := if cn o 4 = 1 then lstI o 4 else -1
def wsM (o : Nat → Int) : Nat → Int
  | 0 => 0
  | k + 1 => if wsM o k < o k then o k else wsM o k
def wsI (o : Nat → Int) : Nat → Int
  | 0 => -1
  | k + 1 => if wsM o k < o k then (k : Int) else wsI o k
theorem wsI_bd (o : Nat → Int) : ∀ k, -1 ≤ wsI o k ∧ wsI o k < k
  | 0 => by simp [wsI]
  | k + 1 => by have := wsI_bd o k; unfold wsI; split <;> omega
set_option maxRecDepth 100000 in
set_option maxHeartbeats 1000000 in
theorem sus_any (e a b c d : Int) (w : World) : Calls Tryd.prog 9 #[.agg #[.int .i64 e, .int .i64 a, .int .i64 b, .int .i64 c, .int .i64 d]] w fun e' w' => e' = .returned (.int .i64 (susF (oF a b c d))) ∧ Below w.heap.size w w' := by
  have HB := Lib.hid (bel_new w (.cells #[.int .i64 e, .int .i64 a, .int .i64 b, .int .i64 c, .int .i64 d] TC))
  have HIX := Lib.hid (fun (i : Nat) (h : i < 4) (W : World) => ix4 a b c d h W)
  obtain ⟨o, HO⟩ : ∃ o, Hid (oF a b c d = o) := ⟨_, Lib.hid rfl⟩
  rw [HO.out] at HIX ⊢
  go_enter Tryd.func9, Tryd.ntmps9
  go_wp2_with fail
  go_loopw [3, 4, 9] (fun s m i wx => ∃ k : Nat, k ≤ 4 ∧ i = .int .i64 k ∧ s = .int .i64 (lstI o k) ∧ m = .int .i64 (cn o k : Nat) ∧ Below w.heap.size w wx) (fun _ _ i _ => 4 - (intOf i).toNat)
  case atStart => exact ⟨0, by omega, rfl, rfl, rfl, HB.out⟩
  case round =>
    obtain ⟨k, hk, rfl, rfl, rfl, hbk⟩ := hrel
    have HBK := Lib.hid hbk
    by_cases hlt : k < 4
    · have hki : (k : Int) < 4 := by omega
      have hix := fun W => HIX.out k hlt W
      have HN1 : Hid (lstI o (k + 1) = if 0 < o k then (k : Int) else lstI o k) := Lib.hid rfl
      have HN2 : Hid (cn o (k + 1) = cn o k + (if 0 < o k then 1 else 0)) := Lib.hid rfl
      have hcn := cn_le o k
      obtain ⟨L, hL⟩ : ∃ L, lstI o k = L := ⟨_, rfl⟩
      obtain ⟨C, hC⟩ : ∃ C, cn o k = C := ⟨_, rfl⟩
      obtain ⟨v, hv⟩ : ∃ v, o k = v := ⟨_, rfl⟩
      rw [hL, hv] at HN1
      rw [hC, hv] at HN2
      rw [hC] at hcn
      rw [hL, hC]
      simp only [hv] at hix
      have e1 : IntKind.i64.wrap ((C : Int) + 1) = (C : Int) + 1 := IntWalk.i64_in _ (by omega)
      have e2 : IntKind.i64.wrap ((k : Int) + 1) = (k : Int) + 1 := IntWalk.i64_in _ (by omega)
      clear hL hC hv hbk
      by_cases hv0 : 0 < v
      · have HN1' : Hid (lstI o (k + 1) = (k : Int)) := Lib.hid (by rw [HN1.out, if_pos hv0])
        have HN2' : Hid (cn o (k + 1) = C + 1) := Lib.hid (by rw [HN2.out, if_pos hv0])
        go_wp2
        go_roundw
        case rel => exact ⟨k + 1, by omega, by go_num, by rw [HN1'.out], by rw [HN2'.out]; simp, HBK.out⟩
        case measure => simp [intOf]; omega
      · have HN1' : Hid (lstI o (k + 1) = L) := Lib.hid (by rw [HN1.out, if_neg hv0])
        have HN2' : Hid (cn o (k + 1) = C) := Lib.hid (by rw [HN2.out, if_neg hv0]; rfl)
        go_wp2
        go_roundw
        case rel => exact ⟨k + 1, by omega, by go_num, by rw [HN1'.out], by rw [HN2'.out], HBK.out⟩
        case measure => simp [intOf]; omega
    · have hke : k = 4 := by omega
      subst hke
      have HS : Hid (susF o = if cn o 4 = 1 then lstI o 4 else -1) := Lib.hid rfl
      obtain ⟨C, hC⟩ : ∃ C, cn o 4 = C := ⟨_, rfl⟩
      rw [hC] at HS ⊢
      clear hC hbk
      by_cases h1 : C = 1
      · subst h1
        have HS' : Hid (susF o = lstI o 4) := Lib.hid (by rw [HS.out, if_pos rfl])
        go_wp2
        go_ret
        exact ⟨by rw [HS'.out]; rfl, HBK.out⟩
      · have HS' : Hid (susF o = -1) := Lib.hid (by rw [HS.out, if_neg h1])
        have hb1 : ((C : Int) == 1) = false := by simp; omega
        go_wp2
        go_ret
        exact ⟨by rw [HS'.out]; rfl, HBK.out⟩
set_option maxRecDepth 100000 in
set_option maxHeartbeats 1000000 in
theorem rsus_any (a b c d : Int) (w : World) : Calls Tryd.prog 10 #[.agg #[.int .i64 a, .int .i64 b, .int .i64 c, .int .i64 d]] w fun e' w' => e' = .returned (.int .i64 (susF (oF a b c d))) ∧ Below w.heap.size w w' := by
  obtain ⟨gb, HGB⟩ : ∃ gb, Hid (w.heap.size = gb) := ⟨_, Lib.hid rfl⟩
  obtain ⟨W1, HW1⟩ : ∃ W1, Hid (W1 = w.alloc (.cells #[.int .i64 a, .int .i64 b, .int .i64 c, .int .i64 d] T4)) := ⟨_, Lib.hid rfl⟩
  have HB1 : Hid (Below w.heap.size w W1) := Lib.hid (by rw [HW1.out]; exact bel_new _ _)
  have HOB : Hid (Obj1 W1 gb T4 #[.int .i64 a, .int .i64 b, .int .i64 c, .int .i64 d]) := Lib.hid (by rw [HW1.out, ← HGB.out]; exact Obj1.new _ _ _)
  have HCC : Hid (∀ W, Below W1.heap.size W1 W → ∀ i, i < 4 → W.cell? ⟨gb, i, none⟩ = some (.int .i64 (oF a b c d i))) := Lib.hid (fun W h i hi => cell4 (HOB.out.kept h) hi)
  obtain ⟨o, HO⟩ : ∃ o, Hid (oF a b c d = o) := ⟨_, Lib.hid rfl⟩
  rw [HO.out] at HCC ⊢
  go_enter Tryd.func10, Tryd.ntmps10
  go_upto_region 1 with (fail)
  rw [← HW1.out, HGB.out]
  clear HW1
  go_wp2_with fail
  go_loopw [3, 4] (fun s i wx => ∃ k : Nat, k ≤ 4 ∧ i = .int .i64 k ∧ s = .int .i64 (lstI o k) ∧ cn o k ≤ 1 ∧ Below W1.heap.size W1 wx) (fun _ i _ => 4 - (intOf i).toNat)
  case atStart => exact ⟨0, by omega, rfl, rfl, Nat.zero_le _, Below.refl _ _⟩
  case round =>
    obtain ⟨k, hk, rfl, rfl, hc1, hbk⟩ := hrel
    have HBK := Lib.hid hbk
    by_cases hlt : k < 4
    · have hki : (k : Int) < 4 := by omega
      have hcl := HCC.out wr hbk k hlt
      have HN1 : Hid (lstI o (k + 1) = if 0 < o k then (k : Int) else lstI o k) := Lib.hid rfl
      have HN2 : Hid (cn o (k + 1) = cn o k + (if 0 < o k then 1 else 0)) := Lib.hid rfl
      have HMO := Lib.hid (cn_mono o (k + 1) (3 - k))
      rw [show k + 1 + (3 - k) = 4 by omega] at HMO
      have hlc := lst_cn o k
      obtain ⟨L, hL⟩ : ∃ L, lstI o k = L := ⟨_, rfl⟩
      obtain ⟨C, hC⟩ : ∃ C, cn o k = C := ⟨_, rfl⟩
      obtain ⟨v, hv⟩ : ∃ v, o k = v := ⟨_, rfl⟩
      rw [hL, hv] at HN1
      rw [hC, hv] at HN2
      rw [hL, hC] at hlc
      rw [hC] at hc1
      rw [hv] at hcl
      rw [hL]
      have e2 : IntKind.i64.wrap ((k : Int) + 1) = (k : Int) + 1 := IntWalk.i64_in _ (by omega)
      clear hL hC hv hbk
      by_cases hv0 : 0 < v
      · have hv1 : ¬ v ≤ 0 := by omega
        by_cases hL0 : 0 ≤ L
        · have HS' : Hid (susF o = -1) := Lib.hid (by
            have h1 := HMO.out
            rw [HN2.out, if_pos hv0] at h1
            unfold susF
            rw [if_neg (by omega)])
          clear hlc hv0 hc1
          go_wp2
          go_ret
          exact ⟨by rw [HS'.out]; rfl, HB1.out.trans (HBK.out.mono HB1.out.size)⟩
        · have HN1' : Hid (lstI o (k + 1) = (k : Int)) := Lib.hid (by rw [HN1.out, if_pos hv0])
          have HN2' : Hid (cn o (k + 1) ≤ 1) := Lib.hid (by rw [HN2.out, if_pos hv0]; omega)
          clear hlc hv0 hc1
          go_wp2
          go_roundw
          case rel => exact ⟨k + 1, by omega, by go_num, by rw [HN1'.out], HN2'.out, HBK.out⟩
          case measure => simp [intOf]; omega
      · have hv1 : v ≤ 0 := by omega
        have HN1' : Hid (lstI o (k + 1) = L) := Lib.hid (by rw [HN1.out, if_neg hv0])
        have HN2' : Hid (cn o (k + 1) ≤ 1) := Lib.hid (by rw [HN2.out, if_neg hv0]; omega)
        clear hlc hv0 hc1
        go_wp2
        go_roundw
        case rel => exact ⟨k + 1, by omega, by go_num, by rw [HN1'.out], HN2'.out, HBK.out⟩
        case measure => simp [intOf]; omega
    · have hke : k = 4 := by omega
      subst hke
      have HS' : Hid (susF o = lstI o 4) := Lib.hid (by
        have := lst_cn o 4
        unfold susF
        split
        · rfl
        · omega)
      clear hbk hc1
      go_wp2
      go_ret
      exact ⟨by rw [HS'.out]; rfl, HB1.out.trans (HBK.out.mono HB1.out.size)⟩
set_option maxRecDepth 100000 in
set_option maxHeartbeats 1000000 in
theorem wst_any (e a b c d : Int) (w : World) : Calls Tryd.prog 11 #[.agg #[.int .i64 e, .int .i64 a, .int .i64 b, .int .i64 c, .int .i64 d]] w fun e' w' => e' = .returned (.int .i64 (wsI (oF a b c d) 4)) ∧ Below w.heap.size w w' := by
  have HB := Lib.hid (bel_new w (.cells #[.int .i64 e, .int .i64 a, .int .i64 b, .int .i64 c, .int .i64 d] TC))
  have HIX := Lib.hid (fun (i : Nat) (h : i < 4) (W : World) => ix4 a b c d h W)
  obtain ⟨o, HO⟩ : ∃ o, Hid (oF a b c d = o) := ⟨_, Lib.hid rfl⟩
  rw [HO.out] at HIX ⊢
  go_enter Tryd.func11, Tryd.ntmps11
  go_wp2_with fail
  go_loopw [3, 4, 9] (fun s m i wx => ∃ k : Nat, k ≤ 4 ∧ i = .int .i64 k ∧ s = .int .i64 (wsI o k) ∧ m = .int .i64 (wsM o k) ∧ Below w.heap.size w wx) (fun _ _ i _ => 4 - (intOf i).toNat)
  case atStart => exact ⟨0, by omega, rfl, rfl, rfl, HB.out⟩
  case round =>
    obtain ⟨k, hk, rfl, rfl, rfl, hbk⟩ := hrel
    have HBK := Lib.hid hbk
    by_cases hlt : k < 4
    · have hki : (k : Int) < 4 := by omega
      have hix := fun W => HIX.out k hlt W
      have HN1 : Hid (wsI o (k + 1) = if wsM o k < o k then (k : Int) else wsI o k) := Lib.hid rfl
      have HN2 : Hid (wsM o (k + 1) = if wsM o k < o k then o k else wsM o k) := Lib.hid rfl
      obtain ⟨L, hL⟩ : ∃ L, wsI o k = L := ⟨_, rfl⟩
      obtain ⟨C, hC⟩ : ∃ C, wsM o k = C := ⟨_, rfl⟩
      obtain ⟨v, hv⟩ : ∃ v, o k = v := ⟨_, rfl⟩
      rw [hL, hC, hv] at HN1
      rw [hC, hv] at HN2
      rw [hL, hC]
      simp only [hv] at hix
      have e2 : IntKind.i64.wrap ((k : Int) + 1) = (k : Int) + 1 := IntWalk.i64_in _ (by omega)
      clear hL hC hv hbk
      by_cases hv0 : C < v
      · have HN1' : Hid (wsI o (k + 1) = (k : Int)) := Lib.hid (by rw [HN1.out, if_pos hv0])
        have HN2' : Hid (wsM o (k + 1) = v) := Lib.hid (by rw [HN2.out, if_pos hv0])
        go_wp2
        go_roundw
        case rel => exact ⟨k + 1, by omega, by go_num, by rw [HN1'.out], by rw [HN2'.out], HBK.out⟩
        case measure => simp [intOf]; omega
      · have HN1' : Hid (wsI o (k + 1) = L) := Lib.hid (by rw [HN1.out, if_neg hv0])
        have HN2' : Hid (wsM o (k + 1) = C) := Lib.hid (by rw [HN2.out, if_neg hv0])
        go_wp2
        go_roundw
        case rel => exact ⟨k + 1, by omega, by go_num, by rw [HN1'.out], by rw [HN2'.out], HBK.out⟩
        case measure => simp [intOf]; omega
    · have hke : k = 4 := by omega
      subst hke
      clear hbk
      go_wp2
      go_ret
      exact ⟨rfl, HBK.out⟩
set_option maxRecDepth 100000 in
set_option maxHeartbeats 1000000 in
theorem rwst_any (a b c d : Int) (w : World) : Calls Tryd.prog 12 #[.agg #[.int .i64 a, .int .i64 b, .int .i64 c, .int .i64 d]] w fun e' w' => e' = .returned (.int .i64 (wsI (oF a b c d) 4)) ∧ Below w.heap.size w w' := by
  obtain ⟨gb, HGB⟩ : ∃ gb, Hid (w.heap.size = gb) := ⟨_, Lib.hid rfl⟩
  obtain ⟨W1, HW1⟩ : ∃ W1, Hid (W1 = w.alloc (.cells #[.int .i64 a, .int .i64 b, .int .i64 c, .int .i64 d] T4)) := ⟨_, Lib.hid rfl⟩
  have HB1 : Hid (Below w.heap.size w W1) := Lib.hid (by rw [HW1.out]; exact bel_new _ _)
  have HOB : Hid (Obj1 W1 gb T4 #[.int .i64 a, .int .i64 b, .int .i64 c, .int .i64 d]) := Lib.hid (by rw [HW1.out, ← HGB.out]; exact Obj1.new _ _ _)
  have HCC : Hid (∀ W, Below W1.heap.size W1 W → ∀ i, i < 4 → W.cell? ⟨gb, i, none⟩ = some (.int .i64 (oF a b c d i))) := Lib.hid (fun W h i hi => cell4 (HOB.out.kept h) hi)
  obtain ⟨o, HO⟩ : ∃ o, Hid (oF a b c d = o) := ⟨_, Lib.hid rfl⟩
  rw [HO.out] at HCC ⊢
  go_enter Tryd.func12, Tryd.ntmps12
  go_upto_region 1 with (fail)
  rw [← HW1.out, HGB.out]
  clear HW1
  go_wp2_with fail
  go_loopw [3, 4, 5] (fun s m i wx => ∃ k : Nat, k ≤ 4 ∧ i = .int .i64 k ∧ s = .int .i64 (wsI o k) ∧ m = .int .i64 (wsM o k) ∧ Below W1.heap.size W1 wx) (fun _ _ i _ => 4 - (intOf i).toNat)
  case atStart => exact ⟨0, by omega, rfl, rfl, rfl, Below.refl _ _⟩
  case round =>
    obtain ⟨k, hk, rfl, rfl, rfl, hbk⟩ := hrel
    have HBK := Lib.hid hbk
    by_cases hlt : k < 4
    · have hki : (k : Int) < 4 := by omega
      have hcl := HCC.out wr hbk k hlt
      have HN1 : Hid (wsI o (k + 1) = if wsM o k < o k then (k : Int) else wsI o k) := Lib.hid rfl
      have HN2 : Hid (wsM o (k + 1) = if wsM o k < o k then o k else wsM o k) := Lib.hid rfl
      obtain ⟨L, hL⟩ : ∃ L, wsI o k = L := ⟨_, rfl⟩
      obtain ⟨C, hC⟩ : ∃ C, wsM o k = C := ⟨_, rfl⟩
      obtain ⟨v, hv⟩ : ∃ v, o k = v := ⟨_, rfl⟩
      rw [hL, hC, hv] at HN1
      rw [hC, hv] at HN2
      rw [hv] at hcl
      rw [hL, hC]
      have e2 : IntKind.i64.wrap ((k : Int) + 1) = (k : Int) + 1 := IntWalk.i64_in _ (by omega)
      have K0 : ∀ z : Kin wr.drew, z.world.cell? ⟨gb, k, none⟩ = some (.int .i64 v) := fun z => Kin.at (w := wr.drew) hcl z
      clear hL hC hv hbk
      by_cases hv0 : C < v
      · have HN1' : Hid (wsI o (k + 1) = (k : Int)) := Lib.hid (by rw [HN1.out, if_pos hv0])
        have HN2' : Hid (wsM o (k + 1) = v) := Lib.hid (by rw [HN2.out, if_pos hv0])
        go_upto_region 6 with (fail)
        clear hcl
        refine wp_region_specL 6 [.d (.int .i64 k), .d (.int .i64 k), .d (.pointer (some ⟨gb, k, none⟩)), .d (.int .i64 v), .d (.int .i64 k), .d (.int .i64 v)] (by kernel_rfl) (by kernel_rfl) ?_
        refine spec_d rfl (fun x _ => gives_run (by go_simp)) ?_
        try simp only [Act.put, List.getElem_toArray, List.getElem_cons_succ, List.getElem_cons_zero, List.setIfInBounds_toArray, List.set_cons_zero, List.set_cons_succ]
        refine spec_d rfl (fun x _ => gives_run (by go_simp)) ?_
        try simp only [Act.put, List.getElem_toArray, List.getElem_cons_succ, List.getElem_cons_zero, List.setIfInBounds_toArray, List.set_cons_zero, List.set_cons_succ]
        refine spec_d rfl (fun x _ => gives_run (by go_simp)) ?_
        try simp only [Act.put, List.getElem_toArray, List.getElem_cons_succ, List.getElem_cons_zero, List.setIfInBounds_toArray, List.set_cons_zero, List.set_cons_succ]
        refine spec_d rfl (fun x _ => gives_run (by go_simp)) ?_
        try simp only [Act.put, List.getElem_toArray, List.getElem_cons_succ, List.getElem_cons_zero, List.setIfInBounds_toArray, List.set_cons_zero, List.set_cons_succ]
        refine spec_d rfl (fun x _ => gives_run (by go_simp)) ?_
        try simp only [Act.put, List.getElem_toArray, List.getElem_cons_succ, List.getElem_cons_zero, List.setIfInBounds_toArray, List.set_cons_zero, List.set_cons_succ]
        refine spec_d rfl (fun x _ => gives_run (by go_simp)) ?_
        try simp only [Act.put, List.getElem_toArray, List.getElem_cons_succ, List.getElem_cons_zero, List.setIfInBounds_toArray, List.set_cons_zero, List.set_cons_succ]
        refine spec_end (fun z hz => ?_)
        clear hz
        refine wpAny_done (by kernel_rfl) ?_ _
        have HB5 := Lib.hid (HBK.out.trans (((bel_drew wr).trans z.below).mono HBK.out.size))
        clear K0
        generalize z.world = w5 at HB5 ⊢
        clear z
        go_wp2
        go_roundw
        case rel => exact ⟨k + 1, by omega, by go_num, by rw [HN1'.out], by rw [HN2'.out], HB5.out⟩
        case measure => simp [intOf]; omega
      · have HN1' : Hid (wsI o (k + 1) = L) := Lib.hid (by rw [HN1.out, if_neg hv0])
        have HN2' : Hid (wsM o (k + 1) = C) := Lib.hid (by rw [HN2.out, if_neg hv0])
        clear K0
        go_wp2
        go_roundw
        case rel => exact ⟨k + 1, by omega, by go_num, by rw [HN1'.out], by rw [HN2'.out], HBK.out⟩
        case measure => simp [intOf]; omega
    · have hke : k = 4 := by omega
      subst hke
      clear hbk
      go_wp2
      go_ret
      exact ⟨rfl, HB1.out.trans (HBK.out.mono HB1.out.size)⟩
theorem cln_any (e a b c d : Int) (w : World) : Calls Tryd.prog 13 #[.agg #[.int .i64 e, .int .i64 a, .int .i64 b, .int .i64 c, .int .i64 d]] w fun e' w' => e' = .returned (.bool (decide (wsI (oF a b c d) 4 = -1))) ∧ Below w.heap.size w w' := by
  obtain ⟨gb, HGB⟩ : ∃ gb, Hid (w.heap.size = gb) := ⟨_, Lib.hid rfl⟩
  obtain ⟨W1, HW1⟩ : ∃ W1, Hid (W1 = w.alloc (.cells #[.int .i64 e, .int .i64 a, .int .i64 b, .int .i64 c, .int .i64 d] TC)) := ⟨_, Lib.hid rfl⟩
  have HB1 : Hid (Below w.heap.size w W1) := Lib.hid (by rw [HW1.out]; exact bel_new _ _)
  have HOB : Hid (Obj1 W1 gb TC #[.int .i64 e, .int .i64 a, .int .i64 b, .int .i64 c, .int .i64 d]) := Lib.hid (by rw [HW1.out, ← HGB.out]; exact Obj1.new _ _ _)
  have q0 := HOB.out.cell 0
  have q1 := HOB.out.cell 1
  have q2 := HOB.out.cell 2
  have q3 := HOB.out.cell 3
  have q4 := HOB.out.cell 4
  simp at q0 q1 q2 q3 q4
  have HW := Lib.hid (wst_any e a b c d W1)
  have hbd := wsI_bd (oF a b c d) 4
  obtain ⟨X, HX⟩ : ∃ X, Hid (wsI (oF a b c d) 4 = X) := ⟨_, Lib.hid rfl⟩
  rw [HX.out] at HW hbd ⊢
  obtain ⟨q, HQ⟩ : ∃ q, Hid (decide (X = -1) = q) := ⟨_, Lib.hid rfl⟩
  rw [HQ.out]
  have hq : decide (X < 0) = q := by rw [← HQ.out, decide_eq_decide]; omega
  go_enter Tryd.func13, Tryd.ntmps13
  go_upto_region 1 with (fail)
  rw [← HW1.out, HGB.out]
  clear HW1 hbd
  go_wp2_with fail
  refine HW.out.mono ?_
  rintro e w2 ⟨rfl, hb2⟩
  have HB2 := Lib.hid (HB1.out.trans (hb2.mono HB1.out.size))
  clear hb2 q0 q1 q2 q3 q4
  go_wp2
  go_ret
  exact ⟨by rw [← hq]; rfl, HB2.out⟩
end Go.Proofs.YtanhblokhcaoiaaDoor.Dg
