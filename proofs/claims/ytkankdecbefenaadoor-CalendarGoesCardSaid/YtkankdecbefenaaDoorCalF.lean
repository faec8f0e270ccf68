/- The functions inside package calendar's Age and Late: when a window ends, and what is kept; no condition but sizes. -/
import Derived.RegionTactic
import Derived.IntWalk
import Derived.Test.YtkankdecbefenaaDoorCalB
import Derived.Test.YtkankdecbefenaaDoorGenA
namespace Go.Proofs.YtkankdecbefenaaDoor.Ly7
open Go.ChangeShapes Go.WideShapes Go.ChangeAt Go.RowKit Base
set_option linter.unusedVariables false
set_option linter.unusedSimpArgs false

abbrev TInt : TypeId := 3
abbrev TLs : TypeId := 50
/-- When the window behind so many of those that write a place ends. -/
def endF (own : List Sl) (T : Int) (n : Nat) : Int := match own[n % own.length]? with
  | some z => z.s + z.l + ((n / own.length : Nat) : Int) * T
  | none => 0
theorem end_num {q : Nat} {T X a b : Int} (hq : q ≤ 1000) (hT : 0 ≤ T ∧ T ≤ 20000000) (hX : (q : Int) * T = X) (ha : 0 ≤ a ∧ a ≤ 20000000) (hb : 0 ≤ b ∧ b ≤ 20000) :
    wrap64 (q : Int) = (q : Int) ∧ IntKind.i64.wrap ((q : Int) * T) = X ∧ IntKind.i64.wrap (a + b) = a + b ∧ IntKind.i64.wrap (a + b + X) = a + b + X ∧ IntKind.i64.wrap (q : Int) = (q : Int) := by
  have hXb : 0 ≤ X ∧ X ≤ 20000000000 := by
    rw [← hX]
    have h1 := Int.mul_nonneg (show 0 ≤ (q : Int) by omega) hT.1
    have h2 : (q : Int) * T ≤ 1000 * T := Int.mul_le_mul_of_nonneg_right (by omega) hT.1
    omega
  refine ⟨by unfold wrap64; omega, ?_, IntWalk.i64_in _ (by omega), IntWalk.i64_in _ (by omega), IntWalk.i64_in _ (by omega)⟩
  rw [hX]
  exact IntWalk.i64_in _ (by omega)
theorem md_num {n m r q : Nat} (hr : n % m = r) (hq : n / m = q) (hm : 0 < m) : (n : Int).tmod (m : Int) = (r : Int) ∧ (n : Int) % (m : Int) = (r : Int) ∧ (n : Int).tdiv (m : Int) = (q : Int) ∧ (n : Int) / (m : Int) = (q : Int) ∧ ¬ (m : Int) = 0 ∧ ¬ m = 0 ∧ (r : Int) < (m : Int) ∧ (0 : Int) ≤ (r : Int) := by
  have h1 : r < m := by rw [← hr]; exact Nat.mod_lt _ hm
  exact ⟨by rw [Int.tmod_eq_emod_of_nonneg (by omega), ← hr]; exact (Int.natCast_emod n m).symm, by rw [← hr]; exact (Int.natCast_emod n m).symm, by rw [Int.tdiv_eq_ediv_of_nonneg (by omega), ← hq]; exact (Int.natCast_ediv n m).symm, by rw [← hq]; exact (Int.natCast_ediv n m).symm, by omega, by omega, by omega, by omega⟩
set_option maxRecDepth 100000 in
set_option maxHeartbeats 2000000 in
theorem end_any (gO gl : Nat) (A : Option Addr) (m c : Nat) (own : List Sl) (T : Int) (n : Nat) (w : World) (hO : Obj1 w gO TLs #[.slice A m c]) (hL : Obj1 w gl TInt #[.int .i64 T]) (hS : SlAt w A m own) (hm : 0 < m) (hm9 : m ≤ 902) (hn : n ≤ 1000) (hT : 0 ≤ T ∧ T ≤ 20000000)
    (hb : ∀ z ∈ own, (0 ≤ z.s ∧ z.s ≤ 20000000) ∧ 0 ≤ z.l ∧ z.l ≤ 20000) :
    Calls Tryd.prog 42 #[.int .i64 (n : Int), .pointer (some ⟨gO, 0, none⟩), .pointer (some ⟨gl, 0, none⟩)] w fun e w' => e = .returned (.int .i64 (endF own T n)) ∧ Below w.heap.size w w' := by
  have hl : own.length = m := hS.len
  obtain ⟨r, hr⟩ : ∃ r, n % m = r := ⟨_, rfl⟩
  obtain ⟨q, hq⟩ : ∃ q, n / m = q := ⟨_, rfl⟩
  have hrm : r < m := by rw [← hr]; exact Nat.mod_lt _ hm
  have hqn : q ≤ n := by rw [← hq]; exact Nat.div_le_self _ _
  obtain ⟨z, hz⟩ : ∃ z, own[r]? = some z := ⟨_, List.getElem?_eq_getElem (by rw [hl]; exact hrm)⟩
  have hzb := hb z (List.mem_of_getElem? hz)
  have HE : Hid (endF own T n = z.s + z.l + (q : Int) * T) := Lib.hid (by unfold endF; rw [hl, hr, hq, hz])
  obtain ⟨X, hX⟩ : ∃ X, (q : Int) * T = X := ⟨_, rfl⟩
  rw [HE.out, hX]
  have HXH := Lib.hid hX
  obtain ⟨b, off, rfl, hbb, k0, k1, k2, k3, k4, k5, k6, k7⟩ := hS.eight hrm hz
  obtain ⟨e1, e2, e3, e4, hmn, hmz, hrm', hr0⟩ := md_num hr hq hm
  obtain ⟨e5, e6, e7, e8, e9⟩ := end_num (show q ≤ 1000 by omega) hT hX hzb.1 hzb.2
  have c0 : ∀ x : Kin w.drew, x.world.cell? ⟨gO, 0, none⟩ = some (.slice (some ⟨b, off, none⟩) m c) := fun x => Kin.at (w := w.drew) (hO.cell 0) x
  have c1 : ∀ x : Kin w.drew, x.world.cell? ⟨gl, 0, none⟩ = some (.int .i64 T) := fun x => Kin.at (w := w.drew) (hL.cell 0) x
  have K1 : ∀ x : Kin w.drew, x.world.cell? ⟨b, off + r * 8 + 1, none⟩ = some (.int .i64 z.s) := fun x => Kin.at (w := w.drew) k1 x
  have K2 : ∀ x : Kin w.drew, x.world.cell? ⟨b, off + r * 8 + 2, none⟩ = some (.int .i64 z.l) := fun x => Kin.at (w := w.drew) k2 x
  clear hO hL hS hm hb hl hr hq hz hzb hX hbb k0 k1 k2 k3 k4 k5 k6 k7 hqn hrm hT hn hm9
  go_enter Tryd.func42, Tryd.ntmps42
  go_upto_region 1 with (fail)
  refine wp_region_specL 25 [.d (.slice (some ⟨b, off, none⟩) m c), .d (.int .i64 (n : Int)), .d (.slice (some ⟨b, off, none⟩) m c), .d (.int .i64 (m : Int)), .d (.int .i64 (r : Int)), .d (.pointer (some ⟨b, off + r * 8, none⟩)), .d (.pointer (some ⟨b, off + r * 8 + 1, none⟩)), .d (.int .i64 z.s), .d (.slice (some ⟨b, off, none⟩) m c), .d (.int .i64 (n : Int)), .d (.slice (some ⟨b, off, none⟩) m c), .d (.int .i64 (m : Int)), .d (.int .i64 (r : Int)), .d (.pointer (some ⟨b, off + r * 8, none⟩)), .d (.pointer (some ⟨b, off + r * 8 + 2, none⟩)), .d (.int .i64 z.l), .d (.int .i64 (z.s + z.l)), .d (.int .i64 (n : Int)), .d (.slice (some ⟨b, off, none⟩) m c), .d (.int .i64 (m : Int)), .d (.int .i64 (q : Int)), .d (.int .i64 T), .d (.int .i64 X), .d (.int .i64 (z.s + z.l + X)), .d (.int .i64 (z.s + z.l + X))] (by kernel_rfl) (by kernel_rfl) ?_
  refine spec_d rfl (fun x _ => gives_run (by go_simp)) ?_
  try simp only [Act.put, List.getElem_toArray, List.getElem_cons_succ, List.getElem_cons_zero, List.setIfInBounds_toArray, List.set_cons_zero, List.set_cons_succ]
  refine spec_d rfl (fun x _ => gives_run (by go_simp)) ?_
  try simp only [Act.put, List.getElem_toArray, List.getElem_cons_succ, List.getElem_cons_zero, List.setIfInBounds_toArray, List.set_cons_zero, List.set_cons_succ]
  refine spec_d rfl (fun x _ => gives_run (by go_simp)) ?_
  try simp only [Act.put, List.getElem_toArray, List.getElem_cons_succ, List.getElem_cons_zero, List.setIfInBounds_toArray, List.set_cons_zero, List.set_cons_succ]
  refine spec_d rfl (fun x _ => gives_run (by go_simp)) ?_
  try simp only [Act.put, List.getElem_toArray, List.getElem_cons_succ, List.getElem_cons_zero, List.setIfInBounds_toArray, List.set_cons_zero, List.set_cons_succ]
  refine spec_d rfl (fun x _ => gives_run (by go_simp)) ?_
  try simp only [Act.put, List.getElem_toArray, List.getElem_cons_succ, List.getElem_cons_zero, List.setIfInBounds_toArray, List.set_cons_zero, List.set_cons_succ]
  refine spec_d rfl (fun x _ => gives_run (by go_simp)) ?_
  try simp only [Act.put, List.getElem_toArray, List.getElem_cons_succ, List.getElem_cons_zero, List.setIfInBounds_toArray, List.set_cons_zero, List.set_cons_succ]
  refine spec_d rfl (fun x _ => gives_run (by go_simp)) ?_
  try simp only [Act.put, List.getElem_toArray, List.getElem_cons_succ, List.getElem_cons_zero, List.setIfInBounds_toArray, List.set_cons_zero, List.set_cons_succ]
  refine spec_d rfl (fun x _ => gives_run (by go_simp)) ?_
  try simp only [Act.put, List.getElem_toArray, List.getElem_cons_succ, List.getElem_cons_zero, List.setIfInBounds_toArray, List.set_cons_zero, List.set_cons_succ]
  refine spec_d rfl (fun x _ => gives_run (by go_simp)) ?_
  try simp only [Act.put, List.getElem_toArray, List.getElem_cons_succ, List.getElem_cons_zero, List.setIfInBounds_toArray, List.set_cons_zero, List.set_cons_succ]
  refine spec_d rfl (fun x _ => gives_run (by go_simp)) ?_
  try simp only [Act.put, List.getElem_toArray, List.getElem_cons_succ, List.getElem_cons_zero, List.setIfInBounds_toArray, List.set_cons_zero, List.set_cons_succ]
  refine spec_d rfl (fun x _ => gives_run (by go_simp)) ?_
  try simp only [Act.put, List.getElem_toArray, List.getElem_cons_succ, List.getElem_cons_zero, List.setIfInBounds_toArray, List.set_cons_zero, List.set_cons_succ]
  refine spec_d rfl (fun x _ => gives_run (by go_simp)) ?_
  try simp only [Act.put, List.getElem_toArray, List.getElem_cons_succ, List.getElem_cons_zero, List.setIfInBounds_toArray, List.set_cons_zero, List.set_cons_succ]
  refine spec_d rfl (fun x _ => gives_run (by go_simp)) ?_
  try simp only [Act.put, List.getElem_toArray, List.getElem_cons_succ, List.getElem_cons_zero, List.setIfInBounds_toArray, List.set_cons_zero, List.set_cons_succ]
  refine spec_d rfl (fun x _ => gives_run (by go_simp)) ?_
  try simp only [Act.put, List.getElem_toArray, List.getElem_cons_succ, List.getElem_cons_zero, List.setIfInBounds_toArray, List.set_cons_zero, List.set_cons_succ]
  refine spec_d rfl (fun x _ => gives_run (by go_simp)) ?_
  try simp only [Act.put, List.getElem_toArray, List.getElem_cons_succ, List.getElem_cons_zero, List.setIfInBounds_toArray, List.set_cons_zero, List.set_cons_succ]
  refine spec_d rfl (fun x _ => gives_run (by go_simp)) ?_
  try simp only [Act.put, List.getElem_toArray, List.getElem_cons_succ, List.getElem_cons_zero, List.setIfInBounds_toArray, List.set_cons_zero, List.set_cons_succ]
  refine spec_d rfl (fun x _ => gives_run (by go_simp)) ?_
  try simp only [Act.put, List.getElem_toArray, List.getElem_cons_succ, List.getElem_cons_zero, List.setIfInBounds_toArray, List.set_cons_zero, List.set_cons_succ]
  refine spec_d rfl (fun x _ => gives_run (by go_simp)) ?_
  try simp only [Act.put, List.getElem_toArray, List.getElem_cons_succ, List.getElem_cons_zero, List.setIfInBounds_toArray, List.set_cons_zero, List.set_cons_succ]
  refine spec_d rfl (fun x _ => gives_run (by go_simp)) ?_
  try simp only [Act.put, List.getElem_toArray, List.getElem_cons_succ, List.getElem_cons_zero, List.setIfInBounds_toArray, List.set_cons_zero, List.set_cons_succ]
  refine spec_d rfl (fun x _ => gives_run (by go_simp)) ?_
  try simp only [Act.put, List.getElem_toArray, List.getElem_cons_succ, List.getElem_cons_zero, List.setIfInBounds_toArray, List.set_cons_zero, List.set_cons_succ]
  refine spec_d rfl (fun x _ => gives_run (by go_simp)) ?_
  try simp only [Act.put, List.getElem_toArray, List.getElem_cons_succ, List.getElem_cons_zero, List.setIfInBounds_toArray, List.set_cons_zero, List.set_cons_succ]
  refine spec_d rfl (fun x _ => gives_run (by go_simp)) ?_
  try simp only [Act.put, List.getElem_toArray, List.getElem_cons_succ, List.getElem_cons_zero, List.setIfInBounds_toArray, List.set_cons_zero, List.set_cons_succ]
  refine spec_d rfl (fun x _ => gives_run (by go_simp)) ?_
  try simp only [Act.put, List.getElem_toArray, List.getElem_cons_succ, List.getElem_cons_zero, List.setIfInBounds_toArray, List.set_cons_zero, List.set_cons_succ]
  refine spec_d rfl (fun x _ => gives_run (by go_simp)) ?_
  try simp only [Act.put, List.getElem_toArray, List.getElem_cons_succ, List.getElem_cons_zero, List.setIfInBounds_toArray, List.set_cons_zero, List.set_cons_succ]
  refine spec_d rfl (fun x _ => gives_run (by go_simp)) ?_
  try simp only [Act.put, List.getElem_toArray, List.getElem_cons_succ, List.getElem_cons_zero, List.setIfInBounds_toArray, List.set_cons_zero, List.set_cons_succ]
  refine spec_end (fun x hx => ?_)
  clear hx
  refine wpAny_done (by kernel_rfl) ?_ _
  have HB : Hid (Below w.heap.size w x.world) := Lib.hid ((bel_drew w).trans x.below)
  clear c0 c1 K1 K2
  generalize x.world = w3 at HB ⊢
  clear x
  go_wp2
  go_ret
  exact ⟨rfl, HB.out⟩
set_option maxRecDepth 100000 in
theorem age1_any (gm : Nat) (b e x m : Int) (w : World) (h : Obj1 w gm TInt #[.int .i64 m]) (hb : (0 ≤ b ∧ b ≤ 30000000000) ∧ (0 ≤ e ∧ e ≤ 30000000000) ∧ (0 ≤ x ∧ x ≤ 30000000000)) :
    Calls Tryd.prog 30 #[.int .i64 b, .int .i64 e, .int .i64 x, .pointer (some ⟨gm, 0, none⟩)] w fun r w' => r = .returned (.tuple #[]) ∧ Obj1 w' gm TInt #[.int .i64 (max m (x - e))] ∧ Wrote gm w w' := by
  have HO := Lib.hid h
  have c0 : w.cell? ⟨gm, 0, none⟩ = some (.int .i64 m) := h.cell 0
  have f0 : w.frozen? ⟨gm, 0, none⟩ = false := h.free 0
  have l0 := h.lt
  have e1 : IntKind.i64.wrap (x - e) = x - e := IntWalk.i64_in _ (by omega)
  have e2 : IntKind.i64.wrap (x - b) = x - b := IntWalk.i64_in _ (by omega)
  have e3 : IntKind.i64.wrap (x - b - 1) = x - b - 1 := IntWalk.i64_in _ (by omega)
  clear h hb
  by_cases hc : m ≤ x - e
  · have HC : Hid (max m (x - e) = x - e) := Lib.hid (Int.max_eq_right hc)
    rw [HC.out]
    go_enter Tryd.func30, Tryd.ntmps30
    go_wp2
    all_goals
      first | go_end0 | refine bodyPost_ret (results_none rfl _ _ _) rfl ?_
      first
        | exact ⟨rfl, HO.out.set 0 _, (Wrote.refl gm w).set (p := ⟨gm, 0, none⟩) (.inl rfl) _⟩
        | (have hq : x - e = m := by omega
           rw [hq]
           exact ⟨rfl, HO.out.set 0 _, (Wrote.refl gm w).set (p := ⟨gm, 0, none⟩) (.inl rfl) _⟩)
        | (exfalso; omega)
  · have HC : Hid (max m (x - e) = m) := Lib.hid (Int.max_eq_left (by omega))
    rw [HC.out]
    go_enter Tryd.func30, Tryd.ntmps30
    go_wp2
    all_goals
      first | go_end0 | refine bodyPost_ret (results_none rfl _ _ _) rfl ?_
      first
        | exact ⟨rfl, HO.out.set 0 _, (Wrote.refl gm w).set (p := ⟨gm, 0, none⟩) (.inl rfl) _⟩
        | (have hq : x - e = m := by omega
           rw [hq]
           exact ⟨rfl, HO.out.set 0 _, (Wrote.refl gm w).set (p := ⟨gm, 0, none⟩) (.inl rfl) _⟩)
        | (exfalso; omega)
set_option maxRecDepth 100000 in
theorem late1_any (gm : Nat) (b e x m : Int) (w : World) (h : Obj1 w gm TInt #[.int .i64 m]) (hb : (0 ≤ b ∧ b ≤ 30000000000) ∧ (0 ≤ e ∧ e ≤ 30000000000) ∧ (0 ≤ x ∧ x ≤ 30000000000)) :
    Calls Tryd.prog 31 #[.int .i64 b, .int .i64 e, .int .i64 x, .pointer (some ⟨gm, 0, none⟩)] w fun r w' => r = .returned (.tuple #[]) ∧ Obj1 w' gm TInt #[.int .i64 (max m (x - b - 1))] ∧ Wrote gm w w' := by
  have HO := Lib.hid h
  have c0 : w.cell? ⟨gm, 0, none⟩ = some (.int .i64 m) := h.cell 0
  have f0 : w.frozen? ⟨gm, 0, none⟩ = false := h.free 0
  have l0 := h.lt
  have e1 : IntKind.i64.wrap (x - e) = x - e := IntWalk.i64_in _ (by omega)
  have e2 : IntKind.i64.wrap (x - b) = x - b := IntWalk.i64_in _ (by omega)
  have e3 : IntKind.i64.wrap (x - b - 1) = x - b - 1 := IntWalk.i64_in _ (by omega)
  clear h hb
  by_cases hc : m ≤ x - b - 1
  · have HC : Hid (max m (x - b - 1) = x - b - 1) := Lib.hid (Int.max_eq_right hc)
    rw [HC.out]
    go_enter Tryd.func31, Tryd.ntmps31
    go_wp2
    all_goals
      first | go_end0 | refine bodyPost_ret (results_none rfl _ _ _) rfl ?_
      first
        | exact ⟨rfl, HO.out.set 0 _, (Wrote.refl gm w).set (p := ⟨gm, 0, none⟩) (.inl rfl) _⟩
        | (have hq : x - b - 1 = m := by omega
           rw [hq]
           exact ⟨rfl, HO.out.set 0 _, (Wrote.refl gm w).set (p := ⟨gm, 0, none⟩) (.inl rfl) _⟩)
        | (exfalso; omega)
  · have HC : Hid (max m (x - b - 1) = m) := Lib.hid (Int.max_eq_left (by omega))
    rw [HC.out]
    go_enter Tryd.func31, Tryd.ntmps31
    go_wp2
    all_goals
      first | go_end0 | refine bodyPost_ret (results_none rfl _ _ _) rfl ?_
      first
        | exact ⟨rfl, HO.out.set 0 _, (Wrote.refl gm w).set (p := ⟨gm, 0, none⟩) (.inl rfl) _⟩
        | (have hq : x - b - 1 = m := by omega
           rw [hq]
           exact ⟨rfl, HO.out.set 0 _, (Wrote.refl gm w).set (p := ⟨gm, 0, none⟩) (.inl rfl) _⟩)
        | (exfalso; omega)
end Go.Proofs.YtkankdecbefenaaDoor.Ly7
