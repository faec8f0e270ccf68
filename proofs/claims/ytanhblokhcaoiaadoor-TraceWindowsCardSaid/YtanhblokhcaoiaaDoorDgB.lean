/- Package diag and the document: Share, Text; no condition but sizes. -/
import Derived.Test.YtanhblokhcaoiaaDoorDgA
import Derived.Test.YtanhblokhcaoiaaDoorPush
namespace Go.Proofs.YtanhblokhcaoiaaDoor.Dg
open Go.ChangeShapes Go.WideShapes Go.ChangeAt Go.RowKit Base
open Joi (stV)
set_option linter.unusedVariables false
set_option linter.unusedSimpArgs false

/-- How many of a thousand bits a line said otherwise. -/
def shF (b o : Int) : Int := min 1000 (1000 * max 0 (min o 1099511627776) / min b 1099511627776)
def shV (b : Int) (o : Nat → Int) (l : Int) : Int := if 0 < b ∧ 0 ≤ l ∧ l ≤ 3 then shF b (o l.toNat) else 0
set_option maxRecDepth 100000 in
set_option maxHeartbeats 1000000 in
theorem share_no (e a b c d l : Int) (h : e ≤ 0 ∨ l < 0 ∨ 4 ≤ l) (w : World) : Calls Tryd.prog 14 #[.agg #[.int .i64 e, .int .i64 a, .int .i64 b, .int .i64 c, .int .i64 d], .int .i64 l] w fun e' w' => e' = .returned (.int .i64 0) ∧ Below w.heap.size w w' := by
  obtain ⟨gb, HGB⟩ : ∃ gb, Hid (w.heap.size = gb) := ⟨_, Lib.hid rfl⟩
  obtain ⟨W1, HW1⟩ : ∃ W1, Hid (W1 = w.alloc (.cells #[.int .i64 e, .int .i64 a, .int .i64 b, .int .i64 c, .int .i64 d] TC)) := ⟨_, Lib.hid rfl⟩
  have HB1 : Hid (Below w.heap.size w W1) := Lib.hid (by rw [HW1.out]; exact bel_new _ _)
  have HOB : Hid (Obj1 W1 gb TC #[.int .i64 e, .int .i64 a, .int .i64 b, .int .i64 c, .int .i64 d]) := Lib.hid (by rw [HW1.out, ← HGB.out]; exact Obj1.new _ _ _)
  have q0 := HOB.out.cell 0
  simp at q0
  rcases (show e ≤ 0 ∨ (¬ e ≤ 0 ∧ l < 0) ∨ (¬ e ≤ 0 ∧ ¬ l < 0 ∧ 4 ≤ l) by omega) with h1 | ⟨h1, h2⟩ | ⟨h1, h2, h3⟩
  all_goals
    clear h
    go_enter Tryd.func14, Tryd.ntmps14
    go_upto_region 1 with (fail)
    rw [← HW1.out, HGB.out]
    clear HW1
    go_wp2
    go_ret
    exact ⟨rfl, HB1.out⟩
theorem sh_eq {b o m n q r : Int} (hb : 0 < b) (hm : min (max o 0) 1099511627776 = m) (hn : min b 1099511627776 = n) (hq : (1000 * m).tdiv n = q) (hr : min q 1000 = r) : shF b o = r ∧ 0 ≤ m ∧ m ≤ 1099511627776 ∧ 1 ≤ n ∧ 0 ≤ q ∧ q ≤ 1099511627776000 := by
  have h1 : max 0 (min o 1099511627776) = m := by omega
  have h2 : 0 ≤ m := by omega
  have h3 : 0 ≤ 1000 * m := by omega
  have h5 : m ≤ 1099511627776 := by omega
  rw [Int.tdiv_eq_ediv_of_nonneg h3] at hq
  have hn1 : 1 ≤ n := by omega
  have h4 : 0 ≤ q := by rw [← hq]; exact Int.ediv_nonneg h3 (by omega)
  have h6 : q ≤ 1000 * m := by rw [← hq]; exact Int.ediv_le_self _ h3
  refine ⟨?_, h2, h5, hn1, h4, by omega⟩
  unfold shF
  rw [h1, hn, hq]
  omega
set_option maxRecDepth 100000 in
set_option maxHeartbeats 1000000 in
theorem share_yes (e a b c d : Int) (l : Nat) (he : 0 < e) (hl : l < 4) (w : World) : Calls Tryd.prog 14 #[.agg #[.int .i64 e, .int .i64 a, .int .i64 b, .int .i64 c, .int .i64 d], .int .i64 (l : Int)] w fun e' w' => e' = .returned (.int .i64 (shF e (oF a b c d l))) ∧ Below w.heap.size w w' := by
  obtain ⟨gb, HGB⟩ : ∃ gb, Hid (w.heap.size = gb) := ⟨_, Lib.hid rfl⟩
  obtain ⟨W1, HW1⟩ : ∃ W1, Hid (W1 = w.alloc (.cells #[.int .i64 e, .int .i64 a, .int .i64 b, .int .i64 c, .int .i64 d] TC)) := ⟨_, Lib.hid rfl⟩
  have HB1 : Hid (Below w.heap.size w W1) := Lib.hid (by rw [HW1.out]; exact bel_new _ _)
  have HOB : Hid (Obj1 W1 gb TC #[.int .i64 e, .int .i64 a, .int .i64 b, .int .i64 c, .int .i64 d]) := Lib.hid (by rw [HW1.out, ← HGB.out]; exact Obj1.new _ _ _)
  have q0 := HOB.out.cell 0
  simp at q0
  have hcl := cell5 HOB.out hl
  obtain ⟨o, ho⟩ : ∃ o, oF a b c d l = o := ⟨_, rfl⟩
  rw [ho] at hcl ⊢
  have h1 : ¬ e ≤ 0 := by omega
  have h2 : ¬ (l : Int) < 0 := by omega
  have h3 : ¬ 4 ≤ (l : Int) := by omega
  have h4 : (l : Int) < 4 := by omega
  have h5 : (0 : Int) ≤ (l : Int) := by omega
  obtain ⟨m0, hm0⟩ : ∃ m, max o 0 = m := ⟨_, rfl⟩
  obtain ⟨m, hm⟩ : ∃ m, min m0 1099511627776 = m := ⟨_, rfl⟩
  obtain ⟨n, hn⟩ : ∃ n, min e 1099511627776 = n := ⟨_, rfl⟩
  obtain ⟨q, hq⟩ : ∃ q, (1000 * m).tdiv n = q := ⟨_, rfl⟩
  obtain ⟨r, hr⟩ : ∃ r, min q 1000 = r := ⟨_, rfl⟩
  obtain ⟨hS, b1, b2, b3, b4, b5⟩ := sh_eq (o := o) he (by rw [hm0]; exact hm) hn hq hr
  rw [hS]
  have e1 : IntKind.i64.wrap (1000 * m) = 1000 * m := IntWalk.i64_in _ (by omega)
  have e2 : wrap64 q = q := IntWalk.wrap64_in q (by omega)
  have e3 : IntKind.i64.wrap q = q := IntWalk.i64_in q (by omega)
  have e4 : (n == 0) = false := by simp; omega
  have e5 : ¬ n = 0 := by omega
  have K0 : ∀ z : Kin W1.drew, z.world.cell? ⟨gb, 0, none⟩ = some (.int .i64 e) := fun z => Kin.at (w := W1.drew) q0 z
  have K1 : ∀ z : Kin W1.drew, z.world.cell? ⟨gb, 1 + l, none⟩ = some (.int .i64 o) := fun z => Kin.at (w := W1.drew) hcl z
  clear ho b1 b2 b3 b4 b5 hS
  go_enter Tryd.func14, Tryd.ntmps14
  go_upto_region 1 with (fail)
  rw [← HW1.out, HGB.out]
  clear HW1
  go_upto_region 3 with (fail)
  clear q0 hcl
  refine wp_region_specL 11 [.d (.int .i64 l), .d (.pointer (some ⟨gb, 1, none⟩)), .d (.pointer (some ⟨gb, 1 + l, none⟩)), .d (.int .i64 o), .d (.int .i64 m0), .d (.int .i64 m), .d (.pointer (some ⟨gb, 0, none⟩)), .d (.int .i64 e), .d (.int .i64 n), .d (.int .i64 m), .d (.int .i64 n)] (by kernel_rfl) (by kernel_rfl) ?_
  refine spec_d rfl (fun x _ => gives_run (by go_simp)) ?_
  try simp only [Act.put, List.getElem_toArray, List.getElem_cons_succ, List.getElem_cons_zero, List.setIfInBounds_toArray, List.set_cons_zero, List.set_cons_succ]
  refine spec_d rfl (fun x _ => gives_run (by go_simp)) ?_
  try simp only [Act.put, List.getElem_toArray, List.getElem_cons_succ, List.getElem_cons_zero, List.setIfInBounds_toArray, List.set_cons_zero, List.set_cons_succ]
  refine spec_d rfl (fun x _ => gives_run (by go_simp)) ?_
  try simp only [Act.put, List.getElem_toArray, List.getElem_cons_succ, List.getElem_cons_zero, List.setIfInBounds_toArray, List.set_cons_zero, List.set_cons_succ]
  refine spec_d rfl (fun x _ => gives_run (by go_simp)) ?_
  try simp only [Act.put, List.getElem_toArray, List.getElem_cons_succ, List.getElem_cons_zero, List.setIfInBounds_toArray, List.set_cons_zero, List.set_cons_succ]
  refine spec_d rfl (fun x _ => gives_run (by go_simp)) ?_
  try simp only [Act.put, List.getElem_toArray, List.getElem_cons_succ, List.getElem_cons_zero, List.setIfInBounds_toArray, List.set_cons_zero, List.set_cons_succ]
  refine spec_d rfl (fun x _ => gives_run (by go_simp)) ?_
  try simp only [Act.put, List.getElem_toArray, List.getElem_cons_succ, List.getElem_cons_zero, List.setIfInBounds_toArray, List.set_cons_zero, List.set_cons_succ]
  refine spec_d rfl (fun x _ => gives_run (by go_simp)) ?_
  try simp only [Act.put, List.getElem_toArray, List.getElem_cons_succ, List.getElem_cons_zero, List.setIfInBounds_toArray, List.set_cons_zero, List.set_cons_succ]
  refine spec_d rfl (fun x _ => gives_run (by go_simp)) ?_
  try simp only [Act.put, List.getElem_toArray, List.getElem_cons_succ, List.getElem_cons_zero, List.setIfInBounds_toArray, List.set_cons_zero, List.set_cons_succ]
  refine spec_d rfl (fun x _ => gives_run (by go_simp)) ?_
  try simp only [Act.put, List.getElem_toArray, List.getElem_cons_succ, List.getElem_cons_zero, List.setIfInBounds_toArray, List.set_cons_zero, List.set_cons_succ]
  refine spec_d rfl (fun x _ => gives_run (by go_simp)) ?_
  try simp only [Act.put, List.getElem_toArray, List.getElem_cons_succ, List.getElem_cons_zero, List.setIfInBounds_toArray, List.set_cons_zero, List.set_cons_succ]
  refine spec_d rfl (fun x _ => gives_run (by go_simp)) ?_
  try simp only [Act.put, List.getElem_toArray, List.getElem_cons_succ, List.getElem_cons_zero, List.setIfInBounds_toArray, List.set_cons_zero, List.set_cons_succ]
  refine spec_end (fun z hz => ?_)
  clear hz
  refine wpAny_done (by kernel_rfl) ?_ _
  have HB5 := Lib.hid (HB1.out.trans (((bel_drew W1).trans z.below).mono HB1.out.size))
  clear K0 K1
  generalize z.world = w5 at HB5 ⊢
  clear z
  go_wp2
  go_ret
  exact ⟨rfl, HB5.out⟩

/-! ### Text -/

def nmL (k : Nat) : List UInt8 := if k = 0 then [97, 120] else if k = 1 then [98, 120] else if k = 2 then [97, 121] else [98, 121]
/-- The table of the lines' names. -/
def Nm (w : World) : Prop := w.cell? ⟨0, 0, none⟩ = some (stV (nmL 0)) ∧ w.cell? ⟨0, 1, none⟩ = some (stV (nmL 1)) ∧ w.cell? ⟨0, 2, none⟩ = some (stV (nmL 2)) ∧ w.cell? ⟨0, 3, none⟩ = some (stV (nmL 3))
theorem Nm.kept {w w' : World} (h : Nm w) (hb : Below w.heap.size w w') : Nm w' := by
  obtain ⟨h0, h1, h2, h3⟩ := h
  have hlt : 0 < w.heap.size := World.block_lt_of_cell? w _ h0
  exact ⟨(hb.cell (p := ⟨0, 0, none⟩) hlt).trans h0, (hb.cell (p := ⟨0, 1, none⟩) hlt).trans h1, (hb.cell (p := ⟨0, 2, none⟩) hlt).trans h2, (hb.cell (p := ⟨0, 3, none⟩) hlt).trans h3⟩
theorem is_yes (k : Nat) (w : World) (hk : k < 4) : Calls Tryd.prog 54 #[.int .i64 (k : Int)] w fun e w' => e = .returned (.bool true) ∧ w = w' := by
  have h1 : (0 : Int) ≤ (k : Int) := by omega
  have h2 : (k : Int) < 4 := by omega
  go_enter Tryd.func54, Tryd.ntmps54
  go_wp2
  go_ret
  exact ⟨rfl, rfl⟩
set_option maxRecDepth 100000 in
theorem name_at (k : Nat) (w : World) (hk : k < 4) (hN : Nm w) : Calls Tryd.prog 41 #[.int .i64 (k : Int)] w fun e w' => e = .returned (.string ⟨(nmL k).toArray⟩) ∧ Below w.heap.size w w' := by
  obtain ⟨n0, n1, n2, n3⟩ := hN
  have HIS := Lib.hid (fun W => is_yes k W hk)
  rcases four hk with rfl | rfl | rfl | rfl
  all_goals
    go_enter Tryd.func41, Tryd.ntmps41
    go_wp2_with fail
    refine (HIS.out _).mono ?_
    rintro e w' ⟨rfl, rfl⟩
    go_wp2
    go_ret
    exact ⟨rfl, Below.refl _ _⟩
/-- A number that is told: below 0 as 0. -/
def nuT (n : Int) : List UInt8 := Lib.itoa (max n 0)
theorem nu_len (n : Int) (h1 : n ≤ 9223372036854775807) : (nuT n).length ≤ 21 := Txt.itoa_len _ (by omega) (by omega)
set_option maxRecDepth 100000 in
theorem num_any (n : Int) (h1 : n ≤ 9223372036854775807) (w : World) (hL : Txt.Lf w) : Calls Tryd.prog 39 #[.int .i64 n] w fun e w' => e = .returned (.string ⟨(nuT n).toArray⟩) ∧ Below w.heap.size w w' := by
  obtain ⟨m, hm⟩ : ∃ m, max n 0 = m := ⟨_, rfl⟩
  have HI := Lib.hid (Txt.itoa_any m (by omega) (by omega) w hL)
  have HT : Hid (nuT n = Lib.itoa m) := Lib.hid (by unfold nuT; rw [hm])
  rw [HT.out]
  clear h1
  go_enter Tryd.func39, Tryd.ntmps39
  go_wp2_with fail
  refine HI.out.mono ?_
  rintro e w2 ⟨rfl, hb2⟩
  have HB2 := Lib.hid hb2
  clear hb2
  go_wp2
  go_ret
  exact ⟨rfl, HB2.out⟩
end Go.Proofs.YtanhblokhcaoiaaDoor.Dg
