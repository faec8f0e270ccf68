/- Parts of a memory, how many have a place; the contracts of package layout's Right, add, free, and of the document's Right; no condition but sizes. -/
import Derived.Test.YtejhjpdcodloaaaPushR
import Derived.Test.YtejhjpdcodloaaaBox
import Derived.Test.YtejhjpdcodloaaaGrid
import Derived.Test.YtejhjpdcodloaaaRows
import Derived.WalkKit
import Derived.ProofKit
import Derived.OpenShut
import Derived.WalkLawsBesides
import Derived.WalkSpells
import Derived.IntWalk
import Derived.Lib.Hide
import Derived.RegionTactic
import Derived.Deep.DeepCutAuto
import Derived.Deep.CutBlock
namespace Go.Proofs.Ytejhjpdcodloaaa.Ly42
open Go.ChangeShapes Go.WideShapes Go.ChangeAt Go.RowKit Base
set_option linter.unusedVariables false
set_option linter.unusedSimpArgs false

theorem bel1 (w : World) (o : Obj) : Below w.heap.size w (w.alloc o) := (Below.refl _ _).alloc (Nat.le_refl _) _
structure Pt where
  a : Int
  m : Int
def rB (p : Pt) : Bool := decide (0 ≤ p.a ∧ 1 ≤ p.m ∧ p.m ≤ 64 ∧ p.a ≤ 64 - p.m)
theorem rB_iff {p : Pt} : rB p = true ↔ (0 ≤ p.a ∧ 1 ≤ p.m ∧ p.m ≤ 64 ∧ p.a ≤ 64 - p.m) := by unfold rB; exact decide_eq_true_iff
/-- Does a part have a place? -/
def inP (p : Pt) (i : Nat) : Bool := rB p && decide (p.a ≤ (i : Int) ∧ (i : Int) < p.a + p.m)
def cnt : List Pt → Nat → Nat
  | [], _ => 0
  | p :: l, i => (if inP p i = true then 1 else 0) + cnt l i
def had (l : List Pt) (i : Nat) : Bool := l.any (fun p => inP p i)
theorem cnt_snoc (l : List Pt) (p : Pt) (i : Nat) : cnt (l ++ [p]) i = cnt l i + (if inP p i = true then 1 else 0) := by
  induction l with
  | nil => simp [cnt]
  | cons x r ih => simp only [List.cons_append, cnt, ih]; omega
theorem cnt_le (l : List Pt) (i : Nat) : cnt l i ≤ l.length := by
  induction l with
  | nil => simp [cnt]
  | cons x r ih => simp only [cnt, List.length_cons]; split <;> omega
theorem cnt_had (l : List Pt) (i : Nat) : decide (0 < cnt l i) = had l i := by
  induction l with
  | nil => rfl
  | cons x r ih =>
    unfold had at ih ⊢
    have e : cnt (x :: r) i = (if inP x i = true then 1 else 0) + cnt r i := rfl
    rw [List.any_cons, ← ih, e]
    by_cases h : inP x i = true
    · rw [if_pos h, h]
      simp
      omega
    · rw [if_neg h, show inP x i = false by simpa using h]
      simp
theorem had_snoc (l : List Pt) (p : Pt) (i : Nat) : had (l ++ [p]) i = (had l i || inP p i) := by simp [had]
def ptL (x : Pt) : List Value := [.int .i64 x.a, .int .i64 x.m]
def ptC (l : List Pt) : List Value := (l.map ptL).flatten
theorem ptC_snoc (l : List Pt) (x : Pt) : ptC (l ++ [x]) = ptC l ++ ptL x := by simp [ptC]
theorem ptC_app (l k : List Pt) : ptC (l ++ k) = ptC l ++ ptC k := by simp [ptC]
theorem ptC_len : ∀ l : List Pt, (ptC l).length = l.length * 2
  | [] => rfl
  | x :: r => by show (ptL x ++ ptC r).length = _; rw [List.length_append, ptC_len r]; simp [ptL]; omega
theorem ptC_at : ∀ (l : List Pt) (i j : Nat) (x : Pt), l[i]? = some x → j < 2 → (ptC l)[i * 2 + j]? = (ptL x)[j]?
  | [], i, j, x, h, _ => by simp at h
  | z :: r, 0, j, x, h, hj => by
    simp at h
    subst h
    show (ptL z ++ ptC r)[0 * 2 + j]? = _
    rw [Nat.zero_mul, Nat.zero_add, List.getElem?_append_left (by simpa [ptL] using hj)]
  | z :: r, i + 1, j, x, h, hj => by
    have := ptC_at r i j x (by simpa using h) hj
    show (ptL z ++ ptC r)[(i + 1) * 2 + j]? = _
    rw [List.getElem?_append_right (by simp [ptL]; omega), show (i + 1) * 2 + j - (ptL z).length = i * 2 + j by simp [ptL]; omega]
    exact this
theorem one_ptL (x : Pt) : ∀ u ∈ ptL x, u.oneCell' = true := fun u hu => by
  simp [ptL] at hu
  rcases hu with rfl | rfl <;> rfl
theorem one_ptC (l : List Pt) : ∀ u ∈ ptC l, u.oneCell' = true := fun u hu => by
  unfold ptC at hu
  rw [List.mem_flatten] at hu
  obtain ⟨l', hl, hu⟩ := hu
  obtain ⟨x, _, rfl⟩ := List.mem_map.1 hl
  exact one_ptL x u hu
/-- Parts in memory. -/
structure PtsAt (w : World) (A : Option Addr) (n : Nat) (ls : List Pt) : Prop where
  len : ls.length = n
  at' : 0 < n → ∃ b off, A = some ⟨b, off, none⟩ ∧ b < w.heap.size ∧ ∀ i x, ls[i]? = some x → ∀ j, j < 2 → w.cell? ⟨b, off + i * 2 + j, none⟩ = (ptL x)[j]?
theorem PtsAt.kept {w w' : World} {A : Option Addr} {n : Nat} {ls : List Pt} (h : PtsAt w A n ls) (hb : Below w.heap.size w w') : PtsAt w' A n ls where
  len := h.len
  at' := fun hn => by
    obtain ⟨b, off, e, hlt, hc⟩ := h.at' hn
    exact ⟨b, off, e, Nat.lt_of_lt_of_le hlt hb.size, fun i x hx j hj => (hb.cell (p := ⟨b, _, none⟩) hlt).trans (hc i x hx j hj)⟩
theorem PtsAt.two {w : World} {A : Option Addr} {n : Nat} {ls : List Pt} (h : PtsAt w A n ls) {i : Nat} (hi : i < n) {x : Pt} (hx : ls[i]? = some x) : ∃ b off, A = some ⟨b, off, none⟩ ∧ b < w.heap.size ∧
    w.cell? ⟨b, off + i * 2, none⟩ = some (.int .i64 x.a) ∧ w.cell? ⟨b, off + i * 2 + 1, none⟩ = some (.int .i64 x.m) := by
  obtain ⟨b, off, e, hlt, hc⟩ := h.at' (by omega)
  have h' := hc i x hx
  exact ⟨b, off, e, hlt, h' 0 (by omega), h' 1 (by omega)⟩
theorem pts_own {w : World} {base : Nat} {T : TypeId} {v : Value} {n : Nat} {ls : List Pt} (h : w.ownsRow base T 2 v n (ptC ls)) (hn : ls.length = n) : ∃ A c, v = .slice A n c ∧ n ≤ c ∧ PtsAt w A n ls := by
  rcases h.2 with ⟨rfl, h0⟩ | ⟨g, cap, cur, rfl, hb, hg, hnc, hcm, hcs, htake⟩
  · exact ⟨none, 0, by rw [h0], by omega, hn, fun h => by omega⟩
  · refine ⟨_, cap, rfl, hnc, hn, fun hn0 => ⟨g, 0, rfl, (Array.getElem?_eq_some_iff.1 hg).1, fun i x hx j hj => ?_⟩⟩
    have hin : i < n := by have := (List.getElem?_eq_some_iff.1 hx).1; omega
    have hij : i * 2 + j < n * 2 := by omega
    rw [← ptC_at ls i j x hx hj, ← htake, show (⟨g, 0 + i * 2 + j, none⟩ : Addr) = ⟨g, i * 2 + j, none⟩ by simp]
    simp [World.cell?, hg, List.getElem?_take, hij]
abbrev shP : Sh := .fld (.int .i64) (.fld (.int .i64) .nil)
def W64 (x : Int) : Prop := -9223372036854775808 ≤ x ∧ x ≤ 9223372036854775807
theorem pts_in {w : World} {A : Option Addr} {n : Nat} {rows : List (List Value)} (hg : Grid w A n 2 rows) (hr : ∀ r ∈ rows, Reads w shP r) : ∃ ls : List Pt, PtsAt w A n ls ∧ ∀ x ∈ ls, W64 x.a ∧ W64 x.m := by
  have hx : ∃ ls : List Pt, rows = ls.map ptL ∧ ∀ x ∈ ls, W64 x.a ∧ W64 x.m := by
    clear hg
    induction rows with
    | nil => exact ⟨[], rfl, fun x hx => by cases hx⟩
    | cons r rs ih =>
      obtain ⟨xs, rfl, hx⟩ := ih (fun r hr' => hr r (by simp [hr']))
      obtain ⟨_, _, rfl, ⟨a, rfl, ha⟩, _, _, rfl, ⟨m, rfl, hm⟩, rfl⟩ := hr r (by simp)
      refine ⟨⟨a, m⟩ :: xs, rfl, fun q hq => ?_⟩
      rcases List.mem_cons.1 hq with rfl | hq
      · exact ⟨bounds_i64 ha, bounds_i64 hm⟩
      · exact hx q hq
  obtain ⟨ls, rfl, hx⟩ := hx
  refine ⟨ls, ⟨by simpa using hg.1, fun hn => ?_⟩, hx⟩
  obtain ⟨b, off, e, hb, hc⟩ := hg.2 hn
  refine ⟨b, off, e, hb, fun i x hx j hj => ?_⟩
  have hi : i < n := by have := (List.getElem?_eq_some_iff.1 hx).1; have := hg.1; simp at this; omega
  have h := hc i j hi (by omega)
  rw [show off + i * 2 + j = off + (i * 2 + j) by omega, h, List.getElem?_map, hx]
  rfl
/-- How many parts have each place, in memory. -/
abbrev TPl : TypeId := 78
abbrev TPt : TypeId := 59
def Cs (cs : Array Value) (f : Nat → Nat) : Prop := cs.size = 64 ∧ ∀ i, i < 64 → cs[i]? = some (.int .i64 (f i : Int))
def PlAt (w : World) (g : Nat) (f : Nat → Nat) : Prop := ∃ cs, Obj1 w g TPl cs ∧ Cs cs f
theorem PlAt.lt {w : World} {g : Nat} {f : Nat → Nat} (h : PlAt w g f) : g < w.heap.size := by obtain ⟨cs, h, _⟩ := h; exact h.lt
theorem PlAt.kept {w w' : World} {g : Nat} {f : Nat → Nat} (h : PlAt w g f) (hb : Below w.heap.size w w') : PlAt w' g f := by obtain ⟨cs, h, k⟩ := h; exact ⟨cs, h.kept hb, k⟩
theorem PlAt.touch {w w' : World} {g b : Nat} {f : Nat → Nat} (h : PlAt w g f) (ht : Wrote b w w') (hne : g ≠ b) : PlAt w' g f := by obtain ⟨cs, h, k⟩ := h; exact ⟨cs, h.touch ht hne, k⟩
theorem PlAt.cell {w : World} {g : Nat} {f : Nat → Nat} (h : PlAt w g f) {i : Nat} (hi : i < 64) : w.cell? ⟨g, i, none⟩ = some (.int .i64 (f i : Int)) ∧ w.frozen? ⟨g, i, none⟩ = false := by
  obtain ⟨cs, h, k⟩ := h
  exact ⟨by rw [h.cell]; exact k.2 i hi, h.free i⟩
theorem PlAt.put {w : World} {g : Nat} {f : Nat → Nat} (h : PlAt w g f) {i : Nat} (hi : i < 64) (v : Nat) : PlAt (w.setCell ⟨g, i, none⟩ (.int .i64 (v : Int))) g (fun j => if j = i then v else f j) := by
  obtain ⟨cs, h, k1, k2⟩ := h
  refine ⟨_, h.set i (.int .i64 (v : Int)), by simpa using k1, fun j hj => ?_⟩
  show _ = some (Value.int .i64 ((if j = i then v else f j : Nat) : Int))
  by_cases e : j = i
  · subst e
    rw [Array.getElem?_setIfInBounds_self_of_lt (by rw [k1]; exact hj), if_pos rfl]
  · rw [Array.getElem?_setIfInBounds_ne (fun e' => e e'.symm), if_neg e]
    exact k2 j hj
theorem PlAt.same {w : World} {g : Nat} {f f' : Nat → Nat} (h : PlAt w g f) (he : ∀ i, i < 64 → f i = f' i) : PlAt w g f' := by
  obtain ⟨cs, h, k1, k2⟩ := h
  exact ⟨cs, h, k1, fun i hi => by rw [k2 i hi, he i hi]⟩
set_option maxHeartbeats 1000000 in
theorem right_any (a m : Int) (w : World) : Calls Try.prog 25 #[.agg #[.int .i64 a, .int .i64 m]] w fun e w' => e = .returned (.bool (rB ⟨a, m⟩)) ∧ Below w.heap.size w w' := by
  have HB1 := Lib.hid (bel1 w (.cells #[.int .i64 a, .int .i64 m] 59))
  obtain ⟨q, HQ⟩ : ∃ q, Hid (rB ⟨a, m⟩ = q) := ⟨_, Lib.hid rfl⟩
  rcases (show a < 0 ∨ (0 ≤ a ∧ m < 1) ∨ (0 ≤ a ∧ 1 ≤ m ∧ 64 < m) ∨ (0 ≤ a ∧ 1 ≤ m ∧ m ≤ 64 ∧ 64 - m < a) ∨ (0 ≤ a ∧ 1 ≤ m ∧ m ≤ 64 ∧ a ≤ 64 - m) by omega) with h | ⟨h, h1⟩ | ⟨h, h1, h2⟩ | ⟨h, h1, h2, h3⟩ | ⟨h, h1, h2, h3⟩
  · have hq : q = false := by rw [← HQ.out]; unfold rB; exact decide_eq_false (by simp only; omega)
    rw [HQ.out, hq]
    clear hq
    go_enter Try.func25, Try.ntmps25
    go_wp2
    go_ret
    exact ⟨rfl, HB1.out⟩
  · have hq : q = false := by rw [← HQ.out]; unfold rB; exact decide_eq_false (by simp only; omega)
    rw [HQ.out, hq]
    clear hq
    go_enter Try.func25, Try.ntmps25
    go_wp2
    go_ret
    exact ⟨rfl, HB1.out⟩
  · have hq : q = false := by rw [← HQ.out]; unfold rB; exact decide_eq_false (by simp only; omega)
    rw [HQ.out, hq]
    clear hq
    go_enter Try.func25, Try.ntmps25
    go_wp2
    go_ret
    exact ⟨rfl, HB1.out⟩
  · have hq : q = false := by rw [← HQ.out]; unfold rB; exact decide_eq_false (by simp only; omega)
    rw [HQ.out, hq]
    clear hq
    have e1 : IntKind.i64.wrap (64 - m) = 64 - m := IntWalk.i64_in _ (by omega)
    have e2 : ¬ a ≤ 64 - m := by omega
    go_enter Try.func25, Try.ntmps25
    go_wp2
    go_ret
    exact ⟨rfl, HB1.out⟩
  · have hq : q = true := by rw [← HQ.out]; unfold rB; exact decide_eq_true (by exact ⟨h, h1, h2, h3⟩)
    rw [HQ.out, hq]
    clear hq
    have e1 : IntKind.i64.wrap (64 - m) = 64 - m := IntWalk.i64_in _ (by omega)
    go_enter Try.func25, Try.ntmps25
    go_wp2
    go_ret
    exact ⟨rfl, HB1.out⟩
set_option maxHeartbeats 1000000 in
theorem rright_any (a m : Int) (w : World) : Calls Try.prog 24 #[.agg #[.int .i64 a, .int .i64 m]] w fun e w' => e = .returned (.bool (rB ⟨a, m⟩)) ∧ Below w.heap.size w w' := by
  have HB1 := Lib.hid (bel1 w (.cells #[.int .i64 a, .int .i64 m] 58))
  obtain ⟨q, HQ⟩ : ∃ q, Hid (rB ⟨a, m⟩ = q) := ⟨_, Lib.hid rfl⟩
  rcases (show a < 0 ∨ (0 ≤ a ∧ m < 1) ∨ (0 ≤ a ∧ 1 ≤ m ∧ 64 < m) ∨ (0 ≤ a ∧ 1 ≤ m ∧ m ≤ 64 ∧ 64 - m < a) ∨ (0 ≤ a ∧ 1 ≤ m ∧ m ≤ 64 ∧ a ≤ 64 - m) by omega) with h | ⟨h, h1⟩ | ⟨h, h1, h2⟩ | ⟨h, h1, h2, h3⟩ | ⟨h, h1, h2, h3⟩
  · have hq : q = false := by rw [← HQ.out]; unfold rB; exact decide_eq_false (by simp only; omega)
    rw [HQ.out, hq]
    clear hq
    go_enter Try.func24, Try.ntmps24
    go_wp2
    go_ret
    exact ⟨rfl, HB1.out⟩
  · have hq : q = false := by rw [← HQ.out]; unfold rB; exact decide_eq_false (by simp only; omega)
    rw [HQ.out, hq]
    clear hq
    go_enter Try.func24, Try.ntmps24
    go_wp2
    go_ret
    exact ⟨rfl, HB1.out⟩
  · have hq : q = false := by rw [← HQ.out]; unfold rB; exact decide_eq_false (by simp only; omega)
    rw [HQ.out, hq]
    clear hq
    go_enter Try.func24, Try.ntmps24
    go_wp2
    go_ret
    exact ⟨rfl, HB1.out⟩
  · have hq : q = false := by rw [← HQ.out]; unfold rB; exact decide_eq_false (by simp only; omega)
    rw [HQ.out, hq]
    clear hq
    have e1 : IntKind.i64.wrap (64 - m) = 64 - m := IntWalk.i64_in _ (by omega)
    have e2 : ¬ a ≤ 64 - m := by omega
    go_enter Try.func24, Try.ntmps24
    go_wp2
    go_ret
    exact ⟨rfl, HB1.out⟩
  · have hq : q = true := by rw [← HQ.out]; unfold rB; exact decide_eq_true (by exact ⟨h, h1, h2, h3⟩)
    rw [HQ.out, hq]
    clear hq
    have e1 : IntKind.i64.wrap (64 - m) = 64 - m := IntWalk.i64_in _ (by omega)
    go_enter Try.func24, Try.ntmps24
    go_wp2
    go_ret
    exact ⟨rfl, HB1.out⟩

def plus (f : Nat → Nat) (a k : Nat) (i : Nat) : Nat := f i + (if a ≤ i ∧ i < a + k then 1 else 0)
set_option maxRecDepth 100000 in
set_option maxHeartbeats 1000000 in
theorem add_any (g : Nat) (f : Nat → Nat) (a m : Int) (w : World) (hp : PlAt w g f) (hf : ∀ i, i < 64 → f i ≤ 100000) :
    Calls Try.prog 44 #[.pointer (some ⟨g, 0, none⟩), .agg #[.int .i64 a, .int .i64 m]] w fun e w' => e = .returned (.tuple #[]) ∧ Hid (PlAt w' g (fun i => f i + (if inP ⟨a, m⟩ i = true then 1 else 0))) ∧ Hid (Wrote g w w') := by
  have HP := Lib.hid hp
  have HFB := Lib.hid hf
  obtain ⟨gb, HGB⟩ : ∃ gb, Hid (w.heap.size = gb) := ⟨_, Lib.hid rfl⟩
  obtain ⟨W1, HW1⟩ : ∃ W1, Hid (W1 = w.alloc (.cells #[.int .i64 a, .int .i64 m] TPt)) := ⟨_, Lib.hid rfl⟩
  have HB1 : Hid (Below w.heap.size w W1) := Lib.hid (by rw [HW1.out]; exact bel1 _ _)
  have HWR1 : Hid (Wrote g w W1) := Lib.hid (by rw [HW1.out]; exact World.grownBy_alloc w _ _)
  have HO1 : Hid (Obj1 W1 gb TPt #[.int .i64 a, .int .i64 m]) := Lib.hid (by rw [HW1.out, ← HGB.out]; exact Obj1.new _ _ _)
  have HP1 := Lib.hid (hp.kept HB1.out)
  have HNE : Hid (gb ≠ g) := Lib.hid (fun e => by have := hp.lt; have := HGB.out; omega)
  have HRT := Lib.hid (fun W => right_any a m W)
  obtain ⟨r, HR⟩ : ∃ r, Hid (rB ⟨a, m⟩ = r) := ⟨_, Lib.hid rfl⟩
  rw [HR.out] at HRT
  have q0 := HO1.out.cell 0
  have q1 := HO1.out.cell 1
  simp at q0 q1
  clear hp hf
  go_enter Try.func44, Try.ntmps44
  go_upto_region 1 with (fail)
  rw [← HW1.out, HGB.out]
  clear HW1
  go_wp2_with fail
  refine (HRT.out _).mono ?_
  rintro e w2 ⟨rfl, hb2⟩
  have HP2 := Lib.hid (HP1.out.kept hb2)
  have HO2 := Lib.hid (HO1.out.kept hb2)
  have HW2 : Hid (Wrote g w w2) := Lib.hid (HWR1.out.trans ⟨hb2.os, hb2.tape, hb2.output, hb2.size, fun i hi _ => hb2.block i hi⟩)
  clear q0 q1 hb2 HRT HP1 HO1 HWR1
  cases r with
  | false =>
    have HPE : Hid (PlAt w2 g (fun i => f i + (if inP ⟨a, m⟩ i = true then 1 else 0))) := Lib.hid (HP2.out.same (fun i hi => by simp [inP, HR.out]))
    go_wp2
    first | go_end0 | refine bodyPost_ret (results_none rfl _ _ _) rfl ?_
    exact ⟨rfl, HPE, HW2⟩
  | true =>
    obtain ⟨r0, r1, r2, r3⟩ := rB_iff.1 HR.out
    simp only at r0 r1 r2 r3
    obtain ⟨a', rfl⟩ : ∃ a' : Nat, a = (a' : Int) := ⟨a.toNat, by omega⟩
    obtain ⟨m', rfl⟩ : ∃ m' : Nat, m = (m' : Int) := ⟨m.toNat, by omega⟩
    have HM : Hid (a' + m' ≤ 64) := Lib.hid (by omega)
    have ha64 : a' ≤ 64 := by omega
    have hm64 : m' ≤ 64 := by omega
    have q0 := HO2.out.cell 0
    simp at q0
    go_upto_block 2 with (fail)
    clear q0 r0 r1 r2 r3
    go_wp2_with fail
    go_loopw [4] (fun i wx => ∃ k : Nat, k ≤ m' ∧ i = .int .i64 ((a' : Int) + k) ∧ Hid (PlAt wx g (plus f a' k)) ∧ Hid (Wrote g w wx) ∧ Hid (Obj1 wx gb TPt #[.int .i64 a', .int .i64 m'])) (fun i _ => (a' + m' - intOf i).toNat)
    case atStart => exact ⟨0, by omega, by simp, Lib.hid (HP2.out.same (fun i hi => by unfold plus; rw [if_neg (by omega)]; rfl)), HW2, HO2⟩
    case round =>
      clear HP2 HW2 HO2
      obtain ⟨k, hk, rfl, HPK, HWK, HOK⟩ := hrel
      have q0 := HOK.out.cell 0
      have q1 := HOK.out.cell 1
      simp at q0 q1
      have e1 : IntKind.i64.wrap ((a' : Int) + (m' : Int)) = (a' : Int) + (m' : Int) := IntWalk.i64_in _ (by omega)
      by_cases hlt : k < m'
      · have hki : (a' : Int) + (k : Int) < (a' : Int) + (m' : Int) := by omega
        have hik : a' + k < 64 := by have := HM.out; omega
        obtain ⟨i, hi⟩ : ∃ i, a' + k = i := ⟨_, rfl⟩
        have hic : (a' : Int) + (k : Int) = (i : Int) := by omega
        have hi64 : (i : Int) < 64 := by omega
        rw [hi] at hik
        obtain ⟨k0, k1⟩ := HPK.out.cell hik
        have hv : plus f a' k i = f i := by unfold plus; rw [if_neg (by omega)]; exact Nat.add_zero _
        rw [hv] at k0
        have hfi := HFB.out i hik
        obtain ⟨v, hvv⟩ : ∃ v, f i = v := ⟨_, rfl⟩
        rw [hvv] at k0 hfi
        have HV := Lib.hid hvv
        have HIE := Lib.hid hi
        have e2 : IntKind.i64.wrap ((v : Int) + 1) = ((v + 1 : Nat) : Int) := by rw [IntWalk.i64_in _ (by omega)]; omega
        have e3 : IntKind.i64.wrap ((i : Int) + 1) = (i : Int) + 1 := IntWalk.i64_in _ (by omega)
        rw [hic] at hki ⊢
        have K0 : ∀ z : Kin wr.drew, z.world.cell? ⟨g, i, none⟩ = some (.int .i64 (v : Int)) := fun z => Kin.at (w := wr.drew) k0 z
        clear hv hvv hic hi
        go_upto_region 5 with (fail)
        clear q0 q1 k0
        refine wp_region_specL 8 [.d (.pointer (some ⟨g, 0, none⟩)), .d (.int .i64 i), .d (.pointer (some ⟨g, 0, none⟩)), .d (.pointer (some ⟨g, i, none⟩)), .d (.int .i64 (v : Int)), .d (.int .i64 ((v + 1 : Nat) : Int)), .d (.pointer (some ⟨g, 0, none⟩)), .d (.pointer (some ⟨g, i, none⟩))] (by kernel_rfl) (by kernel_rfl) ?_
        refine spec_d rfl (fun x _ => gives_run (by go_simp)) ?_
        try simp only [Act.put, List.getElem_toArray, List.getElem_cons_succ, List.getElem_cons_zero, List.setIfInBounds_toArray, List.set_cons_zero, List.set_cons_succ]
        refine spec_d rfl (fun x _ => gives_run (by go_simp)) ?_
        try simp only [Act.put, List.getElem_toArray, List.getElem_cons_succ, List.getElem_cons_zero, List.setIfInBounds_toArray, List.set_cons_zero, List.set_cons_succ]
        refine spec_d rfl (fun x _ => gives_run (by go_simp)) ?_
        try simp only [Act.put, List.getElem_toArray, List.getElem_cons_succ, List.getElem_cons_zero, List.setIfInBounds_toArray, List.set_cons_zero, List.set_cons_succ]
        refine spec_d rfl (fun x _ => gives_run (by go_simp)) ?_
        try simp only [Act.put, List.getElem_toArray, List.getElem_cons_succ, List.getElem_cons_zero, List.setIfInBounds_toArray, List.set_cons_zero, List.set_cons_succ]
        refine spec_d rfl (fun x _ => gives_run (by go_simp)) ?_
        try simp only [Act.put, List.getElem_toArray, List.getElem_cons_succ, List.getElem_cons_zero, List.setIfInBounds_toArray, List.set_cons_zero, List.set_cons_succ]
        refine spec_d rfl (fun x _ => gives_run (by go_simp)) ?_
        try simp only [Act.put, List.getElem_toArray, List.getElem_cons_succ, List.getElem_cons_zero, List.setIfInBounds_toArray, List.set_cons_zero, List.set_cons_succ]
        refine spec_d rfl (fun x _ => gives_run (by go_simp)) ?_
        try simp only [Act.put, List.getElem_toArray, List.getElem_cons_succ, List.getElem_cons_zero, List.setIfInBounds_toArray, List.set_cons_zero, List.set_cons_succ]
        refine spec_d rfl (fun x _ => gives_run (by go_simp)) ?_
        try simp only [Act.put, List.getElem_toArray, List.getElem_cons_succ, List.getElem_cons_zero, List.setIfInBounds_toArray, List.set_cons_zero, List.set_cons_succ]
        refine spec_end (fun z hz => ?_)
        clear hz
        have hzb := (bel_drew wr).trans z.below
        have HPZ := Lib.hid (HPK.out.kept hzb)
        have HOZ := Lib.hid (HOK.out.kept hzb)
        have HWZ : Hid (Wrote g w z.world) := Lib.hid (HWK.out.trans ⟨hzb.os, hzb.tape, hzb.output, hzb.size, fun i hi _ => hzb.block i hi⟩)
        have y0 := K0 z
        have y1 := (HPZ.out.cell hik).2
        clear K0 hzb
        generalize z.world = wz at HPZ HOZ HWZ y0 y1 ⊢
        clear z
        change wpAny _ _ _ _ (0 + 1) _ _ _
        refine wpAny_ready (rs := [8]) (by kernel_rfl) (by simp) ?_
        refine AllReady.cons rfl (fun KK hK => ?_) AllReady.nil
        go_simp
        refine hK _ _ ?_
        clear hK KK
        try simp only [Act.put, List.getElem_toArray, List.getElem_cons_succ, List.getElem_cons_zero, List.setIfInBounds_toArray, List.set_cons_zero, List.set_cons_succ]
        refine wpAny_done (by kernel_rfl) ?_ _
        have HP9 : Hid (PlAt (wz.setCell ⟨g, i, none⟩ (.int .i64 ((v : Int) + 1))) g (plus f a' (k + 1))) := Lib.hid ((show PlAt (wz.setCell ⟨g, i, none⟩ (.int .i64 ((v : Int) + 1))) g _ by rw [show ((v : Int) + 1) = ((v + 1 : Nat) : Int) by omega]; exact HPZ.out.put hik (v + 1)).same (fun j hj => by
          have h1 := HV.out
          have h2 := HIE.out
          unfold plus
          by_cases e : j = i
          · subst e; rw [if_pos rfl, if_pos (by omega), h1]
          · rw [if_neg e]
            by_cases e2 : a' ≤ j ∧ j < a' + k
            · rw [if_pos e2, if_pos (by omega)]
            · rw [if_neg e2, if_neg (by omega)]))
        have HS9 : Hid (Wrote g wz (wz.setCell ⟨g, i, none⟩ (.int .i64 ((v : Int) + 1)))) := Lib.hid ((Wrote.refl g wz).set (p := ⟨g, i, none⟩) (.inl rfl) _)
        have HW9 := Lib.hid (HWZ.out.trans HS9.out)
        have HO9 := Lib.hid (HOZ.out.touch HS9.out HNE.out)
        generalize wz.setCell ⟨g, i, none⟩ (.int .i64 ((v : Int) + 1)) = w9 at HP9 HW9 HO9 HS9 ⊢
        clear HS9 y0 y1
        go_wp2
        go_roundw
        case rel => exact ⟨k + 1, by omega, by (have := HIE.out; simp; omega), HP9, HW9, HO9⟩
        case measure => simp [intOf]; omega
      · have hke : k = m' := by omega
        subst hke
        have HPE : Hid (PlAt wr g (fun i => f i + (if inP ⟨(a' : Int), (k : Int)⟩ i = true then 1 else 0))) := Lib.hid (HPK.out.same (fun j hj => by
          unfold plus inP
          rw [HR.out]
          simp only [Bool.true_and, decide_eq_true_eq]
          by_cases e : a' ≤ j ∧ j < a' + k
          · rw [if_pos e, if_pos (by omega)]
          · rw [if_neg e, if_neg (by omega)]))
        go_wp2
        first | go_end0 | refine bodyPost_ret (results_none rfl _ _ _) rfl ?_
        exact ⟨rfl, HPE, HWK⟩
/-- Does a part lie in a memory, and nobody have a place of it? -/
def freeB (f : Nat → Nat) (p : Pt) : Bool := rB p && (List.range 64).all (fun i => !inP p i || f i == 0)
set_option maxRecDepth 100000 in
set_option maxHeartbeats 1000000 in
theorem free_any (g : Nat) (f : Nat → Nat) (a m : Int) (w : World) (hp : PlAt w g f) :
    Calls Try.prog 43 #[.pointer (some ⟨g, 0, none⟩), .agg #[.int .i64 a, .int .i64 m]] w fun e w' => e = .returned (.bool (freeB f ⟨a, m⟩)) ∧ Below w.heap.size w w' := by
  have HP := Lib.hid hp
  obtain ⟨gb, HGB⟩ : ∃ gb, Hid (w.heap.size = gb) := ⟨_, Lib.hid rfl⟩
  obtain ⟨W1, HW1⟩ : ∃ W1, Hid (W1 = w.alloc (.cells #[.int .i64 a, .int .i64 m] TPt)) := ⟨_, Lib.hid rfl⟩
  have HB1 : Hid (Below w.heap.size w W1) := Lib.hid (by rw [HW1.out]; exact bel1 _ _)
  have HO1 : Hid (Obj1 W1 gb TPt #[.int .i64 a, .int .i64 m]) := Lib.hid (by rw [HW1.out, ← HGB.out]; exact Obj1.new _ _ _)
  have HP1 := Lib.hid (hp.kept HB1.out)
  have HRT := Lib.hid (fun W => right_any a m W)
  obtain ⟨r, HR⟩ : ∃ r, Hid (rB ⟨a, m⟩ = r) := ⟨_, Lib.hid rfl⟩
  rw [HR.out] at HRT
  obtain ⟨Q, HQ⟩ : ∃ Q, Hid (freeB f ⟨a, m⟩ = Q) := ⟨_, Lib.hid rfl⟩
  rw [HQ.out]
  have q0 := HO1.out.cell 0
  have q1 := HO1.out.cell 1
  simp at q0 q1
  clear hp
  go_enter Try.func43, Try.ntmps43
  go_upto_region 1 with (fail)
  rw [← HW1.out, HGB.out]
  clear HW1
  go_wp2_with fail
  refine (HRT.out _).mono ?_
  rintro e w2 ⟨rfl, hb2⟩
  have HP2 := Lib.hid (HP1.out.kept hb2)
  have HO2 := Lib.hid (HO1.out.kept hb2)
  have HB2 := Lib.hid (HB1.out.trans (hb2.mono HB1.out.size))
  clear q0 q1 hb2 HRT HP1 HO1
  cases r with
  | false =>
    have HE : Hid (false = Q) := Lib.hid (by rw [← HQ.out]; unfold freeB; rw [HR.out]; rfl)
    go_wp2
    go_ret
    exact ⟨by rw [← HE.out]; rfl, HB2.out⟩
  | true =>
    obtain ⟨r0, r1, r2, r3⟩ := rB_iff.1 HR.out
    simp only at r0 r1 r2 r3
    obtain ⟨a', rfl⟩ : ∃ a' : Nat, a = (a' : Int) := ⟨a.toNat, by omega⟩
    obtain ⟨m', rfl⟩ : ∃ m' : Nat, m = (m' : Int) := ⟨m.toNat, by omega⟩
    have HM : Hid (a' + m' ≤ 64) := Lib.hid (by omega)
    have ha64 : a' ≤ 64 := by omega
    have hm64 : m' ≤ 64 := by omega
    have q0 := HO2.out.cell 0
    have q1 := HO2.out.cell 1
    simp at q0 q1
    have e1 : IntKind.i64.wrap ((a' : Int) + (m' : Int)) = (a' : Int) + (m' : Int) := IntWalk.i64_in _ (by omega)
    go_upto_block 2 with (fail)
    clear r0 r1 r2 r3
    go_wp2_with fail
    go_loopw [5] (fun i wx => ∃ k : Nat, k ≤ m' ∧ i = .int .i64 ((a' : Int) + k) ∧ Hid (∀ j, j < k → f (a' + j) = 0) ∧ w2 = wx) (fun i _ => (a' + m' - intOf i).toNat)
    case atStart => exact ⟨0, by omega, by simp, Lib.hid (fun j hj => by omega), rfl⟩
    case round =>
      obtain ⟨k, hk, rfl, HZ, rfl⟩ := hrel
      by_cases hlt : k < m'
      · have hki : (a' : Int) + (k : Int) < (a' : Int) + (m' : Int) := by omega
        have hik : a' + k < 64 := by have := HM.out; omega
        obtain ⟨i, hi⟩ : ∃ i, a' + k = i := ⟨_, rfl⟩
        have hic : (a' : Int) + (k : Int) = (i : Int) := by omega
        have hi64 : (i : Int) < 64 := by omega
        rw [hi] at hik
        obtain ⟨k0, _⟩ := HP2.out.cell hik
        obtain ⟨v, hvv⟩ : ∃ v, f i = v := ⟨_, rfl⟩
        rw [hvv] at k0
        have HV := Lib.hid hvv
        have HIE := Lib.hid hi
        have e3 : IntKind.i64.wrap ((i : Int) + 1) = (i : Int) + 1 := IntWalk.i64_in _ (by omega)
        rw [hic] at hki ⊢
        clear hvv hic hi
        by_cases hv0 : 0 < v
        · have hvi : (0 : Int) < (v : Int) := by omega
          have HE : Hid (false = Q) := Lib.hid (by
            rw [← HQ.out]
            unfold freeB
            rw [HR.out, Bool.true_and]
            symm
            rw [List.all_eq_false]
            refine ⟨i, List.mem_range.2 hik, ?_⟩
            have h1 := HV.out
            have h2 := HIE.out
            have : inP ⟨(a' : Int), (m' : Int)⟩ i = true := by unfold inP; rw [HR.out, Bool.true_and]; exact decide_eq_true (by simp only; omega)
            rw [this, h1]
            simp
            omega)
          clear hv0
          go_wp2
          go_ret
          exact ⟨by rw [← HE.out]; rfl, HB2.out⟩
        · have hvz : v = 0 := by omega
          subst hvz
          clear hv0
          have HZ2 : Hid (∀ j, j < k + 1 → f (a' + j) = 0) := Lib.hid (fun j hj => by
            rcases (show j < k ∨ j = k by omega) with h | rfl
            · exact HZ.out j h
            · rw [HIE.out]; exact HV.out)
          go_wp2
          go_roundw
          case rel => exact ⟨k + 1, by omega, by (have := HIE.out; simp; omega), HZ2, trivial⟩
          case measure => simp [intOf]; omega
      · have hke : k = m' := by omega
        subst hke
        have HE : Hid (true = Q) := Lib.hid (by
          rw [← HQ.out]
          unfold freeB
          rw [HR.out, Bool.true_and]
          symm
          rw [List.all_eq_true]
          intro i hi
          cases e : inP ⟨(a' : Int), (k : Int)⟩ i with
          | false => rfl
          | true =>
            unfold inP at e
            rw [HR.out, Bool.true_and] at e
            simp only [decide_eq_true_eq] at e
            have := HZ.out (i - a') (by omega)
            rw [show a' + (i - a') = i by omega] at this
            rw [this]
            rfl)
        go_wp2
        go_ret
        exact ⟨by rw [← HE.out]; rfl, HB2.out⟩
end Go.Proofs.Ytejhjpdcodloaaa.Ly42
