/- What the document's own answer for layer 6 computes, on lists and numbers alone: a line's run of lines one behind the other, and the third greatest as it says it; no condition. -/
import Derived.Test.YtbhgnhbaimemmaaRunA
namespace Go.Proofs.Ytbhgnhbaimemmaa.Ly6
open Ly3
set_option linter.unusedVariables false
set_option linter.unusedSimpArgs false

/-- A line's run, of lines one behind the other. -/
def runF (k : Nat) (l : List Nat) : Int := l.foldl (fun a x => nx x k a) 0
theorem runF_snoc (k : Nat) (l : List Nat) (x : Nat) : runF k (l ++ [x]) = nx x k (runF k l) := by simp [runF]
theorem runF_bd (k : Nat) (l : List Nat) : 0 ≤ runF k l ∧ runF k l ≤ l.length := by
  unfold runF
  have aux : ∀ (l : List Nat) (a : Int), 0 ≤ a → 0 ≤ l.foldl (fun a x => nx x k a) a ∧ l.foldl (fun a x => nx x k a) a ≤ a + l.length := by
    intro l
    induction l with
    | nil => intro a h; simp; exact h
    | cons x r ih =>
      intro a h
      have := ih (nx x k a) (by unfold nx; split <;> omega)
      have h2 : nx x k a ≤ a + 1 := by unfold nx; split <;> omega
      simp only [List.foldl_cons, List.length_cons]
      omega
  simpa using aux l 0 (by omega)
theorem snoc_rec {P : List Nat → Prop} (h0 : P []) (h1 : ∀ l x, P l → P (l ++ [x])) : ∀ l, P l := by
  intro l
  have : ∀ n (l : List Nat), l.length = n → P l := by
    intro n
    induction n with
    | zero => intro l hl; rw [List.eq_nil_of_length_eq_zero hl]; exact h0
    | succ n ih =>
      intro l hl
      rcases List.eq_nil_or_concat l with rfl | ⟨L, b, rfl⟩
      · simp at hl
      · rw [List.concat_eq_append] at hl ⊢; exact h1 _ _ (ih L (by simpa using hl))
  exact this _ l rfl
/-- The last j have line k high. -/
theorem runF_back (k : Nat) (l : List Nat) : ∀ j : Nat, j ≤ l.length → (∀ i, l.length - j ≤ i → (hi : i < l.length) → hb l[i] k = true) → (j : Int) ≤ runF k l := by
  refine snoc_rec (P := fun l => ∀ j : Nat, j ≤ l.length → (∀ i, l.length - j ≤ i → (hi : i < l.length) → hb l[i] k = true) → (j : Int) ≤ runF k l) ?_ ?_ l
  · intro j hj _; simp at hj; subst hj; simp [runF]
  · intro l x ih j hj h
    rw [runF_snoc]
    cases j with
    | zero => have := (runF_bd k l).1; unfold nx; split <;> simp <;> omega
    | succ j =>
      have hx := h l.length (by simp) (by simp)
      simp at hx
      have := ih j (by simp at hj; omega) (fun i h1 h2 => by
        have := h i (by simp; omega) (by simp; omega)
        simpa [List.getElem_append, h2] using this)
      unfold nx; rw [if_pos hx]; omega
theorem runF_stop (k : Nat) (l : List Nat) : ∀ j : Nat, (hj : j < l.length) → hb (l[l.length - 1 - j]'(by omega)) k = false → runF k l ≤ j := by
  refine snoc_rec (P := fun l => ∀ j : Nat, (hj : j < l.length) → hb (l[l.length - 1 - j]'(by omega)) k = false → runF k l ≤ j) ?_ ?_ l
  · intro j hj; simp at hj
  · intro l x ih j hj h
    rw [runF_snoc]
    cases j with
    | zero => simp at h; unfold nx; simp [h]
    | succ j =>
      unfold nx
      split
      · have := ih j (by simp at hj; omega) (by
          have e : (l ++ [x]).length - 1 - (j + 1) = l.length - 1 - j := by simp; omega
          simp only [e] at h
          rw [List.getElem_append_left (by simp at hj; omega)] at h
          exact h)
        omega
      · omega
/-- The reference's least, with one line left out. -/
def mn (n : Nat → Int) (s : Nat) : Nat → Int
  | 0 => -1
  | k + 1 => if k ≠ s ∧ (mn n s k < 0 ∨ n k < mn n s k) then n k else mn n s k
def bs (n : Nat → Int) : Nat → Int
  | 0 => 0
  | s + 1 => max (bs n s) (mn n s 4)
theorem mn_skip (n : Nat → Int) (s : Nat) : mn n s (s + 1) = mn n s s := by simp [mn]
theorem mn_first (n : Nat → Int) (s k : Nat) (hk : k ≠ s) (h : mn n s k = -1) : mn n s (k + 1) = n k := by simp [mn, hk, h]
theorem mn_next (n : Nat → Int) (s k : Nat) (hk : k ≠ s) (h : 0 ≤ mn n s k) : mn n s (k + 1) = min (mn n s k) (n k) := by
  simp only [mn]; split <;> omega
theorem mn_all (n : Nat → Int) (h : ∀ k, 0 ≤ n k) : mn n 0 4 = min (min (n 1) (n 2)) (n 3) ∧ mn n 1 4 = min (min (n 0) (n 2)) (n 3) ∧ mn n 2 4 = min (min (n 0) (n 1)) (n 3) ∧ mn n 3 4 = min (min (n 0) (n 1)) (n 2) := by
  have h0 := h 0; have h1 := h 1; have h2 := h 2; have h3 := h 3
  have a1 : mn n 0 1 = mn n 0 0 := mn_skip n 0
  have a2 : mn n 0 2 = n 1 := mn_first n 0 1 (by decide) (by first | rfl | (rw [a1]; rfl))
  have a3 : mn n 0 3 = min (mn n 0 2) (n 2) := mn_next n 0 2 (by decide) (by rw [a2]; clear h; omega)
  have a4 : mn n 0 4 = min (mn n 0 3) (n 3) := mn_next n 0 3 (by decide) (by rw [a3, a2]; clear h; omega)
  have b1 : mn n 1 1 = n 0 := mn_first n 1 0 (by decide) (by first | rfl | (rw [b1]; rfl))
  have b2 : mn n 1 2 = mn n 1 1 := mn_skip n 1
  have b3 : mn n 1 3 = min (mn n 1 2) (n 2) := mn_next n 1 2 (by decide) (by rw [b2, b1]; clear h; omega)
  have b4 : mn n 1 4 = min (mn n 1 3) (n 3) := mn_next n 1 3 (by decide) (by rw [b3, b2, b1]; clear h; omega)
  have c1 : mn n 2 1 = n 0 := mn_first n 2 0 (by decide) (by first | rfl | (rw [c1]; rfl))
  have c2 : mn n 2 2 = min (mn n 2 1) (n 1) := mn_next n 2 1 (by decide) (by rw [c1]; clear h; omega)
  have c3 : mn n 2 3 = mn n 2 2 := mn_skip n 2
  have c4 : mn n 2 4 = min (mn n 2 3) (n 3) := mn_next n 2 3 (by decide) (by rw [c3, c2, c1]; clear h; omega)
  have d1 : mn n 3 1 = n 0 := mn_first n 3 0 (by decide) (by first | rfl | (rw [d1]; rfl))
  have d2 : mn n 3 2 = min (mn n 3 1) (n 1) := mn_next n 3 1 (by decide) (by rw [d1]; clear h; omega)
  have d3 : mn n 3 3 = min (mn n 3 2) (n 2) := mn_next n 3 2 (by decide) (by rw [d2, d1]; clear h; omega)
  have d4 : mn n 3 4 = mn n 3 3 := mn_skip n 3
  refine ⟨?_, ?_, ?_, ?_⟩
  · rw [a4, a3, a2]
  · rw [b4, b3, b2, b1]
  · rw [c4, c3, c2, c1]
  · rw [d4, d3, d2, d1]
theorem bs_t3 (n : Nat → Int) (h : ∀ k, 0 ≤ n k) : bs n 4 = t3 (n 0) (n 1) (n 2) (n 3) := by
  have h0 := h 0; have h1 := h 1; have h2 := h 2; have h3 := h 3
  obtain ⟨e0, e1, e2, e3⟩ := mn_all n h
  simp only [bs, t3]
  rw [e0, e1, e2, e3]
  clear e0 e1 e2 e3 h
  generalize n 0 = a at *
  generalize n 1 = b at *
  generalize n 2 = c at *
  generalize n 3 = d at *
  omega
end Go.Proofs.Ytbhgnhbaimemmaa.Ly6
