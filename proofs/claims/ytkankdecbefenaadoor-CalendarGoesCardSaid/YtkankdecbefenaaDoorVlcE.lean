/- The document's has, named and twice of layer 8: over lists. -/
import Derived.Test.YtkankdecbefenaaDoorPlnE
namespace Go.Proofs.YtkankdecbefenaaDoor.Ly7
open Go.ChangeShapes Go.WideShapes Go.ChangeAt Go.RowKit Base
set_option linter.unusedVariables false
set_option linter.unusedSimpArgs false

theorem has_yes {xs : List Int} {y : Int} {k : Nat} (h : xs[k]? = some y) : xs.contains y = true := by
  rw [List.contains_iff_mem]
  exact List.mem_of_getElem? h
theorem has_none {xs : List Int} {y : Int} (h : ∀ (j : Nat) (x : Int), xs[j]? = some x → x ≠ y) : xs.contains y = false := by
  cases e : xs.contains y with
  | false => rfl
  | true =>
    rw [List.contains_iff_mem] at e
    obtain ⟨j, hj⟩ := List.getElem?_of_mem e
    exact absurd rfl (h j y hj)
/-- Each one is a module, and there is one. -/
def namF (xs : List Int) (md : Int) : Bool := !xs.isEmpty && xs.all (fun m => decide (0 ≤ m) && decide (m < md))
theorem namF_no {xs : List Int} {md x : Int} {k : Nat} (h : xs[k]? = some x) (hx : x < 0 ∨ md ≤ x) : namF xs md = false := by
  cases e : namF xs md with
  | false => rfl
  | true =>
    unfold namF at e
    rw [Bool.and_eq_true, List.all_eq_true] at e
    have := e.2 x (List.mem_of_getElem? h)
    simp at this
    omega
theorem namF_yes {xs : List Int} {md : Int} (h0 : 0 < xs.length) (h : ∀ (j : Nat) (x : Int), xs[j]? = some x → 0 ≤ x ∧ x < md) : namF xs md = true := by
  unfold namF
  rw [Bool.and_eq_true, List.all_eq_true]
  refine ⟨?_, fun x hx => ?_⟩
  · cases xs with
    | nil => simp at h0
    | cons a r => rfl
  · obtain ⟨j, hj⟩ := List.getElem?_of_mem hx
    have := h j x hj
    simp
    omega
/-- One is there twice. -/
def twF (xs : List Int) : Bool := (List.range xs.length).any (fun i => (xs.take i).contains (xs.getD i 0))
theorem twF_yes {xs : List Int} {k : Nat} {x : Int} (h : xs[k]? = some x) (hc : (xs.take k).contains x = true) : twF xs = true := by
  unfold twF
  rw [List.any_eq_true]
  refine ⟨k, by have := (List.getElem?_eq_some_iff.1 h).1; simpa using this, ?_⟩
  rw [List.getD_eq_getElem?_getD, h]
  exact hc
theorem twF_no {xs : List Int} (h : ∀ (k : Nat) (x : Int), xs[k]? = some x → (xs.take k).contains x = false) : twF xs = false := by
  cases e : twF xs with
  | false => rfl
  | true =>
    unfold twF at e
    rw [List.any_eq_true] at e
    obtain ⟨k, hk, hc⟩ := e
    have hk' : k < xs.length := by simpa using hk
    have := h k xs[k] (List.getElem?_eq_getElem hk')
    rw [List.getD_eq_getElem?_getD, List.getElem?_eq_getElem hk'] at hc
    simp only [Option.getD_some] at hc
    rw [this] at hc
    cases hc
end Go.Proofs.YtkankdecbefenaaDoor.Ly7
