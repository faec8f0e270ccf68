/- Why a window may not be (P8.1), and the contract of the document's Window. -/
import Derived.Test.YtkankdecbefenaaDoorVlcE
import Derived.Test.YtkankdecbefenaaDoorPlnF
namespace Go.Proofs.YtkankdecbefenaaDoor.Ly7
open Go.ChangeShapes Go.WideShapes Go.ChangeAt Go.RowKit Base
set_option linter.unusedVariables false
set_option linter.unusedSimpArgs false

def anyIn (a b : List Int) : Bool := a.any (fun f => b.contains f)
theorem anyIn_yes {a b : List Int} {k : Nat} {x : Int} (h : a[k]? = some x) (hc : b.contains x = true) : anyIn a b = true := by
  unfold anyIn
  rw [List.any_eq_true]
  exact ⟨x, List.mem_of_getElem? h, hc⟩
theorem anyIn_no {a b : List Int} (h : ∀ (k : Nat) (x : Int), a[k]? = some x → b.contains x = false) : anyIn a b = false := by
  cases e : anyIn a b with
  | false => rfl
  | true =>
    unfold anyIn at e
    rw [List.any_eq_true] at e
    obtain ⟨x, hx, hc⟩ := e
    obtain ⟨k, hk⟩ := List.getElem?_of_mem hx
    rw [h k x hk] at hc
    cases hc
/-- What is wrong with a window (0: nothing). -/
def Win (md k b wd ad : Int) (n : Nat) (fs ts : List Int) (r : Int) : Prop :=
  (k = 0 ∧ wd < 1 ∧ r = 3) ∨ (k = 0 ∧ ¬ wd < 1 ∧ 8 < wd ∧ r = 3) ∨ (k = 0 ∧ ¬ wd < 1 ∧ ¬ 8 < wd ∧ ad < 0 ∧ r = 3) ∨ (k = 0 ∧ ¬ wd < 1 ∧ ¬ 8 < wd ∧ ¬ ad < 0 ∧ 64 - wd < ad ∧ r = 3) ∨
  (k = 0 ∧ (1 ≤ wd ∧ wd ≤ 8 ∧ 0 ≤ ad ∧ ad ≤ 64 - wd) ∧ ((4 < n ∧ r = 2) ∨ (n ≤ 4 ∧ namF fs md = false ∧ r = 2) ∨ (n ≤ 4 ∧ namF fs md = true ∧ twF fs = true ∧ r = 17) ∨ (n ≤ 4 ∧ namF fs md = true ∧ twF fs = false ∧ namF ts md = false ∧ r = 2) ∨
    (n ≤ 4 ∧ namF fs md = true ∧ twF fs = false ∧ namF ts md = true ∧ ((anyIn fs ts = true ∧ r = 17) ∨ (anyIn fs ts = false ∧ twF ts = true ∧ r = 17) ∨ (anyIn fs ts = false ∧ twF ts = false ∧ r = 0))))) ∨
  (k = 1 ∧ b < 1 ∧ r = 3) ∨ (k = 1 ∧ ¬ b < 1 ∧ 100 < b ∧ r = 3) ∨ (k = 1 ∧ ¬ b < 1 ∧ ¬ 100 < b ∧ r = 0) ∨ (k = 2 ∧ r = 0) ∨ (((k == 0) = false ∧ (k == 1) = false ∧ (k == 2) = false) ∧ r = 2)
theorem win_ex (md k b wd ad : Int) (n : Nat) (fs ts : List Int) : ∃ r, Win md k b wd ad n fs ts r := by
  by_cases h0 : k = 0
  · by_cases h1 : wd < 1
    · exact ⟨3, .inl ⟨h0, h1, rfl⟩⟩
    by_cases h2 : 8 < wd
    · exact ⟨3, .inr (.inl ⟨h0, h1, h2, rfl⟩)⟩
    by_cases h3 : ad < 0
    · exact ⟨3, .inr (.inr (.inl ⟨h0, h1, h2, h3, rfl⟩))⟩
    by_cases h4 : 64 - wd < ad
    · exact ⟨3, .inr (.inr (.inr (.inl ⟨h0, h1, h2, h3, h4, rfl⟩)))⟩
    have hg : (1 ≤ wd ∧ wd ≤ 8 ∧ 0 ≤ ad ∧ ad ≤ 64 - wd) := ⟨by omega, by omega, by omega, by omega⟩
    by_cases h5 : 4 < n
    · exact ⟨2, .inr (.inr (.inr (.inr (.inl ⟨h0, hg, .inl ⟨h5, rfl⟩⟩))))⟩
    have h5' : n ≤ 4 := by omega
    cases h6 : namF fs md with
    | false => exact ⟨2, .inr (.inr (.inr (.inr (.inl ⟨h0, hg, .inr (.inl ⟨h5', h6, rfl⟩)⟩))))⟩
    | true =>
      cases h7 : twF fs with
      | true => exact ⟨17, .inr (.inr (.inr (.inr (.inl ⟨h0, hg, .inr (.inr (.inl ⟨h5', h6, h7, rfl⟩))⟩))))⟩
      | false =>
        cases h8 : namF ts md with
        | false => exact ⟨2, .inr (.inr (.inr (.inr (.inl ⟨h0, hg, .inr (.inr (.inr (.inl ⟨h5', h6, h7, h8, rfl⟩)))⟩))))⟩
        | true =>
          cases h9 : anyIn fs ts with
          | true => exact ⟨17, .inr (.inr (.inr (.inr (.inl ⟨h0, hg, .inr (.inr (.inr (.inr ⟨h5', h6, h7, h8, .inl ⟨h9, rfl⟩⟩)))⟩))))⟩
          | false =>
            cases h10 : twF ts with
            | true => exact ⟨17, .inr (.inr (.inr (.inr (.inl ⟨h0, hg, .inr (.inr (.inr (.inr ⟨h5', h6, h7, h8, .inr (.inl ⟨h9, h10, rfl⟩)⟩)))⟩))))⟩
            | false => exact ⟨0, .inr (.inr (.inr (.inr (.inl ⟨h0, hg, .inr (.inr (.inr (.inr ⟨h5', h6, h7, h8, .inr (.inr ⟨h9, h10, rfl⟩)⟩)))⟩))))⟩
  by_cases h1 : k = 1
  · by_cases h2 : b < 1
    · exact ⟨3, .inr (.inr (.inr (.inr (.inr (.inl ⟨h1, h2, rfl⟩)))))⟩
    by_cases h3 : 100 < b
    · exact ⟨3, .inr (.inr (.inr (.inr (.inr (.inr (.inl ⟨h1, h2, h3, rfl⟩))))))⟩
    · exact ⟨0, .inr (.inr (.inr (.inr (.inr (.inr (.inr (.inl ⟨h1, h2, h3, rfl⟩)))))))⟩
  by_cases h2 : k = 2
  · exact ⟨0, .inr (.inr (.inr (.inr (.inr (.inr (.inr (.inr (.inl ⟨h2, rfl⟩))))))))⟩
  · exact ⟨2, .inr (.inr (.inr (.inr (.inr (.inr (.inr (.inr (.inr ⟨⟨by simpa using h0, by simpa using h1, by simpa using h2⟩, rfl⟩))))))))⟩
abbrev TWn : TypeId := 61
end Go.Proofs.YtkankdecbefenaaDoor.Ly7
