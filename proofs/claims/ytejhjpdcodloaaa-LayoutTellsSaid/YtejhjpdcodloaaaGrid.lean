/- A slice of numbers within a struct, read as a list; no condition. -/
import Derived.Test.YtejhjpdcodloaaaSh
namespace Go.Proofs.Ytejhjpdcodloaaa.Base
open Go.ChangeShapes Go.WideShapes Go.ChangeAt Go.RowKit Go.Deep
set_option linter.unusedVariables false

theorem grid_lst {w : World} {A : Option Addr} {n : Nat} {rows : List (List Value)} (hg : Grid w A n 1 rows) (hr : ∀ r ∈ rows, Reads w (.int .u8) r) : ∃ xs : List Int, Lst w A n (xs.map (Value.int .u8)) ∧ ∀ x ∈ xs, 0 ≤ x ∧ x ≤ 255 := by
  have hx : ∃ xs : List Int, rows = xs.map (fun x => [Value.int .u8 x]) ∧ ∀ x ∈ xs, 0 ≤ x ∧ x ≤ 255 := by
    clear hg
    induction rows with
    | nil => exact ⟨[], rfl, fun x hx => by cases hx⟩
    | cons r rs ih =>
      obtain ⟨xs, rfl, hx⟩ := ih (fun r hr' => hr r (by simp [hr']))
      obtain ⟨x, rfl, hw⟩ := hr r (by simp)
      exact ⟨x :: xs, rfl, fun y hy => by
        rcases List.mem_cons.1 hy with rfl | hy
        · exact bounds_u8 hw
        · exact hx y hy⟩
  obtain ⟨xs, rfl, hx⟩ := hx
  refine ⟨xs, ⟨by simpa using hg.1, fun hn => ?_⟩, hx⟩
  obtain ⟨b, off, e, hb, hc⟩ := hg.2 hn
  refine ⟨b, off, e, hb, fun k hk => ?_⟩
  have := hc k 0 hk (by omega)
  rw [show off + (k * 1 + 0) = off + k by omega] at this
  rw [this, List.getElem?_map, List.getElem?_map]
  cases xs[k]? <;> rfl
end Go.Proofs.Ytejhjpdcodloaaa.Base
