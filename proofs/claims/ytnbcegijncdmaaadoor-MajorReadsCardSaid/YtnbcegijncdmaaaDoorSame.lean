/- A store of what a cell holds already leaves the world as it is; no condition. -/
import Derived.Test.YtnbcegijncdmaaaDoorObj
namespace Go.Proofs.YtnbcegijncdmaaaDoor.Base
open Go.ChangeShapes Go.WideShapes Go.ChangeAt Go.RowKit
set_option linter.unusedVariables false
theorem same_cell {w : World} {g i : Nat} {T : TypeId} {cs : Array Value} {v : Value} (h : Obj1 w g T cs) (hv : cs[i]? = some v) : w.setCell ⟨g, i, none⟩ v = w := by
  have e : cs.setIfInBounds i v = cs := by
    apply Array.ext_getElem?
    intro j
    rw [Array.getElem?_setIfInBounds]
    split
    · next hij => subst hij; rw [hv]; split; rfl; next hh => rw [Array.getElem?_eq_none (by omega)] at hv; cases hv
    · rfl
  obtain ⟨heap, rest⟩ := w
  unfold Obj1 at h
  simp only [World.setCell] at h ⊢
  congr 1
  apply Array.ext_getElem?
  intro j
  rw [Array.getElem?_modify]
  split
  · next hij => subst hij; rw [h]; simp [e]
  · rfl
end Go.Proofs.YtnbcegijncdmaaaDoor.Base
