/- A row of new memory, as what is known of a value in a region that draws; no condition. -/
import Derived.Test.YtkankdecbefenaaDoorReg
import Derived.Test.YtkankdecbefenaaDoorObj
namespace Go.Proofs.YtkankdecbefenaaDoor.Base
open Go.ChangeShapes Go.WideShapes Go.ChangeAt Go.RowKit
set_option linter.unusedVariables false
set_option linter.unusedSimpArgs false

/-- A row that is new, with no room behind it. -/
def NewL (s n : Nat) (xs : List Value) : Sp := fun v w => ∃ g, v = .slice (some ⟨g, 0, none⟩) n n ∧ s ≤ g ∧ Lst w (some ⟨g, 0, none⟩) n xs
theorem NewL.stable (s n : Nat) (xs : List Value) : Stable (NewL s n xs) := fun v a b ⟨g, e, h, hl⟩ hb => ⟨g, e, h, hl.kept hb⟩
theorem NewL.new {s n : Nat} {xs : List Value} {x : World} {T : TypeId} (h : s ≤ x.heap.size) (hn : xs.length = n) : NewL s n xs (.slice (some ⟨x.heap.size, 0, none⟩) n n) (x.alloc (.cells xs.toArray T)) := by
  refine ⟨_, rfl, h, hn, fun _ => ⟨x.heap.size, 0, rfl, by simp, fun k hk => ?_⟩⟩
  rw [Nat.zero_add, (Obj1.new x T xs.toArray).cell, List.getElem?_toArray]
theorem NewL.ex {s n : Nat} {xs : List Value} (w : World) (T : TypeId) (h : s ≤ w.heap.size) (hn : xs.length = n) : ∃ v, ∃ x : Kin w, NewL s n xs v x.world :=
  ⟨_, ⟨_, (Below.refl _ _).alloc (Nat.le_refl _) _⟩, NewL.new (T := T) h hn⟩
theorem NewL.at {s n : Nat} {xs : List Value} {g : Nat} {w : World} (h : NewL s n xs (.slice (some ⟨g, 0, none⟩) n n) w) : s ≤ g ∧ Lst w (some ⟨g, 0, none⟩) n xs := by
  obtain ⟨g', e, h1, h2⟩ := h
  injection e with e
  injection e with e
  injection e with e
  subst e
  exact ⟨h1, h2⟩
theorem bel_drew (w : World) : Below w.heap.size w w.drew := (Below.refl _ _).drew
theorem lst_row (w : World) (e : TypeId) (xs : List Value) : Lst (w.alloc (.cells xs.toArray e)) (some ⟨w.heap.size, 0, none⟩) xs.length xs :=
  ⟨rfl, fun _ => ⟨w.heap.size, 0, rfl, by simp, fun k hk => by rw [Nat.zero_add, (Obj1.new w e xs.toArray).cell, List.getElem?_toArray]⟩⟩
theorem bel_new (w : World) (o : Obj) : Below w.heap.size w (w.alloc o) := (Below.refl _ _).alloc (Nat.le_refl _) _
end Go.Proofs.YtkankdecbefenaaDoor.Base
