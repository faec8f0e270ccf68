/- Words of this proof's own on worlds in which all that was there is as it was: the class of such worlds, regions whose order is drawn and whose callees make memory of their own but hand back what does not hang on it. -/
import Derived.Test.YtkankdecbefenaaDoorBase
import Derived.Deep.QuietTactic
import Derived.BigQuiet
import Derived.Outline
namespace Go.Proofs.YtkankdecbefenaaDoor.Base
open Go.ChangeShapes Go.WideShapes Go.ChangeAt Go.RowKit
set_option linter.unusedVariables false

/-- A world that is as w was, in all blocks that w has. -/
structure Kin (w : World) where
  world : World
  below : Below w.heap.size w world

theorem Kin.cell {w : World} (x : Kin w) (b o : Nat) (h : b < w.heap.size) : x.world.cell? ⟨b, o, none⟩ = w.cell? ⟨b, o, none⟩ := x.below.cell (p := ⟨b, o, none⟩) h
theorem Kin.at {w : World} {b o : Nat} {v : Value} (h : w.cell? ⟨b, o, none⟩ = some v) (x : Kin w) : x.world.cell? ⟨b, o, none⟩ = some v :=
  (x.cell b o (World.block_lt_of_cell? w _ h)).trans h
def Kin.me (w : World) : Kin w := ⟨w, Below.refl _ _⟩
instance (w : World) : Nonempty (Kin w) := ⟨Kin.me w⟩
def Kin.on {w w' : World} (x : Kin w) (h : Below x.world.heap.size x.world w') : Kin w := ⟨w', x.below.trans (h.mono x.below.size)⟩

theorem Calls.kin {P : Program} {f : FuncId} {args : Array Value} {w : World} {v : Value} (x : Kin w)
    (h : Calls P f args x.world fun e w' => e = .returned v ∧ Below x.world.heap.size x.world w') : Calls P f args x.world fun e w' => e = .returned v ∧ ∃ y : Kin w, w' = y.world :=
  h.mono fun e w' ⟨he, hb⟩ => ⟨he, x.on hb, rfl⟩
theorem Calls.kin_same {P : Program} {f : FuncId} {args : Array Value} {w : World} {v : Value} (x : Kin w)
    (h : Calls P f args x.world fun e w' => e = .returned v ∧ x.world = w') : Calls P f args x.world fun e w' => e = .returned v ∧ ∃ y : Kin w, w' = y.world :=
  h.mono fun e w' ⟨he, hb⟩ => ⟨he, x, hb.symm⟩

theorem wp_region_kin {P : Program} {id : Nat} {Q : Exit → Act → World → Prop} {a : Act} {w : World} {l : List Oper} (hm : P.follows .mixedOrders = true) (hB : Region.lexB .any l.toArray = true)
    (h : wpQuiet P l.toArray (fun w' => ∃ x : Kin w, w' = x.world) (fun a' => ∀ w', (∃ x : Kin w, w' = x.world) → Q .normal a' w') l a) : (Code.region id l.toArray true).wp P Q a w :=
  wp_region_quiet (C := fun w' => ∃ x : Kin w, w' = x.world) hm hB ⟨⟨_, (Below.refl _ _).drew⟩, rfl⟩ (by simpa using h)
end Go.Proofs.YtkankdecbefenaaDoor.Base
