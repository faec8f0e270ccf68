/- Words for a region that draws its order, of which the first operations are met by hand, the others in whatever order by the class of worlds behind them; no condition. -/
import Derived.Test.YthnopcoahcdjjaaKin
namespace Go.Proofs.Ythnopcoahcdjjaa.Base
open Go.ChangeShapes Go.WideShapes Go.ChangeAt Go.RowKit
set_option linter.unusedVariables false

theorem wpAny_lex_kin {P : Program} {Q : Exit → Act → World → Prop} {l : List Oper} (k : Nat) {fuel : Nat} {listed : Array Bool} {a : Act} {w : World} (hs : Region.noSelect l.toArray = true) (hf : fuel = (l.drop k).length)
    (hB : Region.lexFrom .any l.toArray (l.drop k).length k listed = true)
    (h : wpQuiet P l.toArray (fun w' => ∃ x : Kin w, w' = x.world) (fun a' => ∀ w', (∃ x : Kin w, w' = x.world) → Q .normal a' w') (l.drop k) a) : wpAny P .any l.toArray Q fuel listed a w := by
  subst hf
  refine wpAny_of_quiet (C := fun w' => ∃ x : Kin w, w' = x.world) (Q := fun a' => ∀ w', (∃ x : Kin w, w' = x.world) → Q .normal a' w') (fun _ w' hw' h => h w' hw') _ _ _ _ ⟨Kin.me w, rfl⟩ ?_
  exact wpAnyQ_lex hs _ k listed a (fun j => by rw [List.getElem?_drop, List.getElem?_toArray]) hB h
end Go.Proofs.Ythnopcoahcdjjaa.Base
