/- The statements' own helper 'one' of layer 7, by the evaluator. -/
import Derived.Test.YtkdmcnkahiimoaaEvL
import Derived.Test.YtkdmcnkahiimoaaBox
import Derived.Test.YtkdmcnkahiimoaaChecked
namespace Go.Proofs.Ytkdmcnkahiimoaa.Ly7
open Go.ChangeShapes Go.WideShapes Go.ChangeAt Go.RowKit Base
set_option linter.unusedVariables false
set_option linter.unusedSimpArgs false

theorem named : Ev.Named Try.prog := by unfold Ev.Named; kernel_rfl
theorem mixed : Try.prog.follows .mixedOrders = true := by kernel_rfl
set_option maxRecDepth 1000000 in
theorem one_run : Ev.runL Try.prog 100000 12 [] = some (.bool true) := by kernel_rfl
theorem one_any (w : World) : Calls Try.prog 12 #[] w fun e w' => e = .returned (.bool true) ∧ Below w.heap.size w w' :=
  Ev.run_ok named mixed one_run .nil w

end Go.Proofs.Ytkdmcnkahiimoaa.Ly7
