/- `one` of layer 42, by the evaluator. -/
import Derived.Test.YtejhjpdcodloaaaEvL
import Derived.Test.YtejhjpdcodloaaaChecked
import Derived.Test.YtejhjpdcodloaaaBase
namespace Go.Proofs.Ytejhjpdcodloaaa.One42
open Go Go.RowKit Go.ChangeAt Base
set_option linter.unusedVariables false
set_option linter.unusedSimpArgs false
theorem named : Ev.Named Try.prog := by unfold Ev.Named; kernel_rfl
theorem mixed : Try.prog.follows .mixedOrders = true := by kernel_rfl
set_option maxRecDepth 1000000 in
theorem one_run : Ev.runL Try.prog 100000 21 [] = some (.bool true) := by kernel_rfl
theorem one_any (w : World) : Calls Try.prog 21 #[] w fun e w' => e = .returned (.bool true) ∧ Below w.heap.size w w' := Ev.run_ok named mixed one_run .nil w
end Go.Proofs.Ytejhjpdcodloaaa.One42
