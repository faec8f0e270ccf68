/-
  No cell of these rows narrows 'for every input' (looked for: loops, veiled, ifaces, maps, wideKeys, modest, calm, conditions, laid).
  DERIVED. THE GIVEN ROWS OF THIS SEAT. 8 by the template 'for every input the law returns true; each argument reads behind the call as it read before'; 0 by the template 'total and deterministic' (their statements: YtbldammbkblooaaTotals.lean).
  GIVEN WITH THE SEED: the statements are not yours to turn. If you find one false, say at which input.
  Laid BY PROGRAM, IN A SANDBOX (cutbox-rows.mjs): the forced cells as the released guide's own fill.sh prints them over the translation 7b3b5920d9e860ff… (all of the seat's roots in one cut). By AI agents, Wed Nov 11 2026. No macro, syntax, notation, axiom, sorry.
-/
import Derived.Test.YtbldammbkblooaaChecked
import GoSem.Claim
import GoSem.ClaimJoined
import GoSem.ClaimMapViews
import Derived.JoinedTies
import Derived.KernelRfl
namespace Go.Proofs.Ytbldammbkblooaa
/- THE CELL 'sum', in the pinned program and in every row, IS THE sha256 OF THE DUMP (.gsa) THAT YtbldammbkblooaaProg.lean LOADS. Nothing in Lean hashes anything: it is a label: what it is worth is what the hold of that sum in a sandbox is worth. -/
noncomputable def Try.pinned : Pinned := { name := "ytbldammbkblooaa", sum := "7b3b5920d9e860ff2d668b7c9893816059d317e8751cfe91e937455e172f9e55", checked := Try.checked }
namespace Rows
def none {H : Type} : Left H := { results := [], args := [] }

/-- 'busbarlaw07.PlanPulses': WHATEVER THE INPUT: true; the input reads as it did. -/
def planPulsesSpec : ChangeSpec := { name := "planPulses", fn := fun _ => fun
  | [d1, d2] => { results := [.lit (.bool true)], args := [d1, d2] }
  | _ => none }
def planPulsesRow : OpenClaim := { program := "ytbldammbkblooaa", sum := "7b3b5920d9e860ff2d668b7c9893816059d317e8751cfe91e937455e172f9e55", func := "busbar/busbarlaw07.PlanPulses", spec := "planPulses", unfollowed := true, recurses := true, plainKeys := false, apart := false }
def PlanPulsesSaid : Prop := planPulsesRow.holds Try.pinned (OpenSpec.ofChange planPulsesSpec)

/-- ITS FALSE NEIGHBOUR: 'it returns false'. Refute it at one input. -/
def planPulsesWrong : ChangeSpec := { name := "planPulses", fn := fun _ => fun
  | [d1, d2] => { results := [.lit (.bool false)], args := [d1, d2] }
  | _ => none }
def PlanPulsesWrongFalsely : Prop := planPulsesRow.holds Try.pinned (OpenSpec.ofChange planPulsesWrong)

/-- 'busbarlaw13.StoreNobody': WHATEVER THE INPUT: true; the input reads as it did. -/
def storeNobodySpec : ChangeSpec := { name := "storeNobody", fn := fun _ => fun
  | [d] => { results := [.lit (.bool true)], args := [d] }
  | _ => none }
def storeNobodyRow : OpenClaim := { program := "ytbldammbkblooaa", sum := "7b3b5920d9e860ff2d668b7c9893816059d317e8751cfe91e937455e172f9e55", func := "busbar/busbarlaw13.StoreNobody", spec := "storeNobody", plainKeys := false, apart := false }
def StoreNobodySaid : Prop := storeNobodyRow.holds Try.pinned (OpenSpec.ofChange storeNobodySpec)

/-- ITS FALSE NEIGHBOUR: 'it returns false'. Refute it at one input. -/
def storeNobodyWrong : ChangeSpec := { name := "storeNobody", fn := fun _ => fun
  | [d] => { results := [.lit (.bool false)], args := [d] }
  | _ => none }
def StoreNobodyWrongFalsely : Prop := storeNobodyRow.holds Try.pinned (OpenSpec.ofChange storeNobodyWrong)

/-- 'busbarlaw13.StoreOnce': WHATEVER THE INPUT: true; the input reads as it did. -/
def storeOnceSpec : ChangeSpec := { name := "storeOnce", fn := fun _ => fun
  | [d1, d2, d3] => { results := [.lit (.bool true)], args := [d1, d2, d3] }
  | _ => none }
def storeOnceRow : OpenClaim := { program := "ytbldammbkblooaa", sum := "7b3b5920d9e860ff2d668b7c9893816059d317e8751cfe91e937455e172f9e55", func := "busbar/busbarlaw13.StoreOnce", spec := "storeOnce", plainKeys := false, apart := false }
def StoreOnceSaid : Prop := storeOnceRow.holds Try.pinned (OpenSpec.ofChange storeOnceSpec)

/-- ITS FALSE NEIGHBOUR: 'it returns false'. Refute it at one input. -/
def storeOnceWrong : ChangeSpec := { name := "storeOnce", fn := fun _ => fun
  | [d1, d2, d3] => { results := [.lit (.bool false)], args := [d1, d2, d3] }
  | _ => none }
def StoreOnceWrongFalsely : Prop := storeOnceRow.holds Try.pinned (OpenSpec.ofChange storeOnceWrong)

/-- 'busbarlaw30.AuditNames': WHATEVER THE INPUT: true; the input reads as it did. -/
def auditNamesSpec : ChangeSpec := { name := "auditNames", fn := fun _ => fun
  | [d1, d2] => { results := [.lit (.bool true)], args := [d1, d2] }
  | _ => none }
def auditNamesRow : OpenClaim := { program := "ytbldammbkblooaa", sum := "7b3b5920d9e860ff2d668b7c9893816059d317e8751cfe91e937455e172f9e55", func := "busbar/busbarlaw30.AuditNames", spec := "auditNames", inPlace := ["slices.overlaps[int]"], unfollowed := true, recurses := true, plainKeys := false, apart := false }
def AuditNamesSaid : Prop := auditNamesRow.holds Try.pinned (OpenSpec.ofChange auditNamesSpec)

/-- ITS FALSE NEIGHBOUR: 'it returns false'. Refute it at one input. -/
def auditNamesWrong : ChangeSpec := { name := "auditNames", fn := fun _ => fun
  | [d1, d2] => { results := [.lit (.bool false)], args := [d1, d2] }
  | _ => none }
def AuditNamesWrongFalsely : Prop := auditNamesRow.holds Try.pinned (OpenSpec.ofChange auditNamesWrong)

/-- 'busbarlaw42.LayoutTells': WHATEVER THE INPUT: true; the input reads as it did. -/
def layoutTellsSpec : ChangeSpec := { name := "layoutTells", fn := fun _ => fun
  | [d] => { results := [.lit (.bool true)], args := [d] }
  | _ => none }
def layoutTellsRow : OpenClaim := { program := "ytbldammbkblooaa", sum := "7b3b5920d9e860ff2d668b7c9893816059d317e8751cfe91e937455e172f9e55", func := "busbar/busbarlaw42.LayoutTells", spec := "layoutTells", plainKeys := false, apart := false }
def LayoutTellsSaid : Prop := layoutTellsRow.holds Try.pinned (OpenSpec.ofChange layoutTellsSpec)

/-- ITS FALSE NEIGHBOUR: 'it returns false'. Refute it at one input. -/
def layoutTellsWrong : ChangeSpec := { name := "layoutTells", fn := fun _ => fun
  | [d] => { results := [.lit (.bool false)], args := [d] }
  | _ => none }
def LayoutTellsWrongFalsely : Prop := layoutTellsRow.holds Try.pinned (OpenSpec.ofChange layoutTellsWrong)

/-- 'busbarlaw09.CmdBack': WHATEVER THE INPUT: true; the input reads as it did. -/
def cmdBackSpec : ChangeSpec := { name := "cmdBack", fn := fun _ => fun
  | [d1, d2, d3] => { results := [.lit (.bool true)], args := [d1, d2, d3] }
  | _ => none }
def cmdBackRow : OpenClaim := { program := "ytbldammbkblooaa", sum := "7b3b5920d9e860ff2d668b7c9893816059d317e8751cfe91e937455e172f9e55", func := "busbar/busbarlaw09.CmdBack", spec := "cmdBack", unfollowed := true, recurses := true, plainKeys := false, apart := false }
def CmdBackSaid : Prop := cmdBackRow.holds Try.pinned (OpenSpec.ofChange cmdBackSpec)

/-- ITS FALSE NEIGHBOUR: 'it returns false'. Refute it at one input. -/
def cmdBackWrong : ChangeSpec := { name := "cmdBack", fn := fun _ => fun
  | [d1, d2, d3] => { results := [.lit (.bool false)], args := [d1, d2, d3] }
  | _ => none }
def CmdBackWrongFalsely : Prop := cmdBackRow.holds Try.pinned (OpenSpec.ofChange cmdBackWrong)

/-- 'busbarlaw10.ImageParts': WHATEVER THE INPUT: true; the input reads as it did. -/
def imagePartsSpec : ChangeSpec := { name := "imageParts", fn := fun _ => fun
  | [d1, d2] => { results := [.lit (.bool true)], args := [d1, d2] }
  | _ => none }
def imagePartsRow : OpenClaim := { program := "ytbldammbkblooaa", sum := "7b3b5920d9e860ff2d668b7c9893816059d317e8751cfe91e937455e172f9e55", func := "busbar/busbarlaw10.ImageParts", spec := "imageParts", unfollowed := true, recurses := true, plainKeys := false, apart := false }
def ImagePartsSaid : Prop := imagePartsRow.holds Try.pinned (OpenSpec.ofChange imagePartsSpec)

/-- ITS FALSE NEIGHBOUR: 'it returns false'. Refute it at one input. -/
def imagePartsWrong : ChangeSpec := { name := "imageParts", fn := fun _ => fun
  | [d1, d2] => { results := [.lit (.bool false)], args := [d1, d2] }
  | _ => none }
def ImagePartsWrongFalsely : Prop := imagePartsRow.holds Try.pinned (OpenSpec.ofChange imagePartsWrong)

/-- 'busbarlaw21.BudgetFits': WHATEVER THE INPUT: true; the input reads as it did. -/
def budgetFitsSpec : ChangeSpec := { name := "budgetFits", fn := fun _ => fun
  | [d1, d2] => { results := [.lit (.bool true)], args := [d1, d2] }
  | _ => none }
def budgetFitsRow : OpenClaim := { program := "ytbldammbkblooaa", sum := "7b3b5920d9e860ff2d668b7c9893816059d317e8751cfe91e937455e172f9e55", func := "busbar/busbarlaw21.BudgetFits", spec := "budgetFits", plainKeys := false, apart := false }
def BudgetFitsSaid : Prop := budgetFitsRow.holds Try.pinned (OpenSpec.ofChange budgetFitsSpec)

/-- ITS FALSE NEIGHBOUR: 'it returns false'. Refute it at one input. -/
def budgetFitsWrong : ChangeSpec := { name := "budgetFits", fn := fun _ => fun
  | [d1, d2] => { results := [.lit (.bool false)], args := [d1, d2] }
  | _ => none }
def BudgetFitsWrongFalsely : Prop := budgetFitsRow.holds Try.pinned (OpenSpec.ofChange budgetFitsWrong)

/- THE SECOND FORM. 'bulk': how many values and letters a reading holds, each counted each time it is reached (what is shared counts as often as it is met; a slice's spare places count too). A statement '..UptoSaid' is the law's where the arguments, and the package variables that the reading takes, are together of bulk at most 1048576: NARROWER than '..Said'. Prove '..Said' where nothing that the law and all that it calls make is longer than what came in: it says more and counts as full. Else prove '..UptoSaid'. A law counts once. -/
mutual
def uptoBulk {H : Type} : DataW H → Nat
  | .lit (.string bytes) => bytes.length + 1
  | .lit _ => 1
  | .nil => 1
  | .ptr d => uptoBulk d + 1
  | .slice elems spare => uptoBulkAll elems + uptoBulkAll spare + 1
  | .agg parts => uptoBulkAll parts + 1
  | .iface _ d => uptoBulk d + 1
  | .map entries => uptoBulkEntries entries + 1
  | .held _ => 1
def uptoBulkAll {H : Type} : List (DataW H) → Nat
  | [] => 0
  | d :: r => uptoBulk d + uptoBulkAll r
def uptoBulkEntries {H : Type} : List (Lit × DataW H) → Nat
  | [] => 0
  | x :: r => uptoBulkEntry x + uptoBulkEntries r
def uptoBulkEntry {H : Type} : Lit × DataW H → Nat
  | (.string bytes, d) => bytes.length + uptoBulk d + 1
  | (_, d) => uptoBulk d + 1
 end
def uptoSmall : (H : Type) → List (DataW H) → Bool := fun _ ds => decide (uptoBulkAll ds ≤ 1048576)
def OpenSpec.upto (s : _root_.Go.ChangeSpec) : _root_.Go.OpenSpec := { _root_.Go.OpenSpec.ofChange s with cond := some uptoSmall }

/-- 'busbarlaw07.PlanPulses', WHERE WHAT IT READS IS OF BULK AT MOST 1048576: true; the input reads as it did. -/
def planPulsesUptoRow : OpenClaim := { program := "ytbldammbkblooaa", sum := "7b3b5920d9e860ff2d668b7c9893816059d317e8751cfe91e937455e172f9e55", func := "busbar/busbarlaw07.PlanPulses", spec := "planPulses", unfollowed := true, recurses := true, plainKeys := false, apart := false, narrowed := true }
def PlanPulsesUptoSaid : Prop := planPulsesUptoRow.holds Try.pinned (OpenSpec.upto planPulsesSpec)

/-- 'busbarlaw13.StoreNobody', WHERE WHAT IT READS IS OF BULK AT MOST 1048576: true; the input reads as it did. -/
def storeNobodyUptoRow : OpenClaim := { program := "ytbldammbkblooaa", sum := "7b3b5920d9e860ff2d668b7c9893816059d317e8751cfe91e937455e172f9e55", func := "busbar/busbarlaw13.StoreNobody", spec := "storeNobody", plainKeys := false, apart := false, narrowed := true }
def StoreNobodyUptoSaid : Prop := storeNobodyUptoRow.holds Try.pinned (OpenSpec.upto storeNobodySpec)

/-- 'busbarlaw13.StoreOnce', WHERE WHAT IT READS IS OF BULK AT MOST 1048576: true; the input reads as it did. -/
def storeOnceUptoRow : OpenClaim := { program := "ytbldammbkblooaa", sum := "7b3b5920d9e860ff2d668b7c9893816059d317e8751cfe91e937455e172f9e55", func := "busbar/busbarlaw13.StoreOnce", spec := "storeOnce", plainKeys := false, apart := false, narrowed := true }
def StoreOnceUptoSaid : Prop := storeOnceUptoRow.holds Try.pinned (OpenSpec.upto storeOnceSpec)

/-- 'busbarlaw30.AuditNames', WHERE WHAT IT READS IS OF BULK AT MOST 1048576: true; the input reads as it did. -/
def auditNamesUptoRow : OpenClaim := { program := "ytbldammbkblooaa", sum := "7b3b5920d9e860ff2d668b7c9893816059d317e8751cfe91e937455e172f9e55", func := "busbar/busbarlaw30.AuditNames", spec := "auditNames", inPlace := ["slices.overlaps[int]"], unfollowed := true, recurses := true, plainKeys := false, apart := false, narrowed := true }
def AuditNamesUptoSaid : Prop := auditNamesUptoRow.holds Try.pinned (OpenSpec.upto auditNamesSpec)

/-- 'busbarlaw42.LayoutTells', WHERE WHAT IT READS IS OF BULK AT MOST 1048576: true; the input reads as it did. -/
def layoutTellsUptoRow : OpenClaim := { program := "ytbldammbkblooaa", sum := "7b3b5920d9e860ff2d668b7c9893816059d317e8751cfe91e937455e172f9e55", func := "busbar/busbarlaw42.LayoutTells", spec := "layoutTells", plainKeys := false, apart := false, narrowed := true }
def LayoutTellsUptoSaid : Prop := layoutTellsUptoRow.holds Try.pinned (OpenSpec.upto layoutTellsSpec)

/-- 'busbarlaw09.CmdBack', WHERE WHAT IT READS IS OF BULK AT MOST 1048576: true; the input reads as it did. -/
def cmdBackUptoRow : OpenClaim := { program := "ytbldammbkblooaa", sum := "7b3b5920d9e860ff2d668b7c9893816059d317e8751cfe91e937455e172f9e55", func := "busbar/busbarlaw09.CmdBack", spec := "cmdBack", unfollowed := true, recurses := true, plainKeys := false, apart := false, narrowed := true }
def CmdBackUptoSaid : Prop := cmdBackUptoRow.holds Try.pinned (OpenSpec.upto cmdBackSpec)

/-- 'busbarlaw10.ImageParts', WHERE WHAT IT READS IS OF BULK AT MOST 1048576: true; the input reads as it did. -/
def imagePartsUptoRow : OpenClaim := { program := "ytbldammbkblooaa", sum := "7b3b5920d9e860ff2d668b7c9893816059d317e8751cfe91e937455e172f9e55", func := "busbar/busbarlaw10.ImageParts", spec := "imageParts", unfollowed := true, recurses := true, plainKeys := false, apart := false, narrowed := true }
def ImagePartsUptoSaid : Prop := imagePartsUptoRow.holds Try.pinned (OpenSpec.upto imagePartsSpec)

/-- 'busbarlaw21.BudgetFits', WHERE WHAT IT READS IS OF BULK AT MOST 1048576: true; the input reads as it did. -/
def budgetFitsUptoRow : OpenClaim := { program := "ytbldammbkblooaa", sum := "7b3b5920d9e860ff2d668b7c9893816059d317e8751cfe91e937455e172f9e55", func := "busbar/busbarlaw21.BudgetFits", spec := "budgetFits", plainKeys := false, apart := false, narrowed := true }
def BudgetFitsUptoSaid : Prop := budgetFitsUptoRow.holds Try.pinned (OpenSpec.upto budgetFitsSpec)

end Rows
end Go.Proofs.Ytbldammbkblooaa
