/-
  No cell of these rows narrows 'for every input' (looked for: loops, veiled, ifaces, maps, wideKeys, modest, calm, conditions, laid).
  DERIVED. THE GIVEN ROWS OF THIS SEAT. 6 by the template 'for every input the law returns true; each argument reads behind the call as it read before'; 0 by the template 'total and deterministic' (their statements: YtipcfflfgeilhaaTotals.lean).
  GIVEN WITH THE SEED: the statements are not yours to turn. If you find one false, say at which input.
  Laid BY PROGRAM, IN A SANDBOX (cutbox-rows.mjs): the forced cells as the released guide's own fill.sh prints them over the translation bb4fc0b69161bcf1… (all of the seat's roots in one cut). By AI agents, Wed Nov 11 2026. No macro, syntax, notation, axiom, sorry.
-/
import Derived.Test.YtipcfflfgeilhaaChecked
import GoSem.Claim
import GoSem.ClaimJoined
import GoSem.ClaimMapViews
import Derived.JoinedTies
import Derived.KernelRfl
namespace Go.Proofs.Ytipcfflfgeilhaa
/- THE CELL 'sum', in the pinned program and in every row, IS THE sha256 OF THE DUMP (.gsa) THAT YtipcfflfgeilhaaProg.lean LOADS. Nothing in Lean hashes anything: it is a label: what it is worth is what the hold of that sum in a sandbox is worth. -/
noncomputable def Try.pinned : Pinned := { name := "ytipcfflfgeilhaa", sum := "bb4fc0b69161bcf1bfa328995d926b442ff56ae747548e9319287b37c06b0c1f", checked := Try.checked }
namespace Rows
def none {H : Type} : Left H := { results := [], args := [] }

/-- 'busbarlaw07.PlanPulses': WHATEVER THE INPUT: true; the input reads as it did. -/
def planPulsesSpec : ChangeSpec := { name := "planPulses", fn := fun _ => fun
  | [d1, d2] => { results := [.lit (.bool true)], args := [d1, d2] }
  | _ => none }
def planPulsesRow : OpenClaim := { program := "ytipcfflfgeilhaa", sum := "bb4fc0b69161bcf1bfa328995d926b442ff56ae747548e9319287b37c06b0c1f", func := "busbar/busbarlaw07.PlanPulses", spec := "planPulses", unfollowed := true, recurses := true, apart := false }
def PlanPulsesSaid : Prop := planPulsesRow.holds Try.pinned (OpenSpec.ofChange planPulsesSpec)

/-- ITS FALSE NEIGHBOUR: 'it returns false'. Refute it at one input. -/
def planPulsesWrong : ChangeSpec := { name := "planPulses", fn := fun _ => fun
  | [d1, d2] => { results := [.lit (.bool false)], args := [d1, d2] }
  | _ => none }
def PlanPulsesWrongFalsely : Prop := planPulsesRow.holds Try.pinned (OpenSpec.ofChange planPulsesWrong)

/-- 'busbarlaw09.CmdPuts': WHATEVER THE INPUT: true; the input reads as it did. -/
def cmdPutsSpec : ChangeSpec := { name := "cmdPuts", fn := fun _ => fun
  | [d] => { results := [.lit (.bool true)], args := [d] }
  | _ => none }
def cmdPutsRow : OpenClaim := { program := "ytipcfflfgeilhaa", sum := "bb4fc0b69161bcf1bfa328995d926b442ff56ae747548e9319287b37c06b0c1f", func := "busbar/busbarlaw09.CmdPuts", spec := "cmdPuts", unfollowed := true, recurses := true, apart := false }
def CmdPutsSaid : Prop := cmdPutsRow.holds Try.pinned (OpenSpec.ofChange cmdPutsSpec)

/-- ITS FALSE NEIGHBOUR: 'it returns false'. Refute it at one input. -/
def cmdPutsWrong : ChangeSpec := { name := "cmdPuts", fn := fun _ => fun
  | [d] => { results := [.lit (.bool false)], args := [d] }
  | _ => none }
def CmdPutsWrongFalsely : Prop := cmdPutsRow.holds Try.pinned (OpenSpec.ofChange cmdPutsWrong)

/-- 'busbarlaw09.CmdReads': WHATEVER THE INPUT: true; the input reads as it did. -/
def cmdReadsSpec : ChangeSpec := { name := "cmdReads", fn := fun _ => fun
  | [d1, d2] => { results := [.lit (.bool true)], args := [d1, d2] }
  | _ => none }
def cmdReadsRow : OpenClaim := { program := "ytipcfflfgeilhaa", sum := "bb4fc0b69161bcf1bfa328995d926b442ff56ae747548e9319287b37c06b0c1f", func := "busbar/busbarlaw09.CmdReads", spec := "cmdReads", unfollowed := true, recurses := true, apart := false }
def CmdReadsSaid : Prop := cmdReadsRow.holds Try.pinned (OpenSpec.ofChange cmdReadsSpec)

/-- ITS FALSE NEIGHBOUR: 'it returns false'. Refute it at one input. -/
def cmdReadsWrong : ChangeSpec := { name := "cmdReads", fn := fun _ => fun
  | [d1, d2] => { results := [.lit (.bool false)], args := [d1, d2] }
  | _ => none }
def CmdReadsWrongFalsely : Prop := cmdReadsRow.holds Try.pinned (OpenSpec.ofChange cmdReadsWrong)

/-- 'busbarlaw09.CmdBack': WHATEVER THE INPUT: true; the input reads as it did. -/
def cmdBackSpec : ChangeSpec := { name := "cmdBack", fn := fun _ => fun
  | [d1, d2, d3] => { results := [.lit (.bool true)], args := [d1, d2, d3] }
  | _ => none }
def cmdBackRow : OpenClaim := { program := "ytipcfflfgeilhaa", sum := "bb4fc0b69161bcf1bfa328995d926b442ff56ae747548e9319287b37c06b0c1f", func := "busbar/busbarlaw09.CmdBack", spec := "cmdBack", unfollowed := true, recurses := true, apart := false }
def CmdBackSaid : Prop := cmdBackRow.holds Try.pinned (OpenSpec.ofChange cmdBackSpec)

/-- ITS FALSE NEIGHBOUR: 'it returns false'. Refute it at one input. -/
def cmdBackWrong : ChangeSpec := { name := "cmdBack", fn := fun _ => fun
  | [d1, d2, d3] => { results := [.lit (.bool false)], args := [d1, d2, d3] }
  | _ => none }
def CmdBackWrongFalsely : Prop := cmdBackRow.holds Try.pinned (OpenSpec.ofChange cmdBackWrong)

/-- 'busbarlaw09.CmdRow': WHATEVER THE INPUT: true; the input reads as it did. -/
def cmdRowSpec : ChangeSpec := { name := "cmdRow", fn := fun _ => fun
  | [d] => { results := [.lit (.bool true)], args := [d] }
  | _ => none }
def cmdRowRow : OpenClaim := { program := "ytipcfflfgeilhaa", sum := "bb4fc0b69161bcf1bfa328995d926b442ff56ae747548e9319287b37c06b0c1f", func := "busbar/busbarlaw09.CmdRow", spec := "cmdRow", unfollowed := true, recurses := true, apart := false }
def CmdRowSaid : Prop := cmdRowRow.holds Try.pinned (OpenSpec.ofChange cmdRowSpec)

/-- ITS FALSE NEIGHBOUR: 'it returns false'. Refute it at one input. -/
def cmdRowWrong : ChangeSpec := { name := "cmdRow", fn := fun _ => fun
  | [d] => { results := [.lit (.bool false)], args := [d] }
  | _ => none }
def CmdRowWrongFalsely : Prop := cmdRowRow.holds Try.pinned (OpenSpec.ofChange cmdRowWrong)

/-- 'busbarlaw17.ActiveNobody': WHATEVER THE INPUT: true; the input reads as it did. -/
def activeNobodySpec : ChangeSpec := { name := "activeNobody", fn := fun _ => fun
  | [d1, d2] => { results := [.lit (.bool true)], args := [d1, d2] }
  | _ => none }
def activeNobodyRow : OpenClaim := { program := "ytipcfflfgeilhaa", sum := "bb4fc0b69161bcf1bfa328995d926b442ff56ae747548e9319287b37c06b0c1f", func := "busbar/busbarlaw17.ActiveNobody", spec := "activeNobody", unfollowed := true, recurses := true, apart := false }
def ActiveNobodySaid : Prop := activeNobodyRow.holds Try.pinned (OpenSpec.ofChange activeNobodySpec)

/-- ITS FALSE NEIGHBOUR: 'it returns false'. Refute it at one input. -/
def activeNobodyWrong : ChangeSpec := { name := "activeNobody", fn := fun _ => fun
  | [d1, d2] => { results := [.lit (.bool false)], args := [d1, d2] }
  | _ => none }
def ActiveNobodyWrongFalsely : Prop := activeNobodyRow.holds Try.pinned (OpenSpec.ofChange activeNobodyWrong)

/- THE SECOND FORM. 'bulk': how many values and letters a reading holds, each counted each time it is reached (what is shared counts as often as it is met; a slice's spare places count too). A statement '..UptoSaid' is the law's where the arguments, and the package variables that the reading takes, are together of bulk at most 1048576: NARROWER than '..Said'. Prove '..Said' where nothing that the law and all that it calls make is longer than what came in: it says more and counts as full. Else prove '..UptoSaid'. A law counts once. -/
mutual
def uptoBulk {H : Type} : DataW H → Nat
  | .lit (.string bytes) => bytes.length + 1
  | .lit _ => 1
  | .nil => 1
  | .ptr d => uptoBulk d + 1
  | .slice elems spare => uptoBulkAll elems + uptoBulkAll spare + 1
  | .agg parts => uptoBulkAll parts + 1
  | .iface _ d => uptoBulk d + 1
  | .map entries => uptoBulkEntries entries + 1
  | .held _ => 1
def uptoBulkAll {H : Type} : List (DataW H) → Nat
  | [] => 0
  | d :: r => uptoBulk d + uptoBulkAll r
def uptoBulkEntries {H : Type} : List (Lit × DataW H) → Nat
  | [] => 0
  | x :: r => uptoBulkEntry x + uptoBulkEntries r
def uptoBulkEntry {H : Type} : Lit × DataW H → Nat
  | (.string bytes, d) => bytes.length + uptoBulk d + 1
  | (_, d) => uptoBulk d + 1
 end
def uptoSmall : (H : Type) → List (DataW H) → Bool := fun _ ds => decide (uptoBulkAll ds ≤ 1048576)
def OpenSpec.upto (s : _root_.Go.ChangeSpec) : _root_.Go.OpenSpec := { _root_.Go.OpenSpec.ofChange s with cond := some uptoSmall }

/-- 'busbarlaw07.PlanPulses', WHERE WHAT IT READS IS OF BULK AT MOST 1048576: true; the input reads as it did. -/
def planPulsesUptoRow : OpenClaim := { program := "ytipcfflfgeilhaa", sum := "bb4fc0b69161bcf1bfa328995d926b442ff56ae747548e9319287b37c06b0c1f", func := "busbar/busbarlaw07.PlanPulses", spec := "planPulses", unfollowed := true, recurses := true, apart := false, narrowed := true }
def PlanPulsesUptoSaid : Prop := planPulsesUptoRow.holds Try.pinned (OpenSpec.upto planPulsesSpec)

/-- 'busbarlaw09.CmdPuts', WHERE WHAT IT READS IS OF BULK AT MOST 1048576: true; the input reads as it did. -/
def cmdPutsUptoRow : OpenClaim := { program := "ytipcfflfgeilhaa", sum := "bb4fc0b69161bcf1bfa328995d926b442ff56ae747548e9319287b37c06b0c1f", func := "busbar/busbarlaw09.CmdPuts", spec := "cmdPuts", unfollowed := true, recurses := true, apart := false, narrowed := true }
def CmdPutsUptoSaid : Prop := cmdPutsUptoRow.holds Try.pinned (OpenSpec.upto cmdPutsSpec)

/-- 'busbarlaw09.CmdReads', WHERE WHAT IT READS IS OF BULK AT MOST 1048576: true; the input reads as it did. -/
def cmdReadsUptoRow : OpenClaim := { program := "ytipcfflfgeilhaa", sum := "bb4fc0b69161bcf1bfa328995d926b442ff56ae747548e9319287b37c06b0c1f", func := "busbar/busbarlaw09.CmdReads", spec := "cmdReads", unfollowed := true, recurses := true, apart := false, narrowed := true }
def CmdReadsUptoSaid : Prop := cmdReadsUptoRow.holds Try.pinned (OpenSpec.upto cmdReadsSpec)

/-- 'busbarlaw09.CmdBack', WHERE WHAT IT READS IS OF BULK AT MOST 1048576: true; the input reads as it did. -/
def cmdBackUptoRow : OpenClaim := { program := "ytipcfflfgeilhaa", sum := "bb4fc0b69161bcf1bfa328995d926b442ff56ae747548e9319287b37c06b0c1f", func := "busbar/busbarlaw09.CmdBack", spec := "cmdBack", unfollowed := true, recurses := true, apart := false, narrowed := true }
def CmdBackUptoSaid : Prop := cmdBackUptoRow.holds Try.pinned (OpenSpec.upto cmdBackSpec)

/-- 'busbarlaw09.CmdRow', WHERE WHAT IT READS IS OF BULK AT MOST 1048576: true; the input reads as it did. -/
def cmdRowUptoRow : OpenClaim := { program := "ytipcfflfgeilhaa", sum := "bb4fc0b69161bcf1bfa328995d926b442ff56ae747548e9319287b37c06b0c1f", func := "busbar/busbarlaw09.CmdRow", spec := "cmdRow", unfollowed := true, recurses := true, apart := false, narrowed := true }
def CmdRowUptoSaid : Prop := cmdRowUptoRow.holds Try.pinned (OpenSpec.upto cmdRowSpec)

/-- 'busbarlaw17.ActiveNobody', WHERE WHAT IT READS IS OF BULK AT MOST 1048576: true; the input reads as it did. -/
def activeNobodyUptoRow : OpenClaim := { program := "ytipcfflfgeilhaa", sum := "bb4fc0b69161bcf1bfa328995d926b442ff56ae747548e9319287b37c06b0c1f", func := "busbar/busbarlaw17.ActiveNobody", spec := "activeNobody", unfollowed := true, recurses := true, apart := false, narrowed := true }
def ActiveNobodyUptoSaid : Prop := activeNobodyUptoRow.holds Try.pinned (OpenSpec.upto activeNobodySpec)

end Rows
end Go.Proofs.Ytipcfflfgeilhaa
