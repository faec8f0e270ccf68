/-
  NARROWER THAN 'FOR EVERY INPUT', by the rows' own cells (each row's printed sentence says how): WiresTell: laid · WiresDrive: laid · WiresSay: laid · WiresSides: laid · WiresNames: laid.
  DERIVED. THE GIVEN ROWS OF THIS SEAT. 5 by the template 'for every input the law returns true; each argument reads behind the call as it read before'; 0 by the template 'total and deterministic' (their statements: YtbhdenjahojbbaaDoorTotals.lean).
  GIVEN WITH THE SEED: the statements are not yours to turn. If you find one false, say at which input.
  Laid BY PROGRAM, IN A SANDBOX (cutbox-rows.mjs): the forced cells as the released guide's own fill.sh prints them over the translation e43eb564d6592964… (all of the seat's roots in one cut). By AI agents, Wed Nov 11 2026. No macro, syntax, notation, axiom, sorry.
-/
import Derived.Test.YtbhdenjahojbbaaDoorChecked
import GoSem.Claim
import GoSem.ClaimJoined
import GoSem.ClaimMapViews
import Derived.JoinedTies
import Derived.KernelRfl
namespace Go.Proofs.YtbhdenjahojbbaaDoor
/- THE CELL 'sum', in the pinned program and in every row, IS THE sha256 OF THE DUMP (.gsa) THAT YtbhdenjahojbbaaDoorProg.lean LOADS. Nothing in Lean hashes anything: it is a label: what it is worth is what the hold of that sum in a sandbox is worth. -/
noncomputable def Tryd.pinned : Pinned := { name := "ytbhdenjahojbbaadoor", sum := "e43eb564d659296452cacbe4f33a93ce70d8edf5782a12209fe540b672d3156c", checked := Tryd.checked }
namespace Rows
def none {H : Type} : Left H := { results := [], args := [] }

/- WHAT THE LISTED PACKAGE-LEVEL VARIABLES READ AS WHEN THE CALL BEGINS. Each datum BY PROGRAM (the guide's laid-datum.mjs) off the statement by which the dump's own 'gosem.cut.vars' lays the variable. In a bare row this is a premise. The card (YtbhdenjahojbbaaDoorCards.lean) ties it to the program's text. -/
def laid_busbar_wires_upright {H : Type} : DataW H := .agg [.lit (.bool true), .lit (.bool false), .lit (.bool false), .lit (.bool true)]
def laid_busbar_wires_names {H : Type} : DataW H := .agg [.lit (.string [97, 120]), .lit (.string [98, 120]), .lit (.string [97, 121]), .lit (.string [98, 121])]

/-- 'busbarlaw03.WiresTell': WHATEVER THE INPUT: true; the input reads as it did. -/
def wiresTellSpec : ChangeSpec := { name := "wiresTell", fn := fun _ => fun
  | [d1, d2, d3] => { results := [.lit (.bool true)], args := [d1, d2, d3] }
  | _ => none }
def wiresTellRow : OpenClaim := { program := "ytbhdenjahojbbaadoor", sum := "e43eb564d659296452cacbe4f33a93ce70d8edf5782a12209fe540b672d3156c", func := "busbar/busbarlaw03.WiresTell", spec := "wiresTell", named := ["busbar/wires.upright"], apart := false, laid := [("busbar/wires.upright", laid_busbar_wires_upright)] }
def WiresTellSaid : Prop := wiresTellRow.holds Tryd.pinned (OpenSpec.ofChange wiresTellSpec)

/-- ITS FALSE NEIGHBOUR: 'it returns false'. Refute it at one input. -/
def wiresTellWrong : ChangeSpec := { name := "wiresTell", fn := fun _ => fun
  | [d1, d2, d3] => { results := [.lit (.bool false)], args := [d1, d2, d3] }
  | _ => none }
def WiresTellWrongFalsely : Prop := wiresTellRow.holds Tryd.pinned (OpenSpec.ofChange wiresTellWrong)

/-- 'busbarlaw03.WiresDrive': WHATEVER THE INPUT: true; the input reads as it did. -/
def wiresDriveSpec : ChangeSpec := { name := "wiresDrive", fn := fun _ => fun
  | [d1, d2, d3] => { results := [.lit (.bool true)], args := [d1, d2, d3] }
  | _ => none }
def wiresDriveRow : OpenClaim := { program := "ytbhdenjahojbbaadoor", sum := "e43eb564d659296452cacbe4f33a93ce70d8edf5782a12209fe540b672d3156c", func := "busbar/busbarlaw03.WiresDrive", spec := "wiresDrive", named := ["busbar/wires.upright"], apart := false, laid := [("busbar/wires.upright", laid_busbar_wires_upright)] }
def WiresDriveSaid : Prop := wiresDriveRow.holds Tryd.pinned (OpenSpec.ofChange wiresDriveSpec)

/-- ITS FALSE NEIGHBOUR: 'it returns false'. Refute it at one input. -/
def wiresDriveWrong : ChangeSpec := { name := "wiresDrive", fn := fun _ => fun
  | [d1, d2, d3] => { results := [.lit (.bool false)], args := [d1, d2, d3] }
  | _ => none }
def WiresDriveWrongFalsely : Prop := wiresDriveRow.holds Tryd.pinned (OpenSpec.ofChange wiresDriveWrong)

/-- 'busbarlaw03.WiresSay': WHATEVER THE INPUT: true; the input reads as it did. -/
def wiresSaySpec : ChangeSpec := { name := "wiresSay", fn := fun _ => fun
  | [d1, d2, d3] => { results := [.lit (.bool true)], args := [d1, d2, d3] }
  | _ => none }
def wiresSayRow : OpenClaim := { program := "ytbhdenjahojbbaadoor", sum := "e43eb564d659296452cacbe4f33a93ce70d8edf5782a12209fe540b672d3156c", func := "busbar/busbarlaw03.WiresSay", spec := "wiresSay", named := ["busbar/wires.upright"], apart := false, laid := [("busbar/wires.upright", laid_busbar_wires_upright)] }
def WiresSaySaid : Prop := wiresSayRow.holds Tryd.pinned (OpenSpec.ofChange wiresSaySpec)

/-- ITS FALSE NEIGHBOUR: 'it returns false'. Refute it at one input. -/
def wiresSayWrong : ChangeSpec := { name := "wiresSay", fn := fun _ => fun
  | [d1, d2, d3] => { results := [.lit (.bool false)], args := [d1, d2, d3] }
  | _ => none }
def WiresSayWrongFalsely : Prop := wiresSayRow.holds Tryd.pinned (OpenSpec.ofChange wiresSayWrong)

/-- 'busbarlaw03.WiresSides': WHATEVER THE INPUT: true; the input reads as it did. -/
def wiresSidesSpec : ChangeSpec := { name := "wiresSides", fn := fun _ => fun
  | [d1, d2] => { results := [.lit (.bool true)], args := [d1, d2] }
  | _ => none }
def wiresSidesRow : OpenClaim := { program := "ytbhdenjahojbbaadoor", sum := "e43eb564d659296452cacbe4f33a93ce70d8edf5782a12209fe540b672d3156c", func := "busbar/busbarlaw03.WiresSides", spec := "wiresSides", named := ["busbar/wires.upright"], apart := false, laid := [("busbar/wires.upright", laid_busbar_wires_upright)] }
def WiresSidesSaid : Prop := wiresSidesRow.holds Tryd.pinned (OpenSpec.ofChange wiresSidesSpec)

/-- ITS FALSE NEIGHBOUR: 'it returns false'. Refute it at one input. -/
def wiresSidesWrong : ChangeSpec := { name := "wiresSides", fn := fun _ => fun
  | [d1, d2] => { results := [.lit (.bool false)], args := [d1, d2] }
  | _ => none }
def WiresSidesWrongFalsely : Prop := wiresSidesRow.holds Tryd.pinned (OpenSpec.ofChange wiresSidesWrong)

/-- 'busbarlaw03.WiresNames': WHATEVER THE INPUT: true; the input reads as it did. -/
def wiresNamesSpec : ChangeSpec := { name := "wiresNames", fn := fun _ => fun
  | [d1, d2, d3] => { results := [.lit (.bool true)], args := [d1, d2, d3] }
  | _ => none }
def wiresNamesRow : OpenClaim := { program := "ytbhdenjahojbbaadoor", sum := "e43eb564d659296452cacbe4f33a93ce70d8edf5782a12209fe540b672d3156c", func := "busbar/busbarlaw03.WiresNames", spec := "wiresNames", named := ["busbar/wires.names", "busbar/wires.upright"], apart := false, laid := [("busbar/wires.upright", laid_busbar_wires_upright), ("busbar/wires.names", laid_busbar_wires_names)] }
def WiresNamesSaid : Prop := wiresNamesRow.holds Tryd.pinned (OpenSpec.ofChange wiresNamesSpec)

/-- ITS FALSE NEIGHBOUR: 'it returns false'. Refute it at one input. -/
def wiresNamesWrong : ChangeSpec := { name := "wiresNames", fn := fun _ => fun
  | [d1, d2, d3] => { results := [.lit (.bool false)], args := [d1, d2, d3] }
  | _ => none }
def WiresNamesWrongFalsely : Prop := wiresNamesRow.holds Tryd.pinned (OpenSpec.ofChange wiresNamesWrong)

/- THE SECOND FORM. 'bulk': how many values and letters a reading holds, each counted each time it is reached (what is shared counts as often as it is met; a slice's spare places count too). A statement '..UptoSaid' is the law's where the arguments, and the package variables that the reading takes, are together of bulk at most 1048576: NARROWER than '..Said'. Prove '..Said' where nothing that the law and all that it calls make is longer than what came in: it says more and counts as full. Else prove '..UptoSaid'. A law counts once. -/
mutual
def uptoBulk {H : Type} : DataW H → Nat
  | .lit (.string bytes) => bytes.length + 1
  | .lit _ => 1
  | .nil => 1
  | .ptr d => uptoBulk d + 1
  | .slice elems spare => uptoBulkAll elems + uptoBulkAll spare + 1
  | .agg parts => uptoBulkAll parts + 1
  | .iface _ d => uptoBulk d + 1
  | .map entries => uptoBulkEntries entries + 1
  | .held _ => 1
def uptoBulkAll {H : Type} : List (DataW H) → Nat
  | [] => 0
  | d :: r => uptoBulk d + uptoBulkAll r
def uptoBulkEntries {H : Type} : List (Lit × DataW H) → Nat
  | [] => 0
  | x :: r => uptoBulkEntry x + uptoBulkEntries r
def uptoBulkEntry {H : Type} : Lit × DataW H → Nat
  | (.string bytes, d) => bytes.length + uptoBulk d + 1
  | (_, d) => uptoBulk d + 1
 end
def uptoSmall : (H : Type) → List (DataW H) → Bool := fun _ ds => decide (uptoBulkAll ds ≤ 1048576)
def OpenSpec.upto (s : _root_.Go.ChangeSpec) : _root_.Go.OpenSpec := { _root_.Go.OpenSpec.ofChange s with cond := some uptoSmall }

/-- 'busbarlaw03.WiresTell', WHERE WHAT IT READS IS OF BULK AT MOST 1048576: true; the input reads as it did. -/
def wiresTellUptoRow : OpenClaim := { program := "ytbhdenjahojbbaadoor", sum := "e43eb564d659296452cacbe4f33a93ce70d8edf5782a12209fe540b672d3156c", func := "busbar/busbarlaw03.WiresTell", spec := "wiresTell", named := ["busbar/wires.upright"], apart := false, laid := [("busbar/wires.upright", laid_busbar_wires_upright)], narrowed := true }
def WiresTellUptoSaid : Prop := wiresTellUptoRow.holds Tryd.pinned (OpenSpec.upto wiresTellSpec)

/-- 'busbarlaw03.WiresDrive', WHERE WHAT IT READS IS OF BULK AT MOST 1048576: true; the input reads as it did. -/
def wiresDriveUptoRow : OpenClaim := { program := "ytbhdenjahojbbaadoor", sum := "e43eb564d659296452cacbe4f33a93ce70d8edf5782a12209fe540b672d3156c", func := "busbar/busbarlaw03.WiresDrive", spec := "wiresDrive", named := ["busbar/wires.upright"], apart := false, laid := [("busbar/wires.upright", laid_busbar_wires_upright)], narrowed := true }
def WiresDriveUptoSaid : Prop := wiresDriveUptoRow.holds Tryd.pinned (OpenSpec.upto wiresDriveSpec)

/-- 'busbarlaw03.WiresSay', WHERE WHAT IT READS IS OF BULK AT MOST 1048576: true; the input reads as it did. -/
def wiresSayUptoRow : OpenClaim := { program := "ytbhdenjahojbbaadoor", sum := "e43eb564d659296452cacbe4f33a93ce70d8edf5782a12209fe540b672d3156c", func := "busbar/busbarlaw03.WiresSay", spec := "wiresSay", named := ["busbar/wires.upright"], apart := false, laid := [("busbar/wires.upright", laid_busbar_wires_upright)], narrowed := true }
def WiresSayUptoSaid : Prop := wiresSayUptoRow.holds Tryd.pinned (OpenSpec.upto wiresSaySpec)

/-- 'busbarlaw03.WiresSides', WHERE WHAT IT READS IS OF BULK AT MOST 1048576: true; the input reads as it did. -/
def wiresSidesUptoRow : OpenClaim := { program := "ytbhdenjahojbbaadoor", sum := "e43eb564d659296452cacbe4f33a93ce70d8edf5782a12209fe540b672d3156c", func := "busbar/busbarlaw03.WiresSides", spec := "wiresSides", named := ["busbar/wires.upright"], apart := false, laid := [("busbar/wires.upright", laid_busbar_wires_upright)], narrowed := true }
def WiresSidesUptoSaid : Prop := wiresSidesUptoRow.holds Tryd.pinned (OpenSpec.upto wiresSidesSpec)

/-- 'busbarlaw03.WiresNames', WHERE WHAT IT READS IS OF BULK AT MOST 1048576: true; the input reads as it did. -/
def wiresNamesUptoRow : OpenClaim := { program := "ytbhdenjahojbbaadoor", sum := "e43eb564d659296452cacbe4f33a93ce70d8edf5782a12209fe540b672d3156c", func := "busbar/busbarlaw03.WiresNames", spec := "wiresNames", named := ["busbar/wires.names", "busbar/wires.upright"], apart := false, laid := [("busbar/wires.upright", laid_busbar_wires_upright), ("busbar/wires.names", laid_busbar_wires_names)], narrowed := true }
def WiresNamesUptoSaid : Prop := wiresNamesUptoRow.holds Tryd.pinned (OpenSpec.upto wiresNamesSpec)

end Rows
end Go.Proofs.YtbhdenjahojbbaaDoor
