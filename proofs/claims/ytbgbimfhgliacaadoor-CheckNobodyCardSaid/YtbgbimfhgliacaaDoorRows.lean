/-
  NARROWER THAN 'FOR EVERY INPUT', by the rows' own cells (each row's printed sentence says how): ShiftNobody: laid · CheckNobody: laid.
  DERIVED. THE GIVEN ROWS OF THIS SEAT. 2 by the template 'for every input the law returns true; each argument reads behind the call as it read before'; 0 by the template 'total and deterministic' (their statements: YtbgbimfhgliacaaDoorTotals.lean).
  GIVEN WITH THE SEED: the statements are not yours to turn. If you find one false, say at which input.
  Laid BY PROGRAM, IN A SANDBOX (cutbox-rows.mjs): the forced cells as the released guide's own fill.sh prints them over the translation bd2661762cefe06b… (all of the seat's roots in one cut). By AI agents, Wed Nov 11 2026. No macro, syntax, notation, axiom, sorry.
-/
import Derived.Test.YtbgbimfhgliacaaDoorChecked
import GoSem.Claim
import GoSem.ClaimJoined
import GoSem.ClaimMapViews
import Derived.JoinedTies
import Derived.KernelRfl
namespace Go.Proofs.YtbgbimfhgliacaaDoor
/- THE CELL 'sum', in the pinned program and in every row, IS THE sha256 OF THE DUMP (.gsa) THAT YtbgbimfhgliacaaDoorProg.lean LOADS. Nothing in Lean hashes anything: it is a label: what it is worth is what the hold of that sum in a sandbox is worth. -/
noncomputable def Tryd.pinned : Pinned := { name := "ytbgbimfhgliacaadoor", sum := "bd2661762cefe06be0a2c643192e60d9fd503e3816ed81ed732ce2c040c5362d", checked := Tryd.checked }
namespace Rows
def none {H : Type} : Left H := { results := [], args := [] }

/- WHAT THE LISTED PACKAGE-LEVEL VARIABLES READ AS WHEN THE CALL BEGINS. Each datum BY PROGRAM (the guide's laid-datum.mjs) off the statement by which the dump's own 'gosem.cut.vars' lays the variable. In a bare row this is a premise. The card (YtbgbimfhgliacaaDoorCards.lean) ties it to the program's text. -/
def laid_busbar_wires_upright {H : Type} : DataW H := .agg [.lit (.bool true), .lit (.bool false), .lit (.bool false), .lit (.bool true)]

/-- 'busbarlaw15.ShiftNobody': WHATEVER THE INPUT: true; the input reads as it did. -/
def shiftNobodySpec : ChangeSpec := { name := "shiftNobody", fn := fun _ => fun
  | [d1, d2] => { results := [.lit (.bool true)], args := [d1, d2] }
  | _ => none }
def shiftNobodyRow : OpenClaim := { program := "ytbgbimfhgliacaadoor", sum := "bd2661762cefe06be0a2c643192e60d9fd503e3816ed81ed732ce2c040c5362d", func := "busbar/busbarlaw15.ShiftNobody", spec := "shiftNobody", named := ["busbar/wires.upright"], apart := false, laid := [("busbar/wires.upright", laid_busbar_wires_upright)] }
def ShiftNobodySaid : Prop := shiftNobodyRow.holds Tryd.pinned (OpenSpec.ofChange shiftNobodySpec)

/-- ITS FALSE NEIGHBOUR: 'it returns false'. Refute it at one input. -/
def shiftNobodyWrong : ChangeSpec := { name := "shiftNobody", fn := fun _ => fun
  | [d1, d2] => { results := [.lit (.bool false)], args := [d1, d2] }
  | _ => none }
def ShiftNobodyWrongFalsely : Prop := shiftNobodyRow.holds Tryd.pinned (OpenSpec.ofChange shiftNobodyWrong)

/-- 'busbarlaw19.CheckNobody': WHATEVER THE INPUT: true; the input reads as it did. -/
def checkNobodySpec : ChangeSpec := { name := "checkNobody", fn := fun _ => fun
  | [d1, d2, d3] => { results := [.lit (.bool true)], args := [d1, d2, d3] }
  | _ => none }
def checkNobodyRow : OpenClaim := { program := "ytbgbimfhgliacaadoor", sum := "bd2661762cefe06be0a2c643192e60d9fd503e3816ed81ed732ce2c040c5362d", func := "busbar/busbarlaw19.CheckNobody", spec := "checkNobody", named := ["busbar/wires.upright"], apart := false, laid := [("busbar/wires.upright", laid_busbar_wires_upright)] }
def CheckNobodySaid : Prop := checkNobodyRow.holds Tryd.pinned (OpenSpec.ofChange checkNobodySpec)

/-- ITS FALSE NEIGHBOUR: 'it returns false'. Refute it at one input. -/
def checkNobodyWrong : ChangeSpec := { name := "checkNobody", fn := fun _ => fun
  | [d1, d2, d3] => { results := [.lit (.bool false)], args := [d1, d2, d3] }
  | _ => none }
def CheckNobodyWrongFalsely : Prop := checkNobodyRow.holds Tryd.pinned (OpenSpec.ofChange checkNobodyWrong)

/- THE SECOND FORM. 'bulk': how many values and letters a reading holds, each counted each time it is reached (what is shared counts as often as it is met; a slice's spare places count too). A statement '..UptoSaid' is the law's where the arguments, and the package variables that the reading takes, are together of bulk at most 1048576: NARROWER than '..Said'. Prove '..Said' where nothing that the law and all that it calls make is longer than what came in: it says more and counts as full. Else prove '..UptoSaid'. A law counts once. -/
mutual
def uptoBulk {H : Type} : DataW H → Nat
  | .lit (.string bytes) => bytes.length + 1
  | .lit _ => 1
  | .nil => 1
  | .ptr d => uptoBulk d + 1
  | .slice elems spare => uptoBulkAll elems + uptoBulkAll spare + 1
  | .agg parts => uptoBulkAll parts + 1
  | .iface _ d => uptoBulk d + 1
  | .map entries => uptoBulkEntries entries + 1
  | .held _ => 1
def uptoBulkAll {H : Type} : List (DataW H) → Nat
  | [] => 0
  | d :: r => uptoBulk d + uptoBulkAll r
def uptoBulkEntries {H : Type} : List (Lit × DataW H) → Nat
  | [] => 0
  | x :: r => uptoBulkEntry x + uptoBulkEntries r
def uptoBulkEntry {H : Type} : Lit × DataW H → Nat
  | (.string bytes, d) => bytes.length + uptoBulk d + 1
  | (_, d) => uptoBulk d + 1
 end
def uptoSmall : (H : Type) → List (DataW H) → Bool := fun _ ds => decide (uptoBulkAll ds ≤ 1048576)
def OpenSpec.upto (s : _root_.Go.ChangeSpec) : _root_.Go.OpenSpec := { _root_.Go.OpenSpec.ofChange s with cond := some uptoSmall }

/-- 'busbarlaw15.ShiftNobody', WHERE WHAT IT READS IS OF BULK AT MOST 1048576: true; the input reads as it did. -/
def shiftNobodyUptoRow : OpenClaim := { program := "ytbgbimfhgliacaadoor", sum := "bd2661762cefe06be0a2c643192e60d9fd503e3816ed81ed732ce2c040c5362d", func := "busbar/busbarlaw15.ShiftNobody", spec := "shiftNobody", named := ["busbar/wires.upright"], apart := false, laid := [("busbar/wires.upright", laid_busbar_wires_upright)], narrowed := true }
def ShiftNobodyUptoSaid : Prop := shiftNobodyUptoRow.holds Tryd.pinned (OpenSpec.upto shiftNobodySpec)

/-- 'busbarlaw19.CheckNobody', WHERE WHAT IT READS IS OF BULK AT MOST 1048576: true; the input reads as it did. -/
def checkNobodyUptoRow : OpenClaim := { program := "ytbgbimfhgliacaadoor", sum := "bd2661762cefe06be0a2c643192e60d9fd503e3816ed81ed732ce2c040c5362d", func := "busbar/busbarlaw19.CheckNobody", spec := "checkNobody", named := ["busbar/wires.upright"], apart := false, laid := [("busbar/wires.upright", laid_busbar_wires_upright)], narrowed := true }
def CheckNobodyUptoSaid : Prop := checkNobodyUptoRow.holds Tryd.pinned (OpenSpec.upto checkNobodySpec)

end Rows
end Go.Proofs.YtbgbimfhgliacaaDoor
