/-
  NARROWER THAN 'FOR EVERY INPUT', by the rows' own cells (each row's printed sentence says how): SerialWhole: laid · SerialOthers: laid · ShiftSent: laid · MajorReads: laid · ActiveTells: laid · GateTells: laid · GateLets: laid · GateHolds: laid · CheckSees: laid · CheckFinds: laid.
  DERIVED. THE GIVEN ROWS OF THIS SEAT. 10 by the template 'for every input the law returns true; each argument reads behind the call as it read before'; 0 by the template 'total and deterministic' (their statements: YtnbcegijncdmaaaDoorTotals.lean).
  GIVEN WITH THE SEED: the statements are not yours to turn. If you find one false, say at which input.
  Laid BY PROGRAM, IN A SANDBOX (cutbox-rows.mjs): the forced cells as the released guide's own fill.sh prints them over the translation e9f78e4000b0eb4c… (all of the seat's roots in one cut). By AI agents, Wed Nov 11 2026. No macro, syntax, notation, axiom, sorry.
-/
import Derived.Test.YtnbcegijncdmaaaDoorChecked
import GoSem.Claim
import GoSem.ClaimJoined
import GoSem.ClaimMapViews
import Derived.JoinedTies
import Derived.KernelRfl
namespace Go.Proofs.YtnbcegijncdmaaaDoor
/- THE CELL 'sum', in the pinned program and in every row, IS THE sha256 OF THE DUMP (.gsa) THAT YtnbcegijncdmaaaDoorProg.lean LOADS. Nothing in Lean hashes anything: it is a label: what it is worth is what the hold of that sum in a sandbox is worth. -/
noncomputable def Tryd.pinned : Pinned := { name := "ytnbcegijncdmaaadoor", sum := "e9f78e4000b0eb4c83a5bb7219521f146c5a7159cd62ffa8dc1cacb36e8543d8", checked := Tryd.checked }
namespace Rows
def none {H : Type} : Left H := { results := [], args := [] }

/- WHAT THE LISTED PACKAGE-LEVEL VARIABLES READ AS WHEN THE CALL BEGINS. Each datum BY PROGRAM (the guide's laid-datum.mjs) off the statement by which the dump's own 'gosem.cut.vars' lays the variable. In a bare row this is a premise. The card (YtnbcegijncdmaaaDoorCards.lean) ties it to the program's text. -/
def laid_busbar_wires_upright {H : Type} : DataW H := .agg [.lit (.bool true), .lit (.bool false), .lit (.bool false), .lit (.bool true)]

/-- 'busbarlaw14.SerialWhole': WHATEVER THE INPUT: true; the input reads as it did. -/
def serialWholeSpec : ChangeSpec := { name := "serialWhole", fn := fun _ => fun
  | [d1, d2, d3] => { results := [.lit (.bool true)], args := [d1, d2, d3] }
  | _ => none }
def serialWholeRow : OpenClaim := { program := "ytnbcegijncdmaaadoor", sum := "e9f78e4000b0eb4c83a5bb7219521f146c5a7159cd62ffa8dc1cacb36e8543d8", func := "busbar/busbarlaw14.SerialWhole", spec := "serialWhole", unfollowed := true, recurses := true, named := ["busbar/wires.upright"], apart := false, laid := [("busbar/wires.upright", laid_busbar_wires_upright)] }
def SerialWholeSaid : Prop := serialWholeRow.holds Tryd.pinned (OpenSpec.ofChange serialWholeSpec)

/-- ITS FALSE NEIGHBOUR: 'it returns false'. Refute it at one input. -/
def serialWholeWrong : ChangeSpec := { name := "serialWhole", fn := fun _ => fun
  | [d1, d2, d3] => { results := [.lit (.bool false)], args := [d1, d2, d3] }
  | _ => none }
def SerialWholeWrongFalsely : Prop := serialWholeRow.holds Tryd.pinned (OpenSpec.ofChange serialWholeWrong)

/-- 'busbarlaw14.SerialOthers': WHATEVER THE INPUT: true; the input reads as it did. -/
def serialOthersSpec : ChangeSpec := { name := "serialOthers", fn := fun _ => fun
  | [d1, d2] => { results := [.lit (.bool true)], args := [d1, d2] }
  | _ => none }
def serialOthersRow : OpenClaim := { program := "ytnbcegijncdmaaadoor", sum := "e9f78e4000b0eb4c83a5bb7219521f146c5a7159cd62ffa8dc1cacb36e8543d8", func := "busbar/busbarlaw14.SerialOthers", spec := "serialOthers", named := ["busbar/wires.upright"], apart := false, laid := [("busbar/wires.upright", laid_busbar_wires_upright)] }
def SerialOthersSaid : Prop := serialOthersRow.holds Tryd.pinned (OpenSpec.ofChange serialOthersSpec)

/-- ITS FALSE NEIGHBOUR: 'it returns false'. Refute it at one input. -/
def serialOthersWrong : ChangeSpec := { name := "serialOthers", fn := fun _ => fun
  | [d1, d2] => { results := [.lit (.bool false)], args := [d1, d2] }
  | _ => none }
def SerialOthersWrongFalsely : Prop := serialOthersRow.holds Tryd.pinned (OpenSpec.ofChange serialOthersWrong)

/-- 'busbarlaw15.ShiftSent': WHATEVER THE INPUT: true; the input reads as it did. -/
def shiftSentSpec : ChangeSpec := { name := "shiftSent", fn := fun _ => fun
  | [d1, d2, d3] => { results := [.lit (.bool true)], args := [d1, d2, d3] }
  | _ => none }
def shiftSentRow : OpenClaim := { program := "ytnbcegijncdmaaadoor", sum := "e9f78e4000b0eb4c83a5bb7219521f146c5a7159cd62ffa8dc1cacb36e8543d8", func := "busbar/busbarlaw15.ShiftSent", spec := "shiftSent", named := ["busbar/wires.upright"], apart := false, laid := [("busbar/wires.upright", laid_busbar_wires_upright)] }
def ShiftSentSaid : Prop := shiftSentRow.holds Tryd.pinned (OpenSpec.ofChange shiftSentSpec)

/-- ITS FALSE NEIGHBOUR: 'it returns false'. Refute it at one input. -/
def shiftSentWrong : ChangeSpec := { name := "shiftSent", fn := fun _ => fun
  | [d1, d2, d3] => { results := [.lit (.bool false)], args := [d1, d2, d3] }
  | _ => none }
def ShiftSentWrongFalsely : Prop := shiftSentRow.holds Tryd.pinned (OpenSpec.ofChange shiftSentWrong)

/-- 'busbarlaw16.MajorReads': WHATEVER THE INPUT: true; the input reads as it did. -/
def majorReadsSpec : ChangeSpec := { name := "majorReads", fn := fun _ => fun
  | [d1, d2] => { results := [.lit (.bool true)], args := [d1, d2] }
  | _ => none }
def majorReadsRow : OpenClaim := { program := "ytnbcegijncdmaaadoor", sum := "e9f78e4000b0eb4c83a5bb7219521f146c5a7159cd62ffa8dc1cacb36e8543d8", func := "busbar/busbarlaw16.MajorReads", spec := "majorReads", named := ["busbar/wires.upright"], apart := false, laid := [("busbar/wires.upright", laid_busbar_wires_upright)] }
def MajorReadsSaid : Prop := majorReadsRow.holds Tryd.pinned (OpenSpec.ofChange majorReadsSpec)

/-- ITS FALSE NEIGHBOUR: 'it returns false'. Refute it at one input. -/
def majorReadsWrong : ChangeSpec := { name := "majorReads", fn := fun _ => fun
  | [d1, d2] => { results := [.lit (.bool false)], args := [d1, d2] }
  | _ => none }
def MajorReadsWrongFalsely : Prop := majorReadsRow.holds Tryd.pinned (OpenSpec.ofChange majorReadsWrong)

/-- 'busbarlaw17.ActiveTells': WHATEVER THE INPUT: true; the input reads as it did. -/
def activeTellsSpec : ChangeSpec := { name := "activeTells", fn := fun _ => fun
  | [d1, d2, d3] => { results := [.lit (.bool true)], args := [d1, d2, d3] }
  | _ => none }
def activeTellsRow : OpenClaim := { program := "ytnbcegijncdmaaadoor", sum := "e9f78e4000b0eb4c83a5bb7219521f146c5a7159cd62ffa8dc1cacb36e8543d8", func := "busbar/busbarlaw17.ActiveTells", spec := "activeTells", unfollowed := true, recurses := true, named := ["busbar/wires.upright"], apart := false, laid := [("busbar/wires.upright", laid_busbar_wires_upright)] }
def ActiveTellsSaid : Prop := activeTellsRow.holds Tryd.pinned (OpenSpec.ofChange activeTellsSpec)

/-- ITS FALSE NEIGHBOUR: 'it returns false'. Refute it at one input. -/
def activeTellsWrong : ChangeSpec := { name := "activeTells", fn := fun _ => fun
  | [d1, d2, d3] => { results := [.lit (.bool false)], args := [d1, d2, d3] }
  | _ => none }
def ActiveTellsWrongFalsely : Prop := activeTellsRow.holds Tryd.pinned (OpenSpec.ofChange activeTellsWrong)

/-- 'busbarlaw18.GateTells': WHATEVER THE INPUT: true; the input reads as it did. -/
def gateTellsSpec : ChangeSpec := { name := "gateTells", fn := fun _ => fun
  | [d1, d2, d3] => { results := [.lit (.bool true)], args := [d1, d2, d3] }
  | _ => none }
def gateTellsRow : OpenClaim := { program := "ytnbcegijncdmaaadoor", sum := "e9f78e4000b0eb4c83a5bb7219521f146c5a7159cd62ffa8dc1cacb36e8543d8", func := "busbar/busbarlaw18.GateTells", spec := "gateTells", unfollowed := true, recurses := true, named := ["busbar/wires.upright"], apart := false, laid := [("busbar/wires.upright", laid_busbar_wires_upright)] }
def GateTellsSaid : Prop := gateTellsRow.holds Tryd.pinned (OpenSpec.ofChange gateTellsSpec)

/-- ITS FALSE NEIGHBOUR: 'it returns false'. Refute it at one input. -/
def gateTellsWrong : ChangeSpec := { name := "gateTells", fn := fun _ => fun
  | [d1, d2, d3] => { results := [.lit (.bool false)], args := [d1, d2, d3] }
  | _ => none }
def GateTellsWrongFalsely : Prop := gateTellsRow.holds Tryd.pinned (OpenSpec.ofChange gateTellsWrong)

/-- 'busbarlaw18.GateLets': WHATEVER THE INPUT: true; the input reads as it did. -/
def gateLetsSpec : ChangeSpec := { name := "gateLets", fn := fun _ => fun
  | [d1, d2, d3] => { results := [.lit (.bool true)], args := [d1, d2, d3] }
  | _ => none }
def gateLetsRow : OpenClaim := { program := "ytnbcegijncdmaaadoor", sum := "e9f78e4000b0eb4c83a5bb7219521f146c5a7159cd62ffa8dc1cacb36e8543d8", func := "busbar/busbarlaw18.GateLets", spec := "gateLets", unfollowed := true, recurses := true, named := ["busbar/wires.upright"], apart := false, laid := [("busbar/wires.upright", laid_busbar_wires_upright)] }
def GateLetsSaid : Prop := gateLetsRow.holds Tryd.pinned (OpenSpec.ofChange gateLetsSpec)

/-- ITS FALSE NEIGHBOUR: 'it returns false'. Refute it at one input. -/
def gateLetsWrong : ChangeSpec := { name := "gateLets", fn := fun _ => fun
  | [d1, d2, d3] => { results := [.lit (.bool false)], args := [d1, d2, d3] }
  | _ => none }
def GateLetsWrongFalsely : Prop := gateLetsRow.holds Tryd.pinned (OpenSpec.ofChange gateLetsWrong)

/-- 'busbarlaw18.GateHolds': WHATEVER THE INPUT: true; the input reads as it did. -/
def gateHoldsSpec : ChangeSpec := { name := "gateHolds", fn := fun _ => fun
  | [d1, d2, d3] => { results := [.lit (.bool true)], args := [d1, d2, d3] }
  | _ => none }
def gateHoldsRow : OpenClaim := { program := "ytnbcegijncdmaaadoor", sum := "e9f78e4000b0eb4c83a5bb7219521f146c5a7159cd62ffa8dc1cacb36e8543d8", func := "busbar/busbarlaw18.GateHolds", spec := "gateHolds", unfollowed := true, recurses := true, named := ["busbar/wires.upright"], apart := false, laid := [("busbar/wires.upright", laid_busbar_wires_upright)] }
def GateHoldsSaid : Prop := gateHoldsRow.holds Tryd.pinned (OpenSpec.ofChange gateHoldsSpec)

/-- ITS FALSE NEIGHBOUR: 'it returns false'. Refute it at one input. -/
def gateHoldsWrong : ChangeSpec := { name := "gateHolds", fn := fun _ => fun
  | [d1, d2, d3] => { results := [.lit (.bool false)], args := [d1, d2, d3] }
  | _ => none }
def GateHoldsWrongFalsely : Prop := gateHoldsRow.holds Tryd.pinned (OpenSpec.ofChange gateHoldsWrong)

/-- 'busbarlaw19.CheckSees': WHATEVER THE INPUT: true; the input reads as it did. -/
def checkSeesSpec : ChangeSpec := { name := "checkSees", fn := fun _ => fun
  | [d1, d2, d3] => { results := [.lit (.bool true)], args := [d1, d2, d3] }
  | _ => none }
def checkSeesRow : OpenClaim := { program := "ytnbcegijncdmaaadoor", sum := "e9f78e4000b0eb4c83a5bb7219521f146c5a7159cd62ffa8dc1cacb36e8543d8", func := "busbar/busbarlaw19.CheckSees", spec := "checkSees", named := ["busbar/wires.upright"], apart := false, laid := [("busbar/wires.upright", laid_busbar_wires_upright)] }
def CheckSeesSaid : Prop := checkSeesRow.holds Tryd.pinned (OpenSpec.ofChange checkSeesSpec)

/-- ITS FALSE NEIGHBOUR: 'it returns false'. Refute it at one input. -/
def checkSeesWrong : ChangeSpec := { name := "checkSees", fn := fun _ => fun
  | [d1, d2, d3] => { results := [.lit (.bool false)], args := [d1, d2, d3] }
  | _ => none }
def CheckSeesWrongFalsely : Prop := checkSeesRow.holds Tryd.pinned (OpenSpec.ofChange checkSeesWrong)

/-- 'busbarlaw19.CheckFinds': WHATEVER THE INPUT: true; the input reads as it did. -/
def checkFindsSpec : ChangeSpec := { name := "checkFinds", fn := fun _ => fun
  | [d1, d2, d3] => { results := [.lit (.bool true)], args := [d1, d2, d3] }
  | _ => none }
def checkFindsRow : OpenClaim := { program := "ytnbcegijncdmaaadoor", sum := "e9f78e4000b0eb4c83a5bb7219521f146c5a7159cd62ffa8dc1cacb36e8543d8", func := "busbar/busbarlaw19.CheckFinds", spec := "checkFinds", named := ["busbar/wires.upright"], apart := false, laid := [("busbar/wires.upright", laid_busbar_wires_upright)] }
def CheckFindsSaid : Prop := checkFindsRow.holds Tryd.pinned (OpenSpec.ofChange checkFindsSpec)

/-- ITS FALSE NEIGHBOUR: 'it returns false'. Refute it at one input. -/
def checkFindsWrong : ChangeSpec := { name := "checkFinds", fn := fun _ => fun
  | [d1, d2, d3] => { results := [.lit (.bool false)], args := [d1, d2, d3] }
  | _ => none }
def CheckFindsWrongFalsely : Prop := checkFindsRow.holds Tryd.pinned (OpenSpec.ofChange checkFindsWrong)

/- THE SECOND FORM. 'bulk': how many values and letters a reading holds, each counted each time it is reached (what is shared counts as often as it is met; a slice's spare places count too). A statement '..UptoSaid' is the law's where the arguments, and the package variables that the reading takes, are together of bulk at most 1048576: NARROWER than '..Said'. Prove '..Said' where nothing that the law and all that it calls make is longer than what came in: it says more and counts as full. Else prove '..UptoSaid'. A law counts once. -/
mutual
def uptoBulk {H : Type} : DataW H → Nat
  | .lit (.string bytes) => bytes.length + 1
  | .lit _ => 1
  | .nil => 1
  | .ptr d => uptoBulk d + 1
  | .slice elems spare => uptoBulkAll elems + uptoBulkAll spare + 1
  | .agg parts => uptoBulkAll parts + 1
  | .iface _ d => uptoBulk d + 1
  | .map entries => uptoBulkEntries entries + 1
  | .held _ => 1
def uptoBulkAll {H : Type} : List (DataW H) → Nat
  | [] => 0
  | d :: r => uptoBulk d + uptoBulkAll r
def uptoBulkEntries {H : Type} : List (Lit × DataW H) → Nat
  | [] => 0
  | x :: r => uptoBulkEntry x + uptoBulkEntries r
def uptoBulkEntry {H : Type} : Lit × DataW H → Nat
  | (.string bytes, d) => bytes.length + uptoBulk d + 1
  | (_, d) => uptoBulk d + 1
 end
def uptoSmall : (H : Type) → List (DataW H) → Bool := fun _ ds => decide (uptoBulkAll ds ≤ 1048576)
def OpenSpec.upto (s : _root_.Go.ChangeSpec) : _root_.Go.OpenSpec := { _root_.Go.OpenSpec.ofChange s with cond := some uptoSmall }

/-- 'busbarlaw14.SerialWhole', WHERE WHAT IT READS IS OF BULK AT MOST 1048576: true; the input reads as it did. -/
def serialWholeUptoRow : OpenClaim := { program := "ytnbcegijncdmaaadoor", sum := "e9f78e4000b0eb4c83a5bb7219521f146c5a7159cd62ffa8dc1cacb36e8543d8", func := "busbar/busbarlaw14.SerialWhole", spec := "serialWhole", unfollowed := true, recurses := true, named := ["busbar/wires.upright"], apart := false, laid := [("busbar/wires.upright", laid_busbar_wires_upright)], narrowed := true }
def SerialWholeUptoSaid : Prop := serialWholeUptoRow.holds Tryd.pinned (OpenSpec.upto serialWholeSpec)

/-- 'busbarlaw14.SerialOthers', WHERE WHAT IT READS IS OF BULK AT MOST 1048576: true; the input reads as it did. -/
def serialOthersUptoRow : OpenClaim := { program := "ytnbcegijncdmaaadoor", sum := "e9f78e4000b0eb4c83a5bb7219521f146c5a7159cd62ffa8dc1cacb36e8543d8", func := "busbar/busbarlaw14.SerialOthers", spec := "serialOthers", named := ["busbar/wires.upright"], apart := false, laid := [("busbar/wires.upright", laid_busbar_wires_upright)], narrowed := true }
def SerialOthersUptoSaid : Prop := serialOthersUptoRow.holds Tryd.pinned (OpenSpec.upto serialOthersSpec)

/-- 'busbarlaw15.ShiftSent', WHERE WHAT IT READS IS OF BULK AT MOST 1048576: true; the input reads as it did. -/
def shiftSentUptoRow : OpenClaim := { program := "ytnbcegijncdmaaadoor", sum := "e9f78e4000b0eb4c83a5bb7219521f146c5a7159cd62ffa8dc1cacb36e8543d8", func := "busbar/busbarlaw15.ShiftSent", spec := "shiftSent", named := ["busbar/wires.upright"], apart := false, laid := [("busbar/wires.upright", laid_busbar_wires_upright)], narrowed := true }
def ShiftSentUptoSaid : Prop := shiftSentUptoRow.holds Tryd.pinned (OpenSpec.upto shiftSentSpec)

/-- 'busbarlaw16.MajorReads', WHERE WHAT IT READS IS OF BULK AT MOST 1048576: true; the input reads as it did. -/
def majorReadsUptoRow : OpenClaim := { program := "ytnbcegijncdmaaadoor", sum := "e9f78e4000b0eb4c83a5bb7219521f146c5a7159cd62ffa8dc1cacb36e8543d8", func := "busbar/busbarlaw16.MajorReads", spec := "majorReads", named := ["busbar/wires.upright"], apart := false, laid := [("busbar/wires.upright", laid_busbar_wires_upright)], narrowed := true }
def MajorReadsUptoSaid : Prop := majorReadsUptoRow.holds Tryd.pinned (OpenSpec.upto majorReadsSpec)

/-- 'busbarlaw17.ActiveTells', WHERE WHAT IT READS IS OF BULK AT MOST 1048576: true; the input reads as it did. -/
def activeTellsUptoRow : OpenClaim := { program := "ytnbcegijncdmaaadoor", sum := "e9f78e4000b0eb4c83a5bb7219521f146c5a7159cd62ffa8dc1cacb36e8543d8", func := "busbar/busbarlaw17.ActiveTells", spec := "activeTells", unfollowed := true, recurses := true, named := ["busbar/wires.upright"], apart := false, laid := [("busbar/wires.upright", laid_busbar_wires_upright)], narrowed := true }
def ActiveTellsUptoSaid : Prop := activeTellsUptoRow.holds Tryd.pinned (OpenSpec.upto activeTellsSpec)

/-- 'busbarlaw18.GateTells', WHERE WHAT IT READS IS OF BULK AT MOST 1048576: true; the input reads as it did. -/
def gateTellsUptoRow : OpenClaim := { program := "ytnbcegijncdmaaadoor", sum := "e9f78e4000b0eb4c83a5bb7219521f146c5a7159cd62ffa8dc1cacb36e8543d8", func := "busbar/busbarlaw18.GateTells", spec := "gateTells", unfollowed := true, recurses := true, named := ["busbar/wires.upright"], apart := false, laid := [("busbar/wires.upright", laid_busbar_wires_upright)], narrowed := true }
def GateTellsUptoSaid : Prop := gateTellsUptoRow.holds Tryd.pinned (OpenSpec.upto gateTellsSpec)

/-- 'busbarlaw18.GateLets', WHERE WHAT IT READS IS OF BULK AT MOST 1048576: true; the input reads as it did. -/
def gateLetsUptoRow : OpenClaim := { program := "ytnbcegijncdmaaadoor", sum := "e9f78e4000b0eb4c83a5bb7219521f146c5a7159cd62ffa8dc1cacb36e8543d8", func := "busbar/busbarlaw18.GateLets", spec := "gateLets", unfollowed := true, recurses := true, named := ["busbar/wires.upright"], apart := false, laid := [("busbar/wires.upright", laid_busbar_wires_upright)], narrowed := true }
def GateLetsUptoSaid : Prop := gateLetsUptoRow.holds Tryd.pinned (OpenSpec.upto gateLetsSpec)

/-- 'busbarlaw18.GateHolds', WHERE WHAT IT READS IS OF BULK AT MOST 1048576: true; the input reads as it did. -/
def gateHoldsUptoRow : OpenClaim := { program := "ytnbcegijncdmaaadoor", sum := "e9f78e4000b0eb4c83a5bb7219521f146c5a7159cd62ffa8dc1cacb36e8543d8", func := "busbar/busbarlaw18.GateHolds", spec := "gateHolds", unfollowed := true, recurses := true, named := ["busbar/wires.upright"], apart := false, laid := [("busbar/wires.upright", laid_busbar_wires_upright)], narrowed := true }
def GateHoldsUptoSaid : Prop := gateHoldsUptoRow.holds Tryd.pinned (OpenSpec.upto gateHoldsSpec)

/-- 'busbarlaw19.CheckSees', WHERE WHAT IT READS IS OF BULK AT MOST 1048576: true; the input reads as it did. -/
def checkSeesUptoRow : OpenClaim := { program := "ytnbcegijncdmaaadoor", sum := "e9f78e4000b0eb4c83a5bb7219521f146c5a7159cd62ffa8dc1cacb36e8543d8", func := "busbar/busbarlaw19.CheckSees", spec := "checkSees", named := ["busbar/wires.upright"], apart := false, laid := [("busbar/wires.upright", laid_busbar_wires_upright)], narrowed := true }
def CheckSeesUptoSaid : Prop := checkSeesUptoRow.holds Tryd.pinned (OpenSpec.upto checkSeesSpec)

/-- 'busbarlaw19.CheckFinds', WHERE WHAT IT READS IS OF BULK AT MOST 1048576: true; the input reads as it did. -/
def checkFindsUptoRow : OpenClaim := { program := "ytnbcegijncdmaaadoor", sum := "e9f78e4000b0eb4c83a5bb7219521f146c5a7159cd62ffa8dc1cacb36e8543d8", func := "busbar/busbarlaw19.CheckFinds", spec := "checkFinds", named := ["busbar/wires.upright"], apart := false, laid := [("busbar/wires.upright", laid_busbar_wires_upright)], narrowed := true }
def CheckFindsUptoSaid : Prop := checkFindsUptoRow.holds Tryd.pinned (OpenSpec.upto checkFindsSpec)

end Rows
end Go.Proofs.YtnbcegijncdmaaaDoor
