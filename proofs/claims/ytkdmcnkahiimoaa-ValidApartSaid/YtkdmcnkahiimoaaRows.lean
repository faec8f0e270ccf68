/-
  No cell of these rows narrows 'for every input' (looked for: loops, veiled, ifaces, maps, wideKeys, modest, calm, conditions, laid).
  DERIVED. THE GIVEN ROWS OF THIS SEAT. 6 by the template 'for every input the law returns true; each argument reads behind the call as it read before'; 0 by the template 'total and deterministic' (their statements: YtkdmcnkahiimoaaTotals.lean).
  GIVEN WITH THE SEED: the statements are not yours to turn. If you find one false, say at which input.
  Laid BY PROGRAM, IN A SANDBOX (cutbox-rows.mjs): the forced cells as the released guide's own fill.sh prints them over the translation 6d173adb6a98b3e9… (all of the seat's roots in one cut). By AI agents, Wed Nov 11 2026. No macro, syntax, notation, axiom, sorry.
-/
import Derived.Test.YtkdmcnkahiimoaaChecked
import GoSem.Claim
import GoSem.ClaimJoined
import GoSem.ClaimMapViews
import Derived.JoinedTies
import Derived.KernelRfl
namespace Go.Proofs.Ytkdmcnkahiimoaa
/- THE CELL 'sum', in the pinned program and in every row, IS THE sha256 OF THE DUMP (.gsa) THAT YtkdmcnkahiimoaaProg.lean LOADS. Nothing in Lean hashes anything: it is a label: what it is worth is what the hold of that sum in a sandbox is worth. -/
noncomputable def Try.pinned : Pinned := { name := "ytkdmcnkahiimoaa", sum := "6d173adb6a98b3e9afed0333a4da61a80e8c50d288cb1c681374b1fa9bacccc3", checked := Try.checked }
namespace Rows
def none {H : Type} : Left H := { results := [], args := [] }

/-- 'busbarlaw07.PlanViews': WHATEVER THE INPUT: true; the input reads as it did. -/
def planViewsSpec : ChangeSpec := { name := "planViews", fn := fun _ => fun
  | [d1, d2, d3] => { results := [.lit (.bool true)], args := [d1, d2, d3] }
  | _ => none }
def planViewsRow : OpenClaim := { program := "ytkdmcnkahiimoaa", sum := "6d173adb6a98b3e9afed0333a4da61a80e8c50d288cb1c681374b1fa9bacccc3", func := "busbar/busbarlaw07.PlanViews", spec := "planViews", unfollowed := true, recurses := true, apart := false }
def PlanViewsSaid : Prop := planViewsRow.holds Try.pinned (OpenSpec.ofChange planViewsSpec)

/-- ITS FALSE NEIGHBOUR: 'it returns false'. Refute it at one input. -/
def planViewsWrong : ChangeSpec := { name := "planViews", fn := fun _ => fun
  | [d1, d2, d3] => { results := [.lit (.bool false)], args := [d1, d2, d3] }
  | _ => none }
def PlanViewsWrongFalsely : Prop := planViewsRow.holds Try.pinned (OpenSpec.ofChange planViewsWrong)

/-- 'busbarlaw07.PlanLies': WHATEVER THE INPUT: true; the input reads as it did. -/
def planLiesSpec : ChangeSpec := { name := "planLies", fn := fun _ => fun
  | [d1, d2, d3] => { results := [.lit (.bool true)], args := [d1, d2, d3] }
  | _ => none }
def planLiesRow : OpenClaim := { program := "ytkdmcnkahiimoaa", sum := "6d173adb6a98b3e9afed0333a4da61a80e8c50d288cb1c681374b1fa9bacccc3", func := "busbar/busbarlaw07.PlanLies", spec := "planLies", unfollowed := true, recurses := true, apart := false }
def PlanLiesSaid : Prop := planLiesRow.holds Try.pinned (OpenSpec.ofChange planLiesSpec)

/-- ITS FALSE NEIGHBOUR: 'it returns false'. Refute it at one input. -/
def planLiesWrong : ChangeSpec := { name := "planLies", fn := fun _ => fun
  | [d1, d2, d3] => { results := [.lit (.bool false)], args := [d1, d2, d3] }
  | _ => none }
def PlanLiesWrongFalsely : Prop := planLiesRow.holds Try.pinned (OpenSpec.ofChange planLiesWrong)

/-- 'busbarlaw07.PlanSame': WHATEVER THE INPUT: true; the input reads as it did. -/
def planSameSpec : ChangeSpec := { name := "planSame", fn := fun _ => fun
  | [d1, d2, d3] => { results := [.lit (.bool true)], args := [d1, d2, d3] }
  | _ => none }
def planSameRow : OpenClaim := { program := "ytkdmcnkahiimoaa", sum := "6d173adb6a98b3e9afed0333a4da61a80e8c50d288cb1c681374b1fa9bacccc3", func := "busbar/busbarlaw07.PlanSame", spec := "planSame", unfollowed := true, recurses := true, apart := false }
def PlanSameSaid : Prop := planSameRow.holds Try.pinned (OpenSpec.ofChange planSameSpec)

/-- ITS FALSE NEIGHBOUR: 'it returns false'. Refute it at one input. -/
def planSameWrong : ChangeSpec := { name := "planSame", fn := fun _ => fun
  | [d1, d2, d3] => { results := [.lit (.bool false)], args := [d1, d2, d3] }
  | _ => none }
def PlanSameWrongFalsely : Prop := planSameRow.holds Try.pinned (OpenSpec.ofChange planSameWrong)

/-- 'busbarlaw08.ValidChecks': WHATEVER THE INPUT: true; the input reads as it did. -/
def validChecksSpec : ChangeSpec := { name := "validChecks", fn := fun _ => fun
  | [d] => { results := [.lit (.bool true)], args := [d] }
  | _ => none }
def validChecksRow : OpenClaim := { program := "ytkdmcnkahiimoaa", sum := "6d173adb6a98b3e9afed0333a4da61a80e8c50d288cb1c681374b1fa9bacccc3", func := "busbar/busbarlaw08.ValidChecks", spec := "validChecks", unfollowed := true, recurses := true, apart := false }
def ValidChecksSaid : Prop := validChecksRow.holds Try.pinned (OpenSpec.ofChange validChecksSpec)

/-- ITS FALSE NEIGHBOUR: 'it returns false'. Refute it at one input. -/
def validChecksWrong : ChangeSpec := { name := "validChecks", fn := fun _ => fun
  | [d] => { results := [.lit (.bool false)], args := [d] }
  | _ => none }
def ValidChecksWrongFalsely : Prop := validChecksRow.holds Try.pinned (OpenSpec.ofChange validChecksWrong)

/-- 'busbarlaw08.ValidSpans': WHATEVER THE INPUT: true; the input reads as it did. -/
def validSpansSpec : ChangeSpec := { name := "validSpans", fn := fun _ => fun
  | [d1, d2] => { results := [.lit (.bool true)], args := [d1, d2] }
  | _ => none }
def validSpansRow : OpenClaim := { program := "ytkdmcnkahiimoaa", sum := "6d173adb6a98b3e9afed0333a4da61a80e8c50d288cb1c681374b1fa9bacccc3", func := "busbar/busbarlaw08.ValidSpans", spec := "validSpans", unfollowed := true, recurses := true, apart := false }
def ValidSpansSaid : Prop := validSpansRow.holds Try.pinned (OpenSpec.ofChange validSpansSpec)

/-- ITS FALSE NEIGHBOUR: 'it returns false'. Refute it at one input. -/
def validSpansWrong : ChangeSpec := { name := "validSpans", fn := fun _ => fun
  | [d1, d2] => { results := [.lit (.bool false)], args := [d1, d2] }
  | _ => none }
def ValidSpansWrongFalsely : Prop := validSpansRow.holds Try.pinned (OpenSpec.ofChange validSpansWrong)

/-- 'busbarlaw08.ValidApart': WHATEVER THE INPUT: true; the input reads as it did. -/
def validApartSpec : ChangeSpec := { name := "validApart", fn := fun _ => fun
  | [d] => { results := [.lit (.bool true)], args := [d] }
  | _ => none }
def validApartRow : OpenClaim := { program := "ytkdmcnkahiimoaa", sum := "6d173adb6a98b3e9afed0333a4da61a80e8c50d288cb1c681374b1fa9bacccc3", func := "busbar/busbarlaw08.ValidApart", spec := "validApart", unfollowed := true, recurses := true, apart := false }
def ValidApartSaid : Prop := validApartRow.holds Try.pinned (OpenSpec.ofChange validApartSpec)

/-- ITS FALSE NEIGHBOUR: 'it returns false'. Refute it at one input. -/
def validApartWrong : ChangeSpec := { name := "validApart", fn := fun _ => fun
  | [d] => { results := [.lit (.bool false)], args := [d] }
  | _ => none }
def ValidApartWrongFalsely : Prop := validApartRow.holds Try.pinned (OpenSpec.ofChange validApartWrong)

/- THE SECOND FORM. 'bulk': how many values and letters a reading holds, each counted each time it is reached (what is shared counts as often as it is met; a slice's spare places count too). A statement '..UptoSaid' is the law's where the arguments, and the package variables that the reading takes, are together of bulk at most 1048576: NARROWER than '..Said'. Prove '..Said' where nothing that the law and all that it calls make is longer than what came in: it says more and counts as full. Else prove '..UptoSaid'. A law counts once. -/
mutual
def uptoBulk {H : Type} : DataW H → Nat
  | .lit (.string bytes) => bytes.length + 1
  | .lit _ => 1
  | .nil => 1
  | .ptr d => uptoBulk d + 1
  | .slice elems spare => uptoBulkAll elems + uptoBulkAll spare + 1
  | .agg parts => uptoBulkAll parts + 1
  | .iface _ d => uptoBulk d + 1
  | .map entries => uptoBulkEntries entries + 1
  | .held _ => 1
def uptoBulkAll {H : Type} : List (DataW H) → Nat
  | [] => 0
  | d :: r => uptoBulk d + uptoBulkAll r
def uptoBulkEntries {H : Type} : List (Lit × DataW H) → Nat
  | [] => 0
  | x :: r => uptoBulkEntry x + uptoBulkEntries r
def uptoBulkEntry {H : Type} : Lit × DataW H → Nat
  | (.string bytes, d) => bytes.length + uptoBulk d + 1
  | (_, d) => uptoBulk d + 1
 end
def uptoSmall : (H : Type) → List (DataW H) → Bool := fun _ ds => decide (uptoBulkAll ds ≤ 1048576)
def OpenSpec.upto (s : _root_.Go.ChangeSpec) : _root_.Go.OpenSpec := { _root_.Go.OpenSpec.ofChange s with cond := some uptoSmall }

/-- 'busbarlaw07.PlanViews', WHERE WHAT IT READS IS OF BULK AT MOST 1048576: true; the input reads as it did. -/
def planViewsUptoRow : OpenClaim := { program := "ytkdmcnkahiimoaa", sum := "6d173adb6a98b3e9afed0333a4da61a80e8c50d288cb1c681374b1fa9bacccc3", func := "busbar/busbarlaw07.PlanViews", spec := "planViews", unfollowed := true, recurses := true, apart := false, narrowed := true }
def PlanViewsUptoSaid : Prop := planViewsUptoRow.holds Try.pinned (OpenSpec.upto planViewsSpec)

/-- 'busbarlaw07.PlanLies', WHERE WHAT IT READS IS OF BULK AT MOST 1048576: true; the input reads as it did. -/
def planLiesUptoRow : OpenClaim := { program := "ytkdmcnkahiimoaa", sum := "6d173adb6a98b3e9afed0333a4da61a80e8c50d288cb1c681374b1fa9bacccc3", func := "busbar/busbarlaw07.PlanLies", spec := "planLies", unfollowed := true, recurses := true, apart := false, narrowed := true }
def PlanLiesUptoSaid : Prop := planLiesUptoRow.holds Try.pinned (OpenSpec.upto planLiesSpec)

/-- 'busbarlaw07.PlanSame', WHERE WHAT IT READS IS OF BULK AT MOST 1048576: true; the input reads as it did. -/
def planSameUptoRow : OpenClaim := { program := "ytkdmcnkahiimoaa", sum := "6d173adb6a98b3e9afed0333a4da61a80e8c50d288cb1c681374b1fa9bacccc3", func := "busbar/busbarlaw07.PlanSame", spec := "planSame", unfollowed := true, recurses := true, apart := false, narrowed := true }
def PlanSameUptoSaid : Prop := planSameUptoRow.holds Try.pinned (OpenSpec.upto planSameSpec)

/-- 'busbarlaw08.ValidChecks', WHERE WHAT IT READS IS OF BULK AT MOST 1048576: true; the input reads as it did. -/
def validChecksUptoRow : OpenClaim := { program := "ytkdmcnkahiimoaa", sum := "6d173adb6a98b3e9afed0333a4da61a80e8c50d288cb1c681374b1fa9bacccc3", func := "busbar/busbarlaw08.ValidChecks", spec := "validChecks", unfollowed := true, recurses := true, apart := false, narrowed := true }
def ValidChecksUptoSaid : Prop := validChecksUptoRow.holds Try.pinned (OpenSpec.upto validChecksSpec)

/-- 'busbarlaw08.ValidSpans', WHERE WHAT IT READS IS OF BULK AT MOST 1048576: true; the input reads as it did. -/
def validSpansUptoRow : OpenClaim := { program := "ytkdmcnkahiimoaa", sum := "6d173adb6a98b3e9afed0333a4da61a80e8c50d288cb1c681374b1fa9bacccc3", func := "busbar/busbarlaw08.ValidSpans", spec := "validSpans", unfollowed := true, recurses := true, apart := false, narrowed := true }
def ValidSpansUptoSaid : Prop := validSpansUptoRow.holds Try.pinned (OpenSpec.upto validSpansSpec)

/-- 'busbarlaw08.ValidApart', WHERE WHAT IT READS IS OF BULK AT MOST 1048576: true; the input reads as it did. -/
def validApartUptoRow : OpenClaim := { program := "ytkdmcnkahiimoaa", sum := "6d173adb6a98b3e9afed0333a4da61a80e8c50d288cb1c681374b1fa9bacccc3", func := "busbar/busbarlaw08.ValidApart", spec := "validApart", unfollowed := true, recurses := true, apart := false, narrowed := true }
def ValidApartUptoSaid : Prop := validApartUptoRow.holds Try.pinned (OpenSpec.upto validApartSpec)

end Rows
end Go.Proofs.Ytkdmcnkahiimoaa
