/-
  No cell of these rows narrows 'for every input' (looked for: loops, veiled, ifaces, maps, wideKeys, modest, calm, conditions, laid).
  DERIVED. THE GIVEN ROWS OF THIS SEAT. 11 by the template 'for every input the law returns true; each argument reads behind the call as it read before'; 0 by the template 'total and deterministic' (their statements: YtbhgnhbaimemmaaTotals.lean).
  GIVEN WITH THE SEED: the statements are not yours to turn. If you find one false, say at which input.
  Laid BY PROGRAM, IN A SANDBOX (cutbox-rows.mjs): the forced cells as the released guide's own fill.sh prints them over the translation 85e3d8501be501f1… (all of the seat's roots in one cut). By AI agents, Wed Nov 11 2026. No macro, syntax, notation, axiom, sorry.
-/
import Derived.Test.YtbhgnhbaimemmaaChecked
import GoSem.Claim
import GoSem.ClaimJoined
import GoSem.ClaimMapViews
import Derived.JoinedTies
import Derived.KernelRfl
namespace Go.Proofs.Ytbhgnhbaimemmaa
/- THE CELL 'sum', in the pinned program and in every row, IS THE sha256 OF THE DUMP (.gsa) THAT YtbhgnhbaimemmaaProg.lean LOADS. Nothing in Lean hashes anything: it is a label: what it is worth is what the hold of that sum in a sandbox is worth. -/
noncomputable def Try.pinned : Pinned := { name := "ytbhgnhbaimemmaa", sum := "85e3d8501be501f1f2f9647e5211da3068a591d2d1ae03ae6cf12ba82b8b2c2e", checked := Try.checked }
namespace Rows
def none {H : Type} : Left H := { results := [], args := [] }

/-- 'busbarlaw04.DelaySees': WHATEVER THE INPUT: true; the input reads as it did. -/
def delaySeesSpec : ChangeSpec := { name := "delaySees", fn := fun _ => fun
  | [d1, d2, d3] => { results := [.lit (.bool true)], args := [d1, d2, d3] }
  | _ => none }
def delaySeesRow : OpenClaim := { program := "ytbhgnhbaimemmaa", sum := "85e3d8501be501f1f2f9647e5211da3068a591d2d1ae03ae6cf12ba82b8b2c2e", func := "busbar/busbarlaw04.DelaySees", spec := "delaySees", apart := false }
def DelaySeesSaid : Prop := delaySeesRow.holds Try.pinned (OpenSpec.ofChange delaySeesSpec)

/-- ITS FALSE NEIGHBOUR: 'it returns false'. Refute it at one input. -/
def delaySeesWrong : ChangeSpec := { name := "delaySees", fn := fun _ => fun
  | [d1, d2, d3] => { results := [.lit (.bool false)], args := [d1, d2, d3] }
  | _ => none }
def DelaySeesWrongFalsely : Prop := delaySeesRow.holds Try.pinned (OpenSpec.ofChange delaySeesWrong)

/-- 'busbarlaw04.DelayTwice': WHATEVER THE INPUT: true; the input reads as it did. -/
def delayTwiceSpec : ChangeSpec := { name := "delayTwice", fn := fun _ => fun
  | [d1, d2, d3] => { results := [.lit (.bool true)], args := [d1, d2, d3] }
  | _ => none }
def delayTwiceRow : OpenClaim := { program := "ytbhgnhbaimemmaa", sum := "85e3d8501be501f1f2f9647e5211da3068a591d2d1ae03ae6cf12ba82b8b2c2e", func := "busbar/busbarlaw04.DelayTwice", spec := "delayTwice", apart := false }
def DelayTwiceSaid : Prop := delayTwiceRow.holds Try.pinned (OpenSpec.ofChange delayTwiceSpec)

/-- ITS FALSE NEIGHBOUR: 'it returns false'. Refute it at one input. -/
def delayTwiceWrong : ChangeSpec := { name := "delayTwice", fn := fun _ => fun
  | [d1, d2, d3] => { results := [.lit (.bool false)], args := [d1, d2, d3] }
  | _ => none }
def DelayTwiceWrongFalsely : Prop := delayTwiceRow.holds Try.pinned (OpenSpec.ofChange delayTwiceWrong)

/-- 'busbarlaw05.ClockPlays': WHATEVER THE INPUT: true; the input reads as it did. -/
def clockPlaysSpec : ChangeSpec := { name := "clockPlays", fn := fun _ => fun
  | [d1, d2, d3] => { results := [.lit (.bool true)], args := [d1, d2, d3] }
  | _ => none }
def clockPlaysRow : OpenClaim := { program := "ytbhgnhbaimemmaa", sum := "85e3d8501be501f1f2f9647e5211da3068a591d2d1ae03ae6cf12ba82b8b2c2e", func := "busbar/busbarlaw05.ClockPlays", spec := "clockPlays", apart := false }
def ClockPlaysSaid : Prop := clockPlaysRow.holds Try.pinned (OpenSpec.ofChange clockPlaysSpec)

/-- ITS FALSE NEIGHBOUR: 'it returns false'. Refute it at one input. -/
def clockPlaysWrong : ChangeSpec := { name := "clockPlays", fn := fun _ => fun
  | [d1, d2, d3] => { results := [.lit (.bool false)], args := [d1, d2, d3] }
  | _ => none }
def ClockPlaysWrongFalsely : Prop := clockPlaysRow.holds Try.pinned (OpenSpec.ofChange clockPlaysWrong)

/-- 'busbarlaw05.ClockApart': WHATEVER THE INPUT: true; the input reads as it did. -/
def clockApartSpec : ChangeSpec := { name := "clockApart", fn := fun _ => fun
  | [d1, d2, d3] => { results := [.lit (.bool true)], args := [d1, d2, d3] }
  | _ => none }
def clockApartRow : OpenClaim := { program := "ytbhgnhbaimemmaa", sum := "85e3d8501be501f1f2f9647e5211da3068a591d2d1ae03ae6cf12ba82b8b2c2e", func := "busbar/busbarlaw05.ClockApart", spec := "clockApart", apart := false }
def ClockApartSaid : Prop := clockApartRow.holds Try.pinned (OpenSpec.ofChange clockApartSpec)

/-- ITS FALSE NEIGHBOUR: 'it returns false'. Refute it at one input. -/
def clockApartWrong : ChangeSpec := { name := "clockApart", fn := fun _ => fun
  | [d1, d2, d3] => { results := [.lit (.bool false)], args := [d1, d2, d3] }
  | _ => none }
def ClockApartWrongFalsely : Prop := clockApartRow.holds Try.pinned (OpenSpec.ofChange clockApartWrong)

/-- 'busbarlaw05.ClockSlips': WHATEVER THE INPUT: true; the input reads as it did. -/
def clockSlipsSpec : ChangeSpec := { name := "clockSlips", fn := fun _ => fun
  | [d1, d2] => { results := [.lit (.bool true)], args := [d1, d2] }
  | _ => none }
def clockSlipsRow : OpenClaim := { program := "ytbhgnhbaimemmaa", sum := "85e3d8501be501f1f2f9647e5211da3068a591d2d1ae03ae6cf12ba82b8b2c2e", func := "busbar/busbarlaw05.ClockSlips", spec := "clockSlips", apart := false }
def ClockSlipsSaid : Prop := clockSlipsRow.holds Try.pinned (OpenSpec.ofChange clockSlipsSpec)

/-- ITS FALSE NEIGHBOUR: 'it returns false'. Refute it at one input. -/
def clockSlipsWrong : ChangeSpec := { name := "clockSlips", fn := fun _ => fun
  | [d1, d2] => { results := [.lit (.bool false)], args := [d1, d2] }
  | _ => none }
def ClockSlipsWrongFalsely : Prop := clockSlipsRow.holds Try.pinned (OpenSpec.ofChange clockSlipsWrong)

/-- 'busbarlaw05.ClockOnce': WHATEVER THE INPUT: true; the input reads as it did. -/
def clockOnceSpec : ChangeSpec := { name := "clockOnce", fn := fun _ => fun
  | [d1, d2] => { results := [.lit (.bool true)], args := [d1, d2] }
  | _ => none }
def clockOnceRow : OpenClaim := { program := "ytbhgnhbaimemmaa", sum := "85e3d8501be501f1f2f9647e5211da3068a591d2d1ae03ae6cf12ba82b8b2c2e", func := "busbar/busbarlaw05.ClockOnce", spec := "clockOnce", apart := false }
def ClockOnceSaid : Prop := clockOnceRow.holds Try.pinned (OpenSpec.ofChange clockOnceSpec)

/-- ITS FALSE NEIGHBOUR: 'it returns false'. Refute it at one input. -/
def clockOnceWrong : ChangeSpec := { name := "clockOnce", fn := fun _ => fun
  | [d1, d2] => { results := [.lit (.bool false)], args := [d1, d2] }
  | _ => none }
def ClockOnceWrongFalsely : Prop := clockOnceRow.holds Try.pinned (OpenSpec.ofChange clockOnceWrong)

/-- 'busbarlaw05.ClockNobody': WHATEVER THE INPUT: true; the input reads as it did. -/
def clockNobodySpec : ChangeSpec := { name := "clockNobody", fn := fun _ => fun
  | [d] => { results := [.lit (.bool true)], args := [d] }
  | _ => none }
def clockNobodyRow : OpenClaim := { program := "ytbhgnhbaimemmaa", sum := "85e3d8501be501f1f2f9647e5211da3068a591d2d1ae03ae6cf12ba82b8b2c2e", func := "busbar/busbarlaw05.ClockNobody", spec := "clockNobody", apart := false }
def ClockNobodySaid : Prop := clockNobodyRow.holds Try.pinned (OpenSpec.ofChange clockNobodySpec)

/-- ITS FALSE NEIGHBOUR: 'it returns false'. Refute it at one input. -/
def clockNobodyWrong : ChangeSpec := { name := "clockNobody", fn := fun _ => fun
  | [d] => { results := [.lit (.bool false)], args := [d] }
  | _ => none }
def ClockNobodyWrongFalsely : Prop := clockNobodyRow.holds Try.pinned (OpenSpec.ofChange clockNobodyWrong)

/-- 'busbarlaw06.RunsTell': WHATEVER THE INPUT: true; the input reads as it did. -/
def runsTellSpec : ChangeSpec := { name := "runsTell", fn := fun _ => fun
  | [d1, d2] => { results := [.lit (.bool true)], args := [d1, d2] }
  | _ => none }
def runsTellRow : OpenClaim := { program := "ytbhgnhbaimemmaa", sum := "85e3d8501be501f1f2f9647e5211da3068a591d2d1ae03ae6cf12ba82b8b2c2e", func := "busbar/busbarlaw06.RunsTell", spec := "runsTell", unfollowed := true, recurses := true, apart := false }
def RunsTellSaid : Prop := runsTellRow.holds Try.pinned (OpenSpec.ofChange runsTellSpec)

/-- ITS FALSE NEIGHBOUR: 'it returns false'. Refute it at one input. -/
def runsTellWrong : ChangeSpec := { name := "runsTell", fn := fun _ => fun
  | [d1, d2] => { results := [.lit (.bool false)], args := [d1, d2] }
  | _ => none }
def RunsTellWrongFalsely : Prop := runsTellRow.holds Try.pinned (OpenSpec.ofChange runsTellWrong)

/-- 'busbarlaw06.RunsHold': WHATEVER THE INPUT: true; the input reads as it did. -/
def runsHoldSpec : ChangeSpec := { name := "runsHold", fn := fun _ => fun
  | [d1, d2, d3] => { results := [.lit (.bool true)], args := [d1, d2, d3] }
  | _ => none }
def runsHoldRow : OpenClaim := { program := "ytbhgnhbaimemmaa", sum := "85e3d8501be501f1f2f9647e5211da3068a591d2d1ae03ae6cf12ba82b8b2c2e", func := "busbar/busbarlaw06.RunsHold", spec := "runsHold", unfollowed := true, recurses := true, apart := false }
def RunsHoldSaid : Prop := runsHoldRow.holds Try.pinned (OpenSpec.ofChange runsHoldSpec)

/-- ITS FALSE NEIGHBOUR: 'it returns false'. Refute it at one input. -/
def runsHoldWrong : ChangeSpec := { name := "runsHold", fn := fun _ => fun
  | [d1, d2, d3] => { results := [.lit (.bool false)], args := [d1, d2, d3] }
  | _ => none }
def RunsHoldWrongFalsely : Prop := runsHoldRow.holds Try.pinned (OpenSpec.ofChange runsHoldWrong)

/-- 'busbarlaw06.RunsNobody': WHATEVER THE INPUT: true; the input reads as it did. -/
def runsNobodySpec : ChangeSpec := { name := "runsNobody", fn := fun _ => fun
  | [d1, d2] => { results := [.lit (.bool true)], args := [d1, d2] }
  | _ => none }
def runsNobodyRow : OpenClaim := { program := "ytbhgnhbaimemmaa", sum := "85e3d8501be501f1f2f9647e5211da3068a591d2d1ae03ae6cf12ba82b8b2c2e", func := "busbar/busbarlaw06.RunsNobody", spec := "runsNobody", unfollowed := true, recurses := true, apart := false }
def RunsNobodySaid : Prop := runsNobodyRow.holds Try.pinned (OpenSpec.ofChange runsNobodySpec)

/-- ITS FALSE NEIGHBOUR: 'it returns false'. Refute it at one input. -/
def runsNobodyWrong : ChangeSpec := { name := "runsNobody", fn := fun _ => fun
  | [d1, d2] => { results := [.lit (.bool false)], args := [d1, d2] }
  | _ => none }
def RunsNobodyWrongFalsely : Prop := runsNobodyRow.holds Try.pinned (OpenSpec.ofChange runsNobodyWrong)

/-- 'busbarlaw06.RunsLater': WHATEVER THE INPUT: true; the input reads as it did. -/
def runsLaterSpec : ChangeSpec := { name := "runsLater", fn := fun _ => fun
  | [d1, d2] => { results := [.lit (.bool true)], args := [d1, d2] }
  | _ => none }
def runsLaterRow : OpenClaim := { program := "ytbhgnhbaimemmaa", sum := "85e3d8501be501f1f2f9647e5211da3068a591d2d1ae03ae6cf12ba82b8b2c2e", func := "busbar/busbarlaw06.RunsLater", spec := "runsLater", unfollowed := true, recurses := true, apart := false }
def RunsLaterSaid : Prop := runsLaterRow.holds Try.pinned (OpenSpec.ofChange runsLaterSpec)

/-- ITS FALSE NEIGHBOUR: 'it returns false'. Refute it at one input. -/
def runsLaterWrong : ChangeSpec := { name := "runsLater", fn := fun _ => fun
  | [d1, d2] => { results := [.lit (.bool false)], args := [d1, d2] }
  | _ => none }
def RunsLaterWrongFalsely : Prop := runsLaterRow.holds Try.pinned (OpenSpec.ofChange runsLaterWrong)

/- THE SECOND FORM. 'bulk': how many values and letters a reading holds, each counted each time it is reached (what is shared counts as often as it is met; a slice's spare places count too). A statement '..UptoSaid' is the law's where the arguments, and the package variables that the reading takes, are together of bulk at most 1048576: NARROWER than '..Said'. Prove '..Said' where nothing that the law and all that it calls make is longer than what came in: it says more and counts as full. Else prove '..UptoSaid'. A law counts once. -/
mutual
def uptoBulk {H : Type} : DataW H → Nat
  | .lit (.string bytes) => bytes.length + 1
  | .lit _ => 1
  | .nil => 1
  | .ptr d => uptoBulk d + 1
  | .slice elems spare => uptoBulkAll elems + uptoBulkAll spare + 1
  | .agg parts => uptoBulkAll parts + 1
  | .iface _ d => uptoBulk d + 1
  | .map entries => uptoBulkEntries entries + 1
  | .held _ => 1
def uptoBulkAll {H : Type} : List (DataW H) → Nat
  | [] => 0
  | d :: r => uptoBulk d + uptoBulkAll r
def uptoBulkEntries {H : Type} : List (Lit × DataW H) → Nat
  | [] => 0
  | x :: r => uptoBulkEntry x + uptoBulkEntries r
def uptoBulkEntry {H : Type} : Lit × DataW H → Nat
  | (.string bytes, d) => bytes.length + uptoBulk d + 1
  | (_, d) => uptoBulk d + 1
 end
def uptoSmall : (H : Type) → List (DataW H) → Bool := fun _ ds => decide (uptoBulkAll ds ≤ 1048576)
def OpenSpec.upto (s : _root_.Go.ChangeSpec) : _root_.Go.OpenSpec := { _root_.Go.OpenSpec.ofChange s with cond := some uptoSmall }

/-- 'busbarlaw04.DelaySees', WHERE WHAT IT READS IS OF BULK AT MOST 1048576: true; the input reads as it did. -/
def delaySeesUptoRow : OpenClaim := { program := "ytbhgnhbaimemmaa", sum := "85e3d8501be501f1f2f9647e5211da3068a591d2d1ae03ae6cf12ba82b8b2c2e", func := "busbar/busbarlaw04.DelaySees", spec := "delaySees", apart := false, narrowed := true }
def DelaySeesUptoSaid : Prop := delaySeesUptoRow.holds Try.pinned (OpenSpec.upto delaySeesSpec)

/-- 'busbarlaw04.DelayTwice', WHERE WHAT IT READS IS OF BULK AT MOST 1048576: true; the input reads as it did. -/
def delayTwiceUptoRow : OpenClaim := { program := "ytbhgnhbaimemmaa", sum := "85e3d8501be501f1f2f9647e5211da3068a591d2d1ae03ae6cf12ba82b8b2c2e", func := "busbar/busbarlaw04.DelayTwice", spec := "delayTwice", apart := false, narrowed := true }
def DelayTwiceUptoSaid : Prop := delayTwiceUptoRow.holds Try.pinned (OpenSpec.upto delayTwiceSpec)

/-- 'busbarlaw05.ClockPlays', WHERE WHAT IT READS IS OF BULK AT MOST 1048576: true; the input reads as it did. -/
def clockPlaysUptoRow : OpenClaim := { program := "ytbhgnhbaimemmaa", sum := "85e3d8501be501f1f2f9647e5211da3068a591d2d1ae03ae6cf12ba82b8b2c2e", func := "busbar/busbarlaw05.ClockPlays", spec := "clockPlays", apart := false, narrowed := true }
def ClockPlaysUptoSaid : Prop := clockPlaysUptoRow.holds Try.pinned (OpenSpec.upto clockPlaysSpec)

/-- 'busbarlaw05.ClockApart', WHERE WHAT IT READS IS OF BULK AT MOST 1048576: true; the input reads as it did. -/
def clockApartUptoRow : OpenClaim := { program := "ytbhgnhbaimemmaa", sum := "85e3d8501be501f1f2f9647e5211da3068a591d2d1ae03ae6cf12ba82b8b2c2e", func := "busbar/busbarlaw05.ClockApart", spec := "clockApart", apart := false, narrowed := true }
def ClockApartUptoSaid : Prop := clockApartUptoRow.holds Try.pinned (OpenSpec.upto clockApartSpec)

/-- 'busbarlaw05.ClockSlips', WHERE WHAT IT READS IS OF BULK AT MOST 1048576: true; the input reads as it did. -/
def clockSlipsUptoRow : OpenClaim := { program := "ytbhgnhbaimemmaa", sum := "85e3d8501be501f1f2f9647e5211da3068a591d2d1ae03ae6cf12ba82b8b2c2e", func := "busbar/busbarlaw05.ClockSlips", spec := "clockSlips", apart := false, narrowed := true }
def ClockSlipsUptoSaid : Prop := clockSlipsUptoRow.holds Try.pinned (OpenSpec.upto clockSlipsSpec)

/-- 'busbarlaw05.ClockOnce', WHERE WHAT IT READS IS OF BULK AT MOST 1048576: true; the input reads as it did. -/
def clockOnceUptoRow : OpenClaim := { program := "ytbhgnhbaimemmaa", sum := "85e3d8501be501f1f2f9647e5211da3068a591d2d1ae03ae6cf12ba82b8b2c2e", func := "busbar/busbarlaw05.ClockOnce", spec := "clockOnce", apart := false, narrowed := true }
def ClockOnceUptoSaid : Prop := clockOnceUptoRow.holds Try.pinned (OpenSpec.upto clockOnceSpec)

/-- 'busbarlaw05.ClockNobody', WHERE WHAT IT READS IS OF BULK AT MOST 1048576: true; the input reads as it did. -/
def clockNobodyUptoRow : OpenClaim := { program := "ytbhgnhbaimemmaa", sum := "85e3d8501be501f1f2f9647e5211da3068a591d2d1ae03ae6cf12ba82b8b2c2e", func := "busbar/busbarlaw05.ClockNobody", spec := "clockNobody", apart := false, narrowed := true }
def ClockNobodyUptoSaid : Prop := clockNobodyUptoRow.holds Try.pinned (OpenSpec.upto clockNobodySpec)

/-- 'busbarlaw06.RunsTell', WHERE WHAT IT READS IS OF BULK AT MOST 1048576: true; the input reads as it did. -/
def runsTellUptoRow : OpenClaim := { program := "ytbhgnhbaimemmaa", sum := "85e3d8501be501f1f2f9647e5211da3068a591d2d1ae03ae6cf12ba82b8b2c2e", func := "busbar/busbarlaw06.RunsTell", spec := "runsTell", unfollowed := true, recurses := true, apart := false, narrowed := true }
def RunsTellUptoSaid : Prop := runsTellUptoRow.holds Try.pinned (OpenSpec.upto runsTellSpec)

/-- 'busbarlaw06.RunsHold', WHERE WHAT IT READS IS OF BULK AT MOST 1048576: true; the input reads as it did. -/
def runsHoldUptoRow : OpenClaim := { program := "ytbhgnhbaimemmaa", sum := "85e3d8501be501f1f2f9647e5211da3068a591d2d1ae03ae6cf12ba82b8b2c2e", func := "busbar/busbarlaw06.RunsHold", spec := "runsHold", unfollowed := true, recurses := true, apart := false, narrowed := true }
def RunsHoldUptoSaid : Prop := runsHoldUptoRow.holds Try.pinned (OpenSpec.upto runsHoldSpec)

/-- 'busbarlaw06.RunsNobody', WHERE WHAT IT READS IS OF BULK AT MOST 1048576: true; the input reads as it did. -/
def runsNobodyUptoRow : OpenClaim := { program := "ytbhgnhbaimemmaa", sum := "85e3d8501be501f1f2f9647e5211da3068a591d2d1ae03ae6cf12ba82b8b2c2e", func := "busbar/busbarlaw06.RunsNobody", spec := "runsNobody", unfollowed := true, recurses := true, apart := false, narrowed := true }
def RunsNobodyUptoSaid : Prop := runsNobodyUptoRow.holds Try.pinned (OpenSpec.upto runsNobodySpec)

/-- 'busbarlaw06.RunsLater', WHERE WHAT IT READS IS OF BULK AT MOST 1048576: true; the input reads as it did. -/
def runsLaterUptoRow : OpenClaim := { program := "ytbhgnhbaimemmaa", sum := "85e3d8501be501f1f2f9647e5211da3068a591d2d1ae03ae6cf12ba82b8b2c2e", func := "busbar/busbarlaw06.RunsLater", spec := "runsLater", unfollowed := true, recurses := true, apart := false, narrowed := true }
def RunsLaterUptoSaid : Prop := runsLaterUptoRow.holds Try.pinned (OpenSpec.upto runsLaterSpec)

end Rows
end Go.Proofs.Ytbhgnhbaimemmaa
