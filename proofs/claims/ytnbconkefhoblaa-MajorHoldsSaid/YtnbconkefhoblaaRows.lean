/-
  No cell of these rows narrows 'for every input' (looked for: loops, veiled, ifaces, maps, wideKeys, modest, calm, conditions, laid).
  DERIVED. THE GIVEN ROWS OF THIS SEAT. 14 by the template 'for every input the law returns true; each argument reads behind the call as it read before'; 0 by the template 'total and deterministic' (their statements: YtnbconkefhoblaaTotals.lean).
  GIVEN WITH THE SEED: the statements are not yours to turn. If you find one false, say at which input.
  Laid BY PROGRAM, IN A SANDBOX (cutbox-rows.mjs): the forced cells as the released guide's own fill.sh prints them over the translation 39a3438faa0fe75f… (all of the seat's roots in one cut). By AI agents, Wed Nov 11 2026. No macro, syntax, notation, axiom, sorry.
-/
import Derived.Test.YtnbconkefhoblaaChecked
import GoSem.Claim
import GoSem.ClaimJoined
import GoSem.ClaimMapViews
import Derived.JoinedTies
import Derived.KernelRfl
namespace Go.Proofs.Ytnbconkefhoblaa
/- THE CELL 'sum', in the pinned program and in every row, IS THE sha256 OF THE DUMP (.gsa) THAT YtnbconkefhoblaaProg.lean LOADS. Nothing in Lean hashes anything: it is a label: what it is worth is what the hold of that sum in a sandbox is worth. -/
noncomputable def Try.pinned : Pinned := { name := "ytnbconkefhoblaa", sum := "39a3438faa0fe75fcb23b8b0cdc1cc494569380238f58bdeba2f4dd390d35450", checked := Try.checked }
namespace Rows
def none {H : Type} : Left H := { results := [], args := [] }

/-- 'busbarlaw16.MajorVotes': WHATEVER THE INPUT: true; the input reads as it did. -/
def majorVotesSpec : ChangeSpec := { name := "majorVotes", fn := fun _ => fun
  | [d1, d2] => { results := [.lit (.bool true)], args := [d1, d2] }
  | _ => none }
def majorVotesRow : OpenClaim := { program := "ytnbconkefhoblaa", sum := "39a3438faa0fe75fcb23b8b0cdc1cc494569380238f58bdeba2f4dd390d35450", func := "busbar/busbarlaw16.MajorVotes", spec := "majorVotes", plainKeys := false, apart := false }
def MajorVotesSaid : Prop := majorVotesRow.holds Try.pinned (OpenSpec.ofChange majorVotesSpec)

/-- ITS FALSE NEIGHBOUR: 'it returns false'. Refute it at one input. -/
def majorVotesWrong : ChangeSpec := { name := "majorVotes", fn := fun _ => fun
  | [d1, d2] => { results := [.lit (.bool false)], args := [d1, d2] }
  | _ => none }
def MajorVotesWrongFalsely : Prop := majorVotesRow.holds Try.pinned (OpenSpec.ofChange majorVotesWrong)

/-- 'busbarlaw16.MajorHolds': WHATEVER THE INPUT: true; the input reads as it did. -/
def majorHoldsSpec : ChangeSpec := { name := "majorHolds", fn := fun _ => fun
  | [d1, d2, d3] => { results := [.lit (.bool true)], args := [d1, d2, d3] }
  | _ => none }
def majorHoldsRow : OpenClaim := { program := "ytnbconkefhoblaa", sum := "39a3438faa0fe75fcb23b8b0cdc1cc494569380238f58bdeba2f4dd390d35450", func := "busbar/busbarlaw16.MajorHolds", spec := "majorHolds", plainKeys := false, apart := false }
def MajorHoldsSaid : Prop := majorHoldsRow.holds Try.pinned (OpenSpec.ofChange majorHoldsSpec)

/-- ITS FALSE NEIGHBOUR: 'it returns false'. Refute it at one input. -/
def majorHoldsWrong : ChangeSpec := { name := "majorHolds", fn := fun _ => fun
  | [d1, d2, d3] => { results := [.lit (.bool false)], args := [d1, d2, d3] }
  | _ => none }
def MajorHoldsWrongFalsely : Prop := majorHoldsRow.holds Try.pinned (OpenSpec.ofChange majorHoldsWrong)

/-- 'busbarlaw20.FaultTells': WHATEVER THE INPUT: true; the input reads as it did. -/
def faultTellsSpec : ChangeSpec := { name := "faultTells", fn := fun _ => fun
  | [d1, d2, d3] => { results := [.lit (.bool true)], args := [d1, d2, d3] }
  | _ => none }
def faultTellsRow : OpenClaim := { program := "ytnbconkefhoblaa", sum := "39a3438faa0fe75fcb23b8b0cdc1cc494569380238f58bdeba2f4dd390d35450", func := "busbar/busbarlaw20.FaultTells", spec := "faultTells", plainKeys := false, apart := false }
def FaultTellsSaid : Prop := faultTellsRow.holds Try.pinned (OpenSpec.ofChange faultTellsSpec)

/-- ITS FALSE NEIGHBOUR: 'it returns false'. Refute it at one input. -/
def faultTellsWrong : ChangeSpec := { name := "faultTells", fn := fun _ => fun
  | [d1, d2, d3] => { results := [.lit (.bool false)], args := [d1, d2, d3] }
  | _ => none }
def FaultTellsWrongFalsely : Prop := faultTellsRow.holds Try.pinned (OpenSpec.ofChange faultTellsWrong)

/-- 'busbarlaw20.FaultLines': WHATEVER THE INPUT: true; the input reads as it did. -/
def faultLinesSpec : ChangeSpec := { name := "faultLines", fn := fun _ => fun
  | [d1, d2, d3] => { results := [.lit (.bool true)], args := [d1, d2, d3] }
  | _ => none }
def faultLinesRow : OpenClaim := { program := "ytnbconkefhoblaa", sum := "39a3438faa0fe75fcb23b8b0cdc1cc494569380238f58bdeba2f4dd390d35450", func := "busbar/busbarlaw20.FaultLines", spec := "faultLines", plainKeys := false, apart := false }
def FaultLinesSaid : Prop := faultLinesRow.holds Try.pinned (OpenSpec.ofChange faultLinesSpec)

/-- ITS FALSE NEIGHBOUR: 'it returns false'. Refute it at one input. -/
def faultLinesWrong : ChangeSpec := { name := "faultLines", fn := fun _ => fun
  | [d1, d2, d3] => { results := [.lit (.bool false)], args := [d1, d2, d3] }
  | _ => none }
def FaultLinesWrongFalsely : Prop := faultLinesRow.holds Try.pinned (OpenSpec.ofChange faultLinesWrong)

/-- 'busbarlaw20.FaultOnly': WHATEVER THE INPUT: true; the input reads as it did. -/
def faultOnlySpec : ChangeSpec := { name := "faultOnly", fn := fun _ => fun
  | [d1, d2, d3] => { results := [.lit (.bool true)], args := [d1, d2, d3] }
  | _ => none }
def faultOnlyRow : OpenClaim := { program := "ytnbconkefhoblaa", sum := "39a3438faa0fe75fcb23b8b0cdc1cc494569380238f58bdeba2f4dd390d35450", func := "busbar/busbarlaw20.FaultOnly", spec := "faultOnly", plainKeys := false, apart := false }
def FaultOnlySaid : Prop := faultOnlyRow.holds Try.pinned (OpenSpec.ofChange faultOnlySpec)

/-- ITS FALSE NEIGHBOUR: 'it returns false'. Refute it at one input. -/
def faultOnlyWrong : ChangeSpec := { name := "faultOnly", fn := fun _ => fun
  | [d1, d2, d3] => { results := [.lit (.bool false)], args := [d1, d2, d3] }
  | _ => none }
def FaultOnlyWrongFalsely : Prop := faultOnlyRow.holds Try.pinned (OpenSpec.ofChange faultOnlyWrong)

/-- 'busbarlaw20.FaultAgain': WHATEVER THE INPUT: true; the input reads as it did. -/
def faultAgainSpec : ChangeSpec := { name := "faultAgain", fn := fun _ => fun
  | [d1, d2, d3] => { results := [.lit (.bool true)], args := [d1, d2, d3] }
  | _ => none }
def faultAgainRow : OpenClaim := { program := "ytnbconkefhoblaa", sum := "39a3438faa0fe75fcb23b8b0cdc1cc494569380238f58bdeba2f4dd390d35450", func := "busbar/busbarlaw20.FaultAgain", spec := "faultAgain", plainKeys := false, apart := false }
def FaultAgainSaid : Prop := faultAgainRow.holds Try.pinned (OpenSpec.ofChange faultAgainSpec)

/-- ITS FALSE NEIGHBOUR: 'it returns false'. Refute it at one input. -/
def faultAgainWrong : ChangeSpec := { name := "faultAgain", fn := fun _ => fun
  | [d1, d2, d3] => { results := [.lit (.bool false)], args := [d1, d2, d3] }
  | _ => none }
def FaultAgainWrongFalsely : Prop := faultAgainRow.holds Try.pinned (OpenSpec.ofChange faultAgainWrong)

/-- 'busbarlaw21.BudgetChecks': WHATEVER THE INPUT: true; the input reads as it did. -/
def budgetChecksSpec : ChangeSpec := { name := "budgetChecks", fn := fun _ => fun
  | [d1, d2] => { results := [.lit (.bool true)], args := [d1, d2] }
  | _ => none }
def budgetChecksRow : OpenClaim := { program := "ytnbconkefhoblaa", sum := "39a3438faa0fe75fcb23b8b0cdc1cc494569380238f58bdeba2f4dd390d35450", func := "busbar/busbarlaw21.BudgetChecks", spec := "budgetChecks", plainKeys := false, apart := false }
def BudgetChecksSaid : Prop := budgetChecksRow.holds Try.pinned (OpenSpec.ofChange budgetChecksSpec)

/-- ITS FALSE NEIGHBOUR: 'it returns false'. Refute it at one input. -/
def budgetChecksWrong : ChangeSpec := { name := "budgetChecks", fn := fun _ => fun
  | [d1, d2] => { results := [.lit (.bool false)], args := [d1, d2] }
  | _ => none }
def BudgetChecksWrongFalsely : Prop := budgetChecksRow.holds Try.pinned (OpenSpec.ofChange budgetChecksWrong)

/-- 'busbarlaw21.BudgetFits': WHATEVER THE INPUT: true; the input reads as it did. -/
def budgetFitsSpec : ChangeSpec := { name := "budgetFits", fn := fun _ => fun
  | [d1, d2] => { results := [.lit (.bool true)], args := [d1, d2] }
  | _ => none }
def budgetFitsRow : OpenClaim := { program := "ytnbconkefhoblaa", sum := "39a3438faa0fe75fcb23b8b0cdc1cc494569380238f58bdeba2f4dd390d35450", func := "busbar/busbarlaw21.BudgetFits", spec := "budgetFits", plainKeys := false, apart := false }
def BudgetFitsSaid : Prop := budgetFitsRow.holds Try.pinned (OpenSpec.ofChange budgetFitsSpec)

/-- ITS FALSE NEIGHBOUR: 'it returns false'. Refute it at one input. -/
def budgetFitsWrong : ChangeSpec := { name := "budgetFits", fn := fun _ => fun
  | [d1, d2] => { results := [.lit (.bool false)], args := [d1, d2] }
  | _ => none }
def BudgetFitsWrongFalsely : Prop := budgetFitsRow.holds Try.pinned (OpenSpec.ofChange budgetFitsWrong)

/-- 'busbarlaw36.MarginTells': WHATEVER THE INPUT: true; the input reads as it did. -/
def marginTellsSpec : ChangeSpec := { name := "marginTells", fn := fun _ => fun
  | [d1, d2] => { results := [.lit (.bool true)], args := [d1, d2] }
  | _ => none }
def marginTellsRow : OpenClaim := { program := "ytnbconkefhoblaa", sum := "39a3438faa0fe75fcb23b8b0cdc1cc494569380238f58bdeba2f4dd390d35450", func := "busbar/busbarlaw36.MarginTells", spec := "marginTells", plainKeys := false, apart := false }
def MarginTellsSaid : Prop := marginTellsRow.holds Try.pinned (OpenSpec.ofChange marginTellsSpec)

/-- ITS FALSE NEIGHBOUR: 'it returns false'. Refute it at one input. -/
def marginTellsWrong : ChangeSpec := { name := "marginTells", fn := fun _ => fun
  | [d1, d2] => { results := [.lit (.bool false)], args := [d1, d2] }
  | _ => none }
def MarginTellsWrongFalsely : Prop := marginTellsRow.holds Try.pinned (OpenSpec.ofChange marginTellsWrong)

/-- 'busbarlaw36.MarginGrows': WHATEVER THE INPUT: true; the input reads as it did. -/
def marginGrowsSpec : ChangeSpec := { name := "marginGrows", fn := fun _ => fun
  | [d1, d2, d3] => { results := [.lit (.bool true)], args := [d1, d2, d3] }
  | _ => none }
def marginGrowsRow : OpenClaim := { program := "ytnbconkefhoblaa", sum := "39a3438faa0fe75fcb23b8b0cdc1cc494569380238f58bdeba2f4dd390d35450", func := "busbar/busbarlaw36.MarginGrows", spec := "marginGrows", unfollowed := true, recurses := true, plainKeys := false, apart := false }
def MarginGrowsSaid : Prop := marginGrowsRow.holds Try.pinned (OpenSpec.ofChange marginGrowsSpec)

/-- ITS FALSE NEIGHBOUR: 'it returns false'. Refute it at one input. -/
def marginGrowsWrong : ChangeSpec := { name := "marginGrows", fn := fun _ => fun
  | [d1, d2, d3] => { results := [.lit (.bool false)], args := [d1, d2, d3] }
  | _ => none }
def MarginGrowsWrongFalsely : Prop := marginGrowsRow.holds Try.pinned (OpenSpec.ofChange marginGrowsWrong)

/-- 'busbarlaw36.MarginLongest': WHATEVER THE INPUT: true; the input reads as it did. -/
def marginLongestSpec : ChangeSpec := { name := "marginLongest", fn := fun _ => fun
  | [d1, d2] => { results := [.lit (.bool true)], args := [d1, d2] }
  | _ => none }
def marginLongestRow : OpenClaim := { program := "ytnbconkefhoblaa", sum := "39a3438faa0fe75fcb23b8b0cdc1cc494569380238f58bdeba2f4dd390d35450", func := "busbar/busbarlaw36.MarginLongest", spec := "marginLongest", plainKeys := false, apart := false }
def MarginLongestSaid : Prop := marginLongestRow.holds Try.pinned (OpenSpec.ofChange marginLongestSpec)

/-- ITS FALSE NEIGHBOUR: 'it returns false'. Refute it at one input. -/
def marginLongestWrong : ChangeSpec := { name := "marginLongest", fn := fun _ => fun
  | [d1, d2] => { results := [.lit (.bool false)], args := [d1, d2] }
  | _ => none }
def MarginLongestWrongFalsely : Prop := marginLongestRow.holds Try.pinned (OpenSpec.ofChange marginLongestWrong)

/-- 'busbarlaw42.LayoutPlaces': WHATEVER THE INPUT: true; the input reads as it did. -/
def layoutPlacesSpec : ChangeSpec := { name := "layoutPlaces", fn := fun _ => fun
  | [d1, d2, d3] => { results := [.lit (.bool true)], args := [d1, d2, d3] }
  | _ => none }
def layoutPlacesRow : OpenClaim := { program := "ytnbconkefhoblaa", sum := "39a3438faa0fe75fcb23b8b0cdc1cc494569380238f58bdeba2f4dd390d35450", func := "busbar/busbarlaw42.LayoutPlaces", spec := "layoutPlaces", plainKeys := false, apart := false }
def LayoutPlacesSaid : Prop := layoutPlacesRow.holds Try.pinned (OpenSpec.ofChange layoutPlacesSpec)

/-- ITS FALSE NEIGHBOUR: 'it returns false'. Refute it at one input. -/
def layoutPlacesWrong : ChangeSpec := { name := "layoutPlaces", fn := fun _ => fun
  | [d1, d2, d3] => { results := [.lit (.bool false)], args := [d1, d2, d3] }
  | _ => none }
def LayoutPlacesWrongFalsely : Prop := layoutPlacesRow.holds Try.pinned (OpenSpec.ofChange layoutPlacesWrong)

/-- 'busbarlaw42.LayoutTells': WHATEVER THE INPUT: true; the input reads as it did. -/
def layoutTellsSpec : ChangeSpec := { name := "layoutTells", fn := fun _ => fun
  | [d] => { results := [.lit (.bool true)], args := [d] }
  | _ => none }
def layoutTellsRow : OpenClaim := { program := "ytnbconkefhoblaa", sum := "39a3438faa0fe75fcb23b8b0cdc1cc494569380238f58bdeba2f4dd390d35450", func := "busbar/busbarlaw42.LayoutTells", spec := "layoutTells", plainKeys := false, apart := false }
def LayoutTellsSaid : Prop := layoutTellsRow.holds Try.pinned (OpenSpec.ofChange layoutTellsSpec)

/-- ITS FALSE NEIGHBOUR: 'it returns false'. Refute it at one input. -/
def layoutTellsWrong : ChangeSpec := { name := "layoutTells", fn := fun _ => fun
  | [d] => { results := [.lit (.bool false)], args := [d] }
  | _ => none }
def LayoutTellsWrongFalsely : Prop := layoutTellsRow.holds Try.pinned (OpenSpec.ofChange layoutTellsWrong)

/-- 'busbarlaw42.LayoutApart': WHATEVER THE INPUT: true; the input reads as it did. -/
def layoutApartSpec : ChangeSpec := { name := "layoutApart", fn := fun _ => fun
  | [d1, d2, d3] => { results := [.lit (.bool true)], args := [d1, d2, d3] }
  | _ => none }
def layoutApartRow : OpenClaim := { program := "ytnbconkefhoblaa", sum := "39a3438faa0fe75fcb23b8b0cdc1cc494569380238f58bdeba2f4dd390d35450", func := "busbar/busbarlaw42.LayoutApart", spec := "layoutApart", plainKeys := false, apart := false }
def LayoutApartSaid : Prop := layoutApartRow.holds Try.pinned (OpenSpec.ofChange layoutApartSpec)

/-- ITS FALSE NEIGHBOUR: 'it returns false'. Refute it at one input. -/
def layoutApartWrong : ChangeSpec := { name := "layoutApart", fn := fun _ => fun
  | [d1, d2, d3] => { results := [.lit (.bool false)], args := [d1, d2, d3] }
  | _ => none }
def LayoutApartWrongFalsely : Prop := layoutApartRow.holds Try.pinned (OpenSpec.ofChange layoutApartWrong)

/- THE SECOND FORM. 'bulk': how many values and letters a reading holds, each counted each time it is reached (what is shared counts as often as it is met; a slice's spare places count too). A statement '..UptoSaid' is the law's where the arguments, and the package variables that the reading takes, are together of bulk at most 1048576: NARROWER than '..Said'. Prove '..Said' where nothing that the law and all that it calls make is longer than what came in: it says more and counts as full. Else prove '..UptoSaid'. A law counts once. -/
mutual
def uptoBulk {H : Type} : DataW H → Nat
  | .lit (.string bytes) => bytes.length + 1
  | .lit _ => 1
  | .nil => 1
  | .ptr d => uptoBulk d + 1
  | .slice elems spare => uptoBulkAll elems + uptoBulkAll spare + 1
  | .agg parts => uptoBulkAll parts + 1
  | .iface _ d => uptoBulk d + 1
  | .map entries => uptoBulkEntries entries + 1
  | .held _ => 1
def uptoBulkAll {H : Type} : List (DataW H) → Nat
  | [] => 0
  | d :: r => uptoBulk d + uptoBulkAll r
def uptoBulkEntries {H : Type} : List (Lit × DataW H) → Nat
  | [] => 0
  | x :: r => uptoBulkEntry x + uptoBulkEntries r
def uptoBulkEntry {H : Type} : Lit × DataW H → Nat
  | (.string bytes, d) => bytes.length + uptoBulk d + 1
  | (_, d) => uptoBulk d + 1
 end
def uptoSmall : (H : Type) → List (DataW H) → Bool := fun _ ds => decide (uptoBulkAll ds ≤ 1048576)
def OpenSpec.upto (s : _root_.Go.ChangeSpec) : _root_.Go.OpenSpec := { _root_.Go.OpenSpec.ofChange s with cond := some uptoSmall }

/-- 'busbarlaw16.MajorVotes', WHERE WHAT IT READS IS OF BULK AT MOST 1048576: true; the input reads as it did. -/
def majorVotesUptoRow : OpenClaim := { program := "ytnbconkefhoblaa", sum := "39a3438faa0fe75fcb23b8b0cdc1cc494569380238f58bdeba2f4dd390d35450", func := "busbar/busbarlaw16.MajorVotes", spec := "majorVotes", plainKeys := false, apart := false, narrowed := true }
def MajorVotesUptoSaid : Prop := majorVotesUptoRow.holds Try.pinned (OpenSpec.upto majorVotesSpec)

/-- 'busbarlaw16.MajorHolds', WHERE WHAT IT READS IS OF BULK AT MOST 1048576: true; the input reads as it did. -/
def majorHoldsUptoRow : OpenClaim := { program := "ytnbconkefhoblaa", sum := "39a3438faa0fe75fcb23b8b0cdc1cc494569380238f58bdeba2f4dd390d35450", func := "busbar/busbarlaw16.MajorHolds", spec := "majorHolds", plainKeys := false, apart := false, narrowed := true }
def MajorHoldsUptoSaid : Prop := majorHoldsUptoRow.holds Try.pinned (OpenSpec.upto majorHoldsSpec)

/-- 'busbarlaw20.FaultTells', WHERE WHAT IT READS IS OF BULK AT MOST 1048576: true; the input reads as it did. -/
def faultTellsUptoRow : OpenClaim := { program := "ytnbconkefhoblaa", sum := "39a3438faa0fe75fcb23b8b0cdc1cc494569380238f58bdeba2f4dd390d35450", func := "busbar/busbarlaw20.FaultTells", spec := "faultTells", plainKeys := false, apart := false, narrowed := true }
def FaultTellsUptoSaid : Prop := faultTellsUptoRow.holds Try.pinned (OpenSpec.upto faultTellsSpec)

/-- 'busbarlaw20.FaultLines', WHERE WHAT IT READS IS OF BULK AT MOST 1048576: true; the input reads as it did. -/
def faultLinesUptoRow : OpenClaim := { program := "ytnbconkefhoblaa", sum := "39a3438faa0fe75fcb23b8b0cdc1cc494569380238f58bdeba2f4dd390d35450", func := "busbar/busbarlaw20.FaultLines", spec := "faultLines", plainKeys := false, apart := false, narrowed := true }
def FaultLinesUptoSaid : Prop := faultLinesUptoRow.holds Try.pinned (OpenSpec.upto faultLinesSpec)

/-- 'busbarlaw20.FaultOnly', WHERE WHAT IT READS IS OF BULK AT MOST 1048576: true; the input reads as it did. -/
def faultOnlyUptoRow : OpenClaim := { program := "ytnbconkefhoblaa", sum := "39a3438faa0fe75fcb23b8b0cdc1cc494569380238f58bdeba2f4dd390d35450", func := "busbar/busbarlaw20.FaultOnly", spec := "faultOnly", plainKeys := false, apart := false, narrowed := true }
def FaultOnlyUptoSaid : Prop := faultOnlyUptoRow.holds Try.pinned (OpenSpec.upto faultOnlySpec)

/-- 'busbarlaw20.FaultAgain', WHERE WHAT IT READS IS OF BULK AT MOST 1048576: true; the input reads as it did. -/
def faultAgainUptoRow : OpenClaim := { program := "ytnbconkefhoblaa", sum := "39a3438faa0fe75fcb23b8b0cdc1cc494569380238f58bdeba2f4dd390d35450", func := "busbar/busbarlaw20.FaultAgain", spec := "faultAgain", plainKeys := false, apart := false, narrowed := true }
def FaultAgainUptoSaid : Prop := faultAgainUptoRow.holds Try.pinned (OpenSpec.upto faultAgainSpec)

/-- 'busbarlaw21.BudgetChecks', WHERE WHAT IT READS IS OF BULK AT MOST 1048576: true; the input reads as it did. -/
def budgetChecksUptoRow : OpenClaim := { program := "ytnbconkefhoblaa", sum := "39a3438faa0fe75fcb23b8b0cdc1cc494569380238f58bdeba2f4dd390d35450", func := "busbar/busbarlaw21.BudgetChecks", spec := "budgetChecks", plainKeys := false, apart := false, narrowed := true }
def BudgetChecksUptoSaid : Prop := budgetChecksUptoRow.holds Try.pinned (OpenSpec.upto budgetChecksSpec)

/-- 'busbarlaw21.BudgetFits', WHERE WHAT IT READS IS OF BULK AT MOST 1048576: true; the input reads as it did. -/
def budgetFitsUptoRow : OpenClaim := { program := "ytnbconkefhoblaa", sum := "39a3438faa0fe75fcb23b8b0cdc1cc494569380238f58bdeba2f4dd390d35450", func := "busbar/busbarlaw21.BudgetFits", spec := "budgetFits", plainKeys := false, apart := false, narrowed := true }
def BudgetFitsUptoSaid : Prop := budgetFitsUptoRow.holds Try.pinned (OpenSpec.upto budgetFitsSpec)

/-- 'busbarlaw36.MarginTells', WHERE WHAT IT READS IS OF BULK AT MOST 1048576: true; the input reads as it did. -/
def marginTellsUptoRow : OpenClaim := { program := "ytnbconkefhoblaa", sum := "39a3438faa0fe75fcb23b8b0cdc1cc494569380238f58bdeba2f4dd390d35450", func := "busbar/busbarlaw36.MarginTells", spec := "marginTells", plainKeys := false, apart := false, narrowed := true }
def MarginTellsUptoSaid : Prop := marginTellsUptoRow.holds Try.pinned (OpenSpec.upto marginTellsSpec)

/-- 'busbarlaw36.MarginGrows', WHERE WHAT IT READS IS OF BULK AT MOST 1048576: true; the input reads as it did. -/
def marginGrowsUptoRow : OpenClaim := { program := "ytnbconkefhoblaa", sum := "39a3438faa0fe75fcb23b8b0cdc1cc494569380238f58bdeba2f4dd390d35450", func := "busbar/busbarlaw36.MarginGrows", spec := "marginGrows", unfollowed := true, recurses := true, plainKeys := false, apart := false, narrowed := true }
def MarginGrowsUptoSaid : Prop := marginGrowsUptoRow.holds Try.pinned (OpenSpec.upto marginGrowsSpec)

/-- 'busbarlaw36.MarginLongest', WHERE WHAT IT READS IS OF BULK AT MOST 1048576: true; the input reads as it did. -/
def marginLongestUptoRow : OpenClaim := { program := "ytnbconkefhoblaa", sum := "39a3438faa0fe75fcb23b8b0cdc1cc494569380238f58bdeba2f4dd390d35450", func := "busbar/busbarlaw36.MarginLongest", spec := "marginLongest", plainKeys := false, apart := false, narrowed := true }
def MarginLongestUptoSaid : Prop := marginLongestUptoRow.holds Try.pinned (OpenSpec.upto marginLongestSpec)

/-- 'busbarlaw42.LayoutPlaces', WHERE WHAT IT READS IS OF BULK AT MOST 1048576: true; the input reads as it did. -/
def layoutPlacesUptoRow : OpenClaim := { program := "ytnbconkefhoblaa", sum := "39a3438faa0fe75fcb23b8b0cdc1cc494569380238f58bdeba2f4dd390d35450", func := "busbar/busbarlaw42.LayoutPlaces", spec := "layoutPlaces", plainKeys := false, apart := false, narrowed := true }
def LayoutPlacesUptoSaid : Prop := layoutPlacesUptoRow.holds Try.pinned (OpenSpec.upto layoutPlacesSpec)

/-- 'busbarlaw42.LayoutTells', WHERE WHAT IT READS IS OF BULK AT MOST 1048576: true; the input reads as it did. -/
def layoutTellsUptoRow : OpenClaim := { program := "ytnbconkefhoblaa", sum := "39a3438faa0fe75fcb23b8b0cdc1cc494569380238f58bdeba2f4dd390d35450", func := "busbar/busbarlaw42.LayoutTells", spec := "layoutTells", plainKeys := false, apart := false, narrowed := true }
def LayoutTellsUptoSaid : Prop := layoutTellsUptoRow.holds Try.pinned (OpenSpec.upto layoutTellsSpec)

/-- 'busbarlaw42.LayoutApart', WHERE WHAT IT READS IS OF BULK AT MOST 1048576: true; the input reads as it did. -/
def layoutApartUptoRow : OpenClaim := { program := "ytnbconkefhoblaa", sum := "39a3438faa0fe75fcb23b8b0cdc1cc494569380238f58bdeba2f4dd390d35450", func := "busbar/busbarlaw42.LayoutApart", spec := "layoutApart", plainKeys := false, apart := false, narrowed := true }
def LayoutApartUptoSaid : Prop := layoutApartUptoRow.holds Try.pinned (OpenSpec.upto layoutApartSpec)

end Rows
end Go.Proofs.Ytnbconkefhoblaa
