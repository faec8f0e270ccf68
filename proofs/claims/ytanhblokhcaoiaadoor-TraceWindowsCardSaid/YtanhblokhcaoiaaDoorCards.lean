/-
  DERIVED. GIVEN WITH THE SEED: THE CARDS: each row of YtanhblokhcaoiaaDoorRows.lean that lists a variable, with what it lists TIED to the program's text (the seventh form; the later family's looks); each row that meets fmt, with fmt's text TOLD by the authors' own Lean function (tested against real Go, not proved from fmt's source: count such statements apart). THE CARD IS WHAT COUNTS. Prove the row's statement (the work); the ties are given (YtanhblokhcaoiaaDoorTie.lean); close each card by the builder's one call (the guide's Derived/Test/ToyasCard.lean, 'card_holds'). Laid BY PROGRAM, IN A SANDBOX (cutbox-door.mjs). By AI agents, Wed Nov 11 2026. No macro, syntax, notation, axiom, sorry.
-/
import Derived.Test.YtanhblokhcaoiaaDoorRows
import GoSem.ClaimSeven
namespace Go.Proofs.YtanhblokhcaoiaaDoor
namespace Rows

/-- THE TIED CARD OF 'busbarlaw40.DiagTells'. -/
def diagTellsCard : Claim7 := { stood := { row := diagTellsRow, standIns := [], harness := (true, "bc0ff8ef0f67c643b5d24f7c3d473c4026828a30c24d2a490a1dee591fa971c1"), looks := false }, kinds := [], alts := [], laidByText := true, laidKinds := [.data, .data, .data, .data], laidTests := true, laidLooks := .later }
def DiagTellsCardSaid : Prop := Claim7.holds Tryd.pinned (.plain (OpenSpec.ofChange diagTellsSpec)) diagTellsCard

/-- THE TIED CARD OF 'busbarlaw40.DiagCounts'. -/
def diagCountsCard : Claim7 := { stood := { row := diagCountsRow, standIns := [], harness := (true, "bc0ff8ef0f67c643b5d24f7c3d473c4026828a30c24d2a490a1dee591fa971c1"), looks := false }, kinds := [], alts := [], laidByText := true, laidKinds := [.data, .data, .data, .data], laidTests := true, laidLooks := .later }
def DiagCountsCardSaid : Prop := Claim7.holds Tryd.pinned (.plain (OpenSpec.ofChange diagCountsSpec)) diagCountsCard

/-- THE TIED CARD OF 'busbarlaw33.HealthCounts'. -/
def healthCountsCard : Claim7 := { stood := { row := healthCountsRow, standIns := [], harness := (true, "bc0ff8ef0f67c643b5d24f7c3d473c4026828a30c24d2a490a1dee591fa971c1"), looks := false }, kinds := [], alts := [], laidByText := true, laidKinds := [.data, .data, .data], laidTests := true, laidLooks := .later }
def HealthCountsCardSaid : Prop := Claim7.holds Tryd.pinned (.plain (OpenSpec.ofChange healthCountsSpec)) healthCountsCard

/-- THE TIED CARD OF 'busbarlaw28.TraceTexts'. -/
def traceTextsCard : Claim7 := { stood := { row := traceTextsRow, standIns := [], harness := (true, "bc0ff8ef0f67c643b5d24f7c3d473c4026828a30c24d2a490a1dee591fa971c1"), looks := false }, kinds := [], alts := [], laidByText := true, laidKinds := [.data, .data, .data], laidTests := true, laidLooks := .later }
def TraceTextsCardSaid : Prop := Claim7.holds Tryd.pinned (.plain (OpenSpec.ofChange traceTextsSpec)) traceTextsCard

/-- THE TIED CARD OF 'busbarlaw28.TraceWindows'. -/
def traceWindowsCard : Claim7 := { stood := { row := traceWindowsRow, standIns := [], harness := (true, "bc0ff8ef0f67c643b5d24f7c3d473c4026828a30c24d2a490a1dee591fa971c1"), looks := false }, kinds := [], alts := [], laidByText := true, laidKinds := [.data, .data, .data], laidTests := true, laidLooks := .later }
def TraceWindowsCardSaid : Prop := Claim7.holds Tryd.pinned (.plain (OpenSpec.ofChange traceWindowsSpec)) traceWindowsCard

/-- THE TIED CARD OF 'busbarlaw28.TraceAll'. -/
def traceAllCard : Claim7 := { stood := { row := traceAllRow, standIns := [], harness := (true, "bc0ff8ef0f67c643b5d24f7c3d473c4026828a30c24d2a490a1dee591fa971c1"), looks := false }, kinds := [], alts := [], laidByText := true, laidKinds := [.data, .data, .data], laidTests := true, laidLooks := .later }
def TraceAllCardSaid : Prop := Claim7.holds Tryd.pinned (.plain (OpenSpec.ofChange traceAllSpec)) traceAllCard

/-- THE SECOND FORM's CARD OF 'busbarlaw40.DiagTells'. -/
def diagTellsUptoCard : Claim7 := { stood := { row := diagTellsUptoRow, standIns := [], harness := (true, "bc0ff8ef0f67c643b5d24f7c3d473c4026828a30c24d2a490a1dee591fa971c1"), looks := false }, kinds := [], alts := [], laidByText := true, laidKinds := [.data, .data, .data, .data], laidTests := true, laidLooks := .later }
def DiagTellsUptoCardSaid : Prop := Claim7.holds Tryd.pinned (.plain (OpenSpec.upto diagTellsSpec)) diagTellsUptoCard

/-- THE SECOND FORM's CARD OF 'busbarlaw40.DiagCounts'. -/
def diagCountsUptoCard : Claim7 := { stood := { row := diagCountsUptoRow, standIns := [], harness := (true, "bc0ff8ef0f67c643b5d24f7c3d473c4026828a30c24d2a490a1dee591fa971c1"), looks := false }, kinds := [], alts := [], laidByText := true, laidKinds := [.data, .data, .data, .data], laidTests := true, laidLooks := .later }
def DiagCountsUptoCardSaid : Prop := Claim7.holds Tryd.pinned (.plain (OpenSpec.upto diagCountsSpec)) diagCountsUptoCard

/-- THE SECOND FORM's CARD OF 'busbarlaw33.HealthCounts'. -/
def healthCountsUptoCard : Claim7 := { stood := { row := healthCountsUptoRow, standIns := [], harness := (true, "bc0ff8ef0f67c643b5d24f7c3d473c4026828a30c24d2a490a1dee591fa971c1"), looks := false }, kinds := [], alts := [], laidByText := true, laidKinds := [.data, .data, .data], laidTests := true, laidLooks := .later }
def HealthCountsUptoCardSaid : Prop := Claim7.holds Tryd.pinned (.plain (OpenSpec.upto healthCountsSpec)) healthCountsUptoCard

/-- THE SECOND FORM's CARD OF 'busbarlaw28.TraceTexts'. -/
def traceTextsUptoCard : Claim7 := { stood := { row := traceTextsUptoRow, standIns := [], harness := (true, "bc0ff8ef0f67c643b5d24f7c3d473c4026828a30c24d2a490a1dee591fa971c1"), looks := false }, kinds := [], alts := [], laidByText := true, laidKinds := [.data, .data, .data], laidTests := true, laidLooks := .later }
def TraceTextsUptoCardSaid : Prop := Claim7.holds Tryd.pinned (.plain (OpenSpec.upto traceTextsSpec)) traceTextsUptoCard

/-- THE SECOND FORM's CARD OF 'busbarlaw28.TraceWindows'. -/
def traceWindowsUptoCard : Claim7 := { stood := { row := traceWindowsUptoRow, standIns := [], harness := (true, "bc0ff8ef0f67c643b5d24f7c3d473c4026828a30c24d2a490a1dee591fa971c1"), looks := false }, kinds := [], alts := [], laidByText := true, laidKinds := [.data, .data, .data], laidTests := true, laidLooks := .later }
def TraceWindowsUptoCardSaid : Prop := Claim7.holds Tryd.pinned (.plain (OpenSpec.upto traceWindowsSpec)) traceWindowsUptoCard

/-- THE SECOND FORM's CARD OF 'busbarlaw28.TraceAll'. -/
def traceAllUptoCard : Claim7 := { stood := { row := traceAllUptoRow, standIns := [], harness := (true, "bc0ff8ef0f67c643b5d24f7c3d473c4026828a30c24d2a490a1dee591fa971c1"), looks := false }, kinds := [], alts := [], laidByText := true, laidKinds := [.data, .data, .data], laidTests := true, laidLooks := .later }
def TraceAllUptoCardSaid : Prop := Claim7.holds Tryd.pinned (.plain (OpenSpec.upto traceAllSpec)) traceAllUptoCard
end Rows
end Go.Proofs.YtanhblokhcaoiaaDoor
