/-
  DERIVED. GIVEN WITH THE SEED: THE CARDS: each row of YtkankdecbefenaaDoorRows.lean that lists a variable, with what it lists TIED to the program's text (the seventh form; the later family's looks); each row that meets fmt, with fmt's text TOLD by the authors' own Lean function (tested against real Go, not proved from fmt's source: count such statements apart). THE CARD IS WHAT COUNTS. Prove the row's statement (the work); the ties are given (YtkankdecbefenaaDoorTie.lean); close each card by the builder's one call (the guide's Derived/Test/ToyasCard.lean, 'card_holds'). Laid BY PROGRAM, IN A SANDBOX (cutbox-door.mjs). By AI agents, Wed Nov 11 2026. No macro, syntax, notation, axiom, sorry.
-/
import Derived.Test.YtkankdecbefenaaDoorRows
import GoSem.ClaimSeven
namespace Go.Proofs.YtkankdecbefenaaDoor
namespace Rows

/-- THE TIED CARD OF 'busbarlaw43.CalendarTells'. -/
def calendarTellsCard : Claim7 := { stood := { row := calendarTellsRow, standIns := [], harness := (true, "6fdcdfcdc362b630eb542eed5ad3cba10671528b32ee4d814eb411d8b75f90f6"), looks := false }, kinds := [], alts := [], laidByText := true, laidKinds := [.data, .data, .data], laidTests := true, laidLooks := .later }
def CalendarTellsCardSaid : Prop := Claim7.holds Tryd.pinned (.plain (OpenSpec.ofChange calendarTellsSpec)) calendarTellsCard

/-- THE TIED CARD OF 'busbarlaw43.CalendarAges'. -/
def calendarAgesCard : Claim7 := { stood := { row := calendarAgesRow, standIns := [], harness := (true, "6fdcdfcdc362b630eb542eed5ad3cba10671528b32ee4d814eb411d8b75f90f6"), looks := false }, kinds := [], alts := [], laidByText := true, laidKinds := [.data, .data, .data], laidTests := true, laidLooks := .later }
def CalendarAgesCardSaid : Prop := Claim7.holds Tryd.pinned (.plain (OpenSpec.ofChange calendarAgesSpec)) calendarAgesCard

/-- THE TIED CARD OF 'busbarlaw43.CalendarGoes'. -/
def calendarGoesCard : Claim7 := { stood := { row := calendarGoesRow, standIns := [], harness := (true, "6fdcdfcdc362b630eb542eed5ad3cba10671528b32ee4d814eb411d8b75f90f6"), looks := false }, kinds := [], alts := [], laidByText := true, laidKinds := [.data, .data, .data], laidTests := true, laidLooks := .later }
def CalendarGoesCardSaid : Prop := Claim7.holds Tryd.pinned (.plain (OpenSpec.ofChange calendarGoesSpec)) calendarGoesCard

/-- THE SECOND FORM's CARD OF 'busbarlaw43.CalendarTells'. -/
def calendarTellsUptoCard : Claim7 := { stood := { row := calendarTellsUptoRow, standIns := [], harness := (true, "6fdcdfcdc362b630eb542eed5ad3cba10671528b32ee4d814eb411d8b75f90f6"), looks := false }, kinds := [], alts := [], laidByText := true, laidKinds := [.data, .data, .data], laidTests := true, laidLooks := .later }
def CalendarTellsUptoCardSaid : Prop := Claim7.holds Tryd.pinned (.plain (OpenSpec.upto calendarTellsSpec)) calendarTellsUptoCard

/-- THE SECOND FORM's CARD OF 'busbarlaw43.CalendarAges'. -/
def calendarAgesUptoCard : Claim7 := { stood := { row := calendarAgesUptoRow, standIns := [], harness := (true, "6fdcdfcdc362b630eb542eed5ad3cba10671528b32ee4d814eb411d8b75f90f6"), looks := false }, kinds := [], alts := [], laidByText := true, laidKinds := [.data, .data, .data], laidTests := true, laidLooks := .later }
def CalendarAgesUptoCardSaid : Prop := Claim7.holds Tryd.pinned (.plain (OpenSpec.upto calendarAgesSpec)) calendarAgesUptoCard

/-- THE SECOND FORM's CARD OF 'busbarlaw43.CalendarGoes'. -/
def calendarGoesUptoCard : Claim7 := { stood := { row := calendarGoesUptoRow, standIns := [], harness := (true, "6fdcdfcdc362b630eb542eed5ad3cba10671528b32ee4d814eb411d8b75f90f6"), looks := false }, kinds := [], alts := [], laidByText := true, laidKinds := [.data, .data, .data], laidTests := true, laidLooks := .later }
def CalendarGoesUptoCardSaid : Prop := Claim7.holds Tryd.pinned (.plain (OpenSpec.upto calendarGoesSpec)) calendarGoesUptoCard
end Rows
end Go.Proofs.YtkankdecbefenaaDoor
