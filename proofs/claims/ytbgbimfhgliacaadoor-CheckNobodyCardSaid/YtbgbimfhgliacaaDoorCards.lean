/-
  DERIVED. GIVEN WITH THE SEED: THE CARDS: each row of YtbgbimfhgliacaaDoorRows.lean that lists a variable, with what it lists TIED to the program's text (the seventh form; the later family's looks); each row that meets fmt, with fmt's text TOLD by the authors' own Lean function (tested against real Go, not proved from fmt's source: count such statements apart). THE CARD IS WHAT COUNTS. Prove the row's statement (the work); the ties are given (YtbgbimfhgliacaaDoorTie.lean); close each card by the builder's one call (the guide's Derived/Test/ToyasCard.lean, 'card_holds'). Laid BY PROGRAM, IN A SANDBOX (cutbox-door.mjs). By AI agents, Wed Nov 11 2026. No macro, syntax, notation, axiom, sorry.
-/
import Derived.Test.YtbgbimfhgliacaaDoorRows
import GoSem.ClaimSeven
namespace Go.Proofs.YtbgbimfhgliacaaDoor
namespace Rows

/-- THE TIED CARD OF 'busbarlaw15.ShiftNobody'. -/
def shiftNobodyCard : Claim7 := { stood := { row := shiftNobodyRow, standIns := [], harness := (true, "ce2dec1d571d155f59f00fabfbb5138956cb337b4ee7a89a8db91e95099d00c0"), looks := false }, kinds := [], alts := [], laidByText := true, laidKinds := [.data], laidTests := true, laidLooks := .later }
def ShiftNobodyCardSaid : Prop := Claim7.holds Tryd.pinned (.plain (OpenSpec.ofChange shiftNobodySpec)) shiftNobodyCard

/-- THE TIED CARD OF 'busbarlaw19.CheckNobody'. -/
def checkNobodyCard : Claim7 := { stood := { row := checkNobodyRow, standIns := [], harness := (true, "ce2dec1d571d155f59f00fabfbb5138956cb337b4ee7a89a8db91e95099d00c0"), looks := false }, kinds := [], alts := [], laidByText := true, laidKinds := [.data], laidTests := true, laidLooks := .later }
def CheckNobodyCardSaid : Prop := Claim7.holds Tryd.pinned (.plain (OpenSpec.ofChange checkNobodySpec)) checkNobodyCard

/-- THE SECOND FORM's CARD OF 'busbarlaw15.ShiftNobody'. -/
def shiftNobodyUptoCard : Claim7 := { stood := { row := shiftNobodyUptoRow, standIns := [], harness := (true, "ce2dec1d571d155f59f00fabfbb5138956cb337b4ee7a89a8db91e95099d00c0"), looks := false }, kinds := [], alts := [], laidByText := true, laidKinds := [.data], laidTests := true, laidLooks := .later }
def ShiftNobodyUptoCardSaid : Prop := Claim7.holds Tryd.pinned (.plain (OpenSpec.upto shiftNobodySpec)) shiftNobodyUptoCard

/-- THE SECOND FORM's CARD OF 'busbarlaw19.CheckNobody'. -/
def checkNobodyUptoCard : Claim7 := { stood := { row := checkNobodyUptoRow, standIns := [], harness := (true, "ce2dec1d571d155f59f00fabfbb5138956cb337b4ee7a89a8db91e95099d00c0"), looks := false }, kinds := [], alts := [], laidByText := true, laidKinds := [.data], laidTests := true, laidLooks := .later }
def CheckNobodyUptoCardSaid : Prop := Claim7.holds Tryd.pinned (.plain (OpenSpec.upto checkNobodySpec)) checkNobodyUptoCard
end Rows
end Go.Proofs.YtbgbimfhgliacaaDoor
