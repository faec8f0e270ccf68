/-
  DERIVED. GIVEN WITH THE SEED: THE CARDS: each row of YtfolciibgdilcaaDoorRows.lean that lists a variable, with what it lists TIED to the program's text (the seventh form; the later family's looks); each row that meets fmt, with fmt's text TOLD by the authors' own Lean function (tested against real Go, not proved from fmt's source: count such statements apart). THE CARD IS WHAT COUNTS. Prove the row's statement (the work); the ties are given (YtfolciibgdilcaaDoorTie.lean); close each card by the builder's one call (the guide's Derived/Test/ToyasCard.lean, 'card_holds'). Laid BY PROGRAM, IN A SANDBOX (cutbox-door.mjs). By AI agents, Wed Nov 11 2026. No macro, syntax, notation, axiom, sorry.
-/
import Derived.Test.YtfolciibgdilcaaDoorRows
import GoSem.ClaimSeven
namespace Go.Proofs.YtfolciibgdilcaaDoor
namespace Rows

/-- THE TIED CARD OF 'busbarlaw16.MajorReads'. -/
def majorReadsCard : Claim7 := { stood := { row := majorReadsRow, standIns := [], harness := (true, "b741d8a28912fc055aca8cc2aff092e1eb6ad33b17fe985d167b29223a56a7f7"), looks := false }, kinds := [], alts := [], laidByText := true, laidKinds := [.data], laidTests := true, laidLooks := .later }
def MajorReadsCardSaid : Prop := Claim7.holds Tryd.pinned (.plain (OpenSpec.ofChange majorReadsSpec)) majorReadsCard

/-- THE TIED CARD OF 'busbarlaw15.ShiftLines'. -/
def shiftLinesCard : Claim7 := { stood := { row := shiftLinesRow, standIns := [], harness := (true, "b741d8a28912fc055aca8cc2aff092e1eb6ad33b17fe985d167b29223a56a7f7"), looks := false }, kinds := [], alts := [], laidByText := true, laidKinds := [.data], laidTests := true, laidLooks := .later }
def ShiftLinesCardSaid : Prop := Claim7.holds Tryd.pinned (.plain (OpenSpec.ofChange shiftLinesSpec)) shiftLinesCard

/-- THE TIED CARD OF 'busbarlaw18.GateTells'. -/
def gateTellsCard : Claim7 := { stood := { row := gateTellsRow, standIns := [], harness := (true, "b741d8a28912fc055aca8cc2aff092e1eb6ad33b17fe985d167b29223a56a7f7"), looks := false }, kinds := [], alts := [], laidByText := true, laidKinds := [.data], laidTests := true, laidLooks := .later }
def GateTellsCardSaid : Prop := Claim7.holds Tryd.pinned (.plain (OpenSpec.ofChange gateTellsSpec)) gateTellsCard

/-- THE TIED CARD OF 'busbarlaw18.GateLets'. -/
def gateLetsCard : Claim7 := { stood := { row := gateLetsRow, standIns := [], harness := (true, "b741d8a28912fc055aca8cc2aff092e1eb6ad33b17fe985d167b29223a56a7f7"), looks := false }, kinds := [], alts := [], laidByText := true, laidKinds := [.data], laidTests := true, laidLooks := .later }
def GateLetsCardSaid : Prop := Claim7.holds Tryd.pinned (.plain (OpenSpec.ofChange gateLetsSpec)) gateLetsCard

/-- THE TIED CARD OF 'busbarlaw18.GateHolds'. -/
def gateHoldsCard : Claim7 := { stood := { row := gateHoldsRow, standIns := [], harness := (true, "b741d8a28912fc055aca8cc2aff092e1eb6ad33b17fe985d167b29223a56a7f7"), looks := false }, kinds := [], alts := [], laidByText := true, laidKinds := [.data], laidTests := true, laidLooks := .later }
def GateHoldsCardSaid : Prop := Claim7.holds Tryd.pinned (.plain (OpenSpec.ofChange gateHoldsSpec)) gateHoldsCard

/-- THE TIED CARD OF 'busbarlaw19.CheckSees'. -/
def checkSeesCard : Claim7 := { stood := { row := checkSeesRow, standIns := [], harness := (true, "b741d8a28912fc055aca8cc2aff092e1eb6ad33b17fe985d167b29223a56a7f7"), looks := false }, kinds := [], alts := [], laidByText := true, laidKinds := [.data], laidTests := true, laidLooks := .later }
def CheckSeesCardSaid : Prop := Claim7.holds Tryd.pinned (.plain (OpenSpec.ofChange checkSeesSpec)) checkSeesCard

/-- THE SECOND FORM's CARD OF 'busbarlaw16.MajorReads'. -/
def majorReadsUptoCard : Claim7 := { stood := { row := majorReadsUptoRow, standIns := [], harness := (true, "b741d8a28912fc055aca8cc2aff092e1eb6ad33b17fe985d167b29223a56a7f7"), looks := false }, kinds := [], alts := [], laidByText := true, laidKinds := [.data], laidTests := true, laidLooks := .later }
def MajorReadsUptoCardSaid : Prop := Claim7.holds Tryd.pinned (.plain (OpenSpec.upto majorReadsSpec)) majorReadsUptoCard

/-- THE SECOND FORM's CARD OF 'busbarlaw15.ShiftLines'. -/
def shiftLinesUptoCard : Claim7 := { stood := { row := shiftLinesUptoRow, standIns := [], harness := (true, "b741d8a28912fc055aca8cc2aff092e1eb6ad33b17fe985d167b29223a56a7f7"), looks := false }, kinds := [], alts := [], laidByText := true, laidKinds := [.data], laidTests := true, laidLooks := .later }
def ShiftLinesUptoCardSaid : Prop := Claim7.holds Tryd.pinned (.plain (OpenSpec.upto shiftLinesSpec)) shiftLinesUptoCard

/-- THE SECOND FORM's CARD OF 'busbarlaw18.GateTells'. -/
def gateTellsUptoCard : Claim7 := { stood := { row := gateTellsUptoRow, standIns := [], harness := (true, "b741d8a28912fc055aca8cc2aff092e1eb6ad33b17fe985d167b29223a56a7f7"), looks := false }, kinds := [], alts := [], laidByText := true, laidKinds := [.data], laidTests := true, laidLooks := .later }
def GateTellsUptoCardSaid : Prop := Claim7.holds Tryd.pinned (.plain (OpenSpec.upto gateTellsSpec)) gateTellsUptoCard

/-- THE SECOND FORM's CARD OF 'busbarlaw18.GateLets'. -/
def gateLetsUptoCard : Claim7 := { stood := { row := gateLetsUptoRow, standIns := [], harness := (true, "b741d8a28912fc055aca8cc2aff092e1eb6ad33b17fe985d167b29223a56a7f7"), looks := false }, kinds := [], alts := [], laidByText := true, laidKinds := [.data], laidTests := true, laidLooks := .later }
def GateLetsUptoCardSaid : Prop := Claim7.holds Tryd.pinned (.plain (OpenSpec.upto gateLetsSpec)) gateLetsUptoCard

/-- THE SECOND FORM's CARD OF 'busbarlaw18.GateHolds'. -/
def gateHoldsUptoCard : Claim7 := { stood := { row := gateHoldsUptoRow, standIns := [], harness := (true, "b741d8a28912fc055aca8cc2aff092e1eb6ad33b17fe985d167b29223a56a7f7"), looks := false }, kinds := [], alts := [], laidByText := true, laidKinds := [.data], laidTests := true, laidLooks := .later }
def GateHoldsUptoCardSaid : Prop := Claim7.holds Tryd.pinned (.plain (OpenSpec.upto gateHoldsSpec)) gateHoldsUptoCard

/-- THE SECOND FORM's CARD OF 'busbarlaw19.CheckSees'. -/
def checkSeesUptoCard : Claim7 := { stood := { row := checkSeesUptoRow, standIns := [], harness := (true, "b741d8a28912fc055aca8cc2aff092e1eb6ad33b17fe985d167b29223a56a7f7"), looks := false }, kinds := [], alts := [], laidByText := true, laidKinds := [.data], laidTests := true, laidLooks := .later }
def CheckSeesUptoCardSaid : Prop := Claim7.holds Tryd.pinned (.plain (OpenSpec.upto checkSeesSpec)) checkSeesUptoCard
end Rows
end Go.Proofs.YtfolciibgdilcaaDoor
