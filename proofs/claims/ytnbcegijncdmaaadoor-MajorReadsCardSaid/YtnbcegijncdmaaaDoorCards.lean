/-
  DERIVED. GIVEN WITH THE SEED: THE CARDS: each row of YtnbcegijncdmaaaDoorRows.lean that lists a variable, with what it lists TIED to the program's text (the seventh form; the later family's looks); each row that meets fmt, with fmt's text TOLD by the authors' own Lean function (tested against real Go, not proved from fmt's source: count such statements apart). THE CARD IS WHAT COUNTS. Prove the row's statement (the work); the ties are given (YtnbcegijncdmaaaDoorTie.lean); close each card by the builder's one call (the guide's Derived/Test/ToyasCard.lean, 'card_holds'). Laid BY PROGRAM, IN A SANDBOX (cutbox-door.mjs). By AI agents, Wed Nov 11 2026. No macro, syntax, notation, axiom, sorry.
-/
import Derived.Test.YtnbcegijncdmaaaDoorRows
import GoSem.ClaimSeven
namespace Go.Proofs.YtnbcegijncdmaaaDoor
namespace Rows

/-- THE TIED CARD OF 'busbarlaw14.SerialWhole'. -/
def serialWholeCard : Claim7 := { stood := { row := serialWholeRow, standIns := [], harness := (true, "6fd40ec3ba35b1c9cb2746f24ceee56a42f5f6bc5ac3bd0dc3346c2ec07b1530"), looks := false }, kinds := [], alts := [], laidByText := true, laidKinds := [.data], laidTests := true, laidLooks := .later }
def SerialWholeCardSaid : Prop := Claim7.holds Tryd.pinned (.plain (OpenSpec.ofChange serialWholeSpec)) serialWholeCard

/-- THE TIED CARD OF 'busbarlaw14.SerialOthers'. -/
def serialOthersCard : Claim7 := { stood := { row := serialOthersRow, standIns := [], harness := (true, "6fd40ec3ba35b1c9cb2746f24ceee56a42f5f6bc5ac3bd0dc3346c2ec07b1530"), looks := false }, kinds := [], alts := [], laidByText := true, laidKinds := [.data], laidTests := true, laidLooks := .later }
def SerialOthersCardSaid : Prop := Claim7.holds Tryd.pinned (.plain (OpenSpec.ofChange serialOthersSpec)) serialOthersCard

/-- THE TIED CARD OF 'busbarlaw15.ShiftSent'. -/
def shiftSentCard : Claim7 := { stood := { row := shiftSentRow, standIns := [], harness := (true, "6fd40ec3ba35b1c9cb2746f24ceee56a42f5f6bc5ac3bd0dc3346c2ec07b1530"), looks := false }, kinds := [], alts := [], laidByText := true, laidKinds := [.data], laidTests := true, laidLooks := .later }
def ShiftSentCardSaid : Prop := Claim7.holds Tryd.pinned (.plain (OpenSpec.ofChange shiftSentSpec)) shiftSentCard

/-- THE TIED CARD OF 'busbarlaw16.MajorReads'. -/
def majorReadsCard : Claim7 := { stood := { row := majorReadsRow, standIns := [], harness := (true, "6fd40ec3ba35b1c9cb2746f24ceee56a42f5f6bc5ac3bd0dc3346c2ec07b1530"), looks := false }, kinds := [], alts := [], laidByText := true, laidKinds := [.data], laidTests := true, laidLooks := .later }
def MajorReadsCardSaid : Prop := Claim7.holds Tryd.pinned (.plain (OpenSpec.ofChange majorReadsSpec)) majorReadsCard

/-- THE TIED CARD OF 'busbarlaw17.ActiveTells'. -/
def activeTellsCard : Claim7 := { stood := { row := activeTellsRow, standIns := [], harness := (true, "6fd40ec3ba35b1c9cb2746f24ceee56a42f5f6bc5ac3bd0dc3346c2ec07b1530"), looks := false }, kinds := [], alts := [], laidByText := true, laidKinds := [.data], laidTests := true, laidLooks := .later }
def ActiveTellsCardSaid : Prop := Claim7.holds Tryd.pinned (.plain (OpenSpec.ofChange activeTellsSpec)) activeTellsCard

/-- THE TIED CARD OF 'busbarlaw18.GateTells'. -/
def gateTellsCard : Claim7 := { stood := { row := gateTellsRow, standIns := [], harness := (true, "6fd40ec3ba35b1c9cb2746f24ceee56a42f5f6bc5ac3bd0dc3346c2ec07b1530"), looks := false }, kinds := [], alts := [], laidByText := true, laidKinds := [.data], laidTests := true, laidLooks := .later }
def GateTellsCardSaid : Prop := Claim7.holds Tryd.pinned (.plain (OpenSpec.ofChange gateTellsSpec)) gateTellsCard

/-- THE TIED CARD OF 'busbarlaw18.GateLets'. -/
def gateLetsCard : Claim7 := { stood := { row := gateLetsRow, standIns := [], harness := (true, "6fd40ec3ba35b1c9cb2746f24ceee56a42f5f6bc5ac3bd0dc3346c2ec07b1530"), looks := false }, kinds := [], alts := [], laidByText := true, laidKinds := [.data], laidTests := true, laidLooks := .later }
def GateLetsCardSaid : Prop := Claim7.holds Tryd.pinned (.plain (OpenSpec.ofChange gateLetsSpec)) gateLetsCard

/-- THE TIED CARD OF 'busbarlaw18.GateHolds'. -/
def gateHoldsCard : Claim7 := { stood := { row := gateHoldsRow, standIns := [], harness := (true, "6fd40ec3ba35b1c9cb2746f24ceee56a42f5f6bc5ac3bd0dc3346c2ec07b1530"), looks := false }, kinds := [], alts := [], laidByText := true, laidKinds := [.data], laidTests := true, laidLooks := .later }
def GateHoldsCardSaid : Prop := Claim7.holds Tryd.pinned (.plain (OpenSpec.ofChange gateHoldsSpec)) gateHoldsCard

/-- THE TIED CARD OF 'busbarlaw19.CheckSees'. -/
def checkSeesCard : Claim7 := { stood := { row := checkSeesRow, standIns := [], harness := (true, "6fd40ec3ba35b1c9cb2746f24ceee56a42f5f6bc5ac3bd0dc3346c2ec07b1530"), looks := false }, kinds := [], alts := [], laidByText := true, laidKinds := [.data], laidTests := true, laidLooks := .later }
def CheckSeesCardSaid : Prop := Claim7.holds Tryd.pinned (.plain (OpenSpec.ofChange checkSeesSpec)) checkSeesCard

/-- THE TIED CARD OF 'busbarlaw19.CheckFinds'. -/
def checkFindsCard : Claim7 := { stood := { row := checkFindsRow, standIns := [], harness := (true, "6fd40ec3ba35b1c9cb2746f24ceee56a42f5f6bc5ac3bd0dc3346c2ec07b1530"), looks := false }, kinds := [], alts := [], laidByText := true, laidKinds := [.data], laidTests := true, laidLooks := .later }
def CheckFindsCardSaid : Prop := Claim7.holds Tryd.pinned (.plain (OpenSpec.ofChange checkFindsSpec)) checkFindsCard

/-- THE SECOND FORM's CARD OF 'busbarlaw14.SerialWhole'. -/
def serialWholeUptoCard : Claim7 := { stood := { row := serialWholeUptoRow, standIns := [], harness := (true, "6fd40ec3ba35b1c9cb2746f24ceee56a42f5f6bc5ac3bd0dc3346c2ec07b1530"), looks := false }, kinds := [], alts := [], laidByText := true, laidKinds := [.data], laidTests := true, laidLooks := .later }
def SerialWholeUptoCardSaid : Prop := Claim7.holds Tryd.pinned (.plain (OpenSpec.upto serialWholeSpec)) serialWholeUptoCard

/-- THE SECOND FORM's CARD OF 'busbarlaw14.SerialOthers'. -/
def serialOthersUptoCard : Claim7 := { stood := { row := serialOthersUptoRow, standIns := [], harness := (true, "6fd40ec3ba35b1c9cb2746f24ceee56a42f5f6bc5ac3bd0dc3346c2ec07b1530"), looks := false }, kinds := [], alts := [], laidByText := true, laidKinds := [.data], laidTests := true, laidLooks := .later }
def SerialOthersUptoCardSaid : Prop := Claim7.holds Tryd.pinned (.plain (OpenSpec.upto serialOthersSpec)) serialOthersUptoCard

/-- THE SECOND FORM's CARD OF 'busbarlaw15.ShiftSent'. -/
def shiftSentUptoCard : Claim7 := { stood := { row := shiftSentUptoRow, standIns := [], harness := (true, "6fd40ec3ba35b1c9cb2746f24ceee56a42f5f6bc5ac3bd0dc3346c2ec07b1530"), looks := false }, kinds := [], alts := [], laidByText := true, laidKinds := [.data], laidTests := true, laidLooks := .later }
def ShiftSentUptoCardSaid : Prop := Claim7.holds Tryd.pinned (.plain (OpenSpec.upto shiftSentSpec)) shiftSentUptoCard

/-- THE SECOND FORM's CARD OF 'busbarlaw16.MajorReads'. -/
def majorReadsUptoCard : Claim7 := { stood := { row := majorReadsUptoRow, standIns := [], harness := (true, "6fd40ec3ba35b1c9cb2746f24ceee56a42f5f6bc5ac3bd0dc3346c2ec07b1530"), looks := false }, kinds := [], alts := [], laidByText := true, laidKinds := [.data], laidTests := true, laidLooks := .later }
def MajorReadsUptoCardSaid : Prop := Claim7.holds Tryd.pinned (.plain (OpenSpec.upto majorReadsSpec)) majorReadsUptoCard

/-- THE SECOND FORM's CARD OF 'busbarlaw17.ActiveTells'. -/
def activeTellsUptoCard : Claim7 := { stood := { row := activeTellsUptoRow, standIns := [], harness := (true, "6fd40ec3ba35b1c9cb2746f24ceee56a42f5f6bc5ac3bd0dc3346c2ec07b1530"), looks := false }, kinds := [], alts := [], laidByText := true, laidKinds := [.data], laidTests := true, laidLooks := .later }
def ActiveTellsUptoCardSaid : Prop := Claim7.holds Tryd.pinned (.plain (OpenSpec.upto activeTellsSpec)) activeTellsUptoCard

/-- THE SECOND FORM's CARD OF 'busbarlaw18.GateTells'. -/
def gateTellsUptoCard : Claim7 := { stood := { row := gateTellsUptoRow, standIns := [], harness := (true, "6fd40ec3ba35b1c9cb2746f24ceee56a42f5f6bc5ac3bd0dc3346c2ec07b1530"), looks := false }, kinds := [], alts := [], laidByText := true, laidKinds := [.data], laidTests := true, laidLooks := .later }
def GateTellsUptoCardSaid : Prop := Claim7.holds Tryd.pinned (.plain (OpenSpec.upto gateTellsSpec)) gateTellsUptoCard

/-- THE SECOND FORM's CARD OF 'busbarlaw18.GateLets'. -/
def gateLetsUptoCard : Claim7 := { stood := { row := gateLetsUptoRow, standIns := [], harness := (true, "6fd40ec3ba35b1c9cb2746f24ceee56a42f5f6bc5ac3bd0dc3346c2ec07b1530"), looks := false }, kinds := [], alts := [], laidByText := true, laidKinds := [.data], laidTests := true, laidLooks := .later }
def GateLetsUptoCardSaid : Prop := Claim7.holds Tryd.pinned (.plain (OpenSpec.upto gateLetsSpec)) gateLetsUptoCard

/-- THE SECOND FORM's CARD OF 'busbarlaw18.GateHolds'. -/
def gateHoldsUptoCard : Claim7 := { stood := { row := gateHoldsUptoRow, standIns := [], harness := (true, "6fd40ec3ba35b1c9cb2746f24ceee56a42f5f6bc5ac3bd0dc3346c2ec07b1530"), looks := false }, kinds := [], alts := [], laidByText := true, laidKinds := [.data], laidTests := true, laidLooks := .later }
def GateHoldsUptoCardSaid : Prop := Claim7.holds Tryd.pinned (.plain (OpenSpec.upto gateHoldsSpec)) gateHoldsUptoCard

/-- THE SECOND FORM's CARD OF 'busbarlaw19.CheckSees'. -/
def checkSeesUptoCard : Claim7 := { stood := { row := checkSeesUptoRow, standIns := [], harness := (true, "6fd40ec3ba35b1c9cb2746f24ceee56a42f5f6bc5ac3bd0dc3346c2ec07b1530"), looks := false }, kinds := [], alts := [], laidByText := true, laidKinds := [.data], laidTests := true, laidLooks := .later }
def CheckSeesUptoCardSaid : Prop := Claim7.holds Tryd.pinned (.plain (OpenSpec.upto checkSeesSpec)) checkSeesUptoCard

/-- THE SECOND FORM's CARD OF 'busbarlaw19.CheckFinds'. -/
def checkFindsUptoCard : Claim7 := { stood := { row := checkFindsUptoRow, standIns := [], harness := (true, "6fd40ec3ba35b1c9cb2746f24ceee56a42f5f6bc5ac3bd0dc3346c2ec07b1530"), looks := false }, kinds := [], alts := [], laidByText := true, laidKinds := [.data], laidTests := true, laidLooks := .later }
def CheckFindsUptoCardSaid : Prop := Claim7.holds Tryd.pinned (.plain (OpenSpec.upto checkFindsSpec)) checkFindsUptoCard
end Rows
end Go.Proofs.YtnbcegijncdmaaaDoor
