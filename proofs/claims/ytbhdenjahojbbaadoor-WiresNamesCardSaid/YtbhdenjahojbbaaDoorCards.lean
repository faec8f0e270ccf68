/-
  DERIVED. GIVEN WITH THE SEED: THE CARDS: each row of YtbhdenjahojbbaaDoorRows.lean that lists a variable, with what it lists TIED to the program's text (the seventh form; the later family's looks); each row that meets fmt, with fmt's text TOLD by the authors' own Lean function (tested against real Go, not proved from fmt's source: count such statements apart). THE CARD IS WHAT COUNTS. Prove the row's statement (the work); the ties are given (YtbhdenjahojbbaaDoorTie.lean); close each card by the builder's one call (the guide's Derived/Test/ToyasCard.lean, 'card_holds'). Laid BY PROGRAM, IN A SANDBOX (cutbox-door.mjs). By AI agents, Wed Nov 11 2026. No macro, syntax, notation, axiom, sorry.
-/
import Derived.Test.YtbhdenjahojbbaaDoorRows
import GoSem.ClaimSeven
namespace Go.Proofs.YtbhdenjahojbbaaDoor
namespace Rows

/-- THE TIED CARD OF 'busbarlaw03.WiresTell'. -/
def wiresTellCard : Claim7 := { stood := { row := wiresTellRow, standIns := [], harness := (true, "b6df184877028783772e45aa35398791dae16a53e3478a98b285ec4551c2e777"), looks := false }, kinds := [], alts := [], laidByText := true, laidKinds := [.data], laidTests := true, laidLooks := .later }
def WiresTellCardSaid : Prop := Claim7.holds Tryd.pinned (.plain (OpenSpec.ofChange wiresTellSpec)) wiresTellCard

/-- THE TIED CARD OF 'busbarlaw03.WiresDrive'. -/
def wiresDriveCard : Claim7 := { stood := { row := wiresDriveRow, standIns := [], harness := (true, "b6df184877028783772e45aa35398791dae16a53e3478a98b285ec4551c2e777"), looks := false }, kinds := [], alts := [], laidByText := true, laidKinds := [.data], laidTests := true, laidLooks := .later }
def WiresDriveCardSaid : Prop := Claim7.holds Tryd.pinned (.plain (OpenSpec.ofChange wiresDriveSpec)) wiresDriveCard

/-- THE TIED CARD OF 'busbarlaw03.WiresSay'. -/
def wiresSayCard : Claim7 := { stood := { row := wiresSayRow, standIns := [], harness := (true, "b6df184877028783772e45aa35398791dae16a53e3478a98b285ec4551c2e777"), looks := false }, kinds := [], alts := [], laidByText := true, laidKinds := [.data], laidTests := true, laidLooks := .later }
def WiresSayCardSaid : Prop := Claim7.holds Tryd.pinned (.plain (OpenSpec.ofChange wiresSaySpec)) wiresSayCard

/-- THE TIED CARD OF 'busbarlaw03.WiresSides'. -/
def wiresSidesCard : Claim7 := { stood := { row := wiresSidesRow, standIns := [], harness := (true, "b6df184877028783772e45aa35398791dae16a53e3478a98b285ec4551c2e777"), looks := false }, kinds := [], alts := [], laidByText := true, laidKinds := [.data], laidTests := true, laidLooks := .later }
def WiresSidesCardSaid : Prop := Claim7.holds Tryd.pinned (.plain (OpenSpec.ofChange wiresSidesSpec)) wiresSidesCard

/-- THE TIED CARD OF 'busbarlaw03.WiresNames'. -/
def wiresNamesCard : Claim7 := { stood := { row := wiresNamesRow, standIns := [], harness := (true, "b6df184877028783772e45aa35398791dae16a53e3478a98b285ec4551c2e777"), looks := false }, kinds := [], alts := [], laidByText := true, laidKinds := [.data, .data], laidTests := true, laidLooks := .later }
def WiresNamesCardSaid : Prop := Claim7.holds Tryd.pinned (.plain (OpenSpec.ofChange wiresNamesSpec)) wiresNamesCard

/-- THE SECOND FORM's CARD OF 'busbarlaw03.WiresTell'. -/
def wiresTellUptoCard : Claim7 := { stood := { row := wiresTellUptoRow, standIns := [], harness := (true, "b6df184877028783772e45aa35398791dae16a53e3478a98b285ec4551c2e777"), looks := false }, kinds := [], alts := [], laidByText := true, laidKinds := [.data], laidTests := true, laidLooks := .later }
def WiresTellUptoCardSaid : Prop := Claim7.holds Tryd.pinned (.plain (OpenSpec.upto wiresTellSpec)) wiresTellUptoCard

/-- THE SECOND FORM's CARD OF 'busbarlaw03.WiresDrive'. -/
def wiresDriveUptoCard : Claim7 := { stood := { row := wiresDriveUptoRow, standIns := [], harness := (true, "b6df184877028783772e45aa35398791dae16a53e3478a98b285ec4551c2e777"), looks := false }, kinds := [], alts := [], laidByText := true, laidKinds := [.data], laidTests := true, laidLooks := .later }
def WiresDriveUptoCardSaid : Prop := Claim7.holds Tryd.pinned (.plain (OpenSpec.upto wiresDriveSpec)) wiresDriveUptoCard

/-- THE SECOND FORM's CARD OF 'busbarlaw03.WiresSay'. -/
def wiresSayUptoCard : Claim7 := { stood := { row := wiresSayUptoRow, standIns := [], harness := (true, "b6df184877028783772e45aa35398791dae16a53e3478a98b285ec4551c2e777"), looks := false }, kinds := [], alts := [], laidByText := true, laidKinds := [.data], laidTests := true, laidLooks := .later }
def WiresSayUptoCardSaid : Prop := Claim7.holds Tryd.pinned (.plain (OpenSpec.upto wiresSaySpec)) wiresSayUptoCard

/-- THE SECOND FORM's CARD OF 'busbarlaw03.WiresSides'. -/
def wiresSidesUptoCard : Claim7 := { stood := { row := wiresSidesUptoRow, standIns := [], harness := (true, "b6df184877028783772e45aa35398791dae16a53e3478a98b285ec4551c2e777"), looks := false }, kinds := [], alts := [], laidByText := true, laidKinds := [.data], laidTests := true, laidLooks := .later }
def WiresSidesUptoCardSaid : Prop := Claim7.holds Tryd.pinned (.plain (OpenSpec.upto wiresSidesSpec)) wiresSidesUptoCard

/-- THE SECOND FORM's CARD OF 'busbarlaw03.WiresNames'. -/
def wiresNamesUptoCard : Claim7 := { stood := { row := wiresNamesUptoRow, standIns := [], harness := (true, "b6df184877028783772e45aa35398791dae16a53e3478a98b285ec4551c2e777"), looks := false }, kinds := [], alts := [], laidByText := true, laidKinds := [.data, .data], laidTests := true, laidLooks := .later }
def WiresNamesUptoCardSaid : Prop := Claim7.holds Tryd.pinned (.plain (OpenSpec.upto wiresNamesSpec)) wiresNamesUptoCard
end Rows
end Go.Proofs.YtbhdenjahojbbaaDoor
