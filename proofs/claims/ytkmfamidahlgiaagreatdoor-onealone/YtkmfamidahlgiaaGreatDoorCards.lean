/-
  DERIVED. GIVEN WITH THE SEED: THE CARDS: each row of YtkmfamidahlgiaaGreatDoorRows.lean that lists a variable, with what it lists TIED to the program's text (the seventh form; the later family's looks); each row that meets fmt, with fmt's text TOLD by the authors' own Lean function (tested against real Go, not proved from fmt's source: count such statements apart). THE CARD IS WHAT COUNTS. Prove the row's statement (the work); the ties are given (YtkmfamidahlgiaaGreatDoorTie.lean); close each card by the builder's one call (the guide's Derived/Test/ToyasCard.lean, 'card_holds'). Laid BY PROGRAM, IN A SANDBOX (cutbox-door.mjs). By AI agents, Wed Nov 11 2026. No macro, syntax, notation, axiom, sorry.
-/
import Derived.Test.YtkmfamidahlgiaaGreatDoorRows
import GoSem.ClaimSeven
namespace Go.Proofs.YtkmfamidahlgiaaGreatDoor
namespace Rows

/-- THE TIED CARD OF 'sakialaw16.GateScans'. -/
def gateScansCard : Claim7 := { stood := { row := gateScansRow, standIns := [], harness := (true, "71dc391b88ced093959e228f3b6998ccfff536f7d4f9d7f1797348ddda344cb1"), looks := false }, kinds := [], alts := [], laidByText := true, laidKinds := [.data, .data], laidTests := true, laidLooks := .later }
def GateScansCardSaid : Prop := Claim7.holds Tryz.pinned (.plain (OpenSpec.ofChange gateScansSpec)) gateScansCard

/-- THE TIED CARD OF 'sakialaw16.GateBetween'. -/
def gateBetweenCard : Claim7 := { stood := { row := gateBetweenRow, standIns := [], harness := (true, "71dc391b88ced093959e228f3b6998ccfff536f7d4f9d7f1797348ddda344cb1"), looks := false }, kinds := [], alts := [], laidByText := true, laidKinds := [.data, .data], laidTests := true, laidLooks := .later }
def GateBetweenCardSaid : Prop := Claim7.holds Tryz.pinned (.plain (OpenSpec.ofChange gateBetweenSpec)) gateBetweenCard

/-- THE TIED CARD OF 'sakialaw19.OnePlays'. -/
def onePlaysCard : Claim7 := { stood := { row := onePlaysRow, standIns := [], harness := (true, "71dc391b88ced093959e228f3b6998ccfff536f7d4f9d7f1797348ddda344cb1"), looks := false }, kinds := [], alts := [], laidByText := true, laidKinds := [.data, .data], laidTests := true, laidLooks := .later }
def OnePlaysCardSaid : Prop := Claim7.holds Tryz.pinned (.plain (OpenSpec.ofChange onePlaysSpec)) onePlaysCard

/-- THE TIED CARD OF 'sakialaw19.OneTiles'. -/
def oneTilesCard : Claim7 := { stood := { row := oneTilesRow, standIns := [], harness := (true, "71dc391b88ced093959e228f3b6998ccfff536f7d4f9d7f1797348ddda344cb1"), looks := false }, kinds := [], alts := [], laidByText := true, laidKinds := [.data, .data], laidTests := true, laidLooks := .later }
def OneTilesCardSaid : Prop := Claim7.holds Tryz.pinned (.plain (OpenSpec.ofChange oneTilesSpec)) oneTilesCard

/-- THE TIED CARD OF 'sakialaw19.OneAlone'. -/
def oneAloneCard : Claim7 := { stood := { row := oneAloneRow, standIns := [], harness := (true, "71dc391b88ced093959e228f3b6998ccfff536f7d4f9d7f1797348ddda344cb1"), looks := false }, kinds := [], alts := [], laidByText := true, laidKinds := [.data, .data], laidTests := true, laidLooks := .later }
def OneAloneCardSaid : Prop := Claim7.holds Tryz.pinned (.plain (OpenSpec.ofChange oneAloneSpec)) oneAloneCard

/-- THE SECOND FORM's CARD OF 'sakialaw16.GateScans'. -/
def gateScansUptoCard : Claim7 := { stood := { row := gateScansUptoRow, standIns := [], harness := (true, "71dc391b88ced093959e228f3b6998ccfff536f7d4f9d7f1797348ddda344cb1"), looks := false }, kinds := [], alts := [], laidByText := true, laidKinds := [.data, .data], laidTests := true, laidLooks := .later }
def GateScansUptoCardSaid : Prop := Claim7.holds Tryz.pinned (.plain (OpenSpec.upto gateScansSpec)) gateScansUptoCard

/-- THE SECOND FORM's CARD OF 'sakialaw16.GateBetween'. -/
def gateBetweenUptoCard : Claim7 := { stood := { row := gateBetweenUptoRow, standIns := [], harness := (true, "71dc391b88ced093959e228f3b6998ccfff536f7d4f9d7f1797348ddda344cb1"), looks := false }, kinds := [], alts := [], laidByText := true, laidKinds := [.data, .data], laidTests := true, laidLooks := .later }
def GateBetweenUptoCardSaid : Prop := Claim7.holds Tryz.pinned (.plain (OpenSpec.upto gateBetweenSpec)) gateBetweenUptoCard

/-- THE SECOND FORM's CARD OF 'sakialaw19.OnePlays'. -/
def onePlaysUptoCard : Claim7 := { stood := { row := onePlaysUptoRow, standIns := [], harness := (true, "71dc391b88ced093959e228f3b6998ccfff536f7d4f9d7f1797348ddda344cb1"), looks := false }, kinds := [], alts := [], laidByText := true, laidKinds := [.data, .data], laidTests := true, laidLooks := .later }
def OnePlaysUptoCardSaid : Prop := Claim7.holds Tryz.pinned (.plain (OpenSpec.upto onePlaysSpec)) onePlaysUptoCard

/-- THE SECOND FORM's CARD OF 'sakialaw19.OneTiles'. -/
def oneTilesUptoCard : Claim7 := { stood := { row := oneTilesUptoRow, standIns := [], harness := (true, "71dc391b88ced093959e228f3b6998ccfff536f7d4f9d7f1797348ddda344cb1"), looks := false }, kinds := [], alts := [], laidByText := true, laidKinds := [.data, .data], laidTests := true, laidLooks := .later }
def OneTilesUptoCardSaid : Prop := Claim7.holds Tryz.pinned (.plain (OpenSpec.upto oneTilesSpec)) oneTilesUptoCard

/-- THE SECOND FORM's CARD OF 'sakialaw19.OneAlone'. -/
def oneAloneUptoCard : Claim7 := { stood := { row := oneAloneUptoRow, standIns := [], harness := (true, "71dc391b88ced093959e228f3b6998ccfff536f7d4f9d7f1797348ddda344cb1"), looks := false }, kinds := [], alts := [], laidByText := true, laidKinds := [.data, .data], laidTests := true, laidLooks := .later }
def OneAloneUptoCardSaid : Prop := Claim7.holds Tryz.pinned (.plain (OpenSpec.upto oneAloneSpec)) oneAloneUptoCard
end Rows
end Go.Proofs.YtkmfamidahlgiaaGreatDoor
