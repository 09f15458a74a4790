/-
  DERIVED. GIVEN WITH THE SEED: THE CARDS: each row of YtlnffbocclpnnaaGreatDoorRRows.lean that lists a variable, with what it lists TIED to the program's text (the seventh form; the later family's looks); each row that meets fmt, with fmt's text TOLD by the authors' own Lean function (tested against real Go, not proved from fmt's source: count such statements apart). THE CARD IS WHAT COUNTS. Prove the row's statement (the work); the ties are given (YtlnffbocclpnnaaGreatDoorRTie.lean); close each card by the builder's one call (the guide's Derived/Test/ToyasCard.lean, 'card_holds'). Laid BY PROGRAM, IN A SANDBOX (cutbox-door.mjs). By AI agents, Wed Nov 11 2026. No macro, syntax, notation, axiom, sorry.
-/
import Derived.Test.YtlnffbocclpnnaaGreatDoorRRows
import GoSem.ClaimSeven
namespace Go.Proofs.YtlnffbocclpnnaaGreatDoorR
namespace Rows

/-- THE TIED CARD OF 'sakialaw16.GateScans'. -/
def gateScansCard : Claim7 := { stood := { row := gateScansRow, standIns := [], harness := (true, "e54f04ea8f5f58a675849c500974e14189304cc65c914b4087ca437e8dd379ba"), looks := false }, kinds := [], alts := [], laidByText := true, laidKinds := [.data, .data], laidTests := true, laidLooks := .later }
def GateScansCardSaid : Prop := Claim7.holds Tryz.pinned (.plain (OpenSpec.ofChange gateScansSpec)) gateScansCard

/-- THE TIED CARD OF 'sakialaw16.GateBetween'. -/
def gateBetweenCard : Claim7 := { stood := { row := gateBetweenRow, standIns := [], harness := (true, "e54f04ea8f5f58a675849c500974e14189304cc65c914b4087ca437e8dd379ba"), looks := false }, kinds := [], alts := [], laidByText := true, laidKinds := [.data, .data], laidTests := true, laidLooks := .later }
def GateBetweenCardSaid : Prop := Claim7.holds Tryz.pinned (.plain (OpenSpec.ofChange gateBetweenSpec)) gateBetweenCard

/-- THE TIED CARD OF 'sakialaw18.TurnPlays'. -/
def turnPlaysCard : Claim7 := { stood := { row := turnPlaysRow, standIns := [], harness := (true, "e54f04ea8f5f58a675849c500974e14189304cc65c914b4087ca437e8dd379ba"), looks := false }, kinds := [], alts := [], laidByText := true, laidKinds := [.data], laidTests := true, laidLooks := .later }
def TurnPlaysCardSaid : Prop := Claim7.holds Tryz.pinned (.plain (OpenSpec.ofChange turnPlaysSpec)) turnPlaysCard

/-- THE SECOND FORM's CARD OF 'sakialaw16.GateScans'. -/
def gateScansUptoCard : Claim7 := { stood := { row := gateScansUptoRow, standIns := [], harness := (true, "e54f04ea8f5f58a675849c500974e14189304cc65c914b4087ca437e8dd379ba"), looks := false }, kinds := [], alts := [], laidByText := true, laidKinds := [.data, .data], laidTests := true, laidLooks := .later }
def GateScansUptoCardSaid : Prop := Claim7.holds Tryz.pinned (.plain (OpenSpec.upto gateScansSpec)) gateScansUptoCard

/-- THE SECOND FORM's CARD OF 'sakialaw16.GateBetween'. -/
def gateBetweenUptoCard : Claim7 := { stood := { row := gateBetweenUptoRow, standIns := [], harness := (true, "e54f04ea8f5f58a675849c500974e14189304cc65c914b4087ca437e8dd379ba"), looks := false }, kinds := [], alts := [], laidByText := true, laidKinds := [.data, .data], laidTests := true, laidLooks := .later }
def GateBetweenUptoCardSaid : Prop := Claim7.holds Tryz.pinned (.plain (OpenSpec.upto gateBetweenSpec)) gateBetweenUptoCard

/-- THE SECOND FORM's CARD OF 'sakialaw18.TurnPlays'. -/
def turnPlaysUptoCard : Claim7 := { stood := { row := turnPlaysUptoRow, standIns := [], harness := (true, "e54f04ea8f5f58a675849c500974e14189304cc65c914b4087ca437e8dd379ba"), looks := false }, kinds := [], alts := [], laidByText := true, laidKinds := [.data], laidTests := true, laidLooks := .later }
def TurnPlaysUptoCardSaid : Prop := Claim7.holds Tryz.pinned (.plain (OpenSpec.upto turnPlaysSpec)) turnPlaysUptoCard
end Rows
end Go.Proofs.YtlnffbocclpnnaaGreatDoorR
