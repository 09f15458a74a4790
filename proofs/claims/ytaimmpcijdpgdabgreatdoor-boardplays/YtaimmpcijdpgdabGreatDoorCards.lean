/-
  DERIVED. GIVEN WITH THE SEED: THE CARDS: each row of YtaimmpcijdpgdabGreatDoorRows.lean that lists a variable, with what it lists TIED to the program's text (the seventh form; the later family's looks); each row that meets fmt, with fmt's text TOLD by the authors' own Lean function (tested against real Go, not proved from fmt's source: count such statements apart). THE CARD IS WHAT COUNTS. Prove the row's statement (the work); the ties are given (YtaimmpcijdpgdabGreatDoorTie.lean); close each card by the builder's one call (the guide's Derived/Test/ToyasCard.lean, 'card_holds'). Laid BY PROGRAM, IN A SANDBOX (cutbox-door.mjs). By AI agents, Wed Nov 11 2026. No macro, syntax, notation, axiom, sorry.
-/
import Derived.Test.YtaimmpcijdpgdabGreatDoorRows
import GoSem.ClaimSeven
namespace Go.Proofs.YtaimmpcijdpgdabGreatDoor
namespace Rows

/-- THE TIED CARD OF 'sakialaw12.BoardPlays'. -/
def boardPlaysCard : Claim7 := { stood := { row := boardPlaysRow, standIns := [], harness := (true, "3f17fa9857a7d1951a3de356cd6ab32b8914356d95d6db01a262a1d9cc116cbc"), looks := false }, kinds := [], alts := [], laidByText := true, laidKinds := [.data], laidTests := true, laidLooks := .later }
def BoardPlaysCardSaid : Prop := Claim7.holds Tryz.pinned (.plain (OpenSpec.ofChange boardPlaysSpec)) boardPlaysCard

/-- THE TIED CARD OF 'sakialaw12.BoardCosts'. -/
def boardCostsCard : Claim7 := { stood := { row := boardCostsRow, standIns := [], harness := (true, "3f17fa9857a7d1951a3de356cd6ab32b8914356d95d6db01a262a1d9cc116cbc"), looks := false }, kinds := [], alts := [], laidByText := true, laidKinds := [.data], laidTests := true, laidLooks := .later }
def BoardCostsCardSaid : Prop := Claim7.holds Tryz.pinned (.plain (OpenSpec.ofChange boardCostsSpec)) boardCostsCard

/-- THE TIED CARD OF 'sakialaw12.BoardNone'. -/
def boardNoneCard : Claim7 := { stood := { row := boardNoneRow, standIns := [], harness := (true, "3f17fa9857a7d1951a3de356cd6ab32b8914356d95d6db01a262a1d9cc116cbc"), looks := false }, kinds := [], alts := [], laidByText := true, laidKinds := [.data], laidTests := true, laidLooks := .later }
def BoardNoneCardSaid : Prop := Claim7.holds Tryz.pinned (.plain (OpenSpec.ofChange boardNoneSpec)) boardNoneCard

/-- THE SECOND FORM's CARD OF 'sakialaw12.BoardPlays'. -/
def boardPlaysUptoCard : Claim7 := { stood := { row := boardPlaysUptoRow, standIns := [], harness := (true, "3f17fa9857a7d1951a3de356cd6ab32b8914356d95d6db01a262a1d9cc116cbc"), looks := false }, kinds := [], alts := [], laidByText := true, laidKinds := [.data], laidTests := true, laidLooks := .later }
def BoardPlaysUptoCardSaid : Prop := Claim7.holds Tryz.pinned (.plain (OpenSpec.upto boardPlaysSpec)) boardPlaysUptoCard

/-- THE SECOND FORM's CARD OF 'sakialaw12.BoardCosts'. -/
def boardCostsUptoCard : Claim7 := { stood := { row := boardCostsUptoRow, standIns := [], harness := (true, "3f17fa9857a7d1951a3de356cd6ab32b8914356d95d6db01a262a1d9cc116cbc"), looks := false }, kinds := [], alts := [], laidByText := true, laidKinds := [.data], laidTests := true, laidLooks := .later }
def BoardCostsUptoCardSaid : Prop := Claim7.holds Tryz.pinned (.plain (OpenSpec.upto boardCostsSpec)) boardCostsUptoCard

/-- THE SECOND FORM's CARD OF 'sakialaw12.BoardNone'. -/
def boardNoneUptoCard : Claim7 := { stood := { row := boardNoneUptoRow, standIns := [], harness := (true, "3f17fa9857a7d1951a3de356cd6ab32b8914356d95d6db01a262a1d9cc116cbc"), looks := false }, kinds := [], alts := [], laidByText := true, laidKinds := [.data], laidTests := true, laidLooks := .later }
def BoardNoneUptoCardSaid : Prop := Claim7.holds Tryz.pinned (.plain (OpenSpec.upto boardNoneSpec)) boardNoneUptoCard
end Rows
end Go.Proofs.YtaimmpcijdpgdabGreatDoor
