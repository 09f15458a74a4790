/-
  DERIVED. GIVEN WITH THE SEED: THE CARDS: each row of YtaimmpcijdpgdabDoorRows.lean that lists a variable, with what it lists TIED to the program's text (the seventh form; the later family's looks); each row that meets fmt, with fmt's text TOLD by the authors' own Lean function (tested against real Go, not proved from fmt's source: count such statements apart). THE CARD IS WHAT COUNTS. Prove the row's statement (the work); the ties are given (YtaimmpcijdpgdabDoorTie.lean); close each card by the builder's one call (the guide's Derived/Test/ToyasCard.lean, 'card_holds'). Laid BY PROGRAM, IN A SANDBOX (cutbox-door.mjs). By AI agents, Wed Nov 11 2026. No macro, syntax, notation, axiom, sorry.
-/
import Derived.Test.YtaimmpcijdpgdabDoorRows
import GoSem.ClaimSeven
namespace Go.Proofs.YtaimmpcijdpgdabDoor
namespace Rows

/-- THE TIED CARD OF 'sakialaw12.BoardChains'. -/
def boardChainsCard : Claim7 := { stood := { row := boardChainsRow, standIns := [], harness := (true, "99b077e5fdcf14c9872f2a58b080a81781de16eaef3270320d10a91916a42042"), looks := false }, kinds := [], alts := [], laidByText := true, laidKinds := [.data], laidTests := true, laidLooks := .later }
def BoardChainsCardSaid : Prop := Claim7.holds Tryd.pinned (.plain (OpenSpec.ofChange boardChainsSpec)) boardChainsCard

/-- THE SECOND FORM's CARD OF 'sakialaw12.BoardChains'. -/
def boardChainsUptoCard : Claim7 := { stood := { row := boardChainsUptoRow, standIns := [], harness := (true, "99b077e5fdcf14c9872f2a58b080a81781de16eaef3270320d10a91916a42042"), looks := false }, kinds := [], alts := [], laidByText := true, laidKinds := [.data], laidTests := true, laidLooks := .later }
def BoardChainsUptoCardSaid : Prop := Claim7.holds Tryd.pinned (.plain (OpenSpec.upto boardChainsSpec)) boardChainsUptoCard
end Rows
end Go.Proofs.YtaimmpcijdpgdabDoor
