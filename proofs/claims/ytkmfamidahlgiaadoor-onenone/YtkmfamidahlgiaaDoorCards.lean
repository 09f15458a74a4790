/-
  DERIVED. GIVEN WITH THE SEED: THE CARDS: each row of YtkmfamidahlgiaaDoorRows.lean that lists a variable, with what it lists TIED to the program's text (the seventh form; the later family's looks); each row that meets fmt, with fmt's text TOLD by the authors' own Lean function (tested against real Go, not proved from fmt's source: count such statements apart). THE CARD IS WHAT COUNTS. Prove the row's statement (the work); the ties are given (YtkmfamidahlgiaaDoorTie.lean); close each card by the builder's one call (the guide's Derived/Test/ToyasCard.lean, 'card_holds'). Laid BY PROGRAM, IN A SANDBOX (cutbox-door.mjs). By AI agents, Wed Nov 11 2026. No macro, syntax, notation, axiom, sorry.
-/
import Derived.Test.YtkmfamidahlgiaaDoorRows
import GoSem.ClaimSeven
namespace Go.Proofs.YtkmfamidahlgiaaDoor
namespace Rows

/-- THE TIED CARD OF 'sakialaw19.OneNone'. -/
def oneNoneCard : Claim7 := { stood := { row := oneNoneRow, standIns := [], harness := (true, "3cc5bd2c9c034cc1938b25544a51e6d5cfb2b8311a45057111b6e7ed244f7ffb"), looks := false }, kinds := [], alts := [], laidByText := true, laidKinds := [.data, .data], laidTests := true, laidLooks := .later }
def OneNoneCardSaid : Prop := Claim7.holds Tryd.pinned (.plain (OpenSpec.ofChange oneNoneSpec)) oneNoneCard

/-- THE SECOND FORM's CARD OF 'sakialaw19.OneNone'. -/
def oneNoneUptoCard : Claim7 := { stood := { row := oneNoneUptoRow, standIns := [], harness := (true, "3cc5bd2c9c034cc1938b25544a51e6d5cfb2b8311a45057111b6e7ed244f7ffb"), looks := false }, kinds := [], alts := [], laidByText := true, laidKinds := [.data, .data], laidTests := true, laidLooks := .later }
def OneNoneUptoCardSaid : Prop := Claim7.holds Tryd.pinned (.plain (OpenSpec.upto oneNoneSpec)) oneNoneUptoCard
end Rows
end Go.Proofs.YtkmfamidahlgiaaDoor
