/-
  DERIVED. GIVEN WITH THE SEED: THE CARDS: each row of YtnghecgmbkggmaaDoorRows.lean that lists a variable, with what it lists TIED to the program's text (the seventh form; the later family's looks); each row that meets fmt, with fmt's text TOLD by the authors' own Lean function (tested against real Go, not proved from fmt's source: count such statements apart). THE CARD IS WHAT COUNTS. Prove the row's statement (the work); the ties are given (YtnghecgmbkggmaaDoorTie.lean); close each card by the builder's one call (the guide's Derived/Test/ToyasCard.lean, 'card_holds'). Laid BY PROGRAM, IN A SANDBOX (cutbox-door.mjs). By AI agents, Wed Nov 11 2026. No macro, syntax, notation, axiom, sorry.
-/
import Derived.Test.YtnghecgmbkggmaaDoorRows
import GoSem.ClaimSeven
namespace Go.Proofs.YtnghecgmbkggmaaDoor
namespace Rows

/-- THE TIED CARD OF 'sakialaw16.GateNone'. -/
def gateNoneCard : Claim7 := { stood := { row := gateNoneRow, standIns := [], harness := (true, "2d95269fdd2b6b7fb1d1db401624baaf1d89dd57d1422002902dcfa6b0f45fce"), looks := false }, kinds := [], alts := [], laidByText := true, laidKinds := [.data, .data], laidTests := true, laidLooks := .later }
def GateNoneCardSaid : Prop := Claim7.holds Tryd.pinned (.plain (OpenSpec.ofChange gateNoneSpec)) gateNoneCard

/-- THE TIED CARD OF 'sakialaw18.TurnAlone'. -/
def turnAloneCard : Claim7 := { stood := { row := turnAloneRow, standIns := [], harness := (true, "2d95269fdd2b6b7fb1d1db401624baaf1d89dd57d1422002902dcfa6b0f45fce"), looks := false }, kinds := [], alts := [], laidByText := true, laidKinds := [.data], laidTests := true, laidLooks := .later }
def TurnAloneCardSaid : Prop := Claim7.holds Tryd.pinned (.plain (OpenSpec.ofChange turnAloneSpec)) turnAloneCard

/-- THE TIED CARD OF 'sakialaw18.TurnComes'. -/
def turnComesCard : Claim7 := { stood := { row := turnComesRow, standIns := [], harness := (true, "2d95269fdd2b6b7fb1d1db401624baaf1d89dd57d1422002902dcfa6b0f45fce"), looks := false }, kinds := [], alts := [], laidByText := true, laidKinds := [.data], laidTests := true, laidLooks := .later }
def TurnComesCardSaid : Prop := Claim7.holds Tryd.pinned (.plain (OpenSpec.ofChange turnComesSpec)) turnComesCard

/-- THE TIED CARD OF 'sakialaw18.TurnNone'. -/
def turnNoneCard : Claim7 := { stood := { row := turnNoneRow, standIns := [], harness := (true, "2d95269fdd2b6b7fb1d1db401624baaf1d89dd57d1422002902dcfa6b0f45fce"), looks := false }, kinds := [], alts := [], laidByText := true, laidKinds := [.data], laidTests := true, laidLooks := .later }
def TurnNoneCardSaid : Prop := Claim7.holds Tryd.pinned (.plain (OpenSpec.ofChange turnNoneSpec)) turnNoneCard

/-- THE SECOND FORM's CARD OF 'sakialaw16.GateNone'. -/
def gateNoneUptoCard : Claim7 := { stood := { row := gateNoneUptoRow, standIns := [], harness := (true, "2d95269fdd2b6b7fb1d1db401624baaf1d89dd57d1422002902dcfa6b0f45fce"), looks := false }, kinds := [], alts := [], laidByText := true, laidKinds := [.data, .data], laidTests := true, laidLooks := .later }
def GateNoneUptoCardSaid : Prop := Claim7.holds Tryd.pinned (.plain (OpenSpec.upto gateNoneSpec)) gateNoneUptoCard

/-- THE SECOND FORM's CARD OF 'sakialaw18.TurnAlone'. -/
def turnAloneUptoCard : Claim7 := { stood := { row := turnAloneUptoRow, standIns := [], harness := (true, "2d95269fdd2b6b7fb1d1db401624baaf1d89dd57d1422002902dcfa6b0f45fce"), looks := false }, kinds := [], alts := [], laidByText := true, laidKinds := [.data], laidTests := true, laidLooks := .later }
def TurnAloneUptoCardSaid : Prop := Claim7.holds Tryd.pinned (.plain (OpenSpec.upto turnAloneSpec)) turnAloneUptoCard

/-- THE SECOND FORM's CARD OF 'sakialaw18.TurnComes'. -/
def turnComesUptoCard : Claim7 := { stood := { row := turnComesUptoRow, standIns := [], harness := (true, "2d95269fdd2b6b7fb1d1db401624baaf1d89dd57d1422002902dcfa6b0f45fce"), looks := false }, kinds := [], alts := [], laidByText := true, laidKinds := [.data], laidTests := true, laidLooks := .later }
def TurnComesUptoCardSaid : Prop := Claim7.holds Tryd.pinned (.plain (OpenSpec.upto turnComesSpec)) turnComesUptoCard

/-- THE SECOND FORM's CARD OF 'sakialaw18.TurnNone'. -/
def turnNoneUptoCard : Claim7 := { stood := { row := turnNoneUptoRow, standIns := [], harness := (true, "2d95269fdd2b6b7fb1d1db401624baaf1d89dd57d1422002902dcfa6b0f45fce"), looks := false }, kinds := [], alts := [], laidByText := true, laidKinds := [.data], laidTests := true, laidLooks := .later }
def TurnNoneUptoCardSaid : Prop := Claim7.holds Tryd.pinned (.plain (OpenSpec.upto turnNoneSpec)) turnNoneUptoCard
end Rows
end Go.Proofs.YtnghecgmbkggmaaDoor
