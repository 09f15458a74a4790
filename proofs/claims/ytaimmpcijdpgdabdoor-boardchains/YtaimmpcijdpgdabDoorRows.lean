/-
  NARROWER THAN 'FOR EVERY INPUT', by the rows' own cells (each row's printed sentence says how): BoardChains: laid.
  DERIVED. THE GIVEN ROWS OF THIS SEAT. 1 by the template 'for every input the law returns true; each argument reads behind the call as it read before'; 0 by the template 'total and deterministic' (their statements: YtaimmpcijdpgdabDoorTotals.lean).
  GIVEN WITH THE SEED: the statements are not yours to turn. If you find one false, say at which input.
  Laid BY PROGRAM, IN A SANDBOX (cutbox-rows.mjs): the forced cells as the released guide's own fill.sh prints them over the translation 4ca86a843aca5604… (all of the seat's roots in one cut). By AI agents, Wed Nov 11 2026. No macro, syntax, notation, axiom, sorry.
-/
import Derived.Test.YtaimmpcijdpgdabDoorChecked
import GoSem.Claim
import GoSem.ClaimJoined
import GoSem.ClaimMapViews
import Derived.JoinedTies
import Derived.KernelRfl
namespace Go.Proofs.YtaimmpcijdpgdabDoor
/- THE CELL 'sum', in the pinned program and in every row, IS THE sha256 OF THE DUMP (.gsa) THAT YtaimmpcijdpgdabDoorProg.lean LOADS. Nothing in Lean hashes anything: it is a label: what it is worth is what the hold of that sum in a sandbox is worth. -/
noncomputable def Tryd.pinned : Pinned := { name := "ytaimmpcijdpgdabdoor", sum := "4ca86a843aca56045f15b5fe967c211956cb309d368c68071853b0b3788ec8b9", checked := Tryd.checked }
namespace Rows
def none {H : Type} : Left H := { results := [], args := [] }

/- WHAT THE LISTED PACKAGE-LEVEL VARIABLES READ AS WHEN THE CALL BEGINS. Each datum BY PROGRAM (the guide's laid-datum.mjs) off the statement by which the dump's own 'gosem.cut.vars' lays the variable. In a bare row this is a premise. The card (YtaimmpcijdpgdabDoorCards.lean) ties it to the program's text. -/
def laid_sakia_layout_parts {H : Type} : DataW H := .agg [.agg [.lit (.string []), .lit (.int .i64 0), .lit (.bool false)], .agg [.lit (.string [103, 97, 116, 101]), .lit (.int .i64 1), .lit (.bool true)], .agg [.lit (.string [99, 117, 114, 115, 111, 114]), .lit (.int .i64 1), .lit (.bool false)], .agg [.lit (.string [99, 108, 97, 105, 109]), .lit (.int .i64 1), .lit (.bool false)], .agg [.lit (.string [116, 105, 99, 107, 101, 116]), .lit (.int .i64 1), .lit (.bool false)], .agg [.lit (.string [115, 101, 114, 118, 105, 110, 103]), .lit (.int .i64 1), .lit (.bool false)], .agg [.lit (.string [110, 101, 120, 116]), .lit (.int .i64 2), .lit (.bool false)], .agg [.lit (.string [109, 97, 114, 107]), .lit (.int .i64 1), .lit (.bool true)], .agg [.lit (.string [115, 116, 97, 109, 112]), .lit (.int .i64 1), .lit (.bool true)], .agg [.lit (.string [100, 111, 110, 101]), .lit (.int .i64 2), .lit (.bool true)], .agg [.lit (.string [115, 108, 111, 116]), .lit (.int .i64 3), .lit (.bool true)]]

/-- 'sakialaw12.BoardChains': WHATEVER THE INPUT: true; the input reads as it did. -/
def boardChainsSpec : ChangeSpec := { name := "boardChains", fn := fun _ => fun
  | [d1, d2] => { results := [.lit (.bool true)], args := [d1, d2] }
  | _ => none }
def boardChainsRow : OpenClaim := { program := "ytaimmpcijdpgdabdoor", sum := "4ca86a843aca56045f15b5fe967c211956cb309d368c68071853b0b3788ec8b9", func := "sakia/sakialaw12.BoardChains", spec := "boardChains", unfollowed := true, recurses := true, named := ["sakia/layout.parts"], apart := false, laid := [("sakia/layout.parts", laid_sakia_layout_parts)] }
def BoardChainsSaid : Prop := boardChainsRow.holds Tryd.pinned (OpenSpec.ofChange boardChainsSpec)

/-- ITS FALSE NEIGHBOUR: 'it returns false'. Refute it at one input. -/
def boardChainsWrong : ChangeSpec := { name := "boardChains", fn := fun _ => fun
  | [d1, d2] => { results := [.lit (.bool false)], args := [d1, d2] }
  | _ => none }
def BoardChainsWrongFalsely : Prop := boardChainsRow.holds Tryd.pinned (OpenSpec.ofChange boardChainsWrong)

/- THE SECOND FORM. 'bulk': how many values and letters a reading holds, each counted each time it is reached (what is shared counts as often as it is met; a slice's spare places count too). A statement '..UptoSaid' is the law's where the arguments, and the package variables that the reading takes, are together of bulk at most 1048576: NARROWER than '..Said'. Prove '..Said' where nothing that the law and all that it calls make is longer than what came in: it says more and counts as full. Else prove '..UptoSaid'. A law counts once. -/
mutual
def uptoBulk {H : Type} : DataW H → Nat
  | .lit (.string bytes) => bytes.length + 1
  | .lit _ => 1
  | .nil => 1
  | .ptr d => uptoBulk d + 1
  | .slice elems spare => uptoBulkAll elems + uptoBulkAll spare + 1
  | .agg parts => uptoBulkAll parts + 1
  | .iface _ d => uptoBulk d + 1
  | .map entries => uptoBulkEntries entries + 1
  | .held _ => 1
def uptoBulkAll {H : Type} : List (DataW H) → Nat
  | [] => 0
  | d :: r => uptoBulk d + uptoBulkAll r
def uptoBulkEntries {H : Type} : List (Lit × DataW H) → Nat
  | [] => 0
  | x :: r => uptoBulkEntry x + uptoBulkEntries r
def uptoBulkEntry {H : Type} : Lit × DataW H → Nat
  | (.string bytes, d) => bytes.length + uptoBulk d + 1
  | (_, d) => uptoBulk d + 1
 end
def uptoSmall : (H : Type) → List (DataW H) → Bool := fun _ ds => decide (uptoBulkAll ds ≤ 1048576)
def OpenSpec.upto (s : _root_.Go.ChangeSpec) : _root_.Go.OpenSpec := { _root_.Go.OpenSpec.ofChange s with cond := some uptoSmall }

/-- 'sakialaw12.BoardChains', WHERE WHAT IT READS IS OF BULK AT MOST 1048576: true; the input reads as it did. -/
def boardChainsUptoRow : OpenClaim := { program := "ytaimmpcijdpgdabdoor", sum := "4ca86a843aca56045f15b5fe967c211956cb309d368c68071853b0b3788ec8b9", func := "sakia/sakialaw12.BoardChains", spec := "boardChains", unfollowed := true, recurses := true, named := ["sakia/layout.parts"], apart := false, laid := [("sakia/layout.parts", laid_sakia_layout_parts)], narrowed := true }
def BoardChainsUptoSaid : Prop := boardChainsUptoRow.holds Tryd.pinned (OpenSpec.upto boardChainsSpec)

end Rows
end Go.Proofs.YtaimmpcijdpgdabDoor
