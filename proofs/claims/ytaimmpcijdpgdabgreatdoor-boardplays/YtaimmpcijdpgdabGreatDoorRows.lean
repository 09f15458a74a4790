/-
  NARROWER THAN 'FOR EVERY INPUT', by the rows' own cells (each row's printed sentence says how): BoardPlays: laid · BoardCosts: laid · BoardNone: laid.
  DERIVED. THE GIVEN ROWS OF THIS SEAT. 3 by the template 'for every input the law returns true; each argument reads behind the call as it read before'; 0 by the template 'total and deterministic' (their statements: YtaimmpcijdpgdabGreatDoorTotals.lean).
  GIVEN WITH THE SEED: the statements are not yours to turn. If you find one false, say at which input.
  Laid BY PROGRAM, IN A SANDBOX (cutbox-rows.mjs): the forced cells as the released guide's own fill.sh prints them over the translation 1cd383036ef01745… (all of the seat's roots in one cut). By AI agents, Wed Nov 11 2026. No macro, syntax, notation, axiom, sorry.
-/
import Derived.Test.YtaimmpcijdpgdabGreatDoorChecked
import GoSem.Claim
import GoSem.ClaimJoined
import GoSem.ClaimMapViews
import Derived.JoinedTies
import Derived.KernelRfl
namespace Go.Proofs.YtaimmpcijdpgdabGreatDoor
/- THE CELL 'sum', in the pinned program and in every row, IS THE sha256 OF THE DUMP (.gsa) THAT YtaimmpcijdpgdabGreatDoorProg.lean LOADS. Nothing in Lean hashes anything: it is a label: what it is worth is what the hold of that sum in a sandbox is worth. -/
noncomputable def Tryz.pinned : Pinned := { name := "ytaimmpcijdpgdabgreatdoor", sum := "1cd383036ef01745551085cb95882a0ced2acf836df4fd1e1e1ba63aa06fb3ff", checked := Tryz.checked }
namespace Rows
def none {H : Type} : Left H := { results := [], args := [] }

/- WHAT THE LISTED PACKAGE-LEVEL VARIABLES READ AS WHEN THE CALL BEGINS. Each datum BY PROGRAM (the guide's laid-datum.mjs) off the statement by which the dump's own 'gosem.cut.vars' lays the variable. In a bare row this is a premise. The card (YtaimmpcijdpgdabGreatDoorCards.lean) ties it to the program's text. -/
def laid_sakia_layout_parts {H : Type} : DataW H := .agg [.agg [.lit (.string []), .lit (.int .i64 0), .lit (.bool false)], .agg [.lit (.string [103, 97, 116, 101]), .lit (.int .i64 1), .lit (.bool true)], .agg [.lit (.string [99, 117, 114, 115, 111, 114]), .lit (.int .i64 1), .lit (.bool false)], .agg [.lit (.string [99, 108, 97, 105, 109]), .lit (.int .i64 1), .lit (.bool false)], .agg [.lit (.string [116, 105, 99, 107, 101, 116]), .lit (.int .i64 1), .lit (.bool false)], .agg [.lit (.string [115, 101, 114, 118, 105, 110, 103]), .lit (.int .i64 1), .lit (.bool false)], .agg [.lit (.string [110, 101, 120, 116]), .lit (.int .i64 2), .lit (.bool false)], .agg [.lit (.string [109, 97, 114, 107]), .lit (.int .i64 1), .lit (.bool true)], .agg [.lit (.string [115, 116, 97, 109, 112]), .lit (.int .i64 1), .lit (.bool true)], .agg [.lit (.string [100, 111, 110, 101]), .lit (.int .i64 2), .lit (.bool true)], .agg [.lit (.string [115, 108, 111, 116]), .lit (.int .i64 3), .lit (.bool true)]]

/-- 'sakialaw12.BoardPlays': WHATEVER THE INPUT: true; the input reads as it did. -/
def boardPlaysSpec : ChangeSpec := { name := "boardPlays", fn := fun _ => fun
  | [d1, d2] => { results := [.lit (.bool true)], args := [d1, d2] }
  | _ => none }
def boardPlaysRow : OpenClaim := { program := "ytaimmpcijdpgdabgreatdoor", sum := "1cd383036ef01745551085cb95882a0ced2acf836df4fd1e1e1ba63aa06fb3ff", func := "sakia/sakialaw12.BoardPlays", spec := "boardPlays", unfollowed := true, recurses := true, named := ["sakia/layout.parts"], apart := false, laid := [("sakia/layout.parts", laid_sakia_layout_parts)] }
def BoardPlaysSaid : Prop := boardPlaysRow.holds Tryz.pinned (OpenSpec.ofChange boardPlaysSpec)

/-- ITS FALSE NEIGHBOUR: 'it returns false'. Refute it at one input. -/
def boardPlaysWrong : ChangeSpec := { name := "boardPlays", fn := fun _ => fun
  | [d1, d2] => { results := [.lit (.bool false)], args := [d1, d2] }
  | _ => none }
def BoardPlaysWrongFalsely : Prop := boardPlaysRow.holds Tryz.pinned (OpenSpec.ofChange boardPlaysWrong)

/-- 'sakialaw12.BoardCosts': WHATEVER THE INPUT: true; the input reads as it did. -/
def boardCostsSpec : ChangeSpec := { name := "boardCosts", fn := fun _ => fun
  | [d1, d2, d3] => { results := [.lit (.bool true)], args := [d1, d2, d3] }
  | _ => none }
def boardCostsRow : OpenClaim := { program := "ytaimmpcijdpgdabgreatdoor", sum := "1cd383036ef01745551085cb95882a0ced2acf836df4fd1e1e1ba63aa06fb3ff", func := "sakia/sakialaw12.BoardCosts", spec := "boardCosts", unfollowed := true, recurses := true, named := ["sakia/layout.parts"], apart := false, laid := [("sakia/layout.parts", laid_sakia_layout_parts)] }
def BoardCostsSaid : Prop := boardCostsRow.holds Tryz.pinned (OpenSpec.ofChange boardCostsSpec)

/-- ITS FALSE NEIGHBOUR: 'it returns false'. Refute it at one input. -/
def boardCostsWrong : ChangeSpec := { name := "boardCosts", fn := fun _ => fun
  | [d1, d2, d3] => { results := [.lit (.bool false)], args := [d1, d2, d3] }
  | _ => none }
def BoardCostsWrongFalsely : Prop := boardCostsRow.holds Tryz.pinned (OpenSpec.ofChange boardCostsWrong)

/-- 'sakialaw12.BoardNone': WHATEVER THE INPUT: true; the input reads as it did. -/
def boardNoneSpec : ChangeSpec := { name := "boardNone", fn := fun _ => fun
  | [d] => { results := [.lit (.bool true)], args := [d] }
  | _ => none }
def boardNoneRow : OpenClaim := { program := "ytaimmpcijdpgdabgreatdoor", sum := "1cd383036ef01745551085cb95882a0ced2acf836df4fd1e1e1ba63aa06fb3ff", func := "sakia/sakialaw12.BoardNone", spec := "boardNone", unfollowed := true, recurses := true, named := ["sakia/layout.parts"], apart := false, laid := [("sakia/layout.parts", laid_sakia_layout_parts)] }
def BoardNoneSaid : Prop := boardNoneRow.holds Tryz.pinned (OpenSpec.ofChange boardNoneSpec)

/-- ITS FALSE NEIGHBOUR: 'it returns false'. Refute it at one input. -/
def boardNoneWrong : ChangeSpec := { name := "boardNone", fn := fun _ => fun
  | [d] => { results := [.lit (.bool false)], args := [d] }
  | _ => none }
def BoardNoneWrongFalsely : Prop := boardNoneRow.holds Tryz.pinned (OpenSpec.ofChange boardNoneWrong)

/- THE SECOND FORM. 'bulk': how many values and letters a reading holds, each counted each time it is reached (what is shared counts as often as it is met; a slice's spare places count too). A statement '..UptoSaid' is the law's where the arguments, and the package variables that the reading takes, are together of bulk at most 1048576: NARROWER than '..Said'. Prove '..Said' where nothing that the law and all that it calls make is longer than what came in: it says more and counts as full. Else prove '..UptoSaid'. A law counts once. -/
mutual
def uptoBulk {H : Type} : DataW H → Nat
  | .lit (.string bytes) => bytes.length + 1
  | .lit _ => 1
  | .nil => 1
  | .ptr d => uptoBulk d + 1
  | .slice elems spare => uptoBulkAll elems + uptoBulkAll spare + 1
  | .agg parts => uptoBulkAll parts + 1
  | .iface _ d => uptoBulk d + 1
  | .map entries => uptoBulkEntries entries + 1
  | .held _ => 1
def uptoBulkAll {H : Type} : List (DataW H) → Nat
  | [] => 0
  | d :: r => uptoBulk d + uptoBulkAll r
def uptoBulkEntries {H : Type} : List (Lit × DataW H) → Nat
  | [] => 0
  | x :: r => uptoBulkEntry x + uptoBulkEntries r
def uptoBulkEntry {H : Type} : Lit × DataW H → Nat
  | (.string bytes, d) => bytes.length + uptoBulk d + 1
  | (_, d) => uptoBulk d + 1
 end
def uptoSmall : (H : Type) → List (DataW H) → Bool := fun _ ds => decide (uptoBulkAll ds ≤ 1048576)
def OpenSpec.upto (s : _root_.Go.ChangeSpec) : _root_.Go.OpenSpec := { _root_.Go.OpenSpec.ofChange s with cond := some uptoSmall }

/-- 'sakialaw12.BoardPlays', WHERE WHAT IT READS IS OF BULK AT MOST 1048576: true; the input reads as it did. -/
def boardPlaysUptoRow : OpenClaim := { program := "ytaimmpcijdpgdabgreatdoor", sum := "1cd383036ef01745551085cb95882a0ced2acf836df4fd1e1e1ba63aa06fb3ff", func := "sakia/sakialaw12.BoardPlays", spec := "boardPlays", unfollowed := true, recurses := true, named := ["sakia/layout.parts"], apart := false, laid := [("sakia/layout.parts", laid_sakia_layout_parts)], narrowed := true }
def BoardPlaysUptoSaid : Prop := boardPlaysUptoRow.holds Tryz.pinned (OpenSpec.upto boardPlaysSpec)

/-- 'sakialaw12.BoardCosts', WHERE WHAT IT READS IS OF BULK AT MOST 1048576: true; the input reads as it did. -/
def boardCostsUptoRow : OpenClaim := { program := "ytaimmpcijdpgdabgreatdoor", sum := "1cd383036ef01745551085cb95882a0ced2acf836df4fd1e1e1ba63aa06fb3ff", func := "sakia/sakialaw12.BoardCosts", spec := "boardCosts", unfollowed := true, recurses := true, named := ["sakia/layout.parts"], apart := false, laid := [("sakia/layout.parts", laid_sakia_layout_parts)], narrowed := true }
def BoardCostsUptoSaid : Prop := boardCostsUptoRow.holds Tryz.pinned (OpenSpec.upto boardCostsSpec)

/-- 'sakialaw12.BoardNone', WHERE WHAT IT READS IS OF BULK AT MOST 1048576: true; the input reads as it did. -/
def boardNoneUptoRow : OpenClaim := { program := "ytaimmpcijdpgdabgreatdoor", sum := "1cd383036ef01745551085cb95882a0ced2acf836df4fd1e1e1ba63aa06fb3ff", func := "sakia/sakialaw12.BoardNone", spec := "boardNone", unfollowed := true, recurses := true, named := ["sakia/layout.parts"], apart := false, laid := [("sakia/layout.parts", laid_sakia_layout_parts)], narrowed := true }
def BoardNoneUptoSaid : Prop := boardNoneUptoRow.holds Tryz.pinned (OpenSpec.upto boardNoneSpec)

end Rows
end Go.Proofs.YtaimmpcijdpgdabGreatDoor
