/-
  NARROWER THAN 'FOR EVERY INPUT', by the rows' own cells (each row's printed sentence says how): GateScans: laid · GateBetween: laid · OnePlays: laid · OneTiles: laid · OneAlone: laid.
  DERIVED. THE GIVEN ROWS OF THIS SEAT. 5 by the template 'for every input the law returns true; each argument reads behind the call as it read before'; 0 by the template 'total and deterministic' (their statements: YtkmfamidahlgiaaGreatDoorTotals.lean).
  GIVEN WITH THE SEED: the statements are not yours to turn. If you find one false, say at which input.
  Laid BY PROGRAM, IN A SANDBOX (cutbox-rows.mjs): the forced cells as the released guide's own fill.sh prints them over the translation fc68f910e911cf8b… (all of the seat's roots in one cut). By AI agents, Wed Nov 11 2026. No macro, syntax, notation, axiom, sorry.
-/
import Derived.Test.YtkmfamidahlgiaaGreatDoorChecked
import GoSem.Claim
import GoSem.ClaimJoined
import GoSem.ClaimMapViews
import Derived.JoinedTies
import Derived.KernelRfl
namespace Go.Proofs.YtkmfamidahlgiaaGreatDoor
/- THE CELL 'sum', in the pinned program and in every row, IS THE sha256 OF THE DUMP (.gsa) THAT YtkmfamidahlgiaaGreatDoorProg.lean LOADS. Nothing in Lean hashes anything: it is a label: what it is worth is what the hold of that sum in a sandbox is worth. -/
noncomputable def Tryz.pinned : Pinned := { name := "ytkmfamidahlgiaagreatdoor", sum := "fc68f910e911cf8ba1289ff2c08f16a04d6cf8b78fe9469a354ffbd7377b6fe6", checked := Tryz.checked }
namespace Rows
def none {H : Type} : Left H := { results := [], args := [] }

/- WHAT THE LISTED PACKAGE-LEVEL VARIABLES READ AS WHEN THE CALL BEGINS. Each datum BY PROGRAM (the guide's laid-datum.mjs) off the statement by which the dump's own 'gosem.cut.vars' lays the variable. In a bare row this is a premise. The card (YtkmfamidahlgiaaGreatDoorCards.lean) ties it to the program's text. -/
def laid_math_bits_deBruijn64tab {H : Type} : DataW H := .agg [.lit (.int .u8 0), .lit (.int .u8 1), .lit (.int .u8 56), .lit (.int .u8 2), .lit (.int .u8 57), .lit (.int .u8 49), .lit (.int .u8 28), .lit (.int .u8 3), .lit (.int .u8 61), .lit (.int .u8 58), .lit (.int .u8 42), .lit (.int .u8 50), .lit (.int .u8 38), .lit (.int .u8 29), .lit (.int .u8 17), .lit (.int .u8 4), .lit (.int .u8 62), .lit (.int .u8 47), .lit (.int .u8 59), .lit (.int .u8 36), .lit (.int .u8 45), .lit (.int .u8 43), .lit (.int .u8 51), .lit (.int .u8 22), .lit (.int .u8 53), .lit (.int .u8 39), .lit (.int .u8 33), .lit (.int .u8 30), .lit (.int .u8 24), .lit (.int .u8 18), .lit (.int .u8 12), .lit (.int .u8 5), .lit (.int .u8 63), .lit (.int .u8 55), .lit (.int .u8 48), .lit (.int .u8 27), .lit (.int .u8 60), .lit (.int .u8 41), .lit (.int .u8 37), .lit (.int .u8 16), .lit (.int .u8 46), .lit (.int .u8 35), .lit (.int .u8 44), .lit (.int .u8 21), .lit (.int .u8 52), .lit (.int .u8 32), .lit (.int .u8 23), .lit (.int .u8 11), .lit (.int .u8 54), .lit (.int .u8 26), .lit (.int .u8 40), .lit (.int .u8 15), .lit (.int .u8 34), .lit (.int .u8 20), .lit (.int .u8 31), .lit (.int .u8 10), .lit (.int .u8 25), .lit (.int .u8 14), .lit (.int .u8 19), .lit (.int .u8 9), .lit (.int .u8 13), .lit (.int .u8 8), .lit (.int .u8 7), .lit (.int .u8 6)]
def laid_sakia_layout_parts {H : Type} : DataW H := .agg [.agg [.lit (.string []), .lit (.int .i64 0), .lit (.bool false)], .agg [.lit (.string [103, 97, 116, 101]), .lit (.int .i64 1), .lit (.bool true)], .agg [.lit (.string [99, 117, 114, 115, 111, 114]), .lit (.int .i64 1), .lit (.bool false)], .agg [.lit (.string [99, 108, 97, 105, 109]), .lit (.int .i64 1), .lit (.bool false)], .agg [.lit (.string [116, 105, 99, 107, 101, 116]), .lit (.int .i64 1), .lit (.bool false)], .agg [.lit (.string [115, 101, 114, 118, 105, 110, 103]), .lit (.int .i64 1), .lit (.bool false)], .agg [.lit (.string [110, 101, 120, 116]), .lit (.int .i64 2), .lit (.bool false)], .agg [.lit (.string [109, 97, 114, 107]), .lit (.int .i64 1), .lit (.bool true)], .agg [.lit (.string [115, 116, 97, 109, 112]), .lit (.int .i64 1), .lit (.bool true)], .agg [.lit (.string [100, 111, 110, 101]), .lit (.int .i64 2), .lit (.bool true)], .agg [.lit (.string [115, 108, 111, 116]), .lit (.int .i64 3), .lit (.bool true)]]

/-- 'sakialaw16.GateScans': WHATEVER THE INPUT: true; the input reads as it did. -/
def gateScansSpec : ChangeSpec := { name := "gateScans", fn := fun _ => fun
  | [d1, d2, d3] => { results := [.lit (.bool true)], args := [d1, d2, d3] }
  | _ => none }
def gateScansRow : OpenClaim := { program := "ytkmfamidahlgiaagreatdoor", sum := "fc68f910e911cf8ba1289ff2c08f16a04d6cf8b78fe9469a354ffbd7377b6fe6", func := "sakia/sakialaw16.GateScans", spec := "gateScans", unfollowed := true, recurses := true, named := ["math/bits.deBruijn64tab", "sakia/layout.parts"], apart := false, laid := [("math/bits.deBruijn64tab", laid_math_bits_deBruijn64tab), ("sakia/layout.parts", laid_sakia_layout_parts)] }
def GateScansSaid : Prop := gateScansRow.holds Tryz.pinned (OpenSpec.ofChange gateScansSpec)

/-- ITS FALSE NEIGHBOUR: 'it returns false'. Refute it at one input. -/
def gateScansWrong : ChangeSpec := { name := "gateScans", fn := fun _ => fun
  | [d1, d2, d3] => { results := [.lit (.bool false)], args := [d1, d2, d3] }
  | _ => none }
def GateScansWrongFalsely : Prop := gateScansRow.holds Tryz.pinned (OpenSpec.ofChange gateScansWrong)

/-- 'sakialaw16.GateBetween': WHATEVER THE INPUT: true; the input reads as it did. -/
def gateBetweenSpec : ChangeSpec := { name := "gateBetween", fn := fun _ => fun
  | [d1, d2, d3] => { results := [.lit (.bool true)], args := [d1, d2, d3] }
  | _ => none }
def gateBetweenRow : OpenClaim := { program := "ytkmfamidahlgiaagreatdoor", sum := "fc68f910e911cf8ba1289ff2c08f16a04d6cf8b78fe9469a354ffbd7377b6fe6", func := "sakia/sakialaw16.GateBetween", spec := "gateBetween", unfollowed := true, recurses := true, named := ["sakia/layout.parts", "math/bits.deBruijn64tab"], apart := false, laid := [("math/bits.deBruijn64tab", laid_math_bits_deBruijn64tab), ("sakia/layout.parts", laid_sakia_layout_parts)] }
def GateBetweenSaid : Prop := gateBetweenRow.holds Tryz.pinned (OpenSpec.ofChange gateBetweenSpec)

/-- ITS FALSE NEIGHBOUR: 'it returns false'. Refute it at one input. -/
def gateBetweenWrong : ChangeSpec := { name := "gateBetween", fn := fun _ => fun
  | [d1, d2, d3] => { results := [.lit (.bool false)], args := [d1, d2, d3] }
  | _ => none }
def GateBetweenWrongFalsely : Prop := gateBetweenRow.holds Tryz.pinned (OpenSpec.ofChange gateBetweenWrong)

/-- 'sakialaw19.OnePlays': WHATEVER THE INPUT: true; the input reads as it did. -/
def onePlaysSpec : ChangeSpec := { name := "onePlays", fn := fun _ => fun
  | [d1, d2] => { results := [.lit (.bool true)], args := [d1, d2] }
  | _ => none }
def onePlaysRow : OpenClaim := { program := "ytkmfamidahlgiaagreatdoor", sum := "fc68f910e911cf8ba1289ff2c08f16a04d6cf8b78fe9469a354ffbd7377b6fe6", func := "sakia/sakialaw19.OnePlays", spec := "onePlays", unfollowed := true, recurses := true, named := ["math/bits.deBruijn64tab", "sakia/layout.parts"], apart := false, laid := [("math/bits.deBruijn64tab", laid_math_bits_deBruijn64tab), ("sakia/layout.parts", laid_sakia_layout_parts)] }
def OnePlaysSaid : Prop := onePlaysRow.holds Tryz.pinned (OpenSpec.ofChange onePlaysSpec)

/-- ITS FALSE NEIGHBOUR: 'it returns false'. Refute it at one input. -/
def onePlaysWrong : ChangeSpec := { name := "onePlays", fn := fun _ => fun
  | [d1, d2] => { results := [.lit (.bool false)], args := [d1, d2] }
  | _ => none }
def OnePlaysWrongFalsely : Prop := onePlaysRow.holds Tryz.pinned (OpenSpec.ofChange onePlaysWrong)

/-- 'sakialaw19.OneTiles': WHATEVER THE INPUT: true; the input reads as it did. -/
def oneTilesSpec : ChangeSpec := { name := "oneTiles", fn := fun _ => fun
  | [d1, d2] => { results := [.lit (.bool true)], args := [d1, d2] }
  | _ => none }
def oneTilesRow : OpenClaim := { program := "ytkmfamidahlgiaagreatdoor", sum := "fc68f910e911cf8ba1289ff2c08f16a04d6cf8b78fe9469a354ffbd7377b6fe6", func := "sakia/sakialaw19.OneTiles", spec := "oneTiles", unfollowed := true, recurses := true, named := ["math/bits.deBruijn64tab", "sakia/layout.parts"], apart := false, laid := [("math/bits.deBruijn64tab", laid_math_bits_deBruijn64tab), ("sakia/layout.parts", laid_sakia_layout_parts)] }
def OneTilesSaid : Prop := oneTilesRow.holds Tryz.pinned (OpenSpec.ofChange oneTilesSpec)

/-- ITS FALSE NEIGHBOUR: 'it returns false'. Refute it at one input. -/
def oneTilesWrong : ChangeSpec := { name := "oneTiles", fn := fun _ => fun
  | [d1, d2] => { results := [.lit (.bool false)], args := [d1, d2] }
  | _ => none }
def OneTilesWrongFalsely : Prop := oneTilesRow.holds Tryz.pinned (OpenSpec.ofChange oneTilesWrong)

/-- 'sakialaw19.OneAlone': WHATEVER THE INPUT: true; the input reads as it did. -/
def oneAloneSpec : ChangeSpec := { name := "oneAlone", fn := fun _ => fun
  | [d1, d2] => { results := [.lit (.bool true)], args := [d1, d2] }
  | _ => none }
def oneAloneRow : OpenClaim := { program := "ytkmfamidahlgiaagreatdoor", sum := "fc68f910e911cf8ba1289ff2c08f16a04d6cf8b78fe9469a354ffbd7377b6fe6", func := "sakia/sakialaw19.OneAlone", spec := "oneAlone", unfollowed := true, recurses := true, named := ["math/bits.deBruijn64tab", "sakia/layout.parts"], apart := false, laid := [("math/bits.deBruijn64tab", laid_math_bits_deBruijn64tab), ("sakia/layout.parts", laid_sakia_layout_parts)] }
def OneAloneSaid : Prop := oneAloneRow.holds Tryz.pinned (OpenSpec.ofChange oneAloneSpec)

/-- ITS FALSE NEIGHBOUR: 'it returns false'. Refute it at one input. -/
def oneAloneWrong : ChangeSpec := { name := "oneAlone", fn := fun _ => fun
  | [d1, d2] => { results := [.lit (.bool false)], args := [d1, d2] }
  | _ => none }
def OneAloneWrongFalsely : Prop := oneAloneRow.holds Tryz.pinned (OpenSpec.ofChange oneAloneWrong)

/- THE SECOND FORM. 'bulk': how many values and letters a reading holds, each counted each time it is reached (what is shared counts as often as it is met; a slice's spare places count too). A statement '..UptoSaid' is the law's where the arguments, and the package variables that the reading takes, are together of bulk at most 1048576: NARROWER than '..Said'. Prove '..Said' where nothing that the law and all that it calls make is longer than what came in: it says more and counts as full. Else prove '..UptoSaid'. A law counts once. -/
mutual
def uptoBulk {H : Type} : DataW H → Nat
  | .lit (.string bytes) => bytes.length + 1
  | .lit _ => 1
  | .nil => 1
  | .ptr d => uptoBulk d + 1
  | .slice elems spare => uptoBulkAll elems + uptoBulkAll spare + 1
  | .agg parts => uptoBulkAll parts + 1
  | .iface _ d => uptoBulk d + 1
  | .map entries => uptoBulkEntries entries + 1
  | .held _ => 1
def uptoBulkAll {H : Type} : List (DataW H) → Nat
  | [] => 0
  | d :: r => uptoBulk d + uptoBulkAll r
def uptoBulkEntries {H : Type} : List (Lit × DataW H) → Nat
  | [] => 0
  | x :: r => uptoBulkEntry x + uptoBulkEntries r
def uptoBulkEntry {H : Type} : Lit × DataW H → Nat
  | (.string bytes, d) => bytes.length + uptoBulk d + 1
  | (_, d) => uptoBulk d + 1
 end
def uptoSmall : (H : Type) → List (DataW H) → Bool := fun _ ds => decide (uptoBulkAll ds ≤ 1048576)
def OpenSpec.upto (s : _root_.Go.ChangeSpec) : _root_.Go.OpenSpec := { _root_.Go.OpenSpec.ofChange s with cond := some uptoSmall }

/-- 'sakialaw16.GateScans', WHERE WHAT IT READS IS OF BULK AT MOST 1048576: true; the input reads as it did. -/
def gateScansUptoRow : OpenClaim := { program := "ytkmfamidahlgiaagreatdoor", sum := "fc68f910e911cf8ba1289ff2c08f16a04d6cf8b78fe9469a354ffbd7377b6fe6", func := "sakia/sakialaw16.GateScans", spec := "gateScans", unfollowed := true, recurses := true, named := ["math/bits.deBruijn64tab", "sakia/layout.parts"], apart := false, laid := [("math/bits.deBruijn64tab", laid_math_bits_deBruijn64tab), ("sakia/layout.parts", laid_sakia_layout_parts)], narrowed := true }
def GateScansUptoSaid : Prop := gateScansUptoRow.holds Tryz.pinned (OpenSpec.upto gateScansSpec)

/-- 'sakialaw16.GateBetween', WHERE WHAT IT READS IS OF BULK AT MOST 1048576: true; the input reads as it did. -/
def gateBetweenUptoRow : OpenClaim := { program := "ytkmfamidahlgiaagreatdoor", sum := "fc68f910e911cf8ba1289ff2c08f16a04d6cf8b78fe9469a354ffbd7377b6fe6", func := "sakia/sakialaw16.GateBetween", spec := "gateBetween", unfollowed := true, recurses := true, named := ["sakia/layout.parts", "math/bits.deBruijn64tab"], apart := false, laid := [("math/bits.deBruijn64tab", laid_math_bits_deBruijn64tab), ("sakia/layout.parts", laid_sakia_layout_parts)], narrowed := true }
def GateBetweenUptoSaid : Prop := gateBetweenUptoRow.holds Tryz.pinned (OpenSpec.upto gateBetweenSpec)

/-- 'sakialaw19.OnePlays', WHERE WHAT IT READS IS OF BULK AT MOST 1048576: true; the input reads as it did. -/
def onePlaysUptoRow : OpenClaim := { program := "ytkmfamidahlgiaagreatdoor", sum := "fc68f910e911cf8ba1289ff2c08f16a04d6cf8b78fe9469a354ffbd7377b6fe6", func := "sakia/sakialaw19.OnePlays", spec := "onePlays", unfollowed := true, recurses := true, named := ["math/bits.deBruijn64tab", "sakia/layout.parts"], apart := false, laid := [("math/bits.deBruijn64tab", laid_math_bits_deBruijn64tab), ("sakia/layout.parts", laid_sakia_layout_parts)], narrowed := true }
def OnePlaysUptoSaid : Prop := onePlaysUptoRow.holds Tryz.pinned (OpenSpec.upto onePlaysSpec)

/-- 'sakialaw19.OneTiles', WHERE WHAT IT READS IS OF BULK AT MOST 1048576: true; the input reads as it did. -/
def oneTilesUptoRow : OpenClaim := { program := "ytkmfamidahlgiaagreatdoor", sum := "fc68f910e911cf8ba1289ff2c08f16a04d6cf8b78fe9469a354ffbd7377b6fe6", func := "sakia/sakialaw19.OneTiles", spec := "oneTiles", unfollowed := true, recurses := true, named := ["math/bits.deBruijn64tab", "sakia/layout.parts"], apart := false, laid := [("math/bits.deBruijn64tab", laid_math_bits_deBruijn64tab), ("sakia/layout.parts", laid_sakia_layout_parts)], narrowed := true }
def OneTilesUptoSaid : Prop := oneTilesUptoRow.holds Tryz.pinned (OpenSpec.upto oneTilesSpec)

/-- 'sakialaw19.OneAlone', WHERE WHAT IT READS IS OF BULK AT MOST 1048576: true; the input reads as it did. -/
def oneAloneUptoRow : OpenClaim := { program := "ytkmfamidahlgiaagreatdoor", sum := "fc68f910e911cf8ba1289ff2c08f16a04d6cf8b78fe9469a354ffbd7377b6fe6", func := "sakia/sakialaw19.OneAlone", spec := "oneAlone", unfollowed := true, recurses := true, named := ["math/bits.deBruijn64tab", "sakia/layout.parts"], apart := false, laid := [("math/bits.deBruijn64tab", laid_math_bits_deBruijn64tab), ("sakia/layout.parts", laid_sakia_layout_parts)], narrowed := true }
def OneAloneUptoSaid : Prop := oneAloneUptoRow.holds Tryz.pinned (OpenSpec.upto oneAloneSpec)

end Rows
end Go.Proofs.YtkmfamidahlgiaaGreatDoor
