/-
  No cell of these rows narrows 'for every input' (looked for: loops, veiled, ifaces, maps, wideKeys, modest, calm, conditions, laid).
  DERIVED. THE GIVEN ROWS OF THIS SEAT. 8 by the template 'for every input the law returns true; each argument reads behind the call as it read before'; 0 by the template 'total and deterministic' (their statements: YtkilonccbnohnaaTotals.lean).
  GIVEN WITH THE SEED: the statements are not yours to turn. If you find one false, say at which input.
  Laid BY PROGRAM, IN A SANDBOX (cutbox-rows.mjs): the forced cells as the released guide's own fill.sh prints them over the translation 37e0ca674647c08f… (all of the seat's roots in one cut). By AI agents, Wed Nov 11 2026. No macro, syntax, notation, axiom, sorry.
-/
import Derived.Test.YtkilonccbnohnaaChecked
import GoSem.Claim
import GoSem.ClaimJoined
import GoSem.ClaimMapViews
import Derived.JoinedTies
import Derived.KernelRfl
namespace Go.Proofs.Ytkilonccbnohnaa
/- THE CELL 'sum', in the pinned program and in every row, IS THE sha256 OF THE DUMP (.gsa) THAT YtkilonccbnohnaaProg.lean LOADS. Nothing in Lean hashes anything: it is a label: what it is worth is what the hold of that sum in a sandbox is worth. -/
noncomputable def Try.pinned : Pinned := { name := "ytkilonccbnohnaa", sum := "37e0ca674647c08f79c7c38786b66b9481b3f3bce07d82e0d287b1406d567593", checked := Try.checked }
namespace Rows
def none {H : Type} : Left H := { results := [], args := [] }

/-- 'sakialaw01.WideTells': WHATEVER THE INPUT: true; the input reads as it did. -/
def wideTellsSpec : ChangeSpec := { name := "wideTells", fn := fun _ => fun
  | [d1, d2, d3] => { results := [.lit (.bool true)], args := [d1, d2, d3] }
  | _ => none }
def wideTellsRow : OpenClaim := { program := "ytkilonccbnohnaa", sum := "37e0ca674647c08f79c7c38786b66b9481b3f3bce07d82e0d287b1406d567593", func := "sakia/sakialaw01.WideTells", spec := "wideTells", apart := false }
def WideTellsSaid : Prop := wideTellsRow.holds Try.pinned (OpenSpec.ofChange wideTellsSpec)

/-- ITS FALSE NEIGHBOUR: 'it returns false'. Refute it at one input. -/
def wideTellsWrong : ChangeSpec := { name := "wideTells", fn := fun _ => fun
  | [d1, d2, d3] => { results := [.lit (.bool false)], args := [d1, d2, d3] }
  | _ => none }
def WideTellsWrongFalsely : Prop := wideTellsRow.holds Try.pinned (OpenSpec.ofChange wideTellsWrong)

/-- 'sakialaw01.WideCuts': WHATEVER THE INPUT: true; the input reads as it did. -/
def wideCutsSpec : ChangeSpec := { name := "wideCuts", fn := fun _ => fun
  | [d1, d2, d3] => { results := [.lit (.bool true)], args := [d1, d2, d3] }
  | _ => none }
def wideCutsRow : OpenClaim := { program := "ytkilonccbnohnaa", sum := "37e0ca674647c08f79c7c38786b66b9481b3f3bce07d82e0d287b1406d567593", func := "sakia/sakialaw01.WideCuts", spec := "wideCuts", apart := false }
def WideCutsSaid : Prop := wideCutsRow.holds Try.pinned (OpenSpec.ofChange wideCutsSpec)

/-- ITS FALSE NEIGHBOUR: 'it returns false'. Refute it at one input. -/
def wideCutsWrong : ChangeSpec := { name := "wideCuts", fn := fun _ => fun
  | [d1, d2, d3] => { results := [.lit (.bool false)], args := [d1, d2, d3] }
  | _ => none }
def WideCutsWrongFalsely : Prop := wideCutsRow.holds Try.pinned (OpenSpec.ofChange wideCutsWrong)

/-- 'sakialaw01.WideBack': WHATEVER THE INPUT: true; the input reads as it did. -/
def wideBackSpec : ChangeSpec := { name := "wideBack", fn := fun _ => fun
  | [d1, d2, d3] => { results := [.lit (.bool true)], args := [d1, d2, d3] }
  | _ => none }
def wideBackRow : OpenClaim := { program := "ytkilonccbnohnaa", sum := "37e0ca674647c08f79c7c38786b66b9481b3f3bce07d82e0d287b1406d567593", func := "sakia/sakialaw01.WideBack", spec := "wideBack", apart := false }
def WideBackSaid : Prop := wideBackRow.holds Try.pinned (OpenSpec.ofChange wideBackSpec)

/-- ITS FALSE NEIGHBOUR: 'it returns false'. Refute it at one input. -/
def wideBackWrong : ChangeSpec := { name := "wideBack", fn := fun _ => fun
  | [d1, d2, d3] => { results := [.lit (.bool false)], args := [d1, d2, d3] }
  | _ => none }
def WideBackWrongFalsely : Prop := wideBackRow.holds Try.pinned (OpenSpec.ofChange wideBackWrong)

/-- 'sakialaw01.WideLeast': WHATEVER THE INPUT: true; the input reads as it did. -/
def wideLeastSpec : ChangeSpec := { name := "wideLeast", fn := fun _ => fun
  | [d1, d2] => { results := [.lit (.bool true)], args := [d1, d2] }
  | _ => none }
def wideLeastRow : OpenClaim := { program := "ytkilonccbnohnaa", sum := "37e0ca674647c08f79c7c38786b66b9481b3f3bce07d82e0d287b1406d567593", func := "sakia/sakialaw01.WideLeast", spec := "wideLeast", apart := false }
def WideLeastSaid : Prop := wideLeastRow.holds Try.pinned (OpenSpec.ofChange wideLeastSpec)

/-- ITS FALSE NEIGHBOUR: 'it returns false'. Refute it at one input. -/
def wideLeastWrong : ChangeSpec := { name := "wideLeast", fn := fun _ => fun
  | [d1, d2] => { results := [.lit (.bool false)], args := [d1, d2] }
  | _ => none }
def WideLeastWrongFalsely : Prop := wideLeastRow.holds Try.pinned (OpenSpec.ofChange wideLeastWrong)

/-- 'sakialaw02.LapTells': WHATEVER THE INPUT: true; the input reads as it did. -/
def lapTellsSpec : ChangeSpec := { name := "lapTells", fn := fun _ => fun
  | [d1, d2, d3] => { results := [.lit (.bool true)], args := [d1, d2, d3] }
  | _ => none }
def lapTellsRow : OpenClaim := { program := "ytkilonccbnohnaa", sum := "37e0ca674647c08f79c7c38786b66b9481b3f3bce07d82e0d287b1406d567593", func := "sakia/sakialaw02.LapTells", spec := "lapTells", apart := false }
def LapTellsSaid : Prop := lapTellsRow.holds Try.pinned (OpenSpec.ofChange lapTellsSpec)

/-- ITS FALSE NEIGHBOUR: 'it returns false'. Refute it at one input. -/
def lapTellsWrong : ChangeSpec := { name := "lapTells", fn := fun _ => fun
  | [d1, d2, d3] => { results := [.lit (.bool false)], args := [d1, d2, d3] }
  | _ => none }
def LapTellsWrongFalsely : Prop := lapTellsRow.holds Try.pinned (OpenSpec.ofChange lapTellsWrong)

/-- 'sakialaw02.LapBack': WHATEVER THE INPUT: true; the input reads as it did. -/
def lapBackSpec : ChangeSpec := { name := "lapBack", fn := fun _ => fun
  | [d1, d2] => { results := [.lit (.bool true)], args := [d1, d2] }
  | _ => none }
def lapBackRow : OpenClaim := { program := "ytkilonccbnohnaa", sum := "37e0ca674647c08f79c7c38786b66b9481b3f3bce07d82e0d287b1406d567593", func := "sakia/sakialaw02.LapBack", spec := "lapBack", apart := false }
def LapBackSaid : Prop := lapBackRow.holds Try.pinned (OpenSpec.ofChange lapBackSpec)

/-- ITS FALSE NEIGHBOUR: 'it returns false'. Refute it at one input. -/
def lapBackWrong : ChangeSpec := { name := "lapBack", fn := fun _ => fun
  | [d1, d2] => { results := [.lit (.bool false)], args := [d1, d2] }
  | _ => none }
def LapBackWrongFalsely : Prop := lapBackRow.holds Try.pinned (OpenSpec.ofChange lapBackWrong)

/-- 'sakialaw02.LapApart': WHATEVER THE INPUT: true; the input reads as it did. -/
def lapApartSpec : ChangeSpec := { name := "lapApart", fn := fun _ => fun
  | [d1, d2, d3] => { results := [.lit (.bool true)], args := [d1, d2, d3] }
  | _ => none }
def lapApartRow : OpenClaim := { program := "ytkilonccbnohnaa", sum := "37e0ca674647c08f79c7c38786b66b9481b3f3bce07d82e0d287b1406d567593", func := "sakia/sakialaw02.LapApart", spec := "lapApart", apart := false }
def LapApartSaid : Prop := lapApartRow.holds Try.pinned (OpenSpec.ofChange lapApartSpec)

/-- ITS FALSE NEIGHBOUR: 'it returns false'. Refute it at one input. -/
def lapApartWrong : ChangeSpec := { name := "lapApart", fn := fun _ => fun
  | [d1, d2, d3] => { results := [.lit (.bool false)], args := [d1, d2, d3] }
  | _ => none }
def LapApartWrongFalsely : Prop := lapApartRow.holds Try.pinned (OpenSpec.ofChange lapApartWrong)

/-- 'sakialaw02.LapTurns': WHATEVER THE INPUT: true; the input reads as it did. -/
def lapTurnsSpec : ChangeSpec := { name := "lapTurns", fn := fun _ => fun
  | [d1, d2, d3] => { results := [.lit (.bool true)], args := [d1, d2, d3] }
  | _ => none }
def lapTurnsRow : OpenClaim := { program := "ytkilonccbnohnaa", sum := "37e0ca674647c08f79c7c38786b66b9481b3f3bce07d82e0d287b1406d567593", func := "sakia/sakialaw02.LapTurns", spec := "lapTurns", apart := false }
def LapTurnsSaid : Prop := lapTurnsRow.holds Try.pinned (OpenSpec.ofChange lapTurnsSpec)

/-- ITS FALSE NEIGHBOUR: 'it returns false'. Refute it at one input. -/
def lapTurnsWrong : ChangeSpec := { name := "lapTurns", fn := fun _ => fun
  | [d1, d2, d3] => { results := [.lit (.bool false)], args := [d1, d2, d3] }
  | _ => none }
def LapTurnsWrongFalsely : Prop := lapTurnsRow.holds Try.pinned (OpenSpec.ofChange lapTurnsWrong)

/- THE SECOND FORM. 'bulk': how many values and letters a reading holds, each counted each time it is reached (what is shared counts as often as it is met; a slice's spare places count too). A statement '..UptoSaid' is the law's where the arguments, and the package variables that the reading takes, are together of bulk at most 1048576: NARROWER than '..Said'. Prove '..Said' where nothing that the law and all that it calls make is longer than what came in: it says more and counts as full. Else prove '..UptoSaid'. A law counts once. -/
mutual
def uptoBulk {H : Type} : DataW H → Nat
  | .lit (.string bytes) => bytes.length + 1
  | .lit _ => 1
  | .nil => 1
  | .ptr d => uptoBulk d + 1
  | .slice elems spare => uptoBulkAll elems + uptoBulkAll spare + 1
  | .agg parts => uptoBulkAll parts + 1
  | .iface _ d => uptoBulk d + 1
  | .map entries => uptoBulkEntries entries + 1
  | .held _ => 1
def uptoBulkAll {H : Type} : List (DataW H) → Nat
  | [] => 0
  | d :: r => uptoBulk d + uptoBulkAll r
def uptoBulkEntries {H : Type} : List (Lit × DataW H) → Nat
  | [] => 0
  | x :: r => uptoBulkEntry x + uptoBulkEntries r
def uptoBulkEntry {H : Type} : Lit × DataW H → Nat
  | (.string bytes, d) => bytes.length + uptoBulk d + 1
  | (_, d) => uptoBulk d + 1
 end
def uptoSmall : (H : Type) → List (DataW H) → Bool := fun _ ds => decide (uptoBulkAll ds ≤ 1048576)
def OpenSpec.upto (s : _root_.Go.ChangeSpec) : _root_.Go.OpenSpec := { _root_.Go.OpenSpec.ofChange s with cond := some uptoSmall }

/-- 'sakialaw01.WideTells', WHERE WHAT IT READS IS OF BULK AT MOST 1048576: true; the input reads as it did. -/
def wideTellsUptoRow : OpenClaim := { program := "ytkilonccbnohnaa", sum := "37e0ca674647c08f79c7c38786b66b9481b3f3bce07d82e0d287b1406d567593", func := "sakia/sakialaw01.WideTells", spec := "wideTells", apart := false, narrowed := true }
def WideTellsUptoSaid : Prop := wideTellsUptoRow.holds Try.pinned (OpenSpec.upto wideTellsSpec)

/-- 'sakialaw01.WideCuts', WHERE WHAT IT READS IS OF BULK AT MOST 1048576: true; the input reads as it did. -/
def wideCutsUptoRow : OpenClaim := { program := "ytkilonccbnohnaa", sum := "37e0ca674647c08f79c7c38786b66b9481b3f3bce07d82e0d287b1406d567593", func := "sakia/sakialaw01.WideCuts", spec := "wideCuts", apart := false, narrowed := true }
def WideCutsUptoSaid : Prop := wideCutsUptoRow.holds Try.pinned (OpenSpec.upto wideCutsSpec)

/-- 'sakialaw01.WideBack', WHERE WHAT IT READS IS OF BULK AT MOST 1048576: true; the input reads as it did. -/
def wideBackUptoRow : OpenClaim := { program := "ytkilonccbnohnaa", sum := "37e0ca674647c08f79c7c38786b66b9481b3f3bce07d82e0d287b1406d567593", func := "sakia/sakialaw01.WideBack", spec := "wideBack", apart := false, narrowed := true }
def WideBackUptoSaid : Prop := wideBackUptoRow.holds Try.pinned (OpenSpec.upto wideBackSpec)

/-- 'sakialaw01.WideLeast', WHERE WHAT IT READS IS OF BULK AT MOST 1048576: true; the input reads as it did. -/
def wideLeastUptoRow : OpenClaim := { program := "ytkilonccbnohnaa", sum := "37e0ca674647c08f79c7c38786b66b9481b3f3bce07d82e0d287b1406d567593", func := "sakia/sakialaw01.WideLeast", spec := "wideLeast", apart := false, narrowed := true }
def WideLeastUptoSaid : Prop := wideLeastUptoRow.holds Try.pinned (OpenSpec.upto wideLeastSpec)

/-- 'sakialaw02.LapTells', WHERE WHAT IT READS IS OF BULK AT MOST 1048576: true; the input reads as it did. -/
def lapTellsUptoRow : OpenClaim := { program := "ytkilonccbnohnaa", sum := "37e0ca674647c08f79c7c38786b66b9481b3f3bce07d82e0d287b1406d567593", func := "sakia/sakialaw02.LapTells", spec := "lapTells", apart := false, narrowed := true }
def LapTellsUptoSaid : Prop := lapTellsUptoRow.holds Try.pinned (OpenSpec.upto lapTellsSpec)

/-- 'sakialaw02.LapBack', WHERE WHAT IT READS IS OF BULK AT MOST 1048576: true; the input reads as it did. -/
def lapBackUptoRow : OpenClaim := { program := "ytkilonccbnohnaa", sum := "37e0ca674647c08f79c7c38786b66b9481b3f3bce07d82e0d287b1406d567593", func := "sakia/sakialaw02.LapBack", spec := "lapBack", apart := false, narrowed := true }
def LapBackUptoSaid : Prop := lapBackUptoRow.holds Try.pinned (OpenSpec.upto lapBackSpec)

/-- 'sakialaw02.LapApart', WHERE WHAT IT READS IS OF BULK AT MOST 1048576: true; the input reads as it did. -/
def lapApartUptoRow : OpenClaim := { program := "ytkilonccbnohnaa", sum := "37e0ca674647c08f79c7c38786b66b9481b3f3bce07d82e0d287b1406d567593", func := "sakia/sakialaw02.LapApart", spec := "lapApart", apart := false, narrowed := true }
def LapApartUptoSaid : Prop := lapApartUptoRow.holds Try.pinned (OpenSpec.upto lapApartSpec)

/-- 'sakialaw02.LapTurns', WHERE WHAT IT READS IS OF BULK AT MOST 1048576: true; the input reads as it did. -/
def lapTurnsUptoRow : OpenClaim := { program := "ytkilonccbnohnaa", sum := "37e0ca674647c08f79c7c38786b66b9481b3f3bce07d82e0d287b1406d567593", func := "sakia/sakialaw02.LapTurns", spec := "lapTurns", apart := false, narrowed := true }
def LapTurnsUptoSaid : Prop := lapTurnsUptoRow.holds Try.pinned (OpenSpec.upto lapTurnsSpec)

end Rows
end Go.Proofs.Ytkilonccbnohnaa
