/- words.Show, over the table of powers of ten. -/
import Derived.Test.YtaimmpcijdpgdaaDoorRows
import Derived.Test.YtaimmpcijdpgdaaDoorExt
import Derived.Test.YtaimmpcijdpgdaaDoorRef06
import Derived.Test.YtaimmpcijdpgdaaDoorShelf
import Derived.WalkKit
import Derived.ProofKit
import Derived.Lib.ItoaMem
namespace Go.Proofs.YtaimmpcijdpgdaaDoor
open Go.RowKit Go.Sort
set_option linter.unusedVariables false
set_option maxHeartbeats 2000000
/-- the table of powers of ten, as it lies -/
def Pow (w : World) : Prop := Lib.TabIs Tryd.prog w "internal/strconv.uint64pow10" .u64 Lib.pow10Tab
theorem tabIs_ext {P : Program} {w w' : World} {name : String} {k : IntKind} {zs : List Int} (h : Lib.TabIs P w name k zs) (he : Ext w w') : Lib.TabIs P w' name k zs := by
  unfold Lib.TabIs World.var? at *
  cases hg : P.globalNamed name with
  | none => simp [hg] at h
  | some g =>
    simp only [hg, Option.bind_some] at h ⊢
    have hlt : g < w.heap.size := by
      rcases Nat.lt_or_ge g w.heap.size with h' | h'
      · exact h'
      · rw [Array.getElem?_eq_none h'] at h; simp at h
    rw [he.below.block g hlt]
    exact h
theorem Pow.ext {w w' : World} (h : Pow w) (he : Ext w w') : Pow w' := tabIs_ext h he
theorem ext_grow (w : World) (k : Nat) (os : Array Obj) : Ext w (grow (w.drewN k) os) :=
  ⟨rfl, rfl, rfl, by simp [grow, World.drewN], fun i hi => by simp only [grow, World.drewN]; rw [Array.getElem?_append_left hi]⟩
set_option maxRecDepth 100000 in
theorem cShow (n : Int) (w : World) (h0 : -9223372036854775808 ≤ n) (h1 : n ≤ 9223372036854775807) (E : Pow w) :
    Calls Tryd.prog 34 #[.int .i64 n] w fun e w' => e = .returned (.string (tx (Lib.itoa n))) ∧ Ext w w' := by
  have c := (Tryd.strconv_Itoa n h0 h1 w E).mono (R' := fun e w' => e = .returned (.string (tx (Lib.itoa n))) ∧ Ext w w') (by rintro e w' ⟨rfl, k, os, rfl⟩; exact ⟨rfl, ext_grow w k os⟩)
  go_enter Tryd.func34, Tryd.ntmps34
  go_wp2_with fail
  refine c.mono ?_
  rintro e w' ⟨rfl, hw⟩
  go_wp2
  go_ret
  exact ⟨rfl, hw⟩
end Go.Proofs.YtaimmpcijdpgdaaDoor
