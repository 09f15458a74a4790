/- conf.Alike, and the document's Alike and Same. -/
import Derived.Test.YtaimmpcijdpgdaaDoorCf3
import Derived.Test.YtaimmpcijdpgdaaDoorCf4
namespace Go.Proofs.YtaimmpcijdpgdaaDoor
open Go.RowKit
set_option linter.unusedVariables false
set_option maxHeartbeats 1000000
attribute [local go_sem] later_cell later_frozen later_const
def alikeB (C P S C' P' S' : Int) (xs ys : List (List Int)) : Bool := decide (C = C') && decide (P = P') && decide (S % 4294967296 = S' % 4294967296) && decide (xs = ys)
set_option maxRecDepth 100000 in
theorem alike_mod (S S' : Int) : (U64 (S - S') % 4294967296 == 0) = decide (S % 4294967296 = S' % 4294967296) := by
  rw [U64_mod, Bool.eq_iff_iff, beq_iff_eq, decide_eq_true_eq]
  omega
theorem rSame (V W C P S : Int) (u u' : Value) (xs : List (List Int)) (w : World) (h1 : ListsV w u xs) (h2 : ListsV w u' xs) (hl : xs.length ≤ 1000000) (k1 : ∀ l ∈ xs, l.length ≤ 1000000) :
    Calls Tryd.prog 13 #[(.agg #[.int .i64 V, .int .i64 W, .int .i64 C, .int .i64 P, .int .u64 (S), u]), (.agg #[.int .i64 V, .int .i64 W, .int .i64 C, .int .i64 P, .int .u64 (S), u'])] w fun e w' => e = .returned (.bool true) ∧ Ext w w' := by
  obtain ⟨a1, c1, e, -⟩ := id h1
  subst e
  obtain ⟨a2, c2, e, -⟩ := id h2
  subst e
  have CE := Lib.hid (fun w' (hx : Ext w w') => rGraphs_is _ _ xs xs w' (h1.ext hx) (h2.ext hx) hl hl k1 k1)
  rw [decide_eq_true rfl] at CE
  clear h1 h2 k1
  generalize xs.length = n at *
  go_enter Tryd.func13, Tryd.ntmps13
  go_wp2_with fail
  refine (CE.out _ (by repeat (first | with_reducible exact Ext.refl _ | with_reducible assumption | with_reducible refine Ext.alloc ?_ _ | with_reducible refine Ext.drew ?_ | with_reducible refine Ext.drewN ?_ _ | with_reducible refine Ext.setCell ?_ (by simp <;> omega) _ | with_reducible refine Ext.trans ?_ (by assumption)))).mono ?_
  rintro e w1 ⟨rfl, hb1⟩
  obtain ⟨hc1, hf1⟩ := hb1.cells
  go_wp2
  go_ret
  refine ⟨rfl, ?_⟩
  repeat (first | with_reducible exact Ext.refl _ | with_reducible assumption | with_reducible refine Ext.alloc ?_ _ | with_reducible refine Ext.drew ?_ | with_reducible refine Ext.drewN ?_ _ | with_reducible refine Ext.setCell ?_ (by simp <;> omega) _ | with_reducible refine Ext.trans ?_ (by assumption))
end Go.Proofs.YtaimmpcijdpgdaaDoor
