/- span's runs: the closure, and the iterator that it is. -/
import Derived.Test.YtclhbdedibcgjaaSpanCut
import Derived.Test.YtclhbdedibcgjaaSeq
import Derived.Test.YtclhbdedibcgjaaLap
import Derived.LoopNIn
import Derived.OwnWalkIn
import Derived.TacticsInMore
import Derived.RangeFuncSeq
import Derived.Outline
namespace Go.Proofs.Ytclhbdedibcgjaa
open Go.RowKit
set_option linter.unusedVariables false
set_option maxHeartbeats 400000
attribute [local go_sem] later_cell later_frozen later_const
/-- the runs of slots: of n positions from slot s on -/
def pcs (c s n : Int) : List (Int × Int) := if n ≤ 0 then [] else if s + n ≤ c then [(s, n)] else [(s, c - s), (0, n - (c - s))]
def flat (l : List (Int × Int)) : List Value := l.flatMap fun p => [.int .i64 p.1, .int .i64 p.2]
theorem pcs_zero (c s n : Int) (h : n ≤ 0) : pcs c s n = [] := by simp [pcs, h]
theorem pcs_step {c n : Int} (f : Int) (h0 : 0 < n) (h1 : n ≤ c) : pcs c (f % c) n = (f % c, min n (c - f % c)) :: pcs c ((f + min n (c - f % c)) % c) (n - min n (c - f % c)) := by
  have hc : 0 < c := by omega
  have hs0 := Int.emod_nonneg f (show c ≠ 0 by omega)
  have hs1 := Int.emod_lt_of_pos f hc
  by_cases h : f % c + n ≤ c
  · rw [Int.min_eq_left (by omega), show n - n = 0 by omega, pcs_zero _ _ 0 (by omega)]
    unfold pcs
    rw [if_neg (by omega), if_pos h]
  · rw [Int.min_eq_right (by omega)]
    have e : (f + (c - f % c)) % c = 0 := by
      have h1 : f + (c - f % c) = c * (f / c + 1) := by
        have := Int.mul_ediv_add_emod f c
        rw [Int.mul_add]; omega
      rw [h1, Int.mul_emod_right]
    rw [e]
    unfold pcs
    rw [if_neg (by omega), if_neg h, if_neg (by omega), if_pos (by omega)]
theorem flat_cons (p : Int × Int) (l : List (Int × Int)) : flat (p :: l) = [.int .i64 p.1, .int .i64 p.2] ++ flat l := rfl
theorem sRuns32 (f n c : Int) (w : World) : Calls Try.prog 45 #[.agg #[.int .u32 f, .int .i64 n], .int .i64 c] w fun e w' => e = .returned (.func (.func 54) #[] #[.pointer (some ⟨w.heap.size, 0, none⟩), .pointer (some ⟨w.heap.size + 1, 0, none⟩)]) ∧
    (w'.cell? ⟨w.heap.size, 0, none⟩ = some (.int .u32 f) ∧ w'.cell? ⟨w.heap.size, 1, none⟩ = some (.int .i64 n) ∧ w'.cell? ⟨w.heap.size + 1, 0, none⟩ = some (.int .i64 c)) ∧ w'.heap.size = w.heap.size + 2 ∧ Ext w w' := by
  go_enter Try.func45, Try.ntmps45
  go_wp2
  go_ret
  refine ⟨rfl, ⟨by simp [go_sem], by simp [go_sem], by simp [go_sem]⟩, by simp, ?_⟩
  repeat (first | with_reducible exact Ext.refl _ | with_reducible assumption | with_reducible refine Ext.alloc ?_ _ | with_reducible refine Ext.drew ?_ | with_reducible refine Ext.drewN ?_ _ | with_reducible refine Ext.setCell ?_ (by simp <;> omega) _ | with_reducible refine Ext.trans ?_ (by assumption))
theorem sRuns64 (f n c : Int) (w : World) : Calls Try.prog 47 #[.agg #[.int .u64 f, .int .i64 n], .int .i64 c] w fun e w' => e = .returned (.func (.func 55) #[] #[.pointer (some ⟨w.heap.size, 0, none⟩), .pointer (some ⟨w.heap.size + 1, 0, none⟩)]) ∧
    (w'.cell? ⟨w.heap.size, 0, none⟩ = some (.int .u64 f) ∧ w'.cell? ⟨w.heap.size, 1, none⟩ = some (.int .i64 n) ∧ w'.cell? ⟨w.heap.size + 1, 0, none⟩ = some (.int .i64 c)) ∧ w'.heap.size = w.heap.size + 2 ∧ Ext w w' := by
  go_enter Try.func47, Try.ntmps47
  go_wp2
  go_ret
  refine ⟨rfl, ⟨by simp [go_sem], by simp [go_sem], by simp [go_sem]⟩, by simp, ?_⟩
  repeat (first | with_reducible exact Ext.refl _ | with_reducible assumption | with_reducible refine Ext.alloc ?_ _ | with_reducible refine Ext.drew ?_ | with_reducible refine Ext.drewN ?_ _ | with_reducible refine Ext.setCell ?_ (by simp <;> omega) _ | with_reducible refine Ext.trans ?_ (by assumption))
end Go.Proofs.Ytclhbdedibcgjaa
