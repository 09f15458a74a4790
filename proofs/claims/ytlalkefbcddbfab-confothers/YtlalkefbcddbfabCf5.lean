/- conf.Alike, and the document's Alike and Same. -/
import Derived.Test.YtlalkefbcddbfabCf3
import Derived.Test.YtlalkefbcddbfabCf4
namespace Go.Proofs.Ytlalkefbcddbfab
open Go.RowKit
set_option linter.unusedVariables false
set_option maxHeartbeats 1000000
attribute [local go_sem] later_cell later_frozen later_const
def alikeB (C P S C' P' S' : Int) (xs ys : List (List Int)) : Bool := decide (C = C') && decide (P = P') && decide (S % 4294967296 = S' % 4294967296) && decide (xs = ys)
set_option maxRecDepth 100000 in
theorem cAlike (V W C P S V' W' C' P' S' : Int) (u u' : Value) (xs ys : List (List Int)) (w : World) (h1 : ListsV w u xs) (h2 : ListsV w u' ys) (hl : xs.length ≤ 1000000) (hl2 : ys.length ≤ 1000000) (k1 : ∀ l ∈ xs, l.length ≤ 1000000) (k2 : ∀ l ∈ ys, l.length ≤ 1000000) :
    Calls Try.prog 25 #[(.agg #[.int .i64 V, .int .i64 W, .int .i64 C, .int .i64 P, .int .u64 (S), u]), (.agg #[.int .i64 (V'), .int .i64 (W'), .int .i64 (C'), .int .i64 (P'), .int .u64 (S'), u'])] w fun e w' => e = .returned (.bool (alikeB C P S C' P' S' xs ys)) ∧ Ext w w' := by
  obtain ⟨a1, c1, e, -⟩ := id h1
  subst e
  obtain ⟨a2, c2, e, -⟩ := id h2
  subst e
  have CE := Lib.hid (fun w' (hx : Ext w w') => equalF_is _ _ xs ys w' (h1.ext hx) (h2.ext hx) hl hl2 k1 k2)
  clear h1 h2 k1 k2
  unfold alikeB
  generalize decide (xs = ys) = bo at *
  generalize xs.length = n at *
  generalize ys.length = m at *
  by_cases hC : C = C'
  · subst hC
    by_cases hP : P = P'
    · subst hP
      by_cases hS : S % 4294967296 = S' % 4294967296
      · have HC2 := Lib.hid (fun w => wCut_32 S' w)
        rw [← hS] at HC2
        rw [show (decide (C = C) && decide (P = P) && decide (S % 4294967296 = S' % 4294967296) && bo) = bo by simp [hS]]
        have HC1 := Lib.hid (fun w => wCut_32 S w)
        generalize S % 4294967296 = Z at *
        clear hS
        have dd : (Z == Z) = true := by simp
        go_enter Try.func25, Try.ntmps25
        go_upto_region 1 with (fail)
        refine settle_wp ?_
        intro w1 hb1
        have qc_0 : w1.cell? ⟨w.heap.size, 0, none⟩ = some (.int .i64 V) := (hb1.cells.1 _ _ (by simp <;> omega)).trans (by simp [go_sem])
        have qc_1 : w1.cell? ⟨w.heap.size, 1, none⟩ = some (.int .i64 W) := (hb1.cells.1 _ _ (by simp <;> omega)).trans (by simp [go_sem])
        have qc_2 : w1.cell? ⟨w.heap.size, 2, none⟩ = some (.int .i64 C) := (hb1.cells.1 _ _ (by simp <;> omega)).trans (by simp [go_sem])
        have qc_3 : w1.cell? ⟨w.heap.size, 3, none⟩ = some (.int .i64 P) := (hb1.cells.1 _ _ (by simp <;> omega)).trans (by simp [go_sem])
        have qc_4 : w1.cell? ⟨w.heap.size, 4, none⟩ = some (.int .u64 (S)) := (hb1.cells.1 _ _ (by simp <;> omega)).trans (by simp [go_sem])
        have qc_5 : w1.cell? ⟨w.heap.size, 5, none⟩ = some (.slice a1 n c1) := (hb1.cells.1 _ _ (by simp <;> omega)).trans (by simp [go_sem])
        have pc := World.block_lt_of_cell? _ ⟨w.heap.size, 0, none⟩ qc_0
        have rc := Nat.lt_succ_of_lt pc
        have qd_0 : w1.cell? ⟨w.heap.size + 1, 0, none⟩ = some (.int .i64 (V')) := (hb1.cells.1 _ _ (by simp <;> omega)).trans (by simp [go_sem])
        have qd_1 : w1.cell? ⟨w.heap.size + 1, 1, none⟩ = some (.int .i64 (W')) := (hb1.cells.1 _ _ (by simp <;> omega)).trans (by simp [go_sem])
        have qd_2 : w1.cell? ⟨w.heap.size + 1, 2, none⟩ = some (.int .i64 C) := (hb1.cells.1 _ _ (by simp <;> omega)).trans (by simp [go_sem])
        have qd_3 : w1.cell? ⟨w.heap.size + 1, 3, none⟩ = some (.int .i64 P) := (hb1.cells.1 _ _ (by simp <;> omega)).trans (by simp [go_sem])
        have qd_4 : w1.cell? ⟨w.heap.size + 1, 4, none⟩ = some (.int .u64 (S')) := (hb1.cells.1 _ _ (by simp <;> omega)).trans (by simp [go_sem])
        have qd_5 : w1.cell? ⟨w.heap.size + 1, 5, none⟩ = some (.slice a2 m c2) := (hb1.cells.1 _ _ (by simp <;> omega)).trans (by simp [go_sem])
        have pd := World.block_lt_of_cell? _ ⟨w.heap.size + 1, 0, none⟩ qd_0
        have rd := Nat.lt_succ_of_lt pd
        have hxx : Ext w w1 := by repeat (first | with_reducible exact Ext.refl _ | with_reducible assumption | with_reducible refine Ext.alloc ?_ _ | with_reducible refine Ext.drew ?_ | with_reducible refine Ext.drewN ?_ _ | with_reducible refine Ext.setCell ?_ (by simp <;> omega) _ | with_reducible refine Ext.trans ?_ (by assumption))
        refine wp_region_later (by kernel_rfl) (by kernel_rfl) ?_
        have lc_0 := fun (g : Later w1) => g.ok.cell qc_0
        have lc_1 := fun (g : Later w1) => g.ok.cell qc_1
        have lc_2 := fun (g : Later w1) => g.ok.cell qc_2
        have lc_3 := fun (g : Later w1) => g.ok.cell qc_3
        have lc_4 := fun (g : Later w1) => g.ok.cell qc_4
        have lc_5 := fun (g : Later w1) => g.ok.cell qc_5
        have ld_0 := fun (g : Later w1) => g.ok.cell qd_0
        have ld_1 := fun (g : Later w1) => g.ok.cell qd_1
        have ld_2 := fun (g : Later w1) => g.ok.cell qd_2
        have ld_3 := fun (g : Later w1) => g.ok.cell qd_3
        have ld_4 := fun (g : Later w1) => g.ok.cell qd_4
        have ld_5 := fun (g : Later w1) => g.ok.cell qd_5
        repeat (go_big_quiet_step ((fail)))
        go_big_quiet_step ((go_at_call 34; exact laterS (HC1.out _)))
        repeat (go_big_quiet_step ((fail)))
        go_big_quiet_step ((go_at_call 34; exact laterS (HC2.out _)))
        repeat (go_big_quiet_step ((fail)))
        go_big_quiet_step ((go_at_call 38; exact laterC (CE.out _ (hxx.trans (Later.ok _)))))
        repeat (go_big_quiet_step ((fail)))
        refine wpQuiet_nil ?_
        intro w2 hl2
        have hb2 := laters_ext hl2
        clear hl2 lc_0 lc_1 lc_2 lc_3 lc_4 lc_5 ld_0 ld_1 ld_2 ld_3 ld_4 ld_5
        have hx2 : Ext w1 w2 := by repeat (first | with_reducible exact Ext.refl _ | with_reducible assumption | with_reducible refine Ext.alloc ?_ _ | with_reducible refine Ext.drew ?_ | with_reducible refine Ext.drewN ?_ _ | with_reducible refine Ext.setCell ?_ (by simp <;> omega) _ | with_reducible refine Ext.trans ?_ (by assumption))
        replace qc_0 := hx2.cell qc_0
        replace qc_1 := hx2.cell qc_1
        replace qc_2 := hx2.cell qc_2
        replace qc_3 := hx2.cell qc_3
        replace qc_4 := hx2.cell qc_4
        replace qc_5 := hx2.cell qc_5
        replace pc := Nat.lt_of_lt_of_le pc hx2.size
        replace rc := Nat.lt_succ_of_lt pc
        replace qd_0 := hx2.cell qd_0
        replace qd_1 := hx2.cell qd_1
        replace qd_2 := hx2.cell qd_2
        replace qd_3 := hx2.cell qd_3
        replace qd_4 := hx2.cell qd_4
        replace qd_5 := hx2.cell qd_5
        replace pd := Nat.lt_of_lt_of_le pd hx2.size
        replace rd := Nat.lt_succ_of_lt pd
        clear hx2
        go_wp2
        go_ret
        refine ⟨rfl, ?_⟩
        repeat (first | with_reducible exact Ext.refl _ | with_reducible assumption | with_reducible refine Ext.alloc ?_ _ | with_reducible refine Ext.drew ?_ | with_reducible refine Ext.drewN ?_ _ | with_reducible refine Ext.setCell ?_ (by simp <;> omega) _ | with_reducible refine Ext.trans ?_ (by assumption))
      · have HC2 := Lib.hid (fun w => wCut_32 S' w)
        have HC1 := Lib.hid (fun w => wCut_32 S w)
        rw [show (decide (C = C) && decide (P = P) && decide (S % 4294967296 = S' % 4294967296) && bo) = false by simp [hS]]
        have dd : (S % 4294967296 == S' % 4294967296) = false := by simpa using hS
        generalize S % 4294967296 = Z at *
        generalize S' % 4294967296 = Z' at *
        clear hS
        go_enter Try.func25, Try.ntmps25
        go_upto_region 1 with (fail)
        refine settle_wp ?_
        intro w3 hb3
        have qc_0 : w3.cell? ⟨w.heap.size, 0, none⟩ = some (.int .i64 V) := (hb3.cells.1 _ _ (by simp <;> omega)).trans (by simp [go_sem])
        have qc_1 : w3.cell? ⟨w.heap.size, 1, none⟩ = some (.int .i64 W) := (hb3.cells.1 _ _ (by simp <;> omega)).trans (by simp [go_sem])
        have qc_2 : w3.cell? ⟨w.heap.size, 2, none⟩ = some (.int .i64 C) := (hb3.cells.1 _ _ (by simp <;> omega)).trans (by simp [go_sem])
        have qc_3 : w3.cell? ⟨w.heap.size, 3, none⟩ = some (.int .i64 P) := (hb3.cells.1 _ _ (by simp <;> omega)).trans (by simp [go_sem])
        have qc_4 : w3.cell? ⟨w.heap.size, 4, none⟩ = some (.int .u64 (S)) := (hb3.cells.1 _ _ (by simp <;> omega)).trans (by simp [go_sem])
        have qc_5 : w3.cell? ⟨w.heap.size, 5, none⟩ = some (.slice a1 n c1) := (hb3.cells.1 _ _ (by simp <;> omega)).trans (by simp [go_sem])
        have pc := World.block_lt_of_cell? _ ⟨w.heap.size, 0, none⟩ qc_0
        have rc := Nat.lt_succ_of_lt pc
        have qd_0 : w3.cell? ⟨w.heap.size + 1, 0, none⟩ = some (.int .i64 (V')) := (hb3.cells.1 _ _ (by simp <;> omega)).trans (by simp [go_sem])
        have qd_1 : w3.cell? ⟨w.heap.size + 1, 1, none⟩ = some (.int .i64 (W')) := (hb3.cells.1 _ _ (by simp <;> omega)).trans (by simp [go_sem])
        have qd_2 : w3.cell? ⟨w.heap.size + 1, 2, none⟩ = some (.int .i64 C) := (hb3.cells.1 _ _ (by simp <;> omega)).trans (by simp [go_sem])
        have qd_3 : w3.cell? ⟨w.heap.size + 1, 3, none⟩ = some (.int .i64 P) := (hb3.cells.1 _ _ (by simp <;> omega)).trans (by simp [go_sem])
        have qd_4 : w3.cell? ⟨w.heap.size + 1, 4, none⟩ = some (.int .u64 (S')) := (hb3.cells.1 _ _ (by simp <;> omega)).trans (by simp [go_sem])
        have qd_5 : w3.cell? ⟨w.heap.size + 1, 5, none⟩ = some (.slice a2 m c2) := (hb3.cells.1 _ _ (by simp <;> omega)).trans (by simp [go_sem])
        have pd := World.block_lt_of_cell? _ ⟨w.heap.size + 1, 0, none⟩ qd_0
        have rd := Nat.lt_succ_of_lt pd
        refine wp_region_later (by kernel_rfl) (by kernel_rfl) ?_
        have lc_0 := fun (g : Later w3) => g.ok.cell qc_0
        have lc_1 := fun (g : Later w3) => g.ok.cell qc_1
        have lc_2 := fun (g : Later w3) => g.ok.cell qc_2
        have lc_3 := fun (g : Later w3) => g.ok.cell qc_3
        have lc_4 := fun (g : Later w3) => g.ok.cell qc_4
        have lc_5 := fun (g : Later w3) => g.ok.cell qc_5
        have ld_0 := fun (g : Later w3) => g.ok.cell qd_0
        have ld_1 := fun (g : Later w3) => g.ok.cell qd_1
        have ld_2 := fun (g : Later w3) => g.ok.cell qd_2
        have ld_3 := fun (g : Later w3) => g.ok.cell qd_3
        have ld_4 := fun (g : Later w3) => g.ok.cell qd_4
        have ld_5 := fun (g : Later w3) => g.ok.cell qd_5
        repeat (go_big_quiet_step ((fail)))
        go_big_quiet_step ((go_at_call 34; exact laterS (HC1.out _)))
        repeat (go_big_quiet_step ((fail)))
        go_big_quiet_step ((go_at_call 34; exact laterS (HC2.out _)))
        repeat (go_big_quiet_step ((fail)))
        refine wpQuiet_nil ?_
        intro w4 hl4
        have hb4 := laters_ext hl4
        clear hl4 lc_0 lc_1 lc_2 lc_3 lc_4 lc_5 ld_0 ld_1 ld_2 ld_3 ld_4 ld_5
        have hx4 : Ext w3 w4 := by repeat (first | with_reducible exact Ext.refl _ | with_reducible assumption | with_reducible refine Ext.alloc ?_ _ | with_reducible refine Ext.drew ?_ | with_reducible refine Ext.drewN ?_ _ | with_reducible refine Ext.setCell ?_ (by simp <;> omega) _ | with_reducible refine Ext.trans ?_ (by assumption))
        replace qc_0 := hx4.cell qc_0
        replace qc_1 := hx4.cell qc_1
        replace qc_2 := hx4.cell qc_2
        replace qc_3 := hx4.cell qc_3
        replace qc_4 := hx4.cell qc_4
        replace qc_5 := hx4.cell qc_5
        replace pc := Nat.lt_of_lt_of_le pc hx4.size
        replace rc := Nat.lt_succ_of_lt pc
        replace qd_0 := hx4.cell qd_0
        replace qd_1 := hx4.cell qd_1
        replace qd_2 := hx4.cell qd_2
        replace qd_3 := hx4.cell qd_3
        replace qd_4 := hx4.cell qd_4
        replace qd_5 := hx4.cell qd_5
        replace pd := Nat.lt_of_lt_of_le pd hx4.size
        replace rd := Nat.lt_succ_of_lt pd
        clear hx4
        go_wp2
        go_ret
        refine ⟨rfl, ?_⟩
        repeat (first | with_reducible exact Ext.refl _ | with_reducible assumption | with_reducible refine Ext.alloc ?_ _ | with_reducible refine Ext.drew ?_ | with_reducible refine Ext.drewN ?_ _ | with_reducible refine Ext.setCell ?_ (by simp <;> omega) _ | with_reducible refine Ext.trans ?_ (by assumption))
    · rw [show (decide (C = C) && decide (P = P') && decide (S % 4294967296 = S' % 4294967296) && bo) = false by simp [hP]]
      have dd : (P == P') = false := by simpa using hP
      clear hP
      go_enter Try.func25, Try.ntmps25
      go_upto_region 1 with (fail)
      refine settle_wp ?_
      intro w5 hb5
      have qc_0 : w5.cell? ⟨w.heap.size, 0, none⟩ = some (.int .i64 V) := (hb5.cells.1 _ _ (by simp <;> omega)).trans (by simp [go_sem])
      have qc_1 : w5.cell? ⟨w.heap.size, 1, none⟩ = some (.int .i64 W) := (hb5.cells.1 _ _ (by simp <;> omega)).trans (by simp [go_sem])
      have qc_2 : w5.cell? ⟨w.heap.size, 2, none⟩ = some (.int .i64 C) := (hb5.cells.1 _ _ (by simp <;> omega)).trans (by simp [go_sem])
      have qc_3 : w5.cell? ⟨w.heap.size, 3, none⟩ = some (.int .i64 P) := (hb5.cells.1 _ _ (by simp <;> omega)).trans (by simp [go_sem])
      have qc_4 : w5.cell? ⟨w.heap.size, 4, none⟩ = some (.int .u64 (S)) := (hb5.cells.1 _ _ (by simp <;> omega)).trans (by simp [go_sem])
      have qc_5 : w5.cell? ⟨w.heap.size, 5, none⟩ = some (.slice a1 n c1) := (hb5.cells.1 _ _ (by simp <;> omega)).trans (by simp [go_sem])
      have pc := World.block_lt_of_cell? _ ⟨w.heap.size, 0, none⟩ qc_0
      have rc := Nat.lt_succ_of_lt pc
      have qd_0 : w5.cell? ⟨w.heap.size + 1, 0, none⟩ = some (.int .i64 (V')) := (hb5.cells.1 _ _ (by simp <;> omega)).trans (by simp [go_sem])
      have qd_1 : w5.cell? ⟨w.heap.size + 1, 1, none⟩ = some (.int .i64 (W')) := (hb5.cells.1 _ _ (by simp <;> omega)).trans (by simp [go_sem])
      have qd_2 : w5.cell? ⟨w.heap.size + 1, 2, none⟩ = some (.int .i64 C) := (hb5.cells.1 _ _ (by simp <;> omega)).trans (by simp [go_sem])
      have qd_3 : w5.cell? ⟨w.heap.size + 1, 3, none⟩ = some (.int .i64 (P')) := (hb5.cells.1 _ _ (by simp <;> omega)).trans (by simp [go_sem])
      have qd_4 : w5.cell? ⟨w.heap.size + 1, 4, none⟩ = some (.int .u64 (S')) := (hb5.cells.1 _ _ (by simp <;> omega)).trans (by simp [go_sem])
      have qd_5 : w5.cell? ⟨w.heap.size + 1, 5, none⟩ = some (.slice a2 m c2) := (hb5.cells.1 _ _ (by simp <;> omega)).trans (by simp [go_sem])
      have pd := World.block_lt_of_cell? _ ⟨w.heap.size + 1, 0, none⟩ qd_0
      have rd := Nat.lt_succ_of_lt pd
      refine wp_region_later (by kernel_rfl) (by kernel_rfl) ?_
      have lc_0 := fun (g : Later w5) => g.ok.cell qc_0
      have lc_1 := fun (g : Later w5) => g.ok.cell qc_1
      have lc_2 := fun (g : Later w5) => g.ok.cell qc_2
      have lc_3 := fun (g : Later w5) => g.ok.cell qc_3
      have lc_4 := fun (g : Later w5) => g.ok.cell qc_4
      have lc_5 := fun (g : Later w5) => g.ok.cell qc_5
      have ld_0 := fun (g : Later w5) => g.ok.cell qd_0
      have ld_1 := fun (g : Later w5) => g.ok.cell qd_1
      have ld_2 := fun (g : Later w5) => g.ok.cell qd_2
      have ld_3 := fun (g : Later w5) => g.ok.cell qd_3
      have ld_4 := fun (g : Later w5) => g.ok.cell qd_4
      have ld_5 := fun (g : Later w5) => g.ok.cell qd_5
      repeat (go_big_quiet_step ((fail)))
      refine wpQuiet_nil ?_
      intro w6 hl6
      have hb6 := laters_ext hl6
      clear hl6 lc_0 lc_1 lc_2 lc_3 lc_4 lc_5 ld_0 ld_1 ld_2 ld_3 ld_4 ld_5
      have hx6 : Ext w5 w6 := by repeat (first | with_reducible exact Ext.refl _ | with_reducible assumption | with_reducible refine Ext.alloc ?_ _ | with_reducible refine Ext.drew ?_ | with_reducible refine Ext.drewN ?_ _ | with_reducible refine Ext.setCell ?_ (by simp <;> omega) _ | with_reducible refine Ext.trans ?_ (by assumption))
      replace qc_0 := hx6.cell qc_0
      replace qc_1 := hx6.cell qc_1
      replace qc_2 := hx6.cell qc_2
      replace qc_3 := hx6.cell qc_3
      replace qc_4 := hx6.cell qc_4
      replace qc_5 := hx6.cell qc_5
      replace pc := Nat.lt_of_lt_of_le pc hx6.size
      replace rc := Nat.lt_succ_of_lt pc
      replace qd_0 := hx6.cell qd_0
      replace qd_1 := hx6.cell qd_1
      replace qd_2 := hx6.cell qd_2
      replace qd_3 := hx6.cell qd_3
      replace qd_4 := hx6.cell qd_4
      replace qd_5 := hx6.cell qd_5
      replace pd := Nat.lt_of_lt_of_le pd hx6.size
      replace rd := Nat.lt_succ_of_lt pd
      clear hx6
      go_wp2
      go_ret
      refine ⟨rfl, ?_⟩
      repeat (first | with_reducible exact Ext.refl _ | with_reducible assumption | with_reducible refine Ext.alloc ?_ _ | with_reducible refine Ext.drew ?_ | with_reducible refine Ext.drewN ?_ _ | with_reducible refine Ext.setCell ?_ (by simp <;> omega) _ | with_reducible refine Ext.trans ?_ (by assumption))
  · rw [show (decide (C = C') && decide (P = P') && decide (S % 4294967296 = S' % 4294967296) && bo) = false by simp [hC]]
    have dd : (C == C') = false := by simpa using hC
    clear hC
    go_enter Try.func25, Try.ntmps25
    go_upto_region 1 with (fail)
    refine settle_wp ?_
    intro w7 hb7
    have qc_0 : w7.cell? ⟨w.heap.size, 0, none⟩ = some (.int .i64 V) := (hb7.cells.1 _ _ (by simp <;> omega)).trans (by simp [go_sem])
    have qc_1 : w7.cell? ⟨w.heap.size, 1, none⟩ = some (.int .i64 W) := (hb7.cells.1 _ _ (by simp <;> omega)).trans (by simp [go_sem])
    have qc_2 : w7.cell? ⟨w.heap.size, 2, none⟩ = some (.int .i64 C) := (hb7.cells.1 _ _ (by simp <;> omega)).trans (by simp [go_sem])
    have qc_3 : w7.cell? ⟨w.heap.size, 3, none⟩ = some (.int .i64 P) := (hb7.cells.1 _ _ (by simp <;> omega)).trans (by simp [go_sem])
    have qc_4 : w7.cell? ⟨w.heap.size, 4, none⟩ = some (.int .u64 (S)) := (hb7.cells.1 _ _ (by simp <;> omega)).trans (by simp [go_sem])
    have qc_5 : w7.cell? ⟨w.heap.size, 5, none⟩ = some (.slice a1 n c1) := (hb7.cells.1 _ _ (by simp <;> omega)).trans (by simp [go_sem])
    have pc := World.block_lt_of_cell? _ ⟨w.heap.size, 0, none⟩ qc_0
    have rc := Nat.lt_succ_of_lt pc
    have qd_0 : w7.cell? ⟨w.heap.size + 1, 0, none⟩ = some (.int .i64 (V')) := (hb7.cells.1 _ _ (by simp <;> omega)).trans (by simp [go_sem])
    have qd_1 : w7.cell? ⟨w.heap.size + 1, 1, none⟩ = some (.int .i64 (W')) := (hb7.cells.1 _ _ (by simp <;> omega)).trans (by simp [go_sem])
    have qd_2 : w7.cell? ⟨w.heap.size + 1, 2, none⟩ = some (.int .i64 (C')) := (hb7.cells.1 _ _ (by simp <;> omega)).trans (by simp [go_sem])
    have qd_3 : w7.cell? ⟨w.heap.size + 1, 3, none⟩ = some (.int .i64 (P')) := (hb7.cells.1 _ _ (by simp <;> omega)).trans (by simp [go_sem])
    have qd_4 : w7.cell? ⟨w.heap.size + 1, 4, none⟩ = some (.int .u64 (S')) := (hb7.cells.1 _ _ (by simp <;> omega)).trans (by simp [go_sem])
    have qd_5 : w7.cell? ⟨w.heap.size + 1, 5, none⟩ = some (.slice a2 m c2) := (hb7.cells.1 _ _ (by simp <;> omega)).trans (by simp [go_sem])
    have pd := World.block_lt_of_cell? _ ⟨w.heap.size + 1, 0, none⟩ qd_0
    have rd := Nat.lt_succ_of_lt pd
    refine wp_region_later (by kernel_rfl) (by kernel_rfl) ?_
    have lc_0 := fun (g : Later w7) => g.ok.cell qc_0
    have lc_1 := fun (g : Later w7) => g.ok.cell qc_1
    have lc_2 := fun (g : Later w7) => g.ok.cell qc_2
    have lc_3 := fun (g : Later w7) => g.ok.cell qc_3
    have lc_4 := fun (g : Later w7) => g.ok.cell qc_4
    have lc_5 := fun (g : Later w7) => g.ok.cell qc_5
    have ld_0 := fun (g : Later w7) => g.ok.cell qd_0
    have ld_1 := fun (g : Later w7) => g.ok.cell qd_1
    have ld_2 := fun (g : Later w7) => g.ok.cell qd_2
    have ld_3 := fun (g : Later w7) => g.ok.cell qd_3
    have ld_4 := fun (g : Later w7) => g.ok.cell qd_4
    have ld_5 := fun (g : Later w7) => g.ok.cell qd_5
    repeat (go_big_quiet_step ((fail)))
    refine wpQuiet_nil ?_
    intro w8 hl8
    have hb8 := laters_ext hl8
    clear hl8 lc_0 lc_1 lc_2 lc_3 lc_4 lc_5 ld_0 ld_1 ld_2 ld_3 ld_4 ld_5
    have hx8 : Ext w7 w8 := by repeat (first | with_reducible exact Ext.refl _ | with_reducible assumption | with_reducible refine Ext.alloc ?_ _ | with_reducible refine Ext.drew ?_ | with_reducible refine Ext.drewN ?_ _ | with_reducible refine Ext.setCell ?_ (by simp <;> omega) _ | with_reducible refine Ext.trans ?_ (by assumption))
    replace qc_0 := hx8.cell qc_0
    replace qc_1 := hx8.cell qc_1
    replace qc_2 := hx8.cell qc_2
    replace qc_3 := hx8.cell qc_3
    replace qc_4 := hx8.cell qc_4
    replace qc_5 := hx8.cell qc_5
    replace pc := Nat.lt_of_lt_of_le pc hx8.size
    replace rc := Nat.lt_succ_of_lt pc
    replace qd_0 := hx8.cell qd_0
    replace qd_1 := hx8.cell qd_1
    replace qd_2 := hx8.cell qd_2
    replace qd_3 := hx8.cell qd_3
    replace qd_4 := hx8.cell qd_4
    replace qd_5 := hx8.cell qd_5
    replace pd := Nat.lt_of_lt_of_le pd hx8.size
    replace rd := Nat.lt_succ_of_lt pd
    clear hx8
    go_wp2
    go_ret
    refine ⟨rfl, ?_⟩
    repeat (first | with_reducible exact Ext.refl _ | with_reducible assumption | with_reducible refine Ext.alloc ?_ _ | with_reducible refine Ext.drew ?_ | with_reducible refine Ext.drewN ?_ _ | with_reducible refine Ext.setCell ?_ (by simp <;> omega) _ | with_reducible refine Ext.trans ?_ (by assumption))
theorem alike_mod (S S' : Int) : (U64 (S - S') % 4294967296 == 0) = decide (S % 4294967296 = S' % 4294967296) := by
  rw [U64_mod, Bool.eq_iff_iff, beq_iff_eq, decide_eq_true_eq]
  omega
theorem rAlike (V W C P S V' W' C' P' S' : Int) (u u' : Value) (xs ys : List (List Int)) (w : World) (h1 : ListsV w u xs) (h2 : ListsV w u' ys) (hl : xs.length ≤ 1000000) (hl2 : ys.length ≤ 1000000) (k1 : ∀ l ∈ xs, l.length ≤ 1000000) (k2 : ∀ l ∈ ys, l.length ≤ 1000000) :
    Calls Try.prog 26 #[(.agg #[.int .i64 V, .int .i64 W, .int .i64 C, .int .i64 P, .int .u64 (S), u]), (.agg #[.int .i64 (V'), .int .i64 (W'), .int .i64 (C'), .int .i64 (P'), .int .u64 (S'), u'])] w fun e w' => e = .returned (.bool (alikeB C P S C' P' S' xs ys)) ∧ Ext w w' := by
  obtain ⟨a1, c1, e, -⟩ := id h1
  subst e
  obtain ⟨a2, c2, e, -⟩ := id h2
  subst e
  have CE := Lib.hid (fun w' (hx : Ext w w') => rGraphs_is _ _ xs ys w' (h1.ext hx) (h2.ext hx) hl hl2 k1 k2)
  clear h1 h2 k1 k2
  unfold alikeB
  generalize decide (xs = ys) = bo at *
  generalize xs.length = n at *
  generalize ys.length = m at *
  have hw := wrapU64 (S - S')
  have hm := alike_mod S S'
  have hZ : U64 (S - S') % 4294967296 = U64 (S - S') % 4294967296 := rfl
  have hU := U64_range (S - S')
  generalize decide (S % 4294967296 = S' % 4294967296) = bs at *
  generalize U64 (S - S') = Z at *
  clear hZ
  by_cases hC : C = C'
  · subst hC
    by_cases hP : P = P'
    · subst hP
      cases bs
      · rw [show (decide (C = C) && decide (P = P) && false && bo) = false by simp]
        go_enter Try.func26, Try.ntmps26
        go_wp2
        go_ret
        refine ⟨rfl, ?_⟩
        repeat (first | with_reducible exact Ext.refl _ | with_reducible assumption | with_reducible refine Ext.alloc ?_ _ | with_reducible refine Ext.drew ?_ | with_reducible refine Ext.drewN ?_ _ | with_reducible refine Ext.setCell ?_ (by simp <;> omega) _ | with_reducible refine Ext.trans ?_ (by assumption))
      · rw [show (decide (C = C) && decide (P = P) && true && bo) = bo by simp]
        go_enter Try.func26, Try.ntmps26
        go_wp2_with fail
        refine (CE.out _ (by repeat (first | with_reducible exact Ext.refl _ | with_reducible assumption | with_reducible refine Ext.alloc ?_ _ | with_reducible refine Ext.drew ?_ | with_reducible refine Ext.drewN ?_ _ | with_reducible refine Ext.setCell ?_ (by simp <;> omega) _ | with_reducible refine Ext.trans ?_ (by assumption)))).mono ?_
        rintro e w1 ⟨rfl, hb1⟩
        obtain ⟨hc1, hf1⟩ := hb1.cells
        go_wp2
        go_ret
        refine ⟨rfl, ?_⟩
        repeat (first | with_reducible exact Ext.refl _ | with_reducible assumption | with_reducible refine Ext.alloc ?_ _ | with_reducible refine Ext.drew ?_ | with_reducible refine Ext.drewN ?_ _ | with_reducible refine Ext.setCell ?_ (by simp <;> omega) _ | with_reducible refine Ext.trans ?_ (by assumption))
    · rw [show (decide (C = C) && decide (P = P') && bs && bo) = false by simp [hP]]
      have dd : (P == P') = false := by simpa using hP
      clear hP hm hw
      go_enter Try.func26, Try.ntmps26
      go_wp2
      go_ret
      refine ⟨rfl, ?_⟩
      repeat (first | with_reducible exact Ext.refl _ | with_reducible assumption | with_reducible refine Ext.alloc ?_ _ | with_reducible refine Ext.drew ?_ | with_reducible refine Ext.drewN ?_ _ | with_reducible refine Ext.setCell ?_ (by simp <;> omega) _ | with_reducible refine Ext.trans ?_ (by assumption))
  · rw [show (decide (C = C') && decide (P = P') && bs && bo) = false by simp [hC]]
    have dd : (C == C') = false := by simpa using hC
    clear hC hm hw
    go_enter Try.func26, Try.ntmps26
    go_wp2
    go_ret
    refine ⟨rfl, ?_⟩
    repeat (first | with_reducible exact Ext.refl _ | with_reducible assumption | with_reducible refine Ext.alloc ?_ _ | with_reducible refine Ext.drew ?_ | with_reducible refine Ext.drewN ?_ _ | with_reducible refine Ext.setCell ?_ (by simp <;> omega) _ | with_reducible refine Ext.trans ?_ (by assumption))
theorem rSame (V W C P S : Int) (u u' : Value) (xs : List (List Int)) (w : World) (h1 : ListsV w u xs) (h2 : ListsV w u' xs) (hl : xs.length ≤ 1000000) (k1 : ∀ l ∈ xs, l.length ≤ 1000000) :
    Calls Try.prog 24 #[(.agg #[.int .i64 V, .int .i64 W, .int .i64 C, .int .i64 P, .int .u64 (S), u]), (.agg #[.int .i64 V, .int .i64 W, .int .i64 C, .int .i64 P, .int .u64 (S), u'])] w fun e w' => e = .returned (.bool true) ∧ Ext w w' := by
  obtain ⟨a1, c1, e, -⟩ := id h1
  subst e
  obtain ⟨a2, c2, e, -⟩ := id h2
  subst e
  have CE := Lib.hid (fun w' (hx : Ext w w') => rGraphs_is _ _ xs xs w' (h1.ext hx) (h2.ext hx) hl hl k1 k1)
  rw [decide_eq_true rfl] at CE
  clear h1 h2 k1
  generalize xs.length = n at *
  go_enter Try.func24, Try.ntmps24
  go_wp2_with fail
  refine (CE.out _ (by repeat (first | with_reducible exact Ext.refl _ | with_reducible assumption | with_reducible refine Ext.alloc ?_ _ | with_reducible refine Ext.drew ?_ | with_reducible refine Ext.drewN ?_ _ | with_reducible refine Ext.setCell ?_ (by simp <;> omega) _ | with_reducible refine Ext.trans ?_ (by assumption)))).mono ?_
  rintro e w1 ⟨rfl, hb1⟩
  obtain ⟨hc1, hf1⟩ := hb1.cells
  go_wp2
  go_ret
  refine ⟨rfl, ?_⟩
  repeat (first | with_reducible exact Ext.refl _ | with_reducible assumption | with_reducible refine Ext.alloc ?_ _ | with_reducible refine Ext.drew ?_ | with_reducible refine Ext.drewN ?_ _ | with_reducible refine Ext.setCell ?_ (by simp <;> omega) _ | with_reducible refine Ext.trans ?_ (by assumption))
end Go.Proofs.Ytlalkefbcddbfab
