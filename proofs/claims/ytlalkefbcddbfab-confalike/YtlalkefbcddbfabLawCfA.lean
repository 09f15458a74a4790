/- The walk of ConfAlike. -/
import Derived.Test.YtlalkefbcddbfabLawCf
namespace Go.Proofs.Ytlalkefbcddbfab
open Go.RowKit
set_option linter.unusedVariables false
set_option maxHeartbeats 2000000
attribute [local go_sem] later_cell later_frozen later_const
theorem alike_symm (C P S C' P' S' : Int) (xs ys : List (List Int)) : alikeB C' P' S' C P S ys xs = alikeB C P S C' P' S' xs ys := by
  unfold alikeB
  rw [show decide (C' = C) = decide (C = C') by rw [decide_eq_decide]; exact eq_comm, show decide (P' = P) = decide (P = P') by rw [decide_eq_decide]; exact eq_comm, show decide (S' % 4294967296 = S % 4294967296) = decide (S % 4294967296 = S' % 4294967296) by rw [decide_eq_decide]; exact eq_comm, show decide (ys = xs) = decide (xs = ys) by rw [decide_eq_decide]; exact eq_comm]
set_option maxRecDepth 100000 in
theorem confAlike_walk (V W C P S : Int) (a : Option Addr) (len cap : Nat) (ups : List (List Int)) (V' W' C' P' S' : Int) (a' : Option Addr) (len' cap' : Nat) (ups' : List (List Int)) (t : Int) (w : World)
    (wf : (Lit.int .i64 V).wf = true ∧ (Lit.int .i64 W).wf = true ∧ (Lit.int .i64 C).wf = true ∧ (Lit.int .i64 P).wf = true ∧ (Lit.int .u64 S).wf = true) (h : Came w a len cap ups)
    (wf' : (Lit.int .i64 V').wf = true ∧ (Lit.int .i64 W').wf = true ∧ (Lit.int .i64 C').wf = true ∧ (Lit.int .i64 P').wf = true ∧ (Lit.int .u64 S').wf = true) (h' : Came w a' len' cap' ups') (wt : (Lit.int .i64 t).wf = true) :
    Calls Try.prog 6 #[(.agg #[.int .i64 V, .int .i64 W, .int .i64 C, .int .i64 P, .int .u64 (S), .slice a len cap]), (.agg #[.int .i64 (V'), .int .i64 (W'), .int .i64 (C'), .int .i64 (P'), .int .u64 (S'), .slice a' len' cap']), .int .i64 t] w fun e w' => e = .returned (.bool true) ∧ Below w.heap.size w w' := by
  clear wf wf' wt
  have CL := fun w' (hx : Ext w w') => long _ ups w' (h.l.ext hx) (by rw [h.n]; exact h.m) (fun l hl => (h.each l hl).1)
  have CL' := fun w' (hx : Ext w w') => long _ ups' w' (h'.l.ext hx) (by rw [h'.n]; exact h'.m) (fun l hl => (h'.each l hl).1)
  cases hb : longB ups
  · rw [hb] at CL
    have HCL := Lib.hid CL
    cases hb' : longB ups'
    · rw [hb'] at CL'
      have HCL' := Lib.hid CL'
      obtain ⟨hll, hn⟩ := came_small h hb
      obtain ⟨hll', hn'⟩ := came_small h' hb'
      have C1 := Lib.hid (fun w' (hx : Ext w w') => cConsumer V W C P S t _ ups w' (h.l.ext hx) hll hn)
      have C2 := Lib.hid (fun w' (hx : Ext w w') => cAlike V W C P S V' W' C' P' S' _ _ ups ups' w' (h.l.ext hx) (h'.l.ext hx) hn hn' hll hll')
      have C3 := Lib.hid (fun w' (hx : Ext w w') => rAlike V W C P S V' W' C' P' S' _ _ ups ups' w' (h.l.ext hx) (h'.l.ext hx) hn hn' hll hll')
      have C4 := Lib.hid (fun w' (hx : Ext w w') => cAlike V' W' C' P' S' V W C P S _ _ ups' ups w' (h'.l.ext hx) (h.l.ext hx) hn' hn hll' hll)
      have C5 := Lib.hid (fun w' (hx : Ext w w') => cProducer V W C P S t _ ups w' (h.l.ext hx) hll hn)
      rw [alike_symm] at C4
      have hlen : len ≤ 1000000 := by rw [← h.n]; exact hn
      have hlen' : len' ≤ 1000000 := by rw [← h'.n]; exact hn'
      have hno : consB V W C P ups t = true → prodB V W C P ups t = false := by
        unfold consB prodB
        cases decide (t < P) <;> simp
      generalize alikeB C P S C' P' S' ups ups' = al at *
      have dd : (al == al) = true := by simp
      clear CL CL' h h' hb hb' hll hll' hn hn'
      cases hc : consB V W C P ups t
      · rw [hc, if_neg (by simp)] at C1
        clear hno hc
        go_enter Try.func6, Try.ntmps6
        go_wp2_with fail
        refine (HCL.out _ (by repeat (first | with_reducible exact Ext.refl _ | with_reducible assumption | with_reducible refine Ext.alloc ?_ _ | with_reducible refine Ext.drew ?_ | with_reducible refine Ext.drewN ?_ _ | with_reducible refine Ext.setCell ?_ (by simp <;> omega) _ | with_reducible refine Ext.trans ?_ (by assumption)))).mono ?_
        rintro e w' ⟨rfl, rfl⟩
        go_wp2_with fail
        refine (HCL'.out _ (by repeat (first | with_reducible exact Ext.refl _ | with_reducible assumption | with_reducible refine Ext.alloc ?_ _ | with_reducible refine Ext.drew ?_ | with_reducible refine Ext.drewN ?_ _ | with_reducible refine Ext.setCell ?_ (by simp <;> omega) _ | with_reducible refine Ext.trans ?_ (by assumption)))).mono ?_
        rintro e w' ⟨rfl, rfl⟩
        go_wp2_with fail
        refine (C1.out _ (by repeat (first | with_reducible exact Ext.refl _ | with_reducible assumption | with_reducible refine Ext.alloc ?_ _ | with_reducible refine Ext.drew ?_ | with_reducible refine Ext.drewN ?_ _ | with_reducible refine Ext.setCell ?_ (by simp <;> omega) _ | with_reducible refine Ext.trans ?_ (by assumption)))).mono ?_
        rintro e w1 ⟨rfl, hb1⟩
        obtain ⟨hc1, hf1⟩ := hb1.cells
        clear hc1 hf1
        have qc_0 : w1.cell? ⟨w.heap.size, 0, none⟩ = some (.int .i64 V) := (hb1.cells.1 _ _ (by simp <;> omega)).trans (by simp [go_sem])
        have qc_1 : w1.cell? ⟨w.heap.size, 1, none⟩ = some (.int .i64 W) := (hb1.cells.1 _ _ (by simp <;> omega)).trans (by simp [go_sem])
        have qc_2 : w1.cell? ⟨w.heap.size, 2, none⟩ = some (.int .i64 C) := (hb1.cells.1 _ _ (by simp <;> omega)).trans (by simp [go_sem])
        have qc_3 : w1.cell? ⟨w.heap.size, 3, none⟩ = some (.int .i64 P) := (hb1.cells.1 _ _ (by simp <;> omega)).trans (by simp [go_sem])
        have qc_4 : w1.cell? ⟨w.heap.size, 4, none⟩ = some (.int .u64 (S)) := (hb1.cells.1 _ _ (by simp <;> omega)).trans (by simp [go_sem])
        have qc_5 : w1.cell? ⟨w.heap.size, 5, none⟩ = some (.slice a len cap) := (hb1.cells.1 _ _ (by simp <;> omega)).trans (by simp [go_sem])
        have pc := World.block_lt_of_cell? _ ⟨w.heap.size, 0, none⟩ qc_0
        have rc := Nat.lt_succ_of_lt pc
        have qd_0 : w1.cell? ⟨w.heap.size + 1, 0, none⟩ = some (.int .i64 (V')) := (hb1.cells.1 _ _ (by simp <;> omega)).trans (by simp [go_sem])
        have qd_1 : w1.cell? ⟨w.heap.size + 1, 1, none⟩ = some (.int .i64 (W')) := (hb1.cells.1 _ _ (by simp <;> omega)).trans (by simp [go_sem])
        have qd_2 : w1.cell? ⟨w.heap.size + 1, 2, none⟩ = some (.int .i64 (C')) := (hb1.cells.1 _ _ (by simp <;> omega)).trans (by simp [go_sem])
        have qd_3 : w1.cell? ⟨w.heap.size + 1, 3, none⟩ = some (.int .i64 (P')) := (hb1.cells.1 _ _ (by simp <;> omega)).trans (by simp [go_sem])
        have qd_4 : w1.cell? ⟨w.heap.size + 1, 4, none⟩ = some (.int .u64 (S')) := (hb1.cells.1 _ _ (by simp <;> omega)).trans (by simp [go_sem])
        have qd_5 : w1.cell? ⟨w.heap.size + 1, 5, none⟩ = some (.slice a' len' cap') := (hb1.cells.1 _ _ (by simp <;> omega)).trans (by simp [go_sem])
        have pd := World.block_lt_of_cell? _ ⟨w.heap.size + 1, 0, none⟩ qd_0
        have rd := Nat.lt_succ_of_lt pd
        have hxx : Ext w w1 := by repeat (first | with_reducible exact Ext.refl _ | with_reducible assumption | with_reducible refine Ext.alloc ?_ _ | with_reducible refine Ext.drew ?_ | with_reducible refine Ext.drewN ?_ _ | with_reducible refine Ext.setCell ?_ (by simp <;> omega) _ | with_reducible refine Ext.trans ?_ (by assumption))
        go_upto_region 4 with (fail)
        refine wp_region_later (by kernel_rfl) (by kernel_rfl) ?_
        have lc_0 := fun (g : Later w1) => g.ok.cell qc_0
        have lc_1 := fun (g : Later w1) => g.ok.cell qc_1
        have lc_2 := fun (g : Later w1) => g.ok.cell qc_2
        have lc_3 := fun (g : Later w1) => g.ok.cell qc_3
        have lc_4 := fun (g : Later w1) => g.ok.cell qc_4
        have lc_5 := fun (g : Later w1) => g.ok.cell qc_5
        have ld_0 := fun (g : Later w1) => g.ok.cell qd_0
        have ld_1 := fun (g : Later w1) => g.ok.cell qd_1
        have ld_2 := fun (g : Later w1) => g.ok.cell qd_2
        have ld_3 := fun (g : Later w1) => g.ok.cell qd_3
        have ld_4 := fun (g : Later w1) => g.ok.cell qd_4
        have ld_5 := fun (g : Later w1) => g.ok.cell qd_5
        repeat (go_big_quiet_step ((fail)))
        go_big_quiet_step ((go_at_call 25; exact laterC (C2.out _ (hxx.trans (Later.ok _)))))
        repeat (go_big_quiet_step ((fail)))
        go_big_quiet_step ((go_at_call 26; exact laterC (C3.out _ (hxx.trans (Later.ok _)))))
        repeat (go_big_quiet_step ((fail)))
        go_big_quiet_step ((go_at_call 25; exact laterC (C4.out _ (hxx.trans (Later.ok _)))))
        repeat (go_big_quiet_step ((fail)))
        go_big_quiet_step ((go_at_call 25; exact laterC (C2.out _ (hxx.trans (Later.ok _)))))
        repeat (go_big_quiet_step ((fail)))
        go_big_quiet_step ((go_at_call 8; exact laterC (live10 _)))
        repeat (go_big_quiet_step ((fail)))
        refine wpQuiet_nil ?_
        intro w2 hl2
        have hb2 := laters_ext hl2
        clear hl2 lc_0 lc_1 lc_2 lc_3 lc_4 lc_5 ld_0 ld_1 ld_2 ld_3 ld_4 ld_5
        have hx2 : Ext w1 w2 := by repeat (first | with_reducible exact Ext.refl _ | with_reducible assumption | with_reducible refine Ext.alloc ?_ _ | with_reducible refine Ext.drew ?_ | with_reducible refine Ext.drewN ?_ _ | with_reducible refine Ext.setCell ?_ (by simp <;> omega) _ | with_reducible refine Ext.trans ?_ (by assumption))
        replace qc_0 := hx2.cell qc_0
        replace qc_1 := hx2.cell qc_1
        replace qc_2 := hx2.cell qc_2
        replace qc_3 := hx2.cell qc_3
        replace qc_4 := hx2.cell qc_4
        replace qc_5 := hx2.cell qc_5
        replace pc := Nat.lt_of_lt_of_le pc hx2.size
        replace rc := Nat.lt_succ_of_lt pc
        replace qd_0 := hx2.cell qd_0
        replace qd_1 := hx2.cell qd_1
        replace qd_2 := hx2.cell qd_2
        replace qd_3 := hx2.cell qd_3
        replace qd_4 := hx2.cell qd_4
        replace qd_5 := hx2.cell qd_5
        replace pd := Nat.lt_of_lt_of_le pd hx2.size
        replace rd := Nat.lt_succ_of_lt pd
        clear hx2
        go_wp2
        go_ret
        refine ⟨rfl, Ext.below ?_⟩
        repeat (first | with_reducible exact Ext.refl _ | with_reducible assumption | with_reducible refine Ext.alloc ?_ _ | with_reducible refine Ext.drew ?_ | with_reducible refine Ext.drewN ?_ _ | with_reducible refine Ext.setCell ?_ (by simp <;> omega) _ | with_reducible refine Ext.trans ?_ (by assumption))
      · rw [hc, if_pos rfl] at C1
        rw [hno hc] at C5
        clear hno hc
        generalize t - P = kk at *
        go_enter Try.func6, Try.ntmps6
        go_wp2_with fail
        refine (HCL.out _ (by repeat (first | with_reducible exact Ext.refl _ | with_reducible assumption | with_reducible refine Ext.alloc ?_ _ | with_reducible refine Ext.drew ?_ | with_reducible refine Ext.drewN ?_ _ | with_reducible refine Ext.setCell ?_ (by simp <;> omega) _ | with_reducible refine Ext.trans ?_ (by assumption)))).mono ?_
        rintro e w' ⟨rfl, rfl⟩
        go_wp2_with fail
        refine (HCL'.out _ (by repeat (first | with_reducible exact Ext.refl _ | with_reducible assumption | with_reducible refine Ext.alloc ?_ _ | with_reducible refine Ext.drew ?_ | with_reducible refine Ext.drewN ?_ _ | with_reducible refine Ext.setCell ?_ (by simp <;> omega) _ | with_reducible refine Ext.trans ?_ (by assumption)))).mono ?_
        rintro e w' ⟨rfl, rfl⟩
        go_wp2_with fail
        refine (C1.out _ (by repeat (first | with_reducible exact Ext.refl _ | with_reducible assumption | with_reducible refine Ext.alloc ?_ _ | with_reducible refine Ext.drew ?_ | with_reducible refine Ext.drewN ?_ _ | with_reducible refine Ext.setCell ?_ (by simp <;> omega) _ | with_reducible refine Ext.trans ?_ (by assumption)))).mono ?_
        rintro e w3 ⟨rfl, hb3⟩
        obtain ⟨hc3, hf3⟩ := hb3.cells
        clear hc3 hf3
        have qc_0 : w3.cell? ⟨w.heap.size, 0, none⟩ = some (.int .i64 V) := (hb3.cells.1 _ _ (by simp <;> omega)).trans (by simp [go_sem])
        have qc_1 : w3.cell? ⟨w.heap.size, 1, none⟩ = some (.int .i64 W) := (hb3.cells.1 _ _ (by simp <;> omega)).trans (by simp [go_sem])
        have qc_2 : w3.cell? ⟨w.heap.size, 2, none⟩ = some (.int .i64 C) := (hb3.cells.1 _ _ (by simp <;> omega)).trans (by simp [go_sem])
        have qc_3 : w3.cell? ⟨w.heap.size, 3, none⟩ = some (.int .i64 P) := (hb3.cells.1 _ _ (by simp <;> omega)).trans (by simp [go_sem])
        have qc_4 : w3.cell? ⟨w.heap.size, 4, none⟩ = some (.int .u64 (S)) := (hb3.cells.1 _ _ (by simp <;> omega)).trans (by simp [go_sem])
        have qc_5 : w3.cell? ⟨w.heap.size, 5, none⟩ = some (.slice a len cap) := (hb3.cells.1 _ _ (by simp <;> omega)).trans (by simp [go_sem])
        have pc := World.block_lt_of_cell? _ ⟨w.heap.size, 0, none⟩ qc_0
        have rc := Nat.lt_succ_of_lt pc
        have qd_0 : w3.cell? ⟨w.heap.size + 1, 0, none⟩ = some (.int .i64 (V')) := (hb3.cells.1 _ _ (by simp <;> omega)).trans (by simp [go_sem])
        have qd_1 : w3.cell? ⟨w.heap.size + 1, 1, none⟩ = some (.int .i64 (W')) := (hb3.cells.1 _ _ (by simp <;> omega)).trans (by simp [go_sem])
        have qd_2 : w3.cell? ⟨w.heap.size + 1, 2, none⟩ = some (.int .i64 (C')) := (hb3.cells.1 _ _ (by simp <;> omega)).trans (by simp [go_sem])
        have qd_3 : w3.cell? ⟨w.heap.size + 1, 3, none⟩ = some (.int .i64 (P')) := (hb3.cells.1 _ _ (by simp <;> omega)).trans (by simp [go_sem])
        have qd_4 : w3.cell? ⟨w.heap.size + 1, 4, none⟩ = some (.int .u64 (S')) := (hb3.cells.1 _ _ (by simp <;> omega)).trans (by simp [go_sem])
        have qd_5 : w3.cell? ⟨w.heap.size + 1, 5, none⟩ = some (.slice a' len' cap') := (hb3.cells.1 _ _ (by simp <;> omega)).trans (by simp [go_sem])
        have pd := World.block_lt_of_cell? _ ⟨w.heap.size + 1, 0, none⟩ qd_0
        have rd := Nat.lt_succ_of_lt pd
        have hxx : Ext w w3 := by repeat (first | with_reducible exact Ext.refl _ | with_reducible assumption | with_reducible refine Ext.alloc ?_ _ | with_reducible refine Ext.drew ?_ | with_reducible refine Ext.drewN ?_ _ | with_reducible refine Ext.setCell ?_ (by simp <;> omega) _ | with_reducible refine Ext.trans ?_ (by assumption))
        go_upto_region 4 with (fail)
        refine wp_region_later (by kernel_rfl) (by kernel_rfl) ?_
        have lc_0 := fun (g : Later w3) => g.ok.cell qc_0
        have lc_1 := fun (g : Later w3) => g.ok.cell qc_1
        have lc_2 := fun (g : Later w3) => g.ok.cell qc_2
        have lc_3 := fun (g : Later w3) => g.ok.cell qc_3
        have lc_4 := fun (g : Later w3) => g.ok.cell qc_4
        have lc_5 := fun (g : Later w3) => g.ok.cell qc_5
        have ld_0 := fun (g : Later w3) => g.ok.cell qd_0
        have ld_1 := fun (g : Later w3) => g.ok.cell qd_1
        have ld_2 := fun (g : Later w3) => g.ok.cell qd_2
        have ld_3 := fun (g : Later w3) => g.ok.cell qd_3
        have ld_4 := fun (g : Later w3) => g.ok.cell qd_4
        have ld_5 := fun (g : Later w3) => g.ok.cell qd_5
        repeat (go_big_quiet_step ((fail)))
        go_big_quiet_step ((go_at_call 25; exact laterC (C2.out _ (hxx.trans (Later.ok _)))))
        repeat (go_big_quiet_step ((fail)))
        go_big_quiet_step ((go_at_call 26; exact laterC (C3.out _ (hxx.trans (Later.ok _)))))
        repeat (go_big_quiet_step ((fail)))
        go_big_quiet_step ((go_at_call 25; exact laterC (C4.out _ (hxx.trans (Later.ok _)))))
        repeat (go_big_quiet_step ((fail)))
        go_big_quiet_step ((go_at_call 25; exact laterC (C2.out _ (hxx.trans (Later.ok _)))))
        repeat (go_big_quiet_step ((fail)))
        go_big_quiet_step ((go_at_call 17; exact laterC (C5.out _ (hxx.trans (Later.ok _)))))
        repeat (go_big_quiet_step ((fail)))
        go_big_quiet_step ((go_at_call 8; exact laterC (live10 _)))
        repeat (go_big_quiet_step ((fail)))
        refine wpQuiet_nil ?_
        intro w4 hl4
        have hb4 := laters_ext hl4
        clear hl4 lc_0 lc_1 lc_2 lc_3 lc_4 lc_5 ld_0 ld_1 ld_2 ld_3 ld_4 ld_5
        have hx4 : Ext w3 w4 := by repeat (first | with_reducible exact Ext.refl _ | with_reducible assumption | with_reducible refine Ext.alloc ?_ _ | with_reducible refine Ext.drew ?_ | with_reducible refine Ext.drewN ?_ _ | with_reducible refine Ext.setCell ?_ (by simp <;> omega) _ | with_reducible refine Ext.trans ?_ (by assumption))
        replace qc_0 := hx4.cell qc_0
        replace qc_1 := hx4.cell qc_1
        replace qc_2 := hx4.cell qc_2
        replace qc_3 := hx4.cell qc_3
        replace qc_4 := hx4.cell qc_4
        replace qc_5 := hx4.cell qc_5
        replace pc := Nat.lt_of_lt_of_le pc hx4.size
        replace rc := Nat.lt_succ_of_lt pc
        replace qd_0 := hx4.cell qd_0
        replace qd_1 := hx4.cell qd_1
        replace qd_2 := hx4.cell qd_2
        replace qd_3 := hx4.cell qd_3
        replace qd_4 := hx4.cell qd_4
        replace qd_5 := hx4.cell qd_5
        replace pd := Nat.lt_of_lt_of_le pd hx4.size
        replace rd := Nat.lt_succ_of_lt pd
        clear hx4
        go_wp2
        go_ret
        refine ⟨rfl, Ext.below ?_⟩
        repeat (first | with_reducible exact Ext.refl _ | with_reducible assumption | with_reducible refine Ext.alloc ?_ _ | with_reducible refine Ext.drew ?_ | with_reducible refine Ext.drewN ?_ _ | with_reducible refine Ext.setCell ?_ (by simp <;> omega) _ | with_reducible refine Ext.trans ?_ (by assumption))
    · rw [hb'] at CL'
      have HCL' := Lib.hid CL'
      clear CL CL' h h' hb hb'
      go_enter Try.func6, Try.ntmps6
      go_wp2_with fail
      refine (HCL.out _ (by repeat (first | with_reducible exact Ext.refl _ | with_reducible assumption | with_reducible refine Ext.alloc ?_ _ | with_reducible refine Ext.drew ?_ | with_reducible refine Ext.drewN ?_ _ | with_reducible refine Ext.setCell ?_ (by simp <;> omega) _ | with_reducible refine Ext.trans ?_ (by assumption)))).mono ?_
      rintro e w' ⟨rfl, rfl⟩
      go_wp2_with fail
      refine (HCL'.out _ (by repeat (first | with_reducible exact Ext.refl _ | with_reducible assumption | with_reducible refine Ext.alloc ?_ _ | with_reducible refine Ext.drew ?_ | with_reducible refine Ext.drewN ?_ _ | with_reducible refine Ext.setCell ?_ (by simp <;> omega) _ | with_reducible refine Ext.trans ?_ (by assumption)))).mono ?_
      rintro e w' ⟨rfl, rfl⟩
      go_wp2_with fail
      refine (live10 _).mono ?_
      rintro e w5 ⟨rfl, hb5⟩
      obtain ⟨hc5, hf5⟩ := hb5.cells
      go_wp2
      go_ret
      refine ⟨rfl, Ext.below ?_⟩
      repeat (first | with_reducible exact Ext.refl _ | with_reducible assumption | with_reducible refine Ext.alloc ?_ _ | with_reducible refine Ext.drew ?_ | with_reducible refine Ext.drewN ?_ _ | with_reducible refine Ext.setCell ?_ (by simp <;> omega) _ | with_reducible refine Ext.trans ?_ (by assumption))
  · rw [hb] at CL
    have HCL := Lib.hid CL
    clear CL CL' h h' hb
    go_enter Try.func6, Try.ntmps6
    go_wp2_with fail
    refine (HCL.out _ (by repeat (first | with_reducible exact Ext.refl _ | with_reducible assumption | with_reducible refine Ext.alloc ?_ _ | with_reducible refine Ext.drew ?_ | with_reducible refine Ext.drewN ?_ _ | with_reducible refine Ext.setCell ?_ (by simp <;> omega) _ | with_reducible refine Ext.trans ?_ (by assumption)))).mono ?_
    rintro e w' ⟨rfl, rfl⟩
    go_wp2_with fail
    refine (live10 _).mono ?_
    rintro e w6 ⟨rfl, hb6⟩
    obtain ⟨hc6, hf6⟩ := hb6.cells
    go_wp2
    go_ret
    refine ⟨rfl, Ext.below ?_⟩
    repeat (first | with_reducible exact Ext.refl _ | with_reducible assumption | with_reducible refine Ext.alloc ?_ _ | with_reducible refine Ext.drew ?_ | with_reducible refine Ext.drewN ?_ _ | with_reducible refine Ext.setCell ?_ (by simp <;> omega) _ | with_reducible refine Ext.trans ?_ (by assumption))
end Go.Proofs.Ytlalkefbcddbfab
