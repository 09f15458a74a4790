/- The walks of ConfChecks and ConfAlike. -/
import Derived.Test.YtlalkefbcddbfabCf2
import Derived.Test.YtlalkefbcddbfabCf5
import Derived.Test.YtlalkefbcddbfabCf6
import Derived.Test.YtlalkefbcddbfabLong
namespace Go.Proofs.Ytlalkefbcddbfab
open Go.RowKit
set_option linter.unusedVariables false
set_option maxHeartbeats 2000000
attribute [local go_sem] later_cell later_frozen later_const
theorem none10 (V W C P S t : Int) (u : Value) (ups : List (List Int)) (w : World) (hL : ListsV w u ups) (hll : ∀ l ∈ ups, l.length ≤ 1000000) (hn : ups.length ≤ 1000000) (hg : ¬ ckC V W C P ups = 0) :
    Calls Try.prog 11 #[(.agg #[.int .i64 V, .int .i64 W, .int .i64 C, .int .i64 P, .int .u64 (S), u]), .int .i64 t] w fun e w' => e = .returned (.bool true) ∧ Ext w w' := by
  obtain ⟨a, cap, e, -⟩ := id hL
  subst e
  have hT : thr V W C P ups = 0 := by simp [thr, hg]
  have e1 : consB V W C P ups t = false := by unfold consB; rw [hT]; simp; omega
  have e2 : thB V W C P ups t = false := by unfold thB; simp [hg]
  have e3 : prodB V W C P ups t = false := by unfold prodB; rw [hT]; simp; omega
  have c1 := fun w' (hx : Ext w w') => cConsumer V W C P S t _ ups w' (hL.ext hx) hll hn
  have c2 := fun w' (hx : Ext w w') => cThread V W C P S t _ ups w' (hL.ext hx) hll hn
  have c3 := fun w' (hx : Ext w w') => cThreads V W C P S _ ups w' (hL.ext hx) hll hn
  have c4 := fun w' (hx : Ext w w') => cProducer V W C P S t _ ups w' (hL.ext hx) hll hn
  have c5 := fun w' (hx : Ext w w') => cStart_no V W C P S _ ups w' (hL.ext hx) hll hn hg
  have c6 := fun w' (hx : Ext w w') => cOthers_no V W C P S _ ups w' (hL.ext hx) hll hn hg
  have c7 := fun w' (hx : Ext w w') => cTurns_no V W C P S _ ups w' (hL.ext hx) hll hn hg
  rw [e1, if_neg (by simp)] at c1
  rw [e2, if_neg (by simp)] at c2
  rw [hT] at c3
  rw [e3] at c4
  have C1 := Lib.hid c1
  have C2 := Lib.hid c2
  have C3 := Lib.hid c3
  have C4 := Lib.hid c4
  have C5 := Lib.hid c5
  have C6 := Lib.hid c6
  have C7 := Lib.hid c7
  clear c1 c2 c3 c4 c5 c6 c7 e1 e2 e3 hT hg hL hll
  generalize ups.length = n at *
  go_enter Try.func11, Try.ntmps11
  go_wp2_with fail
  refine (C1.out _ (by repeat (first | with_reducible exact Ext.refl _ | with_reducible assumption | with_reducible refine Ext.alloc ?_ _ | with_reducible refine Ext.drew ?_ | with_reducible refine Ext.drewN ?_ _ | with_reducible refine Ext.setCell ?_ (by simp <;> omega) _ | with_reducible refine Ext.trans ?_ (by assumption)))).mono ?_
  rintro e w1 ⟨rfl, hb1⟩
  obtain ⟨hc1, hf1⟩ := hb1.cells
  clear hc1 hf1
  have qc_0 : w1.cell? ⟨w.heap.size, 0, none⟩ = some (.int .i64 V) := (hb1.cells.1 _ _ (by simp <;> omega)).trans (by simp [go_sem])
  have qc_1 : w1.cell? ⟨w.heap.size, 1, none⟩ = some (.int .i64 W) := (hb1.cells.1 _ _ (by simp <;> omega)).trans (by simp [go_sem])
  have qc_2 : w1.cell? ⟨w.heap.size, 2, none⟩ = some (.int .i64 C) := (hb1.cells.1 _ _ (by simp <;> omega)).trans (by simp [go_sem])
  have qc_3 : w1.cell? ⟨w.heap.size, 3, none⟩ = some (.int .i64 P) := (hb1.cells.1 _ _ (by simp <;> omega)).trans (by simp [go_sem])
  have qc_4 : w1.cell? ⟨w.heap.size, 4, none⟩ = some (.int .u64 (S)) := (hb1.cells.1 _ _ (by simp <;> omega)).trans (by simp [go_sem])
  have qc_5 : w1.cell? ⟨w.heap.size, 5, none⟩ = some (.slice a n cap) := (hb1.cells.1 _ _ (by simp <;> omega)).trans (by simp [go_sem])
  have pc := World.block_lt_of_cell? _ ⟨w.heap.size, 0, none⟩ qc_0
  have rc := Nat.lt_succ_of_lt pc
  go_wp2_with fail
  refine (C2.out _ (by repeat (first | with_reducible exact Ext.refl _ | with_reducible assumption | with_reducible refine Ext.alloc ?_ _ | with_reducible refine Ext.drew ?_ | with_reducible refine Ext.drewN ?_ _ | with_reducible refine Ext.setCell ?_ (by simp <;> omega) _ | with_reducible refine Ext.trans ?_ (by assumption)))).mono ?_
  rintro e w2 ⟨rfl, hb2⟩
  have hx2 : Ext w1 w2 := by repeat (first | with_reducible exact Ext.refl _ | with_reducible assumption | with_reducible refine Ext.alloc ?_ _ | with_reducible refine Ext.drew ?_ | with_reducible refine Ext.drewN ?_ _ | with_reducible refine Ext.setCell ?_ (by simp <;> omega) _ | with_reducible refine Ext.trans ?_ (by assumption))
  replace qc_0 := hx2.cell qc_0
  replace qc_1 := hx2.cell qc_1
  replace qc_2 := hx2.cell qc_2
  replace qc_3 := hx2.cell qc_3
  replace qc_4 := hx2.cell qc_4
  replace qc_5 := hx2.cell qc_5
  replace pc := Nat.lt_of_lt_of_le pc hx2.size
  replace rc := Nat.lt_succ_of_lt pc
  clear hx2
  go_wp2_with fail
  refine (C3.out _ (by repeat (first | with_reducible exact Ext.refl _ | with_reducible assumption | with_reducible refine Ext.alloc ?_ _ | with_reducible refine Ext.drew ?_ | with_reducible refine Ext.drewN ?_ _ | with_reducible refine Ext.setCell ?_ (by simp <;> omega) _ | with_reducible refine Ext.trans ?_ (by assumption)))).mono ?_
  rintro e w3 ⟨rfl, hb3⟩
  have hx3 : Ext w2 w3 := by repeat (first | with_reducible exact Ext.refl _ | with_reducible assumption | with_reducible refine Ext.alloc ?_ _ | with_reducible refine Ext.drew ?_ | with_reducible refine Ext.drewN ?_ _ | with_reducible refine Ext.setCell ?_ (by simp <;> omega) _ | with_reducible refine Ext.trans ?_ (by assumption))
  replace qc_0 := hx3.cell qc_0
  replace qc_1 := hx3.cell qc_1
  replace qc_2 := hx3.cell qc_2
  replace qc_3 := hx3.cell qc_3
  replace qc_4 := hx3.cell qc_4
  replace qc_5 := hx3.cell qc_5
  replace pc := Nat.lt_of_lt_of_le pc hx3.size
  replace rc := Nat.lt_succ_of_lt pc
  clear hx3
  go_wp2_with fail
  refine (C4.out _ (by repeat (first | with_reducible exact Ext.refl _ | with_reducible assumption | with_reducible refine Ext.alloc ?_ _ | with_reducible refine Ext.drew ?_ | with_reducible refine Ext.drewN ?_ _ | with_reducible refine Ext.setCell ?_ (by simp <;> omega) _ | with_reducible refine Ext.trans ?_ (by assumption)))).mono ?_
  rintro e w4 ⟨rfl, hb4⟩
  have hx4 : Ext w3 w4 := by repeat (first | with_reducible exact Ext.refl _ | with_reducible assumption | with_reducible refine Ext.alloc ?_ _ | with_reducible refine Ext.drew ?_ | with_reducible refine Ext.drewN ?_ _ | with_reducible refine Ext.setCell ?_ (by simp <;> omega) _ | with_reducible refine Ext.trans ?_ (by assumption))
  replace qc_0 := hx4.cell qc_0
  replace qc_1 := hx4.cell qc_1
  replace qc_2 := hx4.cell qc_2
  replace qc_3 := hx4.cell qc_3
  replace qc_4 := hx4.cell qc_4
  replace qc_5 := hx4.cell qc_5
  replace pc := Nat.lt_of_lt_of_le pc hx4.size
  replace rc := Nat.lt_succ_of_lt pc
  clear hx4
  go_wp2_with fail
  refine (C5.out _ (by repeat (first | with_reducible exact Ext.refl _ | with_reducible assumption | with_reducible refine Ext.alloc ?_ _ | with_reducible refine Ext.drew ?_ | with_reducible refine Ext.drewN ?_ _ | with_reducible refine Ext.setCell ?_ (by simp <;> omega) _ | with_reducible refine Ext.trans ?_ (by assumption)))).mono ?_
  rintro e w5 ⟨rfl, hb5⟩
  have hx5 : Ext w4 w5 := by repeat (first | with_reducible exact Ext.refl _ | with_reducible assumption | with_reducible refine Ext.alloc ?_ _ | with_reducible refine Ext.drew ?_ | with_reducible refine Ext.drewN ?_ _ | with_reducible refine Ext.setCell ?_ (by simp <;> omega) _ | with_reducible refine Ext.trans ?_ (by assumption))
  replace qc_0 := hx5.cell qc_0
  replace qc_1 := hx5.cell qc_1
  replace qc_2 := hx5.cell qc_2
  replace qc_3 := hx5.cell qc_3
  replace qc_4 := hx5.cell qc_4
  replace qc_5 := hx5.cell qc_5
  replace pc := Nat.lt_of_lt_of_le pc hx5.size
  replace rc := Nat.lt_succ_of_lt pc
  clear hx5
  go_wp2_with fail
  refine (C6.out _ (by repeat (first | with_reducible exact Ext.refl _ | with_reducible assumption | with_reducible refine Ext.alloc ?_ _ | with_reducible refine Ext.drew ?_ | with_reducible refine Ext.drewN ?_ _ | with_reducible refine Ext.setCell ?_ (by simp <;> omega) _ | with_reducible refine Ext.trans ?_ (by assumption)))).mono ?_
  rintro e w6 ⟨rfl, hb6⟩
  have hx6 : Ext w5 w6 := by repeat (first | with_reducible exact Ext.refl _ | with_reducible assumption | with_reducible refine Ext.alloc ?_ _ | with_reducible refine Ext.drew ?_ | with_reducible refine Ext.drewN ?_ _ | with_reducible refine Ext.setCell ?_ (by simp <;> omega) _ | with_reducible refine Ext.trans ?_ (by assumption))
  replace qc_0 := hx6.cell qc_0
  replace qc_1 := hx6.cell qc_1
  replace qc_2 := hx6.cell qc_2
  replace qc_3 := hx6.cell qc_3
  replace qc_4 := hx6.cell qc_4
  replace qc_5 := hx6.cell qc_5
  replace pc := Nat.lt_of_lt_of_le pc hx6.size
  replace rc := Nat.lt_succ_of_lt pc
  clear hx6
  go_wp2_with fail
  refine (C7.out _ (by repeat (first | with_reducible exact Ext.refl _ | with_reducible assumption | with_reducible refine Ext.alloc ?_ _ | with_reducible refine Ext.drew ?_ | with_reducible refine Ext.drewN ?_ _ | with_reducible refine Ext.setCell ?_ (by simp <;> omega) _ | with_reducible refine Ext.trans ?_ (by assumption)))).mono ?_
  rintro e w7 ⟨rfl, hb7⟩
  have hx7 : Ext w6 w7 := by repeat (first | with_reducible exact Ext.refl _ | with_reducible assumption | with_reducible refine Ext.alloc ?_ _ | with_reducible refine Ext.drew ?_ | with_reducible refine Ext.drewN ?_ _ | with_reducible refine Ext.setCell ?_ (by simp <;> omega) _ | with_reducible refine Ext.trans ?_ (by assumption))
  replace qc_0 := hx7.cell qc_0
  replace qc_1 := hx7.cell qc_1
  replace qc_2 := hx7.cell qc_2
  replace qc_3 := hx7.cell qc_3
  replace qc_4 := hx7.cell qc_4
  replace qc_5 := hx7.cell qc_5
  replace pc := Nat.lt_of_lt_of_le pc hx7.size
  replace rc := Nat.lt_succ_of_lt pc
  clear hx7
  go_wp2
  go_ret
  refine ⟨rfl, ?_⟩
  repeat (first | with_reducible exact Ext.refl _ | with_reducible assumption | with_reducible refine Ext.alloc ?_ _ | with_reducible refine Ext.drew ?_ | with_reducible refine Ext.drewN ?_ _ | with_reducible refine Ext.setCell ?_ (by simp <;> omega) _ | with_reducible refine Ext.trans ?_ (by assumption))
/-- what is known of lists that are not long -/
theorem came_small {w : World} {a : Option Addr} {len cap : Nat} {ups : List (List Int)} (h : Came w a len cap ups) (hb : longB ups = false) : (∀ l ∈ ups, l.length ≤ 1000000) ∧ ups.length ≤ 1000000 := by
  obtain ⟨h1, h2⟩ := longB_no hb
  exact ⟨fun l hl => by have := h2 l hl; omega, by omega⟩
theorem confChecks_walk (V W C P S : Int) (a : Option Addr) (len cap : Nat) (ups : List (List Int)) (t : Int) (w : World) (wf : (Lit.int .i64 V).wf = true ∧ (Lit.int .i64 W).wf = true ∧ (Lit.int .i64 C).wf = true ∧ (Lit.int .i64 P).wf = true ∧ (Lit.int .u64 S).wf = true) (h : Came w a len cap ups) (wt : (Lit.int .i64 t).wf = true) :
    Calls Try.prog 3 #[(.agg #[.int .i64 V, .int .i64 W, .int .i64 C, .int .i64 P, .int .u64 (S), .slice a len cap]), .int .i64 t] w fun e w' => e = .returned (.bool true) ∧ Below w.heap.size w w' := by
  clear wf wt
  have CL := fun w' (hx : Ext w w') => long _ ups w' (h.l.ext hx) (by rw [h.n]; exact h.m) (fun l hl => (h.each l hl).1)
  cases hb : longB ups
  · rw [hb] at CL
    have HCL := Lib.hid CL
    obtain ⟨hll, hn⟩ := came_small h hb
    have C1 := Lib.hid (fun w' (hx : Ext w w') => r10Chk V W C P S _ ups w' (h.l.ext hx) hll hn)
    have C2 := Lib.hid (fun w' (hx : Ext w w') => cCheck V W C P S _ ups w' (h.l.ext hx) hll hn)
    have hlen : len ≤ 1000000 := by rw [← h.n]; exact hn
    by_cases hg : ckC V W C P ups = 0
    · rw [hg] at C1 C2
      clear CL h hb hll hn hg
      go_enter Try.func3, Try.ntmps3
      go_wp2_with fail
      refine (HCL.out _ (by repeat (first | with_reducible exact Ext.refl _ | with_reducible assumption | with_reducible refine Ext.alloc ?_ _ | with_reducible refine Ext.drew ?_ | with_reducible refine Ext.drewN ?_ _ | with_reducible refine Ext.setCell ?_ (by simp <;> omega) _ | with_reducible refine Ext.trans ?_ (by assumption)))).mono ?_
      rintro e w' ⟨rfl, rfl⟩
      go_wp2_with fail
      refine (C1.out _ (by repeat (first | with_reducible exact Ext.refl _ | with_reducible assumption | with_reducible refine Ext.alloc ?_ _ | with_reducible refine Ext.drew ?_ | with_reducible refine Ext.drewN ?_ _ | with_reducible refine Ext.setCell ?_ (by simp <;> omega) _ | with_reducible refine Ext.trans ?_ (by assumption)))).mono ?_
      rintro e w1 ⟨rfl, hb1⟩
      obtain ⟨hc1, hf1⟩ := hb1.cells
      clear hc1 hf1
      have qc_0 : w1.cell? ⟨w.heap.size, 0, none⟩ = some (.int .i64 V) := (hb1.cells.1 _ _ (by simp <;> omega)).trans (by simp [go_sem])
      have qc_1 : w1.cell? ⟨w.heap.size, 1, none⟩ = some (.int .i64 W) := (hb1.cells.1 _ _ (by simp <;> omega)).trans (by simp [go_sem])
      have qc_2 : w1.cell? ⟨w.heap.size, 2, none⟩ = some (.int .i64 C) := (hb1.cells.1 _ _ (by simp <;> omega)).trans (by simp [go_sem])
      have qc_3 : w1.cell? ⟨w.heap.size, 3, none⟩ = some (.int .i64 P) := (hb1.cells.1 _ _ (by simp <;> omega)).trans (by simp [go_sem])
      have qc_4 : w1.cell? ⟨w.heap.size, 4, none⟩ = some (.int .u64 (S)) := (hb1.cells.1 _ _ (by simp <;> omega)).trans (by simp [go_sem])
      have qc_5 : w1.cell? ⟨w.heap.size, 5, none⟩ = some (.slice a len cap) := (hb1.cells.1 _ _ (by simp <;> omega)).trans (by simp [go_sem])
      have pc := World.block_lt_of_cell? _ ⟨w.heap.size, 0, none⟩ qc_0
      have rc := Nat.lt_succ_of_lt pc
      go_wp2_with fail
      refine (C2.out _ (by repeat (first | with_reducible exact Ext.refl _ | with_reducible assumption | with_reducible refine Ext.alloc ?_ _ | with_reducible refine Ext.drew ?_ | with_reducible refine Ext.drewN ?_ _ | with_reducible refine Ext.setCell ?_ (by simp <;> omega) _ | with_reducible refine Ext.trans ?_ (by assumption)))).mono ?_
      rintro e w2 ⟨rfl, hb2⟩
      have hx2 : Ext w1 w2 := by repeat (first | with_reducible exact Ext.refl _ | with_reducible assumption | with_reducible refine Ext.alloc ?_ _ | with_reducible refine Ext.drew ?_ | with_reducible refine Ext.drewN ?_ _ | with_reducible refine Ext.setCell ?_ (by simp <;> omega) _ | with_reducible refine Ext.trans ?_ (by assumption))
      replace qc_0 := hx2.cell qc_0
      replace qc_1 := hx2.cell qc_1
      replace qc_2 := hx2.cell qc_2
      replace qc_3 := hx2.cell qc_3
      replace qc_4 := hx2.cell qc_4
      replace qc_5 := hx2.cell qc_5
      replace pc := Nat.lt_of_lt_of_le pc hx2.size
      replace rc := Nat.lt_succ_of_lt pc
      clear hx2
      go_wp2_with fail
      refine (live10 _).mono ?_
      rintro e w3 ⟨rfl, hb3⟩
      have hx3 : Ext w2 w3 := by repeat (first | with_reducible exact Ext.refl _ | with_reducible assumption | with_reducible refine Ext.alloc ?_ _ | with_reducible refine Ext.drew ?_ | with_reducible refine Ext.drewN ?_ _ | with_reducible refine Ext.setCell ?_ (by simp <;> omega) _ | with_reducible refine Ext.trans ?_ (by assumption))
      replace qc_0 := hx3.cell qc_0
      replace qc_1 := hx3.cell qc_1
      replace qc_2 := hx3.cell qc_2
      replace qc_3 := hx3.cell qc_3
      replace qc_4 := hx3.cell qc_4
      replace qc_5 := hx3.cell qc_5
      replace pc := Nat.lt_of_lt_of_le pc hx3.size
      replace rc := Nat.lt_succ_of_lt pc
      clear hx3
      go_wp2
      go_ret
      refine ⟨rfl, Ext.below ?_⟩
      repeat (first | with_reducible exact Ext.refl _ | with_reducible assumption | with_reducible refine Ext.alloc ?_ _ | with_reducible refine Ext.drew ?_ | with_reducible refine Ext.drewN ?_ _ | with_reducible refine Ext.setCell ?_ (by simp <;> omega) _ | with_reducible refine Ext.trans ?_ (by assumption))
    · have C3 := Lib.hid (fun w' (hx : Ext w w') => none10 V W C P S t _ ups w' (h.l.ext hx) hll hn hg)
      have kg : (ckC V W C P ups == 0) = false := by simpa using hg
      generalize ckC V W C P ups = g at *
      clear CL h hb hll hn hg
      go_enter Try.func3, Try.ntmps3
      go_wp2_with fail
      refine (HCL.out _ (by repeat (first | with_reducible exact Ext.refl _ | with_reducible assumption | with_reducible refine Ext.alloc ?_ _ | with_reducible refine Ext.drew ?_ | with_reducible refine Ext.drewN ?_ _ | with_reducible refine Ext.setCell ?_ (by simp <;> omega) _ | with_reducible refine Ext.trans ?_ (by assumption)))).mono ?_
      rintro e w' ⟨rfl, rfl⟩
      go_wp2_with fail
      refine (C1.out _ (by repeat (first | with_reducible exact Ext.refl _ | with_reducible assumption | with_reducible refine Ext.alloc ?_ _ | with_reducible refine Ext.drew ?_ | with_reducible refine Ext.drewN ?_ _ | with_reducible refine Ext.setCell ?_ (by simp <;> omega) _ | with_reducible refine Ext.trans ?_ (by assumption)))).mono ?_
      rintro e w4 ⟨rfl, hb4⟩
      obtain ⟨hc4, hf4⟩ := hb4.cells
      clear hc4 hf4
      have qc_0 : w4.cell? ⟨w.heap.size, 0, none⟩ = some (.int .i64 V) := (hb4.cells.1 _ _ (by simp <;> omega)).trans (by simp [go_sem])
      have qc_1 : w4.cell? ⟨w.heap.size, 1, none⟩ = some (.int .i64 W) := (hb4.cells.1 _ _ (by simp <;> omega)).trans (by simp [go_sem])
      have qc_2 : w4.cell? ⟨w.heap.size, 2, none⟩ = some (.int .i64 C) := (hb4.cells.1 _ _ (by simp <;> omega)).trans (by simp [go_sem])
      have qc_3 : w4.cell? ⟨w.heap.size, 3, none⟩ = some (.int .i64 P) := (hb4.cells.1 _ _ (by simp <;> omega)).trans (by simp [go_sem])
      have qc_4 : w4.cell? ⟨w.heap.size, 4, none⟩ = some (.int .u64 (S)) := (hb4.cells.1 _ _ (by simp <;> omega)).trans (by simp [go_sem])
      have qc_5 : w4.cell? ⟨w.heap.size, 5, none⟩ = some (.slice a len cap) := (hb4.cells.1 _ _ (by simp <;> omega)).trans (by simp [go_sem])
      have pc := World.block_lt_of_cell? _ ⟨w.heap.size, 0, none⟩ qc_0
      have rc := Nat.lt_succ_of_lt pc
      go_wp2_with fail
      refine (C2.out _ (by repeat (first | with_reducible exact Ext.refl _ | with_reducible assumption | with_reducible refine Ext.alloc ?_ _ | with_reducible refine Ext.drew ?_ | with_reducible refine Ext.drewN ?_ _ | with_reducible refine Ext.setCell ?_ (by simp <;> omega) _ | with_reducible refine Ext.trans ?_ (by assumption)))).mono ?_
      rintro e w5 ⟨rfl, hb5⟩
      have hx5 : Ext w4 w5 := by repeat (first | with_reducible exact Ext.refl _ | with_reducible assumption | with_reducible refine Ext.alloc ?_ _ | with_reducible refine Ext.drew ?_ | with_reducible refine Ext.drewN ?_ _ | with_reducible refine Ext.setCell ?_ (by simp <;> omega) _ | with_reducible refine Ext.trans ?_ (by assumption))
      replace qc_0 := hx5.cell qc_0
      replace qc_1 := hx5.cell qc_1
      replace qc_2 := hx5.cell qc_2
      replace qc_3 := hx5.cell qc_3
      replace qc_4 := hx5.cell qc_4
      replace qc_5 := hx5.cell qc_5
      replace pc := Nat.lt_of_lt_of_le pc hx5.size
      replace rc := Nat.lt_succ_of_lt pc
      clear hx5
      go_wp2_with fail
      refine (C3.out _ (by repeat (first | with_reducible exact Ext.refl _ | with_reducible assumption | with_reducible refine Ext.alloc ?_ _ | with_reducible refine Ext.drew ?_ | with_reducible refine Ext.drewN ?_ _ | with_reducible refine Ext.setCell ?_ (by simp <;> omega) _ | with_reducible refine Ext.trans ?_ (by assumption)))).mono ?_
      rintro e w6 ⟨rfl, hb6⟩
      have hx6 : Ext w5 w6 := by repeat (first | with_reducible exact Ext.refl _ | with_reducible assumption | with_reducible refine Ext.alloc ?_ _ | with_reducible refine Ext.drew ?_ | with_reducible refine Ext.drewN ?_ _ | with_reducible refine Ext.setCell ?_ (by simp <;> omega) _ | with_reducible refine Ext.trans ?_ (by assumption))
      replace qc_0 := hx6.cell qc_0
      replace qc_1 := hx6.cell qc_1
      replace qc_2 := hx6.cell qc_2
      replace qc_3 := hx6.cell qc_3
      replace qc_4 := hx6.cell qc_4
      replace qc_5 := hx6.cell qc_5
      replace pc := Nat.lt_of_lt_of_le pc hx6.size
      replace rc := Nat.lt_succ_of_lt pc
      clear hx6
      go_wp2_with fail
      refine (live10 _).mono ?_
      rintro e w7 ⟨rfl, hb7⟩
      have hx7 : Ext w6 w7 := by repeat (first | with_reducible exact Ext.refl _ | with_reducible assumption | with_reducible refine Ext.alloc ?_ _ | with_reducible refine Ext.drew ?_ | with_reducible refine Ext.drewN ?_ _ | with_reducible refine Ext.setCell ?_ (by simp <;> omega) _ | with_reducible refine Ext.trans ?_ (by assumption))
      replace qc_0 := hx7.cell qc_0
      replace qc_1 := hx7.cell qc_1
      replace qc_2 := hx7.cell qc_2
      replace qc_3 := hx7.cell qc_3
      replace qc_4 := hx7.cell qc_4
      replace qc_5 := hx7.cell qc_5
      replace pc := Nat.lt_of_lt_of_le pc hx7.size
      replace rc := Nat.lt_succ_of_lt pc
      clear hx7
      go_wp2
      go_ret
      refine ⟨rfl, Ext.below ?_⟩
      repeat (first | with_reducible exact Ext.refl _ | with_reducible assumption | with_reducible refine Ext.alloc ?_ _ | with_reducible refine Ext.drew ?_ | with_reducible refine Ext.drewN ?_ _ | with_reducible refine Ext.setCell ?_ (by simp <;> omega) _ | with_reducible refine Ext.trans ?_ (by assumption))
  · rw [hb] at CL
    have HCL := Lib.hid CL
    have hlen := h.m
    unfold maxLen at hlen
    clear CL h hb
    go_enter Try.func3, Try.ntmps3
    go_wp2_with fail
    refine (HCL.out _ (by repeat (first | with_reducible exact Ext.refl _ | with_reducible assumption | with_reducible refine Ext.alloc ?_ _ | with_reducible refine Ext.drew ?_ | with_reducible refine Ext.drewN ?_ _ | with_reducible refine Ext.setCell ?_ (by simp <;> omega) _ | with_reducible refine Ext.trans ?_ (by assumption)))).mono ?_
    rintro e w' ⟨rfl, rfl⟩
    go_wp2_with fail
    refine (live10 _).mono ?_
    rintro e w8 ⟨rfl, hb8⟩
    obtain ⟨hc8, hf8⟩ := hb8.cells
    go_wp2
    go_ret
    refine ⟨rfl, Ext.below ?_⟩
    repeat (first | with_reducible exact Ext.refl _ | with_reducible assumption | with_reducible refine Ext.alloc ?_ _ | with_reducible refine Ext.drew ?_ | with_reducible refine Ext.drewN ?_ _ | with_reducible refine Ext.setCell ?_ (by simp <;> omega) _ | with_reducible refine Ext.trans ?_ (by assumption))
end Go.Proofs.Ytlalkefbcddbfab
