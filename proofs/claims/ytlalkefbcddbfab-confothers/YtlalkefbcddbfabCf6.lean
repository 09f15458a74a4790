/- The laws' Plain, live and none of layer 10. -/
import Derived.Test.YtlalkefbcddbfabCf3
import Derived.Test.YtlalkefbcddbfabOpenC
namespace Go.Proofs.Ytlalkefbcddbfab
open Go.RowKit
set_option linter.unusedVariables false
set_option maxHeartbeats 1000000
attribute [local go_sem] later_cell later_frozen later_const
/-- the plain configuration, its graph in a block of its own -/
def PlainDoes (w : World) (e : Ending) (w' : World) : Prop := ∃ b, e = .returned (.agg #[.int .i64 2, .int .i64 32, .int .i64 4, .int .i64 1, .int .u64 (4294967294), .slice (some ⟨b, 0, none⟩) 1 1]) ∧ ListsV w' (.slice (some ⟨b, 0, none⟩) 1 1) [[]] ∧ Ext w w'
theorem lists_one {w : World} {b : Nat} (h : w.cell? ⟨b, 0, none⟩ = some (.slice none 0 0)) : ListsV w (.slice (some ⟨b, 0, none⟩) 1 1) [[]] :=
  ⟨_, 1, rfl, fun j hj => by
    have : j = 0 := by simp at hj; omega
    subst this
    exact ⟨b, 0, .slice none 0 0, rfl, h, .inl ⟨none, 0, rfl, rfl⟩, Nat.le_refl _⟩⟩
theorem plain10 (w : World) : Calls Try.prog 27 #[] w (PlainDoes w) := by
  go_enter Try.func27, Try.ntmps27
  go_wp2
  refine bodyPost_ret (v := (.agg #[.int .i64 2, .int .i64 32, .int .i64 4, .int .i64 1, .int .u64 (4294967294), .slice (some ⟨w.heap.size + 1, 0, none⟩) 1 1])) (by simp [results, Try.results27, go_sem]) rfl ⟨w.heap.size + 1, rfl, lists_one (by simp [go_sem]), ?_⟩
  repeat (first | with_reducible exact Ext.refl _ | with_reducible assumption | with_reducible refine Ext.alloc ?_ _ | with_reducible refine Ext.drew ?_ | with_reducible refine Ext.drewN ?_ _ | with_reducible refine Ext.setCell ?_ (by simp <;> omega) _ | with_reducible refine Ext.trans ?_ (by assumption))
theorem ck1 : ckC 2 32 4 1 [[]] = 0 := by decide +kernel
theorem ck2 : ckC 1 32 4 2 [[]] = 5 := by decide +kernel
theorem ck3 : ckC 2 32 536870912 2 [[]] = 9 := by decide +kernel
theorem ck4 : ckC 2 64 536870912 2 [[]] = 10 := by decide +kernel
set_option maxRecDepth 100000 in
theorem live10 (w : World) : Calls Try.prog 8 #[] w fun e w' => e = .returned (.bool true) ∧ Ext w w' := by
  have c1 := fun u w h => cCheck 2 32 4 1 4294967294 u [[]] w h (by simp) (by simp)
  have c2 := fun u w h => cCheck 1 32 4 2 4294967294 u [[]] w h (by simp) (by simp)
  have c3 := fun u w h => cCheck 2 32 536870912 2 4294967294 u [[]] w h (by simp) (by simp)
  have c4 := fun u w h => cCheck 2 64 536870912 2 4294967294 u [[]] w h (by simp) (by simp)
  rw [ck1] at c1
  rw [ck2] at c2
  rw [ck3] at c3
  rw [ck4] at c4
  have C1 := Lib.hid c1
  have C2 := Lib.hid c2
  have C3 := Lib.hid c3
  have C4 := Lib.hid c4
  clear c1 c2 c3 c4
  go_enter Try.func8, Try.ntmps8
  go_wp2_with fail
  refine (plain10 _).mono ?_
  rintro e w1 ⟨b1, rfl, L1, X1⟩
  go_wp2_with fail
  refine (plain10 _).mono ?_
  rintro e w2 ⟨b2, rfl, L2, X2⟩
  have HL1 := Lib.hid (L1.ext X2)
  have HL2 := Lib.hid L2
  have E2 := X1.trans X2
  clear L1 L2 X1 X2
  go_upto_region 2 with (fail)
  refine settle_wp ?_
  intro w3 hb3
  have qc_0 : w3.cell? ⟨w2.heap.size, 0, none⟩ = some (.int .i64 2) := (hb3.cells.1 _ _ (by simp <;> omega)).trans (by simp [go_sem])
  have zc_0 : w3.frozen? ⟨w2.heap.size, 0, none⟩ = false := (hb3.cells.2 _ _ (by simp <;> omega)).trans (by simp [go_sem])
  have qc_1 : w3.cell? ⟨w2.heap.size, 1, none⟩ = some (.int .i64 32) := (hb3.cells.1 _ _ (by simp <;> omega)).trans (by simp [go_sem])
  have zc_1 : w3.frozen? ⟨w2.heap.size, 1, none⟩ = false := (hb3.cells.2 _ _ (by simp <;> omega)).trans (by simp [go_sem])
  have qc_2 : w3.cell? ⟨w2.heap.size, 2, none⟩ = some (.int .i64 4) := (hb3.cells.1 _ _ (by simp <;> omega)).trans (by simp [go_sem])
  have zc_2 : w3.frozen? ⟨w2.heap.size, 2, none⟩ = false := (hb3.cells.2 _ _ (by simp <;> omega)).trans (by simp [go_sem])
  have qc_3 : w3.cell? ⟨w2.heap.size, 3, none⟩ = some (.int .i64 1) := (hb3.cells.1 _ _ (by simp <;> omega)).trans (by simp [go_sem])
  have zc_3 : w3.frozen? ⟨w2.heap.size, 3, none⟩ = false := (hb3.cells.2 _ _ (by simp <;> omega)).trans (by simp [go_sem])
  have qc_4 : w3.cell? ⟨w2.heap.size, 4, none⟩ = some (.int .u64 4294967294) := (hb3.cells.1 _ _ (by simp <;> omega)).trans (by simp [go_sem])
  have zc_4 : w3.frozen? ⟨w2.heap.size, 4, none⟩ = false := (hb3.cells.2 _ _ (by simp <;> omega)).trans (by simp [go_sem])
  have qc_5 : w3.cell? ⟨w2.heap.size, 5, none⟩ = some (.slice (some ⟨b1, 0, none⟩) 1 1) := (hb3.cells.1 _ _ (by simp <;> omega)).trans (by simp [go_sem])
  have zc_5 : w3.frozen? ⟨w2.heap.size, 5, none⟩ = false := (hb3.cells.2 _ _ (by simp <;> omega)).trans (by simp [go_sem])
  have qd_0 : w3.cell? ⟨w2.heap.size + 1, 0, none⟩ = some (.int .i64 2) := (hb3.cells.1 _ _ (by simp <;> omega)).trans (by simp [go_sem])
  have zd_0 : w3.frozen? ⟨w2.heap.size + 1, 0, none⟩ = false := (hb3.cells.2 _ _ (by simp <;> omega)).trans (by simp [go_sem])
  have qd_1 : w3.cell? ⟨w2.heap.size + 1, 1, none⟩ = some (.int .i64 32) := (hb3.cells.1 _ _ (by simp <;> omega)).trans (by simp [go_sem])
  have zd_1 : w3.frozen? ⟨w2.heap.size + 1, 1, none⟩ = false := (hb3.cells.2 _ _ (by simp <;> omega)).trans (by simp [go_sem])
  have qd_2 : w3.cell? ⟨w2.heap.size + 1, 2, none⟩ = some (.int .i64 4) := (hb3.cells.1 _ _ (by simp <;> omega)).trans (by simp [go_sem])
  have zd_2 : w3.frozen? ⟨w2.heap.size + 1, 2, none⟩ = false := (hb3.cells.2 _ _ (by simp <;> omega)).trans (by simp [go_sem])
  have qd_3 : w3.cell? ⟨w2.heap.size + 1, 3, none⟩ = some (.int .i64 1) := (hb3.cells.1 _ _ (by simp <;> omega)).trans (by simp [go_sem])
  have zd_3 : w3.frozen? ⟨w2.heap.size + 1, 3, none⟩ = false := (hb3.cells.2 _ _ (by simp <;> omega)).trans (by simp [go_sem])
  have qd_4 : w3.cell? ⟨w2.heap.size + 1, 4, none⟩ = some (.int .u64 4294967294) := (hb3.cells.1 _ _ (by simp <;> omega)).trans (by simp [go_sem])
  have zd_4 : w3.frozen? ⟨w2.heap.size + 1, 4, none⟩ = false := (hb3.cells.2 _ _ (by simp <;> omega)).trans (by simp [go_sem])
  have qd_5 : w3.cell? ⟨w2.heap.size + 1, 5, none⟩ = some (.slice (some ⟨b2, 0, none⟩) 1 1) := (hb3.cells.1 _ _ (by simp <;> omega)).trans (by simp [go_sem])
  have zd_5 : w3.frozen? ⟨w2.heap.size + 1, 5, none⟩ = false := (hb3.cells.2 _ _ (by simp <;> omega)).trans (by simp [go_sem])
  have hsz3 : w2.heap.size + 2 ≤ w3.heap.size := by have := hb3.size; simp at this; omega
  have E3 : Ext w2 w3 := Ext.trans (by repeat (first | with_reducible exact Ext.refl _ | with_reducible assumption | with_reducible refine Ext.alloc ?_ _ | with_reducible refine Ext.drew ?_ | with_reducible refine Ext.drewN ?_ _ | with_reducible refine Ext.setCell ?_ (by simp <;> omega) _ | with_reducible refine Ext.trans ?_ (by assumption))) hb3
  clear hb3
  go_upto_region 6 with (fail)
  refine settle_wp ?_
  intro w4 hb4
  have E0 := Ext.trans ((Ext.refl _).alloc _) hb4
  have qe_0 : w4.cell? ⟨w2.heap.size, 0, none⟩ = some (.int .i64 1) := E0.cell (by simp [go_sem, qc_0])
  have qe_1 : w4.cell? ⟨w2.heap.size, 1, none⟩ = some (.int .i64 32) := E0.cell (by simp [go_sem, qc_1])
  have qe_2 : w4.cell? ⟨w2.heap.size, 2, none⟩ = some (.int .i64 4) := E0.cell (by simp [go_sem, qc_2])
  have qe_3 : w4.cell? ⟨w2.heap.size, 3, none⟩ = some (.int .i64 2) := E0.cell (by simp [go_sem, qc_3])
  have qe_4 : w4.cell? ⟨w2.heap.size, 4, none⟩ = some (.int .u64 4294967294) := E0.cell (by simp [go_sem, qc_4])
  have qe_5 : w4.cell? ⟨w2.heap.size, 5, none⟩ = some (.slice (some ⟨b1, 0, none⟩) 1 1) := E0.cell (by simp [go_sem, qc_5])
  have qf_0 : w4.cell? ⟨w2.heap.size + 1, 0, none⟩ = some (.int .i64 2) := E0.cell (by simp [go_sem, qd_0])
  have qf_1 : w4.cell? ⟨w2.heap.size + 1, 1, none⟩ = some (.int .i64 32) := E0.cell (by simp [go_sem, qd_1])
  have qf_2 : w4.cell? ⟨w2.heap.size + 1, 2, none⟩ = some (.int .i64 536870912) := E0.cell (by simp [go_sem, qd_2])
  have qf_3 : w4.cell? ⟨w2.heap.size + 1, 3, none⟩ = some (.int .i64 2) := E0.cell (by simp [go_sem, qd_3])
  have qf_4 : w4.cell? ⟨w2.heap.size + 1, 4, none⟩ = some (.int .u64 4294967294) := E0.cell (by simp [go_sem, qd_4])
  have qf_5 : w4.cell? ⟨w2.heap.size + 1, 5, none⟩ = some (.slice (some ⟨b2, 0, none⟩) 1 1) := E0.cell (by simp [go_sem, qd_5])
  have qg_0 : w4.cell? ⟨w3.heap.size, 0, none⟩ = some (.int .i64 2) := (hb4.cells.1 _ _ (by simp <;> omega)).trans (by simp [go_sem])
  have qg_1 : w4.cell? ⟨w3.heap.size, 1, none⟩ = some (.int .i64 64) := (hb4.cells.1 _ _ (by simp <;> omega)).trans (by simp [go_sem])
  have qg_2 : w4.cell? ⟨w3.heap.size, 2, none⟩ = some (.int .i64 536870912) := (hb4.cells.1 _ _ (by simp <;> omega)).trans (by simp [go_sem])
  have qg_3 : w4.cell? ⟨w3.heap.size, 3, none⟩ = some (.int .i64 2) := (hb4.cells.1 _ _ (by simp <;> omega)).trans (by simp [go_sem])
  have qg_4 : w4.cell? ⟨w3.heap.size, 4, none⟩ = some (.int .u64 4294967294) := (hb4.cells.1 _ _ (by simp <;> omega)).trans (by simp [go_sem])
  have qg_5 : w4.cell? ⟨w3.heap.size, 5, none⟩ = some (.slice (some ⟨b2, 0, none⟩) 1 1) := (hb4.cells.1 _ _ (by simp <;> omega)).trans (by simp [go_sem])
  have E4 : Ext w2 w4 := Ext.trans (by repeat (first | with_reducible exact Ext.refl _ | with_reducible assumption | with_reducible refine Ext.alloc ?_ _ | with_reducible refine Ext.drew ?_ | with_reducible refine Ext.drewN ?_ _ | with_reducible refine Ext.setCell ?_ (by simp <;> omega) _ | with_reducible refine Ext.trans ?_ (by assumption))) hb4
  clear hb4 qc_0 zc_0 qc_1 zc_1 qc_2 zc_2 qc_3 zc_3 qc_4 zc_4 qc_5 zc_5 qd_0 zd_0 qd_1 zd_1 qd_2 zd_2 qd_3 zd_3 qd_4 zd_4 qd_5 zd_5 E3 hsz3 E0
  go_wp2_with fail
  refine (plain10 _).mono ?_
  rintro e w5 ⟨b3, rfl, L3, X5⟩
  have HL3 := Lib.hid L3
  clear L3
  replace qe_0 := X5.cell qe_0
  replace qe_1 := X5.cell qe_1
  replace qe_2 := X5.cell qe_2
  replace qe_3 := X5.cell qe_3
  replace qe_4 := X5.cell qe_4
  replace qe_5 := X5.cell qe_5
  replace qf_0 := X5.cell qf_0
  replace qf_1 := X5.cell qf_1
  replace qf_2 := X5.cell qf_2
  replace qf_3 := X5.cell qf_3
  replace qf_4 := X5.cell qf_4
  replace qf_5 := X5.cell qf_5
  replace qg_0 := X5.cell qg_0
  replace qg_1 := X5.cell qg_1
  replace qg_2 := X5.cell qg_2
  replace qg_3 := X5.cell qg_3
  replace qg_4 := X5.cell qg_4
  replace qg_5 := X5.cell qg_5
  have E5 := E4.trans X5
  clear X5
  go_wp2_with fail
  refine (C1.out _ _ HL3.out).mono ?_
  rintro e w6 ⟨rfl, X6⟩
  replace qe_0 := X6.cell qe_0
  replace qe_1 := X6.cell qe_1
  replace qe_2 := X6.cell qe_2
  replace qe_3 := X6.cell qe_3
  replace qe_4 := X6.cell qe_4
  replace qe_5 := X6.cell qe_5
  replace qf_0 := X6.cell qf_0
  replace qf_1 := X6.cell qf_1
  replace qf_2 := X6.cell qf_2
  replace qf_3 := X6.cell qf_3
  replace qf_4 := X6.cell qf_4
  replace qf_5 := X6.cell qf_5
  replace qg_0 := X6.cell qg_0
  replace qg_1 := X6.cell qg_1
  replace qg_2 := X6.cell qg_2
  replace qg_3 := X6.cell qg_3
  replace qg_4 := X6.cell qg_4
  replace qg_5 := X6.cell qg_5
  have E6 := E5.trans X6
  clear X6
  go_wp2_with fail
  refine (C2.out _ _ (HL1.out.ext E6)).mono ?_
  rintro e w7 ⟨rfl, X7⟩
  replace qe_0 := X7.cell qe_0
  replace qe_1 := X7.cell qe_1
  replace qe_2 := X7.cell qe_2
  replace qe_3 := X7.cell qe_3
  replace qe_4 := X7.cell qe_4
  replace qe_5 := X7.cell qe_5
  replace qf_0 := X7.cell qf_0
  replace qf_1 := X7.cell qf_1
  replace qf_2 := X7.cell qf_2
  replace qf_3 := X7.cell qf_3
  replace qf_4 := X7.cell qf_4
  replace qf_5 := X7.cell qf_5
  replace qg_0 := X7.cell qg_0
  replace qg_1 := X7.cell qg_1
  replace qg_2 := X7.cell qg_2
  replace qg_3 := X7.cell qg_3
  replace qg_4 := X7.cell qg_4
  replace qg_5 := X7.cell qg_5
  have E7 := E6.trans X7
  clear X7
  go_wp2_with fail
  refine (C3.out _ _ (HL2.out.ext E7)).mono ?_
  rintro e w8 ⟨rfl, X8⟩
  replace qe_0 := X8.cell qe_0
  replace qe_1 := X8.cell qe_1
  replace qe_2 := X8.cell qe_2
  replace qe_3 := X8.cell qe_3
  replace qe_4 := X8.cell qe_4
  replace qe_5 := X8.cell qe_5
  replace qf_0 := X8.cell qf_0
  replace qf_1 := X8.cell qf_1
  replace qf_2 := X8.cell qf_2
  replace qf_3 := X8.cell qf_3
  replace qf_4 := X8.cell qf_4
  replace qf_5 := X8.cell qf_5
  replace qg_0 := X8.cell qg_0
  replace qg_1 := X8.cell qg_1
  replace qg_2 := X8.cell qg_2
  replace qg_3 := X8.cell qg_3
  replace qg_4 := X8.cell qg_4
  replace qg_5 := X8.cell qg_5
  have E8 := E7.trans X8
  clear X8
  go_wp2_with fail
  refine (C4.out _ _ (HL2.out.ext E8)).mono ?_
  rintro e w9 ⟨rfl, X9⟩
  go_wp2
  go_ret
  exact ⟨rfl, E2.trans (E8.trans X9)⟩
end Go.Proofs.Ytlalkefbcddbfab
