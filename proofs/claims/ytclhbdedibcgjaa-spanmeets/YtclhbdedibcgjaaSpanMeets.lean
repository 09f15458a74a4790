/- span.Meets -/
import Derived.Test.YtclhbdedibcgjaaSpan
namespace Go.Proofs.Ytclhbdedibcgjaa
open Go.RowKit
set_option linter.unusedVariables false
set_option maxHeartbeats 400000
attribute [local go_sem] later_cell later_frozen later_const
/-- have two spans a position in common: how far each begins behind the other one -/
def meetsB (d1 d2 n m : Int) : Bool := decide (0 < n) && decide (0 < m) && (inN d1 n || inN d2 m)
theorem sMeets32 (f n g m : Int) (w : World) (hn : okN n = true) (hm : okN m = true) : Calls Try.prog 25 #[.agg #[.int .u32 f, .int .i64 n], .agg #[.int .u32 g, .int .i64 m]] w fun e w' => e = .returned (.bool (meetsB ((g - f) % 4294967296) ((f - g) % 4294967296) n m)) ∧ Ext w w' := by
  have rn := okN_true hn
  have rm := okN_true hm
  by_cases hn0 : n = 0
  · subst hn0
    go_enter Try.func25, Try.ntmps25
    go_wp2_with fail
    refine (sRight32_yes _ _ _ hn).mono ?_
    rintro e w1 ⟨rfl, hb1⟩
    obtain ⟨hc1, hf1⟩ := hb1.cells
    clear hc1 hf1
    have qa_0 : w1.cell? ⟨w.heap.size, 0, none⟩ = some (.int .u32 f) := (hb1.cells.1 _ _ (by simp <;> omega)).trans (by simp [go_sem])
    have qa_1 : w1.cell? ⟨w.heap.size, 1, none⟩ = some (.int .i64 0) := (hb1.cells.1 _ _ (by simp <;> omega)).trans (by simp [go_sem])
    have pa := World.block_lt_of_cell? _ ⟨w.heap.size, 0, none⟩ qa_0
    have ra := Nat.lt_succ_of_lt pa
    have qb_0 : w1.cell? ⟨w.heap.size + 1, 0, none⟩ = some (.int .u32 g) := (hb1.cells.1 _ _ (by simp <;> omega)).trans (by simp [go_sem])
    have qb_1 : w1.cell? ⟨w.heap.size + 1, 1, none⟩ = some (.int .i64 m) := (hb1.cells.1 _ _ (by simp <;> omega)).trans (by simp [go_sem])
    have pb := World.block_lt_of_cell? _ ⟨w.heap.size + 1, 0, none⟩ qb_0
    have rb := Nat.lt_succ_of_lt pb
    go_wp2_with fail
    refine (sRight32_yes _ _ _ hm).mono ?_
    rintro e w2 ⟨rfl, hb2⟩
    have hx2 : Ext w1 w2 := by repeat (first | with_reducible exact Ext.refl _ | with_reducible assumption | with_reducible refine Ext.alloc ?_ _ | with_reducible refine Ext.drew ?_ | with_reducible refine Ext.drewN ?_ _ | with_reducible refine Ext.setCell ?_ (by simp <;> omega) _ | with_reducible refine Ext.trans ?_ (by assumption))
    replace qa_0 := hx2.cell qa_0
    replace qa_1 := hx2.cell qa_1
    replace pa := Nat.lt_of_lt_of_le pa hx2.size
    replace ra := Nat.lt_succ_of_lt pa
    replace qb_0 := hx2.cell qb_0
    replace qb_1 := hx2.cell qb_1
    replace pb := Nat.lt_of_lt_of_le pb hx2.size
    replace rb := Nat.lt_succ_of_lt pb
    clear hx2
    go_wp2
    go_ret
    refine ⟨ret_bool (by simp [meetsB]), ?_⟩
    repeat (first | with_reducible exact Ext.refl _ | with_reducible assumption | with_reducible refine Ext.alloc ?_ _ | with_reducible refine Ext.drew ?_ | with_reducible refine Ext.drewN ?_ _ | with_reducible refine Ext.setCell ?_ (by simp <;> omega) _ | with_reducible refine Ext.trans ?_ (by assumption))
  have bn : (n == 0) = false := by simpa using hn0
  by_cases hm0 : m = 0
  · subst hm0
    go_enter Try.func25, Try.ntmps25
    go_wp2_with fail
    refine (sRight32_yes _ _ _ hn).mono ?_
    rintro e w3 ⟨rfl, hb3⟩
    obtain ⟨hc3, hf3⟩ := hb3.cells
    clear hc3 hf3
    have qa_0 : w3.cell? ⟨w.heap.size, 0, none⟩ = some (.int .u32 f) := (hb3.cells.1 _ _ (by simp <;> omega)).trans (by simp [go_sem])
    have qa_1 : w3.cell? ⟨w.heap.size, 1, none⟩ = some (.int .i64 n) := (hb3.cells.1 _ _ (by simp <;> omega)).trans (by simp [go_sem])
    have pa := World.block_lt_of_cell? _ ⟨w.heap.size, 0, none⟩ qa_0
    have ra := Nat.lt_succ_of_lt pa
    have qb_0 : w3.cell? ⟨w.heap.size + 1, 0, none⟩ = some (.int .u32 g) := (hb3.cells.1 _ _ (by simp <;> omega)).trans (by simp [go_sem])
    have qb_1 : w3.cell? ⟨w.heap.size + 1, 1, none⟩ = some (.int .i64 0) := (hb3.cells.1 _ _ (by simp <;> omega)).trans (by simp [go_sem])
    have pb := World.block_lt_of_cell? _ ⟨w.heap.size + 1, 0, none⟩ qb_0
    have rb := Nat.lt_succ_of_lt pb
    go_wp2_with fail
    refine (sRight32_yes _ _ _ hm).mono ?_
    rintro e w4 ⟨rfl, hb4⟩
    have hx4 : Ext w3 w4 := by repeat (first | with_reducible exact Ext.refl _ | with_reducible assumption | with_reducible refine Ext.alloc ?_ _ | with_reducible refine Ext.drew ?_ | with_reducible refine Ext.drewN ?_ _ | with_reducible refine Ext.setCell ?_ (by simp <;> omega) _ | with_reducible refine Ext.trans ?_ (by assumption))
    replace qa_0 := hx4.cell qa_0
    replace qa_1 := hx4.cell qa_1
    replace pa := Nat.lt_of_lt_of_le pa hx4.size
    replace ra := Nat.lt_succ_of_lt pa
    replace qb_0 := hx4.cell qb_0
    replace qb_1 := hx4.cell qb_1
    replace pb := Nat.lt_of_lt_of_le pb hx4.size
    replace rb := Nat.lt_succ_of_lt pb
    clear hx4
    go_wp2
    go_ret
    refine ⟨ret_bool (by simp [meetsB]), ?_⟩
    repeat (first | with_reducible exact Ext.refl _ | with_reducible assumption | with_reducible refine Ext.alloc ?_ _ | with_reducible refine Ext.drew ?_ | with_reducible refine Ext.drewN ?_ _ | with_reducible refine Ext.setCell ?_ (by simp <;> omega) _ | with_reducible refine Ext.trans ?_ (by assumption))
  have bm : (m == 0) = false := by simpa using hm0
  have e : meetsB ((g - f) % 4294967296) ((f - g) % 4294967296) n m = (inN ((g - f) % 4294967296) n || inN ((f - g) % 4294967296) m) := by
    unfold meetsB
    simp [show 0 < n by omega, show 0 < m by omega]
  have E := Lib.hid e
  clear e hn0 hm0
  go_enter Try.func25, Try.ntmps25
  go_wp2_with fail
  refine (sRight32_yes _ _ _ hn).mono ?_
  rintro e w5 ⟨rfl, hb5⟩
  obtain ⟨hc5, hf5⟩ := hb5.cells
  clear hc5 hf5
  have qa_0 : w5.cell? ⟨w.heap.size, 0, none⟩ = some (.int .u32 f) := (hb5.cells.1 _ _ (by simp <;> omega)).trans (by simp [go_sem])
  have qa_1 : w5.cell? ⟨w.heap.size, 1, none⟩ = some (.int .i64 n) := (hb5.cells.1 _ _ (by simp <;> omega)).trans (by simp [go_sem])
  have pa := World.block_lt_of_cell? _ ⟨w.heap.size, 0, none⟩ qa_0
  have ra := Nat.lt_succ_of_lt pa
  have qb_0 : w5.cell? ⟨w.heap.size + 1, 0, none⟩ = some (.int .u32 g) := (hb5.cells.1 _ _ (by simp <;> omega)).trans (by simp [go_sem])
  have qb_1 : w5.cell? ⟨w.heap.size + 1, 1, none⟩ = some (.int .i64 m) := (hb5.cells.1 _ _ (by simp <;> omega)).trans (by simp [go_sem])
  have pb := World.block_lt_of_cell? _ ⟨w.heap.size + 1, 0, none⟩ qb_0
  have rb := Nat.lt_succ_of_lt pb
  go_wp2_with fail
  refine (sRight32_yes _ _ _ hm).mono ?_
  rintro e w6 ⟨rfl, hb6⟩
  have hx6 : Ext w5 w6 := by repeat (first | with_reducible exact Ext.refl _ | with_reducible assumption | with_reducible refine Ext.alloc ?_ _ | with_reducible refine Ext.drew ?_ | with_reducible refine Ext.drewN ?_ _ | with_reducible refine Ext.setCell ?_ (by simp <;> omega) _ | with_reducible refine Ext.trans ?_ (by assumption))
  replace qa_0 := hx6.cell qa_0
  replace qa_1 := hx6.cell qa_1
  replace pa := Nat.lt_of_lt_of_le pa hx6.size
  replace ra := Nat.lt_succ_of_lt pa
  replace qb_0 := hx6.cell qb_0
  replace qb_1 := hx6.cell qb_1
  replace pb := Nat.lt_of_lt_of_le pb hx6.size
  replace rb := Nat.lt_succ_of_lt pb
  clear hx6
  go_wp2_with fail
  refine (sHas32 _ _ _ _).mono ?_
  rintro e w7 ⟨rfl, hb7⟩
  have hx7 : Ext w6 w7 := by repeat (first | with_reducible exact Ext.refl _ | with_reducible assumption | with_reducible refine Ext.alloc ?_ _ | with_reducible refine Ext.drew ?_ | with_reducible refine Ext.drewN ?_ _ | with_reducible refine Ext.setCell ?_ (by simp <;> omega) _ | with_reducible refine Ext.trans ?_ (by assumption))
  replace qa_0 := hx7.cell qa_0
  replace qa_1 := hx7.cell qa_1
  replace pa := Nat.lt_of_lt_of_le pa hx7.size
  replace ra := Nat.lt_succ_of_lt pa
  replace qb_0 := hx7.cell qb_0
  replace qb_1 := hx7.cell qb_1
  replace pb := Nat.lt_of_lt_of_le pb hx7.size
  replace rb := Nat.lt_succ_of_lt pb
  clear hx7
  cases hi : inN ((g - f) % 4294967296) n
  · go_wp2_with fail
    refine (sHas32 _ _ _ _).mono ?_
    rintro e w8 ⟨rfl, hb8⟩
    have hx8 : Ext w7 w8 := by repeat (first | with_reducible exact Ext.refl _ | with_reducible assumption | with_reducible refine Ext.alloc ?_ _ | with_reducible refine Ext.drew ?_ | with_reducible refine Ext.drewN ?_ _ | with_reducible refine Ext.setCell ?_ (by simp <;> omega) _ | with_reducible refine Ext.trans ?_ (by assumption))
    replace qa_0 := hx8.cell qa_0
    replace qa_1 := hx8.cell qa_1
    replace pa := Nat.lt_of_lt_of_le pa hx8.size
    replace ra := Nat.lt_succ_of_lt pa
    replace qb_0 := hx8.cell qb_0
    replace qb_1 := hx8.cell qb_1
    replace pb := Nat.lt_of_lt_of_le pb hx8.size
    replace rb := Nat.lt_succ_of_lt pb
    clear hx8
    go_wp2
    go_ret
    refine ⟨ret_bool (by rw [E.out, hi]; simp), ?_⟩
    repeat (first | with_reducible exact Ext.refl _ | with_reducible assumption | with_reducible refine Ext.alloc ?_ _ | with_reducible refine Ext.drew ?_ | with_reducible refine Ext.drewN ?_ _ | with_reducible refine Ext.setCell ?_ (by simp <;> omega) _ | with_reducible refine Ext.trans ?_ (by assumption))
  · go_wp2
    go_ret
    refine ⟨ret_bool (by rw [E.out, hi]; simp), ?_⟩
    repeat (first | with_reducible exact Ext.refl _ | with_reducible assumption | with_reducible refine Ext.alloc ?_ _ | with_reducible refine Ext.drew ?_ | with_reducible refine Ext.drewN ?_ _ | with_reducible refine Ext.setCell ?_ (by simp <;> omega) _ | with_reducible refine Ext.trans ?_ (by assumption))
theorem sMeets64 (f n g m : Int) (w : World) (hn : okN n = true) (hm : okN m = true) : Calls Try.prog 27 #[.agg #[.int .u64 f, .int .i64 n], .agg #[.int .u64 g, .int .i64 m]] w fun e w' => e = .returned (.bool (meetsB (U64 (g - f)) (U64 (f - g)) n m)) ∧ Ext w w' := by
  have rn := okN_true hn
  have rm := okN_true hm
  by_cases hn0 : n = 0
  · subst hn0
    go_enter Try.func27, Try.ntmps27
    go_wp2_with fail
    refine (sRight64_yes _ _ _ hn).mono ?_
    rintro e w1 ⟨rfl, hb1⟩
    obtain ⟨hc1, hf1⟩ := hb1.cells
    clear hc1 hf1
    have qa_0 : w1.cell? ⟨w.heap.size, 0, none⟩ = some (.int .u64 f) := (hb1.cells.1 _ _ (by simp <;> omega)).trans (by simp [go_sem])
    have qa_1 : w1.cell? ⟨w.heap.size, 1, none⟩ = some (.int .i64 0) := (hb1.cells.1 _ _ (by simp <;> omega)).trans (by simp [go_sem])
    have pa := World.block_lt_of_cell? _ ⟨w.heap.size, 0, none⟩ qa_0
    have ra := Nat.lt_succ_of_lt pa
    have qb_0 : w1.cell? ⟨w.heap.size + 1, 0, none⟩ = some (.int .u64 g) := (hb1.cells.1 _ _ (by simp <;> omega)).trans (by simp [go_sem])
    have qb_1 : w1.cell? ⟨w.heap.size + 1, 1, none⟩ = some (.int .i64 m) := (hb1.cells.1 _ _ (by simp <;> omega)).trans (by simp [go_sem])
    have pb := World.block_lt_of_cell? _ ⟨w.heap.size + 1, 0, none⟩ qb_0
    have rb := Nat.lt_succ_of_lt pb
    go_wp2_with fail
    refine (sRight64_yes _ _ _ hm).mono ?_
    rintro e w2 ⟨rfl, hb2⟩
    have hx2 : Ext w1 w2 := by repeat (first | with_reducible exact Ext.refl _ | with_reducible assumption | with_reducible refine Ext.alloc ?_ _ | with_reducible refine Ext.drew ?_ | with_reducible refine Ext.drewN ?_ _ | with_reducible refine Ext.setCell ?_ (by simp <;> omega) _ | with_reducible refine Ext.trans ?_ (by assumption))
    replace qa_0 := hx2.cell qa_0
    replace qa_1 := hx2.cell qa_1
    replace pa := Nat.lt_of_lt_of_le pa hx2.size
    replace ra := Nat.lt_succ_of_lt pa
    replace qb_0 := hx2.cell qb_0
    replace qb_1 := hx2.cell qb_1
    replace pb := Nat.lt_of_lt_of_le pb hx2.size
    replace rb := Nat.lt_succ_of_lt pb
    clear hx2
    go_wp2
    go_ret
    refine ⟨ret_bool (by simp [meetsB]), ?_⟩
    repeat (first | with_reducible exact Ext.refl _ | with_reducible assumption | with_reducible refine Ext.alloc ?_ _ | with_reducible refine Ext.drew ?_ | with_reducible refine Ext.drewN ?_ _ | with_reducible refine Ext.setCell ?_ (by simp <;> omega) _ | with_reducible refine Ext.trans ?_ (by assumption))
  have bn : (n == 0) = false := by simpa using hn0
  by_cases hm0 : m = 0
  · subst hm0
    go_enter Try.func27, Try.ntmps27
    go_wp2_with fail
    refine (sRight64_yes _ _ _ hn).mono ?_
    rintro e w3 ⟨rfl, hb3⟩
    obtain ⟨hc3, hf3⟩ := hb3.cells
    clear hc3 hf3
    have qa_0 : w3.cell? ⟨w.heap.size, 0, none⟩ = some (.int .u64 f) := (hb3.cells.1 _ _ (by simp <;> omega)).trans (by simp [go_sem])
    have qa_1 : w3.cell? ⟨w.heap.size, 1, none⟩ = some (.int .i64 n) := (hb3.cells.1 _ _ (by simp <;> omega)).trans (by simp [go_sem])
    have pa := World.block_lt_of_cell? _ ⟨w.heap.size, 0, none⟩ qa_0
    have ra := Nat.lt_succ_of_lt pa
    have qb_0 : w3.cell? ⟨w.heap.size + 1, 0, none⟩ = some (.int .u64 g) := (hb3.cells.1 _ _ (by simp <;> omega)).trans (by simp [go_sem])
    have qb_1 : w3.cell? ⟨w.heap.size + 1, 1, none⟩ = some (.int .i64 0) := (hb3.cells.1 _ _ (by simp <;> omega)).trans (by simp [go_sem])
    have pb := World.block_lt_of_cell? _ ⟨w.heap.size + 1, 0, none⟩ qb_0
    have rb := Nat.lt_succ_of_lt pb
    go_wp2_with fail
    refine (sRight64_yes _ _ _ hm).mono ?_
    rintro e w4 ⟨rfl, hb4⟩
    have hx4 : Ext w3 w4 := by repeat (first | with_reducible exact Ext.refl _ | with_reducible assumption | with_reducible refine Ext.alloc ?_ _ | with_reducible refine Ext.drew ?_ | with_reducible refine Ext.drewN ?_ _ | with_reducible refine Ext.setCell ?_ (by simp <;> omega) _ | with_reducible refine Ext.trans ?_ (by assumption))
    replace qa_0 := hx4.cell qa_0
    replace qa_1 := hx4.cell qa_1
    replace pa := Nat.lt_of_lt_of_le pa hx4.size
    replace ra := Nat.lt_succ_of_lt pa
    replace qb_0 := hx4.cell qb_0
    replace qb_1 := hx4.cell qb_1
    replace pb := Nat.lt_of_lt_of_le pb hx4.size
    replace rb := Nat.lt_succ_of_lt pb
    clear hx4
    go_wp2
    go_ret
    refine ⟨ret_bool (by simp [meetsB]), ?_⟩
    repeat (first | with_reducible exact Ext.refl _ | with_reducible assumption | with_reducible refine Ext.alloc ?_ _ | with_reducible refine Ext.drew ?_ | with_reducible refine Ext.drewN ?_ _ | with_reducible refine Ext.setCell ?_ (by simp <;> omega) _ | with_reducible refine Ext.trans ?_ (by assumption))
  have bm : (m == 0) = false := by simpa using hm0
  have e : meetsB (U64 (g - f)) (U64 (f - g)) n m = (inN (U64 (g - f)) n || inN (U64 (f - g)) m) := by
    unfold meetsB
    simp [show 0 < n by omega, show 0 < m by omega]
  have E := Lib.hid e
  clear e hn0 hm0
  go_enter Try.func27, Try.ntmps27
  go_wp2_with fail
  refine (sRight64_yes _ _ _ hn).mono ?_
  rintro e w5 ⟨rfl, hb5⟩
  obtain ⟨hc5, hf5⟩ := hb5.cells
  clear hc5 hf5
  have qa_0 : w5.cell? ⟨w.heap.size, 0, none⟩ = some (.int .u64 f) := (hb5.cells.1 _ _ (by simp <;> omega)).trans (by simp [go_sem])
  have qa_1 : w5.cell? ⟨w.heap.size, 1, none⟩ = some (.int .i64 n) := (hb5.cells.1 _ _ (by simp <;> omega)).trans (by simp [go_sem])
  have pa := World.block_lt_of_cell? _ ⟨w.heap.size, 0, none⟩ qa_0
  have ra := Nat.lt_succ_of_lt pa
  have qb_0 : w5.cell? ⟨w.heap.size + 1, 0, none⟩ = some (.int .u64 g) := (hb5.cells.1 _ _ (by simp <;> omega)).trans (by simp [go_sem])
  have qb_1 : w5.cell? ⟨w.heap.size + 1, 1, none⟩ = some (.int .i64 m) := (hb5.cells.1 _ _ (by simp <;> omega)).trans (by simp [go_sem])
  have pb := World.block_lt_of_cell? _ ⟨w.heap.size + 1, 0, none⟩ qb_0
  have rb := Nat.lt_succ_of_lt pb
  go_wp2_with fail
  refine (sRight64_yes _ _ _ hm).mono ?_
  rintro e w6 ⟨rfl, hb6⟩
  have hx6 : Ext w5 w6 := by repeat (first | with_reducible exact Ext.refl _ | with_reducible assumption | with_reducible refine Ext.alloc ?_ _ | with_reducible refine Ext.drew ?_ | with_reducible refine Ext.drewN ?_ _ | with_reducible refine Ext.setCell ?_ (by simp <;> omega) _ | with_reducible refine Ext.trans ?_ (by assumption))
  replace qa_0 := hx6.cell qa_0
  replace qa_1 := hx6.cell qa_1
  replace pa := Nat.lt_of_lt_of_le pa hx6.size
  replace ra := Nat.lt_succ_of_lt pa
  replace qb_0 := hx6.cell qb_0
  replace qb_1 := hx6.cell qb_1
  replace pb := Nat.lt_of_lt_of_le pb hx6.size
  replace rb := Nat.lt_succ_of_lt pb
  clear hx6
  go_wp2_with fail
  refine (sHas64 _ _ _ _).mono ?_
  rintro e w7 ⟨rfl, hb7⟩
  have hx7 : Ext w6 w7 := by repeat (first | with_reducible exact Ext.refl _ | with_reducible assumption | with_reducible refine Ext.alloc ?_ _ | with_reducible refine Ext.drew ?_ | with_reducible refine Ext.drewN ?_ _ | with_reducible refine Ext.setCell ?_ (by simp <;> omega) _ | with_reducible refine Ext.trans ?_ (by assumption))
  replace qa_0 := hx7.cell qa_0
  replace qa_1 := hx7.cell qa_1
  replace pa := Nat.lt_of_lt_of_le pa hx7.size
  replace ra := Nat.lt_succ_of_lt pa
  replace qb_0 := hx7.cell qb_0
  replace qb_1 := hx7.cell qb_1
  replace pb := Nat.lt_of_lt_of_le pb hx7.size
  replace rb := Nat.lt_succ_of_lt pb
  clear hx7
  cases hi : inN (U64 (g - f)) n
  · go_wp2_with fail
    refine (sHas64 _ _ _ _).mono ?_
    rintro e w8 ⟨rfl, hb8⟩
    have hx8 : Ext w7 w8 := by repeat (first | with_reducible exact Ext.refl _ | with_reducible assumption | with_reducible refine Ext.alloc ?_ _ | with_reducible refine Ext.drew ?_ | with_reducible refine Ext.drewN ?_ _ | with_reducible refine Ext.setCell ?_ (by simp <;> omega) _ | with_reducible refine Ext.trans ?_ (by assumption))
    replace qa_0 := hx8.cell qa_0
    replace qa_1 := hx8.cell qa_1
    replace pa := Nat.lt_of_lt_of_le pa hx8.size
    replace ra := Nat.lt_succ_of_lt pa
    replace qb_0 := hx8.cell qb_0
    replace qb_1 := hx8.cell qb_1
    replace pb := Nat.lt_of_lt_of_le pb hx8.size
    replace rb := Nat.lt_succ_of_lt pb
    clear hx8
    go_wp2
    go_ret
    refine ⟨ret_bool (by rw [E.out, hi]; simp), ?_⟩
    repeat (first | with_reducible exact Ext.refl _ | with_reducible assumption | with_reducible refine Ext.alloc ?_ _ | with_reducible refine Ext.drew ?_ | with_reducible refine Ext.drewN ?_ _ | with_reducible refine Ext.setCell ?_ (by simp <;> omega) _ | with_reducible refine Ext.trans ?_ (by assumption))
  · go_wp2
    go_ret
    refine ⟨ret_bool (by rw [E.out, hi]; simp), ?_⟩
    repeat (first | with_reducible exact Ext.refl _ | with_reducible assumption | with_reducible refine Ext.alloc ?_ _ | with_reducible refine Ext.drew ?_ | with_reducible refine Ext.drewN ?_ _ | with_reducible refine Ext.setCell ?_ (by simp <;> omega) _ | with_reducible refine Ext.trans ?_ (by assumption))
end Go.Proofs.Ytclhbdedibcgjaa
