/- The reference's functions of layer 4. -/
import Derived.Test.YthdokmhbdjajaaaPair2
import Derived.Test.YthdokmhbdjajaaaExt
import Derived.Lib.Hide
namespace Go.Proofs.Ythdokmhbdjajaaa
open Go.RowKit
set_option linter.unusedVariables false
set_option maxHeartbeats 400000
theorem le_quo {x y : Int} (hy : 0 < y) : x ≤ Int.tdiv 1099511627776 y ↔ x * y ≤ 1099511627776 := by
  rw [Int.tdiv_eq_ediv_of_nonneg (by decide)]
  exact Int.le_ediv_iff_mul_le hy
theorem quo_range {y : Int} (hy : 0 < y) : 0 ≤ Int.tdiv 1099511627776 y ∧ Int.tdiv 1099511627776 y ≤ 1099511627776 := by
  rw [Int.tdiv_eq_ediv_of_nonneg (by decide)]
  exact ⟨Int.ediv_nonneg (by decide) (by omega), Int.ediv_le_self _ (by decide)⟩
theorem rOf_yes (a b : Int) (w : World) (h1 : inB a = true) (h2 : inB b = true) : Calls Try.prog 8 #[.int .i64 a, .int .i64 b] w fun e w' => e = .returned (.agg #[.int .i64 a, .int .i64 b, .bool false]) ∧ Ext w w' := by
  go_enter Try.func8, Try.ntmps8
  go_wp2_with fail
  refine (count4 _ _).mono ?_
  rintro e w' ⟨rfl, rfl⟩
  rw [h1]
  go_wp2_with fail
  refine (count4 _ _).mono ?_
  rintro e w' ⟨rfl, rfl⟩
  rw [h2]
  go_wp2
  refine bodyPost_ret (v := .agg #[.int .i64 a, .int .i64 b, .bool false]) (by simp [results, Try.results8, go_sem]) rfl ⟨rfl, ?_⟩
  repeat (first | with_reducible exact Ext.refl _ | with_reducible assumption | with_reducible refine Ext.alloc ?_ _ | with_reducible refine Ext.drew ?_ | with_reducible refine Ext.drewN ?_ _ | with_reducible refine Ext.setCell ?_ (by simp <;> omega) _ | with_reducible refine Ext.trans ?_ (by assumption))
theorem rOf_no (a b : Int) (w : World) (h : inB a = false ∨ inB b = false) : Calls Try.prog 8 #[.int .i64 a, .int .i64 b] w fun e w' => e = .returned (.agg #[.int .i64 0, .int .i64 0, .bool false]) ∧ Ext w w' := by
  cases h1 : inB a
  · clear h
    go_enter Try.func8, Try.ntmps8
    go_wp2_with fail
    refine (count4 _ _).mono ?_
    rintro e w' ⟨rfl, rfl⟩
    rw [h1]
    go_wp2
    refine bodyPost_ret (v := .agg #[.int .i64 0, .int .i64 0, .bool false]) (by simp [results, Try.results8, go_sem]) rfl ⟨rfl, ?_⟩
    repeat (first | with_reducible exact Ext.refl _ | with_reducible assumption | with_reducible refine Ext.alloc ?_ _ | with_reducible refine Ext.drew ?_ | with_reducible refine Ext.drewN ?_ _ | with_reducible refine Ext.setCell ?_ (by simp <;> omega) _ | with_reducible refine Ext.trans ?_ (by assumption))
  · have h2 : inB b = false := by rcases h with h | h; rw [h] at h1; cases h1; exact h
    clear h
    go_enter Try.func8, Try.ntmps8
    go_wp2_with fail
    refine (count4 _ _).mono ?_
    rintro e w' ⟨rfl, rfl⟩
    rw [h1]
    go_wp2_with fail
    refine (count4 _ _).mono ?_
    rintro e w' ⟨rfl, rfl⟩
    rw [h2]
    go_wp2
    refine bodyPost_ret (v := .agg #[.int .i64 0, .int .i64 0, .bool false]) (by simp [results, Try.results8, go_sem]) rfl ⟨rfl, ?_⟩
    repeat (first | with_reducible exact Ext.refl _ | with_reducible assumption | with_reducible refine Ext.alloc ?_ _ | with_reducible refine Ext.drew ?_ | with_reducible refine Ext.drewN ?_ _ | with_reducible refine Ext.setCell ?_ (by simp <;> omega) _ | with_reducible refine Ext.trans ?_ (by assumption))
theorem product_pp (a k : Int) (w : World) (h1 : 0 < a) (h2 : 0 < k) (ha : inB a = true) (k2 : k ≤ 1099511627776) : Calls Try.prog 26 #[.int .i64 a, .int .i64 k] w fun e w' => e = .returned (.bool (inB (a * k))) ∧ w = w' := by
  have a1 := ((inB_iff a).1 ha).1
  have a2 := ((inB_iff a).1 ha).2
  have t1 : (a == 0) = false := by simp; omega
  have t2 : (k == 0) = false := by simp; omega
  have t3 : decide (a < 0) = false := by simp; omega
  have t4 : decide (k < 0) = false := by simp; omega
  have e : a * k = a * k := rfl
  have hq : a ≤ Int.tdiv 1099511627776 k ↔ a * k ≤ 1099511627776 := by rw [← e]; exact le_quo h2
  obtain ⟨q1, q2⟩ := quo_range h2
  have hr : inB (a * k) = decide (a ≤ Int.tdiv 1099511627776 k) := by
    have p0 : 0 ≤ a * k := Int.mul_nonneg (by omega) (by omega)
    rw [e] at p0
    rw [Bool.eq_iff_iff, inB_iff, decide_eq_true_iff, hq]
    generalize a * k = v at p0 ⊢
    omega
  have HR := Lib.hid hr
  clear hr hq ha e
  have hy : k ≠ 0 := by omega
  go_enter Try.func26, Try.ntmps26
  go_wp2
  go_ret
  exact ⟨ret_bool HR.out.symm, rfl⟩
theorem product_pn (a k : Int) (w : World) (h1 : 0 < a) (h2 : 0 < k) (ha : inB a = true) (k2 : k ≤ 1099511627776) : Calls Try.prog 26 #[.int .i64 a, .int .i64 (-k)] w fun e w' => e = .returned (.bool (inB (a * k))) ∧ w = w' := by
  have a1 := ((inB_iff a).1 ha).1
  have a2 := ((inB_iff a).1 ha).2
  have t1 : (a == 0) = false := by simp; omega
  have t2 : (k == 0) = false := by simp; omega
  have t3 : decide (a < 0) = false := by simp; omega
  have t4 : decide (0 < k) = true := by simp; omega
  have e : a * k = a * k := rfl
  have hq : a ≤ Int.tdiv 1099511627776 k ↔ a * k ≤ 1099511627776 := by rw [← e]; exact le_quo h2
  obtain ⟨q1, q2⟩ := quo_range h2
  have hr : inB (a * k) = decide (a ≤ Int.tdiv 1099511627776 k) := by
    have p0 : 0 ≤ a * k := Int.mul_nonneg (by omega) (by omega)
    rw [e] at p0
    rw [Bool.eq_iff_iff, inB_iff, decide_eq_true_iff, hq]
    generalize a * k = v at p0 ⊢
    omega
  have HR := Lib.hid hr
  clear hr hq ha e
  have hy : k ≠ 0 := by omega
  go_enter Try.func26, Try.ntmps26
  go_wp2
  go_ret
  exact ⟨ret_bool HR.out.symm, rfl⟩
theorem product_np (a k : Int) (w : World) (h1 : a < 0) (h2 : 0 < k) (ha : inB a = true) (k2 : k ≤ 1099511627776) : Calls Try.prog 26 #[.int .i64 a, .int .i64 k] w fun e w' => e = .returned (.bool (inB (a * k))) ∧ w = w' := by
  have a1 := ((inB_iff a).1 ha).1
  have a2 := ((inB_iff a).1 ha).2
  have t1 : (a == 0) = false := by simp; omega
  have t2 : (k == 0) = false := by simp; omega
  have t3 : decide (a < 0) = true := by simp; omega
  have t4 : decide (k < 0) = false := by simp; omega
  have e : -a * k = -(a * k) := by exact Int.neg_mul a k
  have hq : -a ≤ Int.tdiv 1099511627776 k ↔ -(a * k) ≤ 1099511627776 := by rw [← e]; exact le_quo h2
  obtain ⟨q1, q2⟩ := quo_range h2
  have hr : inB (a * k) = decide (-a ≤ Int.tdiv 1099511627776 k) := by
    have p0 : 0 ≤ -a * k := Int.mul_nonneg (by omega) (by omega)
    rw [e] at p0
    rw [Bool.eq_iff_iff, inB_iff, decide_eq_true_iff, hq]
    generalize a * k = v at p0 ⊢
    omega
  have HR := Lib.hid hr
  clear hr hq ha e
  have hy : k ≠ 0 := by omega
  go_enter Try.func26, Try.ntmps26
  go_wp2
  go_ret
  exact ⟨ret_bool HR.out.symm, rfl⟩
theorem product_nn (a k : Int) (w : World) (h1 : a < 0) (h2 : 0 < k) (ha : inB a = true) (k2 : k ≤ 1099511627776) : Calls Try.prog 26 #[.int .i64 a, .int .i64 (-k)] w fun e w' => e = .returned (.bool (inB (a * k))) ∧ w = w' := by
  have a1 := ((inB_iff a).1 ha).1
  have a2 := ((inB_iff a).1 ha).2
  have t1 : (a == 0) = false := by simp; omega
  have t2 : (k == 0) = false := by simp; omega
  have t3 : decide (a < 0) = true := by simp; omega
  have t4 : decide (0 < k) = true := by simp; omega
  have e : -a * k = -(a * k) := by exact Int.neg_mul a k
  have hq : -a ≤ Int.tdiv 1099511627776 k ↔ -(a * k) ≤ 1099511627776 := by rw [← e]; exact le_quo h2
  obtain ⟨q1, q2⟩ := quo_range h2
  have hr : inB (a * k) = decide (-a ≤ Int.tdiv 1099511627776 k) := by
    have p0 : 0 ≤ -a * k := Int.mul_nonneg (by omega) (by omega)
    rw [e] at p0
    rw [Bool.eq_iff_iff, inB_iff, decide_eq_true_iff, hq]
    generalize a * k = v at p0 ⊢
    omega
  have HR := Lib.hid hr
  clear hr hq ha e
  have hy : k ≠ 0 := by omega
  go_enter Try.func26, Try.ntmps26
  go_wp2
  go_ret
  exact ⟨ret_bool HR.out.symm, rfl⟩
end Go.Proofs.Ythdokmhbdjajaaa
