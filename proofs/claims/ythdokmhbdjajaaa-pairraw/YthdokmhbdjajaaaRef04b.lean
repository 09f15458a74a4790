/- The reference's product and Times, whole. -/
import Derived.Test.YthdokmhbdjajaaaRef04
namespace Go.Proofs.Ythdokmhbdjajaaa
open Go.RowKit
set_option linter.unusedVariables false
set_option maxHeartbeats 400000
theorem product4 (a k : Int) (w : World) (ha : inB a = true) (hk : inB k = true) : Calls Try.prog 26 #[.int .i64 a, .int .i64 k] w fun e w' => e = .returned (.bool (inB (a * k))) ∧ w = w' := by
  have k1 := ((inB_iff k).1 hk).1
  have k2 := ((inB_iff k).1 hk).2
  have neg : inB (a * -k) = inB (a * k) := by
    rw [Int.mul_neg, Bool.eq_iff_iff, inB_iff, inB_iff]
    generalize a * k = v
    omega
  rcases Int.lt_trichotomy a 0 with h | h | h
  · rcases Int.lt_trichotomy k 0 with g | g | g
    · have c := product_nn a (-k) w h (by omega) ha (by omega)
      rw [Int.neg_neg, neg] at c
      exact c
    · subst g
      rw [Int.mul_zero, show inB 0 = true from rfl]
      have t1 : (a == 0) = false := by simp; omega
      clear ha hk neg
      go_enter Try.func26, Try.ntmps26
      go_wp2
      go_ret
      exact ⟨rfl, rfl⟩
    · exact product_np a k w h g ha k2
  · subst h
    rw [Int.zero_mul, show inB 0 = true from rfl]
    clear ha hk neg
    go_enter Try.func26, Try.ntmps26
    go_wp2
    go_ret
    exact ⟨rfl, rfl⟩
  · rcases Int.lt_trichotomy k 0 with g | g | g
    · have c := product_pn a (-k) w h (by omega) ha (by omega)
      rw [Int.neg_neg, neg] at c
      exact c
    · subst g
      rw [Int.mul_zero, show inB 0 = true from rfl]
      have t1 : (a == 0) = false := by simp; omega
      clear ha hk neg
      go_enter Try.func26, Try.ntmps26
      go_wp2
      go_ret
      exact ⟨rfl, rfl⟩
    · exact product_pp a k w h g ha k2
theorem rTimes_yes (a b k : Int) (w : World) (ha : inB a = true) (hb : inB b = true) (hk : inB k = true) (h1 : inB (a * k) = true) (h2 : inB (b * k) = true) : Calls Try.prog 15 #[.agg #[.int .i64 a, .int .i64 b, .bool false], .int .i64 k] w fun e w' => e = .returned (.agg #[.int .i64 (a * k), .int .i64 (b * k), .bool false]) ∧ Ext w w' := by
  have m1 := (inB_iff _).1 h1
  have m2 := (inB_iff _).1 h2
  have n1 : wrap64 (a * k) = a * k := by
    generalize a * k = v at m1
    unfold wrap64; omega
  have n2 : wrap64 (b * k) = b * k := by
    generalize b * k = v at m2
    unfold wrap64; omega
  go_enter Try.func15, Try.ntmps15
  go_wp2_with fail
  refine (count4 _ _).mono ?_
  rintro e w' ⟨rfl, rfl⟩
  rw [hk]
  go_wp2_with fail
  refine (product4 _ _ _ ha hk).mono ?_
  rintro e w' ⟨rfl, rfl⟩
  rw [h1]
  go_wp2_with fail
  refine (product4 _ _ _ hb hk).mono ?_
  rintro e w' ⟨rfl, rfl⟩
  rw [h2]
  go_wp2
  refine bodyPost_ret (v := .agg #[.int .i64 (a * k), .int .i64 (b * k), .bool false]) (by simp [results, Try.results15, go_sem]) rfl ⟨rfl, ?_⟩
  repeat (first | with_reducible exact Ext.refl _ | with_reducible assumption | with_reducible refine Ext.alloc ?_ _ | with_reducible refine Ext.drew ?_ | with_reducible refine Ext.drewN ?_ _ | with_reducible refine Ext.setCell ?_ (by simp <;> omega) _ | with_reducible refine Ext.trans ?_ (by assumption))
end Go.Proofs.Ythdokmhbdjajaaa
