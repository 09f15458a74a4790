/- pair.Least; the reference's tests. -/
import Derived.Test.YthdokmhbdjajaaaPair
namespace Go.Proofs.Ythdokmhbdjajaaa
open Go.RowKit
set_option linter.unusedVariables false
set_option maxHeartbeats 400000
theorem least_yes (x y u v : Nat) (a b c d : Int) (w : World) (hx : Cnt x a) (hy : Cnt y b) (hu : Cnt u c) (hv : Cnt v d) :
    Calls Try.prog 16 #[.complex .f64 x y, .complex .f64 u v] w fun e w' => e = .returned (.complex .f64 (F (min a c)) (F (min b d))) ∧ w = w' := by
  by_cases p : c < a
  · by_cases q : d < b
    · rw [show min a c = c by omega, show min b d = d by omega]
      go_enter Try.func16, Try.ntmps16
      go_wp2_with fail
      refine (whole_yes _ _ _ _ _ hx hy).mono ?_
      rintro e w' ⟨rfl, rfl⟩
      go_wp2_with fail
      refine (whole_yes _ _ _ _ _ hu hv).mono ?_
      rintro e w' ⟨rfl, rfl⟩
      go_wp2_with fail
      refine (first_yes _ _ _ _ _ hx hy).mono ?_
      rintro e w' ⟨rfl, rfl⟩
      go_wp2_with fail
      refine (first_yes _ _ _ _ _ hu hv).mono ?_
      rintro e w' ⟨rfl, rfl⟩
      go_wp2_with fail
      refine (second_yes _ _ _ _ _ hx hy).mono ?_
      rintro e w' ⟨rfl, rfl⟩
      go_wp2_with fail
      refine (second_yes _ _ _ _ _ hu hv).mono ?_
      rintro e w' ⟨rfl, rfl⟩
      go_wp2_with fail
      refine (of_yes _ _ _ hu.1 hu.2.1 hv.1 hv.2.1).mono ?_
      rintro e w' ⟨rfl, rfl⟩
      go_wp2
      go_ret
      exact ⟨rfl, rfl⟩
    · rw [show min a c = c by omega, show min b d = b by omega]
      go_enter Try.func16, Try.ntmps16
      go_wp2_with fail
      refine (whole_yes _ _ _ _ _ hx hy).mono ?_
      rintro e w' ⟨rfl, rfl⟩
      go_wp2_with fail
      refine (whole_yes _ _ _ _ _ hu hv).mono ?_
      rintro e w' ⟨rfl, rfl⟩
      go_wp2_with fail
      refine (first_yes _ _ _ _ _ hx hy).mono ?_
      rintro e w' ⟨rfl, rfl⟩
      go_wp2_with fail
      refine (first_yes _ _ _ _ _ hu hv).mono ?_
      rintro e w' ⟨rfl, rfl⟩
      go_wp2_with fail
      refine (second_yes _ _ _ _ _ hx hy).mono ?_
      rintro e w' ⟨rfl, rfl⟩
      go_wp2_with fail
      refine (second_yes _ _ _ _ _ hu hv).mono ?_
      rintro e w' ⟨rfl, rfl⟩
      go_wp2_with fail
      refine (of_yes _ _ _ hu.1 hu.2.1 hy.1 hy.2.1).mono ?_
      rintro e w' ⟨rfl, rfl⟩
      go_wp2
      go_ret
      exact ⟨rfl, rfl⟩
  · by_cases q : d < b
    · rw [show min a c = a by omega, show min b d = d by omega]
      go_enter Try.func16, Try.ntmps16
      go_wp2_with fail
      refine (whole_yes _ _ _ _ _ hx hy).mono ?_
      rintro e w' ⟨rfl, rfl⟩
      go_wp2_with fail
      refine (whole_yes _ _ _ _ _ hu hv).mono ?_
      rintro e w' ⟨rfl, rfl⟩
      go_wp2_with fail
      refine (first_yes _ _ _ _ _ hx hy).mono ?_
      rintro e w' ⟨rfl, rfl⟩
      go_wp2_with fail
      refine (first_yes _ _ _ _ _ hu hv).mono ?_
      rintro e w' ⟨rfl, rfl⟩
      go_wp2_with fail
      refine (second_yes _ _ _ _ _ hx hy).mono ?_
      rintro e w' ⟨rfl, rfl⟩
      go_wp2_with fail
      refine (second_yes _ _ _ _ _ hu hv).mono ?_
      rintro e w' ⟨rfl, rfl⟩
      go_wp2_with fail
      refine (of_yes _ _ _ hx.1 hx.2.1 hv.1 hv.2.1).mono ?_
      rintro e w' ⟨rfl, rfl⟩
      go_wp2
      go_ret
      exact ⟨rfl, rfl⟩
    · rw [show min a c = a by omega, show min b d = b by omega]
      go_enter Try.func16, Try.ntmps16
      go_wp2_with fail
      refine (whole_yes _ _ _ _ _ hx hy).mono ?_
      rintro e w' ⟨rfl, rfl⟩
      go_wp2_with fail
      refine (whole_yes _ _ _ _ _ hu hv).mono ?_
      rintro e w' ⟨rfl, rfl⟩
      go_wp2_with fail
      refine (first_yes _ _ _ _ _ hx hy).mono ?_
      rintro e w' ⟨rfl, rfl⟩
      go_wp2_with fail
      refine (first_yes _ _ _ _ _ hu hv).mono ?_
      rintro e w' ⟨rfl, rfl⟩
      go_wp2_with fail
      refine (second_yes _ _ _ _ _ hx hy).mono ?_
      rintro e w' ⟨rfl, rfl⟩
      go_wp2_with fail
      refine (second_yes _ _ _ _ _ hu hv).mono ?_
      rintro e w' ⟨rfl, rfl⟩
      go_wp2_with fail
      refine (of_yes _ _ _ hx.1 hx.2.1 hy.1 hy.2.1).mono ?_
      rintro e w' ⟨rfl, rfl⟩
      go_wp2
      go_ret
      exact ⟨rfl, rfl⟩
theorem least_no (x y u v : Nat) (w : World) (h : (∀ z, ¬ Cnt x z) ∨ (∀ z, ¬ Cnt y z)) :
    Calls Try.prog 16 #[.complex .f64 x y, .complex .f64 u v] w fun e w' => e = .returned (.complex .f64 (F 0) (F 0)) ∧ w = w' := by
  go_enter Try.func16, Try.ntmps16
  go_wp2_with fail
  refine (whole_no _ _ _ h).mono ?_
  rintro e w' ⟨rfl, rfl⟩
  go_wp2
  go_ret
  exact ⟨rfl, rfl⟩
theorem count4 (a : Int) (w : World) : Calls Try.prog 23 #[.int .i64 a] w fun e w' => e = .returned (.bool (inB a)) ∧ w = w' := by
  by_cases h1 : -1099511627776 ≤ a
  · have e : inB a = decide (a ≤ 1099511627776) := by simp [inB, h1]
    go_enter Try.func23, Try.ntmps23
    go_wp2
    go_ret
    exact ⟨ret_bool e.symm, rfl⟩
  · have e : inB a = false := by simp [inB, h1]
    go_enter Try.func23, Try.ntmps23
    go_wp2
    go_ret
    exact ⟨rfl, rfl⟩
end Go.Proofs.Ythdokmhbdjajaaa
