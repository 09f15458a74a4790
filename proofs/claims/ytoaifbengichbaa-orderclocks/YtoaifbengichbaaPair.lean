/- Contracts of package pair's functions. -/
import Derived.Test.YtoaifbengichbaaRows
import Derived.Test.YtoaifbengichbaaWMath
import Derived.Test.YtoaifbengichbaaFCount
import Derived.WalkKit
import Derived.ProofKit
import Derived.OpenShut
import Derived.WalkLawsBesides
import Derived.Laws.Cover3
namespace Go.Proofs.Ytoaifbengichbaa
open Go.RowKit
set_option linter.unusedVariables false
set_option maxHeartbeats 400000
theorem cnt_low {x : Nat} {z : Int} (h : Cnt x z) : (FloatKind.f64.format.order 14010698440749613056 x == some .lt || FloatKind.f64.format.order 14010698440749613056 x == some .eq) = true := by
  have e : FloatKind.f64.format.order 14010698440749613056 x = some (compare (-1099511627776) z) := fl_order fl_low h.2.2
  rw [e]
  rcases Int.lt_or_eq_of_le h.1 with g | g
  · rw [Int.compare_eq_lt.2 g]; rfl
  · rw [Int.compare_eq_eq.2 g]; rfl
theorem cnt_high {x : Nat} {z : Int} (h : Cnt x z) : (FloatKind.f64.format.order x 4787326403894837248 == some .lt || FloatKind.f64.format.order x 4787326403894837248 == some .eq) = true := by
  have e : FloatKind.f64.format.order x 4787326403894837248 = some (compare z 1099511627776) := fl_order h.2.2 fl_high
  rw [e]
  rcases Int.lt_or_eq_of_le h.2.1 with g | g
  · rw [Int.compare_eq_lt.2 g]; rfl
  · rw [Int.compare_eq_eq.2 g]; rfl
theorem cnt_eqs {x : Nat} {z : Int} (h : Cnt x z) : (FloatKind.f64.format.order x (floatOfInt .f64 z) == some .eq) = true := by
  have e : FloatKind.f64.format.order x (floatOfInt .f64 z) = some (compare z z) := fl_order h.2.2 (fl_ofInt (by have := h.1; have := h.2.1; omega))
  rw [e, Int.compare_eq_eq.2 rfl]; rfl
theorem cnt_toInt {x : Nat} {z : Int} (h : Cnt x z) : floatToIntVal .f64 x .i64 = some z := by
  have h1 := h.1
  have h2 := h.2.1
  have b1 : IntKind.i64.min = -9223372036854775808 := rfl
  have b2 : IntKind.i64.max = 9223372036854775807 := rfl
  exact fl_toInt h.2.2 (by omega) (by omega)
theorem conv_int {x : Nat} {n : Int} (h : floatToIntVal .f64 x .i64 = some n) (w : World) : (convert 67 3 (.float .f64 x)).run Try.prog w = .ok (.int .i64 n) w :=
  run_convert_float_int w 67 3 .f64 .i64 x n (by rw [Try.underlying67]; rfl) Try.underlying3 h
theorem count_yes (x : Nat) (z : Int) (w : World) (h : Cnt x z) : Calls Try.prog 52 #[.float .f64 x] w fun e w' => e = .returned (.bool true) ∧ w = w' := by
  have h1 := cnt_low h
  have h2 := cnt_high h
  have h3 := cnt_eqs h
  have hc := conv_int (cnt_toInt h)
  go_enter Try.func52, Try.ntmps52
  go_wp2_with (simp only [hc])
  go_ret
  exact ⟨rfl, rfl⟩
theorem count_no (x : Nat) (w : World) (h : ∀ z, ¬ Cnt x z) : Calls Try.prog 52 #[.float .f64 x] w fun e w' => e = .returned (.bool false) ∧ w = w' := by
  rcases told x with ⟨z, hz⟩ | ⟨h1, h2⟩ | ⟨h0, h1, h2⟩ | ⟨h0, h1, n, hn, h2, h3, h4⟩
  · exact absurd hz (h z)
  · have t1 : (FloatKind.f64.format.order 14010698440749613056 x == some .lt || FloatKind.f64.format.order 14010698440749613056 x == some .eq) = false := by
      rw [beq_false_of_ne (show FloatKind.f64.format.order 14010698440749613056 x ≠ some .lt from h1), beq_false_of_ne (show FloatKind.f64.format.order 14010698440749613056 x ≠ some .eq from h2)]; rfl
    clear h h1 h2
    go_enter Try.func52, Try.ntmps52
    go_wp2
    go_ret
    exact ⟨rfl, rfl⟩
  · have t1 : (FloatKind.f64.format.order 14010698440749613056 x == some .lt || FloatKind.f64.format.order 14010698440749613056 x == some .eq) = true := by
      rw [show FloatKind.f64.format.order 14010698440749613056 x = some .lt from h0]; rfl
    have t2 : (FloatKind.f64.format.order x 4787326403894837248 == some .lt || FloatKind.f64.format.order x 4787326403894837248 == some .eq) = false := by
      rw [beq_false_of_ne (show FloatKind.f64.format.order x 4787326403894837248 ≠ some .lt from h1), beq_false_of_ne (show FloatKind.f64.format.order x 4787326403894837248 ≠ some .eq from h2)]; rfl
    clear h h0 h1 h2
    go_enter Try.func52, Try.ntmps52
    go_wp2
    go_ret
    exact ⟨rfl, rfl⟩
  · have t1 : (FloatKind.f64.format.order 14010698440749613056 x == some .lt || FloatKind.f64.format.order 14010698440749613056 x == some .eq) = true := by
      rw [show FloatKind.f64.format.order 14010698440749613056 x = some .lt from h0]; rfl
    have t2 : (FloatKind.f64.format.order x 4787326403894837248 == some .lt || FloatKind.f64.format.order x 4787326403894837248 == some .eq) = true := by
      rw [show FloatKind.f64.format.order x 4787326403894837248 = some .lt from h1]; rfl
    have t3 : (FloatKind.f64.format.order x (floatOfInt .f64 n) == some .eq) = false := beq_false_of_ne h4
    have hc := conv_int hn
    clear h h0 h1 h2 h3 h4
    go_enter Try.func52, Try.ntmps52
    go_wp2_with (simp only [hc])
    go_ret
    exact ⟨rfl, rfl⟩
theorem whole_yes (x y : Nat) (a b : Int) (w : World) (hx : Cnt x a) (hy : Cnt y b) : Calls Try.prog 42 #[.complex .f64 x y] w fun e w' => e = .returned (.bool true) ∧ w = w' := by
  go_enter Try.func42, Try.ntmps42
  go_wp2_with fail
  refine (count_yes _ _ _ hx).mono ?_
  rintro e w' ⟨rfl, rfl⟩
  go_wp2_with fail
  refine (count_yes _ _ _ hy).mono ?_
  rintro e w' ⟨rfl, rfl⟩
  go_wp2
  go_ret
  exact ⟨rfl, rfl⟩
theorem whole_no (x y : Nat) (w : World) (h : (∀ z, ¬ Cnt x z) ∨ (∀ z, ¬ Cnt y z)) : Calls Try.prog 42 #[.complex .f64 x y] w fun e w' => e = .returned (.bool false) ∧ w = w' := by
  by_cases hx : ∃ z, Cnt x z
  · obtain ⟨z, hz⟩ := hx
    have hy : ∀ z, ¬ Cnt y z := by rcases h with h | h; exact absurd hz (h z); exact h
    clear h
    go_enter Try.func42, Try.ntmps42
    go_wp2_with fail
    refine (count_yes _ _ _ hz).mono ?_
    rintro e w' ⟨rfl, rfl⟩
    go_wp2_with fail
    refine (count_no _ _ hy).mono ?_
    rintro e w' ⟨rfl, rfl⟩
    go_wp2
    go_ret
    exact ⟨rfl, rfl⟩
  · have hx' : ∀ z, ¬ Cnt x z := fun z hz => hx ⟨z, hz⟩
    clear h hx
    go_enter Try.func42, Try.ntmps42
    go_wp2_with fail
    refine (count_no _ _ hx').mono ?_
    rintro e w' ⟨rfl, rfl⟩
    go_wp2
    go_ret
    exact ⟨rfl, rfl⟩
theorem first_yes (x y : Nat) (a b : Int) (w : World) (hx : Cnt x a) (hy : Cnt y b) : Calls Try.prog 24 #[.complex .f64 x y] w fun e w' => e = .returned (.int .i64 a) ∧ w = w' := by
  have hc := conv_int (cnt_toInt hx)
  go_enter Try.func24, Try.ntmps24
  go_wp2_with fail
  refine (whole_yes _ _ _ _ _ hx hy).mono ?_
  rintro e w' ⟨rfl, rfl⟩
  go_wp2
  go_ret
  exact ⟨rfl, rfl⟩
theorem first_no (x y : Nat) (w : World) (h : (∀ z, ¬ Cnt x z) ∨ (∀ z, ¬ Cnt y z)) : Calls Try.prog 24 #[.complex .f64 x y] w fun e w' => e = .returned (.int .i64 0) ∧ w = w' := by
  go_enter Try.func24, Try.ntmps24
  go_wp2_with fail
  refine (whole_no _ _ _ h).mono ?_
  rintro e w' ⟨rfl, rfl⟩
  go_wp2
  go_ret
  exact ⟨rfl, rfl⟩
theorem second_yes (x y : Nat) (a b : Int) (w : World) (hx : Cnt x a) (hy : Cnt y b) : Calls Try.prog 25 #[.complex .f64 x y] w fun e w' => e = .returned (.int .i64 b) ∧ w = w' := by
  have hc := conv_int (cnt_toInt hy)
  go_enter Try.func25, Try.ntmps25
  go_wp2_with fail
  refine (whole_yes _ _ _ _ _ hx hy).mono ?_
  rintro e w' ⟨rfl, rfl⟩
  go_wp2
  go_ret
  exact ⟨rfl, rfl⟩
theorem second_no (x y : Nat) (w : World) (h : (∀ z, ¬ Cnt x z) ∨ (∀ z, ¬ Cnt y z)) : Calls Try.prog 25 #[.complex .f64 x y] w fun e w' => e = .returned (.int .i64 0) ∧ w = w' := by
  go_enter Try.func25, Try.ntmps25
  go_wp2_with fail
  refine (whole_no _ _ _ h).mono ?_
  rintro e w' ⟨rfl, rfl⟩
  go_wp2
  go_ret
  exact ⟨rfl, rfl⟩
/-- the word of a count -/
def F (z : Int) : Nat := floatOfInt .f64 z
theorem cnt_F {z : Int} (h1 : -1099511627776 ≤ z) (h2 : z ≤ 1099511627776) : Cnt (F z) z := ⟨h1, h2, fl_ofInt (by omega)⟩
theorem F_zero : F 0 = 0 := rfl
theorem of_yes (a b : Int) (w : World) (h1 : -1099511627776 ≤ a) (h2 : a ≤ 1099511627776) (h3 : -1099511627776 ≤ b) (h4 : b ≤ 1099511627776) : Calls Try.prog 38 #[.int .i64 a, .int .i64 b] w fun e w' => e = .returned (.complex .f64 (F a) (F b)) ∧ w = w' := by
  have t1 : decide (a < -1099511627776) = false := decide_eq_false (by omega)
  have t2 : decide (1099511627776 < a) = false := decide_eq_false (by omega)
  have t3 : decide (b < -1099511627776) = false := decide_eq_false (by omega)
  have t4 : decide (1099511627776 < b) = false := decide_eq_false (by omega)
  go_enter Try.func38, Try.ntmps38
  go_wp2
  go_ret
  exact ⟨rfl, rfl⟩
theorem of_no (a b : Int) (w : World) (h : ¬ (-1099511627776 ≤ a ∧ a ≤ 1099511627776 ∧ -1099511627776 ≤ b ∧ b ≤ 1099511627776)) : Calls Try.prog 38 #[.int .i64 a, .int .i64 b] w fun e w' => e = .returned (.complex .f64 (F 0) (F 0)) ∧ w = w' := by
  by_cases h1 : -1099511627776 ≤ a
  · have t1 : decide (a < -1099511627776) = false := decide_eq_false (by omega)
    by_cases h2 : a ≤ 1099511627776
    · have t2 : decide (1099511627776 < a) = false := decide_eq_false (by omega)
      by_cases h3 : -1099511627776 ≤ b
      · have t3 : decide (b < -1099511627776) = false := decide_eq_false (by omega)
        have t4 : decide (1099511627776 < b) = true := decide_eq_true (by omega)
        clear h
        go_enter Try.func38, Try.ntmps38
        go_wp2
        go_ret
        exact ⟨rfl, rfl⟩
      · have t3 : decide (b < -1099511627776) = true := decide_eq_true (by omega)
        clear h
        go_enter Try.func38, Try.ntmps38
        go_wp2
        go_ret
        exact ⟨rfl, rfl⟩
    · have t2 : decide (1099511627776 < a) = true := decide_eq_true (by omega)
      clear h
      go_enter Try.func38, Try.ntmps38
      go_wp2
      go_ret
      exact ⟨rfl, rfl⟩
  · have t1 : decide (a < -1099511627776) = true := decide_eq_true (by omega)
    clear h
    go_enter Try.func38, Try.ntmps38
    go_wp2
    go_ret
    exact ⟨rfl, rfl⟩
theorem told_yes (x y : Nat) (a b : Int) (w : World) (hx : Cnt x a) (hy : Cnt y b) : Calls Try.prog 51 #[.complex .f64 x y] w fun e w' => e = .returned (.complex .f64 (F a) (F b)) ∧ w = w' := by
  go_enter Try.func51, Try.ntmps51
  go_wp2_with fail
  refine (first_yes _ _ _ _ _ hx hy).mono ?_
  rintro e w' ⟨rfl, rfl⟩
  go_wp2_with fail
  refine (second_yes _ _ _ _ _ hx hy).mono ?_
  rintro e w' ⟨rfl, rfl⟩
  go_wp2_with fail
  refine (of_yes _ _ _ hx.1 hx.2.1 hy.1 hy.2.1).mono ?_
  rintro e w' ⟨rfl, rfl⟩
  go_wp2
  go_ret
  exact ⟨rfl, rfl⟩
theorem told_no (x y : Nat) (w : World) (h : (∀ z, ¬ Cnt x z) ∨ (∀ z, ¬ Cnt y z)) : Calls Try.prog 51 #[.complex .f64 x y] w fun e w' => e = .returned (.complex .f64 (F 0) (F 0)) ∧ w = w' := by
  go_enter Try.func51, Try.ntmps51
  go_wp2_with fail
  refine (first_no _ _ _ h).mono ?_
  rintro e w' ⟨rfl, rfl⟩
  go_wp2_with fail
  refine (second_no _ _ _ h).mono ?_
  rintro e w' ⟨rfl, rfl⟩
  go_wp2_with fail
  refine (of_yes 0 0 _ (by decide) (by decide) (by decide) (by decide)).mono ?_
  rintro e w' ⟨rfl, rfl⟩
  go_wp2
  go_ret
  exact ⟨rfl, rfl⟩
theorem fl_uniq {x : Nat} {a b : Int} (h1 : Fl x a) (h2 : Fl x b) : a = b := by
  have e1 := fl_order h1 h2
  have e2 := fl_order h1 h1
  rw [e1, Int.compare_eq_eq.2 rfl] at e2
  exact Int.compare_eq_eq.1 (Option.some.inj e2)
theorem cnt_uniq {x : Nat} {a b : Int} (h1 : Cnt x a) (h2 : Cnt x b) : a = b := fl_uniq h1.2.2 h2.2.2
theorem hu_no {x : Nat} {s : Bool} (h : Hu x s) : ∀ z, ¬ Cnt x z := by
  intro z hz
  have hb : z.natAbs < 2 ^ 53 := by have := hz.1; have := hz.2.1; omega
  have e1 := fl_order hz.2.2 (fl_ofInt hb)
  rw [(hu_order h (fl_ofInt hb) hb).1, Int.compare_eq_eq.2 rfl] at e1
  cases s <;> cases e1
theorem fl_no {x : Nat} {v : Int} (h : Fl x v) (hv : ¬ (-1099511627776 ≤ v ∧ v ≤ 1099511627776)) : ∀ z, ¬ Cnt x z := by
  intro z hz
  have := fl_uniq h hz.2.2
  subst this
  exact hv ⟨hz.1, hz.2.1⟩
/-- a product's part: the count, or none -/
def Part (x : Nat) (v : Int) : Prop := (-1099511627776 ≤ v ∧ v ≤ 1099511627776 ∧ Cnt x v) ∨ (¬ (-1099511627776 ≤ v ∧ v ≤ 1099511627776) ∧ ∀ z, ¬ Cnt x z)
theorem part_fl {x : Nat} {v : Int} (h : Fl x v) : Part x v := by
  by_cases hv : -1099511627776 ≤ v ∧ v ≤ 1099511627776
  · exact .inl ⟨hv.1, hv.2, hv.1, hv.2, h⟩
  · exact .inr ⟨hv, fl_no h hv⟩
theorem part_hu {x : Nat} {s : Bool} {v : Int} (h : Hu x s) (hv : 2 ^ 53 ≤ v.natAbs) : Part x v := .inr ⟨by omega, hu_no h⟩
theorem cmul {x y : Nat} {a b k : Int} (hx : Cnt x a) (hy : Cnt y b) (h1 : -1099511627776 ≤ k) (h2 : k ≤ 1099511627776) : ∃ re im, cMulBits x y (F k) (F 0) = some (re, im) ∧ Part re (a * k) ∧ Part im (b * k) := by
  have hk : Fl (F k) k := (cnt_F h1 h2).2.2
  have h0 : Fl (F 0) 0 := (cnt_F (by decide) (by decide)).2.2
  obtain ⟨ac, e1, p1⟩ := fl_mul_any hx.2.2 hk
  obtain ⟨bd, e2, p2⟩ := fl_mul hy.2.2 h0 (by simp)
  obtain ⟨ad, e3, p3⟩ := fl_mul hx.2.2 h0 (by simp)
  obtain ⟨bc, e4, p4⟩ := fl_mul_any hy.2.2 hk
  rw [Int.mul_zero] at p2 p3
  have r1 : ∃ re, floatBits .sub .f64 ac bd = some re ∧ Part re (a * k) := by
    rcases p1 with ⟨l, p⟩ | ⟨l, s, p⟩
    · obtain ⟨r, e, q⟩ := fl_sub p p2 (by rw [Int.sub_zero]; exact l)
      rw [Int.sub_zero] at q
      exact ⟨r, e, part_fl q⟩
    · obtain ⟨r, e, q⟩ := hu_sub p p2
      exact ⟨r, e, part_hu q l⟩
  have r2 : ∃ im, floatBits .add .f64 ad bc = some im ∧ Part im (b * k) := by
    rcases p4 with ⟨l, p⟩ | ⟨l, s, p⟩
    · obtain ⟨r, e, q⟩ := fl_add p3 p (by rw [Int.zero_add]; exact l)
      rw [Int.zero_add] at q
      exact ⟨r, e, part_fl q⟩
    · obtain ⟨r, e, q⟩ := hu_add p p3
      exact ⟨r, e, part_hu q l⟩
  obtain ⟨re, e5, q1⟩ := r1
  obtain ⟨im, e6, q2⟩ := r2
  refine ⟨re, im, ?_, q1, q2⟩
  unfold cMulBits
  simp [e1, e2, e3, e4, e5, e6]
/-- what a pair times k is -/
def inB (v : Int) : Bool := decide (-1099511627776 ≤ v) && decide (v ≤ 1099511627776)
theorem inB_iff (v : Int) : inB v = true ↔ -1099511627776 ≤ v ∧ v ≤ 1099511627776 := by simp [inB]
end Go.Proofs.Ytoaifbengichbaa
