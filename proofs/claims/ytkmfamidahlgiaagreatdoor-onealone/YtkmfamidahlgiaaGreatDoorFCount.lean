/- Which doubles are counts: of any word. No program in sight. -/
import Derived.Test.YtkmfamidahlgiaaGreatDoorFMath
namespace Go.Proofs.YtkmfamidahlgiaaGreatDoor
set_option linter.unusedVariables false
open Ieee
theorem order_swap (d e : Datum) : e.order d = (d.order e).map Ordering.swap := by
  unfold Datum.order
  cases d with
  | nan => cases e <;> rfl
  | infinity s => cases e with
    | nan => rfl
    | infinity t => cases s <;> cases t <;> rfl
    | number t n j => cases s <;> rfl
  | number s m i => cases e with
    | nan => rfl
    | infinity t => cases t <;> rfl
    | number t n j =>
      simp only [Option.map_some, Int.min_comm j i]
      rw [← Int.compare_swap]
theorem forder_swap (x y : Nat) : double.order y x = (double.order x y).map Ordering.swap := order_swap _ _
/-- a number below the point, held against a whole number -/
theorem order_np {e : Datum} {s t : Bool} {m n p : Nat} (h : Is e t n) : (Datum.number s m (-(p : Int))).order e = some (compare (sg s m) (sg t n * ((2 ^ p : Nat) : Int))) := by
  obtain ⟨q, rfl⟩ := h
  unfold Datum.order
  have e1 : signed s m (-(p : Int) - min (-(p : Int)) (-(q : Int))).toNat = sg s m * ((2 ^ (max p q - p) : Nat) : Int) := by
    rw [signed_eq, show (-(p : Int) - min (-(p : Int)) (-(q : Int))).toNat = max p q - p by omega]
  have e2 : signed t (n * 2 ^ q) (-(q : Int) - min (-(p : Int)) (-(q : Int))).toNat = sg t n * ((2 ^ p : Nat) : Int) * ((2 ^ (max p q - p) : Nat) : Int) := by
    rw [signed_base', Int.mul_assoc, ← Int.natCast_mul, ← Nat.pow_add, show p + (max p q - p) = max p q by omega]
  simp only [e1, e2, compare_mul_pos _ _ (two_pow_pos_int _)]
theorem toInt_np (s : Bool) (m p : Nat) : (Datum.number s m (-(p : Int))).toInt .zero = some (sg s (m / 2 ^ p)) := by
  unfold Datum.toInt Datum.integral
  have e2 : (-(p : Int)).toNat = 0 := by omega
  have e3 : (- -(p : Int)).toNat = p := by omega
  simp only [e2, e3, Nat.shiftLeft_zero, signed_eq]
  have e4 : Toward.zero.cut s m p = m / 2 ^ p := by
    unfold Toward.cut
    simp only [Nat.shiftLeft_eq, Nat.one_mul, Bool.toNat_false, Nat.add_zero]
    by_cases h : p ≤ m.log2 + 2
    · rw [Nat.min_eq_left h]
    · have h3 := Nat.lt_log2_self (n := m)
      have h4 : m < 2 ^ (m.log2 + 2) := Nat.lt_trans h3 (Nat.pow_lt_pow_right (by decide) (by omega))
      have h5 : m < 2 ^ p := Nat.lt_trans h4 (Nat.pow_lt_pow_right (by decide) (by omega))
      rw [Nat.min_eq_right (by omega), Nat.div_eq_of_lt h4, Nat.div_eq_of_lt h5]
  rw [e4]
  simp
/-- the words of the two ends -/
theorem is_high : Is (double.read 4787326403894837248) false 1099511627776 := ⟨12, by rfl⟩
theorem is_low : Is (double.read 14010698440749613056) true 1099511627776 := ⟨12, by rfl⟩
theorem fl_high : Fl 4787326403894837248 1099511627776 := ⟨_, _, is_high, rfl⟩
theorem fl_low : Fl 14010698440749613056 (-1099511627776) := ⟨_, _, is_low, rfl⟩
/-- what a word reads as, told apart -/
theorem read_cases (x : Nat) : (∃ s f, double.read x = .nan s f) ∨ (∃ s, double.read x = .infinity s) ∨ (∃ s m p, double.read x = .number s m (-((p : Nat) : Int))) ∨ (∃ s m, ∃ e : Nat, double.read x = .number s m (e : Int) ∧ 2 ^ 53 ≤ m * 2 ^ e) := by
  rw [read_eq x rfl rfl]
  generalize (x / 9223372036854775808 % 2 == 1) = s
  generalize x % 9223372036854775808 = r
  by_cases h1 : r < 4503599627370496
  · rw [if_pos h1]; exact .inr (.inr (.inl ⟨s, r, 1074, rfl⟩))
  · rw [if_neg h1]
    by_cases h2 : r < 2047 * 4503599627370496
    · rw [if_pos h2]
      by_cases h3 : r / 4503599627370496 - 1 ≤ 1074
      · refine .inr (.inr (.inl ⟨s, 4503599627370496 + r % 4503599627370496, 1074 - (r / 4503599627370496 - 1), ?_⟩))
        rw [show -1074 + ((r / 4503599627370496 - 1 : Nat) : Int) = -((1074 - (r / 4503599627370496 - 1) : Nat) : Int) by omega]
      · refine .inr (.inr (.inr ⟨s, 4503599627370496 + r % 4503599627370496, r / 4503599627370496 - 1075, ?_, ?_⟩))
        · rw [show -1074 + ((r / 4503599627370496 - 1 : Nat) : Int) = ((r / 4503599627370496 - 1075 : Nat) : Int) by omega]
        · obtain ⟨c, hc⟩ : ∃ c, r / 4503599627370496 - 1075 = c + 1 := ⟨r / 4503599627370496 - 1076, by omega⟩
          rw [hc, Nat.pow_succ]
          have hp := Nat.two_pow_pos c
          calc 2 ^ 53 = 4503599627370496 * (1 * 2) := by decide
            _ ≤ (4503599627370496 + r % 4503599627370496) * (2 ^ c * 2) := Nat.mul_le_mul (by omega) (by omega)
    · rw [if_neg h2]
      by_cases h3 : r = 2047 * 4503599627370496
      · rw [if_pos h3]; exact .inr (.inl ⟨s, rfl⟩)
      · rw [if_neg h3]; exact .inl ⟨s, _, rfl⟩
/-- the word is a count's -/
def Cnt (x : Nat) (z : Int) : Prop := -1099511627776 ≤ z ∧ z ≤ 1099511627776 ∧ Fl x z
/-- how a word stands to the ends, and to its own whole part -/
inductive Told (x : Nat) : Prop where
  | yes (z : Int) (h : Cnt x z)
  | low (h1 : double.order 14010698440749613056 x ≠ some .lt) (h2 : double.order 14010698440749613056 x ≠ some .eq)
  | high (h0 : double.order 14010698440749613056 x = some .lt) (h1 : double.order x 4787326403894837248 ≠ some .lt) (h2 : double.order x 4787326403894837248 ≠ some .eq)
  | part (h0 : double.order 14010698440749613056 x = some .lt) (h1 : double.order x 4787326403894837248 = some .lt) (n : Int) (hn : floatToIntVal .f64 x .i64 = some n) (h2 : -1099511627776 ≤ n) (h3 : n ≤ 1099511627776) (h4 : double.order x (floatOfInt .f64 n) ≠ some .eq)
theorem told (x : Nat) : Told x := by
  rcases read_cases x with ⟨s, f, e⟩ | ⟨s, e⟩ | ⟨s, m, p, e⟩ | ⟨s, m, i, e, h⟩
  · refine .low ?_ ?_ <;> (unfold Format.order; rw [e]; unfold Datum.order; cases double.read 14010698440749613056 <;> simp)
  · have h : Hu x s := .inl e
    obtain ⟨a1, a2⟩ := hu_order h fl_low (by decide)
    obtain ⟨b1, b2⟩ := hu_order h fl_high (by decide)
    cases s
    · exact .high a2 (by rw [b1]; simp) (by rw [b1]; simp)
    · exact .low (by rw [a2]; simp) (by rw [a2]; simp)
  · have hl : double.order x 14010698440749613056 = some (compare (sg s m) (sg true 1099511627776 * ((2 ^ p : Nat) : Int))) := by
      unfold Format.order; rw [e]; exact order_np is_low
    have hh : double.order x 4787326403894837248 = some (compare (sg s m) (sg false 1099511627776 * ((2 ^ p : Nat) : Int))) := by
      unfold Format.order; rw [e]; exact order_np is_high
    have hl' := forder_swap x 14010698440749613056
    have hP := two_pow_pos_int p
    have hP' := Nat.two_pow_pos p
    have eL : sg true 1099511627776 * ((2 ^ p : Nat) : Int) = -(1099511627776 * ((2 ^ p : Nat) : Int)) := by simp [sg, Int.neg_mul]
    have eH : sg false 1099511627776 * ((2 ^ p : Nat) : Int) = 1099511627776 * ((2 ^ p : Nat) : Int) := by simp [sg]
    rw [hl, eL] at hl'
    rw [eH] at hh
    have habs := sg_abs s m
    have exact_of : ∀ z : Int, sg s m = z * ((2 ^ p : Nat) : Int) → Fl x z := by
      intro z hz
      have hm : m = z.natAbs * 2 ^ p := by rw [← habs, hz, Int.natAbs_mul, Int.natAbs_natCast]
      have hz' : sg s z.natAbs = z := by
        have h1 : sg s z.natAbs * ((2 ^ p : Nat) : Int) = z * ((2 ^ p : Nat) : Int) := by rw [← sg_pow, ← hm, hz]
        exact Int.eq_of_mul_eq_mul_right (Int.ne_of_gt hP) h1
      exact ⟨s, z.natAbs, ⟨p, by rw [e, ← hm]⟩, hz'⟩
    rcases Int.lt_trichotomy (sg s m) (-(1099511627776 * ((2 ^ p : Nat) : Int))) with h | h | h
    · rw [Int.compare_eq_lt.2 h] at hl'
      exact .low (by rw [hl']; decide) (by rw [hl']; decide)
    · exact .yes (-1099511627776) ⟨by decide, by decide, exact_of _ (by rw [h, Int.neg_mul])⟩
    · rw [Int.compare_eq_gt.2 h] at hl'
      rcases Int.lt_trichotomy (sg s m) (1099511627776 * ((2 ^ p : Nat) : Int)) with g | g | g
      · rw [Int.compare_eq_lt.2 g] at hh
        have hm : m < 1099511627776 * 2 ^ p := by
          have : ((1099511627776 * 2 ^ p : Nat) : Int) = 1099511627776 * ((2 ^ p : Nat) : Int) := by rw [Int.natCast_mul]; rfl
          omega
        have hd : m / 2 ^ p < 1099511627776 := (Nat.div_lt_iff_lt_mul hP').2 hm
        have hn : (sg s (m / 2 ^ p)).natAbs < 1099511627776 := by rw [sg_abs]; exact hd
        have hi : floatToIntVal .f64 x .i64 = some (sg s (m / 2 ^ p)) := by
          have e5 : (FloatKind.f64.decode x).toInt .zero = some (sg s (m / 2 ^ p)) := by
            show (double.read x).toInt .zero = _
            rw [e, toInt_np]
          unfold floatToIntVal
          rw [e5]
          have b1 : IntKind.i64.min ≤ sg s (m / 2 ^ p) := by
            have : IntKind.i64.min = -9223372036854775808 := rfl
            omega
          have b2 : sg s (m / 2 ^ p) ≤ IntKind.i64.max := by
            have : IntKind.i64.max = 9223372036854775807 := rfl
            omega
          exact if_pos ⟨b1, b2⟩
        obtain ⟨t, k, hk, hsg⟩ := fl_ofInt (z := sg s (m / 2 ^ p)) (by omega)
        have ho : double.order x (floatOfInt .f64 (sg s (m / 2 ^ p))) = some (compare (sg s m) (sg s (m / 2 ^ p) * ((2 ^ p : Nat) : Int))) := by
          have := order_np (s := s) (m := m) (p := p) hk
          rw [hsg] at this
          unfold Format.order
          rw [e]
          exact this
        by_cases hq : sg s m = sg s (m / 2 ^ p) * ((2 ^ p : Nat) : Int)
        · exact .yes _ ⟨by omega, by omega, exact_of _ hq⟩
        · exact .part hl' hh _ hi (by omega) (by omega) (by rw [ho]; intro h'; exact hq (Int.compare_eq_eq.1 (Option.some.inj h')))
      · exact .yes 1099511627776 ⟨by decide, by decide, exact_of _ g⟩
      · rw [Int.compare_eq_gt.2 g] at hh
        exact .high hl' (by rw [hh]; decide) (by rw [hh]; decide)
  · have h : Hu x s := .inr ⟨m, i, e, h⟩
    obtain ⟨a1, a2⟩ := hu_order h fl_low (by decide)
    obtain ⟨b1, b2⟩ := hu_order h fl_high (by decide)
    cases s
    · exact .high a2 (by rw [b1]; simp) (by rw [b1]; simp)
    · exact .low (by rw [a2]; simp) (by rw [a2]; simp)
end Go.Proofs.YtkmfamidahlgiaaGreatDoor
