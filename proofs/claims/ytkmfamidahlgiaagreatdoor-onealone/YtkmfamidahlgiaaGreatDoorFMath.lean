/- Plain facts on doubles that stand for whole numbers below 2^53. No program in sight. -/
import Derived.Laws.ComplexArith
namespace Go.Proofs.YtkmfamidahlgiaaGreatDoor
set_option linter.unusedVariables false
open Ieee
/-- a whole number with its sign -/
def sg (s : Bool) (n : Nat) : Int := if s then -(n : Int) else (n : Int)
/-- the datum stands for the whole number n, with its sign -/
def Is (d : Datum) (s : Bool) (n : Nat) : Prop := ∃ q : Nat, d = .number s (n * 2 ^ q) (-(q : Int))
/-- the datum stands for a number from 2^53 on, or for an infinity -/
def Big (d : Datum) (s : Bool) : Prop := d = .infinity s ∨ ∃ m e, d = .number s m (e : Nat) ∧ 2 ^ 53 ≤ m * 2 ^ e
theorem log2_mul_pow {n : Nat} (h : n ≠ 0) (q : Nat) : (n * 2 ^ q).log2 = n.log2 + q := by
  have h1 : n * 2 ^ q ≠ 0 := Nat.mul_ne_zero h (Nat.ne_of_gt (Nat.two_pow_pos q))
  rw [Nat.log2_eq_iff h1]
  have h2 := Nat.log2_self_le h
  have h3 := Nat.lt_log2_self (n := n)
  constructor
  · rw [Nat.pow_add]; exact Nat.mul_le_mul_right _ h2
  · rw [show n.log2 + q + 1 = (n.log2 + 1) + q by omega, Nat.pow_add (2) (n.log2 + 1) q]
    exact (Nat.mul_lt_mul_right (Nat.two_pow_pos q)).2 h3
theorem log2_lt53 {n : Nat} (h : n < 2 ^ 53) : n.log2 ≤ 52 := by
  by_cases h0 : n = 0
  · subst h0; decide
  · have := (Nat.log2_lt h0).2 h
    omega
theorem d_binade : double.binade = 4503599627370496 := rfl
theorem d_inf : double.infRung = 2047 * 4503599627370496 := rfl
theorem d_least : double.leastPlace = -1074 := rfl
theorem d_sign : double.signWeight = 9223372036854775808 := rfl
theorem d_frac : double.fractionBits = 52 := rfl
/-- the rung of a whole number that is not nought -/
def rung (n : Nat) : Nat := (n.log2 + 1022) * 4503599627370496 + n * 2 ^ (52 - n.log2)
theorem cut0 (way : Toward) (s : Bool) (n : Nat) : way.cut s n 0 = n := by
  unfold Toward.cut
  cases way <;> simp [Nat.mod_one]
theorem cut_exact (way : Toward) (s : Bool) (n k : Nat) : way.cut s (n * 2 ^ k) k = n := by
  by_cases h : n = 0
  · subst h
    unfold Toward.cut
    cases way <;> simp
  · have hk : min k ((n * 2 ^ k).log2 + 2) = k := by rw [log2_mul_pow h]; omega
    unfold Toward.cut
    simp only [hk, Nat.shiftLeft_eq, Nat.one_mul, Nat.mul_mod_left, Nat.mul_div_cancel _ (Nat.two_pow_pos k)]
    have hp := Nat.two_pow_pos k
    cases way <;> simp
theorem rung_bounds {n : Nat} (h0 : n ≠ 0) (h : n < 2 ^ 53) : 2 ^ 52 ≤ n * 2 ^ (52 - n.log2) ∧ n * 2 ^ (52 - n.log2) < 2 ^ 53 := by
  have h1 := log2_lt53 h
  have h2 := Nat.log2_self_le h0
  have h3 := Nat.lt_log2_self (n := n)
  constructor
  · calc 2 ^ 52 = 2 ^ n.log2 * 2 ^ (52 - n.log2) := by rw [← Nat.pow_add]; congr 1; omega
      _ ≤ _ := Nat.mul_le_mul_right _ h2
  · calc n * 2 ^ (52 - n.log2) < 2 ^ (n.log2 + 1) * 2 ^ (52 - n.log2) := (Nat.mul_lt_mul_right (Nat.two_pow_pos _)).2 h3
      _ = 2 ^ 53 := by rw [← Nat.pow_add]; congr 1; omega
/-- what is written of a whole number, however it is spelt -/
theorem nearest_is (s : Bool) {n : Nat} (h0 : n ≠ 0) (h : n < 2 ^ 53) (q : Nat) : double.nearest s (n * 2 ^ q) (-(q : Int)) = double.word s (rung n) := by
  have h1 := log2_lt53 h
  have hm : n * 2 ^ q ≠ 0 := Nat.mul_ne_zero h0 (Nat.ne_of_gt (Nat.two_pow_pos q))
  have hb := rung_bounds h0 h
  unfold Format.nearest
  rw [if_neg hm, log2_mul_pow h0]
  have hl : max (-(q : Int) + ((n.log2 + q : Nat) : Int) - double.fractionBits) double.leastPlace = (n.log2 : Int) - 52 := by
    rw [d_least]; simp only [d_frac]; omega
  simp only [hl]
  have hk : Toward.even.cut s ((n * 2 ^ q) <<< (-(q : Int) - ((n.log2 : Int) - 52)).toNat) ((n.log2 : Int) - 52 - -(q : Int)).toNat = n * 2 ^ (52 - n.log2) := by
    by_cases hq : q ≤ 52 - n.log2
    · rw [show ((n.log2 : Int) - 52 - -(q : Int)).toNat = 0 by omega, cut0, Nat.shiftLeft_eq, Nat.mul_assoc, ← Nat.pow_add]
      congr 2; omega
    · rw [show (-(q : Int) - ((n.log2 : Int) - 52)).toNat = 0 by omega, Nat.shiftLeft_zero]
      have e : n * 2 ^ q = n * 2 ^ (52 - n.log2) * 2 ^ ((n.log2 : Int) - 52 - -(q : Int)).toNat := by
        rw [Nat.mul_assoc, ← Nat.pow_add]; congr 2; omega
      rw [e, cut_exact]
  rw [hk]
  have e1 : (((n.log2 : Int) - 52 - double.leastPlace).toNat) = n.log2 + 1022 := by rw [d_least]; omega
  rw [e1, d_binade, d_inf, Nat.min_eq_left]
  · rfl
  · have := hb.2; omega
theorem nearest_nought (s : Bool) (e : Int) : double.nearest s 0 e = double.word s 0 := rfl
theorem read_eq (x : Nat) {s : Bool} {r : Nat} (hs : (x / 9223372036854775808 % 2 == 1) = s) (hr : x % 9223372036854775808 = r) : double.read x =
    if r < 4503599627370496 then .number s r (-1074)
    else if r < 2047 * 4503599627370496 then .number s (4503599627370496 + r % 4503599627370496) (-1074 + ((r / 4503599627370496 - 1 : Nat) : Int))
    else if r = 2047 * 4503599627370496 then .infinity s else .nan s (r - 2047 * 4503599627370496) := by
  subst hs hr
  rfl
theorem read_word (s : Bool) {r : Nat} (h : r < 9223372036854775808) : double.read (double.word s r) =
    if r < 4503599627370496 then .number s r (-1074)
    else if r < 2047 * 4503599627370496 then .number s (4503599627370496 + r % 4503599627370496) (-1074 + ((r / 4503599627370496 - 1 : Nat) : Int))
    else if r = 2047 * 4503599627370496 then .infinity s else .nan s (r - 2047 * 4503599627370496) := by
  cases s
  · have e : double.word false r = r := rfl
    rw [e]
    exact read_eq r (by rw [show r / 9223372036854775808 = 0 by omega]; rfl) (by omega)
  · have e : double.word true r = 9223372036854775808 + r := rfl
    rw [e]
    exact read_eq _ (by rw [show (9223372036854775808 + r) / 9223372036854775808 = 1 by omega]; rfl) (by omega)
theorem is_nought (s : Bool) (q : Nat) : Is (.number s 0 (-(q : Int))) s 0 := ⟨q, by rw [Nat.zero_mul]⟩
/-- a whole number below 2^53, written, is read back as itself -/
theorem is_nearest (s : Bool) {n : Nat} (h : n < 2 ^ 53) (q : Nat) : Is (double.read (double.nearest s (n * 2 ^ q) (-(q : Int)))) s n := by
  by_cases h0 : n = 0
  · subst h0
    rw [Nat.zero_mul, nearest_nought, read_word s (by decide), if_pos (by decide)]
    exact is_nought s 1074
  · have hb := rung_bounds h0 h
    have h1 := log2_lt53 h
    rw [nearest_is s h0 h q, read_word s (by unfold rung; omega), if_neg (by unfold rung; omega), if_pos (by unfold rung; omega)]
    refine ⟨52 - n.log2, ?_⟩
    have e1 : rung n % 4503599627370496 = n * 2 ^ (52 - n.log2) - 4503599627370496 := by unfold rung; omega
    have e2 : rung n / 4503599627370496 = n.log2 + 1023 := by unfold rung; omega
    have e3 : 4503599627370496 + (n * 2 ^ (52 - n.log2) - 4503599627370496) = n * 2 ^ (52 - n.log2) := by omega
    have e4 : -1074 + ((n.log2 + 1023 - 1 : Nat) : Int) = -((52 - n.log2 : Nat) : Int) := by omega
    rw [e1, e2, e3, e4]
theorem signed_eq (s : Bool) (m k : Nat) : signed s m k = sg s m * (2 ^ k : Nat) := by
  unfold signed sg
  rw [Nat.shiftLeft_eq]
  cases s <;> simp [Int.neg_mul]
theorem sg_pow (s : Bool) (m k : Nat) : sg s (m * 2 ^ k) = sg s m * (2 ^ k : Nat) := by
  unfold sg
  cases s <;> simp [Int.neg_mul]
/-- the word x stands for the whole number z -/
def Fl (x : Nat) (z : Int) : Prop := ∃ s n, Is (double.read x) s n ∧ sg s n = z
/-- the word x stands for a number from 2^53 on, or an infinity -/
def Hu (x : Nat) (s : Bool) : Prop := Big (double.read x) s
theorem sg_abs (s : Bool) (m : Nat) : (sg s m).natAbs = m := by
  unfold sg
  cases s <;> simp
theorem sg_natAbs (z : Int) : sg (decide (z < 0)) z.natAbs = z := by
  unfold sg
  by_cases h : z < 0
  · rw [decide_eq_true h]; simp; omega
  · rw [decide_eq_false h]; simp; omega
theorem fl_ofInt {z : Int} (h : z.natAbs < 2 ^ 53) : Fl (floatOfInt .f64 z) z := by
  have := is_nearest (decide (z < 0)) h 0
  rw [Nat.pow_zero, Nat.mul_one] at this
  exact ⟨_, _, this, sg_natAbs z⟩
theorem compare_mul_pos (a b : Int) {k : Int} (hk : 0 < k) : compare (a * k) (b * k) = compare a b := by
  rcases Int.lt_trichotomy a b with h | h | h
  · rw [Int.compare_eq_lt.2 h, Int.compare_eq_lt.2 (Int.mul_lt_mul_of_pos_right h hk)]
  · rw [h, Int.compare_eq_eq.2 rfl, Int.compare_eq_eq.2 rfl]
  · rw [Int.compare_eq_gt.2 h, Int.compare_eq_gt.2 (Int.mul_lt_mul_of_pos_right h hk)]
/-- two whole numbers over one place -/
theorem signed_base (s : Bool) (n q p : Nat) : signed s (n * 2 ^ q) (-(q : Int) - min (-(q : Int)) (-(p : Int))).toNat = sg s n * (2 ^ max q p : Nat) := by
  rw [signed_eq, sg_pow, Int.mul_assoc, ← Int.natCast_mul, ← Nat.pow_add]
  congr 3
  omega
theorem signed_base' (s : Bool) (n q p : Nat) : signed s (n * 2 ^ q) (-(q : Int) - min (-(p : Int)) (-(q : Int))).toNat = sg s n * (2 ^ max p q : Nat) := by
  rw [signed_eq, sg_pow, Int.mul_assoc, ← Int.natCast_mul, ← Nat.pow_add]
  congr 3
  omega
theorem two_pow_pos_int (k : Nat) : (0 : Int) < ((2 ^ k : Nat) : Int) := by exact_mod_cast Nat.two_pow_pos k
theorem fl_order {x y : Nat} {a b : Int} (hx : Fl x a) (hy : Fl y b) : double.order x y = some (compare a b) := by
  obtain ⟨s, m, ⟨q, e1⟩, rfl⟩ := hx
  obtain ⟨t, n, ⟨p, e2⟩, rfl⟩ := hy
  unfold Format.order
  rw [e1, e2]
  unfold Datum.order
  simp only [signed_base, signed_base', compare_mul_pos _ _ (two_pow_pos_int _)]
theorem min_neg (p q : Nat) : min (-(p : Int)) (-(q : Int)) = -((max p q : Nat) : Int) := by omega
theorem is_sum {d e : Datum} {s t : Bool} {m n : Nat} (hd : Is d s m) (he : Is e t n) (h : (sg s m + sg t n).natAbs < 2 ^ 53) :
    ∃ r, (d.sum e).map double.write = some r ∧ Fl r (sg s m + sg t n) := by
  obtain ⟨q, rfl⟩ := hd
  obtain ⟨p, rfl⟩ := he
  unfold Datum.sum
  simp only [signed_base, signed_base', Option.map_some, ← Int.add_mul]
  refine ⟨_, rfl, ?_⟩
  have hp := two_pow_pos_int (max q p)
  have e0 : ((sg s m + sg t n) * ((2 ^ max q p : Nat) : Int) = 0) ↔ sg s m + sg t n = 0 := by
    rw [Int.mul_eq_zero]; omega
  have e1 : ((sg s m + sg t n) * ((2 ^ max q p : Nat) : Int) < 0) ↔ sg s m + sg t n < 0 := by
    constructor
    · intro h'; exact Int.neg_of_mul_neg_left h' hp
    · intro h'; exact Int.mul_neg_of_neg_of_pos h' hp
  unfold Format.write
  simp only [e0, e1, Int.natAbs_mul, Int.natAbs_natCast, min_neg]
  refine ⟨_, _, is_nearest _ h _, ?_⟩
  by_cases h0 : sg s m + sg t n = 0
  · rw [if_pos h0, h0]; cases (s && t) <;> rfl
  · rw [if_neg h0]; exact sg_natAbs _
theorem fl_add {x y : Nat} {a b : Int} (hx : Fl x a) (hy : Fl y b) (h : (a + b).natAbs < 2 ^ 53) : ∃ r, floatBits .add .f64 x y = some r ∧ Fl r (a + b) := by
  obtain ⟨s, m, i1, rfl⟩ := hx
  obtain ⟨t, n, i2, rfl⟩ := hy
  exact is_sum i1 i2 h
theorem is_opposite {d : Datum} {s : Bool} {m : Nat} (hd : Is d s m) : Is d.opposite (!s) m := by
  obtain ⟨q, rfl⟩ := hd
  exact ⟨q, rfl⟩
theorem sg_not (s : Bool) (m : Nat) : sg (!s) m = - sg s m := by
  unfold sg
  cases s <;> simp
theorem fl_sub {x y : Nat} {a b : Int} (hx : Fl x a) (hy : Fl y b) (h : (a - b).natAbs < 2 ^ 53) : ∃ r, floatBits .sub .f64 x y = some r ∧ Fl r (a - b) := by
  obtain ⟨s, m, i1, rfl⟩ := hx
  obtain ⟨t, n, i2, rfl⟩ := hy
  have := is_sum i1 (is_opposite i2) (by rw [sg_not]; exact h)
  rw [sg_not] at this
  exact this
theorem sg_mul (s t : Bool) (m n : Nat) : sg (s ^^ t) (m * n) = sg s m * sg t n := by
  unfold sg
  cases s <;> cases t <;> simp [Int.neg_mul, Int.mul_neg]
theorem fl_mul {x y : Nat} {a b : Int} (hx : Fl x a) (hy : Fl y b) (h : (a * b).natAbs < 2 ^ 53) : ∃ r, floatBits .mul .f64 x y = some r ∧ Fl r (a * b) := by
  obtain ⟨s, m, ⟨q, e1⟩, rfl⟩ := hx
  obtain ⟨t, n, ⟨p, e2⟩, rfl⟩ := hy
  have hmn : m * n < 2 ^ 53 := by
    rw [← sg_mul, sg_abs] at h
    exact h
  refine ⟨double.nearest (s ^^ t) (m * n * 2 ^ (q + p)) (-((q + p : Nat) : Int)), ?_, _, _, is_nearest (s ^^ t) hmn (q + p), sg_mul ..⟩
  show ((double.read x).product (double.read y)).map double.write = _
  rw [e1, e2]
  show some (double.nearest (s ^^ t) (m * 2 ^ q * (n * 2 ^ p)) (-(q : Int) + -(p : Int))) = _
  rw [show m * 2 ^ q * (n * 2 ^ p) = m * n * 2 ^ (q + p) by rw [Nat.pow_add]; ac_rfl, show -(q : Int) + -(p : Int) = -((q + p : Nat) : Int) by omega]
theorem fl_toInt {x : Nat} {z : Int} {k : IntKind} (hx : Fl x z) (h1 : k.min ≤ z) (h2 : z ≤ k.max) : floatToIntVal .f64 x k = some z := by
  obtain ⟨s, m, ⟨q, e1⟩, rfl⟩ := hx
  have e : (FloatKind.f64.decode x).toInt .zero = some (sg s m) := by
    show (double.read x).toInt .zero = _
    rw [e1]
    unfold Datum.toInt Datum.integral
    have e2 : (-(q : Int)).toNat = 0 := by omega
    have e3 : (- -(q : Int)).toNat = q := by omega
    simp only [e2, e3, Nat.shiftLeft_zero, cut_exact, signed_eq]
    simp
  unfold floatToIntVal
  rw [e]
  simp [h1, h2]
/-- what is written of a number from 2^53 on -/
theorem big_nearest (s : Bool) {m : Nat} {e : Int} (hm : m ≠ 0) (h : 53 ≤ (m.log2 : Int) + e) : Big (double.read (double.nearest s m e)) s := by
  unfold Format.nearest
  rw [if_neg hm]
  have hl : max (e + (m.log2 : Int) - double.fractionBits) double.leastPlace = e + (m.log2 : Int) - 52 := by
    rw [d_least]; simp only [d_frac]; omega
  simp only [hl]
  have h2 := Nat.log2_self_le hm
  have hk : 4503599627370496 ≤ Toward.even.cut s (m <<< (e - (e + (m.log2 : Int) - 52)).toNat) (e + (m.log2 : Int) - 52 - e).toNat := by
    by_cases hq : m.log2 ≤ 52
    · rw [show (e + (m.log2 : Int) - 52 - e).toNat = 0 by omega, cut0, Nat.shiftLeft_eq, show (e - (e + (m.log2 : Int) - 52)).toNat = 52 - m.log2 by omega]
      calc 4503599627370496 = 2 ^ m.log2 * 2 ^ (52 - m.log2) := by rw [← Nat.pow_add, show m.log2 + (52 - m.log2) = 52 by omega]
        _ ≤ _ := Nat.mul_le_mul_right _ h2
    · rw [show (e - (e + (m.log2 : Int) - 52)).toNat = 0 by omega, Nat.shiftLeft_zero, show (e + (m.log2 : Int) - 52 - e).toNat = m.log2 - 52 by omega]
      unfold Toward.cut
      rw [show min (m.log2 - 52) (m.log2 + 2) = m.log2 - 52 by omega, Nat.shiftLeft_eq, Nat.one_mul]
      refine Nat.le_trans ?_ (Nat.le_add_right _ _)
      rw [Nat.le_div_iff_mul_le (Nat.two_pow_pos _)]
      calc 4503599627370496 * 2 ^ (m.log2 - 52) = 2 ^ (52 + (m.log2 - 52)) := by rw [Nat.pow_add]
        _ = 2 ^ m.log2 := by rw [show 52 + (m.log2 - 52) = m.log2 by omega]
        _ ≤ m := h2
  generalize Toward.even.cut s (m <<< (e - (e + (m.log2 : Int) - 52)).toNat) (e + (m.log2 : Int) - 52 - e).toNat = kept at hk ⊢
  have e1 : 1075 ≤ (e + (m.log2 : Int) - 52 - double.leastPlace).toNat := by rw [d_least]; omega
  rw [d_binade, d_inf]
  generalize (e + (m.log2 : Int) - 52 - double.leastPlace).toNat = lv at e1 ⊢
  have hr : 1076 * 4503599627370496 ≤ lv * 4503599627370496 + kept := by omega
  generalize lv * 4503599627370496 + kept = r at hr ⊢
  rw [read_word s (by omega), if_neg (by omega)]
  by_cases hi : r < 2047 * 4503599627370496
  · rw [show min r (2047 * 4503599627370496) = r by omega, if_pos hi]
    refine .inr ⟨4503599627370496 + r % 4503599627370496, r / 4503599627370496 - 1075, ?_, ?_⟩
    · rw [show -1074 + ((r / 4503599627370496 - 1 : Nat) : Int) = ((r / 4503599627370496 - 1075 : Nat) : Int) by omega]
    · obtain ⟨c, hc⟩ : ∃ c, r / 4503599627370496 - 1075 = c + 1 := ⟨r / 4503599627370496 - 1076, by omega⟩
      rw [hc, Nat.pow_succ]
      have hp := Nat.two_pow_pos c
      calc 2 ^ 53 = 4503599627370496 * (1 * 2) := by decide
        _ ≤ (4503599627370496 + r % 4503599627370496) * (2 ^ c * 2) := Nat.mul_le_mul (by omega) (by omega)
  · rw [show min r (2047 * 4503599627370496) = 2047 * 4503599627370496 by omega, if_neg (by omega), if_pos rfl]
    exact .inl rfl
theorem log2_ge {n k : Nat} (h : 2 ^ k ≤ n) : k ≤ n.log2 := by
  have hn : n ≠ 0 := by have := Nat.two_pow_pos k; omega
  exact (Nat.le_log2 hn).2 h
/-- a product of two whole numbers, however great -/
theorem fl_mul_any {x y : Nat} {a b : Int} (hx : Fl x a) (hy : Fl y b) : ∃ r, floatBits .mul .f64 x y = some r ∧ (((a * b).natAbs < 2 ^ 53 ∧ Fl r (a * b)) ∨ (2 ^ 53 ≤ (a * b).natAbs ∧ ∃ s, Hu r s)) := by
  by_cases h : (a * b).natAbs < 2 ^ 53
  · obtain ⟨r, h1, h2⟩ := fl_mul hx hy h
    exact ⟨r, h1, .inl ⟨h, h2⟩⟩
  · obtain ⟨s, m, ⟨q, e1⟩, rfl⟩ := hx
    obtain ⟨t, n, ⟨p, e2⟩, rfl⟩ := hy
    have hmn : 2 ^ 53 ≤ m * n := by
      rw [← sg_mul, sg_abs] at h
      omega
    have h0 : m * n ≠ 0 := by omega
    refine ⟨double.nearest (s ^^ t) (m * n * 2 ^ (q + p)) (-((q + p : Nat) : Int)), ?_, .inr ⟨by omega, s ^^ t, big_nearest _ (Nat.mul_ne_zero h0 (Nat.ne_of_gt (Nat.two_pow_pos _))) ?_⟩⟩
    · show ((double.read x).product (double.read y)).map double.write = _
      rw [e1, e2]
      show some (double.nearest (s ^^ t) (m * 2 ^ q * (n * 2 ^ p)) (-(q : Int) + -(p : Int))) = _
      rw [show m * 2 ^ q * (n * 2 ^ p) = m * n * 2 ^ (q + p) by rw [Nat.pow_add]; ac_rfl, show -(q : Int) + -(p : Int) = -((q + p : Nat) : Int) by omega]
    · rw [log2_mul_pow h0]
      have := log2_ge hmn
      omega
theorem big_log {m e : Nat} (h : 2 ^ 53 ≤ m * 2 ^ e) : m ≠ 0 ∧ 53 ≤ m.log2 + e := by
  have h0 : m ≠ 0 := by rintro rfl; simp at h
  refine ⟨h0, ?_⟩
  rw [← log2_mul_pow h0]
  exact log2_ge h
theorem big_write {s : Bool} {m e p : Nat} (h : 2 ^ 53 ≤ m * 2 ^ e) {z : Int} (hz : z = sg s m * ((2 ^ (e + p) : Nat) : Int)) (b : Bool) :
    Big (double.read (double.write (.number (if z = 0 then b else decide (z < 0)) z.natAbs (-(p : Int))))) s := by
  obtain ⟨h0, hl⟩ := big_log h
  have hp := two_pow_pos_int (e + p)
  have e1 : z.natAbs = m * 2 ^ (e + p) := by rw [hz, Int.natAbs_mul, sg_abs, Int.natAbs_natCast]
  have hn : z.natAbs ≠ 0 := by rw [e1]; exact Nat.mul_ne_zero h0 (Nat.ne_of_gt (Nat.two_pow_pos _))
  have hs : decide (z < 0) = s := by
    cases s
    · have : 0 ≤ z := by rw [hz]; exact Int.mul_nonneg (by simp [sg]) (Int.le_of_lt hp)
      exact decide_eq_false (by omega)
    · have : z < 0 := by rw [hz]; exact Int.mul_neg_of_neg_of_pos (by simp [sg]; omega) hp
      exact decide_eq_true this
  rw [if_neg (by omega), hs, e1]
  refine big_nearest s (by rw [← e1]; exact hn) ?_
  rw [log2_mul_pow h0]
  omega
theorem big_sum {d e : Datum} {s t : Bool} (hd : Big d s) (he : Is e t 0) : ∃ r, (d.sum e).map double.write = some r ∧ Hu r s := by
  obtain ⟨p, rfl⟩ := he
  rcases hd with rfl | ⟨m, e, rfl, h⟩
  · exact ⟨double.word s double.infRung, rfl, .inl (by rw [d_inf, read_word s (by decide)]; rfl)⟩
  · unfold Datum.sum
    refine ⟨_, rfl, ?_⟩
    have hb : min ((e : Nat) : Int) (-(p : Int)) = -(p : Int) := by omega
    simp only [hb]
    refine big_write h ?_ _
    rw [signed_eq, signed_eq, Nat.zero_mul, show ((e : Int) - -(p : Int)).toNat = e + p by omega]
    simp [sg]
theorem big_sum' {d e : Datum} {s t : Bool} (hd : Big d s) (he : Is e t 0) : ∃ r, (e.sum d).map double.write = some r ∧ Hu r s := by
  obtain ⟨p, rfl⟩ := he
  rcases hd with rfl | ⟨m, e, rfl, h⟩
  · exact ⟨double.word s double.infRung, rfl, .inl (by rw [d_inf, read_word s (by decide)]; rfl)⟩
  · unfold Datum.sum
    refine ⟨_, rfl, ?_⟩
    have hb : min (-(p : Int)) ((e : Nat) : Int) = -(p : Int) := by omega
    simp only [hb]
    refine big_write h ?_ _
    rw [signed_eq, signed_eq, Nat.zero_mul, show ((e : Int) - -(p : Int)).toNat = e + p by omega]
    simp [sg]
theorem fl_zero {y : Nat} (h : Fl y 0) : ∃ t, Is (double.read y) t 0 := by
  obtain ⟨t, n, h1, h2⟩ := h
  have : n = 0 := by have := sg_abs t n; rw [h2] at this; simpa using this.symm
  subst this
  exact ⟨t, h1⟩
theorem hu_sub {x y : Nat} {s : Bool} (hx : Hu x s) (hy : Fl y 0) : ∃ r, floatBits .sub .f64 x y = some r ∧ Hu r s := by
  obtain ⟨t, h⟩ := fl_zero hy
  exact big_sum hx (is_opposite h)
theorem hu_add {x y : Nat} {s : Bool} (hx : Hu x s) (hy : Fl y 0) : ∃ r, floatBits .add .f64 y x = some r ∧ Hu r s := by
  obtain ⟨t, h⟩ := fl_zero hy
  exact big_sum' hx h
theorem hu_order {x y : Nat} {s : Bool} {b : Int} (hx : Hu x s) (hy : Fl y b) (h : b.natAbs < 2 ^ 53) : double.order x y = some (if s then .lt else .gt) ∧ double.order y x = some (if s then .gt else .lt) := by
  obtain ⟨t, n, ⟨p, e2⟩, rfl⟩ := hy
  rw [sg_abs] at h
  unfold Format.order
  rcases hx with e1 | ⟨m, e, e1, h1⟩
  · rw [e1, e2]; exact ⟨rfl, rfl⟩
  · rw [e1, e2]
    unfold Datum.order
    have hb : min ((e : Nat) : Int) (-(p : Int)) = -(p : Int) := by omega
    have hb' : min (-(p : Int)) ((e : Nat) : Int) = -(p : Int) := by omega
    have hq : (-(p : Int) - -(p : Int)).toNat = 0 := by omega
    have hr : ((e : Int) - -(p : Int)).toNat = e + p := by omega
    have e3 : signed s m (e + p) = sg s (m * 2 ^ e) * ((2 ^ p : Nat) : Int) := by
      rw [signed_eq, sg_pow, Int.mul_assoc, ← Int.natCast_mul, ← Nat.pow_add]
    have e4 : signed t (n * 2 ^ p) 0 = sg t n * ((2 ^ p : Nat) : Int) := by
      rw [signed_eq, sg_pow]; simp
    simp only [hb, hb', hq, hr, e3, e4, compare_mul_pos _ _ (two_pow_pos_int _)]
    generalize m * 2 ^ e = v at h1
    have hv : (2 ^ 53 : Int) ≤ (v : Int) := by exact_mod_cast h1
    have hn : (n : Int) < (2 ^ 53 : Int) := by exact_mod_cast h
    cases s
    · have : sg t n < sg false v := by unfold sg; cases t <;> simp <;> omega
      exact ⟨by rw [Int.compare_eq_gt.2 this]; rfl, by rw [Int.compare_eq_lt.2 this]; rfl⟩
    · have : sg true v < sg t n := by unfold sg; cases t <;> simp <;> omega
      exact ⟨by rw [Int.compare_eq_lt.2 this]; rfl, by rw [Int.compare_eq_gt.2 this]; rfl⟩
end Go.Proofs.YtkmfamidahlgiaaGreatDoor
