/- Groups as words: which numbers are in one. No program in sight. -/
import Derived.Lib.TrailingZeros
namespace Go.Proofs.YtkmfamidahlgiaaGreatDoor
set_option linter.unusedVariables false
/-- the numbers in a word, rising -/
def bitsOf (x : Nat) : List Nat := (List.range 64).filter fun i => x.testBit i
theorem mem_bits {x i : Nat} : i ∈ bitsOf x ↔ i < 64 ∧ x.testBit i = true := by simp [bitsOf]
theorem bits_zero : bitsOf 0 = [] := by simp [bitsOf]
theorem bits_len (x : Nat) : (bitsOf x).length ≤ 64 := by
  have := List.length_filter_le (fun i => x.testBit i) (List.range 64)
  simpa [bitsOf] using this
theorem bits_sorted (x : Nat) : (bitsOf x).Pairwise (· < ·) := List.Pairwise.filter _ List.pairwise_lt_range
theorem bits_lt {x j : Nat} (h : j < (bitsOf x).length) : (bitsOf x)[j] < 64 := (mem_bits.1 (List.getElem_mem h)).1
theorem bits_mono {x j k : Nat} (hk : k < (bitsOf x).length) (h : j < k) : (bitsOf x)[j] < (bitsOf x)[k] := List.pairwise_iff_getElem.1 (bits_sorted x) j k (by omega) hk h
abbrev M64 : Nat := 18446744073709551616
/-- those of x that are not in y -/
def lessN (x y : Nat) : Nat := x &&& (18446744073709551615 - y)
theorem testBit_less {x y i : Nat} (hy : y < 18446744073709551616) (hi : i < 64) : (lessN x y).testBit i = (x.testBit i && !y.testBit i) := by
  unfold lessN
  rw [Nat.testBit_and, show 18446744073709551615 - y = 2 ^ 64 - (y + 1) by omega, Nat.testBit_two_pow_sub_succ (by simpa using hy)]
  simp [hi]
theorem less_lt {x y : Nat} (h : x < 18446744073709551616) : lessN x y < 18446744073709551616 := Nat.lt_of_le_of_lt Nat.and_le_left h
theorem and_lt {x y : Nat} (h : x < 18446744073709551616) : x &&& y < 18446744073709551616 := Nat.lt_of_le_of_lt Nat.and_le_left h
theorem or_lt {x y : Nat} (h : x < 18446744073709551616) (h' : y < 18446744073709551616) : x ||| y < 18446744073709551616 := Nat.or_lt_two_pow (n := 64) h h'
theorem eq_of_bits {x y : Nat} (hx : x < 18446744073709551616) (hy : y < 18446744073709551616) (h : ∀ i, i < 64 → x.testBit i = y.testBit i) : x = y := by
  apply Nat.eq_of_testBit_eq
  intro i
  by_cases hi : i < 64
  · exact h i hi
  · rw [Nat.testBit_lt_two_pow (Nat.lt_of_lt_of_le hx (Nat.pow_le_pow_right (n := 2) (by decide) (show 64 ≤ i by omega))), Nat.testBit_lt_two_pow (Nat.lt_of_lt_of_le hy (Nat.pow_le_pow_right (n := 2) (by decide) (show 64 ≤ i by omega)))]
theorem bits_empty {x : Nat} (hx : x < 18446744073709551616) (h : bitsOf x = []) : x = 0 := by
  refine eq_of_bits hx (by decide) fun i hi => ?_
  rw [Nat.zero_testBit]
  cases e : x.testBit i
  · rfl
  · have := mem_bits.2 ⟨hi, e⟩; rw [h] at this; cases this
/-- the least one -/
theorem bits_head {x : Nat} (hx : x < 18446744073709551616) (h0 : x ≠ 0) : (bitsOf x).head? = some (Lib.ctz 64 x) ∧ Lib.ctz 64 x < 64 := by
  obtain ⟨m, hm, hk⟩ := Lib.ctzFrom_spec 64 x (by omega) (by simpa using hx)
  have e : Lib.ctz 64 x = Lib.ctzFrom 64 x := by simp [Lib.ctz, h0]
  rw [e]
  refine ⟨?_, hk⟩
  generalize Lib.ctzFrom 64 x = k at *
  have low : ∀ j, j < k → x.testBit j = false := by
    intro j hj
    rw [hm, Nat.mul_comm, Nat.testBit_mul_two_pow]
    simp; omega
  have at_k : x.testBit k = true := by
    rw [hm, Nat.mul_comm, Nat.testBit_mul_two_pow]
    simp
  have hmem := mem_bits.2 ⟨hk, at_k⟩
  cases hl : bitsOf x with
  | nil => rw [hl] at hmem; cases hmem
  | cons a l =>
    have hs := bits_sorted x
    have ha : a ∈ bitsOf x := by rw [hl]; simp
    rw [hl] at hs hmem
    have h1 := mem_bits.1 ha
    rcases List.mem_cons.1 hmem with e | e
    · rw [e]; rfl
    · have := (List.pairwise_cons.1 hs).1 k e
      rw [low a this] at h1
      cases h1.2
/-- the k least numbers -/
theorem testBit_full {k i : Nat} : (2 ^ k - 1).testBit i = decide (i < k) := Nat.testBit_two_pow_sub_one k i
theorem full_lt {k : Nat} (h : k ≤ 64) : 2 ^ k - 1 < 18446744073709551616 := by
  have := Nat.pow_le_pow_right (n := 2) (by decide) h
  have e : (2 : Nat) ^ 64 = 18446744073709551616 := rfl
  omega
theorem bits_above {x k : Nat} (hk : k ≤ 64) : bitsOf (lessN x (2 ^ k - 1)) = (bitsOf x).filter fun j => decide (k ≤ j) := by
  unfold bitsOf
  rw [List.filter_filter]
  apply List.filter_congr
  intro i hi
  have hi' : i < 64 := by simpa using hi
  rw [testBit_less (full_lt hk) hi', testBit_full]
  by_cases h : i < k <;> simp [h] <;> omega
/-- how many, by places -/
def cn (x : Nat) : Nat → Nat
  | 0 => 0
  | n + 1 => cn x n + (if x.testBit n then 1 else 0)
theorem cn_filter (x n : Nat) : ((List.range n).filter fun i => x.testBit i).length = cn x n := by
  induction n with
  | zero => rfl
  | succ n ih =>
    rw [List.range_succ, List.filter_append, List.length_append, ih, cn, List.filter_cons]
    cases e : x.testBit n <;> simp
theorem cn_add (x m n : Nat) : cn x (m + n) = cn x m + cn (x / 2 ^ m) n := by
  induction n with
  | zero => rfl
  | succ n ih =>
    rw [← Nat.add_assoc, cn, ih, cn, Nat.testBit_div_two_pow, Nat.add_comm m n]
    omega
theorem cn_mod (x : Nat) : cn x 8 = cn (x % 256) 8 := by
  have h : ∀ i, i < 8 → (x % 256).testBit i = x.testBit i := by
    intro i hi
    rw [show (256 : Nat) = 2 ^ 8 from rfl, Nat.testBit_mod_two_pow]
    simp [hi]
  simp only [cn, h 0 (by omega), h 1 (by omega), h 2 (by omega), h 3 (by omega), h 4 (by omega), h 5 (by omega), h 6 (by omega), h 7 (by omega)]
theorem len3 (p q r : Nat → Bool) (l : List Nat) (h : ∀ i ∈ l, (p i).toNat = (q i).toNat + (r i).toNat) : (l.filter p).length = (l.filter q).length + (l.filter r).length := by
  induction l with
  | nil => rfl
  | cons a l ih =>
    have ih' := ih fun i hi => h i (List.mem_cons_of_mem _ hi)
    have ha := h a List.mem_cons_self
    rw [List.filter_cons, List.filter_cons, List.filter_cons]
    cases hp : p a <;> cases hq : q a <;> cases hr : r a <;> simp [hp, hq, hr] at ha ⊢ <;> omega
theorem len_or (x y : Nat) (hy : y < 18446744073709551616) : (bitsOf (x ||| y)).length = (bitsOf (lessN x y)).length + (bitsOf y).length := by
  refine len3 _ _ _ _ fun i hi => ?_
  rw [testBit_less hy (by simpa using hi), Nat.testBit_or]
  cases x.testBit i <;> cases y.testBit i <;> rfl
theorem len_and (x y : Nat) (hy : y < 18446744073709551616) : (bitsOf x).length = (bitsOf (x &&& y)).length + (bitsOf (lessN x y)).length := by
  refine len3 _ _ _ _ fun i hi => ?_
  rw [testBit_less hy (by simpa using hi), Nat.testBit_and]
  cases x.testBit i <;> cases y.testBit i <;> rfl
theorem and_less (x y : Nat) (hx : x < 18446744073709551616) (hy : y < 18446744073709551616) : (x &&& y) &&& lessN x y = 0 := by
  refine eq_of_bits (and_lt (and_lt hx)) (by decide) fun i hi => ?_
  rw [Nat.testBit_and, Nat.testBit_and, testBit_less hy hi, Nat.zero_testBit]
  cases x.testBit i <;> cases y.testBit i <;> rfl
theorem or_less (x y : Nat) (hx : x < 18446744073709551616) (hy : y < 18446744073709551616) : (x &&& y) ||| lessN x y = x := by
  refine eq_of_bits (or_lt (and_lt hx) (less_lt hx)) hx fun i hi => ?_
  rw [Nat.testBit_or, Nat.testBit_and, testBit_less hy hi]
  cases x.testBit i <;> cases y.testBit i <;> rfl
theorem less_and (x y : Nat) (hx : x < 18446744073709551616) (hy : y < 18446744073709551616) : lessN (x &&& y) y = 0 := by
  refine eq_of_bits (less_lt (and_lt hx)) (by decide) fun i hi => ?_
  rw [testBit_less hy hi, Nat.testBit_and, Nat.zero_testBit]
  cases x.testBit i <;> cases y.testBit i <;> rfl
theorem less_or (x y : Nat) (hx : x < 18446744073709551616) (hy : y < 18446744073709551616) : lessN x (x ||| y) = 0 := by
  refine eq_of_bits (less_lt hx) (by decide) fun i hi => ?_
  rw [testBit_less (or_lt hx hy) hi, Nat.testBit_or, Nat.zero_testBit]
  cases x.testBit i <;> cases y.testBit i <;> rfl
/-- the next one behind place k is the one at k + 1 -/
theorem find_next {l : List Nat} (hs : l.Pairwise (· < ·)) : ∀ (k : Nat) (h : k < l.length), l.find? (fun j => decide (l[k] < j)) = l[k + 1]? := by
  induction l with
  | nil => intro k h; cases h
  | cons a l ih =>
    intro k h
    obtain ⟨h1, h2⟩ := List.pairwise_cons.1 hs
    cases k with
    | zero =>
      simp only [List.getElem_cons_zero, List.find?_cons, Nat.lt_irrefl, decide_false, List.getElem?_cons_succ]
      cases l with
      | nil => rfl
      | cons b l => simp [h1 b List.mem_cons_self]
    | succ k =>
      have hk : k < l.length := by simpa using h
      have := h1 l[k] (List.getElem_mem hk)
      simp only [List.getElem_cons_succ, List.find?_cons, List.getElem?_cons_succ]
      rw [show decide (l[k] < a) = false by simp; omega]
      exact ih h2 k hk
end Go.Proofs.YtkmfamidahlgiaaGreatDoor
