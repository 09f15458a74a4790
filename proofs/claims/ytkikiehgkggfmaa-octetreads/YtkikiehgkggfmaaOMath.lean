/- Words as bytes: seven digits a byte, the lowest first. No program in sight. -/
import Derived.Lib.ItoaNum
import Derived.Lib.BitFns
namespace Go.Proofs.Ytkikiehgkggfmaa
set_option linter.unusedVariables false
/-- a word as bytes -/
def enc (x : Nat) : List UInt8 := if h : x < 128 then [UInt8.ofNat x] else UInt8.ofNat (128 + x % 128) :: enc (x / 128)
termination_by x
decreasing_by omega
theorem enc_small {x : Nat} (h : x < 128) : enc x = [UInt8.ofNat x] := by rw [enc, dif_pos h]
theorem enc_big {x : Nat} (h : ¬ x < 128) : enc x = UInt8.ofNat (128 + x % 128) :: enc (x / 128) := by rw [enc, dif_neg h]
theorem byte_of {n : Nat} (h : n < 256) : (UInt8.ofNat n).toNat = n := by rw [UInt8.toNat_ofNat']; omega
theorem enc_pos (x : Nat) : 1 ≤ (enc x).length := by
  by_cases h : x < 128
  · rw [enc_small h]; simp
  · rw [enc_big h]; simp
/-- which word some bytes begin with; i: how many went ahead -/
def decAt (i : Nat) : List UInt8 → Option (Nat × Nat)
  | [] => none
  | c :: r => if (i = 9 ∧ 1 < c.toNat) ∨ (0 < i ∧ c.toNat = 0) then none else if c.toNat < 128 then some (c.toNat, 1) else (decAt (i + 1) r).map fun p => (c.toNat - 128 + 128 * p.1, p.2 + 1)
def dec (l : List UInt8) : Option (Nat × Nat) := decAt 0 l
theorem pow_step {i : Nat} (h : i ≤ 8) : 2 ^ (64 - 7 * i) = 128 * 2 ^ (64 - 7 * (i + 1)) := by
  rw [show 64 - 7 * i = (64 - 7 * (i + 1)) + 7 by omega, Nat.pow_add]
  omega
theorem pow_low {i : Nat} (h : i ≤ 8) : 256 ≤ 2 ^ (64 - 7 * i) := Nat.pow_le_pow_right (n := 2) (i := 8) (by decide) (by omega)
theorem dec_sound : ∀ (l : List UInt8) (i x n : Nat), i ≤ 9 → decAt i l = some (x, n) → l.take n = enc x ∧ n = (enc x).length ∧ n ≤ l.length ∧ x < 2 ^ (64 - 7 * i) ∧ (0 < i → 0 < x) ∧ n ≤ 10 - i
  | [], i, x, n, _, h => by simp [decAt] at h
  | c :: r, i, x, n, hi, h => by
    unfold decAt at h
    have hc := c.toNat_lt
    by_cases hbad : (i = 9 ∧ 1 < c.toNat) ∨ (0 < i ∧ c.toNat = 0)
    · rw [if_pos hbad] at h; cases h
    · rw [if_neg hbad] at h
      by_cases hs : c.toNat < 128
      · rw [if_pos hs] at h
        injection h with h
        injection h with h1 h2
        subst h1
        subst h2
        rw [enc_small hs]
        refine ⟨by simp, rfl, by simp, ?_, by omega, by omega⟩
        by_cases h9 : i = 9
        · subst h9; omega
        · have := pow_low (i := i) (by omega)
          omega
      · rw [if_neg hs] at h
        obtain ⟨⟨x', n'⟩, h1, h2⟩ := Option.map_eq_some_iff.1 h
        injection h2 with h3 h4
        have hi9 : i ≠ 9 := by omega
        obtain ⟨e1, e2, e3, e4, e5, e6⟩ := dec_sound r (i + 1) x' n' (by omega) h1
        have e5' := e5 (by omega)
        dsimp only at h3 h4
        have hx : ¬ x < 128 := by omega
        have hd : x / 128 = x' := by omega
        have hm : 128 + x % 128 = c.toNat := by omega
        rw [enc_big hx, hd, hm]
        refine ⟨?_, ?_, ?_, ?_, fun _ => by omega, by omega⟩
        · rw [← h4, List.take_succ_cons, e1]
          simp
        · rw [List.length_cons, ← e2, h4]
        · rw [List.length_cons]; omega
        · rw [pow_step (by omega)]; omega
theorem dec_complete : ∀ (x i : Nat) (r : List UInt8), i ≤ 9 → x < 2 ^ (64 - 7 * i) → (0 < i → 0 < x) → decAt i (enc x ++ r) = some (x, (enc x).length) := by
  intro x
  induction x using Nat.strongRecOn with
  | _ x ih =>
    intro i r hi hx h0
    by_cases hs : x < 128
    · rw [enc_small hs]
      unfold decAt
      simp only [List.cons_append, List.nil_append]
      rw [byte_of (by omega), if_neg, if_pos hs]
      · rfl
      · rintro (⟨rfl, h⟩ | ⟨h, h'⟩)
        · simp at hx; omega
        · have := h0 h; omega
    · have h9 : i ≠ 9 := by rintro rfl; simp at hx; omega
      rw [enc_big hs]
      have hp := pow_step (i := i) (by omega)
      have := ih (x / 128) (by omega) (i + 1) r (by omega) (by omega) (fun _ => by omega)
      simp only [List.cons_append]
      unfold decAt
      rw [byte_of (by omega), if_neg (by omega), if_neg (by omega), this]
      simp only [Option.map_some, List.length_cons, Option.some.injEq, Prod.mk.injEq, and_true]
      omega
theorem dec_enc (x : Nat) (r : List UInt8) (h : x < 18446744073709551616) : dec (enc x ++ r) = some (x, (enc x).length) := dec_complete x 0 r (by omega) (by simpa using h) (by omega)
theorem dec_is (l : List UInt8) (x n : Nat) (h : dec l = some (x, n)) : l.take n = enc x ∧ n = (enc x).length ∧ n ≤ l.length ∧ x < 18446744073709551616 ∧ 1 ≤ n ∧ n ≤ 10 := by
  obtain ⟨h1, h2, h3, h4, _, h6⟩ := dec_sound l 0 x n (by omega) h
  have := enc_pos x
  exact ⟨h1, h2, h3, by simpa using h4, by omega, by omega⟩
theorem enc_len (x : Nat) (h : x < 18446744073709551616) : (enc x).length ≤ 10 := (dec_is _ x _ (dec_enc x [] h)).2.2.2.2.2
/-- how long a word is -/
theorem enc_short : ∀ (m x : Nat), 1 ≤ m → x < 2 ^ (7 * m) → (enc x).length ≤ m := by
  intro m
  induction m with
  | zero => intro x h; omega
  | succ m ih =>
    intro x _ h
    by_cases hs : x < 128
    · rw [enc_small hs]; simp
    · rw [enc_big hs, List.length_cons]
      have e : 2 ^ (7 * (m + 1)) = 128 * 2 ^ (7 * m) := by rw [show 7 * (m + 1) = 7 * m + 7 by omega, Nat.pow_add]; omega
      by_cases hm : m = 0
      · subst hm; simp at h; omega
      · have := ih (x / 128) (by omega) (by omega)
        omega
theorem enc_long : ∀ (m x : Nat), 2 ^ (7 * m) ≤ x → m < (enc x).length := by
  intro m
  induction m with
  | zero => intro x _; exact enc_pos x
  | succ m ih =>
    intro x h
    have e : 2 ^ (7 * (m + 1)) = 128 * 2 ^ (7 * m) := by rw [show 7 * (m + 1) = 7 * m + 7 by omega, Nat.pow_add]; omega
    have hp : 0 < 2 ^ (7 * m) := Nat.two_pow_pos _
    have hs : ¬ x < 128 := by omega
    rw [enc_big hs, List.length_cons]
    have := ih (x / 128) (by omega)
    omega
theorem or_one (x : Nat) : x ||| 1 = if x % 2 = 1 then x else x + 1 := by
  apply Nat.eq_of_testBit_eq
  intro i
  rw [Nat.testBit_or]
  cases i with
  | zero => 
    split
    · simp [Nat.testBit_zero, *]
    · simp [Nat.testBit_zero]; omega
  | succ i =>
    rw [Nat.testBit_succ, Nat.testBit_succ, Nat.testBit_succ]
    simp only [show 1 / 2 = 0 by decide, Nat.zero_testBit, Bool.or_false]
    congr 1
    split <;> omega
theorem len_eq (x : Nat) (h : x < 18446744073709551616) : (Lib.bitLen (x ||| 1) + 7 - 1) / 7 = (enc x).length ∧ 1 ≤ Lib.bitLen (x ||| 1) ∧ Lib.bitLen (x ||| 1) ≤ 64 := by
  have ho := or_one x
  have hb : x ||| 1 < 18446744073709551616 := by rw [ho]; split <;> omega
  have h0 : x ||| 1 ≠ 0 := by rw [ho]; split <;> omega
  have hodd : (x ||| 1) % 2 = 1 := by rw [ho]; split <;> omega
  have hle : x ≤ x ||| 1 ∧ x ||| 1 ≤ x + 1 := by rw [ho]; split <;> omega
  have B := Lib.bitLenAux_bounds 64 (x ||| 1) (by simpa using hb) h0
  change 1 ≤ Lib.bitLen _ ∧ 2 ^ (Lib.bitLen _ - 1) ≤ _ ∧ _ < 2 ^ Lib.bitLen _ at B
  generalize x ||| 1 = y at *
  generalize Lib.bitLen y = L at *
  obtain ⟨b1, b2, b3⟩ := B
  have hL : L ≤ 64 := by
    rcases Nat.lt_or_ge 64 L with hh | hh
    · have : 2 ^ 64 ≤ 2 ^ (L - 1) := Nat.pow_le_pow_right (by decide) (by omega)
      have e : (2 : Nat) ^ 64 = 18446744073709551616 := rfl
      omega
    · exact hh
  refine ⟨?_, b1, hL⟩
  obtain ⟨m, hm⟩ : ∃ m, m = (L + 7 - 1) / 7 := ⟨_, rfl⟩
  rw [← hm]
  have h1 : (enc x).length ≤ m := enc_short m x (by omega) (Nat.lt_of_le_of_lt hle.1 (Nat.lt_of_lt_of_le b3 (Nat.pow_le_pow_right (by decide) (by omega))))
  have h2 : m - 1 < (enc x).length := by
    by_cases hm1 : m = 1
    · have := enc_pos x; omega
    · apply enc_long
      have h3 : 2 ^ (7 * (m - 1)) ≤ 2 ^ (L - 1) := Nat.pow_le_pow_right (by decide) (by omega)
      have h4 : 2 ^ (7 * (m - 1)) = 2 * 2 ^ (7 * (m - 1) - 1) := by rw [← Nat.pow_succ']; congr 1; omega
      omega
  omega
/-- numbers as words -/
def zig (n : Int) : Nat := if n < 0 then (2 * (-(n + 1)) + 1).toNat else (2 * n).toNat
def zag (x : Nat) : Int := if x % 2 = 1 then -((x / 2 : Nat) : Int) - 1 else ((x / 2 : Nat) : Int)
theorem zig_lt (n : Int) (h0 : -9223372036854775808 ≤ n) (h1 : n ≤ 9223372036854775807) : zig n < 18446744073709551616 := by unfold zig; split <;> omega
theorem zag_bound (x : Nat) (h : x < 18446744073709551616) : -9223372036854775808 ≤ zag x ∧ zag x ≤ 9223372036854775807 := by unfold zag; split <;> omega
theorem zag_zig (n : Int) : zag (zig n) = n := by unfold zag zig; split <;> split <;> omega
theorem zig_zag (x : Nat) : zig (zag x) = x := by unfold zag zig; split <;> split <;> omega
/-- a list as bytes -/
def encs (l : List Int) : List UInt8 := l.flatMap fun n => enc (zig n)
def encL (l : List Int) : List UInt8 := enc l.length ++ encs l
/-- so many numbers at the front -/
def decN : Nat → List UInt8 → Option (List Int × Nat)
  | 0, _ => some ([], 0)
  | k + 1, l => match dec l with
    | none => none
    | some (x, n) => (decN k (l.drop n)).map fun p => (zag x :: p.1, n + p.2)
def decL (l : List UInt8) (most : Int) : Option (List Int × Nat) × Nat :=
  match dec l with
  | none => (none, 20)
  | some (x, n) => if most < 0 ∨ most < x then (none, 21) else match decN x (l.drop n) with
    | none => (none, 20)
    | some (zs, m) => (some (zs, n + m), 0)
theorem encs_cons (n : Int) (l : List Int) : encs (n :: l) = enc (zig n) ++ encs l := by simp [encs]
theorem encs_snoc (l : List Int) (n : Int) : encs (l ++ [n]) = encs l ++ enc (zig n) := by simp [encs]
def okI64 (n : Int) : Prop := -9223372036854775808 ≤ n ∧ n ≤ 9223372036854775807
theorem decN_encs : ∀ (l : List Int) (r : List UInt8), (∀ n ∈ l, okI64 n) → decN l.length (encs l ++ r) = some (l, (encs l).length)
  | [], r, _ => by simp [decN, encs]
  | n :: l, r, h => by
    obtain ⟨h1, h2⟩ := h n (by simp)
    have ih := decN_encs l r fun m hm => h m (by simp [hm])
    rw [encs_cons, List.append_assoc, List.length_cons]
    unfold decN
    rw [dec_enc _ _ (zig_lt n h1 h2)]
    simp only
    rw [List.drop_left, ih, zag_zig]
    simp
theorem decN_is : ∀ (k : Nat) (l : List UInt8) (zs : List Int) (n : Nat), decN k l = some (zs, n) → l.take n = encs zs ∧ n = (encs zs).length ∧ n ≤ l.length ∧ zs.length = k
  | 0, l, zs, n, h => by
    simp [decN] at h
    obtain ⟨rfl, rfl⟩ := h
    simp [encs]
  | k + 1, l, zs, n, h => by
    unfold decN at h
    cases hd : dec l with
    | none => rw [hd] at h; cases h
    | some p =>
      obtain ⟨x, m⟩ := p
      rw [hd] at h
      simp only at h
      obtain ⟨⟨zs', m'⟩, h1, h2⟩ := Option.map_eq_some_iff.1 h
      injection h2 with h3 h4
      dsimp only at h3 h4
      obtain ⟨e1, e2, e3, e4⟩ := decN_is k (l.drop m) zs' m' h1
      obtain ⟨d1, d2, d3, d4, d5, d6⟩ := dec_is l x m hd
      subst h3
      subst h4
      rw [encs_cons, zig_zag]
      refine ⟨?_, ?_, ?_, by simp [e4]⟩
      · rw [List.take_add, d1, e1]
      · rw [List.length_append, ← d2, ← e2]
      · rw [List.length_drop] at e3; omega
end Go.Proofs.Ytkikiehgkggfmaa
