/- Plain facts on capacities (powers of two from 2 to 2^30), slots and rounds. No program in sight. -/
import Derived.Test.YtkmfamidahlgiaaGreatDoorWMath
namespace Go.Proofs.YtkmfamidahlgiaaGreatDoor
open Go.RowKit
set_option linter.unusedVariables false
/-- is it a power of two from 2 to 2^30? -/
def rightB (c : Int) : Bool := (List.range 30).any fun k => c == 2 ^ (k + 1)
theorem rightB_iff (c : Int) : rightB c = true ↔ ∃ k : Nat, k < 30 ∧ c = 2 ^ (k + 1) := by
  simp [rightB, List.any_eq_true]
theorem right_cases {c : Int} (h : rightB c = true) : c = 2 ∨ c = 4 ∨ c = 8 ∨ c = 16 ∨ c = 32 ∨ c = 64 ∨ c = 128 ∨ c = 256 ∨ c = 512 ∨ c = 1024 ∨ c = 2048 ∨ c = 4096 ∨ c = 8192 ∨ c = 16384 ∨ c = 32768 ∨ c = 65536 ∨ c = 131072 ∨ c = 262144 ∨ c = 524288 ∨ c = 1048576 ∨ c = 2097152 ∨ c = 4194304 ∨ c = 8388608 ∨ c = 16777216 ∨ c = 33554432 ∨ c = 67108864 ∨ c = 134217728 ∨ c = 268435456 ∨ c = 536870912 ∨ c = 1073741824 := by
  obtain ⟨k, hk, rfl⟩ := (rightB_iff c).1 h
  clear h
  revert k
  decide
theorem right_range {c : Int} (h : rightB c = true) : 2 ≤ c ∧ c ≤ 1073741824 := by
  have := right_cases h
  omega
theorem right_no_lo {c : Int} (h : c < 2) : rightB c = false := by
  rw [Bool.eq_false_iff]; intro hr; have := right_range hr; omega
theorem right_no_hi {c : Int} (h : 1073741824 < c) : rightB c = false := by
  rw [Bool.eq_false_iff]; intro hr; have := right_range hr; omega
theorem and_i64_nat (a b : Nat) (ha : a < 9223372036854775808) (hb : b < 9223372036854775808) : bits .and .i64 (a : Int) (b : Int) = ((a &&& b : Nat) : Int) := by
  have hx : a &&& b < 2 ^ 63 := Nat.and_lt_two_pow _ (by omega)
  have h1 : (BitVec.ofInt 64 (a : Int)).toNat = a := by
    rw [BitVec.ofInt_natCast, BitVec.toNat_ofNat]; exact Nat.mod_eq_of_lt (by omega)
  have h2 : (BitVec.ofInt 64 (b : Int)).toNat = b := by
    rw [BitVec.ofInt_natCast, BitVec.toNat_ofNat]; exact Nat.mod_eq_of_lt (by omega)
  show IntKind.i64.wrap ((BitVec.ofInt 64 (a : Int) &&& BitVec.ofInt 64 (b : Int)).toNat : Int) = _
  rw [BitVec.toNat_and, h1, h2, IntKind.wrap_i64]
  omega
theorem and_right {c : Int} (h0 : 2 ≤ c) (h1 : c ≤ 1073741824) : (bits .and .i64 c (c - 1) == 0) = rightB c := by
  obtain ⟨n, rfl⟩ := Int.eq_ofNat_of_zero_le (show (0 : Int) ≤ c by omega)
  have e : ((n : Int) - 1) = ((n - 1 : Nat) : Int) := by omega
  rw [e, and_i64_nat n (n - 1) (by omega) (by omega), Bool.eq_iff_iff, rightB_iff]
  simp only [beq_iff_eq, Int.natCast_eq_zero]
  rw [Nat.and_sub_one_eq_zero_iff_isPowerOfTwo (by omega)]
  constructor
  · rintro ⟨k, rfl⟩
    have hk : k ≠ 0 := by rintro rfl; simp at h0
    have hk2 : k < 31 := by
      by_cases hlt : k < 31
      · exact hlt
      · have : 2 ^ 31 ≤ 2 ^ k := Nat.pow_le_pow_right (by omega) (by omega)
        omega
    exact ⟨k - 1, by omega, by rw [show k - 1 + 1 = k by omega]; simp⟩
  · rintro ⟨k, _, hk⟩
    exact ⟨k + 1, by exact_mod_cast hk⟩
/-! the document's loop over powers -/
def Rst (c m : Int) : Prop := rightB m = true ∧ (m = 2 ∨ m < 2 * c)
theorem rst_start (c : Int) : Rst c 2 := ⟨by decide, Or.inl rfl⟩
theorem rst_range {c m : Int} (h : Rst c m) : 2 ≤ m ∧ m ≤ 1073741824 := right_range h.1
theorem rst_step {c m : Int} (h : Rst c m) (h1 : m < c) (h2 : m < 1073741824) : Rst c (2 * m) := by
  refine ⟨?_, Or.inr (by omega)⟩
  have hm := h.1
  rcases right_cases hm with rfl | rfl | rfl | rfl | rfl | rfl | rfl | rfl | rfl | rfl | rfl | rfl | rfl | rfl | rfl | rfl | rfl | rfl | rfl | rfl | rfl | rfl | rfl | rfl | rfl | rfl | rfl | rfl | rfl | rfl
  all_goals first | rfl | omega
theorem rst_end {c m : Int} (h : Rst c m) (h1 : ¬ (m < c ∧ m < 1073741824)) : (m == c) = rightB c := by
  by_cases e : m = c
  · subst e; rw [h.1]; simp
  · rw [beq_eq_false_iff_ne.2 e, eq_comm, Bool.eq_false_iff]
    intro hc
    have h2 := h.2
    have hm := h.1
    have hcc := right_cases hc
    clear h hc
    rcases right_cases hm with rfl | rfl | rfl | rfl | rfl | rfl | rfl | rfl | rfl | rfl | rfl | rfl | rfl | rfl | rfl | rfl | rfl | rfl | rfl | rfl | rfl | rfl | rfl | rfl | rfl | rfl | rfl | rfl | rfl | rfl
    all_goals omega
/-! powers, one by one -/
def Pw (m : Nat) : Int := 2 ^ m
theorem Pw_succ (m : Nat) : Pw (m + 1) = 2 * Pw m := by unfold Pw; rw [Int.pow_succ]; omega
theorem Pw_zero : Pw 0 = 1 := rfl
theorem Pw_mono {a b : Nat} (h : a ≤ b) : Pw a ≤ Pw b := by
  unfold Pw; exact_mod_cast Nat.pow_le_pow_right (by omega) h
theorem Pw_pos (m : Nat) : 1 ≤ Pw m := Pw_mono (Nat.zero_le m)
theorem Pw_le {m : Nat} (h : m ≤ 30) : Pw m ≤ 1073741824 := Pw_mono h
theorem Pw_lt {a b : Nat} (h : a < b) : Pw a < Pw b := by
  have h1 := Pw_mono (show a + 1 ≤ b from h)
  have := Pw_succ a
  have := Pw_pos a
  omega
theorem Pw_right {m : Nat} (h : m < 30) : rightB (Pw (m + 1)) = true := (rightB_iff _).2 ⟨m, h, rfl⟩
theorem right_Pw {c : Int} (h : rightB c = true) : ∃ k : Nat, k < 30 ∧ c = Pw (k + 1) := (rightB_iff c).1 h
theorem shl_Pw {k : Nat} (h : k < 30) : wrap64 (2 * 2 ^ k) = Pw (k + 1) := by
  have e : (2 : Int) * 2 ^ k = Pw (k + 1) := by rw [Pw_succ]; rfl
  have h1 := Pw_le (show k + 1 ≤ 30 by omega)
  have h2 := Pw_pos (k + 1)
  rw [e]; unfold wrap64; omega
/-! slots and rounds -/
theorem mod32_mod {c : Int} (h : rightB c = true) (x : Int) : x % 4294967296 % c = x % c := by
  rcases right_cases h with rfl | rfl | rfl | rfl | rfl | rfl | rfl | rfl | rfl | rfl | rfl | rfl | rfl | rfl | rfl | rfl | rfl | rfl | rfl | rfl | rfl | rfl | rfl | rfl | rfl | rfl | rfl | rfl | rfl | rfl
  all_goals omega
theorem mod64_mod {c : Int} (h : rightB c = true) (x : Int) : U64 x % c = x % c := by
  unfold U64
  rcases right_cases h with rfl | rfl | rfl | rfl | rfl | rfl | rfl | rfl | rfl | rfl | rfl | rfl | rfl | rfl | rfl | rfl | rfl | rfl | rfl | rfl | rfl | rfl | rfl | rfl | rfl | rfl | rfl | rfl | rfl | rfl
  all_goals omega
theorem first_unique {c : Int} (h : rightB c = true) (p s i : Int) (hs : 0 ≤ s) (hs' : s < c) (hi : 0 ≤ i) (hi' : i < c) : (p + i) % c = s ↔ i = (s - p) % c := by
  rcases right_cases h with rfl | rfl | rfl | rfl | rfl | rfl | rfl | rfl | rfl | rfl | rfl | rfl | rfl | rfl | rfl | rfl | rfl | rfl | rfl | rfl | rfl | rfl | rfl | rfl | rfl | rfl | rfl | rfl | rfl | rfl
  all_goals omega
theorem first_range {c : Int} (h : rightB c = true) (p s : Int) : 0 ≤ (s - p) % c ∧ (s - p) % c < c := by
  have := right_range h
  exact ⟨Int.emod_nonneg _ (by omega), Int.emod_lt_of_pos _ (by omega)⟩
theorem slot_range {c : Int} (h : rightB c = true) (p : Int) : 0 ≤ p % c ∧ p % c < c := by
  have := right_range h
  exact ⟨Int.emod_nonneg _ (by omega), Int.emod_lt_of_pos _ (by omega)⟩
theorem round_le {c : Int} (h : rightB c = true) (p : Int) (h0 : 0 ≤ p) : 0 ≤ p / c ∧ p / c ≤ p := by
  have := right_range h
  exact ⟨Int.ediv_nonneg h0 (by omega), Int.ediv_le_self _ h0⟩
theorem at_back32 {c : Int} (h : rightB c = true) (p : Int) (h0 : 0 ≤ p) (h1 : p < 4294967296) : (p / c * c + p % c) % 4294967296 = p := by
  rw [Int.mul_comm, Int.mul_ediv_add_emod]; omega
theorem at_back64 {c : Int} (h : rightB c = true) (p : Int) (h0 : 0 ≤ p) (h1 : p < 18446744073709551616) : U64 (p / c * c + p % c) = p := by
  rw [Int.mul_comm, Int.mul_ediv_add_emod]; unfold U64; omega
theorem round_mod32 {c : Int} (h : rightB c = true) (r s : Int) : (r % 4294967296 * c + s) % 4294967296 = (r * c + s) % 4294967296 := by
  rcases right_cases h with rfl | rfl | rfl | rfl | rfl | rfl | rfl | rfl | rfl | rfl | rfl | rfl | rfl | rfl | rfl | rfl | rfl | rfl | rfl | rfl | rfl | rfl | rfl | rfl | rfl | rfl | rfl | rfl | rfl | rfl
  all_goals omega
theorem apart {c : Int} (h : rightB c = true) (p n : Int) (h0 : 0 ≤ n) (h1 : n < c) : (p % c == (p + n) % c) = (n == 0) := by
  rw [Bool.eq_iff_iff, beq_iff_eq, beq_iff_eq]
  rcases right_cases h with rfl | rfl | rfl | rfl | rfl | rfl | rfl | rfl | rfl | rfl | rfl | rfl | rfl | rfl | rfl | rfl | rfl | rfl | rfl | rfl | rfl | rfl | rfl | rfl | rfl | rfl | rfl | rfl | rfl | rfl
  all_goals omega
theorem apart' {c : Int} (h : rightB c = true) (p n : Int) : (p % c == (p + n) % c) = (n % c == 0) := by
  rw [Bool.eq_iff_iff, beq_iff_eq, beq_iff_eq]
  rcases right_cases h with rfl | rfl | rfl | rfl | rfl | rfl | rfl | rfl | rfl | rfl | rfl | rfl | rfl | rfl | rfl | rfl | rfl | rfl | rfl | rfl | rfl | rfl | rfl | rfl | rfl | rfl | rfl | rfl | rfl | rfl
  all_goals omega
theorem next_slot {c : Int} (h : rightB c = true) (p : Int) : (p + c) % c = p % c := by
  simp
theorem next_round32 {c : Int} (h : rightB c = true) (p : Int) (h0 : 0 ≤ p) (h1 : p < 4294967296) : ((p + c) % 4294967296 / c == p / c) = false := by
  rw [beq_eq_false_iff_ne]
  rcases right_cases h with rfl | rfl | rfl | rfl | rfl | rfl | rfl | rfl | rfl | rfl | rfl | rfl | rfl | rfl | rfl | rfl | rfl | rfl | rfl | rfl | rfl | rfl | rfl | rfl | rfl | rfl | rfl | rfl | rfl | rfl
  all_goals omega
theorem next_round64 {c : Int} (h : rightB c = true) (p : Int) (h0 : 0 ≤ p) (h1 : p < 18446744073709551616) : (U64 (p + c) / c == p / c) = false := by
  rw [beq_eq_false_iff_ne]
  unfold U64
  rcases right_cases h with rfl | rfl | rfl | rfl | rfl | rfl | rfl | rfl | rfl | rfl | rfl | rfl | rfl | rfl | rfl | rfl | rfl | rfl | rfl | rfl | rfl | rfl | rfl | rfl | rfl | rfl | rfl | rfl | rfl | rfl
  all_goals omega
end Go.Proofs.YtkmfamidahlgiaaGreatDoor
