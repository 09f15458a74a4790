/- Contracts of group's functions. -/
import Derived.Test.YtkmfamidahlgiaaGreatDoorRows
import Derived.Test.YtkmfamidahlgiaaGreatDoorGSwar
import Derived.WalkKit
import Derived.ProofKit
import Derived.Laws.Bits64b
import Derived.Laws.BitsAll
import Derived.Lib.TrailingZeros
import Derived.Lib.Hide
import Derived.Test.YtkmfamidahlgiaaGreatDoorExt
namespace Go.Proofs.YtkmfamidahlgiaaGreatDoor
open Go.RowKit
set_option linter.unusedVariables false
set_option maxHeartbeats 400000
theorem gBoth (x y : Nat) (w : World) (hx : x < 18446744073709551616) (hy : y < 18446744073709551616) : Calls Tryz.prog 175 #[.int .u64 x, .int .u64 y] w fun e w' => e = .returned (.int .u64 ((x &&& y : Nat) : Int)) ∧ w = w' := by
  have h := bits_and_u64_nat x y hx hy
  go_enter Tryz.func175, Tryz.ntmps175
  go_wp2
  go_ret
  exact ⟨rfl, rfl⟩
theorem gEither (x y : Nat) (w : World) (hx : x < 18446744073709551616) (hy : y < 18446744073709551616) : Calls Tryz.prog 186 #[.int .u64 x, .int .u64 y] w fun e w' => e = .returned (.int .u64 ((x ||| y : Nat) : Int)) ∧ w = w' := by
  have h := bits_or_u64_nat x y hx hy
  go_enter Tryz.func186, Tryz.ntmps186
  go_wp2
  go_ret
  exact ⟨rfl, rfl⟩
theorem gLess (x y : Nat) (w : World) (hx : x < 18446744073709551616) (hy : y < 18446744073709551616) : Calls Tryz.prog 154 #[.int .u64 x, .int .u64 y] w fun e w' => e = .returned (.int .u64 ((lessN x y : Nat) : Int)) ∧ w = w' := by
  have h : bits .andNot .u64 (x : Int) (y : Int) = ((lessN x y : Nat) : Int) := u64_andNot_nat x y hx hy
  go_enter Tryz.func154, Tryz.ntmps154
  go_wp2
  go_ret
  exact ⟨rfl, rfl⟩
theorem gInside (x y : Nat) (w : World) (hx : x < 18446744073709551616) (hy : y < 18446744073709551616) : Calls Tryz.prog 171 #[.int .u64 x, .int .u64 y] w fun e w' => e = .returned (.bool (((lessN x y : Nat) : Int) == 0)) ∧ w = w' := by
  go_enter Tryz.func171, Tryz.ntmps171
  go_wp2_with fail
  refine (gLess _ _ _ hx hy).mono ?_
  rintro e w' ⟨rfl, rfl⟩
  go_wp2
  go_ret
  exact ⟨rfl, rfl⟩
theorem gRight (i : Int) (w : World) : Calls Tryz.prog 177 #[.int .i64 i] w fun e w' => e = .returned (.bool (decide (0 ≤ i) && decide (i < 64))) ∧ w = w' := by
  by_cases h : 0 ≤ i
  · have d : decide (0 ≤ i) = true := by simpa using h
    go_enter Tryz.func177, Tryz.ntmps177
    go_wp2
    go_ret
    simp [h]
  · have d : decide (0 ≤ i) = false := by simpa using h
    go_enter Tryz.func177, Tryz.ntmps177
    go_wp2
    go_ret
    simp
theorem gOne_no (i : Int) (w : World) (h : ¬ (0 ≤ i ∧ i < 64)) : Calls Tryz.prog 155 #[.int .i64 i] w fun e w' => e = .returned (.int .u64 ((0 : Nat) : Int)) ∧ w = w' := by
  have d : (decide (0 ≤ i) && decide (i < 64)) = false := by
    rw [Bool.and_eq_false_iff]; simp; omega
  go_enter Tryz.func155, Tryz.ntmps155
  go_wp2_with fail
  refine (gRight _ _).mono ?_
  rw [d]
  rintro e w' ⟨rfl, rfl⟩
  go_wp2
  go_ret
  exact ⟨rfl, rfl⟩
theorem gOne_yes (i : Nat) (w : World) (h : i < 64) : Calls Tryz.prog 155 #[.int .i64 i] w fun e w' => e = .returned (.int .u64 ((2 ^ i : Nat) : Int)) ∧ w = w' := by
  have d : (decide (0 ≤ (i : Int)) && decide ((i : Int) < 64)) = true := by simp; omega
  go_enter Tryz.func155, Tryz.ntmps155
  go_wp2_with fail
  refine (gRight _ _).mono ?_
  rw [d]
  rintro e w' ⟨rfl, rfl⟩
  have hp : IntKind.u64.wrap (2 ^ i) = ((2 ^ i : Nat) : Int) := by
    have h1 : (2 : Nat) ^ i ≤ 2 ^ 63 := Nat.pow_le_pow_right (by decide) (by omega)
    have h2 : ((2 ^ i : Nat) : Int) = (2 : Int) ^ i := by simp
    have e63 : (2 : Nat) ^ 63 = 9223372036854775808 := rfl
    rw [IntKind.wrap_u64, ← h2]
    generalize (2 : Nat) ^ i = p at *
    omega
  go_wp2
  go_ret
  exact ⟨rfl, rfl⟩
theorem full_wrap (k : Nat) (h : k ≤ 64) : IntKind.u64.wrap (IntKind.u64.wrap (2 ^ k) - 1) = ((2 ^ k - 1 : Nat) : Int) := by
  have h0 : 0 < (2 : Nat) ^ k := Nat.two_pow_pos k
  have h2 : ((2 ^ k : Nat) : Int) = (2 : Int) ^ k := by simp
  rw [IntKind.wrap_u64, IntKind.wrap_u64, ← h2]
  by_cases e : k = 64
  · subst e; decide
  · have h1 : (2 : Nat) ^ k ≤ 2 ^ 63 := Nat.pow_le_pow_right (by decide) (by omega)
    have e63 : (2 : Nat) ^ 63 = 9223372036854775808 := rfl
    generalize (2 : Nat) ^ k = p at *
    omega
theorem gFull (n : Int) (k : Nat) (w : World) (hk : min (max n 0) 64 = k) : Calls Tryz.prog 150 #[.int .i64 n] w fun e w' => e = .returned (.int .u64 ((2 ^ k - 1 : Nat) : Int)) ∧ w = w' := by
  have hp := full_wrap k (by omega)
  by_cases h0 : n < 0
  · have d : decide (n < 0) = true := by simpa using h0
    obtain rfl : k = 0 := by omega
    clear hk
    go_enter Tryz.func150, Tryz.ntmps150
    go_wp2
    go_ret
    exact ⟨rfl, rfl⟩
  · by_cases h1 : n ≤ 64
    · obtain ⟨m, rfl⟩ := Int.eq_ofNat_of_zero_le (show 0 ≤ n by omega)
      obtain rfl : m = k := by omega
      clear hk
      go_enter Tryz.func150, Tryz.ntmps150
      go_wp2
      go_ret
      exact ⟨rfl, rfl⟩
    · obtain rfl : k = 64 := by omega
      clear hk
      go_enter Tryz.func150, Tryz.ntmps150
      go_wp2
      go_ret
      exact ⟨rfl, rfl⟩
end Go.Proofs.YtkmfamidahlgiaaGreatDoor
