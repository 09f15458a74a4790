/- octet: Len, Zig, Zag, fresh, put, Put, PutInt; the reference's Zig, Zag, Put. -/
import Derived.Test.YtkikiehgkggfmaaOByte
import Derived.Test.YtkikiehgkggfmaaOMath
import Derived.Test.YtkikiehgkggfmaaShelf
import Derived.Laws.Bits64b
import Derived.Laws.BitsAll
namespace Go.Proofs.Ytkikiehgkggfmaa
open Go.RowKit
set_option linter.unusedVariables false
set_option maxHeartbeats 1000000
theorem not_i64 (n : Int) (h0 : -9223372036854775808 ≤ n) (h1 : n ≤ 9223372036854775807) : bits .xor .i64 (-1) n = -n - 1 := by
  show IntKind.i64.wrap ((BitVec.ofInt 64 (-1) ^^^ BitVec.ofInt 64 n).toNat : Int) = _
  have e1 : BitVec.ofInt 64 (-1) = BitVec.allOnes 64 := by decide
  rw [e1, BitVec.allOnes_xor, BitVec.toNat_not, BitVec.toNat_ofInt, IntKind.wrap_i64]
  omega
theorem oLen (x : Nat) (w : World) (h : x < 18446744073709551616) : Calls Try.prog 10 #[.int .u64 x] w fun e w' => e = .returned (.int .i64 ((enc x).length : Nat)) ∧ w = w' := by
  have hor : bits .or .u64 (x : Int) 1 = ((x ||| 1 : Nat) : Int) := bits_or_u64_nat x 1 h (by decide)
  obtain ⟨h1, h2, h3⟩ := len_eq x h
  have hb : x ||| 1 < 18446744073709551616 := Nat.or_lt_two_pow (n := 64) h (by decide)
  have C := Lib.hid fun w => Try.bits_Len64 ((x ||| 1 : Nat) : Int) w (by omega) (by omega)
  rw [Int.toNat_natCast] at C
  generalize Lib.bitLen (x ||| 1) = L at *
  generalize x ||| 1 = y at *
  have H1 : Hid (((L : Int) + 7 - 1) / 7 = ((enc x).length : Nat)) := Lib.hid (by omega)
  clear h1
  go_enter Try.func10, Try.ntmps10
  go_wp2_with fail
  refine (C.out _).mono ?_
  rintro e w' ⟨rfl, rfl⟩
  go_wp2
  go_ret
  exact ⟨by rw [← H1.out]; rfl, rfl⟩
theorem oZig (n : Int) (w : World) (h0 : -9223372036854775808 ≤ n) (h1 : n ≤ 9223372036854775807) : Calls Try.prog 11 #[.int .i64 n] w fun e w' => e = .returned (.int .u64 (zig n : Nat)) ∧ w = w' := by
  by_cases hn : n < 0
  · have HZ : Hid (((zig n : Nat) : Int) = 2 * (-n - 1) + 1) := Lib.hid (by unfold zig; rw [if_pos hn]; omega)
    have e0 := not_i64 n h0 h1
    have e1 : IntKind.u64.wrap (-n - 1) = -n - 1 := by rw [IntKind.wrap_u64]; omega
    have e3 : IntKind.u64.wrap (2 * (-n - 1)) = 2 * (-n - 1) := by rw [IntKind.wrap_u64]; omega
    have e4 : IntKind.u64.wrap (2 * (-n - 1) + 1) = 2 * (-n - 1) + 1 := by rw [IntKind.wrap_u64]; omega
    have e2 : IntKind.u64.wrap (-(n + 1)) = -n - 1 := by rw [IntKind.wrap_u64]; omega
    go_enter Try.func11, Try.ntmps11
    go_wp2
    go_ret
    exact ⟨by rw [HZ.out]; rfl, rfl⟩
  · have HZ : Hid (((zig n : Nat) : Int) = 2 * n) := Lib.hid (by unfold zig; rw [if_neg hn]; omega)
    have e1 : IntKind.u64.wrap n = n := by rw [IntKind.wrap_u64]; omega
    go_enter Try.func11, Try.ntmps11
    go_wp2
    go_ret
    exact ⟨by rw [HZ.out]; rfl, rfl⟩
theorem rZig (n : Int) (w : World) (h0 : -9223372036854775808 ≤ n) (h1 : n ≤ 9223372036854775807) : Calls Try.prog 12 #[.int .i64 n] w fun e w' => e = .returned (.int .u64 (zig n : Nat)) ∧ w = w' := by
  by_cases hn : n < 0
  · have HZ : Hid (((zig n : Nat) : Int) = 2 * (-n - 1) + 1) := Lib.hid (by unfold zig; rw [if_pos hn]; omega)
    have e0 := not_i64 n h0 h1
    have e1 : IntKind.u64.wrap (-n - 1) = -n - 1 := by rw [IntKind.wrap_u64]; omega
    have e3 : IntKind.u64.wrap (2 * (-n - 1)) = 2 * (-n - 1) := by rw [IntKind.wrap_u64]; omega
    have e4 : IntKind.u64.wrap (2 * (-n - 1) + 1) = 2 * (-n - 1) + 1 := by rw [IntKind.wrap_u64]; omega
    have e2 : IntKind.u64.wrap (-(n + 1)) = -n - 1 := by rw [IntKind.wrap_u64]; omega
    go_enter Try.func12, Try.ntmps12
    go_wp2
    go_ret
    exact ⟨by rw [HZ.out]; rfl, rfl⟩
  · have HZ : Hid (((zig n : Nat) : Int) = 2 * n) := Lib.hid (by unfold zig; rw [if_neg hn]; omega)
    have e1 : IntKind.u64.wrap n = n := by rw [IntKind.wrap_u64]; omega
    go_enter Try.func12, Try.ntmps12
    go_wp2
    go_ret
    exact ⟨by rw [HZ.out]; rfl, rfl⟩
theorem oZag (x : Nat) (w : World) (h : x < 18446744073709551616) : Calls Try.prog 13 #[.int .u64 x] w fun e w' => e = .returned (.int .i64 (zag x)) ∧ w = w' := by
  obtain ⟨q, hq⟩ : ∃ q, q = x / 2 := ⟨_, rfl⟩
  have e0 : (x : Int) / 2 = (q : Int) := by omega
  have hq2 : q ≤ 9223372036854775807 := by omega
  have e9 := not_i64 (q : Int) (by omega) (by omega)
  by_cases hx : x % 2 = 1
  · have HZ : Hid (zag x = -(q : Int) - 1) := Lib.hid (by unfold zag; rw [if_pos hx, hq])
    have d1 : ((x : Int) % 2 == 1) = true := by simp; omega
    clear hq hx
    go_enter Try.func13, Try.ntmps13
    go_wp2
    go_ret
    exact ⟨by rw [HZ.out]; rfl, rfl⟩
  · have HZ : Hid (zag x = (q : Int)) := Lib.hid (by unfold zag; rw [if_neg hx, hq])
    have d1 : ((x : Int) % 2 == 1) = false := by simp; omega
    clear hq hx
    go_enter Try.func13, Try.ntmps13
    go_wp2
    go_ret
    exact ⟨by rw [HZ.out]; rfl, rfl⟩
theorem rZag (x : Nat) (w : World) (h : x < 18446744073709551616) : Calls Try.prog 14 #[.int .u64 x] w fun e w' => e = .returned (.int .i64 (zag x)) ∧ w = w' := by
  obtain ⟨q, hq⟩ : ∃ q, q = x / 2 := ⟨_, rfl⟩
  have e0 : (x : Int) / 2 = (q : Int) := by omega
  have hq2 : q ≤ 9223372036854775807 := by omega
  have e9 := not_i64 (q : Int) (by omega) (by omega)
  by_cases hx : x % 2 = 1
  · have HZ : Hid (zag x = -(q : Int) - 1) := Lib.hid (by unfold zag; rw [if_pos hx, hq])
    have d1 : ((x : Int) % 2 == 1) = true := by simp; omega
    clear hq hx
    go_enter Try.func14, Try.ntmps14
    go_wp2
    go_ret
    exact ⟨by rw [HZ.out]; rfl, rfl⟩
  · have HZ : Hid (zag x = (q : Int)) := Lib.hid (by unfold zag; rw [if_neg hx, hq])
    have d1 : ((x : Int) % 2 == 1) = false := by simp; omega
    clear hq hx
    go_enter Try.func14, Try.ntmps14
    go_wp2
    go_ret
    exact ⟨by rw [HZ.out]; rfl, rfl⟩
end Go.Proofs.Ytkikiehgkggfmaa
