/- Plain facts on numbers modulo 2^32 and 2^64, read with and without a sign. No program in sight. -/
import Derived.WalkKit
namespace Go.Proofs.YtkmfamidahlgiaaGreatDoor
open Go.RowKit
/-- the lead of one counter of 32 digits over another, of their difference -/
def D32 (x : Int) : Int := (x + 2147483648) % 4294967296 - 2147483648
/-- the same of 64 digits -/
def D64 (x : Int) : Int := (x + 9223372036854775808) % 18446744073709551616 - 9223372036854775808
/-- what is left modulo 2^64 -/
def U64 (x : Int) : Int := x % 18446744073709551616

theorem wrapU64 (x : Int) : IntKind.u64.wrap x = U64 x := by
  simp [IntKind.wrap, IntKind.bits, IntKind.signed, U64]
theorem wrapI64 (x : Int) : wrap64 x = D64 x := by
  unfold wrap64 D64
  omega
theorem wrapI64' (x : Int) : IntKind.i64.wrap x = D64 x := by
  rw [IntKind.wrap_i64]; rfl

theorem U64_range (x : Int) : 0 ≤ U64 x ∧ U64 x < 18446744073709551616 := by unfold U64; omega
theorem U64_of {x : Int} (h0 : 0 ≤ x) (h1 : x < 18446744073709551616) : U64 x = x := by unfold U64; omega
theorem U64_add_U64 (a n : Int) : U64 (a + U64 n) = U64 (a + n) := by unfold U64; omega
theorem U64_U64_add (a n : Int) : U64 (U64 a + n) = U64 (a + n) := by unfold U64; omega
theorem U64_sub_U64 (a n : Int) : U64 (a - U64 n) = U64 (a - n) := by unfold U64; omega
theorem U64_U64_sub (a n : Int) : U64 (U64 a - n) = U64 (a - n) := by unfold U64; omega
theorem U64_mod (x : Int) : U64 x % 4294967296 = x % 4294967296 := by unfold U64; omega
theorem D64_U64 (x : Int) : D64 (U64 x) = D64 x := by unfold D64 U64; omega
theorem D64_range (x : Int) : -9223372036854775808 ≤ D64 x ∧ D64 x ≤ 9223372036854775807 := by unfold D64; omega
theorem D64_of {x : Int} (h0 : -9223372036854775808 ≤ x) (h1 : x ≤ 9223372036854775807) : D64 x = x := by unfold D64; omega
theorem D32_range (x : Int) : -2147483648 ≤ D32 x ∧ D32 x ≤ 2147483647 := by unfold D32; omega
theorem D32_of {x : Int} (h0 : -2147483648 ≤ x) (h1 : x ≤ 2147483647) : D32 x = x := by unfold D32; omega
theorem D32_mod_sub_mod (a b : Int) : D32 (a % 4294967296 - b % 4294967296) = D32 (a - b) := by unfold D32; omega
theorem D32_mod (a : Int) : D32 (a % 4294967296) = D32 a := by unfold D32; omega
theorem U32_add_mod (a n : Int) : (a + n % 4294967296) % 4294967296 = (a + n) % 4294967296 := by omega
theorem U32_mod_add (a n : Int) : (a % 4294967296 + n) % 4294967296 = (a + n) % 4294967296 := by omega
theorem mod_range (a : Int) : 0 ≤ a % 4294967296 ∧ a % 4294967296 < 4294967296 := by omega
theorem ret_int {k : IntKind} {a b : Int} (h : a = b) : Ending.returned (.int k a) = .returned (.int k b) := by rw [h]
theorem ret_bool {a b : Bool} (h : a = b) : Ending.returned (.bool a) = .returned (.bool b) := by rw [h]
theorem wf_u64 {a : Int} (h : (Lit.int .u64 a).wf = true) : 0 ≤ a ∧ a < 18446744073709551616 := by
  simp [Lit.wf, IntKind.min, IntKind.max, IntKind.signed, IntKind.bits] at h; omega
theorem wf_u32 {a : Int} (h : (Lit.int .u32 a).wf = true) : 0 ≤ a ∧ a < 4294967296 := by
  simp [Lit.wf, IntKind.min, IntKind.max, IntKind.signed, IntKind.bits] at h; omega
theorem wf_i64 {a : Int} (h : (Lit.int .i64 a).wf = true) : -9223372036854775808 ≤ a ∧ a ≤ 9223372036854775807 := by
  simp [Lit.wf, IntKind.min, IntKind.max, IntKind.signed, IntKind.bits] at h; omega
theorem wf_i32 {a : Int} (h : (Lit.int .i32 a).wf = true) : -2147483648 ≤ a ∧ a ≤ 2147483647 := by
  simp [Lit.wf, IntKind.min, IntKind.max, IntKind.signed, IntKind.bits] at h; omega
end Go.Proofs.YtkmfamidahlgiaaGreatDoor
