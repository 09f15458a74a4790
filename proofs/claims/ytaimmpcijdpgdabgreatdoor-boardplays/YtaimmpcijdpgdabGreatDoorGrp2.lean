/- Contracts of group's functions: what reads the table of math/bits, and what stands on it. -/
import Derived.Test.YtaimmpcijdpgdabGreatDoorGrp
import Derived.Test.YtaimmpcijdpgdabGreatDoorGrpOnes
namespace Go.Proofs.YtaimmpcijdpgdabGreatDoor
open Go.RowKit
set_option linter.unusedVariables false
set_option maxHeartbeats 1000000
theorem gLen (x : Nat) (w : World) (hx : x < 18446744073709551616) : Calls Tryz.prog 129 #[.int .u64 x] w fun e w' => e = .returned (.int .i64 ((bitsOf x).length : Nat)) ∧ w = w' := by
  go_enter Tryz.func129, Tryz.ntmps129
  go_wp2_with fail
  refine (ones _ _ hx).mono ?_
  rintro e w' ⟨rfl, rfl⟩
  go_wp2
  go_ret
  exact ⟨rfl, rfl⟩
theorem one_bit (i j : Nat) : (2 ^ i).testBit j = decide (i = j) := by rw [Nat.testBit_two_pow]
theorem and_one (x i : Nat) : ((((x &&& 2 ^ i : Nat) : Int)) != 0) = x.testBit i := by
  have h : (x &&& 2 ^ i) = if x.testBit i then 2 ^ i else 0 := by
    apply Nat.eq_of_testBit_eq
    intro j
    rw [Nat.testBit_and, one_bit]
    by_cases e : i = j
    · subst e; cases h : x.testBit i <;> simp
    · cases x.testBit i
      · simp [e]
      · simp [e]
  rw [h]
  have := Nat.two_pow_pos i
  have h2 : ¬ (2 : Nat) ^ i = 0 := by omega
  cases x.testBit i
  · rfl
  · rw [if_pos rfl]
    have h3 : ¬ (((2 ^ i : Nat) : Int)) = 0 := by omega
    exact bne_iff_ne.2 h3
theorem gHas (x i : Nat) (w : World) (hx : x < 18446744073709551616) (hi : i < 64) : Calls Tryz.prog 114 #[.int .u64 x, .int .i64 i] w fun e w' => e = .returned (.bool (x.testBit i)) ∧ w = w' := by
  have hp : 2 ^ i < 18446744073709551616 := Nat.pow_lt_pow_right (n := 64) (by decide) hi
  have h := and_one x i
  go_enter Tryz.func114, Tryz.ntmps114
  go_wp2_with fail
  refine (gOne_yes _ _ hi).mono ?_
  rintro e w' ⟨rfl, rfl⟩
  go_wp2_with fail
  refine (gBoth _ _ _ hx hp).mono ?_
  rintro e w' ⟨rfl, rfl⟩
  go_wp2
  go_ret
  exact ⟨rfl, rfl⟩
theorem gHas_no (x : Nat) (i : Int) (w : World) (hx : x < 18446744073709551616) (hi : ¬ (0 ≤ i ∧ i < 64)) : Calls Tryz.prog 114 #[.int .u64 x, .int .i64 i] w fun e w' => e = .returned (.bool false) ∧ w = w' := by
  have h : x &&& 0 = 0 := Nat.and_zero x
  go_enter Tryz.func114, Tryz.ntmps114
  go_wp2_with fail
  refine (gOne_no _ _ hi).mono ?_
  rintro e w' ⟨rfl, rfl⟩
  go_wp2_with fail
  refine (gBoth x 0 _ hx (by decide)).mono ?_
  rw [h]
  rintro e w' ⟨rfl, rfl⟩
  go_wp2
  go_ret
  exact ⟨rfl, rfl⟩
theorem gWith (x i : Nat) (w : World) (hx : x < 18446744073709551616) (hi : i < 64) : Calls Tryz.prog 131 #[.int .u64 x, .int .i64 i] w fun e w' => e = .returned (.int .u64 ((x ||| 2 ^ i : Nat) : Int)) ∧ w = w' := by
  have hp : 2 ^ i < 18446744073709551616 := Nat.pow_lt_pow_right (n := 64) (by decide) hi
  go_enter Tryz.func131, Tryz.ntmps131
  go_wp2_with fail
  refine (gOne_yes _ _ hi).mono ?_
  rintro e w' ⟨rfl, rfl⟩
  go_wp2_with fail
  refine (gEither _ _ _ hx hp).mono ?_
  rintro e w' ⟨rfl, rfl⟩
  go_wp2
  go_ret
  exact ⟨rfl, rfl⟩
theorem gWith_no (x : Nat) (i : Int) (w : World) (hx : x < 18446744073709551616) (hi : ¬ (0 ≤ i ∧ i < 64)) : Calls Tryz.prog 131 #[.int .u64 x, .int .i64 i] w fun e w' => e = .returned (.int .u64 x) ∧ w = w' := by
  have h : x ||| 0 = x := Nat.or_zero x
  go_enter Tryz.func131, Tryz.ntmps131
  go_wp2_with fail
  refine (gOne_no _ _ hi).mono ?_
  rintro e w' ⟨rfl, rfl⟩
  go_wp2_with fail
  refine (gEither x 0 _ hx (by decide)).mono ?_
  rw [h]
  rintro e w' ⟨rfl, rfl⟩
  go_wp2
  go_ret
  exact ⟨rfl, rfl⟩
theorem less_zero {x : Nat} (hx : x < 18446744073709551616) : lessN x 0 = x := by
  refine eq_of_bits (less_lt hx) hx fun i hi => ?_
  rw [testBit_less (by decide) hi, Nat.zero_testBit]; simp
/-- a number, or none, as two results -/
def optV : Option Nat → Value
  | some j => .tuple #[.int .i64 j, .bool true]
  | none => .tuple #[.int .i64 0, .bool false]
/-- the least one above i -/
def nxt (x : Nat) (i : Int) : Option Nat := (bitsOf x).find? fun j => decide (i < (j : Int))
theorem nxt_eq (x : Nat) (i : Int) (k : Nat) (hk : min (max (min i 63 + 1) 0) 64 = (k : Int)) : (bitsOf (lessN x (2 ^ k - 1))).head? = nxt x i := by
  rw [bits_above (by omega), List.head?_filter]
  unfold nxt
  have key : ∀ l : List Nat, (∀ j ∈ l, j < 64) → l.find? (fun j => decide (k ≤ j)) = l.find? (fun j : Nat => decide (i < (j : Int))) := by
    intro l
    induction l with
    | nil => intro _; rfl
    | cons a l ih =>
      intro h
      have ha := h a List.mem_cons_self
      rw [List.find?_cons, List.find?_cons, ih fun j hj => h j (List.mem_cons_of_mem _ hj), show decide (k ≤ a) = decide (i < (a : Int)) by rw [decide_eq_decide]; omega]
  exact key _ fun j hj => (mem_bits.1 hj).1
end Go.Proofs.YtaimmpcijdpgdabGreatDoor
