/- Contracts of group's functions: what reads the table of math/bits, and what stands on it. -/
import Derived.Test.YtkmfamidahlgiaaGreatDoorGrp
import Derived.Test.YtkmfamidahlgiaaGreatDoorGrpOnes
namespace Go.Proofs.YtkmfamidahlgiaaGreatDoor
open Go.RowKit
set_option linter.unusedVariables false
set_option maxHeartbeats 1000000
/-- the table of math/bits lies in its variable -/
def Tab (w : World) : Prop := ∀ j, j < 64 → w.cell? ⟨1, j, none⟩ = some (.int .u8 ((Lib.deBruijn64tab.getD j 0 : Nat) : Int))
theorem Tab.ext {w w' : World} (h : Tab w) (hx : Ext w w') : Tab w' := fun j hj => hx.cell (h j hj)
theorem tz_key (x a : Nat) (hx : x < 18446744073709551616) (hx0 : x ≠ 0) (hlow : x &&& (18446744073709551616 - x) = a) :
    IntKind.u64.wrap (bits BinOp.and IntKind.u64 (x : Int) (IntKind.u64.wrap (-(x : Int))) * 285870213051353865) / 288230376151711744 = ((a * 285870213051353865 % 18446744073709551616 / 288230376151711744 : Nat) : Int) := by
  have e1 : IntKind.u64.wrap (-(x : Int)) = ((18446744073709551616 - x : Nat) : Int) := by rw [IntKind.wrap_u64]; omega
  rw [e1, bits_and_u64_nat x _ hx (by omega), hlow, IntKind.wrap_u64]
  omega
theorem tz_core (x k idx : Nat) (w : World) (hx0 : ((x : Int) == 0) = false)
    (key : IntKind.u64.wrap (bits BinOp.and IntKind.u64 (x : Int) (IntKind.u64.wrap (-(x : Int))) * 285870213051353865) / 288230376151711744 = (idx : Int))
    (hi : idx < 64) (hk : k < 64) (hcell : w.cell? ⟨1, idx, none⟩ = some (.int .u8 k)) :
    Calls Tryz.prog 176 #[.int .u64 x] w fun e w' => e = .returned (.int .i64 k) ∧ w = w' := by
  go_enter Tryz.func176, Tryz.ntmps176
  go_wp2_with (simp only [key])
  go_ret
  exact ⟨rfl, rfl⟩
theorem tz (x : Nat) (w : World) (hx : x < 18446744073709551616) (hx0 : x ≠ 0) (hT : Tab w) : Calls Tryz.prog 176 #[.int .u64 x] w fun e w' => e = .returned (.int .i64 (Lib.ctz 64 x : Nat)) ∧ w = w' := by
  obtain ⟨hlow, hk⟩ := Lib.lowest_bit 64 x hx0 (by simpa using hx)
  obtain ⟨hi, htab⟩ := Lib.deBruijn64_at _ hk
  have hcell := hT _ hi
  rw [htab] at hcell
  exact tz_core x _ _ w (by simp; omega) (tz_key x _ hx hx0 hlow) hi hk hcell
theorem gLen (x : Nat) (w : World) (hx : x < 18446744073709551616) : Calls Tryz.prog 172 #[.int .u64 x] w fun e w' => e = .returned (.int .i64 ((bitsOf x).length : Nat)) ∧ w = w' := by
  go_enter Tryz.func172, Tryz.ntmps172
  go_wp2_with fail
  refine (ones _ _ hx).mono ?_
  rintro e w' ⟨rfl, rfl⟩
  go_wp2
  go_ret
  exact ⟨rfl, rfl⟩
theorem one_bit (i j : Nat) : (2 ^ i).testBit j = decide (i = j) := by rw [Nat.testBit_two_pow]
theorem and_one (x i : Nat) : ((((x &&& 2 ^ i : Nat) : Int)) != 0) = x.testBit i := by
  have h : (x &&& 2 ^ i) = if x.testBit i then 2 ^ i else 0 := by
    apply Nat.eq_of_testBit_eq
    intro j
    rw [Nat.testBit_and, one_bit]
    by_cases e : i = j
    · subst e; cases h : x.testBit i <;> simp
    · cases x.testBit i
      · simp [e]
      · simp [e]
  rw [h]
  have := Nat.two_pow_pos i
  have h2 : ¬ (2 : Nat) ^ i = 0 := by omega
  cases x.testBit i
  · rfl
  · rw [if_pos rfl]
    have h3 : ¬ (((2 ^ i : Nat) : Int)) = 0 := by omega
    exact bne_iff_ne.2 h3
theorem gHas (x i : Nat) (w : World) (hx : x < 18446744073709551616) (hi : i < 64) : Calls Tryz.prog 148 #[.int .u64 x, .int .i64 i] w fun e w' => e = .returned (.bool (x.testBit i)) ∧ w = w' := by
  have hp : 2 ^ i < 18446744073709551616 := Nat.pow_lt_pow_right (n := 64) (by decide) hi
  have h := and_one x i
  go_enter Tryz.func148, Tryz.ntmps148
  go_wp2_with fail
  refine (gOne_yes _ _ hi).mono ?_
  rintro e w' ⟨rfl, rfl⟩
  go_wp2_with fail
  refine (gBoth _ _ _ hx hp).mono ?_
  rintro e w' ⟨rfl, rfl⟩
  go_wp2
  go_ret
  exact ⟨rfl, rfl⟩
theorem gHas_no (x : Nat) (i : Int) (w : World) (hx : x < 18446744073709551616) (hi : ¬ (0 ≤ i ∧ i < 64)) : Calls Tryz.prog 148 #[.int .u64 x, .int .i64 i] w fun e w' => e = .returned (.bool false) ∧ w = w' := by
  have h : x &&& 0 = 0 := Nat.and_zero x
  go_enter Tryz.func148, Tryz.ntmps148
  go_wp2_with fail
  refine (gOne_no _ _ hi).mono ?_
  rintro e w' ⟨rfl, rfl⟩
  go_wp2_with fail
  refine (gBoth x 0 _ hx (by decide)).mono ?_
  rw [h]
  rintro e w' ⟨rfl, rfl⟩
  go_wp2
  go_ret
  exact ⟨rfl, rfl⟩
theorem gWith (x i : Nat) (w : World) (hx : x < 18446744073709551616) (hi : i < 64) : Calls Tryz.prog 174 #[.int .u64 x, .int .i64 i] w fun e w' => e = .returned (.int .u64 ((x ||| 2 ^ i : Nat) : Int)) ∧ w = w' := by
  have hp : 2 ^ i < 18446744073709551616 := Nat.pow_lt_pow_right (n := 64) (by decide) hi
  go_enter Tryz.func174, Tryz.ntmps174
  go_wp2_with fail
  refine (gOne_yes _ _ hi).mono ?_
  rintro e w' ⟨rfl, rfl⟩
  go_wp2_with fail
  refine (gEither _ _ _ hx hp).mono ?_
  rintro e w' ⟨rfl, rfl⟩
  go_wp2
  go_ret
  exact ⟨rfl, rfl⟩
theorem gWith_no (x : Nat) (i : Int) (w : World) (hx : x < 18446744073709551616) (hi : ¬ (0 ≤ i ∧ i < 64)) : Calls Tryz.prog 174 #[.int .u64 x, .int .i64 i] w fun e w' => e = .returned (.int .u64 x) ∧ w = w' := by
  have h : x ||| 0 = x := Nat.or_zero x
  go_enter Tryz.func174, Tryz.ntmps174
  go_wp2_with fail
  refine (gOne_no _ _ hi).mono ?_
  rintro e w' ⟨rfl, rfl⟩
  go_wp2_with fail
  refine (gEither x 0 _ hx (by decide)).mono ?_
  rw [h]
  rintro e w' ⟨rfl, rfl⟩
  go_wp2
  go_ret
  exact ⟨rfl, rfl⟩
theorem gWithout (x i : Nat) (w : World) (hx : x < 18446744073709551616) (hi : i < 64) : Calls Tryz.prog 109 #[.int .u64 x, .int .i64 i] w fun e w' => e = .returned (.int .u64 ((lessN x (2 ^ i) : Nat) : Int)) ∧ w = w' := by
  have hp : 2 ^ i < 18446744073709551616 := Nat.pow_lt_pow_right (n := 64) (by decide) hi
  go_enter Tryz.func109, Tryz.ntmps109
  go_wp2_with fail
  refine (gOne_yes _ _ hi).mono ?_
  rintro e w' ⟨rfl, rfl⟩
  go_wp2_with fail
  refine (gLess _ _ _ hx hp).mono ?_
  rintro e w' ⟨rfl, rfl⟩
  go_wp2
  go_ret
  exact ⟨rfl, rfl⟩
theorem less_zero {x : Nat} (hx : x < 18446744073709551616) : lessN x 0 = x := by
  refine eq_of_bits (less_lt hx) hx fun i hi => ?_
  rw [testBit_less (by decide) hi, Nat.zero_testBit]; simp
theorem gWithout_no (x : Nat) (i : Int) (w : World) (hx : x < 18446744073709551616) (hi : ¬ (0 ≤ i ∧ i < 64)) : Calls Tryz.prog 109 #[.int .u64 x, .int .i64 i] w fun e w' => e = .returned (.int .u64 x) ∧ w = w' := by
  have h := less_zero hx
  go_enter Tryz.func109, Tryz.ntmps109
  go_wp2_with fail
  refine (gOne_no _ _ hi).mono ?_
  rintro e w' ⟨rfl, rfl⟩
  go_wp2_with fail
  refine (gLess x 0 _ hx (by decide)).mono ?_
  rw [h]
  rintro e w' ⟨rfl, rfl⟩
  go_wp2
  go_ret
  exact ⟨rfl, rfl⟩
/-- a number, or none, as two results -/
def optV : Option Nat → Value
  | some j => .tuple #[.int .i64 j, .bool true]
  | none => .tuple #[.int .i64 0, .bool false]
theorem gLeast (x : Nat) (w : World) (hx : x < 18446744073709551616) (hT : Tab w) : Calls Tryz.prog 152 #[.int .u64 x] w fun e w' => e = .returned (optV (bitsOf x).head?) ∧ w = w' := by
  by_cases h0 : x = 0
  · subst h0
    rw [bits_zero]
    have d : (((0 : Nat) : Int) == 0) = true := rfl
    clear hT
    go_enter Tryz.func152, Tryz.ntmps152
    go_wp2
    go_ret2
    exact ⟨rfl, rfl⟩
  · have d : ((x : Int) == 0) = false := by simp; omega
    rw [(bits_head hx h0).1]
    have HT := Lib.hid hT
    clear hT
    go_enter Tryz.func152, Tryz.ntmps152
    go_wp2_with fail
    refine (tz _ _ hx h0 HT.out).mono ?_
    rintro e w' ⟨rfl, rfl⟩
    go_wp2
    go_ret2
    exact ⟨rfl, rfl⟩
/-- the least one above i -/
def nxt (x : Nat) (i : Int) : Option Nat := (bitsOf x).find? fun j => decide (i < (j : Int))
theorem nxt_eq (x : Nat) (i : Int) (k : Nat) (hk : min (max (min i 63 + 1) 0) 64 = (k : Int)) : (bitsOf (lessN x (2 ^ k - 1))).head? = nxt x i := by
  rw [bits_above (by omega), List.head?_filter]
  unfold nxt
  have key : ∀ l : List Nat, (∀ j ∈ l, j < 64) → l.find? (fun j => decide (k ≤ j)) = l.find? (fun j : Nat => decide (i < (j : Int))) := by
    intro l
    induction l with
    | nil => intro _; rfl
    | cons a l ih =>
      intro h
      have ha := h a List.mem_cons_self
      rw [List.find?_cons, List.find?_cons, ih fun j hj => h j (List.mem_cons_of_mem _ hj), show decide (k ≤ a) = decide (i < (a : Int)) by rw [decide_eq_decide]; omega]
  exact key _ fun j hj => (mem_bits.1 hj).1
theorem gNext (x : Nat) (i : Int) (w : World) (hx : x < 18446744073709551616) (h1 : -9223372036854775808 ≤ i) (h2 : i ≤ 9223372036854775807) (hT : Tab w) : Calls Tryz.prog 153 #[.int .u64 x, .int .i64 i] w fun e w' => e = .returned (optV (nxt x i)) ∧ w = w' := by
  obtain ⟨k, hk⟩ : ∃ k : Nat, min (max (min i 63 + 1) 0) 64 = (k : Int) := ⟨(min (max (min i 63 + 1) 0) 64).toNat, by omega⟩
  rw [← nxt_eq x i k hk]
  have hf := full_lt (k := k) (by omega)
  have hl := less_lt (y := 2 ^ k - 1) hx
  have HT := Lib.hid hT
  have HK := Lib.hid hk
  clear hT hk
  have cl := fun w hT => gLeast _ w hl hT
  generalize (bitsOf (lessN x (2 ^ k - 1))).head? = o at *
  have CL := Lib.hid cl
  clear cl
  by_cases h3 : i ≤ 63
  · have c := fun w => gFull (i + 1) k w (by have := HK.out; omega)
    have C := Lib.hid c
    clear c
    have d1 : ¬ 63 < i := by omega
    cases o with
    | none =>
      go_enter Tryz.func153, Tryz.ntmps153
      go_wp2_with fail
      refine (C.out _).mono ?_
      rintro e w' ⟨rfl, rfl⟩
      go_wp2_with fail
      refine (gLess _ _ _ hx hf).mono ?_
      rintro e w' ⟨rfl, rfl⟩
      go_wp2_with fail
      refine (CL.out _ HT.out).mono ?_
      rintro e w' ⟨rfl, rfl⟩
      simp only [optV]
      go_wp2
      go_ret2
      exact ⟨rfl, rfl⟩
    | some j =>
      go_enter Tryz.func153, Tryz.ntmps153
      go_wp2_with fail
      refine (C.out _).mono ?_
      rintro e w' ⟨rfl, rfl⟩
      go_wp2_with fail
      refine (gLess _ _ _ hx hf).mono ?_
      rintro e w' ⟨rfl, rfl⟩
      go_wp2_with fail
      refine (CL.out _ HT.out).mono ?_
      rintro e w' ⟨rfl, rfl⟩
      simp only [optV]
      go_wp2
      go_ret2
      exact ⟨rfl, rfl⟩
  · have c := fun w => gFull 64 k w (by have := HK.out; omega)
    have C := Lib.hid c
    clear c
    have d1 : ¬ i ≤ 63 := by omega
    have d2 : 63 < i := by omega
    cases o with
    | none =>
      go_enter Tryz.func153, Tryz.ntmps153
      go_wp2_with fail
      refine (C.out _).mono ?_
      rintro e w' ⟨rfl, rfl⟩
      go_wp2_with fail
      refine (gLess _ _ _ hx hf).mono ?_
      rintro e w' ⟨rfl, rfl⟩
      go_wp2_with fail
      refine (CL.out _ HT.out).mono ?_
      rintro e w' ⟨rfl, rfl⟩
      simp only [optV]
      go_wp2
      go_ret2
      exact ⟨rfl, rfl⟩
    | some j =>
      go_enter Tryz.func153, Tryz.ntmps153
      go_wp2_with fail
      refine (C.out _).mono ?_
      rintro e w' ⟨rfl, rfl⟩
      go_wp2_with fail
      refine (gLess _ _ _ hx hf).mono ?_
      rintro e w' ⟨rfl, rfl⟩
      go_wp2_with fail
      refine (CL.out _ HT.out).mono ?_
      rintro e w' ⟨rfl, rfl⟩
      simp only [optV]
      go_wp2
      go_ret2
      exact ⟨rfl, rfl⟩
end Go.Proofs.YtkmfamidahlgiaaGreatDoor
