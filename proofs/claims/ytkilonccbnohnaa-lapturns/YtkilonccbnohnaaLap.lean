/- Contracts of package lap's functions. -/
import Derived.Test.YtkilonccbnohnaaWide
import Derived.Test.YtkilonccbnohnaaLMath
import Derived.Lib.Hide
namespace Go.Proofs.Ytkilonccbnohnaa
open Go.RowKit
set_option linter.unusedVariables false
set_option maxHeartbeats 400000
theorem at_U32 (r c s : Int) : ((r * c) % 4294967296 + s) % 4294967296 = (r * c + s) % 4294967296 := by
  generalize r * c = x; omega
theorem at_U64 (r c s : Int) : U64 (U64 (r * c) + s) = U64 (r * c + s) := U64_U64_add _ _
theorem ahead_loU32 (x : Int) : 0 ≤ x % 4294967296 := by omega
theorem ahead_hiU32 (x : Int) : x % 4294967296 < 4294967296 := by omega
theorem ahead_loU64 (x : Int) : 0 ≤ U64 x := (U64_range x).1
theorem ahead_hiU64 (x : Int) : U64 x < 18446744073709551616 := (U64_range x).2
theorem lRight (c : Int) (w : World) : Calls Try.prog 31 #[.int .i64 c] w fun e w' => e = .returned (.bool (rightB c)) ∧ w = w' := by
  by_cases h0 : 2 ≤ c
  · by_cases h1 : c ≤ 1073741824
    · go_enter Try.func31, Try.ntmps31
      go_wp2
      go_ret
      exact ⟨ret_bool (and_right h0 h1), rfl⟩
    · go_enter Try.func31, Try.ntmps31
      go_wp2
      go_ret
      exact ⟨ret_bool (right_no_hi (by omega)).symm, rfl⟩
  · go_enter Try.func31, Try.ntmps31
    go_wp2
    go_ret
    exact ⟨ret_bool (right_no_lo (by omega)).symm, rfl⟩
theorem hasSlot_yes (c s : Int) (w : World) (hc : rightB c = true) (h0 : 0 ≤ s) (h1 : s < c) : Calls Try.prog 66 #[.int .i64 c, .int .i64 s] w fun e w' => e = .returned (.bool true) ∧ w = w' := by
  go_enter Try.func66, Try.ntmps66
  go_wp2_with fail
  refine (lRight _ _).mono ?_
  rintro e w' ⟨rfl, rfl⟩
  go_wp2
  go_ret
  exact ⟨rfl, rfl⟩
theorem hasSlot_no (c s : Int) (w : World) (h : rightB c = false ∨ s < 0 ∨ c ≤ s) : Calls Try.prog 66 #[.int .i64 c, .int .i64 s] w fun e w' => e = .returned (.bool false) ∧ w = w' := by
  cases hc : rightB c
  · clear h
    go_enter Try.func66, Try.ntmps66
    go_wp2_with fail
    refine (lRight _ _).mono ?_
    rintro e w' ⟨rfl, rfl⟩
    go_wp2
    go_ret
    exact ⟨rfl, rfl⟩
  · have h' : s < 0 ∨ c ≤ s := by simpa [hc] using h
    clear h
    by_cases h0 : 0 ≤ s
    · have h1 : decide (s < c) = false := by simp; omega
      clear h'
      go_enter Try.func66, Try.ntmps66
      go_wp2_with fail
      refine (lRight _ _).mono ?_
      rintro e w' ⟨rfl, rfl⟩
      go_wp2
      go_ret
      exact ⟨rfl, rfl⟩
    · clear h'
      go_enter Try.func66, Try.ntmps66
      go_wp2_with fail
      refine (lRight _ _).mono ?_
      rintro e w' ⟨rfl, rfl⟩
      go_wp2
      go_ret
      exact ⟨rfl, rfl⟩
theorem slotU32 (c p : Int) (w : World) (hc : rightB c = true) (h0 : 0 ≤ p) (h1 : p < 4294967296) : Calls Try.prog 40 #[.int .i64 c, .int .u32 p] w fun e w' => e = .returned (.int .i64 (p % c)) ∧ w = w' := by
  have hr := right_range hc
  have hs := slot_range hc p
  go_enter Try.func40, Try.ntmps40
  go_wp2_with fail
  refine (lRight _ _).mono ?_
  rintro e w' ⟨rfl, rfl⟩
  go_wp2
  go_ret
  exact ⟨rfl, rfl⟩
theorem slotU32_no (c p : Int) (w : World) (hc : rightB c = false) : Calls Try.prog 40 #[.int .i64 c, .int .u32 p] w fun e w' => e = .returned (.int .i64 0) ∧ w = w' := by
  go_enter Try.func40, Try.ntmps40
  go_wp2_with fail
  refine (lRight _ _).mono ?_
  rintro e w' ⟨rfl, rfl⟩
  go_wp2
  go_ret
  exact ⟨rfl, rfl⟩
theorem roundU32 (c p : Int) (w : World) (hc : rightB c = true) (h0 : 0 ≤ p) (h1 : p < 4294967296) : Calls Try.prog 41 #[.int .i64 c, .int .u32 p] w fun e w' => e = .returned (.int .u32 (p / c)) ∧ w = w' := by
  have hr := right_range hc
  have hs := round_le hc p h0
  go_enter Try.func41, Try.ntmps41
  go_wp2_with fail
  refine (lRight _ _).mono ?_
  rintro e w' ⟨rfl, rfl⟩
  go_wp2
  go_ret
  exact ⟨rfl, rfl⟩
theorem roundU32_no (c p : Int) (w : World) (hc : rightB c = false) : Calls Try.prog 41 #[.int .i64 c, .int .u32 p] w fun e w' => e = .returned (.int .u32 0) ∧ w = w' := by
  go_enter Try.func41, Try.ntmps41
  go_wp2_with fail
  refine (lRight _ _).mono ?_
  rintro e w' ⟨rfl, rfl⟩
  go_wp2
  go_ret
  exact ⟨rfl, rfl⟩
theorem nextU32 (c p : Int) (w : World) (hc : rightB c = true) : Calls Try.prog 45 #[.int .i64 c, .int .u32 p] w fun e w' => e = .returned (.int .u32 ((p + c) % 4294967296)) ∧ w = w' := by
  go_enter Try.func45, Try.ntmps45
  go_wp2_with fail
  refine (lRight _ _).mono ?_
  rintro e w' ⟨rfl, rfl⟩
  go_wp2_with fail
  refine (addU32 _ _ _).mono ?_
  rintro e w' ⟨rfl, rfl⟩
  go_wp2
  go_ret
  exact ⟨rfl, rfl⟩
theorem nextU32_no (c p : Int) (w : World) (hc : rightB c = false) : Calls Try.prog 45 #[.int .i64 c, .int .u32 p] w fun e w' => e = .returned (.int .u32 0) ∧ w = w' := by
  go_enter Try.func45, Try.ntmps45
  go_wp2_with fail
  refine (lRight _ _).mono ?_
  rintro e w' ⟨rfl, rfl⟩
  go_wp2
  go_ret
  exact ⟨rfl, rfl⟩
theorem atU32 (c s r : Int) (w : World) (hc : rightB c = true) (h0 : 0 ≤ s) (h1 : s < c) : Calls Try.prog 39 #[.int .i64 c, .int .i64 s, .int .u32 r] w fun e w' => e = .returned (.int .u32 ((r * c + s) % 4294967296)) ∧ w = w' := by
  have hr := right_range hc
  go_enter Try.func39, Try.ntmps39
  go_wp2_with fail
  refine (hasSlot_yes _ _ _ hc h0 h1).mono ?_
  rintro e w' ⟨rfl, rfl⟩
  go_wp2_with fail
  refine (addU32 _ _ _).mono ?_
  rintro e w' ⟨rfl, rfl⟩
  go_wp2
  go_ret
  exact ⟨rfl, rfl⟩
theorem atU32_no (c s r : Int) (w : World) (hc : rightB c = false ∨ s < 0 ∨ c ≤ s) : Calls Try.prog 39 #[.int .i64 c, .int .i64 s, .int .u32 r] w fun e w' => e = .returned (.int .u32 0) ∧ w = w' := by
  go_enter Try.func39, Try.ntmps39
  go_wp2_with fail
  refine (hasSlot_no _ _ _ hc).mono ?_
  rintro e w' ⟨rfl, rfl⟩
  go_wp2
  go_ret
  exact ⟨rfl, rfl⟩
theorem firstU32 (c s p : Int) (w : World) (hc : rightB c = true) (h0 : 0 ≤ s) (h1 : s < c) (p0 : 0 ≤ p) (p1 : p < 4294967296) : Calls Try.prog 58 #[.int .i64 c, .int .i64 s, .int .u32 p] w fun e w' => e = .returned (.int .u32 ((p + (s - p) % c) % 4294967296)) ∧ w = w' := by
  have hr := right_range hc
  have hs := slot_range hc p
  have hf := first_range hc p s
  go_enter Try.func58, Try.ntmps58
  go_wp2_with fail
  refine (hasSlot_yes _ _ _ hc h0 h1).mono ?_
  rintro e w' ⟨rfl, rfl⟩
  go_wp2_with fail
  refine (slotU32 _ _ _ hc p0 p1).mono ?_
  rintro e w' ⟨rfl, rfl⟩
  go_wp2_with fail
  refine (addU32 _ _ _).mono ?_
  rintro e w' ⟨rfl, rfl⟩
  go_wp2
  go_ret
  exact ⟨rfl, rfl⟩
theorem firstU32_no (c s p : Int) (w : World) (hc : rightB c = false ∨ s < 0 ∨ c ≤ s) : Calls Try.prog 58 #[.int .i64 c, .int .i64 s, .int .u32 p] w fun e w' => e = .returned (.int .u32 0) ∧ w = w' := by
  go_enter Try.func58, Try.ntmps58
  go_wp2_with fail
  refine (hasSlot_no _ _ _ hc).mono ?_
  rintro e w' ⟨rfl, rfl⟩
  go_wp2
  go_ret
  exact ⟨rfl, rfl⟩
theorem aheadU32 (c s p : Int) (w : World) (hc : rightB c = true) (h0 : 0 ≤ s) (h1 : s < c) (p0 : 0 ≤ p) (p1 : p < 4294967296) : Calls Try.prog 59 #[.int .i64 c, .int .i64 s, .int .u32 p] w fun e w' => e = .returned (.int .u32 ((p + (s - p) % c - c) % 4294967296 / c)) ∧ w = w' := by
  have hr := right_range hc
  go_enter Try.func59, Try.ntmps59
  go_wp2_with fail
  refine (hasSlot_yes _ _ _ hc h0 h1).mono ?_
  rintro e w' ⟨rfl, rfl⟩
  go_wp2_with fail
  refine (firstU32 _ _ _ _ hc h0 h1 p0 p1).mono ?_
  rintro e w' ⟨rfl, rfl⟩
  go_wp2_with fail
  refine (addU32 _ _ _).mono ?_
  rintro e w' ⟨rfl, rfl⟩
  go_wp2_with fail
  refine (roundU32 _ _ _ hc (ahead_loU32 _) (ahead_hiU32 _)).mono ?_
  rintro e w' ⟨rfl, rfl⟩
  go_wp2
  go_ret
  exact ⟨ret_int (rfl), rfl⟩
theorem aheadU32_no (c s p : Int) (w : World) (hc : rightB c = false ∨ s < 0 ∨ c ≤ s) : Calls Try.prog 59 #[.int .i64 c, .int .i64 s, .int .u32 p] w fun e w' => e = .returned (.int .u32 0) ∧ w = w' := by
  go_enter Try.func59, Try.ntmps59
  go_wp2_with fail
  refine (hasSlot_no _ _ _ hc).mono ?_
  rintro e w' ⟨rfl, rfl⟩
  go_wp2
  go_ret
  exact ⟨rfl, rfl⟩
theorem slotU64 (c p : Int) (w : World) (hc : rightB c = true) (h0 : 0 ≤ p) (h1 : p < 18446744073709551616) : Calls Try.prog 43 #[.int .i64 c, .int .u64 p] w fun e w' => e = .returned (.int .i64 (p % c)) ∧ w = w' := by
  have hr := right_range hc
  have hs := slot_range hc p
  go_enter Try.func43, Try.ntmps43
  go_wp2_with fail
  refine (lRight _ _).mono ?_
  rintro e w' ⟨rfl, rfl⟩
  go_wp2
  go_ret
  exact ⟨rfl, rfl⟩
theorem slotU64_no (c p : Int) (w : World) (hc : rightB c = false) : Calls Try.prog 43 #[.int .i64 c, .int .u64 p] w fun e w' => e = .returned (.int .i64 0) ∧ w = w' := by
  go_enter Try.func43, Try.ntmps43
  go_wp2_with fail
  refine (lRight _ _).mono ?_
  rintro e w' ⟨rfl, rfl⟩
  go_wp2
  go_ret
  exact ⟨rfl, rfl⟩
theorem roundU64 (c p : Int) (w : World) (hc : rightB c = true) (h0 : 0 ≤ p) (h1 : p < 18446744073709551616) : Calls Try.prog 44 #[.int .i64 c, .int .u64 p] w fun e w' => e = .returned (.int .u64 (p / c)) ∧ w = w' := by
  have hr := right_range hc
  have hs := round_le hc p h0
  go_enter Try.func44, Try.ntmps44
  go_wp2_with fail
  refine (lRight _ _).mono ?_
  rintro e w' ⟨rfl, rfl⟩
  go_wp2
  go_ret
  exact ⟨rfl, rfl⟩
theorem roundU64_no (c p : Int) (w : World) (hc : rightB c = false) : Calls Try.prog 44 #[.int .i64 c, .int .u64 p] w fun e w' => e = .returned (.int .u64 0) ∧ w = w' := by
  go_enter Try.func44, Try.ntmps44
  go_wp2_with fail
  refine (lRight _ _).mono ?_
  rintro e w' ⟨rfl, rfl⟩
  go_wp2
  go_ret
  exact ⟨rfl, rfl⟩
theorem nextU64 (c p : Int) (w : World) (hc : rightB c = true) : Calls Try.prog 46 #[.int .i64 c, .int .u64 p] w fun e w' => e = .returned (.int .u64 (U64 (p + c))) ∧ w = w' := by
  go_enter Try.func46, Try.ntmps46
  go_wp2_with fail
  refine (lRight _ _).mono ?_
  rintro e w' ⟨rfl, rfl⟩
  go_wp2_with fail
  refine (addU64 _ _ _).mono ?_
  rintro e w' ⟨rfl, rfl⟩
  go_wp2
  go_ret
  exact ⟨rfl, rfl⟩
theorem nextU64_no (c p : Int) (w : World) (hc : rightB c = false) : Calls Try.prog 46 #[.int .i64 c, .int .u64 p] w fun e w' => e = .returned (.int .u64 0) ∧ w = w' := by
  go_enter Try.func46, Try.ntmps46
  go_wp2_with fail
  refine (lRight _ _).mono ?_
  rintro e w' ⟨rfl, rfl⟩
  go_wp2
  go_ret
  exact ⟨rfl, rfl⟩
theorem atU64 (c s r : Int) (w : World) (hc : rightB c = true) (h0 : 0 ≤ s) (h1 : s < c) : Calls Try.prog 42 #[.int .i64 c, .int .i64 s, .int .u64 r] w fun e w' => e = .returned (.int .u64 (U64 (r * c + s))) ∧ w = w' := by
  have hr := right_range hc
  go_enter Try.func42, Try.ntmps42
  go_wp2_with fail
  refine (hasSlot_yes _ _ _ hc h0 h1).mono ?_
  rintro e w' ⟨rfl, rfl⟩
  go_wp2_with fail
  refine (addU64 _ _ _).mono ?_
  rintro e w' ⟨rfl, rfl⟩
  go_wp2
  go_ret
  exact ⟨ret_int (at_U64 r c s), rfl⟩
theorem atU64_no (c s r : Int) (w : World) (hc : rightB c = false ∨ s < 0 ∨ c ≤ s) : Calls Try.prog 42 #[.int .i64 c, .int .i64 s, .int .u64 r] w fun e w' => e = .returned (.int .u64 0) ∧ w = w' := by
  go_enter Try.func42, Try.ntmps42
  go_wp2_with fail
  refine (hasSlot_no _ _ _ hc).mono ?_
  rintro e w' ⟨rfl, rfl⟩
  go_wp2
  go_ret
  exact ⟨rfl, rfl⟩
theorem firstU64 (c s p : Int) (w : World) (hc : rightB c = true) (h0 : 0 ≤ s) (h1 : s < c) (p0 : 0 ≤ p) (p1 : p < 18446744073709551616) : Calls Try.prog 64 #[.int .i64 c, .int .i64 s, .int .u64 p] w fun e w' => e = .returned (.int .u64 (U64 (p + (s - p) % c))) ∧ w = w' := by
  have hr := right_range hc
  have hs := slot_range hc p
  have hf := first_range hc p s
  go_enter Try.func64, Try.ntmps64
  go_wp2_with fail
  refine (hasSlot_yes _ _ _ hc h0 h1).mono ?_
  rintro e w' ⟨rfl, rfl⟩
  go_wp2_with fail
  refine (slotU64 _ _ _ hc p0 p1).mono ?_
  rintro e w' ⟨rfl, rfl⟩
  go_wp2_with fail
  refine (addU64 _ _ _).mono ?_
  rintro e w' ⟨rfl, rfl⟩
  go_wp2
  go_ret
  exact ⟨rfl, rfl⟩
theorem firstU64_no (c s p : Int) (w : World) (hc : rightB c = false ∨ s < 0 ∨ c ≤ s) : Calls Try.prog 64 #[.int .i64 c, .int .i64 s, .int .u64 p] w fun e w' => e = .returned (.int .u64 0) ∧ w = w' := by
  go_enter Try.func64, Try.ntmps64
  go_wp2_with fail
  refine (hasSlot_no _ _ _ hc).mono ?_
  rintro e w' ⟨rfl, rfl⟩
  go_wp2
  go_ret
  exact ⟨rfl, rfl⟩
theorem aheadU64 (c s p : Int) (w : World) (hc : rightB c = true) (h0 : 0 ≤ s) (h1 : s < c) (p0 : 0 ≤ p) (p1 : p < 18446744073709551616) : Calls Try.prog 65 #[.int .i64 c, .int .i64 s, .int .u64 p] w fun e w' => e = .returned (.int .u64 (U64 (p + (s - p) % c - c) / c)) ∧ w = w' := by
  have hr := right_range hc
  go_enter Try.func65, Try.ntmps65
  go_wp2_with fail
  refine (hasSlot_yes _ _ _ hc h0 h1).mono ?_
  rintro e w' ⟨rfl, rfl⟩
  go_wp2_with fail
  refine (firstU64 _ _ _ _ hc h0 h1 p0 p1).mono ?_
  rintro e w' ⟨rfl, rfl⟩
  go_wp2_with fail
  refine (addU64 _ _ _).mono ?_
  rintro e w' ⟨rfl, rfl⟩
  go_wp2_with fail
  refine (roundU64 _ _ _ hc (ahead_loU64 _) (ahead_hiU64 _)).mono ?_
  rintro e w' ⟨rfl, rfl⟩
  go_wp2
  go_ret
  exact ⟨ret_int (by rw [U64_U64_add]; rfl), rfl⟩
theorem aheadU64_no (c s p : Int) (w : World) (hc : rightB c = false ∨ s < 0 ∨ c ≤ s) : Calls Try.prog 65 #[.int .i64 c, .int .i64 s, .int .u64 p] w fun e w' => e = .returned (.int .u64 0) ∧ w = w' := by
  go_enter Try.func65, Try.ntmps65
  go_wp2_with fail
  refine (hasSlot_no _ _ _ hc).mono ?_
  rintro e w' ⟨rfl, rfl⟩
  go_wp2
  go_ret
  exact ⟨rfl, rfl⟩
theorem turnsU32_no (c p n : Int) (w : World) (hc : rightB c = false) : Calls Try.prog 47 #[.int .i64 c, .int .u32 p, .int .i64 n] w fun e w' => e = .returned (.slice none 0 0) ∧ w = w' := by
  go_enter Try.func47, Try.ntmps47
  go_wp2_with fail
  refine (lRight _ _).mono ?_
  rintro e w' ⟨rfl, rfl⟩
  go_wp2
  go_ret
  exact ⟨rfl, rfl⟩
theorem turnsU64_no (c p n : Int) (w : World) (hc : rightB c = false) : Calls Try.prog 48 #[.int .i64 c, .int .u64 p, .int .i64 n] w fun e w' => e = .returned (.slice none 0 0) ∧ w = w' := by
  go_enter Try.func48, Try.ntmps48
  go_wp2_with fail
  refine (lRight _ _).mono ?_
  rintro e w' ⟨rfl, rfl⟩
  go_wp2
  go_ret
  exact ⟨rfl, rfl⟩
theorem lLog_yes (k : Nat) (hk : k < 30) (w : World) : Calls Try.prog 35 #[.int .i64 (Pw (k + 1))] w fun e w' => e = .returned (.int .i64 (k + 1)) ∧ w = w' := by
  go_enter Try.func35, Try.ntmps35
  go_wp2
  go_loop [4] (fun i => ∃ j : Nat, j ≤ k ∧ i = .int .i64 j) (fun i => 30 - (intOf i).toNat)
  case atStart => exact ⟨0, by omega, rfl⟩
  case round =>
    obtain ⟨j, hj, rfl⟩ := hrel
    have hjj : (j : Int) < 30 := by omega
    have H := shl_Pw (show j < 30 by omega)
    by_cases e : j = k
    · subst e
      go_wp2
      go_ret
      exact ⟨rfl, rfl⟩
    · have hne : (Pw (k + 1) == Pw (j + 1)) = false := beq_eq_false_iff_ne.2 (by have := Pw_lt (show j + 1 < k + 1 by omega); omega)
      go_wp2
      exact ⟨⟨j + 1, by omega, by go_num⟩, by simp [intOf]; omega⟩
theorem lLog_no (c : Int) (hc : rightB c = false) (w : World) : Calls Try.prog 35 #[.int .i64 c] w fun e w' => e = .returned (.int .i64 0) ∧ w = w' := by
  go_enter Try.func35, Try.ntmps35
  go_wp2
  go_loop [4] (fun i => ∃ j : Nat, j ≤ 30 ∧ i = .int .i64 j) (fun i => 30 - (intOf i).toNat)
  case atStart => exact ⟨0, by omega, rfl⟩
  case round =>
    obtain ⟨j, hj, rfl⟩ := hrel
    by_cases e : j < 30
    · have H := shl_Pw e
      have hne : (c == Pw (j + 1)) = false := beq_eq_false_iff_ne.2 (by rintro rfl; rw [Pw_right e] at hc; cases hc)
      go_wp2
      exact ⟨⟨j + 1, by omega, by go_num⟩, by simp [intOf]; omega⟩
    · go_wp2
      go_ret
      exact ⟨rfl, rfl⟩
end Go.Proofs.Ytkilonccbnohnaa
