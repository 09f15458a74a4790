/- Contracts of package lap's functions. -/
import Derived.Test.YtkmfamidahlgiaaGreatDoorWide
import Derived.Test.YtkmfamidahlgiaaGreatDoorLMath
import Derived.Lib.Hide
namespace Go.Proofs.YtkmfamidahlgiaaGreatDoor
open Go.RowKit
set_option linter.unusedVariables false
set_option maxHeartbeats 400000
theorem at_U32 (r c s : Int) : ((r * c) % 4294967296 + s) % 4294967296 = (r * c + s) % 4294967296 := by
  generalize r * c = x; omega
theorem at_U64 (r c s : Int) : U64 (U64 (r * c) + s) = U64 (r * c + s) := U64_U64_add _ _
theorem ahead_loU32 (x : Int) : 0 ≤ x % 4294967296 := by omega
theorem ahead_hiU32 (x : Int) : x % 4294967296 < 4294967296 := by omega
theorem ahead_loU64 (x : Int) : 0 ≤ U64 x := (U64_range x).1
theorem ahead_hiU64 (x : Int) : U64 x < 18446744073709551616 := (U64_range x).2
theorem lRight (c : Int) (w : World) : Calls Tryz.prog 102 #[.int .i64 c] w fun e w' => e = .returned (.bool (rightB c)) ∧ w = w' := by
  by_cases h0 : 2 ≤ c
  · by_cases h1 : c ≤ 1073741824
    · go_enter Tryz.func102, Tryz.ntmps102
      go_wp2
      go_ret
      exact ⟨ret_bool (and_right h0 h1), rfl⟩
    · go_enter Tryz.func102, Tryz.ntmps102
      go_wp2
      go_ret
      exact ⟨ret_bool (right_no_hi (by omega)).symm, rfl⟩
  · go_enter Tryz.func102, Tryz.ntmps102
    go_wp2
    go_ret
    exact ⟨ret_bool (right_no_lo (by omega)).symm, rfl⟩
theorem hasSlot_yes (c s : Int) (w : World) (hc : rightB c = true) (h0 : 0 ≤ s) (h1 : s < c) : Calls Tryz.prog 178 #[.int .i64 c, .int .i64 s] w fun e w' => e = .returned (.bool true) ∧ w = w' := by
  go_enter Tryz.func178, Tryz.ntmps178
  go_wp2_with fail
  refine (lRight _ _).mono ?_
  rintro e w' ⟨rfl, rfl⟩
  go_wp2
  go_ret
  exact ⟨rfl, rfl⟩
theorem hasSlot_no (c s : Int) (w : World) (h : rightB c = false ∨ s < 0 ∨ c ≤ s) : Calls Tryz.prog 178 #[.int .i64 c, .int .i64 s] w fun e w' => e = .returned (.bool false) ∧ w = w' := by
  cases hc : rightB c
  · clear h
    go_enter Tryz.func178, Tryz.ntmps178
    go_wp2_with fail
    refine (lRight _ _).mono ?_
    rintro e w' ⟨rfl, rfl⟩
    go_wp2
    go_ret
    exact ⟨rfl, rfl⟩
  · have h' : s < 0 ∨ c ≤ s := by simpa [hc] using h
    clear h
    by_cases h0 : 0 ≤ s
    · have h1 : decide (s < c) = false := by simp; omega
      clear h'
      go_enter Tryz.func178, Tryz.ntmps178
      go_wp2_with fail
      refine (lRight _ _).mono ?_
      rintro e w' ⟨rfl, rfl⟩
      go_wp2
      go_ret
      exact ⟨rfl, rfl⟩
    · clear h'
      go_enter Tryz.func178, Tryz.ntmps178
      go_wp2_with fail
      refine (lRight _ _).mono ?_
      rintro e w' ⟨rfl, rfl⟩
      go_wp2
      go_ret
      exact ⟨rfl, rfl⟩
theorem slotU32 (c p : Int) (w : World) (hc : rightB c = true) (h0 : 0 ≤ p) (h1 : p < 4294967296) : Calls Tryz.prog 180 #[.int .i64 c, .int .u32 p] w fun e w' => e = .returned (.int .i64 (p % c)) ∧ w = w' := by
  have hr := right_range hc
  have hs := slot_range hc p
  go_enter Tryz.func180, Tryz.ntmps180
  go_wp2_with fail
  refine (lRight _ _).mono ?_
  rintro e w' ⟨rfl, rfl⟩
  go_wp2
  go_ret
  exact ⟨rfl, rfl⟩
theorem slotU32_no (c p : Int) (w : World) (hc : rightB c = false) : Calls Tryz.prog 180 #[.int .i64 c, .int .u32 p] w fun e w' => e = .returned (.int .i64 0) ∧ w = w' := by
  go_enter Tryz.func180, Tryz.ntmps180
  go_wp2_with fail
  refine (lRight _ _).mono ?_
  rintro e w' ⟨rfl, rfl⟩
  go_wp2
  go_ret
  exact ⟨rfl, rfl⟩
theorem roundU32 (c p : Int) (w : World) (hc : rightB c = true) (h0 : 0 ≤ p) (h1 : p < 4294967296) : Calls Tryz.prog 179 #[.int .i64 c, .int .u32 p] w fun e w' => e = .returned (.int .u32 (p / c)) ∧ w = w' := by
  have hr := right_range hc
  have hs := round_le hc p h0
  go_enter Tryz.func179, Tryz.ntmps179
  go_wp2_with fail
  refine (lRight _ _).mono ?_
  rintro e w' ⟨rfl, rfl⟩
  go_wp2
  go_ret
  exact ⟨rfl, rfl⟩
theorem roundU32_no (c p : Int) (w : World) (hc : rightB c = false) : Calls Tryz.prog 179 #[.int .i64 c, .int .u32 p] w fun e w' => e = .returned (.int .u32 0) ∧ w = w' := by
  go_enter Tryz.func179, Tryz.ntmps179
  go_wp2_with fail
  refine (lRight _ _).mono ?_
  rintro e w' ⟨rfl, rfl⟩
  go_wp2
  go_ret
  exact ⟨rfl, rfl⟩
theorem firstU32 (c s p : Int) (w : World) (hc : rightB c = true) (h0 : 0 ≤ s) (h1 : s < c) (p0 : 0 ≤ p) (p1 : p < 4294967296) : Calls Tryz.prog 160 #[.int .i64 c, .int .i64 s, .int .u32 p] w fun e w' => e = .returned (.int .u32 ((p + (s - p) % c) % 4294967296)) ∧ w = w' := by
  have hr := right_range hc
  have hs := slot_range hc p
  have hf := first_range hc p s
  go_enter Tryz.func160, Tryz.ntmps160
  go_wp2_with fail
  refine (hasSlot_yes _ _ _ hc h0 h1).mono ?_
  rintro e w' ⟨rfl, rfl⟩
  go_wp2_with fail
  refine (slotU32 _ _ _ hc p0 p1).mono ?_
  rintro e w' ⟨rfl, rfl⟩
  go_wp2_with fail
  refine (addU32 _ _ _).mono ?_
  rintro e w' ⟨rfl, rfl⟩
  go_wp2
  go_ret
  exact ⟨rfl, rfl⟩
theorem firstU32_no (c s p : Int) (w : World) (hc : rightB c = false ∨ s < 0 ∨ c ≤ s) : Calls Tryz.prog 160 #[.int .i64 c, .int .i64 s, .int .u32 p] w fun e w' => e = .returned (.int .u32 0) ∧ w = w' := by
  go_enter Tryz.func160, Tryz.ntmps160
  go_wp2_with fail
  refine (hasSlot_no _ _ _ hc).mono ?_
  rintro e w' ⟨rfl, rfl⟩
  go_wp2
  go_ret
  exact ⟨rfl, rfl⟩
theorem aheadU32 (c s p : Int) (w : World) (hc : rightB c = true) (h0 : 0 ≤ s) (h1 : s < c) (p0 : 0 ≤ p) (p1 : p < 4294967296) : Calls Tryz.prog 159 #[.int .i64 c, .int .i64 s, .int .u32 p] w fun e w' => e = .returned (.int .u32 ((p + (s - p) % c - c) % 4294967296 / c)) ∧ w = w' := by
  have hr := right_range hc
  go_enter Tryz.func159, Tryz.ntmps159
  go_wp2_with fail
  refine (hasSlot_yes _ _ _ hc h0 h1).mono ?_
  rintro e w' ⟨rfl, rfl⟩
  go_wp2_with fail
  refine (firstU32 _ _ _ _ hc h0 h1 p0 p1).mono ?_
  rintro e w' ⟨rfl, rfl⟩
  go_wp2_with fail
  refine (addU32 _ _ _).mono ?_
  rintro e w' ⟨rfl, rfl⟩
  go_wp2_with fail
  refine (roundU32 _ _ _ hc (ahead_loU32 _) (ahead_hiU32 _)).mono ?_
  rintro e w' ⟨rfl, rfl⟩
  go_wp2
  go_ret
  exact ⟨ret_int (rfl), rfl⟩
theorem aheadU32_no (c s p : Int) (w : World) (hc : rightB c = false ∨ s < 0 ∨ c ≤ s) : Calls Tryz.prog 159 #[.int .i64 c, .int .i64 s, .int .u32 p] w fun e w' => e = .returned (.int .u32 0) ∧ w = w' := by
  go_enter Tryz.func159, Tryz.ntmps159
  go_wp2_with fail
  refine (hasSlot_no _ _ _ hc).mono ?_
  rintro e w' ⟨rfl, rfl⟩
  go_wp2
  go_ret
  exact ⟨rfl, rfl⟩
theorem slotU64 (c p : Int) (w : World) (hc : rightB c = true) (h0 : 0 ≤ p) (h1 : p < 18446744073709551616) : Calls Tryz.prog 182 #[.int .i64 c, .int .u64 p] w fun e w' => e = .returned (.int .i64 (p % c)) ∧ w = w' := by
  have hr := right_range hc
  have hs := slot_range hc p
  go_enter Tryz.func182, Tryz.ntmps182
  go_wp2_with fail
  refine (lRight _ _).mono ?_
  rintro e w' ⟨rfl, rfl⟩
  go_wp2
  go_ret
  exact ⟨rfl, rfl⟩
theorem slotU64_no (c p : Int) (w : World) (hc : rightB c = false) : Calls Tryz.prog 182 #[.int .i64 c, .int .u64 p] w fun e w' => e = .returned (.int .i64 0) ∧ w = w' := by
  go_enter Tryz.func182, Tryz.ntmps182
  go_wp2_with fail
  refine (lRight _ _).mono ?_
  rintro e w' ⟨rfl, rfl⟩
  go_wp2
  go_ret
  exact ⟨rfl, rfl⟩
theorem roundU64 (c p : Int) (w : World) (hc : rightB c = true) (h0 : 0 ≤ p) (h1 : p < 18446744073709551616) : Calls Tryz.prog 181 #[.int .i64 c, .int .u64 p] w fun e w' => e = .returned (.int .u64 (p / c)) ∧ w = w' := by
  have hr := right_range hc
  have hs := round_le hc p h0
  go_enter Tryz.func181, Tryz.ntmps181
  go_wp2_with fail
  refine (lRight _ _).mono ?_
  rintro e w' ⟨rfl, rfl⟩
  go_wp2
  go_ret
  exact ⟨rfl, rfl⟩
theorem roundU64_no (c p : Int) (w : World) (hc : rightB c = false) : Calls Tryz.prog 181 #[.int .i64 c, .int .u64 p] w fun e w' => e = .returned (.int .u64 0) ∧ w = w' := by
  go_enter Tryz.func181, Tryz.ntmps181
  go_wp2_with fail
  refine (lRight _ _).mono ?_
  rintro e w' ⟨rfl, rfl⟩
  go_wp2
  go_ret
  exact ⟨rfl, rfl⟩
theorem firstU64 (c s p : Int) (w : World) (hc : rightB c = true) (h0 : 0 ≤ s) (h1 : s < c) (p0 : 0 ≤ p) (p1 : p < 18446744073709551616) : Calls Tryz.prog 162 #[.int .i64 c, .int .i64 s, .int .u64 p] w fun e w' => e = .returned (.int .u64 (U64 (p + (s - p) % c))) ∧ w = w' := by
  have hr := right_range hc
  have hs := slot_range hc p
  have hf := first_range hc p s
  go_enter Tryz.func162, Tryz.ntmps162
  go_wp2_with fail
  refine (hasSlot_yes _ _ _ hc h0 h1).mono ?_
  rintro e w' ⟨rfl, rfl⟩
  go_wp2_with fail
  refine (slotU64 _ _ _ hc p0 p1).mono ?_
  rintro e w' ⟨rfl, rfl⟩
  go_wp2_with fail
  refine (addU64 _ _ _).mono ?_
  rintro e w' ⟨rfl, rfl⟩
  go_wp2
  go_ret
  exact ⟨rfl, rfl⟩
theorem firstU64_no (c s p : Int) (w : World) (hc : rightB c = false ∨ s < 0 ∨ c ≤ s) : Calls Tryz.prog 162 #[.int .i64 c, .int .i64 s, .int .u64 p] w fun e w' => e = .returned (.int .u64 0) ∧ w = w' := by
  go_enter Tryz.func162, Tryz.ntmps162
  go_wp2_with fail
  refine (hasSlot_no _ _ _ hc).mono ?_
  rintro e w' ⟨rfl, rfl⟩
  go_wp2
  go_ret
  exact ⟨rfl, rfl⟩
theorem aheadU64 (c s p : Int) (w : World) (hc : rightB c = true) (h0 : 0 ≤ s) (h1 : s < c) (p0 : 0 ≤ p) (p1 : p < 18446744073709551616) : Calls Tryz.prog 161 #[.int .i64 c, .int .i64 s, .int .u64 p] w fun e w' => e = .returned (.int .u64 (U64 (p + (s - p) % c - c) / c)) ∧ w = w' := by
  have hr := right_range hc
  go_enter Tryz.func161, Tryz.ntmps161
  go_wp2_with fail
  refine (hasSlot_yes _ _ _ hc h0 h1).mono ?_
  rintro e w' ⟨rfl, rfl⟩
  go_wp2_with fail
  refine (firstU64 _ _ _ _ hc h0 h1 p0 p1).mono ?_
  rintro e w' ⟨rfl, rfl⟩
  go_wp2_with fail
  refine (addU64 _ _ _).mono ?_
  rintro e w' ⟨rfl, rfl⟩
  go_wp2_with fail
  refine (roundU64 _ _ _ hc (ahead_loU64 _) (ahead_hiU64 _)).mono ?_
  rintro e w' ⟨rfl, rfl⟩
  go_wp2
  go_ret
  exact ⟨ret_int (by rw [U64_U64_add]; rfl), rfl⟩
theorem aheadU64_no (c s p : Int) (w : World) (hc : rightB c = false ∨ s < 0 ∨ c ≤ s) : Calls Tryz.prog 161 #[.int .i64 c, .int .i64 s, .int .u64 p] w fun e w' => e = .returned (.int .u64 0) ∧ w = w' := by
  go_enter Tryz.func161, Tryz.ntmps161
  go_wp2_with fail
  refine (hasSlot_no _ _ _ hc).mono ?_
  rintro e w' ⟨rfl, rfl⟩
  go_wp2
  go_ret
  exact ⟨rfl, rfl⟩
end Go.Proofs.YtkmfamidahlgiaaGreatDoor
