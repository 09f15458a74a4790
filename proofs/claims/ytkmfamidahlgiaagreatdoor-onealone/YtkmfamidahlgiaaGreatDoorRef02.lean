/- Contracts of the document's answers of layer 2. -/
import Derived.Test.YtkmfamidahlgiaaGreatDoorRef01
import Derived.Test.YtkmfamidahlgiaaGreatDoorLMath
import Derived.Lib.Hide
namespace Go.Proofs.YtkmfamidahlgiaaGreatDoor
open Go.RowKit
set_option linter.unusedVariables false
set_option maxHeartbeats 400000
theorem r2Right (c : Int) (w : World) : Calls Tryz.prog 99 #[.int .i64 c] w fun e w' => e = .returned (.bool (rightB c)) ∧ w = w' := by
  go_enter Tryz.func99, Tryz.ntmps99
  go_wp2
  go_loop [3] (fun n => ∃ m : Int, Rst c m ∧ n = .int .i64 m) (fun n => (1073741824 - intOf n).toNat)
  case atStart => exact ⟨2, rst_start c, rfl⟩
  case round =>
    obtain ⟨m, hm, rfl⟩ := hrel
    have hr := rst_range hm
    by_cases h1 : m < c
    · by_cases h2 : m < 1073741824
      · go_wp2
        exact ⟨⟨2 * m, rst_step hm h1 h2, rfl⟩, by simp [intOf]; omega⟩
      · have HE := Lib.hid (rst_end hm (by omega))
        go_wp2
        go_ret
        exact ⟨ret_bool HE.out, rfl⟩
    · have HE := Lib.hid (rst_end hm (by omega))
      go_wp2
      go_ret
      exact ⟨ret_bool HE.out, rfl⟩
theorem r2Slot (c p : Int) (w : World) (hc : rightB c = true) (h0 : 0 ≤ p) : Calls Tryz.prog 183 #[.int .i64 c, .int .u64 p] w fun e w' => e = .returned (.int .i64 (p % c)) ∧ w = w' := by
  have hr := right_range hc
  have hs := slot_range hc p
  go_enter Tryz.func183, Tryz.ntmps183
  go_wp2
  go_ret
  exact ⟨rfl, rfl⟩
theorem r2Slot_m (c x : Int) (w : World) (hc : rightB c = true) : Calls Tryz.prog 183 #[.int .i64 c, .int .u64 (x % 4294967296)] w fun e w' => e = .returned (.int .i64 (x % c)) ∧ w = w' := by
  have h := r2Slot c (x % 4294967296) w hc (by omega)
  rw [mod32_mod hc] at h
  exact h
theorem r2Slot_u (c x : Int) (w : World) (hc : rightB c = true) : Calls Tryz.prog 183 #[.int .i64 c, .int .u64 (U64 x)] w fun e w' => e = .returned (.int .i64 (x % c)) ∧ w = w' := by
  have h := r2Slot c (U64 x) w hc (U64_range x).1
  rw [mod64_mod hc] at h
  exact h
theorem r2Round (c p : Int) (w : World) (hc : rightB c = true) (h0 : 0 ≤ p) (h1 : p < 18446744073709551616) : Calls Tryz.prog 184 #[.int .i64 c, .int .u64 p] w fun e w' => e = .returned (.int .u64 (p / c)) ∧ w = w' := by
  have hr := right_range hc
  have hs := round_le hc p h0
  go_enter Tryz.func184, Tryz.ntmps184
  go_wp2
  go_ret
  exact ⟨rfl, rfl⟩
theorem first_is {c : Int} (hc : rightB c = true) (p s : Int) (i : Nat) (h0 : 0 ≤ s) (h1 : s < c) (hi : (i : Int) ≤ (s - p) % c) : ((p + i) % c == s) = ((i : Int) == (s - p) % c) := by
  have := first_range hc p s
  rw [Bool.eq_iff_iff, beq_iff_eq, beq_iff_eq]
  exact first_unique hc p s i h0 h1 (by omega) (by omega)
theorem r2First_32 (c s p : Int) (w : World) (hc : rightB c = true) (h0 : 0 ≤ s) (h1 : s < c) : Calls Tryz.prog 164 #[.int .i64 32, .int .i64 c, .int .i64 s, .int .u64 p] w fun e w' => e = .returned (.int .u64 ((p + (s - p) % c) % 4294967296)) ∧ w = w' := by
  have hr := right_range hc
  have hf := first_range hc p s
  obtain ⟨j, hj⟩ := Int.eq_ofNat_of_zero_le hf.1
  rw [hj] at hf ⊢
  have HF := Lib.hid (fun (i : Nat) (hi : (i : Int) ≤ (s - p) % c) => first_is hc p s i h0 h1 hi)
  rw [hj] at HF
  clear hj
  go_enter Tryz.func164, Tryz.ntmps164
  go_wp2
  go_loop [9] (fun i => ∃ k : Nat, k ≤ j ∧ i = .int .i64 k) (fun i => j - (intOf i).toNat)
  case atStart => exact ⟨0, by omega, rfl⟩
  case round =>
    obtain ⟨k, hk, rfl⟩ := hrel
    have hkc : (k : Int) < c := by omega
    go_wp2_with fail
    refine (rPlus_32 _ _ _).mono ?_
    rintro e w' ⟨rfl, rfl⟩
    go_wp2_with fail
    refine (r2Slot _ _ _ hc (by omega)).mono ?_
    rintro e w' ⟨rfl, rfl⟩
    rw [mod32_mod hc]
    have E := HF.out k (by omega)
    by_cases e : k = j
    · subst e
      have E' : ((p + k) % c == s) = true := by rw [E]; simp
      clear E HF
      go_wp2
      go_ret
      exact ⟨rfl, rfl⟩
    · have E' : ((p + k) % c == s) = false := by rw [E]; simp; omega
      clear E
      go_wp2
      exact ⟨⟨k + 1, by omega, by go_num⟩, by simp [intOf]; omega⟩
theorem r2First_64 (c s p : Int) (w : World) (hc : rightB c = true) (h0 : 0 ≤ s) (h1 : s < c) : Calls Tryz.prog 164 #[.int .i64 64, .int .i64 c, .int .i64 s, .int .u64 p] w fun e w' => e = .returned (.int .u64 (U64 (p + (s - p) % c))) ∧ w = w' := by
  have hr := right_range hc
  have hf := first_range hc p s
  obtain ⟨j, hj⟩ := Int.eq_ofNat_of_zero_le hf.1
  rw [hj] at hf ⊢
  have HF := Lib.hid (fun (i : Nat) (hi : (i : Int) ≤ (s - p) % c) => first_is hc p s i h0 h1 hi)
  rw [hj] at HF
  clear hj
  go_enter Tryz.func164, Tryz.ntmps164
  go_wp2
  go_loop [9] (fun i => ∃ k : Nat, k ≤ j ∧ i = .int .i64 k) (fun i => j - (intOf i).toNat)
  case atStart => exact ⟨0, by omega, rfl⟩
  case round =>
    obtain ⟨k, hk, rfl⟩ := hrel
    have hkc : (k : Int) < c := by omega
    go_wp2_with fail
    refine (rPlus_64 _ _ _).mono ?_
    rintro e w' ⟨rfl, rfl⟩
    go_wp2_with fail
    refine (r2Slot _ _ _ hc (U64_range _).1).mono ?_
    rintro e w' ⟨rfl, rfl⟩
    rw [mod64_mod hc]
    have E := HF.out k (by omega)
    by_cases e : k = j
    · subst e
      have E' : ((p + k) % c == s) = true := by rw [E]; simp
      clear E HF
      go_wp2
      go_ret
      exact ⟨rfl, rfl⟩
    · have E' : ((p + k) % c == s) = false := by rw [E]; simp; omega
      clear E
      go_wp2
      exact ⟨⟨k + 1, by omega, by go_num⟩, by simp [intOf]; omega⟩
theorem r2Ahead_32 (c s p : Int) (w : World) (hc : rightB c = true) (h0 : 0 ≤ s) (h1 : s < c) : Calls Tryz.prog 165 #[.int .i64 32, .int .i64 c, .int .i64 s, .int .u64 p] w fun e w' => e = .returned (.int .u64 ((p + (s - p) % c - c) % 4294967296 / c)) ∧ w = w' := by
  have hr := right_range hc
  go_enter Tryz.func165, Tryz.ntmps165
  go_wp2_with fail
  refine (r2First_32 _ _ _ _ hc h0 h1).mono ?_
  rintro e w' ⟨rfl, rfl⟩
  go_wp2_with fail
  refine (rPlus_32 _ _ _).mono ?_
  rintro e w' ⟨rfl, rfl⟩
  go_wp2_with fail
  refine (r2Round _ _ _ hc (by omega) (by omega)).mono ?_
  rintro e w' ⟨rfl, rfl⟩
  go_wp2
  go_ret
  exact ⟨rfl, rfl⟩
theorem r2Ahead_64 (c s p : Int) (w : World) (hc : rightB c = true) (h0 : 0 ≤ s) (h1 : s < c) : Calls Tryz.prog 165 #[.int .i64 64, .int .i64 c, .int .i64 s, .int .u64 p] w fun e w' => e = .returned (.int .u64 (U64 (p + (s - p) % c - c) / c)) ∧ w = w' := by
  have hr := right_range hc
  go_enter Tryz.func165, Tryz.ntmps165
  go_wp2_with fail
  refine (r2First_64 _ _ _ _ hc h0 h1).mono ?_
  rintro e w' ⟨rfl, rfl⟩
  go_wp2_with fail
  refine (rPlus_64 _ _ _).mono ?_
  rintro e w' ⟨rfl, rfl⟩
  rw [U64_U64_add]
  go_wp2_with fail
  refine (r2Round _ _ _ hc (U64_range _).1 (U64_range _).2).mono ?_
  rintro e w' ⟨rfl, rfl⟩
  go_wp2
  go_ret
  exact ⟨rfl, rfl⟩
end Go.Proofs.YtkmfamidahlgiaaGreatDoor
