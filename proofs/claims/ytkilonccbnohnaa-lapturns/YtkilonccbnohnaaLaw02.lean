/- The walks of layer 2's statements, out of the contracts. -/
import Derived.Test.YtkilonccbnohnaaLap
import Derived.Test.YtkilonccbnohnaaRef02
import Derived.Lib.Hide
import Derived.RegionTactic
import Derived.ChangeAlike
namespace Go.Proofs.Ytkilonccbnohnaa
open Go.RowKit
set_option linter.unusedVariables false
set_option maxHeartbeats 400000
theorem live02 (w : World) : Calls Try.prog 34 #[] w fun e w' => e = .returned (.bool true) ∧ w = w' := by
  have h8 : rightB 8 = true := by decide
  have hP : Pw (2 + 1) = 8 := by decide
  have HP := Lib.hid hP
  clear hP
  go_enter Try.func34, Try.ntmps34
  go_wp2_with fail
  refine (slotU32 _ _ _ h8 (by decide) (by decide)).mono ?_
  rintro e w' ⟨rfl, rfl⟩
  go_wp2_with fail
  refine (nextU32 _ _ _ h8).mono ?_
  rintro e w' ⟨rfl, rfl⟩
  go_wp2_with fail
  have hL := lLog_yes 2 (by omega) w
  rw [HP.out] at hL
  refine hL.mono ?_
  rintro e w' ⟨rfl, rfl⟩
  clear hL
  go_wp2_with fail
  refine (slotU64 _ _ _ h8 (by decide) (by decide)).mono ?_
  rintro e w' ⟨rfl, rfl⟩
  go_wp2
  go_ret
  exact ⟨rfl, rfl⟩
theorem lapBack_walk (c p : Int) (w : World) (w0 : (Lit.int .i64 c).wf = true) (w1 : (Lit.int .u64 p).wf = true) :
    Calls Try.prog 8 #[.int .i64 c, .int .u64 p] w fun e w' => e = .returned (.bool true) ∧ Below w.heap.size w w' := by
  have hp := wf_u64 w1
  clear w0 w1
  cases hc : rightB c
  · go_enter Try.func8, Try.ntmps8
    go_wp2_with fail
    refine (r2Right _ _).mono ?_
    rintro e w' ⟨rfl, rfl⟩
    go_wp2_with fail
    refine (live02 _).mono ?_
    rintro e w' ⟨rfl, rfl⟩
    go_wp2
    go_ret
    exact ⟨rfl, Below.refl _ _⟩
  · have hr := right_range hc
    have hm := mod_range p
    have hs := slot_range hc (p % 4294967296)
    have hs2 := slot_range hc p
    have B1 := Lib.hid (at_back32 hc (p % 4294967296) hm.1 hm.2)
    have B2 := Lib.hid (at_back64 hc p hp.1 hp.2)
    go_enter Try.func8, Try.ntmps8
    go_wp2_with fail
    refine (r2Right _ _).mono ?_
    rintro e w' ⟨rfl, rfl⟩
    go_wp2_with fail
    refine (ofU32 _ _).mono ?_
    rintro e w' ⟨rfl, rfl⟩
    go_wp2_with fail
    refine (slotU32 _ _ _ hc hm.1 hm.2).mono ?_
    rintro e w' ⟨rfl, rfl⟩
    go_wp2_with fail
    refine (roundU32 _ _ _ hc hm.1 hm.2).mono ?_
    rintro e w' ⟨rfl, rfl⟩
    go_wp2_with fail
    refine (atU32 _ _ _ _ hc hs.1 hs.2).mono ?_
    rintro e w' ⟨rfl, rfl⟩
    rw [B1.out]
    go_wp2_with fail
    refine (slotU64 _ _ _ hc hp.1 hp.2).mono ?_
    rintro e w' ⟨rfl, rfl⟩
    go_wp2_with fail
    refine (roundU64 _ _ _ hc hp.1 hp.2).mono ?_
    rintro e w' ⟨rfl, rfl⟩
    go_wp2_with fail
    refine (atU64 _ _ _ _ hc hs2.1 hs2.2).mono ?_
    rintro e w' ⟨rfl, rfl⟩
    rw [B2.out]
    go_wp2_with fail
    refine (live02 _).mono ?_
    rintro e w' ⟨rfl, rfl⟩
    go_wp2
    go_ret
    exact ⟨rfl, Below.refl _ _⟩
theorem lapApart_walk (c p n : Int) (w : World) (w0 : (Lit.int .i64 c).wf = true) (w1 : (Lit.int .u64 p).wf = true) (w2 : (Lit.int .u32 n).wf = true) :
    Calls Try.prog 9 #[.int .i64 c, .int .u64 p, .int .u32 n] w fun e w' => e = .returned (.bool true) ∧ Below w.heap.size w w' := by
  have hp := wf_u64 w1
  have hn := wf_u32 w2
  clear w0 w1 w2
  cases hc : rightB c
  · go_enter Try.func9, Try.ntmps9
    go_wp2_with fail
    refine (r2Right _ _).mono ?_
    rintro e w' ⟨rfl, rfl⟩
    go_wp2_with fail
    refine (live02 _).mono ?_
    rintro e w' ⟨rfl, rfl⟩
    go_wp2
    go_ret
    exact ⟨rfl, Below.refl _ _⟩
  · have hr := right_range hc
    have hm := mod_range p
    have hf := slot_range hc n
    have hA := apart' hc p n
    have N1 := Lib.hid (next_slot hc p)
    have R1 := next_round32 hc (p % 4294967296) hm.1 hm.2
    have R1' : ((p + c) % 4294967296 / c == p % 4294967296 / c) = false := by rw [U32_mod_add] at R1; exact R1
    clear R1
    have R2 := next_round64 hc p hp.1 hp.2
    have S1 : ((p + c) % 4294967296 / c != p % 4294967296 / c) = true := by simp only [bne, R1', Bool.not_false]
    have S2 : (U64 (p + c) / c != p / c) = true := by simp only [bne, R2, Bool.not_false]
    go_enter Try.func9, Try.ntmps9
    go_wp2_with fail
    refine (r2Right _ _).mono ?_
    rintro e w' ⟨rfl, rfl⟩
    go_wp2_with fail
    refine (ofU32 _ _).mono ?_
    rintro e w' ⟨rfl, rfl⟩
    go_wp2_with fail
    refine (addU32 _ _ _).mono ?_
    rintro e w' ⟨rfl, rfl⟩
    go_wp2_with fail
    refine (addU64 _ _ _).mono ?_
    rintro e w' ⟨rfl, rfl⟩
    go_wp2_with fail
    refine (slotU32 _ _ _ hc hm.1 hm.2).mono ?_
    rintro e w' ⟨rfl, rfl⟩
    rw [mod32_mod hc]
    go_wp2_with fail
    refine (slotU32 _ _ _ hc (by omega) (by omega)).mono ?_
    rintro e w' ⟨rfl, rfl⟩
    rw [mod32_mod hc]
    go_wp2_with fail
    refine (slotU64 _ _ _ hc hp.1 hp.2).mono ?_
    rintro e w' ⟨rfl, rfl⟩
    go_wp2_with fail
    refine (slotU64 _ _ _ hc (U64_range _).1 (U64_range _).2).mono ?_
    rintro e w' ⟨rfl, rfl⟩
    rw [mod64_mod hc]
    go_wp2_with fail
    refine (nextU32 _ _ _ hc).mono ?_
    rintro e w' ⟨rfl, rfl⟩
    go_wp2_with fail
    refine (nextU64 _ _ _ hc).mono ?_
    rintro e w' ⟨rfl, rfl⟩
    go_wp2_with fail
    refine (slotU32 _ _ _ hc (by omega) (by omega)).mono ?_
    rintro e w' ⟨rfl, rfl⟩
    rw [mod32_mod hc, N1.out]
    go_wp2_with fail
    refine (slotU32 _ _ _ hc (by omega) (by omega)).mono ?_
    rintro e w' ⟨rfl, rfl⟩
    rw [mod32_mod hc]
    go_wp2_with fail
    refine (roundU32 _ _ _ hc (by omega) (by omega)).mono ?_
    rintro e w' ⟨rfl, rfl⟩
    go_wp2_with fail
    refine (roundU32 _ _ _ hc (by omega) (by omega)).mono ?_
    rintro e w' ⟨rfl, rfl⟩
    go_wp2_with fail
    refine (slotU64 _ _ _ hc (U64_range _).1 (U64_range _).2).mono ?_
    rintro e w' ⟨rfl, rfl⟩
    rw [mod64_mod hc, N1.out]
    go_wp2_with fail
    refine (slotU64 _ _ _ hc hp.1 hp.2).mono ?_
    rintro e w' ⟨rfl, rfl⟩
    go_wp2_with fail
    refine (roundU64 _ _ _ hc (U64_range _).1 (U64_range _).2).mono ?_
    rintro e w' ⟨rfl, rfl⟩
    go_wp2_with fail
    refine (roundU64 _ _ _ hc hp.1 hp.2).mono ?_
    rintro e w' ⟨rfl, rfl⟩
    go_wp2_with fail
    refine (live02 _).mono ?_
    rintro e w' ⟨rfl, rfl⟩
    go_wp2
    go_ret
    exact ⟨rfl, Below.refl _ _⟩
theorem none02 (c s p r : Int) (w : World) (hc : rightB c = false) (p0 : 0 ≤ p) (p1 : p < 18446744073709551616) :
    Calls Try.prog 33 #[.int .i64 c, .int .i64 s, .int .u64 p, .int .u64 r] w fun e w' => e = .returned (.bool true) ∧ w = w' := by
  have h := hc
  go_enter Try.func33, Try.ntmps33
  go_wp2_with fail
  refine (ofU32 _ _).mono ?_
  rintro e w' ⟨rfl, rfl⟩
  go_wp2_with fail
  refine (ofU32 _ _).mono ?_
  rintro e w' ⟨rfl, rfl⟩
  go_wp2_with fail
  refine (lLog_no _ hc _).mono ?_
  rintro e w' ⟨rfl, rfl⟩
  go_wp2_with fail
  refine (slotU32_no _ _ _ hc).mono ?_
  rintro e w' ⟨rfl, rfl⟩
  go_wp2_with fail
  refine (roundU32_no _ _ _ hc).mono ?_
  rintro e w' ⟨rfl, rfl⟩
  go_wp2_with fail
  refine (atU32_no _ _ _ _ (Or.inl hc)).mono ?_
  rintro e w' ⟨rfl, rfl⟩
  go_wp2_with fail
  refine (nextU32_no _ _ _ hc).mono ?_
  rintro e w' ⟨rfl, rfl⟩
  go_wp2_with fail
  refine (firstU32_no _ _ _ _ (Or.inl hc)).mono ?_
  rintro e w' ⟨rfl, rfl⟩
  go_wp2_with fail
  refine (aheadU32_no _ _ _ _ (Or.inl hc)).mono ?_
  rintro e w' ⟨rfl, rfl⟩
  go_wp2_with fail
  refine (slotU64_no _ _ _ hc).mono ?_
  rintro e w' ⟨rfl, rfl⟩
  go_wp2_with fail
  refine (roundU64_no _ _ _ hc).mono ?_
  rintro e w' ⟨rfl, rfl⟩
  go_wp2_with fail
  refine (atU64_no _ _ _ _ (Or.inl hc)).mono ?_
  rintro e w' ⟨rfl, rfl⟩
  go_wp2_with fail
  refine (nextU64_no _ _ _ hc).mono ?_
  rintro e w' ⟨rfl, rfl⟩
  go_wp2_with fail
  refine (turnsU64_no _ _ _ _ hc).mono ?_
  rintro e w' ⟨rfl, rfl⟩
  go_wp2
  go_ret
  exact ⟨rfl, rfl⟩
theorem small02_in (c s p r : Int) (w : World) (hc : rightB c = true) (p0 : 0 ≤ p) (h0 : 0 ≤ s) (h1 : s < c) :
    Calls Try.prog 37 #[.int .i64 c, .int .i64 s, .int .u64 p, .int .u64 r] w fun e w' => e = .returned (.bool true) ∧ w = w' := by
  have hr := right_range hc
  have hm := mod_range p
  have hd1 : decide (s < 0) = false := by simp; omega
  have hd2 : decide (c ≤ s) = false := by simp; omega
  have hro := round_le hc (p % 4294967296) hm.1
  have hah := round_le hc ((p % 4294967296 + (s - p % 4294967296) % c - c) % 4294967296) (by omega)
  go_enter Try.func37, Try.ntmps37
  go_wp2_with fail
  refine (rCut_32 _ _ p0).mono ?_
  rintro e w' ⟨rfl, rfl⟩
  go_wp2_with fail
  refine (ofU32 _ _).mono ?_
  rintro e w' ⟨rfl, rfl⟩
  go_wp2_with fail
  refine (slotU32 _ _ _ hc hm.1 hm.2).mono ?_
  rintro e w' ⟨rfl, rfl⟩
  go_wp2_with fail
  refine (r2Slot _ _ _ hc hm.1).mono ?_
  rintro e w' ⟨rfl, rfl⟩
  go_wp2_with fail
  refine (ofU32 _ _).mono ?_
  rintro e w' ⟨rfl, rfl⟩
  go_wp2_with fail
  refine (roundU32 _ _ _ hc hm.1 hm.2).mono ?_
  rintro e w' ⟨rfl, rfl⟩
  go_wp2_with fail
  refine (r2Round _ _ _ hc hm.1 (by omega)).mono ?_
  rintro e w' ⟨rfl, rfl⟩
  go_wp2_with fail
  refine (ofU32 _ _).mono ?_
  rintro e w' ⟨rfl, rfl⟩
  go_wp2_with fail
  refine (nextU32 _ _ _ hc).mono ?_
  rintro e w' ⟨rfl, rfl⟩
  go_wp2_with fail
  refine (rPlus_32 _ _ _).mono ?_
  rintro e w' ⟨rfl, rfl⟩
  go_wp2_with fail
  refine (ofU32 _ _).mono ?_
  rintro e w' ⟨rfl, rfl⟩
  go_wp2_with fail
  refine (atU32 _ _ _ _ hc h0 h1).mono ?_
  rintro e w' ⟨rfl, rfl⟩
  rw [round_mod32 hc]
  go_wp2_with fail
  refine (ofU32 _ _).mono ?_
  rintro e w' ⟨rfl, rfl⟩
  go_wp2_with fail
  refine (firstU32 _ _ _ _ hc h0 h1 hm.1 hm.2).mono ?_
  rintro e w' ⟨rfl, rfl⟩
  go_wp2_with fail
  refine (ofU32 _ _).mono ?_
  rintro e w' ⟨rfl, rfl⟩
  go_wp2_with fail
  refine (aheadU32 _ _ _ _ hc h0 h1 hm.1 hm.2).mono ?_
  rintro e w' ⟨rfl, rfl⟩
  go_wp2_with fail
  refine (r2At_32 _ _ _ _ hc h0 h1).mono ?_
  rintro e w' ⟨rfl, rfl⟩
  go_wp2_with fail
  refine (r2First_32 _ _ _ _ hc h0 h1).mono ?_
  rintro e w' ⟨rfl, rfl⟩
  go_wp2_with fail
  refine (r2Ahead_32 _ _ _ _ hc h0 h1).mono ?_
  rintro e w' ⟨rfl, rfl⟩
  go_wp2
  go_ret
  exact ⟨rfl, rfl⟩
theorem small02_out (c s p r : Int) (w : World) (hc : rightB c = true) (p0 : 0 ≤ p) (h0 : s < 0 ∨ c ≤ s) :
    Calls Try.prog 37 #[.int .i64 c, .int .i64 s, .int .u64 p, .int .u64 r] w fun e w' => e = .returned (.bool true) ∧ w = w' := by
  have hr := right_range hc
  have hm := mod_range p
  have hro := round_le hc (p % 4294967296) hm.1
  go_enter Try.func37, Try.ntmps37
  go_wp2_with fail
  refine (rCut_32 _ _ p0).mono ?_
  rintro e w' ⟨rfl, rfl⟩
  go_wp2_with fail
  refine (ofU32 _ _).mono ?_
  rintro e w' ⟨rfl, rfl⟩
  go_wp2_with fail
  refine (slotU32 _ _ _ hc hm.1 hm.2).mono ?_
  rintro e w' ⟨rfl, rfl⟩
  go_wp2_with fail
  refine (r2Slot _ _ _ hc hm.1).mono ?_
  rintro e w' ⟨rfl, rfl⟩
  go_wp2_with fail
  refine (ofU32 _ _).mono ?_
  rintro e w' ⟨rfl, rfl⟩
  go_wp2_with fail
  refine (roundU32 _ _ _ hc hm.1 hm.2).mono ?_
  rintro e w' ⟨rfl, rfl⟩
  go_wp2_with fail
  refine (r2Round _ _ _ hc hm.1 (by omega)).mono ?_
  rintro e w' ⟨rfl, rfl⟩
  go_wp2_with fail
  refine (ofU32 _ _).mono ?_
  rintro e w' ⟨rfl, rfl⟩
  go_wp2_with fail
  refine (nextU32 _ _ _ hc).mono ?_
  rintro e w' ⟨rfl, rfl⟩
  go_wp2_with fail
  refine (rPlus_32 _ _ _).mono ?_
  rintro e w' ⟨rfl, rfl⟩
  go_wp2_with fail
  refine (ofU32 _ _).mono ?_
  rintro e w' ⟨rfl, rfl⟩
  go_wp2_with fail
  refine (atU32_no _ _ _ _ (Or.inr h0)).mono ?_
  rintro e w' ⟨rfl, rfl⟩
  go_wp2_with fail
  refine (ofU32 _ _).mono ?_
  rintro e w' ⟨rfl, rfl⟩
  go_wp2_with fail
  refine (firstU32_no _ _ _ _ (Or.inr h0)).mono ?_
  rintro e w' ⟨rfl, rfl⟩
  go_wp2_with fail
  refine (ofU32 _ _).mono ?_
  rintro e w' ⟨rfl, rfl⟩
  go_wp2_with fail
  refine (aheadU32_no _ _ _ _ (Or.inr h0)).mono ?_
  rintro e w' ⟨rfl, rfl⟩
  by_cases h1 : s < 0
  · have hd1 : decide (s < 0) = true := by simp; omega
    go_wp2
    go_ret
    exact ⟨rfl, rfl⟩
  · have hd1 : decide (s < 0) = false := by simp; omega
    have hd2 : decide (c ≤ s) = true := by simp; omega
    go_wp2
    go_ret
    exact ⟨rfl, rfl⟩
theorem great02_in (c s p r : Int) (w : World) (hc : rightB c = true) (p0 : 0 ≤ p) (p1 : p < 18446744073709551616) (h0 : 0 ≤ s) (h1 : s < c) :
    Calls Try.prog 38 #[.int .i64 c, .int .i64 s, .int .u64 p, .int .u64 r] w fun e w' => e = .returned (.bool true) ∧ w = w' := by
  have hr := right_range hc
  have hd1 : decide (s < 0) = false := by simp; omega
  have hd2 : decide (c ≤ s) = false := by simp; omega
  go_enter Try.func38, Try.ntmps38
  go_wp2_with fail
  refine (slotU64 _ _ _ hc p0 p1).mono ?_
  rintro e w' ⟨rfl, rfl⟩
  go_wp2_with fail
  refine (r2Slot _ _ _ hc p0).mono ?_
  rintro e w' ⟨rfl, rfl⟩
  go_wp2_with fail
  refine (roundU64 _ _ _ hc p0 p1).mono ?_
  rintro e w' ⟨rfl, rfl⟩
  go_wp2_with fail
  refine (r2Round _ _ _ hc p0 p1).mono ?_
  rintro e w' ⟨rfl, rfl⟩
  go_wp2_with fail
  refine (nextU64 _ _ _ hc).mono ?_
  rintro e w' ⟨rfl, rfl⟩
  go_wp2_with fail
  refine (rPlus_64 _ _ _).mono ?_
  rintro e w' ⟨rfl, rfl⟩
  go_wp2_with fail
  refine (atU64 _ _ _ _ hc h0 h1).mono ?_
  rintro e w' ⟨rfl, rfl⟩
  go_wp2_with fail
  refine (firstU64 _ _ _ _ hc h0 h1 p0 p1).mono ?_
  rintro e w' ⟨rfl, rfl⟩
  go_wp2_with fail
  refine (aheadU64 _ _ _ _ hc h0 h1 p0 p1).mono ?_
  rintro e w' ⟨rfl, rfl⟩
  go_wp2_with fail
  refine (r2At_64 _ _ _ _ hc h0 h1).mono ?_
  rintro e w' ⟨rfl, rfl⟩
  go_wp2_with fail
  refine (r2First_64 _ _ _ _ hc h0 h1).mono ?_
  rintro e w' ⟨rfl, rfl⟩
  go_wp2_with fail
  refine (r2Ahead_64 _ _ _ _ hc h0 h1).mono ?_
  rintro e w' ⟨rfl, rfl⟩
  go_wp2
  go_ret
  exact ⟨rfl, rfl⟩
theorem great02_out (c s p r : Int) (w : World) (hc : rightB c = true) (p0 : 0 ≤ p) (p1 : p < 18446744073709551616) (h0 : s < 0 ∨ c ≤ s) :
    Calls Try.prog 38 #[.int .i64 c, .int .i64 s, .int .u64 p, .int .u64 r] w fun e w' => e = .returned (.bool true) ∧ w = w' := by
  have hr := right_range hc
  go_enter Try.func38, Try.ntmps38
  go_wp2_with fail
  refine (slotU64 _ _ _ hc p0 p1).mono ?_
  rintro e w' ⟨rfl, rfl⟩
  go_wp2_with fail
  refine (r2Slot _ _ _ hc p0).mono ?_
  rintro e w' ⟨rfl, rfl⟩
  go_wp2_with fail
  refine (roundU64 _ _ _ hc p0 p1).mono ?_
  rintro e w' ⟨rfl, rfl⟩
  go_wp2_with fail
  refine (r2Round _ _ _ hc p0 p1).mono ?_
  rintro e w' ⟨rfl, rfl⟩
  go_wp2_with fail
  refine (nextU64 _ _ _ hc).mono ?_
  rintro e w' ⟨rfl, rfl⟩
  go_wp2_with fail
  refine (rPlus_64 _ _ _).mono ?_
  rintro e w' ⟨rfl, rfl⟩
  go_wp2_with fail
  refine (atU64_no _ _ _ _ (Or.inr h0)).mono ?_
  rintro e w' ⟨rfl, rfl⟩
  go_wp2_with fail
  refine (firstU64_no _ _ _ _ (Or.inr h0)).mono ?_
  rintro e w' ⟨rfl, rfl⟩
  go_wp2_with fail
  refine (aheadU64_no _ _ _ _ (Or.inr h0)).mono ?_
  rintro e w' ⟨rfl, rfl⟩
  by_cases h1 : s < 0
  · have hd1 : decide (s < 0) = true := by simp; omega
    go_wp2
    go_ret
    exact ⟨rfl, rfl⟩
  · have hd1 : decide (s < 0) = false := by simp; omega
    have hd2 : decide (c ≤ s) = true := by simp; omega
    go_wp2
    go_ret
    exact ⟨rfl, rfl⟩
theorem small02 (c s p r : Int) (w : World) (hc : rightB c = true) (p0 : 0 ≤ p) :
    Calls Try.prog 37 #[.int .i64 c, .int .i64 s, .int .u64 p, .int .u64 r] w fun e w' => e = .returned (.bool true) ∧ w = w' := by
  by_cases h : 0 ≤ s ∧ s < c
  · exact small02_in c s p r w hc p0 h.1 h.2
  · exact small02_out c s p r w hc p0 (by omega)
theorem great02 (c s p r : Int) (w : World) (hc : rightB c = true) (p0 : 0 ≤ p) (p1 : p < 18446744073709551616) :
    Calls Try.prog 38 #[.int .i64 c, .int .i64 s, .int .u64 p, .int .u64 r] w fun e w' => e = .returned (.bool true) ∧ w = w' := by
  by_cases h : 0 ≤ s ∧ s < c
  · exact great02_in c s p r w hc p0 p1 h.1 h.2
  · exact great02_out c s p r w hc p0 p1 (by omega)
theorem lapTells_walk (c s p r : Int) (w : World) (w0 : (Lit.int .i64 c).wf = true) (w1 : (Lit.int .i64 s).wf = true) (w2 : (Lit.int .u64 p).wf = true) (w3 : (Lit.int .u64 r).wf = true) :
    Calls Try.prog 7 #[.int .i64 c, .int .i64 s, .agg #[.int .u64 p, .int .u64 r]] w fun e w' => e = .returned (.bool true) ∧ Below w.heap.size w w' := by
  have hp := wf_u64 w2
  clear w0 w1 w2 w3
  have hb : Below w.heap.size w (w.alloc (Obj.cells #[Value.int IntKind.u64 p, Value.int IntKind.u64 r] 25)) := (Below.refl _ _).alloc (Nat.le_refl _) _
  cases hc : rightB c
  · go_enter Try.func7, Try.ntmps7
    go_wp2_with fail
    refine (lRight _ _).mono ?_
    rintro e w' ⟨rfl, rfl⟩
    go_wp2_with fail
    refine (r2Right _ _).mono ?_
    rintro e w' ⟨rfl, rfl⟩
    go_wp2_with fail
    refine (r2Right _ _).mono ?_
    rintro e w' ⟨rfl, rfl⟩
    go_wp2_with fail
    refine (none02 _ _ _ _ _ hc hp.1 hp.2).mono ?_
    rintro e w' ⟨rfl, rfl⟩
    go_wp2_with fail
    refine (live02 _).mono ?_
    rintro e w' ⟨rfl, rfl⟩
    go_wp2
    go_ret
    exact ⟨rfl, hb⟩
  · obtain ⟨k, hk, hK⟩ := right_Pw hc
    have HK := Lib.hid hK
    clear hK
    have hr := right_range hc
    have hL : ∀ w, Calls Try.prog 35 #[.int .i64 c] w fun e w' => e = .returned (.int .i64 (k + 1)) ∧ w = w' := by
      intro w; rw [HK.out]; exact lLog_yes k hk w
    have hL2 : ∀ w, Calls Try.prog 36 #[.int .i64 c] w fun e w' => e = .returned (.int .i64 (k + 1)) ∧ w = w' := by
      intro w; rw [HK.out]; exact r2Log k hk w
    have HL := Lib.hid hL
    have HL2 := Lib.hid hL2
    clear hL hL2 HK
    by_cases hbig : 4096 < c
    · go_enter Try.func7, Try.ntmps7
      go_wp2_with fail
      refine (lRight _ _).mono ?_
      rintro e w' ⟨rfl, rfl⟩
      go_wp2_with fail
      refine (r2Right _ _).mono ?_
      rintro e w' ⟨rfl, rfl⟩
      go_wp2_with fail
      refine (r2Right _ _).mono ?_
      rintro e w' ⟨rfl, rfl⟩
      go_wp2_with fail
      refine (HL.out _).mono ?_
      rintro e w' ⟨rfl, rfl⟩
      go_wp2_with fail
      refine (HL2.out _).mono ?_
      rintro e w' ⟨rfl, rfl⟩
      go_wp2_with fail
      refine (live02 _).mono ?_
      rintro e w' ⟨rfl, rfl⟩
      go_wp2
      go_ret
      exact ⟨rfl, hb⟩
    · go_enter Try.func7, Try.ntmps7
      go_wp2_with fail
      refine (lRight _ _).mono ?_
      rintro e w' ⟨rfl, rfl⟩
      go_wp2_with fail
      refine (r2Right _ _).mono ?_
      rintro e w' ⟨rfl, rfl⟩
      go_wp2_with fail
      refine (r2Right _ _).mono ?_
      rintro e w' ⟨rfl, rfl⟩
      go_wp2_with fail
      refine (HL.out _).mono ?_
      rintro e w' ⟨rfl, rfl⟩
      go_wp2_with fail
      refine (HL2.out _).mono ?_
      rintro e w' ⟨rfl, rfl⟩
      go_wp2_with fail
      refine (small02 _ _ _ _ _ hc hp.1).mono ?_
      rintro e w' ⟨rfl, rfl⟩
      go_wp2_with fail
      refine (great02 _ _ _ _ _ hc hp.1 hp.2).mono ?_
      rintro e w' ⟨rfl, rfl⟩
      go_wp2_with fail
      refine (live02 _).mono ?_
      rintro e w' ⟨rfl, rfl⟩
      go_wp2
      go_ret
      exact ⟨rfl, hb⟩
end Go.Proofs.Ytkilonccbnohnaa
