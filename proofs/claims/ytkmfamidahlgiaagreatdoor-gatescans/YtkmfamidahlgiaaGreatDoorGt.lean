/- Room behind the least gate: the program's and the document's. -/
import Derived.Test.YtkmfamidahlgiaaGreatDoorWide
import Derived.Test.YtkmfamidahlgiaaGreatDoorRef01
import Derived.Lib.Hide
import Derived.RegionTactic
namespace Go.Proofs.YtkmfamidahlgiaaGreatDoor
open Go.RowKit
set_option linter.unusedVariables false
set_option linter.unusedSimpArgs false
set_option maxHeartbeats 1000000
/-- how many positions have room, of a capacity and how much the next one leads the least gate by -/
def spc (c d : Int) : Int := if c ≤ 0 then 0 else if d ≤ 0 then c else if d < c then c - d else 0
theorem fits32 (c a n b : Int) (w : World) : Calls Tryz.prog 37 #[.int .i64 c, .int .u32 a, .int .i64 n, .int .u32 b] w fun e w' => e = .returned (.bool (decide (D32 (((a + n) % 4294967296) - b) ≤ c))) ∧ w = w' := by
  go_enter Tryz.func37, Tryz.ntmps37
  go_wp2_with fail
  refine (addU32 _ _ _).mono ?_
  rintro e w' ⟨rfl, rfl⟩
  go_wp2_with fail
  refine (diffU32 _ _ _).mono ?_
  rintro e w' ⟨rfl, rfl⟩
  go_wp2
  go_ret
  exact ⟨rfl, rfl⟩
theorem space32 (c a b : Int) (w : World) (hc : c ≤ 9223372036854775807) : Calls Tryz.prog 50 #[.int .i64 c, .int .u32 a, .int .u32 b] w fun e w' => e = .returned (.int .i64 (spc c (D32 (a - b)))) ∧ w = w' := by
  have r := D32_range (a - b)
  have C := Lib.hid (fun w => diffU32 a b w)
  generalize D32 (a - b) = d at *
  obtain ⟨r1, r2⟩ := r
  by_cases h1 : c ≤ 0
  · rw [show spc c d = 0 by unfold spc; omega]
    have h1' : ¬ 0 < c := by omega
    by_cases h2 : d ≤ 0
    · go_enter Tryz.func50, Tryz.ntmps50
      go_wp2_with fail
      refine (C.out _).mono ?_
      rintro e w' ⟨rfl, rfl⟩
      go_wp2
      go_ret
      exact ⟨rfl, rfl⟩
    · go_enter Tryz.func50, Tryz.ntmps50
      go_wp2_with fail
      refine (C.out _).mono ?_
      rintro e w' ⟨rfl, rfl⟩
      go_wp2
      go_ret
      exact ⟨rfl, rfl⟩
  · by_cases h2 : d ≤ 0
    · rw [show spc c d = c by unfold spc; omega]
      go_enter Tryz.func50, Tryz.ntmps50
      go_wp2_with fail
      refine (C.out _).mono ?_
      rintro e w' ⟨rfl, rfl⟩
      go_wp2
      go_ret
      exact ⟨rfl, rfl⟩
    · by_cases h3 : d < c
      · rw [show spc c d = c - d by unfold spc; omega]
        go_enter Tryz.func50, Tryz.ntmps50
        go_wp2_with fail
        refine (C.out _).mono ?_
        rintro e w' ⟨rfl, rfl⟩
        go_wp2
        go_ret
        exact ⟨rfl, rfl⟩
      · rw [show spc c d = 0 by unfold spc; omega]
        go_enter Tryz.func50, Tryz.ntmps50
        go_wp2_with fail
        refine (C.out _).mono ?_
        rintro e w' ⟨rfl, rfl⟩
        go_wp2
        go_ret
        exact ⟨rfl, rfl⟩
theorem fits64 (c a n b : Int) (w : World) : Calls Tryz.prog 141 #[.int .i64 c, .int .u64 a, .int .i64 n, .int .u64 b] w fun e w' => e = .returned (.bool (decide (D64 ((U64 (a + n)) - b) ≤ c))) ∧ w = w' := by
  go_enter Tryz.func141, Tryz.ntmps141
  go_wp2_with fail
  refine (addU64 _ _ _).mono ?_
  rintro e w' ⟨rfl, rfl⟩
  go_wp2_with fail
  refine (diffU64 _ _ _).mono ?_
  rintro e w' ⟨rfl, rfl⟩
  go_wp2
  go_ret
  exact ⟨rfl, rfl⟩
theorem rFits32 (c a n b : Int) (w : World) (hb : 0 ≤ b) : Calls Tryz.prog 167 #[.int .i64 32, .int .i64 c, .int .u64 a, .int .i64 n, .int .u64 b] w fun e w' => e = .returned (.bool (decide (D32 ((a + n) - b) ≤ c))) ∧ w = w' := by
  go_enter Tryz.func167, Tryz.ntmps167
  go_wp2_with fail
  refine (rPlus_32 _ _ _).mono ?_
  rintro e w' ⟨rfl, rfl⟩
  go_wp2_with fail
  refine (rGap_32 _ _ _ (by omega) hb).mono ?_
  rintro e w' ⟨rfl, rfl⟩
  go_wp2
  go_ret
  refine ⟨ret_bool ?_, rfl⟩
  rw [show D32 ((a + n) % 4294967296 - b) = D32 ((a + n) - b) by unfold D32; omega]
theorem rFits64 (c a n b : Int) (w : World) : Calls Tryz.prog 167 #[.int .i64 64, .int .i64 c, .int .u64 a, .int .i64 n, .int .u64 b] w fun e w' => e = .returned (.bool (decide (D64 (U64 (a + n) - b) ≤ c))) ∧ w = w' := by
  go_enter Tryz.func167, Tryz.ntmps167
  go_wp2_with fail
  refine (rPlus_64 _ _ _).mono ?_
  rintro e w' ⟨rfl, rfl⟩
  go_wp2_with fail
  refine (rGap_64 _ _ _).mono ?_
  rintro e w' ⟨rfl, rfl⟩
  go_wp2
  go_ret
  exact ⟨rfl, rfl⟩
theorem live16 (w : World) : Calls Tryz.prog 10 #[] w fun e w' => e = .returned (.bool true) ∧ w = w' := by
  have h1 : decide (D32 ((0 + 2) % 4294967296 - 4294967294) ≤ 4) = true := by decide
  have h2 : decide (D32 ((0 + 3) % 4294967296 - 4294967294) ≤ 4) = false := by decide
  have h3 : spc 4 (D32 (0 - 4294967294)) = 2 := by decide
  have H1 := Lib.hid h1
  have H2 := Lib.hid h2
  have H3 := Lib.hid h3
  clear h1 h2 h3
  go_enter Tryz.func10, Tryz.ntmps10
  go_wp2_with fail
  refine (fits32 _ _ _ _ _).mono ?_
  rintro e w' ⟨rfl, rfl⟩
  rw [H1.out]
  go_wp2_with fail
  refine (fits32 _ _ _ _ _).mono ?_
  rintro e w' ⟨rfl, rfl⟩
  rw [H2.out]
  go_wp2_with fail
  refine (space32 _ _ _ _ (by decide)).mono ?_
  rintro e w' ⟨rfl, rfl⟩
  rw [H3.out]
  go_wp2
  go_ret
  exact ⟨rfl, rfl⟩
end Go.Proofs.YtkmfamidahlgiaaGreatDoor
