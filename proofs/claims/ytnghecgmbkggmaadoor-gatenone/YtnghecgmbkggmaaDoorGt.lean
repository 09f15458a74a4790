/- Room behind the least gate: the program's and the document's. -/
import Derived.Test.YtnghecgmbkggmaaDoorWide
import Derived.Lib.Hide
import Derived.RegionTactic
namespace Go.Proofs.YtnghecgmbkggmaaDoor
open Go.RowKit
set_option linter.unusedVariables false
set_option linter.unusedSimpArgs false
set_option maxHeartbeats 1000000
/-- how many positions have room, of a capacity and how much the next one leads the least gate by -/
def spc (c d : Int) : Int := if c ≤ 0 then 0 else if d ≤ 0 then c else if d < c then c - d else 0
theorem fits32 (c a n b : Int) (w : World) : Calls Tryd.prog 27 #[.int .i64 c, .int .u32 a, .int .i64 n, .int .u32 b] w fun e w' => e = .returned (.bool (decide (D32 (((a + n) % 4294967296) - b) ≤ c))) ∧ w = w' := by
  go_enter Tryd.func27, Tryd.ntmps27
  go_wp2_with fail
  refine (addU32 _ _ _).mono ?_
  rintro e w' ⟨rfl, rfl⟩
  go_wp2_with fail
  refine (diffU32 _ _ _).mono ?_
  rintro e w' ⟨rfl, rfl⟩
  go_wp2
  go_ret
  exact ⟨rfl, rfl⟩
theorem space32 (c a b : Int) (w : World) (hc : c ≤ 9223372036854775807) : Calls Tryd.prog 28 #[.int .i64 c, .int .u32 a, .int .u32 b] w fun e w' => e = .returned (.int .i64 (spc c (D32 (a - b)))) ∧ w = w' := by
  have r := D32_range (a - b)
  have C := Lib.hid (fun w => diffU32 a b w)
  generalize D32 (a - b) = d at *
  obtain ⟨r1, r2⟩ := r
  by_cases h1 : c ≤ 0
  · rw [show spc c d = 0 by unfold spc; omega]
    have h1' : ¬ 0 < c := by omega
    by_cases h2 : d ≤ 0
    · go_enter Tryd.func28, Tryd.ntmps28
      go_wp2_with fail
      refine (C.out _).mono ?_
      rintro e w' ⟨rfl, rfl⟩
      go_wp2
      go_ret
      exact ⟨rfl, rfl⟩
    · go_enter Tryd.func28, Tryd.ntmps28
      go_wp2_with fail
      refine (C.out _).mono ?_
      rintro e w' ⟨rfl, rfl⟩
      go_wp2
      go_ret
      exact ⟨rfl, rfl⟩
  · by_cases h2 : d ≤ 0
    · rw [show spc c d = c by unfold spc; omega]
      go_enter Tryd.func28, Tryd.ntmps28
      go_wp2_with fail
      refine (C.out _).mono ?_
      rintro e w' ⟨rfl, rfl⟩
      go_wp2
      go_ret
      exact ⟨rfl, rfl⟩
    · by_cases h3 : d < c
      · rw [show spc c d = c - d by unfold spc; omega]
        go_enter Tryd.func28, Tryd.ntmps28
        go_wp2_with fail
        refine (C.out _).mono ?_
        rintro e w' ⟨rfl, rfl⟩
        go_wp2
        go_ret
        exact ⟨rfl, rfl⟩
      · rw [show spc c d = 0 by unfold spc; omega]
        go_enter Tryd.func28, Tryd.ntmps28
        go_wp2_with fail
        refine (C.out _).mono ?_
        rintro e w' ⟨rfl, rfl⟩
        go_wp2
        go_ret
        exact ⟨rfl, rfl⟩
theorem live16 (w : World) : Calls Tryd.prog 9 #[] w fun e w' => e = .returned (.bool true) ∧ w = w' := by
  have h1 : decide (D32 ((0 + 2) % 4294967296 - 4294967294) ≤ 4) = true := by decide
  have h2 : decide (D32 ((0 + 3) % 4294967296 - 4294967294) ≤ 4) = false := by decide
  have h3 : spc 4 (D32 (0 - 4294967294)) = 2 := by decide
  have H1 := Lib.hid h1
  have H2 := Lib.hid h2
  have H3 := Lib.hid h3
  clear h1 h2 h3
  go_enter Tryd.func9, Tryd.ntmps9
  go_wp2_with fail
  refine (fits32 _ _ _ _ _).mono ?_
  rintro e w' ⟨rfl, rfl⟩
  rw [H1.out]
  go_wp2_with fail
  refine (fits32 _ _ _ _ _).mono ?_
  rintro e w' ⟨rfl, rfl⟩
  rw [H2.out]
  go_wp2_with fail
  refine (space32 _ _ _ _ (by decide)).mono ?_
  rintro e w' ⟨rfl, rfl⟩
  rw [H3.out]
  go_wp2
  go_ret
  exact ⟨rfl, rfl⟩
end Go.Proofs.YtnghecgmbkggmaaDoor
