/- SpanTells, all ways. -/
import Derived.Test.YtclhbdedibcgjaaLawTellsA
import Derived.Test.YtclhbdedibcgjaaLawTellsB
namespace Go.Proofs.Ytclhbdedibcgjaa
open Go.RowKit Go.Shelf
set_option linter.unusedVariables false
set_option maxHeartbeats 4000000
attribute [local go_sem] later_cell later_frozen later_const
theorem spanTells_walk (n i f p : Int) (w : World) (w0 : (Lit.int .i64 n).wf = true) (w1 : (Lit.int .i64 i).wf = true) (w2 : (Lit.int .u64 f).wf = true) (w3 : (Lit.int .u64 p).wf = true) :
    Calls Try.prog 3 #[.int .i64 n, .int .i64 i, .agg #[.int .u64 f, .int .u64 p]] w fun e w' => e = .returned (.bool true) ∧ Below w.heap.size w w' := by
  cases hk : okN n
  · exact spanTells_bad n i f p w hk
  · by_cases hn : 200 < n
    · exact spanTells_many n i f p w hk hn
    · have hr := okN_true hk
      obtain ⟨m, rfl⟩ := Int.eq_ofNat_of_zero_le hr.1
      by_cases h0 : 0 ≤ i
      · by_cases h1 : i < m
        · exact spanTells_yes m i f p w (by omega) (wf_u64 w2) (wf_u64 w3) h0 h1
        · exact spanTells_hi m i f p w (by omega) (wf_u64 w2) (wf_u64 w3) h0 (by omega)
      · exact spanTells_lo m i f p w (by omega) (wf_u64 w2) (wf_u64 w3) (by omega)
end Go.Proofs.Ytclhbdedibcgjaa
