/- PairRing, all ways. -/
import Derived.Test.YthdokmhbdjajaaaLawRing
namespace Go.Proofs.Ythdokmhbdjajaaa
open Go.RowKit
set_option linter.unusedVariables false
theorem pairRing_walk (a : Option Addr) (len cap : Nat) (zs : List (Int × Int)) (t : Int) (w : World) (h : IsTwos .i64 w a len cap zs) (w1 : (Lit.int .i64 t).wf = true) :
    Calls Try.prog 5 #[.slice a len cap, .int .i64 t] w fun e w' => e = .returned (.bool true) ∧ Below w.heap.size w w' := by
  by_cases hl : 100 < len ∨ len = 0 ∨ t < 0 ∨ (len : Int) ≤ t
  · exact ring_early a len cap t w hl
  · obtain ⟨t, rfl⟩ := Int.eq_ofNat_of_zero_le (show 0 ≤ t by omega)
    have h' := h
    obtain ⟨h1, _, _, _, h2⟩ := h
    rcases h2 with rfl | ⟨b, off, rfl, hz⟩
    · exfalso
      have : len = 0 := by simpa using h1.symm
      omega
    · subst h1
      exact ring_late b off cap t zs w h' (by omega) (by omega) hz
end Go.Proofs.Ythdokmhbdjajaaa
