/- The walk of OrderRaces. -/
import Derived.Test.YtoaifbengichbaaOr14
import Derived.Test.YtoaifbengichbaaOpenA
namespace Go.Proofs.Ytoaifbengichbaa
open Go.RowKit
set_option linter.unusedVariables false
set_option linter.unusedSimpArgs false
set_option maxHeartbeats 4000000
attribute [local go_sem] later_cell later_frozen later_const
theorem wfl_of {ls : List Acc} (h : ∀ d ∈ ls, AccWf d) : WfL ls := fun i hi => by
  rw [← A_at hi]
  exact (h _ (List.getElem_mem hi)).2.2.1
set_option maxRecDepth 100000 in
theorem orderRaces_walk (n : Int) (a : Option Addr) (len cap : Nat) (ls : List Acc) (w : World) (wn : (Lit.int .i64 n).wf = true) (hI : IsAccs w a len cap ls) :
    Calls Try.prog 5 #[.int .i64 n, .slice a len cap] w fun e w' => e = .returned (.bool true) ∧ Below w.heap.size w w' := by
  obtain ⟨hlen, hA, hwf⟩ := hI
  subst hlen
  have CV := Lib.hid (fun w => live13 w)
  by_cases h150 : 150 < ls.length
  · have d0 : decide ((150 : Int) < (ls.length : Int)) = true := by simp; omega
    clear hA hwf
    go_enter Try.func5, Try.ntmps5
    go_wp2_with fail
    refine (CV.out _).mono ?_
    rintro e w1 ⟨rfl, X1⟩
    go_wp2
    go_ret
    exact ⟨rfl, X1.below⟩
  have d0 : decide ((150 : Int) < (ls.length : Int)) = false := by simp; omega
  have HA := Lib.hid hA
  have CR := Lib.hid (fun w' (hx : Ext w w') => rRight n _ ls w' (hA.ext hx))
  cases hr : rightL n ls
  case false =>
    rw [hr] at CR
    have C1 := Lib.hid (oRace_no n _ ls w hA hr)
    clear hA hwf hr
    go_enter Try.func5, Try.ntmps5
    go_wp2_with fail
    refine C1.out.mono ?_
    rintro e w1 ⟨rfl, X1⟩
    go_wp2_with fail
    refine (CR.out _ X1).mono ?_
    rintro e w2 ⟨rfl, X2⟩
    go_wp2_with fail
    refine (CV.out _).mono ?_
    rintro e w3 ⟨rfl, X3⟩
    go_wp2
    go_ret
    exact ⟨rfl, ((X1.trans X2).trans X3).below⟩
  rw [hr] at CR
  obtain ⟨m, rfl, R⟩ := rl_of hr (by omega)
  have C1 := Lib.hid (oRace_yes m _ ls w hA R (wfl_of hwf))
  have C2 := Lib.hid (fun w' (hx : Ext w w') => rRace m _ ls w' (hA.ext hx) R)
  unfold raceV at C1
  unfold raceR at C2
  clear hA hwf hr R
  by_cases hj : jj m ls < ls.length
  · rw [if_pos hj] at C1 C2
    generalize jj m ls = j at *
    generalize rv m ls j = i at *
    have d1 : decide ((0 : Int) ≤ (i : Int)) = true := by simp
    have e1 : max (i : Int) 0 = i := by omega
    have e2 : max (j : Int) 0 = j := by omega
    go_enter Try.func5, Try.ntmps5
    go_wp2_with fail
    refine C1.out.mono ?_
    rintro e w1 ⟨rfl, X1⟩
    go_wp2_with fail
    refine (CR.out _ X1).mono ?_
    rintro e w2 ⟨rfl, X2⟩
    go_wp2_with fail
    refine (C2.out _ (X1.trans X2)).mono ?_
    rintro e w3 ⟨rfl, X3⟩
    go_wp2_with fail
    refine (CV.out _).mono ?_
    rintro e w4 ⟨rfl, X4⟩
    go_wp2
    go_ret
    exact ⟨rfl, (((X1.trans X2).trans X3).trans X4).below⟩
  rw [if_neg hj] at C1 C2
  go_enter Try.func5, Try.ntmps5
  go_wp2_with fail
  refine C1.out.mono ?_
  rintro e w1 ⟨rfl, X1⟩
  go_wp2_with fail
  refine (CR.out _ X1).mono ?_
  rintro e w2 ⟨rfl, X2⟩
  go_wp2_with fail
  refine (C2.out _ (X1.trans X2)).mono ?_
  rintro e w3 ⟨rfl, X3⟩
  go_wp2_with fail
  refine (CV.out _).mono ?_
  rintro e w4 ⟨rfl, X4⟩
  go_wp2
  go_ret
  exact ⟨rfl, (((X1.trans X2).trans X3).trans X4).below⟩
end Go.Proofs.Ytoaifbengichbaa
