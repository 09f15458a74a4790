/- The walk of TickTells. -/
import Derived.Test.YtkikiehgkggfmabLawTick
namespace Go.Proofs.Ytkikiehgkggfmab
open Go.RowKit
set_option linter.unusedVariables false
set_option maxHeartbeats 2000000
theorem long_yes (a a2 : Option Addr) (n n2 cap cap2 : Nat) (w : World) (h : 100 < n ∨ 100 < n2) : Calls Try.prog 7 #[.slice a n cap, .slice a2 n2 cap2] w fun e w' => e = .returned (.bool true) ∧ w = w' := by
  have := long8 a a2 n n2 cap cap2 w
  have e : (decide (100 < n) || decide (100 < n2)) = true := by simpa using h
  rwa [e] at this
theorem long_no (a a2 : Option Addr) (n n2 cap cap2 : Nat) (w : World) (h : n ≤ 100) (h2 : n2 ≤ 100) : Calls Try.prog 7 #[.slice a n cap, .slice a2 n2 cap2] w fun e w' => e = .returned (.bool false) ∧ w = w' := by
  have := long8 a a2 n n2 cap cap2 w
  have e : (decide (100 < n) || decide (100 < n2)) = false := by simp; omega
  rwa [e] at this
theorem tick_len (a : List Int) (i : Int) : (tickL a i).length ≤ a.length := by
  unfold tickL
  split <;> simp
theorem join_le (a b : List Int) : (joinL a b).length ≤ a.length := by
  unfold joinL
  split
  · rw [jmix_len]; exact Nat.le_refl _
  · simp
theorem tickTells_walk (a : Option Addr) (len cap : Nat) (zs : List Int) (a2 : Option Addr) (len2 cap2 : Nat) (zs2 : List Int) (i : Int) (w : World) (h : IsRow .i64 w a len cap zs) (h2 : IsRow .i64 w a2 len2 cap2 zs2) (w2 : (Lit.int .i64 i).wf = true) :
    Calls Try.prog 3 #[.slice a len cap, .slice a2 len2 cap2, .int .i64 i] w fun e w' => e = .returned (.bool true) ∧ Below w.heap.size w w' := by
  by_cases hl : 100 < len ∨ 100 < len2
  · clear h h2
    have C := Lib.hid (long_yes a a2 len len2 cap cap2 w hl)
    clear hl
    go_enter Try.func3, Try.ntmps3
    go_wp2_with fail
    refine (C.out).mono ?_
    rintro e w' ⟨rfl, rfl⟩
    go_wp2_with fail
    refine (live8 _).mono ?_
    rintro e w1 ⟨rfl, X1⟩
    go_wp2
    go_ret
    exact ⟨rfl, X1.below⟩
  · obtain ⟨hv, hlen, _⟩ := intsV_of_row h
    obtain ⟨hv2, hlen2, _⟩ := intsV_of_row h2
    generalize zs.take len = xs at *
    generalize zs2.take len2 = ys at *
    have l1 : xs.length ≤ 1000000 := by omega
    have l2 : ys.length ≤ 1000000 := by omega
    have t1 := tick_len xs i
    have t2 := join_le xs ys
    exact (tickTells_way a a2 len len2 cap cap2 xs ys (tickL xs i) (joinL xs ys) i (sumL xs) (rightB xs) (withinB xs ys) (withinB ys xs) (bothB xs ys) w (by omega) (by omega) (by omega) (by omega)
      (fun w' hx => tRight _ xs w' (hv.ext hx) l1) (fun w' hx => rRight8 _ xs w' (hv.ext hx) l1) (fun w' hx => tTick _ xs i w' (hv.ext hx) l1) (fun w' hx => rTick8 _ xs i w' (hv.ext hx) l1)
      (fun w' hx => tJoin _ _ xs ys w' (hv.ext hx) (hv2.ext hx) l1 l2) (fun w' hx => rJoin8 _ _ xs ys w' (hv.ext hx) (hv2.ext hx) l1 l2)
      (fun w' hx => tSum _ xs w' (hv.ext hx) l1) (fun w' hx => rSum8 _ xs w' (hv.ext hx) l1)
      (fun w' hx => rWithin8 _ _ xs ys w' (hv.ext hx) (hv2.ext hx) l1 l2) (fun w' hx => rWithin8 _ _ ys xs w' (hv2.ext hx) (hv.ext hx) l2 l1)
      (fun w' hx => tWithin _ _ xs ys w' (hv.ext hx) (hv2.ext hx) l1 l2) (fun w' hx => tSame _ _ xs ys w' (hv.ext hx) (hv2.ext hx) l1 l2)
      (fun w' hx => tApart _ _ xs ys w' (hv.ext hx) (hv2.ext hx) l1 l2) (fun w' hx => rBoth8 _ _ xs ys w' (hv.ext hx) (hv2.ext hx) l1 l2)).mono fun e w' ⟨h, hx⟩ => ⟨h, hx.below⟩
end Go.Proofs.Ytkikiehgkggfmab
