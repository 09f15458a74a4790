/- order.Behind; what stands behind goes on. -/
import Derived.Test.YtoaifbengichbaaOr12
namespace Go.Proofs.Ytoaifbengichbaa
open Go.RowKit
set_option linter.unusedVariables false
set_option linter.unusedSimpArgs false
set_option maxHeartbeats 4000000
attribute [local go_sem] later_cell later_frozen later_const
theorem A_take {ls : List Acc} {L k : Nat} (h : k < L) : A (ls.take L) k = A ls k := by
  unfold A
  rw [List.getD_eq_getElem?_getD, List.getD_eq_getElem?_getD, List.getElem?_take, if_pos h]
theorem prv_take {ls : List Acc} {L m : Nat} (t : Int) (h : m ≤ L) : prv (ls.take L) t m = prv ls t m := lastP_congr fun k hk => by rw [A_take (by omega)]
theorem awr_take {ls : List Acc} {L m : Nat} (c : Int) (h : m ≤ L) : awr (ls.take L) c m = awr ls c m := lastP_congr fun k hk => by rw [A_take (by omega)]
theorem srcA_take {ls : List Acc} {L i : Nat} (h : i < L) : srcA (ls.take L) i = srcA ls i := by
  unfold srcA
  rw [A_take h, awr_take _ (Nat.le_of_lt h)]
theorem ck_take (n : Nat) (ls : List Acc) (L : Nat) : ∀ m, m ≤ L → ck n (ls.take L) m = ck n ls m
  | 0, _ => rfl
  | m + 1, h => by
    unfold ck
    rw [ck_take n ls L m (by omega)]
    unfold nextC latC
    rw [A_take (show m < L by omega), srcA_take (show m < L by omega), prv_take _ (show m ≤ L by omega)]
theorem RL.take {n : Nat} {ls : List Acc} (h : RL n ls) (L : Nat) : RL n (ls.take L) :=
  ⟨h.n1, h.n2, by rw [List.length_take]; have := h.l; omega, fun i hi => by
    rw [List.length_take] at hi
    rw [A_take (by omega)]
    exact h.ok i (by omega)⟩
theorem WfL.take {ls : List Acc} (h : WfL ls) (L : Nat) : WfL (ls.take L) := fun i hi => by
  rw [List.length_take] at hi
  rw [A_take (by omega)]
  exact h i (by omega)
theorem AccV.take {w : World} {a : Option Addr} {m cap : Nat} {ls : List Acc} (h : AccV w (.slice a m cap) ls) {L : Nat} (hL : L ≤ ls.length) : AccV w (.slice a L cap) (ls.take L) := by
  obtain ⟨a', cap', e, h1, h2, h3⟩ := h
  cases e
  have hl : (ls.take L).length = L := by rw [List.length_take]; omega
  refine ⟨a, cap, by rw [hl], by omega, h2, fun i hi => ?_⟩
  obtain ⟨b, off, ea, hc⟩ := h3 i (by omega)
  refine ⟨b, off, ea, fun j u hu => hc j u ?_⟩
  rw [← hu]
  simp
theorem kn_trans {n : Nat} {ls : List Acc} (R : RL n ls) {j k : Nat} (hkj : k < j) (h2 : kn n ls j k = true) : ∀ i, i < ls.length → j < i → kn n ls i j = true → kn n ls i k = true := by
  intro i
  induction i using Nat.strongRecOn with
  | ind i ih =>
    intro hi hji h1
    have e1 := kn_rec R hi hji
    have e2 := kn_rec R hi (show k < i by omega)
    rw [h1] at e1
    rw [e2]
    have hp : ∀ P : Nat, P < i → (j = P ∨ knT n ls P j = true) → knT n ls P k = true := fun P hP h => by
      rcases h with rfl | h
      · unfold knT; simp [hkj, h2]
      · unfold knT at h ⊢
        simp at h
        have := ih P hP (by omega) h.1 h.2
        simp [this]
        omega
    have hPr : prv ls (A ls i).t i < i := (lastP_rng _ i).2
    have hSr : ¬ srcA ls i < 0 → (srcA ls i).toNat < i := fun h => srcA_lt h
    generalize prv ls (A ls i).t i = P at *
    generalize srcA ls i = S at *
    have e1' := e1.symm
    simp only [Bool.or_eq_true, Bool.and_eq_true, decide_eq_true_eq] at e1' ⊢
    rcases e1' with ((h | h) | h) | h
    · refine .inl (.inr ⟨by omega, hp P.toNat (by omega) (.inl (by omega))⟩)
    · refine .inr ⟨by omega, hp S.toNat (hSr (by omega)) (.inl (by omega))⟩
    · refine .inl (.inr ⟨h.1, hp P.toNat (by omega) (.inr h.2)⟩)
    · refine .inr ⟨h.1, hp S.toNat (hSr (by omega)) (.inr h.2)⟩
/-- does i stand behind j? -/
def bhB (n : Int) (ls : List Acc) (i j : Int) : Bool := if j < 0 ∨ i ≤ j ∨ (ls.length : Int) ≤ i ∨ rightL n ls = false then false else kn n.toNat ls i.toNat j.toNat
theorem oBehind (n : Int) (v : Value) (ls : List Acc) (i j : Int) (w : World) (hA : AccV w v ls) (hl : ls.length ≤ 1000) (hwf : WfL ls) : Calls Try.prog 19 #[.int .i64 n, v, .int .i64 i, .int .i64 j] w fun e w' => e = .returned (.bool (bhB n ls i j)) ∧ Ext w w' := by
  have CR := Lib.hid (oRight n v ls w hA)
  obtain ⟨a, cap, rfl, hcap, hmax⟩ := hA.form
  have HA := Lib.hid hA
  have HWF := Lib.hid hwf
  clear hA hwf
  by_cases h1 : j < 0
  · rw [show bhB n ls i j = false by unfold bhB; rw [if_pos (.inl h1)]]
    have d1 : decide (j < 0) = true := by simpa using h1
    go_enter Try.func19, Try.ntmps19
    go_wp2
    go_ret
    exact ⟨rfl, Ext.refl _⟩
  have d1 : decide (j < 0) = false := by simpa using h1
  by_cases h2 : i ≤ j
  · rw [show bhB n ls i j = false by unfold bhB; rw [if_pos (.inr (.inl h2))]]
    have d2 : decide (i ≤ j) = true := by simpa using h2
    go_enter Try.func19, Try.ntmps19
    go_wp2
    go_ret
    exact ⟨rfl, Ext.refl _⟩
  have d2 : decide (i ≤ j) = false := by simpa using h2
  by_cases h3 : (ls.length : Int) ≤ i
  · rw [show bhB n ls i j = false by unfold bhB; rw [if_pos (.inr (.inr (.inl h3)))]]
    have d3 : decide ((ls.length : Int) ≤ i) = true := by simpa using h3
    go_enter Try.func19, Try.ntmps19
    go_wp2
    go_ret
    exact ⟨rfl, Ext.refl _⟩
  have d3 : decide ((ls.length : Int) ≤ i) = false := by simpa using h3
  cases hr : rightL n ls
  case false =>
    rw [show bhB n ls i j = false by unfold bhB; rw [if_pos (.inr (.inr (.inr hr)))]]
    rw [hr] at CR
    go_enter Try.func19, Try.ntmps19
    go_wp2_with fail
    refine CR.out.mono ?_
    rintro e w1 ⟨rfl, X1⟩
    go_wp2
    go_ret
    exact ⟨rfl, X1⟩
  rw [hr] at CR
  rw [show bhB n ls i j = kn n.toNat ls i.toNat j.toNat by unfold bhB; rw [if_neg (fun h => h.elim h1 (fun h => h.elim h2 (fun h => h.elim h3 (fun h => by rw [hr] at h; cases h))))]]
  obtain ⟨m, rfl, R⟩ := rl_of hr hl
  obtain ⟨x, rfl⟩ : ∃ x : Nat, i = x := ⟨i.toNat, by omega⟩
  obtain ⟨y, rfl⟩ : ∃ y : Nat, j = y := ⟨j.toNat, by omega⟩
  simp only [Int.toNat_natCast]
  obtain ⟨b, off, ea, _⟩ := HA.out.at (Ext.refl w) (i := x) (by omega)
  subst ea
  have hL : (ls.take (x + 1)).length = x + 1 := by rw [List.length_take]; omega
  have CC := Lib.hid (fun w' (hx : Ext w w') => oClocks_yes m (.slice (some ⟨b, off, none⟩) (x + 1) cap) (ls.take (x + 1)) w' ((HA.out.ext hx).take (by omega)) (R.take _) (HWF.out.take _))
  have CK := Lib.hid (fun v' w' (hx : Ext w w') (hc : CkV w' v' (ck m ls (x + 1))) => oKnows m _ v' ls (x + 1) x y w' (HA.out.ext hx) hc R (by omega) (by omega) (by omega))
  have HCK : Hid (ck m (ls.take (x + 1)) (ls.take (x + 1)).length = ck m ls (x + 1)) := Lib.hid (by rw [hL]; exact ck_take m ls (x + 1) (x + 1) (Nat.le_refl _))
  have c0 : (0 : Int) ≤ (x : Int) + 1 := by omega
  have c1 : (x : Int) + 1 ≤ (cap : Int) := by omega
  generalize kn m ls x y = B at *
  have hyx : y < x := by omega
  have hxl : x < ls.length := by omega
  have d5 : decide (x ≤ y) = false := by simp; omega
  have d6 : decide (ls.length ≤ x) = false := by simp; omega
  clear h1 h2 hr R hL
  go_enter Try.func19, Try.ntmps19
  go_wp2_with fail
  refine CR.out.mono ?_
  rintro e w1 ⟨rfl, X1⟩
  go_wp2_with fail
  refine (CC.out _ X1).mono ?_
  rintro e w2 ⟨v2, rfl, K2, X2⟩
  rw [HCK.out] at K2
  go_wp2_with fail
  refine (CK.out v2 _ (X1.trans X2) K2).mono ?_
  rintro e w3 ⟨rfl, X3⟩
  go_wp2
  go_ret
  exact ⟨rfl, (X1.trans X2).trans X3⟩
end Go.Proofs.Ytoaifbengichbaa
