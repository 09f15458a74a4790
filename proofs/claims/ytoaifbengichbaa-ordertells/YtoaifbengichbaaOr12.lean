/- Who knows whom, straight; the document's Table. -/
import Derived.Test.YtoaifbengichbaaOr11
namespace Go.Proofs.Ytoaifbengichbaa
open Go.RowKit
set_option linter.unusedVariables false
set_option linter.unusedSimpArgs false
set_option maxHeartbeats 4000000
attribute [local go_sem] later_cell later_frozen later_const
def knT (n : Nat) (ls : List Acc) (j k : Nat) : Bool := decide (k < j) && kn n ls j k
theorem srcR_at {n : Nat} {ls : List Acc} {i : Nat} (R : RL n ls) (hi : i < ls.length) (ha : atB (A ls i).k = true) : srcR ls i = srcA ls i := by
  unfold srcR srcA
  rw [show (i : Int).toNat = i by omega, ha]
  cases hr : rdB (A ls i).k
  · rw [if_pos (by simp), if_neg (by simp)]
  · rw [if_neg (by simp; omega), if_pos (show (true && true) = true from rfl)]
    unfold awr
    apply lastP_congr
    intro k hk
    unfold sP
    have hp : plB (A ls i).k = false := by unfold atB at ha; unfold plB; simp at ha ⊢; omega
    rw [hp, ha]
    have hok := R.ok k (by omega)
    unfold accOk at hok
    unfold plB atB wrB
    by_cases hc : (A ls k).c = (A ls i).c
    · by_cases h5 : (A ls k).k ≤ 5
      · have e1 : decide ((A ls k).k = 6 ∨ (A ls k).k = 7) = false := by simp; omega
        have e2 : decide (1 ≤ (A ls k).k ∧ (A ls k).k ≤ 5) = true := by simp at hok ⊢; omega
        rw [e1, e2]
        simp
      · have e2 : decide (1 ≤ (A ls k).k ∧ (A ls k).k ≤ 5) = false := by simp; omega
        rw [e2]
        simp
    · simp [hc]
theorem srcA_no {ls : List Acc} {i : Nat} (ha : atB (A ls i).k = false) : srcA ls i = -1 := by
  unfold srcA
  rw [ha]
  rfl
theorem kn_not {n : Nat} {ls : List Acc} (R : RL n ls) {j k : Nat} (hj : j < ls.length) (hk : k < ls.length) (h : j < k) : kn n ls j k = false := by
  unfold kn
  have h1 := cl_ok R j hj
  obtain ⟨t0, t1⟩ := R.t hk
  have h2 := h1.rng (A ls k).t.toNat (by omega)
  rw [show (((A ls k).t.toNat : Nat) : Int) = (A ls k).t by omega] at h2
  have h3 := cnt_mono ls (A ls k).t (show j + 1 ≤ k by omega)
  have h4 := cnt_self ls k
  exact decide_eq_false (by omega)
theorem kn_rec {n : Nat} {ls : List Acc} (R : RL n ls) {i k : Nat} (hi : i < ls.length) (hk : k < i) :
    kn n ls i k = (decide ((k : Int) = prv ls (A ls i).t i) || decide ((k : Int) = srcA ls i) || (decide (0 ≤ prv ls (A ls i).t i) && knT n ls (prv ls (A ls i).t i).toNat k) || (decide (0 ≤ srcA ls i) && knT n ls (srcA ls i).toNat k)) := by
  have hkl : k < ls.length := by omega
  obtain ⟨t0, t1⟩ := R.t hkl
  obtain ⟨u0, u1⟩ := R.t hi
  have hl := R.l
  by_cases ht : (A ls k).t = (A ls i).t
  · rw [kn_own R hi (by omega) ht]
    rcases lastP_cases (fun k => decide ((A ls k).t = (A ls i).t)) i with h | ⟨p, h⟩
    · have := lastP_none h k hk
      simp [ht] at this
    · obtain ⟨h1, h2, h3⟩ := lastP_some h
      have hP : prv ls (A ls i).t i = p := h
      rw [hP]
      by_cases hkp : k = p
      · subst hkp; simp
      · have hlt : k < p := by
          rcases Nat.lt_or_ge k p with h' | h'
          · exact h'
          · have := h3 k (by omega) hk
            simp [ht] at this
        have e2 : (A ls p).t = (A ls i).t := by simpa using h2
        have : knT n ls p k = true := by
          unfold knT
          rw [kn_own R (by omega) (by omega) (by rw [ht, e2])]
          simpa using hlt
        simp [this]
  -- another thread's
  have hlat : ∀ p : Nat, prv ls (A ls i).t i = p → p < i ∧ (A ls p).t = (A ls i).t := fun p h => by
    obtain ⟨h1, h2, _⟩ := lastP_some h
    exact ⟨h1, by simpa using h2⟩
  have hsl : ∀ s : Nat, srcA ls i = s → s < i := fun s h => by
    have := srcA_lt (ls := ls) (i := i) (by omega)
    rw [h] at this
    simpa using this
  have c1 := cnt_self ls k
  have hknP : ∀ p : Nat, p < i → (A ls p).t ≠ (A ls k).t → kn n ls p k = knT n ls p k := fun p hp hne => by
    unfold knT
    by_cases hkp : k < p
    · simp [hkp]
    · have : k ≠ p := fun e => by subst e; exact hne rfl
      rw [kn_not R (by omega) hkl (by omega)]
      simp
  have hknS : ∀ s : Nat, s < i → kn n ls s k = (decide ((k : Int) = s) || knT n ls s k) := fun s hs => by
    unfold knT
    by_cases e : k = s
    · subst e
      rw [kn_own R (by omega) (Nat.le_refl _) rfl]
      simp
    · have e' : decide ((k : Int) = s) = false := by simp; omega
      rw [e', Bool.false_or]
      by_cases hks : k < s
      · simp [hks]
      · rw [kn_not R (by omega) hkl (by omega)]
        simp
  have hv : (A ls k).t.toNat < n := by omega
  have hvc : (((A ls k).t.toNat : Nat) : Int) = (A ls k).t := by omega
  have hclk : ∀ j, j < ls.length → (kn n ls j k = true ↔ (cnt ls (A ls k).t (k + 1) : Int) ≤ (cl n ls j).getD (A ls k).t.toNat 0) := fun j _ => by unfold kn; simp
  have hL := lat_ok R (Nat.le_of_lt hi) (A ls i).t u0 u1 (fun j hj => cl_ok R j (by omega))
  -- what the thread knew
  have hlatv : (latL n ls i (A ls i).t).getD (A ls k).t.toNat 0 = if prv ls (A ls i).t i < 0 then 0 else (cl n ls (prv ls (A ls i).t i).toNat).getD (A ls k).t.toNat 0 := by
    unfold latL
    split
    · rw [List.getD_eq_getElem?_getD, List.getElem?_replicate]
      split <;> rfl
    · rfl
  have hcl : (cl n ls i).getD (A ls k).t.toNat 0 = if srcA ls i < 0 then (latL n ls i (A ls i).t).getD (A ls k).t.toNat 0 else max ((latL n ls i (A ls i).t).getD (A ls k).t.toNat 0) ((cl n ls (srcA ls i).toNat).getD (A ls k).t.toNat 0) := by
    rw [cl_eq]
    split
    · exact (tick_ok R.n1 R.n2 hL (by omega) u0 u1).2 _ hv (by omega)
    · rename_i hs
      have hs' := srcA_lt hs
      have hj := join_ok R.n1 R.n2 hL (cl_ok R (srcA ls i).toNat (by omega)) (by omega) (by omega) u0 u1
      rw [(tick_ok R.n1 R.n2 hj.1 (by omega) u0 u1).2 _ hv (by omega)]
      exact hj.2 _ hv
  rw [Bool.eq_iff_iff, hclk i hi, hcl]
  have z1 : ¬ ((cnt ls (A ls k).t (k + 1) : Int) ≤ 0) := by omega
  by_cases hP : prv ls (A ls i).t i < 0
  · rw [if_pos hP] at hlatv
    rw [hlatv]
    have dP : decide ((k : Int) = prv ls (A ls i).t i) = false := by simp; omega
    have dP2 : decide (0 ≤ prv ls (A ls i).t i) = false := by simp; omega
    rw [dP, dP2]
    by_cases hS : srcA ls i < 0
    · have dS : decide ((k : Int) = srcA ls i) = false := by simp; omega
      have dS2 : decide (0 ≤ srcA ls i) = false := by simp; omega
      rw [if_pos hS, dS, dS2]
      simp
      omega
    · obtain ⟨s, hs⟩ : ∃ s : Nat, srcA ls i = s := ⟨(srcA ls i).toNat, by omega⟩
      have hsi := hsl s hs
      rw [if_neg hS, hs]
      have := hknS s hsi
      have h2 := hclk s (by omega)
      rw [this] at h2
      simp only [Int.toNat_natCast]
      simp only [Bool.false_or, Bool.false_and, Bool.or_false]
      have d2 : decide ((0 : Int) ≤ (s : Int)) = true := by simp
      rw [d2, Bool.true_and, h2]
      omega
  · obtain ⟨p, hp⟩ : ∃ p : Nat, prv ls (A ls i).t i = p := ⟨(prv ls (A ls i).t i).toNat, by omega⟩
    obtain ⟨hpi, hpt⟩ := hlat p hp
    rw [if_neg hP] at hlatv
    rw [hlatv, hp]
    simp only [Int.toNat_natCast]
    have hpk := hknP p hpi (by rw [hpt]; exact fun e => ht e.symm)
    have h3 := hclk p (by omega)
    rw [hpk] at h3
    have dP : decide ((k : Int) = (p : Int)) = false := by
      refine decide_eq_false fun e => ?_
      obtain rfl : k = p := by omega
      exact ht hpt
    have dP2 : decide ((0 : Int) ≤ (p : Int)) = true := by simp
    rw [dP, dP2, Bool.false_or, Bool.true_and]
    by_cases hS : srcA ls i < 0
    · have dS : decide ((k : Int) = srcA ls i) = false := by simp; omega
      have dS2 : decide (0 ≤ srcA ls i) = false := by simp; omega
      rw [if_pos hS, dS, dS2, Bool.false_or, Bool.false_and, Bool.or_false, h3]
    · obtain ⟨s, hs⟩ : ∃ s : Nat, srcA ls i = s := ⟨(srcA ls i).toNat, by omega⟩
      have hsi := hsl s hs
      rw [if_neg hS, hs]
      have := hknS s hsi
      have h2 := hclk s (by omega)
      rw [this] at h2
      simp only [Int.toNat_natCast]
      have d2 : decide ((0 : Int) ≤ (s : Int)) = true := by simp
      rw [d2, Bool.true_and]
      simp only [Bool.or_eq_true] at h2 ⊢
      constructor
      · intro h
        by_cases hx : (cnt ls (A ls k).t (k + 1) : Int) ≤ (cl n ls p).getD (A ls k).t.toNat 0
        · exact .inl (.inr (h3.2 hx))
        · rcases h2.2 (by omega) with h' | h'
          · exact .inl (.inl h')
          · exact .inr h'
      · intro h
        rcases h with (h | h) | h
        · have := h2.1 (.inl h); omega
        · have := h3.1 h; omega
        · have := h2.1 (.inr h); omega
end Go.Proofs.Ytoaifbengichbaa
