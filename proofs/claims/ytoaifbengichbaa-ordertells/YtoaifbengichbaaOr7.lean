/- The first rival of a plain access, by each thread's places. No program in sight but the clocks' lists. -/
import Derived.Test.YtoaifbengichbaaOr6
namespace Go.Proofs.Ytoaifbengichbaa
open Go.RowKit
set_option linter.unusedVariables false
set_option linter.unusedSimpArgs false
def useB (ls : List Acc) (c t k : Int) (i : Nat) : Bool := decide ((A ls i).c = c ∧ (A ls i).t = t ∧ (A ls i).k = k)
theorem pls_succ (ls : List Acc) (c t k : Int) (m : Nat) : pls ls c t k (m + 1) = if useB ls c t k m then pls ls c t k m ++ [(m : Int)] else pls ls c t k m := by
  rw [show pls ls c t k (m + 1) = pls ls c t k m ++ (if (A ls m).c = c ∧ (A ls m).t = t ∧ (A ls m).k = k then [(m : Int)] else []) from rfl]
  unfold useB
  by_cases h : (A ls m).c = c ∧ (A ls m).t = t ∧ (A ls m).k = k
  · rw [if_pos h, if_pos (by simpa using h)]
  · rw [if_neg h, if_neg (by simpa using h), List.append_nil]
/-- the places: each is a use -/
theorem pls_at (ls : List Acc) (c t k : Int) : ∀ m i, i < (pls ls c t k m).length → ∃ x : Nat, (pls ls c t k m).getD i 0 = x ∧ x < m ∧ useB ls c t k x = true
  | 0, i, h => by simp [pls] at h
  | m + 1, i, h => by
    rw [pls_succ] at h ⊢
    by_cases hu : useB ls c t k m = true
    · rw [if_pos hu] at h ⊢
      by_cases hi : i < (pls ls c t k m).length
      · obtain ⟨x, e, hx, hux⟩ := pls_at ls c t k m i hi
        refine ⟨x, ?_, by omega, hux⟩
        rw [← e]
        simp [List.getD_eq_getElem?_getD, List.getElem?_append_left hi]
      · have : i = (pls ls c t k m).length := by simp at h; omega
        subst this
        exact ⟨m, by simp, by omega, hu⟩
    · rw [if_neg hu] at h ⊢
      obtain ⟨x, e, hx, hux⟩ := pls_at ls c t k m i h
      exact ⟨x, e, by omega, hux⟩
/-- .. each use is one -/
theorem pls_of (ls : List Acc) (c t k : Int) : ∀ m x, x < m → useB ls c t k x = true → ∃ i, i < (pls ls c t k m).length ∧ (pls ls c t k m).getD i 0 = x
  | 0, x, h, _ => absurd h (Nat.not_lt_zero _)
  | m + 1, x, h, hu => by
    rw [pls_succ]
    by_cases hm : useB ls c t k m = true
    · rw [if_pos hm]
      by_cases e : x = m
      · subst e
        exact ⟨(pls ls c t k x).length, by simp, by simp⟩
      · obtain ⟨i, hi, ei⟩ := pls_of ls c t k m x (by omega) hu
        refine ⟨i, by simp; omega, ?_⟩
        rw [← ei]
        simp [List.getD_eq_getElem?_getD, List.getElem?_append_left hi]
    · rw [if_neg hm]
      have : x ≠ m := fun e => hm (e ▸ hu)
      exact pls_of ls c t k m x (by omega) hu
/-- .. and they rise -/
theorem pls_up (ls : List Acc) (c t k : Int) : ∀ m i j, i < j → j < (pls ls c t k m).length → (pls ls c t k m).getD i 0 < (pls ls c t k m).getD j 0
  | 0, i, j, _, h => by simp [pls] at h
  | m + 1, i, j, hij, h => by
    rw [pls_succ] at h ⊢
    by_cases hu : useB ls c t k m = true
    · rw [if_pos hu] at h ⊢
      have hi : i < (pls ls c t k m).length := by simp at h; omega
      by_cases hj : j < (pls ls c t k m).length
      · have := pls_up ls c t k m i j hij hj
        simpa [List.getD_eq_getElem?_getD, List.getElem?_append_left hi, List.getElem?_append_left hj] using this
      · have : j = (pls ls c t k m).length := by simp at h; omega
        subst this
        obtain ⟨x, e, hx, _⟩ := pls_at ls c t k m i hi
        have e2 : (pls ls c t k m ++ [(m : Int)]).getD i 0 = x := by
          rw [← e]
          simp [List.getD_eq_getElem?_getD, List.getElem?_append_left hi]
        rw [e2]
        simp
        omega
    · rw [if_neg hu] at h ⊢
      exact pls_up ls c t k m i j hij h
/-- the first use among the first m that is q -/
def cand (ls : List Acc) (c t k : Int) (q : Nat → Bool) (m : Nat) : Nat := firstP (fun i => useB ls c t k i && q i) m
theorem cand_found {ls : List Acc} {c t k : Int} {q : Nat → Bool} {m r : Nat} (hr : r = firstP (fun i => q ((pls ls c t k m).getD i 0).toNat) (pls ls c t k m).length) (h : r < (pls ls c t k m).length) :
    (pls ls c t k m).getD r 0 = (cand ls c t k q m : Int) ∧ cand ls c t k q m < m := by
  obtain ⟨s1, s2⟩ := firstP_spec (fun i => q ((pls ls c t k m).getD i 0).toNat) (pls ls c t k m).length
  rw [← hr] at s1 s2
  obtain ⟨x, e, hx, hu⟩ := pls_at ls c t k m r h
  have hq := s2 h
  simp only [e, Int.toNat_natCast] at hq
  have hc : cand ls c t k q m = x := firstP_unique (by omega) (fun y hy => by
    cases hyu : useB ls c t k y
    · rfl
    · obtain ⟨i, hi, ei⟩ := pls_of ls c t k m y (by omega) hyu
      have hir : i < r := by
        rcases Nat.lt_trichotomy i r with h1 | h1 | h1
        · exact h1
        · subst h1
          rw [e] at ei
          omega
        · have := pls_up ls c t k m r i h1 hi
          rw [e, ei] at this
          omega
      have := s1 i hir
      simp only [ei, Int.toNat_natCast] at this
      rw [this]
      rfl) (fun _ => by rw [hu, hq]; rfl)
  rw [hc]
  exact ⟨e, hx⟩
theorem cand_none {ls : List Acc} {c t k : Int} {q : Nat → Bool} {m : Nat} (h : ¬ firstP (fun i => q ((pls ls c t k m).getD i 0).toNat) (pls ls c t k m).length < (pls ls c t k m).length) : cand ls c t k q m = m := by
  obtain ⟨s1, _⟩ := firstP_spec (fun i => q ((pls ls c t k m).getD i 0).toNat) (pls ls c t k m).length
  refine firstP_unique (Nat.le_refl _) (fun y hy => ?_) (fun h => absurd h (Nat.lt_irrefl _))
  cases hyu : useB ls c t k y
  · rfl
  · obtain ⟨i, hi, ei⟩ := pls_of ls c t k m y hy hyu
    have := s1 i (by omega)
    simp only [ei, Int.toNat_natCast] at this
    rw [this]
    rfl
/-- may two race? -/
def clash (ls : List Acc) (i j : Nat) : Bool := plB (A ls i).k && plB (A ls j).k && decide ((A ls i).c = (A ls j).c) && decide ((A ls i).t ≠ (A ls j).t) && (decide ((A ls i).k = 7) || decide ((A ls j).k = 7))
/-- the first one that an access races with; its own place, if there is none -/
def rv (n : Nat) (ls : List Acc) (j : Nat) : Nat := firstP (fun i => clash ls i j && !kn n ls j i) j
/-- who knows a later step of a thread knows the earlier ones -/
theorem kn_down {n : Nat} {ls : List Acc} {j a b : Nat} (hab : a < b) (ht : (A ls a).t = (A ls b).t) (h : kn n ls j b = true) : kn n ls j a = true := by
  unfold kn at h ⊢
  rw [decide_eq_true_eq] at h ⊢
  rw [ht]
  have := cnt_mono ls (A ls b).t (show a + 1 ≤ b + 1 by omega)
  omega
/-- the search's question goes up -/
theorem pls_mono {n : Nat} {ls : List Acc} {j : Nat} (c t k : Int) (m a b : Nat) (hab : a < b) (hb : b < (pls ls c t k m).length) (h : (!kn n ls j ((pls ls c t k m).getD a 0).toNat) = true) : (!kn n ls j ((pls ls c t k m).getD b 0).toNat) = true := by
  obtain ⟨x, ex, _, ux⟩ := pls_at ls c t k m a (by omega)
  obtain ⟨y, ey, _, uy⟩ := pls_at ls c t k m b hb
  have hup := pls_up ls c t k m a b hab hb
  rw [ex, ey] at hup
  rw [ex, Int.toNat_natCast] at h
  rw [ey, Int.toNat_natCast]
  unfold useB at ux uy
  simp at ux uy
  cases hk : kn n ls j y
  · rfl
  · have := kn_down (n := n) (j := j) (a := x) (b := y) (by omega) (by rw [ux.2.1, uy.2.1]) hk
    rw [this] at h
    cases h
/-- what has been found behind some threads and kinds: 'done' tells which -/
structure Inv (n : Nat) (ls : List Acc) (j : Nat) (done : Int → Int → Prop) (M : Nat) : Prop where
  le : M ≤ j
  bad : M < j → clash ls M j = true ∧ kn n ls j M = false
  all : ∀ t k, done t k → (k = 6 ∨ k = 7) → (k = 7 ∨ (A ls j).k = 7) → M ≤ cand ls (A ls j).c t k (fun i => !kn n ls j i) j
theorem Inv.start (n : Nat) (ls : List Acc) (j : Nat) : Inv n ls j (fun _ _ => False) j := ⟨Nat.le_refl _, fun h => absurd h (Nat.lt_irrefl _), fun _ _ h => h.elim⟩
theorem Inv.more {n : Nat} {ls : List Acc} {j : Nat} {d d' : Int → Int → Prop} {M : Nat} (h : Inv n ls j d M) (hd : ∀ t k, d' t k → (k = 6 ∨ k = 7) → (k = 7 ∨ (A ls j).k = 7) → d t k) : Inv n ls j d' M := ⟨h.le, h.bad, fun t k h1 h2 h3 => h.all t k (hd t k h1 h2 h3) h2 h3⟩
theorem Inv.step {n : Nat} {ls : List Acc} {j : Nat} {d : Int → Int → Prop} {M : Nat} (R : RL n ls) (hj : j < ls.length) (hp : plB (A ls j).k = true) (h : Inv n ls j d M) (t k : Int) (hk : k = 6 ∨ k = 7) (hw : k = 7 ∨ (A ls j).k = 7) :
    Inv n ls j (fun t' k' => d t' k' ∨ t' = t ∧ k' = k) (min M (cand ls (A ls j).c t k (fun i => !kn n ls j i) j)) := by
  have hc := firstP_le (fun i => useB ls (A ls j).c t k i && !kn n ls j i) j
  obtain ⟨_, s2⟩ := firstP_spec (fun i => useB ls (A ls j).c t k i && !kn n ls j i) j
  refine ⟨by have := h.le; omega, fun hlt => ?_, fun t' k' hd h1 h2 => ?_⟩
  · by_cases hM : M ≤ cand ls (A ls j).c t k (fun i => !kn n ls j i) j
    · rw [Nat.min_eq_left hM] at hlt ⊢
      exact h.bad hlt
    · rw [Nat.min_eq_right (by omega)] at hlt ⊢
      have hs := s2 hlt
      simp only [Bool.and_eq_true] at hs
      obtain ⟨hu, hn⟩ := hs
      have hkn : kn n ls j (cand ls (A ls j).c t k (fun i => !kn n ls j i) j) = false := by unfold cand; simpa using hn
      refine ⟨?_, hkn⟩
      have hu2 : useB ls (A ls j).c t k (cand ls (A ls j).c t k (fun i => !kn n ls j i) j) = true := hu
      generalize cand ls (A ls j).c t k (fun i => !kn n ls j i) j = x at *
      unfold useB at hu2
      simp at hu2
      obtain ⟨a1, a2, a3⟩ := hu2
      have hne : (A ls x).t ≠ (A ls j).t := fun e => by
        rw [kn_own R hj (by omega) e] at hkn
        cases hkn
      unfold clash
      rw [hp, a1, a3]
      have : plB k = true := by unfold plB; simpa using hk
      rw [this]
      simp [hne]
      exact hw
  · rcases hd with hd | ⟨rfl, rfl⟩
    · have := h.all t' k' hd h1 h2
      omega
    · omega
theorem Inv.fin {n : Nat} {ls : List Acc} {j M : Nat} {d : Int → Int → Prop} (R : RL n ls) (hj : j < ls.length) (h : Inv n ls j d M) (hd : ∀ t k : Int, 0 ≤ t → t < (n : Int) → (k = 6 ∨ k = 7) → (k = 7 ∨ (A ls j).k = 7) → d t k) : rv n ls j = M := by
  refine firstP_unique h.le (fun i hi => ?_) (fun hlt => by rw [(h.bad hlt).1, (h.bad hlt).2]; rfl)
  cases hc : clash ls i j
  · rfl
  · cases hk : kn n ls j i
    · have hle := h.le
      obtain ⟨t0, t1⟩ := R.t (i := i) (by omega)
      unfold clash at hc
      simp only [Bool.and_eq_true, Bool.or_eq_true, decide_eq_true_eq] at hc
      obtain ⟨⟨⟨⟨c1, c2⟩, c3⟩, c4⟩, c5⟩ := hc
      have hki : (A ls i).k = 6 ∨ (A ls i).k = 7 := by unfold plB at c1; simpa using c1
      have := h.all (A ls i).t (A ls i).k (hd _ _ t0 t1 hki c5) hki c5
      have hs := (firstP_spec (fun x => useB ls (A ls j).c (A ls i).t (A ls i).k x && !kn n ls j x) j).1 i (by
        show i < cand ls (A ls j).c (A ls i).t (A ls i).k (fun x => !kn n ls j x) j
        omega)
      have hu : useB ls (A ls j).c (A ls i).t (A ls i).k i = true := by unfold useB; simp [c3]
      simp only [hu, hk, Bool.not_false, Bool.and_self] at hs
      cases hs
    · rfl
end Go.Proofs.Ytoaifbengichbaa
