/- Clocks along a list of accesses. No program in sight but the tick's own lists. -/
import Derived.Test.YtoaifbengichbaaOr1
import Derived.Test.YtoaifbengichbaaTickC
namespace Go.Proofs.Ytoaifbengichbaa
open Go.RowKit
set_option linter.unusedVariables false
set_option linter.unusedSimpArgs false
def acc0 : Acc := ⟨0, 0, 0, 0, 0⟩
def A (ls : List Acc) (i : Nat) : Acc := ls.getD i acc0
theorem A_at {ls : List Acc} {i : Nat} (h : i < ls.length) : ls[i] = A ls i := by simp [A, h]
/-- the last place below n that is p; -1: none -/
def lastP (p : Nat → Bool) : Nat → Int
  | 0 => -1
  | n + 1 => if p n then (n : Int) else lastP p n
theorem lastP_rng (p : Nat → Bool) : ∀ n, -1 ≤ lastP p n ∧ lastP p n < n
  | 0 => by simp [lastP]
  | n + 1 => by
    have := lastP_rng p n
    unfold lastP
    split <;> omega
theorem lastP_none {p : Nat → Bool} : ∀ {n : Nat}, lastP p n < 0 → ∀ k, k < n → p k = false
  | 0, _, k, hk => absurd hk (Nat.not_lt_zero _)
  | n + 1, h, k, hk => by
    unfold lastP at h
    split at h
    · omega
    · rename_i hp
      by_cases hkn : k = n
      · subst hkn; simpa using hp
      · exact lastP_none h k (by omega)
theorem lastP_some {p : Nat → Bool} {m : Nat} : ∀ {n : Nat}, lastP p n = m → m < n ∧ p m = true ∧ ∀ k, m < k → k < n → p k = false
  | 0, h => by unfold lastP at h; omega
  | n + 1, h => by
    unfold lastP at h
    split at h
    · rename_i hp
      have : n = m := by omega
      subst this
      exact ⟨Nat.lt_succ_self _, hp, fun k h1 h2 => by omega⟩
    · rename_i hp
      obtain ⟨a, b, c⟩ := lastP_some h
      refine ⟨by omega, b, fun k h1 h2 => ?_⟩
      by_cases hkn : k = n
      · subst hkn; simpa using hp
      · exact c k h1 (by omega)
theorem lastP_congr {p q : Nat → Bool} : ∀ {n : Nat}, (∀ k, k < n → p k = q k) → lastP p n = lastP q n
  | 0, _ => rfl
  | n + 1, h => by
    unfold lastP
    rw [h n (Nat.lt_succ_self _), lastP_congr (fun k hk => h k (by omega))]
theorem lastP_cases (p : Nat → Bool) (n : Nat) : lastP p n < 0 ∨ ∃ m : Nat, lastP p n = m := by
  by_cases h : lastP p n < 0
  · exact .inl h
  · exact .inr ⟨(lastP p n).toNat, by omega⟩
theorem lastP_drop {p : Nat → Bool} {n m : Nat} (h : m ≤ n) (hn : ∀ k, m ≤ k → k < n → p k = false) : lastP p n = lastP p m := by
  induction n with
  | zero =>
    have : m = 0 := by omega
    subst this
    rfl
  | succ n ih =>
    by_cases hm : m = n + 1
    · subst hm; rfl
    · have hp := hn n (by omega) (by omega)
      rw [show lastP p (n + 1) = lastP p n by simp [lastP, hp]]
      exact ih (by omega) (fun k h1 h2 => hn k h1 (by omega))
/-- how many of the first m are by thread t -/
def cnt (ls : List Acc) (t : Int) : Nat → Nat
  | 0 => 0
  | m + 1 => cnt ls t m + (if (A ls m).t = t then 1 else 0)
theorem cnt_mono (ls : List Acc) (t : Int) {a b : Nat} (h : a ≤ b) : cnt ls t a ≤ cnt ls t b := by
  induction b with
  | zero =>
    have : a = 0 := by omega
    subst this
    exact Nat.le_refl _
  | succ b ih =>
    by_cases hab : a = b + 1
    · subst hab; exact Nat.le_refl _
    · exact Nat.le_trans (ih (by omega)) (Nat.le_add_right _ _)
theorem cnt_le (ls : List Acc) (t : Int) : ∀ m, cnt ls t m ≤ m
  | 0 => Nat.le_refl _
  | m + 1 => by
    have := cnt_le ls t m
    unfold cnt
    split <;> omega
theorem cnt_none {ls : List Acc} {t : Int} {m n : Nat} (h : m ≤ n) (hn : ∀ k, m ≤ k → k < n → (A ls k).t ≠ t) : cnt ls t n = cnt ls t m := by
  induction n with
  | zero =>
    have : m = 0 := by omega
    subst this
    rfl
  | succ n ih =>
    by_cases hm : m = n + 1
    · subst hm; rfl
    · rw [show cnt ls t (n + 1) = cnt ls t n + (if (A ls n).t = t then 1 else 0) from rfl, if_neg (hn n (by omega) (by omega)), Nat.add_zero]
      exact ih (by omega) (fun k h1 h2 => hn k h1 (by omega))
theorem cnt_self (ls : List Acc) (i : Nat) : cnt ls (A ls i).t (i + 1) = cnt ls (A ls i).t i + 1 := by
  show cnt ls (A ls i).t i + (if (A ls i).t = (A ls i).t then 1 else 0) = _
  rw [if_pos rfl]
/-- who is counted lies ahead -/
theorem cnt_lt {ls : List Acc} {k m : Nat} (h : cnt ls (A ls k).t (k + 1) ≤ cnt ls (A ls k).t m) : k < m := by
  apply Nat.lt_of_not_le
  intro hmk
  have := cnt_mono ls (A ls k).t hmk
  have := cnt_self ls k
  omega
/-- the last access of thread t among the first m -/
def prv (ls : List Acc) (t : Int) (m : Nat) : Int := lastP (fun k => decide ((A ls k).t = t)) m
/-- the last atomic write to a cell among the first m -/
def awr (ls : List Acc) (c : Int) (m : Nat) : Int := lastP (fun k => decide ((A ls k).c = c) && (atB (A ls k).k && wrB (A ls k).k)) m
/-- whom an access reads from, atomically -/
def srcA (ls : List Acc) (i : Nat) : Int := if atB (A ls i).k && rdB (A ls i).k then awr ls (A ls i).c i else -1
def latC (n : Nat) (ls : List Acc) (m : Nat) (cs : List (List Int)) (t : Int) : List Int := if prv ls t m < 0 then List.replicate n 0 else cs.getD (prv ls t m).toNat []
def nextC (n : Nat) (ls : List Acc) (m : Nat) (cs : List (List Int)) : List Int :=
  tickL (if srcA ls m < 0 then latC n ls m cs (A ls m).t else joinL (latC n ls m cs (A ls m).t) (cs.getD (srcA ls m).toNat [])) (A ls m).t
/-- the clocks of the first m -/
def ck (n : Nat) (ls : List Acc) : Nat → List (List Int)
  | 0 => []
  | m + 1 => ck n ls m ++ [nextC n ls m (ck n ls m)]
theorem ck_len (n : Nat) (ls : List Acc) : ∀ m, (ck n ls m).length = m
  | 0 => rfl
  | m + 1 => by simp [ck, ck_len n ls m]
/-- the clock of an access -/
def cl (n : Nat) (ls : List Acc) (i : Nat) : List Int := nextC n ls i (ck n ls i)
theorem ck_get (n : Nat) (ls : List Acc) (i : Nat) : ∀ m, i < m → (ck n ls m).getD i [] = cl n ls i
  | 0, h => absurd h (Nat.not_lt_zero _)
  | m + 1, h => by
    have hl := ck_len n ls m
    by_cases hm : i = m
    · subst hm
      simp [ck, hl, cl]
    · have := ck_get n ls i m (by omega)
      rw [List.getD_eq_getElem?_getD] at this ⊢
      rw [show ck n ls (m + 1) = ck n ls m ++ [nextC n ls m (ck n ls m)] from rfl, List.getElem?_append_left (by omega)]
      exact this
/-- what the thread of an access knew -/
def latL (n : Nat) (ls : List Acc) (m : Nat) (t : Int) : List Int := if prv ls t m < 0 then List.replicate n 0 else cl n ls (prv ls t m).toNat
theorem latC_is (n : Nat) (ls : List Acc) (m : Nat) (t : Int) : latC n ls m (ck n ls m) t = latL n ls m t := by
  unfold latC latL
  split
  · rfl
  · rename_i h
    have := lastP_rng (fun k => decide ((A ls k).t = t)) m
    unfold prv at h ⊢
    exact ck_get n ls _ m (by omega)
theorem cl_eq (n : Nat) (ls : List Acc) (i : Nat) : cl n ls i = tickL (if srcA ls i < 0 then latL n ls i (A ls i).t else joinL (latL n ls i (A ls i).t) (cl n ls (srcA ls i).toNat)) (A ls i).t := by
  unfold cl nextC
  rw [latC_is]
  by_cases h : srcA ls i < 0
  · rw [if_pos h, if_pos h]
  · rw [if_neg h, if_neg h]
    have hs : (srcA ls i).toNat < i := by
      unfold srcA at h ⊢
      split at h
      · rename_i hc
        rw [if_pos hc]
        have := lastP_rng (fun k => decide ((A ls k).c = (A ls i).c) && (atB (A ls k).k && wrB (A ls k).k)) i
        unfold awr at h ⊢
        omega
      · omega
    rw [ck_get n ls _ i hs]
    rfl
/-- a list of n threads that is right -/
structure RL (n : Nat) (ls : List Acc) : Prop where
  n1 : 1 ≤ n
  n2 : n ≤ 10
  l : ls.length ≤ 1000
  ok : ∀ i, i < ls.length → accOk n (A ls i) = true
theorem RL.t {n : Nat} {ls : List Acc} (h : RL n ls) {i : Nat} (hi : i < ls.length) : 0 ≤ (A ls i).t ∧ (A ls i).t < n := by
  have := h.ok i hi
  unfold accOk at this
  simp at this
  omega
/-- a clock whose numbers are at most what there was, and just that of its own thread -/
structure CkOk (n : Nat) (ls : List Acc) (c : List Int) (t : Int) (m : Nat) : Prop where
  len : c.length = n
  rng : ∀ u : Nat, u < n → 0 ≤ c.getD u 0 ∧ c.getD u 0 ≤ cnt ls u m
  own : c.getD t.toNat 0 = cnt ls t m
theorem CkOk.right {n : Nat} {ls : List Acc} {c : List Int} {t : Int} {m : Nat} (h : CkOk n ls c t m) (n1 : 1 ≤ n) (n2 : n ≤ 10) (hm : m ≤ 1000) : rightB c = true := by
  refine (right_iff c).2 ⟨by rw [h.len]; exact n1, by rw [h.len]; exact n2, fun k hk => ?_⟩
  rw [h.len] at hk
  have := h.rng k hk
  have := cnt_le ls k m
  omega
theorem lat_ok {n : Nat} {ls : List Acc} (R : RL n ls) {m : Nat} (hm : m ≤ ls.length) (t : Int) (t0 : 0 ≤ t) (t1 : t < n) (ih : ∀ j, j < m → CkOk n ls (cl n ls j) (A ls j).t (j + 1)) : CkOk n ls (latL n ls m t) t m := by
  unfold latL prv
  rcases lastP_cases (fun k => decide ((A ls k).t = t)) m with h | ⟨p, h⟩
  · rw [if_pos h]
    have h0 : cnt ls t m = 0 := by
      rw [cnt_none (Nat.zero_le m) (fun k _ hk => by simpa using lastP_none h k hk)]
      rfl
    refine ⟨by simp, fun u hu => ?_, ?_⟩
    · have : (List.replicate n (0 : Int)).getD u 0 = 0 := by simp [hu]
      omega
    · have : (List.replicate n (0 : Int)).getD t.toNat 0 = 0 := by
        rw [List.getD_eq_getElem?_getD, List.getElem?_replicate]
        split <;> rfl
      omega
  · obtain ⟨a, b, c⟩ := lastP_some h
    rw [if_neg (by omega), h]
    have hp := ih p a
    have ht : (A ls p).t = t := by simpa using b
    have e : cnt ls t m = cnt ls t (p + 1) := cnt_none (by omega) (fun k h1 h2 => by simpa using c k (by omega) h2)
    refine ⟨hp.len, fun u hu => ?_, ?_⟩
    · have := hp.rng u hu
      have := cnt_mono ls u (show p + 1 ≤ m by omega)
      simp only [Int.toNat_natCast]
      omega
    · have := hp.own
      rw [ht] at this
      rw [e]
      exact this
theorem join_ok {n : Nat} {ls : List Acc} (n1 : 1 ≤ n) (n2 : n ≤ 10) {a b : List Int} {t u : Int} {m k : Nat} (ha : CkOk n ls a t m) (hb : CkOk n ls b u k) (hkm : k ≤ m) (hm : m ≤ 1000) (t0 : 0 ≤ t) (t1 : t < n) :
    CkOk n ls (joinL a b) t m ∧ ∀ v : Nat, v < n → (joinL a b).getD v 0 = max (a.getD v 0) (b.getD v 0) := by
  have hbo : bothB a b = true := (both_iff a b).2 ⟨ha.right n1 n2 hm, hb.right n1 n2 (by omega), by rw [ha.len, hb.len]⟩
  have hl : (joinL a b).length = n := by unfold joinL; rw [if_pos hbo, jmix_len, ha.len]
  have hg : ∀ v : Nat, v < n → (joinL a b).getD v 0 = max (a.getD v 0) (b.getD v 0) := fun v hv => by
    unfold joinL
    rw [if_pos hbo, jmix_get _ _ _ _ (by rw [ha.len]; exact hv), if_pos (by rw [ha.len]; exact hv)]
  refine ⟨⟨hl, fun v hv => ?_, ?_⟩, hg⟩
  · rw [hg v hv]
    have := ha.rng v hv
    have := hb.rng v hv
    have := cnt_mono ls v hkm
    omega
  · have hv : t.toNat < n := by omega
    rw [hg _ hv]
    have h1 := ha.own
    have h2 := hb.rng _ hv
    have h3 := cnt_mono ls t hkm
    rw [show ((t.toNat : Nat) : Int) = t by omega] at h2
    omega
theorem tick_ok {n : Nat} {ls : List Acc} (n1 : 1 ≤ n) (n2 : n ≤ 10) {c : List Int} {i : Nat} (hc : CkOk n ls c (A ls i).t i) (hi : i ≤ 1000) (t0 : 0 ≤ (A ls i).t) (t1 : (A ls i).t < n) :
    CkOk n ls (tickL c (A ls i).t) (A ls i).t (i + 1) ∧ ∀ v : Nat, v < n → (v : Int) ≠ (A ls i).t → (tickL c (A ls i).t).getD v 0 = c.getD v 0 := by
  have hr := hc.right n1 n2 hi
  have hh : hasB c (A ls i).t = true := (has_iff c _).2 ⟨hr, t0, by rw [hc.len]; exact t1⟩
  have hlt := cnt_le ls (A ls i).t i
  have hne : c.getD (A ls i).t.toNat 0 ≠ 1099511627776 := by rw [hc.own]; omega
  unfold tickL
  rw [if_pos ⟨hh, hne⟩]
  have hv : (A ls i).t.toNat < c.length := by rw [hc.len]; omega
  have hg : ∀ v : Nat, v < n → (c.set (A ls i).t.toNat (c.getD (A ls i).t.toNat 0 + 1)).getD v 0 = if (A ls i).t.toNat = v then c.getD (A ls i).t.toNat 0 + 1 else c.getD v 0 := fun v hv' => by
    simp only [List.getD_eq_getElem?_getD, List.getElem?_set]
    by_cases e : (A ls i).t.toNat = v
    · subst e
      simp [hv]
    · simp [e]
  refine ⟨⟨by rw [List.length_set, hc.len], fun u hu => ?_, ?_⟩, fun v hv' hne' => ?_⟩
  · rw [hg u hu]
    have h1 := hc.rng u hu
    by_cases e : (A ls i).t.toNat = u
    · rw [if_pos e, hc.own]
      have : (u : Int) = (A ls i).t := by omega
      rw [this, cnt_self]
      omega
    · rw [if_neg e]
      have := cnt_mono ls u (show i ≤ i + 1 by omega)
      omega
  · rw [hg _ (by omega), if_pos rfl, hc.own, cnt_self]
    omega
  · rw [hg v hv', if_neg (by omega)]
theorem cl_ok {n : Nat} {ls : List Acc} (R : RL n ls) : ∀ i, i < ls.length → CkOk n ls (cl n ls i) (A ls i).t (i + 1) := by
  intro i
  induction i using Nat.strongRecOn with
  | ind i ih =>
    intro hi
    obtain ⟨t0, t1⟩ := R.t hi
    have hl := R.l
    have h1 := lat_ok R (Nat.le_of_lt hi) (A ls i).t t0 t1 (fun j hj => ih j hj (by omega))
    rw [cl_eq]
    by_cases h : srcA ls i < 0
    · rw [if_pos h]
      exact (tick_ok R.n1 R.n2 h1 (by omega) t0 t1).1
    · rw [if_neg h]
      have hs : (srcA ls i).toNat < i := by
        unfold srcA at h ⊢
        split at h
        · rename_i hc
          rw [if_pos hc]
          have := lastP_rng (fun k => decide ((A ls k).c = (A ls i).c) && (atB (A ls k).k && wrB (A ls k).k)) i
          unfold awr at h ⊢
          omega
        · omega
      exact (tick_ok R.n1 R.n2 (join_ok R.n1 R.n2 h1 (ih _ hs (by omega)) (by omega) (by omega) t0 t1).1 (by omega) t0 t1).1
theorem srcA_lt {ls : List Acc} {i : Nat} (h : ¬ srcA ls i < 0) : (srcA ls i).toNat < i := by
  unfold srcA at h ⊢
  split at h
  · rename_i hc
    rw [if_pos hc]
    have := lastP_rng (fun k => decide ((A ls k).c = (A ls i).c) && (atB (A ls k).k && wrB (A ls k).k)) i
    unfold awr at h ⊢
    omega
  · omega
/-- does an access know another one's step? -/
def kn (n : Nat) (ls : List Acc) (i k : Nat) : Bool := decide ((cnt ls (A ls k).t (k + 1) : Int) ≤ (cl n ls i).getD (A ls k).t.toNat 0)
theorem kn_own {n : Nat} {ls : List Acc} (R : RL n ls) {i k : Nat} (hi : i < ls.length) (hk : k ≤ i) (ht : (A ls k).t = (A ls i).t) : kn n ls i k = true := by
  unfold kn
  have h := (cl_ok R i hi).own
  rw [← ht] at h
  rw [h]
  have := cnt_mono ls (A ls k).t (show k + 1 ≤ i + 1 by omega)
  simp
  omega
theorem kn_eq {n : Nat} {ls : List Acc} (R : RL n ls) {i k : Nat} (hk : k < ls.length) (hi : i < ls.length) : knowsB (cl n ls i) (A ls k).t ((cl n ls k).getD (A ls k).t.toNat 0) = kn n ls i k := by
  unfold knowsB kn
  have h1 := cl_ok R i hi
  have hl := R.l
  obtain ⟨t0, t1⟩ := R.t hk
  rw [(cl_ok R k hk).own, (has_iff (cl n ls i) (A ls k).t).2 ⟨h1.right R.n1 R.n2 (by omega), t0, by rw [h1.len]; exact t1⟩]
  simp
end Go.Proofs.Ytoaifbengichbaa
