/- Clocks: joins are the least ones, within is an order. No program in sight but the names. -/
import Derived.Test.YtkikiehgkggfmabTickD
namespace Go.Proofs.Ytkikiehgkggfmab
open Go.RowKit
set_option linter.unusedVariables false
theorem getD_el (l : List Int) (k : Nat) (h : k < l.length) : l.getD k 0 = l[k] := by simp [h]
theorem within_iff (a b : List Int) : withinB a b = true ↔ rightB a = true ∧ rightB b = true ∧ a.length = b.length ∧ ∀ k, k < a.length → a.getD k 0 ≤ b.getD k 0 := by
  unfold withinB leAll
  rw [Bool.and_eq_true, both_iff, decide_eq_true_eq]
  simp only [and_assoc]
theorem join_len (a b : List Int) (h : bothB a b = true) : (joinL a b).length = a.length := by unfold joinL; rw [if_pos h, jmix_len]
theorem join_get (a b : List Int) (h : bothB a b = true) (k : Nat) (hk : k < a.length) : (joinL a b).getD k 0 = max (a.getD k 0) (b.getD k 0) := by
  unfold joinL; rw [if_pos h, jmix_get a b _ k hk, if_pos hk]
theorem join_right (a b : List Int) (h : bothB a b = true) : rightB (joinL a b) = true := by
  obtain ⟨h1, h2, h3⟩ := (both_iff a b).1 h
  obtain ⟨p1, p2, p3⟩ := (right_iff a).1 h1
  obtain ⟨q1, q2, q3⟩ := (right_iff b).1 h2
  rw [right_iff, join_len a b h]
  refine ⟨p1, p2, fun k hk => ?_⟩
  rw [join_get a b h k hk]
  have := p3 k hk
  have := q3 k (by omega)
  omega
theorem within_left (a b : List Int) (h : bothB a b = true) : withinB a (joinL a b) = true := by
  obtain ⟨h1, h2, h3⟩ := (both_iff a b).1 h
  rw [within_iff]
  refine ⟨h1, join_right a b h, (join_len a b h).symm, fun k hk => ?_⟩
  rw [join_get a b h k hk]
  omega
theorem join_comm (a b : List Int) (h : bothB a b = true) : joinL a b = joinL b a := by
  obtain ⟨h1, h2, h3⟩ := (both_iff a b).1 h
  have h' : bothB b a = true := (both_iff b a).2 ⟨h2, h1, h3.symm⟩
  apply List.ext_getElem
  · rw [join_len a b h, join_len b a h', h3]
  · intro k g1 g2
    have hk : k < a.length := by rw [join_len a b h] at g1; exact g1
    have e1 := join_get a b h k hk
    have e2 := join_get b a h' k (by omega)
    rw [getD_el _ _ g1] at e1
    rw [getD_el _ _ g2] at e2
    rw [e1, e2]
    omega
theorem within_right (a b : List Int) (h : bothB a b = true) : withinB b (joinL a b) = true := by
  obtain ⟨h1, h2, h3⟩ := (both_iff a b).1 h
  rw [join_comm a b h]
  exact within_left b a ((both_iff b a).2 ⟨h2, h1, h3.symm⟩)
theorem within_self (a : List Int) (h : rightB a = true) : withinB a a = true := (within_iff a a).2 ⟨h, h, rfl, fun _ _ => Int.le_refl _⟩
theorem right_within (a : List Int) : withinB a a = rightB a := by
  cases h : rightB a
  · cases h2 : withinB a a
    · rfl
    · rw [((within_iff a a).1 h2).1] at h; exact absurd h (by decide)
  · exact within_self a h
theorem same_self (a : List Int) (h : rightB a = true) : sameB a a = true := by unfold sameB; rw [within_self a h]; rfl
theorem both_right (a b : List Int) (h : bothB a b = true) : bothB b a = true := by
  obtain ⟨h1, h2, h3⟩ := (both_iff a b).1 h
  exact (both_iff b a).2 ⟨h2, h1, h3.symm⟩
theorem both_self (a : List Int) (h : rightB a = true) : bothB a a = true := (both_iff a a).2 ⟨h, h, rfl⟩
theorem join_self (a : List Int) (h : rightB a = true) : joinL a a = a := by
  have h' := both_self a h
  apply List.ext_getElem
  · rw [join_len a a h']
  · intro k g1 g2
    have e1 := join_get a a h' k g2
    rw [getD_el _ _ g1, getD_el _ _ g2] at e1
    rw [e1]
    omega
theorem join_least (a b c : List Int) (h : bothB a b = true) (h1 : withinB a c = true) (h2 : withinB b c = true) : withinB (joinL a b) c = true := by
  obtain ⟨p1, p2, p3, p4⟩ := (within_iff a c).1 h1
  obtain ⟨q1, q2, q3, q4⟩ := (within_iff b c).1 h2
  obtain ⟨b1, b2, b3⟩ := (both_iff a b).1 h
  rw [within_iff]
  refine ⟨join_right a b h, p2, by rw [join_len a b h]; exact p3, fun k hk => ?_⟩
  rw [join_len a b h] at hk
  rw [join_get a b h k hk]
  have := p4 k hk
  have := q4 k (by omega)
  omega
theorem within_trans (a b c : List Int) (h1 : withinB a b = true) (h2 : withinB b c = true) : withinB a c = true := by
  obtain ⟨p1, p2, p3, p4⟩ := (within_iff a b).1 h1
  obtain ⟨q1, q2, q3, q4⟩ := (within_iff b c).1 h2
  rw [within_iff]
  refine ⟨p1, q2, by omega, fun k hk => ?_⟩
  have := p4 k hk
  have := q4 k (by omega)
  omega
theorem sum_set (xs : List Int) (k : Nat) (h : k < xs.length) (z : Int) : (xs.set k z).sum = xs.sum - xs.getD k 0 + z := by
  induction xs generalizing k with
  | nil => simp at h
  | cons x l ih =>
    cases k with
    | zero => simp; omega
    | succ k =>
      have := ih k (by simpa using h)
      simp at this ⊢
      omega
/-- what a tick is: nothing, or a clock with one more -/
theorem tick_cases (a : List Int) (k : Nat) (hk : k < a.length) : tickL a k = [] ∨ ((tickL a k).length = a.length ∧ withinB a (tickL a k) = true ∧ withinB (tickL a k) a = false ∧ sumL (tickL a k) = sumL a + 1 ∧ 0 ≤ sumL a ∧ sumL a ≤ 10995116277760) := by
  unfold tickL
  split
  · rename_i h
    obtain ⟨hh, hz⟩ := h
    obtain ⟨hr, _, _⟩ := (has_iff a k).1 hh
    obtain ⟨r1, r2, r3⟩ := (right_iff a).1 hr
    rw [Int.toNat_natCast] at hz ⊢
    right
    have hset : ∀ j, j < a.length → (a.set k (a.getD k 0 + 1)).getD j 0 = if k = j then a.getD k 0 + 1 else a.getD j 0 := by
      intro j hj
      rw [getD_el _ _ (by simpa using hj), List.getElem_set]
      split
      · rfl
      · simp [hj]
    have hrt : rightB (a.set k (a.getD k 0 + 1)) = true := by
      rw [right_iff, List.length_set]
      refine ⟨r1, r2, fun j hj => ?_⟩
      rw [hset j hj]
      have := r3 j hj
      have := r3 k hk
      split <;> omega
    refine ⟨by simp, (within_iff _ _).2 ⟨hr, hrt, by simp, fun j hj => ?_⟩, ?_, ?_, ?_⟩
    · rw [hset j hj]; split
      · rename_i e; subst e; omega
      · omega
    · cases hw : withinB (a.set k (a.getD k 0 + 1)) a
      · rfl
      · have := ((within_iff _ _).1 hw).2.2.2 k (by simpa using hk)
        rw [hset k hk, if_pos rfl] at this
        omega
    · unfold sumL
      rw [hrt, hr, if_pos rfl, if_pos rfl, sum_set a k hk]
      omega
    · unfold sumL
      rw [hr, if_pos rfl]
      have := sum_bound a r3 a.length (Nat.le_refl _)
      rw [List.take_length] at this
      omega
  · exact .inl rfl
end Go.Proofs.Ytkikiehgkggfmab
