/- The document's Get of layer 7. -/
import Derived.Test.YtkikiehgkggfmaaOctC
namespace Go.Proofs.Ytkikiehgkggfmaa
open Go.RowKit
set_option linter.unusedVariables false
set_option maxHeartbeats 1000000
attribute [local go_sem] later_cell later_frozen later_const
/-- the word that some bytes make -/
def vs : List UInt8 → Nat
  | [] => 0
  | c :: r => c.toNat % 128 + 128 * vs r
theorem vs_enc (x : Nat) : vs (enc x) = x := by
  induction x using Nat.strongRecOn with
  | _ x ih =>
    by_cases h : x < 128
    · rw [enc_small h]
      simp only [vs]
      rw [byte_of (by omega)]
      omega
    · rw [enc_big h]
      simp only [vs]
      rw [byte_of (by omega), ih (x / 128) (by omega)]
      omega
theorem enc_inner (x : Nat) : ∀ j, j + 1 < (enc x).length → 127 < ((enc x).getD j 0).toNat := by
  induction x using Nat.strongRecOn with
  | _ x ih =>
    intro j hj
    by_cases h : x < 128
    · rw [enc_small h] at hj; simp at hj
    · rw [enc_big h] at hj ⊢
      cases j with
      | zero => rw [List.getD_cons_zero, byte_of (by omega)]; omega
      | succ j => rw [List.getD_cons_succ]; exact ih (x / 128) (by omega) j (by simpa using hj)
theorem enc_last (x : Nat) : ((enc x).getD ((enc x).length - 1) 0).toNat ≤ 127 := by
  induction x using Nat.strongRecOn with
  | _ x ih =>
    by_cases h : x < 128
    · rw [enc_small h]; simp only [List.length_singleton, Nat.sub_self, List.getD_cons_zero]; rw [byte_of (by omega)]; omega
    · have h1 := ih (x / 128) (by omega)
      have h2 := enc_pos (x / 128)
      rw [enc_big h, List.length_cons, Nat.add_sub_cancel]
      obtain ⟨m, hm⟩ : ∃ m, (enc (x / 128)).length = m + 1 := ⟨(enc (x / 128)).length - 1, by omega⟩
      rw [hm] at h1 ⊢
      rw [List.getD_cons_succ]
      simpa using h1
theorem take_getD (l : List UInt8) (m j : Nat) (h : j < m) : (l.take m).getD j 0 = l.getD j 0 := by
  simp [h]
theorem dec_place (l : List UInt8) (n y m : Nat) (hall : ∀ j, j < n → 127 < (l.getD j 0).toNat) (h : dec l = some (y, m)) : n + 1 ≤ m := by
  obtain ⟨h1, h2, h3, h4, h5, h6⟩ := dec_is l y m h
  rcases Nat.lt_or_ge n m with hh | hh
  · exact hh
  · exfalso
    have e1 := enc_last y
    rw [← h2, ← h1, take_getD l m (m - 1) (by omega)] at e1
    have := hall (m - 1) (by omega)
    omega
theorem dec_far (l : List UInt8) (n : Nat) (hall : ∀ j, j < n → 127 < (l.getD j 0).toNat) (h : l.length ≤ n ∨ 10 ≤ n) : dec l = none := by
  cases hd : dec l with
  | none => rfl
  | some p =>
    obtain ⟨y, m⟩ := p
    have := dec_place l n y m hall hd
    obtain ⟨h1, h2, h3, h4, h5, h6⟩ := dec_is l y m hd
    omega
theorem dec_yes (l : List UInt8) (n X : Nat) (hX : X < 18446744073709551616) (hn : n < l.length) (h : enc X = l.take (n + 1)) : dec l = some (X, n + 1) := by
  have e : l = enc X ++ l.drop (n + 1) := by rw [h, List.take_append_drop]
  have hl : (enc X).length = n + 1 := by rw [h, List.length_take]; omega
  rw [e, dec_enc X _ hX, hl]
theorem dec_no (l : List UInt8) (n : Nat) (hn : n < l.length) (hall : ∀ j, j < n → 127 < (l.getD j 0).toNat) (hlast : (l.getD n 0).toNat ≤ 127) (h : enc (vs (l.take (n + 1)) % 18446744073709551616) ≠ l.take (n + 1)) : dec l = none := by
  cases hd : dec l with
  | none => rfl
  | some p =>
    exfalso
    obtain ⟨y, m⟩ := p
    have hm := dec_place l n y m hall hd
    obtain ⟨h1, h2, h3, h4, h5, h6⟩ := dec_is l y m hd
    have hm2 : m = n + 1 := by
      rcases Nat.lt_or_ge (n + 1) m with hh | hh
      · exfalso
        have := enc_inner y n (by omega)
        rw [← h1, take_getD l m n (by omega)] at this
        omega
      · omega
    subst hm2
    apply h
    rw [h1, vs_enc, Nat.mod_eq_of_lt h4]
theorem vs_drop (p : List UInt8) (j : Nat) (h : j < p.length) : vs (p.drop j) = (p.getD j 0).toNat % 128 + 128 * vs (p.drop (j + 1)) := by
  rw [List.drop_eq_getElem_cons h]
  simp [vs, h]
theorem vs_step (p : List UInt8) (j : Nat) (h : j < p.length) : (128 * (vs (p.drop (j + 1)) % 18446744073709551616) + (p.getD j 0).toNat % 128) % 18446744073709551616 = vs (p.drop j) % 18446744073709551616 := by
  rw [vs_drop p j h]
  omega
theorem differ {a b : List UInt8} (hl : a.length = b.length) (h : ∀ j, j < a.length → a.getD j 0 = b.getD j 0) : a = b := by
  apply List.ext_getElem hl
  intro j h1 h2
  have := h j h1
  simpa [h1, h2] using this
end Go.Proofs.Ytkikiehgkggfmaa
