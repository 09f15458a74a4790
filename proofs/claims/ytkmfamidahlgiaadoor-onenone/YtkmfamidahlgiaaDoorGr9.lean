/- The document's answers of layer 9: Has, the table, Check. -/
import Derived.Test.YtkmfamidahlgiaaDoorGrDfs
import Derived.Test.YtkmfamidahlgiaaDoorLists
import Derived.Deep.DeepCutAuto
namespace Go.Proofs.YtkmfamidahlgiaaDoor
open Go.RowKit
set_option linter.unusedVariables false
set_option maxHeartbeats 1000000
attribute [local go_sem] later_cell later_frozen later_const
theorem contains_step (xs : List Int) (n : Int) (k : Nat) (h : k < xs.length) : (xs.take (k + 1)).contains n = ((xs.take k).contains n || decide (xs.getD k 0 = n)) := by
  rw [List.take_succ_eq_append_getElem h, show xs.getD k 0 = xs[k] by simp [h]]
  rw [Bool.eq_iff_iff]
  simp only [List.contains_eq_mem, decide_eq_true_eq, List.mem_append, List.mem_singleton, Bool.or_eq_true]
  constructor
  · rintro (h | h)
    · exact .inl h
    · exact .inr h.symm
  · rintro (h | h)
    · exact .inl h
    · exact .inr h.symm
def vb (f : Nat → Bool) (i : Nat) : Value := .bool (f i)
theorem vb_one (f : Nat → Bool) : (vl 36 (vb f)).toArray.all (·.oneCell') = true := vl_one fun _ _ => rfl
theorem named_take {n : Nat} {l : List Int} {k : Nat} (h : Named n l) : Named n (l.take k) := ⟨fun x hx => h.1 x (List.mem_of_mem_take hx), h.2.sublist (List.take_sublist k l)⟩
theorem named_step {n : Nat} {l : List Int} {k : Nat} (hk : k < l.length) : Named n (l.take (k + 1)) ↔ Named n (l.take k) ∧ (0 ≤ l.getD k 0 ∧ l.getD k 0 < (n : Int)) ∧ (l.take k).contains (l.getD k 0) = false := by
  rw [List.take_succ_eq_append_getElem hk, show l.getD k 0 = l[k] by simp [hk]]
  generalize l[k] = z
  generalize l.take k = m
  unfold Named
  rw [List.nodup_append, ← Bool.not_eq_true, List.contains_iff_mem]
  constructor
  · rintro ⟨h1, h2, _, h3⟩
    exact ⟨⟨fun x hx => h1 x (by simp [hx]), h2⟩, h1 z (by simp), fun hz => h3 z hz z (by simp) rfl⟩
  · rintro ⟨⟨h1, h2⟩, h3, h4⟩
    refine ⟨fun x hx => ?_, h2, by simp, fun x hx y hy e => ?_⟩
    · rcases List.mem_append.1 hx with hx | hx
      · exact h1 x hx
      · simp at hx; subst hx; exact h3
    · simp at hy; subst hy; subst e; exact h4 hx
theorem nms_of' {ups : List (List Int)} (h : ∀ j, j < ups.length → Named ups.length (ups.getD j [])) : Nms ups := by
  intro l hl
  obtain ⟨j, hj, rfl⟩ := List.getElem_of_mem hl
  have := h j hj
  rwa [show ups.getD j [] = ups[j] by simp [hj]] at this
end Go.Proofs.YtkmfamidahlgiaaDoor
