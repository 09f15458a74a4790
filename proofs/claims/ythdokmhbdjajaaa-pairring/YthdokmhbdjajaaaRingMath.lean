/- Sums of small pairs, in any order. No program in sight but the pairs' own definitions. -/
import Derived.Test.YthdokmhbdjajaaaLawSums
namespace Go.Proofs.Ythdokmhbdjajaaa
open Go.RowKit
set_option linter.unusedVariables false
def sm (p : Int × Int) : Prop := -1073741824 ≤ p.1 ∧ p.1 ≤ 1073741824 ∧ -1073741824 ≤ p.2 ∧ p.2 ≤ 1073741824
theorem cl_sm {p : Int × Int} (h : sm p) : cl p = p := by
  unfold sm at h
  unfold cl
  rw [if_pos]
  rw [inB_iff, inB_iff]
  omega
theorem foldl_add (f : Int × Int → Int) (l : List (Int × Int)) : ∀ s : Int, l.foldl (fun s p => s + f p) s = s + l.foldl (fun s p => s + f p) 0 := by
  induction l with
  | nil => intro s; simp
  | cons p l ih => intro s; simp only [List.foldl_cons]; rw [ih (s + f p), ih (0 + f p)]; omega
theorem sumA_append (l m : List (Int × Int)) : sumA (l ++ m) = sumA l + sumA m := by
  unfold sumA
  rw [List.foldl_append, foldl_add (fun p => p.1) m]
theorem sumB_append (l m : List (Int × Int)) : sumB (l ++ m) = sumB l + sumB m := by
  unfold sumB
  rw [List.foldl_append, foldl_add (fun p => p.2) m]
theorem sum_bound (l : List (Int × Int)) (h : ∀ p ∈ l, sm p) : -1073741824 * (l.length : Int) ≤ sumA l ∧ sumA l ≤ 1073741824 * (l.length : Int) ∧ -1073741824 * (l.length : Int) ≤ sumB l ∧ sumB l ≤ 1073741824 * (l.length : Int) := by
  induction l with
  | nil => simp [sumA, sumB]
  | cons p l ih =>
    have h1 := ih (fun q hq => h q (List.mem_cons_of_mem _ hq))
    have h2 := h p List.mem_cons_self
    unfold sm at h2
    have e1 : sumA (p :: l) = p.1 + sumA l := by
      rw [show p :: l = [p] ++ l from rfl, sumA_append]; simp [sumA]
    have e2 : sumB (p :: l) = p.2 + sumB l := by
      rw [show p :: l = [p] ++ l from rfl, sumB_append]; simp [sumB]
    rw [e1, e2]
    simp only [List.length_cons]
    omega
theorem sum_in (l : List (Int × Int)) (h : ∀ p ∈ l, sm p) (hl : l.length ≤ 100) : inB (sumA l) = true ∧ inB (sumB l) = true := by
  have := sum_bound l h
  rw [inB_iff, inB_iff]
  omega
theorem way_sm (l : List (Int × Int)) (h : ∀ p ∈ l, sm p) (hl : l.length ≤ 100) : Way l :=
  fun k hk => sum_in _ (fun p hp => h p (List.mem_of_mem_take hp)) (by rw [List.length_take]; omega)
/-- from place t on, and round -/
def rot (l : List (Int × Int)) (t k : Nat) : List (Int × Int) := (List.range k).map fun i => l.getD ((i + t) % l.length) (0, 0)
theorem rot_all (l : List (Int × Int)) (t : Nat) (h : t < l.length) : rot l t l.length = l.drop t ++ l.take t := by
  apply List.ext_getElem
  · simp [rot]; omega
  · intro i h1 h2
    simp [rot] at h1
    simp only [rot, List.getElem_map, List.getElem_range]
    by_cases hi : i < l.length - t
    · rw [List.getElem_append_left (by simp; omega), Nat.mod_eq_of_lt (by omega)]
      simp only [Nat.add_comm i t, List.getElem_drop]
      simp [show t + i < l.length by omega]
    · rw [List.getElem_append_right (by simp; omega)]
      have e : (i + t) % l.length = i - (l.length - t) := by
        rw [Nat.mod_eq_sub_mod (by omega), Nat.mod_eq_of_lt (by omega)]; omega
      rw [e]
      simp [show i - (l.length - t) < l.length by omega]
theorem rot_sum (l : List (Int × Int)) (t : Nat) (h : t < l.length) : sumA (rot l t l.length) = sumA l ∧ sumB (rot l t l.length) = sumB l := by
  rw [rot_all l t h, sumA_append, sumB_append]
  have h1 := sumA_append (l.take t) (l.drop t)
  have h2 := sumB_append (l.take t) (l.drop t)
  rw [List.take_append_drop] at h1 h2
  omega
theorem two_sum (l : List (Int × Int)) (t : Nat) : sumA [(sumA (l.take t), sumB (l.take t)), (sumA (l.drop t), sumB (l.drop t))] = sumA l ∧ sumB [(sumA (l.take t), sumB (l.take t)), (sumA (l.drop t), sumB (l.drop t))] = sumB l := by
  have h1 := sumA_append (l.take t) (l.drop t)
  have h2 := sumB_append (l.take t) (l.drop t)
  rw [List.take_append_drop] at h1 h2
  simp only [sumA, sumB, List.foldl_cons, List.foldl_nil] at *
  omega
theorem two_way (l : List (Int × Int)) (t : Nat) (h : ∀ p ∈ l, sm p) (hl : l.length ≤ 100) : Way [(sumA (l.take t), sumB (l.take t)), (sumA (l.drop t), sumB (l.drop t))] := by
  intro k hk
  match k, hk with
  | 0, _ => exact ⟨rfl, rfl⟩
  | 1, _ =>
    have := sum_in (l.take t) (fun p hp => h p (List.mem_of_mem_take hp)) (by rw [List.length_take]; omega)
    simpa [sumA, sumB] using this
  | 2, _ =>
    have := two_sum l t
    have hs := sum_in l h hl
    rw [List.take_of_length_le (by simp), this.1, this.2]
    exact hs
theorem pairs_take {w : World} {b off cap n : Nat} {xs : List (Int × Int)} (t : Nat) (ht : t ≤ xs.length) (hc : ∀ j, j < xs.length → ∃ x y, w.cell? ⟨b, off + j, none⟩ = some (.complex .f64 x y) ∧ Cnt x (xs.getD j (0, 0)).1 ∧ Cnt y (xs.getD j (0, 0)).2) :
    PairsAt w (.slice (some ⟨b, off, none⟩) t cap) (xs.take t) := by
  refine .inr ⟨b, off, cap, by rw [List.length_take, Nat.min_eq_left ht], fun j hj => ?_⟩
  rw [List.length_take] at hj
  have e : (xs.take t).getD j (0, 0) = xs.getD j (0, 0) := by simp [show j < t by omega]
  rw [e]
  exact hc j (by omega)
theorem pairs_drop {w : World} {b off cap : Nat} {xs : List (Int × Int)} (t : Nat) (hc : ∀ j, j < xs.length → ∃ x y, w.cell? ⟨b, off + j, none⟩ = some (.complex .f64 x y) ∧ Cnt x (xs.getD j (0, 0)).1 ∧ Cnt y (xs.getD j (0, 0)).2) :
    PairsAt w (.slice (some ⟨b, off + t, none⟩) (xs.length - t) cap) (xs.drop t) := by
  refine .inr ⟨b, off + t, cap, by rw [List.length_drop], fun j hj => ?_⟩
  rw [List.length_drop] at hj
  have e : (xs.drop t).getD j (0, 0) = xs.getD (t + j) (0, 0) := by simp
  rw [e, Nat.add_assoc]
  exact hc (t + j) (by omega)
end Go.Proofs.Ythdokmhbdjajaaa
