/- Lines of a text: its parts between line ends. No program. -/
import Derived.Test.YtchelhmefghcdaaDoorParts
import Derived.Test.YtchelhmefghcdaaDoorIsL
import Derived.Lib.IndexMore
namespace Go.Proofs.YtchelhmefghcdaaDoor
open Go.RowKit
set_option linter.unusedVariables false
theorem parts_cons_self (c : UInt8) (r : List UInt8) : parts c (c :: r) = [] :: parts c r := by rw [parts, if_pos rfl]
theorem parts_cons_other (c b : UInt8) (r p : List UInt8) (q : List (List UInt8)) (h : b ≠ c) (hp : parts c r = p :: q) : parts c (b :: r) = (b :: p) :: q := by rw [parts, if_neg h, hp]
/-- one byte more behind -/
theorem parts_snoc (c x : UInt8) : ∀ (l : List UInt8) (out : List (List UInt8)) (word : List UInt8), parts c l = out ++ [word] → parts c (l ++ [x]) = if x = c then out ++ [word] ++ [[]] else out ++ [word ++ [x]]
  | [], out, word, h => by
    have h' : ([[]] : List (List UInt8)) = out ++ [word] := h
    have ho : out = [] := by
      have := congrArg List.length h'
      simp at this
      exact this
    subst ho
    obtain rfl : word = [] := by simpa using h'.symm
    by_cases e : x = c
    · subst e; rw [if_pos rfl, List.nil_append, parts_cons_self]; rfl
    · rw [if_neg e, List.nil_append, parts_cons_other c x [] [] [] e rfl]; rfl
  | y :: r, out, word, h => by
    obtain ⟨p, q, hp⟩ := parts_some c r
    rw [List.cons_append]
    by_cases e : y = c
    · subst e
      rw [parts_cons_self] at h ⊢
      cases out with
      | nil => simp [hp] at h
      | cons o out =>
        rw [List.cons_append] at h
        injection h with h1 h2
        rw [parts_snoc y x r out word h2, ← h1]
        split <;> simp
    · rw [parts_cons_other c y r p q e hp] at h
      cases out with
      | nil =>
        simp only [List.nil_append, List.cons.injEq] at h
        obtain ⟨h1, h2⟩ := h
        have ih := parts_snoc c x r [] p (by rw [hp, h2]; rfl)
        by_cases e2 : x = c
        · rw [if_pos e2] at ih ⊢
          rw [parts_cons_other c y _ p [[]] e (by simpa using ih), h1]; rfl
        · rw [if_neg e2] at ih ⊢
          rw [parts_cons_other c y _ (p ++ [x]) [] e (by simpa using ih), ← h1]; rfl
      | cons o out =>
        rw [List.cons_append] at h
        injection h with h1 h2
        have ih := parts_snoc c x r (p :: out) word (by rw [hp, h2]; rfl)
        by_cases e2 : x = c
        · rw [if_pos e2] at ih ⊢
          rw [parts_cons_other c y _ p (out ++ [word] ++ [[]]) e (by simpa using ih), h1]; simp
        · rw [if_neg e2] at ih ⊢
          rw [parts_cons_other c y _ p (out ++ [word ++ [x]]) e (by simpa using ih), h1]; simp
/-- the first part, and those behind it -/
theorem parts_at (c : UInt8) : ∀ (l : List UInt8) (m : Nat), m < l.length → (∀ j, j < m → l.getD j 0 ≠ c) → l.getD m 0 = c → parts c l = l.take m :: parts c (l.drop (m + 1))
  | [], m, h, _, _ => by simp at h
  | b :: r, 0, _, _, h => by
    simp at h
    subst h
    rw [parts_cons_self]; rfl
  | b :: r, m + 1, h, hn, hc => by
    have ih := parts_at c r m (by simpa using h) (fun j hj => by have := hn (j + 1) (by omega); simpa using this) (by simpa using hc)
    have hb : b ≠ c := by have := hn 0 (by omega); simpa using this
    rw [parts_cons_other c b r _ _ hb ih]
    rfl
theorem not_mem_of {c : UInt8} {l : List UInt8} (h : ∀ j, j < l.length → l.getD j 0 ≠ c) : c ∉ l := by
  intro hm
  obtain ⟨j, hj, e⟩ := List.getElem_of_mem hm
  exact h j hj (by simp [hj, e])
theorem first_at (c : UInt8) : ∀ (l : List UInt8), c ∈ l → ∃ m, m < l.length ∧ (∀ j, j < m → l.getD j 0 ≠ c) ∧ l.getD m 0 = c ∧ Lib.indexByte l c = m
  | [], h => by cases h
  | b :: r, h => by
    by_cases e : b = c
    · subst e
      exact ⟨0, by simp, fun j hj => by omega, by simp, by simp [Lib.indexByte]⟩
    · obtain ⟨m, h1, h2, h3, h4⟩ := first_at c r (by rcases List.mem_cons.1 h with h' | h'; exact absurd h'.symm e; exact h')
      refine ⟨m + 1, by simpa using h1, fun j hj => ?_, by simpa using h3, ?_⟩
      · cases j with
        | zero => simpa using e
        | succ j => simpa using h2 j (by omega)
      · unfold Lib.indexByte
        have e1 : (b == c) = false := by simpa using e
        have e2 : ((m : Int) == -1) = false := by rw [beq_eq_false_iff_ne]; omega
        rw [e1, h4, e2]
        simp
theorem none_at (c : UInt8) : ∀ (l : List UInt8), c ∉ l → Lib.indexByte l c = -1
  | [], _ => rfl
  | b :: r, h => by
    unfold Lib.indexByte
    have e1 : (b == c) = false := by simpa using fun e : b = c => h (by rw [e]; exact List.mem_cons_self)
    rw [e1, none_at c r (fun e => h (List.mem_cons_of_mem _ e))]
    simp
theorem cut_hit (l : List UInt8) (h : (10 : UInt8) ∈ l) : ∃ p r, Lib.cut l [10] = (p, r, true) ∧ parts 10 l = p :: parts 10 r ∧ r.length < l.length ∧ p.length ≤ l.length := by
  obtain ⟨m, h1, h2, h3, h4⟩ := first_at 10 l h
  refine ⟨l.take m, l.drop (m + 1), ?_, parts_at 10 l m h1 h2 h3, by rw [List.length_drop]; omega, by rw [List.length_take]; omega⟩
  unfold Lib.cut
  rw [Lib.index_one, h4, if_pos (by omega)]
  simp
theorem cut_miss (l : List UInt8) (h : (10 : UInt8) ∉ l) : Lib.cut l [10] = (l, [], false) := by
  unfold Lib.cut
  rw [Lib.index_one, none_at 10 l h, if_neg (by omega)]
/-- the lines, or which one is none first -/
def specP : List (List UInt8) → List (List UInt8) → List (List UInt8) × Nat × Nat
  | done, [] => (done, 0, 0)
  | done, p :: q => if q = [] then (if p = [] then (done, 0, 0) else ([], done.length + 1, 20)) else if isLineB p then specP (done ++ [p]) q else ([], done.length + 1, 20)
def linesOf (l : List UInt8) : List (List UInt8) × Nat × Nat := specP [] (parts 10 l)
theorem specP_last (done : List (List UInt8)) : specP done (parts 10 []) = (done, 0, 0) := by
  show specP done [[]] = _
  rw [specP]; simp
theorem specP_short (done : List (List UInt8)) (r : List UInt8) (h : (10 : UInt8) ∉ r) (h0 : r ≠ []) : specP done (parts 10 r) = ([], done.length + 1, 20) := by
  rw [parts_none 10 r h, specP]; simp [h0]
theorem specP_on (done : List (List UInt8)) (r p r' : List UInt8) (h : parts 10 r = p :: parts 10 r') (hp : isLineB p = true) : specP done (parts 10 r) = specP (done ++ [p]) (parts 10 r') := by
  obtain ⟨p2, q2, e⟩ := parts_some 10 r'
  rw [h, specP, if_neg (by rw [e]; simp), if_pos hp]
theorem specP_bad (done : List (List UInt8)) (r p r' : List UInt8) (h : parts 10 r = p :: parts 10 r') (hp : isLineB p = false) : specP done (parts 10 r) = ([], done.length + 1, 20) := by
  obtain ⟨p2, q2, e⟩ := parts_some 10 r'
  rw [h, specP, if_neg (by rw [e]; simp), if_neg (by rw [hp]; simp)]
end Go.Proofs.YtchelhmefghcdaaDoor
