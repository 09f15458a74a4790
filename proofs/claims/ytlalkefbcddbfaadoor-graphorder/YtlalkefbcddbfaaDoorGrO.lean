/- graph's Order: its comparison, the library's stable sort of a few numbers. -/
import Derived.Test.YtlalkefbcddbfaaDoorGrF4
namespace Go.Proofs.YtlalkefbcddbfaaDoor
open Go.RowKit
set_option linter.unusedVariables false
set_option maxHeartbeats 1000000
attribute [local go_sem] later_cell later_frozen later_const
def cmpI (x y : Int) : Int := if x < y then -1 else if y < x then 1 else 0
theorem isNaNI (x : Int) (w : World) : Calls Tryd.prog 52 #[.int .i64 x] w fun e w' => e = .returned (.bool false) ∧ w = w' := by
  have d : (x != x) = false := by simp
  go_enter Tryd.func52, Tryd.ntmps52
  go_wp2
  go_ret
  exact ⟨rfl, rfl⟩
theorem compareI (x y : Int) (w : World) : Calls Tryd.prog 38 #[.int .i64 x, .int .i64 y] w fun e w' => e = .returned (.int .i64 (cmpI x y)) ∧ w = w' := by
  unfold cmpI
  by_cases h1 : x < y
  · rw [if_pos h1]
    go_enter Tryd.func38, Tryd.ntmps38
    go_wp2_with fail
    refine (isNaNI _ _).mono ?_
    rintro e w' ⟨rfl, rfl⟩
    go_wp2_with fail
    refine (isNaNI _ _).mono ?_
    rintro e w' ⟨rfl, rfl⟩
    go_wp2
    go_ret
    exact ⟨rfl, rfl⟩
  · rw [if_neg h1]
    by_cases h2 : y < x
    · rw [if_pos h2]
      go_enter Tryd.func38, Tryd.ntmps38
      go_wp2_with fail
      refine (isNaNI _ _).mono ?_
      rintro e w' ⟨rfl, rfl⟩
      go_wp2_with fail
      refine (isNaNI _ _).mono ?_
      rintro e w' ⟨rfl, rfl⟩
      go_wp2
      go_ret
      exact ⟨rfl, rfl⟩
    · rw [if_neg h2]
      go_enter Tryd.func38, Tryd.ntmps38
      go_wp2_with fail
      refine (isNaNI _ _).mono ?_
      rintro e w' ⟨rfl, rfl⟩
      go_wp2_with fail
      refine (isNaNI _ _).mono ?_
      rintro e w' ⟨rfl, rfl⟩
      go_wp2
      go_ret
      exact ⟨rfl, rfl⟩
theorem ordCmp (ups : List (List Int)) (rt : Rt ups) (v : Value) (w : World) (ub : Nat) (hub : w.cell? ⟨ub, 0, none⟩ = some v) (hL : ListsV w v ups) (hll : ∀ l ∈ ups, l.length ≤ 1000000) (x y : Nat) (hx : x < ups.length) (hy : y < ups.length) :
    Calls Tryd.prog 37 #[.int .i64 x, .int .i64 y, .pointer (some ⟨ub, 0, none⟩)] w fun e w' => e = .returned (.int .i64 (cmpI (dep ups x : Nat) (dep ups y : Nat))) ∧ Ext w w' := by
  have h6 := rt.six
  have CX := Lib.hid (fun w' (hw : Ext w w') => gDeep ups rt v w' (hL.ext hw) hll 6 x (ht_six rt (by omega)) hx)
  have CY := Lib.hid (fun w' (hw : Ext w w') => gDeep ups rt v w' (hL.ext hw) hll 6 y (ht_six rt (by omega)) hy)
  obtain ⟨a, cap, e, -⟩ := id hL
  subst e
  clear hL hll rt h6 hx hy
  generalize dep ups x = dx at *
  generalize dep ups y = dy at *
  generalize ups.length = n at *
  go_enter Tryd.func37, Tryd.ntmps37
  go_upto_region 1 with (fail)
  refine wp_region_later (by kernel_rfl) (by kernel_rfl) ?_
  have l1 := fun (g : Later w) => g.ok.cell hub
  repeat (go_big_quiet_step ((fail)))
  go_big_quiet_step ((go_at_call 39; exact laterS (CX.out _ (Later.ok _))))
  repeat (go_big_quiet_step ((fail)))
  go_big_quiet_step ((go_at_call 39; exact laterS (CY.out _ (Later.ok _))))
  repeat (go_big_quiet_step ((fail)))
  go_big_quiet_step ((go_at_call 38; exact laterS (compareI _ _ _)))
  repeat (go_big_quiet_step ((fail)))
  refine wpQuiet_nil ?_
  intro w6 hl6
  have X6 := laters_ext hl6
  clear hl6 l1
  go_wp2
  go_ret
  exact ⟨rfl, X6⟩
/-! the sort, on lists -/
theorem swap_mid {α : Type} (A : List α) (y x : α) (B : List α) : ((A ++ y :: x :: B).set (A.length + 1) y).set A.length x = A ++ x :: y :: B := by
  induction A with
  | nil => rfl
  | cons a A ih => simp only [List.cons_append, List.length_cons, List.set_cons_succ, ih]
/-- by depth, and of one depth by number -/
def lex (d : Nat → Nat) (x y : Nat) : Prop := d x < d y ∨ (d x = d y ∧ x < y)
theorem lex_trans {d : Nat → Nat} {x y z : Nat} (h : lex d x y) (k : lex d y z) : lex d x z := by
  unfold lex at *; omega
/-- the first i stand in order, the others as they stood -/
structure SO (d : Nat → Nat) (n i : Nat) (L P : List Nat) : Prop where
  eq : L = P ++ List.range' i (n - i)
  len : P.length = i
  srt : P.Pairwise (lex d)
  mem : ∀ y, y ∈ P ↔ y < i
/-- i goes down to its place: it has come to j -/
structure SI (d : Nat → Nat) (n i j : Nat) (L P1 P2 : List Nat) : Prop where
  eq : L = P1 ++ i :: (P2 ++ List.range' (i + 1) (n - i - 1))
  len : P1.length = j
  len2 : (P1 ++ P2).length = i
  srt : (P1 ++ P2).Pairwise (lex d)
  mem : ∀ y, y ∈ P1 ++ P2 ↔ y < i
  big : ∀ y ∈ P2, d i < d y
theorem SO.start (d : Nat → Nat) (n : Nat) (hn : 1 ≤ n) : SO d n 1 (List.range n) [0] := by
  refine ⟨?_, rfl, by simp, fun y => by simp⟩
  rw [List.range_eq_range']
  obtain ⟨m, rfl⟩ : ∃ m, n = m + 1 := ⟨n - 1, by omega⟩
  rw [List.range'_succ]
  simp
theorem SO.enter {d : Nat → Nat} {n i : Nat} {L P : List Nat} (h : SO d n i L P) (hi : i < n) : SI d n i i L P [] := by
  refine ⟨?_, h.len, by simpa using h.len, by simpa using h.srt, by simpa using h.mem, fun y hy => by cases hy⟩
  rw [h.eq]
  obtain ⟨m, hm⟩ : ∃ m, n - i = m + 1 := ⟨n - i - 1, by omega⟩
  rw [hm, List.range'_succ]
  simp
theorem SI.at {d : Nat → Nat} {n i j : Nat} {L P1 P2 : List Nat} (h : SI d n i j L P1 P2) : L[j]? = some i := by
  rw [h.eq, ← h.len]
  simp
theorem SI.split {d : Nat → Nat} {n i j : Nat} {L P1 P2 : List Nat} (h : SI d n i (j + 1) L P1 P2) : ∃ A y, P1 = A ++ [y] ∧ A.length = j ∧ L[j]? = some y ∧ y < i := by
  have hne : P1 ≠ [] := by intro e; have := h.len; rw [e] at this; simp at this
  obtain ⟨A, y, e⟩ : ∃ A y, P1 = A ++ [y] := ⟨P1.dropLast, P1.getLast hne, (List.dropLast_concat_getLast hne).symm⟩
  subst e
  have hl : A.length = j := by have := h.len; simp at this; omega
  refine ⟨A, y, rfl, hl, ?_, (h.mem y).1 (by simp)⟩
  rw [h.eq, List.append_assoc, List.getElem?_append_right (by omega), hl]
  simp
theorem SI.down {d : Nat → Nat} {n i j : Nat} {L P1 P2 A : List Nat} {y : Nat} (h : SI d n i (j + 1) L P1 P2) (hA : P1 = A ++ [y]) (hl : A.length = j) (hd : d i < d y) : SI d n i j ((L.set (j + 1) y).set j i) A (y :: P2) := by
  have e2 : A ++ y :: P2 = P1 ++ P2 := by rw [hA]; simp
  refine ⟨?_, hl, by rw [e2]; exact h.len2, by rw [e2]; exact h.srt, by rw [e2]; exact h.mem, ?_⟩
  · rw [h.eq, hA, List.append_assoc, ← hl]
    simp
  · intro z hz
    rcases List.mem_cons.1 hz with rfl | hz
    · exact hd
    · exact h.big z hz
theorem SI.done {d : Nat → Nat} {n i j : Nat} {L P1 P2 : List Nat} (h : SI d n i j L P1 P2) (hlast : ∀ A y, P1 = A ++ [y] → d y ≤ d i) : SO d n (i + 1) L (P1 ++ i :: P2) := by
  have hs := List.pairwise_append.1 h.srt
  refine ⟨?_, ?_, ?_, ?_⟩
  · rw [h.eq, show n - (i + 1) = n - i - 1 by omega]; simp
  · have := h.len2; simp at this ⊢; omega
  · rw [List.pairwise_append]
    refine ⟨hs.1, ?_, ?_⟩
    · rw [List.pairwise_cons]
      exact ⟨fun y hy => .inl (h.big y hy), hs.2.1⟩
    · intro x hx y hy
      have hxi : lex d x i := by
        have hx_lt : x < i := (h.mem x).1 (List.mem_append_left _ hx)
        have hne : P1 ≠ [] := List.ne_nil_of_mem hx
        have e := (List.dropLast_concat_getLast hne).symm
        have hle := hlast _ _ e
        have hsx : d x ≤ d (P1.getLast hne) := by
          rw [e] at hx
          rcases List.mem_append.1 hx with hx' | hx'
          · have hp := hs.1
            rw [e] at hp
            have := (List.pairwise_append.1 hp).2.2 x hx' (P1.getLast hne) (by simp)
            unfold lex at this
            omega
          · simp at hx'; rw [hx']; exact Nat.le_refl _
        unfold lex
        omega
      rcases List.mem_cons.1 hy with rfl | hy
      · exact hxi
      · exact hs.2.2 x hx y hy
  · intro y
    have := h.mem y
    simp only [List.mem_append, List.mem_cons] at this ⊢
    constructor
    · rintro (h1 | h1 | h1)
      · have := this.1 (.inl h1); omega
      · omega
      · have := this.1 (.inr h1); omega
    · intro hy
      by_cases e : y = i
      · exact .inr (.inl e)
      · rcases this.2 (by omega) with h1 | h1
        · exact .inl h1
        · exact .inr (.inr h1)
theorem lex_unique {d : Nat → Nat} : ∀ {P Q : List Nat}, P.Pairwise (lex d) → Q.Pairwise (lex d) → (∀ y, y ∈ P ↔ y ∈ Q) → P = Q
  | [], Q, _, _, h => by
    cases Q with
    | nil => rfl
    | cons b Q => have := (h b).2 List.mem_cons_self; cases this
  | a :: P, [], _, _, h => by have := (h a).1 List.mem_cons_self; cases this
  | a :: P, b :: Q, hp, hq, h => by
    obtain ⟨p1, p2⟩ := List.pairwise_cons.1 hp
    obtain ⟨q1, q2⟩ := List.pairwise_cons.1 hq
    have irr : ∀ x, ¬ lex d x x := fun x hx => by unfold lex at hx; omega
    have hab : a = b := by
      have h1 := (h a).1 List.mem_cons_self
      have h2 := (h b).2 List.mem_cons_self
      rcases List.mem_cons.1 h1 with e | h1
      · exact e
      · rcases List.mem_cons.1 h2 with e | h2
        · exact e.symm
        · exact absurd (lex_trans (p1 b h2) (q1 a h1)) (irr a)
    subst hab
    congr 1
    refine lex_unique p2 q2 fun y => ?_
    constructor
    · intro hy
      rcases List.mem_cons.1 ((h y).1 (List.mem_cons_of_mem _ hy)) with e | e
      · subst e; exact absurd (p1 y hy) (irr y)
      · exact e
    · intro hy
      rcases List.mem_cons.1 ((h y).2 (List.mem_cons_of_mem _ hy)) with e | e
      · subst e; exact absurd (q1 y hy) (irr y)
      · exact e
/-- all consumers by depth, of one depth by number -/
def ordN (d : Nat → Nat) (n : Nat) : List Nat := (List.range 6).flatMap fun k => (List.range n).filter fun i => decide (d i = k)
theorem ordN_mem {d : Nat → Nat} {n : Nat} (h5 : ∀ i, i < n → d i ≤ 5) (y : Nat) : y ∈ ordN d n ↔ y < n := by
  unfold ordN
  simp only [List.mem_flatMap, List.mem_range, List.mem_filter, decide_eq_true_eq]
  constructor
  · rintro ⟨k, _, h, _⟩; exact h
  · intro h; exact ⟨d y, by have := h5 y h; omega, h, rfl⟩
theorem ordN_sorted (d : Nat → Nat) (n : Nat) : (ordN d n).Pairwise (lex d) := by
  unfold ordN
  rw [List.pairwise_flatMap]
  refine ⟨fun k _ => ?_, ?_⟩
  · refine List.Pairwise.imp_of_mem ?_ (List.Pairwise.filter _ List.pairwise_lt_range)
    intro x y hx hy hlt
    simp only [List.mem_filter, decide_eq_true_eq] at hx hy
    right
    omega
  · refine List.Pairwise.imp ?_ List.pairwise_lt_range
    intro k1 k2 hk x hx y hy
    simp only [List.mem_filter, decide_eq_true_eq] at hx hy
    left
    omega
theorem SO.final {d : Nat → Nat} {n : Nat} {L P : List Nat} (h : SO d n n L P) (h5 : ∀ i, i < n → d i ≤ 5) : L = ordN d n := by
  have e : L = P := by rw [h.eq]; simp
  rw [e]
  exact lex_unique h.srt (ordN_sorted d n) fun y => by rw [h.mem, ordN_mem h5]
end Go.Proofs.YtlalkefbcddbfaaDoor
