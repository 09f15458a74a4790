/- Graphs: who is above whom, by tables of 36 truths; depths. No program in sight. -/
namespace Go.Proofs.YtkmfamidahlgiaaGreatDoor
set_option linter.unusedVariables false
/-- a is ahead of c -/
def R (ups : List (List Int)) (c a : Nat) : Prop := (a : Int) ∈ ups.getD c []
/-- each list names some of those that there are, each once -/
abbrev Named (n : Nat) (l : List Int) : Prop := (∀ x ∈ l, 0 ≤ x ∧ x < (n : Int)) ∧ l.Nodup
abbrev Nms (ups : List (List Int)) : Prop := ∀ l ∈ ups, Named ups.length l
theorem Nms.at {ups : List (List Int)} (h : Nms ups) (c : Nat) : Named ups.length (ups.getD c []) := by
  by_cases hc : c < ups.length
  · exact h _ (by rw [List.getD_eq_getElem?_getD, List.getElem?_eq_getElem hc]; simp)
  · rw [List.getD_eq_getElem?_getD, List.getElem?_eq_none (by omega)]
    exact ⟨fun x hx => (by cases hx), List.nodup_nil⟩
theorem Nms.lt {ups : List (List Int)} (h : Nms ups) {c a : Nat} (hr : R ups c a) : a < ups.length := by
  have := ((h.at c).1 _ hr).2
  omega
theorem R.src {ups : List (List Int)} {c a : Nat} (hr : R ups c a) : c < ups.length := by
  by_cases hc : c < ups.length
  · exact hc
  · unfold R at hr
    rw [List.getD_eq_getElem?_getD, List.getElem?_eq_none (by omega)] at hr
    cases hr
/-- above -/
abbrev Ab (ups : List (List Int)) : Nat → Nat → Prop := Relation.TransGen (R ups)
theorem Ab.trans {ups : List (List Int)} {a b c : Nat} (h : Ab ups a b) (k : Ab ups b c) : Ab ups a c := by
  induction k with
  | single h' => exact .tail h h'
  | tail _ h' ih => exact .tail ih h'
theorem Ab.lt {ups : List (List Int)} (h : Nms ups) {a b : Nat} (hr : Ab ups a b) : b < ups.length := by
  cases hr with
  | single h' => exact h.lt h'
  | tail _ h' => exact h.lt h'
theorem Ab.head {ups : List (List Int)} {a b : Nat} (hr : Ab ups a b) : ∃ c, R ups a c ∧ (c = b ∨ Ab ups c b) := by
  induction hr with
  | single h' => exact ⟨_, h', .inl rfl⟩
  | tail _ h' ih =>
    obtain ⟨c, h1, h2⟩ := ih
    rcases h2 with rfl | h2
    · exact ⟨_, h1, .inr (.single h')⟩
    · exact ⟨_, h1, .inr (.tail h2 h')⟩
theorem Ab.last {ups : List (List Int)} {a b : Nat} (hr : Ab ups a b) : ∃ c, R ups c b := by
  cases hr with
  | single h' => exact ⟨_, h'⟩
  | tail _ h' => exact ⟨_, h'⟩
theorem Ab.src {ups : List (List Int)} {a b : Nat} (hr : Ab ups a b) : a < ups.length := by
  obtain ⟨c, h, _⟩ := hr.head
  exact h.src
/-- the table, its first lists entered: all of those before c, and i of c's -/
def preT (ups : List (List Int)) (c i : Nat) (x : Nat) : Bool :=
  (decide (x / 6 < c) && (ups.getD (x / 6) []).contains ((x % 6 : Nat) : Int)) || (decide (x / 6 = c) && ((ups.getD c []).take i).contains ((x % 6 : Nat) : Int))
theorem preT_zero (ups : List (List Int)) (x : Nat) : preT ups 0 0 x = false := by simp [preT]
theorem preT_step (ups : List (List Int)) (c i : Nat) (hi : i < (ups.getD c []).length) (a : Nat) (ha : (ups.getD c []).getD i 0 = (a : Int)) (ha6 : a < 6) (x : Nat) :
    preT ups c (i + 1) x = if x = c * 6 + a then true else preT ups c i x := by
  unfold preT
  generalize hl : ups.getD c [] = l at *
  rw [List.take_succ_eq_append_getElem hi]
  have e : l[i] = (a : Int) := by rw [← ha]; simp [hi]
  rw [e]
  obtain ⟨y, hy⟩ : ∃ y : Int, y = ((x % 6 : Nat) : Int) := ⟨_, rfl⟩
  rw [← hy]
  by_cases h1 : x / 6 = c
  · by_cases h2 : x % 6 = a
    · have e2 : y = (a : Int) := by omega
      rw [if_pos (by omega)]; simp [h1, e2]
    · have e2 : ¬ y = (a : Int) := by omega
      rw [if_neg (by omega)]; simp [h1, e2]
  · rw [if_neg (by omega)]
    simp [h1]
theorem preT_next (ups : List (List Int)) (c : Nat) (x : Nat) : preT ups c (ups.getD c []).length x = preT ups (c + 1) 0 x := by
  unfold preT
  rw [List.take_length]
  by_cases h1 : x / 6 = c
  · simp [h1]
  · have : (x / 6 < c) ↔ (x / 6 < c + 1) := by omega
    simp [h1, this]
/-- one turn of the lengthening, as far as place m -/
def stg (f : Nat → Bool) (k m : Nat) (x : Nat) : Bool := if x < m then f x || (f (x / 6 * 6 + k) && f (k * 6 + x % 6)) else f x
theorem stg_zero (f : Nat → Bool) (k x : Nat) : stg f k 0 x = f x := by simp [stg]
theorem stg_col (f : Nat → Bool) (k m a : Nat) (hk : k < 6) : stg f k m (a * 6 + k) = f (a * 6 + k) := by
  unfold stg
  rw [show (a * 6 + k) / 6 = a by omega, show (a * 6 + k) % 6 = k by omega]
  split
  · cases f (a * 6 + k) <;> simp
  · rfl
theorem stg_row (f : Nat → Bool) (k m b : Nat) (hb : b < 6) : stg f k m (k * 6 + b) = f (k * 6 + b) := by
  unfold stg
  rw [show (k * 6 + b) / 6 = k by omega, show (k * 6 + b) % 6 = b by omega]
  split
  · cases f (k * 6 + b) <;> simp
  · rfl
theorem stg_step (f : Nat → Bool) (k a b : Nat) (ha : a < 6) (hb : b < 6) (x : Nat) :
    stg f k (a * 6 + b + 1) x = if x = a * 6 + b then (stg f k (a * 6 + b) (a * 6 + b) || (f (a * 6 + k) && f (k * 6 + b))) else stg f k (a * 6 + b) x := by
  by_cases e : x = a * 6 + b
  · subst e
    rw [if_pos rfl]
    unfold stg
    rw [if_pos (by omega), if_neg (by omega), show (a * 6 + b) / 6 = a by omega, show (a * 6 + b) % 6 = b by omega]
  · rw [if_neg e]
    unfold stg
    by_cases h : x < a * 6 + b
    · rw [if_pos (by omega), if_pos h]
    · rw [if_neg (by omega), if_neg h]
/-- k turns -/
def war (f : Nat → Bool) : Nat → Nat → Bool
  | 0 => f
  | k + 1 => stg (war f k) k 36
/-- the table: is x % 6 above x / 6? -/
def tab (ups : List (List Int)) : Nat → Bool := war (preT ups ups.length 0) 6
theorem war_mono (f : Nat → Bool) : ∀ (k x : Nat), f x = true → war f k x = true
  | 0, x, h => h
  | k + 1, x, h => by
    have := war_mono f k x h
    simp only [war, stg]
    split
    · simp [this]
    · exact this
theorem war_sound {f : Nat → Bool} {T : Nat → Nat → Prop} (tr : ∀ a b c, T a b → T b c → T a c) (h0 : ∀ a b, a < 6 → b < 6 → f (a * 6 + b) = true → T a b) :
    ∀ k, k ≤ 6 → ∀ a b, a < 6 → b < 6 → war f k (a * 6 + b) = true → T a b
  | 0, _, a, b, ha, hb, h => h0 a b ha hb h
  | k + 1, hk, a, b, ha, hb, h => by
    have ih := war_sound tr h0 k (by omega)
    simp only [war, stg] at h
    rw [if_pos (by omega), show (a * 6 + b) / 6 = a by omega, show (a * 6 + b) % 6 = b by omega, Bool.or_eq_true, Bool.and_eq_true] at h
    rcases h with h | ⟨h1, h2⟩
    · exact ih a b ha hb h
    · exact tr _ _ _ (ih a k ha (by omega) h1) (ih k b (by omega) hb h2)
theorem war_closed (f : Nat → Bool) : ∀ k, k ≤ 6 → ∀ j, j < k → ∀ a b, a < 6 → b < 6 → war f k (a * 6 + j) = true → war f k (j * 6 + b) = true → war f k (a * 6 + b) = true
  | 0, _, j, hj, _, _, _, _, _, _ => by omega
  | k + 1, hk, j, hj, a, b, ha, hb, h1, h2 => by
    have ih := war_closed f k (by omega)
    simp only [war] at *
    have at_ : ∀ a b, a < 6 → b < 6 → stg (war f k) k 36 (a * 6 + b) = (war f k (a * 6 + b) || (war f k (a * 6 + k) && war f k (k * 6 + b))) := by
      intro a b ha hb
      unfold stg
      rw [if_pos (by omega), show (a * 6 + b) / 6 = a by omega, show (a * 6 + b) % 6 = b by omega]
    by_cases e : j = k
    · subst e
      rw [stg_col _ _ _ _ (by omega)] at h1
      rw [stg_row _ _ _ _ hb] at h2
      rw [at_ a b ha hb, h1, h2]; simp
    · have hjk : j < k := by omega
      rw [at_ a j ha (by omega)] at h1
      rw [at_ j b (by omega) hb] at h2
      rw [at_ a b ha hb]
      simp only [Bool.or_eq_true, Bool.and_eq_true] at *
      rcases h1 with h1 | ⟨h1, h1'⟩
      · rcases h2 with h2 | ⟨h2, h2'⟩
        · exact .inl (ih j hjk a b ha hb h1 h2)
        · exact .inr ⟨ih j hjk a k ha (by omega) h1 h2, h2'⟩
      · rcases h2 with h2 | ⟨h2, h2'⟩
        · exact .inr ⟨h1, ih j hjk k b (by omega) hb h1' h2⟩
        · exact .inr ⟨h1, h2'⟩
theorem preT_full {ups : List (List Int)} {a b : Nat} (hb : b < 6) (ha : a < ups.length) : preT ups ups.length 0 (a * 6 + b) = true ↔ R ups a b := by
  unfold preT R
  rw [show (a * 6 + b) / 6 = a by omega, show (a * 6 + b) % 6 = b by omega]
  simp [ha]
/-- the table tells who is above whom -/
theorem tab_iff {ups : List (List Int)} (h : Nms ups) (hn : ups.length ≤ 6) {a b : Nat} (ha : a < 6) (hb : b < 6) : tab ups (a * 6 + b) = true ↔ Ab ups a b := by
  constructor
  · intro ht
    refine war_sound (T := Ab ups) (fun a b c => Ab.trans) ?_ 6 (by omega) a b ha hb ht
    intro a b ha hb h0
    by_cases hal : a < ups.length
    · exact .single ((preT_full hb hal).1 h0)
    · unfold preT at h0
      rw [show (a * 6 + b) / 6 = a by omega] at h0
      simp at h0
      omega
  · intro hab
    have base : ∀ a b, R ups a b → tab ups (a * 6 + b) = true := fun a b hr => war_mono _ 6 _ ((preT_full (by have := h.lt hr; omega) hr.src).2 hr)
    induction hab with
    | single h' => exact base _ _ h'
    | tail h1 h' ih =>
      rename_i b c
      have hb6 : b < 6 := by have := Ab.lt h h1; omega
      exact war_closed _ 6 (by omega) b hb6 _ _ ha hb (ih hb6) (base _ _ h')
/-- six truths as a word -/
def wordOf (p : Nat → Bool) : Nat := (p 0).toNat + 2 * ((p 1).toNat + 2 * ((p 2).toNat + 2 * ((p 3).toNat + 2 * ((p 4).toNat + 2 * (p 5).toNat))))
end Go.Proofs.YtkmfamidahlgiaaGreatDoor
