/- Graphs that are right: depths; words of six truths as lists. No program in sight. -/
import Derived.Test.YtlalkefbcddbfaaDoorGrDfs
namespace Go.Proofs.YtlalkefbcddbfaaDoor
set_option linter.unusedVariables false
theorem bits_full {n : Nat} (hn : n ≤ 6) : bitsOf (2 ^ n - 1) = List.range n := by
  have : ∀ m : Fin 7, bitsOf (2 ^ m.val - 1) = List.range m.val := by decide +kernel
  exact this ⟨n, by omega⟩
theorem word_full {n : Nat} (hn : n ≤ 6) : wordOf (fun c => decide (c < n)) = 2 ^ n - 1 := by
  have : ∀ m : Fin 7, wordOf (fun c => decide (c < m.val)) = 2 ^ m.val - 1 := by decide +kernel
  exact this ⟨n, by omega⟩
theorem bits_word (p : Nat → Bool) : bitsOf (wordOf p) = (List.range 6).filter p := by
  have key : ∀ b0 b1 b2 b3 b4 b5 : Bool, bitsOf (b0.toNat + 2 * (b1.toNat + 2 * (b2.toNat + 2 * (b3.toNat + 2 * (b4.toNat + 2 * b5.toNat))))) =
      (if b0 then [0] else []) ++ (if b1 then [1] else []) ++ (if b2 then [2] else []) ++ (if b3 then [3] else []) ++ (if b4 then [4] else []) ++ (if b5 then [5] else []) := by decide +kernel
  unfold wordOf
  rw [key, show List.range 6 = [0, 1, 2, 3, 4, 5] from rfl]
  cases h0 : p 0 <;> cases h1 : p 1 <;> cases h2 : p 2 <;> cases h3 : p 3 <;> cases h4 : p 4 <;> cases h5 : p 5 <;> simp [h0, h1, h2, h3, h4, h5]
theorem filter_lt {n : Nat} (hn : n ≤ 6) (p : Nat → Bool) : (List.range 6).filter (fun c => decide (c < n) && p c) = (List.range n).filter p := by
  have h : ∀ m : Fin 7, (List.range 6).filter (fun c => decide (c < m.val)) = List.range m.val := by decide +kernel
  have h1 := h ⟨n, by omega⟩
  rw [← h1, List.filter_filter]
  congr 1
  funext c
  rw [Bool.and_comm]
/-- some of the first n numbers -/
def sel (n : Nat) (p : Nat → Bool) : List Int := ((List.range n).filter p).map fun (i : Nat) => (i : Int)
theorem mem_sel {n : Nat} {p : Nat → Bool} {z : Int} : z ∈ sel n p ↔ ∃ i : Nat, i < n ∧ p i = true ∧ (i : Int) = z := by
  unfold sel
  simp only [List.mem_map, List.mem_filter, List.mem_range]
  constructor
  · rintro ⟨i, ⟨h1, h2⟩, h3⟩; exact ⟨i, h1, h2, h3⟩
  · rintro ⟨i, h1, h2, h3⟩; exact ⟨i, ⟨h1, h2⟩, h3⟩
theorem sel_len (n : Nat) (p : Nat → Bool) : (sel n p).length ≤ n := by
  unfold sel
  rw [List.length_map]
  exact Nat.le_trans (List.length_filter_le _ _) (by simp)
theorem sel_congr {n : Nat} {p q : Nat → Bool} (h : ∀ i, i < n → p i = q i) : sel n p = sel n q := by
  unfold sel
  rw [List.filter_congr fun i hi => h i (by simpa using hi)]
/-- the list of a word of six truths -/
theorem list_word {n : Nat} (hn : n ≤ 6) (p : Nat → Bool) : (bitsOf (wordOf fun c => decide (c < n) && p c)).map (fun (i : Nat) => (i : Int)) = sel n p := by
  rw [bits_word, filter_lt hn]
  rfl
theorem wordOf_congr {p q : Nat → Bool} (h : ∀ i, i < 6 → p i = q i) : wordOf p = wordOf q :=
  eq_of_bits6 (word_lt _) (word_lt _) fun i hi => by rw [testBit_word p i hi, testBit_word q i hi, h i hi]
theorem word_zero {p : Nat → Bool} (h : ∀ i, i < 6 → p i = false) : wordOf p = 0 := by
  rw [wordOf_congr (q := fun _ => false) h]; rfl
theorem less_word (p : Nat → Bool) (a : Nat) (ha : a < 6) : lessN (wordOf p) (2 ^ a) = wordOf fun c => p c && !decide (c = a) := by
  have hp : 2 ^ a < 18446744073709551616 := Nat.pow_lt_pow_right (n := 64) (by decide) (by omega)
  have hw := word_lt p
  refine eq_of_bits (less_lt (by omega)) (by have := word_lt (fun c => p c && !decide (c = a)); omega) fun i hi => ?_
  rw [testBit_less hp hi, Nat.testBit_two_pow]
  by_cases h6 : i < 6
  · rw [testBit_word _ _ h6, testBit_word _ _ h6]
    by_cases e : a = i
    · subst e; simp
    · have : ¬ i = a := fun h => e h.symm
      simp [e, this]
  · rw [bit_high (word_lt _) (by omega), bit_high (word_lt _) (by omega)]; rfl
theorem or_word (p : Nat → Bool) (a : Nat) (ha : a < 6) : wordOf p ||| 2 ^ a = wordOf fun c => p c || decide (c = a) := by
  refine eq_of_bits6 (or_one_lt (word_lt _) ha) (word_lt _) fun i hi => ?_
  rw [bit_or_one, testBit_word _ _ hi, testBit_word _ _ hi]
  by_cases e : a = i
  · subst e; simp
  · have : ¬ i = a := fun h => e h.symm
    simp [e, this]
/-! depths -/
theorem countP_lt {α : Type} (p q : α → Bool) : ∀ (l : List α), (∀ x ∈ l, p x = true → q x = true) → (∃ y ∈ l, q y = true ∧ p y = false) → l.countP p < l.countP q
  | [], _, h => by obtain ⟨y, hy, _⟩ := h; cases hy
  | a :: l, h1, ⟨y, hy, hq, hp⟩ => by
    have hle : l.countP p ≤ l.countP q := List.countP_mono_left fun x hx => h1 x (List.mem_cons_of_mem _ hx)
    rw [List.countP_cons, List.countP_cons]
    rcases List.mem_cons.1 hy with e | e
    · subst e
      rw [hq, hp]
      simp
      omega
    · have ih := countP_lt p q l (fun x hx => h1 x (List.mem_cons_of_mem _ hx)) ⟨y, e, hq, hp⟩
      have ha := h1 a List.mem_cons_self
      cases hpa : p a with
      | true => rw [ha hpa]; simp; omega
      | false => cases q a <;> simp <;> omega
/-- how many are above -/
def ht (ups : List (List Int)) (c : Nat) : Nat := (List.range 6).countP fun x => tab ups (c * 6 + x)
theorem ht_lt {ups : List (List Int)} (h : Rt ups) {c a : Nat} (hr : R ups c a) : ht ups a < ht ups c := by
  have ha : a < 6 := by have := h.nms.lt hr; have := h.six; omega
  have hc : c < 6 := by have := hr.src; have := h.six; omega
  refine countP_lt _ _ _ ?_ ⟨a, by simpa using ha, (tab_iff h.nms h.six hc ha).2 (.single hr), ?_⟩
  · intro x hx hp
    have hx6 : x < 6 := by simpa using hx
    exact (tab_iff h.nms h.six hc hx6).2 (Ab.trans (.single hr) ((tab_iff h.nms h.six ha hx6).1 hp))
  · cases e : tab ups (a * 6 + a) with
    | false => rfl
    | true => exact absurd ((tab_iff h.nms h.six ha ha).1 e) (h.acy a)
theorem ht_six {ups : List (List Int)} (h : Rt ups) {c : Nat} (hc : c < 6) : ht ups c < 6 := by
  have := countP_lt (fun x => tab ups (c * 6 + x)) (fun _ => true) (List.range 6) (fun _ _ _ => rfl) ⟨c, by simpa using hc, rfl, by
    cases e : tab ups (c * 6 + c) with
    | false => rfl
    | true => exact absurd ((tab_iff h.nms h.six hc hc).1 e) (h.acy c)⟩
  simpa [ht] using this
/-- one more than the greatest of some -/
def mx (f : Nat → Nat) (l : List Int) : Nat := l.foldl (fun d a => max d (f a.toNat + 1)) 0
theorem mx_snoc (f : Nat → Nat) (l : List Int) (a : Int) : mx f (l ++ [a]) = max (mx f l) (f a.toNat + 1) := by
  unfold mx
  rw [List.foldl_append]
  rfl
theorem mx_take (f : Nat → Nat) (l : List Int) (k : Nat) (hk : k < l.length) : mx f (l.take (k + 1)) = max (mx f (l.take k)) (f (l.getD k 0).toNat + 1) := by
  rw [List.take_succ_eq_append_getElem hk, mx_snoc, show l.getD k 0 = l[k] by simp [hk]]
theorem mx_congr {f g : Nat → Nat} {l : List Int} (h : ∀ a ∈ l, f a.toNat = g a.toNat) : mx f l = mx g l := by
  unfold mx
  generalize (0 : Nat) = d
  induction l generalizing d with
  | nil => rfl
  | cons a l ih =>
    rw [List.foldl_cons, List.foldl_cons, h a List.mem_cons_self]
    exact ih (fun b hb => h b (List.mem_cons_of_mem _ hb)) _
theorem mx_le {f : Nat → Nat} {l : List Int} {m : Nat} (h : ∀ a ∈ l, f a.toNat + 1 ≤ m) : mx f l ≤ m := by
  have key : ∀ (l : List Int) (d : Nat), d ≤ m → (∀ a ∈ l, f a.toNat + 1 ≤ m) → l.foldl (fun d a => max d (f a.toNat + 1)) d ≤ m := by
    intro l
    induction l with
    | nil => intro d hd _; exact hd
    | cons a l ih =>
      intro d hd h
      have := h a List.mem_cons_self
      exact ih _ (by show max d (f a.toNat + 1) ≤ m; omega) fun b hb => h b (List.mem_cons_of_mem _ hb)
  exact key l 0 (Nat.zero_le _) h
theorem mx_ge {f : Nat → Nat} {l : List Int} {a : Int} (h : a ∈ l) : f a.toNat + 1 ≤ mx f l := by
  have mono : ∀ (l : List Int) (d : Nat), d ≤ l.foldl (fun d a => max d (f a.toNat + 1)) d := by
    intro l
    induction l with
    | nil => intro d; exact Nat.le_refl _
    | cons b l ih => intro d; exact Nat.le_trans (by omega) (ih (max d (f b.toNat + 1)))
  have key : ∀ (l : List Int) (d : Nat), a ∈ l → f a.toNat + 1 ≤ l.foldl (fun d a => max d (f a.toNat + 1)) d := by
    intro l
    induction l with
    | nil => intro d h; cases h
    | cons b l ih =>
      intro d h
      rcases List.mem_cons.1 h with e | e
      · subst e
        exact Nat.le_trans (by omega) (mono l (max d (f a.toNat + 1)))
      · exact ih _ e
  exact key l 0 h
theorem mx_hit {f : Nat → Nat} {l : List Int} (h : 0 < mx f l) : ∃ a ∈ l, f a.toNat + 1 = mx f l := by
  have key : ∀ (l : List Int) (d : Nat), d = l.foldl (fun d a => max d (f a.toNat + 1)) d ∨ ∃ a ∈ l, f a.toNat + 1 = l.foldl (fun d a => max d (f a.toNat + 1)) d := by
    intro l
    induction l with
    | nil => intro d; exact .inl rfl
    | cons b l ih =>
      intro d
      rw [List.foldl_cons]
      rcases ih (max d (f b.toNat + 1)) with e | ⟨a, ha, e⟩
      · by_cases hd : f b.toNat + 1 ≤ d
        · left; rw [← e]; omega
        · right; exact ⟨b, List.mem_cons_self, by rw [← e]; omega⟩
      · exact .inr ⟨a, List.mem_cons_of_mem _ ha, e⟩
  rcases key l 0 with e | e
  · unfold mx at h; omega
  · exact e
def depF (ups : List (List Int)) : Nat → Nat → Nat
  | 0, _ => 0
  | f + 1, c => mx (depF ups f) (ups.getD c [])
theorem depF_stable {ups : List (List Int)} (h : Rt ups) : ∀ (f f' c : Nat), ht ups c < f → ht ups c < f' → depF ups f c = depF ups f' c
  | 0, _, _, h1, _ => by omega
  | _ + 1, 0, _, _, h2 => by omega
  | f + 1, f' + 1, c, h1, h2 => by
    rw [depF, depF]
    refine mx_congr fun a ha => ?_
    have hr : R ups c a.toNat := by
      unfold R
      rw [Int.toNat_of_nonneg ((h.nms.at c).1 a ha).1]
      exact ha
    have := ht_lt h hr
    exact depF_stable h f f' _ (by omega) (by omega)
/-- how deep c stands -/
def dep (ups : List (List Int)) (c : Nat) : Nat := depF ups 6 c
theorem dep_eq {ups : List (List Int)} (h : Rt ups) {c : Nat} (hc : c < 6) : dep ups c = mx (dep ups) (ups.getD c []) := by
  have h6 := ht_six h hc
  show depF ups 6 c = mx (depF ups 6) (ups.getD c [])
  rw [depF_stable h 6 7 c h6 (by omega)]
  rfl
theorem mem_R {ups : List (List Int)} (h : Rt ups) {c : Nat} {a : Int} (ha : a ∈ ups.getD c []) : R ups c a.toNat := by
  unfold R
  rw [Int.toNat_of_nonneg ((h.nms.at c).1 a ha).1]
  exact ha
theorem dep_le {ups : List (List Int)} (h : Rt ups) : ∀ (m c : Nat), ht ups c < m → c < 6 → dep ups c ≤ ht ups c
  | 0, _, h1, _ => by omega
  | m + 1, c, h1, hc => by
    rw [dep_eq h hc]
    refine mx_le fun a ha => ?_
    have hr := mem_R h ha
    have hlt := ht_lt h hr
    have ha6 : a.toNat < 6 := by have := h.nms.lt hr; have := h.six; omega
    have := dep_le h m a.toNat (by omega) ha6
    omega
theorem dep_five {ups : List (List Int)} (h : Rt ups) {c : Nat} (hc : c < 6) : dep ups c ≤ 5 := by
  have h1 := dep_le h 6 c (ht_six h hc) hc
  have h2 := ht_six h hc
  omega
theorem dep_up {ups : List (List Int)} (h : Rt ups) {c a : Nat} (hr : R ups c a) : dep ups a < dep ups c := by
  have hc : c < 6 := by have := hr.src; have := h.six; omega
  rw [dep_eq h hc]
  have := mx_ge (f := dep ups) (show (a : Int) ∈ ups.getD c [] from hr)
  rw [Int.toNat_natCast] at this
  exact this
theorem dep_above {ups : List (List Int)} (h : Rt ups) {c a : Nat} (hr : Ab ups c a) : dep ups a < dep ups c := by
  induction hr with
  | single h' => exact dep_up h h'
  | tail _ h' ih => exact Nat.lt_trans (dep_up h h') ih
/-- is somebody behind c? -/
def aheadB (ups : List (List Int)) (c : Nat) : Bool := (List.range ups.length).any fun d => (ups.getD d []).contains (c : Int)
theorem ahead_iff {ups : List (List Int)} {c : Nat} : aheadB ups c = true ↔ ∃ d, R ups d c := by
  unfold aheadB
  rw [List.any_eq_true]
  constructor
  · rintro ⟨d, _, h⟩
    exact ⟨d, by rwa [List.contains_iff_mem] at h⟩
  · rintro ⟨d, h⟩
    exact ⟨d, by simpa using h.src, by rw [List.contains_iff_mem]; exact h⟩
/-- those that c is above -/
def blw (ups : List (List Int)) (c : Nat) : Nat := wordOf fun d => decide (d < ups.length) && tab ups (d * 6 + c)
theorem ends_eq {ups : List (List Int)} (h : Rt ups) {c : Nat} (hc : c < 6) : (sel ups.length fun d => tab ups (d * 6 + c)).length = 0 ↔ aheadB ups c = false := by
  have hs := h.six
  constructor
  · intro hl
    cases e : aheadB ups c with
    | false => rfl
    | true =>
      obtain ⟨d, hr⟩ := ahead_iff.1 e
      have hm : (d : Int) ∈ sel ups.length fun d => tab ups (d * 6 + c) := mem_sel.2 ⟨d, hr.src, (tab_iff h.nms h.six (by have := hr.src; omega) hc).2 (.single hr), rfl⟩
      rw [List.length_eq_zero_iff.1 hl] at hm
      cases hm
  · intro e
    rw [List.length_eq_zero_iff, List.eq_nil_iff_forall_not_mem]
    intro z hz
    obtain ⟨d, hd, ht, _⟩ := mem_sel.1 hz
    obtain ⟨b, hb⟩ := Ab.last ((tab_iff h.nms h.six (by omega) hc).1 ht)
    rw [ahead_iff.2 ⟨b, hb⟩] at e
    cases e
end Go.Proofs.YtlalkefbcddbfaaDoor
