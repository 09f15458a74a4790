/- Graphs: those above, as a climb finds them; words of six truths; lists that name each once. No program in sight. -/
import Derived.Test.YtkmfamidahlgiaaGreatDoorGMath
import Derived.Test.YtkmfamidahlgiaaGreatDoorGrMath
namespace Go.Proofs.YtkmfamidahlgiaaGreatDoor
set_option linter.unusedVariables false
theorem word_lt (p : Nat → Bool) : wordOf p < 64 := by
  unfold wordOf
  have h0 := Bool.toNat_le (p 0)
  have h1 := Bool.toNat_le (p 1)
  have h2 := Bool.toNat_le (p 2)
  have h3 := Bool.toNat_le (p 3)
  have h4 := Bool.toNat_le (p 4)
  have h5 := Bool.toNat_le (p 5)
  omega
theorem bit_high {g i : Nat} (h : g < 64) (hi : 6 ≤ i) : g.testBit i = false :=
  Nat.testBit_lt_two_pow (Nat.lt_of_lt_of_le h (Nat.pow_le_pow_right (n := 2) (by decide) hi))
theorem testBit_word (p : Nat → Bool) (i : Nat) (hi : i < 6) : (wordOf p).testBit i = p i := by
  unfold wordOf
  match i, hi with
  | 0, _ => cases p 0 <;> cases p 1 <;> cases p 2 <;> cases p 3 <;> cases p 4 <;> cases p 5 <;> rfl
  | 1, _ => cases p 0 <;> cases p 1 <;> cases p 2 <;> cases p 3 <;> cases p 4 <;> cases p 5 <;> rfl
  | 2, _ => cases p 0 <;> cases p 1 <;> cases p 2 <;> cases p 3 <;> cases p 4 <;> cases p 5 <;> rfl
  | 3, _ => cases p 0 <;> cases p 1 <;> cases p 2 <;> cases p 3 <;> cases p 4 <;> cases p 5 <;> rfl
  | 4, _ => cases p 0 <;> cases p 1 <;> cases p 2 <;> cases p 3 <;> cases p 4 <;> cases p 5 <;> rfl
  | 5, _ => cases p 0 <;> cases p 1 <;> cases p 2 <;> cases p 3 <;> cases p 4 <;> cases p 5 <;> rfl
theorem eq_of_bits6 {x y : Nat} (hx : x < 64) (hy : y < 64) (h : ∀ i, i < 6 → x.testBit i = y.testBit i) : x = y := by
  apply Nat.eq_of_testBit_eq
  intro i
  by_cases hi : i < 6
  · exact h i hi
  · rw [bit_high hx (by omega), bit_high hy (by omega)]
/-- those above c, as a word -/
def abw (ups : List (List Int)) (c : Nat) : Nat := wordOf fun x => tab ups (c * 6 + x)
theorem abw_lt (ups : List (List Int)) (c : Nat) : abw ups c < 64 := word_lt _
theorem abw_bit (ups : List (List Int)) (c i : Nat) (hi : i < 6) : (abw ups c).testBit i = tab ups (c * 6 + i) := testBit_word _ _ hi
/-- what a climb from c over the lists' front l makes of g -/
structure Dfs (ups : List (List Int)) (c : Nat) (l : List Int) (g g' : Nat) : Prop where
  lt : g' < 64
  sub : ∀ i, g.testBit i = true → g'.testBit i = true
  ahead : ∀ a : Nat, (a : Int) ∈ l → g'.testBit a = true
  closed : ∀ x, g'.testBit x = true → g.testBit x = false → ∀ a, R ups x a → g'.testBit a = true
  sound : ∀ x, g'.testBit x = true → g.testBit x = false → Ab ups c x
theorem Dfs.refl {ups : List (List Int)} {c g : Nat} (h : g < 64) : Dfs ups c [] g g :=
  ⟨h, fun _ h => h, fun _ h => (by cases h), fun x h1 h2 => (by rw [h1] at h2; cases h2), fun x h1 h2 => (by rw [h1] at h2; cases h2)⟩
theorem Dfs.skip {ups : List (List Int)} {c g g1 a : Nat} {l : List Int} (h : Dfs ups c l g g1) (ha : g1.testBit a = true) : Dfs ups c (l ++ [(a : Int)]) g g1 :=
  ⟨h.lt, h.sub, fun b hb => by
    rcases List.mem_append.1 hb with hb | hb
    · exact h.ahead b hb
    · have : b = a := by simp at hb; omega
      rw [this]; exact ha, h.closed, h.sound⟩
theorem bit_or_one (g a i : Nat) : (g ||| 2 ^ a).testBit i = (g.testBit i || decide (a = i)) := by rw [Nat.testBit_or, Nat.testBit_two_pow]
theorem Dfs.step {ups : List (List Int)} {c g g1 g2 a : Nat} {l : List Int} (h : Dfs ups c l g g1) (hr : R ups c a) (k : Dfs ups a (ups.getD a []) (g1 ||| 2 ^ a) g2) : Dfs ups c (l ++ [(a : Int)]) g g2 := by
  have up : ∀ i, g1.testBit i = true → g2.testBit i = true := fun i hi => k.sub i (by rw [bit_or_one, hi]; rfl)
  have ua : g2.testBit a = true := k.sub a (by rw [bit_or_one]; simp)
  refine ⟨k.lt, fun i hi => up i (h.sub i hi), ?_, ?_, ?_⟩
  · intro b hb
    rcases List.mem_append.1 hb with hb | hb
    · exact up b (h.ahead b hb)
    · have : b = a := by simp at hb; omega
      rw [this]; exact ua
  · intro x h2 h0 b hb
    cases e : g1.testBit x with
    | true => exact up b (h.closed x e h0 b hb)
    | false =>
      by_cases ex : a = x
      · subst ex; exact k.ahead b hb
      · exact k.closed x h2 (by rw [bit_or_one, e]; simp [ex]) b hb
  · intro x h2 h0
    cases e : g1.testBit x with
    | true => exact h.sound x e h0
    | false =>
      by_cases ex : a = x
      · subst ex; exact .single hr
      · exact Ab.trans (.single hr) (k.sound x h2 (by rw [bit_or_one, e]; simp [ex]))
theorem le_of_sub {g g' : Nat} (h : ∀ i, g.testBit i = true → g'.testBit i = true) : g ≤ g' := by
  have e : g ||| g' = g' := by
    apply Nat.eq_of_testBit_eq
    intro i
    rw [Nat.testBit_or]
    cases e : g.testBit i
    · rfl
    · rw [h i e]; rfl
  rw [← e]
  exact Nat.left_le_or
theorem lt_or_one {g a : Nat} (h : g.testBit a = false) : g < g ||| 2 ^ a := by
  have h1 : g ≤ g ||| 2 ^ a := Nat.left_le_or
  have h2 : g ≠ g ||| 2 ^ a := by
    intro e
    have := congrArg (fun x => x.testBit a) e
    simp only [bit_or_one, h] at this
    simp at this
  omega
theorem or_one_lt {g a : Nat} (h : g < 64) (ha : a < 6) : g ||| 2 ^ a < 64 :=
  Nat.or_lt_two_pow (n := 6) h (Nat.pow_lt_pow_right (by decide) ha)
theorem Dfs.word {ups : List (List Int)} (h : Nms ups) (hn : ups.length ≤ 6) {c g : Nat} (hc : c < 6) (k : Dfs ups c (ups.getD c []) 0 g) : g = abw ups c := by
  refine eq_of_bits6 k.lt (abw_lt _ _) fun i hi => ?_
  rw [abw_bit _ _ _ hi, Bool.eq_iff_iff, tab_iff h hn hc hi]
  constructor
  · intro hb
    exact k.sound i hb (Nat.zero_testBit i)
  · intro hab
    clear hi
    induction hab with
    | single h' => exact k.ahead _ h'
    | tail _ h' ih => exact k.closed _ ih (Nat.zero_testBit _) _ h'
/-! lists that name each once, by their words -/
def okI (i : Int) : Bool := decide (0 ≤ i) && decide (i < 64)
theorem okI_iff (i : Int) : okI i = true ↔ 0 ≤ i ∧ i < 64 := by simp [okI]
/-- the word of some numbers -/
def gw (xs : List Int) : Nat := xs.foldl (fun g i => g ||| 2 ^ i.toNat) 0
theorem gw_snoc (xs : List Int) (k : Nat) (h : k < xs.length) : gw (xs.take (k + 1)) = gw (xs.take k) ||| 2 ^ (xs.getD k 0).toNat := by
  unfold gw
  rw [List.take_succ_eq_append_getElem h, List.foldl_append]
  simp [h]
theorem gw_lt : ∀ (xs : List Int), (∀ i ∈ xs, okI i = true) → gw xs < 18446744073709551616 := by
  have key : ∀ (xs : List Int) (g : Nat), g < 18446744073709551616 → (∀ i ∈ xs, okI i = true) → xs.foldl (fun g i => g ||| 2 ^ i.toNat) g < 18446744073709551616 := by
    intro xs
    induction xs with
    | nil => intro g hg _; exact hg
    | cons a l ih =>
      intro g hg h
      have ha := (okI_iff a).1 (h a List.mem_cons_self)
      exact ih _ (or_lt hg (Nat.pow_lt_pow_right (n := 64) (by decide) (by omega))) fun i hi => h i (List.mem_cons_of_mem _ hi)
  exact fun xs h => key xs 0 (by decide) h
theorem gw_bit : ∀ (xs : List Int) (i : Nat), (gw xs).testBit i = true ↔ ∃ x ∈ xs, x.toNat = i := by
  have key : ∀ (xs : List Int) (g i : Nat), (xs.foldl (fun g i => g ||| 2 ^ i.toNat) g).testBit i = true ↔ (g.testBit i = true ∨ ∃ x ∈ xs, x.toNat = i) := by
    intro xs
    induction xs with
    | nil => intro g i; simp
    | cons a l ih =>
      intro g i
      rw [List.foldl_cons, ih, bit_or_one]
      simp only [Bool.or_eq_true, decide_eq_true_eq, List.mem_cons]
      constructor
      · rintro ((h | h) | ⟨x, h1, h2⟩)
        · exact .inl h
        · exact .inr ⟨a, .inl rfl, h⟩
        · exact .inr ⟨x, .inr h1, h2⟩
      · rintro (h | ⟨x, rfl | h1, h2⟩)
        · exact .inl (.inl h)
        · exact .inl (.inr h2)
        · exact .inr ⟨x, h1, h2⟩
  intro xs i
  unfold gw
  rw [key]
  simp
theorem bits_one {a : Nat} (ha : a < 64) : (bitsOf (2 ^ a)).length = 1 := by
  have h := len_or 0 (2 ^ a) (Nat.pow_lt_pow_right (n := 64) (by decide) ha)
  have : ∀ a : Fin 64, (bitsOf (2 ^ a.val)).length = 1 := by decide +kernel
  exact this ⟨a, ha⟩
theorem gw_count (xs : List Int) (h : ∀ i ∈ xs, okI i = true) : ∀ k, k ≤ xs.length → (bitsOf (gw (xs.take k))).length ≤ k ∧ ((bitsOf (gw (xs.take k))).length = k ↔ (xs.take k).Nodup)
  | 0, _ => by simp [gw, bits_zero]
  | k + 1, hk => by
    obtain ⟨h1, h2⟩ := gw_count xs h k (by omega)
    have hkl : k < xs.length := by omega
    have hm : xs[k] ∈ xs := List.getElem_mem hkl
    have ho := (okI_iff _).1 (h _ hm)
    obtain ⟨a, ha⟩ := Int.eq_ofNat_of_zero_le ho.1
    rw [gw_snoc xs k hkl, show xs.getD k 0 = xs[k] by simp [hkl], List.take_succ_eq_append_getElem hkl, ha, Int.toNat_natCast]
    have ha64 : a < 64 := by omega
    have hp : 2 ^ a < 18446744073709551616 := Nat.pow_lt_pow_right (n := 64) (by decide) ha64
    have hgl := gw_lt (xs.take k) fun i hi => h i (List.mem_of_mem_take hi)
    have hmem : (gw (xs.take k)).testBit a = true ↔ (a : Int) ∈ xs.take k := by
      rw [gw_bit]
      constructor
      · rintro ⟨x, hx, e⟩
        have := (okI_iff x).1 (h x (List.mem_of_mem_take hx))
        rw [show (a : Int) = x by omega]; exact hx
      · intro hx; exact ⟨_, hx, rfl⟩
    have hnd : (xs.take k ++ [(a : Int)]).Nodup ↔ (xs.take k).Nodup ∧ ¬ (a : Int) ∈ xs.take k := by
      rw [List.nodup_append]
      constructor
      · rintro ⟨n1, _, n3⟩
        exact ⟨n1, fun hx => n3 _ hx _ (by simp) rfl⟩
      · rintro ⟨n1, n2⟩
        refine ⟨n1, by simp, fun x hx y hy e => ?_⟩
        simp at hy
        subst hy
        subst e
        exact n2 hx
    rw [hnd]
    generalize gw (xs.take k) = g at *
    cases e : g.testBit a with
    | true =>
      have eg : g ||| 2 ^ a = g := by
        apply Nat.eq_of_testBit_eq
        intro i
        rw [bit_or_one]
        by_cases ei : a = i
        · subst ei; rw [e]; rfl
        · simp [ei]
      rw [eg]
      refine ⟨by omega, fun hh => by omega, fun hh => absurd (hmem.1 e) hh.2⟩
    | false =>
      have el : lessN g (2 ^ a) = g := by
        refine eq_of_bits (less_lt hgl) hgl fun i hi => ?_
        rw [testBit_less hp hi, Nat.testBit_two_pow]
        by_cases ei : a = i
        · subst ei; rw [e]; rfl
        · simp [ei]
      have hl := len_or g (2 ^ a) hp
      rw [el, bits_one ha64] at hl
      rw [hl]
      have nm : ¬ (a : Int) ∈ xs.take k := fun hx => by rw [hmem.2 hx] at e; cases e
      refine ⟨by omega, fun hh => ⟨h2.1 (by omega), nm⟩, fun hh => by have := h2.2 hh.1; omega⟩
theorem gw_nodup (xs : List Int) (h : ∀ i ∈ xs, okI i = true) : (bitsOf (gw xs)).length = xs.length ↔ xs.Nodup := by
  have := (gw_count xs h xs.length (Nat.le_refl _)).2
  rwa [List.take_length] at this
theorem gw_inside (xs : List Int) (h : ∀ i ∈ xs, okI i = true) (n : Nat) (hn : n ≤ 64) : lessN (gw xs) (2 ^ n - 1) = 0 ↔ ∀ x ∈ xs, x < (n : Int) := by
  have hg := gw_lt xs h
  constructor
  · intro e x hx
    have ho := (okI_iff x).1 (h x hx)
    have hb : (gw xs).testBit x.toNat = true := (gw_bit _ _).2 ⟨x, hx, rfl⟩
    have := testBit_less (x := gw xs) (full_lt hn) (show x.toNat < 64 by omega)
    rw [e, Nat.zero_testBit, hb, testBit_full] at this
    simp at this
    omega
  · intro hx
    refine eq_of_bits (less_lt hg) (by decide) fun i hi => ?_
    rw [testBit_less (full_lt hn) hi, testBit_full, Nat.zero_testBit]
    cases e : (gw xs).testBit i with
    | false => rfl
    | true =>
      obtain ⟨x, hm, rfl⟩ := (gw_bit _ _).1 e
      have := hx x hm
      have ho := (okI_iff x).1 (h x hm)
      have : x.toNat < n := by omega
      simp [this]
theorem named_iff (n : Nat) (hn : n ≤ 6) (xs : List Int) : Named n xs ↔ (∀ i ∈ xs, okI i = true) ∧ lessN (gw xs) (2 ^ n - 1) = 0 ∧ (bitsOf (gw xs)).length = xs.length := by
  constructor
  · rintro ⟨h1, h2⟩
    have ho : ∀ i ∈ xs, okI i = true := fun i hi => (okI_iff i).2 (by have := h1 i hi; omega)
    exact ⟨ho, (gw_inside xs ho n (by omega)).2 fun x hx => (h1 x hx).2, (gw_nodup xs ho).2 h2⟩
  · rintro ⟨ho, h1, h2⟩
    exact ⟨fun x hx => ⟨((okI_iff x).1 (ho x hx)).1, (gw_inside xs ho n (by omega)).1 h1 x hx⟩, (gw_nodup xs ho).1 h2⟩
def nmB (ups : List (List Int)) : Bool := decide (Nms ups)
theorem nmB_iff {ups : List (List Int)} : nmB ups = true ↔ Nms ups := by unfold nmB; exact decide_eq_true_iff
/-- what is wrong first -/
def chk (ups : List (List Int)) : Int :=
  if ups.length < 1 ∨ 6 < ups.length then 6 else if ¬ nmB ups = true then 7 else if (List.range ups.length).any (fun c => tab ups (c * 6 + c)) then 8 else 0
/-- a graph that is right -/
structure Rt (ups : List (List Int)) : Prop where
  pos : 1 ≤ ups.length
  six : ups.length ≤ 6
  nms : Nms ups
  acy : ∀ c, ¬ Ab ups c c
theorem chk_zero {ups : List (List Int)} : chk ups = 0 ↔ Rt ups := by
  unfold chk
  by_cases h1 : ups.length < 1 ∨ 6 < ups.length
  · rw [if_pos h1]
    exact ⟨fun h => by simp at h, fun h => by have := h.pos; have := h.six; omega⟩
  · rw [if_neg h1]
    by_cases h2 : Nms ups
    · rw [if_neg (fun h => h (nmB_iff.2 h2))]
      cases h3 : (List.range ups.length).any (fun c => tab ups (c * 6 + c)) with
      | true =>
        rw [if_pos rfl]
        refine ⟨fun h => by simp at h, fun h => ?_⟩
        obtain ⟨c, hc, ht⟩ := List.any_eq_true.1 h3
        have hc' : c < ups.length := by simpa using hc
        exact absurd ((tab_iff h2 (by omega) (by omega) (by omega)).1 ht) (h.acy c)
      | false =>
        rw [if_neg (by simp)]
        refine ⟨fun _ => ⟨by omega, by omega, h2, fun c hc => ?_⟩, fun _ => rfl⟩
        have hl := Ab.lt h2 hc
        have ht := (tab_iff h2 (by omega) (show c < 6 by omega) (show c < 6 by omega)).2 hc
        have := List.any_eq_false.1 h3 c (by simpa using hl)
        exact this ht
    · rw [if_pos (fun h => h2 (nmB_iff.1 h))]
      exact ⟨fun h => by simp at h, fun h => absurd h.nms h2⟩
end Go.Proofs.YtkmfamidahlgiaaGreatDoor
