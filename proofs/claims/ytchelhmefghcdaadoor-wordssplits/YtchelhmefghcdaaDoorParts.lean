/- A text's parts between commas; words of numbers hold none; a number that is not negative is read alike with and without sign. No program. -/
import Derived.Test.YtchelhmefghcdaaDoorWList
import Derived.Lib.SplitLaws
import Derived.Lib.IndexBytes
namespace Go.Proofs.YtchelhmefghcdaaDoor
open Go.RowKit
set_option linter.unusedVariables false
/-- the parts of a text between these bytes -/
def parts (c : UInt8) : List UInt8 → List (List UInt8)
  | [] => [[]]
  | b :: r => if b = c then [] :: parts c r else match parts c r with
    | [] => [[b]]
    | p :: q => (b :: p) :: q
theorem parts_some (c : UInt8) : ∀ l, ∃ p q, parts c l = p :: q
  | [] => ⟨[], [], rfl⟩
  | b :: r => by
    obtain ⟨p, q, h⟩ := parts_some c r
    unfold parts
    split
    · exact ⟨_, _, rfl⟩
    · rw [h]; exact ⟨_, _, rfl⟩
theorem cat_parts (c : UInt8) : ∀ l, cat [c] (parts c l) = l
  | [] => rfl
  | b :: r => by
    have ih := cat_parts c r
    obtain ⟨p, q, h⟩ := parts_some c r
    unfold parts
    split
    · rename_i e
      rw [h] at ih ⊢
      subst e
      simp only [cat, List.flatMap_cons] at ih ⊢
      simpa using ih
    · rw [h] at ih ⊢
      simp only [cat] at ih ⊢
      simpa using ih
theorem parts_none (c : UInt8) : ∀ l : List UInt8, c ∉ l → parts c l = [l]
  | [], _ => rfl
  | b :: r, h => by
    have ih := parts_none c r (fun e => h (List.mem_cons_of_mem _ e))
    unfold parts
    rw [if_neg (fun e : b = c => h (by rw [e]; exact List.mem_cons_self)), ih]
theorem ib_some (c : UInt8) : ∀ l : List UInt8, c ∈ l → ∃ i : Nat, Lib.indexByte l c = i
  | [], h => by cases h
  | b :: r, h => by
    unfold Lib.indexByte
    by_cases e : b = c
    · subst e; exact ⟨0, by simp⟩
    · obtain ⟨i, hi⟩ := ib_some c r (by rcases List.mem_cons.1 h with h' | h'; exact absurd h'.symm e; exact h')
      have e1 : (b == c) = false := by simpa using e
      have e2 : ((i : Int) == -1) = false := by rw [beq_eq_false_iff_ne]; omega
      refine ⟨i + 1, ?_⟩
      rw [e1, hi, e2]
      simp
theorem split_parts (c : UInt8) : ∀ l : List UInt8, Lib.splitK [c] 0 (l.count c) l = parts c l
  | [] => rfl
  | b :: r => by
    have ih := split_parts c r
    by_cases e : b = c
    · subst e
      rw [List.count_cons_self, Lib.splitK]
      have hi : Lib.index (b :: r) [b] = 0 := by rw [Lib.index_one]; unfold Lib.indexByte; simp
      rw [hi]
      unfold parts
      rw [if_pos rfl, ← ih]
      simp
    · rw [List.count_cons_of_ne (by simpa using e)]
      unfold parts
      rw [if_neg e, ← ih]
      cases hk : r.count c with
      | zero => simp [Lib.splitK]
      | succ k =>
        obtain ⟨i, hi⟩ := ib_some c r (List.count_pos_iff.1 (by omega))
        have h1 : Lib.index r [c] = (i : Int) := by rw [Lib.index_one]; exact hi
        have h2 : Lib.index (b :: r) [c] = ((i + 1 : Nat) : Int) := by
          rw [Lib.index_one]
          unfold Lib.indexByte
          have e1 : (b == c) = false := by simpa using e
          have e2 : ((i : Int) == -1) = false := by rw [beq_eq_false_iff_ne]; omega
          rw [e1, hi, e2]
          simp
        have e3 : ((i : Int) == -1) = false := by rw [beq_eq_false_iff_ne]; omega
        have e4 : (((i + 1 : Nat) : Int) == -1) = false := by rw [beq_eq_false_iff_ne]; omega
        rw [Lib.splitK, Lib.splitK, h1, h2, e3, e4]
        simp only [Bool.false_eq_true, if_false, Int.toNat_natCast, Nat.add_zero, List.length_singleton]
        rw [List.take_succ_cons, show i + 1 + 1 = (i + 1) + 1 from rfl, List.drop_succ_cons]
theorem split_tx (l : List UInt8) : Lib.splitB comma 0 (Lib.countB (tx l) comma) (tx l) = (parts 44 l).map tx ∧ (parts 44 l).length = Lib.countB (tx l) comma + 1 := by
  have hc : Lib.countB (tx l) comma = l.count 44 := by
    show Lib.count (tx l).data.toList [44] = _
    rw [tx_list, Lib.count_one]
  have h := Lib.splitB_data comma 0 (Lib.countB (tx l) comma) (tx l)
  rw [tx_list] at h
  have h2 : Lib.splitK comma.data.toList 0 (Lib.countB (tx l) comma) l = parts 44 l := by rw [hc]; exact split_parts 44 l
  rw [h2] at h
  refine ⟨?_, ?_⟩
  · rw [← h, List.map_map]
    conv => lhs; rw [← List.map_id (Lib.splitB comma 0 (Lib.countB (tx l) comma) (tx l))]
    exact List.map_congr_left fun s _ => (tx_eq s).symm
  · rw [← h, List.length_map]
    exact Lib.splitB_all comma (by decide) 0 _ _ rfl
theorem part_le (c : UInt8) (l : List UInt8) : ∀ x ∈ parts c l, x.length ≤ l.length := by
  intro x hx
  have h := cat_parts c l
  obtain ⟨p, q, hp⟩ := parts_some c l
  rw [hp] at hx h
  have hl : l.length = p.length + (q.flatMap (fun x => [c] ++ x)).length := by rw [← h, cat, List.length_append]
  rcases List.mem_cons.1 hx with rfl | hx
  · omega
  · have : x.length ≤ (q.flatMap (fun x => [c] ++ x)).length := by
      clear h hl hp
      induction q with
      | nil => cases hx
      | cons a q ih =>
        rw [List.flatMap_cons, List.length_append, List.length_append]
        rcases List.mem_cons.1 hx with rfl | hx
        · omega
        · have := ih (List.mem_cons_of_mem _ hx) hx
          omega
    omega
theorem parts_len (c : UInt8) : ∀ l, (parts c l).length ≤ l.length + 1
  | [] => by simp [parts]
  | b :: r => by
    have ih := parts_len c r
    obtain ⟨p, q, h⟩ := parts_some c r
    unfold parts
    split
    · simp; exact ih
    · rw [h] at ih ⊢; simp at ih ⊢; omega
/-! words of numbers -/
theorem dec_digit (k : Nat) : ∀ x, x < k → ∀ b ∈ Lib.decDigits x, 48 ≤ b.toNat ∧ b.toNat ≤ 57 := by
  induction k with
  | zero => intro x h; omega
  | succ k ih =>
    intro x hx b hb
    rw [Lib.decDigits] at hb
    split at hb
    · rw [List.mem_singleton] at hb
      subst hb
      rw [UInt8.toNat_ofNat']
      omega
    · rcases List.mem_append.1 hb with h | h
      · exact ih (x / 10) (by omega) b h
      · rw [List.mem_singleton] at h
        subst h
        rw [UInt8.toNat_ofNat']
        omega
theorem dec_ne (x : Nat) : Lib.decDigits x ≠ [] := by
  rw [Lib.decDigits]
  split <;> simp
theorem itoa_byte (v : Int) : ∀ b ∈ Lib.itoa v, b.toNat = 45 ∨ (48 ≤ b.toNat ∧ b.toNat ≤ 57) := by
  intro b hb
  rcases Int.lt_or_le v 0 with h | h
  · obtain ⟨u, hu⟩ : ∃ u : Nat, v = -(u : Int) := ⟨v.natAbs, by omega⟩
    subst hu
    rw [Lib.itoa_neg u (by omega)] at hb
    rcases List.mem_cons.1 hb with rfl | hb
    · exact .inl rfl
    · exact .inr (dec_digit (u + 1) u (by omega) b hb)
  · obtain ⟨u, hu⟩ : ∃ u : Nat, v = (u : Int) := ⟨v.natAbs, by omega⟩
    subst hu
    rw [Lib.itoa_nonneg] at hb
    exact .inr (dec_digit (u + 1) u (by omega) b hb)
theorem itoa_no44 (v : Int) : (44 : UInt8) ∉ Lib.itoa v := fun h => by
  have := itoa_byte v 44 h
  have e : (44 : UInt8).toNat = 44 := rfl
  omega
theorem itoa_dot (v : Int) : Lib.itoa v ≠ [46] := fun h => by
  have := itoa_byte v 46 (by rw [h]; exact List.mem_cons_self)
  have e : (46 : UInt8).toNat = 46 := rfl
  omega
theorem num_word {l : List UInt8} {v : Int} (h : numOf l = some v) : Lib.itoa v = l ∧ Lib.atoiAll l = .ok v := by
  unfold numOf at h
  split at h
  · rename_i u hu
    split at h
    · rename_i e
      cases h
      exact ⟨e, hu⟩
    · cases h
  · cases h
theorem big_word {l : List UInt8} {u : Nat} (h : bigOf l = some u) : Lib.decDigits u = l ∧ Lib.parseUintB 64 l = .ok u := by
  unfold bigOf at h
  split at h
  · rename_i u hu
    split at h
    · rename_i e
      cases h
      exact ⟨e, hu⟩
    · cases h
  · cases h
theorem pum_eq : ∀ (l : List UInt8) (acc u : Nat), Lib.parseUint10 acc l = .ok u → Lib.parseUintM (2 ^ 64 - 1) acc l = .ok u
  | [], acc, u, h => h
  | c :: r, acc, u, h => by
    unfold Lib.parseUint10 at h
    unfold Lib.parseUintM
    split at h
    · rename_i h1
      rw [if_pos h1]
      split at h
      · cases h
      · rename_i h2
        rw [if_neg h2]
        split at h
        · cases h
        · rename_i h3
          rw [if_neg (by omega)]
          exact pum_eq r _ u h
    · cases h
/-- what is read with a sign and has none is read without -/
theorem big_of_num {l : List UInt8} {v : Int} (h : numOf l = some v) (h0 : 0 ≤ v) : bigOf l = some v.toNat := by
  obtain ⟨hw, ha⟩ := num_word h
  obtain ⟨u, rfl⟩ : ∃ u : Nat, v = (u : Int) := ⟨v.toNat, by omega⟩
  rw [Lib.itoa_nonneg] at hw
  have hb : ∀ b ∈ l, 48 ≤ b.toNat ∧ b.toNat ≤ 57 := by rw [← hw]; exact dec_digit (u + 1) u (by omega)
  cases l with
  | nil => exact absurd hw (dec_ne u)
  | cons c r =>
    have hc := hb c List.mem_cons_self
    have hp : Lib.parseUint10 0 (c :: r) = .ok u := by
      unfold Lib.atoiAll at ha
      simp only at ha
      rw [if_neg (by omega)] at ha
      have hm : Lib.parseMag (c :: r) = Lib.parseUint10 0 (c :: r) := by unfold Lib.parseMag; rw [if_neg (by simp)]
      rw [hm] at ha
      split at ha
      · cases ha
      · cases ha
      · rename_i u' hu'
        rw [hu']
        split at ha
        · cases ha
        · split at ha
          · cases ha
          · rw [if_neg (by omega)] at ha
            simp only [Lib.NumEnd.ok.injEq] at ha
            congr 1
            omega
    have hq : Lib.parseUintB 64 (c :: r) = .ok u := by
      unfold Lib.parseUintB
      rw [if_neg (by simp)]
      exact pum_eq _ _ _ hp
    unfold bigOf
    rw [hq]
    simp [hw]
end Go.Proofs.YtchelhmefghcdaaDoor
