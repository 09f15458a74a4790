/- What is shown is read as it was: numerals, lists. No program. -/
import Derived.Test.YthdokmhbdjajaacDoorParts
import Derived.Test.YthdokmhbdjajaacDoorWLive
namespace Go.Proofs.YthdokmhbdjajaacDoor
open Go.RowKit
set_option linter.unusedVariables false
/-- a digit more -/
def stepD (u : Nat) (c : UInt8) : Lib.NumEnd Nat :=
  if 48 ≤ c.toNat ∧ c.toNat ≤ 57 then
    if 1844674407370955162 ≤ u then .range else if 18446744073709551616 ≤ u * 10 + (c.toNat - 48) then .range else .ok (u * 10 + (c.toNat - 48))
  else .«syntax»
theorem p10_snoc (c : UInt8) : ∀ (a : List UInt8) (acc u : Nat), Lib.parseUint10 acc a = .ok u → Lib.parseUint10 acc (a ++ [c]) = stepD u c
  | [], acc, u, h => by
    simp only [Lib.parseUint10, Lib.NumEnd.ok.injEq] at h
    subst h
    rfl
  | b :: r, acc, u, h => by
    rw [List.cons_append]
    unfold Lib.parseUint10 at h ⊢
    split at h
    · rename_i h1
      rw [if_pos h1]
      split at h
      · cases h
      · rename_i h2
        rw [if_neg h2]
        split at h
        · cases h
        · rename_i h3
          rw [if_neg h3]
          exact p10_snoc c r _ u h
    · cases h
theorem digit_nat (d : Nat) (h : d < 10) : (UInt8.ofNat (48 + d)).toNat = 48 + d := by rw [UInt8.toNat_ofNat']; omega
theorem p10_dec (k : Nat) : ∀ x, x < k → x < 18446744073709551616 → Lib.parseUint10 0 (Lib.decDigits x) = .ok x := by
  induction k with
  | zero => intro x h; omega
  | succ k ih =>
    intro x hk hx
    by_cases h : x < 10
    · rw [dec1 x h]
      have e := digit_nat x h
      have := p10_snoc (UInt8.ofNat (48 + x)) [] 0 0 rfl
      rw [List.nil_append] at this
      rw [this]
      unfold stepD
      rw [e, if_pos (by omega), if_neg (by omega), if_neg (by omega)]
      congr 1
      omega
    · have e := digit_nat (x % 10) (by omega)
      rw [Lib.decDigits, dif_neg h, p10_snoc _ _ 0 (x / 10) (ih (x / 10) (by omega) (by omega))]
      unfold stepD
      rw [e, if_pos (by omega), if_neg (by omega), if_neg (by omega)]
      congr 1
      omega
theorem mag_dec (x : Nat) (hx : x < 18446744073709551616) : Lib.parseMag (Lib.decDigits x) = .ok x := by
  unfold Lib.parseMag
  rw [if_neg (dec_ne x)]
  exact p10_dec (x + 1) x (by omega) hx
theorem big_back (x : Nat) (hx : x < 18446744073709551616) : bigOf (Lib.decDigits x) = some x := by
  have h : Lib.parseUintB 64 (Lib.decDigits x) = .ok x := by
    unfold Lib.parseUintB
    rw [if_neg (dec_ne x)]
    exact pum_eq _ _ _ (p10_dec (x + 1) x (by omega) hx)
  unfold bigOf
  rw [h]
  simp
theorem atoi_back (v : Int) (h0 : -9223372036854775808 ≤ v) (h1 : v ≤ 9223372036854775807) : Lib.atoiAll (Lib.itoa v) = .ok v := by
  rcases Int.lt_or_le v 0 with h | h
  · obtain ⟨u, hu⟩ : ∃ u : Nat, v = -(u : Int) := ⟨v.natAbs, by omega⟩
    subst hu
    rw [Lib.itoa_neg u (by omega)]
    unfold Lib.atoiAll
    have n : (45 : UInt8).toNat = 45 := rfl
    have h2 : ¬ 9223372036854775808 < u := by omega
    simp only
    rw [if_pos (.inr n), mag_dec u (by omega)]
    simp [n, h2]
  · obtain ⟨u, hu⟩ : ∃ u : Nat, v = (u : Int) := ⟨v.natAbs, by omega⟩
    subst hu
    rw [Lib.itoa_nonneg]
    have hm := mag_dec u (by omega)
    have hb := dec_digit (u + 1) u (by omega)
    cases hl : Lib.decDigits u with
    | nil => exact absurd hl (dec_ne u)
    | cons c r =>
      rw [hl] at hm hb
      have hc := hb c List.mem_cons_self
      unfold Lib.atoiAll
      simp only
      rw [if_neg (by omega), hm]
      simp only
      rw [if_neg (by omega), if_neg (by omega), if_neg (by omega)]
theorem num_back (v : Int) (h0 : -9223372036854775808 ≤ v) (h1 : v ≤ 9223372036854775807) : numOf (Lib.itoa v) = some v := by
  unfold numOf
  rw [atoi_back v h0 h1]
  simp
theorem parts_app (c : UInt8) : ∀ (a r : List UInt8), c ∉ a → parts c (a ++ c :: r) = a :: parts c r
  | [], r, _ => by rw [List.nil_append]; conv => lhs; unfold parts
                   rw [if_pos rfl]
  | b :: a, r, h => by
    have ih := parts_app c a r (fun e => h (List.mem_cons_of_mem _ e))
    rw [List.cons_append]
    conv => lhs; unfold parts
    rw [if_neg (fun e : b = c => h (by rw [e]; exact List.mem_cons_self)), ih]
theorem parts_cat (c : UInt8) : ∀ (q : List (List UInt8)) (p : List UInt8), c ∉ p → (∀ x ∈ q, c ∉ x) → parts c (cat [c] (p :: q)) = p :: q
  | [], p, hp, _ => by simp only [cat, List.flatMap_nil, List.append_nil]; exact parts_none c p hp
  | a :: q, p, hp, h => by
    have ih := parts_cat c q a (h a List.mem_cons_self) (fun x hx => h x (List.mem_cons_of_mem _ hx))
    have e : cat [c] (p :: a :: q) = p ++ c :: cat [c] (a :: q) := by simp [cat]
    rw [e, parts_app c p _ hp, ih]
/-- a list's word: its parts are its numbers' words -/
theorem parts_list (z : Int) (xs : List Int) : parts 44 (listW (z :: xs)) = (z :: xs).map Lib.itoa := by
  unfold listW
  rw [if_neg (by simp), List.map_cons]
  exact parts_cat 44 _ _ (itoa_no44 z) (fun x hx => by obtain ⟨y, _, rfl⟩ := List.mem_map.1 hx; exact itoa_no44 y)
theorem list_ne_dot (z : Int) (xs : List Int) : listW (z :: xs) ≠ [46] := fun h => by
  have hp := parts_list z xs
  rw [h] at hp
  have e : parts 44 [46] = [[46]] := by rfl
  rw [e, List.map_cons] at hp
  exact itoa_dot z (List.cons.inj hp).1.symm
theorem back_map (xs : List Int) (hf : Fit xs) : (xs.map Lib.itoa).map numV = xs ∧ ∀ x ∈ xs.map Lib.itoa, isNum x = true := by
  constructor
  · rw [List.map_map]
    conv => rhs; rw [← List.map_id xs]
    exact List.map_congr_left fun z hz => by
      show numV (Lib.itoa z) = z
      unfold numV
      rw [num_back z (hf z hz).1 (hf z hz).2]
      rfl
  · intro x hx
    obtain ⟨z, hz, rfl⟩ := List.mem_map.1 hx
    unfold isNum
    rw [num_back z (hf z hz).1 (hf z hz).2]
    rfl
end Go.Proofs.YthdokmhbdjajaacDoor
