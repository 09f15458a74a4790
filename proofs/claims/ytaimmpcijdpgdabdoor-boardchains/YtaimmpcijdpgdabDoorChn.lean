/- Each access finds what the last one of the same cell left. No program in sight. -/
import Derived.Test.YtaimmpcijdpgdabDoorBd7
namespace Go.Proofs.YtaimmpcijdpgdabDoor
open Go.RowKit
set_option linter.unusedVariables false
set_option linter.unusedSimpArgs false
set_option maxHeartbeats 1000000
/-- what the last one of a cell left -/
def lastN (v0 : Int) (l : List Acc) (c : Int) : Int := l.foldl (fun h x => if x.c = c then x.n else h) v0
theorem lastN_snoc (v0 : Int) (l : List Acc) (x : Acc) (c : Int) : lastN v0 (l ++ [x]) c = if x.c = c then x.n else lastN v0 l c := by
  unfold lastN
  rw [List.foldl_append]
  rfl
/-- one access more, or none -/
theorem stp_form (y : LY) (W : Int) (hW : W = 32 ∨ W = 64) (d : DoR) (f : Nat → Int) (l : List Acc) (fr : ∀ i, i < y.m → 0 ≤ f i ∧ f i < 18446744073709551616) (z0 : 0 ≤ d.z) (z1 : d.z < 18446744073709551616) :
    ((stp y W d f l).f = f ∧ (stp y W d f l).l = l) ∨ ∃ (t k : Int) (c : Nat) (z : Int), c < y.m ∧ 0 ≤ z ∧ z < 18446744073709551616 ∧ (stp y W d f l).f = upd f c z ∧ (stp y W d f l).l = l ++ [⟨t, k, c, f c, z⟩] := by
  have cz : 0 ≤ cutS W d.z ∧ cutS W d.z < 18446744073709551616 := by unfold cutS; split <;> omega
  have pz : ∀ x n, 0 ≤ plusW W x n ∧ plusW W x n < 18446744073709551616 := fun x n => by
    unfold plusW
    split
    · omega
    · exact U64_range _
  have look : ∀ kind ak, kind ≠ 0 → ((lookS y W kind ak d f l).f = f ∧ (lookS y W kind ak d f l).l = l) ∨ ∃ (t k : Int) (c : Nat) (z : Int), c < y.m ∧ 0 ≤ z ∧ z < 18446744073709551616 ∧ (lookS y W kind ak d f l).f = upd f c z ∧ (lookS y W kind ak d f l).l = l ++ [⟨t, k, c, f c, z⟩] := by
    intro kind ak h0
    unfold lookS
    by_cases hk : kd y d.c = kind
    · rw [if_pos hk]
      obtain ⟨c0, c1⟩ := kd_in (y := y) (c := d.c) (by rw [hk]; exact h0)
      have hc : d.c.toNat < y.m := by omega
      have e : ((d.c.toNat : Nat) : Int) = d.c := by omega
      exact .inr ⟨d.t, ak, d.c.toNat, f d.c.toNat, hc, (fr _ hc).1, (fr _ hc).2, (upd_same f _).symm, by rw [e]⟩
    · rw [if_neg hk]; exact .inl ⟨rfl, rfl⟩
  have put : ∀ kind ak, kind ≠ 0 → ((putS y W kind ak d f l).f = f ∧ (putS y W kind ak d f l).l = l) ∨ ∃ (t k : Int) (c : Nat) (z : Int), c < y.m ∧ 0 ≤ z ∧ z < 18446744073709551616 ∧ (putS y W kind ak d f l).f = upd f c z ∧ (putS y W kind ak d f l).l = l ++ [⟨t, k, c, f c, z⟩] := by
    intro kind ak h0
    unfold putS
    by_cases hk : kd y d.c = kind
    · rw [if_pos hk]
      obtain ⟨c0, c1⟩ := kd_in (y := y) (c := d.c) (by rw [hk]; exact h0)
      have hc : d.c.toNat < y.m := by omega
      have e : ((d.c.toNat : Nat) : Int) = d.c := by omega
      exact .inr ⟨d.t, ak, d.c.toNat, cutS W d.z, hc, cz.1, cz.2, rfl, by rw [e]⟩
    · rw [if_neg hk]; exact .inl ⟨rfl, rfl⟩
  unfold stp
  by_cases k1 : d.k = 1
  · rw [if_pos k1]; exact look 1 1 (by decide)
  rw [if_neg k1]
  by_cases k2 : d.k = 2
  · rw [if_pos k2]; exact put 1 2 (by decide)
  rw [if_neg k2]
  by_cases k3 : d.k = 3
  · rw [if_pos k3]
    unfold addS
    by_cases hk : kd y d.c = 1
    · rw [if_pos hk]
      obtain ⟨c0, c1⟩ := kd_in (y := y) (c := d.c) (by rw [hk]; decide)
      have hc : d.c.toNat < y.m := by omega
      have e : ((d.c.toNat : Nat) : Int) = d.c := by omega
      exact .inr ⟨d.t, 3, d.c.toNat, _, hc, (pz _ _).1, (pz _ _).2, rfl, by rw [e]⟩
    · rw [if_neg hk]; exact .inl ⟨rfl, rfl⟩
  rw [if_neg k3]
  by_cases k4 : d.k = 4
  · rw [if_pos k4]
    unfold swapS
    by_cases hk : kd y d.c = 1
    · rw [if_pos hk]
      obtain ⟨c0, c1⟩ := kd_in (y := y) (c := d.c) (by rw [hk]; decide)
      have hc : d.c.toNat < y.m := by omega
      have e : ((d.c.toNat : Nat) : Int) = d.c := by omega
      by_cases ho : cutS W (f d.c.toNat) = cutS W d.o
      · rw [if_pos ho]
        exact .inr ⟨d.t, 4, d.c.toNat, cutS W d.z, hc, cz.1, cz.2, rfl, by rw [e]⟩
      · rw [if_neg ho]
        exact .inr ⟨d.t, 5, d.c.toNat, f d.c.toNat, hc, (fr _ hc).1, (fr _ hc).2, (upd_same f _).symm, by rw [e]⟩
    · rw [if_neg hk]; exact .inl ⟨rfl, rfl⟩
  rw [if_neg k4]
  by_cases k6 : d.k = 6
  · rw [if_pos k6]; exact look 2 6 (by decide)
  rw [if_neg k6]
  by_cases k7 : d.k = 7
  · rw [if_pos k7]; exact put 2 7 (by decide)
  rw [if_neg k7]
  by_cases k8 : d.k = 8
  · rw [if_pos k8]
    unfold getS
    by_cases hk : kd y (plc y.Sl y.C d.c) = 3
    · rw [if_pos hk]
      obtain ⟨c0, c1⟩ := kd_in (y := y) (c := plc y.Sl y.C d.c) (by rw [hk]; decide)
      have hc : (plc y.Sl y.C d.c).toNat < y.m := by omega
      have e : (((plc y.Sl y.C d.c).toNat : Nat) : Int) = plc y.Sl y.C d.c := by omega
      exact .inr ⟨d.t, 6, (plc y.Sl y.C d.c).toNat, _, hc, (fr _ hc).1, (fr _ hc).2, (upd_same f _).symm, by rw [e]⟩
    · rw [if_neg hk]; exact .inl ⟨rfl, rfl⟩
  rw [if_neg k8]
  by_cases k9 : d.k = 9
  · rw [if_pos k9]
    unfold setS
    by_cases hk : kd y (plc y.Sl y.C d.c) = 3
    · rw [if_pos hk]
      obtain ⟨c0, c1⟩ := kd_in (y := y) (c := plc y.Sl y.C d.c) (by rw [hk]; decide)
      have hc : (plc y.Sl y.C d.c).toNat < y.m := by omega
      have e : (((plc y.Sl y.C d.c).toNat : Nat) : Int) = plc y.Sl y.C d.c := by omega
      exact .inr ⟨d.t, 7, (plc y.Sl y.C d.c).toNat, _, hc, (U64_range _).1, (U64_range _).2, rfl, by rw [e]⟩
    · rw [if_neg hk]; exact .inl ⟨rfl, rfl⟩
  · rw [if_neg k9]; exact .inl ⟨rfl, rfl⟩
/-- how cells and accesses stand to each other -/
structure Chain (m : Nat) (F f : Nat → Int) (l : List Acc) : Prop where
  rng : ∀ i, i < m → 0 ≤ f i ∧ f i < 18446744073709551616
  cur : ∀ i, i < m → f i = lastN (F i) l i
  old : ∀ i, (hi : i < l.length) → ∃ c : Nat, c < m ∧ l[i].c = c ∧ l[i].o = lastN (F c) (l.take i) c
theorem Chain.step {m : Nat} {F f : Nat → Int} {l : List Acc} (h : Chain m F f l) {t k : Int} {c : Nat} {z : Int} (hc : c < m) (z0 : 0 ≤ z) (z1 : z < 18446744073709551616) : Chain m F (upd f c z) (l ++ [⟨t, k, c, f c, z⟩]) := by
  refine ⟨fun i hi => ?_, fun i hi => ?_, fun i hi => ?_⟩
  · unfold upd
    by_cases e : i = c
    · rw [if_pos e]; exact ⟨z0, z1⟩
    · rw [if_neg e]; exact h.rng i hi
  · rw [lastN_snoc]
    unfold upd
    by_cases e : i = c
    · rw [if_pos e, if_pos (by simp [e])]
    · rw [if_neg e, if_neg (by simp; omega)]
      exact h.cur i hi
  · rw [List.length_append] at hi
    simp at hi
    by_cases hil : i < l.length
    · obtain ⟨c', a, b, d⟩ := h.old i hil
      rw [List.getElem_append_left hil, List.take_append_of_le_length (by omega)]
      exact ⟨c', a, b, d⟩
    · have : i = l.length := by omega
      subst this
      refine ⟨c, hc, by simp, ?_⟩
      rw [List.getElem_append_right (Nat.le_refl _), List.take_append_of_le_length (Nat.le_refl _), List.take_length]
      simpa using h.cur c hc
theorem Chain.nil {m : Nat} {F : Nat → Int} (h : ∀ i, i < m → 0 ≤ F i ∧ F i < 18446744073709551616) : Chain m F F [] := ⟨h, fun _ _ => rfl, fun i hi => by simp at hi⟩
theorem stp_len (y : LY) (W : Int) (hW : W = 32 ∨ W = 64) (d : DoR) (f : Nat → Int) (l : List Acc) (fr : ∀ i, i < y.m → 0 ≤ f i ∧ f i < 18446744073709551616) (z0 : 0 ≤ d.z) (z1 : d.z < 18446744073709551616) : (stp y W d f l).l.length ≤ l.length + 1 := by
  rcases stp_form y W hW d f l fr z0 z1 with ⟨_, e⟩ | ⟨t, k, c, z, _, _, _, _, e⟩
  · rw [e]; omega
  · rw [e]; simp
theorem Chain.stp {y : LY} {F f : Nat → Int} {l : List Acc} (h : Chain y.m F f l) (W : Int) (hW : W = 32 ∨ W = 64) (d : DoR) (z0 : 0 ≤ d.z) (z1 : d.z < 18446744073709551616) : Chain y.m F (Go.Proofs.YtaimmpcijdpgdabDoor.stp y W d f l).f (Go.Proofs.YtaimmpcijdpgdabDoor.stp y W d f l).l := by
  rcases stp_form y W hW d f l h.rng z0 z1 with ⟨e1, e2⟩ | ⟨t, k, c, z, hc, a, b, e1, e2⟩
  · rw [e1, e2]; exact h
  · rw [e1, e2]; exact h.step hc a b
/-- what cells have at first fits -/
theorem fst_rng {W C S : Int} (hW : W = 32 ∨ W = 64) (hC : rightB C = true) (h0 : 0 ≤ S) (h1 : S < 18446744073709551616) (k i : Int) : 0 ≤ fst W C S k i ∧ fst W C S k i < 18446744073709551616 := by
  have hc : 0 ≤ cutS W S ∧ cutS W S < 18446744073709551616 := by unfold cutS; split <;> omega
  unfold fst
  split
  · exact hc
  · split
    · unfold aheadR
      rcases hW with rfl | rfl
      · rw [if_pos rfl]
        have := ahead_bound32 (cutS 32 S + (i - cutS 32 S) % C - C) hC
        omega
      · rw [if_neg (by decide)]
        exact ahead_bound64 _ hC
    · split
      · unfold firstR
        rcases hW with rfl | rfl
        · rw [if_pos rfl]; omega
        · rw [if_neg (by decide)]; exact first_bound64 _
      · omega
end Go.Proofs.YtaimmpcijdpgdabDoor
