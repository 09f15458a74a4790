/- layout's numbers, where no names are asked for. -/
import Derived.Test.YtkmfamidahlgiaaGreatDoorLyK
import Derived.Test.YtkmfamidahlgiaaGreatDoorOpenC
import Derived.Test.YtkmfamidahlgiaaGreatDoorLong
namespace Go.Proofs.YtkmfamidahlgiaaGreatDoor
open Go.RowKit
set_option linter.unusedVariables false
set_option linter.unusedSimpArgs false
set_option maxHeartbeats 2000000
/-! which cell is what -/
def useN (V n C c : Int) : Int × Int := useL V n (nCu V n) (nCl V n) (nTi V n) (nSe V n) (nNe V n) (nMa V n) (nSl V n C) (nCe V n C) c
/-- the cell that is for this, or -1 -/
def cellOf (V n C k i : Int) : Int :=
  if k = 1 then plc 0 n i else if k = 2 then nCu V n else if k = 3 then nCl V n else if k = 4 then nTi V n else if k = 5 then nSe V n else if k = 6 then nNe V n
  else if k = 10 then plc (nSl V n C) C i else if k = mrk V then plc (nMa V n) C i else -1
structure NumOk (V n C : Int) : Prop where
  v1 : 1 ≤ V
  v5 : V ≤ 5
  n0 : 0 ≤ n
  n6 : n ≤ 6
  c2 : 2 ≤ C
  c64 : C ≤ 64
theorem five {V : Int} (h1 : 1 ≤ V) (h5 : V ≤ 5) : V = 1 ∨ V = 2 ∨ V = 3 ∨ V = 4 ∨ V = 5 := by omega
theorem num_bounds {V n C : Int} (h : NumOk V n C) : 0 ≤ nSl V n C ∧ nSl V n C ≤ 500 ∧ -1 ≤ nMa V n ∧ nMa V n ≤ 500 ∧ 0 < nCe V n C ∧ nCe V n C ≤ 500 := by
  obtain ⟨h1, h2, h3, h4, h5, h6⟩ := h
  unfold nCe nSl nMa
  rcases five h1 h2 with rfl | rfl | rfl | rfl | rfl <;> simp <;> omega
/-- what a cell that there is may be for -/
theorem use_cases {V n C c : Int} (h : NumOk V n C) (h0 : 0 ≤ c) (hc : c < nCe V n C) :
    (c < n ∧ useN V n C c = (1, c)) ∨ (nSl V n C ≤ c ∧ useN V n C c = (10, c - nSl V n C)) ∨ (V = 1 ∧ c = n ∧ useN V n C c = (2, 0)) ∨ (V ≠ 1 ∧ V ≠ 5 ∧ c = n ∧ useN V n C c = (3, 0)) ∨
    (V = 5 ∧ c = n ∧ useN V n C c = (4, 0)) ∨ (V = 5 ∧ c = n + 1 ∧ useN V n C c = (5, 0)) ∨ (V = 5 ∧ c = n + 2 ∧ useN V n C c = (6, 0)) ∨ (V ≠ 1 ∧ nMa V n ≤ c ∧ c < nSl V n C ∧ useN V n C c = (mrk V, c - nMa V n)) := by
  obtain ⟨h1, h2, h3, h4, h5, h6⟩ := h
  have e0 : ¬ (c < 0 ∨ nCe V n C ≤ c) := by omega
  unfold useN useL
  rw [if_neg e0]
  by_cases k1 : c < n
  · exact .inl ⟨k1, by rw [if_pos k1]⟩
  rw [if_neg k1]
  by_cases k2 : nSl V n C ≤ c
  · exact .inr (.inl ⟨k2, by rw [if_pos k2]⟩)
  rw [if_neg k2]
  rcases five h1 h2 with rfl | rfl | rfl | rfl | rfl <;> simp only [nCu, nCl, nTi, nSe, nNe, nMa, nSl] at k2 ⊢ <;> simp at k2 ⊢
  · have : c = n := by omega
    simp [this]
  · have e : ¬ c = -1 := by omega
    simp only [if_neg e]
    by_cases hn : c = n
    · simp [hn]
    · simp [hn]; omega
  · have e : ¬ c = -1 := by omega
    simp only [if_neg e]
    by_cases hn : c = n
    · simp [hn]
    · simp [hn]; omega
  · have e : ¬ c = -1 := by omega
    simp only [if_neg e]
    by_cases hn : c = n
    · simp [hn]
    · simp [hn]; omega
  · have e : ¬ c = -1 := by omega
    simp only [if_neg e]
    by_cases hn : c = n
    · simp [hn]
    by_cases hn1 : c = n + 1
    · have h' : ¬ (n + 1 = n) := by omega
      simp [hn1, h']
    by_cases hn2 : c = n + 2
    · have h' : ¬ (n + 2 = n) := by omega
      simp [hn2, h']
    · simp [hn, hn1, hn2]; omega
/-- a cell that there is: what it is for stands between bounds, and that is its number -/
theorem use_in {V n C c : Int} (h : NumOk V n C) (h0 : 0 ≤ c) (hc : c < nCe V n C) {k i : Int} (e : useN V n C c = (k, i)) :
    1 ≤ k ∧ k ≤ 10 ∧ 0 ≤ i ∧ i < 64 ∧ cellOf V n C k i = c ∧ (k = 7 ∨ k = 8 ∨ k = 9 → i < C) ∧ (pMany k.toNat = false → i = 0) := by
  have hb := num_bounds h
  have hm : mrk V = 7 ∨ mrk V = 8 ∨ mrk V = 9 := by
    unfold mrk
    by_cases h4 : V = 4
    · simp [h4]
    by_cases h5 : V = 5
    · simp [h5]
    · simp [h4, h5]
  have hce : nCe V n C = nSl V n C + C := rfl
  have hms : V ≠ 1 → nSl V n C = nMa V n + C := fun h1 => by unfold nSl nMa; rw [if_neg h1, if_neg h1]; split <;> omega
  have h6 := h.c64
  have h5 := h.c2
  have h4 := h.n6
  have h3 := h.n0
  rcases use_cases h h0 hc with ⟨a, b⟩ | ⟨a, b⟩ | ⟨a, a2, b⟩ | ⟨a, a1, a2, b⟩ | ⟨a, a2, b⟩ | ⟨a, a2, b⟩ | ⟨a, a2, b⟩ | ⟨a, a1, a2, b⟩ <;> rw [e] at b <;> cases b
  · refine ⟨by omega, by omega, by omega, by omega, ?_, fun hh => by omega, fun hh => absurd hh (by decide)⟩
    simp only [cellOf, plc, reduceIte]
    rw [if_neg (by omega)]
    omega
  · refine ⟨by omega, by omega, by omega, by omega, ?_, fun hh => by omega, fun hh => absurd hh (by decide)⟩
    simp only [cellOf, plc, reduceIte, Int.reduceEq]
    rw [if_neg (by omega)]
    omega
  · refine ⟨by omega, by omega, by omega, by omega, ?_, fun hh => by omega, fun _ => rfl⟩
    simp [cellOf, nCu, a, a2]
  · refine ⟨by omega, by omega, by omega, by omega, ?_, fun hh => by omega, fun _ => rfl⟩
    simp [cellOf, nCl, a, a1, a2]
  · refine ⟨by omega, by omega, by omega, by omega, ?_, fun hh => by omega, fun _ => rfl⟩
    simp [cellOf, nTi, a, a2]
  · refine ⟨by omega, by omega, by omega, by omega, ?_, fun hh => by omega, fun _ => rfl⟩
    simp [cellOf, nSe, a, a2]
  · refine ⟨by omega, by omega, by omega, by omega, ?_, fun hh => by omega, fun _ => rfl⟩
    simp [cellOf, nNe, a, a2]
  · have hs := hms a
    have hma : 0 ≤ nMa V n := by unfold nMa; rw [if_neg a]; split <;> omega
    refine ⟨by omega, by omega, by omega, by omega, ?_, fun hh => by omega, fun hh => ?_⟩
    · unfold cellOf
      rw [if_neg (by omega), if_neg (by omega), if_neg (by omega), if_neg (by omega), if_neg (by omega), if_neg (by omega), if_neg (by omega), if_pos rfl]
      unfold plc
      rw [if_neg (by omega)]
      omega
    · rcases hm with hm | hm | hm <;> rw [hm] at hh <;> exact absurd hh (by decide)
/-- a cell that there is not -/
theorem use_out (V n C c : Int) (h : c < 0 ∨ nCe V n C ≤ c) : useN V n C c = (0, 0) := by
  unfold useN useL
  rw [if_pos h]
theorem came_small {w : World} {a : Option Addr} {len cap : Nat} {ups : List (List Int)} (h : Came w a len cap ups) (hb : longB ups = false) : (∀ l ∈ ups, l.length ≤ 1000000) ∧ ups.length ≤ 1000000 := by
  obtain ⟨h1, h2⟩ := longB_no hb
  exact ⟨fun l hl => by have := h2 l hl; omega, by omega⟩
theorem numOk {V W C P : Int} {ups : List (List Int)} (ok : Ok V W C P ups) : NumOk V ups.length C := ⟨ok.v1, ok.v5, by omega, by have := ok.rt.six; omega, ok.c2, ok.c64⟩
theorem kind_at {V W C P S : Int} {ups : List (List Int)} (ok : Ok V W C P ups) (a : Option Addr) (cap : Nat) (w : World) (E : Parts w) (c : Int) :
    Calls Tryz.prog 73 #[layV V W C P S (.slice a ups.length cap) ups.length, .int .i64 c] w fun e w' => e = .returned (.int .i64 (pKind (useN V ups.length C c).1.toNat)) ∧ Ext w w' := by
  have hb := num_bounds (numOk ok)
  exact lKind V W C P S a ups.length cap (nCu V ups.length) (nCl V ups.length) (nTi V ups.length) (nSe V ups.length) (nNe V ups.length) (nMa V ups.length) (nSl V ups.length C) (nCe V ups.length C) c w (by omega) (by omega) (by omega) (by omega) E
theorem first_at {V W C P S : Int} {ups : List (List Int)} (ok : Ok V W C P ups) (a : Option Addr) (cap : Nat) (w : World) (hL : ListsV w (.slice a ups.length cap) ups) (hll : ∀ l ∈ ups, l.length ≤ 1000000) (hn : ups.length ≤ 1000000) (hg : ckC V W C P ups = 0) (hS0 : 0 ≤ S) (hS1 : S < 18446744073709551616) (c : Int) :
    Calls Tryz.prog 69 #[layV V W C P S (.slice a ups.length cap) ups.length, .int .i64 c] w fun e w' => e = .returned (.int .u64 (fst W C S (useN V ups.length C c).1 (useN V ups.length C c).2)) ∧ Ext w w' := by
  have hok := numOk ok
  have hb := num_bounds hok
  obtain ⟨⟨k, i⟩, e⟩ : ∃ p, p = useN V ups.length C c := ⟨_, rfl⟩
  have hi : k = 7 ∨ k = 8 ∨ k = 9 → 0 ≤ i ∧ i < C := by
    intro hk
    by_cases hc : c < 0 ∨ nCe V ups.length C ≤ c
    · rw [use_out V ups.length C c hc] at e
      cases e
      omega
    · obtain ⟨a1, a2, a3, a4, a5, a6, a7⟩ := use_in hok (by omega) (by omega) e.symm
      exact ⟨a3, a6 hk⟩
  rw [← e]
  rcases ok.wd with rfl | rfl
  · exact lFirst32 V C P S a cap ups (nCu V ups.length) (nCl V ups.length) (nTi V ups.length) (nSe V ups.length) (nNe V ups.length) (nMa V ups.length) (nSl V ups.length C) (nCe V ups.length C) c k i w hL hll hn hg hS0 hS1 (by omega) (by omega) (by omega) (by omega) e.symm hi
  · exact lFirst64 V C P S a cap ups (nCu V ups.length) (nCl V ups.length) (nTi V ups.length) (nSe V ups.length) (nNe V ups.length) (nMa V ups.length) (nSl V ups.length C) (nCe V ups.length C) c k i w hL hll hn hg hS0 hS1 (by omega) (by omega) (by omega) (by omega) e.symm hi
end Go.Proofs.YtkmfamidahlgiaaGreatDoor
