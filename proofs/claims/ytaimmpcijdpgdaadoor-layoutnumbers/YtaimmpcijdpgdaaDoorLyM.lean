/- layout's numbers and names: which cell is what, that names are each one's own. -/
import Derived.Test.YtaimmpcijdpgdaaDoorLyN
import Derived.Test.YtaimmpcijdpgdaaDoorLyR2
namespace Go.Proofs.YtaimmpcijdpgdaaDoor
open Go.RowKit
set_option linter.unusedVariables false
set_option linter.unusedSimpArgs false
set_option maxHeartbeats 2000000
/-! numerals -/
def valD (l : List UInt8) : Nat := l.foldl (fun acc b => acc * 10 + (b.toNat - 48)) 0
theorem valD_snoc (l : List UInt8) (c : UInt8) : valD (l ++ [c]) = valD l * 10 + (c.toNat - 48) := by
  unfold valD
  rw [List.foldl_append]
  rfl
theorem digit_nat (d : Nat) (h : d < 10) : (UInt8.ofNat (48 + d)).toNat = 48 + d := by rw [UInt8.toNat_ofNat']; omega
theorem valD_dec (k : Nat) : ∀ x, x < k → valD (Lib.decDigits x) = x ∧ Lib.decDigits x ≠ [] ∧ ∀ b ∈ Lib.decDigits x, 48 ≤ b.toNat := by
  induction k with
  | zero => intro x h; omega
  | succ k ih =>
    intro x h
    rw [Lib.decDigits]
    by_cases h10 : x < 10
    · rw [dif_pos h10]
      refine ⟨?_, by simp, ?_⟩
      · show 0 * 10 + ((UInt8.ofNat (48 + x)).toNat - 48) = x
        rw [digit_nat x h10]
        omega
      · intro b hb
        have : b = UInt8.ofNat (48 + x) := by simpa using hb
        rw [this, digit_nat x h10]
        omega
    · rw [dif_neg h10]
      obtain ⟨h1, h2, h3⟩ := ih (x / 10) (by omega)
      refine ⟨?_, by simp, ?_⟩
      · rw [valD_snoc, h1, digit_nat _ (by omega)]
        omega
      · intro b hb
        rcases List.mem_append.1 hb with hb | hb
        · exact h3 b hb
        · have : b = UInt8.ofNat (48 + x % 10) := by simpa using hb
          rw [this, digit_nat _ (by omega)]
          omega
theorem dec_inj {x y : Nat} (h : Lib.decDigits x = Lib.decDigits y) : x = y := by
  rw [← (valD_dec (x + 1) x (by omega)).1, h, (valD_dec (y + 1) y (by omega)).1]
theorem dec_head (x : Nat) (l : List UInt8) : Lib.decDigits x ≠ 45 :: l := fun h => by
  have := (valD_dec (x + 1) x (by omega)).2.2 45 (by rw [h]; exact List.mem_cons_self)
  revert this
  decide
theorem itoa_inj {i j : Int} (h : Lib.itoa i = Lib.itoa j) : i = j := by
  unfold Lib.itoa at h
  split at h <;> split at h
  · have := dec_inj (List.cons.inj h).2
    omega
  · exact absurd h.symm (dec_head _ _)
  · exact absurd h (dec_head _ _)
  · have := dec_inj h
    omega
/-! names -/
def pl (k : Nat) : List UInt8 := [[], [103, 97, 116, 101], [99, 117, 114, 115, 111, 114], [99, 108, 97, 105, 109], [116, 105, 99, 107, 101, 116], [115, 101, 114, 118, 105, 110, 103], [110, 101, 120, 116], [109, 97, 114, 107], [115, 116, 97, 109, 112], [100, 111, 110, 101], [115, 108, 111, 116]].getD k []
theorem tx_inj {a b : List UInt8} (h : tx a = tx b) : a = b := by
  have := congrArg (fun s => s.data.toList) h
  simpa [tx] using this
theorem ten {k : Nat} (h1 : 1 ≤ k) (h2 : k ≤ 10) : k = 1 ∨ k = 2 ∨ k = 3 ∨ k = 4 ∨ k = 5 ∨ k = 6 ∨ k = 7 ∨ k = 8 ∨ k = 9 ∨ k = 10 := by omega
theorem pName_tx {k : Nat} (h2 : k ≤ 10) : pName k = tx (pl k) := by
  by_cases h : k = 0
  · subst h; rfl
  · rcases ten (by omega) h2 with rfl | rfl | rfl | rfl | rfl | rfl | rfl | rfl | rfl | rfl <;> rfl
def nlOf (k : Nat) (i : Int) : List UInt8 := pl k ++ (if pMany k then Lib.itoa i else [])
theorem nm_tx {k : Nat} (i : Int) (h2 : k ≤ 10) : nmOf k i = tx (nlOf k i) := by
  unfold nmOf nlOf
  cases pMany k
  · simp [pName_tx h2]
  · simp [pName_tx h2, tx_append]
theorem nl_inj {k k' : Nat} {i i' : Int} (h1 : 1 ≤ k) (h2 : k ≤ 10) (h3 : 1 ≤ k') (h4 : k' ≤ 10) (h : nlOf k i = nlOf k' i') : k = k' := by
  unfold nlOf at h
  rcases ten h1 h2 with rfl | rfl | rfl | rfl | rfl | rfl | rfl | rfl | rfl | rfl <;> rcases ten h3 h4 with rfl | rfl | rfl | rfl | rfl | rfl | rfl | rfl | rfl | rfl <;> first | rfl | (exfalso; simp [pl] at h)
theorem nm_inj {k k' : Nat} {i i' : Int} (h1 : 1 ≤ k) (h2 : k ≤ 10) (h3 : 1 ≤ k') (h4 : k' ≤ 10) (h : nmOf k i = nmOf k' i') : k = k' ∧ (pMany k = true → i = i') := by
  rw [nm_tx i h2, nm_tx i' h4] at h
  have h5 := tx_inj h
  have h6 := nl_inj h1 h2 h3 h4 h5
  subst h6
  refine ⟨rfl, fun hm => ?_⟩
  unfold nlOf at h5
  rw [hm] at h5
  exact itoa_inj (List.append_cancel_left h5)
/-! which cell is what -/
def useN (V n C c : Int) : Int × Int := useL V n (nCu V n) (nCl V n) (nTi V n) (nSe V n) (nNe V n) (nMa V n) (nSl V n C) (nCe V n C) c
/-- the cell that is for this, or -1 -/
def cellOf (V n C k i : Int) : Int :=
  if k = 1 then plc 0 n i else if k = 2 then nCu V n else if k = 3 then nCl V n else if k = 4 then nTi V n else if k = 5 then nSe V n else if k = 6 then nNe V n
  else if k = 10 then plc (nSl V n C) C i else if k = mrk V then plc (nMa V n) C i else -1
structure NumOk (V n C : Int) : Prop where
  v1 : 1 ≤ V
  v5 : V ≤ 5
  n0 : 0 ≤ n
  n6 : n ≤ 6
  c2 : 2 ≤ C
  c64 : C ≤ 64
theorem five {V : Int} (h1 : 1 ≤ V) (h5 : V ≤ 5) : V = 1 ∨ V = 2 ∨ V = 3 ∨ V = 4 ∨ V = 5 := by omega
theorem num_bounds {V n C : Int} (h : NumOk V n C) : 0 ≤ nSl V n C ∧ nSl V n C ≤ 500 ∧ -1 ≤ nMa V n ∧ nMa V n ≤ 500 ∧ 0 < nCe V n C ∧ nCe V n C ≤ 500 := by
  obtain ⟨h1, h2, h3, h4, h5, h6⟩ := h
  unfold nCe nSl nMa
  rcases five h1 h2 with rfl | rfl | rfl | rfl | rfl <;> simp <;> omega
/-- what a cell that there is may be for -/
theorem use_cases {V n C c : Int} (h : NumOk V n C) (h0 : 0 ≤ c) (hc : c < nCe V n C) :
    (c < n ∧ useN V n C c = (1, c)) ∨ (nSl V n C ≤ c ∧ useN V n C c = (10, c - nSl V n C)) ∨ (V = 1 ∧ c = n ∧ useN V n C c = (2, 0)) ∨ (V ≠ 1 ∧ V ≠ 5 ∧ c = n ∧ useN V n C c = (3, 0)) ∨
    (V = 5 ∧ c = n ∧ useN V n C c = (4, 0)) ∨ (V = 5 ∧ c = n + 1 ∧ useN V n C c = (5, 0)) ∨ (V = 5 ∧ c = n + 2 ∧ useN V n C c = (6, 0)) ∨ (V ≠ 1 ∧ nMa V n ≤ c ∧ c < nSl V n C ∧ useN V n C c = (mrk V, c - nMa V n)) := by
  obtain ⟨h1, h2, h3, h4, h5, h6⟩ := h
  have e0 : ¬ (c < 0 ∨ nCe V n C ≤ c) := by omega
  unfold useN useL
  rw [if_neg e0]
  by_cases k1 : c < n
  · exact .inl ⟨k1, by rw [if_pos k1]⟩
  rw [if_neg k1]
  by_cases k2 : nSl V n C ≤ c
  · exact .inr (.inl ⟨k2, by rw [if_pos k2]⟩)
  rw [if_neg k2]
  rcases five h1 h2 with rfl | rfl | rfl | rfl | rfl <;> simp only [nCu, nCl, nTi, nSe, nNe, nMa, nSl] at k2 ⊢ <;> simp at k2 ⊢
  · have : c = n := by omega
    simp [this]
  · have e : ¬ c = -1 := by omega
    simp only [if_neg e]
    by_cases hn : c = n
    · simp [hn]
    · simp [hn]; omega
  · have e : ¬ c = -1 := by omega
    simp only [if_neg e]
    by_cases hn : c = n
    · simp [hn]
    · simp [hn]; omega
  · have e : ¬ c = -1 := by omega
    simp only [if_neg e]
    by_cases hn : c = n
    · simp [hn]
    · simp [hn]; omega
  · have e : ¬ c = -1 := by omega
    simp only [if_neg e]
    by_cases hn : c = n
    · simp [hn]
    by_cases hn1 : c = n + 1
    · have h' : ¬ (n + 1 = n) := by omega
      simp [hn1, h']
    by_cases hn2 : c = n + 2
    · have h' : ¬ (n + 2 = n) := by omega
      simp [hn2, h']
    · simp [hn, hn1, hn2]; omega
/-- a cell that there is: what it is for stands between bounds, and that is its number -/
theorem use_in {V n C c : Int} (h : NumOk V n C) (h0 : 0 ≤ c) (hc : c < nCe V n C) {k i : Int} (e : useN V n C c = (k, i)) :
    1 ≤ k ∧ k ≤ 10 ∧ 0 ≤ i ∧ i < 64 ∧ cellOf V n C k i = c ∧ (k = 7 ∨ k = 8 ∨ k = 9 → i < C) ∧ (pMany k.toNat = false → i = 0) := by
  have hb := num_bounds h
  have hm : mrk V = 7 ∨ mrk V = 8 ∨ mrk V = 9 := by
    unfold mrk
    by_cases h4 : V = 4
    · simp [h4]
    by_cases h5 : V = 5
    · simp [h5]
    · simp [h4, h5]
  have hce : nCe V n C = nSl V n C + C := rfl
  have hms : V ≠ 1 → nSl V n C = nMa V n + C := fun h1 => by unfold nSl nMa; rw [if_neg h1, if_neg h1]; split <;> omega
  have h6 := h.c64
  have h5 := h.c2
  have h4 := h.n6
  have h3 := h.n0
  rcases use_cases h h0 hc with ⟨a, b⟩ | ⟨a, b⟩ | ⟨a, a2, b⟩ | ⟨a, a1, a2, b⟩ | ⟨a, a2, b⟩ | ⟨a, a2, b⟩ | ⟨a, a2, b⟩ | ⟨a, a1, a2, b⟩ <;> rw [e] at b <;> cases b
  · refine ⟨by omega, by omega, by omega, by omega, ?_, fun hh => by omega, fun hh => absurd hh (by decide)⟩
    simp only [cellOf, plc, reduceIte]
    rw [if_neg (by omega)]
    omega
  · refine ⟨by omega, by omega, by omega, by omega, ?_, fun hh => by omega, fun hh => absurd hh (by decide)⟩
    simp only [cellOf, plc, reduceIte, Int.reduceEq]
    rw [if_neg (by omega)]
    omega
  · refine ⟨by omega, by omega, by omega, by omega, ?_, fun hh => by omega, fun _ => rfl⟩
    simp [cellOf, nCu, a, a2]
  · refine ⟨by omega, by omega, by omega, by omega, ?_, fun hh => by omega, fun _ => rfl⟩
    simp [cellOf, nCl, a, a1, a2]
  · refine ⟨by omega, by omega, by omega, by omega, ?_, fun hh => by omega, fun _ => rfl⟩
    simp [cellOf, nTi, a, a2]
  · refine ⟨by omega, by omega, by omega, by omega, ?_, fun hh => by omega, fun _ => rfl⟩
    simp [cellOf, nSe, a, a2]
  · refine ⟨by omega, by omega, by omega, by omega, ?_, fun hh => by omega, fun _ => rfl⟩
    simp [cellOf, nNe, a, a2]
  · have hs := hms a
    have hma : 0 ≤ nMa V n := by unfold nMa; rw [if_neg a]; split <;> omega
    refine ⟨by omega, by omega, by omega, by omega, ?_, fun hh => by omega, fun hh => ?_⟩
    · unfold cellOf
      rw [if_neg (by omega), if_neg (by omega), if_neg (by omega), if_neg (by omega), if_neg (by omega), if_neg (by omega), if_neg (by omega), if_pos rfl]
      unfold plc
      rw [if_neg (by omega)]
      omega
    · rcases hm with hm | hm | hm <;> rw [hm] at hh <;> exact absurd hh (by decide)
theorem use_of1 {V n C i : Int} (hv1 : 1 ≤ V) (hv5 : V ≤ 5) (h3 : 0 ≤ n) (h4 : n ≤ 6) (h5 : 2 ≤ C) (h6 : C ≤ 64) (hi : pMany 1 = false → i = 0) (hc : cellOf V n C 1 i ≠ -1) :
    0 ≤ cellOf V n C 1 i ∧ cellOf V n C 1 i < nCe V n C ∧ useN V n C (cellOf V n C 1 i) = (1, i) := by
  obtain ⟨c, e⟩ : ∃ c, c = cellOf V n C 1 i := ⟨_, rfl⟩
  rw [← e] at hc ⊢
  rcases five hv1 hv5 with rfl | rfl | rfl | rfl | rfl
  all_goals
    simp only [cellOf, mrk, nCu, nCl, nTi, nSe, nNe, nMa, nSl, reduceIte, Int.reduceEq, or_self, or_true, true_or, false_or, or_false] at e
    first
      | exact absurd e hc
      | (have hi0 : i = 0 := hi rfl
         subst hi0
         refine ⟨by omega, by simp only [nCe, nSl, reduceIte, Int.reduceEq]; omega, ?_⟩
         unfold useN useL
         simp only [nCu, nCl, nTi, nSe, nNe, nMa, nSl, nCe, mrk, reduceIte, Int.reduceEq, or_self, or_true, true_or, false_or, or_false]
         repeat (first | rw [if_neg (by omega)] | rw [if_pos (by omega)]))
      | (unfold plc at e
         split at e
         · exact absurd e hc
         · rename_i hq
           refine ⟨by omega, by simp only [nCe, nSl, reduceIte, Int.reduceEq]; omega, ?_⟩
           unfold useN useL
           simp only [nCu, nCl, nTi, nSe, nNe, nMa, nSl, nCe, mrk, reduceIte, Int.reduceEq, or_self, or_true, true_or, false_or, or_false]
           repeat (first | rw [if_neg (by omega)] | rw [if_pos (by omega)])
           exact Prod.ext rfl (by show _ = i; omega))
theorem use_of2 {V n C i : Int} (hv1 : 1 ≤ V) (hv5 : V ≤ 5) (h3 : 0 ≤ n) (h4 : n ≤ 6) (h5 : 2 ≤ C) (h6 : C ≤ 64) (hi : pMany 2 = false → i = 0) (hc : cellOf V n C 2 i ≠ -1) :
    0 ≤ cellOf V n C 2 i ∧ cellOf V n C 2 i < nCe V n C ∧ useN V n C (cellOf V n C 2 i) = (2, i) := by
  obtain ⟨c, e⟩ : ∃ c, c = cellOf V n C 2 i := ⟨_, rfl⟩
  rw [← e] at hc ⊢
  rcases five hv1 hv5 with rfl | rfl | rfl | rfl | rfl
  all_goals
    simp only [cellOf, mrk, nCu, nCl, nTi, nSe, nNe, nMa, nSl, reduceIte, Int.reduceEq, or_self, or_true, true_or, false_or, or_false] at e
    first
      | exact absurd e hc
      | (have hi0 : i = 0 := hi rfl
         subst hi0
         refine ⟨by omega, by simp only [nCe, nSl, reduceIte, Int.reduceEq]; omega, ?_⟩
         unfold useN useL
         simp only [nCu, nCl, nTi, nSe, nNe, nMa, nSl, nCe, mrk, reduceIte, Int.reduceEq, or_self, or_true, true_or, false_or, or_false]
         repeat (first | rw [if_neg (by omega)] | rw [if_pos (by omega)]))
      | (unfold plc at e
         split at e
         · exact absurd e hc
         · rename_i hq
           refine ⟨by omega, by simp only [nCe, nSl, reduceIte, Int.reduceEq]; omega, ?_⟩
           unfold useN useL
           simp only [nCu, nCl, nTi, nSe, nNe, nMa, nSl, nCe, mrk, reduceIte, Int.reduceEq, or_self, or_true, true_or, false_or, or_false]
           repeat (first | rw [if_neg (by omega)] | rw [if_pos (by omega)])
           exact Prod.ext rfl (by show _ = i; omega))
theorem use_of3 {V n C i : Int} (hv1 : 1 ≤ V) (hv5 : V ≤ 5) (h3 : 0 ≤ n) (h4 : n ≤ 6) (h5 : 2 ≤ C) (h6 : C ≤ 64) (hi : pMany 3 = false → i = 0) (hc : cellOf V n C 3 i ≠ -1) :
    0 ≤ cellOf V n C 3 i ∧ cellOf V n C 3 i < nCe V n C ∧ useN V n C (cellOf V n C 3 i) = (3, i) := by
  obtain ⟨c, e⟩ : ∃ c, c = cellOf V n C 3 i := ⟨_, rfl⟩
  rw [← e] at hc ⊢
  rcases five hv1 hv5 with rfl | rfl | rfl | rfl | rfl
  all_goals
    simp only [cellOf, mrk, nCu, nCl, nTi, nSe, nNe, nMa, nSl, reduceIte, Int.reduceEq, or_self, or_true, true_or, false_or, or_false] at e
    first
      | exact absurd e hc
      | (have hi0 : i = 0 := hi rfl
         subst hi0
         refine ⟨by omega, by simp only [nCe, nSl, reduceIte, Int.reduceEq]; omega, ?_⟩
         unfold useN useL
         simp only [nCu, nCl, nTi, nSe, nNe, nMa, nSl, nCe, mrk, reduceIte, Int.reduceEq, or_self, or_true, true_or, false_or, or_false]
         repeat (first | rw [if_neg (by omega)] | rw [if_pos (by omega)]))
      | (unfold plc at e
         split at e
         · exact absurd e hc
         · rename_i hq
           refine ⟨by omega, by simp only [nCe, nSl, reduceIte, Int.reduceEq]; omega, ?_⟩
           unfold useN useL
           simp only [nCu, nCl, nTi, nSe, nNe, nMa, nSl, nCe, mrk, reduceIte, Int.reduceEq, or_self, or_true, true_or, false_or, or_false]
           repeat (first | rw [if_neg (by omega)] | rw [if_pos (by omega)])
           exact Prod.ext rfl (by show _ = i; omega))
theorem use_of4 {V n C i : Int} (hv1 : 1 ≤ V) (hv5 : V ≤ 5) (h3 : 0 ≤ n) (h4 : n ≤ 6) (h5 : 2 ≤ C) (h6 : C ≤ 64) (hi : pMany 4 = false → i = 0) (hc : cellOf V n C 4 i ≠ -1) :
    0 ≤ cellOf V n C 4 i ∧ cellOf V n C 4 i < nCe V n C ∧ useN V n C (cellOf V n C 4 i) = (4, i) := by
  obtain ⟨c, e⟩ : ∃ c, c = cellOf V n C 4 i := ⟨_, rfl⟩
  rw [← e] at hc ⊢
  rcases five hv1 hv5 with rfl | rfl | rfl | rfl | rfl
  all_goals
    simp only [cellOf, mrk, nCu, nCl, nTi, nSe, nNe, nMa, nSl, reduceIte, Int.reduceEq, or_self, or_true, true_or, false_or, or_false] at e
    first
      | exact absurd e hc
      | (have hi0 : i = 0 := hi rfl
         subst hi0
         refine ⟨by omega, by simp only [nCe, nSl, reduceIte, Int.reduceEq]; omega, ?_⟩
         unfold useN useL
         simp only [nCu, nCl, nTi, nSe, nNe, nMa, nSl, nCe, mrk, reduceIte, Int.reduceEq, or_self, or_true, true_or, false_or, or_false]
         repeat (first | rw [if_neg (by omega)] | rw [if_pos (by omega)]))
      | (unfold plc at e
         split at e
         · exact absurd e hc
         · rename_i hq
           refine ⟨by omega, by simp only [nCe, nSl, reduceIte, Int.reduceEq]; omega, ?_⟩
           unfold useN useL
           simp only [nCu, nCl, nTi, nSe, nNe, nMa, nSl, nCe, mrk, reduceIte, Int.reduceEq, or_self, or_true, true_or, false_or, or_false]
           repeat (first | rw [if_neg (by omega)] | rw [if_pos (by omega)])
           exact Prod.ext rfl (by show _ = i; omega))
theorem use_of5 {V n C i : Int} (hv1 : 1 ≤ V) (hv5 : V ≤ 5) (h3 : 0 ≤ n) (h4 : n ≤ 6) (h5 : 2 ≤ C) (h6 : C ≤ 64) (hi : pMany 5 = false → i = 0) (hc : cellOf V n C 5 i ≠ -1) :
    0 ≤ cellOf V n C 5 i ∧ cellOf V n C 5 i < nCe V n C ∧ useN V n C (cellOf V n C 5 i) = (5, i) := by
  obtain ⟨c, e⟩ : ∃ c, c = cellOf V n C 5 i := ⟨_, rfl⟩
  rw [← e] at hc ⊢
  rcases five hv1 hv5 with rfl | rfl | rfl | rfl | rfl
  all_goals
    simp only [cellOf, mrk, nCu, nCl, nTi, nSe, nNe, nMa, nSl, reduceIte, Int.reduceEq, or_self, or_true, true_or, false_or, or_false] at e
    first
      | exact absurd e hc
      | (have hi0 : i = 0 := hi rfl
         subst hi0
         refine ⟨by omega, by simp only [nCe, nSl, reduceIte, Int.reduceEq]; omega, ?_⟩
         unfold useN useL
         simp only [nCu, nCl, nTi, nSe, nNe, nMa, nSl, nCe, mrk, reduceIte, Int.reduceEq, or_self, or_true, true_or, false_or, or_false]
         repeat (first | rw [if_neg (by omega)] | rw [if_pos (by omega)]))
      | (unfold plc at e
         split at e
         · exact absurd e hc
         · rename_i hq
           refine ⟨by omega, by simp only [nCe, nSl, reduceIte, Int.reduceEq]; omega, ?_⟩
           unfold useN useL
           simp only [nCu, nCl, nTi, nSe, nNe, nMa, nSl, nCe, mrk, reduceIte, Int.reduceEq, or_self, or_true, true_or, false_or, or_false]
           repeat (first | rw [if_neg (by omega)] | rw [if_pos (by omega)])
           exact Prod.ext rfl (by show _ = i; omega))
theorem use_of6 {V n C i : Int} (hv1 : 1 ≤ V) (hv5 : V ≤ 5) (h3 : 0 ≤ n) (h4 : n ≤ 6) (h5 : 2 ≤ C) (h6 : C ≤ 64) (hi : pMany 6 = false → i = 0) (hc : cellOf V n C 6 i ≠ -1) :
    0 ≤ cellOf V n C 6 i ∧ cellOf V n C 6 i < nCe V n C ∧ useN V n C (cellOf V n C 6 i) = (6, i) := by
  obtain ⟨c, e⟩ : ∃ c, c = cellOf V n C 6 i := ⟨_, rfl⟩
  rw [← e] at hc ⊢
  rcases five hv1 hv5 with rfl | rfl | rfl | rfl | rfl
  all_goals
    simp only [cellOf, mrk, nCu, nCl, nTi, nSe, nNe, nMa, nSl, reduceIte, Int.reduceEq, or_self, or_true, true_or, false_or, or_false] at e
    first
      | exact absurd e hc
      | (have hi0 : i = 0 := hi rfl
         subst hi0
         refine ⟨by omega, by simp only [nCe, nSl, reduceIte, Int.reduceEq]; omega, ?_⟩
         unfold useN useL
         simp only [nCu, nCl, nTi, nSe, nNe, nMa, nSl, nCe, mrk, reduceIte, Int.reduceEq, or_self, or_true, true_or, false_or, or_false]
         repeat (first | rw [if_neg (by omega)] | rw [if_pos (by omega)]))
      | (unfold plc at e
         split at e
         · exact absurd e hc
         · rename_i hq
           refine ⟨by omega, by simp only [nCe, nSl, reduceIte, Int.reduceEq]; omega, ?_⟩
           unfold useN useL
           simp only [nCu, nCl, nTi, nSe, nNe, nMa, nSl, nCe, mrk, reduceIte, Int.reduceEq, or_self, or_true, true_or, false_or, or_false]
           repeat (first | rw [if_neg (by omega)] | rw [if_pos (by omega)])
           exact Prod.ext rfl (by show _ = i; omega))
theorem use_of7 {V n C i : Int} (hv1 : 1 ≤ V) (hv5 : V ≤ 5) (h3 : 0 ≤ n) (h4 : n ≤ 6) (h5 : 2 ≤ C) (h6 : C ≤ 64) (hi : pMany 7 = false → i = 0) (hc : cellOf V n C 7 i ≠ -1) :
    0 ≤ cellOf V n C 7 i ∧ cellOf V n C 7 i < nCe V n C ∧ useN V n C (cellOf V n C 7 i) = (7, i) := by
  obtain ⟨c, e⟩ : ∃ c, c = cellOf V n C 7 i := ⟨_, rfl⟩
  rw [← e] at hc ⊢
  rcases five hv1 hv5 with rfl | rfl | rfl | rfl | rfl
  all_goals
    simp only [cellOf, mrk, nCu, nCl, nTi, nSe, nNe, nMa, nSl, reduceIte, Int.reduceEq, or_self, or_true, true_or, false_or, or_false] at e
    first
      | exact absurd e hc
      | (have hi0 : i = 0 := hi rfl
         subst hi0
         refine ⟨by omega, by simp only [nCe, nSl, reduceIte, Int.reduceEq]; omega, ?_⟩
         unfold useN useL
         simp only [nCu, nCl, nTi, nSe, nNe, nMa, nSl, nCe, mrk, reduceIte, Int.reduceEq, or_self, or_true, true_or, false_or, or_false]
         repeat (first | rw [if_neg (by omega)] | rw [if_pos (by omega)]))
      | (unfold plc at e
         split at e
         · exact absurd e hc
         · rename_i hq
           refine ⟨by omega, by simp only [nCe, nSl, reduceIte, Int.reduceEq]; omega, ?_⟩
           unfold useN useL
           simp only [nCu, nCl, nTi, nSe, nNe, nMa, nSl, nCe, mrk, reduceIte, Int.reduceEq, or_self, or_true, true_or, false_or, or_false]
           repeat (first | rw [if_neg (by omega)] | rw [if_pos (by omega)])
           exact Prod.ext rfl (by show _ = i; omega))
theorem use_of8 {V n C i : Int} (hv1 : 1 ≤ V) (hv5 : V ≤ 5) (h3 : 0 ≤ n) (h4 : n ≤ 6) (h5 : 2 ≤ C) (h6 : C ≤ 64) (hi : pMany 8 = false → i = 0) (hc : cellOf V n C 8 i ≠ -1) :
    0 ≤ cellOf V n C 8 i ∧ cellOf V n C 8 i < nCe V n C ∧ useN V n C (cellOf V n C 8 i) = (8, i) := by
  obtain ⟨c, e⟩ : ∃ c, c = cellOf V n C 8 i := ⟨_, rfl⟩
  rw [← e] at hc ⊢
  rcases five hv1 hv5 with rfl | rfl | rfl | rfl | rfl
  all_goals
    simp only [cellOf, mrk, nCu, nCl, nTi, nSe, nNe, nMa, nSl, reduceIte, Int.reduceEq, or_self, or_true, true_or, false_or, or_false] at e
    first
      | exact absurd e hc
      | (have hi0 : i = 0 := hi rfl
         subst hi0
         refine ⟨by omega, by simp only [nCe, nSl, reduceIte, Int.reduceEq]; omega, ?_⟩
         unfold useN useL
         simp only [nCu, nCl, nTi, nSe, nNe, nMa, nSl, nCe, mrk, reduceIte, Int.reduceEq, or_self, or_true, true_or, false_or, or_false]
         repeat (first | rw [if_neg (by omega)] | rw [if_pos (by omega)]))
      | (unfold plc at e
         split at e
         · exact absurd e hc
         · rename_i hq
           refine ⟨by omega, by simp only [nCe, nSl, reduceIte, Int.reduceEq]; omega, ?_⟩
           unfold useN useL
           simp only [nCu, nCl, nTi, nSe, nNe, nMa, nSl, nCe, mrk, reduceIte, Int.reduceEq, or_self, or_true, true_or, false_or, or_false]
           repeat (first | rw [if_neg (by omega)] | rw [if_pos (by omega)])
           exact Prod.ext rfl (by show _ = i; omega))
theorem use_of9 {V n C i : Int} (hv1 : 1 ≤ V) (hv5 : V ≤ 5) (h3 : 0 ≤ n) (h4 : n ≤ 6) (h5 : 2 ≤ C) (h6 : C ≤ 64) (hi : pMany 9 = false → i = 0) (hc : cellOf V n C 9 i ≠ -1) :
    0 ≤ cellOf V n C 9 i ∧ cellOf V n C 9 i < nCe V n C ∧ useN V n C (cellOf V n C 9 i) = (9, i) := by
  obtain ⟨c, e⟩ : ∃ c, c = cellOf V n C 9 i := ⟨_, rfl⟩
  rw [← e] at hc ⊢
  rcases five hv1 hv5 with rfl | rfl | rfl | rfl | rfl
  all_goals
    simp only [cellOf, mrk, nCu, nCl, nTi, nSe, nNe, nMa, nSl, reduceIte, Int.reduceEq, or_self, or_true, true_or, false_or, or_false] at e
    first
      | exact absurd e hc
      | (have hi0 : i = 0 := hi rfl
         subst hi0
         refine ⟨by omega, by simp only [nCe, nSl, reduceIte, Int.reduceEq]; omega, ?_⟩
         unfold useN useL
         simp only [nCu, nCl, nTi, nSe, nNe, nMa, nSl, nCe, mrk, reduceIte, Int.reduceEq, or_self, or_true, true_or, false_or, or_false]
         repeat (first | rw [if_neg (by omega)] | rw [if_pos (by omega)]))
      | (unfold plc at e
         split at e
         · exact absurd e hc
         · rename_i hq
           refine ⟨by omega, by simp only [nCe, nSl, reduceIte, Int.reduceEq]; omega, ?_⟩
           unfold useN useL
           simp only [nCu, nCl, nTi, nSe, nNe, nMa, nSl, nCe, mrk, reduceIte, Int.reduceEq, or_self, or_true, true_or, false_or, or_false]
           repeat (first | rw [if_neg (by omega)] | rw [if_pos (by omega)])
           exact Prod.ext rfl (by show _ = i; omega))
theorem use_of10 {V n C i : Int} (hv1 : 1 ≤ V) (hv5 : V ≤ 5) (h3 : 0 ≤ n) (h4 : n ≤ 6) (h5 : 2 ≤ C) (h6 : C ≤ 64) (hi : pMany 10 = false → i = 0) (hc : cellOf V n C 10 i ≠ -1) :
    0 ≤ cellOf V n C 10 i ∧ cellOf V n C 10 i < nCe V n C ∧ useN V n C (cellOf V n C 10 i) = (10, i) := by
  obtain ⟨c, e⟩ : ∃ c, c = cellOf V n C 10 i := ⟨_, rfl⟩
  rw [← e] at hc ⊢
  rcases five hv1 hv5 with rfl | rfl | rfl | rfl | rfl
  all_goals
    simp only [cellOf, mrk, nCu, nCl, nTi, nSe, nNe, nMa, nSl, reduceIte, Int.reduceEq, or_self, or_true, true_or, false_or, or_false] at e
    first
      | exact absurd e hc
      | (have hi0 : i = 0 := hi rfl
         subst hi0
         refine ⟨by omega, by simp only [nCe, nSl, reduceIte, Int.reduceEq]; omega, ?_⟩
         unfold useN useL
         simp only [nCu, nCl, nTi, nSe, nNe, nMa, nSl, nCe, mrk, reduceIte, Int.reduceEq, or_self, or_true, true_or, false_or, or_false]
         repeat (first | rw [if_neg (by omega)] | rw [if_pos (by omega)]))
      | (unfold plc at e
         split at e
         · exact absurd e hc
         · rename_i hq
           refine ⟨by omega, by simp only [nCe, nSl, reduceIte, Int.reduceEq]; omega, ?_⟩
           unfold useN useL
           simp only [nCu, nCl, nTi, nSe, nNe, nMa, nSl, nCe, mrk, reduceIte, Int.reduceEq, or_self, or_true, true_or, false_or, or_false]
           repeat (first | rw [if_neg (by omega)] | rw [if_pos (by omega)])
           exact Prod.ext rfl (by show _ = i; omega))
/-- .. and what has a number has that use -/
theorem use_of {V n C : Int} (h : NumOk V n C) {k i : Int} (h1 : 1 ≤ k) (h10 : k ≤ 10) (hi : pMany k.toNat = false → i = 0) (hc : cellOf V n C k i ≠ -1) :
    0 ≤ cellOf V n C k i ∧ cellOf V n C k i < nCe V n C ∧ useN V n C (cellOf V n C k i) = (k, i) := by
  obtain ⟨hv1, hv5, h3, h4, h5, h6⟩ := h
  have hk : k = 1 ∨ k = 2 ∨ k = 3 ∨ k = 4 ∨ k = 5 ∨ k = 6 ∨ k = 7 ∨ k = 8 ∨ k = 9 ∨ k = 10 := by omega
  rcases hk with rfl | rfl | rfl | rfl | rfl | rfl | rfl | rfl | rfl | rfl
  · exact use_of1 hv1 hv5 h3 h4 h5 h6 hi hc
  · exact use_of2 hv1 hv5 h3 h4 h5 h6 hi hc
  · exact use_of3 hv1 hv5 h3 h4 h5 h6 hi hc
  · exact use_of4 hv1 hv5 h3 h4 h5 h6 hi hc
  · exact use_of5 hv1 hv5 h3 h4 h5 h6 hi hc
  · exact use_of6 hv1 hv5 h3 h4 h5 h6 hi hc
  · exact use_of7 hv1 hv5 h3 h4 h5 h6 hi hc
  · exact use_of8 hv1 hv5 h3 h4 h5 h6 hi hc
  · exact use_of9 hv1 hv5 h3 h4 h5 h6 hi hc
  · exact use_of10 hv1 hv5 h3 h4 h5 h6 hi hc
/-- a cell's name -/
def nmC (V n C : Int) (c : Nat) : ByteArray := nmOf (useN V n C c).1.toNat (useN V n C c).2
theorem nmC_is {V n C : Int} (h : NumOk V n C) {c : Nat} (hc : (c : Int) < nCe V n C) {k : Nat} {i : Int} (h1 : 1 ≤ k) (h10 : k ≤ 10) (hi : pMany k = false → i = 0) : nmC V n C c = nmOf k i ↔ cellOf V n C k i = c := by
  obtain ⟨⟨k', i'⟩, e⟩ : ∃ p, p = useN V n C c := ⟨_, rfl⟩
  obtain ⟨a1, a2, a3, a4, a5, a6, a7⟩ := use_in h (by omega) hc e.symm
  unfold nmC
  rw [← e]
  simp only []
  constructor
  · intro hn
    obtain ⟨hk, hii⟩ := nm_inj (by omega) (by omega) h1 h10 hn
    have hk' : k' = k := by omega
    have : i' = i := by
      cases hm : pMany k'.toNat with
      | true => exact hii hm
      | false => rw [a7 hm, hi (by rw [← hk]; exact hm)]
    rw [← this, ← hk']
    exact a5
  · intro hce
    obtain ⟨_, _, u3⟩ := use_of h (k := k) (i := i) (by omega) (by omega) (by simpa using hi) (by omega)
    rw [hce, ← e] at u3
    cases u3
    simp
theorem cell_lt {V n C : Int} (h : NumOk V n C) {k i : Int} (h1 : 1 ≤ k) (h10 : k ≤ 10) (hi : pMany k.toNat = false → i = 0) : -1 ≤ cellOf V n C k i ∧ cellOf V n C k i < nCe V n C := by
  by_cases hc : cellOf V n C k i = -1
  · have := num_bounds h
    omega
  · obtain ⟨a, b, _⟩ := use_of h h1 h10 hi hc
    omega
theorem nmC_inj {V n C : Int} (h : NumOk V n C) {a b : Nat} (ha : (a : Int) < nCe V n C) (hb : (b : Int) < nCe V n C) (e : nmC V n C a = nmC V n C b) : a = b := by
  obtain ⟨⟨k, i⟩, eb⟩ : ∃ p, p = useN V n C b := ⟨_, rfl⟩
  obtain ⟨a1, a2, a3, a4, a5, a6, a7⟩ := use_in h (by omega) hb eb.symm
  have e2 : nmC V n C a = nmOf k.toNat i := by rw [e]; unfold nmC; rw [← eb]
  have := (nmC_is h ha (k := k.toNat) (i := i) (by omega) (by omega) a7).1 e2
  rw [show ((k.toNat : Nat) : Int) = k by omega] at this
  omega
/-- where a name is found, among the cells -/
theorem find_cell {V n C : Int} (h : NumOk V n C) {m : Nat} (hm : (m : Int) = nCe V n C) {k : Nat} {i : Int} (h1 : 1 ≤ k) (h10 : k ≤ 10) (hi : pMany k = false → i = 0) :
    findN (nmC V n C) (nmOf k i) m = if cellOf V n C k i = -1 then none else some (cellOf V n C k i).toNat := by
  by_cases hc : cellOf V n C k i = -1
  · rw [if_pos hc]
    refine findN_none fun c hcm e => ?_
    have := (nmC_is h (by omega) h1 h10 hi).1 e
    omega
  · rw [if_neg hc]
    obtain ⟨a, b, _⟩ := use_of h (k := k) (i := i) (by omega) (by omega) (by simpa using hi) hc
    refine findN_some (by omega) ((nmC_is h (by omega) h1 h10 hi).2 (by omega)) fun c hcm e => ?_
    have := (nmC_is h (by omega) h1 h10 hi).1 e
    omega
theorem find_own {V n C : Int} (h : NumOk V n C) {m : Nat} (hm : (m : Int) = nCe V n C) {c : Nat} (hc : c < m) : findN (nmC V n C) (nmC V n C c) m = some c :=
  findN_some hc rfl fun d hd e => by
    have := nmC_inj h (by omega) (by omega) e
    omega
/-! the document's list -/
theorem gateL_at (W S : Int) {m i : Nat} (h : i < m) : (gateL W S m)[i]? = some ⟨pName 1 ++ tx (Lib.itoa (i : Int)), 1, cutS W S⟩ := by simp [gateL, h]
theorem slotL_at (k : Nat) (W C S : Int) {m i : Nat} (h : i < m) : (slotL k W C S m)[i]? = some ⟨pName k ++ tx (Lib.itoa (i : Int)), pKind k, fst W C S k i⟩ := by simp [slotL, h]
theorem listD_at {V n C : Int} (h : NumOk V n C) (W S : Int) {N c : Nat} (hN : (N : Int) = n) (hc : (c : Int) < nCe V n C) {k i : Int} (e : useN V n C c = (k, i)) :
    (listD V W C S N)[c]? = some ⟨nmOf k.toNat i, pKind k.toNat, fst W C S k i⟩ := by
  have hg := gateL_len W S N
  have hs10 := slotL_len 10 W C S C.toNat
  have hs9 := slotL_len 9 W C S C.toNat
  have hs8 := slotL_len 8 W C S C.toNat
  have hs7 := slotL_len 7 W C S C.toNat
  have h6 := h.c64
  have h5 := h.c2
  have hce : nCe V n C = nSl V n C + C := rfl
  have hlv : ((varL V W C S).length : Int) = nSl V n C - n := by
    unfold varL nSl
    by_cases v1 : V = 1
    · simp [v1]; omega
    by_cases v5 : V = 5
    · simp [v5, hs9]; omega
    by_cases v4 : V = 4
    · simp [v4, hs8]; omega
    · simp [v1, v5, v4, hs7]; omega
  have hsl : n ≤ nSl V n C := by omega
  unfold listD
  rcases use_cases h (by omega) hc with ⟨a, b⟩ | ⟨a, b⟩ | ⟨a, a2, b⟩ | ⟨a, a1, a2, b⟩ | ⟨a, a2, b⟩ | ⟨a, a2, b⟩ | ⟨a, a2, b⟩ | ⟨a, a1, a2, b⟩ <;> rw [e] at b <;> cases b
  · rw [List.append_assoc, List.getElem?_append_left (by omega), gateL_at W S (by omega)]
    rfl
  · rw [List.getElem?_append_right (by rw [List.length_append]; omega), List.length_append, slotL_at 10 W C S (by omega)]
    have : (c : Int) - nSl V n C = ((c - ((gateL W S N).length + (varL V W C S).length) : Nat) : Int) := by omega
    rw [this]
    rfl
  · rw [List.append_assoc, List.getElem?_append_right (by omega), hg, show c - N = 0 by omega]
    subst a
    simp [varL, nmOf, pMany, pKind, fst]
  · rw [List.append_assoc, List.getElem?_append_right (by omega), hg, show c - N = 0 by omega]
    by_cases v4 : V = 4
    · subst v4
      simp [varL, nmOf, pMany, pKind, fst]
    · simp [varL, a, a1, v4, nmOf, pMany, pKind, fst]
  · rw [List.append_assoc, List.getElem?_append_right (by omega), hg, show c - N = 0 by omega]
    subst a
    simp [varL, nmOf, pMany, pKind, fst]
  · rw [List.append_assoc, List.getElem?_append_right (by omega), hg, show c - N = 1 by omega]
    subst a
    simp [varL, nmOf, pMany, pKind, fst]
  · rw [List.append_assoc, List.getElem?_append_right (by omega), hg, show c - N = 2 by omega]
    subst a
    simp [varL, nmOf, pMany, pKind, fst]
  · by_cases v5 : V = 5
    · subst v5
      simp [nMa, nSl] at a1 a2
      rw [List.append_assoc, List.getElem?_append_right (by omega), hg, List.getElem?_append_left (by simp [nSl] at hlv; omega)]
      have hx : (c : Int) - (n + 3) = ((c - N - 3 : Nat) : Int) := by omega
      have hv : varL 5 W C S = [⟨pName 4, 1, 0⟩, ⟨pName 5, 1, 0⟩, ⟨pName 6, 2, cutS W S⟩] ++ slotL 9 W C S C.toNat := by simp [varL]
      rw [hv, List.getElem?_append_right (by simp; omega)]
      simp only [List.length_cons, List.length_nil]
      rw [slotL_at 9 W C S (by omega), show nMa 5 n = n + 3 by simp [nMa], show mrk 5 = 9 by simp [mrk], hx]
      rfl
    · have hma : nMa V n = n + 1 := by simp [nMa, a, v5]
      have hsl2 : nSl V n C = n + 1 + C := by simp [nSl, a, v5]
      rw [List.append_assoc, List.getElem?_append_right (by omega), hg, List.getElem?_append_left (by omega)]
      have hx : (c : Int) - (n + 1) = ((c - N - 1 : Nat) : Int) := by omega
      by_cases v4 : V = 4
      · subst v4
        have hv : varL 4 W C S = [⟨pName 3, 1, cutS W S⟩] ++ slotL 8 W C S C.toNat := by simp [varL]
        rw [hv, List.getElem?_append_right (by simp; omega)]
        simp only [List.length_cons, List.length_nil]
        rw [slotL_at 8 W C S (by omega), hma, show mrk 4 = 8 by simp [mrk], hx]
        rfl
      · have hv : varL V W C S = [⟨pName 3, 1, cutS W S⟩] ++ slotL 7 W C S C.toNat := by simp [varL, a, v4, v5]
        rw [hv, List.getElem?_append_right (by simp; omega)]
        simp only [List.length_cons, List.length_nil]
        rw [slotL_at 7 W C S (by omega), hma, show mrk V = 7 by simp [mrk, v4, v5], hx]
        rfl
theorem listD_len {V n C : Int} (h : NumOk V n C) (W S : Int) {N : Nat} (hN : (N : Int) = n) : ((listD V W C S N).length : Int) = nCe V n C := by
  have h5 := h.c2
  unfold listD varL nCe nSl
  simp only [List.length_append, gateL_len, slotL_len]
  by_cases v1 : V = 1
  · simp [v1]; omega
  by_cases v5 : V = 5
  · simp [v5, slotL_len]; omega
  by_cases v4 : V = 4
  · simp [v4, slotL_len]; omega
  · simp [v1, v5, v4, slotL_len]; omega
end Go.Proofs.YtaimmpcijdpgdaaDoor
