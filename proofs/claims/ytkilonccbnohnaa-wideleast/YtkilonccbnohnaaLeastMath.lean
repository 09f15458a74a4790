/- Of numbers that stand near 0 the least one, and of counters that stand so near one. No program in sight. -/
import Derived.Test.YtkilonccbnohnaaLeast
namespace Go.Proofs.Ytkilonccbnohnaa
open Go.RowKit
set_option linter.unusedVariables false
def step (m n : Int) : Int := if n < m then n else m
def minL (m : Int) (ns : List Int) : Int := ns.foldl step m
def Near (n : Int) : Prop := -536870912 < n ∧ n < 536870912
theorem near_tmod (z : Int) : Near (z.tmod 536870912) := by
  unfold Near
  have h1 := Int.tmod_lt_of_pos z (show (0 : Int) < 536870912 by decide)
  have h2 := Int.lt_tmod_of_pos z (show (0 : Int) < 536870912 by decide)
  omega
theorem near_step {m n : Int} (hm : Near m) (hn : Near n) : Near (step m n) := by
  unfold step; split <;> assumption
theorem minL_near : ∀ (ns : List Int) (m : Int), Near m → (∀ n ∈ ns, Near n) → Near (minL m ns)
  | [], m, hm, _ => hm
  | n :: ns, m, hm, h => minL_near ns (step m n) (near_step hm (h n (by simp))) (fun x hx => h x (by simp [hx]))
theorem minL_le : ∀ (ns : List Int) (m : Int), minL m ns ≤ m ∧ ∀ n ∈ ns, minL m ns ≤ n
  | [], m => ⟨by simp [minL], by simp⟩
  | n :: ns, m => by
    have h := minL_le ns (step m n)
    have hs : step m n ≤ m ∧ step m n ≤ n := by unfold step; split <;> omega
    show minL (step m n) ns ≤ m ∧ ∀ x ∈ n :: ns, minL (step m n) ns ≤ x
    refine ⟨by omega, fun x hx => ?_⟩
    rcases List.mem_cons.1 hx with rfl | hx
    · omega
    · exact h.2 x hx
theorem minL_mem : ∀ (ns : List Int) (m : Int), minL m ns = m ∨ minL m ns ∈ ns
  | [], m => .inl (by simp [minL])
  | n :: ns, m => by
    show minL (step m n) ns = m ∨ minL (step m n) ns ∈ n :: ns
    rcases minL_mem ns (step m n) with h | h
    · rw [h]; unfold step; split
      · exact .inr (by simp)
      · exact .inl rfl
    · exact .inr (by simp [h])
theorem near32 (a m n : Int) (hm : Near m) (hn : Near n) : D32 ((a + n) % 4294967296 - (a + m) % 4294967296) = n - m := by unfold Near at *; unfold D32; omega
theorem near64 (a m n : Int) (hm : Near m) (hn : Near n) : D64 (U64 (a + n) - U64 (a + m)) = n - m := by unfold Near at *; unfold D64 U64; omega
def l32 (a : Int) (ns : List Int) : List Int := ns.map fun n => (a + n) % 4294967296
def l64 (a : Int) (ns : List Int) : List Int := ns.map fun n => U64 (a + n)
theorem least32_near (a : Int) : ∀ (ns : List Int) (m : Int), Near m → (∀ n ∈ ns, Near n) → least32 ((a + m) % 4294967296) (l32 a ns) = (a + minL m ns) % 4294967296
  | [], m, _, _ => rfl
  | n :: ns, m, hm, h => by
    have ih := least32_near a ns (step m n) (near_step hm (h n (by simp))) (fun x hx => h x (by simp [hx]))
    show least32 (if D32 ((a + n) % 4294967296 - (a + m) % 4294967296) < 0 then (a + n) % 4294967296 else (a + m) % 4294967296) (l32 a ns) = (a + minL (step m n) ns) % 4294967296
    rw [near32 a m n hm (h n (by simp)), ← ih]
    congr 1
    unfold step
    by_cases c : n < m
    · rw [if_pos (by omega), if_pos c]
    · rw [if_neg (by omega), if_neg c]
theorem least64_near (a : Int) : ∀ (ns : List Int) (m : Int), Near m → (∀ n ∈ ns, Near n) → least64 (U64 (a + m)) (l64 a ns) = U64 (a + minL m ns)
  | [], m, _, _ => rfl
  | n :: ns, m, hm, h => by
    have ih := least64_near a ns (step m n) (near_step hm (h n (by simp))) (fun x hx => h x (by simp [hx]))
    show least64 (if D64 (U64 (a + n) - U64 (a + m)) < 0 then U64 (a + n) else U64 (a + m)) (l64 a ns) = U64 (a + minL (step m n) ns)
    rw [near64 a m n hm (h n (by simp)), ← ih]
    congr 1
    unfold step
    by_cases c : n < m
    · rw [if_pos (by omega), if_pos c]
    · rw [if_neg (by omega), if_neg c]
/-- has the least one been met among the first k, or is it the one that all stand near? -/
def fnd (ns : List Int) (m : Int) (k : Nat) : Bool := (0 == m) || (ns.take k).any (· == m)
theorem fnd_succ (ns : List Int) (m : Int) (k : Nat) (h : k < ns.length) : fnd ns m (k + 1) = (fnd ns m k || (ns.getD k 0 == m)) := by
  unfold fnd
  rw [List.take_succ_eq_append_getElem h, List.any_append]
  simp [h, Bool.or_assoc]
theorem fnd_end (ns : List Int) : fnd ns (minL 0 ns) ns.length = true := by
  unfold fnd
  rw [List.take_length]
  rcases minL_mem ns 0 with h | h
  · rw [h]; rfl
  · rw [List.any_eq_true.2 ⟨_, h, by simp⟩]; simp
theorem eq32 (a m n : Int) (hm : Near m) (hn : Near n) : ((a + m) % 4294967296 == (a + n) % 4294967296) = (n == m) := by
  unfold Near at *
  rw [Bool.eq_iff_iff, beq_iff_eq, beq_iff_eq]; omega
theorem eq64 (a m n : Int) (hm : Near m) (hn : Near n) : (U64 (a + m) == U64 (a + n)) = (n == m) := by
  unfold Near at *
  rw [Bool.eq_iff_iff, beq_iff_eq, beq_iff_eq]; unfold U64; omega
theorem fnd0_32 (a m : Int) (ns : List Int) (hm : Near m) : ((a + m) % 4294967296 == a % 4294967296) = fnd ns m 0 := by
  unfold Near at *
  unfold fnd
  rw [Bool.eq_iff_iff]; simp; omega
theorem fnd0_64 (a m : Int) (ns : List Int) (hm : Near m) (h0 : 0 ≤ a) (h1 : a < 18446744073709551616) : (U64 (a + m) == a) = fnd ns m 0 := by
  unfold Near at *
  unfold fnd
  rw [Bool.eq_iff_iff]; simp; unfold U64; omega
theorem lead32 (a m : Int) (hm : Near m) : D32 ((a + m) % 4294967296 - a % 4294967296) = m := by unfold Near at *; unfold D32; omega
theorem lead64 (a m : Int) (hm : Near m) : D64 (U64 (a + m) - a) = m := by unfold Near at *; unfold D64 U64; omega
theorem l32_get (a : Int) (ns : List Int) (j : Nat) (h : j < ns.length) : (l32 a ns).getD j 0 = (a + ns.getD j 0) % 4294967296 := by
  unfold l32; simp [h]
theorem l64_get (a : Int) (ns : List Int) (j : Nat) (h : j < ns.length) : (l64 a ns).getD j 0 = U64 (a + ns.getD j 0) := by
  unfold l64; simp [h]
theorem getD_mem (ns : List Int) (j : Nat) (h : j < ns.length) : ns.getD j 0 ∈ ns := by simp [h]
end Go.Proofs.Ytkilonccbnohnaa
