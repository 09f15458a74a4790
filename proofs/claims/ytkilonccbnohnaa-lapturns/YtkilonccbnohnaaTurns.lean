/- lap.Turns: the slots of the positions from one on, in a slice that the call itself makes. -/
import Derived.Test.YtkilonccbnohnaaLap
import Derived.Lib.Hide
import Derived.OwnWalk
namespace Go.Proofs.Ytkilonccbnohnaa
open Go.RowKit
set_option linter.unusedVariables false
set_option maxHeartbeats 400000
theorem info_int : (Try.prog.info? 3).map (fun i => (i.zero, i.size, i.bytes)) = some (some (.int .i64 0), 1, 8) := by kernel_rfl
/-- the first k of n slots, the others 0 -/
def turnsTo (c p : Int) (n k : Nat) : List Value := (List.range n).map fun (j : Nat) => Value.int .i64 (if j < k then (p + (j : Int)) % c else 0)
theorem turnsTo_zero (c p : Int) (n : Nat) : turnsTo c p n 0 = List.replicate n (.int .i64 0) := by
  apply List.ext_getElem? ; intro i
  by_cases h : i < n <;> simp [turnsTo, h]
theorem turnsTo_set (c p : Int) (n k : Nat) (h : k < n) : (turnsTo c p n k).set k (.int .i64 ((p + (k : Int)) % c)) = turnsTo c p n (k + 1) := by
  apply List.ext_getElem?
  intro i
  by_cases hi : i < n
  · rw [List.getElem?_set]
    by_cases e : k = i
    · subst e; simp [turnsTo, hi]
    · rw [if_neg e]
      simp only [turnsTo, List.getElem?_map, List.getElem?_range hi, Option.map_some]
      by_cases h1 : i < k
      · rw [if_pos h1, if_pos (by omega)]
      · rw [if_neg h1, if_neg (by omega)]
  · rw [List.getElem?_eq_none (by simp [turnsTo]; omega), List.getElem?_eq_none (by simp [turnsTo]; omega)]
theorem turnsTo_get (c p : Int) (n k j : Nat) (h : j < n) : (turnsTo c p n k)[j]? = some (.int .i64 (if j < k then (p + (j : Int)) % c else 0)) := by
  simp [turnsTo, h]
theorem turnsU32_out (c p n : Int) (w : World) (hc : rightB c = true) (h : n < 0 ∨ c < n) : Calls Try.prog 47 #[.int .i64 c, .int .u32 p, .int .i64 n] w fun e w' => e = .returned (.slice none 0 0) ∧ w = w' := by
  by_cases h0 : n < 0
  · have d1 : decide (n < 0) = true := by simp; omega
    go_enter Try.func47, Try.ntmps47
    go_wp2_with fail
    refine (lRight _ _).mono ?_
    rintro e w' ⟨rfl, rfl⟩
    go_wp2
    go_ret
    exact ⟨rfl, rfl⟩
  · have d1 : decide (n < 0) = false := by simp; omega
    have d2 : decide (c < n) = true := by simp; omega
    go_enter Try.func47, Try.ntmps47
    go_wp2_with fail
    refine (lRight _ _).mono ?_
    rintro e w' ⟨rfl, rfl⟩
    go_wp2
    go_ret
    exact ⟨rfl, rfl⟩
theorem turnsU32 (c p : Int) (n : Nat) (w : World) (hc : rightB c = true) (h1 : (n : Int) ≤ c) : Calls Try.prog 47 #[.int .i64 c, .int .u32 p, .int .i64 n] w fun e w' =>
    e = .returned (.slice (some ⟨w.heap.size, 0, none⟩) n n) ∧ w'.ownsRow w.heap.size 3 1 (.slice (some ⟨w.heap.size, 0, none⟩) n n) n (turnsTo c p n n) ∧ Below w.heap.size w w' := by
  obtain ⟨i0, hi, hz0, hz1, hz2⟩ := info_parts info_int
  have hr := right_range hc
  have d1 : decide ((n : Int) < 0) = false := by simp
  have d2 : decide (c < (n : Int)) = false := by simp; omega
  go_enter Try.func47, Try.ntmps47
  go_wp2_with fail
  refine (lRight _ _).mono ?_
  rintro e w' ⟨rfl, rfl⟩
  go_wp2_with (at_make; refine wpList_make_full _ rfl _ _ 56 rfl w.heap.size 3 i0 (.int .i64 0) 1 Try.underlying56 hi hz0 hz1 _ _ _ _ n rfl rfl rfl rfl ?b2 ?b3 (Nat.le_refl _) ?_)
  case b2 => rw [hz2]; omega
  case b3 => unfold maxLen; omega
  intro w0 hown0 hgrow0
  have hown : w0.ownsRow w.heap.size 3 1 (.slice (some ⟨w.heap.size, 0, none⟩) n n) n (turnsTo c p n 0) := by
    rw [turnsTo_zero]; simpa [toList_madeCells_one] using hown0
  have hbel : Below w.heap.size w w0 := (Below.refl _ _).grown hgrow0 (Nat.le_refl _) (fun k h => by cases h)
  clear hown0 hgrow0
  go_wp2
  go_loopw [24] (fun i wr => ∃ k : Nat, k ≤ n ∧ i = .int .i64 k ∧ wr.ownsRow w.heap.size 3 1 (.slice (some ⟨w.heap.size, 0, none⟩) n n) n (turnsTo c p n k) ∧ Below w.heap.size w wr)
    (fun i _ => n - (intOf i).toNat)
  case atStart => exact ⟨0, Nat.zero_le _, rfl, hown, hbel⟩
  case round =>
    obtain ⟨k, hk, rfl, how, hb⟩ := hrel
    by_cases hlt : k < n
    · have hcell := how.cellAt k (by omega)
      rw [turnsTo_get c p n k k hlt] at hcell
      have hfr := how.frozenAt k
      have S := how.stored k (.int .i64 ((p + (k : Int)) % c))
      rw [turnsTo_set c p n k hlt] at S
      have HS := Lib.hid S.1
      have HB := Lib.hid (hb.setCell (p := ⟨w.heap.size, k, none⟩) (Nat.le_refl _) (.int .i64 ((p + (k : Int)) % c)))
      clear S how hb
      go_wp2_with fail
      refine (addU32 _ _ _).mono ?_
      rintro e w' ⟨rfl, rfl⟩
      go_wp2_with fail
      refine (slotU32 _ _ _ hc (by omega) (by omega)).mono ?_
      rintro e w' ⟨rfl, rfl⟩
      rw [mod32_mod hc]
      go_wp2
      exact ⟨⟨k + 1, by omega, by go_num, HS.out, HB.out⟩, by simp [intOf]; omega⟩
    · obtain rfl : k = n := by omega
      go_wp2
      go_ret
      exact ⟨rfl, how, hb⟩
theorem turnsU64_out (c p n : Int) (w : World) (hc : rightB c = true) (h : n < 0 ∨ c < n) : Calls Try.prog 48 #[.int .i64 c, .int .u64 p, .int .i64 n] w fun e w' => e = .returned (.slice none 0 0) ∧ w = w' := by
  by_cases h0 : n < 0
  · have d1 : decide (n < 0) = true := by simp; omega
    go_enter Try.func48, Try.ntmps48
    go_wp2_with fail
    refine (lRight _ _).mono ?_
    rintro e w' ⟨rfl, rfl⟩
    go_wp2
    go_ret
    exact ⟨rfl, rfl⟩
  · have d1 : decide (n < 0) = false := by simp; omega
    have d2 : decide (c < n) = true := by simp; omega
    go_enter Try.func48, Try.ntmps48
    go_wp2_with fail
    refine (lRight _ _).mono ?_
    rintro e w' ⟨rfl, rfl⟩
    go_wp2
    go_ret
    exact ⟨rfl, rfl⟩
theorem turnsU64 (c p : Int) (n : Nat) (w : World) (hc : rightB c = true) (h1 : (n : Int) ≤ c) : Calls Try.prog 48 #[.int .i64 c, .int .u64 p, .int .i64 n] w fun e w' =>
    e = .returned (.slice (some ⟨w.heap.size, 0, none⟩) n n) ∧ w'.ownsRow w.heap.size 3 1 (.slice (some ⟨w.heap.size, 0, none⟩) n n) n (turnsTo c p n n) ∧ Below w.heap.size w w' := by
  obtain ⟨i0, hi, hz0, hz1, hz2⟩ := info_parts info_int
  have hr := right_range hc
  have d1 : decide ((n : Int) < 0) = false := by simp
  have d2 : decide (c < (n : Int)) = false := by simp; omega
  go_enter Try.func48, Try.ntmps48
  go_wp2_with fail
  refine (lRight _ _).mono ?_
  rintro e w' ⟨rfl, rfl⟩
  go_wp2_with (at_make; refine wpList_make_full _ rfl _ _ 56 rfl w.heap.size 3 i0 (.int .i64 0) 1 Try.underlying56 hi hz0 hz1 _ _ _ _ n rfl rfl rfl rfl ?b2 ?b3 (Nat.le_refl _) ?_)
  case b2 => rw [hz2]; omega
  case b3 => unfold maxLen; omega
  intro w0 hown0 hgrow0
  have hown : w0.ownsRow w.heap.size 3 1 (.slice (some ⟨w.heap.size, 0, none⟩) n n) n (turnsTo c p n 0) := by
    rw [turnsTo_zero]; simpa [toList_madeCells_one] using hown0
  have hbel : Below w.heap.size w w0 := (Below.refl _ _).grown hgrow0 (Nat.le_refl _) (fun k h => by cases h)
  clear hown0 hgrow0
  go_wp2
  go_loopw [24] (fun i wr => ∃ k : Nat, k ≤ n ∧ i = .int .i64 k ∧ wr.ownsRow w.heap.size 3 1 (.slice (some ⟨w.heap.size, 0, none⟩) n n) n (turnsTo c p n k) ∧ Below w.heap.size w wr)
    (fun i _ => n - (intOf i).toNat)
  case atStart => exact ⟨0, Nat.zero_le _, rfl, hown, hbel⟩
  case round =>
    obtain ⟨k, hk, rfl, how, hb⟩ := hrel
    by_cases hlt : k < n
    · have hcell := how.cellAt k (by omega)
      rw [turnsTo_get c p n k k hlt] at hcell
      have hfr := how.frozenAt k
      have S := how.stored k (.int .i64 ((p + (k : Int)) % c))
      rw [turnsTo_set c p n k hlt] at S
      have HS := Lib.hid S.1
      have HB := Lib.hid (hb.setCell (p := ⟨w.heap.size, k, none⟩) (Nat.le_refl _) (.int .i64 ((p + (k : Int)) % c)))
      clear S how hb
      go_wp2_with fail
      refine (addU64 _ _ _).mono ?_
      rintro e w' ⟨rfl, rfl⟩
      go_wp2_with fail
      refine (slotU64 _ _ _ hc (U64_range _).1 (U64_range _).2).mono ?_
      rintro e w' ⟨rfl, rfl⟩
      rw [mod64_mod hc]
      go_wp2
      exact ⟨⟨k + 1, by omega, by go_num, HS.out, HB.out⟩, by simp [intOf]; omega⟩
    · obtain rfl : k = n := by omega
      go_wp2
      go_ret
      exact ⟨rfl, how, hb⟩
end Go.Proofs.Ytkilonccbnohnaa
