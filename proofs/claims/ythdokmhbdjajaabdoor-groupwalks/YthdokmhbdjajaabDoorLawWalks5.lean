/- The walk of GroupWalks. -/
import Derived.Test.YthdokmhbdjajaabDoorGrp3
import Derived.Test.YthdokmhbdjajaabDoorWMath
namespace Go.Proofs.YthdokmhbdjajaabDoor
open Go.RowKit
set_option linter.unusedVariables false
set_option maxHeartbeats 2000000
/-- the one that was seen last -/
def lastI (L : List Nat) : Nat → Int
  | 0 => -1
  | k + 1 => numI L[k]?
theorem last_less (x k : Nat) (h : k < (bitsOf x).length) : lastI (bitsOf x) k < ((bitsOf x)[k] : Nat) ∧ -1 ≤ lastI (bitsOf x) k := by
  cases k with
  | zero => simp [lastI]; omega
  | succ k =>
    have hk : k < (bitsOf x).length := by omega
    have := bits_mono h (Nat.lt_succ_self k)
    simp only [lastI, List.getElem?_eq_getElem hk, numI]
    omega
set_option maxRecDepth 100000 in
theorem walks (x : Nat) (w : World) (hx : x < 18446744073709551616) (hT : Tab w) :
    Calls Tryd.prog 6 #[.int .u64 x] w fun e w' => e = .returned (.bool true) ∧ Ext w w' := by
  have HT := Lib.hid hT
  have hlen := bits_len x
  clear hT
  have cl := fun w hT => gLeast x w hx hT
  have hd : (bitsOf x).head? = (bitsOf x)[0]? := by cases bitsOf x <;> rfl
  rw [hd, opt_num] at cl
  have CL := Lib.hid cl
  have cn := fun w => gLen x w hx
  have CN := Lib.hid cn
  clear cl hd cn
  go_enter Tryd.func6, Tryd.ntmps6
  go_wp2_with fail
  refine (CL.out _ HT.out).mono ?_
  rintro e w' ⟨rfl, rfl⟩
  go_wp2
  go_loop [4, 5, 6, 7, 8] (fun n ok seen last i => ∃ k : Nat, k ≤ (bitsOf x).length ∧ n = .int .i64 (numI (bitsOf x)[k]?) ∧ ok = .bool (decide (k < (bitsOf x).length)) ∧ seen = .int .i64 k ∧ last = .int .i64 (lastI (bitsOf x) k) ∧ i = .int .i64 k) (fun _ _ _ _ i => 100 - (intOf i).toNat)
  case atStart => exact ⟨0, Nat.zero_le _, rfl, rfl, rfl, rfl, rfl⟩
  case round =>
    obtain ⟨k, hk, rfl, rfl, rfl, rfl, rfl⟩ := hrel
    have h70 : (k : Int) < 70 := by omega
    by_cases hlt : k < (bitsOf x).length
    · have hz := bits_lt hlt
      have hb := (mem_bits.1 (List.getElem_mem hlt)).2
      have hn : (bitsOf x)[k]? = some (bitsOf x)[k] := List.getElem?_eq_getElem hlt
      have N1 := nxt_at x k hlt
      have hll := last_less x k hlt
      have HL1 : Hid (lastI (bitsOf x) (k + 1) = ((bitsOf x)[k] : Nat)) := Lib.hid (by simp only [lastI, hn, numI])
      rw [hn, show decide (k < (bitsOf x).length) = true by simpa using hlt]
      generalize hq : (bitsOf x)[k] = z at *
      rw [show numI (some z) = (z : Int) from rfl]
      have c2 := fun w hT => gNext x (z : Int) w hx (by omega) (by omega) hT
      rw [N1, opt_num] at c2
      have C2 := Lib.hid c2
      have c3 := fun w => gHas x z w hx hz
      rw [hb] at c3
      have C3 := Lib.hid c3
      generalize lastI (bitsOf x) k = la at *
      have d1 : decide ((z : Int) ≤ la) = false := by simp; omega
      clear c2 c3 N1 hq hn hb hll
      go_wp2_with fail
      refine (C3.out _).mono ?_
      rintro e w' ⟨rfl, rfl⟩
      go_wp2_with fail
      refine (C2.out _ HT.out).mono ?_
      rintro e w' ⟨rfl, rfl⟩
      go_wp2
      exact ⟨⟨k + 1, by omega, rfl, rfl, by go_num, by rw [HL1.out], by go_num⟩, by simp [intOf]; omega⟩
    · obtain rfl : k = (bitsOf x).length := by omega
      rw [show decide ((bitsOf x).length < (bitsOf x).length) = false by simp]
      generalize lastI (bitsOf x) (bitsOf x).length = la at *
      generalize numI (bitsOf x)[(bitsOf x).length]? = na at *
      generalize (bitsOf x).length = m at *
      go_wp2_with fail
      refine (CN.out _).mono ?_
      rintro e w' ⟨rfl, rfl⟩
      go_wp2_with fail
      refine (live05 _ HT.out).mono ?_
      rintro e w1 ⟨rfl, X1⟩
      go_wp2
      go_ret
      exact ⟨rfl, X1⟩
theorem groupWalks_walk (x : Int) (w : World) (w0 : (Lit.int .u64 x).wf = true) (hT : Tab w) :
    Calls Tryd.prog 6 #[.int .u64 x] w fun e w' => e = .returned (.bool true) ∧ Below w.heap.size w w' := by
  have h0 := wf_u64 w0
  obtain ⟨a, rfl⟩ := Int.eq_ofNat_of_zero_le h0.1
  exact (walks a w (by omega) hT).mono fun e w' ⟨h, hx⟩ => ⟨h, hx.below⟩
end Go.Proofs.YthdokmhbdjajaabDoor
