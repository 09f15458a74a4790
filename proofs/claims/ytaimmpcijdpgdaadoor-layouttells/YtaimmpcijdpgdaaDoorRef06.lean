/- The document's answers of layer 6: numbers' words. -/
import Derived.Test.YtaimmpcijdpgdaaDoorRows
import Derived.Test.YtaimmpcijdpgdaaDoorExt
import Derived.WalkKit
import Derived.ProofKit
import Derived.Lib.ItoaNum
import Derived.Laws.Bits64
import Derived.Laws.IdiomStrings
namespace Go.Proofs.YtaimmpcijdpgdaaDoor
open Go.RowKit
set_option linter.unusedVariables false
set_option maxHeartbeats 1000000
/-- a text of these bytes -/
def tx (l : List UInt8) : ByteArray := ⟨l.toArray⟩
theorem conv_digit (d : Nat) (w : World) (hd : d < 10) : (convert 79 9 (.slice (some ⟨w.heap.size, 0, none⟩) 1 1)).run Tryd.prog (w.alloc (.cells #[.int .u8 (48 + (d : Int))] 5)) = .ok (.string (tx [UInt8.ofNat (48 + d)])) (w.alloc (.cells #[.int .u8 (48 + (d : Int))] 5)) := by
  have h := run_convert_bytes_back (P := Tryd.prog) (w.alloc (.cells #[.int .u8 (48 + (d : Int))] 5)) 79 9 5 ⟨w.heap.size, 0, none⟩ 1 [UInt8.ofNat (48 + d)] Tryd.underlying79 Tryd.underlying5 Tryd.underlying9 (fun j hj => by
    match j, hj with
    | 0, _ =>
      have e : (UInt8.ofNat (48 + d)).toNat = 48 + d := by rw [UInt8.toNat_ofNat']; omega
      simp only [List.getElem_cons_zero, e]
      simp [Addr.add])
  exact h
set_option maxRecDepth 100000 in
theorem rDigits_small (x : Nat) (w : World) (hx : x < 10) : Calls Tryd.prog 37 #[.int .u64 x] w fun e w' => e = .returned (.string (tx [UInt8.ofNat (48 + x)])) ∧ Ext w w' := by
  have h10 : (x : Int) < 10 := by omega
  have hc := conv_digit x w hx
  have hm : (x : Int) % 10 = (x : Int) := by omega
  generalize tx [UInt8.ofNat (48 + x)] = s at *
  go_enter Tryd.func37, Tryd.ntmps37
  go_wp2
  go_ret
  exact ⟨rfl, (Ext.refl w).alloc _⟩
theorem dec_len (k : Nat) : ∀ x, x < 10 ^ (k + 1) → (Lib.decDigits x).length ≤ k + 1 := by
  induction k with
  | zero => intro x hx; unfold Lib.decDigits; rw [dif_pos (by simpa using hx)]; simp
  | succ k ih =>
    intro x hx
    unfold Lib.decDigits
    split
    · simp
    · have := ih (x / 10) (by rw [Nat.pow_succ] at hx; omega)
      simp; omega
theorem dec_len20 {x : Nat} (h : x < 18446744073709551616) : (Lib.decDigits x).length ≤ 20 := dec_len 19 x (by
  have : (10 : Nat) ^ 20 = 100000000000000000000 := by decide
  omega)
theorem tx_size (l : List UInt8) : (tx l).size = l.length := rfl
theorem tx_append (a b : List UInt8) : tx (a ++ b) = tx a ++ tx b := by
  apply ByteArray.ext
  simp [tx]
set_option maxRecDepth 100000 in
theorem rDigits (n : Nat) : ∀ (x : Nat) (w : World), x < n → x < 18446744073709551616 → Calls Tryd.prog 37 #[.int .u64 x] w fun e w' => e = .returned (.string (tx (Lib.decDigits x))) ∧ Ext w w' := by
  induction n with
  | zero => intro x w h; omega
  | succ n ih =>
    intro x w hn hx
    by_cases h : x < 10
    · have : Lib.decDigits x = [UInt8.ofNat (48 + x)] := by unfold Lib.decDigits; rw [dif_pos h]
      rw [this]
      exact rDigits_small x w h
    · have hd : Lib.decDigits x = Lib.decDigits (x / 10) ++ [UInt8.ofNat (48 + x % 10)] := by rw [Lib.decDigits]; rw [dif_neg h]
      obtain ⟨q, hq0⟩ : ∃ q, q = x / 10 := ⟨_, rfl⟩
      rw [← hq0] at hd
      have c := fun w => ih q w (by omega) (by omega)
      have h10 : ¬ (x : Int) < 10 := by omega
      have hc := conv_digit (x % 10) w (by omega)
      have hm : ((x % 10 : Nat) : Int) = (x : Int) % 10 := by omega
      rw [hm] at hc
      have hq : (x : Int) / 10 = (q : Int) := by omega
      have hl := dec_len20 (x := q) (by omega)
      obtain ⟨s1, hs1⟩ : ∃ s, s = tx [UInt8.ofNat (48 + x % 10)] := ⟨_, rfl⟩
      rw [← hs1] at hc
      obtain ⟨s2, hs2⟩ : ∃ s, s = tx (Lib.decDigits q) := ⟨_, rfl⟩
      rw [← hs2] at c
      have HD : Hid (tx (Lib.decDigits x) = s2 ++ s1) := Lib.hid (by rw [hd, hs1, hs2, tx_append])
      have hz1 : s2.size + s1.size ≤ 9223372036854775807 := by rw [hs1, hs2, tx_size, tx_size]; simp; omega
      have C := Lib.hid c
      clear c ih hm hd hs1 hs2 hq0
      go_enter Tryd.func37, Tryd.ntmps37
      go_wp2_with fail
      refine (C.out _).mono ?_
      rintro e w1 ⟨rfl, X1⟩
      go_wp2
      go_ret
      exact ⟨by rw [HD.out]; rfl, ((Ext.refl w).alloc _).trans X1⟩
theorem rNum6 (n : Int) (w : World) (h0 : -9223372036854775808 ≤ n) (h1 : n ≤ 9223372036854775807) : Calls Tryd.prog 18 #[.int .i64 n] w fun e w' => e = .returned (.string (tx (Lib.itoa n))) ∧ Ext w w' := by
  by_cases hn : n < 0
  · obtain ⟨m, hm⟩ : ∃ m : Nat, (m : Int) = -n := ⟨(-n).toNat, by omega⟩
    have hi : Lib.itoa n = 45 :: Lib.decDigits m := by unfold Lib.itoa; rw [if_pos hn, show n.natAbs = m by omega]
    obtain ⟨s, hs⟩ : ∃ s, s = tx (Lib.decDigits m) := ⟨_, rfl⟩
    have c := fun w => rDigits (m + 1) m w (by omega) (by omega)
    rw [← hs] at c
    have HI : Hid (tx (Lib.itoa n) = tx [45] ++ s) := Lib.hid (by rw [hi, hs, ← tx_append]; rfl)
    have hz1 : (tx [45]).size + s.size ≤ 9223372036854775807 := by
      have := dec_len20 (x := m) (by omega)
      rw [hs, tx_size, tx_size]; simp; omega
    have e1 : IntKind.u64.wrap (-(n + 1)) = -(n + 1) := by rw [IntKind.wrap_u64]; omega
    have e2 : -(n + 1) + 1 = -n := by omega
    rw [hm] at c
    have C := Lib.hid c
    have hz2 : ({ data := #[45] } : ByteArray).size + s.size ≤ 9223372036854775807 := hz1
    clear c hi hs hz1
    go_enter Tryd.func18, Tryd.ntmps18
    go_wp2_with fail
    refine (C.out _).mono ?_
    rintro e w1 ⟨rfl, X1⟩
    go_wp2
    go_ret
    exact ⟨by rw [HI.out]; rfl, X1⟩
  · obtain ⟨m, rfl⟩ := Int.eq_ofNat_of_zero_le (show 0 ≤ n by omega)
    have hi : Lib.itoa (m : Int) = Lib.decDigits m := by unfold Lib.itoa; rw [if_neg (by omega)]; rfl
    rw [hi]
    have C := Lib.hid fun w => rDigits (m + 1) m w (by omega) (by omega)
    generalize tx (Lib.decDigits m) = s at *
    have hn' : ¬ (m : Int) < 0 := by omega
    clear hi
    go_enter Tryd.func18, Tryd.ntmps18
    go_wp2_with fail
    refine (C.out _).mono ?_
    rintro e w1 ⟨rfl, X1⟩
    go_wp2
    go_ret
    exact ⟨rfl, X1⟩
end Go.Proofs.YtaimmpcijdpgdaaDoor
