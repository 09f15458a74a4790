/- math/bits.OnesCount64. -/
import Derived.Test.YtkmfamidahlgiaaGreatDoorRows
import Derived.Test.YtkmfamidahlgiaaGreatDoorGSwar
import Derived.WalkKit
import Derived.ProofKit
import Derived.Laws.Bits64b
import Derived.Laws.BitsAll
import Derived.Lib.TrailingZeros
import Derived.Lib.Hide
import Derived.Test.YtkmfamidahlgiaaGreatDoorExt
namespace Go.Proofs.YtkmfamidahlgiaaGreatDoor
open Go.RowKit
set_option linter.unusedVariables false
set_option maxHeartbeats 400000
theorem bits_and_i64_nat (a b : Nat) (ha : a < 9223372036854775808) (hb : b < 9223372036854775808) : bits .and .i64 (a : Int) (b : Int) = ((a &&& b : Nat) : Int) := by
  have hx : a &&& b < 9223372036854775808 := Nat.lt_of_le_of_lt Nat.and_le_left ha
  have h1 : (BitVec.ofInt 64 (a : Int)).toNat = a := by
    rw [BitVec.ofInt_natCast, BitVec.toNat_ofNat]; exact Nat.mod_eq_of_lt (by omega)
  have h2 : (BitVec.ofInt 64 (b : Int)).toNat = b := by
    rw [BitVec.ofInt_natCast, BitVec.toNat_ofNat]; exact Nat.mod_eq_of_lt (by omega)
  show IntKind.i64.wrap ((BitVec.ofInt 64 (a : Int) &&& BitVec.ofInt 64 (b : Int)).toNat : Int) = _
  rw [BitVec.toNat_and, h1, h2]
  exact IntWalk.i64_in _ (by omega)
theorem wrap_nat (n : Nat) (h : n < 18446744073709551616) : IntKind.u64.wrap (n : Int) = (n : Int) := by rw [IntKind.wrap_u64]; omega
theorem ones (x : Nat) (w : World) (hx : x < 18446744073709551616) : Calls Tryz.prog 185 #[.int .u64 x] w fun e w' => e = .returned (.int .i64 ((bitsOf x).length : Nat)) ∧ w = w' := by
  obtain ⟨a, b, c, ha, hb, hc, hn, b1, b2, b3, b4, b5, b6, b7⟩ := swar x hx
  have hl : (bitsOf x).length = cn x 64 := cn_filter x 64
  obtain ⟨y1, hy1⟩ : ∃ y, s1 6148914691236517205 x = y := ⟨_, rfl⟩
  rw [hy1] at ha b1 b2 b3
  obtain ⟨y2, hy2⟩ : ∃ y, s2 3689348814741910323 y1 = y := ⟨_, rfl⟩
  rw [hy2] at ha b2 b3
  have k1 : IntKind.u64.wrap (bits .and .u64 ((x : Int) / 2) 6148914691236517205 + bits .and .u64 (x : Int) 6148914691236517205) = (y1 : Int) := by
    rw [show (x : Int) / 2 = ((x / 2 : Nat) : Int) by omega, show (6148914691236517205 : Int) = ((6148914691236517205 : Nat) : Int) from rfl, bits_and_u64_nat _ _ (by omega) (by decide), bits_and_u64_nat _ _ hx (by decide)]
    have : (x / 2 &&& 6148914691236517205) + (x &&& 6148914691236517205) = y1 := hy1
    rw [IntKind.wrap_u64]; omega
  have k2 : IntKind.u64.wrap (bits .and .u64 ((y1 : Int) / 4) 3689348814741910323 + bits .and .u64 (y1 : Int) 3689348814741910323) = (y2 : Int) := by
    rw [show (y1 : Int) / 4 = ((y1 / 4 : Nat) : Int) by omega, show (3689348814741910323 : Int) = ((3689348814741910323 : Nat) : Int) from rfl, bits_and_u64_nat _ _ (by omega) (by decide), bits_and_u64_nat _ _ b1 (by decide)]
    have : (y1 / 4 &&& 3689348814741910323) + (y1 &&& 3689348814741910323) = y2 := hy2
    rw [IntKind.wrap_u64]; omega
  have k3 : bits .and .u64 (IntKind.u64.wrap ((y2 : Int) / 16 + (y2 : Int))) 1085102592571150095 = (a : Int) := by
    rw [show (y2 : Int) / 16 + (y2 : Int) = ((y2 / 16 + y2 : Nat) : Int) by omega, wrap_nat _ b3, show (1085102592571150095 : Int) = ((1085102592571150095 : Nat) : Int) from rfl, bits_and_u64_nat _ _ b3 (by decide)]
    exact congrArg _ ha
  have k4 : IntKind.u64.wrap ((a : Int) + (a : Int) / 256) = (b : Int) := by rw [show (a : Int) + (a : Int) / 256 = (b : Int) by omega, wrap_nat _ b5]
  have k5 : IntKind.u64.wrap ((b : Int) + (b : Int) / 65536) = (c : Int) := by rw [show (b : Int) + (b : Int) / 65536 = (c : Int) by omega, wrap_nat _ b6]
  obtain ⟨d, hd⟩ : ∃ d, c + c / 4294967296 = d := ⟨_, rfl⟩
  rw [hd] at hn b7
  have k6 : IntKind.u64.wrap ((c : Int) + (c : Int) / 4294967296) = (d : Int) := by rw [show (c : Int) + (c : Int) / 4294967296 = (d : Int) by omega, wrap_nat _ (by omega)]
  have k7 : wrap64 (d : Int) = (d : Int) := by unfold wrap64; omega
  have k8 : bits .and .i64 (d : Int) 127 = (((bitsOf x).length : Nat) : Int) := by
    rw [show (127 : Int) = ((127 : Nat) : Int) from rfl, bits_and_i64_nat _ _ b7 (by decide), hl, ← hn]
    exact congrArg _ (Nat.and_two_pow_sub_one_eq_mod d 7)
  clear ha hb hc hn hl hy1 hy2 hd b1 b2 b3 b4 b5 b6
  generalize (bitsOf x).length = m at *
  go_enter Tryz.func185, Tryz.ntmps185
  go_wp2
  go_ret
  exact ⟨rfl, rfl⟩
end Go.Proofs.YtkmfamidahlgiaaGreatDoor
