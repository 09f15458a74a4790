/- The count of ones, as math/bits reckons it. No program in sight. -/
import Derived.Test.YtkmfamidahlgiaaGreatDoorGMath
namespace Go.Proofs.YtkmfamidahlgiaaGreatDoor
set_option linter.unusedVariables false
def g1 (b : Nat) : Nat := (b / 2 &&& 85) + (b &&& 85)
def g2 (b : Nat) : Nat := (b / 4 &&& 51) + (b &&& 51)
def s1 (m x : Nat) : Nat := (x / 2 &&& m) + (x &&& m)
def s2 (m x : Nat) : Nat := (x / 4 &&& m) + (x &&& m)
def s3 (m x : Nat) : Nat := (x / 16 + x) &&& m
theorem and_split (x m : Nat) : x &&& m = (x % 256 &&& m % 256) + 256 * (x / 256 &&& m / 256) := by
  have h1 : (x &&& m) % 256 = x % 256 &&& m % 256 := by
    have := Nat.and_mod_two_pow (a := x) (b := m) (n := 8)
    simpa using this
  have h2 : (x &&& m) / 256 = x / 256 &&& m / 256 := by
    have := Nat.and_div_two_pow (a := x) (b := m) (n := 8)
    simpa using this
  have := Nat.mod_add_div (x &&& m) 256
  rw [h1, h2] at this
  exact this.symm
theorem b85 : ∀ v, v < 256 → v &&& 85 = v % 128 &&& 85 := by decide +kernel
theorem b51 : ∀ v, v < 256 → v &&& 51 = v % 64 &&& 51 := by decide +kernel
theorem b15 (v : Nat) : v &&& 15 = v % 16 := Nat.and_two_pow_sub_one_eq_mod v 4
theorem s1_split (m x : Nat) (hm : m % 256 = 85) : s1 m x = g1 (x % 256) + 256 * s1 (m / 256) (x / 256) := by
  unfold s1 g1
  rw [and_split (x / 2) m, and_split x m, hm]
  have e : x / 2 % 256 &&& 85 = x % 256 / 2 &&& 85 := by
    rw [b85 (x / 2 % 256) (by omega), b85 (x % 256 / 2) (by omega), show x / 2 % 256 % 128 = x % 256 / 2 % 128 by omega]
  rw [e, show x / 2 / 256 = x / 256 / 2 by omega]
  omega
theorem s2_split (m x : Nat) (hm : m % 256 = 51) : s2 m x = g2 (x % 256) + 256 * s2 (m / 256) (x / 256) := by
  unfold s2 g2
  rw [and_split (x / 4) m, and_split x m, hm]
  have e : x / 4 % 256 &&& 51 = x % 256 / 4 &&& 51 := by
    rw [b51 (x / 4 % 256) (by omega), b51 (x % 256 / 4) (by omega), show x / 4 % 256 % 64 = x % 256 / 4 % 64 by omega]
  rw [e, show x / 4 / 256 = x / 256 / 4 by omega]
  omega
theorem g1_lt : ∀ b, b < 256 → g1 b < 256 := by decide +kernel
theorem g2_nib : ∀ b, b < 256 → g2 (g1 b) < 256 ∧ g2 (g1 b) % 16 ≤ 4 ∧ g2 (g1 b) / 16 ≤ 4 ∧ g2 (g1 b) % 16 + g2 (g1 b) / 16 = cn b 8 ∧ cn b 8 ≤ 8 := by decide +kernel
/-- the first two steps, byte by byte -/
theorem s12 (m1 m2 x : Nat) (h1 : m1 % 256 = 85) (h2 : m2 % 256 = 51) : s2 m2 (s1 m1 x) = g2 (g1 (x % 256)) + 256 * s2 (m2 / 256) (s1 (m1 / 256) (x / 256)) := by
  have hb := g1_lt (x % 256) (Nat.mod_lt _ (by decide))
  have e := s1_split m1 x h1
  rw [s2_split m2 _ h2]
  rw [show s1 m1 x % 256 = g1 (x % 256) by omega, show s1 m1 x / 256 = s1 (m1 / 256) (x / 256) by omega]
theorem s3_split (m z b r : Nat) (hm : m % 256 = 15) (hz : z = b + 256 * r) (hb : b < 256) (h1 : b % 16 ≤ 4) (h2 : b / 16 ≤ 4) (h3 : r % 16 ≤ 4) : s3 m z = (b % 16 + b / 16) + 256 * s3 (m / 256) r := by
  unfold s3
  rw [and_split (z / 16 + z) m, hm, b15]
  have e1 : (z / 16 + z) % 256 % 16 = b % 16 + b / 16 := by omega
  have e2 : (z / 16 + z) / 256 = r / 16 + r := by omega
  rw [e1, e2]
theorem s12_nib (m1 m2 x : Nat) (h1 : m1 % 256 = 85) (h2 : m2 % 256 = 51) : s2 m2 (s1 m1 x) % 16 ≤ 4 := by
  rw [s12 m1 m2 x h1 h2]
  have := (g2_nib (x % 256) (Nat.mod_lt _ (by decide))).2.1
  omega
theorem s123 (m1 m2 m3 x : Nat) (h1 : m1 % 256 = 85) (h2 : m2 % 256 = 51) (h3 : m3 % 256 = 15) (k1 : m1 / 256 % 256 = 85 ∨ m1 / 256 = 0) (k2 : m2 / 256 % 256 = 51 ∨ m2 / 256 = 0) (hx : m1 / 256 = 0 → x / 256 = 0) :
    s3 m3 (s2 m2 (s1 m1 x)) = cn x 8 + 256 * s3 (m3 / 256) (s2 (m2 / 256) (s1 (m1 / 256) (x / 256))) := by
  have hg := g2_nib (x % 256) (Nat.mod_lt _ (by decide))
  have hr : s2 (m2 / 256) (s1 (m1 / 256) (x / 256)) % 16 ≤ 4 := by
    rcases k2 with k2 | k2
    · rcases k1 with k1 | k1
      · exact s12_nib _ _ _ k1 k2
      · rw [hx k1, k1]; simp [s1, s2]
    · rw [k2]; simp [s2]
  rw [s3_split m3 _ _ _ h3 (s12 m1 m2 x h1 h2) hg.1 hg.2.1 hg.2.2.1 hr, hg.2.2.2.1, ← cn_mod]
theorem cn_le8 (x : Nat) : cn x 8 ≤ 8 := by rw [cn_mod]; exact (g2_nib _ (Nat.mod_lt _ (by decide))).2.2.2.2
theorem cn_64 (x : Nat) : cn x 64 = cn x 8 + (cn (x / 256) 8 + (cn (x / 256 / 256) 8 + (cn (x / 256 / 256 / 256) 8 + (cn (x / 256 / 256 / 256 / 256) 8 + (cn (x / 256 / 256 / 256 / 256 / 256) 8 + (cn (x / 256 / 256 / 256 / 256 / 256 / 256) 8 + cn (x / 256 / 256 / 256 / 256 / 256 / 256 / 256) 8)))))) := by
  rw [show (64 : Nat) = 8 + (8 + (8 + (8 + (8 + (8 + (8 + 8)))))) from rfl]
  simp only [cn_add, show (2 : Nat) ^ 8 = 256 from rfl]
set_option maxHeartbeats 4000000 in
/-- the whole count -/
theorem swar (x : Nat) (hx : x < 18446744073709551616) : ∃ a b c : Nat,
    s3 1085102592571150095 (s2 3689348814741910323 (s1 6148914691236517205 x)) = a ∧ a + a / 256 = b ∧ b + b / 65536 = c ∧ (c + c / 4294967296) % 128 = cn x 64 ∧ s1 6148914691236517205 x < 18446744073709551616 ∧ s2 3689348814741910323 (s1 6148914691236517205 x) < 18446744073709551616 ∧
    s2 3689348814741910323 (s1 6148914691236517205 x) / 16 + s2 3689348814741910323 (s1 6148914691236517205 x) < 18446744073709551616 ∧ a < 18446744073709551616 ∧ b < 18446744073709551616 ∧ c < 18446744073709551616 ∧ c + c / 4294967296 < 9223372036854775808 := by
  have hs1 : s1 6148914691236517205 x ≤ 12297829382473034410 := by
    have h1 : x / 2 &&& 6148914691236517205 ≤ 6148914691236517205 := Nat.and_le_right
    have h2 : x &&& 6148914691236517205 ≤ 6148914691236517205 := Nat.and_le_right
    unfold s1; omega
  have hs2 : s2 3689348814741910323 (s1 6148914691236517205 x) ≤ 7378697629483820646 := by
    have h1 : s1 6148914691236517205 x / 4 &&& 3689348814741910323 ≤ 3689348814741910323 := Nat.and_le_right
    have h2 : s1 6148914691236517205 x &&& 3689348814741910323 ≤ 3689348814741910323 := Nat.and_le_right
    unfold s2; omega
  have e0 := s123 (6148914691236517205) (3689348814741910323) (1085102592571150095) (x) (by decide) (by decide) (by decide) (.inl (by decide)) (.inl (by decide)) (fun h => absurd h (by decide))
  have e1 := s123 (6148914691236517205 / 256) (3689348814741910323 / 256) (1085102592571150095 / 256) (x / 256) (by decide) (by decide) (by decide) (.inl (by decide)) (.inl (by decide)) (fun h => absurd h (by decide))
  have e2 := s123 (6148914691236517205 / 256 / 256) (3689348814741910323 / 256 / 256) (1085102592571150095 / 256 / 256) (x / 256 / 256) (by decide) (by decide) (by decide) (.inl (by decide)) (.inl (by decide)) (fun h => absurd h (by decide))
  have e3 := s123 (6148914691236517205 / 256 / 256 / 256) (3689348814741910323 / 256 / 256 / 256) (1085102592571150095 / 256 / 256 / 256) (x / 256 / 256 / 256) (by decide) (by decide) (by decide) (.inl (by decide)) (.inl (by decide)) (fun h => absurd h (by decide))
  have e4 := s123 (6148914691236517205 / 256 / 256 / 256 / 256) (3689348814741910323 / 256 / 256 / 256 / 256) (1085102592571150095 / 256 / 256 / 256 / 256) (x / 256 / 256 / 256 / 256) (by decide) (by decide) (by decide) (.inl (by decide)) (.inl (by decide)) (fun h => absurd h (by decide))
  have e5 := s123 (6148914691236517205 / 256 / 256 / 256 / 256 / 256) (3689348814741910323 / 256 / 256 / 256 / 256 / 256) (1085102592571150095 / 256 / 256 / 256 / 256 / 256) (x / 256 / 256 / 256 / 256 / 256) (by decide) (by decide) (by decide) (.inl (by decide)) (.inl (by decide)) (fun h => absurd h (by decide))
  have e6 := s123 (6148914691236517205 / 256 / 256 / 256 / 256 / 256 / 256) (3689348814741910323 / 256 / 256 / 256 / 256 / 256 / 256) (1085102592571150095 / 256 / 256 / 256 / 256 / 256 / 256) (x / 256 / 256 / 256 / 256 / 256 / 256) (by decide) (by decide) (by decide) (.inl (by decide)) (.inl (by decide)) (fun h => absurd h (by decide))
  have e7 := s123 (6148914691236517205 / 256 / 256 / 256 / 256 / 256 / 256 / 256) (3689348814741910323 / 256 / 256 / 256 / 256 / 256 / 256 / 256) (1085102592571150095 / 256 / 256 / 256 / 256 / 256 / 256 / 256) (x / 256 / 256 / 256 / 256 / 256 / 256 / 256) (by decide) (by decide) (by decide) (.inr (by decide)) (.inr (by decide)) (fun _ => by omega)
  have e8 : s3 (1085102592571150095 / 256 / 256 / 256 / 256 / 256 / 256 / 256 / 256) (s2 (3689348814741910323 / 256 / 256 / 256 / 256 / 256 / 256 / 256 / 256) (s1 (6148914691236517205 / 256 / 256 / 256 / 256 / 256 / 256 / 256 / 256) (x / 256 / 256 / 256 / 256 / 256 / 256 / 256 / 256))) = 0 := by
    rw [show 1085102592571150095 / 256 / 256 / 256 / 256 / 256 / 256 / 256 / 256 = 0 by decide]; simp [s3]
  rw [e8] at e7
  rw [e7] at e6
  rw [e6] at e5
  rw [e5] at e4
  rw [e4] at e3
  rw [e3] at e2
  rw [e2] at e1
  rw [e1] at e0
  have ec := cn_64 x
  have l0 := cn_le8 (x)
  have l1 := cn_le8 (x / 256)
  have l2 := cn_le8 (x / 256 / 256)
  have l3 := cn_le8 (x / 256 / 256 / 256)
  have l4 := cn_le8 (x / 256 / 256 / 256 / 256)
  have l5 := cn_le8 (x / 256 / 256 / 256 / 256 / 256)
  have l6 := cn_le8 (x / 256 / 256 / 256 / 256 / 256 / 256)
  have l7 := cn_le8 (x / 256 / 256 / 256 / 256 / 256 / 256 / 256)
  generalize cn (x / 256 / 256 / 256 / 256 / 256 / 256 / 256) 8 = c7 at *
  generalize cn (x / 256 / 256 / 256 / 256 / 256 / 256) 8 = c6 at *
  generalize cn (x / 256 / 256 / 256 / 256 / 256) 8 = c5 at *
  generalize cn (x / 256 / 256 / 256 / 256) 8 = c4 at *
  generalize cn (x / 256 / 256 / 256) 8 = c3 at *
  generalize cn (x / 256 / 256) 8 = c2 at *
  generalize cn (x / 256) 8 = c1 at *
  generalize cn x 8 = c0 at *
  generalize cn x 64 = n at *
  generalize s3 1085102592571150095 (s2 3689348814741910323 (s1 6148914691236517205 x)) = a at *
  clear e1 e2 e3 e4 e5 e6 e7 e8
  obtain ⟨b, hb⟩ : ∃ b, b = a + a / 256 := ⟨_, rfl⟩
  have hb2 : b = (c0 + c1) + 256 * ((c1 + c2) + 256 * ((c2 + c3) + 256 * ((c3 + c4) + 256 * ((c4 + c5) + 256 * ((c5 + c6) + 256 * ((c6 + c7) + 256 * c7)))))) := by omega
  obtain ⟨c, hc⟩ : ∃ c, c = b + b / 65536 := ⟨_, rfl⟩
  have hc2 : c = (c0 + c1 + c2 + c3) + 256 * ((c1 + c2 + c3 + c4) + 256 * ((c2 + c3 + c4 + c5) + 256 * ((c3 + c4 + c5 + c6) + 256 * ((c4 + c5 + c6 + c7) + 256 * ((c5 + c6 + c7) + 256 * ((c6 + c7) + 256 * c7)))))) := by omega
  refine ⟨a, b, c, rfl, hb.symm, hc.symm, ?_, by omega, by omega, by omega, by omega, by omega, by omega, by omega⟩
  have hd : c / 4294967296 = (c4 + c5 + c6 + c7) + 256 * ((c5 + c6 + c7) + 256 * ((c6 + c7) + 256 * c7)) := by omega
  omega
end Go.Proofs.YtkmfamidahlgiaaGreatDoor
