/- Handles of both widths beside the document's. -/
import Derived.Test.YtoaifbengichbabGd5
import Derived.Test.YtoaifbengichbabRef01
namespace Go.Proofs.Ytoaifbengichbab
open Go.RowKit
set_option linter.unusedVariables false
set_option linter.unusedSimpArgs false
set_option maxHeartbeats 2000000
attribute [local go_sem] later_cell later_frozen later_const
/-- handles of both widths have what the document's has, k steps on -/
structure Rel (s : Int) (x y : HS) (r : RH) (k : Nat) : Prop where
  c2 : 2 ≤ r.C
  c1 : r.C ≤ 1073741824
  g0 : 0 ≤ r.G
  gk : r.G ≤ k * 1073741824
  d0 : 0 ≤ r.U - r.G
  d1 : r.U - r.G ≤ r.C
  xC : x.C = r.C
  yC : y.C = r.C
  xc : x.c = !r.P
  yc : y.c = !r.P
  xN : x.N = r.N
  yN : y.N = r.N
  yF : y.F = r.F
  xF : x.F = r.F % 4294967296
  f0 : 0 ≤ r.F
  f1 : r.F < 18446744073709551616
  hN : r.H = decide (0 < r.N)
  no : ¬ 0 < r.N → r.N = 0 ∧ r.F = 0
  pz : r.P = true → x.G = 0 ∧ x.U = 0 ∧ y.G = 0 ∧ y.U = 0 ∧ r.G = 0 ∧ r.U = 0
  cz : r.P = false → x.G = (s + r.G) % 4294967296 ∧ x.U = (s + r.U) % 4294967296 ∧ y.G = U64 (s + r.G) ∧ y.U = U64 (s + r.U) ∧ r.N = 0
theorem Rel.sm {s : Int} {x y : HS} {r : RH} {k : Nat} (R : Rel s x y r k) (hk : k ≤ 100) : Sm r := ⟨R.c1, R.g0, by have := R.gk; omega, R.d0, R.d1⟩
theorem Rel.ready32 {s : Int} {x y : HS} {r : RH} {k : Nat} (R : Rel s x y r k) : D32 (x.U - x.G) = r.U - r.G := by
  have a := R.d0
  have b := R.d1
  have c := R.c1
  cases hP : r.P
  · obtain ⟨h1, h2, _⟩ := R.cz hP
    rw [h1, h2]
    unfold D32
    omega
  · obtain ⟨h1, h2, _, _, h3, h4⟩ := R.pz hP
    rw [h1, h2, h3, h4]
    decide
theorem Rel.ready64 {s : Int} {x y : HS} {r : RH} {k : Nat} (R : Rel s x y r k) : D64 (y.U - y.G) = r.U - r.G := by
  have a := R.d0
  have b := R.d1
  have c := R.c1
  cases hP : r.P
  · obtain ⟨_, _, h1, h2, _⟩ := R.cz hP
    rw [h1, h2]
    unfold D64 U64
    omega
  · obtain ⟨_, _, h1, h2, h3, h4⟩ := R.pz hP
    rw [h1, h2, h3, h4]
    decide
theorem sizePR {h : HS} {r : RH} (hC : h.C = r.C) (hN : h.N = r.N) (hH : r.H = decide (0 < r.N)) (n : Int) : sizeP h n = sizeR r n := by
  unfold sizeP sizeR
  rw [hC, hN, hH]
  simp
theorem mayPR {h : HS} {r : RH} (hC : h.C = r.C) (hN : h.N = r.N) (hH : r.H = decide (0 < r.N)) (op n len : Int) : mayP h op n len = (if op = 5 then sizeR r len else if op = 1 then sizeR r n else if op = 2 then (if r.H then 0 else 14) else 12) := by
  unfold mayP
  rw [sizePR hC hN hH, sizePR hC hN hH, hN, hH]
  simp
theorem Rel.may32 {s : Int} {x y : HS} {r : RH} {k : Nat} (R : Rel s x y r k) (op n len : Int) : may32 x op n len = mayR r op n len := by
  unfold Go.Proofs.Ytoaifbengichbab.may32 mayR
  rw [R.xc, mayPR R.xC R.xN R.hN]
  unfold mayC32
  rw [R.ready32, R.xC]
  cases r.P <;> simp
theorem Rel.may64 {s : Int} {x y : HS} {r : RH} {k : Nat} (R : Rel s x y r k) (op n len : Int) : may64 y op n len = mayR r op n len := by
  unfold Go.Proofs.Ytoaifbengichbab.may64 mayR
  rw [R.yc, mayPR R.yC R.yN R.hN]
  unfold mayC64
  rw [R.ready64, R.yC]
  cases r.P <;> simp
theorem Rel.on {s : Int} {x y : HS} {r : RH} {k : Nat} (R : Rel s x y r k) : Rel s x y r (k + 1) := { R with gk := by have := R.gk; omega }
theorem Rel.step {s : Int} {x y : HS} {r : RH} {k : Nat} (R : Rel s x y r k) (kd n p : Int) (hf : farB kd n = false) (p0 : 0 ≤ p) (p1 : p < 18446744073709551616) :
    Rel s (gstp32 x kd n p).h (gstp64 y kd n p).h (mstp r kd n p).r (k + 1) ∧ (gstp32 x kd n p).ok = (mstp r kd n p).ok ∧ (gstp64 y kd n p).ok = (mstp r kd n p).ok := by
  have r32 := R.ready32
  have r64 := R.ready64
  have on := R.on
  unfold gstp32 gstp64 mstp
  by_cases h1 : kd = 1
  · simp only [if_pos h1]
    unfold claimedS claimedR
    by_cases hc : r.P = false ∨ r.H = true ∨ n < 1 ∨ r.C < n
    · have hx : x.c = true ∨ 0 < x.N ∨ n < 1 ∨ x.C < n := by
        rw [R.xc, R.xN, R.xC]
        rw [R.hN] at hc
        simpa using hc
      have hy : y.c = true ∨ 0 < y.N ∨ n < 1 ∨ y.C < n := by
        rw [R.yc, R.yN, R.yC]
        rw [R.hN] at hc
        simpa using hc
      rw [if_pos hc, if_pos hx, if_pos hy]
      exact ⟨on, rfl, rfl⟩
    · have hx : ¬ (x.c = true ∨ 0 < x.N ∨ n < 1 ∨ x.C < n) := by
        rw [R.xc, R.xN, R.xC]
        rw [R.hN] at hc
        simpa using hc
      have hy : ¬ (y.c = true ∨ 0 < y.N ∨ n < 1 ∨ y.C < n) := by
        rw [R.yc, R.yN, R.yC]
        rw [R.hN] at hc
        simpa using hc
      rw [if_neg hc, if_neg hx, if_neg hy]
      have n1 : ¬ n < 1 := fun h => hc (.inr (.inr (.inl h)))
      have hP : ¬ r.P = false := fun h => hc (.inl h)
      refine ⟨{ on with xN := rfl, yN := rfl, yF := rfl, xF := rfl, f0 := p0, f1 := p1, hN := ?_, no := ?_, pz := on.pz, cz := fun h => absurd h hP }, rfl, rfl⟩
      · show true = decide (0 < n)
        simp
        omega
      · intro h
        exact absurd (show 0 < n by omega) h
  simp only [if_neg h1]
  by_cases h2 : kd = 2
  · simp only [if_pos h2]
    unfold publishedS publishedR
    by_cases hc : 0 < r.N
    · rw [if_pos (by rw [R.xN]; exact hc), if_pos (by rw [R.yN]; exact hc), if_pos (by rw [R.hN]; simpa using hc)]
      refine ⟨{ on with xN := rfl, yN := rfl, yF := rfl, xF := rfl, f0 := Int.le_refl _, f1 := by show (0 : Int) < _; omega, hN := rfl, no := fun _ => ⟨rfl, rfl⟩, pz := on.pz, cz := fun h => ?_ }, rfl, rfl⟩
      have := (R.cz h).2.2.2.2
      omega
    · rw [if_neg (by rw [R.xN]; exact hc), if_neg (by rw [R.yN]; exact hc), if_neg (by rw [R.hN]; simpa using hc)]
      exact ⟨on, rfl, rfl⟩
  simp only [if_neg h2]
  by_cases h3 : kd = 3
  · simp only [if_pos h3]
    have hn : n ≤ 1073741824 ∧ -1073741824 ≤ n := by
      unfold farB at hf
      rw [show decide (kd = 3) = true by simpa using h3, Bool.true_and] at hf
      simp at hf
      exact hf
    have e32 : D32 ((x.G + n) % 4294967296 - x.G) = n := by unfold D32; omega
    have e64 : D64 (U64 (y.G + n) - y.G) = n := by unfold D64 U64; omega
    unfold sawS32 sawS64 sawR
    rw [e32, e64, r32, r64]
    by_cases hc : r.P = true ∨ n < r.U - r.G ∨ r.C < n
    · rw [if_pos hc, if_pos (by rw [R.xc, R.xC]; simpa using hc), if_pos (by rw [R.yc, R.yC]; simpa using hc)]
      exact ⟨on, rfl, rfl⟩
    · rw [if_neg hc, if_neg (by rw [R.xc, R.xC]; simpa using hc), if_neg (by rw [R.yc, R.yC]; simpa using hc)]
      have n0 : r.U - r.G ≤ n := Int.not_lt.1 fun h => hc (.inr (.inl h))
      have n1 : n ≤ r.C := Int.not_lt.1 fun h => hc (.inr (.inr h))
      have hP : r.P = false := by
        cases h : r.P
        · rfl
        · exact absurd (.inl h) hc
      obtain ⟨z1, z2, z3, z4, z5⟩ := R.cz hP
      have := R.d0
      refine ⟨{ on with d0 := ?_, d1 := ?_, pz := ?_, cz := ?_ }, rfl, rfl⟩
      · show 0 ≤ r.G + n - r.G
        omega
      · show r.G + n - r.G ≤ r.C
        omega
      · intro h
        rw [show r.P = true from h] at hP
        cases hP
      · intro _
        refine ⟨z1, ?_, z3, ?_, z5⟩
        · show (x.G + n) % 4294967296 = (s + (r.G + n)) % 4294967296
          rw [z1]
          omega
        · show U64 (y.G + n) = U64 (s + (r.G + n))
          rw [z3]
          unfold U64
          omega
  simp only [if_neg h3]
  by_cases h4 : kd = 4
  · simp only [if_pos h4]
    unfold releasedS32 releasedS64 releasedR
    rw [r32, r64]
    by_cases hc : n < 1 ∨ r.U - r.G < n
    · rw [if_pos hc, if_pos hc, if_pos hc]
      exact ⟨on, rfl, rfl⟩
    · rw [if_neg hc, if_neg hc, if_neg hc]
      have hP : r.P = false := by
        cases h : r.P
        · rfl
        · obtain ⟨_, _, _, _, a, b⟩ := R.pz h
          omega
      obtain ⟨z1, z2, z3, z4, z5⟩ := R.cz hP
      have := R.d0
      have := R.d1
      have := R.c1
      have := R.g0
      have := R.gk
      refine ⟨{ on with g0 := ?_, gk := ?_, d0 := ?_, d1 := ?_, pz := ?_, cz := ?_ }, rfl, rfl⟩
      · show 0 ≤ r.G + n
        omega
      · show r.G + n ≤ ((k + 1 : Nat) : Int) * 1073741824
        omega
      · show 0 ≤ r.U - (r.G + n)
        omega
      · show r.U - (r.G + n) ≤ r.C
        omega
      · intro h
        rw [show r.P = true from h] at hP
        cases hP
      · intro _
        refine ⟨?_, z2, ?_, z4, z5⟩
        · show (x.G + n) % 4294967296 = (s + (r.G + n)) % 4294967296
          rw [z1]
          omega
        · show U64 (y.G + n) = U64 (s + (r.G + n))
          rw [z3]
          unfold U64
          omega
  simp only [if_neg h4]
  exact ⟨on, trivial, trivial⟩
theorem Rel.start (s C : Int) (P : Bool) (hr : rightB C = true) (s0 : 0 ≤ s) (s1 : s < 18446744073709551616) :
    Rel s (if P then ⟨C, false, 0, 0, 0, 0⟩ else ⟨C, true, 0, 0, s % 4294967296, s % 4294967296⟩) (if P then ⟨C, false, 0, 0, 0, 0⟩ else ⟨C, true, 0, 0, s, s⟩) ⟨C, P, false, 0, 0, 0, 0⟩ 0 := by
  obtain ⟨c0, c1⟩ := right_range hr
  have e : s = U64 (s + 0) := by unfold U64; omega
  cases P
  · refine ⟨c0, c1, Int.le_refl 0, by simp, by simp, by simp; omega, rfl, rfl, rfl, rfl, rfl, rfl, rfl, rfl, Int.le_refl 0, by simp, rfl, fun _ => ⟨rfl, rfl⟩, fun h => (by cases h), fun _ => ⟨by simp, by simp, by simpa using e, by simpa using e, rfl⟩⟩
  · refine ⟨c0, c1, Int.le_refl 0, by simp, by simp, by simp; omega, rfl, rfl, rfl, rfl, rfl, rfl, rfl, rfl, Int.le_refl 0, by simp, rfl, fun _ => ⟨rfl, rfl⟩, fun _ => ⟨rfl, rfl, rfl, rfl, rfl, rfl⟩, fun h => by cases h⟩
theorem span32_is (b : Nat) (h : HS) (w : World) (H : HD .u32 w b h) (no : ¬ 0 < h.N → h.N = 0 ∧ h.F = 0) : Calls Try.prog 26 #[.pointer (some ⟨b, 0, none⟩)] w (SpanDoes32 h.F h.N (decide (0 < h.N)) w) := by
  by_cases h1 : 0 < h.N
  · rw [show decide (0 < h.N) = true by simpa using h1]
    exact span32_yes b h w H h1
  · rw [show decide (0 < h.N) = false by simpa using h1, (no h1).1, (no h1).2]
    exact span32_no b h w H h1
theorem span64_is (b : Nat) (h : HS) (w : World) (H : HD .u64 w b h) (no : ¬ 0 < h.N → h.N = 0 ∧ h.F = 0) : Calls Try.prog 48 #[.pointer (some ⟨b, 0, none⟩)] w (SpanDoes64 h.F h.N (decide (0 < h.N)) w) := by
  by_cases h1 : 0 < h.N
  · rw [show decide (0 < h.N) = true by simpa using h1]
    exact span64_yes b h w H h1
  · rw [show decide (0 < h.N) = false by simpa using h1, (no h1).1, (no h1).2]
    exact span64_no b h w H h1
end Go.Proofs.Ytoaifbengichbab
