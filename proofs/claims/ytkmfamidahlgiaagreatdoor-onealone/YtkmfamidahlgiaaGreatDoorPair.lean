/- Contracts of package pair's functions. -/
import Derived.Test.YtkmfamidahlgiaaGreatDoorRows
import Derived.Test.YtkmfamidahlgiaaGreatDoorWMath
import Derived.Test.YtkmfamidahlgiaaGreatDoorFCount
import Derived.WalkKit
import Derived.ProofKit
import Derived.OpenShut
import Derived.WalkLawsBesides
import Derived.Laws.Cover3
namespace Go.Proofs.YtkmfamidahlgiaaGreatDoor
open Go.RowKit
set_option linter.unusedVariables false
set_option maxHeartbeats 400000
theorem cnt_low {x : Nat} {z : Int} (h : Cnt x z) : (FloatKind.f64.format.order 14010698440749613056 x == some .lt || FloatKind.f64.format.order 14010698440749613056 x == some .eq) = true := by
  have e : FloatKind.f64.format.order 14010698440749613056 x = some (compare (-1099511627776) z) := fl_order fl_low h.2.2
  rw [e]
  rcases Int.lt_or_eq_of_le h.1 with g | g
  · rw [Int.compare_eq_lt.2 g]; rfl
  · rw [Int.compare_eq_eq.2 g]; rfl
theorem cnt_high {x : Nat} {z : Int} (h : Cnt x z) : (FloatKind.f64.format.order x 4787326403894837248 == some .lt || FloatKind.f64.format.order x 4787326403894837248 == some .eq) = true := by
  have e : FloatKind.f64.format.order x 4787326403894837248 = some (compare z 1099511627776) := fl_order h.2.2 fl_high
  rw [e]
  rcases Int.lt_or_eq_of_le h.2.1 with g | g
  · rw [Int.compare_eq_lt.2 g]; rfl
  · rw [Int.compare_eq_eq.2 g]; rfl
theorem cnt_eqs {x : Nat} {z : Int} (h : Cnt x z) : (FloatKind.f64.format.order x (floatOfInt .f64 z) == some .eq) = true := by
  have e : FloatKind.f64.format.order x (floatOfInt .f64 z) = some (compare z z) := fl_order h.2.2 (fl_ofInt (by have := h.1; have := h.2.1; omega))
  rw [e, Int.compare_eq_eq.2 rfl]; rfl
theorem cnt_toInt {x : Nat} {z : Int} (h : Cnt x z) : floatToIntVal .f64 x .i64 = some z := by
  have h1 := h.1
  have h2 := h.2.1
  have b1 : IntKind.i64.min = -9223372036854775808 := rfl
  have b2 : IntKind.i64.max = 9223372036854775807 := rfl
  exact fl_toInt h.2.2 (by omega) (by omega)
/-- the word of a count -/
def F (z : Int) : Nat := floatOfInt .f64 z
theorem cnt_F {z : Int} (h1 : -1099511627776 ≤ z) (h2 : z ≤ 1099511627776) : Cnt (F z) z := ⟨h1, h2, fl_ofInt (by omega)⟩
theorem F_zero : F 0 = 0 := rfl
theorem fl_uniq {x : Nat} {a b : Int} (h1 : Fl x a) (h2 : Fl x b) : a = b := by
  have e1 := fl_order h1 h2
  have e2 := fl_order h1 h1
  rw [e1, Int.compare_eq_eq.2 rfl] at e2
  exact Int.compare_eq_eq.1 (Option.some.inj e2)
theorem cnt_uniq {x : Nat} {a b : Int} (h1 : Cnt x a) (h2 : Cnt x b) : a = b := fl_uniq h1.2.2 h2.2.2
theorem hu_no {x : Nat} {s : Bool} (h : Hu x s) : ∀ z, ¬ Cnt x z := by
  intro z hz
  have hb : z.natAbs < 2 ^ 53 := by have := hz.1; have := hz.2.1; omega
  have e1 := fl_order hz.2.2 (fl_ofInt hb)
  rw [(hu_order h (fl_ofInt hb) hb).1, Int.compare_eq_eq.2 rfl] at e1
  cases s <;> cases e1
theorem fl_no {x : Nat} {v : Int} (h : Fl x v) (hv : ¬ (-1099511627776 ≤ v ∧ v ≤ 1099511627776)) : ∀ z, ¬ Cnt x z := by
  intro z hz
  have := fl_uniq h hz.2.2
  subst this
  exact hv ⟨hz.1, hz.2.1⟩
/-- a product's part: the count, or none -/
def Part (x : Nat) (v : Int) : Prop := (-1099511627776 ≤ v ∧ v ≤ 1099511627776 ∧ Cnt x v) ∨ (¬ (-1099511627776 ≤ v ∧ v ≤ 1099511627776) ∧ ∀ z, ¬ Cnt x z)
theorem part_fl {x : Nat} {v : Int} (h : Fl x v) : Part x v := by
  by_cases hv : -1099511627776 ≤ v ∧ v ≤ 1099511627776
  · exact .inl ⟨hv.1, hv.2, hv.1, hv.2, h⟩
  · exact .inr ⟨hv, fl_no h hv⟩
theorem part_hu {x : Nat} {s : Bool} {v : Int} (h : Hu x s) (hv : 2 ^ 53 ≤ v.natAbs) : Part x v := .inr ⟨by omega, hu_no h⟩
theorem cmul {x y : Nat} {a b k : Int} (hx : Cnt x a) (hy : Cnt y b) (h1 : -1099511627776 ≤ k) (h2 : k ≤ 1099511627776) : ∃ re im, cMulBits x y (F k) (F 0) = some (re, im) ∧ Part re (a * k) ∧ Part im (b * k) := by
  have hk : Fl (F k) k := (cnt_F h1 h2).2.2
  have h0 : Fl (F 0) 0 := (cnt_F (by decide) (by decide)).2.2
  obtain ⟨ac, e1, p1⟩ := fl_mul_any hx.2.2 hk
  obtain ⟨bd, e2, p2⟩ := fl_mul hy.2.2 h0 (by simp)
  obtain ⟨ad, e3, p3⟩ := fl_mul hx.2.2 h0 (by simp)
  obtain ⟨bc, e4, p4⟩ := fl_mul_any hy.2.2 hk
  rw [Int.mul_zero] at p2 p3
  have r1 : ∃ re, floatBits .sub .f64 ac bd = some re ∧ Part re (a * k) := by
    rcases p1 with ⟨l, p⟩ | ⟨l, s, p⟩
    · obtain ⟨r, e, q⟩ := fl_sub p p2 (by rw [Int.sub_zero]; exact l)
      rw [Int.sub_zero] at q
      exact ⟨r, e, part_fl q⟩
    · obtain ⟨r, e, q⟩ := hu_sub p p2
      exact ⟨r, e, part_hu q l⟩
  have r2 : ∃ im, floatBits .add .f64 ad bc = some im ∧ Part im (b * k) := by
    rcases p4 with ⟨l, p⟩ | ⟨l, s, p⟩
    · obtain ⟨r, e, q⟩ := fl_add p3 p (by rw [Int.zero_add]; exact l)
      rw [Int.zero_add] at q
      exact ⟨r, e, part_fl q⟩
    · obtain ⟨r, e, q⟩ := hu_add p p3
      exact ⟨r, e, part_hu q l⟩
  obtain ⟨re, e5, q1⟩ := r1
  obtain ⟨im, e6, q2⟩ := r2
  refine ⟨re, im, ?_, q1, q2⟩
  unfold cMulBits
  simp [e1, e2, e3, e4, e5, e6]
/-- what a pair times k is -/
def inB (v : Int) : Bool := decide (-1099511627776 ≤ v) && decide (v ≤ 1099511627776)
theorem inB_iff (v : Int) : inB v = true ↔ -1099511627776 ≤ v ∧ v ≤ 1099511627776 := by simp [inB]
end Go.Proofs.YtkmfamidahlgiaaGreatDoor
