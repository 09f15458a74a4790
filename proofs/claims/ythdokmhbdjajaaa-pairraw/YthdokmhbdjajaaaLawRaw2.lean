/- PairRaw, all ways. -/
import Derived.Test.YthdokmhbdjajaaaLawRaw
namespace Go.Proofs.Ythdokmhbdjajaaa
open Go.RowKit
set_option linter.unusedVariables false
set_option maxHeartbeats 4000000
theorem swap_is {x y : Nat} {o : Ordering} (h : FloatKind.f64.format.order x y = some o) : FloatKind.f64.format.order y x = some o.swap := by
  rw [show FloatKind.f64.format.order y x = (FloatKind.f64.format.order x y).map Ordering.swap from forder_swap x y, h]; rfl
theorem swap_not {x y : Nat} {o : Ordering} (h : FloatKind.f64.format.order x y ≠ some o) : FloatKind.f64.format.order y x ≠ some o.swap := by
  intro h'
  apply h
  have := swap_is h'
  rwa [Ordering.swap_swap] at this
theorem LX_low {x : Nat} (h1 : FloatKind.f64.format.order 14010698440749613056 x ≠ some .lt) (h2 : FloatKind.f64.format.order 14010698440749613056 x ≠ some .eq) : LX x = false := by
  unfold LX
  rw [beq_false_of_ne (show FloatKind.f64.format.order x 14010698440749613056 ≠ some .gt from swap_not h1), beq_false_of_ne (show FloatKind.f64.format.order x 14010698440749613056 ≠ some .eq from swap_not h2)]; rfl
theorem LX_in {x : Nat} (h : FloatKind.f64.format.order 14010698440749613056 x = some .lt) : LX x = true := by
  unfold LX
  rw [swap_is h]; rfl
theorem HX_high {x : Nat} (h1 : FloatKind.f64.format.order x 4787326403894837248 ≠ some .lt) (h2 : FloatKind.f64.format.order x 4787326403894837248 ≠ some .eq) : HX x = false := by
  unfold HX
  rw [beq_false_of_ne h1, beq_false_of_ne h2]; rfl
theorem HX_in {x : Nat} (h : FloatKind.f64.format.order x 4787326403894837248 = some .lt) : HX x = true := by
  unfold HX
  rw [h]; rfl
theorem EX_no {x : Nat} {n : Int} (h : FloatKind.f64.format.order x (floatOfInt .f64 n) ≠ some .eq) : EX x n = false := by
  unfold EX
  exact beq_false_of_ne (swap_not h)
theorem cnt_LX {x : Nat} {z : Int} (h : Cnt x z) : LX x = true := by
  have e : FloatKind.f64.format.order x 14010698440749613056 = some (compare z (-1099511627776)) := fl_order h.2.2 fl_low
  unfold LX
  rw [e]
  rcases Int.lt_or_eq_of_le h.1 with g | g
  · rw [Int.compare_eq_gt.2 g]; rfl
  · rw [Int.compare_eq_eq.2 g.symm]; rfl
theorem cnt_HX {x : Nat} {z : Int} (h : Cnt x z) : HX x = true := cnt_high h
theorem cnt_EX {x : Nat} {z : Int} (h : Cnt x z) : EX x z = true := by
  have e : FloatKind.f64.format.order (floatOfInt .f64 z) x = some (compare z z) := fl_order (fl_ofInt (by have := h.1; have := h.2.1; omega)) h.2.2
  unfold EX
  rw [e, Int.compare_eq_eq.2 rfl]; rfl
set_option maxRecDepth 100000 in
theorem raw_yes (x y : Nat) (a b k : Int) (w : World) (hx : Cnt x a) (hy : Cnt y b) : Calls Try.prog 6 #[.float .f64 x, .float .f64 y, .int .i64 k] w fun e w' => e = .returned (.bool true) ∧ Below w.heap.size w w' := by
  have lx := cnt_LX hx
  have gx := cnt_HX hx
  have ex := cnt_EX hx
  have ly := cnt_LX hy
  have gy := cnt_HX hy
  have ey := cnt_EX hy
  unfold LX at lx ly
  unfold HX at gx gy
  unfold EX at ex ey
  have fx : (FloatKind.f64.format.order (F a) x == some .eq) = true := ex
  have fy : (FloatKind.f64.format.order (F b) y == some .eq) = true := ey
  have cx := conv_i64 (cnt_toInt hx)
  have cy := conv_i64 (cnt_toInt hy)
  have dx := conv_int (cnt_toInt hx)
  have dy := conv_int (cnt_toInt hy)
  have hw : Way [(a, b)] := by
    intro k hk
    match k, hk with
    | 0, _ => exact ⟨rfl, rfl⟩
    | 1, _ => exact ⟨by simp [sumA, inB_iff, hx.1, hx.2.1], by simp [sumB, inB_iff, hy.1, hy.2.1]⟩
  have c := fun (w' : World) (g : Nat) (h0 : w'.cell? ⟨g, 0, none⟩ = some (.complex .f64 x y)) =>
    sum_yes (.slice (some ⟨g, 0, none⟩) 1 1) [(a, b)] w' (.inr ⟨g, 0, 1, rfl, fun j hj => match j, hj with | 0, _ => ⟨x, y, h0, hx, hy⟩⟩) (by simp) hw
  rw [show sumA [(a, b)] = a by simp [sumA], show sumB [(a, b)] = b by simp [sumB]] at c
  have C := Lib.hid c
  clear c hw
  go_enter Try.func6, Try.ntmps6
  go_wp2_with fail
  refine (whole_yes _ _ _ _ _ hx hy).mono ?_
  rintro e w' ⟨rfl, rfl⟩
  go_wp2_with fail
  refine (first_yes _ _ _ _ _ hx hy).mono ?_
  rintro e w' ⟨rfl, rfl⟩
  go_wp2_with fail
  refine (second_yes _ _ _ _ _ hx hy).mono ?_
  rintro e w' ⟨rfl, rfl⟩
  go_wp2_with fail
  refine (C.out _ _ (by simp [go_sem])).mono ?_
  rintro e w' ⟨rfl, rfl⟩
  go_wp2_with fail
  refine (live04 _).mono ?_
  rintro e w2 ⟨rfl, X2⟩
  go_wp2
  go_ret
  exact ⟨rfl, Ext.below (((Ext.refl w).alloc _).trans X2)⟩
theorem pairRaw_walk (x y : Nat) (k : Int) (w : World) (w0 : (Lit.float .f64 x).wf = true) (w1 : (Lit.float .f64 y).wf = true) (w2 : (Lit.int .i64 k).wf = true) :
    Calls Try.prog 6 #[.float .f64 x, .float .f64 y, .int .i64 k] w fun e w' => e = .returned (.bool true) ∧ Below w.heap.size w w' := by
  by_cases hx : ∃ a, Cnt x a
  · obtain ⟨a, ha⟩ := hx
    by_cases hy : ∃ b, Cnt y b
    · obtain ⟨b, hb⟩ := hy
      exact raw_yes x y a b k w ha hb
    · have h : (∀ z, ¬ Cnt x z) ∨ (∀ z, ¬ Cnt y z) := .inr fun z hz => hy ⟨z, hz⟩
      rcases told y with ⟨z, hz⟩ | ⟨h1, h2⟩ | ⟨h0, h1, h2⟩ | ⟨h0, h1, n, hn, h2, h3, h4⟩
      · exact absurd ⟨z, hz⟩ hy
      · exact raw_noC x y k w h (cnt_LX ha) (cnt_HX ha) (LX_low h1 h2)
      · exact raw_noD x y k w h (cnt_LX ha) (cnt_HX ha) (LX_in h0) (HX_high h1 h2)
      · exact raw_noF x y k w h (cnt_LX ha) (cnt_HX ha) (LX_in h0) (HX_in h1) a (cnt_toInt ha) (cnt_EX ha) n hn (EX_no h4)
  · have h : (∀ z, ¬ Cnt x z) ∨ (∀ z, ¬ Cnt y z) := .inl fun z hz => hx ⟨z, hz⟩
    rcases told x with ⟨z, hz⟩ | ⟨h1, h2⟩ | ⟨h0, h1, h2⟩ | ⟨h0, h1, n, hn, h2, h3, h4⟩
    · exact absurd ⟨z, hz⟩ hx
    · exact raw_noA x y k w h (LX_low h1 h2)
    · exact raw_noB x y k w h (LX_in h0) (HX_high h1 h2)
    · rcases told y with ⟨z, hz⟩ | ⟨g1, g2⟩ | ⟨g0, g1, g2⟩ | ⟨g0, g1, m, hm, g2, g3, g4⟩
      · exact raw_noE x y k w h (LX_in h0) (HX_in h1) (cnt_LX hz) (cnt_HX hz) n hn (EX_no h4)
      · exact raw_noC x y k w h (LX_in h0) (HX_in h1) (LX_low g1 g2)
      · exact raw_noD x y k w h (LX_in h0) (HX_in h1) (LX_in g0) (HX_high g1 g2)
      · exact raw_noE x y k w h (LX_in h0) (HX_in h1) (LX_in g0) (HX_in g1) n hn (EX_no h4)
end Go.Proofs.Ythdokmhbdjajaaa
