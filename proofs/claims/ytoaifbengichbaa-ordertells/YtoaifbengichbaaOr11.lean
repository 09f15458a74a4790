/- The document's Right, Clash, ahead, Source. -/
import Derived.Test.YtoaifbengichbaaOr10
namespace Go.Proofs.Ytoaifbengichbaa
open Go.RowKit
set_option linter.unusedVariables false
set_option linter.unusedSimpArgs false
set_option maxHeartbeats 4000000
attribute [local go_sem] later_cell later_frozen later_const
/-- where a list that is not empty lies -/
theorem AccV.all {w : World} {v : Value} {ls : List Acc} (h : AccV w v ls) (h0 : 0 < ls.length) : ∃ b off cap, v = .slice (some ⟨b, off, none⟩) ls.length cap ∧ ∀ w', Ext w w' → ∀ i, i < ls.length →
    w'.cell? ⟨b, off + i * 5, none⟩ = some (.int .i64 (A ls i).t) ∧ w'.cell? ⟨b, off + i * 5 + 1, none⟩ = some (.int .i64 (A ls i).k) ∧ w'.cell? ⟨b, off + i * 5 + 2, none⟩ = some (.int .i64 (A ls i).c) ∧ w'.cell? ⟨b, off + i * 5 + 3, none⟩ = some (.int .u64 (A ls i).o) ∧ w'.cell? ⟨b, off + i * 5 + 4, none⟩ = some (.int .u64 (A ls i).n) := by
  obtain ⟨a, cap, rfl, _, _⟩ := h.form
  obtain ⟨b, off, rfl, _⟩ := h.at (Ext.refl w) h0
  refine ⟨b, off, cap, rfl, fun w' hx i hi => ?_⟩
  obtain ⟨b2, o2, e, hc⟩ := h.at hx hi
  cases e
  rw [A_at hi] at hc
  exact hc
def clA (x y : Acc) : Bool := plB x.k && plB y.k && decide (x.c = y.c) && decide (x.t ≠ y.t) && (decide (x.k = 7) || decide (y.k = 7))
theorem rClash (x y : Acc) (w : World) : Calls Try.prog 44 #[.agg #[.int .i64 x.t, .int .i64 x.k, .int .i64 x.c, .int .u64 x.o, .int .u64 x.n], .agg #[.int .i64 y.t, .int .i64 y.k, .int .i64 y.c, .int .u64 y.o, .int .u64 y.n]] w fun e w' => e = .returned (.bool (clA x y)) ∧ Ext w w' := by
  have CX := Lib.hid (fun w => rPlain x.k w)
  have CY := Lib.hid (fun w => rPlain y.k w)
  cases hx : plB x.k
  · rw [hx] at CX
    rw [show clA x y = false by unfold clA; rw [hx]; rfl]
    go_enter Try.func44, Try.ntmps44
    go_wp2_with fail
    refine (CX.out _).mono ?_
    rintro e w' ⟨rfl, rfl⟩
    go_wp2
    go_ret
    refine ⟨rfl, ?_⟩
    repeat (first | with_reducible exact Ext.refl _ | with_reducible assumption | with_reducible refine Ext.alloc ?_ _ | with_reducible refine Ext.drew ?_ | with_reducible refine Ext.drewN ?_ _ | with_reducible refine Ext.setCell ?_ (by simp <;> omega) _ | with_reducible refine Ext.trans ?_ (by assumption))
  cases hy : plB y.k
  · rw [hx] at CX
    rw [hy] at CY
    rw [show clA x y = false by unfold clA; rw [hx, hy]; rfl]
    go_enter Try.func44, Try.ntmps44
    go_wp2_with fail
    refine (CX.out _).mono ?_
    rintro e w' ⟨rfl, rfl⟩
    go_wp2_with fail
    refine (CY.out _).mono ?_
    rintro e w' ⟨rfl, rfl⟩
    go_wp2
    go_ret
    refine ⟨rfl, ?_⟩
    repeat (first | with_reducible exact Ext.refl _ | with_reducible assumption | with_reducible refine Ext.alloc ?_ _ | with_reducible refine Ext.drew ?_ | with_reducible refine Ext.drewN ?_ _ | with_reducible refine Ext.setCell ?_ (by simp <;> omega) _ | with_reducible refine Ext.trans ?_ (by assumption))
  rw [hx] at CX
  rw [hy] at CY
  by_cases hc : x.c = y.c
  case neg =>
    have e1 : (x.c == y.c) = false := by simpa using hc
    rw [show clA x y = false by unfold clA; rw [decide_eq_false hc]; simp]
    go_enter Try.func44, Try.ntmps44
    go_wp2_with fail
    refine (CX.out _).mono ?_
    rintro e w' ⟨rfl, rfl⟩
    go_wp2_with fail
    refine (CY.out _).mono ?_
    rintro e w' ⟨rfl, rfl⟩
    go_wp2
    go_ret
    refine ⟨rfl, ?_⟩
    repeat (first | with_reducible exact Ext.refl _ | with_reducible assumption | with_reducible refine Ext.alloc ?_ _ | with_reducible refine Ext.drew ?_ | with_reducible refine Ext.drewN ?_ _ | with_reducible refine Ext.setCell ?_ (by simp <;> omega) _ | with_reducible refine Ext.trans ?_ (by assumption))
  have e1 : (x.c == y.c) = true := by simpa using hc
  by_cases ht : x.t = y.t
  · have e2 : (x.t == y.t) = true := by simpa using ht
    rw [show clA x y = false by unfold clA; rw [show decide (x.t ≠ y.t) = false by simpa using ht]; simp]
    go_enter Try.func44, Try.ntmps44
    go_wp2_with fail
    refine (CX.out _).mono ?_
    rintro e w' ⟨rfl, rfl⟩
    go_wp2_with fail
    refine (CY.out _).mono ?_
    rintro e w' ⟨rfl, rfl⟩
    go_wp2
    go_ret
    refine ⟨rfl, ?_⟩
    repeat (first | with_reducible exact Ext.refl _ | with_reducible assumption | with_reducible refine Ext.alloc ?_ _ | with_reducible refine Ext.drew ?_ | with_reducible refine Ext.drewN ?_ _ | with_reducible refine Ext.setCell ?_ (by simp <;> omega) _ | with_reducible refine Ext.trans ?_ (by assumption))
  have e2 : (x.t == y.t) = false := by simpa using ht
  have e5 : (x.t != y.t) = true := by simp [bne, e2]
  by_cases h7 : x.k = 7
  · have e3 : (x.k == 7) = true := by simpa using h7
    rw [h7] at CX
    rw [show clA x y = true by unfold clA; rw [hx, hy]; simp [hc, ht, h7]]
    go_enter Try.func44, Try.ntmps44
    go_wp2_with fail
    refine (CX.out _).mono ?_
    rintro e w' ⟨rfl, rfl⟩
    go_wp2_with fail
    refine (CY.out _).mono ?_
    rintro e w' ⟨rfl, rfl⟩
    go_wp2
    go_ret
    refine ⟨rfl, ?_⟩
    repeat (first | with_reducible exact Ext.refl _ | with_reducible assumption | with_reducible refine Ext.alloc ?_ _ | with_reducible refine Ext.drew ?_ | with_reducible refine Ext.drewN ?_ _ | with_reducible refine Ext.setCell ?_ (by simp <;> omega) _ | with_reducible refine Ext.trans ?_ (by assumption))
  have e3 : (x.k == 7) = false := by simpa using h7
  by_cases h8 : y.k = 7
  · have e4 : (y.k == 7) = true := by simpa using h8
    rw [h8] at CY
    rw [show clA x y = true by unfold clA; rw [hx, hy]; simp [hc, ht, h8]]
    go_enter Try.func44, Try.ntmps44
    go_wp2_with fail
    refine (CX.out _).mono ?_
    rintro e w' ⟨rfl, rfl⟩
    go_wp2_with fail
    refine (CY.out _).mono ?_
    rintro e w' ⟨rfl, rfl⟩
    go_wp2
    go_ret
    refine ⟨rfl, ?_⟩
    repeat (first | with_reducible exact Ext.refl _ | with_reducible assumption | with_reducible refine Ext.alloc ?_ _ | with_reducible refine Ext.drew ?_ | with_reducible refine Ext.drewN ?_ _ | with_reducible refine Ext.setCell ?_ (by simp <;> omega) _ | with_reducible refine Ext.trans ?_ (by assumption))
  have e4 : (y.k == 7) = false := by simpa using h8
  rw [show clA x y = false by unfold clA; simp [h7, h8]]
  go_enter Try.func44, Try.ntmps44
  go_wp2_with fail
  refine (CX.out _).mono ?_
  rintro e w' ⟨rfl, rfl⟩
  go_wp2_with fail
  refine (CY.out _).mono ?_
  rintro e w' ⟨rfl, rfl⟩
  go_wp2
  go_ret
  refine ⟨rfl, ?_⟩
  repeat (first | with_reducible exact Ext.refl _ | with_reducible assumption | with_reducible refine Ext.alloc ?_ _ | with_reducible refine Ext.drew ?_ | with_reducible refine Ext.drewN ?_ _ | with_reducible refine Ext.setCell ?_ (by simp <;> omega) _ | with_reducible refine Ext.trans ?_ (by assumption))
set_option maxRecDepth 100000 in
theorem rRight (n : Int) (v : Value) (ls : List Acc) (w : World) (h : AccV w v ls) : Calls Try.prog 9 #[.int .i64 n, v] w fun e w' => e = .returned (.bool (rightL n ls)) ∧ Ext w w' := by
  obtain ⟨a, cap, rfl, hc, hm⟩ := h.form
  have hl : ls.length ≤ 9223372036854775807 := by unfold maxLen at hm; omega
  have HA := Lib.hid h
  clear h
  by_cases h1 : n < 1
  · have d1 : decide (0 < n) = false := by simp; omega
    rw [right_n (.inl h1)]
    go_enter Try.func9, Try.ntmps9
    go_wp2
    go_loopw [6, 5] (fun i g wr => ∃ k : Nat, k ≤ ls.length ∧ i = .int .i64 k ∧ g = .bool false ∧ Ext w wr) (fun i _ _ => ls.length - (intOf i).toNat)
    case atStart => exact ⟨0, Nat.zero_le _, rfl, rfl, Ext.refl _⟩
    case round =>
      obtain ⟨k, hk, rfl, rfl, hx⟩ := hrel
      by_cases hlt : k < ls.length
      case neg =>
        obtain rfl : k = ls.length := by omega
        go_wp2
        go_ret
        exact ⟨rfl, hx⟩
      have hkl : (k : Int) < (ls.length : Int) := by omega
      obtain ⟨b, off, ea, c0, c1, c2, c3, c4⟩ := HA.out.at hx hlt
      subst ea
      generalize ls[k] = x at *
      go_wp2
      exact ⟨⟨k + 1, by omega, by go_num, rfl, hx.trans (by repeat (first | with_reducible exact Ext.refl _ | with_reducible assumption | with_reducible refine Ext.alloc ?_ _ | with_reducible refine Ext.drew ?_ | with_reducible refine Ext.drewN ?_ _ | with_reducible refine Ext.setCell ?_ (by simp <;> omega) _ | with_reducible refine Ext.trans ?_ (by assumption)))⟩, by simp [intOf]; omega⟩
  have d1 : decide (0 < n) = true := by simp; omega
  by_cases h2 : 10 < n
  · have d2 : decide (n < 11) = false := by simp; omega
    rw [right_n (.inr h2)]
    go_enter Try.func9, Try.ntmps9
    go_wp2
    go_loopw [6, 5] (fun i g wr => ∃ k : Nat, k ≤ ls.length ∧ i = .int .i64 k ∧ g = .bool false ∧ Ext w wr) (fun i _ _ => ls.length - (intOf i).toNat)
    case atStart => exact ⟨0, Nat.zero_le _, rfl, rfl, Ext.refl _⟩
    case round =>
      obtain ⟨k, hk, rfl, rfl, hx⟩ := hrel
      by_cases hlt : k < ls.length
      case neg =>
        obtain rfl : k = ls.length := by omega
        go_wp2
        go_ret
        exact ⟨rfl, hx⟩
      have hkl : (k : Int) < (ls.length : Int) := by omega
      obtain ⟨b, off, ea, c0, c1, c2, c3, c4⟩ := HA.out.at hx hlt
      subst ea
      generalize ls[k] = x at *
      go_wp2
      exact ⟨⟨k + 1, by omega, by go_num, rfl, hx.trans (by repeat (first | with_reducible exact Ext.refl _ | with_reducible assumption | with_reducible refine Ext.alloc ?_ _ | with_reducible refine Ext.drew ?_ | with_reducible refine Ext.drewN ?_ _ | with_reducible refine Ext.setCell ?_ (by simp <;> omega) _ | with_reducible refine Ext.trans ?_ (by assumption)))⟩, by simp [intOf]; omega⟩
  have d2 : decide (n < 11) = true := by simp; omega
  have HYES := Lib.hid (fun hh => right_yes_all (n := n) (ls := ls) (by omega) (by omega) hh)
  have HNO := Lib.hid (fun i hi => right_no_at (n := n) (ls := ls) (i := i) hi)
  generalize rightL n ls = R at *
  go_enter Try.func9, Try.ntmps9
  go_wp2
  go_loopw [6, 5] (fun i g wr => ∃ (k : Nat) (y : Bool), k ≤ ls.length ∧ i = .int .i64 k ∧ g = .bool y ∧ (y = true → ∀ j (hj : j < ls.length), j < k → accOk n ls[j] = true) ∧ (y = false → R = false) ∧ Ext w wr) (fun i _ _ => ls.length - (intOf i).toNat)
  case atStart => exact ⟨0, true, Nat.zero_le _, rfl, rfl, fun _ j _ h => absurd h (Nat.not_lt_zero _), fun h => (by cases h), Ext.refl _⟩
  case round =>
    obtain ⟨k, y, hk, rfl, rfl, hyes, hno, hx⟩ := hrel
    by_cases hlt : k < ls.length
    case neg =>
      obtain rfl : k = ls.length := by omega
      have e : R = y := by
        cases y
        · exact hno rfl
        · exact HYES.out (fun i hi => hyes rfl i hi hi)
      subst e
      clear hyes hno
      go_wp2
      go_ret
      exact ⟨rfl, hx⟩
    have hkl : (k : Int) < (ls.length : Int) := by omega
    obtain ⟨b, off, ea, c0, c1, c2, c3, c4⟩ := HA.out.at hx hlt
    subst ea
    have NO := Lib.hid (HNO.out k hlt)
    have HX := Lib.hid hx
    cases y
    case false =>
      have HR := Lib.hid (hno rfl)
      clear hyes hno hx
      generalize ls[k] = x at *
      go_wp2
      exact ⟨⟨k + 1, false, by omega, by go_num, rfl, fun h => (by cases h), fun _ => HR.out, HX.out.trans (by repeat (first | with_reducible exact Ext.refl _ | with_reducible assumption | with_reducible refine Ext.alloc ?_ _ | with_reducible refine Ext.drew ?_ | with_reducible refine Ext.drewN ?_ _ | with_reducible refine Ext.setCell ?_ (by simp <;> omega) _ | with_reducible refine Ext.trans ?_ (by assumption)))⟩, by simp [intOf]; omega⟩
    have HALL := Lib.hid (hyes rfl)
    have STEP : Hid (accOk n ls[k] = true → ∀ j (hj : j < ls.length), j < k + 1 → accOk n ls[j] = true) := Lib.hid (fun e j hj hjk => by
      by_cases hjk' : j < k
      · exact HALL.out j hj hjk'
      · have : j = k := by omega
        subst this
        exact e)
    clear hyes hno hx
    generalize hxx : ls[k] = x at *
    clear hxx
    by_cases g0 : x.t < 0
    · have f0 : decide (0 ≤ x.t) = false := by simp; omega
      have HR : Hid (R = false) := Lib.hid (NO.out (by unfold accOk; simp; omega))
      go_wp2
      exact ⟨⟨k + 1, false, by omega, by go_num, rfl, fun h => (by cases h), fun _ => HR.out, HX.out.trans (by repeat (first | with_reducible exact Ext.refl _ | with_reducible assumption | with_reducible refine Ext.alloc ?_ _ | with_reducible refine Ext.drew ?_ | with_reducible refine Ext.drewN ?_ _ | with_reducible refine Ext.setCell ?_ (by simp <;> omega) _ | with_reducible refine Ext.trans ?_ (by assumption)))⟩, by simp [intOf]; omega⟩
    have f0 : decide (0 ≤ x.t) = true := by simp; omega
    by_cases g1 : n ≤ x.t
    · have f1 : decide (x.t < n) = false := by simp; omega
      have HR : Hid (R = false) := Lib.hid (NO.out (by unfold accOk; simp; omega))
      go_wp2
      exact ⟨⟨k + 1, false, by omega, by go_num, rfl, fun h => (by cases h), fun _ => HR.out, HX.out.trans (by repeat (first | with_reducible exact Ext.refl _ | with_reducible assumption | with_reducible refine Ext.alloc ?_ _ | with_reducible refine Ext.drew ?_ | with_reducible refine Ext.drewN ?_ _ | with_reducible refine Ext.setCell ?_ (by simp <;> omega) _ | with_reducible refine Ext.trans ?_ (by assumption)))⟩, by simp [intOf]; omega⟩
    have f1 : decide (x.t < n) = true := by simp; omega
    by_cases g2 : x.k < 1
    · have f2 : decide (0 < x.k) = false := by simp; omega
      have HR : Hid (R = false) := Lib.hid (NO.out (by unfold accOk; simp; omega))
      go_wp2
      exact ⟨⟨k + 1, false, by omega, by go_num, rfl, fun h => (by cases h), fun _ => HR.out, HX.out.trans (by repeat (first | with_reducible exact Ext.refl _ | with_reducible assumption | with_reducible refine Ext.alloc ?_ _ | with_reducible refine Ext.drew ?_ | with_reducible refine Ext.drewN ?_ _ | with_reducible refine Ext.setCell ?_ (by simp <;> omega) _ | with_reducible refine Ext.trans ?_ (by assumption)))⟩, by simp [intOf]; omega⟩
    have f2 : decide (0 < x.k) = true := by simp; omega
    by_cases g3 : 8 ≤ x.k
    · have f3 : decide (x.k < 8) = false := by simp; omega
      have HR : Hid (R = false) := Lib.hid (NO.out (by unfold accOk; simp; omega))
      go_wp2
      exact ⟨⟨k + 1, false, by omega, by go_num, rfl, fun h => (by cases h), fun _ => HR.out, HX.out.trans (by repeat (first | with_reducible exact Ext.refl _ | with_reducible assumption | with_reducible refine Ext.alloc ?_ _ | with_reducible refine Ext.drew ?_ | with_reducible refine Ext.drewN ?_ _ | with_reducible refine Ext.setCell ?_ (by simp <;> omega) _ | with_reducible refine Ext.trans ?_ (by assumption)))⟩, by simp [intOf]; omega⟩
    have f3 : decide (x.k < 8) = true := by simp; omega
    by_cases g4 : x.c < 0
    · have f4 : decide (0 ≤ x.c) = false := by simp; omega
      have HR : Hid (R = false) := Lib.hid (NO.out (by unfold accOk; simp; omega))
      go_wp2
      exact ⟨⟨k + 1, false, by omega, by go_num, rfl, fun h => (by cases h), fun _ => HR.out, HX.out.trans (by repeat (first | with_reducible exact Ext.refl _ | with_reducible assumption | with_reducible refine Ext.alloc ?_ _ | with_reducible refine Ext.drew ?_ | with_reducible refine Ext.drewN ?_ _ | with_reducible refine Ext.setCell ?_ (by simp <;> omega) _ | with_reducible refine Ext.trans ?_ (by assumption)))⟩, by simp [intOf]; omega⟩
    have f4 : decide (0 ≤ x.c) = true := by simp; omega
    have HS := Lib.hid (STEP.out (by unfold accOk; simp; omega))
    go_wp2
    exact ⟨⟨k + 1, true, by omega, by go_num, rfl, fun _ => HS.out, fun h => (by cases h), HX.out.trans (by repeat (first | with_reducible exact Ext.refl _ | with_reducible assumption | with_reducible refine Ext.alloc ?_ _ | with_reducible refine Ext.drew ?_ | with_reducible refine Ext.drewN ?_ _ | with_reducible refine Ext.setCell ?_ (by simp <;> omega) _ | with_reducible refine Ext.trans ?_ (by assumption)))⟩, by simp [intOf]; omega⟩
set_option maxRecDepth 100000 in
theorem rAhead (v : Value) (ls : List Acc) (i : Nat) (w : World) (h : AccV w v ls) (hi : i < ls.length) (hl : ls.length ≤ 1000) : Calls Try.prog 41 #[v, .int .i64 i] w fun e w' => e = .returned (.int .i64 (prv ls (A ls i).t i)) ∧ Ext w w' := by
  obtain ⟨b, off, cap, rfl, hcs⟩ := h.all (by omega)
  have HC := Lib.hid hcs
  have HP : Hid (∀ k, prv ls (A ls i).t (k + 1) = if (A ls k).t = (A ls i).t then (k : Int) else prv ls (A ls i).t k) := Lib.hid (fun k => prv_succ ls _ k)
  have HP0 : prv ls (A ls i).t 0 = -1 := rfl
  generalize hq : prv ls (A ls i).t = q at *
  clear h hcs hq
  go_enter Try.func41, Try.ntmps41
  go_wp2
  go_loopw [6, 5] (fun x o wr => ∃ k : Nat, k ≤ i ∧ x = .int .i64 k ∧ o = .int .i64 (q k) ∧ Ext w wr) (fun x _ _ => i - (intOf x).toNat)
  case atStart => exact ⟨0, Nat.zero_le _, rfl, by rw [HP0], Ext.refl _⟩
  case round =>
    obtain ⟨k, hk, rfl, rfl, hx⟩ := hrel
    by_cases hlt : k < i
    case neg =>
      obtain rfl : k = i := by omega
      go_wp2
      go_ret
      exact ⟨rfl, hx⟩
    have hki : (k : Int) < (i : Int) := by omega
    have hkl : (k : Int) < (ls.length : Int) := by omega
    have hil : (i : Int) < (ls.length : Int) := by omega
    obtain ⟨qx_0, _⟩ := HC.out _ hx k (by omega)
    obtain ⟨qy_0, _⟩ := HC.out _ hx i hi
    have hs := HP.out k
    have HX := Lib.hid hx
    clear hx
    generalize hqk : q k = qk at *
    by_cases he : (A ls k).t = (A ls i).t
    · have e1 : ((A ls k).t == (A ls i).t) = true := by simpa using he
      rw [if_pos he] at hs
      have HS := Lib.hid hs
      clear hs hqk he
      generalize (A ls k).t = xt at *
      generalize (A ls i).t = yt at *
      go_wp2_with fail
      refine wp_region_later (by kernel_rfl) (by kernel_rfl) ?_
      have lx_0 := fun (g : Later wr) => g.ok.cell qx_0
      have ly_0 := fun (g : Later wr) => g.ok.cell qy_0
      repeat (go_big_quiet_step ((fail)))
      refine wpQuiet_nil ?_
      intro w1 hl1
      have hb1 := laters_ext hl1
      clear hl1 lx_0 ly_0
      have hx1 : Ext wr w1 := by repeat (first | with_reducible exact Ext.refl _ | with_reducible assumption | with_reducible refine Ext.alloc ?_ _ | with_reducible refine Ext.drew ?_ | with_reducible refine Ext.drewN ?_ _ | with_reducible refine Ext.setCell ?_ (by simp <;> omega) _ | with_reducible refine Ext.trans ?_ (by assumption))
      replace qx_0 := hx1.cell qx_0
      replace qy_0 := hx1.cell qy_0
      clear hx1
      go_wp2
      exact ⟨⟨k + 1, by omega, by go_num, by rw [HS.out], HX.out.trans (by repeat (first | with_reducible exact Ext.refl _ | with_reducible assumption | with_reducible refine Ext.alloc ?_ _ | with_reducible refine Ext.drew ?_ | with_reducible refine Ext.drewN ?_ _ | with_reducible refine Ext.setCell ?_ (by simp <;> omega) _ | with_reducible refine Ext.trans ?_ (by assumption)))⟩, by simp [intOf]; omega⟩
    · have e1 : ((A ls k).t == (A ls i).t) = false := by simpa using he
      rw [if_neg he] at hs
      have HS := Lib.hid hs
      clear hs hqk he
      generalize (A ls k).t = xt at *
      generalize (A ls i).t = yt at *
      go_wp2_with fail
      refine wp_region_later (by kernel_rfl) (by kernel_rfl) ?_
      have lx_0 := fun (g : Later wr) => g.ok.cell qx_0
      have ly_0 := fun (g : Later wr) => g.ok.cell qy_0
      repeat (go_big_quiet_step ((fail)))
      refine wpQuiet_nil ?_
      intro w2 hl2
      have hb2 := laters_ext hl2
      clear hl2 lx_0 ly_0
      have hx2 : Ext wr w2 := by repeat (first | with_reducible exact Ext.refl _ | with_reducible assumption | with_reducible refine Ext.alloc ?_ _ | with_reducible refine Ext.drew ?_ | with_reducible refine Ext.drewN ?_ _ | with_reducible refine Ext.setCell ?_ (by simp <;> omega) _ | with_reducible refine Ext.trans ?_ (by assumption))
      replace qx_0 := hx2.cell qx_0
      replace qy_0 := hx2.cell qy_0
      clear hx2
      go_wp2
      exact ⟨⟨k + 1, by omega, by go_num, by rw [HS.out], HX.out.trans (by repeat (first | with_reducible exact Ext.refl _ | with_reducible assumption | with_reducible refine Ext.alloc ?_ _ | with_reducible refine Ext.drew ?_ | with_reducible refine Ext.drewN ?_ _ | with_reducible refine Ext.setCell ?_ (by simp <;> omega) _ | with_reducible refine Ext.trans ?_ (by assumption)))⟩, by simp [intOf]; omega⟩
def sP (ls : List Acc) (i k : Nat) : Bool := decide ((A ls k).c = (A ls i).c) && wrB (A ls k).k && (plB (A ls k).k == plB (A ls i).k) && (atB (A ls k).k == atB (A ls i).k)
/-- the source of an access, of any list -/
def srcR (ls : List Acc) (i : Int) : Int := if i < 0 ∨ (ls.length : Int) ≤ i ∨ rdB (A ls i.toNat).k = false then -1 else lastP (sP ls i.toNat) i.toNat
theorem rSource_no (v : Value) (ls : List Acc) (i : Int) (w : World) (h : AccV w v ls) (hn : i < 0 ∨ (ls.length : Int) ≤ i) : Calls Try.prog 11 #[v, .int .i64 i] w fun e w' => e = .returned (.int .i64 (-1)) ∧ Ext w w' := by
  obtain ⟨a, cap, rfl, hc, hm⟩ := h.form
  have hl : ls.length ≤ 9223372036854775807 := by unfold maxLen at hm; omega
  clear h
  by_cases h0 : i < 0
  · have d0 : decide (i < 0) = true := by simpa using h0
    go_enter Try.func11, Try.ntmps11
    go_wp2
    go_ret
    exact ⟨rfl, Ext.refl _⟩
  have d0 : decide (i < 0) = false := by simpa using h0
  have d1 : decide ((ls.length : Int) ≤ i) = true := by simp; omega
  go_enter Try.func11, Try.ntmps11
  go_wp2
  go_ret
  exact ⟨rfl, Ext.refl _⟩
set_option maxRecDepth 100000 in
theorem rSource_in (v : Value) (ls : List Acc) (i : Nat) (w : World) (h : AccV w v ls) (hi : i < ls.length) (hl : ls.length ≤ 1000) : Calls Try.prog 11 #[v, .int .i64 i] w fun e w' => e = .returned (.int .i64 (srcR ls i)) ∧ Ext w w' := by
  obtain ⟨b, off, cap, rfl, hcs⟩ := h.all (by omega)
  have HC := Lib.hid hcs
  have d0 : decide ((i : Int) < 0) = false := by simp
  have d1 : decide ((ls.length : Int) ≤ i) = false := by simp; omega
  have hil : (i : Int) < (ls.length : Int) := by omega
  have CR := Lib.hid (fun w => rReads (A ls i).k w)
  have HV : Hid (srcR ls i = if rdB (A ls i).k = false then -1 else lastP (sP ls i) i) := Lib.hid (by
    unfold srcR
    rw [show (i : Int).toNat = i by omega]
    cases rdB (A ls i).k
    · rw [if_pos (by simp), if_pos rfl]
    · rw [if_neg (by simp; omega), if_neg (by simp)])
  cases hr : rdB (A ls i).k
  case false =>
    rw [hr] at CR
    rw [HV.out, hr, if_pos rfl]
    obtain ⟨c0, c1, c2, c3, c4⟩ := HC.out _ (Ext.refl w) i hi
    clear h hcs
    generalize (A ls i).k = yk at *
    go_enter Try.func11, Try.ntmps11
    go_wp2_with fail
    refine (CR.out _).mono ?_
    rintro e w' ⟨rfl, rfl⟩
    go_wp2
    go_ret
    exact ⟨rfl, Ext.refl _⟩
  rw [hr] at CR
  rw [HV.out, hr, if_neg (by simp)]
  have HP : Hid (∀ k, lastP (sP ls i) (k + 1) = if sP ls i k then (k : Int) else lastP (sP ls i) k) := Lib.hid (fun k => rfl)
  have HP0 : lastP (sP ls i) 0 = -1 := rfl
  generalize hq : lastP (sP ls i) = q at *
  have HW : Hid (∀ (x : Int) w, Calls Try.prog 13 #[.int .i64 x] w fun e w' => e = .returned (.bool (wrB x)) ∧ w = w') := Lib.hid rWrites
  have HPL : Hid (∀ (x : Int) w, Calls Try.prog 23 #[.int .i64 x] w fun e w' => e = .returned (.bool (plB x)) ∧ w = w') := Lib.hid rPlain
  have HAT : Hid (∀ (x : Int) w, Calls Try.prog 32 #[.int .i64 x] w fun e w' => e = .returned (.bool (atB x)) ∧ w = w') := Lib.hid rAtomic
  obtain ⟨c0, c1, c2, c3, c4⟩ := HC.out _ (Ext.refl w) i hi
  clear h hcs hq HV
  go_enter Try.func11, Try.ntmps11
  go_wp2_with fail
  refine (CR.out _).mono ?_
  rintro e w' ⟨rfl, rfl⟩
  go_wp2
  clear c0 c1 c2 c3 c4
  go_loopw [6, 5] (fun x o wr => ∃ k : Nat, k ≤ i ∧ x = .int .i64 k ∧ o = .int .i64 (q k) ∧ Ext w wr) (fun x _ _ => i - (intOf x).toNat)
  case atStart => exact ⟨0, Nat.zero_le _, rfl, by rw [HP0], Ext.refl _⟩
  case round =>
    obtain ⟨k, hk, rfl, rfl, hx⟩ := hrel
    by_cases hlt : k < i
    case neg =>
      obtain rfl : k = i := by omega
      go_wp2
      go_ret
      exact ⟨rfl, hx⟩
    have hki : (k : Int) < (i : Int) := by omega
    have hkl : (k : Int) < (ls.length : Int) := by omega
    obtain ⟨_, qx_0, qx_1, _, _⟩ := HC.out _ hx k (by omega)
    obtain ⟨_, qy_0, qy_1, _, _⟩ := HC.out _ hx i hi
    have hs := HP.out k
    unfold sP at hs
    have HX := Lib.hid hx
    clear hx hr
    generalize hqk : q k = qk at *
    have CW := Lib.hid (fun w => HW.out (A ls k).k w)
    have CPX := Lib.hid (fun w => HPL.out (A ls k).k w)
    have CPY := Lib.hid (fun w => HPL.out (A ls i).k w)
    have CAX := Lib.hid (fun w => HAT.out (A ls k).k w)
    have CAY := Lib.hid (fun w => HAT.out (A ls i).k w)
    generalize wrB (A ls k).k = wx at *
    generalize plB (A ls k).k = px at *
    generalize plB (A ls i).k = py at *
    generalize atB (A ls k).k = ax at *
    generalize atB (A ls i).k = ay at *
    generalize (A ls k).k = xk at *
    generalize (A ls i).k = yk at *
    generalize (A ls k).c = xc at *
    generalize (A ls i).c = yc at *
    clear hqk
    by_cases hc : xc = yc
    case neg =>
      have e1 : (xc == yc) = false := by simpa using hc
      rw [decide_eq_false hc, Bool.false_and, Bool.false_and, Bool.false_and, if_neg (by simp)] at hs
      have HS := Lib.hid hs
      clear hs
      go_wp2_with fail
      refine wp_region_later (by kernel_rfl) (by kernel_rfl) ?_
      have lx_0 := fun (g : Later wr) => g.ok.cell qx_0
      have lx_1 := fun (g : Later wr) => g.ok.cell qx_1
      have ly_0 := fun (g : Later wr) => g.ok.cell qy_0
      have ly_1 := fun (g : Later wr) => g.ok.cell qy_1
      repeat (go_big_quiet_step ((fail)))
      refine wpQuiet_nil ?_
      intro w1 hl1
      have hb1 := laters_ext hl1
      clear hl1 lx_0 lx_1 ly_0 ly_1
      have hx1 : Ext wr w1 := by repeat (first | with_reducible exact Ext.refl _ | with_reducible assumption | with_reducible refine Ext.alloc ?_ _ | with_reducible refine Ext.drew ?_ | with_reducible refine Ext.drewN ?_ _ | with_reducible refine Ext.setCell ?_ (by simp <;> omega) _ | with_reducible refine Ext.trans ?_ (by assumption))
      replace qx_0 := hx1.cell qx_0
      replace qx_1 := hx1.cell qx_1
      replace qy_0 := hx1.cell qy_0
      replace qy_1 := hx1.cell qy_1
      clear hx1
      go_wp2
      exact ⟨⟨k + 1, by omega, by go_num, by rw [HS.out], HX.out.trans (by repeat (first | with_reducible exact Ext.refl _ | with_reducible assumption | with_reducible refine Ext.alloc ?_ _ | with_reducible refine Ext.drew ?_ | with_reducible refine Ext.drewN ?_ _ | with_reducible refine Ext.setCell ?_ (by simp <;> omega) _ | with_reducible refine Ext.trans ?_ (by assumption)))⟩, by simp [intOf]; omega⟩
    have e1 : (xc == yc) = true := by simpa using hc
    rw [decide_eq_true hc, Bool.true_and] at hs
    cases wx
    case false =>
      rw [Bool.false_and, Bool.false_and, if_neg (by simp)] at hs
      have HS := Lib.hid hs
      clear hs
      go_wp2_with fail
      refine wp_region_later (by kernel_rfl) (by kernel_rfl) ?_
      have lx_0 := fun (g : Later wr) => g.ok.cell qx_0
      have lx_1 := fun (g : Later wr) => g.ok.cell qx_1
      have ly_0 := fun (g : Later wr) => g.ok.cell qy_0
      have ly_1 := fun (g : Later wr) => g.ok.cell qy_1
      repeat (go_big_quiet_step ((fail)))
      go_big_quiet_step ((go_at_call 13; exact laterS (CW.out _)))
      repeat (go_big_quiet_step ((fail)))
      refine wpQuiet_nil ?_
      intro w2 hl2
      have hb2 := laters_ext hl2
      clear hl2 lx_0 lx_1 ly_0 ly_1
      have hx2 : Ext wr w2 := by repeat (first | with_reducible exact Ext.refl _ | with_reducible assumption | with_reducible refine Ext.alloc ?_ _ | with_reducible refine Ext.drew ?_ | with_reducible refine Ext.drewN ?_ _ | with_reducible refine Ext.setCell ?_ (by simp <;> omega) _ | with_reducible refine Ext.trans ?_ (by assumption))
      replace qx_0 := hx2.cell qx_0
      replace qx_1 := hx2.cell qx_1
      replace qy_0 := hx2.cell qy_0
      replace qy_1 := hx2.cell qy_1
      clear hx2
      go_wp2
      exact ⟨⟨k + 1, by omega, by go_num, by rw [HS.out], HX.out.trans (by repeat (first | with_reducible exact Ext.refl _ | with_reducible assumption | with_reducible refine Ext.alloc ?_ _ | with_reducible refine Ext.drew ?_ | with_reducible refine Ext.drewN ?_ _ | with_reducible refine Ext.setCell ?_ (by simp <;> omega) _ | with_reducible refine Ext.trans ?_ (by assumption)))⟩, by simp [intOf]; omega⟩
    rw [Bool.true_and] at hs
    by_cases hp : px = py
    case neg =>
      have e2 : (px == py) = false := by simpa using hp
      rw [e2, Bool.false_and, if_neg (by simp)] at hs
      have HS := Lib.hid hs
      clear hs
      go_wp2_with fail
      refine wp_region_later (by kernel_rfl) (by kernel_rfl) ?_
      have lx_0 := fun (g : Later wr) => g.ok.cell qx_0
      have lx_1 := fun (g : Later wr) => g.ok.cell qx_1
      have ly_0 := fun (g : Later wr) => g.ok.cell qy_0
      have ly_1 := fun (g : Later wr) => g.ok.cell qy_1
      repeat (go_big_quiet_step ((fail)))
      go_big_quiet_step ((go_at_call 13; exact laterS (CW.out _)))
      repeat (go_big_quiet_step ((fail)))
      go_big_quiet_step ((go_at_call 23; exact laterS (CPX.out _)))
      repeat (go_big_quiet_step ((fail)))
      go_big_quiet_step ((go_at_call 23; exact laterS (CPY.out _)))
      repeat (go_big_quiet_step ((fail)))
      refine wpQuiet_nil ?_
      intro w3 hl3
      have hb3 := laters_ext hl3
      clear hl3 lx_0 lx_1 ly_0 ly_1
      have hx3 : Ext wr w3 := by repeat (first | with_reducible exact Ext.refl _ | with_reducible assumption | with_reducible refine Ext.alloc ?_ _ | with_reducible refine Ext.drew ?_ | with_reducible refine Ext.drewN ?_ _ | with_reducible refine Ext.setCell ?_ (by simp <;> omega) _ | with_reducible refine Ext.trans ?_ (by assumption))
      replace qx_0 := hx3.cell qx_0
      replace qx_1 := hx3.cell qx_1
      replace qy_0 := hx3.cell qy_0
      replace qy_1 := hx3.cell qy_1
      clear hx3
      go_wp2
      exact ⟨⟨k + 1, by omega, by go_num, by rw [HS.out], HX.out.trans (by repeat (first | with_reducible exact Ext.refl _ | with_reducible assumption | with_reducible refine Ext.alloc ?_ _ | with_reducible refine Ext.drew ?_ | with_reducible refine Ext.drewN ?_ _ | with_reducible refine Ext.setCell ?_ (by simp <;> omega) _ | with_reducible refine Ext.trans ?_ (by assumption)))⟩, by simp [intOf]; omega⟩
    have e2 : (px == py) = true := by simpa using hp
    rw [e2, Bool.true_and] at hs
    by_cases ha : ax = ay
    case neg =>
      have e3 : (ax == ay) = false := by simpa using ha
      rw [e3, if_neg (by simp)] at hs
      have HS := Lib.hid hs
      clear hs
      go_wp2_with fail
      refine wp_region_later (by kernel_rfl) (by kernel_rfl) ?_
      have lx_0 := fun (g : Later wr) => g.ok.cell qx_0
      have lx_1 := fun (g : Later wr) => g.ok.cell qx_1
      have ly_0 := fun (g : Later wr) => g.ok.cell qy_0
      have ly_1 := fun (g : Later wr) => g.ok.cell qy_1
      repeat (go_big_quiet_step ((fail)))
      go_big_quiet_step ((go_at_call 13; exact laterS (CW.out _)))
      repeat (go_big_quiet_step ((fail)))
      go_big_quiet_step ((go_at_call 23; exact laterS (CPX.out _)))
      repeat (go_big_quiet_step ((fail)))
      go_big_quiet_step ((go_at_call 23; exact laterS (CPY.out _)))
      repeat (go_big_quiet_step ((fail)))
      go_big_quiet_step ((go_at_call 32; exact laterS (CAX.out _)))
      repeat (go_big_quiet_step ((fail)))
      go_big_quiet_step ((go_at_call 32; exact laterS (CAY.out _)))
      repeat (go_big_quiet_step ((fail)))
      refine wpQuiet_nil ?_
      intro w4 hl4
      have hb4 := laters_ext hl4
      clear hl4 lx_0 lx_1 ly_0 ly_1
      have hx4 : Ext wr w4 := by repeat (first | with_reducible exact Ext.refl _ | with_reducible assumption | with_reducible refine Ext.alloc ?_ _ | with_reducible refine Ext.drew ?_ | with_reducible refine Ext.drewN ?_ _ | with_reducible refine Ext.setCell ?_ (by simp <;> omega) _ | with_reducible refine Ext.trans ?_ (by assumption))
      replace qx_0 := hx4.cell qx_0
      replace qx_1 := hx4.cell qx_1
      replace qy_0 := hx4.cell qy_0
      replace qy_1 := hx4.cell qy_1
      clear hx4
      go_wp2
      exact ⟨⟨k + 1, by omega, by go_num, by rw [HS.out], HX.out.trans (by repeat (first | with_reducible exact Ext.refl _ | with_reducible assumption | with_reducible refine Ext.alloc ?_ _ | with_reducible refine Ext.drew ?_ | with_reducible refine Ext.drewN ?_ _ | with_reducible refine Ext.setCell ?_ (by simp <;> omega) _ | with_reducible refine Ext.trans ?_ (by assumption)))⟩, by simp [intOf]; omega⟩
    have e3 : (ax == ay) = true := by simpa using ha
    rw [e3, if_pos rfl] at hs
    have HS := Lib.hid hs
    clear hs
    go_wp2_with fail
    refine wp_region_later (by kernel_rfl) (by kernel_rfl) ?_
    have lx_0 := fun (g : Later wr) => g.ok.cell qx_0
    have lx_1 := fun (g : Later wr) => g.ok.cell qx_1
    have ly_0 := fun (g : Later wr) => g.ok.cell qy_0
    have ly_1 := fun (g : Later wr) => g.ok.cell qy_1
    repeat (go_big_quiet_step ((fail)))
    go_big_quiet_step ((go_at_call 13; exact laterS (CW.out _)))
    repeat (go_big_quiet_step ((fail)))
    go_big_quiet_step ((go_at_call 23; exact laterS (CPX.out _)))
    repeat (go_big_quiet_step ((fail)))
    go_big_quiet_step ((go_at_call 23; exact laterS (CPY.out _)))
    repeat (go_big_quiet_step ((fail)))
    go_big_quiet_step ((go_at_call 32; exact laterS (CAX.out _)))
    repeat (go_big_quiet_step ((fail)))
    go_big_quiet_step ((go_at_call 32; exact laterS (CAY.out _)))
    repeat (go_big_quiet_step ((fail)))
    refine wpQuiet_nil ?_
    intro w5 hl5
    have hb5 := laters_ext hl5
    clear hl5 lx_0 lx_1 ly_0 ly_1
    have hx5 : Ext wr w5 := by repeat (first | with_reducible exact Ext.refl _ | with_reducible assumption | with_reducible refine Ext.alloc ?_ _ | with_reducible refine Ext.drew ?_ | with_reducible refine Ext.drewN ?_ _ | with_reducible refine Ext.setCell ?_ (by simp <;> omega) _ | with_reducible refine Ext.trans ?_ (by assumption))
    replace qx_0 := hx5.cell qx_0
    replace qx_1 := hx5.cell qx_1
    replace qy_0 := hx5.cell qy_0
    replace qy_1 := hx5.cell qy_1
    clear hx5
    go_wp2
    exact ⟨⟨k + 1, by omega, by go_num, by rw [HS.out], HX.out.trans (by repeat (first | with_reducible exact Ext.refl _ | with_reducible assumption | with_reducible refine Ext.alloc ?_ _ | with_reducible refine Ext.drew ?_ | with_reducible refine Ext.drewN ?_ _ | with_reducible refine Ext.setCell ?_ (by simp <;> omega) _ | with_reducible refine Ext.trans ?_ (by assumption)))⟩, by simp [intOf]; omega⟩
end Go.Proofs.Ytoaifbengichbaa
