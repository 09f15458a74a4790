/- What a handle is told: Claimed, Published, Saw, Released; Span; new handles. -/
import Derived.Test.YtoaifbengichbabGd
namespace Go.Proofs.Ytoaifbengichbab
open Go.RowKit
set_option linter.unusedVariables false
set_option linter.unusedSimpArgs false
set_option maxHeartbeats 2000000
attribute [local go_sem] later_cell later_frozen later_const
/-- a call that tells v, and leaves the handle as h' -/
def GDoes (q : IntKind) (b : Nat) (h' : HS) (v : Value) (w : World) (e : Ending) (w' : World) : Prop := e = .returned v ∧ HD q w' b h' ∧ But (fun k => k = b) w w'
/-- what was told, and how it stands -/
structure GS where
  h : HS
  ok : Bool
def claimedS (h : HS) (f n : Int) : GS := if h.c = true ∨ 0 < h.N ∨ n < 1 ∨ h.C < n then ⟨h, false⟩ else ⟨{ h with F := f, N := n }, true⟩
def publishedS (h : HS) : GS := if 0 < h.N then ⟨{ h with F := 0, N := 0 }, true⟩ else ⟨h, false⟩
theorem HD.same {q : IntKind} {w w' : World} {b : Nat} {h : HS} {v : Value} (H : HD q w b h) (hx : Ext w w') : GDoes q b h v w (.returned v) w' := ⟨rfl, H.ext hx, hx.but _⟩
theorem but_set (w : World) (b o : Nat) (u : Value) : But (fun k => k = b) w (w.setCell ⟨b, o, none⟩ u) := but_setCell w ⟨b, o, none⟩ u
theorem HD.set45 {q : IntKind} {w : World} {b : Nat} {h : HS} (H : HD q w b h) (g : Int) : HD q (w.setCell ⟨b, 4, none⟩ (.int q g)) b { h with G := g } := by
  have lt := H.lt
  obtain ⟨q0, q1, q2, q3, q4, q5, z2, z3, z4, z5⟩ := H
  constructor <;> simp [go_sem, q0, q1, q2, q3, q4, q5, z2, z3, z4, z5]
theorem HD.set5 {q : IntKind} {w : World} {b : Nat} {h : HS} (H : HD q w b h) (g : Int) : HD q (w.setCell ⟨b, 5, none⟩ (.int q g)) b { h with U := g } := by
  have lt := H.lt
  obtain ⟨q0, q1, q2, q3, q4, q5, z2, z3, z4, z5⟩ := H
  constructor <;> simp [go_sem, q0, q1, q2, q3, q4, q5, z2, z3, z4, z5]
theorem HD.set23 {q : IntKind} {w : World} {b : Nat} {h : HS} (H : HD q w b h) (f n : Int) : HD q ((w.setCell ⟨b, 2, none⟩ (.int q f)).setCell ⟨b, 3, none⟩ (.int .i64 n)) b { h with F := f, N := n } := by
  have lt := H.lt
  obtain ⟨q0, q1, q2, q3, q4, q5, z2, z3, z4, z5⟩ := H
  constructor <;> simp [go_sem, q0, q1, q2, q3, q4, q5, z2, z3, z4, z5]
def sawS32 (h : HS) (u : Int) : GS := if h.c = false ∨ D32 (u - h.G) < D32 (h.U - h.G) ∨ h.C < D32 (u - h.G) then ⟨h, false⟩ else ⟨{ h with U := u }, true⟩
def releasedS32 (h : HS) (n : Int) : GS := if n < 1 ∨ D32 (h.U - h.G) < n then ⟨h, false⟩ else ⟨{ h with G := ((h.G + n) % 4294967296) }, true⟩
theorem released32 (b : Nat) (h : HS) (n : Int) (w : World) (H : HD .u32 w b h) : Calls Try.prog 31 #[.pointer (some ⟨b, 0, none⟩), .int .i64 n] w (GDoes .u32 b (releasedS32 h n).h (.bool (releasedS32 h n).ok) w) := by
  have CH := Lib.hid (ready32 b h w H)
  have q4 := H.q4
  have z4 := H.z4
  have HH := Lib.hid H
  clear H
  unfold releasedS32
  generalize hm : D32 (h.U - h.G) = m at *
  by_cases h1 : n < 1
  · rw [if_pos (.inl h1)]
    have d1 : decide (n < 1) = true := by simpa using h1
    go_enter Try.func31, Try.ntmps31
    go_wp2
    go_ret
    exact HH.out.same (by repeat (first | with_reducible exact Ext.refl _ | with_reducible assumption | with_reducible refine Ext.alloc ?_ _ | with_reducible refine Ext.drew ?_ | with_reducible refine Ext.drewN ?_ _ | with_reducible refine Ext.setCell ?_ (by simp <;> omega) _ | with_reducible refine Ext.trans ?_ (by assumption)))
  · have d1 : decide (n < 1) = false := by simpa using h1
    by_cases h2 : m < n
    · rw [if_pos (.inr h2)]
      have d2 : decide (m < n) = true := by simpa using h2
      go_enter Try.func31, Try.ntmps31
      go_wp2_with fail
      refine CH.out.mono ?_
      rintro e w' ⟨rfl, rfl⟩
      go_wp2
      go_ret
      exact HH.out.same (by repeat (first | with_reducible exact Ext.refl _ | with_reducible assumption | with_reducible refine Ext.alloc ?_ _ | with_reducible refine Ext.drew ?_ | with_reducible refine Ext.drewN ?_ _ | with_reducible refine Ext.setCell ?_ (by simp <;> omega) _ | with_reducible refine Ext.trans ?_ (by assumption)))
    · rw [if_neg (by omega)]
      have d2 : decide (m < n) = false := by simpa using h2
      go_enter Try.func31, Try.ntmps31
      go_wp2_with fail
      refine CH.out.mono ?_
      rintro e w' ⟨rfl, rfl⟩
      go_wp2_with fail
      refine (addU32 _ _ _).mono ?_
      rintro e w' ⟨rfl, rfl⟩
      go_wp2
      go_ret
      exact ⟨rfl, HH.out.set45 _, but_set _ _ _ _⟩
theorem released32_nil (n : Int) (w : World) : Calls Try.prog 31 #[.pointer none, .int .i64 n] w fun e w' => e = .returned (.bool false) ∧ w = w' := by
  by_cases h1 : n < 1
  · have d1 : decide (n < 1) = true := by simpa using h1
    go_enter Try.func31, Try.ntmps31
    go_wp2
    go_ret
    exact ⟨rfl, rfl⟩
  · have d1 : decide (n < 1) = false := by simpa using h1
    have d2 : decide (0 < n) = true := by simp; omega
    go_enter Try.func31, Try.ntmps31
    go_wp2_with fail
    refine (ready32_nil _).mono ?_
    rintro e w' ⟨rfl, rfl⟩
    go_wp2
    go_ret
    exact ⟨rfl, rfl⟩
theorem saw32 (b : Nat) (h : HS) (u : Int) (w : World) (H : HD .u32 w b h) : Calls Try.prog 30 #[.pointer (some ⟨b, 0, none⟩), .int .u32 u] w (GDoes .u32 b (sawS32 h u).h (.bool (sawS32 h u).ok) w) := by
  have CH := Lib.hid (ready32 b h w H)
  have CD := Lib.hid (fun w => diffU32 u h.G w)
  have q0 := H.q0
  have q1 := H.q1
  have q4 := H.q4
  have q5 := H.q5
  have z5 := H.z5
  have HH := Lib.hid H
  clear H
  unfold sawS32
  cases hc : h.c
  · rw [hc] at q1
    rw [if_pos (.inl rfl)]
    go_enter Try.func30, Try.ntmps30
    go_wp2
    go_ret
    exact HH.out.same (by repeat (first | with_reducible exact Ext.refl _ | with_reducible assumption | with_reducible refine Ext.alloc ?_ _ | with_reducible refine Ext.drew ?_ | with_reducible refine Ext.drewN ?_ _ | with_reducible refine Ext.setCell ?_ (by simp <;> omega) _ | with_reducible refine Ext.trans ?_ (by assumption)))
  rw [hc] at q1
  generalize hm : D32 (h.U - h.G) = m at *
  generalize hl : D32 (u - h.G) = l at *
  by_cases h1 : l < m
  · rw [if_pos (.inr (.inl h1))]
    have d1 : decide (l < m) = true := by simpa using h1
    go_enter Try.func30, Try.ntmps30
    go_wp2_with fail
    refine (CD.out _).mono ?_
    rintro e w' ⟨rfl, rfl⟩
    go_wp2_with fail
    refine CH.out.mono ?_
    rintro e w' ⟨rfl, rfl⟩
    go_wp2
    go_ret
    exact HH.out.same (by repeat (first | with_reducible exact Ext.refl _ | with_reducible assumption | with_reducible refine Ext.alloc ?_ _ | with_reducible refine Ext.drew ?_ | with_reducible refine Ext.drewN ?_ _ | with_reducible refine Ext.setCell ?_ (by simp <;> omega) _ | with_reducible refine Ext.trans ?_ (by assumption)))
  · have d1 : decide (l < m) = false := by simpa using h1
    by_cases h2 : h.C < l
    · rw [if_pos (.inr (.inr h2))]
      have d2 : decide (h.C < l) = true := by simpa using h2
      go_enter Try.func30, Try.ntmps30
      go_wp2_with fail
      refine (CD.out _).mono ?_
      rintro e w' ⟨rfl, rfl⟩
      go_wp2_with fail
      refine CH.out.mono ?_
      rintro e w' ⟨rfl, rfl⟩
      go_wp2
      go_ret
      exact HH.out.same (by repeat (first | with_reducible exact Ext.refl _ | with_reducible assumption | with_reducible refine Ext.alloc ?_ _ | with_reducible refine Ext.drew ?_ | with_reducible refine Ext.drewN ?_ _ | with_reducible refine Ext.setCell ?_ (by simp <;> omega) _ | with_reducible refine Ext.trans ?_ (by assumption)))
    · rw [if_neg (by simp only [Bool.true_eq_false, false_or]; omega)]
      have d2 : decide (h.C < l) = false := by simpa using h2
      go_enter Try.func30, Try.ntmps30
      go_wp2_with fail
      refine (CD.out _).mono ?_
      rintro e w' ⟨rfl, rfl⟩
      go_wp2_with fail
      refine CH.out.mono ?_
      rintro e w' ⟨rfl, rfl⟩
      go_wp2
      go_ret
      have R := HH.out.set5 u
      rw [hc] at R
      exact ⟨rfl, R, but_set _ _ _ _⟩
theorem saw32_nil (u : Int) (w : World) : Calls Try.prog 30 #[.pointer none, .int .u32 u] w fun e w' => e = .returned (.bool false) ∧ w = w' := by
  go_enter Try.func30, Try.ntmps30
  go_wp2
  go_ret
  exact ⟨rfl, rfl⟩
theorem published32 (b : Nat) (h : HS) (w : World) (H : HD .u32 w b h) : Calls Try.prog 41 #[.pointer (some ⟨b, 0, none⟩)] w (GDoes .u32 b (publishedS h).h (.bool (publishedS h).ok) w) := by
  have CH := Lib.hid (has32 b h w H)
  have q2 := H.q2
  have z2 := H.z2
  have q3 := H.q3
  have z3 := H.z3
  have HH := Lib.hid H
  clear H
  unfold publishedS
  by_cases h1 : 0 < h.N
  · rw [if_pos h1]
    have d1 : decide (0 < h.N) = true := by simpa using h1
    rw [d1] at CH
    go_enter Try.func41, Try.ntmps41
    go_wp2_with fail
    refine CH.out.mono ?_
    rintro e w' ⟨rfl, rfl⟩
    go_wp2
    go_ret
    exact ⟨rfl, HH.out.set23 _ _, (but_set _ _ _ _).trans (but_set _ _ _ _)⟩
  · rw [if_neg h1]
    have d1 : decide (0 < h.N) = false := by simpa using h1
    rw [d1] at CH
    go_enter Try.func41, Try.ntmps41
    go_wp2_with fail
    refine CH.out.mono ?_
    rintro e w' ⟨rfl, rfl⟩
    go_wp2
    go_ret
    exact HH.out.same (by repeat (first | with_reducible exact Ext.refl _ | with_reducible assumption | with_reducible refine Ext.alloc ?_ _ | with_reducible refine Ext.drew ?_ | with_reducible refine Ext.drewN ?_ _ | with_reducible refine Ext.setCell ?_ (by simp <;> omega) _ | with_reducible refine Ext.trans ?_ (by assumption)))
theorem published32_nil (w : World) : Calls Try.prog 41 #[.pointer none] w fun e w' => e = .returned (.bool false) ∧ w = w' := by
  go_enter Try.func41, Try.ntmps41
  go_wp2
  go_ret
  exact ⟨rfl, rfl⟩
theorem claimed32 (b : Nat) (h : HS) (f n : Int) (w : World) (H : HD .u32 w b h) : Calls Try.prog 40 #[.pointer (some ⟨b, 0, none⟩), .agg #[.int .u32 f, .int .i64 n]] w (GDoes .u32 b (claimedS h f n).h (.bool (claimedS h f n).ok) w) := by
  have CH := Lib.hid (fun w' (hx : Ext w w') => has32 b h w' (H.ext hx))
  have HH := Lib.hid (fun w' (hx : Ext w w') => H.ext hx)
  have q0 := H.q0
  have q1 := H.q1
  have lt := H.lt
  clear H
  unfold claimedS
  cases hc : h.c
  case true =>
    rw [hc] at q1
    rw [if_pos (.inl rfl)]
    go_enter Try.func40, Try.ntmps40
    go_wp2_with fail
    refine settle_wp ?_
    intro w1 hb1
    have qs_0 : w1.cell? ⟨w.heap.size, 0, none⟩ = some (.int .u32 f) := hb1.cell (by simp [go_sem])
    have qs_1 : w1.cell? ⟨w.heap.size, 1, none⟩ = some (.int .i64 n) := hb1.cell (by simp [go_sem])
    have X1 : Ext w w1 := Ext.trans ((Ext.refl w).alloc _) hb1
    have qh_0 := X1.cell q0
    have qh_1 := X1.cell q1
    clear hb1 q0 q1
    refine wp_region_later (by kernel_rfl) (by kernel_rfl) ?_
    have ls_0 := fun (g : Later w1) => g.ok.cell qs_0
    have ls_1 := fun (g : Later w1) => g.ok.cell qs_1
    have lh_0 := fun (g : Later w1) => g.ok.cell qh_0
    have lh_1 := fun (g : Later w1) => g.ok.cell qh_1
    repeat (go_big_quiet_step ((fail)))
    refine wpQuiet_nil ?_
    intro w2 hl2
    have hb2 := laters_ext hl2
    have X2 := X1.trans hb2
    clear hl2 ls_0 ls_1 lh_0 lh_1
    go_wp2
    go_ret
    exact ⟨rfl, HH.out _ X2, X2.but _⟩
  rw [hc] at q1
  by_cases hN : 0 < h.N
  · rw [if_pos (.inr (.inl hN))]
    have dN : decide (0 < h.N) = true := by simpa using hN
    rw [dN] at CH
    go_enter Try.func40, Try.ntmps40
    go_wp2_with fail
    refine settle_wp ?_
    intro w1 hb1
    have qs_0 : w1.cell? ⟨w.heap.size, 0, none⟩ = some (.int .u32 f) := hb1.cell (by simp [go_sem])
    have qs_1 : w1.cell? ⟨w.heap.size, 1, none⟩ = some (.int .i64 n) := hb1.cell (by simp [go_sem])
    have X1 : Ext w w1 := Ext.trans ((Ext.refl w).alloc _) hb1
    have qh_0 := X1.cell q0
    have qh_1 := X1.cell q1
    clear hb1 q0 q1
    refine wp_region_later (by kernel_rfl) (by kernel_rfl) ?_
    have ls_0 := fun (g : Later w1) => g.ok.cell qs_0
    have ls_1 := fun (g : Later w1) => g.ok.cell qs_1
    have lh_0 := fun (g : Later w1) => g.ok.cell qh_0
    have lh_1 := fun (g : Later w1) => g.ok.cell qh_1
    repeat (go_big_quiet_step ((fail)))
    go_big_quiet_step ((go_at_call 54; exact laterS (CH.out _ (X1.trans (Later.ok _)))))
    repeat (go_big_quiet_step ((fail)))
    refine wpQuiet_nil ?_
    intro w2 hl2
    have hb2 := laters_ext hl2
    have X2 := X1.trans hb2
    clear hl2 ls_0 ls_1 lh_0 lh_1
    go_wp2
    go_ret
    exact ⟨rfl, HH.out _ X2, X2.but _⟩
  have dN : decide (0 < h.N) = false := by simpa using hN
  rw [dN] at CH
  by_cases h1 : n < 1
  · rw [if_pos (.inr (.inr (.inl h1)))]
    have d1 : decide (n < 1) = true := by simpa using h1
    go_enter Try.func40, Try.ntmps40
    go_wp2_with fail
    refine settle_wp ?_
    intro w1 hb1
    have qs_0 : w1.cell? ⟨w.heap.size, 0, none⟩ = some (.int .u32 f) := hb1.cell (by simp [go_sem])
    have qs_1 : w1.cell? ⟨w.heap.size, 1, none⟩ = some (.int .i64 n) := hb1.cell (by simp [go_sem])
    have X1 : Ext w w1 := Ext.trans ((Ext.refl w).alloc _) hb1
    have qh_0 := X1.cell q0
    have qh_1 := X1.cell q1
    clear hb1 q0 q1
    refine wp_region_later (by kernel_rfl) (by kernel_rfl) ?_
    have ls_0 := fun (g : Later w1) => g.ok.cell qs_0
    have ls_1 := fun (g : Later w1) => g.ok.cell qs_1
    have lh_0 := fun (g : Later w1) => g.ok.cell qh_0
    have lh_1 := fun (g : Later w1) => g.ok.cell qh_1
    repeat (go_big_quiet_step ((fail)))
    go_big_quiet_step ((go_at_call 54; exact laterS (CH.out _ (X1.trans (Later.ok _)))))
    repeat (go_big_quiet_step ((fail)))
    refine wpQuiet_nil ?_
    intro w2 hl2
    have hb2 := laters_ext hl2
    have X2 := X1.trans hb2
    clear hl2 ls_0 ls_1 lh_0 lh_1
    go_wp2
    go_ret
    exact ⟨rfl, HH.out _ X2, X2.but _⟩
  have d1 : decide (n < 1) = false := by simpa using h1
  by_cases h2 : h.C < n
  · rw [if_pos (.inr (.inr (.inr h2)))]
    have d2 : decide (h.C < n) = true := by simpa using h2
    go_enter Try.func40, Try.ntmps40
    go_wp2_with fail
    refine settle_wp ?_
    intro w1 hb1
    have qs_0 : w1.cell? ⟨w.heap.size, 0, none⟩ = some (.int .u32 f) := hb1.cell (by simp [go_sem])
    have qs_1 : w1.cell? ⟨w.heap.size, 1, none⟩ = some (.int .i64 n) := hb1.cell (by simp [go_sem])
    have X1 : Ext w w1 := Ext.trans ((Ext.refl w).alloc _) hb1
    have qh_0 := X1.cell q0
    have qh_1 := X1.cell q1
    clear hb1 q0 q1
    refine wp_region_later (by kernel_rfl) (by kernel_rfl) ?_
    have ls_0 := fun (g : Later w1) => g.ok.cell qs_0
    have ls_1 := fun (g : Later w1) => g.ok.cell qs_1
    have lh_0 := fun (g : Later w1) => g.ok.cell qh_0
    have lh_1 := fun (g : Later w1) => g.ok.cell qh_1
    repeat (go_big_quiet_step ((fail)))
    go_big_quiet_step ((go_at_call 54; exact laterS (CH.out _ (X1.trans (Later.ok _)))))
    repeat (go_big_quiet_step ((fail)))
    refine wpQuiet_nil ?_
    intro w2 hl2
    have hb2 := laters_ext hl2
    have X2 := X1.trans hb2
    clear hl2 ls_0 ls_1 lh_0 lh_1
    go_wp2
    go_ret
    exact ⟨rfl, HH.out _ X2, X2.but _⟩
  have d2 : decide (h.C < n) = false := by simpa using h2
  rw [if_neg (by simp only [Bool.false_eq_true, false_or]; omega)]
  go_enter Try.func40, Try.ntmps40
  go_wp2_with fail
  refine settle_wp ?_
  intro w1 hb1
  have qs_0 : w1.cell? ⟨w.heap.size, 0, none⟩ = some (.int .u32 f) := hb1.cell (by simp [go_sem])
  have qs_1 : w1.cell? ⟨w.heap.size, 1, none⟩ = some (.int .i64 n) := hb1.cell (by simp [go_sem])
  have X1 : Ext w w1 := Ext.trans ((Ext.refl w).alloc _) hb1
  have qh_0 := X1.cell q0
  have qh_1 := X1.cell q1
  clear hb1 q0 q1
  refine wp_region_later (by kernel_rfl) (by kernel_rfl) ?_
  have ls_0 := fun (g : Later w1) => g.ok.cell qs_0
  have ls_1 := fun (g : Later w1) => g.ok.cell qs_1
  have lh_0 := fun (g : Later w1) => g.ok.cell qh_0
  have lh_1 := fun (g : Later w1) => g.ok.cell qh_1
  repeat (go_big_quiet_step ((fail)))
  go_big_quiet_step ((go_at_call 54; exact laterS (CH.out _ (X1.trans (Later.ok _)))))
  repeat (go_big_quiet_step ((fail)))
  refine wpQuiet_nil ?_
  intro w2 hl2
  have hb2 := laters_ext hl2
  have X2 := X1.trans hb2
  clear hl2 ls_0 ls_1 lh_0 lh_1
  replace qs_0 := hb2.cell qs_0
  replace qs_1 := hb2.cell qs_1
  have q2 := (HH.out _ X2).q2
  have q3 := (HH.out _ X2).q3
  have z2 := (HH.out _ X2).z2
  have z3 := (HH.out _ X2).z3
  go_wp2
  go_ret
  have R := (HH.out _ X2).set23 f n
  rw [hc] at R
  exact ⟨rfl, R, (X2.but _).trans ((but_set _ _ _ _).trans (but_set _ _ _ _))⟩
theorem claimed32_nil (f n : Int) (w : World) : Calls Try.prog 40 #[.pointer none, .agg #[.int .u32 f, .int .i64 n]] w fun e w' => e = .returned (.bool false) ∧ Ext w w' := by
  go_enter Try.func40, Try.ntmps40
  go_wp2_with fail
  refine settle_wp ?_
  intro w1 hb1
  have X1 : Ext w w1 := Ext.trans ((Ext.refl w).alloc _) hb1
  clear hb1
  refine wp_region_later (by kernel_rfl) (by kernel_rfl) ?_
  repeat (go_big_quiet_step ((fail)))
  refine wpQuiet_nil ?_
  intro w2 hl2
  have hb2 := laters_ext hl2
  have X2 := X1.trans hb2
  clear hl2
  go_wp2
  go_ret
  exact ⟨rfl, X2⟩
def SpanDoes32 (f n : Int) (ok : Bool) (w : World) (e : Ending) (w' : World) : Prop := e = .returned (.tuple #[.agg #[.int .u32 f, .int .i64 n], .bool ok]) ∧ Ext w w'
theorem span32_yes (b : Nat) (h : HS) (w : World) (H : HD .u32 w b h) (h1 : 0 < h.N) : Calls Try.prog 26 #[.pointer (some ⟨b, 0, none⟩)] w (SpanDoes32 h.F h.N true w) := by
  have CH := Lib.hid (fun w' (hx : Ext w w') => has32 b h w' (H.ext hx))
  have q2 := H.q2
  have q3 := H.q3
  have lt := H.lt
  clear H
  have d1 : decide (0 < h.N) = true := by simpa using h1
  rw [d1] at CH
  go_enter Try.func26, Try.ntmps26
  go_wp2_with fail
  refine (CH.out _ (by repeat (first | with_reducible exact Ext.refl _ | with_reducible assumption | with_reducible refine Ext.alloc ?_ _ | with_reducible refine Ext.drew ?_ | with_reducible refine Ext.drewN ?_ _ | with_reducible refine Ext.setCell ?_ (by simp <;> omega) _ | with_reducible refine Ext.trans ?_ (by assumption)))).mono ?_
  rintro e w' ⟨rfl, rfl⟩
  go_wp2
  refine bodyPost_ret (v := .tuple #[.agg #[.int .u32 h.F, .int .i64 h.N], .bool true]) (by simp [results, Try.results26, go_sem]) rfl ⟨rfl, ?_⟩
  repeat (first | with_reducible exact Ext.refl _ | with_reducible assumption | with_reducible refine Ext.alloc ?_ _ | with_reducible refine Ext.drew ?_ | with_reducible refine Ext.drewN ?_ _ | with_reducible refine Ext.setCell ?_ (by simp <;> omega) _ | with_reducible refine Ext.trans ?_ (by assumption))
theorem span32_no (b : Nat) (h : HS) (w : World) (H : HD .u32 w b h) (h1 : ¬ 0 < h.N) : Calls Try.prog 26 #[.pointer (some ⟨b, 0, none⟩)] w (SpanDoes32 0 0 false w) := by
  have CH := Lib.hid (fun w' (hx : Ext w w') => has32 b h w' (H.ext hx))
  have lt := H.lt
  clear H
  have d1 : decide (0 < h.N) = false := by simpa using h1
  rw [d1] at CH
  go_enter Try.func26, Try.ntmps26
  go_wp2_with fail
  refine (CH.out _ (by repeat (first | with_reducible exact Ext.refl _ | with_reducible assumption | with_reducible refine Ext.alloc ?_ _ | with_reducible refine Ext.drew ?_ | with_reducible refine Ext.drewN ?_ _ | with_reducible refine Ext.setCell ?_ (by simp <;> omega) _ | with_reducible refine Ext.trans ?_ (by assumption)))).mono ?_
  rintro e w' ⟨rfl, rfl⟩
  go_wp2
  refine bodyPost_ret (v := .tuple #[.agg #[.int .u32 0, .int .i64 0], .bool false]) (by simp [results, Try.results26, go_sem]) rfl ⟨rfl, ?_⟩
  repeat (first | with_reducible exact Ext.refl _ | with_reducible assumption | with_reducible refine Ext.alloc ?_ _ | with_reducible refine Ext.drew ?_ | with_reducible refine Ext.drewN ?_ _ | with_reducible refine Ext.setCell ?_ (by simp <;> omega) _ | with_reducible refine Ext.trans ?_ (by assumption))
theorem span32_nil (w : World) : Calls Try.prog 26 #[.pointer none] w (SpanDoes32 0 0 false w) := by
  go_enter Try.func26, Try.ntmps26
  go_wp2
  refine bodyPost_ret (v := .tuple #[.agg #[.int .u32 0, .int .i64 0], .bool false]) (by simp [results, Try.results26, go_sem]) rfl ⟨rfl, ?_⟩
  repeat (first | with_reducible exact Ext.refl _ | with_reducible assumption | with_reducible refine Ext.alloc ?_ _ | with_reducible refine Ext.drew ?_ | with_reducible refine Ext.drewN ?_ _ | with_reducible refine Ext.setCell ?_ (by simp <;> omega) _ | with_reducible refine Ext.trans ?_ (by assumption))
def NewDoes32 (h : HS) (w : World) (e : Ending) (w' : World) : Prop := ∃ b, e = .returned (.pointer (some ⟨b, 0, none⟩)) ∧ HD .u32 w' b h ∧ w.heap.size ≤ b ∧ Ext w w'
theorem producer32_yes (C : Int) (w : World) (hr : rightB C = true) : Calls Try.prog 9 #[.int .i64 C] w (NewDoes32 ⟨C, false, 0, 0, 0, 0⟩ w) := by
  have CR := Lib.hid (fun w => lRight C w)
  rw [hr] at CR
  go_enter Try.func9, Try.ntmps9
  go_wp2_with fail
  refine (CR.out _).mono ?_
  rintro e w' ⟨rfl, rfl⟩
  go_wp2
  go_ret
  refine ⟨_, rfl, ?_, Nat.le_refl _, by repeat (first | with_reducible exact Ext.refl _ | with_reducible assumption | with_reducible refine Ext.alloc ?_ _ | with_reducible refine Ext.drew ?_ | with_reducible refine Ext.drewN ?_ _ | with_reducible refine Ext.setCell ?_ (by simp <;> omega) _ | with_reducible refine Ext.trans ?_ (by assumption))⟩
  constructor <;> simp [go_sem]
theorem producer32_no (C : Int) (w : World) (hr : rightB C = false) : Calls Try.prog 9 #[.int .i64 C] w fun e w' => e = .returned (.pointer none) ∧ w = w' := by
  have CR := Lib.hid (fun w => lRight C w)
  rw [hr] at CR
  go_enter Try.func9, Try.ntmps9
  go_wp2_with fail
  refine (CR.out _).mono ?_
  rintro e w' ⟨rfl, rfl⟩
  go_wp2
  go_ret
  exact ⟨rfl, rfl⟩
theorem consumer32_yes (C s : Int) (w : World) (hr : rightB C = true) : Calls Try.prog 6 #[.int .i64 C, .int .u32 s] w (NewDoes32 ⟨C, true, 0, 0, s, s⟩ w) := by
  have CR := Lib.hid (fun w => lRight C w)
  rw [hr] at CR
  go_enter Try.func6, Try.ntmps6
  go_wp2_with fail
  refine (CR.out _).mono ?_
  rintro e w' ⟨rfl, rfl⟩
  go_wp2
  go_ret
  refine ⟨_, rfl, ?_, Nat.le_refl _, by repeat (first | with_reducible exact Ext.refl _ | with_reducible assumption | with_reducible refine Ext.alloc ?_ _ | with_reducible refine Ext.drew ?_ | with_reducible refine Ext.drewN ?_ _ | with_reducible refine Ext.setCell ?_ (by simp <;> omega) _ | with_reducible refine Ext.trans ?_ (by assumption))⟩
  constructor <;> simp [go_sem]
theorem consumer32_no (C s : Int) (w : World) (hr : rightB C = false) : Calls Try.prog 6 #[.int .i64 C, .int .u32 s] w fun e w' => e = .returned (.pointer none) ∧ w = w' := by
  have CR := Lib.hid (fun w => lRight C w)
  rw [hr] at CR
  go_enter Try.func6, Try.ntmps6
  go_wp2_with fail
  refine (CR.out _).mono ?_
  rintro e w' ⟨rfl, rfl⟩
  go_wp2
  go_ret
  exact ⟨rfl, rfl⟩
def sawS64 (h : HS) (u : Int) : GS := if h.c = false ∨ D64 (u - h.G) < D64 (h.U - h.G) ∨ h.C < D64 (u - h.G) then ⟨h, false⟩ else ⟨{ h with U := u }, true⟩
def releasedS64 (h : HS) (n : Int) : GS := if n < 1 ∨ D64 (h.U - h.G) < n then ⟨h, false⟩ else ⟨{ h with G := (U64 (h.G + n)) }, true⟩
theorem released64 (b : Nat) (h : HS) (n : Int) (w : World) (H : HD .u64 w b h) : Calls Try.prog 47 #[.pointer (some ⟨b, 0, none⟩), .int .i64 n] w (GDoes .u64 b (releasedS64 h n).h (.bool (releasedS64 h n).ok) w) := by
  have CH := Lib.hid (ready64 b h w H)
  have q4 := H.q4
  have z4 := H.z4
  have HH := Lib.hid H
  clear H
  unfold releasedS64
  generalize hm : D64 (h.U - h.G) = m at *
  by_cases h1 : n < 1
  · rw [if_pos (.inl h1)]
    have d1 : decide (n < 1) = true := by simpa using h1
    go_enter Try.func47, Try.ntmps47
    go_wp2
    go_ret
    exact HH.out.same (by repeat (first | with_reducible exact Ext.refl _ | with_reducible assumption | with_reducible refine Ext.alloc ?_ _ | with_reducible refine Ext.drew ?_ | with_reducible refine Ext.drewN ?_ _ | with_reducible refine Ext.setCell ?_ (by simp <;> omega) _ | with_reducible refine Ext.trans ?_ (by assumption)))
  · have d1 : decide (n < 1) = false := by simpa using h1
    by_cases h2 : m < n
    · rw [if_pos (.inr h2)]
      have d2 : decide (m < n) = true := by simpa using h2
      go_enter Try.func47, Try.ntmps47
      go_wp2_with fail
      refine CH.out.mono ?_
      rintro e w' ⟨rfl, rfl⟩
      go_wp2
      go_ret
      exact HH.out.same (by repeat (first | with_reducible exact Ext.refl _ | with_reducible assumption | with_reducible refine Ext.alloc ?_ _ | with_reducible refine Ext.drew ?_ | with_reducible refine Ext.drewN ?_ _ | with_reducible refine Ext.setCell ?_ (by simp <;> omega) _ | with_reducible refine Ext.trans ?_ (by assumption)))
    · rw [if_neg (by omega)]
      have d2 : decide (m < n) = false := by simpa using h2
      go_enter Try.func47, Try.ntmps47
      go_wp2_with fail
      refine CH.out.mono ?_
      rintro e w' ⟨rfl, rfl⟩
      go_wp2_with fail
      refine (addU64 _ _ _).mono ?_
      rintro e w' ⟨rfl, rfl⟩
      go_wp2
      go_ret
      exact ⟨rfl, HH.out.set45 _, but_set _ _ _ _⟩
theorem released64_nil (n : Int) (w : World) : Calls Try.prog 47 #[.pointer none, .int .i64 n] w fun e w' => e = .returned (.bool false) ∧ w = w' := by
  by_cases h1 : n < 1
  · have d1 : decide (n < 1) = true := by simpa using h1
    go_enter Try.func47, Try.ntmps47
    go_wp2
    go_ret
    exact ⟨rfl, rfl⟩
  · have d1 : decide (n < 1) = false := by simpa using h1
    have d2 : decide (0 < n) = true := by simp; omega
    go_enter Try.func47, Try.ntmps47
    go_wp2_with fail
    refine (ready64_nil _).mono ?_
    rintro e w' ⟨rfl, rfl⟩
    go_wp2
    go_ret
    exact ⟨rfl, rfl⟩
theorem saw64 (b : Nat) (h : HS) (u : Int) (w : World) (H : HD .u64 w b h) : Calls Try.prog 45 #[.pointer (some ⟨b, 0, none⟩), .int .u64 u] w (GDoes .u64 b (sawS64 h u).h (.bool (sawS64 h u).ok) w) := by
  have CH := Lib.hid (ready64 b h w H)
  have CD := Lib.hid (fun w => diffU64 u h.G w)
  have q0 := H.q0
  have q1 := H.q1
  have q4 := H.q4
  have q5 := H.q5
  have z5 := H.z5
  have HH := Lib.hid H
  clear H
  unfold sawS64
  cases hc : h.c
  · rw [hc] at q1
    rw [if_pos (.inl rfl)]
    go_enter Try.func45, Try.ntmps45
    go_wp2
    go_ret
    exact HH.out.same (by repeat (first | with_reducible exact Ext.refl _ | with_reducible assumption | with_reducible refine Ext.alloc ?_ _ | with_reducible refine Ext.drew ?_ | with_reducible refine Ext.drewN ?_ _ | with_reducible refine Ext.setCell ?_ (by simp <;> omega) _ | with_reducible refine Ext.trans ?_ (by assumption)))
  rw [hc] at q1
  generalize hm : D64 (h.U - h.G) = m at *
  generalize hl : D64 (u - h.G) = l at *
  by_cases h1 : l < m
  · rw [if_pos (.inr (.inl h1))]
    have d1 : decide (l < m) = true := by simpa using h1
    go_enter Try.func45, Try.ntmps45
    go_wp2_with fail
    refine (CD.out _).mono ?_
    rintro e w' ⟨rfl, rfl⟩
    go_wp2_with fail
    refine CH.out.mono ?_
    rintro e w' ⟨rfl, rfl⟩
    go_wp2
    go_ret
    exact HH.out.same (by repeat (first | with_reducible exact Ext.refl _ | with_reducible assumption | with_reducible refine Ext.alloc ?_ _ | with_reducible refine Ext.drew ?_ | with_reducible refine Ext.drewN ?_ _ | with_reducible refine Ext.setCell ?_ (by simp <;> omega) _ | with_reducible refine Ext.trans ?_ (by assumption)))
  · have d1 : decide (l < m) = false := by simpa using h1
    by_cases h2 : h.C < l
    · rw [if_pos (.inr (.inr h2))]
      have d2 : decide (h.C < l) = true := by simpa using h2
      go_enter Try.func45, Try.ntmps45
      go_wp2_with fail
      refine (CD.out _).mono ?_
      rintro e w' ⟨rfl, rfl⟩
      go_wp2_with fail
      refine CH.out.mono ?_
      rintro e w' ⟨rfl, rfl⟩
      go_wp2
      go_ret
      exact HH.out.same (by repeat (first | with_reducible exact Ext.refl _ | with_reducible assumption | with_reducible refine Ext.alloc ?_ _ | with_reducible refine Ext.drew ?_ | with_reducible refine Ext.drewN ?_ _ | with_reducible refine Ext.setCell ?_ (by simp <;> omega) _ | with_reducible refine Ext.trans ?_ (by assumption)))
    · rw [if_neg (by simp only [Bool.true_eq_false, false_or]; omega)]
      have d2 : decide (h.C < l) = false := by simpa using h2
      go_enter Try.func45, Try.ntmps45
      go_wp2_with fail
      refine (CD.out _).mono ?_
      rintro e w' ⟨rfl, rfl⟩
      go_wp2_with fail
      refine CH.out.mono ?_
      rintro e w' ⟨rfl, rfl⟩
      go_wp2
      go_ret
      have R := HH.out.set5 u
      rw [hc] at R
      exact ⟨rfl, R, but_set _ _ _ _⟩
theorem saw64_nil (u : Int) (w : World) : Calls Try.prog 45 #[.pointer none, .int .u64 u] w fun e w' => e = .returned (.bool false) ∧ w = w' := by
  go_enter Try.func45, Try.ntmps45
  go_wp2
  go_ret
  exact ⟨rfl, rfl⟩
theorem published64 (b : Nat) (h : HS) (w : World) (H : HD .u64 w b h) : Calls Try.prog 44 #[.pointer (some ⟨b, 0, none⟩)] w (GDoes .u64 b (publishedS h).h (.bool (publishedS h).ok) w) := by
  have CH := Lib.hid (has64 b h w H)
  have q2 := H.q2
  have z2 := H.z2
  have q3 := H.q3
  have z3 := H.z3
  have HH := Lib.hid H
  clear H
  unfold publishedS
  by_cases h1 : 0 < h.N
  · rw [if_pos h1]
    have d1 : decide (0 < h.N) = true := by simpa using h1
    rw [d1] at CH
    go_enter Try.func44, Try.ntmps44
    go_wp2_with fail
    refine CH.out.mono ?_
    rintro e w' ⟨rfl, rfl⟩
    go_wp2
    go_ret
    exact ⟨rfl, HH.out.set23 _ _, (but_set _ _ _ _).trans (but_set _ _ _ _)⟩
  · rw [if_neg h1]
    have d1 : decide (0 < h.N) = false := by simpa using h1
    rw [d1] at CH
    go_enter Try.func44, Try.ntmps44
    go_wp2_with fail
    refine CH.out.mono ?_
    rintro e w' ⟨rfl, rfl⟩
    go_wp2
    go_ret
    exact HH.out.same (by repeat (first | with_reducible exact Ext.refl _ | with_reducible assumption | with_reducible refine Ext.alloc ?_ _ | with_reducible refine Ext.drew ?_ | with_reducible refine Ext.drewN ?_ _ | with_reducible refine Ext.setCell ?_ (by simp <;> omega) _ | with_reducible refine Ext.trans ?_ (by assumption)))
theorem published64_nil (w : World) : Calls Try.prog 44 #[.pointer none] w fun e w' => e = .returned (.bool false) ∧ w = w' := by
  go_enter Try.func44, Try.ntmps44
  go_wp2
  go_ret
  exact ⟨rfl, rfl⟩
theorem claimed64 (b : Nat) (h : HS) (f n : Int) (w : World) (H : HD .u64 w b h) : Calls Try.prog 43 #[.pointer (some ⟨b, 0, none⟩), .agg #[.int .u64 f, .int .i64 n]] w (GDoes .u64 b (claimedS h f n).h (.bool (claimedS h f n).ok) w) := by
  have CH := Lib.hid (fun w' (hx : Ext w w') => has64 b h w' (H.ext hx))
  have HH := Lib.hid (fun w' (hx : Ext w w') => H.ext hx)
  have q0 := H.q0
  have q1 := H.q1
  have lt := H.lt
  clear H
  unfold claimedS
  cases hc : h.c
  case true =>
    rw [hc] at q1
    rw [if_pos (.inl rfl)]
    go_enter Try.func43, Try.ntmps43
    go_wp2_with fail
    refine settle_wp ?_
    intro w1 hb1
    have qs_0 : w1.cell? ⟨w.heap.size, 0, none⟩ = some (.int .u64 f) := hb1.cell (by simp [go_sem])
    have qs_1 : w1.cell? ⟨w.heap.size, 1, none⟩ = some (.int .i64 n) := hb1.cell (by simp [go_sem])
    have X1 : Ext w w1 := Ext.trans ((Ext.refl w).alloc _) hb1
    have qh_0 := X1.cell q0
    have qh_1 := X1.cell q1
    clear hb1 q0 q1
    refine wp_region_later (by kernel_rfl) (by kernel_rfl) ?_
    have ls_0 := fun (g : Later w1) => g.ok.cell qs_0
    have ls_1 := fun (g : Later w1) => g.ok.cell qs_1
    have lh_0 := fun (g : Later w1) => g.ok.cell qh_0
    have lh_1 := fun (g : Later w1) => g.ok.cell qh_1
    repeat (go_big_quiet_step ((fail)))
    refine wpQuiet_nil ?_
    intro w2 hl2
    have hb2 := laters_ext hl2
    have X2 := X1.trans hb2
    clear hl2 ls_0 ls_1 lh_0 lh_1
    go_wp2
    go_ret
    exact ⟨rfl, HH.out _ X2, X2.but _⟩
  rw [hc] at q1
  by_cases hN : 0 < h.N
  · rw [if_pos (.inr (.inl hN))]
    have dN : decide (0 < h.N) = true := by simpa using hN
    rw [dN] at CH
    go_enter Try.func43, Try.ntmps43
    go_wp2_with fail
    refine settle_wp ?_
    intro w1 hb1
    have qs_0 : w1.cell? ⟨w.heap.size, 0, none⟩ = some (.int .u64 f) := hb1.cell (by simp [go_sem])
    have qs_1 : w1.cell? ⟨w.heap.size, 1, none⟩ = some (.int .i64 n) := hb1.cell (by simp [go_sem])
    have X1 : Ext w w1 := Ext.trans ((Ext.refl w).alloc _) hb1
    have qh_0 := X1.cell q0
    have qh_1 := X1.cell q1
    clear hb1 q0 q1
    refine wp_region_later (by kernel_rfl) (by kernel_rfl) ?_
    have ls_0 := fun (g : Later w1) => g.ok.cell qs_0
    have ls_1 := fun (g : Later w1) => g.ok.cell qs_1
    have lh_0 := fun (g : Later w1) => g.ok.cell qh_0
    have lh_1 := fun (g : Later w1) => g.ok.cell qh_1
    repeat (go_big_quiet_step ((fail)))
    go_big_quiet_step ((go_at_call 56; exact laterS (CH.out _ (X1.trans (Later.ok _)))))
    repeat (go_big_quiet_step ((fail)))
    refine wpQuiet_nil ?_
    intro w2 hl2
    have hb2 := laters_ext hl2
    have X2 := X1.trans hb2
    clear hl2 ls_0 ls_1 lh_0 lh_1
    go_wp2
    go_ret
    exact ⟨rfl, HH.out _ X2, X2.but _⟩
  have dN : decide (0 < h.N) = false := by simpa using hN
  rw [dN] at CH
  by_cases h1 : n < 1
  · rw [if_pos (.inr (.inr (.inl h1)))]
    have d1 : decide (n < 1) = true := by simpa using h1
    go_enter Try.func43, Try.ntmps43
    go_wp2_with fail
    refine settle_wp ?_
    intro w1 hb1
    have qs_0 : w1.cell? ⟨w.heap.size, 0, none⟩ = some (.int .u64 f) := hb1.cell (by simp [go_sem])
    have qs_1 : w1.cell? ⟨w.heap.size, 1, none⟩ = some (.int .i64 n) := hb1.cell (by simp [go_sem])
    have X1 : Ext w w1 := Ext.trans ((Ext.refl w).alloc _) hb1
    have qh_0 := X1.cell q0
    have qh_1 := X1.cell q1
    clear hb1 q0 q1
    refine wp_region_later (by kernel_rfl) (by kernel_rfl) ?_
    have ls_0 := fun (g : Later w1) => g.ok.cell qs_0
    have ls_1 := fun (g : Later w1) => g.ok.cell qs_1
    have lh_0 := fun (g : Later w1) => g.ok.cell qh_0
    have lh_1 := fun (g : Later w1) => g.ok.cell qh_1
    repeat (go_big_quiet_step ((fail)))
    go_big_quiet_step ((go_at_call 56; exact laterS (CH.out _ (X1.trans (Later.ok _)))))
    repeat (go_big_quiet_step ((fail)))
    refine wpQuiet_nil ?_
    intro w2 hl2
    have hb2 := laters_ext hl2
    have X2 := X1.trans hb2
    clear hl2 ls_0 ls_1 lh_0 lh_1
    go_wp2
    go_ret
    exact ⟨rfl, HH.out _ X2, X2.but _⟩
  have d1 : decide (n < 1) = false := by simpa using h1
  by_cases h2 : h.C < n
  · rw [if_pos (.inr (.inr (.inr h2)))]
    have d2 : decide (h.C < n) = true := by simpa using h2
    go_enter Try.func43, Try.ntmps43
    go_wp2_with fail
    refine settle_wp ?_
    intro w1 hb1
    have qs_0 : w1.cell? ⟨w.heap.size, 0, none⟩ = some (.int .u64 f) := hb1.cell (by simp [go_sem])
    have qs_1 : w1.cell? ⟨w.heap.size, 1, none⟩ = some (.int .i64 n) := hb1.cell (by simp [go_sem])
    have X1 : Ext w w1 := Ext.trans ((Ext.refl w).alloc _) hb1
    have qh_0 := X1.cell q0
    have qh_1 := X1.cell q1
    clear hb1 q0 q1
    refine wp_region_later (by kernel_rfl) (by kernel_rfl) ?_
    have ls_0 := fun (g : Later w1) => g.ok.cell qs_0
    have ls_1 := fun (g : Later w1) => g.ok.cell qs_1
    have lh_0 := fun (g : Later w1) => g.ok.cell qh_0
    have lh_1 := fun (g : Later w1) => g.ok.cell qh_1
    repeat (go_big_quiet_step ((fail)))
    go_big_quiet_step ((go_at_call 56; exact laterS (CH.out _ (X1.trans (Later.ok _)))))
    repeat (go_big_quiet_step ((fail)))
    refine wpQuiet_nil ?_
    intro w2 hl2
    have hb2 := laters_ext hl2
    have X2 := X1.trans hb2
    clear hl2 ls_0 ls_1 lh_0 lh_1
    go_wp2
    go_ret
    exact ⟨rfl, HH.out _ X2, X2.but _⟩
  have d2 : decide (h.C < n) = false := by simpa using h2
  rw [if_neg (by simp only [Bool.false_eq_true, false_or]; omega)]
  go_enter Try.func43, Try.ntmps43
  go_wp2_with fail
  refine settle_wp ?_
  intro w1 hb1
  have qs_0 : w1.cell? ⟨w.heap.size, 0, none⟩ = some (.int .u64 f) := hb1.cell (by simp [go_sem])
  have qs_1 : w1.cell? ⟨w.heap.size, 1, none⟩ = some (.int .i64 n) := hb1.cell (by simp [go_sem])
  have X1 : Ext w w1 := Ext.trans ((Ext.refl w).alloc _) hb1
  have qh_0 := X1.cell q0
  have qh_1 := X1.cell q1
  clear hb1 q0 q1
  refine wp_region_later (by kernel_rfl) (by kernel_rfl) ?_
  have ls_0 := fun (g : Later w1) => g.ok.cell qs_0
  have ls_1 := fun (g : Later w1) => g.ok.cell qs_1
  have lh_0 := fun (g : Later w1) => g.ok.cell qh_0
  have lh_1 := fun (g : Later w1) => g.ok.cell qh_1
  repeat (go_big_quiet_step ((fail)))
  go_big_quiet_step ((go_at_call 56; exact laterS (CH.out _ (X1.trans (Later.ok _)))))
  repeat (go_big_quiet_step ((fail)))
  refine wpQuiet_nil ?_
  intro w2 hl2
  have hb2 := laters_ext hl2
  have X2 := X1.trans hb2
  clear hl2 ls_0 ls_1 lh_0 lh_1
  replace qs_0 := hb2.cell qs_0
  replace qs_1 := hb2.cell qs_1
  have q2 := (HH.out _ X2).q2
  have q3 := (HH.out _ X2).q3
  have z2 := (HH.out _ X2).z2
  have z3 := (HH.out _ X2).z3
  go_wp2
  go_ret
  have R := (HH.out _ X2).set23 f n
  rw [hc] at R
  exact ⟨rfl, R, (X2.but _).trans ((but_set _ _ _ _).trans (but_set _ _ _ _))⟩
theorem claimed64_nil (f n : Int) (w : World) : Calls Try.prog 43 #[.pointer none, .agg #[.int .u64 f, .int .i64 n]] w fun e w' => e = .returned (.bool false) ∧ Ext w w' := by
  go_enter Try.func43, Try.ntmps43
  go_wp2_with fail
  refine settle_wp ?_
  intro w1 hb1
  have X1 : Ext w w1 := Ext.trans ((Ext.refl w).alloc _) hb1
  clear hb1
  refine wp_region_later (by kernel_rfl) (by kernel_rfl) ?_
  repeat (go_big_quiet_step ((fail)))
  refine wpQuiet_nil ?_
  intro w2 hl2
  have hb2 := laters_ext hl2
  have X2 := X1.trans hb2
  clear hl2
  go_wp2
  go_ret
  exact ⟨rfl, X2⟩
def SpanDoes64 (f n : Int) (ok : Bool) (w : World) (e : Ending) (w' : World) : Prop := e = .returned (.tuple #[.agg #[.int .u64 f, .int .i64 n], .bool ok]) ∧ Ext w w'
theorem span64_yes (b : Nat) (h : HS) (w : World) (H : HD .u64 w b h) (h1 : 0 < h.N) : Calls Try.prog 48 #[.pointer (some ⟨b, 0, none⟩)] w (SpanDoes64 h.F h.N true w) := by
  have CH := Lib.hid (fun w' (hx : Ext w w') => has64 b h w' (H.ext hx))
  have q2 := H.q2
  have q3 := H.q3
  have lt := H.lt
  clear H
  have d1 : decide (0 < h.N) = true := by simpa using h1
  rw [d1] at CH
  go_enter Try.func48, Try.ntmps48
  go_wp2_with fail
  refine (CH.out _ (by repeat (first | with_reducible exact Ext.refl _ | with_reducible assumption | with_reducible refine Ext.alloc ?_ _ | with_reducible refine Ext.drew ?_ | with_reducible refine Ext.drewN ?_ _ | with_reducible refine Ext.setCell ?_ (by simp <;> omega) _ | with_reducible refine Ext.trans ?_ (by assumption)))).mono ?_
  rintro e w' ⟨rfl, rfl⟩
  go_wp2
  refine bodyPost_ret (v := .tuple #[.agg #[.int .u64 h.F, .int .i64 h.N], .bool true]) (by simp [results, Try.results48, go_sem]) rfl ⟨rfl, ?_⟩
  repeat (first | with_reducible exact Ext.refl _ | with_reducible assumption | with_reducible refine Ext.alloc ?_ _ | with_reducible refine Ext.drew ?_ | with_reducible refine Ext.drewN ?_ _ | with_reducible refine Ext.setCell ?_ (by simp <;> omega) _ | with_reducible refine Ext.trans ?_ (by assumption))
theorem span64_no (b : Nat) (h : HS) (w : World) (H : HD .u64 w b h) (h1 : ¬ 0 < h.N) : Calls Try.prog 48 #[.pointer (some ⟨b, 0, none⟩)] w (SpanDoes64 0 0 false w) := by
  have CH := Lib.hid (fun w' (hx : Ext w w') => has64 b h w' (H.ext hx))
  have lt := H.lt
  clear H
  have d1 : decide (0 < h.N) = false := by simpa using h1
  rw [d1] at CH
  go_enter Try.func48, Try.ntmps48
  go_wp2_with fail
  refine (CH.out _ (by repeat (first | with_reducible exact Ext.refl _ | with_reducible assumption | with_reducible refine Ext.alloc ?_ _ | with_reducible refine Ext.drew ?_ | with_reducible refine Ext.drewN ?_ _ | with_reducible refine Ext.setCell ?_ (by simp <;> omega) _ | with_reducible refine Ext.trans ?_ (by assumption)))).mono ?_
  rintro e w' ⟨rfl, rfl⟩
  go_wp2
  refine bodyPost_ret (v := .tuple #[.agg #[.int .u64 0, .int .i64 0], .bool false]) (by simp [results, Try.results48, go_sem]) rfl ⟨rfl, ?_⟩
  repeat (first | with_reducible exact Ext.refl _ | with_reducible assumption | with_reducible refine Ext.alloc ?_ _ | with_reducible refine Ext.drew ?_ | with_reducible refine Ext.drewN ?_ _ | with_reducible refine Ext.setCell ?_ (by simp <;> omega) _ | with_reducible refine Ext.trans ?_ (by assumption))
theorem span64_nil (w : World) : Calls Try.prog 48 #[.pointer none] w (SpanDoes64 0 0 false w) := by
  go_enter Try.func48, Try.ntmps48
  go_wp2
  refine bodyPost_ret (v := .tuple #[.agg #[.int .u64 0, .int .i64 0], .bool false]) (by simp [results, Try.results48, go_sem]) rfl ⟨rfl, ?_⟩
  repeat (first | with_reducible exact Ext.refl _ | with_reducible assumption | with_reducible refine Ext.alloc ?_ _ | with_reducible refine Ext.drew ?_ | with_reducible refine Ext.drewN ?_ _ | with_reducible refine Ext.setCell ?_ (by simp <;> omega) _ | with_reducible refine Ext.trans ?_ (by assumption))
def NewDoes64 (h : HS) (w : World) (e : Ending) (w' : World) : Prop := ∃ b, e = .returned (.pointer (some ⟨b, 0, none⟩)) ∧ HD .u64 w' b h ∧ w.heap.size ≤ b ∧ Ext w w'
theorem producer64_yes (C : Int) (w : World) (hr : rightB C = true) : Calls Try.prog 10 #[.int .i64 C] w (NewDoes64 ⟨C, false, 0, 0, 0, 0⟩ w) := by
  have CR := Lib.hid (fun w => lRight C w)
  rw [hr] at CR
  go_enter Try.func10, Try.ntmps10
  go_wp2_with fail
  refine (CR.out _).mono ?_
  rintro e w' ⟨rfl, rfl⟩
  go_wp2
  go_ret
  refine ⟨_, rfl, ?_, Nat.le_refl _, by repeat (first | with_reducible exact Ext.refl _ | with_reducible assumption | with_reducible refine Ext.alloc ?_ _ | with_reducible refine Ext.drew ?_ | with_reducible refine Ext.drewN ?_ _ | with_reducible refine Ext.setCell ?_ (by simp <;> omega) _ | with_reducible refine Ext.trans ?_ (by assumption))⟩
  constructor <;> simp [go_sem]
theorem producer64_no (C : Int) (w : World) (hr : rightB C = false) : Calls Try.prog 10 #[.int .i64 C] w fun e w' => e = .returned (.pointer none) ∧ w = w' := by
  have CR := Lib.hid (fun w => lRight C w)
  rw [hr] at CR
  go_enter Try.func10, Try.ntmps10
  go_wp2_with fail
  refine (CR.out _).mono ?_
  rintro e w' ⟨rfl, rfl⟩
  go_wp2
  go_ret
  exact ⟨rfl, rfl⟩
theorem consumer64_yes (C s : Int) (w : World) (hr : rightB C = true) : Calls Try.prog 8 #[.int .i64 C, .int .u64 s] w (NewDoes64 ⟨C, true, 0, 0, s, s⟩ w) := by
  have CR := Lib.hid (fun w => lRight C w)
  rw [hr] at CR
  go_enter Try.func8, Try.ntmps8
  go_wp2_with fail
  refine (CR.out _).mono ?_
  rintro e w' ⟨rfl, rfl⟩
  go_wp2
  go_ret
  refine ⟨_, rfl, ?_, Nat.le_refl _, by repeat (first | with_reducible exact Ext.refl _ | with_reducible assumption | with_reducible refine Ext.alloc ?_ _ | with_reducible refine Ext.drew ?_ | with_reducible refine Ext.drewN ?_ _ | with_reducible refine Ext.setCell ?_ (by simp <;> omega) _ | with_reducible refine Ext.trans ?_ (by assumption))⟩
  constructor <;> simp [go_sem]
theorem consumer64_no (C s : Int) (w : World) (hr : rightB C = false) : Calls Try.prog 8 #[.int .i64 C, .int .u64 s] w fun e w' => e = .returned (.pointer none) ∧ w = w' := by
  have CR := Lib.hid (fun w => lRight C w)
  rw [hr] at CR
  go_enter Try.func8, Try.ntmps8
  go_wp2_with fail
  refine (CR.out _).mono ?_
  rintro e w' ⟨rfl, rfl⟩
  go_wp2
  go_ret
  exact ⟨rfl, rfl⟩
end Go.Proofs.Ytoaifbengichbab
