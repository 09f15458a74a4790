/- The walk of SpanPieces. -/
import Derived.Test.YtclhbdedibcgjaaRef03c
import Derived.Test.YtclhbdedibcgjaaLaw03a
import Derived.BigQuiet
namespace Go.Proofs.Ytclhbdedibcgjaa
open Go.RowKit Go.Shelf
set_option linter.unusedVariables false
set_option maxHeartbeats 2000000
attribute [local go_sem] later_cell later_frozen later_const
theorem pcs_shape (c s n : Int) : pcs c s n = [] ∨ (∃ a b, pcs c s n = [(a, b)]) ∨ ∃ a b d e, pcs c s n = [(a, b), (d, e)] := by
  unfold pcs
  split
  · exact .inl rfl
  · split
    · exact .inr (.inl ⟨_, _, rfl⟩)
    · exact .inr (.inr ⟨_, _, _, _, rfl⟩)
theorem pcs0 {w : World} {v : Value} (h : PcsAt w v []) : ∃ a cap, v = .slice a 0 cap := by
  rcases h with ⟨h, _⟩ | ⟨g, cap, h, _⟩
  · exact ⟨_, _, h⟩
  · exact ⟨_, _, h⟩
theorem pcs1 {w : World} {v : Value} {a b : Int} (h : PcsAt w v [(a, b)]) : ∃ g cap, v = .slice (some ⟨g, 0, none⟩) 1 cap ∧ w.cell? ⟨g, 0, none⟩ = some (.int .i64 a) ∧ w.cell? ⟨g, 1, none⟩ = some (.int .i64 b) := by
  rcases h with ⟨_, h⟩ | ⟨g, cap, h, hc⟩
  · cases h
  · exact ⟨g, cap, h, (hc 0 (by simp)).1, (hc 0 (by simp)).2⟩
theorem pcs2 {w : World} {v : Value} {a b d e : Int} (h : PcsAt w v [(a, b), (d, e)]) : ∃ g cap, v = .slice (some ⟨g, 0, none⟩) 2 cap ∧ (w.cell? ⟨g, 0, none⟩ = some (.int .i64 a) ∧ w.cell? ⟨g, 1, none⟩ = some (.int .i64 b)) ∧ w.cell? ⟨g, 2, none⟩ = some (.int .i64 d) ∧ w.cell? ⟨g, 3, none⟩ = some (.int .i64 e) := by
  rcases h with ⟨_, h⟩ | ⟨g, cap, h, hc⟩
  · cases h
  · exact ⟨g, cap, h, ⟨(hc 0 (by simp)).1, (hc 0 (by simp)).2⟩, (hc 1 (by simp)).1, (hc 1 (by simp)).2⟩
theorem spanPieces_out (c n f : Int) (w : World) (h : 256 < c ∨ 300 < n ∨ n < 0) :
    Calls Try.prog 6 #[.int .i64 c, .int .i64 n, .int .u64 f] w fun e w' => e = .returned (.bool true) ∧ Below w.heap.size w w' := by
  by_cases h1 : 256 < c
  · have d1 : decide (256 < c) = true := by simpa using h1
    clear h
    go_enter Try.func6, Try.ntmps6
    go_wp2_with fail
    with_reducible refine (live03 _).mono ?_
    rintro e w1 ⟨rfl, hb1⟩
    obtain ⟨hc1, hf1⟩ := hb1.cells
    go_wp2
    go_ret
    refine ⟨rfl, Ext.below ?_⟩
    repeat (first | with_reducible exact Ext.refl _ | with_reducible assumption | with_reducible refine Ext.alloc ?_ _ | with_reducible refine Ext.drew ?_ | with_reducible refine Ext.drewN ?_ _ | with_reducible refine Ext.setCell ?_ (by simp <;> omega) _ | with_reducible refine Ext.trans ?_ (by assumption))
  have d1 : decide (256 < c) = false := by simpa using h1
  by_cases h2 : 300 < n
  · have d2 : decide (300 < n) = true := by simpa using h2
    clear h
    go_enter Try.func6, Try.ntmps6
    go_wp2_with fail
    with_reducible refine (live03 _).mono ?_
    rintro e w2 ⟨rfl, hb2⟩
    obtain ⟨hc2, hf2⟩ := hb2.cells
    go_wp2
    go_ret
    refine ⟨rfl, Ext.below ?_⟩
    repeat (first | with_reducible exact Ext.refl _ | with_reducible assumption | with_reducible refine Ext.alloc ?_ _ | with_reducible refine Ext.drew ?_ | with_reducible refine Ext.drewN ?_ _ | with_reducible refine Ext.setCell ?_ (by simp <;> omega) _ | with_reducible refine Ext.trans ?_ (by assumption))
  have d2 : decide (300 < n) = false := by simpa using h2
  have d3 : decide (n < 0) = true := by simp; omega
  clear h
  go_enter Try.func6, Try.ntmps6
  go_wp2_with fail
  with_reducible refine (live03 _).mono ?_
  rintro e w3 ⟨rfl, hb3⟩
  obtain ⟨hc3, hf3⟩ := hb3.cells
  go_wp2
  go_ret
  refine ⟨rfl, Ext.below ?_⟩
  repeat (first | with_reducible exact Ext.refl _ | with_reducible assumption | with_reducible refine Ext.alloc ?_ _ | with_reducible refine Ext.drew ?_ | with_reducible refine Ext.drewN ?_ _ | with_reducible refine Ext.setCell ?_ (by simp <;> omega) _ | with_reducible refine Ext.trans ?_ (by assumption))
theorem spanPieces_no (c n f : Int) (w : World) (h1 : c ≤ 256) (h2 : n ≤ 300) (h3 : 0 ≤ n) (h : rightB c = false ∨ c < n) :
    Calls Try.prog 6 #[.int .i64 c, .int .i64 n, .int .u64 f] w fun e w' => e = .returned (.bool true) ∧ Below w.heap.size w w' := by
  have d1 : decide (256 < c) = false := by simp; omega
  have d2 : decide (300 < n) = false := by simp; omega
  have d3 : decide (n < 0) = false := by simp; omega
  have HH := Lib.hid (Or.inr h : okN n = false ∨ rightB c = false ∨ c < n)
  have HN : Hid (rightB c = true → c < n) := Lib.hid (fun e => by rcases h with h | h; rw [e] at h; cases h; exact h)
  clear h
  go_enter Try.func6, Try.ntmps6
  go_wp2_with fail
  with_reducible refine (small03 _ _ _).mono ?_
  rintro e w1 ⟨rfl, hb1⟩
  obtain ⟨hc1, hf1⟩ := hb1.cells
  go_wp2_with fail
  with_reducible refine (sPieces32_no _ _ _ _ HH.out).mono ?_
  rintro e w2 ⟨rfl, hb2⟩
  obtain ⟨hc2, hf2⟩ := hb2.cells
  go_wp2_with fail
  with_reducible refine (great03 _ _ _).mono ?_
  rintro e w3 ⟨rfl, hb3⟩
  obtain ⟨hc3, hf3⟩ := hb3.cells
  go_wp2_with fail
  with_reducible refine (sPieces64_no _ _ _ _ HH.out).mono ?_
  rintro e w4 ⟨rfl, hb4⟩
  obtain ⟨hc4, hf4⟩ := hb4.cells
  go_wp2_with fail
  refine (r2Right _ _).mono ?_
  rintro e w' ⟨rfl, rfl⟩
  cases hc : rightB c
  · go_wp2_with fail
    with_reducible refine (live03 _).mono ?_
    rintro e w5 ⟨rfl, hb5⟩
    obtain ⟨hc5, hf5⟩ := hb5.cells
    go_wp2
    go_ret
    refine ⟨rfl, Ext.below ?_⟩
    repeat (first | with_reducible exact Ext.refl _ | with_reducible assumption | with_reducible refine Ext.alloc ?_ _ | with_reducible refine Ext.drew ?_ | with_reducible refine Ext.drewN ?_ _ | with_reducible refine Ext.setCell ?_ (by simp <;> omega) _ | with_reducible refine Ext.trans ?_ (by assumption))
  · have d4 : decide (c < n) = true := by simpa using HN.out hc
    go_wp2_with fail
    with_reducible refine (live03 _).mono ?_
    rintro e w6 ⟨rfl, hb6⟩
    obtain ⟨hc6, hf6⟩ := hb6.cells
    go_wp2
    go_ret
    refine ⟨rfl, Ext.below ?_⟩
    repeat (first | with_reducible exact Ext.refl _ | with_reducible assumption | with_reducible refine Ext.alloc ?_ _ | with_reducible refine Ext.drew ?_ | with_reducible refine Ext.drewN ?_ _ | with_reducible refine Ext.setCell ?_ (by simp <;> omega) _ | with_reducible refine Ext.trans ?_ (by assumption))
set_option maxRecDepth 100000 in
theorem spanPieces_yes (c f : Int) (n : Nat) (w : World) (h1 : c ≤ 256) (hc : rightB c = true) (hnc : (n : Int) ≤ c) (hf : 0 ≤ f ∧ f < 18446744073709551616) :
    Calls Try.prog 6 #[.int .i64 c, .int .i64 n, .int .u64 f] w fun e w' => e = .returned (.bool true) ∧ Below w.heap.size w w' := by
  have d1 : decide (256 < c) = false := by simp; omega
  have d2 : decide (300 < (n : Int)) = false := by simp; omega
  have d3 : decide ((n : Int) < 0) = false := by simp
  have d4 : decide (c < (n : Int)) = false := by simp; omega
  have hk : okN n = true := okN_of (by omega) (by omega)
  have p1 := fun w => sPieces32 (f % 4294967296) n c w hk hc hnc (by omega) (by omega)
  have p2 := fun w => sPieces64 f n c w hk hc hnc hf.1 hf.2
  have p3 := fun w => r3Pieces32 (f % 4294967296) c n w hc (by omega) hnc
  have p4 := fun w => r3Pieces64 f c n w hc (by omega) hnc
  rw [mod32_mod hc] at p1 p3
  have hsh := pcs_shape c (f % c) n
  have HF := Lib.hid hf
  generalize pcs c (f % c) n = P at *
  have P1 := Lib.hid p1
  have P2 := Lib.hid p2
  have P3 := Lib.hid p3
  have P4 := Lib.hid p4
  have HSH := Lib.hid hsh
  clear p1 p2 p3 p4 hsh hf
  go_enter Try.func6, Try.ntmps6
  go_wp2_with fail
  with_reducible refine (small03 _ _ _).mono ?_
  rintro e w1 ⟨rfl, hb1⟩
  obtain ⟨hc1, hf1⟩ := hb1.cells
  go_wp2_with fail
  refine (P1.out _).mono ?_
  rintro e w2 ⟨v1, k1, rfl, r1, hb2⟩
  have A1 := Lib.hid (pcsAt_of r1)
  clear r1
  go_wp2_with fail
  refine (great03 _ _ _).mono ?_
  rintro e w3 ⟨rfl, hb3⟩
  go_wp2_with fail
  refine (P2.out _).mono ?_
  rintro e w4 ⟨v2, k2, rfl, r2, hb4⟩
  have A2 := Lib.hid (pcsAt_of r2)
  clear r2
  go_wp2_with fail
  refine (r2Right _ _).mono ?_
  rintro e w' ⟨rfl, rfl⟩
  rw [hc]
  go_wp2_with fail
  refine (rCut_32 _ _ HF.out.1).mono ?_
  rintro e w' ⟨rfl, rfl⟩
  go_wp2_with fail
  refine (P3.out _).mono ?_
  rintro e w5 ⟨v3, rfl, r3, hb5⟩
  have A3 := Lib.hid r3
  clear r3
  go_wp2_with fail
  refine (P4.out _).mono ?_
  rintro e w6 ⟨v4, rfl, r4, hb6⟩
  have X46 : Ext w4 w6 := hb5.trans hb6
  have X26 : Ext w2 w6 := (hb3.trans hb4).trans X46
  have Xw6 : Ext w w6 := (hb1.trans hb2).trans X26
  have X56 := hb6
  have B1 := A1.out.ext X26
  have B2 := A2.out.ext X46
  have B3 := A3.out.ext X56
  clear A1 A2 A3 hb2 hb3 hb4 hb5 hb6 X26 X46 X56 hb1 hc1 hf1
  rcases HSH.out with rfl | ⟨a, b, rfl⟩ | ⟨a, b, x, y, rfl⟩
  · obtain ⟨a1, c1, e1⟩ := pcs0 B1
    obtain ⟨a2, c2, e2⟩ := pcs0 B2
    obtain ⟨a3, c3, e3⟩ := pcs0 B3
    obtain ⟨a4, c4, e4⟩ := pcs0 r4
    rw [e1, e2, e3, e4]
    clear e1 e2 e3 e4 B1 B2 B3 r4
    go_wp2
    refine wp_loop_rounds 1 ?_
    rw [rounds_succ]
    go_wp2
    refine wp_loop_rounds 1 ?_
    rw [rounds_succ]
    go_wp2_with fail
    refine (live03 _).mono ?_
    rintro e w7 ⟨rfl, hb7⟩
    go_wp2
    go_ret
    exact ⟨rfl, (Xw6.trans hb7).below⟩
  · obtain ⟨g1, c1, e1, q1, s1⟩ := pcs1 B1
    obtain ⟨g2, c2, e2, q2, s2⟩ := pcs1 B2
    obtain ⟨g3, c3, e3, q3, s3⟩ := pcs1 B3
    obtain ⟨g4, c4, e4, q4, s4⟩ := pcs1 r4
    rw [e1, e2, e3, e4]
    clear e1 e2 e3 e4 B1 B2 B3 r4
    have hq := fun w => eq_arr w a b a b
    go_wp2
    refine wp_loop_rounds 2 ?_
    rw [rounds_succ]
    go_wp2
    go_quiet (fail)
    go_wp2
    rw [rounds_succ]
    go_wp2
    refine wp_loop_rounds 2 ?_
    rw [rounds_succ]
    go_wp2
    go_quiet (fail)
    go_wp2
    rw [rounds_succ]
    go_wp2_with fail
    refine (live03 _).mono ?_
    rintro e w7 ⟨rfl, hb7⟩
    go_wp2
    go_ret
    exact ⟨rfl, ((Xw6.drewN _).trans hb7).below⟩
  · obtain ⟨g1, c1, e1, ⟨q1, s1⟩, t1, u1⟩ := pcs2 B1
    obtain ⟨g2, c2, e2, ⟨q2, s2⟩, t2, u2⟩ := pcs2 B2
    obtain ⟨g3, c3, e3, ⟨q3, s3⟩, t3, u3⟩ := pcs2 B3
    obtain ⟨g4, c4, e4, ⟨q4, s4⟩, t4, u4⟩ := pcs2 r4
    rw [e1, e2, e3, e4]
    clear e1 e2 e3 e4 B1 B2 B3 r4
    have hq := fun w => eq_arr w a b a b
    have hq' := fun w => eq_arr w x y x y
    go_wp2
    refine wp_loop_rounds 3 ?_
    rw [rounds_succ]
    go_wp2
    go_quiet (fail)
    go_wp2
    rw [rounds_succ]
    go_wp2
    go_quiet (fail)
    go_wp2
    rw [rounds_succ]
    go_wp2
    refine wp_loop_rounds 3 ?_
    rw [rounds_succ]
    go_wp2
    go_quiet (fail)
    go_wp2
    rw [rounds_succ]
    go_wp2
    go_quiet (fail)
    go_wp2
    rw [rounds_succ]
    go_wp2_with fail
    refine (live03 _).mono ?_
    rintro e w7 ⟨rfl, hb7⟩
    go_wp2
    go_ret
    exact ⟨rfl, ((Xw6.drewN _).trans hb7).below⟩
theorem spanPieces_walk (c n f : Int) (w : World) (w0 : (Lit.int .i64 c).wf = true) (w1 : (Lit.int .i64 n).wf = true) (w2 : (Lit.int .u64 f).wf = true) :
    Calls Try.prog 6 #[.int .i64 c, .int .i64 n, .int .u64 f] w fun e w' => e = .returned (.bool true) ∧ Below w.heap.size w w' := by
  have hf := wf_u64 w2
  by_cases h : 256 < c ∨ 300 < n ∨ n < 0
  · exact spanPieces_out c n f w h
  · cases hc : rightB c
    · exact spanPieces_no c n f w (by omega) (by omega) (by omega) (.inl hc)
    · by_cases hn : c < n
      · exact spanPieces_no c n f w (by omega) (by omega) (by omega) (.inr hn)
      · obtain ⟨m, rfl⟩ := Int.eq_ofNat_of_zero_le (show 0 ≤ n by omega)
        exact spanPieces_yes c f m w (by omega) hc (by omega) hf
end Go.Proofs.Ytclhbdedibcgjaa
