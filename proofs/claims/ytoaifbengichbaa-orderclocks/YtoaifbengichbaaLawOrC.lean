/- The walk of OrderClocks. -/
import Derived.Test.YtoaifbengichbaaOr15
import Derived.Test.YtoaifbengichbaaOr16
import Derived.Test.YtoaifbengichbaaOr17
import Derived.Test.YtoaifbengichbaaLawOrR
import Derived.Test.YtoaifbengichbaaGrow
namespace Go.Proofs.Ytoaifbengichbaa
open Go.RowKit
set_option linter.unusedVariables false
set_option linter.unusedSimpArgs false
set_option maxHeartbeats 4000000
attribute [local go_sem] later_cell later_frozen later_const
def svx (ls : List Acc) (p : Bool) (m u : Nat) : Value := .int .i64 (sC ls p u m)
theorem svx_step {n : Nat} {ls : List Acc} {p : Bool} {k tn : Nat} {w : World} {r : Nat} (h : VA n w r (svx ls p k)) (ht : (A ls k).t = tn) (htn : tn < n) (hp : plB (A ls k).k = p) {z : Int} (hz : z = (sC ls p tn k : Int) + 1) :
    VA n (w.setCell ⟨r, tn, none⟩ (.int .i64 z)) r (svx ls p (k + 1)) := by
  refine (va_set h _ htn).congr fun u hu => ?_
  unfold svx
  rw [sC_succ]
  by_cases e : u = tn
  · subst e
    rw [if_pos rfl, if_pos ⟨ht, hp⟩, hz]
    rfl
  · rw [if_neg e, if_neg (fun h => e (by have := h.1; omega))]
    rfl
theorem svx_same {n : Nat} {ls : List Acc} {p : Bool} {k : Nat} {w : World} {r : Nat} (h : VA n w r (svx ls p k)) (hp : plB (A ls k).k ≠ p) : VA n w r (svx ls p (k + 1)) := by
  refine h.congr fun u hu => ?_
  unfold svx
  rw [sC_succ, if_neg (fun h => hp h.2)]
  rfl
def TwoRows (w wx : World) (n : Nat) (ls : List Acc) (a b : Value) : Prop := ∃ r1 r2, r1 ≠ r2 ∧ a = .slice (some ⟨r1, 0, none⟩) n n ∧ b = .slice (some ⟨r2, 0, none⟩) n n ∧ VA n wx r1 (svx ls false 0) ∧ VA n wx r2 (svx ls true 0) ∧ w.heap.size ≤ r1 ∧ w.heap.size ≤ r2 ∧ Ext w wx
theorem two_rows (w w1 : World) (n : Nat) (ls : List Acc) (h1 : Ext w w1) (r1 r2 : Nat) (hne : r1 ≠ r2) (v1 : VA n w1 r1 (fun _ => .int .i64 0)) (v2 : VA n w1 r2 (fun _ => .int .i64 0)) (g1 : w.heap.size ≤ r1) (g2 : w.heap.size ≤ r2) : TwoRows w w1 n ls (.slice (some ⟨r1, 0, none⟩) n n) (.slice (some ⟨r2, 0, none⟩) n n) :=
  ⟨r1, r2, hne, rfl, rfl, v1.congr fun _ _ => rfl, v2.congr fun _ _ => rfl, g1, g2, h1⟩
theorem fresh_rows (w : World) (n : Nat) (ls : List Acc) : TwoRows w ((w.alloc (.cells (madeCells #[.int .i64 0] n) 3)).alloc (.cells (madeCells #[.int .i64 0] n) 3)).drew n ls (.slice (some ⟨w.heap.size, 0, none⟩) n n) (.slice (some ⟨w.heap.size + 1, 0, none⟩) n n) ∧
    TwoRows w ((w.alloc (.cells (madeCells #[.int .i64 0] n) 3)).alloc (.cells (madeCells #[.int .i64 0] n) 3)).drew n ls (.slice (some ⟨w.heap.size + 1, 0, none⟩) n n) (.slice (some ⟨w.heap.size, 0, none⟩) n n) := by
  have v1 := (va_new (n := n) w 3 (madeCells #[.int .i64 0] n) (fun _ => .int .i64 0) (made_vl _ rfl n)).ext (((Ext.refl _).alloc (.cells (madeCells #[.int .i64 0] n) 3)).drew)
  have v2 := (va_new (n := n) (w.alloc (.cells (madeCells #[.int .i64 0] n) 3)) 3 (madeCells #[.int .i64 0] n) (fun _ => .int .i64 0) (made_vl _ rfl n)).ext (Ext.refl _).drew
  rw [show (w.alloc (.cells (madeCells #[.int .i64 0] n) 3)).heap.size = w.heap.size + 1 by simp] at v2
  have hx := (((Ext.refl w).alloc (.cells (madeCells #[.int .i64 0] n) 3)).alloc (.cells (madeCells #[.int .i64 0] n) 3)).drew
  exact ⟨two_rows w _ n ls hx _ _ (by omega) v1 v2 (Nat.le_refl _) (by omega), two_rows w _ n ls hx _ _ (by omega) v2 v1 (by omega) (Nat.le_refl _)⟩
theorem bh_no {n : Int} {ls : List Acc} (hr : rightL n ls = false) (i j : Int) : bhB n ls i j = false := by
  unfold bhB
  rw [if_pos (.inr (.inr (.inr hr)))]
set_option maxRecDepth 100000 in
theorem orderClocks_walk (n : Int) (a : Option Addr) (len cap : Nat) (ls : List Acc) (w : World) (wn : (Lit.int .i64 n).wf = true) (hI : IsAccs w a len cap ls) :
    Calls Try.prog 4 #[.int .i64 n, .slice a len cap] w fun e w' => e = .returned (.bool true) ∧ Below w.heap.size w w' := by
  obtain ⟨hlen, hA, hwf⟩ := hI
  subst hlen
  have CV := Lib.hid (fun w => live13 w)
  by_cases h150 : 150 < ls.length
  · have d0 : decide ((150 : Int) < (ls.length : Int)) = true := by simp; omega
    clear hA hwf
    go_enter Try.func4, Try.ntmps4
    go_wp2_with fail
    refine (CV.out _).mono ?_
    rintro e w1 ⟨rfl, X1⟩
    go_wp2
    go_ret
    exact ⟨rfl, X1.below⟩
  have d0 : decide ((150 : Int) < (ls.length : Int)) = false := by simp; omega
  have hl : ls.length ≤ 150 := by omega
  have hW := wfl_of hwf
  have CR := Lib.hid (fun w' (hx : Ext w w') => rRight n _ ls w' (hA.ext hx))
  cases hr : rightL n ls
  case false =>
    rw [hr] at CR
    have C1 := Lib.hid (oClocks_no n _ ls w hA hr)
    have C2 := Lib.hid (fun w' (hx : Ext w w') => oCounts_no n _ ls w' (hA.ext hx) hr)
    have CB := Lib.hid (fun w' (hx : Ext w w') => oBehind n _ ls 1 0 w' (hA.ext hx) (by omega) hW)
    rw [bh_no hr] at CB
    clear hA hwf hr hW
    go_enter Try.func4, Try.ntmps4
    go_wp2_with fail
    refine C1.out.mono ?_
    rintro e w1 ⟨rfl, X1⟩
    go_wp2_with fail
    refine (C2.out _ X1).mono ?_
    rintro e w2 ⟨rfl, X2⟩
    have Y2 := X1.trans X2
    go_wp2_with fail
    refine (CR.out _ Y2).mono ?_
    rintro e w3 ⟨rfl, X3⟩
    have Y3 := Y2.trans X3
    go_wp2_with fail
    refine (CB.out _ Y3).mono ?_
    rintro e w4 ⟨rfl, X4⟩
    have Y4 := Y3.trans X4
    go_wp2_with fail
    refine (CV.out _).mono ?_
    rintro e w5 ⟨rfl, X5⟩
    go_wp2
    go_ret
    exact ⟨rfl, (Y4.trans X5).below⟩
  rw [hr] at CR
  obtain ⟨m, rfl, R⟩ := rl_of hr (by omega)
  have n1 := R.n1
  have n2 := R.n2
  have C1 := Lib.hid (oClocks_yes m _ ls w hA R hW)
  have C2 := Lib.hid (fun w' (hx : Ext w w') => oCounts_yes m _ ls w' (hA.ext hx) R)
  have CT := Lib.hid (fun w' (hx : Ext w w') => rTable m _ ls w' (hA.ext hx) R)
  have HA := Lib.hid hA
  have HR := Lib.hid R
  have HW := Lib.hid hW
  have hmk := fun W => run_make_row' (P := Try.prog) 27 3 (.int .i64 0) 8 Try.underlying27 info_int rfl .i64 .i64 m (by omega) (by omega) W
  clear hA hwf hr R hW
  go_enter Try.func4, Try.ntmps4
  go_wp2_with fail
  refine C1.out.mono ?_
  rintro e w1 ⟨cv, rfl, K1, X1⟩
  obtain ⟨a1, cap1, rfl⟩ := K1.form
  rw [ck_len]
  have HK1 := Lib.hid K1
  clear K1
  go_wp2_with fail
  refine (C2.out _ X1).mono ?_
  rintro e w2 ⟨rc, rfl, V2, X2⟩
  have Y2 := X1.trans X2
  have HK2 := Lib.hid (HK1.out.ext X2)
  have HV2 := Lib.hid V2
  clear V2 HK1 X1
  go_wp2_with fail
  refine (CR.out _ Y2).mono ?_
  rintro e w3 ⟨rfl, X3⟩
  have Y3 := Y2.trans X3
  go_wp2_with fail
  refine (CT.out _ Y3).mono ?_
  rintro e w4 ⟨tv, rfl, T4, X4⟩
  have HY4 := Lib.hid (Y3.trans X4)
  have HK4 := Lib.hid (HK2.out.ext (X3.trans X4))
  have HV4 := Lib.hid (HV2.out.ext (X3.trans X4))
  obtain ⟨ta, tcap, rfl, htr⟩ := T4
  have HT4 : Hid (TbV w4 (.slice ta ls.length tcap) m ls) := Lib.hid ⟨ta, tcap, rfl, htr⟩
  clear htr Y2 Y3 X2 X3 X4 HK2 HV2 C1 C2 CT CR
  go_upto_region 9 with (fail)
  go_cut [8, 9] (fun a b wx => TwoRows w4 wx m ls a b)
  case first =>
    go_region
    all_goals (go_wp2_with fail; go_meet)
    all_goals first
      | exact (fresh_rows _ _ _).1
      | exact (fresh_rows _ _ _).2
  case rest =>
  obtain ⟨r1, r2, hne, rfl, rfl, V1, V2, g1, g2, X5⟩ := hcut
  have HV1 := Lib.hid V1
  have HV2 := Lib.hid V2
  have HX5 := Lib.hid X5
  clear V1 V2 X5 hmk
  go_wp2
  go_loopw [10] (fun x wr => ∃ k : Nat, k ≤ ls.length ∧ x = .int .i64 k ∧ VA m wr r1 (svx ls false k) ∧ VA m wr r2 (svx ls true k) ∧ Ext w4 wr) (fun x _ => ls.length - (intOf x).toNat)
  case atStart => exact ⟨0, Nat.zero_le _, rfl, HV1.out, HV2.out, HX5.out⟩
  case round =>
    obtain ⟨k, hk, rfl, hV1, hV2, hx⟩ := hrel
    by_cases hlt : k < ls.length
    case pos =>
      have hkL : (k : Int) < (ls.length : Int) := by omega
      have hX := HY4.out.trans hx
      obtain ⟨b, off, ea, q0, q1, _⟩ := HA.out.at hX hlt
      subst ea
      rw [A_at hlt] at q0 q1
      obtain ⟨t0, t1⟩ := HR.out.t hlt
      obtain ⟨tn, htn⟩ : ∃ tn : Nat, (A ls k).t = tn := ⟨(A ls k).t.toNat, by omega⟩
      have htnn : tn < m := by omega
      have htnI : (tn : Int) < (m : Int) := by omega
      obtain ⟨b2, o2, ui, ea, qk, Ii⟩ := HK4.out.at hx (i := k) (by rw [ck_len]; exact hlt)
      subst ea
      rw [ck_get m ls k _ hlt] at Ii
      have hcl := (cl_ok HR.out k hlt).len
      have CCL := Lib.hid (fun w' (hx' : Ext wr w') => rClock m _ _ ls k w' (HA.out.ext (hX.trans hx')) (by have := HT4.out; obtain ⟨x1, x2, x3, x4⟩ := this; exact ⟨x1, x2, x3, fun h0 => by obtain ⟨y1, y2, y3, y4⟩ := x4 h0; exact ⟨y1, y2, y3, fun w'' hx'' => y4 w'' ((hx.trans hx').trans hx'')⟩⟩) HR.out hlt)
      have CSM := Lib.hid (fun v' w' (hx' : Ext wr w') (hv : IntsV w' v' (cl m ls k)) => same5 ui v' (cl m ls k) w' (Ii.ext hx') hv (by omega))
      have CP := Lib.hid (fun w => rPlain (A ls k).k w)
      have HX := Lib.hid hx
      have HV1 := Lib.hid hV1
      have HV2 := Lib.hid hV2
      have b1 := sC_le ls false tn k
      have b2 := sC_le ls true tn k
      rw [htn] at q0
      have FK := fun w' (hx : Ext wr w') => hx.cell qk
      clear hx hX hV1 hV2 t0 t1 Ii hcl
      go_upto_region 13 with (fail)
      refine wp_region_held_drew (S := fun w' => Ext wr w') (by kernel_rfl) ?hbeg (fun hHeld => ?_)
      case hbeg => exact (Ext.refl wr).drew
      have hHeld0 : Ext wr wr := by first | exact Ext.refl _ | assumption
      first
        | (refine take_at (i := 0) (v := ?_) rfl rfl (by kernel_rfl) (by kernel_rfl) (by kernel_rfl) (fun _ _ _ h => h) (Or.inl ⟨by rfl, ?hy⟩) (by assumption) ?_
           case hy => (intro wz hSw; (try dsimp only at hSw); go_simp <;> with_reducible rfl)
           simp only [List.setIfInBounds_toArray, List.set_cons_zero, List.set_cons_succ])
        | (refine take_at (i := 0) (v := undef) rfl rfl (by kernel_rfl) (by kernel_rfl) (by kernel_rfl) (fun _ _ _ h => h) (Or.inr ⟨by rfl, rfl⟩) (by assumption) ?_
           simp only [List.setIfInBounds_toArray, List.set_cons_zero, List.set_cons_succ])
      first
        | (refine take_at (i := 1) (v := ?_) rfl rfl (by kernel_rfl) (by kernel_rfl) (by kernel_rfl) (fun _ _ _ h => h) (Or.inl ⟨by rfl, ?hy⟩) (by assumption) ?_
           case hy => (intro wz hSw; (try dsimp only at hSw); go_simp <;> with_reducible rfl)
           simp only [List.setIfInBounds_toArray, List.set_cons_zero, List.set_cons_succ])
        | (refine take_at (i := 1) (v := undef) rfl rfl (by kernel_rfl) (by kernel_rfl) (by kernel_rfl) (fun _ _ _ h => h) (Or.inr ⟨by rfl, rfl⟩) (by assumption) ?_
           simp only [List.setIfInBounds_toArray, List.set_cons_zero, List.set_cons_succ])
      first
        | (refine take_at (i := 2) (v := ?_) rfl rfl (by kernel_rfl) (by kernel_rfl) (by kernel_rfl) (fun _ _ _ h => h) (Or.inl ⟨by rfl, ?hy⟩) (by assumption) ?_
           case hy => (intro wz hSw; (try dsimp only at hSw); go_simp <;> with_reducible rfl)
           simp only [List.setIfInBounds_toArray, List.set_cons_zero, List.set_cons_succ])
        | (refine take_at (i := 2) (v := undef) rfl rfl (by kernel_rfl) (by kernel_rfl) (by kernel_rfl) (fun _ _ _ h => h) (Or.inr ⟨by rfl, rfl⟩) (by assumption) ?_
           simp only [List.setIfInBounds_toArray, List.set_cons_zero, List.set_cons_succ])
      first
        | (refine take_at (i := 3) (v := ?_) rfl rfl (by kernel_rfl) (by kernel_rfl) (by kernel_rfl) (fun _ _ _ h => h) (Or.inl ⟨by rfl, ?hy⟩) (by assumption) ?_
           case hy => (intro wz hSw; (try dsimp only at hSw); go_simp <;> with_reducible rfl)
           simp only [List.setIfInBounds_toArray, List.set_cons_zero, List.set_cons_succ])
        | (refine take_at (i := 3) (v := undef) rfl rfl (by kernel_rfl) (by kernel_rfl) (by kernel_rfl) (fun _ _ _ h => h) (Or.inr ⟨by rfl, rfl⟩) (by assumption) ?_
           simp only [List.setIfInBounds_toArray, List.set_cons_zero, List.set_cons_succ])
      first
        | (refine take_at (i := 4) (v := ?_) rfl rfl (by kernel_rfl) (by kernel_rfl) (by kernel_rfl) (fun _ _ _ h => h) (Or.inl ⟨by rfl, ?hy⟩) (by assumption) ?_
           case hy => (intro wz hSw; (try dsimp only at hSw); go_simp <;> with_reducible rfl)
           simp only [List.setIfInBounds_toArray, List.set_cons_zero, List.set_cons_succ])
        | (refine take_at (i := 4) (v := undef) rfl rfl (by kernel_rfl) (by kernel_rfl) (by kernel_rfl) (fun _ _ _ h => h) (Or.inr ⟨by rfl, rfl⟩) (by assumption) ?_
           simp only [List.setIfInBounds_toArray, List.set_cons_zero, List.set_cons_succ])
      first
        | (refine take_at (i := 5) (v := ?_) rfl rfl (by kernel_rfl) (by kernel_rfl) (by kernel_rfl) (fun _ _ _ h => h) (Or.inl ⟨by rfl, ?hy⟩) (by assumption) ?_
           case hy => (intro wz hSw; (try dsimp only at hSw); go_simp <;> with_reducible rfl)
           simp only [List.setIfInBounds_toArray, List.set_cons_zero, List.set_cons_succ])
        | (refine take_at (i := 5) (v := undef) rfl rfl (by kernel_rfl) (by kernel_rfl) (by kernel_rfl) (fun _ _ _ h => h) (Or.inr ⟨by rfl, rfl⟩) (by assumption) ?_
           simp only [List.setIfInBounds_toArray, List.set_cons_zero, List.set_cons_succ])
      first
        | (refine take_at (i := 6) (v := ?_) rfl rfl (by kernel_rfl) (by kernel_rfl) (by kernel_rfl) (fun _ _ _ h => h) (Or.inl ⟨by rfl, ?hy⟩) (by assumption) ?_
           case hy => (intro wz hSw; (try dsimp only at hSw); go_simp <;> with_reducible rfl)
           simp only [List.setIfInBounds_toArray, List.set_cons_zero, List.set_cons_succ])
        | (refine take_at (i := 6) (v := undef) rfl rfl (by kernel_rfl) (by kernel_rfl) (by kernel_rfl) (fun _ _ _ h => h) (Or.inr ⟨by rfl, rfl⟩) (by assumption) ?_
           simp only [List.setIfInBounds_toArray, List.set_cons_zero, List.set_cons_succ])
      first
        | (refine take_at (i := 7) (v := ?_) rfl rfl (by kernel_rfl) (by kernel_rfl) (by kernel_rfl) (fun _ _ _ h => h) (Or.inl ⟨by rfl, ?hy⟩) (by assumption) ?_
           case hy => (intro wz hSw; (try dsimp only at hSw); go_simp <;> with_reducible rfl)
           simp only [List.setIfInBounds_toArray, List.set_cons_zero, List.set_cons_succ])
        | (refine take_at (i := 7) (v := undef) rfl rfl (by kernel_rfl) (by kernel_rfl) (by kernel_rfl) (fun _ _ _ h => h) (Or.inr ⟨by rfl, rfl⟩) (by assumption) ?_
           simp only [List.setIfInBounds_toArray, List.set_cons_zero, List.set_cons_succ])
      refine call_at (i := 8) (F := 22) (CCL.out _ hHeld) rfl rfl (by kernel_rfl) (by rfl) (by first | rfl | (go_simp <;> rfl)) ?_
      rintro e wqa ⟨va, rfl, Iqa, Xqa⟩
      have Yqa := Ext.trans hHeld Xqa
      refine ⟨_, rfl, Yqa, wpAnyH_strong (S' := fun w' => Ext wqa w') (fun w' h => Ext.trans Yqa h) _ _ _ _ ?_⟩
      simp only [List.setIfInBounds_toArray, List.set_cons_zero, List.set_cons_succ]
      clear hHeld Xqa
      have hHeld := Ext.refl wqa
      refine call_at (i := 9) (F := 21) (CSM.out va _ Yqa Iqa) rfl rfl (by kernel_rfl) (by rfl) (by first | rfl | (go_simp <;> rfl)) ?_
      rintro e wqb ⟨rfl, Xqb⟩
      refine ⟨_, rfl, Xqb, ?_⟩
      simp only [List.setIfInBounds_toArray, List.set_cons_zero, List.set_cons_succ]
      clear hHeld
      have hHeld := Xqb
      first
        | (refine take_at (i := 10) (v := ?_) rfl rfl (by kernel_rfl) (by kernel_rfl) (by kernel_rfl) (fun _ _ _ h => h) (Or.inl ⟨by rfl, ?hy⟩) (by assumption) ?_
           case hy => (intro wz hSw; (try dsimp only at hSw); go_simp <;> with_reducible rfl)
           simp only [List.setIfInBounds_toArray, List.set_cons_zero, List.set_cons_succ])
        | (refine take_at (i := 10) (v := undef) rfl rfl (by kernel_rfl) (by kernel_rfl) (by kernel_rfl) (fun _ _ _ h => h) (Or.inr ⟨by rfl, rfl⟩) (by assumption) ?_
           simp only [List.setIfInBounds_toArray, List.set_cons_zero, List.set_cons_succ])
      refine wpAnyH_done (by kernel_rfl) ?_ _
      have Yb := Yqa.trans Xqb
      replace q0 := Yb.cell q0
      replace q1 := Yb.cell q1
      have HVB1 := Lib.hid (HV1.out.ext Yb)
      have HVB2 := Lib.hid (HV2.out.ext Yb)
      have HXB := Lib.hid (HX.out.trans Yb)
      clear Yqa Xqb hHeld Yb Iqa FK CCL CSM HV1 HV2 qk
      cases hp : plB (A ls k).k
      case false =>
        rw [hp] at CP
        have qc := HVB1.out.c tn htnn
        have zc := HVB1.out.z tn htnn
        unfold svx at qc
        have HS := Lib.hid (svx_step HVB1.out htn htnn hp (z := (sC ls false tn k : Int) + 1) rfl)
        have HO := Lib.hid ((svx_same HVB2.out (by rw [hp]; decide)).but (but_setCell wqb ⟨r1, tn, none⟩ (.int .i64 ((sC ls false tn k : Int) + 1))) hne.symm)
        have HXS := Lib.hid (HXB.out.setCell (p := ⟨r1, tn, none⟩) g1 (.int .i64 ((sC ls false tn k : Int) + 1)))
        clear hp htn HVB1 HVB2
        generalize (sC ls false tn k) = z at *
        generalize A ls k = xa at *
        go_wp2_with fail
        refine (CP.out _).mono ?_
        rintro e w' ⟨rfl, rfl⟩
        go_wp2
        exact ⟨⟨k + 1, by omega, by go_num, HS.out, HO.out, HXS.out⟩, by simp [intOf]; omega⟩
      rw [hp] at CP
      have qc := HVB2.out.c tn htnn
      have zc := HVB2.out.z tn htnn
      unfold svx at qc
      have HS := Lib.hid (svx_step HVB2.out htn htnn hp (z := (sC ls true tn k : Int) + 1) rfl)
      have HO := Lib.hid ((svx_same HVB1.out (by rw [hp]; decide)).but (but_setCell wqb ⟨r2, tn, none⟩ (.int .i64 ((sC ls true tn k : Int) + 1))) hne)
      have HXS := Lib.hid (HXB.out.setCell (p := ⟨r2, tn, none⟩) g2 (.int .i64 ((sC ls true tn k : Int) + 1)))
      clear hp htn HVB1 HVB2
      generalize (sC ls true tn k) = z at *
      generalize A ls k = xa at *
      go_wp2_with fail
      refine (CP.out _).mono ?_
      rintro e w' ⟨rfl, rfl⟩
      go_wp2
      exact ⟨⟨k + 1, by omega, by go_num, HO.out, HS.out, HXS.out⟩, by simp [intOf]; omega⟩
    obtain rfl : k = ls.length := by omega
    have HV1 := Lib.hid hV1
    have HV2 := Lib.hid hV2
    have HX := Lib.hid hx
    clear hV1 hV2 hx
    obtain ⟨wo, hwo⟩ : ∃ wo, wo = wr := ⟨_, rfl⟩
    subst hwo
    go_wp2
    go_loopw [11] (fun x wr => ∃ k : Nat, k ≤ m ∧ x = .int .i64 k ∧ Ext wo wr) (fun x _ => m - (intOf x).toNat)
    case atStart => exact ⟨0, Nat.zero_le _, rfl, Ext.refl _⟩
    case round =>
      obtain ⟨k, hk, rfl, hx⟩ := hrel
      by_cases hkm : k < m
      case neg =>
        obtain rfl : k = m := by omega
        have HXF := Lib.hid ((HY4.out.trans HX.out).trans hx)
        clear hx
        go_wp2_with fail
        refine (CV.out _).mono ?_
        rintro e w7 ⟨rfl, X7⟩
        go_wp2
        go_ret
        exact ⟨rfl, (HXF.out.trans X7).below⟩
      have hkI : (k : Int) < (m : Int) := by omega
      have b1 := sC_le ls false k ls.length
      have b2 := sC_le ls true k ls.length
      have CF := Lib.hid (fun w => first_yes (F (sC ls false k ls.length)) (F (sC ls true k ls.length)) _ _ w (cnt_F (z := sC ls false k ls.length) (by omega) (by omega)) (cnt_F (z := sC ls true k ls.length) (by omega) (by omega)))
      have CS := Lib.hid (fun w => second_yes (F (sC ls false k ls.length)) (F (sC ls true k ls.length)) _ _ w (cnt_F (z := sC ls false k ls.length) (by omega) (by omega)) (cnt_F (z := sC ls true k ls.length) (by omega) (by omega)))
      have qc_0 := hx.cell (HX.out.cell (HV4.out.c k hkm))
      have qa_0 := hx.cell (HV1.out.c k hkm)
      have qb_0 := hx.cell (HV2.out.c k hkm)
      unfold cvx at qc_0
      unfold svx at qa_0 qb_0
      have HXK := Lib.hid hx
      clear hx
      generalize F (sC ls false k ls.length) = fx at *
      generalize F (sC ls true k ls.length) = fy at *
      generalize ((sC ls false k ls.length : Nat) : Int) = zx at *
      generalize ((sC ls true k ls.length : Nat) : Int) = zy at *
      have e1 : (zx != zx) = false := by simp
      have e2 : (zy != zy) = false := by simp
      go_upto_region 21 with (fail)
      refine wp_region_later (by kernel_rfl) (by kernel_rfl) ?_
      have la_0 := fun (g : Later wr) => g.ok.cell qa_0
      have lb_0 := fun (g : Later wr) => g.ok.cell qb_0
      have lc_0 := fun (g : Later wr) => g.ok.cell qc_0
      repeat (go_big_quiet_step ((fail)))
      go_big_quiet_step ((go_at_call 24; exact laterS (CF.out _)))
      repeat (go_big_quiet_step ((fail)))
      go_big_quiet_step ((go_at_call 25; exact laterS (CS.out _)))
      repeat (go_big_quiet_step ((fail)))
      refine wpQuiet_nil ?_
      intro w1 hl1
      have hb1 := laters_ext hl1
      clear hl1 la_0 lb_0 lc_0
      have hx1 : Ext wr w1 := by repeat (first | with_reducible exact Ext.refl _ | with_reducible assumption | with_reducible refine Ext.alloc ?_ _ | with_reducible refine Ext.drew ?_ | with_reducible refine Ext.drewN ?_ _ | with_reducible refine Ext.setCell ?_ (by simp <;> omega) _ | with_reducible refine Ext.trans ?_ (by assumption))
      replace qa_0 := hx1.cell qa_0
      replace qb_0 := hx1.cell qb_0
      replace qc_0 := hx1.cell qc_0
      clear hx1
      go_wp2
      exact ⟨⟨k + 1, by omega, by go_num, HXK.out.trans (by repeat (first | with_reducible exact Ext.refl _ | with_reducible assumption | with_reducible refine Ext.alloc ?_ _ | with_reducible refine Ext.drew ?_ | with_reducible refine Ext.drewN ?_ _ | with_reducible refine Ext.setCell ?_ (by simp <;> omega) _ | with_reducible refine Ext.trans ?_ (by assumption)))⟩, by simp [intOf]; omega⟩
end Go.Proofs.Ytoaifbengichbaa
