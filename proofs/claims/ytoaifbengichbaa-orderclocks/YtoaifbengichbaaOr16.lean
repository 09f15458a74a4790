/- order.Counts; the document's Clock. -/
import Derived.Test.YtoaifbengichbaaOr13
import Derived.Test.YtoaifbengichbaaPairSum
import Derived.Test.YtoaifbengichbaaEvS
namespace Go.Proofs.Ytoaifbengichbaa
open Go.RowKit
set_option linter.unusedVariables false
set_option linter.unusedSimpArgs false
set_option maxHeartbeats 4000000
attribute [local go_sem] later_cell later_frozen later_const
theorem run_store_complex {P : Program} {w : World} {a : Addr} {m : Mode} (k : FloatKind) (x y : Nat) : (store a (.complex k x y) m).run P w = stored P w a (.complex k x y) m := run_store P w a _ m rfl
attribute [local go_sem] run_store_complex
/-- how many of thread u's accesses are plain (atomic) among the first m -/
def sC (ls : List Acc) (p : Bool) (u : Int) : Nat → Nat
  | 0 => 0
  | m + 1 => sC ls p u m + (if (A ls m).t = u ∧ plB (A ls m).k = p then 1 else 0)
theorem sC_succ (ls : List Acc) (p : Bool) (u : Int) (m : Nat) : sC ls p u (m + 1) = sC ls p u m + (if (A ls m).t = u ∧ plB (A ls m).k = p then 1 else 0) := rfl
theorem sC_le (ls : List Acc) (p : Bool) (u : Int) : ∀ m, sC ls p u m ≤ m
  | 0 => Nat.le_refl _
  | m + 1 => by
    have := sC_le ls p u m
    unfold sC
    split <;> omega
def cvx (ls : List Acc) (m : Nat) (u : Nat) : Value := .complex .f64 (F (sC ls false u m)) (F (sC ls true u m))
theorem info_cplx : (Try.prog.info? 43).map (fun i => (i.zero, i.size, i.bytes)) = some (some (.complex .f64 0 0), 1, 16) := by kernel_rfl
theorem pairs_new (w : World) (g : Nat) (hg : g = w.heap.size) (x y u v : Nat) (a b c d : Int) (hx : Cnt x a) (hy : Cnt y b) (hu : Cnt u c) (hv : Cnt v d) : PairsAt (w.alloc (.cells #[.complex .f64 x y, .complex .f64 u v] 43)) (.slice (some ⟨g, 0, none⟩) 2 2) [(a, b), (c, d)] := by
  subst hg
  refine .inr ⟨w.heap.size, 0, 2, rfl, fun j hj => ?_⟩
  match j, hj with
  | 0, _ => exact ⟨x, y, (cellH (j := 0) (new_block w _) rfl).1, hx, hy⟩
  | 1, _ => exact ⟨u, v, (cellH (j := 1) (new_block w _) rfl).1, hu, hv⟩
theorem way2 {a b c d : Int} (h : 0 ≤ a ∧ a ≤ 1000 ∧ 0 ≤ b ∧ b ≤ 1000 ∧ 0 ≤ c ∧ c ≤ 1 ∧ 0 ≤ d ∧ d ≤ 1) : Way [(a, b), (c, d)] := by
  intro k hk
  simp only [inB_iff]
  match k, hk with
  | 0, _ => simp [sumA, sumB]
  | 1, _ => simp [sumA, sumB]; omega
  | 2, _ => simp [sumA, sumB]; omega
def ODC (w : World) (n : Nat) (ls : List Acc) (e : Ending) (w' : World) : Prop := ∃ r, e = .returned (.slice (some ⟨r, 0, none⟩) n n) ∧ VA n w' r (cvx ls ls.length) ∧ Ext w w'
theorem oCounts_no (n : Int) (v : Value) (ls : List Acc) (w : World) (h : AccV w v ls) (hr : rightL n ls = false) : Calls Try.prog 18 #[.int .i64 n, v] w fun e w' => e = .returned (.slice none 0 0) ∧ Ext w w' := by
  have C := oRight n v ls w h
  rw [hr] at C
  obtain ⟨a, cap, rfl, hc, hm⟩ := h.form
  have HC := Lib.hid C
  clear C h
  go_enter Try.func18, Try.ntmps18
  go_wp2_with fail
  refine HC.out.mono ?_
  rintro e w1 ⟨rfl, X1⟩
  go_wp2
  go_ret
  exact ⟨rfl, X1⟩
theorem cvx_step {ls : List Acc} {n k tn : Nat} {w : World} {r : Nat} (h : VA n w r (cvx ls k)) (ht : (A ls k).t = tn) (htn : tn < n) {x y : Nat} (hx : x = F (sC ls false tn (k + 1))) (hy : y = F (sC ls true tn (k + 1))) :
    VA n (w.setCell ⟨r, tn, none⟩ (.complex .f64 x y)) r (cvx ls (k + 1)) := by
  refine (va_set h _ htn).congr fun u hu => ?_
  by_cases e : u = tn
  · subst e
    rw [if_pos rfl, hx, hy]
    rfl
  · rw [if_neg e]
    unfold cvx
    have : ¬ ((tn : Int) = (u : Int)) := by omega
    rw [sC_succ, sC_succ]
    simp [ht, this]
set_option maxRecDepth 100000 in
theorem oCounts_yes (n : Nat) (v : Value) (ls : List Acc) (w : World) (hA : AccV w v ls) (R : RL n ls) : Calls Try.prog 18 #[.int .i64 n, v] w (ODC w n ls) := by
  have C := oRight n v ls w hA
  rw [R.right] at C
  obtain ⟨a, cap, rfl, hcap, hmax⟩ := hA.form
  have hL := R.l
  have n1 := R.n1
  have n2 := R.n2
  have HC := Lib.hid C
  have HR := Lib.hid R
  have HA := Lib.hid hA
  have HG : Hid (∀ (W : World) (r : Nat), VA n W r (cvx ls ls.length) → Ext w W → ODC w n ls (.returned (.slice (some ⟨r, 0, none⟩) n n)) W) := Lib.hid (fun W r hV hX => ⟨r, rfl, hV, hX⟩)
  generalize ODC w n ls = G at *
  clear C hA R
  have hmk := fun W => run_make_row' (P := Try.prog) 35 43 (.complex .f64 0 0) 16 Try.underlying35 info_cplx rfl .i64 .i64 n (by omega) (by omega) W
  go_enter Try.func18, Try.ntmps18
  go_wp2_with fail
  refine HC.out.mono ?_
  rintro e w1 ⟨rfl, X1⟩
  have V1 := va_new (n := n) w1 43 (madeCells #[.complex .f64 0 0] n) (fun _ => .complex .f64 0 0) (made_vl _ rfl n)
  have HV1 : Hid (VA n (w1.alloc (.cells (madeCells #[.complex .f64 0 0] n) 43)) w1.heap.size (cvx ls 0)) := Lib.hid (V1.congr fun u _ => rfl)
  have HX1 := Lib.hid (X1.alloc (.cells (madeCells #[.complex .f64 0 0] n) 43))
  have hrw : w.heap.size ≤ w1.heap.size := X1.size
  clear V1 X1 HC
  go_wp2
  clear hmk
  generalize w1.alloc (.cells (madeCells #[.complex .f64 0 0] n) 43) = w2 at *
  generalize w1.heap.size = r at *
  go_loopw [17] (fun x wr => ∃ k : Nat, k ≤ ls.length ∧ x = .int .i64 k ∧ VA n wr r (cvx ls k) ∧ Ext w wr) (fun x _ => ls.length - (intOf x).toNat)
  case atStart => exact ⟨0, Nat.zero_le _, rfl, HV1.out, HX1.out⟩
  case round =>
    obtain ⟨k, hk, rfl, hV, hx⟩ := hrel
    by_cases hlt : k < ls.length
    case neg =>
      obtain rfl : k = ls.length := by omega
      have HF := Lib.hid (HG.out _ _ hV hx)
      clear hV hx
      go_wp2
      first
        | exact HF.out
        | (go_ret; exact HF.out)
        | (go_ret2; exact HF.out)
    have hkl : (k : Int) < (ls.length : Int) := by omega
    obtain ⟨b, off, ea, c0, c1, c2, c3, c4⟩ := HA.out.at hx hlt
    subst ea
    rw [A_at hlt] at c0 c1 c2 c3 c4
    obtain ⟨t0, t1⟩ := HR.out.t hlt
    obtain ⟨tn, htn⟩ : ∃ tn : Nat, (A ls k).t = tn := ⟨(A ls k).t.toNat, by omega⟩
    have htnn : tn < n := by omega
    have htnI : (tn : Int) < (n : Int) := by omega
    have b1 := sC_le ls false tn k
    have b2 := sC_le ls true tn k
    have CP := Lib.hid (fun w => oPlain (A ls k).k w)
    have hrlt := World.block_lt_of_cell? _ ⟨r, tn, none⟩ (hV.c tn htnn)
    have HV := Lib.hid hV
    have HX := Lib.hid hx
    rw [htn] at c0 t0 t1
    have hf1 : Cnt (F (sC ls false tn k)) (sC ls false tn k) := cnt_F (by omega) (by omega)
    have hf2 : Cnt (F (sC ls true tn k)) (sC ls true tn k) := cnt_F (by omega) (by omega)
    have HF1 := Lib.hid hf1
    have HF2 := Lib.hid hf2
    clear hV hx hf1 hf2
    cases hp : plB (A ls k).k
    case false =>
      rw [hp] at CP
      have es1 : sC ls false tn (k + 1) = sC ls false tn k + 1 := by rw [sC_succ, htn, hp]; simp
      have es2 : sC ls true tn (k + 1) = sC ls true tn k + 0 := by rw [sC_succ, htn, hp]; simp
      have HST := Lib.hid (fun w' (h : VA n w' r (cvx ls k)) => cvx_step h htn htnn (x := F (sumA [((sC ls false tn k : Int), (sC ls true tn k : Int)), (1, 0)])) (y := F (sumB [((sC ls false tn k : Int), (sC ls true tn k : Int)), (1, 0)])) (congrArg F (by rw [es1]; simp [sumA])) (congrArg F (by rw [es2]; simp [sumB])))
      have CSM := Lib.hid (fun w' g hg => sum_yes _ _ _ (pairs_new w' g hg _ _ (F 1) (F 0) _ _ _ _ HF1.out HF2.out (cnt_F (z := 1) (by decide) (by decide)) (cnt_F (z := 0) (by decide) (by decide))) (by simp) (way2 (by omega)))
      generalize F (sumA [((sC ls false tn k : Int), (sC ls true tn k : Int)), (1, 0)]) = fx at *
      generalize F (sumB [((sC ls false tn k : Int), (sC ls true tn k : Int)), (1, 0)]) = fy at *
      have HQ : Hid (∀ w', VA n w' r (cvx ls k) → w'.cell? ⟨r, tn, none⟩ = some (.complex .f64 (F (sC ls false tn k)) (F (sC ls true tn k)))) := Lib.hid (fun w' h => h.c tn htnn)
      generalize F (sC ls false tn k) = f1 at *
      generalize F (sC ls true tn k) = f2 at *
      clear es1 es2 b1 b2 HF1 HF2 hp htn
      generalize A ls k = xa at *
      have CO1 := Lib.hid (fun w => of_yes 1 0 w (by decide) (by decide) (by decide) (by decide))
      generalize F 1 = F1 at *
      generalize F 0 = F0 at *
      go_wp2_with fail
      refine (CO1.out _).mono ?_
      rintro e w' ⟨rfl, rfl⟩
      go_wp2_with fail
      refine (CP.out _).mono ?_
      rintro e w' ⟨rfl, rfl⟩
      go_upto_region 10 with (fail)
      refine settle_wp ?_
      intro wA hbA
      have XA : Ext wr wA := Ext.trans (by repeat (first | with_reducible exact Ext.refl _ | with_reducible assumption | with_reducible refine Ext.alloc ?_ _ | with_reducible refine Ext.drew ?_ | with_reducible refine Ext.drewN ?_ _ | with_reducible refine Ext.setCell ?_ (by simp <;> omega) _ | with_reducible refine Ext.trans ?_ (by assumption))) hbA
      have qa_0 : wA.cell? ⟨wr.heap.size, 0, none⟩ = some (.int .i64 tn) := hbA.cell (by simp [go_sem])
      have HVA := Lib.hid (HV.out.ext XA)
      have HXA := Lib.hid (HX.out.trans XA)
      have qc := HQ.out wA HVA.out
      have hne : r ≠ wr.heap.size := by omega
      clear hbA XA c0 c1 c2 c3 c4 HQ
      refine wp_region_D (fun i => decide (i ≤ 10)) (by kernel_rfl) ?_
      refine take_D (i := 0) (v := ?_) rfl rfl rfl (by kernel_rfl) (by kernel_rfl) (by kernel_rfl) (by kernel_rfl) (by kernel_rfl) ((Ext.refl wA).drew) ?hy0 ?_
      case hy0 => intro wz hSw; (have qz_0 := hSw.cell qa_0); (have qz_1 := hSw.cell qc); (clear hSw); go_simp <;> with_reducible rfl
      simp only [List.setIfInBounds_toArray, List.set_cons_zero, List.set_cons_succ]
      refine take_D (i := 1) (v := ?_) rfl rfl rfl (by kernel_rfl) (by kernel_rfl) (by kernel_rfl) (by kernel_rfl) (by kernel_rfl) ((Ext.refl wA).drew) ?hy1 ?_
      case hy1 => intro wz hSw; (have qz_0 := hSw.cell qa_0); (have qz_1 := hSw.cell qc); (clear hSw); go_simp <;> with_reducible rfl
      simp only [List.setIfInBounds_toArray, List.set_cons_zero, List.set_cons_succ]
      refine take_D (i := 2) (v := ?_) rfl rfl rfl (by kernel_rfl) (by kernel_rfl) (by kernel_rfl) (by kernel_rfl) (by kernel_rfl) ((Ext.refl wA).drew) ?hy2 ?_
      case hy2 => intro wz hSw; (have qz_0 := hSw.cell qa_0); (have qz_1 := hSw.cell qc); (clear hSw); go_simp <;> with_reducible rfl
      simp only [List.setIfInBounds_toArray, List.set_cons_zero, List.set_cons_succ]
      refine take_D (i := 3) (v := ?_) rfl rfl rfl (by kernel_rfl) (by kernel_rfl) (by kernel_rfl) (by kernel_rfl) (by kernel_rfl) ((Ext.refl wA).drew) ?hy3 ?_
      case hy3 => intro wz hSw; (have qz_0 := hSw.cell qa_0); (have qz_1 := hSw.cell qc); (clear hSw); go_simp <;> with_reducible rfl
      simp only [List.setIfInBounds_toArray, List.set_cons_zero, List.set_cons_succ]
      refine take_D (i := 4) (v := ?_) rfl rfl rfl (by kernel_rfl) (by kernel_rfl) (by kernel_rfl) (by kernel_rfl) (by kernel_rfl) ((Ext.refl wA).drew) ?hy4 ?_
      case hy4 => intro wz hSw; (have qz_0 := hSw.cell qa_0); (have qz_1 := hSw.cell qc); (clear hSw); go_simp <;> with_reducible rfl
      simp only [List.setIfInBounds_toArray, List.set_cons_zero, List.set_cons_succ]
      refine take_D (i := 5) (v := ?_) rfl rfl rfl (by kernel_rfl) (by kernel_rfl) (by kernel_rfl) (by kernel_rfl) (by kernel_rfl) ((Ext.refl wA).drew) ?hy5 ?_
      case hy5 => intro wz hSw; (have qz_0 := hSw.cell qa_0); (have qz_1 := hSw.cell qc); (clear hSw); go_simp <;> with_reducible rfl
      simp only [List.setIfInBounds_toArray, List.set_cons_zero, List.set_cons_succ]
      refine take_D (i := 6) (v := ?_) rfl rfl rfl (by kernel_rfl) (by kernel_rfl) (by kernel_rfl) (by kernel_rfl) (by kernel_rfl) ((Ext.refl wA).drew) ?hy6 ?_
      case hy6 => intro wz hSw; (have qz_0 := hSw.cell qa_0); (have qz_1 := hSw.cell qc); (clear hSw); go_simp <;> with_reducible rfl
      simp only [List.setIfInBounds_toArray, List.set_cons_zero, List.set_cons_succ]
      refine take_D (i := 7) (v := ?_) rfl rfl rfl (by kernel_rfl) (by kernel_rfl) (by kernel_rfl) (by kernel_rfl) (by kernel_rfl) ((Ext.refl wA).drew) ?hy7 ?_
      case hy7 => intro wz hSw; (have qz_0 := hSw.cell qa_0); (have qz_1 := hSw.cell qc); (clear hSw); go_simp <;> with_reducible rfl
      simp only [List.setIfInBounds_toArray, List.set_cons_zero, List.set_cons_succ]
      refine take_D (i := 8) (v := ?_) rfl rfl rfl (by kernel_rfl) (by kernel_rfl) (by kernel_rfl) (by kernel_rfl) (by kernel_rfl) ((Ext.refl wA).drew) ?hy8 ?_
      case hy8 => intro wz hSw; (have qz_0 := hSw.cell qa_0); (have qz_1 := hSw.cell qc); (clear hSw); go_simp <;> with_reducible rfl
      simp only [List.setIfInBounds_toArray, List.set_cons_zero, List.set_cons_succ]
      refine step_D (i := 9) rfl (by kernel_rfl) ?_
      go_wp2
      refine ⟨((Ext.refl wA).drew).alloc _, ?_⟩
      have XN : Ext wA ((wA.alloc (.cells #[.complex .f64 f1 f2, .complex .f64 F1 F0] 43)).drew) := ((Ext.refl wA).alloc _).drew
      have CN : Hid (Calls Try.prog 39 #[.slice (some ⟨wA.heap.size, 0, none⟩) 2 2] ((wA.alloc (.cells #[.complex .f64 f1 f2, .complex .f64 F1 F0] 43)).drew) fun e w' => e = .returned (.complex .f64 fx fy) ∧ (wA.alloc (.cells #[.complex .f64 f1 f2, .complex .f64 F1 F0] 43)).drew = w') := Lib.hid (CSM.out wA.drew _ rfl)
      generalize (wA.alloc (.cells #[.complex .f64 f1 f2, .complex .f64 F1 F0] 43)).drew = wN at *
      have HVN := Lib.hid (HVA.out.ext XN)
      have HXN := Lib.hid (HXA.out.trans XN)
      have qd := HVN.out.c tn htnn
      have zd := HVN.out.z tn htnn
      unfold cvx at qd
      have HFIN := Lib.hid (HST.out _ HVN.out)
      have HXF := Lib.hid (HXN.out.setCell (p := ⟨r, tn, none⟩) hrw (.complex .f64 fx fy))
      clear qc qa_0
      refine step_D (i := 10) rfl (by kernel_rfl) ?_
      go_wp2_with fail
      refine CN.out.mono ?_
      rintro e w' ⟨rfl, rfl⟩
      go_wp2
      refine ⟨XN, ?_⟩
      refine last_D (n := 11) rfl rfl (fun j hj => by simp; omega) (by kernel_rfl) ?_
      go_wp2
      refine ⟨XN, ?_⟩
      clear XN
      go_wp2
      refine off_normal ?_
      go_wp2
      exact ⟨⟨k + 1, by omega, by go_num, HFIN.out, HXF.out⟩, by simp [intOf]; omega⟩
    rw [hp] at CP
    have es1 : sC ls false tn (k + 1) = sC ls false tn k + 0 := by rw [sC_succ, htn, hp]; simp
    have es2 : sC ls true tn (k + 1) = sC ls true tn k + 1 := by rw [sC_succ, htn, hp]; simp
    have HST := Lib.hid (fun w' (h : VA n w' r (cvx ls k)) => cvx_step h htn htnn (x := F (sumA [((sC ls false tn k : Int), (sC ls true tn k : Int)), (0, 1)])) (y := F (sumB [((sC ls false tn k : Int), (sC ls true tn k : Int)), (0, 1)])) (congrArg F (by rw [es1]; simp [sumA])) (congrArg F (by rw [es2]; simp [sumB])))
    have CSM := Lib.hid (fun w' g hg => sum_yes _ _ _ (pairs_new w' g hg _ _ (F 0) (F 1) _ _ _ _ HF1.out HF2.out (cnt_F (z := 0) (by decide) (by decide)) (cnt_F (z := 1) (by decide) (by decide))) (by simp) (way2 (by omega)))
    generalize F (sumA [((sC ls false tn k : Int), (sC ls true tn k : Int)), (0, 1)]) = fx at *
    generalize F (sumB [((sC ls false tn k : Int), (sC ls true tn k : Int)), (0, 1)]) = fy at *
    have HQ : Hid (∀ w', VA n w' r (cvx ls k) → w'.cell? ⟨r, tn, none⟩ = some (.complex .f64 (F (sC ls false tn k)) (F (sC ls true tn k)))) := Lib.hid (fun w' h => h.c tn htnn)
    generalize F (sC ls false tn k) = f1 at *
    generalize F (sC ls true tn k) = f2 at *
    clear es1 es2 b1 b2 HF1 HF2 hp htn
    generalize A ls k = xa at *
    have CO1 := Lib.hid (fun w => of_yes 1 0 w (by decide) (by decide) (by decide) (by decide))
    have CO2 := Lib.hid (fun w => of_yes 0 1 w (by decide) (by decide) (by decide) (by decide))
    generalize F 1 = F1 at *
    generalize F 0 = F0 at *
    go_wp2_with fail
    refine (CO1.out _).mono ?_
    rintro e w' ⟨rfl, rfl⟩
    go_wp2_with fail
    refine (CP.out _).mono ?_
    rintro e w' ⟨rfl, rfl⟩
    go_wp2_with fail
    refine (CO2.out _).mono ?_
    rintro e w' ⟨rfl, rfl⟩
    go_upto_region 10 with (fail)
    refine settle_wp ?_
    intro wA hbA
    have XA : Ext wr wA := Ext.trans (by repeat (first | with_reducible exact Ext.refl _ | with_reducible assumption | with_reducible refine Ext.alloc ?_ _ | with_reducible refine Ext.drew ?_ | with_reducible refine Ext.drewN ?_ _ | with_reducible refine Ext.setCell ?_ (by simp <;> omega) _ | with_reducible refine Ext.trans ?_ (by assumption))) hbA
    have qa_0 : wA.cell? ⟨wr.heap.size, 0, none⟩ = some (.int .i64 tn) := hbA.cell (by simp [go_sem])
    have HVA := Lib.hid (HV.out.ext XA)
    have HXA := Lib.hid (HX.out.trans XA)
    have qc := HQ.out wA HVA.out
    have hne : r ≠ wr.heap.size := by omega
    clear hbA XA c0 c1 c2 c3 c4 HQ
    refine wp_region_D (fun i => decide (i ≤ 10)) (by kernel_rfl) ?_
    refine take_D (i := 0) (v := ?_) rfl rfl rfl (by kernel_rfl) (by kernel_rfl) (by kernel_rfl) (by kernel_rfl) (by kernel_rfl) ((Ext.refl wA).drew) ?hy0 ?_
    case hy0 => intro wz hSw; (have qz_0 := hSw.cell qa_0); (have qz_1 := hSw.cell qc); (clear hSw); go_simp <;> with_reducible rfl
    simp only [List.setIfInBounds_toArray, List.set_cons_zero, List.set_cons_succ]
    refine take_D (i := 1) (v := ?_) rfl rfl rfl (by kernel_rfl) (by kernel_rfl) (by kernel_rfl) (by kernel_rfl) (by kernel_rfl) ((Ext.refl wA).drew) ?hy1 ?_
    case hy1 => intro wz hSw; (have qz_0 := hSw.cell qa_0); (have qz_1 := hSw.cell qc); (clear hSw); go_simp <;> with_reducible rfl
    simp only [List.setIfInBounds_toArray, List.set_cons_zero, List.set_cons_succ]
    refine take_D (i := 2) (v := ?_) rfl rfl rfl (by kernel_rfl) (by kernel_rfl) (by kernel_rfl) (by kernel_rfl) (by kernel_rfl) ((Ext.refl wA).drew) ?hy2 ?_
    case hy2 => intro wz hSw; (have qz_0 := hSw.cell qa_0); (have qz_1 := hSw.cell qc); (clear hSw); go_simp <;> with_reducible rfl
    simp only [List.setIfInBounds_toArray, List.set_cons_zero, List.set_cons_succ]
    refine take_D (i := 3) (v := ?_) rfl rfl rfl (by kernel_rfl) (by kernel_rfl) (by kernel_rfl) (by kernel_rfl) (by kernel_rfl) ((Ext.refl wA).drew) ?hy3 ?_
    case hy3 => intro wz hSw; (have qz_0 := hSw.cell qa_0); (have qz_1 := hSw.cell qc); (clear hSw); go_simp <;> with_reducible rfl
    simp only [List.setIfInBounds_toArray, List.set_cons_zero, List.set_cons_succ]
    refine take_D (i := 4) (v := ?_) rfl rfl rfl (by kernel_rfl) (by kernel_rfl) (by kernel_rfl) (by kernel_rfl) (by kernel_rfl) ((Ext.refl wA).drew) ?hy4 ?_
    case hy4 => intro wz hSw; (have qz_0 := hSw.cell qa_0); (have qz_1 := hSw.cell qc); (clear hSw); go_simp <;> with_reducible rfl
    simp only [List.setIfInBounds_toArray, List.set_cons_zero, List.set_cons_succ]
    refine take_D (i := 5) (v := ?_) rfl rfl rfl (by kernel_rfl) (by kernel_rfl) (by kernel_rfl) (by kernel_rfl) (by kernel_rfl) ((Ext.refl wA).drew) ?hy5 ?_
    case hy5 => intro wz hSw; (have qz_0 := hSw.cell qa_0); (have qz_1 := hSw.cell qc); (clear hSw); go_simp <;> with_reducible rfl
    simp only [List.setIfInBounds_toArray, List.set_cons_zero, List.set_cons_succ]
    refine take_D (i := 6) (v := ?_) rfl rfl rfl (by kernel_rfl) (by kernel_rfl) (by kernel_rfl) (by kernel_rfl) (by kernel_rfl) ((Ext.refl wA).drew) ?hy6 ?_
    case hy6 => intro wz hSw; (have qz_0 := hSw.cell qa_0); (have qz_1 := hSw.cell qc); (clear hSw); go_simp <;> with_reducible rfl
    simp only [List.setIfInBounds_toArray, List.set_cons_zero, List.set_cons_succ]
    refine take_D (i := 7) (v := ?_) rfl rfl rfl (by kernel_rfl) (by kernel_rfl) (by kernel_rfl) (by kernel_rfl) (by kernel_rfl) ((Ext.refl wA).drew) ?hy7 ?_
    case hy7 => intro wz hSw; (have qz_0 := hSw.cell qa_0); (have qz_1 := hSw.cell qc); (clear hSw); go_simp <;> with_reducible rfl
    simp only [List.setIfInBounds_toArray, List.set_cons_zero, List.set_cons_succ]
    refine take_D (i := 8) (v := ?_) rfl rfl rfl (by kernel_rfl) (by kernel_rfl) (by kernel_rfl) (by kernel_rfl) (by kernel_rfl) ((Ext.refl wA).drew) ?hy8 ?_
    case hy8 => intro wz hSw; (have qz_0 := hSw.cell qa_0); (have qz_1 := hSw.cell qc); (clear hSw); go_simp <;> with_reducible rfl
    simp only [List.setIfInBounds_toArray, List.set_cons_zero, List.set_cons_succ]
    refine step_D (i := 9) rfl (by kernel_rfl) ?_
    go_wp2
    refine ⟨((Ext.refl wA).drew).alloc _, ?_⟩
    have XN : Ext wA ((wA.alloc (.cells #[.complex .f64 f1 f2, .complex .f64 F0 F1] 43)).drew) := ((Ext.refl wA).alloc _).drew
    have CN : Hid (Calls Try.prog 39 #[.slice (some ⟨wA.heap.size, 0, none⟩) 2 2] ((wA.alloc (.cells #[.complex .f64 f1 f2, .complex .f64 F0 F1] 43)).drew) fun e w' => e = .returned (.complex .f64 fx fy) ∧ (wA.alloc (.cells #[.complex .f64 f1 f2, .complex .f64 F0 F1] 43)).drew = w') := Lib.hid (CSM.out wA.drew _ rfl)
    generalize (wA.alloc (.cells #[.complex .f64 f1 f2, .complex .f64 F0 F1] 43)).drew = wN at *
    have HVN := Lib.hid (HVA.out.ext XN)
    have HXN := Lib.hid (HXA.out.trans XN)
    have qd := HVN.out.c tn htnn
    have zd := HVN.out.z tn htnn
    unfold cvx at qd
    have HFIN := Lib.hid (HST.out _ HVN.out)
    have HXF := Lib.hid (HXN.out.setCell (p := ⟨r, tn, none⟩) hrw (.complex .f64 fx fy))
    clear qc qa_0
    refine step_D (i := 10) rfl (by kernel_rfl) ?_
    go_wp2_with fail
    refine CN.out.mono ?_
    rintro e w' ⟨rfl, rfl⟩
    go_wp2
    refine ⟨XN, ?_⟩
    refine last_D (n := 11) rfl rfl (fun j hj => by simp; omega) (by kernel_rfl) ?_
    go_wp2
    refine ⟨XN, ?_⟩
    clear XN
    go_wp2
    refine off_normal ?_
    go_wp2
    exact ⟨⟨k + 1, by omega, by go_num, HFIN.out, HXF.out⟩, by simp [intOf]; omega⟩
end Go.Proofs.Ytoaifbengichbaa
