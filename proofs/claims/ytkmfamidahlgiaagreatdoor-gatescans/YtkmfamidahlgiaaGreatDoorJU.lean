import Derived.Test.YtkmfamidahlgiaaGreatDoorJT
import Derived.Test.YtkmfamidahlgiaaGreatDoorJS
import Derived.Test.YtkmfamidahlgiaaGreatDoorOpenC
import Derived.Test.YtkmfamidahlgiaaGreatDoorOpen2
import Derived.Test.YtkmfamidahlgiaaGreatDoorJR
import Derived.Test.YtkmfamidahlgiaaGreatDoorGt
import Derived.Test.YtkmfamidahlgiaaGreatDoorLong
import Derived.Test.YtkmfamidahlgiaaGreatDoorCf2
/- GateScans: what is played at one width. -/
namespace Go.Proofs.YtkmfamidahlgiaaGreatDoor
open Go.RowKit
set_option linter.unusedVariables false
set_option linter.unusedSimpArgs false
set_option maxHeartbeats 4000000
attribute [local go_sem] later_cell later_frozen later_const
theorem wPlusW (W a n : Int) (w : World) (hW : W = 32 ∨ W = 64) : Calls Tryz.prog 57 #[.int .i64 W, .int .u64 a, .int .i64 n] w fun e w' => e = .returned (.int .u64 (plusW W a n)) ∧ w = w' := by
  rcases hW with rfl | rfl
  · exact wPlus_32 a n w
  · exact wPlus_64 a n w
theorem Tag.new2 (w : World) (o : Obj) (C : Array Value) (T : Nat) : Tag ((w.alloc o).alloc (.cells C T)) (w.heap.size + 1) T := by
  have h := Tag.new (w.alloc o) C T
  have e : (w.alloc o).heap.size = w.heap.size + 1 := by simp [go_sem]
  rwa [e] at h
theorem va11 {w : World} {k : Nat} {φ : Nat → Value} (h : ∀ j, j < 11 → w.cell? ⟨k, j, none⟩ = some (φ j) ∧ w.frozen? ⟨k, j, none⟩ = false) : VA 11 w k φ := ⟨fun j hj => (h j hj).1, fun j hj => (h j hj).2⟩
theorem ofW32 (a : Int) (w : World) (h : 0 ≤ a ∧ a < 4294967296) : Calls Tryz.prog 22 #[.int .u64 a] w fun e w' => e = .returned (.int .u32 a) ∧ w = w' := by
  first
    | exact ofU32 a w h.1 h.2
    | (have h1 := ofU32 a w
       rwa [Int.emod_eq_of_lt h.1 h.2] at h1)
theorem gtLeast32_zero (b : Nat) (a : Option Addr) (c : Nat) (w : World) : Calls Tryz.prog 23 #[.pointer (some ⟨b, 0, none⟩), .slice a 0 c] w fun e w' => e = .returned (.int .u32 0) ∧ w = w' := by
  go_enter Tryz.func23, Tryz.ntmps23
  go_wp2
  go_ret
  exact ⟨rfl, rfl⟩
/-- the least of gates, on either side -/
theorem pLeast32 {b g : Nat} {y : LY} {f : Nat → Int} {lv : Value} {log : List Acc} {ups : List (List Int)} {v : Value} {xs : List Int} {w : World} (K : BK y ups) (h : BW w 121 b g y f lv log ups) (E : Parts w) (hv : IntsV w v xs) (hx : Gts y.n xs) (hf : Rgs32 f) :
    Calls Tryz.prog 23 #[.pointer (some ⟨b, 0, none⟩), v] w fun e w' => e = .returned (.int .u32 (leastP D32 (fun i => f (xs.getD i 0).toNat) xs.length)) ∧ Ext w w' := by
  by_cases h0 : xs.length = 0
  · obtain ⟨a, c, e, -⟩ := hv.form
    rw [h0] at e ⊢
    subst e
    refine (gtLeast32_zero b a c w).mono ?_
    rintro e w' ⟨rfl, rfl⟩
    exact ⟨rfl, Ext.refl _⟩
  · have hc := gtLeast32 b g y f lv log ups v xs (fun i => (xs.getD i 0).toNat) w h.B K h.O.lists E hv (by omega) hx.len (fun i hi => by
      obtain ⟨c, hc, hcn⟩ := hx.at_ i hi
      rw [hc]
      exact ⟨rfl, (K.gate c hcn).1⟩) hf
    obtain ⟨k, hk⟩ : ∃ k, xs.length = k + 1 := ⟨xs.length - 1, by omega⟩
    rw [hk] at hc ⊢
    rw [least_eq32]
    exact hc
theorem dLeast32 {b' : Nat} {y : LY} {r : RY} {f : Nat → Int} {lv' : Value} {log : List Acc} {ups : List (List Int)} {v : Value} {xs : List Int} {w : World} (K : BK y ups) (R : Rel y r 32) (h : RB w b' r f lv' log) (hv : IntsV w v xs) (hx : Gts y.n xs) (hf : Rgs32 f) :
    Calls Tryz.prog 62 #[.pointer (some ⟨b', 0, none⟩), v] w fun e w' => e = .returned (.int .u64 (leastP D32 (fun i => f (xs.getD i 0).toNat) xs.length)) ∧ Ext w w' :=
  rGtLeast_32 b' r f lv' log v xs w h hv (fun i hi => by
    obtain ⟨c, hc, hcn⟩ := hx.at_ i hi
    exact ⟨c, hc, by rw [R.m]; exact (K.gate c hcn).2⟩) (fun i => (hf i).1) hx.len R.w
theorem leastP_rg32 {f : Nat → Int} (hf : Rgs32 f) (q : Nat → Nat) : ∀ k, 0 ≤ leastP D32 (fun i => f (q i)) k ∧ leastP D32 (fun i => f (q i)) k < 4294967296
  | 0 => ⟨Int.le_refl _, by show (0 : Int) < 4294967296; decide⟩
  | k + 1 => by
    unfold leastP
    split
    · exact hf _
    · exact leastP_rg32 hf q k
set_option maxRecDepth 100000 in
theorem gsPlayed32 (V C P S : Int) (a : Option Addr) (cap : Nat) (ups : List (List Int)) (cv : Value) (xs : List Int) (a2 : Option Addr) (len2 cap2 : Nat) (zs : List (Int × Int)) (w : World) (h : ListsV w (.slice a ups.length cap) ups) (hv : IntsV w cv xs) (hx : Gts ups.length xs) (hT : IsTwos .i64 w a2 len2 cap2 zs) (E : Parts w) (hll : ∀ l ∈ ups, l.length ≤ 1000000) (hn : ups.length ≤ 1000000) (hg : ckC V 32 C P ups = 0) (h100 : len2 ≤ 100) (hS0 : 0 ≤ S) (hS1 : S < 18446744073709551616) :
    Calls Tryz.prog 16 #[(.agg #[.int .i64 V, .int .i64 32, .int .i64 C, .int .i64 P, .int .u64 (S), .slice a ups.length cap]), cv, .slice a2 len2 cap2] w fun e w' => e = .returned (.bool true) ∧ Ext w w' := by
  have CO := Lib.hid (fun w' (hx : Ext w w') => of_board V 32 C P S _ ups w' (h.ext hx) hll hn hg)
  have CN := Lib.hid (fun (y : LY) w' (K : BK y ups) hw hL h0 h1 => new_board32 y ups w' K hw hL h0 h1)
  have CR := Lib.hid (fun (y : LY) w' (K : BK y ups) hy => rnew_board V 32 C P S a cap y ups w' K hy hS0)
  have HV := Lib.hid hv
  have HGX := Lib.hid hx
  obtain ⟨hz1, hz2, hz3, hz4, hz5⟩ := hT
  have hrow : ∀ i, i < len2 → ∃ b off, a2 = some ⟨b, off, none⟩ ∧ w.cell? ⟨b, off + i * 2, none⟩ = some (.int .i64 (zs.getD i (0, 0)).1) ∧ w.cell? ⟨b, off + i * 2 + 1, none⟩ = some (.int .i64 (zs.getD i (0, 0)).2) := by
    intro i hi
    rcases hz5 with e | ⟨b, off, e, hc⟩
    · rw [e] at hz1; simp at hz1; omega
    · exact ⟨b, off, e, hc i (by omega)⟩
  have HROW := Lib.hid hrow
  have HE := Lib.hid (fun w' (hx : Ext w w') => E.ext hx)
  have HS := Lib.hid (And.intro hS0 hS1)
  obtain ⟨n, hn0⟩ : ∃ n, n = ups.length := ⟨_, rfl⟩
  have HN0 := Lib.hid hn0
  have hn6 : ups.length ≤ 6 := (ok_iff.1 hg).rt.six
  have hn6' : (n : Int) ≤ 6 := by omega
  rw [← hn0] at CO CR ⊢
  clear h hv hx hz1 hz2 hz3 hz4 hz5 hrow E hll hn hg hn0 hS0 hS1 hn6
  go_enter Tryz.func16, Tryz.ntmps16
  go_wp2_with fail
  refine (CO.out _ (by repeat (first | with_reducible exact Ext.refl _ | with_reducible assumption | with_reducible refine Ext.alloc ?_ _ | with_reducible refine Ext.drew ?_ | with_reducible refine Ext.drewN ?_ _ | with_reducible refine Ext.setCell ?_ (by simp <;> omega) _ | with_reducible refine Ext.trans ?_ (by assumption)))).mono ?_
  rintro e wo ⟨y0, K0, o0, rfl, O0, Xo⟩
  have XO : Ext w wo := Ext.trans ((Ext.refl w).alloc _) Xo
  have qc_0 : wo.cell? ⟨w.heap.size, 0, none⟩ = some (.int .i64 V) := Xo.cell (by simp [go_sem])
  have qc_1 : wo.cell? ⟨w.heap.size, 1, none⟩ = some (.int .i64 32) := Xo.cell (by simp [go_sem])
  have qc_2 : wo.cell? ⟨w.heap.size, 2, none⟩ = some (.int .i64 C) := Xo.cell (by simp [go_sem])
  have qc_3 : wo.cell? ⟨w.heap.size, 3, none⟩ = some (.int .i64 P) := Xo.cell (by simp [go_sem])
  have qc_4 : wo.cell? ⟨w.heap.size, 4, none⟩ = some (.int .u64 S) := Xo.cell (by simp [go_sem])
  have qc_5 : wo.cell? ⟨w.heap.size, 5, none⟩ = some (.slice a n cap) := Xo.cell (by simp [go_sem])
  have HK0 := Lib.hid K0
  have Ho0 := Lib.hid o0
  have HO0 := Lib.hid O0
  have HXO := Lib.hid XO
  clear K0 o0 O0 XO Xo
  go_upto_region 2 with (fail)
  refine settle_wp ?_
  intro wA hbA
  have ql_0 : wA.cell? ⟨wo.heap.size, 0, none⟩ = some (.int .i64 y0.V) := hbA.cell (by simp [go_sem])
  have ql_1 : wA.cell? ⟨wo.heap.size, 1, none⟩ = some (.int .i64 y0.W) := hbA.cell (by simp [go_sem])
  have ql_2 : wA.cell? ⟨wo.heap.size, 2, none⟩ = some (.int .i64 y0.C) := hbA.cell (by simp [go_sem])
  have ql_3 : wA.cell? ⟨wo.heap.size, 3, none⟩ = some (.int .i64 y0.P) := hbA.cell (by simp [go_sem])
  have ql_4 : wA.cell? ⟨wo.heap.size, 4, none⟩ = some (.int .u64 y0.S) := hbA.cell (by simp [go_sem])
  have ql_5 : wA.cell? ⟨wo.heap.size, 5, none⟩ = some (.slice y0.a y0.n y0.cap) := hbA.cell (by simp [go_sem])
  have ql_6 : wA.cell? ⟨wo.heap.size, 6, none⟩ = some (.int .i64 y0.Cu) := hbA.cell (by simp [go_sem])
  have ql_7 : wA.cell? ⟨wo.heap.size, 7, none⟩ = some (.int .i64 y0.Cl) := hbA.cell (by simp [go_sem])
  have ql_8 : wA.cell? ⟨wo.heap.size, 8, none⟩ = some (.int .i64 y0.Ti) := hbA.cell (by simp [go_sem])
  have ql_9 : wA.cell? ⟨wo.heap.size, 9, none⟩ = some (.int .i64 y0.Se) := hbA.cell (by simp [go_sem])
  have ql_10 : wA.cell? ⟨wo.heap.size, 10, none⟩ = some (.int .i64 y0.Ne) := hbA.cell (by simp [go_sem])
  have ql_11 : wA.cell? ⟨wo.heap.size, 11, none⟩ = some (.int .i64 y0.Ma) := hbA.cell (by simp [go_sem])
  have ql_12 : wA.cell? ⟨wo.heap.size, 12, none⟩ = some (.int .i64 y0.Sl) := hbA.cell (by simp [go_sem])
  have ql_13 : wA.cell? ⟨wo.heap.size, 13, none⟩ = some (.int .i64 y0.m) := hbA.cell (by simp [go_sem])
  have XA : Ext wo wA := Ext.trans ((Ext.refl wo).alloc _) hbA
  replace qc_0 := XA.cell qc_0
  replace qc_1 := XA.cell qc_1
  replace qc_2 := XA.cell qc_2
  replace qc_3 := XA.cell qc_3
  replace qc_4 := XA.cell qc_4
  replace qc_5 := XA.cell qc_5
  have HXA := Lib.hid (HXO.out.trans XA)
  have HOA := Lib.hid (HO0.out.ext XA)
  clear hbA XA HXO HO0 CO
  have l_0 := fun w' (hx : Ext wA w') => hx.cell ql_0
  have l_1 := fun w' (hx : Ext wA w') => hx.cell ql_1
  have l_2 := fun w' (hx : Ext wA w') => hx.cell ql_2
  have l_3 := fun w' (hx : Ext wA w') => hx.cell ql_3
  have l_4 := fun w' (hx : Ext wA w') => hx.cell ql_4
  have l_5 := fun w' (hx : Ext wA w') => hx.cell ql_5
  have l_6 := fun w' (hx : Ext wA w') => hx.cell ql_6
  have l_7 := fun w' (hx : Ext wA w') => hx.cell ql_7
  have l_8 := fun w' (hx : Ext wA w') => hx.cell ql_8
  have l_9 := fun w' (hx : Ext wA w') => hx.cell ql_9
  have l_10 := fun w' (hx : Ext wA w') => hx.cell ql_10
  have l_11 := fun w' (hx : Ext wA w') => hx.cell ql_11
  have l_12 := fun w' (hx : Ext wA w') => hx.cell ql_12
  have l_13 := fun w' (hx : Ext wA w') => hx.cell ql_13
  have c_0 := fun w' (hx : Ext wA w') => hx.cell qc_0
  have c_1 := fun w' (hx : Ext wA w') => hx.cell qc_1
  have c_2 := fun w' (hx : Ext wA w') => hx.cell qc_2
  have c_3 := fun w' (hx : Ext wA w') => hx.cell qc_3
  have c_4 := fun w' (hx : Ext wA w') => hx.cell qc_4
  have c_5 := fun w' (hx : Ext wA w') => hx.cell qc_5
  refine wp_region_held_drew (S := fun w' => Ext wA w') (by kernel_rfl) ?hbeg (fun hHeld => ?_)
  case hbeg => exact (Ext.refl wA).drew
  have hHeld0 : Ext wA wA := by first | exact Ext.refl _ | assumption
  first
    | (refine take_at (i := 0) (v := ?_) rfl rfl (by kernel_rfl) (by kernel_rfl) (by kernel_rfl) (fun _ _ _ h => h) (Or.inl ⟨by rfl, ?hy⟩) (by assumption) ?_
       case hy => (intro wz hSw; (try dsimp only at hSw); go_simp <;> with_reducible rfl)
       simp only [List.setIfInBounds_toArray, List.set_cons_zero, List.set_cons_succ])
    | (refine take_at (i := 0) (v := undef) rfl rfl (by kernel_rfl) (by kernel_rfl) (by kernel_rfl) (fun _ _ _ h => h) (Or.inr ⟨by rfl, rfl⟩) (by assumption) ?_
       simp only [List.setIfInBounds_toArray, List.set_cons_zero, List.set_cons_succ])
  first
    | (refine take_at (i := 2) (v := ?_) rfl rfl (by kernel_rfl) (by kernel_rfl) (by kernel_rfl) (fun _ _ _ h => h) (Or.inl ⟨by rfl, ?hy⟩) (by assumption) ?_
       case hy => (intro wz hSw; (try dsimp only at hSw); go_simp <;> with_reducible rfl)
       simp only [List.setIfInBounds_toArray, List.set_cons_zero, List.set_cons_succ])
    | (refine take_at (i := 2) (v := undef) rfl rfl (by kernel_rfl) (by kernel_rfl) (by kernel_rfl) (fun _ _ _ h => h) (Or.inr ⟨by rfl, rfl⟩) (by assumption) ?_
       simp only [List.setIfInBounds_toArray, List.set_cons_zero, List.set_cons_succ])
  clear l_0 l_1 l_2 l_3 l_4 l_5 l_6 l_7 l_8 l_9 l_10 l_11 l_12 l_13 c_0 c_1 c_2 c_3 c_4 c_5 ql_0 ql_1 ql_2 ql_3 ql_4 ql_5 ql_6 ql_7 ql_8 ql_9 ql_10 ql_11 ql_12 ql_13 qc_0 qc_2 qc_3 qc_4
  refine call_at (i := 1) (F := 18) (CN.out y0 _ HK0.out Ho0.out.w (HOA.out.ext hHeld) (by rw [Ho0.out.s]; exact HS.out.1) (by rw [Ho0.out.s]; exact HS.out.2)) rfl rfl (by kernel_rfl) (by rfl) (by first | rfl | (go_simp <;> rfl)) ?_
  rintro e w3 ⟨b, g, y, rfl, K, o, B, X3, hb3, hg3⟩
  replace hHeld := hHeld.trans X3
  refine ⟨_, rfl, hHeld, ?_⟩
  simp only [List.setIfInBounds_toArray, List.set_cons_zero, List.set_cons_succ]
  have oy : OfC y V 32 C P S n := ⟨o.v.trans Ho0.out.v, o.w.trans Ho0.out.w, o.c.trans Ho0.out.c, o.p.trans Ho0.out.p, o.s.trans Ho0.out.s, o.n.trans (Ho0.out.n.trans HN0.out.symm)⟩
  refine call_at (i := 3) (F := 19) (CR.out y _ K oy) rfl rfl (by kernel_rfl) (by rfl) (by first | rfl | (go_simp <;> rfl)) ?_
  rintro e w4 ⟨b', r, rfl, R4, rel, rV, rn, -, -, X4, hb4, hg4⟩
  replace hHeld := hHeld.trans X4
  refine ⟨_, rfl, hHeld, ?_⟩
  simp only [List.setIfInBounds_toArray, List.set_cons_zero, List.set_cons_succ]
  first
    | (refine take_at (i := 4) (v := ?_) rfl rfl (by kernel_rfl) (by kernel_rfl) (by kernel_rfl) (fun _ _ _ h => h) (Or.inl ⟨by rfl, ?hy⟩) (by assumption) ?_
       case hy => (intro wz hSw; (try dsimp only at hSw); go_simp <;> with_reducible rfl)
       simp only [List.setIfInBounds_toArray, List.set_cons_zero, List.set_cons_succ])
    | (refine take_at (i := 4) (v := undef) rfl rfl (by kernel_rfl) (by kernel_rfl) (by kernel_rfl) (fun _ _ _ h => h) (Or.inr ⟨by rfl, rfl⟩) (by assumption) ?_
       simp only [List.setIfInBounds_toArray, List.set_cons_zero, List.set_cons_succ])
  first
    | (refine take_at (i := 5) (v := ?_) rfl rfl (by kernel_rfl) (by kernel_rfl) (by kernel_rfl) (fun _ _ _ h => h) (Or.inl ⟨by rfl, ?hy⟩) (by assumption) ?_
       case hy => (intro wz hSw; (try dsimp only at hSw); go_simp <;> with_reducible rfl)
       simp only [List.setIfInBounds_toArray, List.set_cons_zero, List.set_cons_succ])
    | (refine take_at (i := 5) (v := undef) rfl rfl (by kernel_rfl) (by kernel_rfl) (by kernel_rfl) (fun _ _ _ h => h) (Or.inr ⟨by rfl, rfl⟩) (by assumption) ?_
       simp only [List.setIfInBounds_toArray, List.set_cons_zero, List.set_cons_succ])
  refine wpAnyH_done (by kernel_rfl) ?_ _
  have hsA : wA.heap.size ≤ wA.drew.heap.size := ((Ext.refl wA).drew).size
  have HT := Lib.hid (two_new B.B (Ext.trans (Ext.refl wA).drew X3) (Nat.le_trans hsA hb3) (Nat.le_trans hsA hg3) R4 X4 hb4 hg4)
  have HO4 := Lib.hid (B.O.ext X4)
  have HK := Lib.hid K
  have hyn : y.n = n := oy.n
  have HGY : Hid (Gts y.n xs) := Lib.hid (by rw [hyn, HN0.out]; exact HGX.out)
  have HREL : Hid (Rel y r 32) := Lib.hid (by rw [← oy.w]; exact rel)
  have HRG := Lib.hid (rgs_first32 K oy.w (by rw [oy.s]; exact HS.out.1) (by rw [oy.s]; exact HS.out.2))
  generalize fsC y.V y.W y.C y.S y.n = F0 at *
  have Hyn := Lib.hid hyn
  have HC1 := Lib.hid qc_1
  have HC5 := Lib.hid qc_5
  clear hyn hsA B X3 hb3 hg3 R4 X4 hb4 hg4 K o oy rel rV rn hHeld HK0 Ho0 HOA CN CR HS
  replace qc_1 := HT.out.ex.cell qc_1
  replace qc_5 := HT.out.ex.cell qc_5
  go_upto_region 5 with (fail)
  go_upto_region 6 with (fail)
  refine settle_wp ?_
  intro w6 hb6
  have X46 : Ext w4 w6 := Ext.trans (by repeat (first | with_reducible exact Ext.refl _ | with_reducible assumption | with_reducible refine Ext.alloc ?_ _ | with_reducible refine Ext.drew ?_ | with_reducible refine Ext.drewN ?_ _ | with_reducible refine Ext.setCell ?_ (by simp <;> omega) _ | with_reducible refine Ext.trans ?_ (by assumption))) hb6
  have T1 : Tag w6 w4.heap.size 58 := Tag.ext (by repeat (first | exact Tag.new _ _ _ | refine Tag.set ?_ | refine Tag.ext ?_ ((Ext.refl _).alloc _))) hb6
  have T2 : Tag w6 (w4.heap.size + 1) 110 := Tag.ext (by repeat (first | exact Tag.new2 _ _ _ _ | refine Tag.set ?_)) hb6
  have V1 : VA 11 w6 w4.heap.size (fmV32 (fun _ => Fm.nil)) := va11 (fun j hj => by
    have h11 : j = 0 ∨ j = 1 ∨ j = 2 ∨ j = 3 ∨ j = 4 ∨ j = 5 ∨ j = 6 ∨ j = 7 ∨ j = 8 ∨ j = 9 ∨ j = 10 := by omega
    rcases h11 with rfl | rfl | rfl | rfl | rfl | rfl | rfl | rfl | rfl | rfl | rfl <;> exact ⟨hb6.cell (by simp [go_sem]; rfl), hb6.frozen (by simp [go_sem]; rfl) (by simp [go_sem])⟩)
  have V2 : VA 11 w6 (w4.heap.size + 1) (fmV64 (fun _ => Fm.nil)) := va11 (fun j hj => by
    have h11 : j = 0 ∨ j = 1 ∨ j = 2 ∨ j = 3 ∨ j = 4 ∨ j = 5 ∨ j = 6 ∨ j = 7 ∨ j = 8 ∨ j = 9 ∨ j = 10 := by omega
    rcases h11 with rfl | rfl | rfl | rfl | rfl | rfl | rfl | rfl | rfl | rfl | rfl <;> exact ⟨hb6.cell (by simp [go_sem]; rfl), hb6.frozen (by simp [go_sem]; rfl) (by simp [go_sem])⟩)
  have far : ∀ k, w4.heap.size ≤ k → k < w6.heap.size → Far b g (.slice none 0 0) b' r (.slice none 0 0) wA w6 k := fun k hk hk2 =>
    ⟨fun e => by have := HT.out.B.lt e; omega, fun e => by have := HT.out.R.lt e; omega, fun e => by have := tag_lt HT.out.R.tc; omega, by have := HT.out.ex.size; omega, hk2⟩
  have hl1 := tag_lt T1
  have hl2 := tag_lt T2
  have HD : Hid (Duo 121 wA w6 b g y F0 (.slice none 0 0) [] b' r F0 (.slice none 0 0) [] ups) := Lib.hid ⟨HT.out.ext X46, HO4.out.ext X46⟩
  have HF : Hid (Sd b g (.slice none 0 0) b' r (.slice none 0 0) wA w6 w4.heap.size 11 (fmV32 (fun _ => Fm.nil))) := Lib.hid ⟨V1, ⟨_, T1, by decide, by decide⟩, far _ (Nat.le_refl _) hl1⟩
  have HG : Hid (Sd b g (.slice none 0 0) b' r (.slice none 0 0) wA w6 (w4.heap.size + 1) 11 (fmV64 (fun _ => Fm.nil))) := Lib.hid ⟨V2, ⟨_, T2, by decide, by decide⟩, far _ (Nat.le_succ _) hl2⟩
  clear hb6 X46 T1 T2 V1 V2 far hl1 hl2 HT HO4
  generalize hgb : w4.heap.size + 1 = gb at *
  generalize w4.heap.size = fb at *
  have hne : fb ≠ gb := by omega
  clear hgb
  go_wp2
  go_loopw [13] (fun i wr => ∃ k : Nat, k ≤ len2 ∧ i = .int .i64 k ∧ ∃ f lv log lv' F, Duo 121 wA wr b g y f lv log b' r f lv' log ups ∧ Sd b g lv b' r lv' wA wr fb 11 (fmV32 F) ∧ Sd b g lv b' r lv' wA wr gb 11 (fmV64 F) ∧ Rgs32 f ∧ ScAt xs (F 0).I ∧ (0 ≤ (F 0).Mn ∧ (F 0).Mn < 4294967296) ∧ log.length ≤ k) (fun i _ => len2 - (intOf i).toNat)
  case atStart => exact ⟨0, Nat.zero_le _, rfl, _, _, _, _, _, HD.out, HF.out, HG.out, HRG.out, ScAt.zero xs, ⟨Int.le_refl _, by decide⟩, Nat.le_refl _⟩
  case round =>
    obtain ⟨k, hk, rfl, f, lv, log, lv', F, hD, hF, hG, hrg, hat, hmn, hlg⟩ := hrel
    clear HD HF HG HRG
    have HD := Lib.hid hD
    have HF := Lib.hid hF
    have HG := Lib.hid hG
    have HRG := Lib.hid hrg
    have HAT := Lib.hid hat
    have HMN := Lib.hid hmn
    have HXR := Lib.hid (HXA.out.trans hD.T.ex)
    clear hD hF hG hrg hat hmn
    by_cases hlt : k < len2
    case neg =>
      obtain rfl : k = len2 := by omega
      obtain ⟨al, cal, el, -⟩ := rowA_form HD.out.T.R.row
      subst el
      have q8 := HD.out.T.R.q8
      have hl1000 : log.length ≤ 1000 := by omega
      have CPL := Lib.hid (fun w' (hx : Ext wr w') => pLeast32 HK.out (BW.mk (HD.out.T.ext hx).B (HD.out.ol.ext hx)) (HE.out _ (HXR.out.trans hx)) (HV.out.ext (HXR.out.trans hx)) HGY.out HRG.out)
      have CDL := Lib.hid (fun w' (hx : Ext wr w') => dLeast32 HK.out HREL.out (HD.out.T.ext hx).R (HV.out.ext (HXR.out.trans hx)) HGY.out HRG.out)
      have hL := leastP_rg32 HRG.out (fun i => (xs.getD i 0).toNat) xs.length
      generalize leastP D32 (fun i => f (xs.getD i 0).toNat) xs.length = L at *
      obtain ⟨L0, L1⟩ := hL
      clear qc_1 qc_5
      go_upto_region 19 with (fail)
      have k8 := fun w' (hx : Ext wr w') => hx.cell q8
      refine wp_region_held_drew (S := fun w' => Ext wr w') (by kernel_rfl) ?hbeg (fun hHeld => ?_)
      case hbeg => exact (Ext.refl wr).drew
      have hHeld0 : Ext wr wr := by first | exact Ext.refl _ | assumption
      first
        | (refine take_at (i := 0) (v := ?_) rfl rfl (by kernel_rfl) (by kernel_rfl) (by kernel_rfl) (fun _ _ _ h => h) (Or.inl ⟨by rfl, ?hy⟩) (by assumption) ?_
           case hy => (intro wz hSw; (try dsimp only at hSw); go_simp <;> with_reducible rfl)
           simp only [List.setIfInBounds_toArray, List.set_cons_zero, List.set_cons_succ])
        | (refine take_at (i := 0) (v := undef) rfl rfl (by kernel_rfl) (by kernel_rfl) (by kernel_rfl) (fun _ _ _ h => h) (Or.inr ⟨by rfl, rfl⟩) (by assumption) ?_
           simp only [List.setIfInBounds_toArray, List.set_cons_zero, List.set_cons_succ])
      first
        | (refine take_at (i := 2) (v := ?_) rfl rfl (by kernel_rfl) (by kernel_rfl) (by kernel_rfl) (fun _ _ _ h => h) (Or.inl ⟨by rfl, ?hy⟩) (by assumption) ?_
           case hy => (intro wz hSw; (try dsimp only at hSw); go_simp <;> with_reducible rfl)
           simp only [List.setIfInBounds_toArray, List.set_cons_zero, List.set_cons_succ])
        | (refine take_at (i := 2) (v := undef) rfl rfl (by kernel_rfl) (by kernel_rfl) (by kernel_rfl) (fun _ _ _ h => h) (Or.inr ⟨by rfl, rfl⟩) (by assumption) ?_
           simp only [List.setIfInBounds_toArray, List.set_cons_zero, List.set_cons_succ])
      first
        | (refine take_at (i := 3) (v := ?_) rfl rfl (by kernel_rfl) (by kernel_rfl) (by kernel_rfl) (fun _ _ _ h => h) (Or.inl ⟨by rfl, ?hy⟩) (by assumption) ?_
           case hy => (intro wz hSw; (try dsimp only at hSw); go_simp <;> with_reducible rfl)
           simp only [List.setIfInBounds_toArray, List.set_cons_zero, List.set_cons_succ])
        | (refine take_at (i := 3) (v := undef) rfl rfl (by kernel_rfl) (by kernel_rfl) (by kernel_rfl) (fun _ _ _ h => h) (Or.inr ⟨by rfl, rfl⟩) (by assumption) ?_
           simp only [List.setIfInBounds_toArray, List.set_cons_zero, List.set_cons_succ])
      first
        | (refine take_at (i := 4) (v := ?_) rfl rfl (by kernel_rfl) (by kernel_rfl) (by kernel_rfl) (fun _ _ _ h => h) (Or.inl ⟨by rfl, ?hy⟩) (by assumption) ?_
           case hy => (intro wz hSw; (try dsimp only at hSw); go_simp <;> with_reducible rfl)
           simp only [List.setIfInBounds_toArray, List.set_cons_zero, List.set_cons_succ])
        | (refine take_at (i := 4) (v := undef) rfl rfl (by kernel_rfl) (by kernel_rfl) (by kernel_rfl) (fun _ _ _ h => h) (Or.inr ⟨by rfl, rfl⟩) (by assumption) ?_
           simp only [List.setIfInBounds_toArray, List.set_cons_zero, List.set_cons_succ])
      first
        | (refine take_at (i := 5) (v := ?_) rfl rfl (by kernel_rfl) (by kernel_rfl) (by kernel_rfl) (fun _ _ _ h => h) (Or.inl ⟨by rfl, ?hy⟩) (by assumption) ?_
           case hy => (intro wz hSw; (try dsimp only at hSw); go_simp <;> with_reducible rfl)
           simp only [List.setIfInBounds_toArray, List.set_cons_zero, List.set_cons_succ])
        | (refine take_at (i := 5) (v := undef) rfl rfl (by kernel_rfl) (by kernel_rfl) (by kernel_rfl) (fun _ _ _ h => h) (Or.inr ⟨by rfl, rfl⟩) (by assumption) ?_
           simp only [List.setIfInBounds_toArray, List.set_cons_zero, List.set_cons_succ])
      refine call_at (i := 1) (F := 61) (Log32 b g y f lv log _ (HD.out.T.ext hHeld).B hl1000) rfl rfl (by kernel_rfl) (by rfl) (by first | rfl | (go_simp <;> rfl)) ?_
      rintro e wq11 ⟨vq11, rfl, Rq11, Xq11⟩
      have Yq11 := Ext.trans hHeld Xq11
      refine ⟨_, rfl, Yq11, wpAnyH_strong (S' := fun w' => Ext wq11 w') (fun w' h => Ext.trans Yq11 h) _ _ _ _ ?_⟩
      simp only [List.setIfInBounds_toArray, List.set_cons_zero, List.set_cons_succ]
      have Zq11 : Ext wr wq11 := Ext.trans (by assumption) Yq11
      clear hHeld Xq11 Yq11
      have hHeld := Ext.refl wq11
      refine call_at (i := 6) (F := 60) (rSame12 _ 0 vq11 _ log _ Rq11 (HD.out.T.ext Zq11).R.row hl1000) rfl rfl (by kernel_rfl) (by rfl) (by first | rfl | (go_simp <;> rfl)) ?_
      rintro e wq12 ⟨rfl, Xq12⟩
      have Yq12 := Ext.trans hHeld Xq12
      refine ⟨_, rfl, Yq12, wpAnyH_strong (S' := fun w' => Ext wq12 w') (fun w' h => Ext.trans Yq12 h) _ _ _ _ ?_⟩
      simp only [List.setIfInBounds_toArray, List.set_cons_zero, List.set_cons_succ]
      have Zq12 : Ext wr wq12 := Ext.trans (by assumption) Yq12
      clear hHeld Xq12 Yq12
      have hHeld := Ext.refl wq12
      first
        | (refine take_at (i := 7) (v := ?_) rfl rfl (by kernel_rfl) (by kernel_rfl) (by kernel_rfl) (fun _ _ _ h => h) (Or.inl ⟨by rfl, ?hy⟩) (by assumption) ?_
           case hy => (intro wz hSw; (try dsimp only at hSw); go_simp <;> with_reducible rfl)
           simp only [List.setIfInBounds_toArray, List.set_cons_zero, List.set_cons_succ])
        | (refine take_at (i := 7) (v := undef) rfl rfl (by kernel_rfl) (by kernel_rfl) (by kernel_rfl) (fun _ _ _ h => h) (Or.inr ⟨by rfl, rfl⟩) (by assumption) ?_
           simp only [List.setIfInBounds_toArray, List.set_cons_zero, List.set_cons_succ])
      first
        | (refine take_at (i := 8) (v := ?_) rfl rfl (by kernel_rfl) (by kernel_rfl) (by kernel_rfl) (fun _ _ _ h => h) (Or.inl ⟨by rfl, ?hy⟩) (by assumption) ?_
           case hy => (intro wz hSw; (try dsimp only at hSw); go_simp <;> with_reducible rfl)
           simp only [List.setIfInBounds_toArray, List.set_cons_zero, List.set_cons_succ])
        | (refine take_at (i := 8) (v := undef) rfl rfl (by kernel_rfl) (by kernel_rfl) (by kernel_rfl) (fun _ _ _ h => h) (Or.inr ⟨by rfl, rfl⟩) (by assumption) ?_
           simp only [List.setIfInBounds_toArray, List.set_cons_zero, List.set_cons_succ])
      first
        | (refine take_at (i := 9) (v := ?_) rfl rfl (by kernel_rfl) (by kernel_rfl) (by kernel_rfl) (fun _ _ _ h => h) (Or.inl ⟨by rfl, ?hy⟩) (by assumption) ?_
           case hy => (intro wz hSw; (try dsimp only at hSw); go_simp <;> with_reducible rfl)
           simp only [List.setIfInBounds_toArray, List.set_cons_zero, List.set_cons_succ])
        | (refine take_at (i := 9) (v := undef) rfl rfl (by kernel_rfl) (by kernel_rfl) (by kernel_rfl) (fun _ _ _ h => h) (Or.inr ⟨by rfl, rfl⟩) (by assumption) ?_
           simp only [List.setIfInBounds_toArray, List.set_cons_zero, List.set_cons_succ])
      first
        | (refine take_at (i := 12) (v := ?_) rfl rfl (by kernel_rfl) (by kernel_rfl) (by kernel_rfl) (fun _ _ _ h => h) (Or.inl ⟨by rfl, ?hy⟩) (by assumption) ?_
           case hy => (intro wz hSw; (try dsimp only at hSw); go_simp <;> with_reducible rfl)
           simp only [List.setIfInBounds_toArray, List.set_cons_zero, List.set_cons_succ])
        | (refine take_at (i := 12) (v := undef) rfl rfl (by kernel_rfl) (by kernel_rfl) (by kernel_rfl) (fun _ _ _ h => h) (Or.inr ⟨by rfl, rfl⟩) (by assumption) ?_
           simp only [List.setIfInBounds_toArray, List.set_cons_zero, List.set_cons_succ])
      first
        | (refine take_at (i := 13) (v := ?_) rfl rfl (by kernel_rfl) (by kernel_rfl) (by kernel_rfl) (fun _ _ _ h => h) (Or.inl ⟨by rfl, ?hy⟩) (by assumption) ?_
           case hy => (intro wz hSw; (try dsimp only at hSw); go_simp <;> with_reducible rfl)
           simp only [List.setIfInBounds_toArray, List.set_cons_zero, List.set_cons_succ])
        | (refine take_at (i := 13) (v := undef) rfl rfl (by kernel_rfl) (by kernel_rfl) (by kernel_rfl) (fun _ _ _ h => h) (Or.inr ⟨by rfl, rfl⟩) (by assumption) ?_
           simp only [List.setIfInBounds_toArray, List.set_cons_zero, List.set_cons_succ])
      refine call_at (i := 10) (F := 23) (CPL.out _ Zq12) rfl rfl (by kernel_rfl) (by rfl) (by first | rfl | (go_simp <;> rfl)) ?_
      rintro e wq13 ⟨rfl, Xq13⟩
      have Yq13 := Ext.trans hHeld Xq13
      refine ⟨_, rfl, Yq13, wpAnyH_strong (S' := fun w' => Ext wq13 w') (fun w' h => Ext.trans Yq13 h) _ _ _ _ ?_⟩
      simp only [List.setIfInBounds_toArray, List.set_cons_zero, List.set_cons_succ]
      have Zq13 : Ext wr wq13 := Ext.trans (by assumption) Yq13
      clear hHeld Xq13 Yq13
      have hHeld := Ext.refl wq13
      first
        | (refine take_at (i := 11) (v := ?_) rfl rfl (by kernel_rfl) (by kernel_rfl) (by kernel_rfl) (fun _ _ _ h => h) (Or.inl ⟨by rfl, ?hy⟩) (by assumption) ?_
           case hy => (intro wz hSw; (try dsimp only at hSw); go_simp <;> with_reducible rfl)
           simp only [List.setIfInBounds_toArray, List.set_cons_zero, List.set_cons_succ])
        | (refine take_at (i := 11) (v := undef) rfl rfl (by kernel_rfl) (by kernel_rfl) (by kernel_rfl) (fun _ _ _ h => h) (Or.inr ⟨by rfl, rfl⟩) (by assumption) ?_
           simp only [List.setIfInBounds_toArray, List.set_cons_zero, List.set_cons_succ])
      refine call_at (i := 14) (F := 62) (CDL.out _ Zq13) rfl rfl (by kernel_rfl) (by rfl) (by first | rfl | (go_simp <;> rfl)) ?_
      rintro e wq14 ⟨rfl, Xq14⟩
      have Yq14 := Ext.trans hHeld Xq14
      refine ⟨_, rfl, Yq14, wpAnyH_strong (S' := fun w' => Ext wq14 w') (fun w' h => Ext.trans Yq14 h) _ _ _ _ ?_⟩
      simp only [List.setIfInBounds_toArray, List.set_cons_zero, List.set_cons_succ]
      have Zq14 : Ext wr wq14 := Ext.trans (by assumption) Yq14
      clear hHeld Xq14 Yq14
      have hHeld := Ext.refl wq14
      first
        | (refine take_at (i := 15) (v := ?_) rfl rfl (by kernel_rfl) (by kernel_rfl) (by kernel_rfl) (fun _ _ _ h => h) (Or.inl ⟨by rfl, ?hy⟩) (by assumption) ?_
           case hy => (intro wz hSw; (try dsimp only at hSw); go_simp <;> with_reducible rfl)
           simp only [List.setIfInBounds_toArray, List.set_cons_zero, List.set_cons_succ])
        | (refine take_at (i := 15) (v := undef) rfl rfl (by kernel_rfl) (by kernel_rfl) (by kernel_rfl) (fun _ _ _ h => h) (Or.inr ⟨by rfl, rfl⟩) (by assumption) ?_
           simp only [List.setIfInBounds_toArray, List.set_cons_zero, List.set_cons_succ])
      first
        | (refine take_at (i := 16) (v := ?_) rfl rfl (by kernel_rfl) (by kernel_rfl) (by kernel_rfl) (fun _ _ _ h => h) (Or.inl ⟨by rfl, ?hy⟩) (by assumption) ?_
           case hy => (intro wz hSw; (try dsimp only at hSw); go_simp <;> with_reducible rfl)
           simp only [List.setIfInBounds_toArray, List.set_cons_zero, List.set_cons_succ])
        | (refine take_at (i := 16) (v := undef) rfl rfl (by kernel_rfl) (by kernel_rfl) (by kernel_rfl) (fun _ _ _ h => h) (Or.inr ⟨by rfl, rfl⟩) (by assumption) ?_
           simp only [List.setIfInBounds_toArray, List.set_cons_zero, List.set_cons_succ])
      first
        | (refine take_at (i := 17) (v := ?_) rfl rfl (by kernel_rfl) (by kernel_rfl) (by kernel_rfl) (fun _ _ _ h => h) (Or.inl ⟨by rfl, ?hy⟩) (by assumption) ?_
           case hy => (intro wz hSw; (try dsimp only at hSw); go_simp <;> with_reducible rfl)
           simp only [List.setIfInBounds_toArray, List.set_cons_zero, List.set_cons_succ])
        | (refine take_at (i := 17) (v := undef) rfl rfl (by kernel_rfl) (by kernel_rfl) (by kernel_rfl) (fun _ _ _ h => h) (Or.inr ⟨by rfl, rfl⟩) (by assumption) ?_
           simp only [List.setIfInBounds_toArray, List.set_cons_zero, List.set_cons_succ])
      refine wpAnyH_done (by kernel_rfl) ?_ _
      have HX := Lib.hid (HXR.out.trans Zq14)
      try rw [show IntKind.u64.wrap L = L from wrap_own L L0 (by omega)]
      clear k8
      go_wp2
      go_ret
      first
        | exact ⟨rfl, HX.out⟩
        | exact ⟨by simp, HX.out⟩
    have hkl : (k : Int) < (len2 : Int) := by omega
    obtain ⟨rb, ro, ea, cz1, cz2⟩ := HROW.out k hlt
    subst ea
    have p1 := HD.out.T.ex.cell HC1.out
    have p5 := HD.out.T.ex.cell HC5.out
    clear qc_1 qc_5
    generalize (zs.getD k (0, 0)).1 = x at *
    generalize (zs.getD k (0, 0)).2 = m at *
    have HZ1 := Lib.hid cz1
    replace cz1 := HXR.out.cell cz1
    replace cz2 := HXR.out.cell cz2
    by_cases hs : 0 ≤ x ∧ x < n
    · obtain ⟨c, rfl⟩ : ∃ c : Nat, x = c := ⟨x.toNat, by omega⟩
      have hcn : (c : Int) < (n : Int) := hs.2
      have hcy : c < y.n := by rw [Hyn.out]; omega
      obtain ⟨hkd, hcm⟩ := HK.out.gate c hcy
      have HKD := Lib.hid hkd
      have HCM := Lib.hid hcm
      clear hs hcy hkd hcm
      go_upto_region 9 with (fail)
      have k1 := fun w' (hx : Ext wr w') => hx.cell cz1
      have k5 := fun w' (hx : Ext wr w') => hx.cell p5
      refine wp_region_held_drew (S := fun w' => Ext wr w') (by kernel_rfl) ?hbeg (fun hHeld => ?_)
      case hbeg => exact (Ext.refl wr).drew
      have hHeld0 : Ext wr wr := by first | exact Ext.refl _ | assumption
      first
        | (refine take_at (i := 0) (v := ?_) rfl rfl (by kernel_rfl) (by kernel_rfl) (by kernel_rfl) (fun _ _ _ h => h) (Or.inl ⟨by rfl, ?hy⟩) (by assumption) ?_
           case hy => (intro wz hSw; (try dsimp only at hSw); go_simp <;> with_reducible rfl)
           simp only [List.setIfInBounds_toArray, List.set_cons_zero, List.set_cons_succ])
        | (refine take_at (i := 0) (v := undef) rfl rfl (by kernel_rfl) (by kernel_rfl) (by kernel_rfl) (fun _ _ _ h => h) (Or.inr ⟨by rfl, rfl⟩) (by assumption) ?_
           simp only [List.setIfInBounds_toArray, List.set_cons_zero, List.set_cons_succ])
      first
        | (refine take_at (i := 1) (v := ?_) rfl rfl (by kernel_rfl) (by kernel_rfl) (by kernel_rfl) (fun _ _ _ h => h) (Or.inl ⟨by rfl, ?hy⟩) (by assumption) ?_
           case hy => (intro wz hSw; (try dsimp only at hSw); go_simp <;> with_reducible rfl)
           simp only [List.setIfInBounds_toArray, List.set_cons_zero, List.set_cons_succ])
        | (refine take_at (i := 1) (v := undef) rfl rfl (by kernel_rfl) (by kernel_rfl) (by kernel_rfl) (fun _ _ _ h => h) (Or.inr ⟨by rfl, rfl⟩) (by assumption) ?_
           simp only [List.setIfInBounds_toArray, List.set_cons_zero, List.set_cons_succ])
      first
        | (refine take_at (i := 2) (v := ?_) rfl rfl (by kernel_rfl) (by kernel_rfl) (by kernel_rfl) (fun _ _ _ h => h) (Or.inl ⟨by rfl, ?hy⟩) (by assumption) ?_
           case hy => (intro wz hSw; (try dsimp only at hSw); go_simp <;> with_reducible rfl)
           simp only [List.setIfInBounds_toArray, List.set_cons_zero, List.set_cons_succ])
        | (refine take_at (i := 2) (v := undef) rfl rfl (by kernel_rfl) (by kernel_rfl) (by kernel_rfl) (fun _ _ _ h => h) (Or.inr ⟨by rfl, rfl⟩) (by assumption) ?_
           simp only [List.setIfInBounds_toArray, List.set_cons_zero, List.set_cons_succ])
      first
        | (refine take_at (i := 3) (v := ?_) rfl rfl (by kernel_rfl) (by kernel_rfl) (by kernel_rfl) (fun _ _ _ h => h) (Or.inl ⟨by rfl, ?hy⟩) (by assumption) ?_
           case hy => (intro wz hSw; (try dsimp only at hSw); go_simp <;> with_reducible rfl)
           simp only [List.setIfInBounds_toArray, List.set_cons_zero, List.set_cons_succ])
        | (refine take_at (i := 3) (v := undef) rfl rfl (by kernel_rfl) (by kernel_rfl) (by kernel_rfl) (fun _ _ _ h => h) (Or.inr ⟨by rfl, rfl⟩) (by assumption) ?_
           simp only [List.setIfInBounds_toArray, List.set_cons_zero, List.set_cons_succ])
      first
        | (refine take_at (i := 4) (v := ?_) rfl rfl (by kernel_rfl) (by kernel_rfl) (by kernel_rfl) (fun _ _ _ h => h) (Or.inl ⟨by rfl, ?hy⟩) (by assumption) ?_
           case hy => (intro wz hSw; (try dsimp only at hSw); go_simp <;> with_reducible rfl)
           simp only [List.setIfInBounds_toArray, List.set_cons_zero, List.set_cons_succ])
        | (refine take_at (i := 4) (v := undef) rfl rfl (by kernel_rfl) (by kernel_rfl) (by kernel_rfl) (fun _ _ _ h => h) (Or.inr ⟨by rfl, rfl⟩) (by assumption) ?_
           simp only [List.setIfInBounds_toArray, List.set_cons_zero, List.set_cons_succ])
      first
        | (refine take_at (i := 5) (v := ?_) rfl rfl (by kernel_rfl) (by kernel_rfl) (by kernel_rfl) (fun _ _ _ h => h) (Or.inl ⟨by rfl, ?hy⟩) (by assumption) ?_
           case hy => (intro wz hSw; (try dsimp only at hSw); go_simp <;> with_reducible rfl)
           simp only [List.setIfInBounds_toArray, List.set_cons_zero, List.set_cons_succ])
        | (refine take_at (i := 5) (v := undef) rfl rfl (by kernel_rfl) (by kernel_rfl) (by kernel_rfl) (fun _ _ _ h => h) (Or.inr ⟨by rfl, rfl⟩) (by assumption) ?_
           simp only [List.setIfInBounds_toArray, List.set_cons_zero, List.set_cons_succ])
      first
        | (refine take_at (i := 6) (v := ?_) rfl rfl (by kernel_rfl) (by kernel_rfl) (by kernel_rfl) (fun _ _ _ h => h) (Or.inl ⟨by rfl, ?hy⟩) (by assumption) ?_
           case hy => (intro wz hSw; (try dsimp only at hSw); go_simp <;> with_reducible rfl)
           simp only [List.setIfInBounds_toArray, List.set_cons_zero, List.set_cons_succ])
        | (refine take_at (i := 6) (v := undef) rfl rfl (by kernel_rfl) (by kernel_rfl) (by kernel_rfl) (fun _ _ _ h => h) (Or.inr ⟨by rfl, rfl⟩) (by assumption) ?_
           simp only [List.setIfInBounds_toArray, List.set_cons_zero, List.set_cons_succ])
      first
        | (refine take_at (i := 7) (v := ?_) rfl rfl (by kernel_rfl) (by kernel_rfl) (by kernel_rfl) (fun _ _ _ h => h) (Or.inl ⟨by rfl, ?hy⟩) (by assumption) ?_
           case hy => (intro wz hSw; (try dsimp only at hSw); go_simp <;> with_reducible rfl)
           simp only [List.setIfInBounds_toArray, List.set_cons_zero, List.set_cons_succ])
        | (refine take_at (i := 7) (v := undef) rfl rfl (by kernel_rfl) (by kernel_rfl) (by kernel_rfl) (fun _ _ _ h => h) (Or.inr ⟨by rfl, rfl⟩) (by assumption) ?_
           simp only [List.setIfInBounds_toArray, List.set_cons_zero, List.set_cons_succ])
      first
        | (refine take_at (i := 8) (v := ?_) rfl rfl (by kernel_rfl) (by kernel_rfl) (by kernel_rfl) (fun _ _ _ h => h) (Or.inl ⟨by rfl, ?hy⟩) (by assumption) ?_
           case hy => (intro wz hSw; (try dsimp only at hSw); go_simp <;> with_reducible rfl)
           simp only [List.setIfInBounds_toArray, List.set_cons_zero, List.set_cons_succ])
        | (refine take_at (i := 8) (v := undef) rfl rfl (by kernel_rfl) (by kernel_rfl) (by kernel_rfl) (fun _ _ _ h => h) (Or.inr ⟨by rfl, rfl⟩) (by assumption) ?_
           simp only [List.setIfInBounds_toArray, List.set_cons_zero, List.set_cons_succ])
      first
        | (refine take_at (i := 9) (v := ?_) rfl rfl (by kernel_rfl) (by kernel_rfl) (by kernel_rfl) (fun _ _ _ h => h) (Or.inl ⟨by rfl, ?hy⟩) (by assumption) ?_
           case hy => (intro wz hSw; (try dsimp only at hSw); go_simp <;> with_reducible rfl)
           simp only [List.setIfInBounds_toArray, List.set_cons_zero, List.set_cons_succ])
        | (refine take_at (i := 9) (v := undef) rfl rfl (by kernel_rfl) (by kernel_rfl) (by kernel_rfl) (fun _ _ _ h => h) (Or.inr ⟨by rfl, rfl⟩) (by assumption) ?_
           simp only [List.setIfInBounds_toArray, List.set_cons_zero, List.set_cons_succ])
      first
        | (refine take_at (i := 10) (v := ?_) rfl rfl (by kernel_rfl) (by kernel_rfl) (by kernel_rfl) (fun _ _ _ h => h) (Or.inl ⟨by rfl, ?hy⟩) (by assumption) ?_
           case hy => (intro wz hSw; (try dsimp only at hSw); go_simp <;> with_reducible rfl)
           simp only [List.setIfInBounds_toArray, List.set_cons_zero, List.set_cons_succ])
        | (refine take_at (i := 10) (v := undef) rfl rfl (by kernel_rfl) (by kernel_rfl) (by kernel_rfl) (fun _ _ _ h => h) (Or.inr ⟨by rfl, rfl⟩) (by assumption) ?_
           simp only [List.setIfInBounds_toArray, List.set_cons_zero, List.set_cons_succ])
      first
        | (refine take_at (i := 11) (v := ?_) rfl rfl (by kernel_rfl) (by kernel_rfl) (by kernel_rfl) (fun _ _ _ h => h) (Or.inl ⟨by rfl, ?hy⟩) (by assumption) ?_
           case hy => (intro wz hSw; (try dsimp only at hSw); go_simp <;> with_reducible rfl)
           simp only [List.setIfInBounds_toArray, List.set_cons_zero, List.set_cons_succ])
        | (refine take_at (i := 11) (v := undef) rfl rfl (by kernel_rfl) (by kernel_rfl) (by kernel_rfl) (fun _ _ _ h => h) (Or.inr ⟨by rfl, rfl⟩) (by assumption) ?_
           simp only [List.setIfInBounds_toArray, List.set_cons_zero, List.set_cons_succ])
      first
        | (refine take_at (i := 12) (v := ?_) rfl rfl (by kernel_rfl) (by kernel_rfl) (by kernel_rfl) (fun _ _ _ h => h) (Or.inl ⟨by rfl, ?hy⟩) (by assumption) ?_
           case hy => (intro wz hSw; (try dsimp only at hSw); go_simp <;> with_reducible rfl)
           simp only [List.setIfInBounds_toArray, List.set_cons_zero, List.set_cons_succ])
        | (refine take_at (i := 12) (v := undef) rfl rfl (by kernel_rfl) (by kernel_rfl) (by kernel_rfl) (fun _ _ _ h => h) (Or.inr ⟨by rfl, rfl⟩) (by assumption) ?_
           simp only [List.setIfInBounds_toArray, List.set_cons_zero, List.set_cons_succ])
      first
        | (refine take_at (i := 13) (v := ?_) rfl rfl (by kernel_rfl) (by kernel_rfl) (by kernel_rfl) (fun _ _ _ h => h) (Or.inl ⟨by rfl, ?hy⟩) (by assumption) ?_
           case hy => (intro wz hSw; (try dsimp only at hSw); go_simp <;> with_reducible rfl)
           simp only [List.setIfInBounds_toArray, List.set_cons_zero, List.set_cons_succ])
        | (refine take_at (i := 13) (v := undef) rfl rfl (by kernel_rfl) (by kernel_rfl) (by kernel_rfl) (fun _ _ _ h => h) (Or.inr ⟨by rfl, rfl⟩) (by assumption) ?_
           simp only [List.setIfInBounds_toArray, List.set_cons_zero, List.set_cons_succ])
      first
        | (refine take_at (i := 14) (v := ?_) rfl rfl (by kernel_rfl) (by kernel_rfl) (by kernel_rfl) (fun _ _ _ h => h) (Or.inl ⟨by rfl, ?hy⟩) (by assumption) ?_
           case hy => (intro wz hSw; (try dsimp only at hSw); go_simp <;> with_reducible rfl)
           simp only [List.setIfInBounds_toArray, List.set_cons_zero, List.set_cons_succ])
        | (refine take_at (i := 14) (v := undef) rfl rfl (by kernel_rfl) (by kernel_rfl) (by kernel_rfl) (fun _ _ _ h => h) (Or.inr ⟨by rfl, rfl⟩) (by assumption) ?_
           simp only [List.setIfInBounds_toArray, List.set_cons_zero, List.set_cons_succ])
      first
        | (refine take_at (i := 15) (v := ?_) rfl rfl (by kernel_rfl) (by kernel_rfl) (by kernel_rfl) (fun _ _ _ h => h) (Or.inl ⟨by rfl, ?hy⟩) (by assumption) ?_
           case hy => (intro wz hSw; (try dsimp only at hSw); go_simp <;> with_reducible rfl)
           simp only [List.setIfInBounds_toArray, List.set_cons_zero, List.set_cons_succ])
        | (refine take_at (i := 15) (v := undef) rfl rfl (by kernel_rfl) (by kernel_rfl) (by kernel_rfl) (fun _ _ _ h => h) (Or.inr ⟨by rfl, rfl⟩) (by assumption) ?_
           simp only [List.setIfInBounds_toArray, List.set_cons_zero, List.set_cons_succ])
      first
        | (refine take_at (i := 16) (v := ?_) rfl rfl (by kernel_rfl) (by kernel_rfl) (by kernel_rfl) (fun _ _ _ h => h) (Or.inl ⟨by rfl, ?hy⟩) (by assumption) ?_
           case hy => (intro wz hSw; (try dsimp only at hSw); go_simp <;> with_reducible rfl)
           simp only [List.setIfInBounds_toArray, List.set_cons_zero, List.set_cons_succ])
        | (refine take_at (i := 16) (v := undef) rfl rfl (by kernel_rfl) (by kernel_rfl) (by kernel_rfl) (fun _ _ _ h => h) (Or.inr ⟨by rfl, rfl⟩) (by assumption) ?_
           simp only [List.setIfInBounds_toArray, List.set_cons_zero, List.set_cons_succ])
      refine wpAnyH_done (by kernel_rfl) ?_ _
      clear k1 k5
      have X9 := Lib.hid (Ext.drew (Ext.refl wr))
      replace HD := Lib.hid (HD.out.ext X9.out)
      replace HF := Lib.hid (HF.out.ext X9.out)
      replace HG := Lib.hid (HG.out.ext X9.out)
      replace cz1 := X9.out.cell cz1
      replace cz2 := X9.out.cell cz2
      replace p1 := X9.out.cell p1
      replace HXR := Lib.hid (HXR.out.trans X9.out)
      clear X9 hHeld p5
      generalize wr.drew = w3 at *
      go_wp2_with fail
      refine (Peek32 b g y f lv log c w3 HD.out.T.B HK.out.yok (HE.out _ HXR.out) (by rw [HKD.out]; decide)).mono ?_
      rintro e w4 ⟨rfl, X4⟩
      replace HD := Lib.hid (HD.out.ext X4)
      replace HF := Lib.hid (HF.out.ext X4)
      replace HG := Lib.hid (HG.out.ext X4)
      replace cz1 := X4.cell cz1
      replace cz2 := X4.cell cz2
      replace p1 := X4.cell p1
      replace HXR := Lib.hid (HXR.out.trans X4)
      clear X4
      have hz := plusW_rg32 (f c) m
      go_upto_region 11 with (fail)
      have k1 := fun w' (hx : Ext w4 w') => hx.cell p1
      have k2 := fun w' (hx : Ext w4 w') => hx.cell cz2
      refine wp_region_held_drew (S := fun w' => Ext w4 w') (by kernel_rfl) ?hbeg (fun hHeld => ?_)
      case hbeg => exact (Ext.refl w4).drew
      have hHeld0 : Ext w4 w4 := by first | exact Ext.refl _ | assumption
      first
        | (refine take_at (i := 0) (v := ?_) rfl rfl (by kernel_rfl) (by kernel_rfl) (by kernel_rfl) (fun _ _ _ h => h) (Or.inl ⟨by rfl, ?hy⟩) (by assumption) ?_
           case hy => (intro wz hSw; (try dsimp only at hSw); go_simp <;> with_reducible rfl)
           simp only [List.setIfInBounds_toArray, List.set_cons_zero, List.set_cons_succ])
        | (refine take_at (i := 0) (v := undef) rfl rfl (by kernel_rfl) (by kernel_rfl) (by kernel_rfl) (fun _ _ _ h => h) (Or.inr ⟨by rfl, rfl⟩) (by assumption) ?_
           simp only [List.setIfInBounds_toArray, List.set_cons_zero, List.set_cons_succ])
      first
        | (refine take_at (i := 1) (v := ?_) rfl rfl (by kernel_rfl) (by kernel_rfl) (by kernel_rfl) (fun _ _ _ h => h) (Or.inl ⟨by rfl, ?hy⟩) (by assumption) ?_
           case hy => (intro wz hSw; (try dsimp only at hSw); go_simp <;> with_reducible rfl)
           simp only [List.setIfInBounds_toArray, List.set_cons_zero, List.set_cons_succ])
        | (refine take_at (i := 1) (v := undef) rfl rfl (by kernel_rfl) (by kernel_rfl) (by kernel_rfl) (fun _ _ _ h => h) (Or.inr ⟨by rfl, rfl⟩) (by assumption) ?_
           simp only [List.setIfInBounds_toArray, List.set_cons_zero, List.set_cons_succ])
      first
        | (refine take_at (i := 2) (v := ?_) rfl rfl (by kernel_rfl) (by kernel_rfl) (by kernel_rfl) (fun _ _ _ h => h) (Or.inl ⟨by rfl, ?hy⟩) (by assumption) ?_
           case hy => (intro wz hSw; (try dsimp only at hSw); go_simp <;> with_reducible rfl)
           simp only [List.setIfInBounds_toArray, List.set_cons_zero, List.set_cons_succ])
        | (refine take_at (i := 2) (v := undef) rfl rfl (by kernel_rfl) (by kernel_rfl) (by kernel_rfl) (fun _ _ _ h => h) (Or.inr ⟨by rfl, rfl⟩) (by assumption) ?_
           simp only [List.setIfInBounds_toArray, List.set_cons_zero, List.set_cons_succ])
      first
        | (refine take_at (i := 3) (v := ?_) rfl rfl (by kernel_rfl) (by kernel_rfl) (by kernel_rfl) (fun _ _ _ h => h) (Or.inl ⟨by rfl, ?hy⟩) (by assumption) ?_
           case hy => (intro wz hSw; (try dsimp only at hSw); go_simp <;> with_reducible rfl)
           simp only [List.setIfInBounds_toArray, List.set_cons_zero, List.set_cons_succ])
        | (refine take_at (i := 3) (v := undef) rfl rfl (by kernel_rfl) (by kernel_rfl) (by kernel_rfl) (fun _ _ _ h => h) (Or.inr ⟨by rfl, rfl⟩) (by assumption) ?_
           simp only [List.setIfInBounds_toArray, List.set_cons_zero, List.set_cons_succ])
      first
        | (refine take_at (i := 4) (v := ?_) rfl rfl (by kernel_rfl) (by kernel_rfl) (by kernel_rfl) (fun _ _ _ h => h) (Or.inl ⟨by rfl, ?hy⟩) (by assumption) ?_
           case hy => (intro wz hSw; (try dsimp only at hSw); go_simp <;> with_reducible rfl)
           simp only [List.setIfInBounds_toArray, List.set_cons_zero, List.set_cons_succ])
        | (refine take_at (i := 4) (v := undef) rfl rfl (by kernel_rfl) (by kernel_rfl) (by kernel_rfl) (fun _ _ _ h => h) (Or.inr ⟨by rfl, rfl⟩) (by assumption) ?_
           simp only [List.setIfInBounds_toArray, List.set_cons_zero, List.set_cons_succ])
      first
        | (refine take_at (i := 5) (v := ?_) rfl rfl (by kernel_rfl) (by kernel_rfl) (by kernel_rfl) (fun _ _ _ h => h) (Or.inl ⟨by rfl, ?hy⟩) (by assumption) ?_
           case hy => (intro wz hSw; (try dsimp only at hSw); go_simp <;> with_reducible rfl)
           simp only [List.setIfInBounds_toArray, List.set_cons_zero, List.set_cons_succ])
        | (refine take_at (i := 5) (v := undef) rfl rfl (by kernel_rfl) (by kernel_rfl) (by kernel_rfl) (fun _ _ _ h => h) (Or.inr ⟨by rfl, rfl⟩) (by assumption) ?_
           simp only [List.setIfInBounds_toArray, List.set_cons_zero, List.set_cons_succ])
      first
        | (refine take_at (i := 6) (v := ?_) rfl rfl (by kernel_rfl) (by kernel_rfl) (by kernel_rfl) (fun _ _ _ h => h) (Or.inl ⟨by rfl, ?hy⟩) (by assumption) ?_
           case hy => (intro wz hSw; (try dsimp only at hSw); go_simp <;> with_reducible rfl)
           simp only [List.setIfInBounds_toArray, List.set_cons_zero, List.set_cons_succ])
        | (refine take_at (i := 6) (v := undef) rfl rfl (by kernel_rfl) (by kernel_rfl) (by kernel_rfl) (fun _ _ _ h => h) (Or.inr ⟨by rfl, rfl⟩) (by assumption) ?_
           simp only [List.setIfInBounds_toArray, List.set_cons_zero, List.set_cons_succ])
      first
        | (refine take_at (i := 7) (v := ?_) rfl rfl (by kernel_rfl) (by kernel_rfl) (by kernel_rfl) (fun _ _ _ h => h) (Or.inl ⟨by rfl, ?hy⟩) (by assumption) ?_
           case hy => (intro wz hSw; (try dsimp only at hSw); go_simp <;> with_reducible rfl)
           simp only [List.setIfInBounds_toArray, List.set_cons_zero, List.set_cons_succ])
        | (refine take_at (i := 7) (v := undef) rfl rfl (by kernel_rfl) (by kernel_rfl) (by kernel_rfl) (fun _ _ _ h => h) (Or.inr ⟨by rfl, rfl⟩) (by assumption) ?_
           simp only [List.setIfInBounds_toArray, List.set_cons_zero, List.set_cons_succ])
      refine call_at (i := 8) (F := 57) (wPlusW 32 (f c) m _ (by decide)) rfl rfl (by kernel_rfl) (by rfl) (by first | rfl | (go_simp <;> rfl)) ?_
      rintro e w' ⟨rfl, rfl⟩
      refine ⟨_, rfl, by assumption, ?_⟩
      simp only [List.setIfInBounds_toArray, List.set_cons_zero, List.set_cons_succ]
      first
        | (refine take_at (i := 9) (v := ?_) rfl rfl (by kernel_rfl) (by kernel_rfl) (by kernel_rfl) (fun _ _ _ h => h) (Or.inl ⟨by rfl, ?hy⟩) (by assumption) ?_
           case hy => (intro wz hSw; (try dsimp only at hSw); go_simp <;> with_reducible rfl)
           simp only [List.setIfInBounds_toArray, List.set_cons_zero, List.set_cons_succ])
        | (refine take_at (i := 9) (v := undef) rfl rfl (by kernel_rfl) (by kernel_rfl) (by kernel_rfl) (fun _ _ _ h => h) (Or.inr ⟨by rfl, rfl⟩) (by assumption) ?_
           simp only [List.setIfInBounds_toArray, List.set_cons_zero, List.set_cons_succ])
      refine wpAnyH_done (by kernel_rfl) ?_ _
      clear k1 k2 hHeld
      generalize plusW 32 (f c) m = z at *
      have X5 := Ext.drew (Ext.refl w4)
      go_upto_region 12 with (fail)
      refine settle_wp ?_
      intro w5 hb5
      replace X5 := X5.trans hb5
      replace HD := Lib.hid (HD.out.ext X5)
      replace HF := Lib.hid (HF.out.ext X5)
      replace HG := Lib.hid (HG.out.ext X5)
      replace cz1 := X5.cell cz1
      replace HXR := Lib.hid (HXR.out.trans X5)
      clear X5 hb5 cz2 p1
      have X6 := Lib.hid (Ext.drew (Ext.refl w5))
      have cz3 := X6.out.cell cz1
      have k3 := fun w' (hx : Ext w5 w') => hx.cell cz1
      refine wp_region_D (fun i => decide (i ≤ 7)) (by kernel_rfl) ?_
      refine take_D (i := 0) (v := ?_) rfl rfl rfl (by kernel_rfl) (by kernel_rfl) (by kernel_rfl) (by kernel_rfl) (by kernel_rfl) (((Ext.refl w5).drew)) ?hyp ?_
      case hyp => intro wz hSw; (try dsimp only at hSw); go_simp <;> with_reducible rfl
      simp only [List.setIfInBounds_toArray, List.set_cons_zero, List.set_cons_succ]
      refine take_D (i := 1) (v := ?_) rfl rfl rfl (by kernel_rfl) (by kernel_rfl) (by kernel_rfl) (by kernel_rfl) (by kernel_rfl) (((Ext.refl w5).drew)) ?hyp ?_
      case hyp => intro wz hSw; (try dsimp only at hSw); go_simp <;> with_reducible rfl
      simp only [List.setIfInBounds_toArray, List.set_cons_zero, List.set_cons_succ]
      refine take_D (i := 2) (v := ?_) rfl rfl rfl (by kernel_rfl) (by kernel_rfl) (by kernel_rfl) (by kernel_rfl) (by kernel_rfl) (((Ext.refl w5).drew)) ?hyp ?_
      case hyp => intro wz hSw; (try dsimp only at hSw); go_simp <;> with_reducible rfl
      simp only [List.setIfInBounds_toArray, List.set_cons_zero, List.set_cons_succ]
      refine take_D (i := 3) (v := ?_) rfl rfl rfl (by kernel_rfl) (by kernel_rfl) (by kernel_rfl) (by kernel_rfl) (by kernel_rfl) (((Ext.refl w5).drew)) ?hyp ?_
      case hyp => intro wz hSw; (try dsimp only at hSw); go_simp <;> with_reducible rfl
      simp only [List.setIfInBounds_toArray, List.set_cons_zero, List.set_cons_succ]
      refine take_D (i := 4) (v := ?_) rfl rfl rfl (by kernel_rfl) (by kernel_rfl) (by kernel_rfl) (by kernel_rfl) (by kernel_rfl) (((Ext.refl w5).drew)) ?hyp ?_
      case hyp => intro wz hSw; (try dsimp only at hSw); go_simp <;> with_reducible rfl
      simp only [List.setIfInBounds_toArray, List.set_cons_zero, List.set_cons_succ]
      refine take_D (i := 5) (v := ?_) rfl rfl rfl (by kernel_rfl) (by kernel_rfl) (by kernel_rfl) (by kernel_rfl) (by kernel_rfl) (((Ext.refl w5).drew)) ?hyp ?_
      case hyp => intro wz hSw; (try dsimp only at hSw); go_simp <;> with_reducible rfl
      simp only [List.setIfInBounds_toArray, List.set_cons_zero, List.set_cons_succ]
      refine take_D (i := 6) (v := ?_) rfl rfl rfl (by kernel_rfl) (by kernel_rfl) (by kernel_rfl) (by kernel_rfl) (by kernel_rfl) (((Ext.refl w5).drew)) ?hyp ?_
      case hyp => intro wz hSw; (try dsimp only at hSw); go_simp <;> with_reducible rfl
      simp only [List.setIfInBounds_toArray, List.set_cons_zero, List.set_cons_succ]
      refine last_D (n := 7) rfl rfl (fun j hj => by simp; omega) (by kernel_rfl) ?_
      clear k3
      go_wp2_with fail
      refine (ofW32 z _ hz).mono ?_
      rintro e w' ⟨rfl, rfl⟩
      go_wp2
      refine ⟨(Ext.refl w5).drew, ?_⟩
      replace HD := Lib.hid (HD.out.ext X6.out)
      replace HF := Lib.hid (HF.out.ext X6.out)
      replace HG := Lib.hid (HG.out.ext X6.out)
      replace HXR := Lib.hid (HXR.out.trans X6.out)
      clear X6
      go_wp2_with fail
      refine (Store32_yes b g y f lv log 1 z c _ HD.out.T.B HK.out.yok (HE.out _ HXR.out) HKD.out hz.1 hz.2 (HRG.out c).1 (by have := (HRG.out c).2; omega) (by omega)).mono ?_
      rintro e w6 ⟨rfl, lv2, B6, N6, A6⟩
      have HD6 := Lib.hid (HD.out.stepB32 B6 N6 A6)
      have HF6 := Lib.hid (HF.out.stepB N6 (fun q hq => .inl hq) A6)
      have HG6 := Lib.hid (HG.out.stepB N6 (fun q hq => .inl hq) A6)
      clear B6 N6 A6 HD HF HG cz1 HXR
      go_wp2
      refine off_normal ?_
      have cy1 := (HXA.out.trans HD6.out.T.ex).cell HZ1.out
      go_wp2_with fail
      refine (rStore_yes b' r f lv' log 1 z c _ HD6.out.T.R (by rw [isK_kd HREL.out (by decide), HKD.out]; rfl) (by rw [HREL.out.m]; exact HCM.out) (by omega)).mono ?_
      rintro e w7 ⟨rfl, lv3, R7, N7, A7⟩
      have HD7 := Lib.hid (HD6.out.stepR R7 N7 A7)
      have HF7 := Lib.hid (HF6.out.stepR N7 A7)
      have HG7 := Lib.hid (HG6.out.stepR N7 A7)
      clear R7 N7 A7 HD6 HF6 HG6 cy1
      go_wp2
      exact ⟨⟨k + 1, by omega, by go_num, Go.Proofs.YtkmfamidahlgiaaGreatDoor.upd f c z, lv2, _, lv3, F, HD7.out, HF7.out, HG7.out, HRG.out.upd c z hz, HAT.out, HMN.out, by simp; omega⟩, by simp [intOf]; omega⟩
    · have hs2 : decide (0 ≤ x) = false ∨ (decide (0 ≤ x) = true ∧ decide (x < (n : Int)) = false) := by
        by_cases h0 : 0 ≤ x
        · exact .inr ⟨by simpa using h0, by simp; omega⟩
        · exact .inl (by simpa using h0)
      clear hs cz2 p1
      rcases hs2 with d0 | ⟨d0, d1⟩
      all_goals
        go_upto_region 9 with (fail)
        have k1 := fun w' (hx : Ext wr w') => hx.cell cz1
        have k5 := fun w' (hx : Ext wr w') => hx.cell p5
        refine wp_region_held_drew (S := fun w' => Ext wr w') (by kernel_rfl) ?hbeg (fun hHeld => ?_)
        case hbeg => exact (Ext.refl wr).drew
        have hHeld0 : Ext wr wr := by first | exact Ext.refl _ | assumption
        first
          | (refine take_at (i := 0) (v := ?_) rfl rfl (by kernel_rfl) (by kernel_rfl) (by kernel_rfl) (fun _ _ _ h => h) (Or.inl ⟨by rfl, ?hy⟩) (by assumption) ?_
             case hy => (intro wz hSw; (try dsimp only at hSw); go_simp <;> with_reducible rfl)
             simp only [List.setIfInBounds_toArray, List.set_cons_zero, List.set_cons_succ])
          | (refine take_at (i := 0) (v := undef) rfl rfl (by kernel_rfl) (by kernel_rfl) (by kernel_rfl) (fun _ _ _ h => h) (Or.inr ⟨by rfl, rfl⟩) (by assumption) ?_
             simp only [List.setIfInBounds_toArray, List.set_cons_zero, List.set_cons_succ])
        first
          | (refine take_at (i := 1) (v := ?_) rfl rfl (by kernel_rfl) (by kernel_rfl) (by kernel_rfl) (fun _ _ _ h => h) (Or.inl ⟨by rfl, ?hy⟩) (by assumption) ?_
             case hy => (intro wz hSw; (try dsimp only at hSw); go_simp <;> with_reducible rfl)
             simp only [List.setIfInBounds_toArray, List.set_cons_zero, List.set_cons_succ])
          | (refine take_at (i := 1) (v := undef) rfl rfl (by kernel_rfl) (by kernel_rfl) (by kernel_rfl) (fun _ _ _ h => h) (Or.inr ⟨by rfl, rfl⟩) (by assumption) ?_
             simp only [List.setIfInBounds_toArray, List.set_cons_zero, List.set_cons_succ])
        first
          | (refine take_at (i := 2) (v := ?_) rfl rfl (by kernel_rfl) (by kernel_rfl) (by kernel_rfl) (fun _ _ _ h => h) (Or.inl ⟨by rfl, ?hy⟩) (by assumption) ?_
             case hy => (intro wz hSw; (try dsimp only at hSw); go_simp <;> with_reducible rfl)
             simp only [List.setIfInBounds_toArray, List.set_cons_zero, List.set_cons_succ])
          | (refine take_at (i := 2) (v := undef) rfl rfl (by kernel_rfl) (by kernel_rfl) (by kernel_rfl) (fun _ _ _ h => h) (Or.inr ⟨by rfl, rfl⟩) (by assumption) ?_
             simp only [List.setIfInBounds_toArray, List.set_cons_zero, List.set_cons_succ])
        first
          | (refine take_at (i := 3) (v := ?_) rfl rfl (by kernel_rfl) (by kernel_rfl) (by kernel_rfl) (fun _ _ _ h => h) (Or.inl ⟨by rfl, ?hy⟩) (by assumption) ?_
             case hy => (intro wz hSw; (try dsimp only at hSw); go_simp <;> with_reducible rfl)
             simp only [List.setIfInBounds_toArray, List.set_cons_zero, List.set_cons_succ])
          | (refine take_at (i := 3) (v := undef) rfl rfl (by kernel_rfl) (by kernel_rfl) (by kernel_rfl) (fun _ _ _ h => h) (Or.inr ⟨by rfl, rfl⟩) (by assumption) ?_
             simp only [List.setIfInBounds_toArray, List.set_cons_zero, List.set_cons_succ])
        first
          | (refine take_at (i := 4) (v := ?_) rfl rfl (by kernel_rfl) (by kernel_rfl) (by kernel_rfl) (fun _ _ _ h => h) (Or.inl ⟨by rfl, ?hy⟩) (by assumption) ?_
             case hy => (intro wz hSw; (try dsimp only at hSw); go_simp <;> with_reducible rfl)
             simp only [List.setIfInBounds_toArray, List.set_cons_zero, List.set_cons_succ])
          | (refine take_at (i := 4) (v := undef) rfl rfl (by kernel_rfl) (by kernel_rfl) (by kernel_rfl) (fun _ _ _ h => h) (Or.inr ⟨by rfl, rfl⟩) (by assumption) ?_
             simp only [List.setIfInBounds_toArray, List.set_cons_zero, List.set_cons_succ])
        first
          | (refine take_at (i := 5) (v := ?_) rfl rfl (by kernel_rfl) (by kernel_rfl) (by kernel_rfl) (fun _ _ _ h => h) (Or.inl ⟨by rfl, ?hy⟩) (by assumption) ?_
             case hy => (intro wz hSw; (try dsimp only at hSw); go_simp <;> with_reducible rfl)
             simp only [List.setIfInBounds_toArray, List.set_cons_zero, List.set_cons_succ])
          | (refine take_at (i := 5) (v := undef) rfl rfl (by kernel_rfl) (by kernel_rfl) (by kernel_rfl) (fun _ _ _ h => h) (Or.inr ⟨by rfl, rfl⟩) (by assumption) ?_
             simp only [List.setIfInBounds_toArray, List.set_cons_zero, List.set_cons_succ])
        first
          | (refine take_at (i := 6) (v := ?_) rfl rfl (by kernel_rfl) (by kernel_rfl) (by kernel_rfl) (fun _ _ _ h => h) (Or.inl ⟨by rfl, ?hy⟩) (by assumption) ?_
             case hy => (intro wz hSw; (try dsimp only at hSw); go_simp <;> with_reducible rfl)
             simp only [List.setIfInBounds_toArray, List.set_cons_zero, List.set_cons_succ])
          | (refine take_at (i := 6) (v := undef) rfl rfl (by kernel_rfl) (by kernel_rfl) (by kernel_rfl) (fun _ _ _ h => h) (Or.inr ⟨by rfl, rfl⟩) (by assumption) ?_
             simp only [List.setIfInBounds_toArray, List.set_cons_zero, List.set_cons_succ])
        first
          | (refine take_at (i := 7) (v := ?_) rfl rfl (by kernel_rfl) (by kernel_rfl) (by kernel_rfl) (fun _ _ _ h => h) (Or.inl ⟨by rfl, ?hy⟩) (by assumption) ?_
             case hy => (intro wz hSw; (try dsimp only at hSw); go_simp <;> with_reducible rfl)
             simp only [List.setIfInBounds_toArray, List.set_cons_zero, List.set_cons_succ])
          | (refine take_at (i := 7) (v := undef) rfl rfl (by kernel_rfl) (by kernel_rfl) (by kernel_rfl) (fun _ _ _ h => h) (Or.inr ⟨by rfl, rfl⟩) (by assumption) ?_
             simp only [List.setIfInBounds_toArray, List.set_cons_zero, List.set_cons_succ])
        first
          | (refine take_at (i := 8) (v := ?_) rfl rfl (by kernel_rfl) (by kernel_rfl) (by kernel_rfl) (fun _ _ _ h => h) (Or.inl ⟨by rfl, ?hy⟩) (by assumption) ?_
             case hy => (intro wz hSw; (try dsimp only at hSw); go_simp <;> with_reducible rfl)
             simp only [List.setIfInBounds_toArray, List.set_cons_zero, List.set_cons_succ])
          | (refine take_at (i := 8) (v := undef) rfl rfl (by kernel_rfl) (by kernel_rfl) (by kernel_rfl) (fun _ _ _ h => h) (Or.inr ⟨by rfl, rfl⟩) (by assumption) ?_
             simp only [List.setIfInBounds_toArray, List.set_cons_zero, List.set_cons_succ])
        first
          | (refine take_at (i := 9) (v := ?_) rfl rfl (by kernel_rfl) (by kernel_rfl) (by kernel_rfl) (fun _ _ _ h => h) (Or.inl ⟨by rfl, ?hy⟩) (by assumption) ?_
             case hy => (intro wz hSw; (try dsimp only at hSw); go_simp <;> with_reducible rfl)
             simp only [List.setIfInBounds_toArray, List.set_cons_zero, List.set_cons_succ])
          | (refine take_at (i := 9) (v := undef) rfl rfl (by kernel_rfl) (by kernel_rfl) (by kernel_rfl) (fun _ _ _ h => h) (Or.inr ⟨by rfl, rfl⟩) (by assumption) ?_
             simp only [List.setIfInBounds_toArray, List.set_cons_zero, List.set_cons_succ])
        first
          | (refine take_at (i := 10) (v := ?_) rfl rfl (by kernel_rfl) (by kernel_rfl) (by kernel_rfl) (fun _ _ _ h => h) (Or.inl ⟨by rfl, ?hy⟩) (by assumption) ?_
             case hy => (intro wz hSw; (try dsimp only at hSw); go_simp <;> with_reducible rfl)
             simp only [List.setIfInBounds_toArray, List.set_cons_zero, List.set_cons_succ])
          | (refine take_at (i := 10) (v := undef) rfl rfl (by kernel_rfl) (by kernel_rfl) (by kernel_rfl) (fun _ _ _ h => h) (Or.inr ⟨by rfl, rfl⟩) (by assumption) ?_
             simp only [List.setIfInBounds_toArray, List.set_cons_zero, List.set_cons_succ])
        first
          | (refine take_at (i := 11) (v := ?_) rfl rfl (by kernel_rfl) (by kernel_rfl) (by kernel_rfl) (fun _ _ _ h => h) (Or.inl ⟨by rfl, ?hy⟩) (by assumption) ?_
             case hy => (intro wz hSw; (try dsimp only at hSw); go_simp <;> with_reducible rfl)
             simp only [List.setIfInBounds_toArray, List.set_cons_zero, List.set_cons_succ])
          | (refine take_at (i := 11) (v := undef) rfl rfl (by kernel_rfl) (by kernel_rfl) (by kernel_rfl) (fun _ _ _ h => h) (Or.inr ⟨by rfl, rfl⟩) (by assumption) ?_
             simp only [List.setIfInBounds_toArray, List.set_cons_zero, List.set_cons_succ])
        first
          | (refine take_at (i := 12) (v := ?_) rfl rfl (by kernel_rfl) (by kernel_rfl) (by kernel_rfl) (fun _ _ _ h => h) (Or.inl ⟨by rfl, ?hy⟩) (by assumption) ?_
             case hy => (intro wz hSw; (try dsimp only at hSw); go_simp <;> with_reducible rfl)
             simp only [List.setIfInBounds_toArray, List.set_cons_zero, List.set_cons_succ])
          | (refine take_at (i := 12) (v := undef) rfl rfl (by kernel_rfl) (by kernel_rfl) (by kernel_rfl) (fun _ _ _ h => h) (Or.inr ⟨by rfl, rfl⟩) (by assumption) ?_
             simp only [List.setIfInBounds_toArray, List.set_cons_zero, List.set_cons_succ])
        first
          | (refine take_at (i := 13) (v := ?_) rfl rfl (by kernel_rfl) (by kernel_rfl) (by kernel_rfl) (fun _ _ _ h => h) (Or.inl ⟨by rfl, ?hy⟩) (by assumption) ?_
             case hy => (intro wz hSw; (try dsimp only at hSw); go_simp <;> with_reducible rfl)
             simp only [List.setIfInBounds_toArray, List.set_cons_zero, List.set_cons_succ])
          | (refine take_at (i := 13) (v := undef) rfl rfl (by kernel_rfl) (by kernel_rfl) (by kernel_rfl) (fun _ _ _ h => h) (Or.inr ⟨by rfl, rfl⟩) (by assumption) ?_
             simp only [List.setIfInBounds_toArray, List.set_cons_zero, List.set_cons_succ])
        first
          | (refine take_at (i := 14) (v := ?_) rfl rfl (by kernel_rfl) (by kernel_rfl) (by kernel_rfl) (fun _ _ _ h => h) (Or.inl ⟨by rfl, ?hy⟩) (by assumption) ?_
             case hy => (intro wz hSw; (try dsimp only at hSw); go_simp <;> with_reducible rfl)
             simp only [List.setIfInBounds_toArray, List.set_cons_zero, List.set_cons_succ])
          | (refine take_at (i := 14) (v := undef) rfl rfl (by kernel_rfl) (by kernel_rfl) (by kernel_rfl) (fun _ _ _ h => h) (Or.inr ⟨by rfl, rfl⟩) (by assumption) ?_
             simp only [List.setIfInBounds_toArray, List.set_cons_zero, List.set_cons_succ])
        first
          | (refine take_at (i := 15) (v := ?_) rfl rfl (by kernel_rfl) (by kernel_rfl) (by kernel_rfl) (fun _ _ _ h => h) (Or.inl ⟨by rfl, ?hy⟩) (by assumption) ?_
             case hy => (intro wz hSw; (try dsimp only at hSw); go_simp <;> with_reducible rfl)
             simp only [List.setIfInBounds_toArray, List.set_cons_zero, List.set_cons_succ])
          | (refine take_at (i := 15) (v := undef) rfl rfl (by kernel_rfl) (by kernel_rfl) (by kernel_rfl) (fun _ _ _ h => h) (Or.inr ⟨by rfl, rfl⟩) (by assumption) ?_
             simp only [List.setIfInBounds_toArray, List.set_cons_zero, List.set_cons_succ])
        first
          | (refine take_at (i := 16) (v := ?_) rfl rfl (by kernel_rfl) (by kernel_rfl) (by kernel_rfl) (fun _ _ _ h => h) (Or.inl ⟨by rfl, ?hy⟩) (by assumption) ?_
             case hy => (intro wz hSw; (try dsimp only at hSw); go_simp <;> with_reducible rfl)
             simp only [List.setIfInBounds_toArray, List.set_cons_zero, List.set_cons_succ])
          | (refine take_at (i := 16) (v := undef) rfl rfl (by kernel_rfl) (by kernel_rfl) (by kernel_rfl) (fun _ _ _ h => h) (Or.inr ⟨by rfl, rfl⟩) (by assumption) ?_
             simp only [List.setIfInBounds_toArray, List.set_cons_zero, List.set_cons_succ])
        refine wpAnyH_done (by kernel_rfl) ?_ _
        clear k1 k5
        have X9 := Lib.hid (Ext.drew (Ext.refl wr))
        replace HD := Lib.hid (HD.out.ext X9.out)
        replace HF := Lib.hid (HF.out.ext X9.out)
        replace HG := Lib.hid (HG.out.ext X9.out)
        replace HXR := Lib.hid (HXR.out.trans X9.out)
        clear X9 hHeld p5 cz1
        generalize wr.drew = w3 at *
        go_wp2_with fail
        refine (pScan32 (t := 0) HK.out HD.out HF.out (by decide) (HE.out _ HXR.out) (HV.out.ext HXR.out) HGY.out HAT.out HRG.out (by omega) 0).mono ?_
        rintro e w4 ⟨d, I', M', log2, hSc, rfl, lv2, hD4, hF4, N4, A4⟩
        have HSC := Lib.hid hSc
        replace HG := Lib.hid (HG.out.stepB N4 (fun q hq => hq.imp id (fun e => by rw [e]; exact hne)) A4)
        replace HD := Lib.hid hD4
        replace HF := Lib.hid hF4
        clear hSc hD4 hF4 N4 A4 HXR
        have HXR := Lib.hid (HXA.out.trans HD.out.T.ex)
        obtain ⟨dT, hdT, hdR⟩ : ∃ d, Tryz.prog.underlying 110 = some d ∧ d.isRow = true := ⟨_, rfl, rfl⟩
        go_wp2_with (with_reducible refine wpList_load_mid rfl _ (.tmp 12) rfl gb 0 rfl (fml64 (F 0)) dT ?hg1 hdT hdR ?hg2 ?_)
        case hg1 => exact range_part HG.out.a (fml64 (F 0)) (by show 0 + 11 ≤ 11; decide) (fun j hj => by have := fml64_at F 0 j hj; rwa [Nat.zero_mul] at this)
        case hg2 => kernel_rfl
        clear hdT hdR
        refine (dScan32 HK.out HREL.out HD.out (HV.out.ext HXR.out) HGY.out HRG.out (by omega) 0 (F 0) HMN.out.1 HSC.out).mono ?_
        rintro e w5 ⟨rfl, lv3, hD5, N5, A5⟩
        replace HF := Lib.hid (HF.out.stepR N5 A5)
        replace HG := Lib.hid (HG.out.stepR N5 A5)
        replace HD := Lib.hid hD5
        clear hD5 N5 A5 HXR
        go_upto_region 16 with (fail)
        refine settle_wp ?_
        intro w6 hb6
        have y_0 : w6.cell? ⟨w5.heap.size, 0, none⟩ = some (.int .i64 0) := hb6.cell (by simp [go_sem])
        have y_1 : w6.cell? ⟨w5.heap.size, 1, none⟩ = some (.int .i64 (F 0).N) := hb6.cell (by simp [go_sem])
        have y_2 : w6.cell? ⟨w5.heap.size, 2, none⟩ = some (.int .i64 0) := hb6.cell (by simp [go_sem])
        have y_3 : w6.cell? ⟨w5.heap.size, 3, none⟩ = some (.int .i64 (F 0).Pc) := hb6.cell (by simp [go_sem])
        have y_4 : w6.cell? ⟨w5.heap.size, 4, none⟩ = some (.int .i64 I') := hb6.cell (by simp [go_sem])
        have y_5 : w6.cell? ⟨w5.heap.size, 5, none⟩ = some (.int .i64 0) := hb6.cell (by simp [go_sem])
        have y_6 : w6.cell? ⟨w5.heap.size, 6, none⟩ = some (.int .u64 (F 0).Fr) := hb6.cell (by simp [go_sem])
        have y_7 : w6.cell? ⟨w5.heap.size, 7, none⟩ = some (.int .u64 M') := hb6.cell (by simp [go_sem])
        have y_8 : w6.cell? ⟨w5.heap.size, 8, none⟩ = some (.int .u64 (F 0).Vl) := hb6.cell (by simp [go_sem])
        have y_9 : w6.cell? ⟨w5.heap.size, 9, none⟩ = some (.int .u64 0) := hb6.cell (by simp [go_sem])
        have y_10 : w6.cell? ⟨w5.heap.size, 10, none⟩ = some (.slice none 0 0) := hb6.cell (by simp [go_sem])
        have X56 : Ext w5 w6 := Ext.trans ((Ext.refl w5).alloc _) hb6
        replace HD := Lib.hid (HD.out.ext X56)
        have hgy : gb ≠ w5.heap.size := fun e => by have := HG.out.x.hi; omega
        replace HF := Lib.hid (HF.out.ext X56)
        replace HG := Lib.hid (HG.out.ext X56)
        clear X56 hb6
        generalize w5.heap.size = yb at *
        go_wp2_with (with_reducible refine wpList_store_mid rfl _ (.tmp 12) (.tmp 100) rfl gb 0 (fml64 { F 0 with I := I', Mn := M' }).toArray rfl rfl ?hj1 ?hj2 ?hj3 ?_)
        case hj1 => exact there_of (m := 11) HG.out.a (by omega)
        case hj2 => first | kernel_rfl | simpa using (show (Tryz.prog.info? 110).map (·.size) = some 11 by kernel_rfl) | simpa [fml64] using (show (Tryz.prog.info? 110).map (·.size) = some 11 by kernel_rfl)
        case hj3 => first | kernel_rfl | (simp [fml64]; done) | (simp [fml64]; repeat (first | rfl | refine ⟨rfl, ?_⟩))
        first | refine name_list ?_ | refine name_wp ?_
        intro w7 e7
        have e7' : w6.setCells gb (0 * 11) (fml64 { F 0 with I := I', Mn := M' }) = w7 := by rw [Nat.zero_mul]; exact e7
        have hG7 := HG.out.frame64 (t := 0) (by decide) { F 0 with I := I', Mn := M' }
        rw [e7'] at hG7
        have hN := but_setCells gb (fml64 { F 0 with I := I', Mn := M' }) (0 * 11) w6
        rw [e7'] at hN
        replace HD := Lib.hid (HD.out.off HG.out hN)
        replace HF := Lib.hid (HF.out.off hN hne)
        replace HG := Lib.hid hG7
        clear hG7 e7 e7' hN y_0 y_1 y_2 y_3 y_4 y_5 y_6 y_7 y_8 y_9 y_10
        have HM' := Lib.hid (HSC.out.rng HRG.out HMN.out)
        obtain ⟨o0, o1⟩ := HM'.out
        have cf4 : w7.cell? ⟨fb, 4, none⟩ = some (.int .i64 I') := HF.out.a.c 4 (by decide)
        have cf7 : w7.cell? ⟨fb, 7, none⟩ = some (.int .u32 M') := HF.out.a.c 7 (by decide)
        have cg4 : w7.cell? ⟨gb, 4, none⟩ = some (.int .i64 I') := HG.out.a.c 4 (by decide)
        have cg7 : w7.cell? ⟨gb, 7, none⟩ = some (.int .u64 M') := HG.out.a.c 7 (by decide)
        have k1 := fun w' (hx : Ext w7 w') => hx.cell cf4
        have k2 := fun w' (hx : Ext w7 w') => hx.cell cf7
        have k3 := fun w' (hx : Ext w7 w') => hx.cell cg4
        have k4 := fun w' (hx : Ext w7 w') => hx.cell cg7
        refine wp_region_held_drew (S := fun w' => Ext w7 w') (by kernel_rfl) ?hbeg (fun hHeld => ?_)
        case hbeg => exact (Ext.refl w7).drew
        have hHeld0 : Ext w7 w7 := by first | exact Ext.refl _ | assumption
        first
          | (refine take_at (i := 0) (v := ?_) rfl rfl (by kernel_rfl) (by kernel_rfl) (by kernel_rfl) (fun _ _ _ h => h) (Or.inl ⟨by rfl, ?hy⟩) (by assumption) ?_
             case hy => (intro wz hSw; (try dsimp only at hSw); go_simp <;> with_reducible rfl)
             simp only [List.setIfInBounds_toArray, List.set_cons_zero, List.set_cons_succ])
          | (refine take_at (i := 0) (v := undef) rfl rfl (by kernel_rfl) (by kernel_rfl) (by kernel_rfl) (fun _ _ _ h => h) (Or.inr ⟨by rfl, rfl⟩) (by assumption) ?_
             simp only [List.setIfInBounds_toArray, List.set_cons_zero, List.set_cons_succ])
        first
          | (refine take_at (i := 1) (v := ?_) rfl rfl (by kernel_rfl) (by kernel_rfl) (by kernel_rfl) (fun _ _ _ h => h) (Or.inl ⟨by rfl, ?hy⟩) (by assumption) ?_
             case hy => (intro wz hSw; (try dsimp only at hSw); go_simp <;> with_reducible rfl)
             simp only [List.setIfInBounds_toArray, List.set_cons_zero, List.set_cons_succ])
          | (refine take_at (i := 1) (v := undef) rfl rfl (by kernel_rfl) (by kernel_rfl) (by kernel_rfl) (fun _ _ _ h => h) (Or.inr ⟨by rfl, rfl⟩) (by assumption) ?_
             simp only [List.setIfInBounds_toArray, List.set_cons_zero, List.set_cons_succ])
        first
          | (refine take_at (i := 2) (v := ?_) rfl rfl (by kernel_rfl) (by kernel_rfl) (by kernel_rfl) (fun _ _ _ h => h) (Or.inl ⟨by rfl, ?hy⟩) (by assumption) ?_
             case hy => (intro wz hSw; (try dsimp only at hSw); go_simp <;> with_reducible rfl)
             simp only [List.setIfInBounds_toArray, List.set_cons_zero, List.set_cons_succ])
          | (refine take_at (i := 2) (v := undef) rfl rfl (by kernel_rfl) (by kernel_rfl) (by kernel_rfl) (fun _ _ _ h => h) (Or.inr ⟨by rfl, rfl⟩) (by assumption) ?_
             simp only [List.setIfInBounds_toArray, List.set_cons_zero, List.set_cons_succ])
        first
          | (refine take_at (i := 3) (v := ?_) rfl rfl (by kernel_rfl) (by kernel_rfl) (by kernel_rfl) (fun _ _ _ h => h) (Or.inl ⟨by rfl, ?hy⟩) (by assumption) ?_
             case hy => (intro wz hSw; (try dsimp only at hSw); go_simp <;> with_reducible rfl)
             simp only [List.setIfInBounds_toArray, List.set_cons_zero, List.set_cons_succ])
          | (refine take_at (i := 3) (v := undef) rfl rfl (by kernel_rfl) (by kernel_rfl) (by kernel_rfl) (fun _ _ _ h => h) (Or.inr ⟨by rfl, rfl⟩) (by assumption) ?_
             simp only [List.setIfInBounds_toArray, List.set_cons_zero, List.set_cons_succ])
        first
          | (refine take_at (i := 4) (v := ?_) rfl rfl (by kernel_rfl) (by kernel_rfl) (by kernel_rfl) (fun _ _ _ h => h) (Or.inl ⟨by rfl, ?hy⟩) (by assumption) ?_
             case hy => (intro wz hSw; (try dsimp only at hSw); go_simp <;> with_reducible rfl)
             simp only [List.setIfInBounds_toArray, List.set_cons_zero, List.set_cons_succ])
          | (refine take_at (i := 4) (v := undef) rfl rfl (by kernel_rfl) (by kernel_rfl) (by kernel_rfl) (fun _ _ _ h => h) (Or.inr ⟨by rfl, rfl⟩) (by assumption) ?_
             simp only [List.setIfInBounds_toArray, List.set_cons_zero, List.set_cons_succ])
        first
          | (refine take_at (i := 5) (v := ?_) rfl rfl (by kernel_rfl) (by kernel_rfl) (by kernel_rfl) (fun _ _ _ h => h) (Or.inl ⟨by rfl, ?hy⟩) (by assumption) ?_
             case hy => (intro wz hSw; (try dsimp only at hSw); go_simp <;> with_reducible rfl)
             simp only [List.setIfInBounds_toArray, List.set_cons_zero, List.set_cons_succ])
          | (refine take_at (i := 5) (v := undef) rfl rfl (by kernel_rfl) (by kernel_rfl) (by kernel_rfl) (fun _ _ _ h => h) (Or.inr ⟨by rfl, rfl⟩) (by assumption) ?_
             simp only [List.setIfInBounds_toArray, List.set_cons_zero, List.set_cons_succ])
        first
          | (refine take_at (i := 6) (v := ?_) rfl rfl (by kernel_rfl) (by kernel_rfl) (by kernel_rfl) (fun _ _ _ h => h) (Or.inl ⟨by rfl, ?hy⟩) (by assumption) ?_
             case hy => (intro wz hSw; (try dsimp only at hSw); go_simp <;> with_reducible rfl)
             simp only [List.setIfInBounds_toArray, List.set_cons_zero, List.set_cons_succ])
          | (refine take_at (i := 6) (v := undef) rfl rfl (by kernel_rfl) (by kernel_rfl) (by kernel_rfl) (fun _ _ _ h => h) (Or.inr ⟨by rfl, rfl⟩) (by assumption) ?_
             simp only [List.setIfInBounds_toArray, List.set_cons_zero, List.set_cons_succ])
        first
          | (refine take_at (i := 7) (v := ?_) rfl rfl (by kernel_rfl) (by kernel_rfl) (by kernel_rfl) (fun _ _ _ h => h) (Or.inl ⟨by rfl, ?hy⟩) (by assumption) ?_
             case hy => (intro wz hSw; (try dsimp only at hSw); go_simp <;> with_reducible rfl)
             simp only [List.setIfInBounds_toArray, List.set_cons_zero, List.set_cons_succ])
          | (refine take_at (i := 7) (v := undef) rfl rfl (by kernel_rfl) (by kernel_rfl) (by kernel_rfl) (fun _ _ _ h => h) (Or.inr ⟨by rfl, rfl⟩) (by assumption) ?_
             simp only [List.setIfInBounds_toArray, List.set_cons_zero, List.set_cons_succ])
        first
          | (refine take_at (i := 8) (v := ?_) rfl rfl (by kernel_rfl) (by kernel_rfl) (by kernel_rfl) (fun _ _ _ h => h) (Or.inl ⟨by rfl, ?hy⟩) (by assumption) ?_
             case hy => (intro wz hSw; (try dsimp only at hSw); go_simp <;> with_reducible rfl)
             simp only [List.setIfInBounds_toArray, List.set_cons_zero, List.set_cons_succ])
          | (refine take_at (i := 8) (v := undef) rfl rfl (by kernel_rfl) (by kernel_rfl) (by kernel_rfl) (fun _ _ _ h => h) (Or.inr ⟨by rfl, rfl⟩) (by assumption) ?_
             simp only [List.setIfInBounds_toArray, List.set_cons_zero, List.set_cons_succ])
        first
          | (refine take_at (i := 9) (v := ?_) rfl rfl (by kernel_rfl) (by kernel_rfl) (by kernel_rfl) (fun _ _ _ h => h) (Or.inl ⟨by rfl, ?hy⟩) (by assumption) ?_
             case hy => (intro wz hSw; (try dsimp only at hSw); go_simp <;> with_reducible rfl)
             simp only [List.setIfInBounds_toArray, List.set_cons_zero, List.set_cons_succ])
          | (refine take_at (i := 9) (v := undef) rfl rfl (by kernel_rfl) (by kernel_rfl) (by kernel_rfl) (fun _ _ _ h => h) (Or.inr ⟨by rfl, rfl⟩) (by assumption) ?_
             simp only [List.setIfInBounds_toArray, List.set_cons_zero, List.set_cons_succ])
        first
          | (refine take_at (i := 10) (v := ?_) rfl rfl (by kernel_rfl) (by kernel_rfl) (by kernel_rfl) (fun _ _ _ h => h) (Or.inl ⟨by rfl, ?hy⟩) (by assumption) ?_
             case hy => (intro wz hSw; (try dsimp only at hSw); go_simp <;> with_reducible rfl)
             simp only [List.setIfInBounds_toArray, List.set_cons_zero, List.set_cons_succ])
          | (refine take_at (i := 10) (v := undef) rfl rfl (by kernel_rfl) (by kernel_rfl) (by kernel_rfl) (fun _ _ _ h => h) (Or.inr ⟨by rfl, rfl⟩) (by assumption) ?_
             simp only [List.setIfInBounds_toArray, List.set_cons_zero, List.set_cons_succ])
        first
          | (refine take_at (i := 11) (v := ?_) rfl rfl (by kernel_rfl) (by kernel_rfl) (by kernel_rfl) (fun _ _ _ h => h) (Or.inl ⟨by rfl, ?hy⟩) (by assumption) ?_
             case hy => (intro wz hSw; (try dsimp only at hSw); go_simp <;> with_reducible rfl)
             simp only [List.setIfInBounds_toArray, List.set_cons_zero, List.set_cons_succ])
          | (refine take_at (i := 11) (v := undef) rfl rfl (by kernel_rfl) (by kernel_rfl) (by kernel_rfl) (fun _ _ _ h => h) (Or.inr ⟨by rfl, rfl⟩) (by assumption) ?_
             simp only [List.setIfInBounds_toArray, List.set_cons_zero, List.set_cons_succ])
        first
          | (refine take_at (i := 12) (v := ?_) rfl rfl (by kernel_rfl) (by kernel_rfl) (by kernel_rfl) (fun _ _ _ h => h) (Or.inl ⟨by rfl, ?hy⟩) (by assumption) ?_
             case hy => (intro wz hSw; (try dsimp only at hSw); go_simp <;> with_reducible rfl)
             simp only [List.setIfInBounds_toArray, List.set_cons_zero, List.set_cons_succ])
          | (refine take_at (i := 12) (v := undef) rfl rfl (by kernel_rfl) (by kernel_rfl) (by kernel_rfl) (fun _ _ _ h => h) (Or.inr ⟨by rfl, rfl⟩) (by assumption) ?_
             simp only [List.setIfInBounds_toArray, List.set_cons_zero, List.set_cons_succ])
        first
          | (refine take_at (i := 13) (v := ?_) rfl rfl (by kernel_rfl) (by kernel_rfl) (by kernel_rfl) (fun _ _ _ h => h) (Or.inl ⟨by rfl, ?hy⟩) (by assumption) ?_
             case hy => (intro wz hSw; (try dsimp only at hSw); go_simp <;> with_reducible rfl)
             simp only [List.setIfInBounds_toArray, List.set_cons_zero, List.set_cons_succ])
          | (refine take_at (i := 13) (v := undef) rfl rfl (by kernel_rfl) (by kernel_rfl) (by kernel_rfl) (fun _ _ _ h => h) (Or.inr ⟨by rfl, rfl⟩) (by assumption) ?_
             simp only [List.setIfInBounds_toArray, List.set_cons_zero, List.set_cons_succ])
        first
          | (refine take_at (i := 14) (v := ?_) rfl rfl (by kernel_rfl) (by kernel_rfl) (by kernel_rfl) (fun _ _ _ h => h) (Or.inl ⟨by rfl, ?hy⟩) (by assumption) ?_
             case hy => (intro wz hSw; (try dsimp only at hSw); go_simp <;> with_reducible rfl)
             simp only [List.setIfInBounds_toArray, List.set_cons_zero, List.set_cons_succ])
          | (refine take_at (i := 14) (v := undef) rfl rfl (by kernel_rfl) (by kernel_rfl) (by kernel_rfl) (fun _ _ _ h => h) (Or.inr ⟨by rfl, rfl⟩) (by assumption) ?_
             simp only [List.setIfInBounds_toArray, List.set_cons_zero, List.set_cons_succ])
        first
          | (refine take_at (i := 15) (v := ?_) rfl rfl (by kernel_rfl) (by kernel_rfl) (by kernel_rfl) (fun _ _ _ h => h) (Or.inl ⟨by rfl, ?hy⟩) (by assumption) ?_
             case hy => (intro wz hSw; (try dsimp only at hSw); go_simp <;> with_reducible rfl)
             simp only [List.setIfInBounds_toArray, List.set_cons_zero, List.set_cons_succ])
          | (refine take_at (i := 15) (v := undef) rfl rfl (by kernel_rfl) (by kernel_rfl) (by kernel_rfl) (fun _ _ _ h => h) (Or.inr ⟨by rfl, rfl⟩) (by assumption) ?_
             simp only [List.setIfInBounds_toArray, List.set_cons_zero, List.set_cons_succ])
        first
          | (refine take_at (i := 16) (v := ?_) rfl rfl (by kernel_rfl) (by kernel_rfl) (by kernel_rfl) (fun _ _ _ h => h) (Or.inl ⟨by rfl, ?hy⟩) (by assumption) ?_
             case hy => (intro wz hSw; (try dsimp only at hSw); go_simp <;> with_reducible rfl)
             simp only [List.setIfInBounds_toArray, List.set_cons_zero, List.set_cons_succ])
          | (refine take_at (i := 16) (v := undef) rfl rfl (by kernel_rfl) (by kernel_rfl) (by kernel_rfl) (fun _ _ _ h => h) (Or.inr ⟨by rfl, rfl⟩) (by assumption) ?_
             simp only [List.setIfInBounds_toArray, List.set_cons_zero, List.set_cons_succ])
        first
          | (refine take_at (i := 17) (v := ?_) rfl rfl (by kernel_rfl) (by kernel_rfl) (by kernel_rfl) (fun _ _ _ h => h) (Or.inl ⟨by rfl, ?hy⟩) (by assumption) ?_
             case hy => (intro wz hSw; (try dsimp only at hSw); go_simp <;> with_reducible rfl)
             simp only [List.setIfInBounds_toArray, List.set_cons_zero, List.set_cons_succ])
          | (refine take_at (i := 17) (v := undef) rfl rfl (by kernel_rfl) (by kernel_rfl) (by kernel_rfl) (fun _ _ _ h => h) (Or.inr ⟨by rfl, rfl⟩) (by assumption) ?_
             simp only [List.setIfInBounds_toArray, List.set_cons_zero, List.set_cons_succ])
        first
          | (refine take_at (i := 18) (v := ?_) rfl rfl (by kernel_rfl) (by kernel_rfl) (by kernel_rfl) (fun _ _ _ h => h) (Or.inl ⟨by rfl, ?hy⟩) (by assumption) ?_
             case hy => (intro wz hSw; (try dsimp only at hSw); go_simp <;> with_reducible rfl)
             simp only [List.setIfInBounds_toArray, List.set_cons_zero, List.set_cons_succ])
          | (refine take_at (i := 18) (v := undef) rfl rfl (by kernel_rfl) (by kernel_rfl) (by kernel_rfl) (fun _ _ _ h => h) (Or.inr ⟨by rfl, rfl⟩) (by assumption) ?_
             simp only [List.setIfInBounds_toArray, List.set_cons_zero, List.set_cons_succ])
        first
          | (refine take_at (i := 19) (v := ?_) rfl rfl (by kernel_rfl) (by kernel_rfl) (by kernel_rfl) (fun _ _ _ h => h) (Or.inl ⟨by rfl, ?hy⟩) (by assumption) ?_
             case hy => (intro wz hSw; (try dsimp only at hSw); go_simp <;> with_reducible rfl)
             simp only [List.setIfInBounds_toArray, List.set_cons_zero, List.set_cons_succ])
          | (refine take_at (i := 19) (v := undef) rfl rfl (by kernel_rfl) (by kernel_rfl) (by kernel_rfl) (fun _ _ _ h => h) (Or.inr ⟨by rfl, rfl⟩) (by assumption) ?_
             simp only [List.setIfInBounds_toArray, List.set_cons_zero, List.set_cons_succ])
        first
          | (refine take_at (i := 20) (v := ?_) rfl rfl (by kernel_rfl) (by kernel_rfl) (by kernel_rfl) (fun _ _ _ h => h) (Or.inl ⟨by rfl, ?hy⟩) (by assumption) ?_
             case hy => (intro wz hSw; (try dsimp only at hSw); go_simp <;> with_reducible rfl)
             simp only [List.setIfInBounds_toArray, List.set_cons_zero, List.set_cons_succ])
          | (refine take_at (i := 20) (v := undef) rfl rfl (by kernel_rfl) (by kernel_rfl) (by kernel_rfl) (fun _ _ _ h => h) (Or.inr ⟨by rfl, rfl⟩) (by assumption) ?_
             simp only [List.setIfInBounds_toArray, List.set_cons_zero, List.set_cons_succ])
        first
          | (refine take_at (i := 21) (v := ?_) rfl rfl (by kernel_rfl) (by kernel_rfl) (by kernel_rfl) (fun _ _ _ h => h) (Or.inl ⟨by rfl, ?hy⟩) (by assumption) ?_
             case hy => (intro wz hSw; (try dsimp only at hSw); go_simp <;> with_reducible rfl)
             simp only [List.setIfInBounds_toArray, List.set_cons_zero, List.set_cons_succ])
          | (refine take_at (i := 21) (v := undef) rfl rfl (by kernel_rfl) (by kernel_rfl) (by kernel_rfl) (fun _ _ _ h => h) (Or.inr ⟨by rfl, rfl⟩) (by assumption) ?_
             simp only [List.setIfInBounds_toArray, List.set_cons_zero, List.set_cons_succ])
        refine wpAnyH_done (by kernel_rfl) ?_ _
        try
          rw [show (IntKind.u64.wrap M' != M') = false by rw [wrap_own M' o0 (by omega)]; exact bne_self_eq_false M']
        clear k1 k2 k3 k4 cf4 cf7 cg4 cg7 o0 o1
        replace HD := Lib.hid (HD.out.ext hHeld)
        replace HF := Lib.hid (HF.out.ext hHeld)
        replace HG := Lib.hid (HG.out.ext hHeld)
        have HLE := Lib.hid HSC.out.len
        have HA2 := Lib.hid HSC.out.at_
        clear hHeld HSC
        go_wp2
        exact ⟨⟨k + 1, by omega, by go_num, f, lv2, log2, lv3, _, HD.out, HF.out, HG.out, HRG.out, HA2.out, HM'.out, by have := HLE.out; omega⟩, by simp [intOf]; omega⟩
theorem ofW64 (a : Int) (w : World) (h : 0 ≤ a ∧ a < 18446744073709551616) : Calls Tryz.prog 64 #[.int .u64 a] w fun e w' => e = .returned (.int .u64 a) ∧ w = w' := by
  first
    | exact ofU64 a w h.1 h.2
    | (have h1 := ofU64 a w
       rwa [Int.emod_eq_of_lt h.1 h.2] at h1)
theorem gtLeast64_zero (b : Nat) (a : Option Addr) (c : Nat) (w : World) : Calls Tryz.prog 67 #[.pointer (some ⟨b, 0, none⟩), .slice a 0 c] w fun e w' => e = .returned (.int .u64 0) ∧ w = w' := by
  go_enter Tryz.func67, Tryz.ntmps67
  go_wp2
  go_ret
  exact ⟨rfl, rfl⟩
/-- the least of gates, on either side -/
theorem pLeast64 {b g : Nat} {y : LY} {f : Nat → Int} {lv : Value} {log : List Acc} {ups : List (List Int)} {v : Value} {xs : List Int} {w : World} (K : BK y ups) (h : BW w 152 b g y f lv log ups) (E : Parts w) (hv : IntsV w v xs) (hx : Gts y.n xs) (hf : Rgs64 f) :
    Calls Tryz.prog 67 #[.pointer (some ⟨b, 0, none⟩), v] w fun e w' => e = .returned (.int .u64 (leastP D64 (fun i => f (xs.getD i 0).toNat) xs.length)) ∧ Ext w w' := by
  by_cases h0 : xs.length = 0
  · obtain ⟨a, c, e, -⟩ := hv.form
    rw [h0] at e ⊢
    subst e
    refine (gtLeast64_zero b a c w).mono ?_
    rintro e w' ⟨rfl, rfl⟩
    exact ⟨rfl, Ext.refl _⟩
  · have hc := gtLeast64 b g y f lv log ups v xs (fun i => (xs.getD i 0).toNat) w h.B K h.O.lists E hv (by omega) hx.len (fun i hi => by
      obtain ⟨c, hc, hcn⟩ := hx.at_ i hi
      rw [hc]
      exact ⟨rfl, (K.gate c hcn).1⟩) hf
    obtain ⟨k, hk⟩ : ∃ k, xs.length = k + 1 := ⟨xs.length - 1, by omega⟩
    rw [hk] at hc ⊢
    rw [least_eq64]
    exact hc
theorem dLeast64 {b' : Nat} {y : LY} {r : RY} {f : Nat → Int} {lv' : Value} {log : List Acc} {ups : List (List Int)} {v : Value} {xs : List Int} {w : World} (K : BK y ups) (R : Rel y r 64) (h : RB w b' r f lv' log) (hv : IntsV w v xs) (hx : Gts y.n xs) (hf : Rgs64 f) :
    Calls Tryz.prog 62 #[.pointer (some ⟨b', 0, none⟩), v] w fun e w' => e = .returned (.int .u64 (leastP D64 (fun i => f (xs.getD i 0).toNat) xs.length)) ∧ Ext w w' :=
  rGtLeast_64 b' r f lv' log v xs w h hv (fun i hi => by
    obtain ⟨c, hc, hcn⟩ := hx.at_ i hi
    exact ⟨c, hc, by rw [R.m]; exact (K.gate c hcn).2⟩) (fun i => (hf i).1) hx.len R.w
theorem leastP_rg64 {f : Nat → Int} (hf : Rgs64 f) (q : Nat → Nat) : ∀ k, 0 ≤ leastP D64 (fun i => f (q i)) k ∧ leastP D64 (fun i => f (q i)) k < 18446744073709551616
  | 0 => ⟨Int.le_refl _, by show (0 : Int) < 18446744073709551616; decide⟩
  | k + 1 => by
    unfold leastP
    split
    · exact hf _
    · exact leastP_rg64 hf q k
set_option maxRecDepth 100000 in
theorem gsPlayed64 (V C P S : Int) (a : Option Addr) (cap : Nat) (ups : List (List Int)) (cv : Value) (xs : List Int) (a2 : Option Addr) (len2 cap2 : Nat) (zs : List (Int × Int)) (w : World) (h : ListsV w (.slice a ups.length cap) ups) (hv : IntsV w cv xs) (hx : Gts ups.length xs) (hT : IsTwos .i64 w a2 len2 cap2 zs) (E : Parts w) (hll : ∀ l ∈ ups, l.length ≤ 1000000) (hn : ups.length ≤ 1000000) (hg : ckC V 64 C P ups = 0) (h100 : len2 ≤ 100) (hS0 : 0 ≤ S) (hS1 : S < 18446744073709551616) :
    Calls Tryz.prog 17 #[(.agg #[.int .i64 V, .int .i64 64, .int .i64 C, .int .i64 P, .int .u64 (S), .slice a ups.length cap]), cv, .slice a2 len2 cap2] w fun e w' => e = .returned (.bool true) ∧ Ext w w' := by
  have CO := Lib.hid (fun w' (hx : Ext w w') => of_board V 64 C P S _ ups w' (h.ext hx) hll hn hg)
  have CN := Lib.hid (fun (y : LY) w' (K : BK y ups) hw hL h0 h1 => new_board64 y ups w' K hw hL h0 h1)
  have CR := Lib.hid (fun (y : LY) w' (K : BK y ups) hy => rnew_board V 64 C P S a cap y ups w' K hy hS0)
  have HV := Lib.hid hv
  have HGX := Lib.hid hx
  obtain ⟨hz1, hz2, hz3, hz4, hz5⟩ := hT
  have hrow : ∀ i, i < len2 → ∃ b off, a2 = some ⟨b, off, none⟩ ∧ w.cell? ⟨b, off + i * 2, none⟩ = some (.int .i64 (zs.getD i (0, 0)).1) ∧ w.cell? ⟨b, off + i * 2 + 1, none⟩ = some (.int .i64 (zs.getD i (0, 0)).2) := by
    intro i hi
    rcases hz5 with e | ⟨b, off, e, hc⟩
    · rw [e] at hz1; simp at hz1; omega
    · exact ⟨b, off, e, hc i (by omega)⟩
  have HROW := Lib.hid hrow
  have HE := Lib.hid (fun w' (hx : Ext w w') => E.ext hx)
  have HS := Lib.hid (And.intro hS0 hS1)
  obtain ⟨n, hn0⟩ : ∃ n, n = ups.length := ⟨_, rfl⟩
  have HN0 := Lib.hid hn0
  have hn6 : ups.length ≤ 6 := (ok_iff.1 hg).rt.six
  have hn6' : (n : Int) ≤ 6 := by omega
  rw [← hn0] at CO CR ⊢
  clear h hv hx hz1 hz2 hz3 hz4 hz5 hrow E hll hn hg hn0 hS0 hS1 hn6
  go_enter Tryz.func17, Tryz.ntmps17
  go_wp2_with fail
  refine (CO.out _ (by repeat (first | with_reducible exact Ext.refl _ | with_reducible assumption | with_reducible refine Ext.alloc ?_ _ | with_reducible refine Ext.drew ?_ | with_reducible refine Ext.drewN ?_ _ | with_reducible refine Ext.setCell ?_ (by simp <;> omega) _ | with_reducible refine Ext.trans ?_ (by assumption)))).mono ?_
  rintro e wo ⟨y0, K0, o0, rfl, O0, Xo⟩
  have XO : Ext w wo := Ext.trans ((Ext.refl w).alloc _) Xo
  have qc_0 : wo.cell? ⟨w.heap.size, 0, none⟩ = some (.int .i64 V) := Xo.cell (by simp [go_sem])
  have qc_1 : wo.cell? ⟨w.heap.size, 1, none⟩ = some (.int .i64 64) := Xo.cell (by simp [go_sem])
  have qc_2 : wo.cell? ⟨w.heap.size, 2, none⟩ = some (.int .i64 C) := Xo.cell (by simp [go_sem])
  have qc_3 : wo.cell? ⟨w.heap.size, 3, none⟩ = some (.int .i64 P) := Xo.cell (by simp [go_sem])
  have qc_4 : wo.cell? ⟨w.heap.size, 4, none⟩ = some (.int .u64 S) := Xo.cell (by simp [go_sem])
  have qc_5 : wo.cell? ⟨w.heap.size, 5, none⟩ = some (.slice a n cap) := Xo.cell (by simp [go_sem])
  have HK0 := Lib.hid K0
  have Ho0 := Lib.hid o0
  have HO0 := Lib.hid O0
  have HXO := Lib.hid XO
  clear K0 o0 O0 XO Xo
  go_upto_region 2 with (fail)
  refine settle_wp ?_
  intro wA hbA
  have ql_0 : wA.cell? ⟨wo.heap.size, 0, none⟩ = some (.int .i64 y0.V) := hbA.cell (by simp [go_sem])
  have ql_1 : wA.cell? ⟨wo.heap.size, 1, none⟩ = some (.int .i64 y0.W) := hbA.cell (by simp [go_sem])
  have ql_2 : wA.cell? ⟨wo.heap.size, 2, none⟩ = some (.int .i64 y0.C) := hbA.cell (by simp [go_sem])
  have ql_3 : wA.cell? ⟨wo.heap.size, 3, none⟩ = some (.int .i64 y0.P) := hbA.cell (by simp [go_sem])
  have ql_4 : wA.cell? ⟨wo.heap.size, 4, none⟩ = some (.int .u64 y0.S) := hbA.cell (by simp [go_sem])
  have ql_5 : wA.cell? ⟨wo.heap.size, 5, none⟩ = some (.slice y0.a y0.n y0.cap) := hbA.cell (by simp [go_sem])
  have ql_6 : wA.cell? ⟨wo.heap.size, 6, none⟩ = some (.int .i64 y0.Cu) := hbA.cell (by simp [go_sem])
  have ql_7 : wA.cell? ⟨wo.heap.size, 7, none⟩ = some (.int .i64 y0.Cl) := hbA.cell (by simp [go_sem])
  have ql_8 : wA.cell? ⟨wo.heap.size, 8, none⟩ = some (.int .i64 y0.Ti) := hbA.cell (by simp [go_sem])
  have ql_9 : wA.cell? ⟨wo.heap.size, 9, none⟩ = some (.int .i64 y0.Se) := hbA.cell (by simp [go_sem])
  have ql_10 : wA.cell? ⟨wo.heap.size, 10, none⟩ = some (.int .i64 y0.Ne) := hbA.cell (by simp [go_sem])
  have ql_11 : wA.cell? ⟨wo.heap.size, 11, none⟩ = some (.int .i64 y0.Ma) := hbA.cell (by simp [go_sem])
  have ql_12 : wA.cell? ⟨wo.heap.size, 12, none⟩ = some (.int .i64 y0.Sl) := hbA.cell (by simp [go_sem])
  have ql_13 : wA.cell? ⟨wo.heap.size, 13, none⟩ = some (.int .i64 y0.m) := hbA.cell (by simp [go_sem])
  have XA : Ext wo wA := Ext.trans ((Ext.refl wo).alloc _) hbA
  replace qc_0 := XA.cell qc_0
  replace qc_1 := XA.cell qc_1
  replace qc_2 := XA.cell qc_2
  replace qc_3 := XA.cell qc_3
  replace qc_4 := XA.cell qc_4
  replace qc_5 := XA.cell qc_5
  have HXA := Lib.hid (HXO.out.trans XA)
  have HOA := Lib.hid (HO0.out.ext XA)
  clear hbA XA HXO HO0 CO
  have l_0 := fun w' (hx : Ext wA w') => hx.cell ql_0
  have l_1 := fun w' (hx : Ext wA w') => hx.cell ql_1
  have l_2 := fun w' (hx : Ext wA w') => hx.cell ql_2
  have l_3 := fun w' (hx : Ext wA w') => hx.cell ql_3
  have l_4 := fun w' (hx : Ext wA w') => hx.cell ql_4
  have l_5 := fun w' (hx : Ext wA w') => hx.cell ql_5
  have l_6 := fun w' (hx : Ext wA w') => hx.cell ql_6
  have l_7 := fun w' (hx : Ext wA w') => hx.cell ql_7
  have l_8 := fun w' (hx : Ext wA w') => hx.cell ql_8
  have l_9 := fun w' (hx : Ext wA w') => hx.cell ql_9
  have l_10 := fun w' (hx : Ext wA w') => hx.cell ql_10
  have l_11 := fun w' (hx : Ext wA w') => hx.cell ql_11
  have l_12 := fun w' (hx : Ext wA w') => hx.cell ql_12
  have l_13 := fun w' (hx : Ext wA w') => hx.cell ql_13
  have c_0 := fun w' (hx : Ext wA w') => hx.cell qc_0
  have c_1 := fun w' (hx : Ext wA w') => hx.cell qc_1
  have c_2 := fun w' (hx : Ext wA w') => hx.cell qc_2
  have c_3 := fun w' (hx : Ext wA w') => hx.cell qc_3
  have c_4 := fun w' (hx : Ext wA w') => hx.cell qc_4
  have c_5 := fun w' (hx : Ext wA w') => hx.cell qc_5
  refine wp_region_held_drew (S := fun w' => Ext wA w') (by kernel_rfl) ?hbeg (fun hHeld => ?_)
  case hbeg => exact (Ext.refl wA).drew
  have hHeld0 : Ext wA wA := by first | exact Ext.refl _ | assumption
  first
    | (refine take_at (i := 0) (v := ?_) rfl rfl (by kernel_rfl) (by kernel_rfl) (by kernel_rfl) (fun _ _ _ h => h) (Or.inl ⟨by rfl, ?hy⟩) (by assumption) ?_
       case hy => (intro wz hSw; (try dsimp only at hSw); go_simp <;> with_reducible rfl)
       simp only [List.setIfInBounds_toArray, List.set_cons_zero, List.set_cons_succ])
    | (refine take_at (i := 0) (v := undef) rfl rfl (by kernel_rfl) (by kernel_rfl) (by kernel_rfl) (fun _ _ _ h => h) (Or.inr ⟨by rfl, rfl⟩) (by assumption) ?_
       simp only [List.setIfInBounds_toArray, List.set_cons_zero, List.set_cons_succ])
  first
    | (refine take_at (i := 2) (v := ?_) rfl rfl (by kernel_rfl) (by kernel_rfl) (by kernel_rfl) (fun _ _ _ h => h) (Or.inl ⟨by rfl, ?hy⟩) (by assumption) ?_
       case hy => (intro wz hSw; (try dsimp only at hSw); go_simp <;> with_reducible rfl)
       simp only [List.setIfInBounds_toArray, List.set_cons_zero, List.set_cons_succ])
    | (refine take_at (i := 2) (v := undef) rfl rfl (by kernel_rfl) (by kernel_rfl) (by kernel_rfl) (fun _ _ _ h => h) (Or.inr ⟨by rfl, rfl⟩) (by assumption) ?_
       simp only [List.setIfInBounds_toArray, List.set_cons_zero, List.set_cons_succ])
  clear l_0 l_1 l_2 l_3 l_4 l_5 l_6 l_7 l_8 l_9 l_10 l_11 l_12 l_13 c_0 c_1 c_2 c_3 c_4 c_5 ql_0 ql_1 ql_2 ql_3 ql_4 ql_5 ql_6 ql_7 ql_8 ql_9 ql_10 ql_11 ql_12 ql_13 qc_0 qc_2 qc_3 qc_4
  refine call_at (i := 1) (F := 42) (CN.out y0 _ HK0.out Ho0.out.w (HOA.out.ext hHeld) (by rw [Ho0.out.s]; exact HS.out.1) (by rw [Ho0.out.s]; exact HS.out.2)) rfl rfl (by kernel_rfl) (by rfl) (by first | rfl | (go_simp <;> rfl)) ?_
  rintro e w3 ⟨b, g, y, rfl, K, o, B, X3, hb3, hg3⟩
  replace hHeld := hHeld.trans X3
  refine ⟨_, rfl, hHeld, ?_⟩
  simp only [List.setIfInBounds_toArray, List.set_cons_zero, List.set_cons_succ]
  have oy : OfC y V 64 C P S n := ⟨o.v.trans Ho0.out.v, o.w.trans Ho0.out.w, o.c.trans Ho0.out.c, o.p.trans Ho0.out.p, o.s.trans Ho0.out.s, o.n.trans (Ho0.out.n.trans HN0.out.symm)⟩
  refine call_at (i := 3) (F := 19) (CR.out y _ K oy) rfl rfl (by kernel_rfl) (by rfl) (by first | rfl | (go_simp <;> rfl)) ?_
  rintro e w4 ⟨b', r, rfl, R4, rel, rV, rn, -, -, X4, hb4, hg4⟩
  replace hHeld := hHeld.trans X4
  refine ⟨_, rfl, hHeld, ?_⟩
  simp only [List.setIfInBounds_toArray, List.set_cons_zero, List.set_cons_succ]
  first
    | (refine take_at (i := 4) (v := ?_) rfl rfl (by kernel_rfl) (by kernel_rfl) (by kernel_rfl) (fun _ _ _ h => h) (Or.inl ⟨by rfl, ?hy⟩) (by assumption) ?_
       case hy => (intro wz hSw; (try dsimp only at hSw); go_simp <;> with_reducible rfl)
       simp only [List.setIfInBounds_toArray, List.set_cons_zero, List.set_cons_succ])
    | (refine take_at (i := 4) (v := undef) rfl rfl (by kernel_rfl) (by kernel_rfl) (by kernel_rfl) (fun _ _ _ h => h) (Or.inr ⟨by rfl, rfl⟩) (by assumption) ?_
       simp only [List.setIfInBounds_toArray, List.set_cons_zero, List.set_cons_succ])
  first
    | (refine take_at (i := 5) (v := ?_) rfl rfl (by kernel_rfl) (by kernel_rfl) (by kernel_rfl) (fun _ _ _ h => h) (Or.inl ⟨by rfl, ?hy⟩) (by assumption) ?_
       case hy => (intro wz hSw; (try dsimp only at hSw); go_simp <;> with_reducible rfl)
       simp only [List.setIfInBounds_toArray, List.set_cons_zero, List.set_cons_succ])
    | (refine take_at (i := 5) (v := undef) rfl rfl (by kernel_rfl) (by kernel_rfl) (by kernel_rfl) (fun _ _ _ h => h) (Or.inr ⟨by rfl, rfl⟩) (by assumption) ?_
       simp only [List.setIfInBounds_toArray, List.set_cons_zero, List.set_cons_succ])
  refine wpAnyH_done (by kernel_rfl) ?_ _
  have hsA : wA.heap.size ≤ wA.drew.heap.size := ((Ext.refl wA).drew).size
  have HT := Lib.hid (two_new B.B (Ext.trans (Ext.refl wA).drew X3) (Nat.le_trans hsA hb3) (Nat.le_trans hsA hg3) R4 X4 hb4 hg4)
  have HO4 := Lib.hid (B.O.ext X4)
  have HK := Lib.hid K
  have hyn : y.n = n := oy.n
  have HGY : Hid (Gts y.n xs) := Lib.hid (by rw [hyn, HN0.out]; exact HGX.out)
  have HREL : Hid (Rel y r 64) := Lib.hid (by rw [← oy.w]; exact rel)
  have HRG := Lib.hid (rgs_first64 K oy.w (by rw [oy.s]; exact HS.out.1) (by rw [oy.s]; exact HS.out.2))
  generalize fsC y.V y.W y.C y.S y.n = F0 at *
  have Hyn := Lib.hid hyn
  have HC1 := Lib.hid qc_1
  have HC5 := Lib.hid qc_5
  clear hyn hsA B X3 hb3 hg3 R4 X4 hb4 hg4 K o oy rel rV rn hHeld HK0 Ho0 HOA CN CR HS
  replace qc_1 := HT.out.ex.cell qc_1
  replace qc_5 := HT.out.ex.cell qc_5
  go_upto_region 5 with (fail)
  go_upto_region 6 with (fail)
  refine settle_wp ?_
  intro w6 hb6
  have X46 : Ext w4 w6 := Ext.trans (by repeat (first | with_reducible exact Ext.refl _ | with_reducible assumption | with_reducible refine Ext.alloc ?_ _ | with_reducible refine Ext.drew ?_ | with_reducible refine Ext.drewN ?_ _ | with_reducible refine Ext.setCell ?_ (by simp <;> omega) _ | with_reducible refine Ext.trans ?_ (by assumption))) hb6
  have T1 : Tag w6 w4.heap.size 99 := Tag.ext (by repeat (first | exact Tag.new _ _ _ | refine Tag.set ?_ | refine Tag.ext ?_ ((Ext.refl _).alloc _))) hb6
  have T2 : Tag w6 (w4.heap.size + 1) 110 := Tag.ext (by repeat (first | exact Tag.new2 _ _ _ _ | refine Tag.set ?_)) hb6
  have V1 : VA 11 w6 w4.heap.size (fmV64 (fun _ => Fm.nil)) := va11 (fun j hj => by
    have h11 : j = 0 ∨ j = 1 ∨ j = 2 ∨ j = 3 ∨ j = 4 ∨ j = 5 ∨ j = 6 ∨ j = 7 ∨ j = 8 ∨ j = 9 ∨ j = 10 := by omega
    rcases h11 with rfl | rfl | rfl | rfl | rfl | rfl | rfl | rfl | rfl | rfl | rfl <;> exact ⟨hb6.cell (by simp [go_sem]; rfl), hb6.frozen (by simp [go_sem]; rfl) (by simp [go_sem])⟩)
  have V2 : VA 11 w6 (w4.heap.size + 1) (fmV64 (fun _ => Fm.nil)) := va11 (fun j hj => by
    have h11 : j = 0 ∨ j = 1 ∨ j = 2 ∨ j = 3 ∨ j = 4 ∨ j = 5 ∨ j = 6 ∨ j = 7 ∨ j = 8 ∨ j = 9 ∨ j = 10 := by omega
    rcases h11 with rfl | rfl | rfl | rfl | rfl | rfl | rfl | rfl | rfl | rfl | rfl <;> exact ⟨hb6.cell (by simp [go_sem]; rfl), hb6.frozen (by simp [go_sem]; rfl) (by simp [go_sem])⟩)
  have far : ∀ k, w4.heap.size ≤ k → k < w6.heap.size → Far b g (.slice none 0 0) b' r (.slice none 0 0) wA w6 k := fun k hk hk2 =>
    ⟨fun e => by have := HT.out.B.lt e; omega, fun e => by have := HT.out.R.lt e; omega, fun e => by have := tag_lt HT.out.R.tc; omega, by have := HT.out.ex.size; omega, hk2⟩
  have hl1 := tag_lt T1
  have hl2 := tag_lt T2
  have HD : Hid (Duo 152 wA w6 b g y F0 (.slice none 0 0) [] b' r F0 (.slice none 0 0) [] ups) := Lib.hid ⟨HT.out.ext X46, HO4.out.ext X46⟩
  have HF : Hid (Sd b g (.slice none 0 0) b' r (.slice none 0 0) wA w6 w4.heap.size 11 (fmV64 (fun _ => Fm.nil))) := Lib.hid ⟨V1, ⟨_, T1, by decide, by decide⟩, far _ (Nat.le_refl _) hl1⟩
  have HG : Hid (Sd b g (.slice none 0 0) b' r (.slice none 0 0) wA w6 (w4.heap.size + 1) 11 (fmV64 (fun _ => Fm.nil))) := Lib.hid ⟨V2, ⟨_, T2, by decide, by decide⟩, far _ (Nat.le_succ _) hl2⟩
  clear hb6 X46 T1 T2 V1 V2 far hl1 hl2 HT HO4
  generalize hgb : w4.heap.size + 1 = gb at *
  generalize w4.heap.size = fb at *
  have hne : fb ≠ gb := by omega
  clear hgb
  go_wp2
  go_loopw [13] (fun i wr => ∃ k : Nat, k ≤ len2 ∧ i = .int .i64 k ∧ ∃ f lv log lv' F, Duo 152 wA wr b g y f lv log b' r f lv' log ups ∧ Sd b g lv b' r lv' wA wr fb 11 (fmV64 F) ∧ Sd b g lv b' r lv' wA wr gb 11 (fmV64 F) ∧ Rgs64 f ∧ ScAt xs (F 0).I ∧ (0 ≤ (F 0).Mn ∧ (F 0).Mn < 18446744073709551616) ∧ log.length ≤ k) (fun i _ => len2 - (intOf i).toNat)
  case atStart => exact ⟨0, Nat.zero_le _, rfl, _, _, _, _, _, HD.out, HF.out, HG.out, HRG.out, ScAt.zero xs, ⟨Int.le_refl _, by decide⟩, Nat.le_refl _⟩
  case round =>
    obtain ⟨k, hk, rfl, f, lv, log, lv', F, hD, hF, hG, hrg, hat, hmn, hlg⟩ := hrel
    clear HD HF HG HRG
    have HD := Lib.hid hD
    have HF := Lib.hid hF
    have HG := Lib.hid hG
    have HRG := Lib.hid hrg
    have HAT := Lib.hid hat
    have HMN := Lib.hid hmn
    have HXR := Lib.hid (HXA.out.trans hD.T.ex)
    clear hD hF hG hrg hat hmn
    by_cases hlt : k < len2
    case neg =>
      obtain rfl : k = len2 := by omega
      obtain ⟨al, cal, el, -⟩ := rowA_form HD.out.T.R.row
      subst el
      have q8 := HD.out.T.R.q8
      have hl1000 : log.length ≤ 1000 := by omega
      have CPL := Lib.hid (fun w' (hx : Ext wr w') => pLeast64 HK.out (BW.mk (HD.out.T.ext hx).B (HD.out.ol.ext hx)) (HE.out _ (HXR.out.trans hx)) (HV.out.ext (HXR.out.trans hx)) HGY.out HRG.out)
      have CDL := Lib.hid (fun w' (hx : Ext wr w') => dLeast64 HK.out HREL.out (HD.out.T.ext hx).R (HV.out.ext (HXR.out.trans hx)) HGY.out HRG.out)
      have hL := leastP_rg64 HRG.out (fun i => (xs.getD i 0).toNat) xs.length
      generalize leastP D64 (fun i => f (xs.getD i 0).toNat) xs.length = L at *
      obtain ⟨L0, L1⟩ := hL
      clear qc_1 qc_5
      go_upto_region 19 with (fail)
      have k8 := fun w' (hx : Ext wr w') => hx.cell q8
      refine wp_region_held_drew (S := fun w' => Ext wr w') (by kernel_rfl) ?hbeg (fun hHeld => ?_)
      case hbeg => exact (Ext.refl wr).drew
      have hHeld0 : Ext wr wr := by first | exact Ext.refl _ | assumption
      first
        | (refine take_at (i := 0) (v := ?_) rfl rfl (by kernel_rfl) (by kernel_rfl) (by kernel_rfl) (fun _ _ _ h => h) (Or.inl ⟨by rfl, ?hy⟩) (by assumption) ?_
           case hy => (intro wz hSw; (try dsimp only at hSw); go_simp <;> with_reducible rfl)
           simp only [List.setIfInBounds_toArray, List.set_cons_zero, List.set_cons_succ])
        | (refine take_at (i := 0) (v := undef) rfl rfl (by kernel_rfl) (by kernel_rfl) (by kernel_rfl) (fun _ _ _ h => h) (Or.inr ⟨by rfl, rfl⟩) (by assumption) ?_
           simp only [List.setIfInBounds_toArray, List.set_cons_zero, List.set_cons_succ])
      first
        | (refine take_at (i := 2) (v := ?_) rfl rfl (by kernel_rfl) (by kernel_rfl) (by kernel_rfl) (fun _ _ _ h => h) (Or.inl ⟨by rfl, ?hy⟩) (by assumption) ?_
           case hy => (intro wz hSw; (try dsimp only at hSw); go_simp <;> with_reducible rfl)
           simp only [List.setIfInBounds_toArray, List.set_cons_zero, List.set_cons_succ])
        | (refine take_at (i := 2) (v := undef) rfl rfl (by kernel_rfl) (by kernel_rfl) (by kernel_rfl) (fun _ _ _ h => h) (Or.inr ⟨by rfl, rfl⟩) (by assumption) ?_
           simp only [List.setIfInBounds_toArray, List.set_cons_zero, List.set_cons_succ])
      first
        | (refine take_at (i := 3) (v := ?_) rfl rfl (by kernel_rfl) (by kernel_rfl) (by kernel_rfl) (fun _ _ _ h => h) (Or.inl ⟨by rfl, ?hy⟩) (by assumption) ?_
           case hy => (intro wz hSw; (try dsimp only at hSw); go_simp <;> with_reducible rfl)
           simp only [List.setIfInBounds_toArray, List.set_cons_zero, List.set_cons_succ])
        | (refine take_at (i := 3) (v := undef) rfl rfl (by kernel_rfl) (by kernel_rfl) (by kernel_rfl) (fun _ _ _ h => h) (Or.inr ⟨by rfl, rfl⟩) (by assumption) ?_
           simp only [List.setIfInBounds_toArray, List.set_cons_zero, List.set_cons_succ])
      first
        | (refine take_at (i := 4) (v := ?_) rfl rfl (by kernel_rfl) (by kernel_rfl) (by kernel_rfl) (fun _ _ _ h => h) (Or.inl ⟨by rfl, ?hy⟩) (by assumption) ?_
           case hy => (intro wz hSw; (try dsimp only at hSw); go_simp <;> with_reducible rfl)
           simp only [List.setIfInBounds_toArray, List.set_cons_zero, List.set_cons_succ])
        | (refine take_at (i := 4) (v := undef) rfl rfl (by kernel_rfl) (by kernel_rfl) (by kernel_rfl) (fun _ _ _ h => h) (Or.inr ⟨by rfl, rfl⟩) (by assumption) ?_
           simp only [List.setIfInBounds_toArray, List.set_cons_zero, List.set_cons_succ])
      first
        | (refine take_at (i := 5) (v := ?_) rfl rfl (by kernel_rfl) (by kernel_rfl) (by kernel_rfl) (fun _ _ _ h => h) (Or.inl ⟨by rfl, ?hy⟩) (by assumption) ?_
           case hy => (intro wz hSw; (try dsimp only at hSw); go_simp <;> with_reducible rfl)
           simp only [List.setIfInBounds_toArray, List.set_cons_zero, List.set_cons_succ])
        | (refine take_at (i := 5) (v := undef) rfl rfl (by kernel_rfl) (by kernel_rfl) (by kernel_rfl) (fun _ _ _ h => h) (Or.inr ⟨by rfl, rfl⟩) (by assumption) ?_
           simp only [List.setIfInBounds_toArray, List.set_cons_zero, List.set_cons_succ])
      refine call_at (i := 1) (F := 66) (Log64 b g y f lv log _ (HD.out.T.ext hHeld).B hl1000) rfl rfl (by kernel_rfl) (by rfl) (by first | rfl | (go_simp <;> rfl)) ?_
      rintro e wq11 ⟨vq11, rfl, Rq11, Xq11⟩
      have Yq11 := Ext.trans hHeld Xq11
      refine ⟨_, rfl, Yq11, wpAnyH_strong (S' := fun w' => Ext wq11 w') (fun w' h => Ext.trans Yq11 h) _ _ _ _ ?_⟩
      simp only [List.setIfInBounds_toArray, List.set_cons_zero, List.set_cons_succ]
      have Zq11 : Ext wr wq11 := Ext.trans (by assumption) Yq11
      clear hHeld Xq11 Yq11
      have hHeld := Ext.refl wq11
      refine call_at (i := 6) (F := 60) (rSame12 _ 0 vq11 _ log _ Rq11 (HD.out.T.ext Zq11).R.row hl1000) rfl rfl (by kernel_rfl) (by rfl) (by first | rfl | (go_simp <;> rfl)) ?_
      rintro e wq12 ⟨rfl, Xq12⟩
      have Yq12 := Ext.trans hHeld Xq12
      refine ⟨_, rfl, Yq12, wpAnyH_strong (S' := fun w' => Ext wq12 w') (fun w' h => Ext.trans Yq12 h) _ _ _ _ ?_⟩
      simp only [List.setIfInBounds_toArray, List.set_cons_zero, List.set_cons_succ]
      have Zq12 : Ext wr wq12 := Ext.trans (by assumption) Yq12
      clear hHeld Xq12 Yq12
      have hHeld := Ext.refl wq12
      first
        | (refine take_at (i := 7) (v := ?_) rfl rfl (by kernel_rfl) (by kernel_rfl) (by kernel_rfl) (fun _ _ _ h => h) (Or.inl ⟨by rfl, ?hy⟩) (by assumption) ?_
           case hy => (intro wz hSw; (try dsimp only at hSw); go_simp <;> with_reducible rfl)
           simp only [List.setIfInBounds_toArray, List.set_cons_zero, List.set_cons_succ])
        | (refine take_at (i := 7) (v := undef) rfl rfl (by kernel_rfl) (by kernel_rfl) (by kernel_rfl) (fun _ _ _ h => h) (Or.inr ⟨by rfl, rfl⟩) (by assumption) ?_
           simp only [List.setIfInBounds_toArray, List.set_cons_zero, List.set_cons_succ])
      first
        | (refine take_at (i := 8) (v := ?_) rfl rfl (by kernel_rfl) (by kernel_rfl) (by kernel_rfl) (fun _ _ _ h => h) (Or.inl ⟨by rfl, ?hy⟩) (by assumption) ?_
           case hy => (intro wz hSw; (try dsimp only at hSw); go_simp <;> with_reducible rfl)
           simp only [List.setIfInBounds_toArray, List.set_cons_zero, List.set_cons_succ])
        | (refine take_at (i := 8) (v := undef) rfl rfl (by kernel_rfl) (by kernel_rfl) (by kernel_rfl) (fun _ _ _ h => h) (Or.inr ⟨by rfl, rfl⟩) (by assumption) ?_
           simp only [List.setIfInBounds_toArray, List.set_cons_zero, List.set_cons_succ])
      first
        | (refine take_at (i := 9) (v := ?_) rfl rfl (by kernel_rfl) (by kernel_rfl) (by kernel_rfl) (fun _ _ _ h => h) (Or.inl ⟨by rfl, ?hy⟩) (by assumption) ?_
           case hy => (intro wz hSw; (try dsimp only at hSw); go_simp <;> with_reducible rfl)
           simp only [List.setIfInBounds_toArray, List.set_cons_zero, List.set_cons_succ])
        | (refine take_at (i := 9) (v := undef) rfl rfl (by kernel_rfl) (by kernel_rfl) (by kernel_rfl) (fun _ _ _ h => h) (Or.inr ⟨by rfl, rfl⟩) (by assumption) ?_
           simp only [List.setIfInBounds_toArray, List.set_cons_zero, List.set_cons_succ])
      first
        | (refine take_at (i := 11) (v := ?_) rfl rfl (by kernel_rfl) (by kernel_rfl) (by kernel_rfl) (fun _ _ _ h => h) (Or.inl ⟨by rfl, ?hy⟩) (by assumption) ?_
           case hy => (intro wz hSw; (try dsimp only at hSw); go_simp <;> with_reducible rfl)
           simp only [List.setIfInBounds_toArray, List.set_cons_zero, List.set_cons_succ])
        | (refine take_at (i := 11) (v := undef) rfl rfl (by kernel_rfl) (by kernel_rfl) (by kernel_rfl) (fun _ _ _ h => h) (Or.inr ⟨by rfl, rfl⟩) (by assumption) ?_
           simp only [List.setIfInBounds_toArray, List.set_cons_zero, List.set_cons_succ])
      first
        | (refine take_at (i := 12) (v := ?_) rfl rfl (by kernel_rfl) (by kernel_rfl) (by kernel_rfl) (fun _ _ _ h => h) (Or.inl ⟨by rfl, ?hy⟩) (by assumption) ?_
           case hy => (intro wz hSw; (try dsimp only at hSw); go_simp <;> with_reducible rfl)
           simp only [List.setIfInBounds_toArray, List.set_cons_zero, List.set_cons_succ])
        | (refine take_at (i := 12) (v := undef) rfl rfl (by kernel_rfl) (by kernel_rfl) (by kernel_rfl) (fun _ _ _ h => h) (Or.inr ⟨by rfl, rfl⟩) (by assumption) ?_
           simp only [List.setIfInBounds_toArray, List.set_cons_zero, List.set_cons_succ])
      refine call_at (i := 10) (F := 67) (CPL.out _ Zq12) rfl rfl (by kernel_rfl) (by rfl) (by first | rfl | (go_simp <;> rfl)) ?_
      rintro e wq13 ⟨rfl, Xq13⟩
      have Yq13 := Ext.trans hHeld Xq13
      refine ⟨_, rfl, Yq13, wpAnyH_strong (S' := fun w' => Ext wq13 w') (fun w' h => Ext.trans Yq13 h) _ _ _ _ ?_⟩
      simp only [List.setIfInBounds_toArray, List.set_cons_zero, List.set_cons_succ]
      have Zq13 : Ext wr wq13 := Ext.trans (by assumption) Yq13
      clear hHeld Xq13 Yq13
      have hHeld := Ext.refl wq13
      skip
      refine call_at (i := 13) (F := 62) (CDL.out _ Zq13) rfl rfl (by kernel_rfl) (by rfl) (by first | rfl | (go_simp <;> rfl)) ?_
      rintro e wq14 ⟨rfl, Xq14⟩
      have Yq14 := Ext.trans hHeld Xq14
      refine ⟨_, rfl, Yq14, wpAnyH_strong (S' := fun w' => Ext wq14 w') (fun w' h => Ext.trans Yq14 h) _ _ _ _ ?_⟩
      simp only [List.setIfInBounds_toArray, List.set_cons_zero, List.set_cons_succ]
      have Zq14 : Ext wr wq14 := Ext.trans (by assumption) Yq14
      clear hHeld Xq14 Yq14
      have hHeld := Ext.refl wq14
      first
        | (refine take_at (i := 14) (v := ?_) rfl rfl (by kernel_rfl) (by kernel_rfl) (by kernel_rfl) (fun _ _ _ h => h) (Or.inl ⟨by rfl, ?hy⟩) (by assumption) ?_
           case hy => (intro wz hSw; (try dsimp only at hSw); go_simp <;> with_reducible rfl)
           simp only [List.setIfInBounds_toArray, List.set_cons_zero, List.set_cons_succ])
        | (refine take_at (i := 14) (v := undef) rfl rfl (by kernel_rfl) (by kernel_rfl) (by kernel_rfl) (fun _ _ _ h => h) (Or.inr ⟨by rfl, rfl⟩) (by assumption) ?_
           simp only [List.setIfInBounds_toArray, List.set_cons_zero, List.set_cons_succ])
      first
        | (refine take_at (i := 15) (v := ?_) rfl rfl (by kernel_rfl) (by kernel_rfl) (by kernel_rfl) (fun _ _ _ h => h) (Or.inl ⟨by rfl, ?hy⟩) (by assumption) ?_
           case hy => (intro wz hSw; (try dsimp only at hSw); go_simp <;> with_reducible rfl)
           simp only [List.setIfInBounds_toArray, List.set_cons_zero, List.set_cons_succ])
        | (refine take_at (i := 15) (v := undef) rfl rfl (by kernel_rfl) (by kernel_rfl) (by kernel_rfl) (fun _ _ _ h => h) (Or.inr ⟨by rfl, rfl⟩) (by assumption) ?_
           simp only [List.setIfInBounds_toArray, List.set_cons_zero, List.set_cons_succ])
      first
        | (refine take_at (i := 16) (v := ?_) rfl rfl (by kernel_rfl) (by kernel_rfl) (by kernel_rfl) (fun _ _ _ h => h) (Or.inl ⟨by rfl, ?hy⟩) (by assumption) ?_
           case hy => (intro wz hSw; (try dsimp only at hSw); go_simp <;> with_reducible rfl)
           simp only [List.setIfInBounds_toArray, List.set_cons_zero, List.set_cons_succ])
        | (refine take_at (i := 16) (v := undef) rfl rfl (by kernel_rfl) (by kernel_rfl) (by kernel_rfl) (fun _ _ _ h => h) (Or.inr ⟨by rfl, rfl⟩) (by assumption) ?_
           simp only [List.setIfInBounds_toArray, List.set_cons_zero, List.set_cons_succ])
      refine wpAnyH_done (by kernel_rfl) ?_ _
      have HX := Lib.hid (HXR.out.trans Zq14)
      try rw [show IntKind.u64.wrap L = L from wrap_own L L0 (by omega)]
      clear k8
      go_wp2
      go_ret
      first
        | exact ⟨rfl, HX.out⟩
        | exact ⟨by simp, HX.out⟩
    have hkl : (k : Int) < (len2 : Int) := by omega
    obtain ⟨rb, ro, ea, cz1, cz2⟩ := HROW.out k hlt
    subst ea
    have p1 := HD.out.T.ex.cell HC1.out
    have p5 := HD.out.T.ex.cell HC5.out
    clear qc_1 qc_5
    generalize (zs.getD k (0, 0)).1 = x at *
    generalize (zs.getD k (0, 0)).2 = m at *
    have HZ1 := Lib.hid cz1
    replace cz1 := HXR.out.cell cz1
    replace cz2 := HXR.out.cell cz2
    by_cases hs : 0 ≤ x ∧ x < n
    · obtain ⟨c, rfl⟩ : ∃ c : Nat, x = c := ⟨x.toNat, by omega⟩
      have hcn : (c : Int) < (n : Int) := hs.2
      have hcy : c < y.n := by rw [Hyn.out]; omega
      obtain ⟨hkd, hcm⟩ := HK.out.gate c hcy
      have HKD := Lib.hid hkd
      have HCM := Lib.hid hcm
      clear hs hcy hkd hcm
      go_upto_region 9 with (fail)
      have k1 := fun w' (hx : Ext wr w') => hx.cell cz1
      have k5 := fun w' (hx : Ext wr w') => hx.cell p5
      refine wp_region_held_drew (S := fun w' => Ext wr w') (by kernel_rfl) ?hbeg (fun hHeld => ?_)
      case hbeg => exact (Ext.refl wr).drew
      have hHeld0 : Ext wr wr := by first | exact Ext.refl _ | assumption
      first
        | (refine take_at (i := 0) (v := ?_) rfl rfl (by kernel_rfl) (by kernel_rfl) (by kernel_rfl) (fun _ _ _ h => h) (Or.inl ⟨by rfl, ?hy⟩) (by assumption) ?_
           case hy => (intro wz hSw; (try dsimp only at hSw); go_simp <;> with_reducible rfl)
           simp only [List.setIfInBounds_toArray, List.set_cons_zero, List.set_cons_succ])
        | (refine take_at (i := 0) (v := undef) rfl rfl (by kernel_rfl) (by kernel_rfl) (by kernel_rfl) (fun _ _ _ h => h) (Or.inr ⟨by rfl, rfl⟩) (by assumption) ?_
           simp only [List.setIfInBounds_toArray, List.set_cons_zero, List.set_cons_succ])
      first
        | (refine take_at (i := 1) (v := ?_) rfl rfl (by kernel_rfl) (by kernel_rfl) (by kernel_rfl) (fun _ _ _ h => h) (Or.inl ⟨by rfl, ?hy⟩) (by assumption) ?_
           case hy => (intro wz hSw; (try dsimp only at hSw); go_simp <;> with_reducible rfl)
           simp only [List.setIfInBounds_toArray, List.set_cons_zero, List.set_cons_succ])
        | (refine take_at (i := 1) (v := undef) rfl rfl (by kernel_rfl) (by kernel_rfl) (by kernel_rfl) (fun _ _ _ h => h) (Or.inr ⟨by rfl, rfl⟩) (by assumption) ?_
           simp only [List.setIfInBounds_toArray, List.set_cons_zero, List.set_cons_succ])
      first
        | (refine take_at (i := 2) (v := ?_) rfl rfl (by kernel_rfl) (by kernel_rfl) (by kernel_rfl) (fun _ _ _ h => h) (Or.inl ⟨by rfl, ?hy⟩) (by assumption) ?_
           case hy => (intro wz hSw; (try dsimp only at hSw); go_simp <;> with_reducible rfl)
           simp only [List.setIfInBounds_toArray, List.set_cons_zero, List.set_cons_succ])
        | (refine take_at (i := 2) (v := undef) rfl rfl (by kernel_rfl) (by kernel_rfl) (by kernel_rfl) (fun _ _ _ h => h) (Or.inr ⟨by rfl, rfl⟩) (by assumption) ?_
           simp only [List.setIfInBounds_toArray, List.set_cons_zero, List.set_cons_succ])
      first
        | (refine take_at (i := 3) (v := ?_) rfl rfl (by kernel_rfl) (by kernel_rfl) (by kernel_rfl) (fun _ _ _ h => h) (Or.inl ⟨by rfl, ?hy⟩) (by assumption) ?_
           case hy => (intro wz hSw; (try dsimp only at hSw); go_simp <;> with_reducible rfl)
           simp only [List.setIfInBounds_toArray, List.set_cons_zero, List.set_cons_succ])
        | (refine take_at (i := 3) (v := undef) rfl rfl (by kernel_rfl) (by kernel_rfl) (by kernel_rfl) (fun _ _ _ h => h) (Or.inr ⟨by rfl, rfl⟩) (by assumption) ?_
           simp only [List.setIfInBounds_toArray, List.set_cons_zero, List.set_cons_succ])
      first
        | (refine take_at (i := 4) (v := ?_) rfl rfl (by kernel_rfl) (by kernel_rfl) (by kernel_rfl) (fun _ _ _ h => h) (Or.inl ⟨by rfl, ?hy⟩) (by assumption) ?_
           case hy => (intro wz hSw; (try dsimp only at hSw); go_simp <;> with_reducible rfl)
           simp only [List.setIfInBounds_toArray, List.set_cons_zero, List.set_cons_succ])
        | (refine take_at (i := 4) (v := undef) rfl rfl (by kernel_rfl) (by kernel_rfl) (by kernel_rfl) (fun _ _ _ h => h) (Or.inr ⟨by rfl, rfl⟩) (by assumption) ?_
           simp only [List.setIfInBounds_toArray, List.set_cons_zero, List.set_cons_succ])
      first
        | (refine take_at (i := 5) (v := ?_) rfl rfl (by kernel_rfl) (by kernel_rfl) (by kernel_rfl) (fun _ _ _ h => h) (Or.inl ⟨by rfl, ?hy⟩) (by assumption) ?_
           case hy => (intro wz hSw; (try dsimp only at hSw); go_simp <;> with_reducible rfl)
           simp only [List.setIfInBounds_toArray, List.set_cons_zero, List.set_cons_succ])
        | (refine take_at (i := 5) (v := undef) rfl rfl (by kernel_rfl) (by kernel_rfl) (by kernel_rfl) (fun _ _ _ h => h) (Or.inr ⟨by rfl, rfl⟩) (by assumption) ?_
           simp only [List.setIfInBounds_toArray, List.set_cons_zero, List.set_cons_succ])
      first
        | (refine take_at (i := 6) (v := ?_) rfl rfl (by kernel_rfl) (by kernel_rfl) (by kernel_rfl) (fun _ _ _ h => h) (Or.inl ⟨by rfl, ?hy⟩) (by assumption) ?_
           case hy => (intro wz hSw; (try dsimp only at hSw); go_simp <;> with_reducible rfl)
           simp only [List.setIfInBounds_toArray, List.set_cons_zero, List.set_cons_succ])
        | (refine take_at (i := 6) (v := undef) rfl rfl (by kernel_rfl) (by kernel_rfl) (by kernel_rfl) (fun _ _ _ h => h) (Or.inr ⟨by rfl, rfl⟩) (by assumption) ?_
           simp only [List.setIfInBounds_toArray, List.set_cons_zero, List.set_cons_succ])
      first
        | (refine take_at (i := 7) (v := ?_) rfl rfl (by kernel_rfl) (by kernel_rfl) (by kernel_rfl) (fun _ _ _ h => h) (Or.inl ⟨by rfl, ?hy⟩) (by assumption) ?_
           case hy => (intro wz hSw; (try dsimp only at hSw); go_simp <;> with_reducible rfl)
           simp only [List.setIfInBounds_toArray, List.set_cons_zero, List.set_cons_succ])
        | (refine take_at (i := 7) (v := undef) rfl rfl (by kernel_rfl) (by kernel_rfl) (by kernel_rfl) (fun _ _ _ h => h) (Or.inr ⟨by rfl, rfl⟩) (by assumption) ?_
           simp only [List.setIfInBounds_toArray, List.set_cons_zero, List.set_cons_succ])
      first
        | (refine take_at (i := 8) (v := ?_) rfl rfl (by kernel_rfl) (by kernel_rfl) (by kernel_rfl) (fun _ _ _ h => h) (Or.inl ⟨by rfl, ?hy⟩) (by assumption) ?_
           case hy => (intro wz hSw; (try dsimp only at hSw); go_simp <;> with_reducible rfl)
           simp only [List.setIfInBounds_toArray, List.set_cons_zero, List.set_cons_succ])
        | (refine take_at (i := 8) (v := undef) rfl rfl (by kernel_rfl) (by kernel_rfl) (by kernel_rfl) (fun _ _ _ h => h) (Or.inr ⟨by rfl, rfl⟩) (by assumption) ?_
           simp only [List.setIfInBounds_toArray, List.set_cons_zero, List.set_cons_succ])
      first
        | (refine take_at (i := 9) (v := ?_) rfl rfl (by kernel_rfl) (by kernel_rfl) (by kernel_rfl) (fun _ _ _ h => h) (Or.inl ⟨by rfl, ?hy⟩) (by assumption) ?_
           case hy => (intro wz hSw; (try dsimp only at hSw); go_simp <;> with_reducible rfl)
           simp only [List.setIfInBounds_toArray, List.set_cons_zero, List.set_cons_succ])
        | (refine take_at (i := 9) (v := undef) rfl rfl (by kernel_rfl) (by kernel_rfl) (by kernel_rfl) (fun _ _ _ h => h) (Or.inr ⟨by rfl, rfl⟩) (by assumption) ?_
           simp only [List.setIfInBounds_toArray, List.set_cons_zero, List.set_cons_succ])
      first
        | (refine take_at (i := 10) (v := ?_) rfl rfl (by kernel_rfl) (by kernel_rfl) (by kernel_rfl) (fun _ _ _ h => h) (Or.inl ⟨by rfl, ?hy⟩) (by assumption) ?_
           case hy => (intro wz hSw; (try dsimp only at hSw); go_simp <;> with_reducible rfl)
           simp only [List.setIfInBounds_toArray, List.set_cons_zero, List.set_cons_succ])
        | (refine take_at (i := 10) (v := undef) rfl rfl (by kernel_rfl) (by kernel_rfl) (by kernel_rfl) (fun _ _ _ h => h) (Or.inr ⟨by rfl, rfl⟩) (by assumption) ?_
           simp only [List.setIfInBounds_toArray, List.set_cons_zero, List.set_cons_succ])
      first
        | (refine take_at (i := 11) (v := ?_) rfl rfl (by kernel_rfl) (by kernel_rfl) (by kernel_rfl) (fun _ _ _ h => h) (Or.inl ⟨by rfl, ?hy⟩) (by assumption) ?_
           case hy => (intro wz hSw; (try dsimp only at hSw); go_simp <;> with_reducible rfl)
           simp only [List.setIfInBounds_toArray, List.set_cons_zero, List.set_cons_succ])
        | (refine take_at (i := 11) (v := undef) rfl rfl (by kernel_rfl) (by kernel_rfl) (by kernel_rfl) (fun _ _ _ h => h) (Or.inr ⟨by rfl, rfl⟩) (by assumption) ?_
           simp only [List.setIfInBounds_toArray, List.set_cons_zero, List.set_cons_succ])
      first
        | (refine take_at (i := 12) (v := ?_) rfl rfl (by kernel_rfl) (by kernel_rfl) (by kernel_rfl) (fun _ _ _ h => h) (Or.inl ⟨by rfl, ?hy⟩) (by assumption) ?_
           case hy => (intro wz hSw; (try dsimp only at hSw); go_simp <;> with_reducible rfl)
           simp only [List.setIfInBounds_toArray, List.set_cons_zero, List.set_cons_succ])
        | (refine take_at (i := 12) (v := undef) rfl rfl (by kernel_rfl) (by kernel_rfl) (by kernel_rfl) (fun _ _ _ h => h) (Or.inr ⟨by rfl, rfl⟩) (by assumption) ?_
           simp only [List.setIfInBounds_toArray, List.set_cons_zero, List.set_cons_succ])
      first
        | (refine take_at (i := 13) (v := ?_) rfl rfl (by kernel_rfl) (by kernel_rfl) (by kernel_rfl) (fun _ _ _ h => h) (Or.inl ⟨by rfl, ?hy⟩) (by assumption) ?_
           case hy => (intro wz hSw; (try dsimp only at hSw); go_simp <;> with_reducible rfl)
           simp only [List.setIfInBounds_toArray, List.set_cons_zero, List.set_cons_succ])
        | (refine take_at (i := 13) (v := undef) rfl rfl (by kernel_rfl) (by kernel_rfl) (by kernel_rfl) (fun _ _ _ h => h) (Or.inr ⟨by rfl, rfl⟩) (by assumption) ?_
           simp only [List.setIfInBounds_toArray, List.set_cons_zero, List.set_cons_succ])
      first
        | (refine take_at (i := 14) (v := ?_) rfl rfl (by kernel_rfl) (by kernel_rfl) (by kernel_rfl) (fun _ _ _ h => h) (Or.inl ⟨by rfl, ?hy⟩) (by assumption) ?_
           case hy => (intro wz hSw; (try dsimp only at hSw); go_simp <;> with_reducible rfl)
           simp only [List.setIfInBounds_toArray, List.set_cons_zero, List.set_cons_succ])
        | (refine take_at (i := 14) (v := undef) rfl rfl (by kernel_rfl) (by kernel_rfl) (by kernel_rfl) (fun _ _ _ h => h) (Or.inr ⟨by rfl, rfl⟩) (by assumption) ?_
           simp only [List.setIfInBounds_toArray, List.set_cons_zero, List.set_cons_succ])
      first
        | (refine take_at (i := 15) (v := ?_) rfl rfl (by kernel_rfl) (by kernel_rfl) (by kernel_rfl) (fun _ _ _ h => h) (Or.inl ⟨by rfl, ?hy⟩) (by assumption) ?_
           case hy => (intro wz hSw; (try dsimp only at hSw); go_simp <;> with_reducible rfl)
           simp only [List.setIfInBounds_toArray, List.set_cons_zero, List.set_cons_succ])
        | (refine take_at (i := 15) (v := undef) rfl rfl (by kernel_rfl) (by kernel_rfl) (by kernel_rfl) (fun _ _ _ h => h) (Or.inr ⟨by rfl, rfl⟩) (by assumption) ?_
           simp only [List.setIfInBounds_toArray, List.set_cons_zero, List.set_cons_succ])
      first
        | (refine take_at (i := 16) (v := ?_) rfl rfl (by kernel_rfl) (by kernel_rfl) (by kernel_rfl) (fun _ _ _ h => h) (Or.inl ⟨by rfl, ?hy⟩) (by assumption) ?_
           case hy => (intro wz hSw; (try dsimp only at hSw); go_simp <;> with_reducible rfl)
           simp only [List.setIfInBounds_toArray, List.set_cons_zero, List.set_cons_succ])
        | (refine take_at (i := 16) (v := undef) rfl rfl (by kernel_rfl) (by kernel_rfl) (by kernel_rfl) (fun _ _ _ h => h) (Or.inr ⟨by rfl, rfl⟩) (by assumption) ?_
           simp only [List.setIfInBounds_toArray, List.set_cons_zero, List.set_cons_succ])
      refine wpAnyH_done (by kernel_rfl) ?_ _
      clear k1 k5
      have X9 := Lib.hid (Ext.drew (Ext.refl wr))
      replace HD := Lib.hid (HD.out.ext X9.out)
      replace HF := Lib.hid (HF.out.ext X9.out)
      replace HG := Lib.hid (HG.out.ext X9.out)
      replace cz1 := X9.out.cell cz1
      replace cz2 := X9.out.cell cz2
      replace p1 := X9.out.cell p1
      replace HXR := Lib.hid (HXR.out.trans X9.out)
      clear X9 hHeld p5
      generalize wr.drew = w3 at *
      go_wp2_with fail
      refine (Peek64 b g y f lv log c w3 HD.out.T.B HK.out.yok (HE.out _ HXR.out) (by rw [HKD.out]; decide)).mono ?_
      rintro e w4 ⟨rfl, X4⟩
      replace HD := Lib.hid (HD.out.ext X4)
      replace HF := Lib.hid (HF.out.ext X4)
      replace HG := Lib.hid (HG.out.ext X4)
      replace cz1 := X4.cell cz1
      replace cz2 := X4.cell cz2
      replace p1 := X4.cell p1
      replace HXR := Lib.hid (HXR.out.trans X4)
      clear X4
      have hz := plusW_rg64 (f c) m
      go_upto_region 11 with (fail)
      have k1 := fun w' (hx : Ext w4 w') => hx.cell p1
      have k2 := fun w' (hx : Ext w4 w') => hx.cell cz2
      refine wp_region_held_drew (S := fun w' => Ext w4 w') (by kernel_rfl) ?hbeg (fun hHeld => ?_)
      case hbeg => exact (Ext.refl w4).drew
      have hHeld0 : Ext w4 w4 := by first | exact Ext.refl _ | assumption
      first
        | (refine take_at (i := 0) (v := ?_) rfl rfl (by kernel_rfl) (by kernel_rfl) (by kernel_rfl) (fun _ _ _ h => h) (Or.inl ⟨by rfl, ?hy⟩) (by assumption) ?_
           case hy => (intro wz hSw; (try dsimp only at hSw); go_simp <;> with_reducible rfl)
           simp only [List.setIfInBounds_toArray, List.set_cons_zero, List.set_cons_succ])
        | (refine take_at (i := 0) (v := undef) rfl rfl (by kernel_rfl) (by kernel_rfl) (by kernel_rfl) (fun _ _ _ h => h) (Or.inr ⟨by rfl, rfl⟩) (by assumption) ?_
           simp only [List.setIfInBounds_toArray, List.set_cons_zero, List.set_cons_succ])
      first
        | (refine take_at (i := 1) (v := ?_) rfl rfl (by kernel_rfl) (by kernel_rfl) (by kernel_rfl) (fun _ _ _ h => h) (Or.inl ⟨by rfl, ?hy⟩) (by assumption) ?_
           case hy => (intro wz hSw; (try dsimp only at hSw); go_simp <;> with_reducible rfl)
           simp only [List.setIfInBounds_toArray, List.set_cons_zero, List.set_cons_succ])
        | (refine take_at (i := 1) (v := undef) rfl rfl (by kernel_rfl) (by kernel_rfl) (by kernel_rfl) (fun _ _ _ h => h) (Or.inr ⟨by rfl, rfl⟩) (by assumption) ?_
           simp only [List.setIfInBounds_toArray, List.set_cons_zero, List.set_cons_succ])
      first
        | (refine take_at (i := 2) (v := ?_) rfl rfl (by kernel_rfl) (by kernel_rfl) (by kernel_rfl) (fun _ _ _ h => h) (Or.inl ⟨by rfl, ?hy⟩) (by assumption) ?_
           case hy => (intro wz hSw; (try dsimp only at hSw); go_simp <;> with_reducible rfl)
           simp only [List.setIfInBounds_toArray, List.set_cons_zero, List.set_cons_succ])
        | (refine take_at (i := 2) (v := undef) rfl rfl (by kernel_rfl) (by kernel_rfl) (by kernel_rfl) (fun _ _ _ h => h) (Or.inr ⟨by rfl, rfl⟩) (by assumption) ?_
           simp only [List.setIfInBounds_toArray, List.set_cons_zero, List.set_cons_succ])
      first
        | (refine take_at (i := 3) (v := ?_) rfl rfl (by kernel_rfl) (by kernel_rfl) (by kernel_rfl) (fun _ _ _ h => h) (Or.inl ⟨by rfl, ?hy⟩) (by assumption) ?_
           case hy => (intro wz hSw; (try dsimp only at hSw); go_simp <;> with_reducible rfl)
           simp only [List.setIfInBounds_toArray, List.set_cons_zero, List.set_cons_succ])
        | (refine take_at (i := 3) (v := undef) rfl rfl (by kernel_rfl) (by kernel_rfl) (by kernel_rfl) (fun _ _ _ h => h) (Or.inr ⟨by rfl, rfl⟩) (by assumption) ?_
           simp only [List.setIfInBounds_toArray, List.set_cons_zero, List.set_cons_succ])
      first
        | (refine take_at (i := 4) (v := ?_) rfl rfl (by kernel_rfl) (by kernel_rfl) (by kernel_rfl) (fun _ _ _ h => h) (Or.inl ⟨by rfl, ?hy⟩) (by assumption) ?_
           case hy => (intro wz hSw; (try dsimp only at hSw); go_simp <;> with_reducible rfl)
           simp only [List.setIfInBounds_toArray, List.set_cons_zero, List.set_cons_succ])
        | (refine take_at (i := 4) (v := undef) rfl rfl (by kernel_rfl) (by kernel_rfl) (by kernel_rfl) (fun _ _ _ h => h) (Or.inr ⟨by rfl, rfl⟩) (by assumption) ?_
           simp only [List.setIfInBounds_toArray, List.set_cons_zero, List.set_cons_succ])
      first
        | (refine take_at (i := 5) (v := ?_) rfl rfl (by kernel_rfl) (by kernel_rfl) (by kernel_rfl) (fun _ _ _ h => h) (Or.inl ⟨by rfl, ?hy⟩) (by assumption) ?_
           case hy => (intro wz hSw; (try dsimp only at hSw); go_simp <;> with_reducible rfl)
           simp only [List.setIfInBounds_toArray, List.set_cons_zero, List.set_cons_succ])
        | (refine take_at (i := 5) (v := undef) rfl rfl (by kernel_rfl) (by kernel_rfl) (by kernel_rfl) (fun _ _ _ h => h) (Or.inr ⟨by rfl, rfl⟩) (by assumption) ?_
           simp only [List.setIfInBounds_toArray, List.set_cons_zero, List.set_cons_succ])
      first
        | (refine take_at (i := 6) (v := ?_) rfl rfl (by kernel_rfl) (by kernel_rfl) (by kernel_rfl) (fun _ _ _ h => h) (Or.inl ⟨by rfl, ?hy⟩) (by assumption) ?_
           case hy => (intro wz hSw; (try dsimp only at hSw); go_simp <;> with_reducible rfl)
           simp only [List.setIfInBounds_toArray, List.set_cons_zero, List.set_cons_succ])
        | (refine take_at (i := 6) (v := undef) rfl rfl (by kernel_rfl) (by kernel_rfl) (by kernel_rfl) (fun _ _ _ h => h) (Or.inr ⟨by rfl, rfl⟩) (by assumption) ?_
           simp only [List.setIfInBounds_toArray, List.set_cons_zero, List.set_cons_succ])
      first
        | (refine take_at (i := 7) (v := ?_) rfl rfl (by kernel_rfl) (by kernel_rfl) (by kernel_rfl) (fun _ _ _ h => h) (Or.inl ⟨by rfl, ?hy⟩) (by assumption) ?_
           case hy => (intro wz hSw; (try dsimp only at hSw); go_simp <;> with_reducible rfl)
           simp only [List.setIfInBounds_toArray, List.set_cons_zero, List.set_cons_succ])
        | (refine take_at (i := 7) (v := undef) rfl rfl (by kernel_rfl) (by kernel_rfl) (by kernel_rfl) (fun _ _ _ h => h) (Or.inr ⟨by rfl, rfl⟩) (by assumption) ?_
           simp only [List.setIfInBounds_toArray, List.set_cons_zero, List.set_cons_succ])
      refine call_at (i := 8) (F := 57) (wPlusW 64 (f c) m _ (by decide)) rfl rfl (by kernel_rfl) (by rfl) (by first | rfl | (go_simp <;> rfl)) ?_
      rintro e w' ⟨rfl, rfl⟩
      refine ⟨_, rfl, by assumption, ?_⟩
      simp only [List.setIfInBounds_toArray, List.set_cons_zero, List.set_cons_succ]
      first
        | (refine take_at (i := 9) (v := ?_) rfl rfl (by kernel_rfl) (by kernel_rfl) (by kernel_rfl) (fun _ _ _ h => h) (Or.inl ⟨by rfl, ?hy⟩) (by assumption) ?_
           case hy => (intro wz hSw; (try dsimp only at hSw); go_simp <;> with_reducible rfl)
           simp only [List.setIfInBounds_toArray, List.set_cons_zero, List.set_cons_succ])
        | (refine take_at (i := 9) (v := undef) rfl rfl (by kernel_rfl) (by kernel_rfl) (by kernel_rfl) (fun _ _ _ h => h) (Or.inr ⟨by rfl, rfl⟩) (by assumption) ?_
           simp only [List.setIfInBounds_toArray, List.set_cons_zero, List.set_cons_succ])
      refine wpAnyH_done (by kernel_rfl) ?_ _
      clear k1 k2 hHeld
      generalize plusW 64 (f c) m = z at *
      have X5 := Ext.drew (Ext.refl w4)
      go_upto_region 12 with (fail)
      refine settle_wp ?_
      intro w5 hb5
      replace X5 := X5.trans hb5
      replace HD := Lib.hid (HD.out.ext X5)
      replace HF := Lib.hid (HF.out.ext X5)
      replace HG := Lib.hid (HG.out.ext X5)
      replace cz1 := X5.cell cz1
      replace HXR := Lib.hid (HXR.out.trans X5)
      clear X5 hb5 cz2 p1
      have X6 := Lib.hid (Ext.drew (Ext.refl w5))
      have cz3 := X6.out.cell cz1
      have k3 := fun w' (hx : Ext w5 w') => hx.cell cz1
      refine wp_region_D (fun i => decide (i ≤ 7)) (by kernel_rfl) ?_
      refine take_D (i := 0) (v := ?_) rfl rfl rfl (by kernel_rfl) (by kernel_rfl) (by kernel_rfl) (by kernel_rfl) (by kernel_rfl) (((Ext.refl w5).drew)) ?hyp ?_
      case hyp => intro wz hSw; (try dsimp only at hSw); go_simp <;> with_reducible rfl
      simp only [List.setIfInBounds_toArray, List.set_cons_zero, List.set_cons_succ]
      refine take_D (i := 1) (v := ?_) rfl rfl rfl (by kernel_rfl) (by kernel_rfl) (by kernel_rfl) (by kernel_rfl) (by kernel_rfl) (((Ext.refl w5).drew)) ?hyp ?_
      case hyp => intro wz hSw; (try dsimp only at hSw); go_simp <;> with_reducible rfl
      simp only [List.setIfInBounds_toArray, List.set_cons_zero, List.set_cons_succ]
      refine take_D (i := 2) (v := ?_) rfl rfl rfl (by kernel_rfl) (by kernel_rfl) (by kernel_rfl) (by kernel_rfl) (by kernel_rfl) (((Ext.refl w5).drew)) ?hyp ?_
      case hyp => intro wz hSw; (try dsimp only at hSw); go_simp <;> with_reducible rfl
      simp only [List.setIfInBounds_toArray, List.set_cons_zero, List.set_cons_succ]
      refine take_D (i := 3) (v := ?_) rfl rfl rfl (by kernel_rfl) (by kernel_rfl) (by kernel_rfl) (by kernel_rfl) (by kernel_rfl) (((Ext.refl w5).drew)) ?hyp ?_
      case hyp => intro wz hSw; (try dsimp only at hSw); go_simp <;> with_reducible rfl
      simp only [List.setIfInBounds_toArray, List.set_cons_zero, List.set_cons_succ]
      refine take_D (i := 4) (v := ?_) rfl rfl rfl (by kernel_rfl) (by kernel_rfl) (by kernel_rfl) (by kernel_rfl) (by kernel_rfl) (((Ext.refl w5).drew)) ?hyp ?_
      case hyp => intro wz hSw; (try dsimp only at hSw); go_simp <;> with_reducible rfl
      simp only [List.setIfInBounds_toArray, List.set_cons_zero, List.set_cons_succ]
      refine take_D (i := 5) (v := ?_) rfl rfl rfl (by kernel_rfl) (by kernel_rfl) (by kernel_rfl) (by kernel_rfl) (by kernel_rfl) (((Ext.refl w5).drew)) ?hyp ?_
      case hyp => intro wz hSw; (try dsimp only at hSw); go_simp <;> with_reducible rfl
      simp only [List.setIfInBounds_toArray, List.set_cons_zero, List.set_cons_succ]
      refine take_D (i := 6) (v := ?_) rfl rfl rfl (by kernel_rfl) (by kernel_rfl) (by kernel_rfl) (by kernel_rfl) (by kernel_rfl) (((Ext.refl w5).drew)) ?hyp ?_
      case hyp => intro wz hSw; (try dsimp only at hSw); go_simp <;> with_reducible rfl
      simp only [List.setIfInBounds_toArray, List.set_cons_zero, List.set_cons_succ]
      refine last_D (n := 7) rfl rfl (fun j hj => by simp; omega) (by kernel_rfl) ?_
      clear k3
      go_wp2_with fail
      refine (ofW64 z _ hz).mono ?_
      rintro e w' ⟨rfl, rfl⟩
      go_wp2
      refine ⟨(Ext.refl w5).drew, ?_⟩
      replace HD := Lib.hid (HD.out.ext X6.out)
      replace HF := Lib.hid (HF.out.ext X6.out)
      replace HG := Lib.hid (HG.out.ext X6.out)
      replace HXR := Lib.hid (HXR.out.trans X6.out)
      clear X6
      go_wp2_with fail
      refine (Store64_yes b g y f lv log 1 z c _ HD.out.T.B HK.out.yok (HE.out _ HXR.out) HKD.out hz.1 hz.2 (HRG.out c).1 (by have := (HRG.out c).2; omega) (by omega)).mono ?_
      rintro e w6 ⟨rfl, lv2, B6, N6, A6⟩
      have HD6 := Lib.hid (HD.out.stepB64 B6 N6 A6)
      have HF6 := Lib.hid (HF.out.stepB N6 (fun q hq => .inl hq) A6)
      have HG6 := Lib.hid (HG.out.stepB N6 (fun q hq => .inl hq) A6)
      clear B6 N6 A6 HD HF HG cz1 HXR
      go_wp2
      refine off_normal ?_
      have cy1 := (HXA.out.trans HD6.out.T.ex).cell HZ1.out
      go_wp2_with fail
      refine (rStore_yes b' r f lv' log 1 z c _ HD6.out.T.R (by rw [isK_kd HREL.out (by decide), HKD.out]; rfl) (by rw [HREL.out.m]; exact HCM.out) (by omega)).mono ?_
      rintro e w7 ⟨rfl, lv3, R7, N7, A7⟩
      have HD7 := Lib.hid (HD6.out.stepR R7 N7 A7)
      have HF7 := Lib.hid (HF6.out.stepR N7 A7)
      have HG7 := Lib.hid (HG6.out.stepR N7 A7)
      clear R7 N7 A7 HD6 HF6 HG6 cy1
      go_wp2
      exact ⟨⟨k + 1, by omega, by go_num, Go.Proofs.YtkmfamidahlgiaaGreatDoor.upd f c z, lv2, _, lv3, F, HD7.out, HF7.out, HG7.out, HRG.out.upd c z hz, HAT.out, HMN.out, by simp; omega⟩, by simp [intOf]; omega⟩
    · have hs2 : decide (0 ≤ x) = false ∨ (decide (0 ≤ x) = true ∧ decide (x < (n : Int)) = false) := by
        by_cases h0 : 0 ≤ x
        · exact .inr ⟨by simpa using h0, by simp; omega⟩
        · exact .inl (by simpa using h0)
      clear hs cz2 p1
      rcases hs2 with d0 | ⟨d0, d1⟩
      all_goals
        go_upto_region 9 with (fail)
        have k1 := fun w' (hx : Ext wr w') => hx.cell cz1
        have k5 := fun w' (hx : Ext wr w') => hx.cell p5
        refine wp_region_held_drew (S := fun w' => Ext wr w') (by kernel_rfl) ?hbeg (fun hHeld => ?_)
        case hbeg => exact (Ext.refl wr).drew
        have hHeld0 : Ext wr wr := by first | exact Ext.refl _ | assumption
        first
          | (refine take_at (i := 0) (v := ?_) rfl rfl (by kernel_rfl) (by kernel_rfl) (by kernel_rfl) (fun _ _ _ h => h) (Or.inl ⟨by rfl, ?hy⟩) (by assumption) ?_
             case hy => (intro wz hSw; (try dsimp only at hSw); go_simp <;> with_reducible rfl)
             simp only [List.setIfInBounds_toArray, List.set_cons_zero, List.set_cons_succ])
          | (refine take_at (i := 0) (v := undef) rfl rfl (by kernel_rfl) (by kernel_rfl) (by kernel_rfl) (fun _ _ _ h => h) (Or.inr ⟨by rfl, rfl⟩) (by assumption) ?_
             simp only [List.setIfInBounds_toArray, List.set_cons_zero, List.set_cons_succ])
        first
          | (refine take_at (i := 1) (v := ?_) rfl rfl (by kernel_rfl) (by kernel_rfl) (by kernel_rfl) (fun _ _ _ h => h) (Or.inl ⟨by rfl, ?hy⟩) (by assumption) ?_
             case hy => (intro wz hSw; (try dsimp only at hSw); go_simp <;> with_reducible rfl)
             simp only [List.setIfInBounds_toArray, List.set_cons_zero, List.set_cons_succ])
          | (refine take_at (i := 1) (v := undef) rfl rfl (by kernel_rfl) (by kernel_rfl) (by kernel_rfl) (fun _ _ _ h => h) (Or.inr ⟨by rfl, rfl⟩) (by assumption) ?_
             simp only [List.setIfInBounds_toArray, List.set_cons_zero, List.set_cons_succ])
        first
          | (refine take_at (i := 2) (v := ?_) rfl rfl (by kernel_rfl) (by kernel_rfl) (by kernel_rfl) (fun _ _ _ h => h) (Or.inl ⟨by rfl, ?hy⟩) (by assumption) ?_
             case hy => (intro wz hSw; (try dsimp only at hSw); go_simp <;> with_reducible rfl)
             simp only [List.setIfInBounds_toArray, List.set_cons_zero, List.set_cons_succ])
          | (refine take_at (i := 2) (v := undef) rfl rfl (by kernel_rfl) (by kernel_rfl) (by kernel_rfl) (fun _ _ _ h => h) (Or.inr ⟨by rfl, rfl⟩) (by assumption) ?_
             simp only [List.setIfInBounds_toArray, List.set_cons_zero, List.set_cons_succ])
        first
          | (refine take_at (i := 3) (v := ?_) rfl rfl (by kernel_rfl) (by kernel_rfl) (by kernel_rfl) (fun _ _ _ h => h) (Or.inl ⟨by rfl, ?hy⟩) (by assumption) ?_
             case hy => (intro wz hSw; (try dsimp only at hSw); go_simp <;> with_reducible rfl)
             simp only [List.setIfInBounds_toArray, List.set_cons_zero, List.set_cons_succ])
          | (refine take_at (i := 3) (v := undef) rfl rfl (by kernel_rfl) (by kernel_rfl) (by kernel_rfl) (fun _ _ _ h => h) (Or.inr ⟨by rfl, rfl⟩) (by assumption) ?_
             simp only [List.setIfInBounds_toArray, List.set_cons_zero, List.set_cons_succ])
        first
          | (refine take_at (i := 4) (v := ?_) rfl rfl (by kernel_rfl) (by kernel_rfl) (by kernel_rfl) (fun _ _ _ h => h) (Or.inl ⟨by rfl, ?hy⟩) (by assumption) ?_
             case hy => (intro wz hSw; (try dsimp only at hSw); go_simp <;> with_reducible rfl)
             simp only [List.setIfInBounds_toArray, List.set_cons_zero, List.set_cons_succ])
          | (refine take_at (i := 4) (v := undef) rfl rfl (by kernel_rfl) (by kernel_rfl) (by kernel_rfl) (fun _ _ _ h => h) (Or.inr ⟨by rfl, rfl⟩) (by assumption) ?_
             simp only [List.setIfInBounds_toArray, List.set_cons_zero, List.set_cons_succ])
        first
          | (refine take_at (i := 5) (v := ?_) rfl rfl (by kernel_rfl) (by kernel_rfl) (by kernel_rfl) (fun _ _ _ h => h) (Or.inl ⟨by rfl, ?hy⟩) (by assumption) ?_
             case hy => (intro wz hSw; (try dsimp only at hSw); go_simp <;> with_reducible rfl)
             simp only [List.setIfInBounds_toArray, List.set_cons_zero, List.set_cons_succ])
          | (refine take_at (i := 5) (v := undef) rfl rfl (by kernel_rfl) (by kernel_rfl) (by kernel_rfl) (fun _ _ _ h => h) (Or.inr ⟨by rfl, rfl⟩) (by assumption) ?_
             simp only [List.setIfInBounds_toArray, List.set_cons_zero, List.set_cons_succ])
        first
          | (refine take_at (i := 6) (v := ?_) rfl rfl (by kernel_rfl) (by kernel_rfl) (by kernel_rfl) (fun _ _ _ h => h) (Or.inl ⟨by rfl, ?hy⟩) (by assumption) ?_
             case hy => (intro wz hSw; (try dsimp only at hSw); go_simp <;> with_reducible rfl)
             simp only [List.setIfInBounds_toArray, List.set_cons_zero, List.set_cons_succ])
          | (refine take_at (i := 6) (v := undef) rfl rfl (by kernel_rfl) (by kernel_rfl) (by kernel_rfl) (fun _ _ _ h => h) (Or.inr ⟨by rfl, rfl⟩) (by assumption) ?_
             simp only [List.setIfInBounds_toArray, List.set_cons_zero, List.set_cons_succ])
        first
          | (refine take_at (i := 7) (v := ?_) rfl rfl (by kernel_rfl) (by kernel_rfl) (by kernel_rfl) (fun _ _ _ h => h) (Or.inl ⟨by rfl, ?hy⟩) (by assumption) ?_
             case hy => (intro wz hSw; (try dsimp only at hSw); go_simp <;> with_reducible rfl)
             simp only [List.setIfInBounds_toArray, List.set_cons_zero, List.set_cons_succ])
          | (refine take_at (i := 7) (v := undef) rfl rfl (by kernel_rfl) (by kernel_rfl) (by kernel_rfl) (fun _ _ _ h => h) (Or.inr ⟨by rfl, rfl⟩) (by assumption) ?_
             simp only [List.setIfInBounds_toArray, List.set_cons_zero, List.set_cons_succ])
        first
          | (refine take_at (i := 8) (v := ?_) rfl rfl (by kernel_rfl) (by kernel_rfl) (by kernel_rfl) (fun _ _ _ h => h) (Or.inl ⟨by rfl, ?hy⟩) (by assumption) ?_
             case hy => (intro wz hSw; (try dsimp only at hSw); go_simp <;> with_reducible rfl)
             simp only [List.setIfInBounds_toArray, List.set_cons_zero, List.set_cons_succ])
          | (refine take_at (i := 8) (v := undef) rfl rfl (by kernel_rfl) (by kernel_rfl) (by kernel_rfl) (fun _ _ _ h => h) (Or.inr ⟨by rfl, rfl⟩) (by assumption) ?_
             simp only [List.setIfInBounds_toArray, List.set_cons_zero, List.set_cons_succ])
        first
          | (refine take_at (i := 9) (v := ?_) rfl rfl (by kernel_rfl) (by kernel_rfl) (by kernel_rfl) (fun _ _ _ h => h) (Or.inl ⟨by rfl, ?hy⟩) (by assumption) ?_
             case hy => (intro wz hSw; (try dsimp only at hSw); go_simp <;> with_reducible rfl)
             simp only [List.setIfInBounds_toArray, List.set_cons_zero, List.set_cons_succ])
          | (refine take_at (i := 9) (v := undef) rfl rfl (by kernel_rfl) (by kernel_rfl) (by kernel_rfl) (fun _ _ _ h => h) (Or.inr ⟨by rfl, rfl⟩) (by assumption) ?_
             simp only [List.setIfInBounds_toArray, List.set_cons_zero, List.set_cons_succ])
        first
          | (refine take_at (i := 10) (v := ?_) rfl rfl (by kernel_rfl) (by kernel_rfl) (by kernel_rfl) (fun _ _ _ h => h) (Or.inl ⟨by rfl, ?hy⟩) (by assumption) ?_
             case hy => (intro wz hSw; (try dsimp only at hSw); go_simp <;> with_reducible rfl)
             simp only [List.setIfInBounds_toArray, List.set_cons_zero, List.set_cons_succ])
          | (refine take_at (i := 10) (v := undef) rfl rfl (by kernel_rfl) (by kernel_rfl) (by kernel_rfl) (fun _ _ _ h => h) (Or.inr ⟨by rfl, rfl⟩) (by assumption) ?_
             simp only [List.setIfInBounds_toArray, List.set_cons_zero, List.set_cons_succ])
        first
          | (refine take_at (i := 11) (v := ?_) rfl rfl (by kernel_rfl) (by kernel_rfl) (by kernel_rfl) (fun _ _ _ h => h) (Or.inl ⟨by rfl, ?hy⟩) (by assumption) ?_
             case hy => (intro wz hSw; (try dsimp only at hSw); go_simp <;> with_reducible rfl)
             simp only [List.setIfInBounds_toArray, List.set_cons_zero, List.set_cons_succ])
          | (refine take_at (i := 11) (v := undef) rfl rfl (by kernel_rfl) (by kernel_rfl) (by kernel_rfl) (fun _ _ _ h => h) (Or.inr ⟨by rfl, rfl⟩) (by assumption) ?_
             simp only [List.setIfInBounds_toArray, List.set_cons_zero, List.set_cons_succ])
        first
          | (refine take_at (i := 12) (v := ?_) rfl rfl (by kernel_rfl) (by kernel_rfl) (by kernel_rfl) (fun _ _ _ h => h) (Or.inl ⟨by rfl, ?hy⟩) (by assumption) ?_
             case hy => (intro wz hSw; (try dsimp only at hSw); go_simp <;> with_reducible rfl)
             simp only [List.setIfInBounds_toArray, List.set_cons_zero, List.set_cons_succ])
          | (refine take_at (i := 12) (v := undef) rfl rfl (by kernel_rfl) (by kernel_rfl) (by kernel_rfl) (fun _ _ _ h => h) (Or.inr ⟨by rfl, rfl⟩) (by assumption) ?_
             simp only [List.setIfInBounds_toArray, List.set_cons_zero, List.set_cons_succ])
        first
          | (refine take_at (i := 13) (v := ?_) rfl rfl (by kernel_rfl) (by kernel_rfl) (by kernel_rfl) (fun _ _ _ h => h) (Or.inl ⟨by rfl, ?hy⟩) (by assumption) ?_
             case hy => (intro wz hSw; (try dsimp only at hSw); go_simp <;> with_reducible rfl)
             simp only [List.setIfInBounds_toArray, List.set_cons_zero, List.set_cons_succ])
          | (refine take_at (i := 13) (v := undef) rfl rfl (by kernel_rfl) (by kernel_rfl) (by kernel_rfl) (fun _ _ _ h => h) (Or.inr ⟨by rfl, rfl⟩) (by assumption) ?_
             simp only [List.setIfInBounds_toArray, List.set_cons_zero, List.set_cons_succ])
        first
          | (refine take_at (i := 14) (v := ?_) rfl rfl (by kernel_rfl) (by kernel_rfl) (by kernel_rfl) (fun _ _ _ h => h) (Or.inl ⟨by rfl, ?hy⟩) (by assumption) ?_
             case hy => (intro wz hSw; (try dsimp only at hSw); go_simp <;> with_reducible rfl)
             simp only [List.setIfInBounds_toArray, List.set_cons_zero, List.set_cons_succ])
          | (refine take_at (i := 14) (v := undef) rfl rfl (by kernel_rfl) (by kernel_rfl) (by kernel_rfl) (fun _ _ _ h => h) (Or.inr ⟨by rfl, rfl⟩) (by assumption) ?_
             simp only [List.setIfInBounds_toArray, List.set_cons_zero, List.set_cons_succ])
        first
          | (refine take_at (i := 15) (v := ?_) rfl rfl (by kernel_rfl) (by kernel_rfl) (by kernel_rfl) (fun _ _ _ h => h) (Or.inl ⟨by rfl, ?hy⟩) (by assumption) ?_
             case hy => (intro wz hSw; (try dsimp only at hSw); go_simp <;> with_reducible rfl)
             simp only [List.setIfInBounds_toArray, List.set_cons_zero, List.set_cons_succ])
          | (refine take_at (i := 15) (v := undef) rfl rfl (by kernel_rfl) (by kernel_rfl) (by kernel_rfl) (fun _ _ _ h => h) (Or.inr ⟨by rfl, rfl⟩) (by assumption) ?_
             simp only [List.setIfInBounds_toArray, List.set_cons_zero, List.set_cons_succ])
        first
          | (refine take_at (i := 16) (v := ?_) rfl rfl (by kernel_rfl) (by kernel_rfl) (by kernel_rfl) (fun _ _ _ h => h) (Or.inl ⟨by rfl, ?hy⟩) (by assumption) ?_
             case hy => (intro wz hSw; (try dsimp only at hSw); go_simp <;> with_reducible rfl)
             simp only [List.setIfInBounds_toArray, List.set_cons_zero, List.set_cons_succ])
          | (refine take_at (i := 16) (v := undef) rfl rfl (by kernel_rfl) (by kernel_rfl) (by kernel_rfl) (fun _ _ _ h => h) (Or.inr ⟨by rfl, rfl⟩) (by assumption) ?_
             simp only [List.setIfInBounds_toArray, List.set_cons_zero, List.set_cons_succ])
        refine wpAnyH_done (by kernel_rfl) ?_ _
        clear k1 k5
        have X9 := Lib.hid (Ext.drew (Ext.refl wr))
        replace HD := Lib.hid (HD.out.ext X9.out)
        replace HF := Lib.hid (HF.out.ext X9.out)
        replace HG := Lib.hid (HG.out.ext X9.out)
        replace HXR := Lib.hid (HXR.out.trans X9.out)
        clear X9 hHeld p5 cz1
        generalize wr.drew = w3 at *
        go_wp2_with fail
        refine (pScan64 (t := 0) HK.out HD.out HF.out (by decide) (HE.out _ HXR.out) (HV.out.ext HXR.out) HGY.out HAT.out HRG.out (by omega) 0).mono ?_
        rintro e w4 ⟨d, I', M', log2, hSc, rfl, lv2, hD4, hF4, N4, A4⟩
        have HSC := Lib.hid hSc
        replace HG := Lib.hid (HG.out.stepB N4 (fun q hq => hq.imp id (fun e => by rw [e]; exact hne)) A4)
        replace HD := Lib.hid hD4
        replace HF := Lib.hid hF4
        clear hSc hD4 hF4 N4 A4 HXR
        have HXR := Lib.hid (HXA.out.trans HD.out.T.ex)
        obtain ⟨dT, hdT, hdR⟩ : ∃ d, Tryz.prog.underlying 110 = some d ∧ d.isRow = true := ⟨_, rfl, rfl⟩
        go_wp2_with (with_reducible refine wpList_load_mid rfl _ (.tmp 12) rfl gb 0 rfl (fml64 (F 0)) dT ?hg1 hdT hdR ?hg2 ?_)
        case hg1 => exact range_part HG.out.a (fml64 (F 0)) (by show 0 + 11 ≤ 11; decide) (fun j hj => by have := fml64_at F 0 j hj; rwa [Nat.zero_mul] at this)
        case hg2 => kernel_rfl
        clear hdT hdR
        refine (dScan64 HK.out HREL.out HD.out (HV.out.ext HXR.out) HGY.out HRG.out (by omega) 0 (F 0) HMN.out.1 HSC.out).mono ?_
        rintro e w5 ⟨rfl, lv3, hD5, N5, A5⟩
        replace HF := Lib.hid (HF.out.stepR N5 A5)
        replace HG := Lib.hid (HG.out.stepR N5 A5)
        replace HD := Lib.hid hD5
        clear hD5 N5 A5 HXR
        go_upto_region 16 with (fail)
        refine settle_wp ?_
        intro w6 hb6
        have y_0 : w6.cell? ⟨w5.heap.size, 0, none⟩ = some (.int .i64 0) := hb6.cell (by simp [go_sem])
        have y_1 : w6.cell? ⟨w5.heap.size, 1, none⟩ = some (.int .i64 (F 0).N) := hb6.cell (by simp [go_sem])
        have y_2 : w6.cell? ⟨w5.heap.size, 2, none⟩ = some (.int .i64 0) := hb6.cell (by simp [go_sem])
        have y_3 : w6.cell? ⟨w5.heap.size, 3, none⟩ = some (.int .i64 (F 0).Pc) := hb6.cell (by simp [go_sem])
        have y_4 : w6.cell? ⟨w5.heap.size, 4, none⟩ = some (.int .i64 I') := hb6.cell (by simp [go_sem])
        have y_5 : w6.cell? ⟨w5.heap.size, 5, none⟩ = some (.int .i64 0) := hb6.cell (by simp [go_sem])
        have y_6 : w6.cell? ⟨w5.heap.size, 6, none⟩ = some (.int .u64 (F 0).Fr) := hb6.cell (by simp [go_sem])
        have y_7 : w6.cell? ⟨w5.heap.size, 7, none⟩ = some (.int .u64 M') := hb6.cell (by simp [go_sem])
        have y_8 : w6.cell? ⟨w5.heap.size, 8, none⟩ = some (.int .u64 (F 0).Vl) := hb6.cell (by simp [go_sem])
        have y_9 : w6.cell? ⟨w5.heap.size, 9, none⟩ = some (.int .u64 0) := hb6.cell (by simp [go_sem])
        have y_10 : w6.cell? ⟨w5.heap.size, 10, none⟩ = some (.slice none 0 0) := hb6.cell (by simp [go_sem])
        have X56 : Ext w5 w6 := Ext.trans ((Ext.refl w5).alloc _) hb6
        replace HD := Lib.hid (HD.out.ext X56)
        have hgy : gb ≠ w5.heap.size := fun e => by have := HG.out.x.hi; omega
        replace HF := Lib.hid (HF.out.ext X56)
        replace HG := Lib.hid (HG.out.ext X56)
        clear X56 hb6
        generalize w5.heap.size = yb at *
        go_wp2_with (with_reducible refine wpList_store_mid rfl _ (.tmp 12) (.tmp 100) rfl gb 0 (fml64 { F 0 with I := I', Mn := M' }).toArray rfl rfl ?hj1 ?hj2 ?hj3 ?_)
        case hj1 => exact there_of (m := 11) HG.out.a (by omega)
        case hj2 => first | kernel_rfl | simpa using (show (Tryz.prog.info? 110).map (·.size) = some 11 by kernel_rfl) | simpa [fml64] using (show (Tryz.prog.info? 110).map (·.size) = some 11 by kernel_rfl)
        case hj3 => first | kernel_rfl | (simp [fml64]; done) | (simp [fml64]; repeat (first | rfl | refine ⟨rfl, ?_⟩))
        first | refine name_list ?_ | refine name_wp ?_
        intro w7 e7
        have e7' : w6.setCells gb (0 * 11) (fml64 { F 0 with I := I', Mn := M' }) = w7 := by rw [Nat.zero_mul]; exact e7
        have hG7 := HG.out.frame64 (t := 0) (by decide) { F 0 with I := I', Mn := M' }
        rw [e7'] at hG7
        have hN := but_setCells gb (fml64 { F 0 with I := I', Mn := M' }) (0 * 11) w6
        rw [e7'] at hN
        replace HD := Lib.hid (HD.out.off HG.out hN)
        replace HF := Lib.hid (HF.out.off hN hne)
        replace HG := Lib.hid hG7
        clear hG7 e7 e7' hN y_0 y_1 y_2 y_3 y_4 y_5 y_6 y_7 y_8 y_9 y_10
        have HM' := Lib.hid (HSC.out.rng HRG.out HMN.out)
        obtain ⟨o0, o1⟩ := HM'.out
        have cf4 : w7.cell? ⟨fb, 4, none⟩ = some (.int .i64 I') := HF.out.a.c 4 (by decide)
        have cf7 : w7.cell? ⟨fb, 7, none⟩ = some (.int .u64 M') := HF.out.a.c 7 (by decide)
        have cg4 : w7.cell? ⟨gb, 4, none⟩ = some (.int .i64 I') := HG.out.a.c 4 (by decide)
        have cg7 : w7.cell? ⟨gb, 7, none⟩ = some (.int .u64 M') := HG.out.a.c 7 (by decide)
        have k1 := fun w' (hx : Ext w7 w') => hx.cell cf4
        have k2 := fun w' (hx : Ext w7 w') => hx.cell cf7
        have k3 := fun w' (hx : Ext w7 w') => hx.cell cg4
        have k4 := fun w' (hx : Ext w7 w') => hx.cell cg7
        refine wp_region_held_drew (S := fun w' => Ext w7 w') (by kernel_rfl) ?hbeg (fun hHeld => ?_)
        case hbeg => exact (Ext.refl w7).drew
        have hHeld0 : Ext w7 w7 := by first | exact Ext.refl _ | assumption
        first
          | (refine take_at (i := 0) (v := ?_) rfl rfl (by kernel_rfl) (by kernel_rfl) (by kernel_rfl) (fun _ _ _ h => h) (Or.inl ⟨by rfl, ?hy⟩) (by assumption) ?_
             case hy => (intro wz hSw; (try dsimp only at hSw); go_simp <;> with_reducible rfl)
             simp only [List.setIfInBounds_toArray, List.set_cons_zero, List.set_cons_succ])
          | (refine take_at (i := 0) (v := undef) rfl rfl (by kernel_rfl) (by kernel_rfl) (by kernel_rfl) (fun _ _ _ h => h) (Or.inr ⟨by rfl, rfl⟩) (by assumption) ?_
             simp only [List.setIfInBounds_toArray, List.set_cons_zero, List.set_cons_succ])
        first
          | (refine take_at (i := 1) (v := ?_) rfl rfl (by kernel_rfl) (by kernel_rfl) (by kernel_rfl) (fun _ _ _ h => h) (Or.inl ⟨by rfl, ?hy⟩) (by assumption) ?_
             case hy => (intro wz hSw; (try dsimp only at hSw); go_simp <;> with_reducible rfl)
             simp only [List.setIfInBounds_toArray, List.set_cons_zero, List.set_cons_succ])
          | (refine take_at (i := 1) (v := undef) rfl rfl (by kernel_rfl) (by kernel_rfl) (by kernel_rfl) (fun _ _ _ h => h) (Or.inr ⟨by rfl, rfl⟩) (by assumption) ?_
             simp only [List.setIfInBounds_toArray, List.set_cons_zero, List.set_cons_succ])
        first
          | (refine take_at (i := 2) (v := ?_) rfl rfl (by kernel_rfl) (by kernel_rfl) (by kernel_rfl) (fun _ _ _ h => h) (Or.inl ⟨by rfl, ?hy⟩) (by assumption) ?_
             case hy => (intro wz hSw; (try dsimp only at hSw); go_simp <;> with_reducible rfl)
             simp only [List.setIfInBounds_toArray, List.set_cons_zero, List.set_cons_succ])
          | (refine take_at (i := 2) (v := undef) rfl rfl (by kernel_rfl) (by kernel_rfl) (by kernel_rfl) (fun _ _ _ h => h) (Or.inr ⟨by rfl, rfl⟩) (by assumption) ?_
             simp only [List.setIfInBounds_toArray, List.set_cons_zero, List.set_cons_succ])
        first
          | (refine take_at (i := 3) (v := ?_) rfl rfl (by kernel_rfl) (by kernel_rfl) (by kernel_rfl) (fun _ _ _ h => h) (Or.inl ⟨by rfl, ?hy⟩) (by assumption) ?_
             case hy => (intro wz hSw; (try dsimp only at hSw); go_simp <;> with_reducible rfl)
             simp only [List.setIfInBounds_toArray, List.set_cons_zero, List.set_cons_succ])
          | (refine take_at (i := 3) (v := undef) rfl rfl (by kernel_rfl) (by kernel_rfl) (by kernel_rfl) (fun _ _ _ h => h) (Or.inr ⟨by rfl, rfl⟩) (by assumption) ?_
             simp only [List.setIfInBounds_toArray, List.set_cons_zero, List.set_cons_succ])
        first
          | (refine take_at (i := 4) (v := ?_) rfl rfl (by kernel_rfl) (by kernel_rfl) (by kernel_rfl) (fun _ _ _ h => h) (Or.inl ⟨by rfl, ?hy⟩) (by assumption) ?_
             case hy => (intro wz hSw; (try dsimp only at hSw); go_simp <;> with_reducible rfl)
             simp only [List.setIfInBounds_toArray, List.set_cons_zero, List.set_cons_succ])
          | (refine take_at (i := 4) (v := undef) rfl rfl (by kernel_rfl) (by kernel_rfl) (by kernel_rfl) (fun _ _ _ h => h) (Or.inr ⟨by rfl, rfl⟩) (by assumption) ?_
             simp only [List.setIfInBounds_toArray, List.set_cons_zero, List.set_cons_succ])
        first
          | (refine take_at (i := 5) (v := ?_) rfl rfl (by kernel_rfl) (by kernel_rfl) (by kernel_rfl) (fun _ _ _ h => h) (Or.inl ⟨by rfl, ?hy⟩) (by assumption) ?_
             case hy => (intro wz hSw; (try dsimp only at hSw); go_simp <;> with_reducible rfl)
             simp only [List.setIfInBounds_toArray, List.set_cons_zero, List.set_cons_succ])
          | (refine take_at (i := 5) (v := undef) rfl rfl (by kernel_rfl) (by kernel_rfl) (by kernel_rfl) (fun _ _ _ h => h) (Or.inr ⟨by rfl, rfl⟩) (by assumption) ?_
             simp only [List.setIfInBounds_toArray, List.set_cons_zero, List.set_cons_succ])
        first
          | (refine take_at (i := 6) (v := ?_) rfl rfl (by kernel_rfl) (by kernel_rfl) (by kernel_rfl) (fun _ _ _ h => h) (Or.inl ⟨by rfl, ?hy⟩) (by assumption) ?_
             case hy => (intro wz hSw; (try dsimp only at hSw); go_simp <;> with_reducible rfl)
             simp only [List.setIfInBounds_toArray, List.set_cons_zero, List.set_cons_succ])
          | (refine take_at (i := 6) (v := undef) rfl rfl (by kernel_rfl) (by kernel_rfl) (by kernel_rfl) (fun _ _ _ h => h) (Or.inr ⟨by rfl, rfl⟩) (by assumption) ?_
             simp only [List.setIfInBounds_toArray, List.set_cons_zero, List.set_cons_succ])
        first
          | (refine take_at (i := 7) (v := ?_) rfl rfl (by kernel_rfl) (by kernel_rfl) (by kernel_rfl) (fun _ _ _ h => h) (Or.inl ⟨by rfl, ?hy⟩) (by assumption) ?_
             case hy => (intro wz hSw; (try dsimp only at hSw); go_simp <;> with_reducible rfl)
             simp only [List.setIfInBounds_toArray, List.set_cons_zero, List.set_cons_succ])
          | (refine take_at (i := 7) (v := undef) rfl rfl (by kernel_rfl) (by kernel_rfl) (by kernel_rfl) (fun _ _ _ h => h) (Or.inr ⟨by rfl, rfl⟩) (by assumption) ?_
             simp only [List.setIfInBounds_toArray, List.set_cons_zero, List.set_cons_succ])
        first
          | (refine take_at (i := 8) (v := ?_) rfl rfl (by kernel_rfl) (by kernel_rfl) (by kernel_rfl) (fun _ _ _ h => h) (Or.inl ⟨by rfl, ?hy⟩) (by assumption) ?_
             case hy => (intro wz hSw; (try dsimp only at hSw); go_simp <;> with_reducible rfl)
             simp only [List.setIfInBounds_toArray, List.set_cons_zero, List.set_cons_succ])
          | (refine take_at (i := 8) (v := undef) rfl rfl (by kernel_rfl) (by kernel_rfl) (by kernel_rfl) (fun _ _ _ h => h) (Or.inr ⟨by rfl, rfl⟩) (by assumption) ?_
             simp only [List.setIfInBounds_toArray, List.set_cons_zero, List.set_cons_succ])
        first
          | (refine take_at (i := 9) (v := ?_) rfl rfl (by kernel_rfl) (by kernel_rfl) (by kernel_rfl) (fun _ _ _ h => h) (Or.inl ⟨by rfl, ?hy⟩) (by assumption) ?_
             case hy => (intro wz hSw; (try dsimp only at hSw); go_simp <;> with_reducible rfl)
             simp only [List.setIfInBounds_toArray, List.set_cons_zero, List.set_cons_succ])
          | (refine take_at (i := 9) (v := undef) rfl rfl (by kernel_rfl) (by kernel_rfl) (by kernel_rfl) (fun _ _ _ h => h) (Or.inr ⟨by rfl, rfl⟩) (by assumption) ?_
             simp only [List.setIfInBounds_toArray, List.set_cons_zero, List.set_cons_succ])
        first
          | (refine take_at (i := 10) (v := ?_) rfl rfl (by kernel_rfl) (by kernel_rfl) (by kernel_rfl) (fun _ _ _ h => h) (Or.inl ⟨by rfl, ?hy⟩) (by assumption) ?_
             case hy => (intro wz hSw; (try dsimp only at hSw); go_simp <;> with_reducible rfl)
             simp only [List.setIfInBounds_toArray, List.set_cons_zero, List.set_cons_succ])
          | (refine take_at (i := 10) (v := undef) rfl rfl (by kernel_rfl) (by kernel_rfl) (by kernel_rfl) (fun _ _ _ h => h) (Or.inr ⟨by rfl, rfl⟩) (by assumption) ?_
             simp only [List.setIfInBounds_toArray, List.set_cons_zero, List.set_cons_succ])
        first
          | (refine take_at (i := 11) (v := ?_) rfl rfl (by kernel_rfl) (by kernel_rfl) (by kernel_rfl) (fun _ _ _ h => h) (Or.inl ⟨by rfl, ?hy⟩) (by assumption) ?_
             case hy => (intro wz hSw; (try dsimp only at hSw); go_simp <;> with_reducible rfl)
             simp only [List.setIfInBounds_toArray, List.set_cons_zero, List.set_cons_succ])
          | (refine take_at (i := 11) (v := undef) rfl rfl (by kernel_rfl) (by kernel_rfl) (by kernel_rfl) (fun _ _ _ h => h) (Or.inr ⟨by rfl, rfl⟩) (by assumption) ?_
             simp only [List.setIfInBounds_toArray, List.set_cons_zero, List.set_cons_succ])
        first
          | (refine take_at (i := 12) (v := ?_) rfl rfl (by kernel_rfl) (by kernel_rfl) (by kernel_rfl) (fun _ _ _ h => h) (Or.inl ⟨by rfl, ?hy⟩) (by assumption) ?_
             case hy => (intro wz hSw; (try dsimp only at hSw); go_simp <;> with_reducible rfl)
             simp only [List.setIfInBounds_toArray, List.set_cons_zero, List.set_cons_succ])
          | (refine take_at (i := 12) (v := undef) rfl rfl (by kernel_rfl) (by kernel_rfl) (by kernel_rfl) (fun _ _ _ h => h) (Or.inr ⟨by rfl, rfl⟩) (by assumption) ?_
             simp only [List.setIfInBounds_toArray, List.set_cons_zero, List.set_cons_succ])
        first
          | (refine take_at (i := 13) (v := ?_) rfl rfl (by kernel_rfl) (by kernel_rfl) (by kernel_rfl) (fun _ _ _ h => h) (Or.inl ⟨by rfl, ?hy⟩) (by assumption) ?_
             case hy => (intro wz hSw; (try dsimp only at hSw); go_simp <;> with_reducible rfl)
             simp only [List.setIfInBounds_toArray, List.set_cons_zero, List.set_cons_succ])
          | (refine take_at (i := 13) (v := undef) rfl rfl (by kernel_rfl) (by kernel_rfl) (by kernel_rfl) (fun _ _ _ h => h) (Or.inr ⟨by rfl, rfl⟩) (by assumption) ?_
             simp only [List.setIfInBounds_toArray, List.set_cons_zero, List.set_cons_succ])
        first
          | (refine take_at (i := 14) (v := ?_) rfl rfl (by kernel_rfl) (by kernel_rfl) (by kernel_rfl) (fun _ _ _ h => h) (Or.inl ⟨by rfl, ?hy⟩) (by assumption) ?_
             case hy => (intro wz hSw; (try dsimp only at hSw); go_simp <;> with_reducible rfl)
             simp only [List.setIfInBounds_toArray, List.set_cons_zero, List.set_cons_succ])
          | (refine take_at (i := 14) (v := undef) rfl rfl (by kernel_rfl) (by kernel_rfl) (by kernel_rfl) (fun _ _ _ h => h) (Or.inr ⟨by rfl, rfl⟩) (by assumption) ?_
             simp only [List.setIfInBounds_toArray, List.set_cons_zero, List.set_cons_succ])
        first
          | (refine take_at (i := 15) (v := ?_) rfl rfl (by kernel_rfl) (by kernel_rfl) (by kernel_rfl) (fun _ _ _ h => h) (Or.inl ⟨by rfl, ?hy⟩) (by assumption) ?_
             case hy => (intro wz hSw; (try dsimp only at hSw); go_simp <;> with_reducible rfl)
             simp only [List.setIfInBounds_toArray, List.set_cons_zero, List.set_cons_succ])
          | (refine take_at (i := 15) (v := undef) rfl rfl (by kernel_rfl) (by kernel_rfl) (by kernel_rfl) (fun _ _ _ h => h) (Or.inr ⟨by rfl, rfl⟩) (by assumption) ?_
             simp only [List.setIfInBounds_toArray, List.set_cons_zero, List.set_cons_succ])
        first
          | (refine take_at (i := 16) (v := ?_) rfl rfl (by kernel_rfl) (by kernel_rfl) (by kernel_rfl) (fun _ _ _ h => h) (Or.inl ⟨by rfl, ?hy⟩) (by assumption) ?_
             case hy => (intro wz hSw; (try dsimp only at hSw); go_simp <;> with_reducible rfl)
             simp only [List.setIfInBounds_toArray, List.set_cons_zero, List.set_cons_succ])
          | (refine take_at (i := 16) (v := undef) rfl rfl (by kernel_rfl) (by kernel_rfl) (by kernel_rfl) (fun _ _ _ h => h) (Or.inr ⟨by rfl, rfl⟩) (by assumption) ?_
             simp only [List.setIfInBounds_toArray, List.set_cons_zero, List.set_cons_succ])
        first
          | (refine take_at (i := 17) (v := ?_) rfl rfl (by kernel_rfl) (by kernel_rfl) (by kernel_rfl) (fun _ _ _ h => h) (Or.inl ⟨by rfl, ?hy⟩) (by assumption) ?_
             case hy => (intro wz hSw; (try dsimp only at hSw); go_simp <;> with_reducible rfl)
             simp only [List.setIfInBounds_toArray, List.set_cons_zero, List.set_cons_succ])
          | (refine take_at (i := 17) (v := undef) rfl rfl (by kernel_rfl) (by kernel_rfl) (by kernel_rfl) (fun _ _ _ h => h) (Or.inr ⟨by rfl, rfl⟩) (by assumption) ?_
             simp only [List.setIfInBounds_toArray, List.set_cons_zero, List.set_cons_succ])
        first
          | (refine take_at (i := 18) (v := ?_) rfl rfl (by kernel_rfl) (by kernel_rfl) (by kernel_rfl) (fun _ _ _ h => h) (Or.inl ⟨by rfl, ?hy⟩) (by assumption) ?_
             case hy => (intro wz hSw; (try dsimp only at hSw); go_simp <;> with_reducible rfl)
             simp only [List.setIfInBounds_toArray, List.set_cons_zero, List.set_cons_succ])
          | (refine take_at (i := 18) (v := undef) rfl rfl (by kernel_rfl) (by kernel_rfl) (by kernel_rfl) (fun _ _ _ h => h) (Or.inr ⟨by rfl, rfl⟩) (by assumption) ?_
             simp only [List.setIfInBounds_toArray, List.set_cons_zero, List.set_cons_succ])
        first
          | (refine take_at (i := 19) (v := ?_) rfl rfl (by kernel_rfl) (by kernel_rfl) (by kernel_rfl) (fun _ _ _ h => h) (Or.inl ⟨by rfl, ?hy⟩) (by assumption) ?_
             case hy => (intro wz hSw; (try dsimp only at hSw); go_simp <;> with_reducible rfl)
             simp only [List.setIfInBounds_toArray, List.set_cons_zero, List.set_cons_succ])
          | (refine take_at (i := 19) (v := undef) rfl rfl (by kernel_rfl) (by kernel_rfl) (by kernel_rfl) (fun _ _ _ h => h) (Or.inr ⟨by rfl, rfl⟩) (by assumption) ?_
             simp only [List.setIfInBounds_toArray, List.set_cons_zero, List.set_cons_succ])
        first
          | (refine take_at (i := 20) (v := ?_) rfl rfl (by kernel_rfl) (by kernel_rfl) (by kernel_rfl) (fun _ _ _ h => h) (Or.inl ⟨by rfl, ?hy⟩) (by assumption) ?_
             case hy => (intro wz hSw; (try dsimp only at hSw); go_simp <;> with_reducible rfl)
             simp only [List.setIfInBounds_toArray, List.set_cons_zero, List.set_cons_succ])
          | (refine take_at (i := 20) (v := undef) rfl rfl (by kernel_rfl) (by kernel_rfl) (by kernel_rfl) (fun _ _ _ h => h) (Or.inr ⟨by rfl, rfl⟩) (by assumption) ?_
             simp only [List.setIfInBounds_toArray, List.set_cons_zero, List.set_cons_succ])
        refine wpAnyH_done (by kernel_rfl) ?_ _
        try
          rw [show (IntKind.u64.wrap M' != M') = false by rw [wrap_own M' o0 (by omega)]; exact bne_self_eq_false M']
        clear k1 k2 k3 k4 cf4 cf7 cg4 cg7 o0 o1
        replace HD := Lib.hid (HD.out.ext hHeld)
        replace HF := Lib.hid (HF.out.ext hHeld)
        replace HG := Lib.hid (HG.out.ext hHeld)
        have HLE := Lib.hid HSC.out.len
        have HA2 := Lib.hid HSC.out.at_
        clear hHeld HSC
        go_wp2
        exact ⟨⟨k + 1, by omega, by go_num, f, lv2, log2, lv3, _, HD.out, HF.out, HG.out, HRG.out, HA2.out, HM'.out, by have := HLE.out; omega⟩, by simp [intOf]; omega⟩
end Go.Proofs.YtkmfamidahlgiaaGreatDoor
/- The walk of GateScans. -/
namespace Go.Proofs.YtkmfamidahlgiaaGreatDoor
open Go.RowKit
set_option linter.unusedVariables false
set_option linter.unusedSimpArgs false
set_option maxHeartbeats 4000000
attribute [local go_sem] later_cell later_frozen later_const
/-- those ahead of a consumer; none, where there is no such consumer -/
def upsG (ups : List (List Int)) (c : Int) : List Int := if 0 ≤ c ∧ c < ups.length then ups.getD c.toNat [] else []
theorem plc_id {n : Nat} {xs : List Int} (h : ∀ x ∈ xs, 0 ≤ x ∧ x < (n : Int)) : xs.map (plc 0 n) = xs := by
  have : ∀ x ∈ xs, plc 0 n x = x := fun x hx => by
    have := h x hx
    unfold plc
    rw [if_neg (by omega)]
    omega
  exact (List.map_congr_left this).trans (List.map_id _)
theorem gts_of {n : Nat} {xs : List Int} (h : ∀ x ∈ xs, 0 ≤ x ∧ x < (n : Int)) (hl : xs.length ≤ 1000) : Gts n xs :=
  ⟨fun i hi => by
    have hm : xs.getD i 0 ∈ xs := by
      rw [List.getD_eq_getElem?_getD, List.getElem?_eq_getElem hi]
      exact List.getElem_mem hi
    have := h _ hm
    exact ⟨(xs.getD i 0).toNat, by omega, by omega⟩, hl⟩
theorem endsG_in (ups : List (List Int)) : ∀ x ∈ endsG ups, 0 ≤ x ∧ x < (ups.length : Int) := fun x hx => by
  unfold endsG at hx
  split at hx
  · obtain ⟨i, hi, -, e⟩ := mem_sel.1 hx
    omega
  · simp at hx
theorem upsG_in {ups : List (List Int)} (rt : Rt ups) (c : Int) : ∀ x ∈ upsG ups c, 0 ≤ x ∧ x < (ups.length : Int) := fun x hx => by
  unfold upsG at hx
  split at hx
  next h =>
    exact (rt.nms (ups.getD c.toNat []) (by
      rw [List.getD_eq_getElem?_getD, List.getElem?_eq_getElem (show c.toNat < ups.length by omega)]
      exact List.getElem_mem _)).1 x hx
  · simp at hx
theorem upsG_len {ups : List (List Int)} (hb : longB ups = false) (c : Int) : (upsG ups c).length ≤ 20 := by
  unfold upsG
  split
  next h =>
    have := (longB_no hb).2 (ups.getD c.toNat []) (by
      rw [List.getD_eq_getElem?_getD, List.getElem?_eq_getElem (show c.toNat < ups.length by omega)]
      exact List.getElem_mem _)
    exact this
  · simp
theorem isTwos_ext {k : IntKind} {w : World} {a : Option Addr} {len cap : Nat} {zs : List (Int × Int)} (h : IsTwos k w a len cap zs) : ∀ w', Ext w w' → IsTwos k w' a len cap zs := fun w' hx => by
  obtain ⟨h1, h2, h3, h4, h5⟩ := h
  refine ⟨h1, h2, h3, h4, h5.imp id ?_⟩
  rintro ⟨b, off, e, hc⟩
  exact ⟨b, off, e, fun i hi => ⟨hx.cell (hc i hi).1, hx.cell (hc i hi).2⟩⟩
theorem gtUps_y (y : LY) (ups : List (List Int)) (c : Int) (w : World) (K : BK y ups) (O : ListsV w (.slice y.a y.n y.cap) ups) (hb : longB ups = false) :
    Calls Tryz.prog 13 #[(.agg #[.int .i64 (y.V), .int .i64 (y.W), .int .i64 (y.C), .int .i64 (y.P), .int .u64 (y.S), .slice y.a y.n y.cap, .int .i64 (y.Cu), .int .i64 (y.Cl), .int .i64 (y.Ti), .int .i64 (y.Se), .int .i64 (y.Ne), .int .i64 (y.Ma), .int .i64 (y.Sl), .int .i64 (y.m)]), .int .i64 c] w (GivesI w (upsG ups c)) := by
  have rt := K.ok.rt
  obtain ⟨V, W, C, P, S, a, n, cap, Cu, Cl, Ti, Se, Ne, Ma, Sl, m⟩ := y
  have hn := K.n
  have h6 := K.num.n6
  dsimp only at hn h6 O ⊢
  subst hn
  have hl := upsG_len hb c
  have hin := upsG_in rt c
  unfold upsG at hl hin ⊢
  by_cases h : 0 ≤ c ∧ c < ups.length
  · rw [if_pos h] at hl hin ⊢
    obtain ⟨k, rfl⟩ : ∃ k : Nat, c = k := ⟨c.toNat, by omega⟩
    have hk : ((k : Int)).toNat = k := by omega
    rw [hk] at hl hin ⊢
    have hc := gtUps_in V W C P S a cap ups Cu Cl Ti Se Ne Ma Sl m k w O (by omega) (by omega) (by omega)
    rwa [plc_id hin] at hc
  · rw [if_neg h]
    refine (gtUps_out V W C P S a ups.length cap Cu Cl Ti Se Ne Ma Sl m c w (by omega)).mono ?_
    rintro e w' ⟨rfl, hx⟩
    exact gives_nil hx
set_option maxRecDepth 100000 in
theorem gateScans32 (V C P S : Int) (a : Option Addr) (cap : Nat) (ups : List (List Int)) (cn : Int) (a2 : Option Addr) (len2 cap2 : Nat) (zs : List (Int × Int)) (w : World) (hS0 : 0 ≤ S) (hS1 : S < 18446744073709551616) (h : Came w a ups.length cap ups) (hR : IsTwos .i64 w a2 len2 cap2 zs) (E : Parts w ∧ Tab w) (hb : longB ups = false) (h100 : len2 ≤ 100) (hg : ckC V 32 C P ups = 0) :
    Calls Tryz.prog 3 #[(.agg #[.int .i64 V, .int .i64 32, .int .i64 C, .int .i64 P, .int .u64 (S), .slice a ups.length cap]), .int .i64 cn, .slice a2 len2 cap2] w fun e w' => e = .returned (.bool true) ∧ Below w.heap.size w w' := by
  have CL := fun w' (hx : Ext w w') => long _ ups w' (h.l.ext hx) (by rw [h.n]; exact h.m) (fun l hl => (h.each l hl).1)
  have d100 : decide ((100 : Int) < (len2 : Int)) = false := by simp; omega
  rw [hb] at CL
  have HCL := Lib.hid CL
  obtain ⟨hll, hn⟩ := came_small h hb
  have CR := fun w' (hx : Ext w w') => r10Right V 32 C P S _ ups w' (h.l.ext hx) hll hn
  rw [show (ckC V 32 C P ups == 0) = true by simpa using hg] at CR
  have HCR := Lib.hid CR
  have rt := (ok_iff.1 hg).rt
  have h6 := rt.six
  have CO := Lib.hid (fun w' (hx : Ext w w') => of_board V 32 C P S _ ups w' (h.l.ext hx) hll hn hg)
  have CE := Lib.hid (fun (y : LY) w' (K : BK y ups) (O : ListsV w' (.slice y.a y.n y.cap) ups) (hx : Ext w w') => gtEnds_y y ups w' K O (E.2.ext hx))
  have CU := Lib.hid (fun (y : LY) w' (K : BK y ups) (O : ListsV w' (.slice y.a y.n y.cap) ups) => gtUps_y y ups cn w' K O hb)
  have CRE := Lib.hid (fun w' (hx : Ext w w') => r16Ends V 32 C P S a cap ups w' rt (chk_zero.2 rt) (h.l.ext hx) hll)
  rw [plc_id (endsG_in ups)] at CE
  have hel : (endsG ups).length ≤ 20 := by have := endsG_len ups; omega
  have hul := upsG_len hb cn
  have HGE := Lib.hid (gts_of (endsG_in ups) (by omega))
  have HGU := Lib.hid (gts_of (upsG_in rt cn) (by omega))
  have HIS := Lib.hid (isTwos_ext hR)
  have CP := Lib.hid (fun cv xs w' (hx : Ext w w') (hv : IntsV w' cv xs) (hgx : Gts ups.length xs) => gsPlayed32 V C P S a cap ups cv xs a2 len2 cap2 zs w' (h.l.ext hx) hv hgx (HIS.out w' hx) (E.1.ext hx) hll hn hg h100 hS0 hS1)
  have HUP : Hid (∀ w', Ext w w' → 0 ≤ cn → cn < (ups.length : Int) → ∃ b off u, a = some ⟨b, off, none⟩ ∧ w'.cell? ⟨b, off + cn.toNat, none⟩ = some u ∧ IntsV w' u (upsG ups cn)) := Lib.hid (fun w' hx h0 h1 => by
    obtain ⟨b, off, u, cu, ea, cu0, hI⟩ := h.l.at hx (c := cn.toNat) (by omega)
    refine ⟨b, off, _, ea, cu0, ?_⟩
    unfold upsG
    rw [if_pos ⟨h0, h1⟩]
    exact hI)
  have HUN : Hid (¬ (0 ≤ cn ∧ cn < (ups.length : Int)) → (upsG ups cn).length = 0) := Lib.hid (fun hh => by unfold upsG; rw [if_neg hh]; rfl)
  generalize hEe : endsG ups = ends at *
  generalize hUe : upsG ups cn = upl at *
  clear CL CR h hb E hR hll hn hg h100 h6 rt hEe hUe
  have HN := Lib.hid (rfl : ups.length = ups.length)
  generalize hnn : ups.length = n at *
  go_enter Tryz.func3, Tryz.ntmps3
  go_wp2_with fail
  refine (HCL.out _ (by repeat (first | with_reducible exact Ext.refl _ | with_reducible assumption | with_reducible refine Ext.alloc ?_ _ | with_reducible refine Ext.drew ?_ | with_reducible refine Ext.drewN ?_ _ | with_reducible refine Ext.setCell ?_ (by simp <;> omega) _ | with_reducible refine Ext.trans ?_ (by assumption)))).mono ?_
  rintro e w' ⟨rfl, rfl⟩
  go_wp2_with fail
  refine (HCR.out _ (by repeat (first | with_reducible exact Ext.refl _ | with_reducible assumption | with_reducible refine Ext.alloc ?_ _ | with_reducible refine Ext.drew ?_ | with_reducible refine Ext.drewN ?_ _ | with_reducible refine Ext.setCell ?_ (by simp <;> omega) _ | with_reducible refine Ext.trans ?_ (by assumption)))).mono ?_
  rintro e w1 ⟨rfl, hb1⟩
  obtain ⟨hc1, hf1⟩ := hb1.cells
  clear hc1 hf1
  have qc_0 : w1.cell? ⟨w.heap.size, 0, none⟩ = some (.int .i64 V) := (hb1.cells.1 _ _ (by simp <;> omega)).trans (by simp [go_sem])
  have qc_1 : w1.cell? ⟨w.heap.size, 1, none⟩ = some (.int .i64 32) := (hb1.cells.1 _ _ (by simp <;> omega)).trans (by simp [go_sem])
  have qc_2 : w1.cell? ⟨w.heap.size, 2, none⟩ = some (.int .i64 C) := (hb1.cells.1 _ _ (by simp <;> omega)).trans (by simp [go_sem])
  have qc_3 : w1.cell? ⟨w.heap.size, 3, none⟩ = some (.int .i64 P) := (hb1.cells.1 _ _ (by simp <;> omega)).trans (by simp [go_sem])
  have qc_4 : w1.cell? ⟨w.heap.size, 4, none⟩ = some (.int .u64 (S)) := (hb1.cells.1 _ _ (by simp <;> omega)).trans (by simp [go_sem])
  have qc_5 : w1.cell? ⟨w.heap.size, 5, none⟩ = some (.slice a n cap) := (hb1.cells.1 _ _ (by simp <;> omega)).trans (by simp [go_sem])
  have pc := World.block_lt_of_cell? _ ⟨w.heap.size, 0, none⟩ qc_0
  have rc := Nat.lt_succ_of_lt pc
  go_wp2_with fail
  have E1 : Ext w w1 := by repeat (first | with_reducible exact Ext.refl _ | with_reducible assumption | with_reducible refine Ext.alloc ?_ _ | with_reducible refine Ext.drew ?_ | with_reducible refine Ext.drewN ?_ _ | with_reducible refine Ext.setCell ?_ (by simp <;> omega) _ | with_reducible refine Ext.trans ?_ (by assumption))
  refine (CO.out _ E1).mono ?_
  rintro e wo ⟨y0, K0, o0, rfl, O0, Xo⟩
  have HE1 := Lib.hid (E1.trans Xo)
  have HK0 := Lib.hid K0
  have HO0 := Lib.hid O0
  replace qc_0 := Xo.cell qc_0
  replace qc_1 := Xo.cell qc_1
  replace qc_2 := Xo.cell qc_2
  replace qc_3 := Xo.cell qc_3
  replace qc_4 := Xo.cell qc_4
  replace qc_5 := Xo.cell qc_5
  replace pc := Nat.lt_of_lt_of_le pc Xo.size
  replace rc := Nat.lt_succ_of_lt pc
  clear E1 Xo O0 K0 o0 hb1 CO
  go_upto_region 4 with (fail)
  refine settle_wp ?_
  intro wA hbA
  have ql_0 : wA.cell? ⟨wo.heap.size, 0, none⟩ = some (.int .i64 y0.V) := hbA.cell (by simp [go_sem])
  have ql_1 : wA.cell? ⟨wo.heap.size, 1, none⟩ = some (.int .i64 y0.W) := hbA.cell (by simp [go_sem])
  have ql_2 : wA.cell? ⟨wo.heap.size, 2, none⟩ = some (.int .i64 y0.C) := hbA.cell (by simp [go_sem])
  have ql_3 : wA.cell? ⟨wo.heap.size, 3, none⟩ = some (.int .i64 y0.P) := hbA.cell (by simp [go_sem])
  have ql_4 : wA.cell? ⟨wo.heap.size, 4, none⟩ = some (.int .u64 y0.S) := hbA.cell (by simp [go_sem])
  have ql_5 : wA.cell? ⟨wo.heap.size, 5, none⟩ = some (.slice y0.a y0.n y0.cap) := hbA.cell (by simp [go_sem])
  have ql_6 : wA.cell? ⟨wo.heap.size, 6, none⟩ = some (.int .i64 y0.Cu) := hbA.cell (by simp [go_sem])
  have ql_7 : wA.cell? ⟨wo.heap.size, 7, none⟩ = some (.int .i64 y0.Cl) := hbA.cell (by simp [go_sem])
  have ql_8 : wA.cell? ⟨wo.heap.size, 8, none⟩ = some (.int .i64 y0.Ti) := hbA.cell (by simp [go_sem])
  have ql_9 : wA.cell? ⟨wo.heap.size, 9, none⟩ = some (.int .i64 y0.Se) := hbA.cell (by simp [go_sem])
  have ql_10 : wA.cell? ⟨wo.heap.size, 10, none⟩ = some (.int .i64 y0.Ne) := hbA.cell (by simp [go_sem])
  have ql_11 : wA.cell? ⟨wo.heap.size, 11, none⟩ = some (.int .i64 y0.Ma) := hbA.cell (by simp [go_sem])
  have ql_12 : wA.cell? ⟨wo.heap.size, 12, none⟩ = some (.int .i64 y0.Sl) := hbA.cell (by simp [go_sem])
  have ql_13 : wA.cell? ⟨wo.heap.size, 13, none⟩ = some (.int .i64 y0.m) := hbA.cell (by simp [go_sem])
  have XA : Ext wo wA := Ext.trans ((Ext.refl wo).alloc _) hbA
  replace qc_0 := XA.cell qc_0
  replace qc_1 := XA.cell qc_1
  replace qc_2 := XA.cell qc_2
  replace qc_3 := XA.cell qc_3
  replace qc_4 := XA.cell qc_4
  replace qc_5 := XA.cell qc_5
  replace pc := Nat.lt_of_lt_of_le pc XA.size
  replace rc := Nat.lt_succ_of_lt pc
  have HXA := Lib.hid (HE1.out.trans XA)
  have HOA := Lib.hid (HO0.out.ext XA)
  clear hbA XA HE1 HO0
  have F0 := fun w' (hz : Ext wA w') => hz.cell ql_0
  have F1 := fun w' (hz : Ext wA w') => hz.cell ql_1
  have F2 := fun w' (hz : Ext wA w') => hz.cell ql_2
  have F3 := fun w' (hz : Ext wA w') => hz.cell ql_3
  have F4 := fun w' (hz : Ext wA w') => hz.cell ql_4
  have F5 := fun w' (hz : Ext wA w') => hz.cell ql_5
  have F6 := fun w' (hz : Ext wA w') => hz.cell ql_6
  have F7 := fun w' (hz : Ext wA w') => hz.cell ql_7
  have F8 := fun w' (hz : Ext wA w') => hz.cell ql_8
  have F9 := fun w' (hz : Ext wA w') => hz.cell ql_9
  have F10 := fun w' (hz : Ext wA w') => hz.cell ql_10
  have F11 := fun w' (hz : Ext wA w') => hz.cell ql_11
  have F12 := fun w' (hz : Ext wA w') => hz.cell ql_12
  have F13 := fun w' (hz : Ext wA w') => hz.cell ql_13
  refine wp_region_held_drew (S := fun w' => Ext wA w') (by kernel_rfl) ?hbeg (fun hHeld => ?_)
  case hbeg => exact (Ext.refl wA).drew
  have hHeld0 : Ext wA wA := by first | exact Ext.refl _ | assumption
  first
    | (refine take_at (i := 0) (v := ?_) rfl rfl (by kernel_rfl) (by kernel_rfl) (by kernel_rfl) (fun _ _ _ h => h) (Or.inl ⟨by rfl, ?hy⟩) (by assumption) ?_
       case hy => (intro wz hSw; (try dsimp only at hSw); go_simp <;> with_reducible rfl)
       simp only [List.setIfInBounds_toArray, List.set_cons_zero, List.set_cons_succ])
    | (refine take_at (i := 0) (v := undef) rfl rfl (by kernel_rfl) (by kernel_rfl) (by kernel_rfl) (fun _ _ _ h => h) (Or.inr ⟨by rfl, rfl⟩) (by assumption) ?_
       simp only [List.setIfInBounds_toArray, List.set_cons_zero, List.set_cons_succ])
  first
    | (refine take_at (i := 2) (v := ?_) rfl rfl (by kernel_rfl) (by kernel_rfl) (by kernel_rfl) (fun _ _ _ h => h) (Or.inl ⟨by rfl, ?hy⟩) (by assumption) ?_
       case hy => (intro wz hSw; (try dsimp only at hSw); go_simp <;> with_reducible rfl)
       simp only [List.setIfInBounds_toArray, List.set_cons_zero, List.set_cons_succ])
    | (refine take_at (i := 2) (v := undef) rfl rfl (by kernel_rfl) (by kernel_rfl) (by kernel_rfl) (fun _ _ _ h => h) (Or.inr ⟨by rfl, rfl⟩) (by assumption) ?_
       simp only [List.setIfInBounds_toArray, List.set_cons_zero, List.set_cons_succ])
  first
    | (refine take_at (i := 3) (v := ?_) rfl rfl (by kernel_rfl) (by kernel_rfl) (by kernel_rfl) (fun _ _ _ h => h) (Or.inl ⟨by rfl, ?hy⟩) (by assumption) ?_
       case hy => (intro wz hSw; (try dsimp only at hSw); go_simp <;> with_reducible rfl)
       simp only [List.setIfInBounds_toArray, List.set_cons_zero, List.set_cons_succ])
    | (refine take_at (i := 3) (v := undef) rfl rfl (by kernel_rfl) (by kernel_rfl) (by kernel_rfl) (fun _ _ _ h => h) (Or.inr ⟨by rfl, rfl⟩) (by assumption) ?_
       simp only [List.setIfInBounds_toArray, List.set_cons_zero, List.set_cons_succ])
  refine call_at (i := 1) (F := 12) (CE.out y0 _ HK0.out (HOA.out.ext hHeld).lists (HXA.out.trans hHeld)) rfl rfl (by kernel_rfl) (by rfl) (by first | rfl | (go_simp <;> rfl)) ?_
  rintro e wq1 ⟨vq1, rfl, Rq1, Xq1⟩
  replace hHeld := hHeld.trans Xq1
  refine ⟨_, rfl, hHeld, ?_⟩
  simp only [List.setIfInBounds_toArray, List.set_cons_zero, List.set_cons_succ]
  refine call_at (i := 4) (F := 13) (CU.out y0 _ HK0.out (HOA.out.ext hHeld).lists) rfl rfl (by kernel_rfl) (by rfl) (by first | rfl | (go_simp <;> rfl)) ?_
  rintro e wq2 ⟨vq2, rfl, Rq2, Xq2⟩
  replace hHeld := hHeld.trans Xq2
  refine ⟨_, rfl, hHeld, ?_⟩
  simp only [List.setIfInBounds_toArray, List.set_cons_zero, List.set_cons_succ]
  first
    | (refine take_at (i := 5) (v := ?_) rfl rfl (by kernel_rfl) (by kernel_rfl) (by kernel_rfl) (fun _ _ _ h => h) (Or.inl ⟨by rfl, ?hy⟩) (by assumption) ?_
       case hy => (intro wz hSw; (try dsimp only at hSw); go_simp <;> with_reducible rfl)
       simp only [List.setIfInBounds_toArray, List.set_cons_zero, List.set_cons_succ])
    | (refine take_at (i := 5) (v := undef) rfl rfl (by kernel_rfl) (by kernel_rfl) (by kernel_rfl) (fun _ _ _ h => h) (Or.inr ⟨by rfl, rfl⟩) (by assumption) ?_
       simp only [List.setIfInBounds_toArray, List.set_cons_zero, List.set_cons_succ])
  first
    | (refine take_at (i := 6) (v := ?_) rfl rfl (by kernel_rfl) (by kernel_rfl) (by kernel_rfl) (fun _ _ _ h => h) (Or.inl ⟨by rfl, ?hy⟩) (by assumption) ?_
       case hy => (intro wz hSw; (try dsimp only at hSw); go_simp <;> with_reducible rfl)
       simp only [List.setIfInBounds_toArray, List.set_cons_zero, List.set_cons_succ])
    | (refine take_at (i := 6) (v := undef) rfl rfl (by kernel_rfl) (by kernel_rfl) (by kernel_rfl) (fun _ _ _ h => h) (Or.inr ⟨by rfl, rfl⟩) (by assumption) ?_
       simp only [List.setIfInBounds_toArray, List.set_cons_zero, List.set_cons_succ])
  refine wpAnyH_done (by kernel_rfl) ?_ _
  clear F0 F1 F2 F3 F4 F5 F6 F7 F8 F9 F10 F11 F12 F13 ql_0 ql_1 ql_2 ql_3 ql_4 ql_5 ql_6 ql_7 ql_8 ql_9 ql_10 ql_11 ql_12 ql_13
  have I1 := Lib.hid ((Rq1.ext Xq2).ints)
  have I2 := Lib.hid (Rq2.ints)
  replace qc_0 := hHeld.cell qc_0
  replace qc_1 := hHeld.cell qc_1
  replace qc_2 := hHeld.cell qc_2
  replace qc_3 := hHeld.cell qc_3
  replace qc_4 := hHeld.cell qc_4
  replace qc_5 := hHeld.cell qc_5
  replace pc := Nat.lt_of_lt_of_le pc hHeld.size
  replace rc := Nat.lt_succ_of_lt pc
  have HX2 := Lib.hid (HXA.out.trans hHeld)
  clear Rq1 Rq2 Xq1 Xq2 hHeld HXA HOA HK0 CE CU
  go_wp2_with fail
  refine (CRE.out _ HX2.out).mono ?_
  rintro e w3 ⟨v3, rfl, R3, X3⟩
  have HR3 := Lib.hid R3.ints
  have HX3 := Lib.hid X3
  clear R3 X3
  go_wp2_with fail
  refine (same5 vq1 v3 ends w3 (I1.out.ext HX3.out) HR3.out (by omega)).mono ?_
  rintro e w4 ⟨rfl, X4⟩
  have X24 := HX3.out.trans X4
  replace qc_0 := X24.cell qc_0
  replace qc_1 := X24.cell qc_1
  replace qc_2 := X24.cell qc_2
  replace qc_3 := X24.cell qc_3
  replace qc_4 := X24.cell qc_4
  replace qc_5 := X24.cell qc_5
  replace pc := Nat.lt_of_lt_of_le pc X24.size
  replace rc := Nat.lt_succ_of_lt pc
  have HX4 := Lib.hid (HX2.out.trans X24)
  replace I1 := Lib.hid (I1.out.ext X24)
  replace I2 := Lib.hid (I2.out.ext X24)
  clear X24 X4 HX3 HR3 HX2 CRE
  obtain ⟨u2, c2, e2, -⟩ := I2.out.form
  subst e2
  have HUPL := Lib.hid hul
  by_cases hin : 0 ≤ cn ∧ cn < (n : Int)
  · obtain ⟨b, off, u, rfl, cu0, hI⟩ := HUP.out _ HX4.out hin.1 hin.2
    obtain ⟨k, rfl⟩ : ∃ k : Nat, cn = k := ⟨cn.toNat, by omega⟩
    have hk : ((k : Int)).toNat = k := by omega
    rw [hk] at cu0
    have hkn : (k : Int) < (n : Int) := hin.2
    have HI := Lib.hid hI
    have d1 : decide ((n : Int) ≤ (k : Int)) = false := by simp; omega
    clear hin hI hk hul hel HUP HUN
    go_wp2_with fail
    refine (same5 _ u upl _ I2.out HI.out (by have := HUPL.out; omega)).mono ?_
    rintro e w5 ⟨rfl, X5⟩
    replace qc_0 := X5.cell qc_0
    replace qc_1 := X5.cell qc_1
    replace qc_2 := X5.cell qc_2
    replace qc_3 := X5.cell qc_3
    replace qc_4 := X5.cell qc_4
    replace qc_5 := X5.cell qc_5
    replace pc := Nat.lt_of_lt_of_le pc X5.size
    replace rc := Nat.lt_succ_of_lt pc
    have HX5 := Lib.hid (HX4.out.trans X5)
    replace I1 := Lib.hid (I1.out.ext X5)
    replace I2 := Lib.hid (I2.out.ext X5)
    clear X5 HI cu0 HX4
    go_wp2_with fail
    refine (CP.out vq1 ends _ HX5.out I1.out HGE.out).mono ?_
    rintro e w6 ⟨rfl, X6⟩
    replace qc_0 := X6.cell qc_0
    replace qc_1 := X6.cell qc_1
    replace qc_2 := X6.cell qc_2
    replace qc_3 := X6.cell qc_3
    replace qc_4 := X6.cell qc_4
    replace qc_5 := X6.cell qc_5
    replace pc := Nat.lt_of_lt_of_le pc X6.size
    replace rc := Nat.lt_succ_of_lt pc
    have HX6 := Lib.hid (HX5.out.trans X6)
    replace I2 := Lib.hid (I2.out.ext X6)
    clear X6 HX5
    go_wp2_with fail
    refine (CP.out _ upl _ HX6.out I2.out HGU.out).mono ?_
    rintro e w7 ⟨rfl, X7⟩
    have HX7 := Lib.hid (HX6.out.trans X7)
    clear X7 HX6
    go_wp2_with fail
    refine (live16 _).mono ?_
    rintro e w' ⟨rfl, rfl⟩
    go_wp2
    go_ret
    exact ⟨rfl, Ext.below HX7.out⟩
  · have hu0 := HUN.out hin
    have d2 : decide (cn < 0) = true ∨ (decide (cn < 0) = false ∧ decide ((n : Int) ≤ cn) = true) := by
      by_cases h0 : cn < 0
      · exact .inl (by simpa using h0)
      · exact .inr ⟨by simpa using h0, by simp; omega⟩
    have HU0 := Lib.hid hu0
    rw [hu0] at I2 ⊢
    clear hin hul hel HUP HUN hu0
    rcases d2 with d0 | ⟨d0, d1⟩
    all_goals
      go_wp2_with fail
      refine (CP.out vq1 ends _ HX4.out I1.out HGE.out).mono ?_
      rintro e w6 ⟨rfl, X6⟩
      replace qc_0 := X6.cell qc_0
      replace qc_1 := X6.cell qc_1
      replace qc_2 := X6.cell qc_2
      replace qc_3 := X6.cell qc_3
      replace qc_4 := X6.cell qc_4
      replace qc_5 := X6.cell qc_5
      replace pc := Nat.lt_of_lt_of_le pc X6.size
      replace rc := Nat.lt_succ_of_lt pc
      have HX6 := Lib.hid (HX4.out.trans X6)
      replace I2 := Lib.hid (I2.out.ext X6)
      clear X6 HX4
      go_wp2_with fail
      refine (CP.out _ upl _ HX6.out I2.out HGU.out).mono ?_
      rintro e w7 ⟨rfl, X7⟩
      have HX7 := Lib.hid (HX6.out.trans X7)
      clear X7 HX6
      go_wp2_with fail
      refine (live16 _).mono ?_
      rintro e w' ⟨rfl, rfl⟩
      go_wp2
      go_ret
      exact ⟨rfl, Ext.below HX7.out⟩
set_option maxRecDepth 100000 in
theorem gateScans64 (V C P S : Int) (a : Option Addr) (cap : Nat) (ups : List (List Int)) (cn : Int) (a2 : Option Addr) (len2 cap2 : Nat) (zs : List (Int × Int)) (w : World) (hS0 : 0 ≤ S) (hS1 : S < 18446744073709551616) (h : Came w a ups.length cap ups) (hR : IsTwos .i64 w a2 len2 cap2 zs) (E : Parts w ∧ Tab w) (hb : longB ups = false) (h100 : len2 ≤ 100) (hg : ckC V 64 C P ups = 0) :
    Calls Tryz.prog 3 #[(.agg #[.int .i64 V, .int .i64 64, .int .i64 C, .int .i64 P, .int .u64 (S), .slice a ups.length cap]), .int .i64 cn, .slice a2 len2 cap2] w fun e w' => e = .returned (.bool true) ∧ Below w.heap.size w w' := by
  have CL := fun w' (hx : Ext w w') => long _ ups w' (h.l.ext hx) (by rw [h.n]; exact h.m) (fun l hl => (h.each l hl).1)
  have d100 : decide ((100 : Int) < (len2 : Int)) = false := by simp; omega
  rw [hb] at CL
  have HCL := Lib.hid CL
  obtain ⟨hll, hn⟩ := came_small h hb
  have CR := fun w' (hx : Ext w w') => r10Right V 64 C P S _ ups w' (h.l.ext hx) hll hn
  rw [show (ckC V 64 C P ups == 0) = true by simpa using hg] at CR
  have HCR := Lib.hid CR
  have rt := (ok_iff.1 hg).rt
  have h6 := rt.six
  have CO := Lib.hid (fun w' (hx : Ext w w') => of_board V 64 C P S _ ups w' (h.l.ext hx) hll hn hg)
  have CE := Lib.hid (fun (y : LY) w' (K : BK y ups) (O : ListsV w' (.slice y.a y.n y.cap) ups) (hx : Ext w w') => gtEnds_y y ups w' K O (E.2.ext hx))
  have CU := Lib.hid (fun (y : LY) w' (K : BK y ups) (O : ListsV w' (.slice y.a y.n y.cap) ups) => gtUps_y y ups cn w' K O hb)
  have CRE := Lib.hid (fun w' (hx : Ext w w') => r16Ends V 64 C P S a cap ups w' rt (chk_zero.2 rt) (h.l.ext hx) hll)
  rw [plc_id (endsG_in ups)] at CE
  have hel : (endsG ups).length ≤ 20 := by have := endsG_len ups; omega
  have hul := upsG_len hb cn
  have HGE := Lib.hid (gts_of (endsG_in ups) (by omega))
  have HGU := Lib.hid (gts_of (upsG_in rt cn) (by omega))
  have HIS := Lib.hid (isTwos_ext hR)
  have CP := Lib.hid (fun cv xs w' (hx : Ext w w') (hv : IntsV w' cv xs) (hgx : Gts ups.length xs) => gsPlayed64 V C P S a cap ups cv xs a2 len2 cap2 zs w' (h.l.ext hx) hv hgx (HIS.out w' hx) (E.1.ext hx) hll hn hg h100 hS0 hS1)
  have HUP : Hid (∀ w', Ext w w' → 0 ≤ cn → cn < (ups.length : Int) → ∃ b off u, a = some ⟨b, off, none⟩ ∧ w'.cell? ⟨b, off + cn.toNat, none⟩ = some u ∧ IntsV w' u (upsG ups cn)) := Lib.hid (fun w' hx h0 h1 => by
    obtain ⟨b, off, u, cu, ea, cu0, hI⟩ := h.l.at hx (c := cn.toNat) (by omega)
    refine ⟨b, off, _, ea, cu0, ?_⟩
    unfold upsG
    rw [if_pos ⟨h0, h1⟩]
    exact hI)
  have HUN : Hid (¬ (0 ≤ cn ∧ cn < (ups.length : Int)) → (upsG ups cn).length = 0) := Lib.hid (fun hh => by unfold upsG; rw [if_neg hh]; rfl)
  generalize hEe : endsG ups = ends at *
  generalize hUe : upsG ups cn = upl at *
  clear CL CR h hb E hR hll hn hg h100 h6 rt hEe hUe
  have HN := Lib.hid (rfl : ups.length = ups.length)
  generalize hnn : ups.length = n at *
  go_enter Tryz.func3, Tryz.ntmps3
  go_wp2_with fail
  refine (HCL.out _ (by repeat (first | with_reducible exact Ext.refl _ | with_reducible assumption | with_reducible refine Ext.alloc ?_ _ | with_reducible refine Ext.drew ?_ | with_reducible refine Ext.drewN ?_ _ | with_reducible refine Ext.setCell ?_ (by simp <;> omega) _ | with_reducible refine Ext.trans ?_ (by assumption)))).mono ?_
  rintro e w' ⟨rfl, rfl⟩
  go_wp2_with fail
  refine (HCR.out _ (by repeat (first | with_reducible exact Ext.refl _ | with_reducible assumption | with_reducible refine Ext.alloc ?_ _ | with_reducible refine Ext.drew ?_ | with_reducible refine Ext.drewN ?_ _ | with_reducible refine Ext.setCell ?_ (by simp <;> omega) _ | with_reducible refine Ext.trans ?_ (by assumption)))).mono ?_
  rintro e w1 ⟨rfl, hb1⟩
  obtain ⟨hc1, hf1⟩ := hb1.cells
  clear hc1 hf1
  have qc_0 : w1.cell? ⟨w.heap.size, 0, none⟩ = some (.int .i64 V) := (hb1.cells.1 _ _ (by simp <;> omega)).trans (by simp [go_sem])
  have qc_1 : w1.cell? ⟨w.heap.size, 1, none⟩ = some (.int .i64 64) := (hb1.cells.1 _ _ (by simp <;> omega)).trans (by simp [go_sem])
  have qc_2 : w1.cell? ⟨w.heap.size, 2, none⟩ = some (.int .i64 C) := (hb1.cells.1 _ _ (by simp <;> omega)).trans (by simp [go_sem])
  have qc_3 : w1.cell? ⟨w.heap.size, 3, none⟩ = some (.int .i64 P) := (hb1.cells.1 _ _ (by simp <;> omega)).trans (by simp [go_sem])
  have qc_4 : w1.cell? ⟨w.heap.size, 4, none⟩ = some (.int .u64 (S)) := (hb1.cells.1 _ _ (by simp <;> omega)).trans (by simp [go_sem])
  have qc_5 : w1.cell? ⟨w.heap.size, 5, none⟩ = some (.slice a n cap) := (hb1.cells.1 _ _ (by simp <;> omega)).trans (by simp [go_sem])
  have pc := World.block_lt_of_cell? _ ⟨w.heap.size, 0, none⟩ qc_0
  have rc := Nat.lt_succ_of_lt pc
  go_wp2_with fail
  have E1 : Ext w w1 := by repeat (first | with_reducible exact Ext.refl _ | with_reducible assumption | with_reducible refine Ext.alloc ?_ _ | with_reducible refine Ext.drew ?_ | with_reducible refine Ext.drewN ?_ _ | with_reducible refine Ext.setCell ?_ (by simp <;> omega) _ | with_reducible refine Ext.trans ?_ (by assumption))
  refine (CO.out _ E1).mono ?_
  rintro e wo ⟨y0, K0, o0, rfl, O0, Xo⟩
  have HE1 := Lib.hid (E1.trans Xo)
  have HK0 := Lib.hid K0
  have HO0 := Lib.hid O0
  replace qc_0 := Xo.cell qc_0
  replace qc_1 := Xo.cell qc_1
  replace qc_2 := Xo.cell qc_2
  replace qc_3 := Xo.cell qc_3
  replace qc_4 := Xo.cell qc_4
  replace qc_5 := Xo.cell qc_5
  replace pc := Nat.lt_of_lt_of_le pc Xo.size
  replace rc := Nat.lt_succ_of_lt pc
  clear E1 Xo O0 K0 o0 hb1 CO
  go_upto_region 4 with (fail)
  refine settle_wp ?_
  intro wA hbA
  have ql_0 : wA.cell? ⟨wo.heap.size, 0, none⟩ = some (.int .i64 y0.V) := hbA.cell (by simp [go_sem])
  have ql_1 : wA.cell? ⟨wo.heap.size, 1, none⟩ = some (.int .i64 y0.W) := hbA.cell (by simp [go_sem])
  have ql_2 : wA.cell? ⟨wo.heap.size, 2, none⟩ = some (.int .i64 y0.C) := hbA.cell (by simp [go_sem])
  have ql_3 : wA.cell? ⟨wo.heap.size, 3, none⟩ = some (.int .i64 y0.P) := hbA.cell (by simp [go_sem])
  have ql_4 : wA.cell? ⟨wo.heap.size, 4, none⟩ = some (.int .u64 y0.S) := hbA.cell (by simp [go_sem])
  have ql_5 : wA.cell? ⟨wo.heap.size, 5, none⟩ = some (.slice y0.a y0.n y0.cap) := hbA.cell (by simp [go_sem])
  have ql_6 : wA.cell? ⟨wo.heap.size, 6, none⟩ = some (.int .i64 y0.Cu) := hbA.cell (by simp [go_sem])
  have ql_7 : wA.cell? ⟨wo.heap.size, 7, none⟩ = some (.int .i64 y0.Cl) := hbA.cell (by simp [go_sem])
  have ql_8 : wA.cell? ⟨wo.heap.size, 8, none⟩ = some (.int .i64 y0.Ti) := hbA.cell (by simp [go_sem])
  have ql_9 : wA.cell? ⟨wo.heap.size, 9, none⟩ = some (.int .i64 y0.Se) := hbA.cell (by simp [go_sem])
  have ql_10 : wA.cell? ⟨wo.heap.size, 10, none⟩ = some (.int .i64 y0.Ne) := hbA.cell (by simp [go_sem])
  have ql_11 : wA.cell? ⟨wo.heap.size, 11, none⟩ = some (.int .i64 y0.Ma) := hbA.cell (by simp [go_sem])
  have ql_12 : wA.cell? ⟨wo.heap.size, 12, none⟩ = some (.int .i64 y0.Sl) := hbA.cell (by simp [go_sem])
  have ql_13 : wA.cell? ⟨wo.heap.size, 13, none⟩ = some (.int .i64 y0.m) := hbA.cell (by simp [go_sem])
  have XA : Ext wo wA := Ext.trans ((Ext.refl wo).alloc _) hbA
  replace qc_0 := XA.cell qc_0
  replace qc_1 := XA.cell qc_1
  replace qc_2 := XA.cell qc_2
  replace qc_3 := XA.cell qc_3
  replace qc_4 := XA.cell qc_4
  replace qc_5 := XA.cell qc_5
  replace pc := Nat.lt_of_lt_of_le pc XA.size
  replace rc := Nat.lt_succ_of_lt pc
  have HXA := Lib.hid (HE1.out.trans XA)
  have HOA := Lib.hid (HO0.out.ext XA)
  clear hbA XA HE1 HO0
  have F0 := fun w' (hz : Ext wA w') => hz.cell ql_0
  have F1 := fun w' (hz : Ext wA w') => hz.cell ql_1
  have F2 := fun w' (hz : Ext wA w') => hz.cell ql_2
  have F3 := fun w' (hz : Ext wA w') => hz.cell ql_3
  have F4 := fun w' (hz : Ext wA w') => hz.cell ql_4
  have F5 := fun w' (hz : Ext wA w') => hz.cell ql_5
  have F6 := fun w' (hz : Ext wA w') => hz.cell ql_6
  have F7 := fun w' (hz : Ext wA w') => hz.cell ql_7
  have F8 := fun w' (hz : Ext wA w') => hz.cell ql_8
  have F9 := fun w' (hz : Ext wA w') => hz.cell ql_9
  have F10 := fun w' (hz : Ext wA w') => hz.cell ql_10
  have F11 := fun w' (hz : Ext wA w') => hz.cell ql_11
  have F12 := fun w' (hz : Ext wA w') => hz.cell ql_12
  have F13 := fun w' (hz : Ext wA w') => hz.cell ql_13
  refine wp_region_held_drew (S := fun w' => Ext wA w') (by kernel_rfl) ?hbeg (fun hHeld => ?_)
  case hbeg => exact (Ext.refl wA).drew
  have hHeld0 : Ext wA wA := by first | exact Ext.refl _ | assumption
  first
    | (refine take_at (i := 0) (v := ?_) rfl rfl (by kernel_rfl) (by kernel_rfl) (by kernel_rfl) (fun _ _ _ h => h) (Or.inl ⟨by rfl, ?hy⟩) (by assumption) ?_
       case hy => (intro wz hSw; (try dsimp only at hSw); go_simp <;> with_reducible rfl)
       simp only [List.setIfInBounds_toArray, List.set_cons_zero, List.set_cons_succ])
    | (refine take_at (i := 0) (v := undef) rfl rfl (by kernel_rfl) (by kernel_rfl) (by kernel_rfl) (fun _ _ _ h => h) (Or.inr ⟨by rfl, rfl⟩) (by assumption) ?_
       simp only [List.setIfInBounds_toArray, List.set_cons_zero, List.set_cons_succ])
  first
    | (refine take_at (i := 2) (v := ?_) rfl rfl (by kernel_rfl) (by kernel_rfl) (by kernel_rfl) (fun _ _ _ h => h) (Or.inl ⟨by rfl, ?hy⟩) (by assumption) ?_
       case hy => (intro wz hSw; (try dsimp only at hSw); go_simp <;> with_reducible rfl)
       simp only [List.setIfInBounds_toArray, List.set_cons_zero, List.set_cons_succ])
    | (refine take_at (i := 2) (v := undef) rfl rfl (by kernel_rfl) (by kernel_rfl) (by kernel_rfl) (fun _ _ _ h => h) (Or.inr ⟨by rfl, rfl⟩) (by assumption) ?_
       simp only [List.setIfInBounds_toArray, List.set_cons_zero, List.set_cons_succ])
  first
    | (refine take_at (i := 3) (v := ?_) rfl rfl (by kernel_rfl) (by kernel_rfl) (by kernel_rfl) (fun _ _ _ h => h) (Or.inl ⟨by rfl, ?hy⟩) (by assumption) ?_
       case hy => (intro wz hSw; (try dsimp only at hSw); go_simp <;> with_reducible rfl)
       simp only [List.setIfInBounds_toArray, List.set_cons_zero, List.set_cons_succ])
    | (refine take_at (i := 3) (v := undef) rfl rfl (by kernel_rfl) (by kernel_rfl) (by kernel_rfl) (fun _ _ _ h => h) (Or.inr ⟨by rfl, rfl⟩) (by assumption) ?_
       simp only [List.setIfInBounds_toArray, List.set_cons_zero, List.set_cons_succ])
  refine call_at (i := 1) (F := 12) (CE.out y0 _ HK0.out (HOA.out.ext hHeld).lists (HXA.out.trans hHeld)) rfl rfl (by kernel_rfl) (by rfl) (by first | rfl | (go_simp <;> rfl)) ?_
  rintro e wq1 ⟨vq1, rfl, Rq1, Xq1⟩
  replace hHeld := hHeld.trans Xq1
  refine ⟨_, rfl, hHeld, ?_⟩
  simp only [List.setIfInBounds_toArray, List.set_cons_zero, List.set_cons_succ]
  refine call_at (i := 4) (F := 13) (CU.out y0 _ HK0.out (HOA.out.ext hHeld).lists) rfl rfl (by kernel_rfl) (by rfl) (by first | rfl | (go_simp <;> rfl)) ?_
  rintro e wq2 ⟨vq2, rfl, Rq2, Xq2⟩
  replace hHeld := hHeld.trans Xq2
  refine ⟨_, rfl, hHeld, ?_⟩
  simp only [List.setIfInBounds_toArray, List.set_cons_zero, List.set_cons_succ]
  first
    | (refine take_at (i := 5) (v := ?_) rfl rfl (by kernel_rfl) (by kernel_rfl) (by kernel_rfl) (fun _ _ _ h => h) (Or.inl ⟨by rfl, ?hy⟩) (by assumption) ?_
       case hy => (intro wz hSw; (try dsimp only at hSw); go_simp <;> with_reducible rfl)
       simp only [List.setIfInBounds_toArray, List.set_cons_zero, List.set_cons_succ])
    | (refine take_at (i := 5) (v := undef) rfl rfl (by kernel_rfl) (by kernel_rfl) (by kernel_rfl) (fun _ _ _ h => h) (Or.inr ⟨by rfl, rfl⟩) (by assumption) ?_
       simp only [List.setIfInBounds_toArray, List.set_cons_zero, List.set_cons_succ])
  first
    | (refine take_at (i := 6) (v := ?_) rfl rfl (by kernel_rfl) (by kernel_rfl) (by kernel_rfl) (fun _ _ _ h => h) (Or.inl ⟨by rfl, ?hy⟩) (by assumption) ?_
       case hy => (intro wz hSw; (try dsimp only at hSw); go_simp <;> with_reducible rfl)
       simp only [List.setIfInBounds_toArray, List.set_cons_zero, List.set_cons_succ])
    | (refine take_at (i := 6) (v := undef) rfl rfl (by kernel_rfl) (by kernel_rfl) (by kernel_rfl) (fun _ _ _ h => h) (Or.inr ⟨by rfl, rfl⟩) (by assumption) ?_
       simp only [List.setIfInBounds_toArray, List.set_cons_zero, List.set_cons_succ])
  refine wpAnyH_done (by kernel_rfl) ?_ _
  clear F0 F1 F2 F3 F4 F5 F6 F7 F8 F9 F10 F11 F12 F13 ql_0 ql_1 ql_2 ql_3 ql_4 ql_5 ql_6 ql_7 ql_8 ql_9 ql_10 ql_11 ql_12 ql_13
  have I1 := Lib.hid ((Rq1.ext Xq2).ints)
  have I2 := Lib.hid (Rq2.ints)
  replace qc_0 := hHeld.cell qc_0
  replace qc_1 := hHeld.cell qc_1
  replace qc_2 := hHeld.cell qc_2
  replace qc_3 := hHeld.cell qc_3
  replace qc_4 := hHeld.cell qc_4
  replace qc_5 := hHeld.cell qc_5
  replace pc := Nat.lt_of_lt_of_le pc hHeld.size
  replace rc := Nat.lt_succ_of_lt pc
  have HX2 := Lib.hid (HXA.out.trans hHeld)
  clear Rq1 Rq2 Xq1 Xq2 hHeld HXA HOA HK0 CE CU
  go_wp2_with fail
  refine (CRE.out _ HX2.out).mono ?_
  rintro e w3 ⟨v3, rfl, R3, X3⟩
  have HR3 := Lib.hid R3.ints
  have HX3 := Lib.hid X3
  clear R3 X3
  go_wp2_with fail
  refine (same5 vq1 v3 ends w3 (I1.out.ext HX3.out) HR3.out (by omega)).mono ?_
  rintro e w4 ⟨rfl, X4⟩
  have X24 := HX3.out.trans X4
  replace qc_0 := X24.cell qc_0
  replace qc_1 := X24.cell qc_1
  replace qc_2 := X24.cell qc_2
  replace qc_3 := X24.cell qc_3
  replace qc_4 := X24.cell qc_4
  replace qc_5 := X24.cell qc_5
  replace pc := Nat.lt_of_lt_of_le pc X24.size
  replace rc := Nat.lt_succ_of_lt pc
  have HX4 := Lib.hid (HX2.out.trans X24)
  replace I1 := Lib.hid (I1.out.ext X24)
  replace I2 := Lib.hid (I2.out.ext X24)
  clear X24 X4 HX3 HR3 HX2 CRE
  obtain ⟨u2, c2, e2, -⟩ := I2.out.form
  subst e2
  have HUPL := Lib.hid hul
  by_cases hin : 0 ≤ cn ∧ cn < (n : Int)
  · obtain ⟨b, off, u, rfl, cu0, hI⟩ := HUP.out _ HX4.out hin.1 hin.2
    obtain ⟨k, rfl⟩ : ∃ k : Nat, cn = k := ⟨cn.toNat, by omega⟩
    have hk : ((k : Int)).toNat = k := by omega
    rw [hk] at cu0
    have hkn : (k : Int) < (n : Int) := hin.2
    have HI := Lib.hid hI
    have d1 : decide ((n : Int) ≤ (k : Int)) = false := by simp; omega
    clear hin hI hk hul hel HUP HUN
    go_wp2_with fail
    refine (same5 _ u upl _ I2.out HI.out (by have := HUPL.out; omega)).mono ?_
    rintro e w5 ⟨rfl, X5⟩
    replace qc_0 := X5.cell qc_0
    replace qc_1 := X5.cell qc_1
    replace qc_2 := X5.cell qc_2
    replace qc_3 := X5.cell qc_3
    replace qc_4 := X5.cell qc_4
    replace qc_5 := X5.cell qc_5
    replace pc := Nat.lt_of_lt_of_le pc X5.size
    replace rc := Nat.lt_succ_of_lt pc
    have HX5 := Lib.hid (HX4.out.trans X5)
    replace I1 := Lib.hid (I1.out.ext X5)
    replace I2 := Lib.hid (I2.out.ext X5)
    clear X5 HI cu0 HX4
    go_wp2_with fail
    refine (CP.out vq1 ends _ HX5.out I1.out HGE.out).mono ?_
    rintro e w6 ⟨rfl, X6⟩
    replace qc_0 := X6.cell qc_0
    replace qc_1 := X6.cell qc_1
    replace qc_2 := X6.cell qc_2
    replace qc_3 := X6.cell qc_3
    replace qc_4 := X6.cell qc_4
    replace qc_5 := X6.cell qc_5
    replace pc := Nat.lt_of_lt_of_le pc X6.size
    replace rc := Nat.lt_succ_of_lt pc
    have HX6 := Lib.hid (HX5.out.trans X6)
    replace I2 := Lib.hid (I2.out.ext X6)
    clear X6 HX5
    go_wp2_with fail
    refine (CP.out _ upl _ HX6.out I2.out HGU.out).mono ?_
    rintro e w7 ⟨rfl, X7⟩
    have HX7 := Lib.hid (HX6.out.trans X7)
    clear X7 HX6
    go_wp2_with fail
    refine (live16 _).mono ?_
    rintro e w' ⟨rfl, rfl⟩
    go_wp2
    go_ret
    exact ⟨rfl, Ext.below HX7.out⟩
  · have hu0 := HUN.out hin
    have d2 : decide (cn < 0) = true ∨ (decide (cn < 0) = false ∧ decide ((n : Int) ≤ cn) = true) := by
      by_cases h0 : cn < 0
      · exact .inl (by simpa using h0)
      · exact .inr ⟨by simpa using h0, by simp; omega⟩
    have HU0 := Lib.hid hu0
    rw [hu0] at I2 ⊢
    clear hin hul hel HUP HUN hu0
    rcases d2 with d0 | ⟨d0, d1⟩
    all_goals
      go_wp2_with fail
      refine (CP.out vq1 ends _ HX4.out I1.out HGE.out).mono ?_
      rintro e w6 ⟨rfl, X6⟩
      replace qc_0 := X6.cell qc_0
      replace qc_1 := X6.cell qc_1
      replace qc_2 := X6.cell qc_2
      replace qc_3 := X6.cell qc_3
      replace qc_4 := X6.cell qc_4
      replace qc_5 := X6.cell qc_5
      replace pc := Nat.lt_of_lt_of_le pc X6.size
      replace rc := Nat.lt_succ_of_lt pc
      have HX6 := Lib.hid (HX4.out.trans X6)
      replace I2 := Lib.hid (I2.out.ext X6)
      clear X6 HX4
      go_wp2_with fail
      refine (CP.out _ upl _ HX6.out I2.out HGU.out).mono ?_
      rintro e w7 ⟨rfl, X7⟩
      have HX7 := Lib.hid (HX6.out.trans X7)
      clear X7 HX6
      go_wp2_with fail
      refine (live16 _).mono ?_
      rintro e w' ⟨rfl, rfl⟩
      go_wp2
      go_ret
      exact ⟨rfl, Ext.below HX7.out⟩
theorem gateScans_walk (V W C P S : Int) (a : Option Addr) (len cap : Nat) (ups : List (List Int)) (cn : Int) (a2 : Option Addr) (len2 cap2 : Nat) (zs : List (Int × Int)) (w : World) (wf : (Lit.int .i64 V).wf = true ∧ (Lit.int .i64 W).wf = true ∧ (Lit.int .i64 C).wf = true ∧ (Lit.int .i64 P).wf = true ∧ (Lit.int .u64 S).wf = true) (h : Came w a len cap ups) (wp : (Lit.int .i64 cn).wf = true) (hR : IsTwos .i64 w a2 len2 cap2 zs) (E : Parts w ∧ Tab w) :
    Calls Tryz.prog 3 #[(.agg #[.int .i64 V, .int .i64 W, .int .i64 C, .int .i64 P, .int .u64 (S), .slice a len cap]), .int .i64 cn, .slice a2 len2 cap2] w fun e w' => e = .returned (.bool true) ∧ Below w.heap.size w w' := by
  have hS := wf_u64 wf.2.2.2.2
  obtain ⟨hS0, hS1⟩ := hS
  clear wf wp
  have CL := fun w' (hx : Ext w w') => long _ ups w' (h.l.ext hx) (by rw [h.n]; exact h.m) (fun l hl => (h.each l hl).1)
  cases hb : longB ups
  case true =>
    rw [hb] at CL
    have HCL := Lib.hid CL
    clear CL h hb E hR
    go_enter Tryz.func3, Tryz.ntmps3
    go_wp2_with fail
    refine (HCL.out _ (by repeat (first | with_reducible exact Ext.refl _ | with_reducible assumption | with_reducible refine Ext.alloc ?_ _ | with_reducible refine Ext.drew ?_ | with_reducible refine Ext.drewN ?_ _ | with_reducible refine Ext.setCell ?_ (by simp <;> omega) _ | with_reducible refine Ext.trans ?_ (by assumption)))).mono ?_
    rintro e w' ⟨rfl, rfl⟩
    go_wp2_with fail
    refine (live16 _).mono ?_
    rintro e w' ⟨rfl, rfl⟩
    go_wp2
    go_ret
    refine ⟨rfl, Ext.below ?_⟩
    repeat (first | with_reducible exact Ext.refl _ | with_reducible assumption | with_reducible refine Ext.alloc ?_ _ | with_reducible refine Ext.drew ?_ | with_reducible refine Ext.drewN ?_ _ | with_reducible refine Ext.setCell ?_ (by simp <;> omega) _ | with_reducible refine Ext.trans ?_ (by assumption))
  rw [hb] at CL
  have HCL := Lib.hid CL
  obtain ⟨hll, hn⟩ := came_small h hb
  obtain rfl := h.n
  by_cases h100 : 100 < len2
  · have d100 : decide ((100 : Int) < (len2 : Int)) = true := by simp; omega
    clear CL h hb E hR hll hn
    generalize ups.length = n at *
    go_enter Tryz.func3, Tryz.ntmps3
    go_wp2_with fail
    refine (HCL.out _ (by repeat (first | with_reducible exact Ext.refl _ | with_reducible assumption | with_reducible refine Ext.alloc ?_ _ | with_reducible refine Ext.drew ?_ | with_reducible refine Ext.drewN ?_ _ | with_reducible refine Ext.setCell ?_ (by simp <;> omega) _ | with_reducible refine Ext.trans ?_ (by assumption)))).mono ?_
    rintro e w' ⟨rfl, rfl⟩
    go_wp2_with fail
    refine (live16 _).mono ?_
    rintro e w' ⟨rfl, rfl⟩
    go_wp2
    go_ret
    refine ⟨rfl, Ext.below ?_⟩
    repeat (first | with_reducible exact Ext.refl _ | with_reducible assumption | with_reducible refine Ext.alloc ?_ _ | with_reducible refine Ext.drew ?_ | with_reducible refine Ext.drewN ?_ _ | with_reducible refine Ext.setCell ?_ (by simp <;> omega) _ | with_reducible refine Ext.trans ?_ (by assumption))
  have d100 : decide ((100 : Int) < (len2 : Int)) = false := by simp; omega
  have CR := fun w' (hx : Ext w w') => r10Right V W C P S _ ups w' (h.l.ext hx) hll hn
  by_cases hg : ckC V W C P ups = 0
  case neg =>
    rw [show (ckC V W C P ups == 0) = false by simpa using hg] at CR
    have HCR := Lib.hid CR
    clear CL CR h hb E hR hll hg hn
    generalize ups.length = n at *
    go_enter Tryz.func3, Tryz.ntmps3
    go_wp2_with fail
    refine (HCL.out _ (by repeat (first | with_reducible exact Ext.refl _ | with_reducible assumption | with_reducible refine Ext.alloc ?_ _ | with_reducible refine Ext.drew ?_ | with_reducible refine Ext.drewN ?_ _ | with_reducible refine Ext.setCell ?_ (by simp <;> omega) _ | with_reducible refine Ext.trans ?_ (by assumption)))).mono ?_
    rintro e w' ⟨rfl, rfl⟩
    go_wp2_with fail
    refine (HCR.out _ (by repeat (first | with_reducible exact Ext.refl _ | with_reducible assumption | with_reducible refine Ext.alloc ?_ _ | with_reducible refine Ext.drew ?_ | with_reducible refine Ext.drewN ?_ _ | with_reducible refine Ext.setCell ?_ (by simp <;> omega) _ | with_reducible refine Ext.trans ?_ (by assumption)))).mono ?_
    rintro e w1 ⟨rfl, hb1⟩
    obtain ⟨hc1, hf1⟩ := hb1.cells
    go_wp2_with fail
    refine (live16 _).mono ?_
    rintro e w' ⟨rfl, rfl⟩
    go_wp2
    go_ret
    refine ⟨rfl, Ext.below ?_⟩
    repeat (first | with_reducible exact Ext.refl _ | with_reducible assumption | with_reducible refine Ext.alloc ?_ _ | with_reducible refine Ext.drew ?_ | with_reducible refine Ext.drewN ?_ _ | with_reducible refine Ext.setCell ?_ (by simp <;> omega) _ | with_reducible refine Ext.trans ?_ (by assumption))
  have h3l : len2 ≤ 100 := by omega
  rcases (ok_iff.1 hg).wd with rfl | rfl
  · exact gateScans32 V C P S a cap ups cn a2 len2 cap2 zs w hS0 hS1 h hR E hb h3l hg
  · exact gateScans64 V C P S a cap ups cn a2 len2 cap2 zs w hS0 hS1 h hR E hb h3l hg
end Go.Proofs.YtkmfamidahlgiaaGreatDoor
