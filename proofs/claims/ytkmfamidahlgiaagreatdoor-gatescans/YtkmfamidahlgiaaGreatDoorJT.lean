import Derived.Test.YtkmfamidahlgiaaGreatDoorJS
import Derived.Test.YtkmfamidahlgiaaGreatDoorJA
import Derived.Test.YtkmfamidahlgiaaGreatDoorGrow
import Derived.Test.YtkmfamidahlgiaaGreatDoorLyA
import Derived.Test.YtkmfamidahlgiaaGreatDoorRef01
import Derived.Test.YtkmfamidahlgiaaGreatDoorJG
/- The document's Scan: one step. -/
namespace Go.Proofs.YtkmfamidahlgiaaGreatDoor
open Go.RowKit
set_option linter.unusedVariables false
set_option linter.unusedSimpArgs false
set_option maxHeartbeats 4000000
attribute [local go_sem] later_cell later_frozen later_const
def RScanDoes (b : Nat) (r : RY) (lv : Value) (f' : Nat → Int) (log' : List Acc) (d : Bool) (tn tp I tf M tv : Int) (w : World) (e : Ending) (w' : World) : Prop :=
  e = .returned (.tuple #[(.agg #[.int .i64 0, .int .i64 tn, .int .i64 0, .int .i64 tp, .int .i64 I, .int .i64 0, .int .u64 tf, .int .u64 M, .int .u64 tv, .int .u64 0, .slice none 0 0]), .bool d]) ∧ ∃ lv', RB w' b r f' lv' log' ∧ But (Own b r.gh lv) w w' ∧ (lv'.ownBlock = lv.ownBlock ∨ ∃ j, lv'.ownBlock = some j ∧ w.heap.size ≤ j)
theorem gapA32 (a b : Int) (w : World) (ha : 0 ≤ a) (hb : 0 ≤ b) : Calls Tryz.prog 79 #[.int .i64 32, .int .u64 a, .int .u64 b] w fun e w' => e = .returned (.int .i64 (D32 (a - b))) ∧ w = w' := rGap_32 a b w ha hb
theorem gapA64 (a b : Int) (w : World) (ha : 0 ≤ a) (hb : 0 ≤ b) : Calls Tryz.prog 79 #[.int .i64 64, .int .u64 a, .int .u64 b] w fun e w' => e = .returned (.int .i64 (D64 (a - b))) ∧ w = w' := rGap_64 a b w
set_option maxRecDepth 100000 in
theorem rScan32_ze (b : Nat) (r : RY) (f : Nat → Int) (lv : Value) (log : List Acc) (t : Int) (v : Value) (xs : List Int) (I c : Nat) (tn tp tf M tv : Int) (w : World) (h : RB w b r f lv log) (hW : r.W = 32) (hv : IntsV w v xs) (hI : I < xs.length) (hx : xs.getD I 0 = c) (hk : isK r (c : Int) 1 = true) (hc : c < r.m) (hl : log.length ≤ 1000) (hn : xs.length ≤ 1000) (f0 : 0 ≤ f c) (hM : 0 ≤ M) (h0 : I = 0) (h2 : I + 1 = xs.length) :
    Calls Tryz.prog 59 #[.pointer (some ⟨b, 0, none⟩), .int .i64 t, v, (.agg #[.int .i64 0, .int .i64 tn, .int .i64 0, .int .i64 tp, .int .i64 I, .int .i64 0, .int .u64 tf, .int .u64 M, .int .u64 tv, .int .u64 0, .slice none 0 0])] w (RScanDoes b r lv f (log ++ [⟨t, 1, c, f c, f c⟩]) true tn tp 0 tf (f c) tv w) := by
  have CA := Lib.hid (fun w' (hx : Ext w w') => rLoad_yes b r f lv log t c w' (h.ext hx) hk hc hl)
  have HG : Hid (∀ w', RMid b r lv f (log ++ [⟨t, 1, c, f c, f c⟩]) w w' → RScanDoes b r lv f (log ++ [⟨t, 1, c, f c, f c⟩]) true tn tp 0 tf (f c) tv w (.returned (.tuple #[(.agg #[.int .i64 0, .int .i64 tn, .int .i64 0, .int .i64 tp, .int .i64 0, .int .i64 0, .int .u64 tf, .int .u64 (f c), .int .u64 tv, .int .u64 0, .slice none 0 0]), .bool true])) w') := Lib.hid (fun w' hm => ⟨rfl, hm.does (v := .bool true)⟩)
  have HM := Lib.hid (fun lv' w1 w2 (hx : Ext w w1) hs hR hN hA => rmid_of (f' := f) (lv' := lv') (log' := (log ++ [⟨t, 1, c, f c, f c⟩])) (w1 := w1) (w2 := w2) h hx hs hR hN hA)
  generalize RScanDoes b r lv f (log ++ [⟨t, 1, c, f c, f c⟩]) true tn tp 0 tf (f c) tv w = G at *
  obtain ⟨va, vc, ev, hf⟩ := hv.form
  subst ev
  obtain ⟨vb, vo, ea, cv⟩ := hf I hI
  subst ea
  rw [hx] at cv
  generalize hxx : f c = x at *
  have hI1 : (I : Int) < (xs.length : Int) := by omega
  have hI0 : (0 : Int) ≤ (I : Int) := by omega
  have d0 : ((I : Int) == 0) = true := by simp [h0]
  have d2 : ((I : Int) + 1 == (xs.length : Int)) = true := by simp; omega
  have hwr : IntKind.i64.wrap ((I : Int) + 1) = (I : Int) + 1 := wrapS (by omega) (by omega)
  have hlt := fun k (hk : Own b r.gh lv k) => h.lt hk
  generalize xs.length = n at *
  clear h hv hf hI hx hk hl hn h0 h2
  go_enter Tryz.func59, Tryz.ntmps59
  go_upto_region 1 with (fail)
  refine settle_wp ?_
  intro w1 hb1
  have qa_0 : w1.cell? ⟨w.heap.size, 0, none⟩ = some (.int .i64 0) := (hb1.cells.1 _ _ (by simp <;> omega)).trans (by simp [go_sem])
  have za_0 : w1.frozen? ⟨w.heap.size, 0, none⟩ = false := (hb1.cells.2 _ _ (by simp <;> omega)).trans (by simp [go_sem])
  have qa_1 : w1.cell? ⟨w.heap.size, 1, none⟩ = some (.int .i64 tn) := (hb1.cells.1 _ _ (by simp <;> omega)).trans (by simp [go_sem])
  have za_1 : w1.frozen? ⟨w.heap.size, 1, none⟩ = false := (hb1.cells.2 _ _ (by simp <;> omega)).trans (by simp [go_sem])
  have qa_2 : w1.cell? ⟨w.heap.size, 2, none⟩ = some (.int .i64 0) := (hb1.cells.1 _ _ (by simp <;> omega)).trans (by simp [go_sem])
  have za_2 : w1.frozen? ⟨w.heap.size, 2, none⟩ = false := (hb1.cells.2 _ _ (by simp <;> omega)).trans (by simp [go_sem])
  have qa_3 : w1.cell? ⟨w.heap.size, 3, none⟩ = some (.int .i64 tp) := (hb1.cells.1 _ _ (by simp <;> omega)).trans (by simp [go_sem])
  have za_3 : w1.frozen? ⟨w.heap.size, 3, none⟩ = false := (hb1.cells.2 _ _ (by simp <;> omega)).trans (by simp [go_sem])
  have qa_4 : w1.cell? ⟨w.heap.size, 4, none⟩ = some (.int .i64 I) := (hb1.cells.1 _ _ (by simp <;> omega)).trans (by simp [go_sem])
  have za_4 : w1.frozen? ⟨w.heap.size, 4, none⟩ = false := (hb1.cells.2 _ _ (by simp <;> omega)).trans (by simp [go_sem])
  have qa_5 : w1.cell? ⟨w.heap.size, 5, none⟩ = some (.int .i64 0) := (hb1.cells.1 _ _ (by simp <;> omega)).trans (by simp [go_sem])
  have za_5 : w1.frozen? ⟨w.heap.size, 5, none⟩ = false := (hb1.cells.2 _ _ (by simp <;> omega)).trans (by simp [go_sem])
  have qa_6 : w1.cell? ⟨w.heap.size, 6, none⟩ = some (.int .u64 tf) := (hb1.cells.1 _ _ (by simp <;> omega)).trans (by simp [go_sem])
  have za_6 : w1.frozen? ⟨w.heap.size, 6, none⟩ = false := (hb1.cells.2 _ _ (by simp <;> omega)).trans (by simp [go_sem])
  have qa_7 : w1.cell? ⟨w.heap.size, 7, none⟩ = some (.int .u64 M) := (hb1.cells.1 _ _ (by simp <;> omega)).trans (by simp [go_sem])
  have za_7 : w1.frozen? ⟨w.heap.size, 7, none⟩ = false := (hb1.cells.2 _ _ (by simp <;> omega)).trans (by simp [go_sem])
  have qa_8 : w1.cell? ⟨w.heap.size, 8, none⟩ = some (.int .u64 tv) := (hb1.cells.1 _ _ (by simp <;> omega)).trans (by simp [go_sem])
  have za_8 : w1.frozen? ⟨w.heap.size, 8, none⟩ = false := (hb1.cells.2 _ _ (by simp <;> omega)).trans (by simp [go_sem])
  have qa_9 : w1.cell? ⟨w.heap.size, 9, none⟩ = some (.int .u64 0) := (hb1.cells.1 _ _ (by simp <;> omega)).trans (by simp [go_sem])
  have za_9 : w1.frozen? ⟨w.heap.size, 9, none⟩ = false := (hb1.cells.2 _ _ (by simp <;> omega)).trans (by simp [go_sem])
  have qa_10 : w1.cell? ⟨w.heap.size, 10, none⟩ = some (.slice none 0 0) := (hb1.cells.1 _ _ (by simp <;> omega)).trans (by simp [go_sem])
  have za_10 : w1.frozen? ⟨w.heap.size, 10, none⟩ = false := (hb1.cells.2 _ _ (by simp <;> omega)).trans (by simp [go_sem])
  have pa := World.block_lt_of_cell? _ ⟨w.heap.size, 0, none⟩ qa_0
  have ra := Nat.lt_succ_of_lt pa
  have qr_0 : w1.cell? ⟨(w.heap.size + 1), 0, none⟩ = some (.int .i64 0) := (hb1.cells.1 _ _ (by simp <;> omega)).trans (by simp [go_sem])
  have zr_0 : w1.frozen? ⟨(w.heap.size + 1), 0, none⟩ = false := (hb1.cells.2 _ _ (by simp <;> omega)).trans (by simp [go_sem])
  have qr_1 : w1.cell? ⟨(w.heap.size + 1), 1, none⟩ = some (.int .i64 0) := (hb1.cells.1 _ _ (by simp <;> omega)).trans (by simp [go_sem])
  have zr_1 : w1.frozen? ⟨(w.heap.size + 1), 1, none⟩ = false := (hb1.cells.2 _ _ (by simp <;> omega)).trans (by simp [go_sem])
  have qr_2 : w1.cell? ⟨(w.heap.size + 1), 2, none⟩ = some (.int .i64 0) := (hb1.cells.1 _ _ (by simp <;> omega)).trans (by simp [go_sem])
  have zr_2 : w1.frozen? ⟨(w.heap.size + 1), 2, none⟩ = false := (hb1.cells.2 _ _ (by simp <;> omega)).trans (by simp [go_sem])
  have qr_3 : w1.cell? ⟨(w.heap.size + 1), 3, none⟩ = some (.int .i64 0) := (hb1.cells.1 _ _ (by simp <;> omega)).trans (by simp [go_sem])
  have zr_3 : w1.frozen? ⟨(w.heap.size + 1), 3, none⟩ = false := (hb1.cells.2 _ _ (by simp <;> omega)).trans (by simp [go_sem])
  have qr_4 : w1.cell? ⟨(w.heap.size + 1), 4, none⟩ = some (.int .i64 0) := (hb1.cells.1 _ _ (by simp <;> omega)).trans (by simp [go_sem])
  have zr_4 : w1.frozen? ⟨(w.heap.size + 1), 4, none⟩ = false := (hb1.cells.2 _ _ (by simp <;> omega)).trans (by simp [go_sem])
  have qr_5 : w1.cell? ⟨(w.heap.size + 1), 5, none⟩ = some (.int .i64 0) := (hb1.cells.1 _ _ (by simp <;> omega)).trans (by simp [go_sem])
  have zr_5 : w1.frozen? ⟨(w.heap.size + 1), 5, none⟩ = false := (hb1.cells.2 _ _ (by simp <;> omega)).trans (by simp [go_sem])
  have qr_6 : w1.cell? ⟨(w.heap.size + 1), 6, none⟩ = some (.int .u64 0) := (hb1.cells.1 _ _ (by simp <;> omega)).trans (by simp [go_sem])
  have zr_6 : w1.frozen? ⟨(w.heap.size + 1), 6, none⟩ = false := (hb1.cells.2 _ _ (by simp <;> omega)).trans (by simp [go_sem])
  have qr_7 : w1.cell? ⟨(w.heap.size + 1), 7, none⟩ = some (.int .u64 0) := (hb1.cells.1 _ _ (by simp <;> omega)).trans (by simp [go_sem])
  have zr_7 : w1.frozen? ⟨(w.heap.size + 1), 7, none⟩ = false := (hb1.cells.2 _ _ (by simp <;> omega)).trans (by simp [go_sem])
  have qr_8 : w1.cell? ⟨(w.heap.size + 1), 8, none⟩ = some (.int .u64 0) := (hb1.cells.1 _ _ (by simp <;> omega)).trans (by simp [go_sem])
  have zr_8 : w1.frozen? ⟨(w.heap.size + 1), 8, none⟩ = false := (hb1.cells.2 _ _ (by simp <;> omega)).trans (by simp [go_sem])
  have qr_9 : w1.cell? ⟨(w.heap.size + 1), 9, none⟩ = some (.int .u64 0) := (hb1.cells.1 _ _ (by simp <;> omega)).trans (by simp [go_sem])
  have zr_9 : w1.frozen? ⟨(w.heap.size + 1), 9, none⟩ = false := (hb1.cells.2 _ _ (by simp <;> omega)).trans (by simp [go_sem])
  have qr_10 : w1.cell? ⟨(w.heap.size + 1), 10, none⟩ = some (.slice none 0 0) := (hb1.cells.1 _ _ (by simp <;> omega)).trans (by simp [go_sem])
  have zr_10 : w1.frozen? ⟨(w.heap.size + 1), 10, none⟩ = false := (hb1.cells.2 _ _ (by simp <;> omega)).trans (by simp [go_sem])
  have pr := World.block_lt_of_cell? _ ⟨(w.heap.size + 1), 0, none⟩ qr_0
  have rr := Nat.lt_succ_of_lt pr
  have XE : Ext w w1 := Ext.trans (Ext.alloc (Ext.alloc (Ext.refl w) _) _) hb1
  have hs1 : w.heap.size + 2 ≤ w1.heap.size := by have h1 := hb1.size; simp at h1; omega
  have na : ¬ Own b r.gh lv w.heap.size := fun hk => by have := hlt _ hk; omega
  have nr : ¬ Own b r.gh lv (w.heap.size + 1) := fun hk => by have := hlt _ hk; omega
  replace cv := XE.cell cv
  clear hb1
  go_wp2_with fail
  refine (CA.out _ XE).mono ?_
  rintro e w2 ⟨rfl, lv2, R2, N2, A2⟩
  have HM2 := Lib.hid (HM.out lv2 _ w2 XE hs1 R2 N2 A2)
  have qW := R2.q1
  rw [hW] at qW
  replace za_0 := N2.frozen qa_0 za_0 na
  replace qa_0 := N2.cell qa_0 na
  replace za_1 := N2.frozen qa_1 za_1 na
  replace qa_1 := N2.cell qa_1 na
  replace za_2 := N2.frozen qa_2 za_2 na
  replace qa_2 := N2.cell qa_2 na
  replace za_3 := N2.frozen qa_3 za_3 na
  replace qa_3 := N2.cell qa_3 na
  replace za_4 := N2.frozen qa_4 za_4 na
  replace qa_4 := N2.cell qa_4 na
  replace za_5 := N2.frozen qa_5 za_5 na
  replace qa_5 := N2.cell qa_5 na
  replace za_6 := N2.frozen qa_6 za_6 na
  replace qa_6 := N2.cell qa_6 na
  replace za_7 := N2.frozen qa_7 za_7 na
  replace qa_7 := N2.cell qa_7 na
  replace za_8 := N2.frozen qa_8 za_8 na
  replace qa_8 := N2.cell qa_8 na
  replace za_9 := N2.frozen qa_9 za_9 na
  replace qa_9 := N2.cell qa_9 na
  replace za_10 := N2.frozen qa_10 za_10 na
  replace qa_10 := N2.cell qa_10 na
  replace zr_0 := N2.frozen qr_0 zr_0 nr
  replace qr_0 := N2.cell qr_0 nr
  replace zr_1 := N2.frozen qr_1 zr_1 nr
  replace qr_1 := N2.cell qr_1 nr
  replace zr_2 := N2.frozen qr_2 zr_2 nr
  replace qr_2 := N2.cell qr_2 nr
  replace zr_3 := N2.frozen qr_3 zr_3 nr
  replace qr_3 := N2.cell qr_3 nr
  replace zr_4 := N2.frozen qr_4 zr_4 nr
  replace qr_4 := N2.cell qr_4 nr
  replace zr_5 := N2.frozen qr_5 zr_5 nr
  replace qr_5 := N2.cell qr_5 nr
  replace zr_6 := N2.frozen qr_6 zr_6 nr
  replace qr_6 := N2.cell qr_6 nr
  replace zr_7 := N2.frozen qr_7 zr_7 nr
  replace qr_7 := N2.cell qr_7 nr
  replace zr_8 := N2.frozen qr_8 zr_8 nr
  replace qr_8 := N2.cell qr_8 nr
  replace zr_9 := N2.frozen qr_9 zr_9 nr
  replace qr_9 := N2.cell qr_9 nr
  replace zr_10 := N2.frozen qr_10 zr_10 nr
  replace qr_10 := N2.cell qr_10 nr
  clear R2 N2 A2 XE cv
  go_upto_region 5 with (fail)
  have k4 := fun w' (hx : Ext w2 w') => hx.cell qa_4
  have k7 := fun w' (hx : Ext w2 w') => hx.cell qa_7
  have kW := fun w' (hx : Ext w2 w') => hx.cell qW
  refine wp_region_held_drew (S := fun w' => Ext w2 w') (by kernel_rfl) ?hbeg (fun hHeld => ?_)
  case hbeg => exact (Ext.refl w2).drew
  have hHeld0 : Ext w2 w2 := by first | exact Ext.refl _ | assumption
  first
    | (refine take_at (i := 0) (v := ?_) rfl rfl (by kernel_rfl) (by kernel_rfl) (by kernel_rfl) (fun _ _ _ h => h) (Or.inl ⟨by rfl, ?hy⟩) (by assumption) ?_
       case hy => (intro wz hSw; (try dsimp only at hSw); go_simp <;> with_reducible rfl)
       simp only [List.setIfInBounds_toArray, List.set_cons_zero, List.set_cons_succ])
    | (refine take_at (i := 0) (v := undef) rfl rfl (by kernel_rfl) (by kernel_rfl) (by kernel_rfl) (fun _ _ _ h => h) (Or.inr ⟨by rfl, rfl⟩) (by assumption) ?_
       simp only [List.setIfInBounds_toArray, List.set_cons_zero, List.set_cons_succ])
  first
    | (refine take_at (i := 1) (v := ?_) rfl rfl (by kernel_rfl) (by kernel_rfl) (by kernel_rfl) (fun _ _ _ h => h) (Or.inl ⟨by rfl, ?hy⟩) (by assumption) ?_
       case hy => (intro wz hSw; (try dsimp only at hSw); go_simp <;> with_reducible rfl)
       simp only [List.setIfInBounds_toArray, List.set_cons_zero, List.set_cons_succ])
    | (refine take_at (i := 1) (v := undef) rfl rfl (by kernel_rfl) (by kernel_rfl) (by kernel_rfl) (fun _ _ _ h => h) (Or.inr ⟨by rfl, rfl⟩) (by assumption) ?_
       simp only [List.setIfInBounds_toArray, List.set_cons_zero, List.set_cons_succ])
  first
    | (refine take_at (i := 2) (v := ?_) rfl rfl (by kernel_rfl) (by kernel_rfl) (by kernel_rfl) (fun _ _ _ h => h) (Or.inl ⟨by rfl, ?hy⟩) (by assumption) ?_
       case hy => (intro wz hSw; (try dsimp only at hSw); go_simp <;> with_reducible rfl)
       simp only [List.setIfInBounds_toArray, List.set_cons_zero, List.set_cons_succ])
    | (refine take_at (i := 2) (v := undef) rfl rfl (by kernel_rfl) (by kernel_rfl) (by kernel_rfl) (fun _ _ _ h => h) (Or.inr ⟨by rfl, rfl⟩) (by assumption) ?_
       simp only [List.setIfInBounds_toArray, List.set_cons_zero, List.set_cons_succ])
  first
    | (refine take_at (i := 3) (v := ?_) rfl rfl (by kernel_rfl) (by kernel_rfl) (by kernel_rfl) (fun _ _ _ h => h) (Or.inl ⟨by rfl, ?hy⟩) (by assumption) ?_
       case hy => (intro wz hSw; (try dsimp only at hSw); go_simp <;> with_reducible rfl)
       simp only [List.setIfInBounds_toArray, List.set_cons_zero, List.set_cons_succ])
    | (refine take_at (i := 3) (v := undef) rfl rfl (by kernel_rfl) (by kernel_rfl) (by kernel_rfl) (fun _ _ _ h => h) (Or.inr ⟨by rfl, rfl⟩) (by assumption) ?_
       simp only [List.setIfInBounds_toArray, List.set_cons_zero, List.set_cons_succ])
  first
    | (refine take_at (i := 4) (v := ?_) rfl rfl (by kernel_rfl) (by kernel_rfl) (by kernel_rfl) (fun _ _ _ h => h) (Or.inl ⟨by rfl, ?hy⟩) (by assumption) ?_
       case hy => (intro wz hSw; (try dsimp only at hSw); go_simp <;> with_reducible rfl)
       simp only [List.setIfInBounds_toArray, List.set_cons_zero, List.set_cons_succ])
    | (refine take_at (i := 4) (v := undef) rfl rfl (by kernel_rfl) (by kernel_rfl) (by kernel_rfl) (fun _ _ _ h => h) (Or.inr ⟨by rfl, rfl⟩) (by assumption) ?_
       simp only [List.setIfInBounds_toArray, List.set_cons_zero, List.set_cons_succ])
  first
    | (refine take_at (i := 5) (v := ?_) rfl rfl (by kernel_rfl) (by kernel_rfl) (by kernel_rfl) (fun _ _ _ h => h) (Or.inl ⟨by rfl, ?hy⟩) (by assumption) ?_
       case hy => (intro wz hSw; (try dsimp only at hSw); go_simp <;> with_reducible rfl)
       simp only [List.setIfInBounds_toArray, List.set_cons_zero, List.set_cons_succ])
    | (refine take_at (i := 5) (v := undef) rfl rfl (by kernel_rfl) (by kernel_rfl) (by kernel_rfl) (fun _ _ _ h => h) (Or.inr ⟨by rfl, rfl⟩) (by assumption) ?_
       simp only [List.setIfInBounds_toArray, List.set_cons_zero, List.set_cons_succ])
  first
    | (refine take_at (i := 6) (v := ?_) rfl rfl (by kernel_rfl) (by kernel_rfl) (by kernel_rfl) (fun _ _ _ h => h) (Or.inl ⟨by rfl, ?hy⟩) (by assumption) ?_
       case hy => (intro wz hSw; (try dsimp only at hSw); go_simp <;> with_reducible rfl)
       simp only [List.setIfInBounds_toArray, List.set_cons_zero, List.set_cons_succ])
    | (refine take_at (i := 6) (v := undef) rfl rfl (by kernel_rfl) (by kernel_rfl) (by kernel_rfl) (fun _ _ _ h => h) (Or.inr ⟨by rfl, rfl⟩) (by assumption) ?_
       simp only [List.setIfInBounds_toArray, List.set_cons_zero, List.set_cons_succ])
  first
    | (refine take_at (i := 7) (v := ?_) rfl rfl (by kernel_rfl) (by kernel_rfl) (by kernel_rfl) (fun _ _ _ h => h) (Or.inl ⟨by rfl, ?hy⟩) (by assumption) ?_
       case hy => (intro wz hSw; (try dsimp only at hSw); go_simp <;> with_reducible rfl)
       simp only [List.setIfInBounds_toArray, List.set_cons_zero, List.set_cons_succ])
    | (refine take_at (i := 7) (v := undef) rfl rfl (by kernel_rfl) (by kernel_rfl) (by kernel_rfl) (fun _ _ _ h => h) (Or.inr ⟨by rfl, rfl⟩) (by assumption) ?_
       simp only [List.setIfInBounds_toArray, List.set_cons_zero, List.set_cons_succ])
  first
    | (refine take_at (i := 8) (v := ?_) rfl rfl (by kernel_rfl) (by kernel_rfl) (by kernel_rfl) (fun _ _ _ h => h) (Or.inl ⟨by rfl, ?hy⟩) (by assumption) ?_
       case hy => (intro wz hSw; (try dsimp only at hSw); go_simp <;> with_reducible rfl)
       simp only [List.setIfInBounds_toArray, List.set_cons_zero, List.set_cons_succ])
    | (refine take_at (i := 8) (v := undef) rfl rfl (by kernel_rfl) (by kernel_rfl) (by kernel_rfl) (fun _ _ _ h => h) (Or.inr ⟨by rfl, rfl⟩) (by assumption) ?_
       simp only [List.setIfInBounds_toArray, List.set_cons_zero, List.set_cons_succ])
  first
    | (refine take_at (i := 9) (v := ?_) rfl rfl (by kernel_rfl) (by kernel_rfl) (by kernel_rfl) (fun _ _ _ h => h) (Or.inl ⟨by rfl, ?hy⟩) (by assumption) ?_
       case hy => (intro wz hSw; (try dsimp only at hSw); go_simp <;> with_reducible rfl)
       simp only [List.setIfInBounds_toArray, List.set_cons_zero, List.set_cons_succ])
    | (refine take_at (i := 9) (v := undef) rfl rfl (by kernel_rfl) (by kernel_rfl) (by kernel_rfl) (fun _ _ _ h => h) (Or.inr ⟨by rfl, rfl⟩) (by assumption) ?_
       simp only [List.setIfInBounds_toArray, List.set_cons_zero, List.set_cons_succ])
  first
    | (refine take_at (i := 10) (v := ?_) rfl rfl (by kernel_rfl) (by kernel_rfl) (by kernel_rfl) (fun _ _ _ h => h) (Or.inl ⟨by rfl, ?hy⟩) (by assumption) ?_
       case hy => (intro wz hSw; (try dsimp only at hSw); go_simp <;> with_reducible rfl)
       simp only [List.setIfInBounds_toArray, List.set_cons_zero, List.set_cons_succ])
    | (refine take_at (i := 10) (v := undef) rfl rfl (by kernel_rfl) (by kernel_rfl) (by kernel_rfl) (fun _ _ _ h => h) (Or.inr ⟨by rfl, rfl⟩) (by assumption) ?_
       simp only [List.setIfInBounds_toArray, List.set_cons_zero, List.set_cons_succ])
  first
    | (refine take_at (i := 11) (v := ?_) rfl rfl (by kernel_rfl) (by kernel_rfl) (by kernel_rfl) (fun _ _ _ h => h) (Or.inl ⟨by rfl, ?hy⟩) (by assumption) ?_
       case hy => (intro wz hSw; (try dsimp only at hSw); go_simp <;> with_reducible rfl)
       simp only [List.setIfInBounds_toArray, List.set_cons_zero, List.set_cons_succ])
    | (refine take_at (i := 11) (v := undef) rfl rfl (by kernel_rfl) (by kernel_rfl) (by kernel_rfl) (fun _ _ _ h => h) (Or.inr ⟨by rfl, rfl⟩) (by assumption) ?_
       simp only [List.setIfInBounds_toArray, List.set_cons_zero, List.set_cons_succ])
  first
    | (refine take_at (i := 12) (v := ?_) rfl rfl (by kernel_rfl) (by kernel_rfl) (by kernel_rfl) (fun _ _ _ h => h) (Or.inl ⟨by rfl, ?hy⟩) (by assumption) ?_
       case hy => (intro wz hSw; (try dsimp only at hSw); go_simp <;> with_reducible rfl)
       simp only [List.setIfInBounds_toArray, List.set_cons_zero, List.set_cons_succ])
    | (refine take_at (i := 12) (v := undef) rfl rfl (by kernel_rfl) (by kernel_rfl) (by kernel_rfl) (fun _ _ _ h => h) (Or.inr ⟨by rfl, rfl⟩) (by assumption) ?_
       simp only [List.setIfInBounds_toArray, List.set_cons_zero, List.set_cons_succ])
  first
    | (refine take_at (i := 13) (v := ?_) rfl rfl (by kernel_rfl) (by kernel_rfl) (by kernel_rfl) (fun _ _ _ h => h) (Or.inl ⟨by rfl, ?hy⟩) (by assumption) ?_
       case hy => (intro wz hSw; (try dsimp only at hSw); go_simp <;> with_reducible rfl)
       simp only [List.setIfInBounds_toArray, List.set_cons_zero, List.set_cons_succ])
    | (refine take_at (i := 13) (v := undef) rfl rfl (by kernel_rfl) (by kernel_rfl) (by kernel_rfl) (fun _ _ _ h => h) (Or.inr ⟨by rfl, rfl⟩) (by assumption) ?_
       simp only [List.setIfInBounds_toArray, List.set_cons_zero, List.set_cons_succ])
  first
    | (refine take_at (i := 14) (v := ?_) rfl rfl (by kernel_rfl) (by kernel_rfl) (by kernel_rfl) (fun _ _ _ h => h) (Or.inl ⟨by rfl, ?hy⟩) (by assumption) ?_
       case hy => (intro wz hSw; (try dsimp only at hSw); go_simp <;> with_reducible rfl)
       simp only [List.setIfInBounds_toArray, List.set_cons_zero, List.set_cons_succ])
    | (refine take_at (i := 14) (v := undef) rfl rfl (by kernel_rfl) (by kernel_rfl) (by kernel_rfl) (fun _ _ _ h => h) (Or.inr ⟨by rfl, rfl⟩) (by assumption) ?_
       simp only [List.setIfInBounds_toArray, List.set_cons_zero, List.set_cons_succ])
  refine wpAnyH_done (by kernel_rfl) ?_ _
  go_upto_region 6 with (fail)
  refine settle_wp ?_
  intro w3 hb3
  have hH := Ext.trans hHeld hb3
  replace HM2 := Lib.hid (HM2.out.ext hH)
  replace za_0 := hH.frozen qa_0 za_0
  replace qa_0 := hH.cell qa_0
  replace za_1 := hH.frozen qa_1 za_1
  replace qa_1 := hH.cell qa_1
  replace za_2 := hH.frozen qa_2 za_2
  replace qa_2 := hH.cell qa_2
  replace za_3 := hH.frozen qa_3 za_3
  replace qa_3 := hH.cell qa_3
  replace za_4 := hH.frozen qa_4 za_4
  replace qa_4 := hH.cell qa_4
  replace za_5 := hH.frozen qa_5 za_5
  replace qa_5 := hH.cell qa_5
  replace za_6 := hH.frozen qa_6 za_6
  replace qa_6 := hH.cell qa_6
  replace za_7 := hH.frozen qa_7 za_7
  replace qa_7 := hH.cell qa_7
  replace za_8 := hH.frozen qa_8 za_8
  replace qa_8 := hH.cell qa_8
  replace za_9 := hH.frozen qa_9 za_9
  replace qa_9 := hH.cell qa_9
  replace za_10 := hH.frozen qa_10 za_10
  replace qa_10 := hH.cell qa_10
  replace zr_0 := hH.frozen qr_0 zr_0
  replace qr_0 := hH.cell qr_0
  replace zr_1 := hH.frozen qr_1 zr_1
  replace qr_1 := hH.cell qr_1
  replace zr_2 := hH.frozen qr_2 zr_2
  replace qr_2 := hH.cell qr_2
  replace zr_3 := hH.frozen qr_3 zr_3
  replace qr_3 := hH.cell qr_3
  replace zr_4 := hH.frozen qr_4 zr_4
  replace qr_4 := hH.cell qr_4
  replace zr_5 := hH.frozen qr_5 zr_5
  replace qr_5 := hH.cell qr_5
  replace zr_6 := hH.frozen qr_6 zr_6
  replace qr_6 := hH.cell qr_6
  replace zr_7 := hH.frozen qr_7 zr_7
  replace qr_7 := hH.cell qr_7
  replace zr_8 := hH.frozen qr_8 zr_8
  replace qr_8 := hH.cell qr_8
  replace zr_9 := hH.frozen qr_9 zr_9
  replace qr_9 := hH.cell qr_9
  replace zr_10 := hH.frozen qr_10 zr_10
  replace qr_10 := hH.cell qr_10
  clear k4 k7 kW qW hHeld hH hb3
  go_upto_region 10 with (fail)
  refine settle_wp ?_
  intro w5 hb5
  replace HM2 := Lib.hid ((((HM2.out.set (p := ⟨w.heap.size, 7, none⟩) (by simp) (by simp) (.int .u64 x)).set (p := ⟨w.heap.size, 4, none⟩) (by simp) (by simp) (.int .i64 ((I : Int) + 1))).set (p := ⟨w.heap.size, 4, none⟩) (by simp) (by simp) (.int .i64 0)).ext hb5)
  have pa_0 : w5.cell? ⟨w.heap.size, 0, none⟩ = some (.int .i64 0) := hb5.cell (by simp (maxDischargeDepth := 40) [go_sem, set_some, set_same, qa_0])
  have pa_1 : w5.cell? ⟨w.heap.size, 1, none⟩ = some (.int .i64 tn) := hb5.cell (by simp (maxDischargeDepth := 40) [go_sem, set_some, set_same, qa_1])
  have pa_2 : w5.cell? ⟨w.heap.size, 2, none⟩ = some (.int .i64 0) := hb5.cell (by simp (maxDischargeDepth := 40) [go_sem, set_some, set_same, qa_2])
  have pa_3 : w5.cell? ⟨w.heap.size, 3, none⟩ = some (.int .i64 tp) := hb5.cell (by simp (maxDischargeDepth := 40) [go_sem, set_some, set_same, qa_3])
  have pa_4 : w5.cell? ⟨w.heap.size, 4, none⟩ = some (.int .i64 0) := hb5.cell (by simp (maxDischargeDepth := 40) [go_sem, set_some, set_same, qa_4])
  have pa_5 : w5.cell? ⟨w.heap.size, 5, none⟩ = some (.int .i64 0) := hb5.cell (by simp (maxDischargeDepth := 40) [go_sem, set_some, set_same, qa_5])
  have pa_6 : w5.cell? ⟨w.heap.size, 6, none⟩ = some (.int .u64 tf) := hb5.cell (by simp (maxDischargeDepth := 40) [go_sem, set_some, set_same, qa_6])
  have pa_7 : w5.cell? ⟨w.heap.size, 7, none⟩ = some (.int .u64 x) := hb5.cell (by simp (maxDischargeDepth := 40) [go_sem, set_some, set_same, qa_7])
  have pa_8 : w5.cell? ⟨w.heap.size, 8, none⟩ = some (.int .u64 tv) := hb5.cell (by simp (maxDischargeDepth := 40) [go_sem, set_some, set_same, qa_8])
  have pa_9 : w5.cell? ⟨w.heap.size, 9, none⟩ = some (.int .u64 0) := hb5.cell (by simp (maxDischargeDepth := 40) [go_sem, set_some, set_same, qa_9])
  have pa_10 : w5.cell? ⟨w.heap.size, 10, none⟩ = some (.slice none 0 0) := hb5.cell (by simp (maxDischargeDepth := 40) [go_sem, set_some, set_same, qa_10])
  have pr_0 : w5.cell? ⟨w.heap.size + 1, 0, none⟩ = some (.int .i64 0) := hb5.cell (by simp [go_sem, qr_0])
  have vr_0 : w5.frozen? ⟨w.heap.size + 1, 0, none⟩ = false := hb5.frozen (v := .int .i64 0) (by simp [go_sem, qr_0]) (by simp [go_sem, zr_0])
  have pr_1 : w5.cell? ⟨w.heap.size + 1, 1, none⟩ = some (.int .i64 0) := hb5.cell (by simp [go_sem, qr_1])
  have vr_1 : w5.frozen? ⟨w.heap.size + 1, 1, none⟩ = false := hb5.frozen (v := .int .i64 0) (by simp [go_sem, qr_1]) (by simp [go_sem, zr_1])
  have pr_2 : w5.cell? ⟨w.heap.size + 1, 2, none⟩ = some (.int .i64 0) := hb5.cell (by simp [go_sem, qr_2])
  have vr_2 : w5.frozen? ⟨w.heap.size + 1, 2, none⟩ = false := hb5.frozen (v := .int .i64 0) (by simp [go_sem, qr_2]) (by simp [go_sem, zr_2])
  have pr_3 : w5.cell? ⟨w.heap.size + 1, 3, none⟩ = some (.int .i64 0) := hb5.cell (by simp [go_sem, qr_3])
  have vr_3 : w5.frozen? ⟨w.heap.size + 1, 3, none⟩ = false := hb5.frozen (v := .int .i64 0) (by simp [go_sem, qr_3]) (by simp [go_sem, zr_3])
  have pr_4 : w5.cell? ⟨w.heap.size + 1, 4, none⟩ = some (.int .i64 0) := hb5.cell (by simp [go_sem, qr_4])
  have vr_4 : w5.frozen? ⟨w.heap.size + 1, 4, none⟩ = false := hb5.frozen (v := .int .i64 0) (by simp [go_sem, qr_4]) (by simp [go_sem, zr_4])
  have pr_5 : w5.cell? ⟨w.heap.size + 1, 5, none⟩ = some (.int .i64 0) := hb5.cell (by simp [go_sem, qr_5])
  have vr_5 : w5.frozen? ⟨w.heap.size + 1, 5, none⟩ = false := hb5.frozen (v := .int .i64 0) (by simp [go_sem, qr_5]) (by simp [go_sem, zr_5])
  have pr_6 : w5.cell? ⟨w.heap.size + 1, 6, none⟩ = some (.int .u64 0) := hb5.cell (by simp [go_sem, qr_6])
  have vr_6 : w5.frozen? ⟨w.heap.size + 1, 6, none⟩ = false := hb5.frozen (v := .int .u64 0) (by simp [go_sem, qr_6]) (by simp [go_sem, zr_6])
  have pr_7 : w5.cell? ⟨w.heap.size + 1, 7, none⟩ = some (.int .u64 0) := hb5.cell (by simp [go_sem, qr_7])
  have vr_7 : w5.frozen? ⟨w.heap.size + 1, 7, none⟩ = false := hb5.frozen (v := .int .u64 0) (by simp [go_sem, qr_7]) (by simp [go_sem, zr_7])
  have pr_8 : w5.cell? ⟨w.heap.size + 1, 8, none⟩ = some (.int .u64 0) := hb5.cell (by simp [go_sem, qr_8])
  have vr_8 : w5.frozen? ⟨w.heap.size + 1, 8, none⟩ = false := hb5.frozen (v := .int .u64 0) (by simp [go_sem, qr_8]) (by simp [go_sem, zr_8])
  have pr_9 : w5.cell? ⟨w.heap.size + 1, 9, none⟩ = some (.int .u64 0) := hb5.cell (by simp [go_sem, qr_9])
  have vr_9 : w5.frozen? ⟨w.heap.size + 1, 9, none⟩ = false := hb5.frozen (v := .int .u64 0) (by simp [go_sem, qr_9]) (by simp [go_sem, zr_9])
  have pr_10 : w5.cell? ⟨w.heap.size + 1, 10, none⟩ = some (.slice none 0 0) := hb5.cell (by simp [go_sem, qr_10])
  have vr_10 : w5.frozen? ⟨w.heap.size + 1, 10, none⟩ = false := hb5.frozen (v := .slice none 0 0) (by simp [go_sem, qr_10]) (by simp [go_sem, zr_10])
  clear hb5 qa_0 za_0 qa_1 za_1 qa_2 za_2 qa_3 za_3 qa_4 za_4 qa_5 za_5 qa_6 za_6 qa_7 za_7 qa_8 za_8 qa_9 za_9 qa_10 za_10 qr_0 zr_0 qr_1 zr_1 qr_2 zr_2 qr_3 zr_3 qr_4 zr_4 qr_5 zr_5 qr_6 zr_6 qr_7 zr_7 qr_8 zr_8 qr_9 zr_9 qr_10 zr_10
  go_wp2
  refine bodyPost_ret (v := .tuple #[(.agg #[.int .i64 0, .int .i64 tn, .int .i64 0, .int .i64 tp, .int .i64 0, .int .i64 0, .int .u64 tf, .int .u64 x, .int .u64 tv, .int .u64 0, .slice none 0 0]), .bool true]) (by simp [results, Tryz.results59, go_sem, pr_0, pr_1, pr_2, pr_3, pr_4, pr_5, pr_6, pr_7, pr_8, pr_9, pr_10, pa_0, pa_1, pa_2, pa_3, pa_4, pa_5, pa_6, pa_7, pa_8, pa_9, pa_10]) rfl (HG.out _ ?mid)
  case mid => repeat (first | with_reducible exact HM2.out | refine RMid.set ?_ (by simp) (by simp) _)
set_option maxRecDepth 100000 in
theorem rScan32_zc (b : Nat) (r : RY) (f : Nat → Int) (lv : Value) (log : List Acc) (t : Int) (v : Value) (xs : List Int) (I c : Nat) (tn tp tf M tv : Int) (w : World) (h : RB w b r f lv log) (hW : r.W = 32) (hv : IntsV w v xs) (hI : I < xs.length) (hx : xs.getD I 0 = c) (hk : isK r (c : Int) 1 = true) (hc : c < r.m) (hl : log.length ≤ 1000) (hn : xs.length ≤ 1000) (f0 : 0 ≤ f c) (hM : 0 ≤ M) (h0 : I = 0) (h2 : I + 1 < xs.length) :
    Calls Tryz.prog 59 #[.pointer (some ⟨b, 0, none⟩), .int .i64 t, v, (.agg #[.int .i64 0, .int .i64 tn, .int .i64 0, .int .i64 tp, .int .i64 I, .int .i64 0, .int .u64 tf, .int .u64 M, .int .u64 tv, .int .u64 0, .slice none 0 0])] w (RScanDoes b r lv f (log ++ [⟨t, 1, c, f c, f c⟩]) false tn tp ((I : Int) + 1) tf (f c) tv w) := by
  have CA := Lib.hid (fun w' (hx : Ext w w') => rLoad_yes b r f lv log t c w' (h.ext hx) hk hc hl)
  have HG : Hid (∀ w', RMid b r lv f (log ++ [⟨t, 1, c, f c, f c⟩]) w w' → RScanDoes b r lv f (log ++ [⟨t, 1, c, f c, f c⟩]) false tn tp ((I : Int) + 1) tf (f c) tv w (.returned (.tuple #[(.agg #[.int .i64 0, .int .i64 tn, .int .i64 0, .int .i64 tp, .int .i64 ((I : Int) + 1), .int .i64 0, .int .u64 tf, .int .u64 (f c), .int .u64 tv, .int .u64 0, .slice none 0 0]), .bool false])) w') := Lib.hid (fun w' hm => ⟨rfl, hm.does (v := .bool true)⟩)
  have HM := Lib.hid (fun lv' w1 w2 (hx : Ext w w1) hs hR hN hA => rmid_of (f' := f) (lv' := lv') (log' := (log ++ [⟨t, 1, c, f c, f c⟩])) (w1 := w1) (w2 := w2) h hx hs hR hN hA)
  generalize RScanDoes b r lv f (log ++ [⟨t, 1, c, f c, f c⟩]) false tn tp ((I : Int) + 1) tf (f c) tv w = G at *
  obtain ⟨va, vc, ev, hf⟩ := hv.form
  subst ev
  obtain ⟨vb, vo, ea, cv⟩ := hf I hI
  subst ea
  rw [hx] at cv
  generalize hxx : f c = x at *
  have hI1 : (I : Int) < (xs.length : Int) := by omega
  have hI0 : (0 : Int) ≤ (I : Int) := by omega
  have d0 : ((I : Int) == 0) = true := by simp [h0]
  have d2 : ((I : Int) + 1 == (xs.length : Int)) = false := by simp; omega
  have hwr : IntKind.i64.wrap ((I : Int) + 1) = (I : Int) + 1 := wrapS (by omega) (by omega)
  have hlt := fun k (hk : Own b r.gh lv k) => h.lt hk
  generalize xs.length = n at *
  clear h hv hf hI hx hk hl hn h0 h2
  go_enter Tryz.func59, Tryz.ntmps59
  go_upto_region 1 with (fail)
  refine settle_wp ?_
  intro w1 hb1
  have qa_0 : w1.cell? ⟨w.heap.size, 0, none⟩ = some (.int .i64 0) := (hb1.cells.1 _ _ (by simp <;> omega)).trans (by simp [go_sem])
  have za_0 : w1.frozen? ⟨w.heap.size, 0, none⟩ = false := (hb1.cells.2 _ _ (by simp <;> omega)).trans (by simp [go_sem])
  have qa_1 : w1.cell? ⟨w.heap.size, 1, none⟩ = some (.int .i64 tn) := (hb1.cells.1 _ _ (by simp <;> omega)).trans (by simp [go_sem])
  have za_1 : w1.frozen? ⟨w.heap.size, 1, none⟩ = false := (hb1.cells.2 _ _ (by simp <;> omega)).trans (by simp [go_sem])
  have qa_2 : w1.cell? ⟨w.heap.size, 2, none⟩ = some (.int .i64 0) := (hb1.cells.1 _ _ (by simp <;> omega)).trans (by simp [go_sem])
  have za_2 : w1.frozen? ⟨w.heap.size, 2, none⟩ = false := (hb1.cells.2 _ _ (by simp <;> omega)).trans (by simp [go_sem])
  have qa_3 : w1.cell? ⟨w.heap.size, 3, none⟩ = some (.int .i64 tp) := (hb1.cells.1 _ _ (by simp <;> omega)).trans (by simp [go_sem])
  have za_3 : w1.frozen? ⟨w.heap.size, 3, none⟩ = false := (hb1.cells.2 _ _ (by simp <;> omega)).trans (by simp [go_sem])
  have qa_4 : w1.cell? ⟨w.heap.size, 4, none⟩ = some (.int .i64 I) := (hb1.cells.1 _ _ (by simp <;> omega)).trans (by simp [go_sem])
  have za_4 : w1.frozen? ⟨w.heap.size, 4, none⟩ = false := (hb1.cells.2 _ _ (by simp <;> omega)).trans (by simp [go_sem])
  have qa_5 : w1.cell? ⟨w.heap.size, 5, none⟩ = some (.int .i64 0) := (hb1.cells.1 _ _ (by simp <;> omega)).trans (by simp [go_sem])
  have za_5 : w1.frozen? ⟨w.heap.size, 5, none⟩ = false := (hb1.cells.2 _ _ (by simp <;> omega)).trans (by simp [go_sem])
  have qa_6 : w1.cell? ⟨w.heap.size, 6, none⟩ = some (.int .u64 tf) := (hb1.cells.1 _ _ (by simp <;> omega)).trans (by simp [go_sem])
  have za_6 : w1.frozen? ⟨w.heap.size, 6, none⟩ = false := (hb1.cells.2 _ _ (by simp <;> omega)).trans (by simp [go_sem])
  have qa_7 : w1.cell? ⟨w.heap.size, 7, none⟩ = some (.int .u64 M) := (hb1.cells.1 _ _ (by simp <;> omega)).trans (by simp [go_sem])
  have za_7 : w1.frozen? ⟨w.heap.size, 7, none⟩ = false := (hb1.cells.2 _ _ (by simp <;> omega)).trans (by simp [go_sem])
  have qa_8 : w1.cell? ⟨w.heap.size, 8, none⟩ = some (.int .u64 tv) := (hb1.cells.1 _ _ (by simp <;> omega)).trans (by simp [go_sem])
  have za_8 : w1.frozen? ⟨w.heap.size, 8, none⟩ = false := (hb1.cells.2 _ _ (by simp <;> omega)).trans (by simp [go_sem])
  have qa_9 : w1.cell? ⟨w.heap.size, 9, none⟩ = some (.int .u64 0) := (hb1.cells.1 _ _ (by simp <;> omega)).trans (by simp [go_sem])
  have za_9 : w1.frozen? ⟨w.heap.size, 9, none⟩ = false := (hb1.cells.2 _ _ (by simp <;> omega)).trans (by simp [go_sem])
  have qa_10 : w1.cell? ⟨w.heap.size, 10, none⟩ = some (.slice none 0 0) := (hb1.cells.1 _ _ (by simp <;> omega)).trans (by simp [go_sem])
  have za_10 : w1.frozen? ⟨w.heap.size, 10, none⟩ = false := (hb1.cells.2 _ _ (by simp <;> omega)).trans (by simp [go_sem])
  have pa := World.block_lt_of_cell? _ ⟨w.heap.size, 0, none⟩ qa_0
  have ra := Nat.lt_succ_of_lt pa
  have qr_0 : w1.cell? ⟨(w.heap.size + 1), 0, none⟩ = some (.int .i64 0) := (hb1.cells.1 _ _ (by simp <;> omega)).trans (by simp [go_sem])
  have zr_0 : w1.frozen? ⟨(w.heap.size + 1), 0, none⟩ = false := (hb1.cells.2 _ _ (by simp <;> omega)).trans (by simp [go_sem])
  have qr_1 : w1.cell? ⟨(w.heap.size + 1), 1, none⟩ = some (.int .i64 0) := (hb1.cells.1 _ _ (by simp <;> omega)).trans (by simp [go_sem])
  have zr_1 : w1.frozen? ⟨(w.heap.size + 1), 1, none⟩ = false := (hb1.cells.2 _ _ (by simp <;> omega)).trans (by simp [go_sem])
  have qr_2 : w1.cell? ⟨(w.heap.size + 1), 2, none⟩ = some (.int .i64 0) := (hb1.cells.1 _ _ (by simp <;> omega)).trans (by simp [go_sem])
  have zr_2 : w1.frozen? ⟨(w.heap.size + 1), 2, none⟩ = false := (hb1.cells.2 _ _ (by simp <;> omega)).trans (by simp [go_sem])
  have qr_3 : w1.cell? ⟨(w.heap.size + 1), 3, none⟩ = some (.int .i64 0) := (hb1.cells.1 _ _ (by simp <;> omega)).trans (by simp [go_sem])
  have zr_3 : w1.frozen? ⟨(w.heap.size + 1), 3, none⟩ = false := (hb1.cells.2 _ _ (by simp <;> omega)).trans (by simp [go_sem])
  have qr_4 : w1.cell? ⟨(w.heap.size + 1), 4, none⟩ = some (.int .i64 0) := (hb1.cells.1 _ _ (by simp <;> omega)).trans (by simp [go_sem])
  have zr_4 : w1.frozen? ⟨(w.heap.size + 1), 4, none⟩ = false := (hb1.cells.2 _ _ (by simp <;> omega)).trans (by simp [go_sem])
  have qr_5 : w1.cell? ⟨(w.heap.size + 1), 5, none⟩ = some (.int .i64 0) := (hb1.cells.1 _ _ (by simp <;> omega)).trans (by simp [go_sem])
  have zr_5 : w1.frozen? ⟨(w.heap.size + 1), 5, none⟩ = false := (hb1.cells.2 _ _ (by simp <;> omega)).trans (by simp [go_sem])
  have qr_6 : w1.cell? ⟨(w.heap.size + 1), 6, none⟩ = some (.int .u64 0) := (hb1.cells.1 _ _ (by simp <;> omega)).trans (by simp [go_sem])
  have zr_6 : w1.frozen? ⟨(w.heap.size + 1), 6, none⟩ = false := (hb1.cells.2 _ _ (by simp <;> omega)).trans (by simp [go_sem])
  have qr_7 : w1.cell? ⟨(w.heap.size + 1), 7, none⟩ = some (.int .u64 0) := (hb1.cells.1 _ _ (by simp <;> omega)).trans (by simp [go_sem])
  have zr_7 : w1.frozen? ⟨(w.heap.size + 1), 7, none⟩ = false := (hb1.cells.2 _ _ (by simp <;> omega)).trans (by simp [go_sem])
  have qr_8 : w1.cell? ⟨(w.heap.size + 1), 8, none⟩ = some (.int .u64 0) := (hb1.cells.1 _ _ (by simp <;> omega)).trans (by simp [go_sem])
  have zr_8 : w1.frozen? ⟨(w.heap.size + 1), 8, none⟩ = false := (hb1.cells.2 _ _ (by simp <;> omega)).trans (by simp [go_sem])
  have qr_9 : w1.cell? ⟨(w.heap.size + 1), 9, none⟩ = some (.int .u64 0) := (hb1.cells.1 _ _ (by simp <;> omega)).trans (by simp [go_sem])
  have zr_9 : w1.frozen? ⟨(w.heap.size + 1), 9, none⟩ = false := (hb1.cells.2 _ _ (by simp <;> omega)).trans (by simp [go_sem])
  have qr_10 : w1.cell? ⟨(w.heap.size + 1), 10, none⟩ = some (.slice none 0 0) := (hb1.cells.1 _ _ (by simp <;> omega)).trans (by simp [go_sem])
  have zr_10 : w1.frozen? ⟨(w.heap.size + 1), 10, none⟩ = false := (hb1.cells.2 _ _ (by simp <;> omega)).trans (by simp [go_sem])
  have pr := World.block_lt_of_cell? _ ⟨(w.heap.size + 1), 0, none⟩ qr_0
  have rr := Nat.lt_succ_of_lt pr
  have XE : Ext w w1 := Ext.trans (Ext.alloc (Ext.alloc (Ext.refl w) _) _) hb1
  have hs1 : w.heap.size + 2 ≤ w1.heap.size := by have h1 := hb1.size; simp at h1; omega
  have na : ¬ Own b r.gh lv w.heap.size := fun hk => by have := hlt _ hk; omega
  have nr : ¬ Own b r.gh lv (w.heap.size + 1) := fun hk => by have := hlt _ hk; omega
  replace cv := XE.cell cv
  clear hb1
  go_wp2_with fail
  refine (CA.out _ XE).mono ?_
  rintro e w2 ⟨rfl, lv2, R2, N2, A2⟩
  have HM2 := Lib.hid (HM.out lv2 _ w2 XE hs1 R2 N2 A2)
  have qW := R2.q1
  rw [hW] at qW
  replace za_0 := N2.frozen qa_0 za_0 na
  replace qa_0 := N2.cell qa_0 na
  replace za_1 := N2.frozen qa_1 za_1 na
  replace qa_1 := N2.cell qa_1 na
  replace za_2 := N2.frozen qa_2 za_2 na
  replace qa_2 := N2.cell qa_2 na
  replace za_3 := N2.frozen qa_3 za_3 na
  replace qa_3 := N2.cell qa_3 na
  replace za_4 := N2.frozen qa_4 za_4 na
  replace qa_4 := N2.cell qa_4 na
  replace za_5 := N2.frozen qa_5 za_5 na
  replace qa_5 := N2.cell qa_5 na
  replace za_6 := N2.frozen qa_6 za_6 na
  replace qa_6 := N2.cell qa_6 na
  replace za_7 := N2.frozen qa_7 za_7 na
  replace qa_7 := N2.cell qa_7 na
  replace za_8 := N2.frozen qa_8 za_8 na
  replace qa_8 := N2.cell qa_8 na
  replace za_9 := N2.frozen qa_9 za_9 na
  replace qa_9 := N2.cell qa_9 na
  replace za_10 := N2.frozen qa_10 za_10 na
  replace qa_10 := N2.cell qa_10 na
  replace zr_0 := N2.frozen qr_0 zr_0 nr
  replace qr_0 := N2.cell qr_0 nr
  replace zr_1 := N2.frozen qr_1 zr_1 nr
  replace qr_1 := N2.cell qr_1 nr
  replace zr_2 := N2.frozen qr_2 zr_2 nr
  replace qr_2 := N2.cell qr_2 nr
  replace zr_3 := N2.frozen qr_3 zr_3 nr
  replace qr_3 := N2.cell qr_3 nr
  replace zr_4 := N2.frozen qr_4 zr_4 nr
  replace qr_4 := N2.cell qr_4 nr
  replace zr_5 := N2.frozen qr_5 zr_5 nr
  replace qr_5 := N2.cell qr_5 nr
  replace zr_6 := N2.frozen qr_6 zr_6 nr
  replace qr_6 := N2.cell qr_6 nr
  replace zr_7 := N2.frozen qr_7 zr_7 nr
  replace qr_7 := N2.cell qr_7 nr
  replace zr_8 := N2.frozen qr_8 zr_8 nr
  replace qr_8 := N2.cell qr_8 nr
  replace zr_9 := N2.frozen qr_9 zr_9 nr
  replace qr_9 := N2.cell qr_9 nr
  replace zr_10 := N2.frozen qr_10 zr_10 nr
  replace qr_10 := N2.cell qr_10 nr
  clear R2 N2 A2 XE cv
  go_upto_region 5 with (fail)
  have k4 := fun w' (hx : Ext w2 w') => hx.cell qa_4
  have k7 := fun w' (hx : Ext w2 w') => hx.cell qa_7
  have kW := fun w' (hx : Ext w2 w') => hx.cell qW
  refine wp_region_held_drew (S := fun w' => Ext w2 w') (by kernel_rfl) ?hbeg (fun hHeld => ?_)
  case hbeg => exact (Ext.refl w2).drew
  have hHeld0 : Ext w2 w2 := by first | exact Ext.refl _ | assumption
  first
    | (refine take_at (i := 0) (v := ?_) rfl rfl (by kernel_rfl) (by kernel_rfl) (by kernel_rfl) (fun _ _ _ h => h) (Or.inl ⟨by rfl, ?hy⟩) (by assumption) ?_
       case hy => (intro wz hSw; (try dsimp only at hSw); go_simp <;> with_reducible rfl)
       simp only [List.setIfInBounds_toArray, List.set_cons_zero, List.set_cons_succ])
    | (refine take_at (i := 0) (v := undef) rfl rfl (by kernel_rfl) (by kernel_rfl) (by kernel_rfl) (fun _ _ _ h => h) (Or.inr ⟨by rfl, rfl⟩) (by assumption) ?_
       simp only [List.setIfInBounds_toArray, List.set_cons_zero, List.set_cons_succ])
  first
    | (refine take_at (i := 1) (v := ?_) rfl rfl (by kernel_rfl) (by kernel_rfl) (by kernel_rfl) (fun _ _ _ h => h) (Or.inl ⟨by rfl, ?hy⟩) (by assumption) ?_
       case hy => (intro wz hSw; (try dsimp only at hSw); go_simp <;> with_reducible rfl)
       simp only [List.setIfInBounds_toArray, List.set_cons_zero, List.set_cons_succ])
    | (refine take_at (i := 1) (v := undef) rfl rfl (by kernel_rfl) (by kernel_rfl) (by kernel_rfl) (fun _ _ _ h => h) (Or.inr ⟨by rfl, rfl⟩) (by assumption) ?_
       simp only [List.setIfInBounds_toArray, List.set_cons_zero, List.set_cons_succ])
  first
    | (refine take_at (i := 2) (v := ?_) rfl rfl (by kernel_rfl) (by kernel_rfl) (by kernel_rfl) (fun _ _ _ h => h) (Or.inl ⟨by rfl, ?hy⟩) (by assumption) ?_
       case hy => (intro wz hSw; (try dsimp only at hSw); go_simp <;> with_reducible rfl)
       simp only [List.setIfInBounds_toArray, List.set_cons_zero, List.set_cons_succ])
    | (refine take_at (i := 2) (v := undef) rfl rfl (by kernel_rfl) (by kernel_rfl) (by kernel_rfl) (fun _ _ _ h => h) (Or.inr ⟨by rfl, rfl⟩) (by assumption) ?_
       simp only [List.setIfInBounds_toArray, List.set_cons_zero, List.set_cons_succ])
  first
    | (refine take_at (i := 3) (v := ?_) rfl rfl (by kernel_rfl) (by kernel_rfl) (by kernel_rfl) (fun _ _ _ h => h) (Or.inl ⟨by rfl, ?hy⟩) (by assumption) ?_
       case hy => (intro wz hSw; (try dsimp only at hSw); go_simp <;> with_reducible rfl)
       simp only [List.setIfInBounds_toArray, List.set_cons_zero, List.set_cons_succ])
    | (refine take_at (i := 3) (v := undef) rfl rfl (by kernel_rfl) (by kernel_rfl) (by kernel_rfl) (fun _ _ _ h => h) (Or.inr ⟨by rfl, rfl⟩) (by assumption) ?_
       simp only [List.setIfInBounds_toArray, List.set_cons_zero, List.set_cons_succ])
  first
    | (refine take_at (i := 4) (v := ?_) rfl rfl (by kernel_rfl) (by kernel_rfl) (by kernel_rfl) (fun _ _ _ h => h) (Or.inl ⟨by rfl, ?hy⟩) (by assumption) ?_
       case hy => (intro wz hSw; (try dsimp only at hSw); go_simp <;> with_reducible rfl)
       simp only [List.setIfInBounds_toArray, List.set_cons_zero, List.set_cons_succ])
    | (refine take_at (i := 4) (v := undef) rfl rfl (by kernel_rfl) (by kernel_rfl) (by kernel_rfl) (fun _ _ _ h => h) (Or.inr ⟨by rfl, rfl⟩) (by assumption) ?_
       simp only [List.setIfInBounds_toArray, List.set_cons_zero, List.set_cons_succ])
  first
    | (refine take_at (i := 5) (v := ?_) rfl rfl (by kernel_rfl) (by kernel_rfl) (by kernel_rfl) (fun _ _ _ h => h) (Or.inl ⟨by rfl, ?hy⟩) (by assumption) ?_
       case hy => (intro wz hSw; (try dsimp only at hSw); go_simp <;> with_reducible rfl)
       simp only [List.setIfInBounds_toArray, List.set_cons_zero, List.set_cons_succ])
    | (refine take_at (i := 5) (v := undef) rfl rfl (by kernel_rfl) (by kernel_rfl) (by kernel_rfl) (fun _ _ _ h => h) (Or.inr ⟨by rfl, rfl⟩) (by assumption) ?_
       simp only [List.setIfInBounds_toArray, List.set_cons_zero, List.set_cons_succ])
  first
    | (refine take_at (i := 6) (v := ?_) rfl rfl (by kernel_rfl) (by kernel_rfl) (by kernel_rfl) (fun _ _ _ h => h) (Or.inl ⟨by rfl, ?hy⟩) (by assumption) ?_
       case hy => (intro wz hSw; (try dsimp only at hSw); go_simp <;> with_reducible rfl)
       simp only [List.setIfInBounds_toArray, List.set_cons_zero, List.set_cons_succ])
    | (refine take_at (i := 6) (v := undef) rfl rfl (by kernel_rfl) (by kernel_rfl) (by kernel_rfl) (fun _ _ _ h => h) (Or.inr ⟨by rfl, rfl⟩) (by assumption) ?_
       simp only [List.setIfInBounds_toArray, List.set_cons_zero, List.set_cons_succ])
  first
    | (refine take_at (i := 7) (v := ?_) rfl rfl (by kernel_rfl) (by kernel_rfl) (by kernel_rfl) (fun _ _ _ h => h) (Or.inl ⟨by rfl, ?hy⟩) (by assumption) ?_
       case hy => (intro wz hSw; (try dsimp only at hSw); go_simp <;> with_reducible rfl)
       simp only [List.setIfInBounds_toArray, List.set_cons_zero, List.set_cons_succ])
    | (refine take_at (i := 7) (v := undef) rfl rfl (by kernel_rfl) (by kernel_rfl) (by kernel_rfl) (fun _ _ _ h => h) (Or.inr ⟨by rfl, rfl⟩) (by assumption) ?_
       simp only [List.setIfInBounds_toArray, List.set_cons_zero, List.set_cons_succ])
  first
    | (refine take_at (i := 8) (v := ?_) rfl rfl (by kernel_rfl) (by kernel_rfl) (by kernel_rfl) (fun _ _ _ h => h) (Or.inl ⟨by rfl, ?hy⟩) (by assumption) ?_
       case hy => (intro wz hSw; (try dsimp only at hSw); go_simp <;> with_reducible rfl)
       simp only [List.setIfInBounds_toArray, List.set_cons_zero, List.set_cons_succ])
    | (refine take_at (i := 8) (v := undef) rfl rfl (by kernel_rfl) (by kernel_rfl) (by kernel_rfl) (fun _ _ _ h => h) (Or.inr ⟨by rfl, rfl⟩) (by assumption) ?_
       simp only [List.setIfInBounds_toArray, List.set_cons_zero, List.set_cons_succ])
  first
    | (refine take_at (i := 9) (v := ?_) rfl rfl (by kernel_rfl) (by kernel_rfl) (by kernel_rfl) (fun _ _ _ h => h) (Or.inl ⟨by rfl, ?hy⟩) (by assumption) ?_
       case hy => (intro wz hSw; (try dsimp only at hSw); go_simp <;> with_reducible rfl)
       simp only [List.setIfInBounds_toArray, List.set_cons_zero, List.set_cons_succ])
    | (refine take_at (i := 9) (v := undef) rfl rfl (by kernel_rfl) (by kernel_rfl) (by kernel_rfl) (fun _ _ _ h => h) (Or.inr ⟨by rfl, rfl⟩) (by assumption) ?_
       simp only [List.setIfInBounds_toArray, List.set_cons_zero, List.set_cons_succ])
  first
    | (refine take_at (i := 10) (v := ?_) rfl rfl (by kernel_rfl) (by kernel_rfl) (by kernel_rfl) (fun _ _ _ h => h) (Or.inl ⟨by rfl, ?hy⟩) (by assumption) ?_
       case hy => (intro wz hSw; (try dsimp only at hSw); go_simp <;> with_reducible rfl)
       simp only [List.setIfInBounds_toArray, List.set_cons_zero, List.set_cons_succ])
    | (refine take_at (i := 10) (v := undef) rfl rfl (by kernel_rfl) (by kernel_rfl) (by kernel_rfl) (fun _ _ _ h => h) (Or.inr ⟨by rfl, rfl⟩) (by assumption) ?_
       simp only [List.setIfInBounds_toArray, List.set_cons_zero, List.set_cons_succ])
  first
    | (refine take_at (i := 11) (v := ?_) rfl rfl (by kernel_rfl) (by kernel_rfl) (by kernel_rfl) (fun _ _ _ h => h) (Or.inl ⟨by rfl, ?hy⟩) (by assumption) ?_
       case hy => (intro wz hSw; (try dsimp only at hSw); go_simp <;> with_reducible rfl)
       simp only [List.setIfInBounds_toArray, List.set_cons_zero, List.set_cons_succ])
    | (refine take_at (i := 11) (v := undef) rfl rfl (by kernel_rfl) (by kernel_rfl) (by kernel_rfl) (fun _ _ _ h => h) (Or.inr ⟨by rfl, rfl⟩) (by assumption) ?_
       simp only [List.setIfInBounds_toArray, List.set_cons_zero, List.set_cons_succ])
  first
    | (refine take_at (i := 12) (v := ?_) rfl rfl (by kernel_rfl) (by kernel_rfl) (by kernel_rfl) (fun _ _ _ h => h) (Or.inl ⟨by rfl, ?hy⟩) (by assumption) ?_
       case hy => (intro wz hSw; (try dsimp only at hSw); go_simp <;> with_reducible rfl)
       simp only [List.setIfInBounds_toArray, List.set_cons_zero, List.set_cons_succ])
    | (refine take_at (i := 12) (v := undef) rfl rfl (by kernel_rfl) (by kernel_rfl) (by kernel_rfl) (fun _ _ _ h => h) (Or.inr ⟨by rfl, rfl⟩) (by assumption) ?_
       simp only [List.setIfInBounds_toArray, List.set_cons_zero, List.set_cons_succ])
  first
    | (refine take_at (i := 13) (v := ?_) rfl rfl (by kernel_rfl) (by kernel_rfl) (by kernel_rfl) (fun _ _ _ h => h) (Or.inl ⟨by rfl, ?hy⟩) (by assumption) ?_
       case hy => (intro wz hSw; (try dsimp only at hSw); go_simp <;> with_reducible rfl)
       simp only [List.setIfInBounds_toArray, List.set_cons_zero, List.set_cons_succ])
    | (refine take_at (i := 13) (v := undef) rfl rfl (by kernel_rfl) (by kernel_rfl) (by kernel_rfl) (fun _ _ _ h => h) (Or.inr ⟨by rfl, rfl⟩) (by assumption) ?_
       simp only [List.setIfInBounds_toArray, List.set_cons_zero, List.set_cons_succ])
  first
    | (refine take_at (i := 14) (v := ?_) rfl rfl (by kernel_rfl) (by kernel_rfl) (by kernel_rfl) (fun _ _ _ h => h) (Or.inl ⟨by rfl, ?hy⟩) (by assumption) ?_
       case hy => (intro wz hSw; (try dsimp only at hSw); go_simp <;> with_reducible rfl)
       simp only [List.setIfInBounds_toArray, List.set_cons_zero, List.set_cons_succ])
    | (refine take_at (i := 14) (v := undef) rfl rfl (by kernel_rfl) (by kernel_rfl) (by kernel_rfl) (fun _ _ _ h => h) (Or.inr ⟨by rfl, rfl⟩) (by assumption) ?_
       simp only [List.setIfInBounds_toArray, List.set_cons_zero, List.set_cons_succ])
  refine wpAnyH_done (by kernel_rfl) ?_ _
  go_upto_region 6 with (fail)
  refine settle_wp ?_
  intro w3 hb3
  have hH := Ext.trans hHeld hb3
  replace HM2 := Lib.hid (HM2.out.ext hH)
  replace za_0 := hH.frozen qa_0 za_0
  replace qa_0 := hH.cell qa_0
  replace za_1 := hH.frozen qa_1 za_1
  replace qa_1 := hH.cell qa_1
  replace za_2 := hH.frozen qa_2 za_2
  replace qa_2 := hH.cell qa_2
  replace za_3 := hH.frozen qa_3 za_3
  replace qa_3 := hH.cell qa_3
  replace za_4 := hH.frozen qa_4 za_4
  replace qa_4 := hH.cell qa_4
  replace za_5 := hH.frozen qa_5 za_5
  replace qa_5 := hH.cell qa_5
  replace za_6 := hH.frozen qa_6 za_6
  replace qa_6 := hH.cell qa_6
  replace za_7 := hH.frozen qa_7 za_7
  replace qa_7 := hH.cell qa_7
  replace za_8 := hH.frozen qa_8 za_8
  replace qa_8 := hH.cell qa_8
  replace za_9 := hH.frozen qa_9 za_9
  replace qa_9 := hH.cell qa_9
  replace za_10 := hH.frozen qa_10 za_10
  replace qa_10 := hH.cell qa_10
  replace zr_0 := hH.frozen qr_0 zr_0
  replace qr_0 := hH.cell qr_0
  replace zr_1 := hH.frozen qr_1 zr_1
  replace qr_1 := hH.cell qr_1
  replace zr_2 := hH.frozen qr_2 zr_2
  replace qr_2 := hH.cell qr_2
  replace zr_3 := hH.frozen qr_3 zr_3
  replace qr_3 := hH.cell qr_3
  replace zr_4 := hH.frozen qr_4 zr_4
  replace qr_4 := hH.cell qr_4
  replace zr_5 := hH.frozen qr_5 zr_5
  replace qr_5 := hH.cell qr_5
  replace zr_6 := hH.frozen qr_6 zr_6
  replace qr_6 := hH.cell qr_6
  replace zr_7 := hH.frozen qr_7 zr_7
  replace qr_7 := hH.cell qr_7
  replace zr_8 := hH.frozen qr_8 zr_8
  replace qr_8 := hH.cell qr_8
  replace zr_9 := hH.frozen qr_9 zr_9
  replace qr_9 := hH.cell qr_9
  replace zr_10 := hH.frozen qr_10 zr_10
  replace qr_10 := hH.cell qr_10
  clear k4 k7 kW qW hHeld hH hb3
  go_upto_region 11 with (fail)
  refine settle_wp ?_
  intro w5 hb5
  replace HM2 := Lib.hid (((HM2.out.set (p := ⟨w.heap.size, 7, none⟩) (by simp) (by simp) (.int .u64 x)).set (p := ⟨w.heap.size, 4, none⟩) (by simp) (by simp) (.int .i64 ((I : Int) + 1))).ext hb5)
  have pa_0 : w5.cell? ⟨w.heap.size, 0, none⟩ = some (.int .i64 0) := hb5.cell (by simp (maxDischargeDepth := 40) [go_sem, set_some, set_same, qa_0])
  have pa_1 : w5.cell? ⟨w.heap.size, 1, none⟩ = some (.int .i64 tn) := hb5.cell (by simp (maxDischargeDepth := 40) [go_sem, set_some, set_same, qa_1])
  have pa_2 : w5.cell? ⟨w.heap.size, 2, none⟩ = some (.int .i64 0) := hb5.cell (by simp (maxDischargeDepth := 40) [go_sem, set_some, set_same, qa_2])
  have pa_3 : w5.cell? ⟨w.heap.size, 3, none⟩ = some (.int .i64 tp) := hb5.cell (by simp (maxDischargeDepth := 40) [go_sem, set_some, set_same, qa_3])
  have pa_4 : w5.cell? ⟨w.heap.size, 4, none⟩ = some (.int .i64 ((I : Int) + 1)) := hb5.cell (by simp (maxDischargeDepth := 40) [go_sem, set_some, set_same, qa_4])
  have pa_5 : w5.cell? ⟨w.heap.size, 5, none⟩ = some (.int .i64 0) := hb5.cell (by simp (maxDischargeDepth := 40) [go_sem, set_some, set_same, qa_5])
  have pa_6 : w5.cell? ⟨w.heap.size, 6, none⟩ = some (.int .u64 tf) := hb5.cell (by simp (maxDischargeDepth := 40) [go_sem, set_some, set_same, qa_6])
  have pa_7 : w5.cell? ⟨w.heap.size, 7, none⟩ = some (.int .u64 x) := hb5.cell (by simp (maxDischargeDepth := 40) [go_sem, set_some, set_same, qa_7])
  have pa_8 : w5.cell? ⟨w.heap.size, 8, none⟩ = some (.int .u64 tv) := hb5.cell (by simp (maxDischargeDepth := 40) [go_sem, set_some, set_same, qa_8])
  have pa_9 : w5.cell? ⟨w.heap.size, 9, none⟩ = some (.int .u64 0) := hb5.cell (by simp (maxDischargeDepth := 40) [go_sem, set_some, set_same, qa_9])
  have pa_10 : w5.cell? ⟨w.heap.size, 10, none⟩ = some (.slice none 0 0) := hb5.cell (by simp (maxDischargeDepth := 40) [go_sem, set_some, set_same, qa_10])
  have pr_0 : w5.cell? ⟨w.heap.size + 1, 0, none⟩ = some (.int .i64 0) := hb5.cell (by simp [go_sem, qr_0])
  have vr_0 : w5.frozen? ⟨w.heap.size + 1, 0, none⟩ = false := hb5.frozen (v := .int .i64 0) (by simp [go_sem, qr_0]) (by simp [go_sem, zr_0])
  have pr_1 : w5.cell? ⟨w.heap.size + 1, 1, none⟩ = some (.int .i64 0) := hb5.cell (by simp [go_sem, qr_1])
  have vr_1 : w5.frozen? ⟨w.heap.size + 1, 1, none⟩ = false := hb5.frozen (v := .int .i64 0) (by simp [go_sem, qr_1]) (by simp [go_sem, zr_1])
  have pr_2 : w5.cell? ⟨w.heap.size + 1, 2, none⟩ = some (.int .i64 0) := hb5.cell (by simp [go_sem, qr_2])
  have vr_2 : w5.frozen? ⟨w.heap.size + 1, 2, none⟩ = false := hb5.frozen (v := .int .i64 0) (by simp [go_sem, qr_2]) (by simp [go_sem, zr_2])
  have pr_3 : w5.cell? ⟨w.heap.size + 1, 3, none⟩ = some (.int .i64 0) := hb5.cell (by simp [go_sem, qr_3])
  have vr_3 : w5.frozen? ⟨w.heap.size + 1, 3, none⟩ = false := hb5.frozen (v := .int .i64 0) (by simp [go_sem, qr_3]) (by simp [go_sem, zr_3])
  have pr_4 : w5.cell? ⟨w.heap.size + 1, 4, none⟩ = some (.int .i64 0) := hb5.cell (by simp [go_sem, qr_4])
  have vr_4 : w5.frozen? ⟨w.heap.size + 1, 4, none⟩ = false := hb5.frozen (v := .int .i64 0) (by simp [go_sem, qr_4]) (by simp [go_sem, zr_4])
  have pr_5 : w5.cell? ⟨w.heap.size + 1, 5, none⟩ = some (.int .i64 0) := hb5.cell (by simp [go_sem, qr_5])
  have vr_5 : w5.frozen? ⟨w.heap.size + 1, 5, none⟩ = false := hb5.frozen (v := .int .i64 0) (by simp [go_sem, qr_5]) (by simp [go_sem, zr_5])
  have pr_6 : w5.cell? ⟨w.heap.size + 1, 6, none⟩ = some (.int .u64 0) := hb5.cell (by simp [go_sem, qr_6])
  have vr_6 : w5.frozen? ⟨w.heap.size + 1, 6, none⟩ = false := hb5.frozen (v := .int .u64 0) (by simp [go_sem, qr_6]) (by simp [go_sem, zr_6])
  have pr_7 : w5.cell? ⟨w.heap.size + 1, 7, none⟩ = some (.int .u64 0) := hb5.cell (by simp [go_sem, qr_7])
  have vr_7 : w5.frozen? ⟨w.heap.size + 1, 7, none⟩ = false := hb5.frozen (v := .int .u64 0) (by simp [go_sem, qr_7]) (by simp [go_sem, zr_7])
  have pr_8 : w5.cell? ⟨w.heap.size + 1, 8, none⟩ = some (.int .u64 0) := hb5.cell (by simp [go_sem, qr_8])
  have vr_8 : w5.frozen? ⟨w.heap.size + 1, 8, none⟩ = false := hb5.frozen (v := .int .u64 0) (by simp [go_sem, qr_8]) (by simp [go_sem, zr_8])
  have pr_9 : w5.cell? ⟨w.heap.size + 1, 9, none⟩ = some (.int .u64 0) := hb5.cell (by simp [go_sem, qr_9])
  have vr_9 : w5.frozen? ⟨w.heap.size + 1, 9, none⟩ = false := hb5.frozen (v := .int .u64 0) (by simp [go_sem, qr_9]) (by simp [go_sem, zr_9])
  have pr_10 : w5.cell? ⟨w.heap.size + 1, 10, none⟩ = some (.slice none 0 0) := hb5.cell (by simp [go_sem, qr_10])
  have vr_10 : w5.frozen? ⟨w.heap.size + 1, 10, none⟩ = false := hb5.frozen (v := .slice none 0 0) (by simp [go_sem, qr_10]) (by simp [go_sem, zr_10])
  clear hb5 qa_0 za_0 qa_1 za_1 qa_2 za_2 qa_3 za_3 qa_4 za_4 qa_5 za_5 qa_6 za_6 qa_7 za_7 qa_8 za_8 qa_9 za_9 qa_10 za_10 qr_0 zr_0 qr_1 zr_1 qr_2 zr_2 qr_3 zr_3 qr_4 zr_4 qr_5 zr_5 qr_6 zr_6 qr_7 zr_7 qr_8 zr_8 qr_9 zr_9 qr_10 zr_10
  go_wp2
  refine bodyPost_ret (v := .tuple #[(.agg #[.int .i64 0, .int .i64 tn, .int .i64 0, .int .i64 tp, .int .i64 ((I : Int) + 1), .int .i64 0, .int .u64 tf, .int .u64 x, .int .u64 tv, .int .u64 0, .slice none 0 0]), .bool false]) (by simp [results, Tryz.results59, go_sem, pr_0, pr_1, pr_2, pr_3, pr_4, pr_5, pr_6, pr_7, pr_8, pr_9, pr_10, pa_0, pa_1, pa_2, pa_3, pa_4, pa_5, pa_6, pa_7, pa_8, pa_9, pa_10]) rfl (HG.out _ ?mid)
  case mid => repeat (first | with_reducible exact HM2.out | refine RMid.set ?_ (by simp) (by simp) _)
set_option maxRecDepth 100000 in
theorem rScan32_le (b : Nat) (r : RY) (f : Nat → Int) (lv : Value) (log : List Acc) (t : Int) (v : Value) (xs : List Int) (I c : Nat) (tn tp tf M tv : Int) (w : World) (h : RB w b r f lv log) (hW : r.W = 32) (hv : IntsV w v xs) (hI : I < xs.length) (hx : xs.getD I 0 = c) (hk : isK r (c : Int) 1 = true) (hc : c < r.m) (hl : log.length ≤ 1000) (hn : xs.length ≤ 1000) (f0 : 0 ≤ f c) (hM : 0 ≤ M) (h0 : ¬ I = 0) (h1 : D32 (f c - M) < 0) (h2 : I + 1 = xs.length) :
    Calls Tryz.prog 59 #[.pointer (some ⟨b, 0, none⟩), .int .i64 t, v, (.agg #[.int .i64 0, .int .i64 tn, .int .i64 0, .int .i64 tp, .int .i64 I, .int .i64 0, .int .u64 tf, .int .u64 M, .int .u64 tv, .int .u64 0, .slice none 0 0])] w (RScanDoes b r lv f (log ++ [⟨t, 1, c, f c, f c⟩]) true tn tp 0 tf (f c) tv w) := by
  have CA := Lib.hid (fun w' (hx : Ext w w') => rLoad_yes b r f lv log t c w' (h.ext hx) hk hc hl)
  have HG : Hid (∀ w', RMid b r lv f (log ++ [⟨t, 1, c, f c, f c⟩]) w w' → RScanDoes b r lv f (log ++ [⟨t, 1, c, f c, f c⟩]) true tn tp 0 tf (f c) tv w (.returned (.tuple #[(.agg #[.int .i64 0, .int .i64 tn, .int .i64 0, .int .i64 tp, .int .i64 0, .int .i64 0, .int .u64 tf, .int .u64 (f c), .int .u64 tv, .int .u64 0, .slice none 0 0]), .bool true])) w') := Lib.hid (fun w' hm => ⟨rfl, hm.does (v := .bool true)⟩)
  have HM := Lib.hid (fun lv' w1 w2 (hx : Ext w w1) hs hR hN hA => rmid_of (f' := f) (lv' := lv') (log' := (log ++ [⟨t, 1, c, f c, f c⟩])) (w1 := w1) (w2 := w2) h hx hs hR hN hA)
  generalize RScanDoes b r lv f (log ++ [⟨t, 1, c, f c, f c⟩]) true tn tp 0 tf (f c) tv w = G at *
  obtain ⟨va, vc, ev, hf⟩ := hv.form
  subst ev
  obtain ⟨vb, vo, ea, cv⟩ := hf I hI
  subst ea
  rw [hx] at cv
  generalize hxx : f c = x at *
  have hI1 : (I : Int) < (xs.length : Int) := by omega
  have hI0 : (0 : Int) ≤ (I : Int) := by omega
  have d0 : ((I : Int) == 0) = false := by simp; omega
  have d1 : decide (D32 (x - M) < 0) = true := by simpa using h1
  have d2 : ((I : Int) + 1 == (xs.length : Int)) = true := by simp; omega
  have hwr : IntKind.i64.wrap ((I : Int) + 1) = (I : Int) + 1 := wrapS (by omega) (by omega)
  have hlt := fun k (hk : Own b r.gh lv k) => h.lt hk
  generalize xs.length = n at *
  clear h hv hf hI hx hk hl hn h0 h2 h1
  go_enter Tryz.func59, Tryz.ntmps59
  go_upto_region 1 with (fail)
  refine settle_wp ?_
  intro w1 hb1
  have qa_0 : w1.cell? ⟨w.heap.size, 0, none⟩ = some (.int .i64 0) := (hb1.cells.1 _ _ (by simp <;> omega)).trans (by simp [go_sem])
  have za_0 : w1.frozen? ⟨w.heap.size, 0, none⟩ = false := (hb1.cells.2 _ _ (by simp <;> omega)).trans (by simp [go_sem])
  have qa_1 : w1.cell? ⟨w.heap.size, 1, none⟩ = some (.int .i64 tn) := (hb1.cells.1 _ _ (by simp <;> omega)).trans (by simp [go_sem])
  have za_1 : w1.frozen? ⟨w.heap.size, 1, none⟩ = false := (hb1.cells.2 _ _ (by simp <;> omega)).trans (by simp [go_sem])
  have qa_2 : w1.cell? ⟨w.heap.size, 2, none⟩ = some (.int .i64 0) := (hb1.cells.1 _ _ (by simp <;> omega)).trans (by simp [go_sem])
  have za_2 : w1.frozen? ⟨w.heap.size, 2, none⟩ = false := (hb1.cells.2 _ _ (by simp <;> omega)).trans (by simp [go_sem])
  have qa_3 : w1.cell? ⟨w.heap.size, 3, none⟩ = some (.int .i64 tp) := (hb1.cells.1 _ _ (by simp <;> omega)).trans (by simp [go_sem])
  have za_3 : w1.frozen? ⟨w.heap.size, 3, none⟩ = false := (hb1.cells.2 _ _ (by simp <;> omega)).trans (by simp [go_sem])
  have qa_4 : w1.cell? ⟨w.heap.size, 4, none⟩ = some (.int .i64 I) := (hb1.cells.1 _ _ (by simp <;> omega)).trans (by simp [go_sem])
  have za_4 : w1.frozen? ⟨w.heap.size, 4, none⟩ = false := (hb1.cells.2 _ _ (by simp <;> omega)).trans (by simp [go_sem])
  have qa_5 : w1.cell? ⟨w.heap.size, 5, none⟩ = some (.int .i64 0) := (hb1.cells.1 _ _ (by simp <;> omega)).trans (by simp [go_sem])
  have za_5 : w1.frozen? ⟨w.heap.size, 5, none⟩ = false := (hb1.cells.2 _ _ (by simp <;> omega)).trans (by simp [go_sem])
  have qa_6 : w1.cell? ⟨w.heap.size, 6, none⟩ = some (.int .u64 tf) := (hb1.cells.1 _ _ (by simp <;> omega)).trans (by simp [go_sem])
  have za_6 : w1.frozen? ⟨w.heap.size, 6, none⟩ = false := (hb1.cells.2 _ _ (by simp <;> omega)).trans (by simp [go_sem])
  have qa_7 : w1.cell? ⟨w.heap.size, 7, none⟩ = some (.int .u64 M) := (hb1.cells.1 _ _ (by simp <;> omega)).trans (by simp [go_sem])
  have za_7 : w1.frozen? ⟨w.heap.size, 7, none⟩ = false := (hb1.cells.2 _ _ (by simp <;> omega)).trans (by simp [go_sem])
  have qa_8 : w1.cell? ⟨w.heap.size, 8, none⟩ = some (.int .u64 tv) := (hb1.cells.1 _ _ (by simp <;> omega)).trans (by simp [go_sem])
  have za_8 : w1.frozen? ⟨w.heap.size, 8, none⟩ = false := (hb1.cells.2 _ _ (by simp <;> omega)).trans (by simp [go_sem])
  have qa_9 : w1.cell? ⟨w.heap.size, 9, none⟩ = some (.int .u64 0) := (hb1.cells.1 _ _ (by simp <;> omega)).trans (by simp [go_sem])
  have za_9 : w1.frozen? ⟨w.heap.size, 9, none⟩ = false := (hb1.cells.2 _ _ (by simp <;> omega)).trans (by simp [go_sem])
  have qa_10 : w1.cell? ⟨w.heap.size, 10, none⟩ = some (.slice none 0 0) := (hb1.cells.1 _ _ (by simp <;> omega)).trans (by simp [go_sem])
  have za_10 : w1.frozen? ⟨w.heap.size, 10, none⟩ = false := (hb1.cells.2 _ _ (by simp <;> omega)).trans (by simp [go_sem])
  have pa := World.block_lt_of_cell? _ ⟨w.heap.size, 0, none⟩ qa_0
  have ra := Nat.lt_succ_of_lt pa
  have qr_0 : w1.cell? ⟨(w.heap.size + 1), 0, none⟩ = some (.int .i64 0) := (hb1.cells.1 _ _ (by simp <;> omega)).trans (by simp [go_sem])
  have zr_0 : w1.frozen? ⟨(w.heap.size + 1), 0, none⟩ = false := (hb1.cells.2 _ _ (by simp <;> omega)).trans (by simp [go_sem])
  have qr_1 : w1.cell? ⟨(w.heap.size + 1), 1, none⟩ = some (.int .i64 0) := (hb1.cells.1 _ _ (by simp <;> omega)).trans (by simp [go_sem])
  have zr_1 : w1.frozen? ⟨(w.heap.size + 1), 1, none⟩ = false := (hb1.cells.2 _ _ (by simp <;> omega)).trans (by simp [go_sem])
  have qr_2 : w1.cell? ⟨(w.heap.size + 1), 2, none⟩ = some (.int .i64 0) := (hb1.cells.1 _ _ (by simp <;> omega)).trans (by simp [go_sem])
  have zr_2 : w1.frozen? ⟨(w.heap.size + 1), 2, none⟩ = false := (hb1.cells.2 _ _ (by simp <;> omega)).trans (by simp [go_sem])
  have qr_3 : w1.cell? ⟨(w.heap.size + 1), 3, none⟩ = some (.int .i64 0) := (hb1.cells.1 _ _ (by simp <;> omega)).trans (by simp [go_sem])
  have zr_3 : w1.frozen? ⟨(w.heap.size + 1), 3, none⟩ = false := (hb1.cells.2 _ _ (by simp <;> omega)).trans (by simp [go_sem])
  have qr_4 : w1.cell? ⟨(w.heap.size + 1), 4, none⟩ = some (.int .i64 0) := (hb1.cells.1 _ _ (by simp <;> omega)).trans (by simp [go_sem])
  have zr_4 : w1.frozen? ⟨(w.heap.size + 1), 4, none⟩ = false := (hb1.cells.2 _ _ (by simp <;> omega)).trans (by simp [go_sem])
  have qr_5 : w1.cell? ⟨(w.heap.size + 1), 5, none⟩ = some (.int .i64 0) := (hb1.cells.1 _ _ (by simp <;> omega)).trans (by simp [go_sem])
  have zr_5 : w1.frozen? ⟨(w.heap.size + 1), 5, none⟩ = false := (hb1.cells.2 _ _ (by simp <;> omega)).trans (by simp [go_sem])
  have qr_6 : w1.cell? ⟨(w.heap.size + 1), 6, none⟩ = some (.int .u64 0) := (hb1.cells.1 _ _ (by simp <;> omega)).trans (by simp [go_sem])
  have zr_6 : w1.frozen? ⟨(w.heap.size + 1), 6, none⟩ = false := (hb1.cells.2 _ _ (by simp <;> omega)).trans (by simp [go_sem])
  have qr_7 : w1.cell? ⟨(w.heap.size + 1), 7, none⟩ = some (.int .u64 0) := (hb1.cells.1 _ _ (by simp <;> omega)).trans (by simp [go_sem])
  have zr_7 : w1.frozen? ⟨(w.heap.size + 1), 7, none⟩ = false := (hb1.cells.2 _ _ (by simp <;> omega)).trans (by simp [go_sem])
  have qr_8 : w1.cell? ⟨(w.heap.size + 1), 8, none⟩ = some (.int .u64 0) := (hb1.cells.1 _ _ (by simp <;> omega)).trans (by simp [go_sem])
  have zr_8 : w1.frozen? ⟨(w.heap.size + 1), 8, none⟩ = false := (hb1.cells.2 _ _ (by simp <;> omega)).trans (by simp [go_sem])
  have qr_9 : w1.cell? ⟨(w.heap.size + 1), 9, none⟩ = some (.int .u64 0) := (hb1.cells.1 _ _ (by simp <;> omega)).trans (by simp [go_sem])
  have zr_9 : w1.frozen? ⟨(w.heap.size + 1), 9, none⟩ = false := (hb1.cells.2 _ _ (by simp <;> omega)).trans (by simp [go_sem])
  have qr_10 : w1.cell? ⟨(w.heap.size + 1), 10, none⟩ = some (.slice none 0 0) := (hb1.cells.1 _ _ (by simp <;> omega)).trans (by simp [go_sem])
  have zr_10 : w1.frozen? ⟨(w.heap.size + 1), 10, none⟩ = false := (hb1.cells.2 _ _ (by simp <;> omega)).trans (by simp [go_sem])
  have pr := World.block_lt_of_cell? _ ⟨(w.heap.size + 1), 0, none⟩ qr_0
  have rr := Nat.lt_succ_of_lt pr
  have XE : Ext w w1 := Ext.trans (Ext.alloc (Ext.alloc (Ext.refl w) _) _) hb1
  have hs1 : w.heap.size + 2 ≤ w1.heap.size := by have h1 := hb1.size; simp at h1; omega
  have na : ¬ Own b r.gh lv w.heap.size := fun hk => by have := hlt _ hk; omega
  have nr : ¬ Own b r.gh lv (w.heap.size + 1) := fun hk => by have := hlt _ hk; omega
  replace cv := XE.cell cv
  clear hb1
  go_wp2_with fail
  refine (CA.out _ XE).mono ?_
  rintro e w2 ⟨rfl, lv2, R2, N2, A2⟩
  have HM2 := Lib.hid (HM.out lv2 _ w2 XE hs1 R2 N2 A2)
  have qW := R2.q1
  rw [hW] at qW
  replace za_0 := N2.frozen qa_0 za_0 na
  replace qa_0 := N2.cell qa_0 na
  replace za_1 := N2.frozen qa_1 za_1 na
  replace qa_1 := N2.cell qa_1 na
  replace za_2 := N2.frozen qa_2 za_2 na
  replace qa_2 := N2.cell qa_2 na
  replace za_3 := N2.frozen qa_3 za_3 na
  replace qa_3 := N2.cell qa_3 na
  replace za_4 := N2.frozen qa_4 za_4 na
  replace qa_4 := N2.cell qa_4 na
  replace za_5 := N2.frozen qa_5 za_5 na
  replace qa_5 := N2.cell qa_5 na
  replace za_6 := N2.frozen qa_6 za_6 na
  replace qa_6 := N2.cell qa_6 na
  replace za_7 := N2.frozen qa_7 za_7 na
  replace qa_7 := N2.cell qa_7 na
  replace za_8 := N2.frozen qa_8 za_8 na
  replace qa_8 := N2.cell qa_8 na
  replace za_9 := N2.frozen qa_9 za_9 na
  replace qa_9 := N2.cell qa_9 na
  replace za_10 := N2.frozen qa_10 za_10 na
  replace qa_10 := N2.cell qa_10 na
  replace zr_0 := N2.frozen qr_0 zr_0 nr
  replace qr_0 := N2.cell qr_0 nr
  replace zr_1 := N2.frozen qr_1 zr_1 nr
  replace qr_1 := N2.cell qr_1 nr
  replace zr_2 := N2.frozen qr_2 zr_2 nr
  replace qr_2 := N2.cell qr_2 nr
  replace zr_3 := N2.frozen qr_3 zr_3 nr
  replace qr_3 := N2.cell qr_3 nr
  replace zr_4 := N2.frozen qr_4 zr_4 nr
  replace qr_4 := N2.cell qr_4 nr
  replace zr_5 := N2.frozen qr_5 zr_5 nr
  replace qr_5 := N2.cell qr_5 nr
  replace zr_6 := N2.frozen qr_6 zr_6 nr
  replace qr_6 := N2.cell qr_6 nr
  replace zr_7 := N2.frozen qr_7 zr_7 nr
  replace qr_7 := N2.cell qr_7 nr
  replace zr_8 := N2.frozen qr_8 zr_8 nr
  replace qr_8 := N2.cell qr_8 nr
  replace zr_9 := N2.frozen qr_9 zr_9 nr
  replace qr_9 := N2.cell qr_9 nr
  replace zr_10 := N2.frozen qr_10 zr_10 nr
  replace qr_10 := N2.cell qr_10 nr
  clear R2 N2 A2 XE cv
  go_upto_region 5 with (fail)
  have k4 := fun w' (hx : Ext w2 w') => hx.cell qa_4
  have k7 := fun w' (hx : Ext w2 w') => hx.cell qa_7
  have kW := fun w' (hx : Ext w2 w') => hx.cell qW
  refine wp_region_held_drew (S := fun w' => Ext w2 w') (by kernel_rfl) ?hbeg (fun hHeld => ?_)
  case hbeg => exact (Ext.refl w2).drew
  have hHeld0 : Ext w2 w2 := by first | exact Ext.refl _ | assumption
  first
    | (refine take_at (i := 0) (v := ?_) rfl rfl (by kernel_rfl) (by kernel_rfl) (by kernel_rfl) (fun _ _ _ h => h) (Or.inl ⟨by rfl, ?hy⟩) (by assumption) ?_
       case hy => (intro wz hSw; (try dsimp only at hSw); go_simp <;> with_reducible rfl)
       simp only [List.setIfInBounds_toArray, List.set_cons_zero, List.set_cons_succ])
    | (refine take_at (i := 0) (v := undef) rfl rfl (by kernel_rfl) (by kernel_rfl) (by kernel_rfl) (fun _ _ _ h => h) (Or.inr ⟨by rfl, rfl⟩) (by assumption) ?_
       simp only [List.setIfInBounds_toArray, List.set_cons_zero, List.set_cons_succ])
  first
    | (refine take_at (i := 1) (v := ?_) rfl rfl (by kernel_rfl) (by kernel_rfl) (by kernel_rfl) (fun _ _ _ h => h) (Or.inl ⟨by rfl, ?hy⟩) (by assumption) ?_
       case hy => (intro wz hSw; (try dsimp only at hSw); go_simp <;> with_reducible rfl)
       simp only [List.setIfInBounds_toArray, List.set_cons_zero, List.set_cons_succ])
    | (refine take_at (i := 1) (v := undef) rfl rfl (by kernel_rfl) (by kernel_rfl) (by kernel_rfl) (fun _ _ _ h => h) (Or.inr ⟨by rfl, rfl⟩) (by assumption) ?_
       simp only [List.setIfInBounds_toArray, List.set_cons_zero, List.set_cons_succ])
  first
    | (refine take_at (i := 2) (v := ?_) rfl rfl (by kernel_rfl) (by kernel_rfl) (by kernel_rfl) (fun _ _ _ h => h) (Or.inl ⟨by rfl, ?hy⟩) (by assumption) ?_
       case hy => (intro wz hSw; (try dsimp only at hSw); go_simp <;> with_reducible rfl)
       simp only [List.setIfInBounds_toArray, List.set_cons_zero, List.set_cons_succ])
    | (refine take_at (i := 2) (v := undef) rfl rfl (by kernel_rfl) (by kernel_rfl) (by kernel_rfl) (fun _ _ _ h => h) (Or.inr ⟨by rfl, rfl⟩) (by assumption) ?_
       simp only [List.setIfInBounds_toArray, List.set_cons_zero, List.set_cons_succ])
  first
    | (refine take_at (i := 3) (v := ?_) rfl rfl (by kernel_rfl) (by kernel_rfl) (by kernel_rfl) (fun _ _ _ h => h) (Or.inl ⟨by rfl, ?hy⟩) (by assumption) ?_
       case hy => (intro wz hSw; (try dsimp only at hSw); go_simp <;> with_reducible rfl)
       simp only [List.setIfInBounds_toArray, List.set_cons_zero, List.set_cons_succ])
    | (refine take_at (i := 3) (v := undef) rfl rfl (by kernel_rfl) (by kernel_rfl) (by kernel_rfl) (fun _ _ _ h => h) (Or.inr ⟨by rfl, rfl⟩) (by assumption) ?_
       simp only [List.setIfInBounds_toArray, List.set_cons_zero, List.set_cons_succ])
  first
    | (refine take_at (i := 4) (v := ?_) rfl rfl (by kernel_rfl) (by kernel_rfl) (by kernel_rfl) (fun _ _ _ h => h) (Or.inl ⟨by rfl, ?hy⟩) (by assumption) ?_
       case hy => (intro wz hSw; (try dsimp only at hSw); go_simp <;> with_reducible rfl)
       simp only [List.setIfInBounds_toArray, List.set_cons_zero, List.set_cons_succ])
    | (refine take_at (i := 4) (v := undef) rfl rfl (by kernel_rfl) (by kernel_rfl) (by kernel_rfl) (fun _ _ _ h => h) (Or.inr ⟨by rfl, rfl⟩) (by assumption) ?_
       simp only [List.setIfInBounds_toArray, List.set_cons_zero, List.set_cons_succ])
  first
    | (refine take_at (i := 5) (v := ?_) rfl rfl (by kernel_rfl) (by kernel_rfl) (by kernel_rfl) (fun _ _ _ h => h) (Or.inl ⟨by rfl, ?hy⟩) (by assumption) ?_
       case hy => (intro wz hSw; (try dsimp only at hSw); go_simp <;> with_reducible rfl)
       simp only [List.setIfInBounds_toArray, List.set_cons_zero, List.set_cons_succ])
    | (refine take_at (i := 5) (v := undef) rfl rfl (by kernel_rfl) (by kernel_rfl) (by kernel_rfl) (fun _ _ _ h => h) (Or.inr ⟨by rfl, rfl⟩) (by assumption) ?_
       simp only [List.setIfInBounds_toArray, List.set_cons_zero, List.set_cons_succ])
  first
    | (refine take_at (i := 6) (v := ?_) rfl rfl (by kernel_rfl) (by kernel_rfl) (by kernel_rfl) (fun _ _ _ h => h) (Or.inl ⟨by rfl, ?hy⟩) (by assumption) ?_
       case hy => (intro wz hSw; (try dsimp only at hSw); go_simp <;> with_reducible rfl)
       simp only [List.setIfInBounds_toArray, List.set_cons_zero, List.set_cons_succ])
    | (refine take_at (i := 6) (v := undef) rfl rfl (by kernel_rfl) (by kernel_rfl) (by kernel_rfl) (fun _ _ _ h => h) (Or.inr ⟨by rfl, rfl⟩) (by assumption) ?_
       simp only [List.setIfInBounds_toArray, List.set_cons_zero, List.set_cons_succ])
  first
    | (refine take_at (i := 7) (v := ?_) rfl rfl (by kernel_rfl) (by kernel_rfl) (by kernel_rfl) (fun _ _ _ h => h) (Or.inl ⟨by rfl, ?hy⟩) (by assumption) ?_
       case hy => (intro wz hSw; (try dsimp only at hSw); go_simp <;> with_reducible rfl)
       simp only [List.setIfInBounds_toArray, List.set_cons_zero, List.set_cons_succ])
    | (refine take_at (i := 7) (v := undef) rfl rfl (by kernel_rfl) (by kernel_rfl) (by kernel_rfl) (fun _ _ _ h => h) (Or.inr ⟨by rfl, rfl⟩) (by assumption) ?_
       simp only [List.setIfInBounds_toArray, List.set_cons_zero, List.set_cons_succ])
  first
    | (refine take_at (i := 8) (v := ?_) rfl rfl (by kernel_rfl) (by kernel_rfl) (by kernel_rfl) (fun _ _ _ h => h) (Or.inl ⟨by rfl, ?hy⟩) (by assumption) ?_
       case hy => (intro wz hSw; (try dsimp only at hSw); go_simp <;> with_reducible rfl)
       simp only [List.setIfInBounds_toArray, List.set_cons_zero, List.set_cons_succ])
    | (refine take_at (i := 8) (v := undef) rfl rfl (by kernel_rfl) (by kernel_rfl) (by kernel_rfl) (fun _ _ _ h => h) (Or.inr ⟨by rfl, rfl⟩) (by assumption) ?_
       simp only [List.setIfInBounds_toArray, List.set_cons_zero, List.set_cons_succ])
  first
    | (refine take_at (i := 9) (v := ?_) rfl rfl (by kernel_rfl) (by kernel_rfl) (by kernel_rfl) (fun _ _ _ h => h) (Or.inl ⟨by rfl, ?hy⟩) (by assumption) ?_
       case hy => (intro wz hSw; (try dsimp only at hSw); go_simp <;> with_reducible rfl)
       simp only [List.setIfInBounds_toArray, List.set_cons_zero, List.set_cons_succ])
    | (refine take_at (i := 9) (v := undef) rfl rfl (by kernel_rfl) (by kernel_rfl) (by kernel_rfl) (fun _ _ _ h => h) (Or.inr ⟨by rfl, rfl⟩) (by assumption) ?_
       simp only [List.setIfInBounds_toArray, List.set_cons_zero, List.set_cons_succ])
  first
    | (refine take_at (i := 10) (v := ?_) rfl rfl (by kernel_rfl) (by kernel_rfl) (by kernel_rfl) (fun _ _ _ h => h) (Or.inl ⟨by rfl, ?hy⟩) (by assumption) ?_
       case hy => (intro wz hSw; (try dsimp only at hSw); go_simp <;> with_reducible rfl)
       simp only [List.setIfInBounds_toArray, List.set_cons_zero, List.set_cons_succ])
    | (refine take_at (i := 10) (v := undef) rfl rfl (by kernel_rfl) (by kernel_rfl) (by kernel_rfl) (fun _ _ _ h => h) (Or.inr ⟨by rfl, rfl⟩) (by assumption) ?_
       simp only [List.setIfInBounds_toArray, List.set_cons_zero, List.set_cons_succ])
  first
    | (refine take_at (i := 11) (v := ?_) rfl rfl (by kernel_rfl) (by kernel_rfl) (by kernel_rfl) (fun _ _ _ h => h) (Or.inl ⟨by rfl, ?hy⟩) (by assumption) ?_
       case hy => (intro wz hSw; (try dsimp only at hSw); go_simp <;> with_reducible rfl)
       simp only [List.setIfInBounds_toArray, List.set_cons_zero, List.set_cons_succ])
    | (refine take_at (i := 11) (v := undef) rfl rfl (by kernel_rfl) (by kernel_rfl) (by kernel_rfl) (fun _ _ _ h => h) (Or.inr ⟨by rfl, rfl⟩) (by assumption) ?_
       simp only [List.setIfInBounds_toArray, List.set_cons_zero, List.set_cons_succ])
  refine call_at (i := 12) (F := 79) (gapA32 x M _ (by omega) (by omega)) rfl rfl (by kernel_rfl) (by rfl) (by first | rfl | (go_simp <;> rfl)) ?_
  rintro e w' ⟨rfl, rfl⟩
  refine ⟨_, rfl, by assumption, ?_⟩
  simp only [List.setIfInBounds_toArray, List.set_cons_zero, List.set_cons_succ]
  first
    | (refine take_at (i := 13) (v := ?_) rfl rfl (by kernel_rfl) (by kernel_rfl) (by kernel_rfl) (fun _ _ _ h => h) (Or.inl ⟨by rfl, ?hy⟩) (by assumption) ?_
       case hy => (intro wz hSw; (try dsimp only at hSw); go_simp <;> with_reducible rfl)
       simp only [List.setIfInBounds_toArray, List.set_cons_zero, List.set_cons_succ])
    | (refine take_at (i := 13) (v := undef) rfl rfl (by kernel_rfl) (by kernel_rfl) (by kernel_rfl) (fun _ _ _ h => h) (Or.inr ⟨by rfl, rfl⟩) (by assumption) ?_
       simp only [List.setIfInBounds_toArray, List.set_cons_zero, List.set_cons_succ])
  first
    | (refine take_at (i := 14) (v := ?_) rfl rfl (by kernel_rfl) (by kernel_rfl) (by kernel_rfl) (fun _ _ _ h => h) (Or.inl ⟨by rfl, ?hy⟩) (by assumption) ?_
       case hy => (intro wz hSw; (try dsimp only at hSw); go_simp <;> with_reducible rfl)
       simp only [List.setIfInBounds_toArray, List.set_cons_zero, List.set_cons_succ])
    | (refine take_at (i := 14) (v := undef) rfl rfl (by kernel_rfl) (by kernel_rfl) (by kernel_rfl) (fun _ _ _ h => h) (Or.inr ⟨by rfl, rfl⟩) (by assumption) ?_
       simp only [List.setIfInBounds_toArray, List.set_cons_zero, List.set_cons_succ])
  refine wpAnyH_done (by kernel_rfl) ?_ _
  go_upto_region 6 with (fail)
  refine settle_wp ?_
  intro w3 hb3
  have hH := Ext.trans hHeld hb3
  replace HM2 := Lib.hid (HM2.out.ext hH)
  replace za_0 := hH.frozen qa_0 za_0
  replace qa_0 := hH.cell qa_0
  replace za_1 := hH.frozen qa_1 za_1
  replace qa_1 := hH.cell qa_1
  replace za_2 := hH.frozen qa_2 za_2
  replace qa_2 := hH.cell qa_2
  replace za_3 := hH.frozen qa_3 za_3
  replace qa_3 := hH.cell qa_3
  replace za_4 := hH.frozen qa_4 za_4
  replace qa_4 := hH.cell qa_4
  replace za_5 := hH.frozen qa_5 za_5
  replace qa_5 := hH.cell qa_5
  replace za_6 := hH.frozen qa_6 za_6
  replace qa_6 := hH.cell qa_6
  replace za_7 := hH.frozen qa_7 za_7
  replace qa_7 := hH.cell qa_7
  replace za_8 := hH.frozen qa_8 za_8
  replace qa_8 := hH.cell qa_8
  replace za_9 := hH.frozen qa_9 za_9
  replace qa_9 := hH.cell qa_9
  replace za_10 := hH.frozen qa_10 za_10
  replace qa_10 := hH.cell qa_10
  replace zr_0 := hH.frozen qr_0 zr_0
  replace qr_0 := hH.cell qr_0
  replace zr_1 := hH.frozen qr_1 zr_1
  replace qr_1 := hH.cell qr_1
  replace zr_2 := hH.frozen qr_2 zr_2
  replace qr_2 := hH.cell qr_2
  replace zr_3 := hH.frozen qr_3 zr_3
  replace qr_3 := hH.cell qr_3
  replace zr_4 := hH.frozen qr_4 zr_4
  replace qr_4 := hH.cell qr_4
  replace zr_5 := hH.frozen qr_5 zr_5
  replace qr_5 := hH.cell qr_5
  replace zr_6 := hH.frozen qr_6 zr_6
  replace qr_6 := hH.cell qr_6
  replace zr_7 := hH.frozen qr_7 zr_7
  replace qr_7 := hH.cell qr_7
  replace zr_8 := hH.frozen qr_8 zr_8
  replace qr_8 := hH.cell qr_8
  replace zr_9 := hH.frozen qr_9 zr_9
  replace qr_9 := hH.cell qr_9
  replace zr_10 := hH.frozen qr_10 zr_10
  replace qr_10 := hH.cell qr_10
  clear k4 k7 kW qW hHeld hH hb3
  go_upto_region 10 with (fail)
  refine settle_wp ?_
  intro w5 hb5
  replace HM2 := Lib.hid ((((HM2.out.set (p := ⟨w.heap.size, 7, none⟩) (by simp) (by simp) (.int .u64 x)).set (p := ⟨w.heap.size, 4, none⟩) (by simp) (by simp) (.int .i64 ((I : Int) + 1))).set (p := ⟨w.heap.size, 4, none⟩) (by simp) (by simp) (.int .i64 0)).ext hb5)
  have pa_0 : w5.cell? ⟨w.heap.size, 0, none⟩ = some (.int .i64 0) := hb5.cell (by simp (maxDischargeDepth := 40) [go_sem, set_some, set_same, qa_0])
  have pa_1 : w5.cell? ⟨w.heap.size, 1, none⟩ = some (.int .i64 tn) := hb5.cell (by simp (maxDischargeDepth := 40) [go_sem, set_some, set_same, qa_1])
  have pa_2 : w5.cell? ⟨w.heap.size, 2, none⟩ = some (.int .i64 0) := hb5.cell (by simp (maxDischargeDepth := 40) [go_sem, set_some, set_same, qa_2])
  have pa_3 : w5.cell? ⟨w.heap.size, 3, none⟩ = some (.int .i64 tp) := hb5.cell (by simp (maxDischargeDepth := 40) [go_sem, set_some, set_same, qa_3])
  have pa_4 : w5.cell? ⟨w.heap.size, 4, none⟩ = some (.int .i64 0) := hb5.cell (by simp (maxDischargeDepth := 40) [go_sem, set_some, set_same, qa_4])
  have pa_5 : w5.cell? ⟨w.heap.size, 5, none⟩ = some (.int .i64 0) := hb5.cell (by simp (maxDischargeDepth := 40) [go_sem, set_some, set_same, qa_5])
  have pa_6 : w5.cell? ⟨w.heap.size, 6, none⟩ = some (.int .u64 tf) := hb5.cell (by simp (maxDischargeDepth := 40) [go_sem, set_some, set_same, qa_6])
  have pa_7 : w5.cell? ⟨w.heap.size, 7, none⟩ = some (.int .u64 x) := hb5.cell (by simp (maxDischargeDepth := 40) [go_sem, set_some, set_same, qa_7])
  have pa_8 : w5.cell? ⟨w.heap.size, 8, none⟩ = some (.int .u64 tv) := hb5.cell (by simp (maxDischargeDepth := 40) [go_sem, set_some, set_same, qa_8])
  have pa_9 : w5.cell? ⟨w.heap.size, 9, none⟩ = some (.int .u64 0) := hb5.cell (by simp (maxDischargeDepth := 40) [go_sem, set_some, set_same, qa_9])
  have pa_10 : w5.cell? ⟨w.heap.size, 10, none⟩ = some (.slice none 0 0) := hb5.cell (by simp (maxDischargeDepth := 40) [go_sem, set_some, set_same, qa_10])
  have pr_0 : w5.cell? ⟨w.heap.size + 1, 0, none⟩ = some (.int .i64 0) := hb5.cell (by simp [go_sem, qr_0])
  have vr_0 : w5.frozen? ⟨w.heap.size + 1, 0, none⟩ = false := hb5.frozen (v := .int .i64 0) (by simp [go_sem, qr_0]) (by simp [go_sem, zr_0])
  have pr_1 : w5.cell? ⟨w.heap.size + 1, 1, none⟩ = some (.int .i64 0) := hb5.cell (by simp [go_sem, qr_1])
  have vr_1 : w5.frozen? ⟨w.heap.size + 1, 1, none⟩ = false := hb5.frozen (v := .int .i64 0) (by simp [go_sem, qr_1]) (by simp [go_sem, zr_1])
  have pr_2 : w5.cell? ⟨w.heap.size + 1, 2, none⟩ = some (.int .i64 0) := hb5.cell (by simp [go_sem, qr_2])
  have vr_2 : w5.frozen? ⟨w.heap.size + 1, 2, none⟩ = false := hb5.frozen (v := .int .i64 0) (by simp [go_sem, qr_2]) (by simp [go_sem, zr_2])
  have pr_3 : w5.cell? ⟨w.heap.size + 1, 3, none⟩ = some (.int .i64 0) := hb5.cell (by simp [go_sem, qr_3])
  have vr_3 : w5.frozen? ⟨w.heap.size + 1, 3, none⟩ = false := hb5.frozen (v := .int .i64 0) (by simp [go_sem, qr_3]) (by simp [go_sem, zr_3])
  have pr_4 : w5.cell? ⟨w.heap.size + 1, 4, none⟩ = some (.int .i64 0) := hb5.cell (by simp [go_sem, qr_4])
  have vr_4 : w5.frozen? ⟨w.heap.size + 1, 4, none⟩ = false := hb5.frozen (v := .int .i64 0) (by simp [go_sem, qr_4]) (by simp [go_sem, zr_4])
  have pr_5 : w5.cell? ⟨w.heap.size + 1, 5, none⟩ = some (.int .i64 0) := hb5.cell (by simp [go_sem, qr_5])
  have vr_5 : w5.frozen? ⟨w.heap.size + 1, 5, none⟩ = false := hb5.frozen (v := .int .i64 0) (by simp [go_sem, qr_5]) (by simp [go_sem, zr_5])
  have pr_6 : w5.cell? ⟨w.heap.size + 1, 6, none⟩ = some (.int .u64 0) := hb5.cell (by simp [go_sem, qr_6])
  have vr_6 : w5.frozen? ⟨w.heap.size + 1, 6, none⟩ = false := hb5.frozen (v := .int .u64 0) (by simp [go_sem, qr_6]) (by simp [go_sem, zr_6])
  have pr_7 : w5.cell? ⟨w.heap.size + 1, 7, none⟩ = some (.int .u64 0) := hb5.cell (by simp [go_sem, qr_7])
  have vr_7 : w5.frozen? ⟨w.heap.size + 1, 7, none⟩ = false := hb5.frozen (v := .int .u64 0) (by simp [go_sem, qr_7]) (by simp [go_sem, zr_7])
  have pr_8 : w5.cell? ⟨w.heap.size + 1, 8, none⟩ = some (.int .u64 0) := hb5.cell (by simp [go_sem, qr_8])
  have vr_8 : w5.frozen? ⟨w.heap.size + 1, 8, none⟩ = false := hb5.frozen (v := .int .u64 0) (by simp [go_sem, qr_8]) (by simp [go_sem, zr_8])
  have pr_9 : w5.cell? ⟨w.heap.size + 1, 9, none⟩ = some (.int .u64 0) := hb5.cell (by simp [go_sem, qr_9])
  have vr_9 : w5.frozen? ⟨w.heap.size + 1, 9, none⟩ = false := hb5.frozen (v := .int .u64 0) (by simp [go_sem, qr_9]) (by simp [go_sem, zr_9])
  have pr_10 : w5.cell? ⟨w.heap.size + 1, 10, none⟩ = some (.slice none 0 0) := hb5.cell (by simp [go_sem, qr_10])
  have vr_10 : w5.frozen? ⟨w.heap.size + 1, 10, none⟩ = false := hb5.frozen (v := .slice none 0 0) (by simp [go_sem, qr_10]) (by simp [go_sem, zr_10])
  clear hb5 qa_0 za_0 qa_1 za_1 qa_2 za_2 qa_3 za_3 qa_4 za_4 qa_5 za_5 qa_6 za_6 qa_7 za_7 qa_8 za_8 qa_9 za_9 qa_10 za_10 qr_0 zr_0 qr_1 zr_1 qr_2 zr_2 qr_3 zr_3 qr_4 zr_4 qr_5 zr_5 qr_6 zr_6 qr_7 zr_7 qr_8 zr_8 qr_9 zr_9 qr_10 zr_10
  go_wp2
  refine bodyPost_ret (v := .tuple #[(.agg #[.int .i64 0, .int .i64 tn, .int .i64 0, .int .i64 tp, .int .i64 0, .int .i64 0, .int .u64 tf, .int .u64 x, .int .u64 tv, .int .u64 0, .slice none 0 0]), .bool true]) (by simp [results, Tryz.results59, go_sem, pr_0, pr_1, pr_2, pr_3, pr_4, pr_5, pr_6, pr_7, pr_8, pr_9, pr_10, pa_0, pa_1, pa_2, pa_3, pa_4, pa_5, pa_6, pa_7, pa_8, pa_9, pa_10]) rfl (HG.out _ ?mid)
  case mid => repeat (first | with_reducible exact HM2.out | refine RMid.set ?_ (by simp) (by simp) _)
set_option maxRecDepth 100000 in
theorem rScan32_lc (b : Nat) (r : RY) (f : Nat → Int) (lv : Value) (log : List Acc) (t : Int) (v : Value) (xs : List Int) (I c : Nat) (tn tp tf M tv : Int) (w : World) (h : RB w b r f lv log) (hW : r.W = 32) (hv : IntsV w v xs) (hI : I < xs.length) (hx : xs.getD I 0 = c) (hk : isK r (c : Int) 1 = true) (hc : c < r.m) (hl : log.length ≤ 1000) (hn : xs.length ≤ 1000) (f0 : 0 ≤ f c) (hM : 0 ≤ M) (h0 : ¬ I = 0) (h1 : D32 (f c - M) < 0) (h2 : I + 1 < xs.length) :
    Calls Tryz.prog 59 #[.pointer (some ⟨b, 0, none⟩), .int .i64 t, v, (.agg #[.int .i64 0, .int .i64 tn, .int .i64 0, .int .i64 tp, .int .i64 I, .int .i64 0, .int .u64 tf, .int .u64 M, .int .u64 tv, .int .u64 0, .slice none 0 0])] w (RScanDoes b r lv f (log ++ [⟨t, 1, c, f c, f c⟩]) false tn tp ((I : Int) + 1) tf (f c) tv w) := by
  have CA := Lib.hid (fun w' (hx : Ext w w') => rLoad_yes b r f lv log t c w' (h.ext hx) hk hc hl)
  have HG : Hid (∀ w', RMid b r lv f (log ++ [⟨t, 1, c, f c, f c⟩]) w w' → RScanDoes b r lv f (log ++ [⟨t, 1, c, f c, f c⟩]) false tn tp ((I : Int) + 1) tf (f c) tv w (.returned (.tuple #[(.agg #[.int .i64 0, .int .i64 tn, .int .i64 0, .int .i64 tp, .int .i64 ((I : Int) + 1), .int .i64 0, .int .u64 tf, .int .u64 (f c), .int .u64 tv, .int .u64 0, .slice none 0 0]), .bool false])) w') := Lib.hid (fun w' hm => ⟨rfl, hm.does (v := .bool true)⟩)
  have HM := Lib.hid (fun lv' w1 w2 (hx : Ext w w1) hs hR hN hA => rmid_of (f' := f) (lv' := lv') (log' := (log ++ [⟨t, 1, c, f c, f c⟩])) (w1 := w1) (w2 := w2) h hx hs hR hN hA)
  generalize RScanDoes b r lv f (log ++ [⟨t, 1, c, f c, f c⟩]) false tn tp ((I : Int) + 1) tf (f c) tv w = G at *
  obtain ⟨va, vc, ev, hf⟩ := hv.form
  subst ev
  obtain ⟨vb, vo, ea, cv⟩ := hf I hI
  subst ea
  rw [hx] at cv
  generalize hxx : f c = x at *
  have hI1 : (I : Int) < (xs.length : Int) := by omega
  have hI0 : (0 : Int) ≤ (I : Int) := by omega
  have d0 : ((I : Int) == 0) = false := by simp; omega
  have d1 : decide (D32 (x - M) < 0) = true := by simpa using h1
  have d2 : ((I : Int) + 1 == (xs.length : Int)) = false := by simp; omega
  have hwr : IntKind.i64.wrap ((I : Int) + 1) = (I : Int) + 1 := wrapS (by omega) (by omega)
  have hlt := fun k (hk : Own b r.gh lv k) => h.lt hk
  generalize xs.length = n at *
  clear h hv hf hI hx hk hl hn h0 h2 h1
  go_enter Tryz.func59, Tryz.ntmps59
  go_upto_region 1 with (fail)
  refine settle_wp ?_
  intro w1 hb1
  have qa_0 : w1.cell? ⟨w.heap.size, 0, none⟩ = some (.int .i64 0) := (hb1.cells.1 _ _ (by simp <;> omega)).trans (by simp [go_sem])
  have za_0 : w1.frozen? ⟨w.heap.size, 0, none⟩ = false := (hb1.cells.2 _ _ (by simp <;> omega)).trans (by simp [go_sem])
  have qa_1 : w1.cell? ⟨w.heap.size, 1, none⟩ = some (.int .i64 tn) := (hb1.cells.1 _ _ (by simp <;> omega)).trans (by simp [go_sem])
  have za_1 : w1.frozen? ⟨w.heap.size, 1, none⟩ = false := (hb1.cells.2 _ _ (by simp <;> omega)).trans (by simp [go_sem])
  have qa_2 : w1.cell? ⟨w.heap.size, 2, none⟩ = some (.int .i64 0) := (hb1.cells.1 _ _ (by simp <;> omega)).trans (by simp [go_sem])
  have za_2 : w1.frozen? ⟨w.heap.size, 2, none⟩ = false := (hb1.cells.2 _ _ (by simp <;> omega)).trans (by simp [go_sem])
  have qa_3 : w1.cell? ⟨w.heap.size, 3, none⟩ = some (.int .i64 tp) := (hb1.cells.1 _ _ (by simp <;> omega)).trans (by simp [go_sem])
  have za_3 : w1.frozen? ⟨w.heap.size, 3, none⟩ = false := (hb1.cells.2 _ _ (by simp <;> omega)).trans (by simp [go_sem])
  have qa_4 : w1.cell? ⟨w.heap.size, 4, none⟩ = some (.int .i64 I) := (hb1.cells.1 _ _ (by simp <;> omega)).trans (by simp [go_sem])
  have za_4 : w1.frozen? ⟨w.heap.size, 4, none⟩ = false := (hb1.cells.2 _ _ (by simp <;> omega)).trans (by simp [go_sem])
  have qa_5 : w1.cell? ⟨w.heap.size, 5, none⟩ = some (.int .i64 0) := (hb1.cells.1 _ _ (by simp <;> omega)).trans (by simp [go_sem])
  have za_5 : w1.frozen? ⟨w.heap.size, 5, none⟩ = false := (hb1.cells.2 _ _ (by simp <;> omega)).trans (by simp [go_sem])
  have qa_6 : w1.cell? ⟨w.heap.size, 6, none⟩ = some (.int .u64 tf) := (hb1.cells.1 _ _ (by simp <;> omega)).trans (by simp [go_sem])
  have za_6 : w1.frozen? ⟨w.heap.size, 6, none⟩ = false := (hb1.cells.2 _ _ (by simp <;> omega)).trans (by simp [go_sem])
  have qa_7 : w1.cell? ⟨w.heap.size, 7, none⟩ = some (.int .u64 M) := (hb1.cells.1 _ _ (by simp <;> omega)).trans (by simp [go_sem])
  have za_7 : w1.frozen? ⟨w.heap.size, 7, none⟩ = false := (hb1.cells.2 _ _ (by simp <;> omega)).trans (by simp [go_sem])
  have qa_8 : w1.cell? ⟨w.heap.size, 8, none⟩ = some (.int .u64 tv) := (hb1.cells.1 _ _ (by simp <;> omega)).trans (by simp [go_sem])
  have za_8 : w1.frozen? ⟨w.heap.size, 8, none⟩ = false := (hb1.cells.2 _ _ (by simp <;> omega)).trans (by simp [go_sem])
  have qa_9 : w1.cell? ⟨w.heap.size, 9, none⟩ = some (.int .u64 0) := (hb1.cells.1 _ _ (by simp <;> omega)).trans (by simp [go_sem])
  have za_9 : w1.frozen? ⟨w.heap.size, 9, none⟩ = false := (hb1.cells.2 _ _ (by simp <;> omega)).trans (by simp [go_sem])
  have qa_10 : w1.cell? ⟨w.heap.size, 10, none⟩ = some (.slice none 0 0) := (hb1.cells.1 _ _ (by simp <;> omega)).trans (by simp [go_sem])
  have za_10 : w1.frozen? ⟨w.heap.size, 10, none⟩ = false := (hb1.cells.2 _ _ (by simp <;> omega)).trans (by simp [go_sem])
  have pa := World.block_lt_of_cell? _ ⟨w.heap.size, 0, none⟩ qa_0
  have ra := Nat.lt_succ_of_lt pa
  have qr_0 : w1.cell? ⟨(w.heap.size + 1), 0, none⟩ = some (.int .i64 0) := (hb1.cells.1 _ _ (by simp <;> omega)).trans (by simp [go_sem])
  have zr_0 : w1.frozen? ⟨(w.heap.size + 1), 0, none⟩ = false := (hb1.cells.2 _ _ (by simp <;> omega)).trans (by simp [go_sem])
  have qr_1 : w1.cell? ⟨(w.heap.size + 1), 1, none⟩ = some (.int .i64 0) := (hb1.cells.1 _ _ (by simp <;> omega)).trans (by simp [go_sem])
  have zr_1 : w1.frozen? ⟨(w.heap.size + 1), 1, none⟩ = false := (hb1.cells.2 _ _ (by simp <;> omega)).trans (by simp [go_sem])
  have qr_2 : w1.cell? ⟨(w.heap.size + 1), 2, none⟩ = some (.int .i64 0) := (hb1.cells.1 _ _ (by simp <;> omega)).trans (by simp [go_sem])
  have zr_2 : w1.frozen? ⟨(w.heap.size + 1), 2, none⟩ = false := (hb1.cells.2 _ _ (by simp <;> omega)).trans (by simp [go_sem])
  have qr_3 : w1.cell? ⟨(w.heap.size + 1), 3, none⟩ = some (.int .i64 0) := (hb1.cells.1 _ _ (by simp <;> omega)).trans (by simp [go_sem])
  have zr_3 : w1.frozen? ⟨(w.heap.size + 1), 3, none⟩ = false := (hb1.cells.2 _ _ (by simp <;> omega)).trans (by simp [go_sem])
  have qr_4 : w1.cell? ⟨(w.heap.size + 1), 4, none⟩ = some (.int .i64 0) := (hb1.cells.1 _ _ (by simp <;> omega)).trans (by simp [go_sem])
  have zr_4 : w1.frozen? ⟨(w.heap.size + 1), 4, none⟩ = false := (hb1.cells.2 _ _ (by simp <;> omega)).trans (by simp [go_sem])
  have qr_5 : w1.cell? ⟨(w.heap.size + 1), 5, none⟩ = some (.int .i64 0) := (hb1.cells.1 _ _ (by simp <;> omega)).trans (by simp [go_sem])
  have zr_5 : w1.frozen? ⟨(w.heap.size + 1), 5, none⟩ = false := (hb1.cells.2 _ _ (by simp <;> omega)).trans (by simp [go_sem])
  have qr_6 : w1.cell? ⟨(w.heap.size + 1), 6, none⟩ = some (.int .u64 0) := (hb1.cells.1 _ _ (by simp <;> omega)).trans (by simp [go_sem])
  have zr_6 : w1.frozen? ⟨(w.heap.size + 1), 6, none⟩ = false := (hb1.cells.2 _ _ (by simp <;> omega)).trans (by simp [go_sem])
  have qr_7 : w1.cell? ⟨(w.heap.size + 1), 7, none⟩ = some (.int .u64 0) := (hb1.cells.1 _ _ (by simp <;> omega)).trans (by simp [go_sem])
  have zr_7 : w1.frozen? ⟨(w.heap.size + 1), 7, none⟩ = false := (hb1.cells.2 _ _ (by simp <;> omega)).trans (by simp [go_sem])
  have qr_8 : w1.cell? ⟨(w.heap.size + 1), 8, none⟩ = some (.int .u64 0) := (hb1.cells.1 _ _ (by simp <;> omega)).trans (by simp [go_sem])
  have zr_8 : w1.frozen? ⟨(w.heap.size + 1), 8, none⟩ = false := (hb1.cells.2 _ _ (by simp <;> omega)).trans (by simp [go_sem])
  have qr_9 : w1.cell? ⟨(w.heap.size + 1), 9, none⟩ = some (.int .u64 0) := (hb1.cells.1 _ _ (by simp <;> omega)).trans (by simp [go_sem])
  have zr_9 : w1.frozen? ⟨(w.heap.size + 1), 9, none⟩ = false := (hb1.cells.2 _ _ (by simp <;> omega)).trans (by simp [go_sem])
  have qr_10 : w1.cell? ⟨(w.heap.size + 1), 10, none⟩ = some (.slice none 0 0) := (hb1.cells.1 _ _ (by simp <;> omega)).trans (by simp [go_sem])
  have zr_10 : w1.frozen? ⟨(w.heap.size + 1), 10, none⟩ = false := (hb1.cells.2 _ _ (by simp <;> omega)).trans (by simp [go_sem])
  have pr := World.block_lt_of_cell? _ ⟨(w.heap.size + 1), 0, none⟩ qr_0
  have rr := Nat.lt_succ_of_lt pr
  have XE : Ext w w1 := Ext.trans (Ext.alloc (Ext.alloc (Ext.refl w) _) _) hb1
  have hs1 : w.heap.size + 2 ≤ w1.heap.size := by have h1 := hb1.size; simp at h1; omega
  have na : ¬ Own b r.gh lv w.heap.size := fun hk => by have := hlt _ hk; omega
  have nr : ¬ Own b r.gh lv (w.heap.size + 1) := fun hk => by have := hlt _ hk; omega
  replace cv := XE.cell cv
  clear hb1
  go_wp2_with fail
  refine (CA.out _ XE).mono ?_
  rintro e w2 ⟨rfl, lv2, R2, N2, A2⟩
  have HM2 := Lib.hid (HM.out lv2 _ w2 XE hs1 R2 N2 A2)
  have qW := R2.q1
  rw [hW] at qW
  replace za_0 := N2.frozen qa_0 za_0 na
  replace qa_0 := N2.cell qa_0 na
  replace za_1 := N2.frozen qa_1 za_1 na
  replace qa_1 := N2.cell qa_1 na
  replace za_2 := N2.frozen qa_2 za_2 na
  replace qa_2 := N2.cell qa_2 na
  replace za_3 := N2.frozen qa_3 za_3 na
  replace qa_3 := N2.cell qa_3 na
  replace za_4 := N2.frozen qa_4 za_4 na
  replace qa_4 := N2.cell qa_4 na
  replace za_5 := N2.frozen qa_5 za_5 na
  replace qa_5 := N2.cell qa_5 na
  replace za_6 := N2.frozen qa_6 za_6 na
  replace qa_6 := N2.cell qa_6 na
  replace za_7 := N2.frozen qa_7 za_7 na
  replace qa_7 := N2.cell qa_7 na
  replace za_8 := N2.frozen qa_8 za_8 na
  replace qa_8 := N2.cell qa_8 na
  replace za_9 := N2.frozen qa_9 za_9 na
  replace qa_9 := N2.cell qa_9 na
  replace za_10 := N2.frozen qa_10 za_10 na
  replace qa_10 := N2.cell qa_10 na
  replace zr_0 := N2.frozen qr_0 zr_0 nr
  replace qr_0 := N2.cell qr_0 nr
  replace zr_1 := N2.frozen qr_1 zr_1 nr
  replace qr_1 := N2.cell qr_1 nr
  replace zr_2 := N2.frozen qr_2 zr_2 nr
  replace qr_2 := N2.cell qr_2 nr
  replace zr_3 := N2.frozen qr_3 zr_3 nr
  replace qr_3 := N2.cell qr_3 nr
  replace zr_4 := N2.frozen qr_4 zr_4 nr
  replace qr_4 := N2.cell qr_4 nr
  replace zr_5 := N2.frozen qr_5 zr_5 nr
  replace qr_5 := N2.cell qr_5 nr
  replace zr_6 := N2.frozen qr_6 zr_6 nr
  replace qr_6 := N2.cell qr_6 nr
  replace zr_7 := N2.frozen qr_7 zr_7 nr
  replace qr_7 := N2.cell qr_7 nr
  replace zr_8 := N2.frozen qr_8 zr_8 nr
  replace qr_8 := N2.cell qr_8 nr
  replace zr_9 := N2.frozen qr_9 zr_9 nr
  replace qr_9 := N2.cell qr_9 nr
  replace zr_10 := N2.frozen qr_10 zr_10 nr
  replace qr_10 := N2.cell qr_10 nr
  clear R2 N2 A2 XE cv
  go_upto_region 5 with (fail)
  have k4 := fun w' (hx : Ext w2 w') => hx.cell qa_4
  have k7 := fun w' (hx : Ext w2 w') => hx.cell qa_7
  have kW := fun w' (hx : Ext w2 w') => hx.cell qW
  refine wp_region_held_drew (S := fun w' => Ext w2 w') (by kernel_rfl) ?hbeg (fun hHeld => ?_)
  case hbeg => exact (Ext.refl w2).drew
  have hHeld0 : Ext w2 w2 := by first | exact Ext.refl _ | assumption
  first
    | (refine take_at (i := 0) (v := ?_) rfl rfl (by kernel_rfl) (by kernel_rfl) (by kernel_rfl) (fun _ _ _ h => h) (Or.inl ⟨by rfl, ?hy⟩) (by assumption) ?_
       case hy => (intro wz hSw; (try dsimp only at hSw); go_simp <;> with_reducible rfl)
       simp only [List.setIfInBounds_toArray, List.set_cons_zero, List.set_cons_succ])
    | (refine take_at (i := 0) (v := undef) rfl rfl (by kernel_rfl) (by kernel_rfl) (by kernel_rfl) (fun _ _ _ h => h) (Or.inr ⟨by rfl, rfl⟩) (by assumption) ?_
       simp only [List.setIfInBounds_toArray, List.set_cons_zero, List.set_cons_succ])
  first
    | (refine take_at (i := 1) (v := ?_) rfl rfl (by kernel_rfl) (by kernel_rfl) (by kernel_rfl) (fun _ _ _ h => h) (Or.inl ⟨by rfl, ?hy⟩) (by assumption) ?_
       case hy => (intro wz hSw; (try dsimp only at hSw); go_simp <;> with_reducible rfl)
       simp only [List.setIfInBounds_toArray, List.set_cons_zero, List.set_cons_succ])
    | (refine take_at (i := 1) (v := undef) rfl rfl (by kernel_rfl) (by kernel_rfl) (by kernel_rfl) (fun _ _ _ h => h) (Or.inr ⟨by rfl, rfl⟩) (by assumption) ?_
       simp only [List.setIfInBounds_toArray, List.set_cons_zero, List.set_cons_succ])
  first
    | (refine take_at (i := 2) (v := ?_) rfl rfl (by kernel_rfl) (by kernel_rfl) (by kernel_rfl) (fun _ _ _ h => h) (Or.inl ⟨by rfl, ?hy⟩) (by assumption) ?_
       case hy => (intro wz hSw; (try dsimp only at hSw); go_simp <;> with_reducible rfl)
       simp only [List.setIfInBounds_toArray, List.set_cons_zero, List.set_cons_succ])
    | (refine take_at (i := 2) (v := undef) rfl rfl (by kernel_rfl) (by kernel_rfl) (by kernel_rfl) (fun _ _ _ h => h) (Or.inr ⟨by rfl, rfl⟩) (by assumption) ?_
       simp only [List.setIfInBounds_toArray, List.set_cons_zero, List.set_cons_succ])
  first
    | (refine take_at (i := 3) (v := ?_) rfl rfl (by kernel_rfl) (by kernel_rfl) (by kernel_rfl) (fun _ _ _ h => h) (Or.inl ⟨by rfl, ?hy⟩) (by assumption) ?_
       case hy => (intro wz hSw; (try dsimp only at hSw); go_simp <;> with_reducible rfl)
       simp only [List.setIfInBounds_toArray, List.set_cons_zero, List.set_cons_succ])
    | (refine take_at (i := 3) (v := undef) rfl rfl (by kernel_rfl) (by kernel_rfl) (by kernel_rfl) (fun _ _ _ h => h) (Or.inr ⟨by rfl, rfl⟩) (by assumption) ?_
       simp only [List.setIfInBounds_toArray, List.set_cons_zero, List.set_cons_succ])
  first
    | (refine take_at (i := 4) (v := ?_) rfl rfl (by kernel_rfl) (by kernel_rfl) (by kernel_rfl) (fun _ _ _ h => h) (Or.inl ⟨by rfl, ?hy⟩) (by assumption) ?_
       case hy => (intro wz hSw; (try dsimp only at hSw); go_simp <;> with_reducible rfl)
       simp only [List.setIfInBounds_toArray, List.set_cons_zero, List.set_cons_succ])
    | (refine take_at (i := 4) (v := undef) rfl rfl (by kernel_rfl) (by kernel_rfl) (by kernel_rfl) (fun _ _ _ h => h) (Or.inr ⟨by rfl, rfl⟩) (by assumption) ?_
       simp only [List.setIfInBounds_toArray, List.set_cons_zero, List.set_cons_succ])
  first
    | (refine take_at (i := 5) (v := ?_) rfl rfl (by kernel_rfl) (by kernel_rfl) (by kernel_rfl) (fun _ _ _ h => h) (Or.inl ⟨by rfl, ?hy⟩) (by assumption) ?_
       case hy => (intro wz hSw; (try dsimp only at hSw); go_simp <;> with_reducible rfl)
       simp only [List.setIfInBounds_toArray, List.set_cons_zero, List.set_cons_succ])
    | (refine take_at (i := 5) (v := undef) rfl rfl (by kernel_rfl) (by kernel_rfl) (by kernel_rfl) (fun _ _ _ h => h) (Or.inr ⟨by rfl, rfl⟩) (by assumption) ?_
       simp only [List.setIfInBounds_toArray, List.set_cons_zero, List.set_cons_succ])
  first
    | (refine take_at (i := 6) (v := ?_) rfl rfl (by kernel_rfl) (by kernel_rfl) (by kernel_rfl) (fun _ _ _ h => h) (Or.inl ⟨by rfl, ?hy⟩) (by assumption) ?_
       case hy => (intro wz hSw; (try dsimp only at hSw); go_simp <;> with_reducible rfl)
       simp only [List.setIfInBounds_toArray, List.set_cons_zero, List.set_cons_succ])
    | (refine take_at (i := 6) (v := undef) rfl rfl (by kernel_rfl) (by kernel_rfl) (by kernel_rfl) (fun _ _ _ h => h) (Or.inr ⟨by rfl, rfl⟩) (by assumption) ?_
       simp only [List.setIfInBounds_toArray, List.set_cons_zero, List.set_cons_succ])
  first
    | (refine take_at (i := 7) (v := ?_) rfl rfl (by kernel_rfl) (by kernel_rfl) (by kernel_rfl) (fun _ _ _ h => h) (Or.inl ⟨by rfl, ?hy⟩) (by assumption) ?_
       case hy => (intro wz hSw; (try dsimp only at hSw); go_simp <;> with_reducible rfl)
       simp only [List.setIfInBounds_toArray, List.set_cons_zero, List.set_cons_succ])
    | (refine take_at (i := 7) (v := undef) rfl rfl (by kernel_rfl) (by kernel_rfl) (by kernel_rfl) (fun _ _ _ h => h) (Or.inr ⟨by rfl, rfl⟩) (by assumption) ?_
       simp only [List.setIfInBounds_toArray, List.set_cons_zero, List.set_cons_succ])
  first
    | (refine take_at (i := 8) (v := ?_) rfl rfl (by kernel_rfl) (by kernel_rfl) (by kernel_rfl) (fun _ _ _ h => h) (Or.inl ⟨by rfl, ?hy⟩) (by assumption) ?_
       case hy => (intro wz hSw; (try dsimp only at hSw); go_simp <;> with_reducible rfl)
       simp only [List.setIfInBounds_toArray, List.set_cons_zero, List.set_cons_succ])
    | (refine take_at (i := 8) (v := undef) rfl rfl (by kernel_rfl) (by kernel_rfl) (by kernel_rfl) (fun _ _ _ h => h) (Or.inr ⟨by rfl, rfl⟩) (by assumption) ?_
       simp only [List.setIfInBounds_toArray, List.set_cons_zero, List.set_cons_succ])
  first
    | (refine take_at (i := 9) (v := ?_) rfl rfl (by kernel_rfl) (by kernel_rfl) (by kernel_rfl) (fun _ _ _ h => h) (Or.inl ⟨by rfl, ?hy⟩) (by assumption) ?_
       case hy => (intro wz hSw; (try dsimp only at hSw); go_simp <;> with_reducible rfl)
       simp only [List.setIfInBounds_toArray, List.set_cons_zero, List.set_cons_succ])
    | (refine take_at (i := 9) (v := undef) rfl rfl (by kernel_rfl) (by kernel_rfl) (by kernel_rfl) (fun _ _ _ h => h) (Or.inr ⟨by rfl, rfl⟩) (by assumption) ?_
       simp only [List.setIfInBounds_toArray, List.set_cons_zero, List.set_cons_succ])
  first
    | (refine take_at (i := 10) (v := ?_) rfl rfl (by kernel_rfl) (by kernel_rfl) (by kernel_rfl) (fun _ _ _ h => h) (Or.inl ⟨by rfl, ?hy⟩) (by assumption) ?_
       case hy => (intro wz hSw; (try dsimp only at hSw); go_simp <;> with_reducible rfl)
       simp only [List.setIfInBounds_toArray, List.set_cons_zero, List.set_cons_succ])
    | (refine take_at (i := 10) (v := undef) rfl rfl (by kernel_rfl) (by kernel_rfl) (by kernel_rfl) (fun _ _ _ h => h) (Or.inr ⟨by rfl, rfl⟩) (by assumption) ?_
       simp only [List.setIfInBounds_toArray, List.set_cons_zero, List.set_cons_succ])
  first
    | (refine take_at (i := 11) (v := ?_) rfl rfl (by kernel_rfl) (by kernel_rfl) (by kernel_rfl) (fun _ _ _ h => h) (Or.inl ⟨by rfl, ?hy⟩) (by assumption) ?_
       case hy => (intro wz hSw; (try dsimp only at hSw); go_simp <;> with_reducible rfl)
       simp only [List.setIfInBounds_toArray, List.set_cons_zero, List.set_cons_succ])
    | (refine take_at (i := 11) (v := undef) rfl rfl (by kernel_rfl) (by kernel_rfl) (by kernel_rfl) (fun _ _ _ h => h) (Or.inr ⟨by rfl, rfl⟩) (by assumption) ?_
       simp only [List.setIfInBounds_toArray, List.set_cons_zero, List.set_cons_succ])
  refine call_at (i := 12) (F := 79) (gapA32 x M _ (by omega) (by omega)) rfl rfl (by kernel_rfl) (by rfl) (by first | rfl | (go_simp <;> rfl)) ?_
  rintro e w' ⟨rfl, rfl⟩
  refine ⟨_, rfl, by assumption, ?_⟩
  simp only [List.setIfInBounds_toArray, List.set_cons_zero, List.set_cons_succ]
  first
    | (refine take_at (i := 13) (v := ?_) rfl rfl (by kernel_rfl) (by kernel_rfl) (by kernel_rfl) (fun _ _ _ h => h) (Or.inl ⟨by rfl, ?hy⟩) (by assumption) ?_
       case hy => (intro wz hSw; (try dsimp only at hSw); go_simp <;> with_reducible rfl)
       simp only [List.setIfInBounds_toArray, List.set_cons_zero, List.set_cons_succ])
    | (refine take_at (i := 13) (v := undef) rfl rfl (by kernel_rfl) (by kernel_rfl) (by kernel_rfl) (fun _ _ _ h => h) (Or.inr ⟨by rfl, rfl⟩) (by assumption) ?_
       simp only [List.setIfInBounds_toArray, List.set_cons_zero, List.set_cons_succ])
  first
    | (refine take_at (i := 14) (v := ?_) rfl rfl (by kernel_rfl) (by kernel_rfl) (by kernel_rfl) (fun _ _ _ h => h) (Or.inl ⟨by rfl, ?hy⟩) (by assumption) ?_
       case hy => (intro wz hSw; (try dsimp only at hSw); go_simp <;> with_reducible rfl)
       simp only [List.setIfInBounds_toArray, List.set_cons_zero, List.set_cons_succ])
    | (refine take_at (i := 14) (v := undef) rfl rfl (by kernel_rfl) (by kernel_rfl) (by kernel_rfl) (fun _ _ _ h => h) (Or.inr ⟨by rfl, rfl⟩) (by assumption) ?_
       simp only [List.setIfInBounds_toArray, List.set_cons_zero, List.set_cons_succ])
  refine wpAnyH_done (by kernel_rfl) ?_ _
  go_upto_region 6 with (fail)
  refine settle_wp ?_
  intro w3 hb3
  have hH := Ext.trans hHeld hb3
  replace HM2 := Lib.hid (HM2.out.ext hH)
  replace za_0 := hH.frozen qa_0 za_0
  replace qa_0 := hH.cell qa_0
  replace za_1 := hH.frozen qa_1 za_1
  replace qa_1 := hH.cell qa_1
  replace za_2 := hH.frozen qa_2 za_2
  replace qa_2 := hH.cell qa_2
  replace za_3 := hH.frozen qa_3 za_3
  replace qa_3 := hH.cell qa_3
  replace za_4 := hH.frozen qa_4 za_4
  replace qa_4 := hH.cell qa_4
  replace za_5 := hH.frozen qa_5 za_5
  replace qa_5 := hH.cell qa_5
  replace za_6 := hH.frozen qa_6 za_6
  replace qa_6 := hH.cell qa_6
  replace za_7 := hH.frozen qa_7 za_7
  replace qa_7 := hH.cell qa_7
  replace za_8 := hH.frozen qa_8 za_8
  replace qa_8 := hH.cell qa_8
  replace za_9 := hH.frozen qa_9 za_9
  replace qa_9 := hH.cell qa_9
  replace za_10 := hH.frozen qa_10 za_10
  replace qa_10 := hH.cell qa_10
  replace zr_0 := hH.frozen qr_0 zr_0
  replace qr_0 := hH.cell qr_0
  replace zr_1 := hH.frozen qr_1 zr_1
  replace qr_1 := hH.cell qr_1
  replace zr_2 := hH.frozen qr_2 zr_2
  replace qr_2 := hH.cell qr_2
  replace zr_3 := hH.frozen qr_3 zr_3
  replace qr_3 := hH.cell qr_3
  replace zr_4 := hH.frozen qr_4 zr_4
  replace qr_4 := hH.cell qr_4
  replace zr_5 := hH.frozen qr_5 zr_5
  replace qr_5 := hH.cell qr_5
  replace zr_6 := hH.frozen qr_6 zr_6
  replace qr_6 := hH.cell qr_6
  replace zr_7 := hH.frozen qr_7 zr_7
  replace qr_7 := hH.cell qr_7
  replace zr_8 := hH.frozen qr_8 zr_8
  replace qr_8 := hH.cell qr_8
  replace zr_9 := hH.frozen qr_9 zr_9
  replace qr_9 := hH.cell qr_9
  replace zr_10 := hH.frozen qr_10 zr_10
  replace qr_10 := hH.cell qr_10
  clear k4 k7 kW qW hHeld hH hb3
  go_upto_region 11 with (fail)
  refine settle_wp ?_
  intro w5 hb5
  replace HM2 := Lib.hid (((HM2.out.set (p := ⟨w.heap.size, 7, none⟩) (by simp) (by simp) (.int .u64 x)).set (p := ⟨w.heap.size, 4, none⟩) (by simp) (by simp) (.int .i64 ((I : Int) + 1))).ext hb5)
  have pa_0 : w5.cell? ⟨w.heap.size, 0, none⟩ = some (.int .i64 0) := hb5.cell (by simp (maxDischargeDepth := 40) [go_sem, set_some, set_same, qa_0])
  have pa_1 : w5.cell? ⟨w.heap.size, 1, none⟩ = some (.int .i64 tn) := hb5.cell (by simp (maxDischargeDepth := 40) [go_sem, set_some, set_same, qa_1])
  have pa_2 : w5.cell? ⟨w.heap.size, 2, none⟩ = some (.int .i64 0) := hb5.cell (by simp (maxDischargeDepth := 40) [go_sem, set_some, set_same, qa_2])
  have pa_3 : w5.cell? ⟨w.heap.size, 3, none⟩ = some (.int .i64 tp) := hb5.cell (by simp (maxDischargeDepth := 40) [go_sem, set_some, set_same, qa_3])
  have pa_4 : w5.cell? ⟨w.heap.size, 4, none⟩ = some (.int .i64 ((I : Int) + 1)) := hb5.cell (by simp (maxDischargeDepth := 40) [go_sem, set_some, set_same, qa_4])
  have pa_5 : w5.cell? ⟨w.heap.size, 5, none⟩ = some (.int .i64 0) := hb5.cell (by simp (maxDischargeDepth := 40) [go_sem, set_some, set_same, qa_5])
  have pa_6 : w5.cell? ⟨w.heap.size, 6, none⟩ = some (.int .u64 tf) := hb5.cell (by simp (maxDischargeDepth := 40) [go_sem, set_some, set_same, qa_6])
  have pa_7 : w5.cell? ⟨w.heap.size, 7, none⟩ = some (.int .u64 x) := hb5.cell (by simp (maxDischargeDepth := 40) [go_sem, set_some, set_same, qa_7])
  have pa_8 : w5.cell? ⟨w.heap.size, 8, none⟩ = some (.int .u64 tv) := hb5.cell (by simp (maxDischargeDepth := 40) [go_sem, set_some, set_same, qa_8])
  have pa_9 : w5.cell? ⟨w.heap.size, 9, none⟩ = some (.int .u64 0) := hb5.cell (by simp (maxDischargeDepth := 40) [go_sem, set_some, set_same, qa_9])
  have pa_10 : w5.cell? ⟨w.heap.size, 10, none⟩ = some (.slice none 0 0) := hb5.cell (by simp (maxDischargeDepth := 40) [go_sem, set_some, set_same, qa_10])
  have pr_0 : w5.cell? ⟨w.heap.size + 1, 0, none⟩ = some (.int .i64 0) := hb5.cell (by simp [go_sem, qr_0])
  have vr_0 : w5.frozen? ⟨w.heap.size + 1, 0, none⟩ = false := hb5.frozen (v := .int .i64 0) (by simp [go_sem, qr_0]) (by simp [go_sem, zr_0])
  have pr_1 : w5.cell? ⟨w.heap.size + 1, 1, none⟩ = some (.int .i64 0) := hb5.cell (by simp [go_sem, qr_1])
  have vr_1 : w5.frozen? ⟨w.heap.size + 1, 1, none⟩ = false := hb5.frozen (v := .int .i64 0) (by simp [go_sem, qr_1]) (by simp [go_sem, zr_1])
  have pr_2 : w5.cell? ⟨w.heap.size + 1, 2, none⟩ = some (.int .i64 0) := hb5.cell (by simp [go_sem, qr_2])
  have vr_2 : w5.frozen? ⟨w.heap.size + 1, 2, none⟩ = false := hb5.frozen (v := .int .i64 0) (by simp [go_sem, qr_2]) (by simp [go_sem, zr_2])
  have pr_3 : w5.cell? ⟨w.heap.size + 1, 3, none⟩ = some (.int .i64 0) := hb5.cell (by simp [go_sem, qr_3])
  have vr_3 : w5.frozen? ⟨w.heap.size + 1, 3, none⟩ = false := hb5.frozen (v := .int .i64 0) (by simp [go_sem, qr_3]) (by simp [go_sem, zr_3])
  have pr_4 : w5.cell? ⟨w.heap.size + 1, 4, none⟩ = some (.int .i64 0) := hb5.cell (by simp [go_sem, qr_4])
  have vr_4 : w5.frozen? ⟨w.heap.size + 1, 4, none⟩ = false := hb5.frozen (v := .int .i64 0) (by simp [go_sem, qr_4]) (by simp [go_sem, zr_4])
  have pr_5 : w5.cell? ⟨w.heap.size + 1, 5, none⟩ = some (.int .i64 0) := hb5.cell (by simp [go_sem, qr_5])
  have vr_5 : w5.frozen? ⟨w.heap.size + 1, 5, none⟩ = false := hb5.frozen (v := .int .i64 0) (by simp [go_sem, qr_5]) (by simp [go_sem, zr_5])
  have pr_6 : w5.cell? ⟨w.heap.size + 1, 6, none⟩ = some (.int .u64 0) := hb5.cell (by simp [go_sem, qr_6])
  have vr_6 : w5.frozen? ⟨w.heap.size + 1, 6, none⟩ = false := hb5.frozen (v := .int .u64 0) (by simp [go_sem, qr_6]) (by simp [go_sem, zr_6])
  have pr_7 : w5.cell? ⟨w.heap.size + 1, 7, none⟩ = some (.int .u64 0) := hb5.cell (by simp [go_sem, qr_7])
  have vr_7 : w5.frozen? ⟨w.heap.size + 1, 7, none⟩ = false := hb5.frozen (v := .int .u64 0) (by simp [go_sem, qr_7]) (by simp [go_sem, zr_7])
  have pr_8 : w5.cell? ⟨w.heap.size + 1, 8, none⟩ = some (.int .u64 0) := hb5.cell (by simp [go_sem, qr_8])
  have vr_8 : w5.frozen? ⟨w.heap.size + 1, 8, none⟩ = false := hb5.frozen (v := .int .u64 0) (by simp [go_sem, qr_8]) (by simp [go_sem, zr_8])
  have pr_9 : w5.cell? ⟨w.heap.size + 1, 9, none⟩ = some (.int .u64 0) := hb5.cell (by simp [go_sem, qr_9])
  have vr_9 : w5.frozen? ⟨w.heap.size + 1, 9, none⟩ = false := hb5.frozen (v := .int .u64 0) (by simp [go_sem, qr_9]) (by simp [go_sem, zr_9])
  have pr_10 : w5.cell? ⟨w.heap.size + 1, 10, none⟩ = some (.slice none 0 0) := hb5.cell (by simp [go_sem, qr_10])
  have vr_10 : w5.frozen? ⟨w.heap.size + 1, 10, none⟩ = false := hb5.frozen (v := .slice none 0 0) (by simp [go_sem, qr_10]) (by simp [go_sem, zr_10])
  clear hb5 qa_0 za_0 qa_1 za_1 qa_2 za_2 qa_3 za_3 qa_4 za_4 qa_5 za_5 qa_6 za_6 qa_7 za_7 qa_8 za_8 qa_9 za_9 qa_10 za_10 qr_0 zr_0 qr_1 zr_1 qr_2 zr_2 qr_3 zr_3 qr_4 zr_4 qr_5 zr_5 qr_6 zr_6 qr_7 zr_7 qr_8 zr_8 qr_9 zr_9 qr_10 zr_10
  go_wp2
  refine bodyPost_ret (v := .tuple #[(.agg #[.int .i64 0, .int .i64 tn, .int .i64 0, .int .i64 tp, .int .i64 ((I : Int) + 1), .int .i64 0, .int .u64 tf, .int .u64 x, .int .u64 tv, .int .u64 0, .slice none 0 0]), .bool false]) (by simp [results, Tryz.results59, go_sem, pr_0, pr_1, pr_2, pr_3, pr_4, pr_5, pr_6, pr_7, pr_8, pr_9, pr_10, pa_0, pa_1, pa_2, pa_3, pa_4, pa_5, pa_6, pa_7, pa_8, pa_9, pa_10]) rfl (HG.out _ ?mid)
  case mid => repeat (first | with_reducible exact HM2.out | refine RMid.set ?_ (by simp) (by simp) _)
set_option maxRecDepth 100000 in
theorem rScan32_ge (b : Nat) (r : RY) (f : Nat → Int) (lv : Value) (log : List Acc) (t : Int) (v : Value) (xs : List Int) (I c : Nat) (tn tp tf M tv : Int) (w : World) (h : RB w b r f lv log) (hW : r.W = 32) (hv : IntsV w v xs) (hI : I < xs.length) (hx : xs.getD I 0 = c) (hk : isK r (c : Int) 1 = true) (hc : c < r.m) (hl : log.length ≤ 1000) (hn : xs.length ≤ 1000) (f0 : 0 ≤ f c) (hM : 0 ≤ M) (h0 : ¬ I = 0) (h1 : ¬ D32 (f c - M) < 0) (h2 : I + 1 = xs.length) :
    Calls Tryz.prog 59 #[.pointer (some ⟨b, 0, none⟩), .int .i64 t, v, (.agg #[.int .i64 0, .int .i64 tn, .int .i64 0, .int .i64 tp, .int .i64 I, .int .i64 0, .int .u64 tf, .int .u64 M, .int .u64 tv, .int .u64 0, .slice none 0 0])] w (RScanDoes b r lv f (log ++ [⟨t, 1, c, f c, f c⟩]) true tn tp 0 tf (M) tv w) := by
  have CA := Lib.hid (fun w' (hx : Ext w w') => rLoad_yes b r f lv log t c w' (h.ext hx) hk hc hl)
  have HG : Hid (∀ w', RMid b r lv f (log ++ [⟨t, 1, c, f c, f c⟩]) w w' → RScanDoes b r lv f (log ++ [⟨t, 1, c, f c, f c⟩]) true tn tp 0 tf (M) tv w (.returned (.tuple #[(.agg #[.int .i64 0, .int .i64 tn, .int .i64 0, .int .i64 tp, .int .i64 0, .int .i64 0, .int .u64 tf, .int .u64 M, .int .u64 tv, .int .u64 0, .slice none 0 0]), .bool true])) w') := Lib.hid (fun w' hm => ⟨rfl, hm.does (v := .bool true)⟩)
  have HM := Lib.hid (fun lv' w1 w2 (hx : Ext w w1) hs hR hN hA => rmid_of (f' := f) (lv' := lv') (log' := (log ++ [⟨t, 1, c, f c, f c⟩])) (w1 := w1) (w2 := w2) h hx hs hR hN hA)
  generalize RScanDoes b r lv f (log ++ [⟨t, 1, c, f c, f c⟩]) true tn tp 0 tf (M) tv w = G at *
  obtain ⟨va, vc, ev, hf⟩ := hv.form
  subst ev
  obtain ⟨vb, vo, ea, cv⟩ := hf I hI
  subst ea
  rw [hx] at cv
  generalize hxx : f c = x at *
  have hI1 : (I : Int) < (xs.length : Int) := by omega
  have hI0 : (0 : Int) ≤ (I : Int) := by omega
  have d0 : ((I : Int) == 0) = false := by simp; omega
  have d1 : decide (D32 (x - M) < 0) = false := by simpa using h1
  have d2 : ((I : Int) + 1 == (xs.length : Int)) = true := by simp; omega
  have hwr : IntKind.i64.wrap ((I : Int) + 1) = (I : Int) + 1 := wrapS (by omega) (by omega)
  have hlt := fun k (hk : Own b r.gh lv k) => h.lt hk
  generalize xs.length = n at *
  clear h hv hf hI hx hk hl hn h0 h2 h1
  go_enter Tryz.func59, Tryz.ntmps59
  go_upto_region 1 with (fail)
  refine settle_wp ?_
  intro w1 hb1
  have qa_0 : w1.cell? ⟨w.heap.size, 0, none⟩ = some (.int .i64 0) := (hb1.cells.1 _ _ (by simp <;> omega)).trans (by simp [go_sem])
  have za_0 : w1.frozen? ⟨w.heap.size, 0, none⟩ = false := (hb1.cells.2 _ _ (by simp <;> omega)).trans (by simp [go_sem])
  have qa_1 : w1.cell? ⟨w.heap.size, 1, none⟩ = some (.int .i64 tn) := (hb1.cells.1 _ _ (by simp <;> omega)).trans (by simp [go_sem])
  have za_1 : w1.frozen? ⟨w.heap.size, 1, none⟩ = false := (hb1.cells.2 _ _ (by simp <;> omega)).trans (by simp [go_sem])
  have qa_2 : w1.cell? ⟨w.heap.size, 2, none⟩ = some (.int .i64 0) := (hb1.cells.1 _ _ (by simp <;> omega)).trans (by simp [go_sem])
  have za_2 : w1.frozen? ⟨w.heap.size, 2, none⟩ = false := (hb1.cells.2 _ _ (by simp <;> omega)).trans (by simp [go_sem])
  have qa_3 : w1.cell? ⟨w.heap.size, 3, none⟩ = some (.int .i64 tp) := (hb1.cells.1 _ _ (by simp <;> omega)).trans (by simp [go_sem])
  have za_3 : w1.frozen? ⟨w.heap.size, 3, none⟩ = false := (hb1.cells.2 _ _ (by simp <;> omega)).trans (by simp [go_sem])
  have qa_4 : w1.cell? ⟨w.heap.size, 4, none⟩ = some (.int .i64 I) := (hb1.cells.1 _ _ (by simp <;> omega)).trans (by simp [go_sem])
  have za_4 : w1.frozen? ⟨w.heap.size, 4, none⟩ = false := (hb1.cells.2 _ _ (by simp <;> omega)).trans (by simp [go_sem])
  have qa_5 : w1.cell? ⟨w.heap.size, 5, none⟩ = some (.int .i64 0) := (hb1.cells.1 _ _ (by simp <;> omega)).trans (by simp [go_sem])
  have za_5 : w1.frozen? ⟨w.heap.size, 5, none⟩ = false := (hb1.cells.2 _ _ (by simp <;> omega)).trans (by simp [go_sem])
  have qa_6 : w1.cell? ⟨w.heap.size, 6, none⟩ = some (.int .u64 tf) := (hb1.cells.1 _ _ (by simp <;> omega)).trans (by simp [go_sem])
  have za_6 : w1.frozen? ⟨w.heap.size, 6, none⟩ = false := (hb1.cells.2 _ _ (by simp <;> omega)).trans (by simp [go_sem])
  have qa_7 : w1.cell? ⟨w.heap.size, 7, none⟩ = some (.int .u64 M) := (hb1.cells.1 _ _ (by simp <;> omega)).trans (by simp [go_sem])
  have za_7 : w1.frozen? ⟨w.heap.size, 7, none⟩ = false := (hb1.cells.2 _ _ (by simp <;> omega)).trans (by simp [go_sem])
  have qa_8 : w1.cell? ⟨w.heap.size, 8, none⟩ = some (.int .u64 tv) := (hb1.cells.1 _ _ (by simp <;> omega)).trans (by simp [go_sem])
  have za_8 : w1.frozen? ⟨w.heap.size, 8, none⟩ = false := (hb1.cells.2 _ _ (by simp <;> omega)).trans (by simp [go_sem])
  have qa_9 : w1.cell? ⟨w.heap.size, 9, none⟩ = some (.int .u64 0) := (hb1.cells.1 _ _ (by simp <;> omega)).trans (by simp [go_sem])
  have za_9 : w1.frozen? ⟨w.heap.size, 9, none⟩ = false := (hb1.cells.2 _ _ (by simp <;> omega)).trans (by simp [go_sem])
  have qa_10 : w1.cell? ⟨w.heap.size, 10, none⟩ = some (.slice none 0 0) := (hb1.cells.1 _ _ (by simp <;> omega)).trans (by simp [go_sem])
  have za_10 : w1.frozen? ⟨w.heap.size, 10, none⟩ = false := (hb1.cells.2 _ _ (by simp <;> omega)).trans (by simp [go_sem])
  have pa := World.block_lt_of_cell? _ ⟨w.heap.size, 0, none⟩ qa_0
  have ra := Nat.lt_succ_of_lt pa
  have qr_0 : w1.cell? ⟨(w.heap.size + 1), 0, none⟩ = some (.int .i64 0) := (hb1.cells.1 _ _ (by simp <;> omega)).trans (by simp [go_sem])
  have zr_0 : w1.frozen? ⟨(w.heap.size + 1), 0, none⟩ = false := (hb1.cells.2 _ _ (by simp <;> omega)).trans (by simp [go_sem])
  have qr_1 : w1.cell? ⟨(w.heap.size + 1), 1, none⟩ = some (.int .i64 0) := (hb1.cells.1 _ _ (by simp <;> omega)).trans (by simp [go_sem])
  have zr_1 : w1.frozen? ⟨(w.heap.size + 1), 1, none⟩ = false := (hb1.cells.2 _ _ (by simp <;> omega)).trans (by simp [go_sem])
  have qr_2 : w1.cell? ⟨(w.heap.size + 1), 2, none⟩ = some (.int .i64 0) := (hb1.cells.1 _ _ (by simp <;> omega)).trans (by simp [go_sem])
  have zr_2 : w1.frozen? ⟨(w.heap.size + 1), 2, none⟩ = false := (hb1.cells.2 _ _ (by simp <;> omega)).trans (by simp [go_sem])
  have qr_3 : w1.cell? ⟨(w.heap.size + 1), 3, none⟩ = some (.int .i64 0) := (hb1.cells.1 _ _ (by simp <;> omega)).trans (by simp [go_sem])
  have zr_3 : w1.frozen? ⟨(w.heap.size + 1), 3, none⟩ = false := (hb1.cells.2 _ _ (by simp <;> omega)).trans (by simp [go_sem])
  have qr_4 : w1.cell? ⟨(w.heap.size + 1), 4, none⟩ = some (.int .i64 0) := (hb1.cells.1 _ _ (by simp <;> omega)).trans (by simp [go_sem])
  have zr_4 : w1.frozen? ⟨(w.heap.size + 1), 4, none⟩ = false := (hb1.cells.2 _ _ (by simp <;> omega)).trans (by simp [go_sem])
  have qr_5 : w1.cell? ⟨(w.heap.size + 1), 5, none⟩ = some (.int .i64 0) := (hb1.cells.1 _ _ (by simp <;> omega)).trans (by simp [go_sem])
  have zr_5 : w1.frozen? ⟨(w.heap.size + 1), 5, none⟩ = false := (hb1.cells.2 _ _ (by simp <;> omega)).trans (by simp [go_sem])
  have qr_6 : w1.cell? ⟨(w.heap.size + 1), 6, none⟩ = some (.int .u64 0) := (hb1.cells.1 _ _ (by simp <;> omega)).trans (by simp [go_sem])
  have zr_6 : w1.frozen? ⟨(w.heap.size + 1), 6, none⟩ = false := (hb1.cells.2 _ _ (by simp <;> omega)).trans (by simp [go_sem])
  have qr_7 : w1.cell? ⟨(w.heap.size + 1), 7, none⟩ = some (.int .u64 0) := (hb1.cells.1 _ _ (by simp <;> omega)).trans (by simp [go_sem])
  have zr_7 : w1.frozen? ⟨(w.heap.size + 1), 7, none⟩ = false := (hb1.cells.2 _ _ (by simp <;> omega)).trans (by simp [go_sem])
  have qr_8 : w1.cell? ⟨(w.heap.size + 1), 8, none⟩ = some (.int .u64 0) := (hb1.cells.1 _ _ (by simp <;> omega)).trans (by simp [go_sem])
  have zr_8 : w1.frozen? ⟨(w.heap.size + 1), 8, none⟩ = false := (hb1.cells.2 _ _ (by simp <;> omega)).trans (by simp [go_sem])
  have qr_9 : w1.cell? ⟨(w.heap.size + 1), 9, none⟩ = some (.int .u64 0) := (hb1.cells.1 _ _ (by simp <;> omega)).trans (by simp [go_sem])
  have zr_9 : w1.frozen? ⟨(w.heap.size + 1), 9, none⟩ = false := (hb1.cells.2 _ _ (by simp <;> omega)).trans (by simp [go_sem])
  have qr_10 : w1.cell? ⟨(w.heap.size + 1), 10, none⟩ = some (.slice none 0 0) := (hb1.cells.1 _ _ (by simp <;> omega)).trans (by simp [go_sem])
  have zr_10 : w1.frozen? ⟨(w.heap.size + 1), 10, none⟩ = false := (hb1.cells.2 _ _ (by simp <;> omega)).trans (by simp [go_sem])
  have pr := World.block_lt_of_cell? _ ⟨(w.heap.size + 1), 0, none⟩ qr_0
  have rr := Nat.lt_succ_of_lt pr
  have XE : Ext w w1 := Ext.trans (Ext.alloc (Ext.alloc (Ext.refl w) _) _) hb1
  have hs1 : w.heap.size + 2 ≤ w1.heap.size := by have h1 := hb1.size; simp at h1; omega
  have na : ¬ Own b r.gh lv w.heap.size := fun hk => by have := hlt _ hk; omega
  have nr : ¬ Own b r.gh lv (w.heap.size + 1) := fun hk => by have := hlt _ hk; omega
  replace cv := XE.cell cv
  clear hb1
  go_wp2_with fail
  refine (CA.out _ XE).mono ?_
  rintro e w2 ⟨rfl, lv2, R2, N2, A2⟩
  have HM2 := Lib.hid (HM.out lv2 _ w2 XE hs1 R2 N2 A2)
  have qW := R2.q1
  rw [hW] at qW
  replace za_0 := N2.frozen qa_0 za_0 na
  replace qa_0 := N2.cell qa_0 na
  replace za_1 := N2.frozen qa_1 za_1 na
  replace qa_1 := N2.cell qa_1 na
  replace za_2 := N2.frozen qa_2 za_2 na
  replace qa_2 := N2.cell qa_2 na
  replace za_3 := N2.frozen qa_3 za_3 na
  replace qa_3 := N2.cell qa_3 na
  replace za_4 := N2.frozen qa_4 za_4 na
  replace qa_4 := N2.cell qa_4 na
  replace za_5 := N2.frozen qa_5 za_5 na
  replace qa_5 := N2.cell qa_5 na
  replace za_6 := N2.frozen qa_6 za_6 na
  replace qa_6 := N2.cell qa_6 na
  replace za_7 := N2.frozen qa_7 za_7 na
  replace qa_7 := N2.cell qa_7 na
  replace za_8 := N2.frozen qa_8 za_8 na
  replace qa_8 := N2.cell qa_8 na
  replace za_9 := N2.frozen qa_9 za_9 na
  replace qa_9 := N2.cell qa_9 na
  replace za_10 := N2.frozen qa_10 za_10 na
  replace qa_10 := N2.cell qa_10 na
  replace zr_0 := N2.frozen qr_0 zr_0 nr
  replace qr_0 := N2.cell qr_0 nr
  replace zr_1 := N2.frozen qr_1 zr_1 nr
  replace qr_1 := N2.cell qr_1 nr
  replace zr_2 := N2.frozen qr_2 zr_2 nr
  replace qr_2 := N2.cell qr_2 nr
  replace zr_3 := N2.frozen qr_3 zr_3 nr
  replace qr_3 := N2.cell qr_3 nr
  replace zr_4 := N2.frozen qr_4 zr_4 nr
  replace qr_4 := N2.cell qr_4 nr
  replace zr_5 := N2.frozen qr_5 zr_5 nr
  replace qr_5 := N2.cell qr_5 nr
  replace zr_6 := N2.frozen qr_6 zr_6 nr
  replace qr_6 := N2.cell qr_6 nr
  replace zr_7 := N2.frozen qr_7 zr_7 nr
  replace qr_7 := N2.cell qr_7 nr
  replace zr_8 := N2.frozen qr_8 zr_8 nr
  replace qr_8 := N2.cell qr_8 nr
  replace zr_9 := N2.frozen qr_9 zr_9 nr
  replace qr_9 := N2.cell qr_9 nr
  replace zr_10 := N2.frozen qr_10 zr_10 nr
  replace qr_10 := N2.cell qr_10 nr
  clear R2 N2 A2 XE cv
  go_upto_region 5 with (fail)
  have k4 := fun w' (hx : Ext w2 w') => hx.cell qa_4
  have k7 := fun w' (hx : Ext w2 w') => hx.cell qa_7
  have kW := fun w' (hx : Ext w2 w') => hx.cell qW
  refine wp_region_held_drew (S := fun w' => Ext w2 w') (by kernel_rfl) ?hbeg (fun hHeld => ?_)
  case hbeg => exact (Ext.refl w2).drew
  have hHeld0 : Ext w2 w2 := by first | exact Ext.refl _ | assumption
  first
    | (refine take_at (i := 0) (v := ?_) rfl rfl (by kernel_rfl) (by kernel_rfl) (by kernel_rfl) (fun _ _ _ h => h) (Or.inl ⟨by rfl, ?hy⟩) (by assumption) ?_
       case hy => (intro wz hSw; (try dsimp only at hSw); go_simp <;> with_reducible rfl)
       simp only [List.setIfInBounds_toArray, List.set_cons_zero, List.set_cons_succ])
    | (refine take_at (i := 0) (v := undef) rfl rfl (by kernel_rfl) (by kernel_rfl) (by kernel_rfl) (fun _ _ _ h => h) (Or.inr ⟨by rfl, rfl⟩) (by assumption) ?_
       simp only [List.setIfInBounds_toArray, List.set_cons_zero, List.set_cons_succ])
  first
    | (refine take_at (i := 1) (v := ?_) rfl rfl (by kernel_rfl) (by kernel_rfl) (by kernel_rfl) (fun _ _ _ h => h) (Or.inl ⟨by rfl, ?hy⟩) (by assumption) ?_
       case hy => (intro wz hSw; (try dsimp only at hSw); go_simp <;> with_reducible rfl)
       simp only [List.setIfInBounds_toArray, List.set_cons_zero, List.set_cons_succ])
    | (refine take_at (i := 1) (v := undef) rfl rfl (by kernel_rfl) (by kernel_rfl) (by kernel_rfl) (fun _ _ _ h => h) (Or.inr ⟨by rfl, rfl⟩) (by assumption) ?_
       simp only [List.setIfInBounds_toArray, List.set_cons_zero, List.set_cons_succ])
  first
    | (refine take_at (i := 2) (v := ?_) rfl rfl (by kernel_rfl) (by kernel_rfl) (by kernel_rfl) (fun _ _ _ h => h) (Or.inl ⟨by rfl, ?hy⟩) (by assumption) ?_
       case hy => (intro wz hSw; (try dsimp only at hSw); go_simp <;> with_reducible rfl)
       simp only [List.setIfInBounds_toArray, List.set_cons_zero, List.set_cons_succ])
    | (refine take_at (i := 2) (v := undef) rfl rfl (by kernel_rfl) (by kernel_rfl) (by kernel_rfl) (fun _ _ _ h => h) (Or.inr ⟨by rfl, rfl⟩) (by assumption) ?_
       simp only [List.setIfInBounds_toArray, List.set_cons_zero, List.set_cons_succ])
  first
    | (refine take_at (i := 3) (v := ?_) rfl rfl (by kernel_rfl) (by kernel_rfl) (by kernel_rfl) (fun _ _ _ h => h) (Or.inl ⟨by rfl, ?hy⟩) (by assumption) ?_
       case hy => (intro wz hSw; (try dsimp only at hSw); go_simp <;> with_reducible rfl)
       simp only [List.setIfInBounds_toArray, List.set_cons_zero, List.set_cons_succ])
    | (refine take_at (i := 3) (v := undef) rfl rfl (by kernel_rfl) (by kernel_rfl) (by kernel_rfl) (fun _ _ _ h => h) (Or.inr ⟨by rfl, rfl⟩) (by assumption) ?_
       simp only [List.setIfInBounds_toArray, List.set_cons_zero, List.set_cons_succ])
  first
    | (refine take_at (i := 4) (v := ?_) rfl rfl (by kernel_rfl) (by kernel_rfl) (by kernel_rfl) (fun _ _ _ h => h) (Or.inl ⟨by rfl, ?hy⟩) (by assumption) ?_
       case hy => (intro wz hSw; (try dsimp only at hSw); go_simp <;> with_reducible rfl)
       simp only [List.setIfInBounds_toArray, List.set_cons_zero, List.set_cons_succ])
    | (refine take_at (i := 4) (v := undef) rfl rfl (by kernel_rfl) (by kernel_rfl) (by kernel_rfl) (fun _ _ _ h => h) (Or.inr ⟨by rfl, rfl⟩) (by assumption) ?_
       simp only [List.setIfInBounds_toArray, List.set_cons_zero, List.set_cons_succ])
  first
    | (refine take_at (i := 5) (v := ?_) rfl rfl (by kernel_rfl) (by kernel_rfl) (by kernel_rfl) (fun _ _ _ h => h) (Or.inl ⟨by rfl, ?hy⟩) (by assumption) ?_
       case hy => (intro wz hSw; (try dsimp only at hSw); go_simp <;> with_reducible rfl)
       simp only [List.setIfInBounds_toArray, List.set_cons_zero, List.set_cons_succ])
    | (refine take_at (i := 5) (v := undef) rfl rfl (by kernel_rfl) (by kernel_rfl) (by kernel_rfl) (fun _ _ _ h => h) (Or.inr ⟨by rfl, rfl⟩) (by assumption) ?_
       simp only [List.setIfInBounds_toArray, List.set_cons_zero, List.set_cons_succ])
  first
    | (refine take_at (i := 6) (v := ?_) rfl rfl (by kernel_rfl) (by kernel_rfl) (by kernel_rfl) (fun _ _ _ h => h) (Or.inl ⟨by rfl, ?hy⟩) (by assumption) ?_
       case hy => (intro wz hSw; (try dsimp only at hSw); go_simp <;> with_reducible rfl)
       simp only [List.setIfInBounds_toArray, List.set_cons_zero, List.set_cons_succ])
    | (refine take_at (i := 6) (v := undef) rfl rfl (by kernel_rfl) (by kernel_rfl) (by kernel_rfl) (fun _ _ _ h => h) (Or.inr ⟨by rfl, rfl⟩) (by assumption) ?_
       simp only [List.setIfInBounds_toArray, List.set_cons_zero, List.set_cons_succ])
  first
    | (refine take_at (i := 7) (v := ?_) rfl rfl (by kernel_rfl) (by kernel_rfl) (by kernel_rfl) (fun _ _ _ h => h) (Or.inl ⟨by rfl, ?hy⟩) (by assumption) ?_
       case hy => (intro wz hSw; (try dsimp only at hSw); go_simp <;> with_reducible rfl)
       simp only [List.setIfInBounds_toArray, List.set_cons_zero, List.set_cons_succ])
    | (refine take_at (i := 7) (v := undef) rfl rfl (by kernel_rfl) (by kernel_rfl) (by kernel_rfl) (fun _ _ _ h => h) (Or.inr ⟨by rfl, rfl⟩) (by assumption) ?_
       simp only [List.setIfInBounds_toArray, List.set_cons_zero, List.set_cons_succ])
  first
    | (refine take_at (i := 8) (v := ?_) rfl rfl (by kernel_rfl) (by kernel_rfl) (by kernel_rfl) (fun _ _ _ h => h) (Or.inl ⟨by rfl, ?hy⟩) (by assumption) ?_
       case hy => (intro wz hSw; (try dsimp only at hSw); go_simp <;> with_reducible rfl)
       simp only [List.setIfInBounds_toArray, List.set_cons_zero, List.set_cons_succ])
    | (refine take_at (i := 8) (v := undef) rfl rfl (by kernel_rfl) (by kernel_rfl) (by kernel_rfl) (fun _ _ _ h => h) (Or.inr ⟨by rfl, rfl⟩) (by assumption) ?_
       simp only [List.setIfInBounds_toArray, List.set_cons_zero, List.set_cons_succ])
  first
    | (refine take_at (i := 9) (v := ?_) rfl rfl (by kernel_rfl) (by kernel_rfl) (by kernel_rfl) (fun _ _ _ h => h) (Or.inl ⟨by rfl, ?hy⟩) (by assumption) ?_
       case hy => (intro wz hSw; (try dsimp only at hSw); go_simp <;> with_reducible rfl)
       simp only [List.setIfInBounds_toArray, List.set_cons_zero, List.set_cons_succ])
    | (refine take_at (i := 9) (v := undef) rfl rfl (by kernel_rfl) (by kernel_rfl) (by kernel_rfl) (fun _ _ _ h => h) (Or.inr ⟨by rfl, rfl⟩) (by assumption) ?_
       simp only [List.setIfInBounds_toArray, List.set_cons_zero, List.set_cons_succ])
  first
    | (refine take_at (i := 10) (v := ?_) rfl rfl (by kernel_rfl) (by kernel_rfl) (by kernel_rfl) (fun _ _ _ h => h) (Or.inl ⟨by rfl, ?hy⟩) (by assumption) ?_
       case hy => (intro wz hSw; (try dsimp only at hSw); go_simp <;> with_reducible rfl)
       simp only [List.setIfInBounds_toArray, List.set_cons_zero, List.set_cons_succ])
    | (refine take_at (i := 10) (v := undef) rfl rfl (by kernel_rfl) (by kernel_rfl) (by kernel_rfl) (fun _ _ _ h => h) (Or.inr ⟨by rfl, rfl⟩) (by assumption) ?_
       simp only [List.setIfInBounds_toArray, List.set_cons_zero, List.set_cons_succ])
  first
    | (refine take_at (i := 11) (v := ?_) rfl rfl (by kernel_rfl) (by kernel_rfl) (by kernel_rfl) (fun _ _ _ h => h) (Or.inl ⟨by rfl, ?hy⟩) (by assumption) ?_
       case hy => (intro wz hSw; (try dsimp only at hSw); go_simp <;> with_reducible rfl)
       simp only [List.setIfInBounds_toArray, List.set_cons_zero, List.set_cons_succ])
    | (refine take_at (i := 11) (v := undef) rfl rfl (by kernel_rfl) (by kernel_rfl) (by kernel_rfl) (fun _ _ _ h => h) (Or.inr ⟨by rfl, rfl⟩) (by assumption) ?_
       simp only [List.setIfInBounds_toArray, List.set_cons_zero, List.set_cons_succ])
  refine call_at (i := 12) (F := 79) (gapA32 x M _ (by omega) (by omega)) rfl rfl (by kernel_rfl) (by rfl) (by first | rfl | (go_simp <;> rfl)) ?_
  rintro e w' ⟨rfl, rfl⟩
  refine ⟨_, rfl, by assumption, ?_⟩
  simp only [List.setIfInBounds_toArray, List.set_cons_zero, List.set_cons_succ]
  first
    | (refine take_at (i := 13) (v := ?_) rfl rfl (by kernel_rfl) (by kernel_rfl) (by kernel_rfl) (fun _ _ _ h => h) (Or.inl ⟨by rfl, ?hy⟩) (by assumption) ?_
       case hy => (intro wz hSw; (try dsimp only at hSw); go_simp <;> with_reducible rfl)
       simp only [List.setIfInBounds_toArray, List.set_cons_zero, List.set_cons_succ])
    | (refine take_at (i := 13) (v := undef) rfl rfl (by kernel_rfl) (by kernel_rfl) (by kernel_rfl) (fun _ _ _ h => h) (Or.inr ⟨by rfl, rfl⟩) (by assumption) ?_
       simp only [List.setIfInBounds_toArray, List.set_cons_zero, List.set_cons_succ])
  first
    | (refine take_at (i := 14) (v := ?_) rfl rfl (by kernel_rfl) (by kernel_rfl) (by kernel_rfl) (fun _ _ _ h => h) (Or.inl ⟨by rfl, ?hy⟩) (by assumption) ?_
       case hy => (intro wz hSw; (try dsimp only at hSw); go_simp <;> with_reducible rfl)
       simp only [List.setIfInBounds_toArray, List.set_cons_zero, List.set_cons_succ])
    | (refine take_at (i := 14) (v := undef) rfl rfl (by kernel_rfl) (by kernel_rfl) (by kernel_rfl) (fun _ _ _ h => h) (Or.inr ⟨by rfl, rfl⟩) (by assumption) ?_
       simp only [List.setIfInBounds_toArray, List.set_cons_zero, List.set_cons_succ])
  refine wpAnyH_done (by kernel_rfl) ?_ _
  go_upto_region 7 with (fail)
  refine settle_wp ?_
  intro w3 hb3
  have hH := Ext.trans hHeld hb3
  replace HM2 := Lib.hid (HM2.out.ext hH)
  replace za_0 := hH.frozen qa_0 za_0
  replace qa_0 := hH.cell qa_0
  replace za_1 := hH.frozen qa_1 za_1
  replace qa_1 := hH.cell qa_1
  replace za_2 := hH.frozen qa_2 za_2
  replace qa_2 := hH.cell qa_2
  replace za_3 := hH.frozen qa_3 za_3
  replace qa_3 := hH.cell qa_3
  replace za_4 := hH.frozen qa_4 za_4
  replace qa_4 := hH.cell qa_4
  replace za_5 := hH.frozen qa_5 za_5
  replace qa_5 := hH.cell qa_5
  replace za_6 := hH.frozen qa_6 za_6
  replace qa_6 := hH.cell qa_6
  replace za_7 := hH.frozen qa_7 za_7
  replace qa_7 := hH.cell qa_7
  replace za_8 := hH.frozen qa_8 za_8
  replace qa_8 := hH.cell qa_8
  replace za_9 := hH.frozen qa_9 za_9
  replace qa_9 := hH.cell qa_9
  replace za_10 := hH.frozen qa_10 za_10
  replace qa_10 := hH.cell qa_10
  replace zr_0 := hH.frozen qr_0 zr_0
  replace qr_0 := hH.cell qr_0
  replace zr_1 := hH.frozen qr_1 zr_1
  replace qr_1 := hH.cell qr_1
  replace zr_2 := hH.frozen qr_2 zr_2
  replace qr_2 := hH.cell qr_2
  replace zr_3 := hH.frozen qr_3 zr_3
  replace qr_3 := hH.cell qr_3
  replace zr_4 := hH.frozen qr_4 zr_4
  replace qr_4 := hH.cell qr_4
  replace zr_5 := hH.frozen qr_5 zr_5
  replace qr_5 := hH.cell qr_5
  replace zr_6 := hH.frozen qr_6 zr_6
  replace qr_6 := hH.cell qr_6
  replace zr_7 := hH.frozen qr_7 zr_7
  replace qr_7 := hH.cell qr_7
  replace zr_8 := hH.frozen qr_8 zr_8
  replace qr_8 := hH.cell qr_8
  replace zr_9 := hH.frozen qr_9 zr_9
  replace qr_9 := hH.cell qr_9
  replace zr_10 := hH.frozen qr_10 zr_10
  replace qr_10 := hH.cell qr_10
  clear k4 k7 kW qW hHeld hH hb3
  go_upto_region 10 with (fail)
  refine settle_wp ?_
  intro w5 hb5
  replace HM2 := Lib.hid (((HM2.out.set (p := ⟨w.heap.size, 4, none⟩) (by simp) (by simp) (.int .i64 ((I : Int) + 1))).set (p := ⟨w.heap.size, 4, none⟩) (by simp) (by simp) (.int .i64 0)).ext hb5)
  have pa_0 : w5.cell? ⟨w.heap.size, 0, none⟩ = some (.int .i64 0) := hb5.cell (by simp (maxDischargeDepth := 40) [go_sem, set_some, set_same, qa_0])
  have pa_1 : w5.cell? ⟨w.heap.size, 1, none⟩ = some (.int .i64 tn) := hb5.cell (by simp (maxDischargeDepth := 40) [go_sem, set_some, set_same, qa_1])
  have pa_2 : w5.cell? ⟨w.heap.size, 2, none⟩ = some (.int .i64 0) := hb5.cell (by simp (maxDischargeDepth := 40) [go_sem, set_some, set_same, qa_2])
  have pa_3 : w5.cell? ⟨w.heap.size, 3, none⟩ = some (.int .i64 tp) := hb5.cell (by simp (maxDischargeDepth := 40) [go_sem, set_some, set_same, qa_3])
  have pa_4 : w5.cell? ⟨w.heap.size, 4, none⟩ = some (.int .i64 0) := hb5.cell (by simp (maxDischargeDepth := 40) [go_sem, set_some, set_same, qa_4])
  have pa_5 : w5.cell? ⟨w.heap.size, 5, none⟩ = some (.int .i64 0) := hb5.cell (by simp (maxDischargeDepth := 40) [go_sem, set_some, set_same, qa_5])
  have pa_6 : w5.cell? ⟨w.heap.size, 6, none⟩ = some (.int .u64 tf) := hb5.cell (by simp (maxDischargeDepth := 40) [go_sem, set_some, set_same, qa_6])
  have pa_7 : w5.cell? ⟨w.heap.size, 7, none⟩ = some (.int .u64 M) := hb5.cell (by simp (maxDischargeDepth := 40) [go_sem, set_some, set_same, qa_7])
  have pa_8 : w5.cell? ⟨w.heap.size, 8, none⟩ = some (.int .u64 tv) := hb5.cell (by simp (maxDischargeDepth := 40) [go_sem, set_some, set_same, qa_8])
  have pa_9 : w5.cell? ⟨w.heap.size, 9, none⟩ = some (.int .u64 0) := hb5.cell (by simp (maxDischargeDepth := 40) [go_sem, set_some, set_same, qa_9])
  have pa_10 : w5.cell? ⟨w.heap.size, 10, none⟩ = some (.slice none 0 0) := hb5.cell (by simp (maxDischargeDepth := 40) [go_sem, set_some, set_same, qa_10])
  have pr_0 : w5.cell? ⟨w.heap.size + 1, 0, none⟩ = some (.int .i64 0) := hb5.cell (by simp [go_sem, qr_0])
  have vr_0 : w5.frozen? ⟨w.heap.size + 1, 0, none⟩ = false := hb5.frozen (v := .int .i64 0) (by simp [go_sem, qr_0]) (by simp [go_sem, zr_0])
  have pr_1 : w5.cell? ⟨w.heap.size + 1, 1, none⟩ = some (.int .i64 0) := hb5.cell (by simp [go_sem, qr_1])
  have vr_1 : w5.frozen? ⟨w.heap.size + 1, 1, none⟩ = false := hb5.frozen (v := .int .i64 0) (by simp [go_sem, qr_1]) (by simp [go_sem, zr_1])
  have pr_2 : w5.cell? ⟨w.heap.size + 1, 2, none⟩ = some (.int .i64 0) := hb5.cell (by simp [go_sem, qr_2])
  have vr_2 : w5.frozen? ⟨w.heap.size + 1, 2, none⟩ = false := hb5.frozen (v := .int .i64 0) (by simp [go_sem, qr_2]) (by simp [go_sem, zr_2])
  have pr_3 : w5.cell? ⟨w.heap.size + 1, 3, none⟩ = some (.int .i64 0) := hb5.cell (by simp [go_sem, qr_3])
  have vr_3 : w5.frozen? ⟨w.heap.size + 1, 3, none⟩ = false := hb5.frozen (v := .int .i64 0) (by simp [go_sem, qr_3]) (by simp [go_sem, zr_3])
  have pr_4 : w5.cell? ⟨w.heap.size + 1, 4, none⟩ = some (.int .i64 0) := hb5.cell (by simp [go_sem, qr_4])
  have vr_4 : w5.frozen? ⟨w.heap.size + 1, 4, none⟩ = false := hb5.frozen (v := .int .i64 0) (by simp [go_sem, qr_4]) (by simp [go_sem, zr_4])
  have pr_5 : w5.cell? ⟨w.heap.size + 1, 5, none⟩ = some (.int .i64 0) := hb5.cell (by simp [go_sem, qr_5])
  have vr_5 : w5.frozen? ⟨w.heap.size + 1, 5, none⟩ = false := hb5.frozen (v := .int .i64 0) (by simp [go_sem, qr_5]) (by simp [go_sem, zr_5])
  have pr_6 : w5.cell? ⟨w.heap.size + 1, 6, none⟩ = some (.int .u64 0) := hb5.cell (by simp [go_sem, qr_6])
  have vr_6 : w5.frozen? ⟨w.heap.size + 1, 6, none⟩ = false := hb5.frozen (v := .int .u64 0) (by simp [go_sem, qr_6]) (by simp [go_sem, zr_6])
  have pr_7 : w5.cell? ⟨w.heap.size + 1, 7, none⟩ = some (.int .u64 0) := hb5.cell (by simp [go_sem, qr_7])
  have vr_7 : w5.frozen? ⟨w.heap.size + 1, 7, none⟩ = false := hb5.frozen (v := .int .u64 0) (by simp [go_sem, qr_7]) (by simp [go_sem, zr_7])
  have pr_8 : w5.cell? ⟨w.heap.size + 1, 8, none⟩ = some (.int .u64 0) := hb5.cell (by simp [go_sem, qr_8])
  have vr_8 : w5.frozen? ⟨w.heap.size + 1, 8, none⟩ = false := hb5.frozen (v := .int .u64 0) (by simp [go_sem, qr_8]) (by simp [go_sem, zr_8])
  have pr_9 : w5.cell? ⟨w.heap.size + 1, 9, none⟩ = some (.int .u64 0) := hb5.cell (by simp [go_sem, qr_9])
  have vr_9 : w5.frozen? ⟨w.heap.size + 1, 9, none⟩ = false := hb5.frozen (v := .int .u64 0) (by simp [go_sem, qr_9]) (by simp [go_sem, zr_9])
  have pr_10 : w5.cell? ⟨w.heap.size + 1, 10, none⟩ = some (.slice none 0 0) := hb5.cell (by simp [go_sem, qr_10])
  have vr_10 : w5.frozen? ⟨w.heap.size + 1, 10, none⟩ = false := hb5.frozen (v := .slice none 0 0) (by simp [go_sem, qr_10]) (by simp [go_sem, zr_10])
  clear hb5 qa_0 za_0 qa_1 za_1 qa_2 za_2 qa_3 za_3 qa_4 za_4 qa_5 za_5 qa_6 za_6 qa_7 za_7 qa_8 za_8 qa_9 za_9 qa_10 za_10 qr_0 zr_0 qr_1 zr_1 qr_2 zr_2 qr_3 zr_3 qr_4 zr_4 qr_5 zr_5 qr_6 zr_6 qr_7 zr_7 qr_8 zr_8 qr_9 zr_9 qr_10 zr_10
  go_wp2
  refine bodyPost_ret (v := .tuple #[(.agg #[.int .i64 0, .int .i64 tn, .int .i64 0, .int .i64 tp, .int .i64 0, .int .i64 0, .int .u64 tf, .int .u64 M, .int .u64 tv, .int .u64 0, .slice none 0 0]), .bool true]) (by simp [results, Tryz.results59, go_sem, pr_0, pr_1, pr_2, pr_3, pr_4, pr_5, pr_6, pr_7, pr_8, pr_9, pr_10, pa_0, pa_1, pa_2, pa_3, pa_4, pa_5, pa_6, pa_7, pa_8, pa_9, pa_10]) rfl (HG.out _ ?mid)
  case mid => repeat (first | with_reducible exact HM2.out | refine RMid.set ?_ (by simp) (by simp) _)
set_option maxRecDepth 100000 in
theorem rScan32_gc (b : Nat) (r : RY) (f : Nat → Int) (lv : Value) (log : List Acc) (t : Int) (v : Value) (xs : List Int) (I c : Nat) (tn tp tf M tv : Int) (w : World) (h : RB w b r f lv log) (hW : r.W = 32) (hv : IntsV w v xs) (hI : I < xs.length) (hx : xs.getD I 0 = c) (hk : isK r (c : Int) 1 = true) (hc : c < r.m) (hl : log.length ≤ 1000) (hn : xs.length ≤ 1000) (f0 : 0 ≤ f c) (hM : 0 ≤ M) (h0 : ¬ I = 0) (h1 : ¬ D32 (f c - M) < 0) (h2 : I + 1 < xs.length) :
    Calls Tryz.prog 59 #[.pointer (some ⟨b, 0, none⟩), .int .i64 t, v, (.agg #[.int .i64 0, .int .i64 tn, .int .i64 0, .int .i64 tp, .int .i64 I, .int .i64 0, .int .u64 tf, .int .u64 M, .int .u64 tv, .int .u64 0, .slice none 0 0])] w (RScanDoes b r lv f (log ++ [⟨t, 1, c, f c, f c⟩]) false tn tp ((I : Int) + 1) tf (M) tv w) := by
  have CA := Lib.hid (fun w' (hx : Ext w w') => rLoad_yes b r f lv log t c w' (h.ext hx) hk hc hl)
  have HG : Hid (∀ w', RMid b r lv f (log ++ [⟨t, 1, c, f c, f c⟩]) w w' → RScanDoes b r lv f (log ++ [⟨t, 1, c, f c, f c⟩]) false tn tp ((I : Int) + 1) tf (M) tv w (.returned (.tuple #[(.agg #[.int .i64 0, .int .i64 tn, .int .i64 0, .int .i64 tp, .int .i64 ((I : Int) + 1), .int .i64 0, .int .u64 tf, .int .u64 M, .int .u64 tv, .int .u64 0, .slice none 0 0]), .bool false])) w') := Lib.hid (fun w' hm => ⟨rfl, hm.does (v := .bool true)⟩)
  have HM := Lib.hid (fun lv' w1 w2 (hx : Ext w w1) hs hR hN hA => rmid_of (f' := f) (lv' := lv') (log' := (log ++ [⟨t, 1, c, f c, f c⟩])) (w1 := w1) (w2 := w2) h hx hs hR hN hA)
  generalize RScanDoes b r lv f (log ++ [⟨t, 1, c, f c, f c⟩]) false tn tp ((I : Int) + 1) tf (M) tv w = G at *
  obtain ⟨va, vc, ev, hf⟩ := hv.form
  subst ev
  obtain ⟨vb, vo, ea, cv⟩ := hf I hI
  subst ea
  rw [hx] at cv
  generalize hxx : f c = x at *
  have hI1 : (I : Int) < (xs.length : Int) := by omega
  have hI0 : (0 : Int) ≤ (I : Int) := by omega
  have d0 : ((I : Int) == 0) = false := by simp; omega
  have d1 : decide (D32 (x - M) < 0) = false := by simpa using h1
  have d2 : ((I : Int) + 1 == (xs.length : Int)) = false := by simp; omega
  have hwr : IntKind.i64.wrap ((I : Int) + 1) = (I : Int) + 1 := wrapS (by omega) (by omega)
  have hlt := fun k (hk : Own b r.gh lv k) => h.lt hk
  generalize xs.length = n at *
  clear h hv hf hI hx hk hl hn h0 h2 h1
  go_enter Tryz.func59, Tryz.ntmps59
  go_upto_region 1 with (fail)
  refine settle_wp ?_
  intro w1 hb1
  have qa_0 : w1.cell? ⟨w.heap.size, 0, none⟩ = some (.int .i64 0) := (hb1.cells.1 _ _ (by simp <;> omega)).trans (by simp [go_sem])
  have za_0 : w1.frozen? ⟨w.heap.size, 0, none⟩ = false := (hb1.cells.2 _ _ (by simp <;> omega)).trans (by simp [go_sem])
  have qa_1 : w1.cell? ⟨w.heap.size, 1, none⟩ = some (.int .i64 tn) := (hb1.cells.1 _ _ (by simp <;> omega)).trans (by simp [go_sem])
  have za_1 : w1.frozen? ⟨w.heap.size, 1, none⟩ = false := (hb1.cells.2 _ _ (by simp <;> omega)).trans (by simp [go_sem])
  have qa_2 : w1.cell? ⟨w.heap.size, 2, none⟩ = some (.int .i64 0) := (hb1.cells.1 _ _ (by simp <;> omega)).trans (by simp [go_sem])
  have za_2 : w1.frozen? ⟨w.heap.size, 2, none⟩ = false := (hb1.cells.2 _ _ (by simp <;> omega)).trans (by simp [go_sem])
  have qa_3 : w1.cell? ⟨w.heap.size, 3, none⟩ = some (.int .i64 tp) := (hb1.cells.1 _ _ (by simp <;> omega)).trans (by simp [go_sem])
  have za_3 : w1.frozen? ⟨w.heap.size, 3, none⟩ = false := (hb1.cells.2 _ _ (by simp <;> omega)).trans (by simp [go_sem])
  have qa_4 : w1.cell? ⟨w.heap.size, 4, none⟩ = some (.int .i64 I) := (hb1.cells.1 _ _ (by simp <;> omega)).trans (by simp [go_sem])
  have za_4 : w1.frozen? ⟨w.heap.size, 4, none⟩ = false := (hb1.cells.2 _ _ (by simp <;> omega)).trans (by simp [go_sem])
  have qa_5 : w1.cell? ⟨w.heap.size, 5, none⟩ = some (.int .i64 0) := (hb1.cells.1 _ _ (by simp <;> omega)).trans (by simp [go_sem])
  have za_5 : w1.frozen? ⟨w.heap.size, 5, none⟩ = false := (hb1.cells.2 _ _ (by simp <;> omega)).trans (by simp [go_sem])
  have qa_6 : w1.cell? ⟨w.heap.size, 6, none⟩ = some (.int .u64 tf) := (hb1.cells.1 _ _ (by simp <;> omega)).trans (by simp [go_sem])
  have za_6 : w1.frozen? ⟨w.heap.size, 6, none⟩ = false := (hb1.cells.2 _ _ (by simp <;> omega)).trans (by simp [go_sem])
  have qa_7 : w1.cell? ⟨w.heap.size, 7, none⟩ = some (.int .u64 M) := (hb1.cells.1 _ _ (by simp <;> omega)).trans (by simp [go_sem])
  have za_7 : w1.frozen? ⟨w.heap.size, 7, none⟩ = false := (hb1.cells.2 _ _ (by simp <;> omega)).trans (by simp [go_sem])
  have qa_8 : w1.cell? ⟨w.heap.size, 8, none⟩ = some (.int .u64 tv) := (hb1.cells.1 _ _ (by simp <;> omega)).trans (by simp [go_sem])
  have za_8 : w1.frozen? ⟨w.heap.size, 8, none⟩ = false := (hb1.cells.2 _ _ (by simp <;> omega)).trans (by simp [go_sem])
  have qa_9 : w1.cell? ⟨w.heap.size, 9, none⟩ = some (.int .u64 0) := (hb1.cells.1 _ _ (by simp <;> omega)).trans (by simp [go_sem])
  have za_9 : w1.frozen? ⟨w.heap.size, 9, none⟩ = false := (hb1.cells.2 _ _ (by simp <;> omega)).trans (by simp [go_sem])
  have qa_10 : w1.cell? ⟨w.heap.size, 10, none⟩ = some (.slice none 0 0) := (hb1.cells.1 _ _ (by simp <;> omega)).trans (by simp [go_sem])
  have za_10 : w1.frozen? ⟨w.heap.size, 10, none⟩ = false := (hb1.cells.2 _ _ (by simp <;> omega)).trans (by simp [go_sem])
  have pa := World.block_lt_of_cell? _ ⟨w.heap.size, 0, none⟩ qa_0
  have ra := Nat.lt_succ_of_lt pa
  have qr_0 : w1.cell? ⟨(w.heap.size + 1), 0, none⟩ = some (.int .i64 0) := (hb1.cells.1 _ _ (by simp <;> omega)).trans (by simp [go_sem])
  have zr_0 : w1.frozen? ⟨(w.heap.size + 1), 0, none⟩ = false := (hb1.cells.2 _ _ (by simp <;> omega)).trans (by simp [go_sem])
  have qr_1 : w1.cell? ⟨(w.heap.size + 1), 1, none⟩ = some (.int .i64 0) := (hb1.cells.1 _ _ (by simp <;> omega)).trans (by simp [go_sem])
  have zr_1 : w1.frozen? ⟨(w.heap.size + 1), 1, none⟩ = false := (hb1.cells.2 _ _ (by simp <;> omega)).trans (by simp [go_sem])
  have qr_2 : w1.cell? ⟨(w.heap.size + 1), 2, none⟩ = some (.int .i64 0) := (hb1.cells.1 _ _ (by simp <;> omega)).trans (by simp [go_sem])
  have zr_2 : w1.frozen? ⟨(w.heap.size + 1), 2, none⟩ = false := (hb1.cells.2 _ _ (by simp <;> omega)).trans (by simp [go_sem])
  have qr_3 : w1.cell? ⟨(w.heap.size + 1), 3, none⟩ = some (.int .i64 0) := (hb1.cells.1 _ _ (by simp <;> omega)).trans (by simp [go_sem])
  have zr_3 : w1.frozen? ⟨(w.heap.size + 1), 3, none⟩ = false := (hb1.cells.2 _ _ (by simp <;> omega)).trans (by simp [go_sem])
  have qr_4 : w1.cell? ⟨(w.heap.size + 1), 4, none⟩ = some (.int .i64 0) := (hb1.cells.1 _ _ (by simp <;> omega)).trans (by simp [go_sem])
  have zr_4 : w1.frozen? ⟨(w.heap.size + 1), 4, none⟩ = false := (hb1.cells.2 _ _ (by simp <;> omega)).trans (by simp [go_sem])
  have qr_5 : w1.cell? ⟨(w.heap.size + 1), 5, none⟩ = some (.int .i64 0) := (hb1.cells.1 _ _ (by simp <;> omega)).trans (by simp [go_sem])
  have zr_5 : w1.frozen? ⟨(w.heap.size + 1), 5, none⟩ = false := (hb1.cells.2 _ _ (by simp <;> omega)).trans (by simp [go_sem])
  have qr_6 : w1.cell? ⟨(w.heap.size + 1), 6, none⟩ = some (.int .u64 0) := (hb1.cells.1 _ _ (by simp <;> omega)).trans (by simp [go_sem])
  have zr_6 : w1.frozen? ⟨(w.heap.size + 1), 6, none⟩ = false := (hb1.cells.2 _ _ (by simp <;> omega)).trans (by simp [go_sem])
  have qr_7 : w1.cell? ⟨(w.heap.size + 1), 7, none⟩ = some (.int .u64 0) := (hb1.cells.1 _ _ (by simp <;> omega)).trans (by simp [go_sem])
  have zr_7 : w1.frozen? ⟨(w.heap.size + 1), 7, none⟩ = false := (hb1.cells.2 _ _ (by simp <;> omega)).trans (by simp [go_sem])
  have qr_8 : w1.cell? ⟨(w.heap.size + 1), 8, none⟩ = some (.int .u64 0) := (hb1.cells.1 _ _ (by simp <;> omega)).trans (by simp [go_sem])
  have zr_8 : w1.frozen? ⟨(w.heap.size + 1), 8, none⟩ = false := (hb1.cells.2 _ _ (by simp <;> omega)).trans (by simp [go_sem])
  have qr_9 : w1.cell? ⟨(w.heap.size + 1), 9, none⟩ = some (.int .u64 0) := (hb1.cells.1 _ _ (by simp <;> omega)).trans (by simp [go_sem])
  have zr_9 : w1.frozen? ⟨(w.heap.size + 1), 9, none⟩ = false := (hb1.cells.2 _ _ (by simp <;> omega)).trans (by simp [go_sem])
  have qr_10 : w1.cell? ⟨(w.heap.size + 1), 10, none⟩ = some (.slice none 0 0) := (hb1.cells.1 _ _ (by simp <;> omega)).trans (by simp [go_sem])
  have zr_10 : w1.frozen? ⟨(w.heap.size + 1), 10, none⟩ = false := (hb1.cells.2 _ _ (by simp <;> omega)).trans (by simp [go_sem])
  have pr := World.block_lt_of_cell? _ ⟨(w.heap.size + 1), 0, none⟩ qr_0
  have rr := Nat.lt_succ_of_lt pr
  have XE : Ext w w1 := Ext.trans (Ext.alloc (Ext.alloc (Ext.refl w) _) _) hb1
  have hs1 : w.heap.size + 2 ≤ w1.heap.size := by have h1 := hb1.size; simp at h1; omega
  have na : ¬ Own b r.gh lv w.heap.size := fun hk => by have := hlt _ hk; omega
  have nr : ¬ Own b r.gh lv (w.heap.size + 1) := fun hk => by have := hlt _ hk; omega
  replace cv := XE.cell cv
  clear hb1
  go_wp2_with fail
  refine (CA.out _ XE).mono ?_
  rintro e w2 ⟨rfl, lv2, R2, N2, A2⟩
  have HM2 := Lib.hid (HM.out lv2 _ w2 XE hs1 R2 N2 A2)
  have qW := R2.q1
  rw [hW] at qW
  replace za_0 := N2.frozen qa_0 za_0 na
  replace qa_0 := N2.cell qa_0 na
  replace za_1 := N2.frozen qa_1 za_1 na
  replace qa_1 := N2.cell qa_1 na
  replace za_2 := N2.frozen qa_2 za_2 na
  replace qa_2 := N2.cell qa_2 na
  replace za_3 := N2.frozen qa_3 za_3 na
  replace qa_3 := N2.cell qa_3 na
  replace za_4 := N2.frozen qa_4 za_4 na
  replace qa_4 := N2.cell qa_4 na
  replace za_5 := N2.frozen qa_5 za_5 na
  replace qa_5 := N2.cell qa_5 na
  replace za_6 := N2.frozen qa_6 za_6 na
  replace qa_6 := N2.cell qa_6 na
  replace za_7 := N2.frozen qa_7 za_7 na
  replace qa_7 := N2.cell qa_7 na
  replace za_8 := N2.frozen qa_8 za_8 na
  replace qa_8 := N2.cell qa_8 na
  replace za_9 := N2.frozen qa_9 za_9 na
  replace qa_9 := N2.cell qa_9 na
  replace za_10 := N2.frozen qa_10 za_10 na
  replace qa_10 := N2.cell qa_10 na
  replace zr_0 := N2.frozen qr_0 zr_0 nr
  replace qr_0 := N2.cell qr_0 nr
  replace zr_1 := N2.frozen qr_1 zr_1 nr
  replace qr_1 := N2.cell qr_1 nr
  replace zr_2 := N2.frozen qr_2 zr_2 nr
  replace qr_2 := N2.cell qr_2 nr
  replace zr_3 := N2.frozen qr_3 zr_3 nr
  replace qr_3 := N2.cell qr_3 nr
  replace zr_4 := N2.frozen qr_4 zr_4 nr
  replace qr_4 := N2.cell qr_4 nr
  replace zr_5 := N2.frozen qr_5 zr_5 nr
  replace qr_5 := N2.cell qr_5 nr
  replace zr_6 := N2.frozen qr_6 zr_6 nr
  replace qr_6 := N2.cell qr_6 nr
  replace zr_7 := N2.frozen qr_7 zr_7 nr
  replace qr_7 := N2.cell qr_7 nr
  replace zr_8 := N2.frozen qr_8 zr_8 nr
  replace qr_8 := N2.cell qr_8 nr
  replace zr_9 := N2.frozen qr_9 zr_9 nr
  replace qr_9 := N2.cell qr_9 nr
  replace zr_10 := N2.frozen qr_10 zr_10 nr
  replace qr_10 := N2.cell qr_10 nr
  clear R2 N2 A2 XE cv
  go_upto_region 5 with (fail)
  have k4 := fun w' (hx : Ext w2 w') => hx.cell qa_4
  have k7 := fun w' (hx : Ext w2 w') => hx.cell qa_7
  have kW := fun w' (hx : Ext w2 w') => hx.cell qW
  refine wp_region_held_drew (S := fun w' => Ext w2 w') (by kernel_rfl) ?hbeg (fun hHeld => ?_)
  case hbeg => exact (Ext.refl w2).drew
  have hHeld0 : Ext w2 w2 := by first | exact Ext.refl _ | assumption
  first
    | (refine take_at (i := 0) (v := ?_) rfl rfl (by kernel_rfl) (by kernel_rfl) (by kernel_rfl) (fun _ _ _ h => h) (Or.inl ⟨by rfl, ?hy⟩) (by assumption) ?_
       case hy => (intro wz hSw; (try dsimp only at hSw); go_simp <;> with_reducible rfl)
       simp only [List.setIfInBounds_toArray, List.set_cons_zero, List.set_cons_succ])
    | (refine take_at (i := 0) (v := undef) rfl rfl (by kernel_rfl) (by kernel_rfl) (by kernel_rfl) (fun _ _ _ h => h) (Or.inr ⟨by rfl, rfl⟩) (by assumption) ?_
       simp only [List.setIfInBounds_toArray, List.set_cons_zero, List.set_cons_succ])
  first
    | (refine take_at (i := 1) (v := ?_) rfl rfl (by kernel_rfl) (by kernel_rfl) (by kernel_rfl) (fun _ _ _ h => h) (Or.inl ⟨by rfl, ?hy⟩) (by assumption) ?_
       case hy => (intro wz hSw; (try dsimp only at hSw); go_simp <;> with_reducible rfl)
       simp only [List.setIfInBounds_toArray, List.set_cons_zero, List.set_cons_succ])
    | (refine take_at (i := 1) (v := undef) rfl rfl (by kernel_rfl) (by kernel_rfl) (by kernel_rfl) (fun _ _ _ h => h) (Or.inr ⟨by rfl, rfl⟩) (by assumption) ?_
       simp only [List.setIfInBounds_toArray, List.set_cons_zero, List.set_cons_succ])
  first
    | (refine take_at (i := 2) (v := ?_) rfl rfl (by kernel_rfl) (by kernel_rfl) (by kernel_rfl) (fun _ _ _ h => h) (Or.inl ⟨by rfl, ?hy⟩) (by assumption) ?_
       case hy => (intro wz hSw; (try dsimp only at hSw); go_simp <;> with_reducible rfl)
       simp only [List.setIfInBounds_toArray, List.set_cons_zero, List.set_cons_succ])
    | (refine take_at (i := 2) (v := undef) rfl rfl (by kernel_rfl) (by kernel_rfl) (by kernel_rfl) (fun _ _ _ h => h) (Or.inr ⟨by rfl, rfl⟩) (by assumption) ?_
       simp only [List.setIfInBounds_toArray, List.set_cons_zero, List.set_cons_succ])
  first
    | (refine take_at (i := 3) (v := ?_) rfl rfl (by kernel_rfl) (by kernel_rfl) (by kernel_rfl) (fun _ _ _ h => h) (Or.inl ⟨by rfl, ?hy⟩) (by assumption) ?_
       case hy => (intro wz hSw; (try dsimp only at hSw); go_simp <;> with_reducible rfl)
       simp only [List.setIfInBounds_toArray, List.set_cons_zero, List.set_cons_succ])
    | (refine take_at (i := 3) (v := undef) rfl rfl (by kernel_rfl) (by kernel_rfl) (by kernel_rfl) (fun _ _ _ h => h) (Or.inr ⟨by rfl, rfl⟩) (by assumption) ?_
       simp only [List.setIfInBounds_toArray, List.set_cons_zero, List.set_cons_succ])
  first
    | (refine take_at (i := 4) (v := ?_) rfl rfl (by kernel_rfl) (by kernel_rfl) (by kernel_rfl) (fun _ _ _ h => h) (Or.inl ⟨by rfl, ?hy⟩) (by assumption) ?_
       case hy => (intro wz hSw; (try dsimp only at hSw); go_simp <;> with_reducible rfl)
       simp only [List.setIfInBounds_toArray, List.set_cons_zero, List.set_cons_succ])
    | (refine take_at (i := 4) (v := undef) rfl rfl (by kernel_rfl) (by kernel_rfl) (by kernel_rfl) (fun _ _ _ h => h) (Or.inr ⟨by rfl, rfl⟩) (by assumption) ?_
       simp only [List.setIfInBounds_toArray, List.set_cons_zero, List.set_cons_succ])
  first
    | (refine take_at (i := 5) (v := ?_) rfl rfl (by kernel_rfl) (by kernel_rfl) (by kernel_rfl) (fun _ _ _ h => h) (Or.inl ⟨by rfl, ?hy⟩) (by assumption) ?_
       case hy => (intro wz hSw; (try dsimp only at hSw); go_simp <;> with_reducible rfl)
       simp only [List.setIfInBounds_toArray, List.set_cons_zero, List.set_cons_succ])
    | (refine take_at (i := 5) (v := undef) rfl rfl (by kernel_rfl) (by kernel_rfl) (by kernel_rfl) (fun _ _ _ h => h) (Or.inr ⟨by rfl, rfl⟩) (by assumption) ?_
       simp only [List.setIfInBounds_toArray, List.set_cons_zero, List.set_cons_succ])
  first
    | (refine take_at (i := 6) (v := ?_) rfl rfl (by kernel_rfl) (by kernel_rfl) (by kernel_rfl) (fun _ _ _ h => h) (Or.inl ⟨by rfl, ?hy⟩) (by assumption) ?_
       case hy => (intro wz hSw; (try dsimp only at hSw); go_simp <;> with_reducible rfl)
       simp only [List.setIfInBounds_toArray, List.set_cons_zero, List.set_cons_succ])
    | (refine take_at (i := 6) (v := undef) rfl rfl (by kernel_rfl) (by kernel_rfl) (by kernel_rfl) (fun _ _ _ h => h) (Or.inr ⟨by rfl, rfl⟩) (by assumption) ?_
       simp only [List.setIfInBounds_toArray, List.set_cons_zero, List.set_cons_succ])
  first
    | (refine take_at (i := 7) (v := ?_) rfl rfl (by kernel_rfl) (by kernel_rfl) (by kernel_rfl) (fun _ _ _ h => h) (Or.inl ⟨by rfl, ?hy⟩) (by assumption) ?_
       case hy => (intro wz hSw; (try dsimp only at hSw); go_simp <;> with_reducible rfl)
       simp only [List.setIfInBounds_toArray, List.set_cons_zero, List.set_cons_succ])
    | (refine take_at (i := 7) (v := undef) rfl rfl (by kernel_rfl) (by kernel_rfl) (by kernel_rfl) (fun _ _ _ h => h) (Or.inr ⟨by rfl, rfl⟩) (by assumption) ?_
       simp only [List.setIfInBounds_toArray, List.set_cons_zero, List.set_cons_succ])
  first
    | (refine take_at (i := 8) (v := ?_) rfl rfl (by kernel_rfl) (by kernel_rfl) (by kernel_rfl) (fun _ _ _ h => h) (Or.inl ⟨by rfl, ?hy⟩) (by assumption) ?_
       case hy => (intro wz hSw; (try dsimp only at hSw); go_simp <;> with_reducible rfl)
       simp only [List.setIfInBounds_toArray, List.set_cons_zero, List.set_cons_succ])
    | (refine take_at (i := 8) (v := undef) rfl rfl (by kernel_rfl) (by kernel_rfl) (by kernel_rfl) (fun _ _ _ h => h) (Or.inr ⟨by rfl, rfl⟩) (by assumption) ?_
       simp only [List.setIfInBounds_toArray, List.set_cons_zero, List.set_cons_succ])
  first
    | (refine take_at (i := 9) (v := ?_) rfl rfl (by kernel_rfl) (by kernel_rfl) (by kernel_rfl) (fun _ _ _ h => h) (Or.inl ⟨by rfl, ?hy⟩) (by assumption) ?_
       case hy => (intro wz hSw; (try dsimp only at hSw); go_simp <;> with_reducible rfl)
       simp only [List.setIfInBounds_toArray, List.set_cons_zero, List.set_cons_succ])
    | (refine take_at (i := 9) (v := undef) rfl rfl (by kernel_rfl) (by kernel_rfl) (by kernel_rfl) (fun _ _ _ h => h) (Or.inr ⟨by rfl, rfl⟩) (by assumption) ?_
       simp only [List.setIfInBounds_toArray, List.set_cons_zero, List.set_cons_succ])
  first
    | (refine take_at (i := 10) (v := ?_) rfl rfl (by kernel_rfl) (by kernel_rfl) (by kernel_rfl) (fun _ _ _ h => h) (Or.inl ⟨by rfl, ?hy⟩) (by assumption) ?_
       case hy => (intro wz hSw; (try dsimp only at hSw); go_simp <;> with_reducible rfl)
       simp only [List.setIfInBounds_toArray, List.set_cons_zero, List.set_cons_succ])
    | (refine take_at (i := 10) (v := undef) rfl rfl (by kernel_rfl) (by kernel_rfl) (by kernel_rfl) (fun _ _ _ h => h) (Or.inr ⟨by rfl, rfl⟩) (by assumption) ?_
       simp only [List.setIfInBounds_toArray, List.set_cons_zero, List.set_cons_succ])
  first
    | (refine take_at (i := 11) (v := ?_) rfl rfl (by kernel_rfl) (by kernel_rfl) (by kernel_rfl) (fun _ _ _ h => h) (Or.inl ⟨by rfl, ?hy⟩) (by assumption) ?_
       case hy => (intro wz hSw; (try dsimp only at hSw); go_simp <;> with_reducible rfl)
       simp only [List.setIfInBounds_toArray, List.set_cons_zero, List.set_cons_succ])
    | (refine take_at (i := 11) (v := undef) rfl rfl (by kernel_rfl) (by kernel_rfl) (by kernel_rfl) (fun _ _ _ h => h) (Or.inr ⟨by rfl, rfl⟩) (by assumption) ?_
       simp only [List.setIfInBounds_toArray, List.set_cons_zero, List.set_cons_succ])
  refine call_at (i := 12) (F := 79) (gapA32 x M _ (by omega) (by omega)) rfl rfl (by kernel_rfl) (by rfl) (by first | rfl | (go_simp <;> rfl)) ?_
  rintro e w' ⟨rfl, rfl⟩
  refine ⟨_, rfl, by assumption, ?_⟩
  simp only [List.setIfInBounds_toArray, List.set_cons_zero, List.set_cons_succ]
  first
    | (refine take_at (i := 13) (v := ?_) rfl rfl (by kernel_rfl) (by kernel_rfl) (by kernel_rfl) (fun _ _ _ h => h) (Or.inl ⟨by rfl, ?hy⟩) (by assumption) ?_
       case hy => (intro wz hSw; (try dsimp only at hSw); go_simp <;> with_reducible rfl)
       simp only [List.setIfInBounds_toArray, List.set_cons_zero, List.set_cons_succ])
    | (refine take_at (i := 13) (v := undef) rfl rfl (by kernel_rfl) (by kernel_rfl) (by kernel_rfl) (fun _ _ _ h => h) (Or.inr ⟨by rfl, rfl⟩) (by assumption) ?_
       simp only [List.setIfInBounds_toArray, List.set_cons_zero, List.set_cons_succ])
  first
    | (refine take_at (i := 14) (v := ?_) rfl rfl (by kernel_rfl) (by kernel_rfl) (by kernel_rfl) (fun _ _ _ h => h) (Or.inl ⟨by rfl, ?hy⟩) (by assumption) ?_
       case hy => (intro wz hSw; (try dsimp only at hSw); go_simp <;> with_reducible rfl)
       simp only [List.setIfInBounds_toArray, List.set_cons_zero, List.set_cons_succ])
    | (refine take_at (i := 14) (v := undef) rfl rfl (by kernel_rfl) (by kernel_rfl) (by kernel_rfl) (fun _ _ _ h => h) (Or.inr ⟨by rfl, rfl⟩) (by assumption) ?_
       simp only [List.setIfInBounds_toArray, List.set_cons_zero, List.set_cons_succ])
  refine wpAnyH_done (by kernel_rfl) ?_ _
  go_upto_region 7 with (fail)
  refine settle_wp ?_
  intro w3 hb3
  have hH := Ext.trans hHeld hb3
  replace HM2 := Lib.hid (HM2.out.ext hH)
  replace za_0 := hH.frozen qa_0 za_0
  replace qa_0 := hH.cell qa_0
  replace za_1 := hH.frozen qa_1 za_1
  replace qa_1 := hH.cell qa_1
  replace za_2 := hH.frozen qa_2 za_2
  replace qa_2 := hH.cell qa_2
  replace za_3 := hH.frozen qa_3 za_3
  replace qa_3 := hH.cell qa_3
  replace za_4 := hH.frozen qa_4 za_4
  replace qa_4 := hH.cell qa_4
  replace za_5 := hH.frozen qa_5 za_5
  replace qa_5 := hH.cell qa_5
  replace za_6 := hH.frozen qa_6 za_6
  replace qa_6 := hH.cell qa_6
  replace za_7 := hH.frozen qa_7 za_7
  replace qa_7 := hH.cell qa_7
  replace za_8 := hH.frozen qa_8 za_8
  replace qa_8 := hH.cell qa_8
  replace za_9 := hH.frozen qa_9 za_9
  replace qa_9 := hH.cell qa_9
  replace za_10 := hH.frozen qa_10 za_10
  replace qa_10 := hH.cell qa_10
  replace zr_0 := hH.frozen qr_0 zr_0
  replace qr_0 := hH.cell qr_0
  replace zr_1 := hH.frozen qr_1 zr_1
  replace qr_1 := hH.cell qr_1
  replace zr_2 := hH.frozen qr_2 zr_2
  replace qr_2 := hH.cell qr_2
  replace zr_3 := hH.frozen qr_3 zr_3
  replace qr_3 := hH.cell qr_3
  replace zr_4 := hH.frozen qr_4 zr_4
  replace qr_4 := hH.cell qr_4
  replace zr_5 := hH.frozen qr_5 zr_5
  replace qr_5 := hH.cell qr_5
  replace zr_6 := hH.frozen qr_6 zr_6
  replace qr_6 := hH.cell qr_6
  replace zr_7 := hH.frozen qr_7 zr_7
  replace qr_7 := hH.cell qr_7
  replace zr_8 := hH.frozen qr_8 zr_8
  replace qr_8 := hH.cell qr_8
  replace zr_9 := hH.frozen qr_9 zr_9
  replace qr_9 := hH.cell qr_9
  replace zr_10 := hH.frozen qr_10 zr_10
  replace qr_10 := hH.cell qr_10
  clear k4 k7 kW qW hHeld hH hb3
  go_upto_region 11 with (fail)
  refine settle_wp ?_
  intro w5 hb5
  replace HM2 := Lib.hid ((HM2.out.set (p := ⟨w.heap.size, 4, none⟩) (by simp) (by simp) (.int .i64 ((I : Int) + 1))).ext hb5)
  have pa_0 : w5.cell? ⟨w.heap.size, 0, none⟩ = some (.int .i64 0) := hb5.cell (by simp (maxDischargeDepth := 40) [go_sem, set_some, set_same, qa_0])
  have pa_1 : w5.cell? ⟨w.heap.size, 1, none⟩ = some (.int .i64 tn) := hb5.cell (by simp (maxDischargeDepth := 40) [go_sem, set_some, set_same, qa_1])
  have pa_2 : w5.cell? ⟨w.heap.size, 2, none⟩ = some (.int .i64 0) := hb5.cell (by simp (maxDischargeDepth := 40) [go_sem, set_some, set_same, qa_2])
  have pa_3 : w5.cell? ⟨w.heap.size, 3, none⟩ = some (.int .i64 tp) := hb5.cell (by simp (maxDischargeDepth := 40) [go_sem, set_some, set_same, qa_3])
  have pa_4 : w5.cell? ⟨w.heap.size, 4, none⟩ = some (.int .i64 ((I : Int) + 1)) := hb5.cell (by simp (maxDischargeDepth := 40) [go_sem, set_some, set_same, qa_4])
  have pa_5 : w5.cell? ⟨w.heap.size, 5, none⟩ = some (.int .i64 0) := hb5.cell (by simp (maxDischargeDepth := 40) [go_sem, set_some, set_same, qa_5])
  have pa_6 : w5.cell? ⟨w.heap.size, 6, none⟩ = some (.int .u64 tf) := hb5.cell (by simp (maxDischargeDepth := 40) [go_sem, set_some, set_same, qa_6])
  have pa_7 : w5.cell? ⟨w.heap.size, 7, none⟩ = some (.int .u64 M) := hb5.cell (by simp (maxDischargeDepth := 40) [go_sem, set_some, set_same, qa_7])
  have pa_8 : w5.cell? ⟨w.heap.size, 8, none⟩ = some (.int .u64 tv) := hb5.cell (by simp (maxDischargeDepth := 40) [go_sem, set_some, set_same, qa_8])
  have pa_9 : w5.cell? ⟨w.heap.size, 9, none⟩ = some (.int .u64 0) := hb5.cell (by simp (maxDischargeDepth := 40) [go_sem, set_some, set_same, qa_9])
  have pa_10 : w5.cell? ⟨w.heap.size, 10, none⟩ = some (.slice none 0 0) := hb5.cell (by simp (maxDischargeDepth := 40) [go_sem, set_some, set_same, qa_10])
  have pr_0 : w5.cell? ⟨w.heap.size + 1, 0, none⟩ = some (.int .i64 0) := hb5.cell (by simp [go_sem, qr_0])
  have vr_0 : w5.frozen? ⟨w.heap.size + 1, 0, none⟩ = false := hb5.frozen (v := .int .i64 0) (by simp [go_sem, qr_0]) (by simp [go_sem, zr_0])
  have pr_1 : w5.cell? ⟨w.heap.size + 1, 1, none⟩ = some (.int .i64 0) := hb5.cell (by simp [go_sem, qr_1])
  have vr_1 : w5.frozen? ⟨w.heap.size + 1, 1, none⟩ = false := hb5.frozen (v := .int .i64 0) (by simp [go_sem, qr_1]) (by simp [go_sem, zr_1])
  have pr_2 : w5.cell? ⟨w.heap.size + 1, 2, none⟩ = some (.int .i64 0) := hb5.cell (by simp [go_sem, qr_2])
  have vr_2 : w5.frozen? ⟨w.heap.size + 1, 2, none⟩ = false := hb5.frozen (v := .int .i64 0) (by simp [go_sem, qr_2]) (by simp [go_sem, zr_2])
  have pr_3 : w5.cell? ⟨w.heap.size + 1, 3, none⟩ = some (.int .i64 0) := hb5.cell (by simp [go_sem, qr_3])
  have vr_3 : w5.frozen? ⟨w.heap.size + 1, 3, none⟩ = false := hb5.frozen (v := .int .i64 0) (by simp [go_sem, qr_3]) (by simp [go_sem, zr_3])
  have pr_4 : w5.cell? ⟨w.heap.size + 1, 4, none⟩ = some (.int .i64 0) := hb5.cell (by simp [go_sem, qr_4])
  have vr_4 : w5.frozen? ⟨w.heap.size + 1, 4, none⟩ = false := hb5.frozen (v := .int .i64 0) (by simp [go_sem, qr_4]) (by simp [go_sem, zr_4])
  have pr_5 : w5.cell? ⟨w.heap.size + 1, 5, none⟩ = some (.int .i64 0) := hb5.cell (by simp [go_sem, qr_5])
  have vr_5 : w5.frozen? ⟨w.heap.size + 1, 5, none⟩ = false := hb5.frozen (v := .int .i64 0) (by simp [go_sem, qr_5]) (by simp [go_sem, zr_5])
  have pr_6 : w5.cell? ⟨w.heap.size + 1, 6, none⟩ = some (.int .u64 0) := hb5.cell (by simp [go_sem, qr_6])
  have vr_6 : w5.frozen? ⟨w.heap.size + 1, 6, none⟩ = false := hb5.frozen (v := .int .u64 0) (by simp [go_sem, qr_6]) (by simp [go_sem, zr_6])
  have pr_7 : w5.cell? ⟨w.heap.size + 1, 7, none⟩ = some (.int .u64 0) := hb5.cell (by simp [go_sem, qr_7])
  have vr_7 : w5.frozen? ⟨w.heap.size + 1, 7, none⟩ = false := hb5.frozen (v := .int .u64 0) (by simp [go_sem, qr_7]) (by simp [go_sem, zr_7])
  have pr_8 : w5.cell? ⟨w.heap.size + 1, 8, none⟩ = some (.int .u64 0) := hb5.cell (by simp [go_sem, qr_8])
  have vr_8 : w5.frozen? ⟨w.heap.size + 1, 8, none⟩ = false := hb5.frozen (v := .int .u64 0) (by simp [go_sem, qr_8]) (by simp [go_sem, zr_8])
  have pr_9 : w5.cell? ⟨w.heap.size + 1, 9, none⟩ = some (.int .u64 0) := hb5.cell (by simp [go_sem, qr_9])
  have vr_9 : w5.frozen? ⟨w.heap.size + 1, 9, none⟩ = false := hb5.frozen (v := .int .u64 0) (by simp [go_sem, qr_9]) (by simp [go_sem, zr_9])
  have pr_10 : w5.cell? ⟨w.heap.size + 1, 10, none⟩ = some (.slice none 0 0) := hb5.cell (by simp [go_sem, qr_10])
  have vr_10 : w5.frozen? ⟨w.heap.size + 1, 10, none⟩ = false := hb5.frozen (v := .slice none 0 0) (by simp [go_sem, qr_10]) (by simp [go_sem, zr_10])
  clear hb5 qa_0 za_0 qa_1 za_1 qa_2 za_2 qa_3 za_3 qa_4 za_4 qa_5 za_5 qa_6 za_6 qa_7 za_7 qa_8 za_8 qa_9 za_9 qa_10 za_10 qr_0 zr_0 qr_1 zr_1 qr_2 zr_2 qr_3 zr_3 qr_4 zr_4 qr_5 zr_5 qr_6 zr_6 qr_7 zr_7 qr_8 zr_8 qr_9 zr_9 qr_10 zr_10
  go_wp2
  refine bodyPost_ret (v := .tuple #[(.agg #[.int .i64 0, .int .i64 tn, .int .i64 0, .int .i64 tp, .int .i64 ((I : Int) + 1), .int .i64 0, .int .u64 tf, .int .u64 M, .int .u64 tv, .int .u64 0, .slice none 0 0]), .bool false]) (by simp [results, Tryz.results59, go_sem, pr_0, pr_1, pr_2, pr_3, pr_4, pr_5, pr_6, pr_7, pr_8, pr_9, pr_10, pa_0, pa_1, pa_2, pa_3, pa_4, pa_5, pa_6, pa_7, pa_8, pa_9, pa_10]) rfl (HG.out _ ?mid)
  case mid => repeat (first | with_reducible exact HM2.out | refine RMid.set ?_ (by simp) (by simp) _)
set_option maxRecDepth 100000 in
theorem rScan64_ze (b : Nat) (r : RY) (f : Nat → Int) (lv : Value) (log : List Acc) (t : Int) (v : Value) (xs : List Int) (I c : Nat) (tn tp tf M tv : Int) (w : World) (h : RB w b r f lv log) (hW : r.W = 64) (hv : IntsV w v xs) (hI : I < xs.length) (hx : xs.getD I 0 = c) (hk : isK r (c : Int) 1 = true) (hc : c < r.m) (hl : log.length ≤ 1000) (hn : xs.length ≤ 1000) (f0 : 0 ≤ f c) (hM : 0 ≤ M) (h0 : I = 0) (h2 : I + 1 = xs.length) :
    Calls Tryz.prog 59 #[.pointer (some ⟨b, 0, none⟩), .int .i64 t, v, (.agg #[.int .i64 0, .int .i64 tn, .int .i64 0, .int .i64 tp, .int .i64 I, .int .i64 0, .int .u64 tf, .int .u64 M, .int .u64 tv, .int .u64 0, .slice none 0 0])] w (RScanDoes b r lv f (log ++ [⟨t, 1, c, f c, f c⟩]) true tn tp 0 tf (f c) tv w) := by
  have CA := Lib.hid (fun w' (hx : Ext w w') => rLoad_yes b r f lv log t c w' (h.ext hx) hk hc hl)
  have HG : Hid (∀ w', RMid b r lv f (log ++ [⟨t, 1, c, f c, f c⟩]) w w' → RScanDoes b r lv f (log ++ [⟨t, 1, c, f c, f c⟩]) true tn tp 0 tf (f c) tv w (.returned (.tuple #[(.agg #[.int .i64 0, .int .i64 tn, .int .i64 0, .int .i64 tp, .int .i64 0, .int .i64 0, .int .u64 tf, .int .u64 (f c), .int .u64 tv, .int .u64 0, .slice none 0 0]), .bool true])) w') := Lib.hid (fun w' hm => ⟨rfl, hm.does (v := .bool true)⟩)
  have HM := Lib.hid (fun lv' w1 w2 (hx : Ext w w1) hs hR hN hA => rmid_of (f' := f) (lv' := lv') (log' := (log ++ [⟨t, 1, c, f c, f c⟩])) (w1 := w1) (w2 := w2) h hx hs hR hN hA)
  generalize RScanDoes b r lv f (log ++ [⟨t, 1, c, f c, f c⟩]) true tn tp 0 tf (f c) tv w = G at *
  obtain ⟨va, vc, ev, hf⟩ := hv.form
  subst ev
  obtain ⟨vb, vo, ea, cv⟩ := hf I hI
  subst ea
  rw [hx] at cv
  generalize hxx : f c = x at *
  have hI1 : (I : Int) < (xs.length : Int) := by omega
  have hI0 : (0 : Int) ≤ (I : Int) := by omega
  have d0 : ((I : Int) == 0) = true := by simp [h0]
  have d2 : ((I : Int) + 1 == (xs.length : Int)) = true := by simp; omega
  have hwr : IntKind.i64.wrap ((I : Int) + 1) = (I : Int) + 1 := wrapS (by omega) (by omega)
  have hlt := fun k (hk : Own b r.gh lv k) => h.lt hk
  generalize xs.length = n at *
  clear h hv hf hI hx hk hl hn h0 h2
  go_enter Tryz.func59, Tryz.ntmps59
  go_upto_region 1 with (fail)
  refine settle_wp ?_
  intro w1 hb1
  have qa_0 : w1.cell? ⟨w.heap.size, 0, none⟩ = some (.int .i64 0) := (hb1.cells.1 _ _ (by simp <;> omega)).trans (by simp [go_sem])
  have za_0 : w1.frozen? ⟨w.heap.size, 0, none⟩ = false := (hb1.cells.2 _ _ (by simp <;> omega)).trans (by simp [go_sem])
  have qa_1 : w1.cell? ⟨w.heap.size, 1, none⟩ = some (.int .i64 tn) := (hb1.cells.1 _ _ (by simp <;> omega)).trans (by simp [go_sem])
  have za_1 : w1.frozen? ⟨w.heap.size, 1, none⟩ = false := (hb1.cells.2 _ _ (by simp <;> omega)).trans (by simp [go_sem])
  have qa_2 : w1.cell? ⟨w.heap.size, 2, none⟩ = some (.int .i64 0) := (hb1.cells.1 _ _ (by simp <;> omega)).trans (by simp [go_sem])
  have za_2 : w1.frozen? ⟨w.heap.size, 2, none⟩ = false := (hb1.cells.2 _ _ (by simp <;> omega)).trans (by simp [go_sem])
  have qa_3 : w1.cell? ⟨w.heap.size, 3, none⟩ = some (.int .i64 tp) := (hb1.cells.1 _ _ (by simp <;> omega)).trans (by simp [go_sem])
  have za_3 : w1.frozen? ⟨w.heap.size, 3, none⟩ = false := (hb1.cells.2 _ _ (by simp <;> omega)).trans (by simp [go_sem])
  have qa_4 : w1.cell? ⟨w.heap.size, 4, none⟩ = some (.int .i64 I) := (hb1.cells.1 _ _ (by simp <;> omega)).trans (by simp [go_sem])
  have za_4 : w1.frozen? ⟨w.heap.size, 4, none⟩ = false := (hb1.cells.2 _ _ (by simp <;> omega)).trans (by simp [go_sem])
  have qa_5 : w1.cell? ⟨w.heap.size, 5, none⟩ = some (.int .i64 0) := (hb1.cells.1 _ _ (by simp <;> omega)).trans (by simp [go_sem])
  have za_5 : w1.frozen? ⟨w.heap.size, 5, none⟩ = false := (hb1.cells.2 _ _ (by simp <;> omega)).trans (by simp [go_sem])
  have qa_6 : w1.cell? ⟨w.heap.size, 6, none⟩ = some (.int .u64 tf) := (hb1.cells.1 _ _ (by simp <;> omega)).trans (by simp [go_sem])
  have za_6 : w1.frozen? ⟨w.heap.size, 6, none⟩ = false := (hb1.cells.2 _ _ (by simp <;> omega)).trans (by simp [go_sem])
  have qa_7 : w1.cell? ⟨w.heap.size, 7, none⟩ = some (.int .u64 M) := (hb1.cells.1 _ _ (by simp <;> omega)).trans (by simp [go_sem])
  have za_7 : w1.frozen? ⟨w.heap.size, 7, none⟩ = false := (hb1.cells.2 _ _ (by simp <;> omega)).trans (by simp [go_sem])
  have qa_8 : w1.cell? ⟨w.heap.size, 8, none⟩ = some (.int .u64 tv) := (hb1.cells.1 _ _ (by simp <;> omega)).trans (by simp [go_sem])
  have za_8 : w1.frozen? ⟨w.heap.size, 8, none⟩ = false := (hb1.cells.2 _ _ (by simp <;> omega)).trans (by simp [go_sem])
  have qa_9 : w1.cell? ⟨w.heap.size, 9, none⟩ = some (.int .u64 0) := (hb1.cells.1 _ _ (by simp <;> omega)).trans (by simp [go_sem])
  have za_9 : w1.frozen? ⟨w.heap.size, 9, none⟩ = false := (hb1.cells.2 _ _ (by simp <;> omega)).trans (by simp [go_sem])
  have qa_10 : w1.cell? ⟨w.heap.size, 10, none⟩ = some (.slice none 0 0) := (hb1.cells.1 _ _ (by simp <;> omega)).trans (by simp [go_sem])
  have za_10 : w1.frozen? ⟨w.heap.size, 10, none⟩ = false := (hb1.cells.2 _ _ (by simp <;> omega)).trans (by simp [go_sem])
  have pa := World.block_lt_of_cell? _ ⟨w.heap.size, 0, none⟩ qa_0
  have ra := Nat.lt_succ_of_lt pa
  have qr_0 : w1.cell? ⟨(w.heap.size + 1), 0, none⟩ = some (.int .i64 0) := (hb1.cells.1 _ _ (by simp <;> omega)).trans (by simp [go_sem])
  have zr_0 : w1.frozen? ⟨(w.heap.size + 1), 0, none⟩ = false := (hb1.cells.2 _ _ (by simp <;> omega)).trans (by simp [go_sem])
  have qr_1 : w1.cell? ⟨(w.heap.size + 1), 1, none⟩ = some (.int .i64 0) := (hb1.cells.1 _ _ (by simp <;> omega)).trans (by simp [go_sem])
  have zr_1 : w1.frozen? ⟨(w.heap.size + 1), 1, none⟩ = false := (hb1.cells.2 _ _ (by simp <;> omega)).trans (by simp [go_sem])
  have qr_2 : w1.cell? ⟨(w.heap.size + 1), 2, none⟩ = some (.int .i64 0) := (hb1.cells.1 _ _ (by simp <;> omega)).trans (by simp [go_sem])
  have zr_2 : w1.frozen? ⟨(w.heap.size + 1), 2, none⟩ = false := (hb1.cells.2 _ _ (by simp <;> omega)).trans (by simp [go_sem])
  have qr_3 : w1.cell? ⟨(w.heap.size + 1), 3, none⟩ = some (.int .i64 0) := (hb1.cells.1 _ _ (by simp <;> omega)).trans (by simp [go_sem])
  have zr_3 : w1.frozen? ⟨(w.heap.size + 1), 3, none⟩ = false := (hb1.cells.2 _ _ (by simp <;> omega)).trans (by simp [go_sem])
  have qr_4 : w1.cell? ⟨(w.heap.size + 1), 4, none⟩ = some (.int .i64 0) := (hb1.cells.1 _ _ (by simp <;> omega)).trans (by simp [go_sem])
  have zr_4 : w1.frozen? ⟨(w.heap.size + 1), 4, none⟩ = false := (hb1.cells.2 _ _ (by simp <;> omega)).trans (by simp [go_sem])
  have qr_5 : w1.cell? ⟨(w.heap.size + 1), 5, none⟩ = some (.int .i64 0) := (hb1.cells.1 _ _ (by simp <;> omega)).trans (by simp [go_sem])
  have zr_5 : w1.frozen? ⟨(w.heap.size + 1), 5, none⟩ = false := (hb1.cells.2 _ _ (by simp <;> omega)).trans (by simp [go_sem])
  have qr_6 : w1.cell? ⟨(w.heap.size + 1), 6, none⟩ = some (.int .u64 0) := (hb1.cells.1 _ _ (by simp <;> omega)).trans (by simp [go_sem])
  have zr_6 : w1.frozen? ⟨(w.heap.size + 1), 6, none⟩ = false := (hb1.cells.2 _ _ (by simp <;> omega)).trans (by simp [go_sem])
  have qr_7 : w1.cell? ⟨(w.heap.size + 1), 7, none⟩ = some (.int .u64 0) := (hb1.cells.1 _ _ (by simp <;> omega)).trans (by simp [go_sem])
  have zr_7 : w1.frozen? ⟨(w.heap.size + 1), 7, none⟩ = false := (hb1.cells.2 _ _ (by simp <;> omega)).trans (by simp [go_sem])
  have qr_8 : w1.cell? ⟨(w.heap.size + 1), 8, none⟩ = some (.int .u64 0) := (hb1.cells.1 _ _ (by simp <;> omega)).trans (by simp [go_sem])
  have zr_8 : w1.frozen? ⟨(w.heap.size + 1), 8, none⟩ = false := (hb1.cells.2 _ _ (by simp <;> omega)).trans (by simp [go_sem])
  have qr_9 : w1.cell? ⟨(w.heap.size + 1), 9, none⟩ = some (.int .u64 0) := (hb1.cells.1 _ _ (by simp <;> omega)).trans (by simp [go_sem])
  have zr_9 : w1.frozen? ⟨(w.heap.size + 1), 9, none⟩ = false := (hb1.cells.2 _ _ (by simp <;> omega)).trans (by simp [go_sem])
  have qr_10 : w1.cell? ⟨(w.heap.size + 1), 10, none⟩ = some (.slice none 0 0) := (hb1.cells.1 _ _ (by simp <;> omega)).trans (by simp [go_sem])
  have zr_10 : w1.frozen? ⟨(w.heap.size + 1), 10, none⟩ = false := (hb1.cells.2 _ _ (by simp <;> omega)).trans (by simp [go_sem])
  have pr := World.block_lt_of_cell? _ ⟨(w.heap.size + 1), 0, none⟩ qr_0
  have rr := Nat.lt_succ_of_lt pr
  have XE : Ext w w1 := Ext.trans (Ext.alloc (Ext.alloc (Ext.refl w) _) _) hb1
  have hs1 : w.heap.size + 2 ≤ w1.heap.size := by have h1 := hb1.size; simp at h1; omega
  have na : ¬ Own b r.gh lv w.heap.size := fun hk => by have := hlt _ hk; omega
  have nr : ¬ Own b r.gh lv (w.heap.size + 1) := fun hk => by have := hlt _ hk; omega
  replace cv := XE.cell cv
  clear hb1
  go_wp2_with fail
  refine (CA.out _ XE).mono ?_
  rintro e w2 ⟨rfl, lv2, R2, N2, A2⟩
  have HM2 := Lib.hid (HM.out lv2 _ w2 XE hs1 R2 N2 A2)
  have qW := R2.q1
  rw [hW] at qW
  replace za_0 := N2.frozen qa_0 za_0 na
  replace qa_0 := N2.cell qa_0 na
  replace za_1 := N2.frozen qa_1 za_1 na
  replace qa_1 := N2.cell qa_1 na
  replace za_2 := N2.frozen qa_2 za_2 na
  replace qa_2 := N2.cell qa_2 na
  replace za_3 := N2.frozen qa_3 za_3 na
  replace qa_3 := N2.cell qa_3 na
  replace za_4 := N2.frozen qa_4 za_4 na
  replace qa_4 := N2.cell qa_4 na
  replace za_5 := N2.frozen qa_5 za_5 na
  replace qa_5 := N2.cell qa_5 na
  replace za_6 := N2.frozen qa_6 za_6 na
  replace qa_6 := N2.cell qa_6 na
  replace za_7 := N2.frozen qa_7 za_7 na
  replace qa_7 := N2.cell qa_7 na
  replace za_8 := N2.frozen qa_8 za_8 na
  replace qa_8 := N2.cell qa_8 na
  replace za_9 := N2.frozen qa_9 za_9 na
  replace qa_9 := N2.cell qa_9 na
  replace za_10 := N2.frozen qa_10 za_10 na
  replace qa_10 := N2.cell qa_10 na
  replace zr_0 := N2.frozen qr_0 zr_0 nr
  replace qr_0 := N2.cell qr_0 nr
  replace zr_1 := N2.frozen qr_1 zr_1 nr
  replace qr_1 := N2.cell qr_1 nr
  replace zr_2 := N2.frozen qr_2 zr_2 nr
  replace qr_2 := N2.cell qr_2 nr
  replace zr_3 := N2.frozen qr_3 zr_3 nr
  replace qr_3 := N2.cell qr_3 nr
  replace zr_4 := N2.frozen qr_4 zr_4 nr
  replace qr_4 := N2.cell qr_4 nr
  replace zr_5 := N2.frozen qr_5 zr_5 nr
  replace qr_5 := N2.cell qr_5 nr
  replace zr_6 := N2.frozen qr_6 zr_6 nr
  replace qr_6 := N2.cell qr_6 nr
  replace zr_7 := N2.frozen qr_7 zr_7 nr
  replace qr_7 := N2.cell qr_7 nr
  replace zr_8 := N2.frozen qr_8 zr_8 nr
  replace qr_8 := N2.cell qr_8 nr
  replace zr_9 := N2.frozen qr_9 zr_9 nr
  replace qr_9 := N2.cell qr_9 nr
  replace zr_10 := N2.frozen qr_10 zr_10 nr
  replace qr_10 := N2.cell qr_10 nr
  clear R2 N2 A2 XE cv
  go_upto_region 5 with (fail)
  have k4 := fun w' (hx : Ext w2 w') => hx.cell qa_4
  have k7 := fun w' (hx : Ext w2 w') => hx.cell qa_7
  have kW := fun w' (hx : Ext w2 w') => hx.cell qW
  refine wp_region_held_drew (S := fun w' => Ext w2 w') (by kernel_rfl) ?hbeg (fun hHeld => ?_)
  case hbeg => exact (Ext.refl w2).drew
  have hHeld0 : Ext w2 w2 := by first | exact Ext.refl _ | assumption
  first
    | (refine take_at (i := 0) (v := ?_) rfl rfl (by kernel_rfl) (by kernel_rfl) (by kernel_rfl) (fun _ _ _ h => h) (Or.inl ⟨by rfl, ?hy⟩) (by assumption) ?_
       case hy => (intro wz hSw; (try dsimp only at hSw); go_simp <;> with_reducible rfl)
       simp only [List.setIfInBounds_toArray, List.set_cons_zero, List.set_cons_succ])
    | (refine take_at (i := 0) (v := undef) rfl rfl (by kernel_rfl) (by kernel_rfl) (by kernel_rfl) (fun _ _ _ h => h) (Or.inr ⟨by rfl, rfl⟩) (by assumption) ?_
       simp only [List.setIfInBounds_toArray, List.set_cons_zero, List.set_cons_succ])
  first
    | (refine take_at (i := 1) (v := ?_) rfl rfl (by kernel_rfl) (by kernel_rfl) (by kernel_rfl) (fun _ _ _ h => h) (Or.inl ⟨by rfl, ?hy⟩) (by assumption) ?_
       case hy => (intro wz hSw; (try dsimp only at hSw); go_simp <;> with_reducible rfl)
       simp only [List.setIfInBounds_toArray, List.set_cons_zero, List.set_cons_succ])
    | (refine take_at (i := 1) (v := undef) rfl rfl (by kernel_rfl) (by kernel_rfl) (by kernel_rfl) (fun _ _ _ h => h) (Or.inr ⟨by rfl, rfl⟩) (by assumption) ?_
       simp only [List.setIfInBounds_toArray, List.set_cons_zero, List.set_cons_succ])
  first
    | (refine take_at (i := 2) (v := ?_) rfl rfl (by kernel_rfl) (by kernel_rfl) (by kernel_rfl) (fun _ _ _ h => h) (Or.inl ⟨by rfl, ?hy⟩) (by assumption) ?_
       case hy => (intro wz hSw; (try dsimp only at hSw); go_simp <;> with_reducible rfl)
       simp only [List.setIfInBounds_toArray, List.set_cons_zero, List.set_cons_succ])
    | (refine take_at (i := 2) (v := undef) rfl rfl (by kernel_rfl) (by kernel_rfl) (by kernel_rfl) (fun _ _ _ h => h) (Or.inr ⟨by rfl, rfl⟩) (by assumption) ?_
       simp only [List.setIfInBounds_toArray, List.set_cons_zero, List.set_cons_succ])
  first
    | (refine take_at (i := 3) (v := ?_) rfl rfl (by kernel_rfl) (by kernel_rfl) (by kernel_rfl) (fun _ _ _ h => h) (Or.inl ⟨by rfl, ?hy⟩) (by assumption) ?_
       case hy => (intro wz hSw; (try dsimp only at hSw); go_simp <;> with_reducible rfl)
       simp only [List.setIfInBounds_toArray, List.set_cons_zero, List.set_cons_succ])
    | (refine take_at (i := 3) (v := undef) rfl rfl (by kernel_rfl) (by kernel_rfl) (by kernel_rfl) (fun _ _ _ h => h) (Or.inr ⟨by rfl, rfl⟩) (by assumption) ?_
       simp only [List.setIfInBounds_toArray, List.set_cons_zero, List.set_cons_succ])
  first
    | (refine take_at (i := 4) (v := ?_) rfl rfl (by kernel_rfl) (by kernel_rfl) (by kernel_rfl) (fun _ _ _ h => h) (Or.inl ⟨by rfl, ?hy⟩) (by assumption) ?_
       case hy => (intro wz hSw; (try dsimp only at hSw); go_simp <;> with_reducible rfl)
       simp only [List.setIfInBounds_toArray, List.set_cons_zero, List.set_cons_succ])
    | (refine take_at (i := 4) (v := undef) rfl rfl (by kernel_rfl) (by kernel_rfl) (by kernel_rfl) (fun _ _ _ h => h) (Or.inr ⟨by rfl, rfl⟩) (by assumption) ?_
       simp only [List.setIfInBounds_toArray, List.set_cons_zero, List.set_cons_succ])
  first
    | (refine take_at (i := 5) (v := ?_) rfl rfl (by kernel_rfl) (by kernel_rfl) (by kernel_rfl) (fun _ _ _ h => h) (Or.inl ⟨by rfl, ?hy⟩) (by assumption) ?_
       case hy => (intro wz hSw; (try dsimp only at hSw); go_simp <;> with_reducible rfl)
       simp only [List.setIfInBounds_toArray, List.set_cons_zero, List.set_cons_succ])
    | (refine take_at (i := 5) (v := undef) rfl rfl (by kernel_rfl) (by kernel_rfl) (by kernel_rfl) (fun _ _ _ h => h) (Or.inr ⟨by rfl, rfl⟩) (by assumption) ?_
       simp only [List.setIfInBounds_toArray, List.set_cons_zero, List.set_cons_succ])
  first
    | (refine take_at (i := 6) (v := ?_) rfl rfl (by kernel_rfl) (by kernel_rfl) (by kernel_rfl) (fun _ _ _ h => h) (Or.inl ⟨by rfl, ?hy⟩) (by assumption) ?_
       case hy => (intro wz hSw; (try dsimp only at hSw); go_simp <;> with_reducible rfl)
       simp only [List.setIfInBounds_toArray, List.set_cons_zero, List.set_cons_succ])
    | (refine take_at (i := 6) (v := undef) rfl rfl (by kernel_rfl) (by kernel_rfl) (by kernel_rfl) (fun _ _ _ h => h) (Or.inr ⟨by rfl, rfl⟩) (by assumption) ?_
       simp only [List.setIfInBounds_toArray, List.set_cons_zero, List.set_cons_succ])
  first
    | (refine take_at (i := 7) (v := ?_) rfl rfl (by kernel_rfl) (by kernel_rfl) (by kernel_rfl) (fun _ _ _ h => h) (Or.inl ⟨by rfl, ?hy⟩) (by assumption) ?_
       case hy => (intro wz hSw; (try dsimp only at hSw); go_simp <;> with_reducible rfl)
       simp only [List.setIfInBounds_toArray, List.set_cons_zero, List.set_cons_succ])
    | (refine take_at (i := 7) (v := undef) rfl rfl (by kernel_rfl) (by kernel_rfl) (by kernel_rfl) (fun _ _ _ h => h) (Or.inr ⟨by rfl, rfl⟩) (by assumption) ?_
       simp only [List.setIfInBounds_toArray, List.set_cons_zero, List.set_cons_succ])
  first
    | (refine take_at (i := 8) (v := ?_) rfl rfl (by kernel_rfl) (by kernel_rfl) (by kernel_rfl) (fun _ _ _ h => h) (Or.inl ⟨by rfl, ?hy⟩) (by assumption) ?_
       case hy => (intro wz hSw; (try dsimp only at hSw); go_simp <;> with_reducible rfl)
       simp only [List.setIfInBounds_toArray, List.set_cons_zero, List.set_cons_succ])
    | (refine take_at (i := 8) (v := undef) rfl rfl (by kernel_rfl) (by kernel_rfl) (by kernel_rfl) (fun _ _ _ h => h) (Or.inr ⟨by rfl, rfl⟩) (by assumption) ?_
       simp only [List.setIfInBounds_toArray, List.set_cons_zero, List.set_cons_succ])
  first
    | (refine take_at (i := 9) (v := ?_) rfl rfl (by kernel_rfl) (by kernel_rfl) (by kernel_rfl) (fun _ _ _ h => h) (Or.inl ⟨by rfl, ?hy⟩) (by assumption) ?_
       case hy => (intro wz hSw; (try dsimp only at hSw); go_simp <;> with_reducible rfl)
       simp only [List.setIfInBounds_toArray, List.set_cons_zero, List.set_cons_succ])
    | (refine take_at (i := 9) (v := undef) rfl rfl (by kernel_rfl) (by kernel_rfl) (by kernel_rfl) (fun _ _ _ h => h) (Or.inr ⟨by rfl, rfl⟩) (by assumption) ?_
       simp only [List.setIfInBounds_toArray, List.set_cons_zero, List.set_cons_succ])
  first
    | (refine take_at (i := 10) (v := ?_) rfl rfl (by kernel_rfl) (by kernel_rfl) (by kernel_rfl) (fun _ _ _ h => h) (Or.inl ⟨by rfl, ?hy⟩) (by assumption) ?_
       case hy => (intro wz hSw; (try dsimp only at hSw); go_simp <;> with_reducible rfl)
       simp only [List.setIfInBounds_toArray, List.set_cons_zero, List.set_cons_succ])
    | (refine take_at (i := 10) (v := undef) rfl rfl (by kernel_rfl) (by kernel_rfl) (by kernel_rfl) (fun _ _ _ h => h) (Or.inr ⟨by rfl, rfl⟩) (by assumption) ?_
       simp only [List.setIfInBounds_toArray, List.set_cons_zero, List.set_cons_succ])
  first
    | (refine take_at (i := 11) (v := ?_) rfl rfl (by kernel_rfl) (by kernel_rfl) (by kernel_rfl) (fun _ _ _ h => h) (Or.inl ⟨by rfl, ?hy⟩) (by assumption) ?_
       case hy => (intro wz hSw; (try dsimp only at hSw); go_simp <;> with_reducible rfl)
       simp only [List.setIfInBounds_toArray, List.set_cons_zero, List.set_cons_succ])
    | (refine take_at (i := 11) (v := undef) rfl rfl (by kernel_rfl) (by kernel_rfl) (by kernel_rfl) (fun _ _ _ h => h) (Or.inr ⟨by rfl, rfl⟩) (by assumption) ?_
       simp only [List.setIfInBounds_toArray, List.set_cons_zero, List.set_cons_succ])
  first
    | (refine take_at (i := 12) (v := ?_) rfl rfl (by kernel_rfl) (by kernel_rfl) (by kernel_rfl) (fun _ _ _ h => h) (Or.inl ⟨by rfl, ?hy⟩) (by assumption) ?_
       case hy => (intro wz hSw; (try dsimp only at hSw); go_simp <;> with_reducible rfl)
       simp only [List.setIfInBounds_toArray, List.set_cons_zero, List.set_cons_succ])
    | (refine take_at (i := 12) (v := undef) rfl rfl (by kernel_rfl) (by kernel_rfl) (by kernel_rfl) (fun _ _ _ h => h) (Or.inr ⟨by rfl, rfl⟩) (by assumption) ?_
       simp only [List.setIfInBounds_toArray, List.set_cons_zero, List.set_cons_succ])
  first
    | (refine take_at (i := 13) (v := ?_) rfl rfl (by kernel_rfl) (by kernel_rfl) (by kernel_rfl) (fun _ _ _ h => h) (Or.inl ⟨by rfl, ?hy⟩) (by assumption) ?_
       case hy => (intro wz hSw; (try dsimp only at hSw); go_simp <;> with_reducible rfl)
       simp only [List.setIfInBounds_toArray, List.set_cons_zero, List.set_cons_succ])
    | (refine take_at (i := 13) (v := undef) rfl rfl (by kernel_rfl) (by kernel_rfl) (by kernel_rfl) (fun _ _ _ h => h) (Or.inr ⟨by rfl, rfl⟩) (by assumption) ?_
       simp only [List.setIfInBounds_toArray, List.set_cons_zero, List.set_cons_succ])
  first
    | (refine take_at (i := 14) (v := ?_) rfl rfl (by kernel_rfl) (by kernel_rfl) (by kernel_rfl) (fun _ _ _ h => h) (Or.inl ⟨by rfl, ?hy⟩) (by assumption) ?_
       case hy => (intro wz hSw; (try dsimp only at hSw); go_simp <;> with_reducible rfl)
       simp only [List.setIfInBounds_toArray, List.set_cons_zero, List.set_cons_succ])
    | (refine take_at (i := 14) (v := undef) rfl rfl (by kernel_rfl) (by kernel_rfl) (by kernel_rfl) (fun _ _ _ h => h) (Or.inr ⟨by rfl, rfl⟩) (by assumption) ?_
       simp only [List.setIfInBounds_toArray, List.set_cons_zero, List.set_cons_succ])
  refine wpAnyH_done (by kernel_rfl) ?_ _
  go_upto_region 6 with (fail)
  refine settle_wp ?_
  intro w3 hb3
  have hH := Ext.trans hHeld hb3
  replace HM2 := Lib.hid (HM2.out.ext hH)
  replace za_0 := hH.frozen qa_0 za_0
  replace qa_0 := hH.cell qa_0
  replace za_1 := hH.frozen qa_1 za_1
  replace qa_1 := hH.cell qa_1
  replace za_2 := hH.frozen qa_2 za_2
  replace qa_2 := hH.cell qa_2
  replace za_3 := hH.frozen qa_3 za_3
  replace qa_3 := hH.cell qa_3
  replace za_4 := hH.frozen qa_4 za_4
  replace qa_4 := hH.cell qa_4
  replace za_5 := hH.frozen qa_5 za_5
  replace qa_5 := hH.cell qa_5
  replace za_6 := hH.frozen qa_6 za_6
  replace qa_6 := hH.cell qa_6
  replace za_7 := hH.frozen qa_7 za_7
  replace qa_7 := hH.cell qa_7
  replace za_8 := hH.frozen qa_8 za_8
  replace qa_8 := hH.cell qa_8
  replace za_9 := hH.frozen qa_9 za_9
  replace qa_9 := hH.cell qa_9
  replace za_10 := hH.frozen qa_10 za_10
  replace qa_10 := hH.cell qa_10
  replace zr_0 := hH.frozen qr_0 zr_0
  replace qr_0 := hH.cell qr_0
  replace zr_1 := hH.frozen qr_1 zr_1
  replace qr_1 := hH.cell qr_1
  replace zr_2 := hH.frozen qr_2 zr_2
  replace qr_2 := hH.cell qr_2
  replace zr_3 := hH.frozen qr_3 zr_3
  replace qr_3 := hH.cell qr_3
  replace zr_4 := hH.frozen qr_4 zr_4
  replace qr_4 := hH.cell qr_4
  replace zr_5 := hH.frozen qr_5 zr_5
  replace qr_5 := hH.cell qr_5
  replace zr_6 := hH.frozen qr_6 zr_6
  replace qr_6 := hH.cell qr_6
  replace zr_7 := hH.frozen qr_7 zr_7
  replace qr_7 := hH.cell qr_7
  replace zr_8 := hH.frozen qr_8 zr_8
  replace qr_8 := hH.cell qr_8
  replace zr_9 := hH.frozen qr_9 zr_9
  replace qr_9 := hH.cell qr_9
  replace zr_10 := hH.frozen qr_10 zr_10
  replace qr_10 := hH.cell qr_10
  clear k4 k7 kW qW hHeld hH hb3
  go_upto_region 10 with (fail)
  refine settle_wp ?_
  intro w5 hb5
  replace HM2 := Lib.hid ((((HM2.out.set (p := ⟨w.heap.size, 7, none⟩) (by simp) (by simp) (.int .u64 x)).set (p := ⟨w.heap.size, 4, none⟩) (by simp) (by simp) (.int .i64 ((I : Int) + 1))).set (p := ⟨w.heap.size, 4, none⟩) (by simp) (by simp) (.int .i64 0)).ext hb5)
  have pa_0 : w5.cell? ⟨w.heap.size, 0, none⟩ = some (.int .i64 0) := hb5.cell (by simp (maxDischargeDepth := 40) [go_sem, set_some, set_same, qa_0])
  have pa_1 : w5.cell? ⟨w.heap.size, 1, none⟩ = some (.int .i64 tn) := hb5.cell (by simp (maxDischargeDepth := 40) [go_sem, set_some, set_same, qa_1])
  have pa_2 : w5.cell? ⟨w.heap.size, 2, none⟩ = some (.int .i64 0) := hb5.cell (by simp (maxDischargeDepth := 40) [go_sem, set_some, set_same, qa_2])
  have pa_3 : w5.cell? ⟨w.heap.size, 3, none⟩ = some (.int .i64 tp) := hb5.cell (by simp (maxDischargeDepth := 40) [go_sem, set_some, set_same, qa_3])
  have pa_4 : w5.cell? ⟨w.heap.size, 4, none⟩ = some (.int .i64 0) := hb5.cell (by simp (maxDischargeDepth := 40) [go_sem, set_some, set_same, qa_4])
  have pa_5 : w5.cell? ⟨w.heap.size, 5, none⟩ = some (.int .i64 0) := hb5.cell (by simp (maxDischargeDepth := 40) [go_sem, set_some, set_same, qa_5])
  have pa_6 : w5.cell? ⟨w.heap.size, 6, none⟩ = some (.int .u64 tf) := hb5.cell (by simp (maxDischargeDepth := 40) [go_sem, set_some, set_same, qa_6])
  have pa_7 : w5.cell? ⟨w.heap.size, 7, none⟩ = some (.int .u64 x) := hb5.cell (by simp (maxDischargeDepth := 40) [go_sem, set_some, set_same, qa_7])
  have pa_8 : w5.cell? ⟨w.heap.size, 8, none⟩ = some (.int .u64 tv) := hb5.cell (by simp (maxDischargeDepth := 40) [go_sem, set_some, set_same, qa_8])
  have pa_9 : w5.cell? ⟨w.heap.size, 9, none⟩ = some (.int .u64 0) := hb5.cell (by simp (maxDischargeDepth := 40) [go_sem, set_some, set_same, qa_9])
  have pa_10 : w5.cell? ⟨w.heap.size, 10, none⟩ = some (.slice none 0 0) := hb5.cell (by simp (maxDischargeDepth := 40) [go_sem, set_some, set_same, qa_10])
  have pr_0 : w5.cell? ⟨w.heap.size + 1, 0, none⟩ = some (.int .i64 0) := hb5.cell (by simp [go_sem, qr_0])
  have vr_0 : w5.frozen? ⟨w.heap.size + 1, 0, none⟩ = false := hb5.frozen (v := .int .i64 0) (by simp [go_sem, qr_0]) (by simp [go_sem, zr_0])
  have pr_1 : w5.cell? ⟨w.heap.size + 1, 1, none⟩ = some (.int .i64 0) := hb5.cell (by simp [go_sem, qr_1])
  have vr_1 : w5.frozen? ⟨w.heap.size + 1, 1, none⟩ = false := hb5.frozen (v := .int .i64 0) (by simp [go_sem, qr_1]) (by simp [go_sem, zr_1])
  have pr_2 : w5.cell? ⟨w.heap.size + 1, 2, none⟩ = some (.int .i64 0) := hb5.cell (by simp [go_sem, qr_2])
  have vr_2 : w5.frozen? ⟨w.heap.size + 1, 2, none⟩ = false := hb5.frozen (v := .int .i64 0) (by simp [go_sem, qr_2]) (by simp [go_sem, zr_2])
  have pr_3 : w5.cell? ⟨w.heap.size + 1, 3, none⟩ = some (.int .i64 0) := hb5.cell (by simp [go_sem, qr_3])
  have vr_3 : w5.frozen? ⟨w.heap.size + 1, 3, none⟩ = false := hb5.frozen (v := .int .i64 0) (by simp [go_sem, qr_3]) (by simp [go_sem, zr_3])
  have pr_4 : w5.cell? ⟨w.heap.size + 1, 4, none⟩ = some (.int .i64 0) := hb5.cell (by simp [go_sem, qr_4])
  have vr_4 : w5.frozen? ⟨w.heap.size + 1, 4, none⟩ = false := hb5.frozen (v := .int .i64 0) (by simp [go_sem, qr_4]) (by simp [go_sem, zr_4])
  have pr_5 : w5.cell? ⟨w.heap.size + 1, 5, none⟩ = some (.int .i64 0) := hb5.cell (by simp [go_sem, qr_5])
  have vr_5 : w5.frozen? ⟨w.heap.size + 1, 5, none⟩ = false := hb5.frozen (v := .int .i64 0) (by simp [go_sem, qr_5]) (by simp [go_sem, zr_5])
  have pr_6 : w5.cell? ⟨w.heap.size + 1, 6, none⟩ = some (.int .u64 0) := hb5.cell (by simp [go_sem, qr_6])
  have vr_6 : w5.frozen? ⟨w.heap.size + 1, 6, none⟩ = false := hb5.frozen (v := .int .u64 0) (by simp [go_sem, qr_6]) (by simp [go_sem, zr_6])
  have pr_7 : w5.cell? ⟨w.heap.size + 1, 7, none⟩ = some (.int .u64 0) := hb5.cell (by simp [go_sem, qr_7])
  have vr_7 : w5.frozen? ⟨w.heap.size + 1, 7, none⟩ = false := hb5.frozen (v := .int .u64 0) (by simp [go_sem, qr_7]) (by simp [go_sem, zr_7])
  have pr_8 : w5.cell? ⟨w.heap.size + 1, 8, none⟩ = some (.int .u64 0) := hb5.cell (by simp [go_sem, qr_8])
  have vr_8 : w5.frozen? ⟨w.heap.size + 1, 8, none⟩ = false := hb5.frozen (v := .int .u64 0) (by simp [go_sem, qr_8]) (by simp [go_sem, zr_8])
  have pr_9 : w5.cell? ⟨w.heap.size + 1, 9, none⟩ = some (.int .u64 0) := hb5.cell (by simp [go_sem, qr_9])
  have vr_9 : w5.frozen? ⟨w.heap.size + 1, 9, none⟩ = false := hb5.frozen (v := .int .u64 0) (by simp [go_sem, qr_9]) (by simp [go_sem, zr_9])
  have pr_10 : w5.cell? ⟨w.heap.size + 1, 10, none⟩ = some (.slice none 0 0) := hb5.cell (by simp [go_sem, qr_10])
  have vr_10 : w5.frozen? ⟨w.heap.size + 1, 10, none⟩ = false := hb5.frozen (v := .slice none 0 0) (by simp [go_sem, qr_10]) (by simp [go_sem, zr_10])
  clear hb5 qa_0 za_0 qa_1 za_1 qa_2 za_2 qa_3 za_3 qa_4 za_4 qa_5 za_5 qa_6 za_6 qa_7 za_7 qa_8 za_8 qa_9 za_9 qa_10 za_10 qr_0 zr_0 qr_1 zr_1 qr_2 zr_2 qr_3 zr_3 qr_4 zr_4 qr_5 zr_5 qr_6 zr_6 qr_7 zr_7 qr_8 zr_8 qr_9 zr_9 qr_10 zr_10
  go_wp2
  refine bodyPost_ret (v := .tuple #[(.agg #[.int .i64 0, .int .i64 tn, .int .i64 0, .int .i64 tp, .int .i64 0, .int .i64 0, .int .u64 tf, .int .u64 x, .int .u64 tv, .int .u64 0, .slice none 0 0]), .bool true]) (by simp [results, Tryz.results59, go_sem, pr_0, pr_1, pr_2, pr_3, pr_4, pr_5, pr_6, pr_7, pr_8, pr_9, pr_10, pa_0, pa_1, pa_2, pa_3, pa_4, pa_5, pa_6, pa_7, pa_8, pa_9, pa_10]) rfl (HG.out _ ?mid)
  case mid => repeat (first | with_reducible exact HM2.out | refine RMid.set ?_ (by simp) (by simp) _)
set_option maxRecDepth 100000 in
theorem rScan64_zc (b : Nat) (r : RY) (f : Nat → Int) (lv : Value) (log : List Acc) (t : Int) (v : Value) (xs : List Int) (I c : Nat) (tn tp tf M tv : Int) (w : World) (h : RB w b r f lv log) (hW : r.W = 64) (hv : IntsV w v xs) (hI : I < xs.length) (hx : xs.getD I 0 = c) (hk : isK r (c : Int) 1 = true) (hc : c < r.m) (hl : log.length ≤ 1000) (hn : xs.length ≤ 1000) (f0 : 0 ≤ f c) (hM : 0 ≤ M) (h0 : I = 0) (h2 : I + 1 < xs.length) :
    Calls Tryz.prog 59 #[.pointer (some ⟨b, 0, none⟩), .int .i64 t, v, (.agg #[.int .i64 0, .int .i64 tn, .int .i64 0, .int .i64 tp, .int .i64 I, .int .i64 0, .int .u64 tf, .int .u64 M, .int .u64 tv, .int .u64 0, .slice none 0 0])] w (RScanDoes b r lv f (log ++ [⟨t, 1, c, f c, f c⟩]) false tn tp ((I : Int) + 1) tf (f c) tv w) := by
  have CA := Lib.hid (fun w' (hx : Ext w w') => rLoad_yes b r f lv log t c w' (h.ext hx) hk hc hl)
  have HG : Hid (∀ w', RMid b r lv f (log ++ [⟨t, 1, c, f c, f c⟩]) w w' → RScanDoes b r lv f (log ++ [⟨t, 1, c, f c, f c⟩]) false tn tp ((I : Int) + 1) tf (f c) tv w (.returned (.tuple #[(.agg #[.int .i64 0, .int .i64 tn, .int .i64 0, .int .i64 tp, .int .i64 ((I : Int) + 1), .int .i64 0, .int .u64 tf, .int .u64 (f c), .int .u64 tv, .int .u64 0, .slice none 0 0]), .bool false])) w') := Lib.hid (fun w' hm => ⟨rfl, hm.does (v := .bool true)⟩)
  have HM := Lib.hid (fun lv' w1 w2 (hx : Ext w w1) hs hR hN hA => rmid_of (f' := f) (lv' := lv') (log' := (log ++ [⟨t, 1, c, f c, f c⟩])) (w1 := w1) (w2 := w2) h hx hs hR hN hA)
  generalize RScanDoes b r lv f (log ++ [⟨t, 1, c, f c, f c⟩]) false tn tp ((I : Int) + 1) tf (f c) tv w = G at *
  obtain ⟨va, vc, ev, hf⟩ := hv.form
  subst ev
  obtain ⟨vb, vo, ea, cv⟩ := hf I hI
  subst ea
  rw [hx] at cv
  generalize hxx : f c = x at *
  have hI1 : (I : Int) < (xs.length : Int) := by omega
  have hI0 : (0 : Int) ≤ (I : Int) := by omega
  have d0 : ((I : Int) == 0) = true := by simp [h0]
  have d2 : ((I : Int) + 1 == (xs.length : Int)) = false := by simp; omega
  have hwr : IntKind.i64.wrap ((I : Int) + 1) = (I : Int) + 1 := wrapS (by omega) (by omega)
  have hlt := fun k (hk : Own b r.gh lv k) => h.lt hk
  generalize xs.length = n at *
  clear h hv hf hI hx hk hl hn h0 h2
  go_enter Tryz.func59, Tryz.ntmps59
  go_upto_region 1 with (fail)
  refine settle_wp ?_
  intro w1 hb1
  have qa_0 : w1.cell? ⟨w.heap.size, 0, none⟩ = some (.int .i64 0) := (hb1.cells.1 _ _ (by simp <;> omega)).trans (by simp [go_sem])
  have za_0 : w1.frozen? ⟨w.heap.size, 0, none⟩ = false := (hb1.cells.2 _ _ (by simp <;> omega)).trans (by simp [go_sem])
  have qa_1 : w1.cell? ⟨w.heap.size, 1, none⟩ = some (.int .i64 tn) := (hb1.cells.1 _ _ (by simp <;> omega)).trans (by simp [go_sem])
  have za_1 : w1.frozen? ⟨w.heap.size, 1, none⟩ = false := (hb1.cells.2 _ _ (by simp <;> omega)).trans (by simp [go_sem])
  have qa_2 : w1.cell? ⟨w.heap.size, 2, none⟩ = some (.int .i64 0) := (hb1.cells.1 _ _ (by simp <;> omega)).trans (by simp [go_sem])
  have za_2 : w1.frozen? ⟨w.heap.size, 2, none⟩ = false := (hb1.cells.2 _ _ (by simp <;> omega)).trans (by simp [go_sem])
  have qa_3 : w1.cell? ⟨w.heap.size, 3, none⟩ = some (.int .i64 tp) := (hb1.cells.1 _ _ (by simp <;> omega)).trans (by simp [go_sem])
  have za_3 : w1.frozen? ⟨w.heap.size, 3, none⟩ = false := (hb1.cells.2 _ _ (by simp <;> omega)).trans (by simp [go_sem])
  have qa_4 : w1.cell? ⟨w.heap.size, 4, none⟩ = some (.int .i64 I) := (hb1.cells.1 _ _ (by simp <;> omega)).trans (by simp [go_sem])
  have za_4 : w1.frozen? ⟨w.heap.size, 4, none⟩ = false := (hb1.cells.2 _ _ (by simp <;> omega)).trans (by simp [go_sem])
  have qa_5 : w1.cell? ⟨w.heap.size, 5, none⟩ = some (.int .i64 0) := (hb1.cells.1 _ _ (by simp <;> omega)).trans (by simp [go_sem])
  have za_5 : w1.frozen? ⟨w.heap.size, 5, none⟩ = false := (hb1.cells.2 _ _ (by simp <;> omega)).trans (by simp [go_sem])
  have qa_6 : w1.cell? ⟨w.heap.size, 6, none⟩ = some (.int .u64 tf) := (hb1.cells.1 _ _ (by simp <;> omega)).trans (by simp [go_sem])
  have za_6 : w1.frozen? ⟨w.heap.size, 6, none⟩ = false := (hb1.cells.2 _ _ (by simp <;> omega)).trans (by simp [go_sem])
  have qa_7 : w1.cell? ⟨w.heap.size, 7, none⟩ = some (.int .u64 M) := (hb1.cells.1 _ _ (by simp <;> omega)).trans (by simp [go_sem])
  have za_7 : w1.frozen? ⟨w.heap.size, 7, none⟩ = false := (hb1.cells.2 _ _ (by simp <;> omega)).trans (by simp [go_sem])
  have qa_8 : w1.cell? ⟨w.heap.size, 8, none⟩ = some (.int .u64 tv) := (hb1.cells.1 _ _ (by simp <;> omega)).trans (by simp [go_sem])
  have za_8 : w1.frozen? ⟨w.heap.size, 8, none⟩ = false := (hb1.cells.2 _ _ (by simp <;> omega)).trans (by simp [go_sem])
  have qa_9 : w1.cell? ⟨w.heap.size, 9, none⟩ = some (.int .u64 0) := (hb1.cells.1 _ _ (by simp <;> omega)).trans (by simp [go_sem])
  have za_9 : w1.frozen? ⟨w.heap.size, 9, none⟩ = false := (hb1.cells.2 _ _ (by simp <;> omega)).trans (by simp [go_sem])
  have qa_10 : w1.cell? ⟨w.heap.size, 10, none⟩ = some (.slice none 0 0) := (hb1.cells.1 _ _ (by simp <;> omega)).trans (by simp [go_sem])
  have za_10 : w1.frozen? ⟨w.heap.size, 10, none⟩ = false := (hb1.cells.2 _ _ (by simp <;> omega)).trans (by simp [go_sem])
  have pa := World.block_lt_of_cell? _ ⟨w.heap.size, 0, none⟩ qa_0
  have ra := Nat.lt_succ_of_lt pa
  have qr_0 : w1.cell? ⟨(w.heap.size + 1), 0, none⟩ = some (.int .i64 0) := (hb1.cells.1 _ _ (by simp <;> omega)).trans (by simp [go_sem])
  have zr_0 : w1.frozen? ⟨(w.heap.size + 1), 0, none⟩ = false := (hb1.cells.2 _ _ (by simp <;> omega)).trans (by simp [go_sem])
  have qr_1 : w1.cell? ⟨(w.heap.size + 1), 1, none⟩ = some (.int .i64 0) := (hb1.cells.1 _ _ (by simp <;> omega)).trans (by simp [go_sem])
  have zr_1 : w1.frozen? ⟨(w.heap.size + 1), 1, none⟩ = false := (hb1.cells.2 _ _ (by simp <;> omega)).trans (by simp [go_sem])
  have qr_2 : w1.cell? ⟨(w.heap.size + 1), 2, none⟩ = some (.int .i64 0) := (hb1.cells.1 _ _ (by simp <;> omega)).trans (by simp [go_sem])
  have zr_2 : w1.frozen? ⟨(w.heap.size + 1), 2, none⟩ = false := (hb1.cells.2 _ _ (by simp <;> omega)).trans (by simp [go_sem])
  have qr_3 : w1.cell? ⟨(w.heap.size + 1), 3, none⟩ = some (.int .i64 0) := (hb1.cells.1 _ _ (by simp <;> omega)).trans (by simp [go_sem])
  have zr_3 : w1.frozen? ⟨(w.heap.size + 1), 3, none⟩ = false := (hb1.cells.2 _ _ (by simp <;> omega)).trans (by simp [go_sem])
  have qr_4 : w1.cell? ⟨(w.heap.size + 1), 4, none⟩ = some (.int .i64 0) := (hb1.cells.1 _ _ (by simp <;> omega)).trans (by simp [go_sem])
  have zr_4 : w1.frozen? ⟨(w.heap.size + 1), 4, none⟩ = false := (hb1.cells.2 _ _ (by simp <;> omega)).trans (by simp [go_sem])
  have qr_5 : w1.cell? ⟨(w.heap.size + 1), 5, none⟩ = some (.int .i64 0) := (hb1.cells.1 _ _ (by simp <;> omega)).trans (by simp [go_sem])
  have zr_5 : w1.frozen? ⟨(w.heap.size + 1), 5, none⟩ = false := (hb1.cells.2 _ _ (by simp <;> omega)).trans (by simp [go_sem])
  have qr_6 : w1.cell? ⟨(w.heap.size + 1), 6, none⟩ = some (.int .u64 0) := (hb1.cells.1 _ _ (by simp <;> omega)).trans (by simp [go_sem])
  have zr_6 : w1.frozen? ⟨(w.heap.size + 1), 6, none⟩ = false := (hb1.cells.2 _ _ (by simp <;> omega)).trans (by simp [go_sem])
  have qr_7 : w1.cell? ⟨(w.heap.size + 1), 7, none⟩ = some (.int .u64 0) := (hb1.cells.1 _ _ (by simp <;> omega)).trans (by simp [go_sem])
  have zr_7 : w1.frozen? ⟨(w.heap.size + 1), 7, none⟩ = false := (hb1.cells.2 _ _ (by simp <;> omega)).trans (by simp [go_sem])
  have qr_8 : w1.cell? ⟨(w.heap.size + 1), 8, none⟩ = some (.int .u64 0) := (hb1.cells.1 _ _ (by simp <;> omega)).trans (by simp [go_sem])
  have zr_8 : w1.frozen? ⟨(w.heap.size + 1), 8, none⟩ = false := (hb1.cells.2 _ _ (by simp <;> omega)).trans (by simp [go_sem])
  have qr_9 : w1.cell? ⟨(w.heap.size + 1), 9, none⟩ = some (.int .u64 0) := (hb1.cells.1 _ _ (by simp <;> omega)).trans (by simp [go_sem])
  have zr_9 : w1.frozen? ⟨(w.heap.size + 1), 9, none⟩ = false := (hb1.cells.2 _ _ (by simp <;> omega)).trans (by simp [go_sem])
  have qr_10 : w1.cell? ⟨(w.heap.size + 1), 10, none⟩ = some (.slice none 0 0) := (hb1.cells.1 _ _ (by simp <;> omega)).trans (by simp [go_sem])
  have zr_10 : w1.frozen? ⟨(w.heap.size + 1), 10, none⟩ = false := (hb1.cells.2 _ _ (by simp <;> omega)).trans (by simp [go_sem])
  have pr := World.block_lt_of_cell? _ ⟨(w.heap.size + 1), 0, none⟩ qr_0
  have rr := Nat.lt_succ_of_lt pr
  have XE : Ext w w1 := Ext.trans (Ext.alloc (Ext.alloc (Ext.refl w) _) _) hb1
  have hs1 : w.heap.size + 2 ≤ w1.heap.size := by have h1 := hb1.size; simp at h1; omega
  have na : ¬ Own b r.gh lv w.heap.size := fun hk => by have := hlt _ hk; omega
  have nr : ¬ Own b r.gh lv (w.heap.size + 1) := fun hk => by have := hlt _ hk; omega
  replace cv := XE.cell cv
  clear hb1
  go_wp2_with fail
  refine (CA.out _ XE).mono ?_
  rintro e w2 ⟨rfl, lv2, R2, N2, A2⟩
  have HM2 := Lib.hid (HM.out lv2 _ w2 XE hs1 R2 N2 A2)
  have qW := R2.q1
  rw [hW] at qW
  replace za_0 := N2.frozen qa_0 za_0 na
  replace qa_0 := N2.cell qa_0 na
  replace za_1 := N2.frozen qa_1 za_1 na
  replace qa_1 := N2.cell qa_1 na
  replace za_2 := N2.frozen qa_2 za_2 na
  replace qa_2 := N2.cell qa_2 na
  replace za_3 := N2.frozen qa_3 za_3 na
  replace qa_3 := N2.cell qa_3 na
  replace za_4 := N2.frozen qa_4 za_4 na
  replace qa_4 := N2.cell qa_4 na
  replace za_5 := N2.frozen qa_5 za_5 na
  replace qa_5 := N2.cell qa_5 na
  replace za_6 := N2.frozen qa_6 za_6 na
  replace qa_6 := N2.cell qa_6 na
  replace za_7 := N2.frozen qa_7 za_7 na
  replace qa_7 := N2.cell qa_7 na
  replace za_8 := N2.frozen qa_8 za_8 na
  replace qa_8 := N2.cell qa_8 na
  replace za_9 := N2.frozen qa_9 za_9 na
  replace qa_9 := N2.cell qa_9 na
  replace za_10 := N2.frozen qa_10 za_10 na
  replace qa_10 := N2.cell qa_10 na
  replace zr_0 := N2.frozen qr_0 zr_0 nr
  replace qr_0 := N2.cell qr_0 nr
  replace zr_1 := N2.frozen qr_1 zr_1 nr
  replace qr_1 := N2.cell qr_1 nr
  replace zr_2 := N2.frozen qr_2 zr_2 nr
  replace qr_2 := N2.cell qr_2 nr
  replace zr_3 := N2.frozen qr_3 zr_3 nr
  replace qr_3 := N2.cell qr_3 nr
  replace zr_4 := N2.frozen qr_4 zr_4 nr
  replace qr_4 := N2.cell qr_4 nr
  replace zr_5 := N2.frozen qr_5 zr_5 nr
  replace qr_5 := N2.cell qr_5 nr
  replace zr_6 := N2.frozen qr_6 zr_6 nr
  replace qr_6 := N2.cell qr_6 nr
  replace zr_7 := N2.frozen qr_7 zr_7 nr
  replace qr_7 := N2.cell qr_7 nr
  replace zr_8 := N2.frozen qr_8 zr_8 nr
  replace qr_8 := N2.cell qr_8 nr
  replace zr_9 := N2.frozen qr_9 zr_9 nr
  replace qr_9 := N2.cell qr_9 nr
  replace zr_10 := N2.frozen qr_10 zr_10 nr
  replace qr_10 := N2.cell qr_10 nr
  clear R2 N2 A2 XE cv
  go_upto_region 5 with (fail)
  have k4 := fun w' (hx : Ext w2 w') => hx.cell qa_4
  have k7 := fun w' (hx : Ext w2 w') => hx.cell qa_7
  have kW := fun w' (hx : Ext w2 w') => hx.cell qW
  refine wp_region_held_drew (S := fun w' => Ext w2 w') (by kernel_rfl) ?hbeg (fun hHeld => ?_)
  case hbeg => exact (Ext.refl w2).drew
  have hHeld0 : Ext w2 w2 := by first | exact Ext.refl _ | assumption
  first
    | (refine take_at (i := 0) (v := ?_) rfl rfl (by kernel_rfl) (by kernel_rfl) (by kernel_rfl) (fun _ _ _ h => h) (Or.inl ⟨by rfl, ?hy⟩) (by assumption) ?_
       case hy => (intro wz hSw; (try dsimp only at hSw); go_simp <;> with_reducible rfl)
       simp only [List.setIfInBounds_toArray, List.set_cons_zero, List.set_cons_succ])
    | (refine take_at (i := 0) (v := undef) rfl rfl (by kernel_rfl) (by kernel_rfl) (by kernel_rfl) (fun _ _ _ h => h) (Or.inr ⟨by rfl, rfl⟩) (by assumption) ?_
       simp only [List.setIfInBounds_toArray, List.set_cons_zero, List.set_cons_succ])
  first
    | (refine take_at (i := 1) (v := ?_) rfl rfl (by kernel_rfl) (by kernel_rfl) (by kernel_rfl) (fun _ _ _ h => h) (Or.inl ⟨by rfl, ?hy⟩) (by assumption) ?_
       case hy => (intro wz hSw; (try dsimp only at hSw); go_simp <;> with_reducible rfl)
       simp only [List.setIfInBounds_toArray, List.set_cons_zero, List.set_cons_succ])
    | (refine take_at (i := 1) (v := undef) rfl rfl (by kernel_rfl) (by kernel_rfl) (by kernel_rfl) (fun _ _ _ h => h) (Or.inr ⟨by rfl, rfl⟩) (by assumption) ?_
       simp only [List.setIfInBounds_toArray, List.set_cons_zero, List.set_cons_succ])
  first
    | (refine take_at (i := 2) (v := ?_) rfl rfl (by kernel_rfl) (by kernel_rfl) (by kernel_rfl) (fun _ _ _ h => h) (Or.inl ⟨by rfl, ?hy⟩) (by assumption) ?_
       case hy => (intro wz hSw; (try dsimp only at hSw); go_simp <;> with_reducible rfl)
       simp only [List.setIfInBounds_toArray, List.set_cons_zero, List.set_cons_succ])
    | (refine take_at (i := 2) (v := undef) rfl rfl (by kernel_rfl) (by kernel_rfl) (by kernel_rfl) (fun _ _ _ h => h) (Or.inr ⟨by rfl, rfl⟩) (by assumption) ?_
       simp only [List.setIfInBounds_toArray, List.set_cons_zero, List.set_cons_succ])
  first
    | (refine take_at (i := 3) (v := ?_) rfl rfl (by kernel_rfl) (by kernel_rfl) (by kernel_rfl) (fun _ _ _ h => h) (Or.inl ⟨by rfl, ?hy⟩) (by assumption) ?_
       case hy => (intro wz hSw; (try dsimp only at hSw); go_simp <;> with_reducible rfl)
       simp only [List.setIfInBounds_toArray, List.set_cons_zero, List.set_cons_succ])
    | (refine take_at (i := 3) (v := undef) rfl rfl (by kernel_rfl) (by kernel_rfl) (by kernel_rfl) (fun _ _ _ h => h) (Or.inr ⟨by rfl, rfl⟩) (by assumption) ?_
       simp only [List.setIfInBounds_toArray, List.set_cons_zero, List.set_cons_succ])
  first
    | (refine take_at (i := 4) (v := ?_) rfl rfl (by kernel_rfl) (by kernel_rfl) (by kernel_rfl) (fun _ _ _ h => h) (Or.inl ⟨by rfl, ?hy⟩) (by assumption) ?_
       case hy => (intro wz hSw; (try dsimp only at hSw); go_simp <;> with_reducible rfl)
       simp only [List.setIfInBounds_toArray, List.set_cons_zero, List.set_cons_succ])
    | (refine take_at (i := 4) (v := undef) rfl rfl (by kernel_rfl) (by kernel_rfl) (by kernel_rfl) (fun _ _ _ h => h) (Or.inr ⟨by rfl, rfl⟩) (by assumption) ?_
       simp only [List.setIfInBounds_toArray, List.set_cons_zero, List.set_cons_succ])
  first
    | (refine take_at (i := 5) (v := ?_) rfl rfl (by kernel_rfl) (by kernel_rfl) (by kernel_rfl) (fun _ _ _ h => h) (Or.inl ⟨by rfl, ?hy⟩) (by assumption) ?_
       case hy => (intro wz hSw; (try dsimp only at hSw); go_simp <;> with_reducible rfl)
       simp only [List.setIfInBounds_toArray, List.set_cons_zero, List.set_cons_succ])
    | (refine take_at (i := 5) (v := undef) rfl rfl (by kernel_rfl) (by kernel_rfl) (by kernel_rfl) (fun _ _ _ h => h) (Or.inr ⟨by rfl, rfl⟩) (by assumption) ?_
       simp only [List.setIfInBounds_toArray, List.set_cons_zero, List.set_cons_succ])
  first
    | (refine take_at (i := 6) (v := ?_) rfl rfl (by kernel_rfl) (by kernel_rfl) (by kernel_rfl) (fun _ _ _ h => h) (Or.inl ⟨by rfl, ?hy⟩) (by assumption) ?_
       case hy => (intro wz hSw; (try dsimp only at hSw); go_simp <;> with_reducible rfl)
       simp only [List.setIfInBounds_toArray, List.set_cons_zero, List.set_cons_succ])
    | (refine take_at (i := 6) (v := undef) rfl rfl (by kernel_rfl) (by kernel_rfl) (by kernel_rfl) (fun _ _ _ h => h) (Or.inr ⟨by rfl, rfl⟩) (by assumption) ?_
       simp only [List.setIfInBounds_toArray, List.set_cons_zero, List.set_cons_succ])
  first
    | (refine take_at (i := 7) (v := ?_) rfl rfl (by kernel_rfl) (by kernel_rfl) (by kernel_rfl) (fun _ _ _ h => h) (Or.inl ⟨by rfl, ?hy⟩) (by assumption) ?_
       case hy => (intro wz hSw; (try dsimp only at hSw); go_simp <;> with_reducible rfl)
       simp only [List.setIfInBounds_toArray, List.set_cons_zero, List.set_cons_succ])
    | (refine take_at (i := 7) (v := undef) rfl rfl (by kernel_rfl) (by kernel_rfl) (by kernel_rfl) (fun _ _ _ h => h) (Or.inr ⟨by rfl, rfl⟩) (by assumption) ?_
       simp only [List.setIfInBounds_toArray, List.set_cons_zero, List.set_cons_succ])
  first
    | (refine take_at (i := 8) (v := ?_) rfl rfl (by kernel_rfl) (by kernel_rfl) (by kernel_rfl) (fun _ _ _ h => h) (Or.inl ⟨by rfl, ?hy⟩) (by assumption) ?_
       case hy => (intro wz hSw; (try dsimp only at hSw); go_simp <;> with_reducible rfl)
       simp only [List.setIfInBounds_toArray, List.set_cons_zero, List.set_cons_succ])
    | (refine take_at (i := 8) (v := undef) rfl rfl (by kernel_rfl) (by kernel_rfl) (by kernel_rfl) (fun _ _ _ h => h) (Or.inr ⟨by rfl, rfl⟩) (by assumption) ?_
       simp only [List.setIfInBounds_toArray, List.set_cons_zero, List.set_cons_succ])
  first
    | (refine take_at (i := 9) (v := ?_) rfl rfl (by kernel_rfl) (by kernel_rfl) (by kernel_rfl) (fun _ _ _ h => h) (Or.inl ⟨by rfl, ?hy⟩) (by assumption) ?_
       case hy => (intro wz hSw; (try dsimp only at hSw); go_simp <;> with_reducible rfl)
       simp only [List.setIfInBounds_toArray, List.set_cons_zero, List.set_cons_succ])
    | (refine take_at (i := 9) (v := undef) rfl rfl (by kernel_rfl) (by kernel_rfl) (by kernel_rfl) (fun _ _ _ h => h) (Or.inr ⟨by rfl, rfl⟩) (by assumption) ?_
       simp only [List.setIfInBounds_toArray, List.set_cons_zero, List.set_cons_succ])
  first
    | (refine take_at (i := 10) (v := ?_) rfl rfl (by kernel_rfl) (by kernel_rfl) (by kernel_rfl) (fun _ _ _ h => h) (Or.inl ⟨by rfl, ?hy⟩) (by assumption) ?_
       case hy => (intro wz hSw; (try dsimp only at hSw); go_simp <;> with_reducible rfl)
       simp only [List.setIfInBounds_toArray, List.set_cons_zero, List.set_cons_succ])
    | (refine take_at (i := 10) (v := undef) rfl rfl (by kernel_rfl) (by kernel_rfl) (by kernel_rfl) (fun _ _ _ h => h) (Or.inr ⟨by rfl, rfl⟩) (by assumption) ?_
       simp only [List.setIfInBounds_toArray, List.set_cons_zero, List.set_cons_succ])
  first
    | (refine take_at (i := 11) (v := ?_) rfl rfl (by kernel_rfl) (by kernel_rfl) (by kernel_rfl) (fun _ _ _ h => h) (Or.inl ⟨by rfl, ?hy⟩) (by assumption) ?_
       case hy => (intro wz hSw; (try dsimp only at hSw); go_simp <;> with_reducible rfl)
       simp only [List.setIfInBounds_toArray, List.set_cons_zero, List.set_cons_succ])
    | (refine take_at (i := 11) (v := undef) rfl rfl (by kernel_rfl) (by kernel_rfl) (by kernel_rfl) (fun _ _ _ h => h) (Or.inr ⟨by rfl, rfl⟩) (by assumption) ?_
       simp only [List.setIfInBounds_toArray, List.set_cons_zero, List.set_cons_succ])
  first
    | (refine take_at (i := 12) (v := ?_) rfl rfl (by kernel_rfl) (by kernel_rfl) (by kernel_rfl) (fun _ _ _ h => h) (Or.inl ⟨by rfl, ?hy⟩) (by assumption) ?_
       case hy => (intro wz hSw; (try dsimp only at hSw); go_simp <;> with_reducible rfl)
       simp only [List.setIfInBounds_toArray, List.set_cons_zero, List.set_cons_succ])
    | (refine take_at (i := 12) (v := undef) rfl rfl (by kernel_rfl) (by kernel_rfl) (by kernel_rfl) (fun _ _ _ h => h) (Or.inr ⟨by rfl, rfl⟩) (by assumption) ?_
       simp only [List.setIfInBounds_toArray, List.set_cons_zero, List.set_cons_succ])
  first
    | (refine take_at (i := 13) (v := ?_) rfl rfl (by kernel_rfl) (by kernel_rfl) (by kernel_rfl) (fun _ _ _ h => h) (Or.inl ⟨by rfl, ?hy⟩) (by assumption) ?_
       case hy => (intro wz hSw; (try dsimp only at hSw); go_simp <;> with_reducible rfl)
       simp only [List.setIfInBounds_toArray, List.set_cons_zero, List.set_cons_succ])
    | (refine take_at (i := 13) (v := undef) rfl rfl (by kernel_rfl) (by kernel_rfl) (by kernel_rfl) (fun _ _ _ h => h) (Or.inr ⟨by rfl, rfl⟩) (by assumption) ?_
       simp only [List.setIfInBounds_toArray, List.set_cons_zero, List.set_cons_succ])
  first
    | (refine take_at (i := 14) (v := ?_) rfl rfl (by kernel_rfl) (by kernel_rfl) (by kernel_rfl) (fun _ _ _ h => h) (Or.inl ⟨by rfl, ?hy⟩) (by assumption) ?_
       case hy => (intro wz hSw; (try dsimp only at hSw); go_simp <;> with_reducible rfl)
       simp only [List.setIfInBounds_toArray, List.set_cons_zero, List.set_cons_succ])
    | (refine take_at (i := 14) (v := undef) rfl rfl (by kernel_rfl) (by kernel_rfl) (by kernel_rfl) (fun _ _ _ h => h) (Or.inr ⟨by rfl, rfl⟩) (by assumption) ?_
       simp only [List.setIfInBounds_toArray, List.set_cons_zero, List.set_cons_succ])
  refine wpAnyH_done (by kernel_rfl) ?_ _
  go_upto_region 6 with (fail)
  refine settle_wp ?_
  intro w3 hb3
  have hH := Ext.trans hHeld hb3
  replace HM2 := Lib.hid (HM2.out.ext hH)
  replace za_0 := hH.frozen qa_0 za_0
  replace qa_0 := hH.cell qa_0
  replace za_1 := hH.frozen qa_1 za_1
  replace qa_1 := hH.cell qa_1
  replace za_2 := hH.frozen qa_2 za_2
  replace qa_2 := hH.cell qa_2
  replace za_3 := hH.frozen qa_3 za_3
  replace qa_3 := hH.cell qa_3
  replace za_4 := hH.frozen qa_4 za_4
  replace qa_4 := hH.cell qa_4
  replace za_5 := hH.frozen qa_5 za_5
  replace qa_5 := hH.cell qa_5
  replace za_6 := hH.frozen qa_6 za_6
  replace qa_6 := hH.cell qa_6
  replace za_7 := hH.frozen qa_7 za_7
  replace qa_7 := hH.cell qa_7
  replace za_8 := hH.frozen qa_8 za_8
  replace qa_8 := hH.cell qa_8
  replace za_9 := hH.frozen qa_9 za_9
  replace qa_9 := hH.cell qa_9
  replace za_10 := hH.frozen qa_10 za_10
  replace qa_10 := hH.cell qa_10
  replace zr_0 := hH.frozen qr_0 zr_0
  replace qr_0 := hH.cell qr_0
  replace zr_1 := hH.frozen qr_1 zr_1
  replace qr_1 := hH.cell qr_1
  replace zr_2 := hH.frozen qr_2 zr_2
  replace qr_2 := hH.cell qr_2
  replace zr_3 := hH.frozen qr_3 zr_3
  replace qr_3 := hH.cell qr_3
  replace zr_4 := hH.frozen qr_4 zr_4
  replace qr_4 := hH.cell qr_4
  replace zr_5 := hH.frozen qr_5 zr_5
  replace qr_5 := hH.cell qr_5
  replace zr_6 := hH.frozen qr_6 zr_6
  replace qr_6 := hH.cell qr_6
  replace zr_7 := hH.frozen qr_7 zr_7
  replace qr_7 := hH.cell qr_7
  replace zr_8 := hH.frozen qr_8 zr_8
  replace qr_8 := hH.cell qr_8
  replace zr_9 := hH.frozen qr_9 zr_9
  replace qr_9 := hH.cell qr_9
  replace zr_10 := hH.frozen qr_10 zr_10
  replace qr_10 := hH.cell qr_10
  clear k4 k7 kW qW hHeld hH hb3
  go_upto_region 11 with (fail)
  refine settle_wp ?_
  intro w5 hb5
  replace HM2 := Lib.hid (((HM2.out.set (p := ⟨w.heap.size, 7, none⟩) (by simp) (by simp) (.int .u64 x)).set (p := ⟨w.heap.size, 4, none⟩) (by simp) (by simp) (.int .i64 ((I : Int) + 1))).ext hb5)
  have pa_0 : w5.cell? ⟨w.heap.size, 0, none⟩ = some (.int .i64 0) := hb5.cell (by simp (maxDischargeDepth := 40) [go_sem, set_some, set_same, qa_0])
  have pa_1 : w5.cell? ⟨w.heap.size, 1, none⟩ = some (.int .i64 tn) := hb5.cell (by simp (maxDischargeDepth := 40) [go_sem, set_some, set_same, qa_1])
  have pa_2 : w5.cell? ⟨w.heap.size, 2, none⟩ = some (.int .i64 0) := hb5.cell (by simp (maxDischargeDepth := 40) [go_sem, set_some, set_same, qa_2])
  have pa_3 : w5.cell? ⟨w.heap.size, 3, none⟩ = some (.int .i64 tp) := hb5.cell (by simp (maxDischargeDepth := 40) [go_sem, set_some, set_same, qa_3])
  have pa_4 : w5.cell? ⟨w.heap.size, 4, none⟩ = some (.int .i64 ((I : Int) + 1)) := hb5.cell (by simp (maxDischargeDepth := 40) [go_sem, set_some, set_same, qa_4])
  have pa_5 : w5.cell? ⟨w.heap.size, 5, none⟩ = some (.int .i64 0) := hb5.cell (by simp (maxDischargeDepth := 40) [go_sem, set_some, set_same, qa_5])
  have pa_6 : w5.cell? ⟨w.heap.size, 6, none⟩ = some (.int .u64 tf) := hb5.cell (by simp (maxDischargeDepth := 40) [go_sem, set_some, set_same, qa_6])
  have pa_7 : w5.cell? ⟨w.heap.size, 7, none⟩ = some (.int .u64 x) := hb5.cell (by simp (maxDischargeDepth := 40) [go_sem, set_some, set_same, qa_7])
  have pa_8 : w5.cell? ⟨w.heap.size, 8, none⟩ = some (.int .u64 tv) := hb5.cell (by simp (maxDischargeDepth := 40) [go_sem, set_some, set_same, qa_8])
  have pa_9 : w5.cell? ⟨w.heap.size, 9, none⟩ = some (.int .u64 0) := hb5.cell (by simp (maxDischargeDepth := 40) [go_sem, set_some, set_same, qa_9])
  have pa_10 : w5.cell? ⟨w.heap.size, 10, none⟩ = some (.slice none 0 0) := hb5.cell (by simp (maxDischargeDepth := 40) [go_sem, set_some, set_same, qa_10])
  have pr_0 : w5.cell? ⟨w.heap.size + 1, 0, none⟩ = some (.int .i64 0) := hb5.cell (by simp [go_sem, qr_0])
  have vr_0 : w5.frozen? ⟨w.heap.size + 1, 0, none⟩ = false := hb5.frozen (v := .int .i64 0) (by simp [go_sem, qr_0]) (by simp [go_sem, zr_0])
  have pr_1 : w5.cell? ⟨w.heap.size + 1, 1, none⟩ = some (.int .i64 0) := hb5.cell (by simp [go_sem, qr_1])
  have vr_1 : w5.frozen? ⟨w.heap.size + 1, 1, none⟩ = false := hb5.frozen (v := .int .i64 0) (by simp [go_sem, qr_1]) (by simp [go_sem, zr_1])
  have pr_2 : w5.cell? ⟨w.heap.size + 1, 2, none⟩ = some (.int .i64 0) := hb5.cell (by simp [go_sem, qr_2])
  have vr_2 : w5.frozen? ⟨w.heap.size + 1, 2, none⟩ = false := hb5.frozen (v := .int .i64 0) (by simp [go_sem, qr_2]) (by simp [go_sem, zr_2])
  have pr_3 : w5.cell? ⟨w.heap.size + 1, 3, none⟩ = some (.int .i64 0) := hb5.cell (by simp [go_sem, qr_3])
  have vr_3 : w5.frozen? ⟨w.heap.size + 1, 3, none⟩ = false := hb5.frozen (v := .int .i64 0) (by simp [go_sem, qr_3]) (by simp [go_sem, zr_3])
  have pr_4 : w5.cell? ⟨w.heap.size + 1, 4, none⟩ = some (.int .i64 0) := hb5.cell (by simp [go_sem, qr_4])
  have vr_4 : w5.frozen? ⟨w.heap.size + 1, 4, none⟩ = false := hb5.frozen (v := .int .i64 0) (by simp [go_sem, qr_4]) (by simp [go_sem, zr_4])
  have pr_5 : w5.cell? ⟨w.heap.size + 1, 5, none⟩ = some (.int .i64 0) := hb5.cell (by simp [go_sem, qr_5])
  have vr_5 : w5.frozen? ⟨w.heap.size + 1, 5, none⟩ = false := hb5.frozen (v := .int .i64 0) (by simp [go_sem, qr_5]) (by simp [go_sem, zr_5])
  have pr_6 : w5.cell? ⟨w.heap.size + 1, 6, none⟩ = some (.int .u64 0) := hb5.cell (by simp [go_sem, qr_6])
  have vr_6 : w5.frozen? ⟨w.heap.size + 1, 6, none⟩ = false := hb5.frozen (v := .int .u64 0) (by simp [go_sem, qr_6]) (by simp [go_sem, zr_6])
  have pr_7 : w5.cell? ⟨w.heap.size + 1, 7, none⟩ = some (.int .u64 0) := hb5.cell (by simp [go_sem, qr_7])
  have vr_7 : w5.frozen? ⟨w.heap.size + 1, 7, none⟩ = false := hb5.frozen (v := .int .u64 0) (by simp [go_sem, qr_7]) (by simp [go_sem, zr_7])
  have pr_8 : w5.cell? ⟨w.heap.size + 1, 8, none⟩ = some (.int .u64 0) := hb5.cell (by simp [go_sem, qr_8])
  have vr_8 : w5.frozen? ⟨w.heap.size + 1, 8, none⟩ = false := hb5.frozen (v := .int .u64 0) (by simp [go_sem, qr_8]) (by simp [go_sem, zr_8])
  have pr_9 : w5.cell? ⟨w.heap.size + 1, 9, none⟩ = some (.int .u64 0) := hb5.cell (by simp [go_sem, qr_9])
  have vr_9 : w5.frozen? ⟨w.heap.size + 1, 9, none⟩ = false := hb5.frozen (v := .int .u64 0) (by simp [go_sem, qr_9]) (by simp [go_sem, zr_9])
  have pr_10 : w5.cell? ⟨w.heap.size + 1, 10, none⟩ = some (.slice none 0 0) := hb5.cell (by simp [go_sem, qr_10])
  have vr_10 : w5.frozen? ⟨w.heap.size + 1, 10, none⟩ = false := hb5.frozen (v := .slice none 0 0) (by simp [go_sem, qr_10]) (by simp [go_sem, zr_10])
  clear hb5 qa_0 za_0 qa_1 za_1 qa_2 za_2 qa_3 za_3 qa_4 za_4 qa_5 za_5 qa_6 za_6 qa_7 za_7 qa_8 za_8 qa_9 za_9 qa_10 za_10 qr_0 zr_0 qr_1 zr_1 qr_2 zr_2 qr_3 zr_3 qr_4 zr_4 qr_5 zr_5 qr_6 zr_6 qr_7 zr_7 qr_8 zr_8 qr_9 zr_9 qr_10 zr_10
  go_wp2
  refine bodyPost_ret (v := .tuple #[(.agg #[.int .i64 0, .int .i64 tn, .int .i64 0, .int .i64 tp, .int .i64 ((I : Int) + 1), .int .i64 0, .int .u64 tf, .int .u64 x, .int .u64 tv, .int .u64 0, .slice none 0 0]), .bool false]) (by simp [results, Tryz.results59, go_sem, pr_0, pr_1, pr_2, pr_3, pr_4, pr_5, pr_6, pr_7, pr_8, pr_9, pr_10, pa_0, pa_1, pa_2, pa_3, pa_4, pa_5, pa_6, pa_7, pa_8, pa_9, pa_10]) rfl (HG.out _ ?mid)
  case mid => repeat (first | with_reducible exact HM2.out | refine RMid.set ?_ (by simp) (by simp) _)
set_option maxRecDepth 100000 in
theorem rScan64_le (b : Nat) (r : RY) (f : Nat → Int) (lv : Value) (log : List Acc) (t : Int) (v : Value) (xs : List Int) (I c : Nat) (tn tp tf M tv : Int) (w : World) (h : RB w b r f lv log) (hW : r.W = 64) (hv : IntsV w v xs) (hI : I < xs.length) (hx : xs.getD I 0 = c) (hk : isK r (c : Int) 1 = true) (hc : c < r.m) (hl : log.length ≤ 1000) (hn : xs.length ≤ 1000) (f0 : 0 ≤ f c) (hM : 0 ≤ M) (h0 : ¬ I = 0) (h1 : D64 (f c - M) < 0) (h2 : I + 1 = xs.length) :
    Calls Tryz.prog 59 #[.pointer (some ⟨b, 0, none⟩), .int .i64 t, v, (.agg #[.int .i64 0, .int .i64 tn, .int .i64 0, .int .i64 tp, .int .i64 I, .int .i64 0, .int .u64 tf, .int .u64 M, .int .u64 tv, .int .u64 0, .slice none 0 0])] w (RScanDoes b r lv f (log ++ [⟨t, 1, c, f c, f c⟩]) true tn tp 0 tf (f c) tv w) := by
  have CA := Lib.hid (fun w' (hx : Ext w w') => rLoad_yes b r f lv log t c w' (h.ext hx) hk hc hl)
  have HG : Hid (∀ w', RMid b r lv f (log ++ [⟨t, 1, c, f c, f c⟩]) w w' → RScanDoes b r lv f (log ++ [⟨t, 1, c, f c, f c⟩]) true tn tp 0 tf (f c) tv w (.returned (.tuple #[(.agg #[.int .i64 0, .int .i64 tn, .int .i64 0, .int .i64 tp, .int .i64 0, .int .i64 0, .int .u64 tf, .int .u64 (f c), .int .u64 tv, .int .u64 0, .slice none 0 0]), .bool true])) w') := Lib.hid (fun w' hm => ⟨rfl, hm.does (v := .bool true)⟩)
  have HM := Lib.hid (fun lv' w1 w2 (hx : Ext w w1) hs hR hN hA => rmid_of (f' := f) (lv' := lv') (log' := (log ++ [⟨t, 1, c, f c, f c⟩])) (w1 := w1) (w2 := w2) h hx hs hR hN hA)
  generalize RScanDoes b r lv f (log ++ [⟨t, 1, c, f c, f c⟩]) true tn tp 0 tf (f c) tv w = G at *
  obtain ⟨va, vc, ev, hf⟩ := hv.form
  subst ev
  obtain ⟨vb, vo, ea, cv⟩ := hf I hI
  subst ea
  rw [hx] at cv
  generalize hxx : f c = x at *
  have hI1 : (I : Int) < (xs.length : Int) := by omega
  have hI0 : (0 : Int) ≤ (I : Int) := by omega
  have d0 : ((I : Int) == 0) = false := by simp; omega
  have d1 : decide (D64 (x - M) < 0) = true := by simpa using h1
  have d2 : ((I : Int) + 1 == (xs.length : Int)) = true := by simp; omega
  have hwr : IntKind.i64.wrap ((I : Int) + 1) = (I : Int) + 1 := wrapS (by omega) (by omega)
  have hlt := fun k (hk : Own b r.gh lv k) => h.lt hk
  generalize xs.length = n at *
  clear h hv hf hI hx hk hl hn h0 h2 h1
  go_enter Tryz.func59, Tryz.ntmps59
  go_upto_region 1 with (fail)
  refine settle_wp ?_
  intro w1 hb1
  have qa_0 : w1.cell? ⟨w.heap.size, 0, none⟩ = some (.int .i64 0) := (hb1.cells.1 _ _ (by simp <;> omega)).trans (by simp [go_sem])
  have za_0 : w1.frozen? ⟨w.heap.size, 0, none⟩ = false := (hb1.cells.2 _ _ (by simp <;> omega)).trans (by simp [go_sem])
  have qa_1 : w1.cell? ⟨w.heap.size, 1, none⟩ = some (.int .i64 tn) := (hb1.cells.1 _ _ (by simp <;> omega)).trans (by simp [go_sem])
  have za_1 : w1.frozen? ⟨w.heap.size, 1, none⟩ = false := (hb1.cells.2 _ _ (by simp <;> omega)).trans (by simp [go_sem])
  have qa_2 : w1.cell? ⟨w.heap.size, 2, none⟩ = some (.int .i64 0) := (hb1.cells.1 _ _ (by simp <;> omega)).trans (by simp [go_sem])
  have za_2 : w1.frozen? ⟨w.heap.size, 2, none⟩ = false := (hb1.cells.2 _ _ (by simp <;> omega)).trans (by simp [go_sem])
  have qa_3 : w1.cell? ⟨w.heap.size, 3, none⟩ = some (.int .i64 tp) := (hb1.cells.1 _ _ (by simp <;> omega)).trans (by simp [go_sem])
  have za_3 : w1.frozen? ⟨w.heap.size, 3, none⟩ = false := (hb1.cells.2 _ _ (by simp <;> omega)).trans (by simp [go_sem])
  have qa_4 : w1.cell? ⟨w.heap.size, 4, none⟩ = some (.int .i64 I) := (hb1.cells.1 _ _ (by simp <;> omega)).trans (by simp [go_sem])
  have za_4 : w1.frozen? ⟨w.heap.size, 4, none⟩ = false := (hb1.cells.2 _ _ (by simp <;> omega)).trans (by simp [go_sem])
  have qa_5 : w1.cell? ⟨w.heap.size, 5, none⟩ = some (.int .i64 0) := (hb1.cells.1 _ _ (by simp <;> omega)).trans (by simp [go_sem])
  have za_5 : w1.frozen? ⟨w.heap.size, 5, none⟩ = false := (hb1.cells.2 _ _ (by simp <;> omega)).trans (by simp [go_sem])
  have qa_6 : w1.cell? ⟨w.heap.size, 6, none⟩ = some (.int .u64 tf) := (hb1.cells.1 _ _ (by simp <;> omega)).trans (by simp [go_sem])
  have za_6 : w1.frozen? ⟨w.heap.size, 6, none⟩ = false := (hb1.cells.2 _ _ (by simp <;> omega)).trans (by simp [go_sem])
  have qa_7 : w1.cell? ⟨w.heap.size, 7, none⟩ = some (.int .u64 M) := (hb1.cells.1 _ _ (by simp <;> omega)).trans (by simp [go_sem])
  have za_7 : w1.frozen? ⟨w.heap.size, 7, none⟩ = false := (hb1.cells.2 _ _ (by simp <;> omega)).trans (by simp [go_sem])
  have qa_8 : w1.cell? ⟨w.heap.size, 8, none⟩ = some (.int .u64 tv) := (hb1.cells.1 _ _ (by simp <;> omega)).trans (by simp [go_sem])
  have za_8 : w1.frozen? ⟨w.heap.size, 8, none⟩ = false := (hb1.cells.2 _ _ (by simp <;> omega)).trans (by simp [go_sem])
  have qa_9 : w1.cell? ⟨w.heap.size, 9, none⟩ = some (.int .u64 0) := (hb1.cells.1 _ _ (by simp <;> omega)).trans (by simp [go_sem])
  have za_9 : w1.frozen? ⟨w.heap.size, 9, none⟩ = false := (hb1.cells.2 _ _ (by simp <;> omega)).trans (by simp [go_sem])
  have qa_10 : w1.cell? ⟨w.heap.size, 10, none⟩ = some (.slice none 0 0) := (hb1.cells.1 _ _ (by simp <;> omega)).trans (by simp [go_sem])
  have za_10 : w1.frozen? ⟨w.heap.size, 10, none⟩ = false := (hb1.cells.2 _ _ (by simp <;> omega)).trans (by simp [go_sem])
  have pa := World.block_lt_of_cell? _ ⟨w.heap.size, 0, none⟩ qa_0
  have ra := Nat.lt_succ_of_lt pa
  have qr_0 : w1.cell? ⟨(w.heap.size + 1), 0, none⟩ = some (.int .i64 0) := (hb1.cells.1 _ _ (by simp <;> omega)).trans (by simp [go_sem])
  have zr_0 : w1.frozen? ⟨(w.heap.size + 1), 0, none⟩ = false := (hb1.cells.2 _ _ (by simp <;> omega)).trans (by simp [go_sem])
  have qr_1 : w1.cell? ⟨(w.heap.size + 1), 1, none⟩ = some (.int .i64 0) := (hb1.cells.1 _ _ (by simp <;> omega)).trans (by simp [go_sem])
  have zr_1 : w1.frozen? ⟨(w.heap.size + 1), 1, none⟩ = false := (hb1.cells.2 _ _ (by simp <;> omega)).trans (by simp [go_sem])
  have qr_2 : w1.cell? ⟨(w.heap.size + 1), 2, none⟩ = some (.int .i64 0) := (hb1.cells.1 _ _ (by simp <;> omega)).trans (by simp [go_sem])
  have zr_2 : w1.frozen? ⟨(w.heap.size + 1), 2, none⟩ = false := (hb1.cells.2 _ _ (by simp <;> omega)).trans (by simp [go_sem])
  have qr_3 : w1.cell? ⟨(w.heap.size + 1), 3, none⟩ = some (.int .i64 0) := (hb1.cells.1 _ _ (by simp <;> omega)).trans (by simp [go_sem])
  have zr_3 : w1.frozen? ⟨(w.heap.size + 1), 3, none⟩ = false := (hb1.cells.2 _ _ (by simp <;> omega)).trans (by simp [go_sem])
  have qr_4 : w1.cell? ⟨(w.heap.size + 1), 4, none⟩ = some (.int .i64 0) := (hb1.cells.1 _ _ (by simp <;> omega)).trans (by simp [go_sem])
  have zr_4 : w1.frozen? ⟨(w.heap.size + 1), 4, none⟩ = false := (hb1.cells.2 _ _ (by simp <;> omega)).trans (by simp [go_sem])
  have qr_5 : w1.cell? ⟨(w.heap.size + 1), 5, none⟩ = some (.int .i64 0) := (hb1.cells.1 _ _ (by simp <;> omega)).trans (by simp [go_sem])
  have zr_5 : w1.frozen? ⟨(w.heap.size + 1), 5, none⟩ = false := (hb1.cells.2 _ _ (by simp <;> omega)).trans (by simp [go_sem])
  have qr_6 : w1.cell? ⟨(w.heap.size + 1), 6, none⟩ = some (.int .u64 0) := (hb1.cells.1 _ _ (by simp <;> omega)).trans (by simp [go_sem])
  have zr_6 : w1.frozen? ⟨(w.heap.size + 1), 6, none⟩ = false := (hb1.cells.2 _ _ (by simp <;> omega)).trans (by simp [go_sem])
  have qr_7 : w1.cell? ⟨(w.heap.size + 1), 7, none⟩ = some (.int .u64 0) := (hb1.cells.1 _ _ (by simp <;> omega)).trans (by simp [go_sem])
  have zr_7 : w1.frozen? ⟨(w.heap.size + 1), 7, none⟩ = false := (hb1.cells.2 _ _ (by simp <;> omega)).trans (by simp [go_sem])
  have qr_8 : w1.cell? ⟨(w.heap.size + 1), 8, none⟩ = some (.int .u64 0) := (hb1.cells.1 _ _ (by simp <;> omega)).trans (by simp [go_sem])
  have zr_8 : w1.frozen? ⟨(w.heap.size + 1), 8, none⟩ = false := (hb1.cells.2 _ _ (by simp <;> omega)).trans (by simp [go_sem])
  have qr_9 : w1.cell? ⟨(w.heap.size + 1), 9, none⟩ = some (.int .u64 0) := (hb1.cells.1 _ _ (by simp <;> omega)).trans (by simp [go_sem])
  have zr_9 : w1.frozen? ⟨(w.heap.size + 1), 9, none⟩ = false := (hb1.cells.2 _ _ (by simp <;> omega)).trans (by simp [go_sem])
  have qr_10 : w1.cell? ⟨(w.heap.size + 1), 10, none⟩ = some (.slice none 0 0) := (hb1.cells.1 _ _ (by simp <;> omega)).trans (by simp [go_sem])
  have zr_10 : w1.frozen? ⟨(w.heap.size + 1), 10, none⟩ = false := (hb1.cells.2 _ _ (by simp <;> omega)).trans (by simp [go_sem])
  have pr := World.block_lt_of_cell? _ ⟨(w.heap.size + 1), 0, none⟩ qr_0
  have rr := Nat.lt_succ_of_lt pr
  have XE : Ext w w1 := Ext.trans (Ext.alloc (Ext.alloc (Ext.refl w) _) _) hb1
  have hs1 : w.heap.size + 2 ≤ w1.heap.size := by have h1 := hb1.size; simp at h1; omega
  have na : ¬ Own b r.gh lv w.heap.size := fun hk => by have := hlt _ hk; omega
  have nr : ¬ Own b r.gh lv (w.heap.size + 1) := fun hk => by have := hlt _ hk; omega
  replace cv := XE.cell cv
  clear hb1
  go_wp2_with fail
  refine (CA.out _ XE).mono ?_
  rintro e w2 ⟨rfl, lv2, R2, N2, A2⟩
  have HM2 := Lib.hid (HM.out lv2 _ w2 XE hs1 R2 N2 A2)
  have qW := R2.q1
  rw [hW] at qW
  replace za_0 := N2.frozen qa_0 za_0 na
  replace qa_0 := N2.cell qa_0 na
  replace za_1 := N2.frozen qa_1 za_1 na
  replace qa_1 := N2.cell qa_1 na
  replace za_2 := N2.frozen qa_2 za_2 na
  replace qa_2 := N2.cell qa_2 na
  replace za_3 := N2.frozen qa_3 za_3 na
  replace qa_3 := N2.cell qa_3 na
  replace za_4 := N2.frozen qa_4 za_4 na
  replace qa_4 := N2.cell qa_4 na
  replace za_5 := N2.frozen qa_5 za_5 na
  replace qa_5 := N2.cell qa_5 na
  replace za_6 := N2.frozen qa_6 za_6 na
  replace qa_6 := N2.cell qa_6 na
  replace za_7 := N2.frozen qa_7 za_7 na
  replace qa_7 := N2.cell qa_7 na
  replace za_8 := N2.frozen qa_8 za_8 na
  replace qa_8 := N2.cell qa_8 na
  replace za_9 := N2.frozen qa_9 za_9 na
  replace qa_9 := N2.cell qa_9 na
  replace za_10 := N2.frozen qa_10 za_10 na
  replace qa_10 := N2.cell qa_10 na
  replace zr_0 := N2.frozen qr_0 zr_0 nr
  replace qr_0 := N2.cell qr_0 nr
  replace zr_1 := N2.frozen qr_1 zr_1 nr
  replace qr_1 := N2.cell qr_1 nr
  replace zr_2 := N2.frozen qr_2 zr_2 nr
  replace qr_2 := N2.cell qr_2 nr
  replace zr_3 := N2.frozen qr_3 zr_3 nr
  replace qr_3 := N2.cell qr_3 nr
  replace zr_4 := N2.frozen qr_4 zr_4 nr
  replace qr_4 := N2.cell qr_4 nr
  replace zr_5 := N2.frozen qr_5 zr_5 nr
  replace qr_5 := N2.cell qr_5 nr
  replace zr_6 := N2.frozen qr_6 zr_6 nr
  replace qr_6 := N2.cell qr_6 nr
  replace zr_7 := N2.frozen qr_7 zr_7 nr
  replace qr_7 := N2.cell qr_7 nr
  replace zr_8 := N2.frozen qr_8 zr_8 nr
  replace qr_8 := N2.cell qr_8 nr
  replace zr_9 := N2.frozen qr_9 zr_9 nr
  replace qr_9 := N2.cell qr_9 nr
  replace zr_10 := N2.frozen qr_10 zr_10 nr
  replace qr_10 := N2.cell qr_10 nr
  clear R2 N2 A2 XE cv
  go_upto_region 5 with (fail)
  have k4 := fun w' (hx : Ext w2 w') => hx.cell qa_4
  have k7 := fun w' (hx : Ext w2 w') => hx.cell qa_7
  have kW := fun w' (hx : Ext w2 w') => hx.cell qW
  refine wp_region_held_drew (S := fun w' => Ext w2 w') (by kernel_rfl) ?hbeg (fun hHeld => ?_)
  case hbeg => exact (Ext.refl w2).drew
  have hHeld0 : Ext w2 w2 := by first | exact Ext.refl _ | assumption
  first
    | (refine take_at (i := 0) (v := ?_) rfl rfl (by kernel_rfl) (by kernel_rfl) (by kernel_rfl) (fun _ _ _ h => h) (Or.inl ⟨by rfl, ?hy⟩) (by assumption) ?_
       case hy => (intro wz hSw; (try dsimp only at hSw); go_simp <;> with_reducible rfl)
       simp only [List.setIfInBounds_toArray, List.set_cons_zero, List.set_cons_succ])
    | (refine take_at (i := 0) (v := undef) rfl rfl (by kernel_rfl) (by kernel_rfl) (by kernel_rfl) (fun _ _ _ h => h) (Or.inr ⟨by rfl, rfl⟩) (by assumption) ?_
       simp only [List.setIfInBounds_toArray, List.set_cons_zero, List.set_cons_succ])
  first
    | (refine take_at (i := 1) (v := ?_) rfl rfl (by kernel_rfl) (by kernel_rfl) (by kernel_rfl) (fun _ _ _ h => h) (Or.inl ⟨by rfl, ?hy⟩) (by assumption) ?_
       case hy => (intro wz hSw; (try dsimp only at hSw); go_simp <;> with_reducible rfl)
       simp only [List.setIfInBounds_toArray, List.set_cons_zero, List.set_cons_succ])
    | (refine take_at (i := 1) (v := undef) rfl rfl (by kernel_rfl) (by kernel_rfl) (by kernel_rfl) (fun _ _ _ h => h) (Or.inr ⟨by rfl, rfl⟩) (by assumption) ?_
       simp only [List.setIfInBounds_toArray, List.set_cons_zero, List.set_cons_succ])
  first
    | (refine take_at (i := 2) (v := ?_) rfl rfl (by kernel_rfl) (by kernel_rfl) (by kernel_rfl) (fun _ _ _ h => h) (Or.inl ⟨by rfl, ?hy⟩) (by assumption) ?_
       case hy => (intro wz hSw; (try dsimp only at hSw); go_simp <;> with_reducible rfl)
       simp only [List.setIfInBounds_toArray, List.set_cons_zero, List.set_cons_succ])
    | (refine take_at (i := 2) (v := undef) rfl rfl (by kernel_rfl) (by kernel_rfl) (by kernel_rfl) (fun _ _ _ h => h) (Or.inr ⟨by rfl, rfl⟩) (by assumption) ?_
       simp only [List.setIfInBounds_toArray, List.set_cons_zero, List.set_cons_succ])
  first
    | (refine take_at (i := 3) (v := ?_) rfl rfl (by kernel_rfl) (by kernel_rfl) (by kernel_rfl) (fun _ _ _ h => h) (Or.inl ⟨by rfl, ?hy⟩) (by assumption) ?_
       case hy => (intro wz hSw; (try dsimp only at hSw); go_simp <;> with_reducible rfl)
       simp only [List.setIfInBounds_toArray, List.set_cons_zero, List.set_cons_succ])
    | (refine take_at (i := 3) (v := undef) rfl rfl (by kernel_rfl) (by kernel_rfl) (by kernel_rfl) (fun _ _ _ h => h) (Or.inr ⟨by rfl, rfl⟩) (by assumption) ?_
       simp only [List.setIfInBounds_toArray, List.set_cons_zero, List.set_cons_succ])
  first
    | (refine take_at (i := 4) (v := ?_) rfl rfl (by kernel_rfl) (by kernel_rfl) (by kernel_rfl) (fun _ _ _ h => h) (Or.inl ⟨by rfl, ?hy⟩) (by assumption) ?_
       case hy => (intro wz hSw; (try dsimp only at hSw); go_simp <;> with_reducible rfl)
       simp only [List.setIfInBounds_toArray, List.set_cons_zero, List.set_cons_succ])
    | (refine take_at (i := 4) (v := undef) rfl rfl (by kernel_rfl) (by kernel_rfl) (by kernel_rfl) (fun _ _ _ h => h) (Or.inr ⟨by rfl, rfl⟩) (by assumption) ?_
       simp only [List.setIfInBounds_toArray, List.set_cons_zero, List.set_cons_succ])
  first
    | (refine take_at (i := 5) (v := ?_) rfl rfl (by kernel_rfl) (by kernel_rfl) (by kernel_rfl) (fun _ _ _ h => h) (Or.inl ⟨by rfl, ?hy⟩) (by assumption) ?_
       case hy => (intro wz hSw; (try dsimp only at hSw); go_simp <;> with_reducible rfl)
       simp only [List.setIfInBounds_toArray, List.set_cons_zero, List.set_cons_succ])
    | (refine take_at (i := 5) (v := undef) rfl rfl (by kernel_rfl) (by kernel_rfl) (by kernel_rfl) (fun _ _ _ h => h) (Or.inr ⟨by rfl, rfl⟩) (by assumption) ?_
       simp only [List.setIfInBounds_toArray, List.set_cons_zero, List.set_cons_succ])
  first
    | (refine take_at (i := 6) (v := ?_) rfl rfl (by kernel_rfl) (by kernel_rfl) (by kernel_rfl) (fun _ _ _ h => h) (Or.inl ⟨by rfl, ?hy⟩) (by assumption) ?_
       case hy => (intro wz hSw; (try dsimp only at hSw); go_simp <;> with_reducible rfl)
       simp only [List.setIfInBounds_toArray, List.set_cons_zero, List.set_cons_succ])
    | (refine take_at (i := 6) (v := undef) rfl rfl (by kernel_rfl) (by kernel_rfl) (by kernel_rfl) (fun _ _ _ h => h) (Or.inr ⟨by rfl, rfl⟩) (by assumption) ?_
       simp only [List.setIfInBounds_toArray, List.set_cons_zero, List.set_cons_succ])
  first
    | (refine take_at (i := 7) (v := ?_) rfl rfl (by kernel_rfl) (by kernel_rfl) (by kernel_rfl) (fun _ _ _ h => h) (Or.inl ⟨by rfl, ?hy⟩) (by assumption) ?_
       case hy => (intro wz hSw; (try dsimp only at hSw); go_simp <;> with_reducible rfl)
       simp only [List.setIfInBounds_toArray, List.set_cons_zero, List.set_cons_succ])
    | (refine take_at (i := 7) (v := undef) rfl rfl (by kernel_rfl) (by kernel_rfl) (by kernel_rfl) (fun _ _ _ h => h) (Or.inr ⟨by rfl, rfl⟩) (by assumption) ?_
       simp only [List.setIfInBounds_toArray, List.set_cons_zero, List.set_cons_succ])
  first
    | (refine take_at (i := 8) (v := ?_) rfl rfl (by kernel_rfl) (by kernel_rfl) (by kernel_rfl) (fun _ _ _ h => h) (Or.inl ⟨by rfl, ?hy⟩) (by assumption) ?_
       case hy => (intro wz hSw; (try dsimp only at hSw); go_simp <;> with_reducible rfl)
       simp only [List.setIfInBounds_toArray, List.set_cons_zero, List.set_cons_succ])
    | (refine take_at (i := 8) (v := undef) rfl rfl (by kernel_rfl) (by kernel_rfl) (by kernel_rfl) (fun _ _ _ h => h) (Or.inr ⟨by rfl, rfl⟩) (by assumption) ?_
       simp only [List.setIfInBounds_toArray, List.set_cons_zero, List.set_cons_succ])
  first
    | (refine take_at (i := 9) (v := ?_) rfl rfl (by kernel_rfl) (by kernel_rfl) (by kernel_rfl) (fun _ _ _ h => h) (Or.inl ⟨by rfl, ?hy⟩) (by assumption) ?_
       case hy => (intro wz hSw; (try dsimp only at hSw); go_simp <;> with_reducible rfl)
       simp only [List.setIfInBounds_toArray, List.set_cons_zero, List.set_cons_succ])
    | (refine take_at (i := 9) (v := undef) rfl rfl (by kernel_rfl) (by kernel_rfl) (by kernel_rfl) (fun _ _ _ h => h) (Or.inr ⟨by rfl, rfl⟩) (by assumption) ?_
       simp only [List.setIfInBounds_toArray, List.set_cons_zero, List.set_cons_succ])
  first
    | (refine take_at (i := 10) (v := ?_) rfl rfl (by kernel_rfl) (by kernel_rfl) (by kernel_rfl) (fun _ _ _ h => h) (Or.inl ⟨by rfl, ?hy⟩) (by assumption) ?_
       case hy => (intro wz hSw; (try dsimp only at hSw); go_simp <;> with_reducible rfl)
       simp only [List.setIfInBounds_toArray, List.set_cons_zero, List.set_cons_succ])
    | (refine take_at (i := 10) (v := undef) rfl rfl (by kernel_rfl) (by kernel_rfl) (by kernel_rfl) (fun _ _ _ h => h) (Or.inr ⟨by rfl, rfl⟩) (by assumption) ?_
       simp only [List.setIfInBounds_toArray, List.set_cons_zero, List.set_cons_succ])
  first
    | (refine take_at (i := 11) (v := ?_) rfl rfl (by kernel_rfl) (by kernel_rfl) (by kernel_rfl) (fun _ _ _ h => h) (Or.inl ⟨by rfl, ?hy⟩) (by assumption) ?_
       case hy => (intro wz hSw; (try dsimp only at hSw); go_simp <;> with_reducible rfl)
       simp only [List.setIfInBounds_toArray, List.set_cons_zero, List.set_cons_succ])
    | (refine take_at (i := 11) (v := undef) rfl rfl (by kernel_rfl) (by kernel_rfl) (by kernel_rfl) (fun _ _ _ h => h) (Or.inr ⟨by rfl, rfl⟩) (by assumption) ?_
       simp only [List.setIfInBounds_toArray, List.set_cons_zero, List.set_cons_succ])
  refine call_at (i := 12) (F := 79) (gapA64 x M _ (by omega) (by omega)) rfl rfl (by kernel_rfl) (by rfl) (by first | rfl | (go_simp <;> rfl)) ?_
  rintro e w' ⟨rfl, rfl⟩
  refine ⟨_, rfl, by assumption, ?_⟩
  simp only [List.setIfInBounds_toArray, List.set_cons_zero, List.set_cons_succ]
  first
    | (refine take_at (i := 13) (v := ?_) rfl rfl (by kernel_rfl) (by kernel_rfl) (by kernel_rfl) (fun _ _ _ h => h) (Or.inl ⟨by rfl, ?hy⟩) (by assumption) ?_
       case hy => (intro wz hSw; (try dsimp only at hSw); go_simp <;> with_reducible rfl)
       simp only [List.setIfInBounds_toArray, List.set_cons_zero, List.set_cons_succ])
    | (refine take_at (i := 13) (v := undef) rfl rfl (by kernel_rfl) (by kernel_rfl) (by kernel_rfl) (fun _ _ _ h => h) (Or.inr ⟨by rfl, rfl⟩) (by assumption) ?_
       simp only [List.setIfInBounds_toArray, List.set_cons_zero, List.set_cons_succ])
  first
    | (refine take_at (i := 14) (v := ?_) rfl rfl (by kernel_rfl) (by kernel_rfl) (by kernel_rfl) (fun _ _ _ h => h) (Or.inl ⟨by rfl, ?hy⟩) (by assumption) ?_
       case hy => (intro wz hSw; (try dsimp only at hSw); go_simp <;> with_reducible rfl)
       simp only [List.setIfInBounds_toArray, List.set_cons_zero, List.set_cons_succ])
    | (refine take_at (i := 14) (v := undef) rfl rfl (by kernel_rfl) (by kernel_rfl) (by kernel_rfl) (fun _ _ _ h => h) (Or.inr ⟨by rfl, rfl⟩) (by assumption) ?_
       simp only [List.setIfInBounds_toArray, List.set_cons_zero, List.set_cons_succ])
  refine wpAnyH_done (by kernel_rfl) ?_ _
  go_upto_region 6 with (fail)
  refine settle_wp ?_
  intro w3 hb3
  have hH := Ext.trans hHeld hb3
  replace HM2 := Lib.hid (HM2.out.ext hH)
  replace za_0 := hH.frozen qa_0 za_0
  replace qa_0 := hH.cell qa_0
  replace za_1 := hH.frozen qa_1 za_1
  replace qa_1 := hH.cell qa_1
  replace za_2 := hH.frozen qa_2 za_2
  replace qa_2 := hH.cell qa_2
  replace za_3 := hH.frozen qa_3 za_3
  replace qa_3 := hH.cell qa_3
  replace za_4 := hH.frozen qa_4 za_4
  replace qa_4 := hH.cell qa_4
  replace za_5 := hH.frozen qa_5 za_5
  replace qa_5 := hH.cell qa_5
  replace za_6 := hH.frozen qa_6 za_6
  replace qa_6 := hH.cell qa_6
  replace za_7 := hH.frozen qa_7 za_7
  replace qa_7 := hH.cell qa_7
  replace za_8 := hH.frozen qa_8 za_8
  replace qa_8 := hH.cell qa_8
  replace za_9 := hH.frozen qa_9 za_9
  replace qa_9 := hH.cell qa_9
  replace za_10 := hH.frozen qa_10 za_10
  replace qa_10 := hH.cell qa_10
  replace zr_0 := hH.frozen qr_0 zr_0
  replace qr_0 := hH.cell qr_0
  replace zr_1 := hH.frozen qr_1 zr_1
  replace qr_1 := hH.cell qr_1
  replace zr_2 := hH.frozen qr_2 zr_2
  replace qr_2 := hH.cell qr_2
  replace zr_3 := hH.frozen qr_3 zr_3
  replace qr_3 := hH.cell qr_3
  replace zr_4 := hH.frozen qr_4 zr_4
  replace qr_4 := hH.cell qr_4
  replace zr_5 := hH.frozen qr_5 zr_5
  replace qr_5 := hH.cell qr_5
  replace zr_6 := hH.frozen qr_6 zr_6
  replace qr_6 := hH.cell qr_6
  replace zr_7 := hH.frozen qr_7 zr_7
  replace qr_7 := hH.cell qr_7
  replace zr_8 := hH.frozen qr_8 zr_8
  replace qr_8 := hH.cell qr_8
  replace zr_9 := hH.frozen qr_9 zr_9
  replace qr_9 := hH.cell qr_9
  replace zr_10 := hH.frozen qr_10 zr_10
  replace qr_10 := hH.cell qr_10
  clear k4 k7 kW qW hHeld hH hb3
  go_upto_region 10 with (fail)
  refine settle_wp ?_
  intro w5 hb5
  replace HM2 := Lib.hid ((((HM2.out.set (p := ⟨w.heap.size, 7, none⟩) (by simp) (by simp) (.int .u64 x)).set (p := ⟨w.heap.size, 4, none⟩) (by simp) (by simp) (.int .i64 ((I : Int) + 1))).set (p := ⟨w.heap.size, 4, none⟩) (by simp) (by simp) (.int .i64 0)).ext hb5)
  have pa_0 : w5.cell? ⟨w.heap.size, 0, none⟩ = some (.int .i64 0) := hb5.cell (by simp (maxDischargeDepth := 40) [go_sem, set_some, set_same, qa_0])
  have pa_1 : w5.cell? ⟨w.heap.size, 1, none⟩ = some (.int .i64 tn) := hb5.cell (by simp (maxDischargeDepth := 40) [go_sem, set_some, set_same, qa_1])
  have pa_2 : w5.cell? ⟨w.heap.size, 2, none⟩ = some (.int .i64 0) := hb5.cell (by simp (maxDischargeDepth := 40) [go_sem, set_some, set_same, qa_2])
  have pa_3 : w5.cell? ⟨w.heap.size, 3, none⟩ = some (.int .i64 tp) := hb5.cell (by simp (maxDischargeDepth := 40) [go_sem, set_some, set_same, qa_3])
  have pa_4 : w5.cell? ⟨w.heap.size, 4, none⟩ = some (.int .i64 0) := hb5.cell (by simp (maxDischargeDepth := 40) [go_sem, set_some, set_same, qa_4])
  have pa_5 : w5.cell? ⟨w.heap.size, 5, none⟩ = some (.int .i64 0) := hb5.cell (by simp (maxDischargeDepth := 40) [go_sem, set_some, set_same, qa_5])
  have pa_6 : w5.cell? ⟨w.heap.size, 6, none⟩ = some (.int .u64 tf) := hb5.cell (by simp (maxDischargeDepth := 40) [go_sem, set_some, set_same, qa_6])
  have pa_7 : w5.cell? ⟨w.heap.size, 7, none⟩ = some (.int .u64 x) := hb5.cell (by simp (maxDischargeDepth := 40) [go_sem, set_some, set_same, qa_7])
  have pa_8 : w5.cell? ⟨w.heap.size, 8, none⟩ = some (.int .u64 tv) := hb5.cell (by simp (maxDischargeDepth := 40) [go_sem, set_some, set_same, qa_8])
  have pa_9 : w5.cell? ⟨w.heap.size, 9, none⟩ = some (.int .u64 0) := hb5.cell (by simp (maxDischargeDepth := 40) [go_sem, set_some, set_same, qa_9])
  have pa_10 : w5.cell? ⟨w.heap.size, 10, none⟩ = some (.slice none 0 0) := hb5.cell (by simp (maxDischargeDepth := 40) [go_sem, set_some, set_same, qa_10])
  have pr_0 : w5.cell? ⟨w.heap.size + 1, 0, none⟩ = some (.int .i64 0) := hb5.cell (by simp [go_sem, qr_0])
  have vr_0 : w5.frozen? ⟨w.heap.size + 1, 0, none⟩ = false := hb5.frozen (v := .int .i64 0) (by simp [go_sem, qr_0]) (by simp [go_sem, zr_0])
  have pr_1 : w5.cell? ⟨w.heap.size + 1, 1, none⟩ = some (.int .i64 0) := hb5.cell (by simp [go_sem, qr_1])
  have vr_1 : w5.frozen? ⟨w.heap.size + 1, 1, none⟩ = false := hb5.frozen (v := .int .i64 0) (by simp [go_sem, qr_1]) (by simp [go_sem, zr_1])
  have pr_2 : w5.cell? ⟨w.heap.size + 1, 2, none⟩ = some (.int .i64 0) := hb5.cell (by simp [go_sem, qr_2])
  have vr_2 : w5.frozen? ⟨w.heap.size + 1, 2, none⟩ = false := hb5.frozen (v := .int .i64 0) (by simp [go_sem, qr_2]) (by simp [go_sem, zr_2])
  have pr_3 : w5.cell? ⟨w.heap.size + 1, 3, none⟩ = some (.int .i64 0) := hb5.cell (by simp [go_sem, qr_3])
  have vr_3 : w5.frozen? ⟨w.heap.size + 1, 3, none⟩ = false := hb5.frozen (v := .int .i64 0) (by simp [go_sem, qr_3]) (by simp [go_sem, zr_3])
  have pr_4 : w5.cell? ⟨w.heap.size + 1, 4, none⟩ = some (.int .i64 0) := hb5.cell (by simp [go_sem, qr_4])
  have vr_4 : w5.frozen? ⟨w.heap.size + 1, 4, none⟩ = false := hb5.frozen (v := .int .i64 0) (by simp [go_sem, qr_4]) (by simp [go_sem, zr_4])
  have pr_5 : w5.cell? ⟨w.heap.size + 1, 5, none⟩ = some (.int .i64 0) := hb5.cell (by simp [go_sem, qr_5])
  have vr_5 : w5.frozen? ⟨w.heap.size + 1, 5, none⟩ = false := hb5.frozen (v := .int .i64 0) (by simp [go_sem, qr_5]) (by simp [go_sem, zr_5])
  have pr_6 : w5.cell? ⟨w.heap.size + 1, 6, none⟩ = some (.int .u64 0) := hb5.cell (by simp [go_sem, qr_6])
  have vr_6 : w5.frozen? ⟨w.heap.size + 1, 6, none⟩ = false := hb5.frozen (v := .int .u64 0) (by simp [go_sem, qr_6]) (by simp [go_sem, zr_6])
  have pr_7 : w5.cell? ⟨w.heap.size + 1, 7, none⟩ = some (.int .u64 0) := hb5.cell (by simp [go_sem, qr_7])
  have vr_7 : w5.frozen? ⟨w.heap.size + 1, 7, none⟩ = false := hb5.frozen (v := .int .u64 0) (by simp [go_sem, qr_7]) (by simp [go_sem, zr_7])
  have pr_8 : w5.cell? ⟨w.heap.size + 1, 8, none⟩ = some (.int .u64 0) := hb5.cell (by simp [go_sem, qr_8])
  have vr_8 : w5.frozen? ⟨w.heap.size + 1, 8, none⟩ = false := hb5.frozen (v := .int .u64 0) (by simp [go_sem, qr_8]) (by simp [go_sem, zr_8])
  have pr_9 : w5.cell? ⟨w.heap.size + 1, 9, none⟩ = some (.int .u64 0) := hb5.cell (by simp [go_sem, qr_9])
  have vr_9 : w5.frozen? ⟨w.heap.size + 1, 9, none⟩ = false := hb5.frozen (v := .int .u64 0) (by simp [go_sem, qr_9]) (by simp [go_sem, zr_9])
  have pr_10 : w5.cell? ⟨w.heap.size + 1, 10, none⟩ = some (.slice none 0 0) := hb5.cell (by simp [go_sem, qr_10])
  have vr_10 : w5.frozen? ⟨w.heap.size + 1, 10, none⟩ = false := hb5.frozen (v := .slice none 0 0) (by simp [go_sem, qr_10]) (by simp [go_sem, zr_10])
  clear hb5 qa_0 za_0 qa_1 za_1 qa_2 za_2 qa_3 za_3 qa_4 za_4 qa_5 za_5 qa_6 za_6 qa_7 za_7 qa_8 za_8 qa_9 za_9 qa_10 za_10 qr_0 zr_0 qr_1 zr_1 qr_2 zr_2 qr_3 zr_3 qr_4 zr_4 qr_5 zr_5 qr_6 zr_6 qr_7 zr_7 qr_8 zr_8 qr_9 zr_9 qr_10 zr_10
  go_wp2
  refine bodyPost_ret (v := .tuple #[(.agg #[.int .i64 0, .int .i64 tn, .int .i64 0, .int .i64 tp, .int .i64 0, .int .i64 0, .int .u64 tf, .int .u64 x, .int .u64 tv, .int .u64 0, .slice none 0 0]), .bool true]) (by simp [results, Tryz.results59, go_sem, pr_0, pr_1, pr_2, pr_3, pr_4, pr_5, pr_6, pr_7, pr_8, pr_9, pr_10, pa_0, pa_1, pa_2, pa_3, pa_4, pa_5, pa_6, pa_7, pa_8, pa_9, pa_10]) rfl (HG.out _ ?mid)
  case mid => repeat (first | with_reducible exact HM2.out | refine RMid.set ?_ (by simp) (by simp) _)
set_option maxRecDepth 100000 in
theorem rScan64_lc (b : Nat) (r : RY) (f : Nat → Int) (lv : Value) (log : List Acc) (t : Int) (v : Value) (xs : List Int) (I c : Nat) (tn tp tf M tv : Int) (w : World) (h : RB w b r f lv log) (hW : r.W = 64) (hv : IntsV w v xs) (hI : I < xs.length) (hx : xs.getD I 0 = c) (hk : isK r (c : Int) 1 = true) (hc : c < r.m) (hl : log.length ≤ 1000) (hn : xs.length ≤ 1000) (f0 : 0 ≤ f c) (hM : 0 ≤ M) (h0 : ¬ I = 0) (h1 : D64 (f c - M) < 0) (h2 : I + 1 < xs.length) :
    Calls Tryz.prog 59 #[.pointer (some ⟨b, 0, none⟩), .int .i64 t, v, (.agg #[.int .i64 0, .int .i64 tn, .int .i64 0, .int .i64 tp, .int .i64 I, .int .i64 0, .int .u64 tf, .int .u64 M, .int .u64 tv, .int .u64 0, .slice none 0 0])] w (RScanDoes b r lv f (log ++ [⟨t, 1, c, f c, f c⟩]) false tn tp ((I : Int) + 1) tf (f c) tv w) := by
  have CA := Lib.hid (fun w' (hx : Ext w w') => rLoad_yes b r f lv log t c w' (h.ext hx) hk hc hl)
  have HG : Hid (∀ w', RMid b r lv f (log ++ [⟨t, 1, c, f c, f c⟩]) w w' → RScanDoes b r lv f (log ++ [⟨t, 1, c, f c, f c⟩]) false tn tp ((I : Int) + 1) tf (f c) tv w (.returned (.tuple #[(.agg #[.int .i64 0, .int .i64 tn, .int .i64 0, .int .i64 tp, .int .i64 ((I : Int) + 1), .int .i64 0, .int .u64 tf, .int .u64 (f c), .int .u64 tv, .int .u64 0, .slice none 0 0]), .bool false])) w') := Lib.hid (fun w' hm => ⟨rfl, hm.does (v := .bool true)⟩)
  have HM := Lib.hid (fun lv' w1 w2 (hx : Ext w w1) hs hR hN hA => rmid_of (f' := f) (lv' := lv') (log' := (log ++ [⟨t, 1, c, f c, f c⟩])) (w1 := w1) (w2 := w2) h hx hs hR hN hA)
  generalize RScanDoes b r lv f (log ++ [⟨t, 1, c, f c, f c⟩]) false tn tp ((I : Int) + 1) tf (f c) tv w = G at *
  obtain ⟨va, vc, ev, hf⟩ := hv.form
  subst ev
  obtain ⟨vb, vo, ea, cv⟩ := hf I hI
  subst ea
  rw [hx] at cv
  generalize hxx : f c = x at *
  have hI1 : (I : Int) < (xs.length : Int) := by omega
  have hI0 : (0 : Int) ≤ (I : Int) := by omega
  have d0 : ((I : Int) == 0) = false := by simp; omega
  have d1 : decide (D64 (x - M) < 0) = true := by simpa using h1
  have d2 : ((I : Int) + 1 == (xs.length : Int)) = false := by simp; omega
  have hwr : IntKind.i64.wrap ((I : Int) + 1) = (I : Int) + 1 := wrapS (by omega) (by omega)
  have hlt := fun k (hk : Own b r.gh lv k) => h.lt hk
  generalize xs.length = n at *
  clear h hv hf hI hx hk hl hn h0 h2 h1
  go_enter Tryz.func59, Tryz.ntmps59
  go_upto_region 1 with (fail)
  refine settle_wp ?_
  intro w1 hb1
  have qa_0 : w1.cell? ⟨w.heap.size, 0, none⟩ = some (.int .i64 0) := (hb1.cells.1 _ _ (by simp <;> omega)).trans (by simp [go_sem])
  have za_0 : w1.frozen? ⟨w.heap.size, 0, none⟩ = false := (hb1.cells.2 _ _ (by simp <;> omega)).trans (by simp [go_sem])
  have qa_1 : w1.cell? ⟨w.heap.size, 1, none⟩ = some (.int .i64 tn) := (hb1.cells.1 _ _ (by simp <;> omega)).trans (by simp [go_sem])
  have za_1 : w1.frozen? ⟨w.heap.size, 1, none⟩ = false := (hb1.cells.2 _ _ (by simp <;> omega)).trans (by simp [go_sem])
  have qa_2 : w1.cell? ⟨w.heap.size, 2, none⟩ = some (.int .i64 0) := (hb1.cells.1 _ _ (by simp <;> omega)).trans (by simp [go_sem])
  have za_2 : w1.frozen? ⟨w.heap.size, 2, none⟩ = false := (hb1.cells.2 _ _ (by simp <;> omega)).trans (by simp [go_sem])
  have qa_3 : w1.cell? ⟨w.heap.size, 3, none⟩ = some (.int .i64 tp) := (hb1.cells.1 _ _ (by simp <;> omega)).trans (by simp [go_sem])
  have za_3 : w1.frozen? ⟨w.heap.size, 3, none⟩ = false := (hb1.cells.2 _ _ (by simp <;> omega)).trans (by simp [go_sem])
  have qa_4 : w1.cell? ⟨w.heap.size, 4, none⟩ = some (.int .i64 I) := (hb1.cells.1 _ _ (by simp <;> omega)).trans (by simp [go_sem])
  have za_4 : w1.frozen? ⟨w.heap.size, 4, none⟩ = false := (hb1.cells.2 _ _ (by simp <;> omega)).trans (by simp [go_sem])
  have qa_5 : w1.cell? ⟨w.heap.size, 5, none⟩ = some (.int .i64 0) := (hb1.cells.1 _ _ (by simp <;> omega)).trans (by simp [go_sem])
  have za_5 : w1.frozen? ⟨w.heap.size, 5, none⟩ = false := (hb1.cells.2 _ _ (by simp <;> omega)).trans (by simp [go_sem])
  have qa_6 : w1.cell? ⟨w.heap.size, 6, none⟩ = some (.int .u64 tf) := (hb1.cells.1 _ _ (by simp <;> omega)).trans (by simp [go_sem])
  have za_6 : w1.frozen? ⟨w.heap.size, 6, none⟩ = false := (hb1.cells.2 _ _ (by simp <;> omega)).trans (by simp [go_sem])
  have qa_7 : w1.cell? ⟨w.heap.size, 7, none⟩ = some (.int .u64 M) := (hb1.cells.1 _ _ (by simp <;> omega)).trans (by simp [go_sem])
  have za_7 : w1.frozen? ⟨w.heap.size, 7, none⟩ = false := (hb1.cells.2 _ _ (by simp <;> omega)).trans (by simp [go_sem])
  have qa_8 : w1.cell? ⟨w.heap.size, 8, none⟩ = some (.int .u64 tv) := (hb1.cells.1 _ _ (by simp <;> omega)).trans (by simp [go_sem])
  have za_8 : w1.frozen? ⟨w.heap.size, 8, none⟩ = false := (hb1.cells.2 _ _ (by simp <;> omega)).trans (by simp [go_sem])
  have qa_9 : w1.cell? ⟨w.heap.size, 9, none⟩ = some (.int .u64 0) := (hb1.cells.1 _ _ (by simp <;> omega)).trans (by simp [go_sem])
  have za_9 : w1.frozen? ⟨w.heap.size, 9, none⟩ = false := (hb1.cells.2 _ _ (by simp <;> omega)).trans (by simp [go_sem])
  have qa_10 : w1.cell? ⟨w.heap.size, 10, none⟩ = some (.slice none 0 0) := (hb1.cells.1 _ _ (by simp <;> omega)).trans (by simp [go_sem])
  have za_10 : w1.frozen? ⟨w.heap.size, 10, none⟩ = false := (hb1.cells.2 _ _ (by simp <;> omega)).trans (by simp [go_sem])
  have pa := World.block_lt_of_cell? _ ⟨w.heap.size, 0, none⟩ qa_0
  have ra := Nat.lt_succ_of_lt pa
  have qr_0 : w1.cell? ⟨(w.heap.size + 1), 0, none⟩ = some (.int .i64 0) := (hb1.cells.1 _ _ (by simp <;> omega)).trans (by simp [go_sem])
  have zr_0 : w1.frozen? ⟨(w.heap.size + 1), 0, none⟩ = false := (hb1.cells.2 _ _ (by simp <;> omega)).trans (by simp [go_sem])
  have qr_1 : w1.cell? ⟨(w.heap.size + 1), 1, none⟩ = some (.int .i64 0) := (hb1.cells.1 _ _ (by simp <;> omega)).trans (by simp [go_sem])
  have zr_1 : w1.frozen? ⟨(w.heap.size + 1), 1, none⟩ = false := (hb1.cells.2 _ _ (by simp <;> omega)).trans (by simp [go_sem])
  have qr_2 : w1.cell? ⟨(w.heap.size + 1), 2, none⟩ = some (.int .i64 0) := (hb1.cells.1 _ _ (by simp <;> omega)).trans (by simp [go_sem])
  have zr_2 : w1.frozen? ⟨(w.heap.size + 1), 2, none⟩ = false := (hb1.cells.2 _ _ (by simp <;> omega)).trans (by simp [go_sem])
  have qr_3 : w1.cell? ⟨(w.heap.size + 1), 3, none⟩ = some (.int .i64 0) := (hb1.cells.1 _ _ (by simp <;> omega)).trans (by simp [go_sem])
  have zr_3 : w1.frozen? ⟨(w.heap.size + 1), 3, none⟩ = false := (hb1.cells.2 _ _ (by simp <;> omega)).trans (by simp [go_sem])
  have qr_4 : w1.cell? ⟨(w.heap.size + 1), 4, none⟩ = some (.int .i64 0) := (hb1.cells.1 _ _ (by simp <;> omega)).trans (by simp [go_sem])
  have zr_4 : w1.frozen? ⟨(w.heap.size + 1), 4, none⟩ = false := (hb1.cells.2 _ _ (by simp <;> omega)).trans (by simp [go_sem])
  have qr_5 : w1.cell? ⟨(w.heap.size + 1), 5, none⟩ = some (.int .i64 0) := (hb1.cells.1 _ _ (by simp <;> omega)).trans (by simp [go_sem])
  have zr_5 : w1.frozen? ⟨(w.heap.size + 1), 5, none⟩ = false := (hb1.cells.2 _ _ (by simp <;> omega)).trans (by simp [go_sem])
  have qr_6 : w1.cell? ⟨(w.heap.size + 1), 6, none⟩ = some (.int .u64 0) := (hb1.cells.1 _ _ (by simp <;> omega)).trans (by simp [go_sem])
  have zr_6 : w1.frozen? ⟨(w.heap.size + 1), 6, none⟩ = false := (hb1.cells.2 _ _ (by simp <;> omega)).trans (by simp [go_sem])
  have qr_7 : w1.cell? ⟨(w.heap.size + 1), 7, none⟩ = some (.int .u64 0) := (hb1.cells.1 _ _ (by simp <;> omega)).trans (by simp [go_sem])
  have zr_7 : w1.frozen? ⟨(w.heap.size + 1), 7, none⟩ = false := (hb1.cells.2 _ _ (by simp <;> omega)).trans (by simp [go_sem])
  have qr_8 : w1.cell? ⟨(w.heap.size + 1), 8, none⟩ = some (.int .u64 0) := (hb1.cells.1 _ _ (by simp <;> omega)).trans (by simp [go_sem])
  have zr_8 : w1.frozen? ⟨(w.heap.size + 1), 8, none⟩ = false := (hb1.cells.2 _ _ (by simp <;> omega)).trans (by simp [go_sem])
  have qr_9 : w1.cell? ⟨(w.heap.size + 1), 9, none⟩ = some (.int .u64 0) := (hb1.cells.1 _ _ (by simp <;> omega)).trans (by simp [go_sem])
  have zr_9 : w1.frozen? ⟨(w.heap.size + 1), 9, none⟩ = false := (hb1.cells.2 _ _ (by simp <;> omega)).trans (by simp [go_sem])
  have qr_10 : w1.cell? ⟨(w.heap.size + 1), 10, none⟩ = some (.slice none 0 0) := (hb1.cells.1 _ _ (by simp <;> omega)).trans (by simp [go_sem])
  have zr_10 : w1.frozen? ⟨(w.heap.size + 1), 10, none⟩ = false := (hb1.cells.2 _ _ (by simp <;> omega)).trans (by simp [go_sem])
  have pr := World.block_lt_of_cell? _ ⟨(w.heap.size + 1), 0, none⟩ qr_0
  have rr := Nat.lt_succ_of_lt pr
  have XE : Ext w w1 := Ext.trans (Ext.alloc (Ext.alloc (Ext.refl w) _) _) hb1
  have hs1 : w.heap.size + 2 ≤ w1.heap.size := by have h1 := hb1.size; simp at h1; omega
  have na : ¬ Own b r.gh lv w.heap.size := fun hk => by have := hlt _ hk; omega
  have nr : ¬ Own b r.gh lv (w.heap.size + 1) := fun hk => by have := hlt _ hk; omega
  replace cv := XE.cell cv
  clear hb1
  go_wp2_with fail
  refine (CA.out _ XE).mono ?_
  rintro e w2 ⟨rfl, lv2, R2, N2, A2⟩
  have HM2 := Lib.hid (HM.out lv2 _ w2 XE hs1 R2 N2 A2)
  have qW := R2.q1
  rw [hW] at qW
  replace za_0 := N2.frozen qa_0 za_0 na
  replace qa_0 := N2.cell qa_0 na
  replace za_1 := N2.frozen qa_1 za_1 na
  replace qa_1 := N2.cell qa_1 na
  replace za_2 := N2.frozen qa_2 za_2 na
  replace qa_2 := N2.cell qa_2 na
  replace za_3 := N2.frozen qa_3 za_3 na
  replace qa_3 := N2.cell qa_3 na
  replace za_4 := N2.frozen qa_4 za_4 na
  replace qa_4 := N2.cell qa_4 na
  replace za_5 := N2.frozen qa_5 za_5 na
  replace qa_5 := N2.cell qa_5 na
  replace za_6 := N2.frozen qa_6 za_6 na
  replace qa_6 := N2.cell qa_6 na
  replace za_7 := N2.frozen qa_7 za_7 na
  replace qa_7 := N2.cell qa_7 na
  replace za_8 := N2.frozen qa_8 za_8 na
  replace qa_8 := N2.cell qa_8 na
  replace za_9 := N2.frozen qa_9 za_9 na
  replace qa_9 := N2.cell qa_9 na
  replace za_10 := N2.frozen qa_10 za_10 na
  replace qa_10 := N2.cell qa_10 na
  replace zr_0 := N2.frozen qr_0 zr_0 nr
  replace qr_0 := N2.cell qr_0 nr
  replace zr_1 := N2.frozen qr_1 zr_1 nr
  replace qr_1 := N2.cell qr_1 nr
  replace zr_2 := N2.frozen qr_2 zr_2 nr
  replace qr_2 := N2.cell qr_2 nr
  replace zr_3 := N2.frozen qr_3 zr_3 nr
  replace qr_3 := N2.cell qr_3 nr
  replace zr_4 := N2.frozen qr_4 zr_4 nr
  replace qr_4 := N2.cell qr_4 nr
  replace zr_5 := N2.frozen qr_5 zr_5 nr
  replace qr_5 := N2.cell qr_5 nr
  replace zr_6 := N2.frozen qr_6 zr_6 nr
  replace qr_6 := N2.cell qr_6 nr
  replace zr_7 := N2.frozen qr_7 zr_7 nr
  replace qr_7 := N2.cell qr_7 nr
  replace zr_8 := N2.frozen qr_8 zr_8 nr
  replace qr_8 := N2.cell qr_8 nr
  replace zr_9 := N2.frozen qr_9 zr_9 nr
  replace qr_9 := N2.cell qr_9 nr
  replace zr_10 := N2.frozen qr_10 zr_10 nr
  replace qr_10 := N2.cell qr_10 nr
  clear R2 N2 A2 XE cv
  go_upto_region 5 with (fail)
  have k4 := fun w' (hx : Ext w2 w') => hx.cell qa_4
  have k7 := fun w' (hx : Ext w2 w') => hx.cell qa_7
  have kW := fun w' (hx : Ext w2 w') => hx.cell qW
  refine wp_region_held_drew (S := fun w' => Ext w2 w') (by kernel_rfl) ?hbeg (fun hHeld => ?_)
  case hbeg => exact (Ext.refl w2).drew
  have hHeld0 : Ext w2 w2 := by first | exact Ext.refl _ | assumption
  first
    | (refine take_at (i := 0) (v := ?_) rfl rfl (by kernel_rfl) (by kernel_rfl) (by kernel_rfl) (fun _ _ _ h => h) (Or.inl ⟨by rfl, ?hy⟩) (by assumption) ?_
       case hy => (intro wz hSw; (try dsimp only at hSw); go_simp <;> with_reducible rfl)
       simp only [List.setIfInBounds_toArray, List.set_cons_zero, List.set_cons_succ])
    | (refine take_at (i := 0) (v := undef) rfl rfl (by kernel_rfl) (by kernel_rfl) (by kernel_rfl) (fun _ _ _ h => h) (Or.inr ⟨by rfl, rfl⟩) (by assumption) ?_
       simp only [List.setIfInBounds_toArray, List.set_cons_zero, List.set_cons_succ])
  first
    | (refine take_at (i := 1) (v := ?_) rfl rfl (by kernel_rfl) (by kernel_rfl) (by kernel_rfl) (fun _ _ _ h => h) (Or.inl ⟨by rfl, ?hy⟩) (by assumption) ?_
       case hy => (intro wz hSw; (try dsimp only at hSw); go_simp <;> with_reducible rfl)
       simp only [List.setIfInBounds_toArray, List.set_cons_zero, List.set_cons_succ])
    | (refine take_at (i := 1) (v := undef) rfl rfl (by kernel_rfl) (by kernel_rfl) (by kernel_rfl) (fun _ _ _ h => h) (Or.inr ⟨by rfl, rfl⟩) (by assumption) ?_
       simp only [List.setIfInBounds_toArray, List.set_cons_zero, List.set_cons_succ])
  first
    | (refine take_at (i := 2) (v := ?_) rfl rfl (by kernel_rfl) (by kernel_rfl) (by kernel_rfl) (fun _ _ _ h => h) (Or.inl ⟨by rfl, ?hy⟩) (by assumption) ?_
       case hy => (intro wz hSw; (try dsimp only at hSw); go_simp <;> with_reducible rfl)
       simp only [List.setIfInBounds_toArray, List.set_cons_zero, List.set_cons_succ])
    | (refine take_at (i := 2) (v := undef) rfl rfl (by kernel_rfl) (by kernel_rfl) (by kernel_rfl) (fun _ _ _ h => h) (Or.inr ⟨by rfl, rfl⟩) (by assumption) ?_
       simp only [List.setIfInBounds_toArray, List.set_cons_zero, List.set_cons_succ])
  first
    | (refine take_at (i := 3) (v := ?_) rfl rfl (by kernel_rfl) (by kernel_rfl) (by kernel_rfl) (fun _ _ _ h => h) (Or.inl ⟨by rfl, ?hy⟩) (by assumption) ?_
       case hy => (intro wz hSw; (try dsimp only at hSw); go_simp <;> with_reducible rfl)
       simp only [List.setIfInBounds_toArray, List.set_cons_zero, List.set_cons_succ])
    | (refine take_at (i := 3) (v := undef) rfl rfl (by kernel_rfl) (by kernel_rfl) (by kernel_rfl) (fun _ _ _ h => h) (Or.inr ⟨by rfl, rfl⟩) (by assumption) ?_
       simp only [List.setIfInBounds_toArray, List.set_cons_zero, List.set_cons_succ])
  first
    | (refine take_at (i := 4) (v := ?_) rfl rfl (by kernel_rfl) (by kernel_rfl) (by kernel_rfl) (fun _ _ _ h => h) (Or.inl ⟨by rfl, ?hy⟩) (by assumption) ?_
       case hy => (intro wz hSw; (try dsimp only at hSw); go_simp <;> with_reducible rfl)
       simp only [List.setIfInBounds_toArray, List.set_cons_zero, List.set_cons_succ])
    | (refine take_at (i := 4) (v := undef) rfl rfl (by kernel_rfl) (by kernel_rfl) (by kernel_rfl) (fun _ _ _ h => h) (Or.inr ⟨by rfl, rfl⟩) (by assumption) ?_
       simp only [List.setIfInBounds_toArray, List.set_cons_zero, List.set_cons_succ])
  first
    | (refine take_at (i := 5) (v := ?_) rfl rfl (by kernel_rfl) (by kernel_rfl) (by kernel_rfl) (fun _ _ _ h => h) (Or.inl ⟨by rfl, ?hy⟩) (by assumption) ?_
       case hy => (intro wz hSw; (try dsimp only at hSw); go_simp <;> with_reducible rfl)
       simp only [List.setIfInBounds_toArray, List.set_cons_zero, List.set_cons_succ])
    | (refine take_at (i := 5) (v := undef) rfl rfl (by kernel_rfl) (by kernel_rfl) (by kernel_rfl) (fun _ _ _ h => h) (Or.inr ⟨by rfl, rfl⟩) (by assumption) ?_
       simp only [List.setIfInBounds_toArray, List.set_cons_zero, List.set_cons_succ])
  first
    | (refine take_at (i := 6) (v := ?_) rfl rfl (by kernel_rfl) (by kernel_rfl) (by kernel_rfl) (fun _ _ _ h => h) (Or.inl ⟨by rfl, ?hy⟩) (by assumption) ?_
       case hy => (intro wz hSw; (try dsimp only at hSw); go_simp <;> with_reducible rfl)
       simp only [List.setIfInBounds_toArray, List.set_cons_zero, List.set_cons_succ])
    | (refine take_at (i := 6) (v := undef) rfl rfl (by kernel_rfl) (by kernel_rfl) (by kernel_rfl) (fun _ _ _ h => h) (Or.inr ⟨by rfl, rfl⟩) (by assumption) ?_
       simp only [List.setIfInBounds_toArray, List.set_cons_zero, List.set_cons_succ])
  first
    | (refine take_at (i := 7) (v := ?_) rfl rfl (by kernel_rfl) (by kernel_rfl) (by kernel_rfl) (fun _ _ _ h => h) (Or.inl ⟨by rfl, ?hy⟩) (by assumption) ?_
       case hy => (intro wz hSw; (try dsimp only at hSw); go_simp <;> with_reducible rfl)
       simp only [List.setIfInBounds_toArray, List.set_cons_zero, List.set_cons_succ])
    | (refine take_at (i := 7) (v := undef) rfl rfl (by kernel_rfl) (by kernel_rfl) (by kernel_rfl) (fun _ _ _ h => h) (Or.inr ⟨by rfl, rfl⟩) (by assumption) ?_
       simp only [List.setIfInBounds_toArray, List.set_cons_zero, List.set_cons_succ])
  first
    | (refine take_at (i := 8) (v := ?_) rfl rfl (by kernel_rfl) (by kernel_rfl) (by kernel_rfl) (fun _ _ _ h => h) (Or.inl ⟨by rfl, ?hy⟩) (by assumption) ?_
       case hy => (intro wz hSw; (try dsimp only at hSw); go_simp <;> with_reducible rfl)
       simp only [List.setIfInBounds_toArray, List.set_cons_zero, List.set_cons_succ])
    | (refine take_at (i := 8) (v := undef) rfl rfl (by kernel_rfl) (by kernel_rfl) (by kernel_rfl) (fun _ _ _ h => h) (Or.inr ⟨by rfl, rfl⟩) (by assumption) ?_
       simp only [List.setIfInBounds_toArray, List.set_cons_zero, List.set_cons_succ])
  first
    | (refine take_at (i := 9) (v := ?_) rfl rfl (by kernel_rfl) (by kernel_rfl) (by kernel_rfl) (fun _ _ _ h => h) (Or.inl ⟨by rfl, ?hy⟩) (by assumption) ?_
       case hy => (intro wz hSw; (try dsimp only at hSw); go_simp <;> with_reducible rfl)
       simp only [List.setIfInBounds_toArray, List.set_cons_zero, List.set_cons_succ])
    | (refine take_at (i := 9) (v := undef) rfl rfl (by kernel_rfl) (by kernel_rfl) (by kernel_rfl) (fun _ _ _ h => h) (Or.inr ⟨by rfl, rfl⟩) (by assumption) ?_
       simp only [List.setIfInBounds_toArray, List.set_cons_zero, List.set_cons_succ])
  first
    | (refine take_at (i := 10) (v := ?_) rfl rfl (by kernel_rfl) (by kernel_rfl) (by kernel_rfl) (fun _ _ _ h => h) (Or.inl ⟨by rfl, ?hy⟩) (by assumption) ?_
       case hy => (intro wz hSw; (try dsimp only at hSw); go_simp <;> with_reducible rfl)
       simp only [List.setIfInBounds_toArray, List.set_cons_zero, List.set_cons_succ])
    | (refine take_at (i := 10) (v := undef) rfl rfl (by kernel_rfl) (by kernel_rfl) (by kernel_rfl) (fun _ _ _ h => h) (Or.inr ⟨by rfl, rfl⟩) (by assumption) ?_
       simp only [List.setIfInBounds_toArray, List.set_cons_zero, List.set_cons_succ])
  first
    | (refine take_at (i := 11) (v := ?_) rfl rfl (by kernel_rfl) (by kernel_rfl) (by kernel_rfl) (fun _ _ _ h => h) (Or.inl ⟨by rfl, ?hy⟩) (by assumption) ?_
       case hy => (intro wz hSw; (try dsimp only at hSw); go_simp <;> with_reducible rfl)
       simp only [List.setIfInBounds_toArray, List.set_cons_zero, List.set_cons_succ])
    | (refine take_at (i := 11) (v := undef) rfl rfl (by kernel_rfl) (by kernel_rfl) (by kernel_rfl) (fun _ _ _ h => h) (Or.inr ⟨by rfl, rfl⟩) (by assumption) ?_
       simp only [List.setIfInBounds_toArray, List.set_cons_zero, List.set_cons_succ])
  refine call_at (i := 12) (F := 79) (gapA64 x M _ (by omega) (by omega)) rfl rfl (by kernel_rfl) (by rfl) (by first | rfl | (go_simp <;> rfl)) ?_
  rintro e w' ⟨rfl, rfl⟩
  refine ⟨_, rfl, by assumption, ?_⟩
  simp only [List.setIfInBounds_toArray, List.set_cons_zero, List.set_cons_succ]
  first
    | (refine take_at (i := 13) (v := ?_) rfl rfl (by kernel_rfl) (by kernel_rfl) (by kernel_rfl) (fun _ _ _ h => h) (Or.inl ⟨by rfl, ?hy⟩) (by assumption) ?_
       case hy => (intro wz hSw; (try dsimp only at hSw); go_simp <;> with_reducible rfl)
       simp only [List.setIfInBounds_toArray, List.set_cons_zero, List.set_cons_succ])
    | (refine take_at (i := 13) (v := undef) rfl rfl (by kernel_rfl) (by kernel_rfl) (by kernel_rfl) (fun _ _ _ h => h) (Or.inr ⟨by rfl, rfl⟩) (by assumption) ?_
       simp only [List.setIfInBounds_toArray, List.set_cons_zero, List.set_cons_succ])
  first
    | (refine take_at (i := 14) (v := ?_) rfl rfl (by kernel_rfl) (by kernel_rfl) (by kernel_rfl) (fun _ _ _ h => h) (Or.inl ⟨by rfl, ?hy⟩) (by assumption) ?_
       case hy => (intro wz hSw; (try dsimp only at hSw); go_simp <;> with_reducible rfl)
       simp only [List.setIfInBounds_toArray, List.set_cons_zero, List.set_cons_succ])
    | (refine take_at (i := 14) (v := undef) rfl rfl (by kernel_rfl) (by kernel_rfl) (by kernel_rfl) (fun _ _ _ h => h) (Or.inr ⟨by rfl, rfl⟩) (by assumption) ?_
       simp only [List.setIfInBounds_toArray, List.set_cons_zero, List.set_cons_succ])
  refine wpAnyH_done (by kernel_rfl) ?_ _
  go_upto_region 6 with (fail)
  refine settle_wp ?_
  intro w3 hb3
  have hH := Ext.trans hHeld hb3
  replace HM2 := Lib.hid (HM2.out.ext hH)
  replace za_0 := hH.frozen qa_0 za_0
  replace qa_0 := hH.cell qa_0
  replace za_1 := hH.frozen qa_1 za_1
  replace qa_1 := hH.cell qa_1
  replace za_2 := hH.frozen qa_2 za_2
  replace qa_2 := hH.cell qa_2
  replace za_3 := hH.frozen qa_3 za_3
  replace qa_3 := hH.cell qa_3
  replace za_4 := hH.frozen qa_4 za_4
  replace qa_4 := hH.cell qa_4
  replace za_5 := hH.frozen qa_5 za_5
  replace qa_5 := hH.cell qa_5
  replace za_6 := hH.frozen qa_6 za_6
  replace qa_6 := hH.cell qa_6
  replace za_7 := hH.frozen qa_7 za_7
  replace qa_7 := hH.cell qa_7
  replace za_8 := hH.frozen qa_8 za_8
  replace qa_8 := hH.cell qa_8
  replace za_9 := hH.frozen qa_9 za_9
  replace qa_9 := hH.cell qa_9
  replace za_10 := hH.frozen qa_10 za_10
  replace qa_10 := hH.cell qa_10
  replace zr_0 := hH.frozen qr_0 zr_0
  replace qr_0 := hH.cell qr_0
  replace zr_1 := hH.frozen qr_1 zr_1
  replace qr_1 := hH.cell qr_1
  replace zr_2 := hH.frozen qr_2 zr_2
  replace qr_2 := hH.cell qr_2
  replace zr_3 := hH.frozen qr_3 zr_3
  replace qr_3 := hH.cell qr_3
  replace zr_4 := hH.frozen qr_4 zr_4
  replace qr_4 := hH.cell qr_4
  replace zr_5 := hH.frozen qr_5 zr_5
  replace qr_5 := hH.cell qr_5
  replace zr_6 := hH.frozen qr_6 zr_6
  replace qr_6 := hH.cell qr_6
  replace zr_7 := hH.frozen qr_7 zr_7
  replace qr_7 := hH.cell qr_7
  replace zr_8 := hH.frozen qr_8 zr_8
  replace qr_8 := hH.cell qr_8
  replace zr_9 := hH.frozen qr_9 zr_9
  replace qr_9 := hH.cell qr_9
  replace zr_10 := hH.frozen qr_10 zr_10
  replace qr_10 := hH.cell qr_10
  clear k4 k7 kW qW hHeld hH hb3
  go_upto_region 11 with (fail)
  refine settle_wp ?_
  intro w5 hb5
  replace HM2 := Lib.hid (((HM2.out.set (p := ⟨w.heap.size, 7, none⟩) (by simp) (by simp) (.int .u64 x)).set (p := ⟨w.heap.size, 4, none⟩) (by simp) (by simp) (.int .i64 ((I : Int) + 1))).ext hb5)
  have pa_0 : w5.cell? ⟨w.heap.size, 0, none⟩ = some (.int .i64 0) := hb5.cell (by simp (maxDischargeDepth := 40) [go_sem, set_some, set_same, qa_0])
  have pa_1 : w5.cell? ⟨w.heap.size, 1, none⟩ = some (.int .i64 tn) := hb5.cell (by simp (maxDischargeDepth := 40) [go_sem, set_some, set_same, qa_1])
  have pa_2 : w5.cell? ⟨w.heap.size, 2, none⟩ = some (.int .i64 0) := hb5.cell (by simp (maxDischargeDepth := 40) [go_sem, set_some, set_same, qa_2])
  have pa_3 : w5.cell? ⟨w.heap.size, 3, none⟩ = some (.int .i64 tp) := hb5.cell (by simp (maxDischargeDepth := 40) [go_sem, set_some, set_same, qa_3])
  have pa_4 : w5.cell? ⟨w.heap.size, 4, none⟩ = some (.int .i64 ((I : Int) + 1)) := hb5.cell (by simp (maxDischargeDepth := 40) [go_sem, set_some, set_same, qa_4])
  have pa_5 : w5.cell? ⟨w.heap.size, 5, none⟩ = some (.int .i64 0) := hb5.cell (by simp (maxDischargeDepth := 40) [go_sem, set_some, set_same, qa_5])
  have pa_6 : w5.cell? ⟨w.heap.size, 6, none⟩ = some (.int .u64 tf) := hb5.cell (by simp (maxDischargeDepth := 40) [go_sem, set_some, set_same, qa_6])
  have pa_7 : w5.cell? ⟨w.heap.size, 7, none⟩ = some (.int .u64 x) := hb5.cell (by simp (maxDischargeDepth := 40) [go_sem, set_some, set_same, qa_7])
  have pa_8 : w5.cell? ⟨w.heap.size, 8, none⟩ = some (.int .u64 tv) := hb5.cell (by simp (maxDischargeDepth := 40) [go_sem, set_some, set_same, qa_8])
  have pa_9 : w5.cell? ⟨w.heap.size, 9, none⟩ = some (.int .u64 0) := hb5.cell (by simp (maxDischargeDepth := 40) [go_sem, set_some, set_same, qa_9])
  have pa_10 : w5.cell? ⟨w.heap.size, 10, none⟩ = some (.slice none 0 0) := hb5.cell (by simp (maxDischargeDepth := 40) [go_sem, set_some, set_same, qa_10])
  have pr_0 : w5.cell? ⟨w.heap.size + 1, 0, none⟩ = some (.int .i64 0) := hb5.cell (by simp [go_sem, qr_0])
  have vr_0 : w5.frozen? ⟨w.heap.size + 1, 0, none⟩ = false := hb5.frozen (v := .int .i64 0) (by simp [go_sem, qr_0]) (by simp [go_sem, zr_0])
  have pr_1 : w5.cell? ⟨w.heap.size + 1, 1, none⟩ = some (.int .i64 0) := hb5.cell (by simp [go_sem, qr_1])
  have vr_1 : w5.frozen? ⟨w.heap.size + 1, 1, none⟩ = false := hb5.frozen (v := .int .i64 0) (by simp [go_sem, qr_1]) (by simp [go_sem, zr_1])
  have pr_2 : w5.cell? ⟨w.heap.size + 1, 2, none⟩ = some (.int .i64 0) := hb5.cell (by simp [go_sem, qr_2])
  have vr_2 : w5.frozen? ⟨w.heap.size + 1, 2, none⟩ = false := hb5.frozen (v := .int .i64 0) (by simp [go_sem, qr_2]) (by simp [go_sem, zr_2])
  have pr_3 : w5.cell? ⟨w.heap.size + 1, 3, none⟩ = some (.int .i64 0) := hb5.cell (by simp [go_sem, qr_3])
  have vr_3 : w5.frozen? ⟨w.heap.size + 1, 3, none⟩ = false := hb5.frozen (v := .int .i64 0) (by simp [go_sem, qr_3]) (by simp [go_sem, zr_3])
  have pr_4 : w5.cell? ⟨w.heap.size + 1, 4, none⟩ = some (.int .i64 0) := hb5.cell (by simp [go_sem, qr_4])
  have vr_4 : w5.frozen? ⟨w.heap.size + 1, 4, none⟩ = false := hb5.frozen (v := .int .i64 0) (by simp [go_sem, qr_4]) (by simp [go_sem, zr_4])
  have pr_5 : w5.cell? ⟨w.heap.size + 1, 5, none⟩ = some (.int .i64 0) := hb5.cell (by simp [go_sem, qr_5])
  have vr_5 : w5.frozen? ⟨w.heap.size + 1, 5, none⟩ = false := hb5.frozen (v := .int .i64 0) (by simp [go_sem, qr_5]) (by simp [go_sem, zr_5])
  have pr_6 : w5.cell? ⟨w.heap.size + 1, 6, none⟩ = some (.int .u64 0) := hb5.cell (by simp [go_sem, qr_6])
  have vr_6 : w5.frozen? ⟨w.heap.size + 1, 6, none⟩ = false := hb5.frozen (v := .int .u64 0) (by simp [go_sem, qr_6]) (by simp [go_sem, zr_6])
  have pr_7 : w5.cell? ⟨w.heap.size + 1, 7, none⟩ = some (.int .u64 0) := hb5.cell (by simp [go_sem, qr_7])
  have vr_7 : w5.frozen? ⟨w.heap.size + 1, 7, none⟩ = false := hb5.frozen (v := .int .u64 0) (by simp [go_sem, qr_7]) (by simp [go_sem, zr_7])
  have pr_8 : w5.cell? ⟨w.heap.size + 1, 8, none⟩ = some (.int .u64 0) := hb5.cell (by simp [go_sem, qr_8])
  have vr_8 : w5.frozen? ⟨w.heap.size + 1, 8, none⟩ = false := hb5.frozen (v := .int .u64 0) (by simp [go_sem, qr_8]) (by simp [go_sem, zr_8])
  have pr_9 : w5.cell? ⟨w.heap.size + 1, 9, none⟩ = some (.int .u64 0) := hb5.cell (by simp [go_sem, qr_9])
  have vr_9 : w5.frozen? ⟨w.heap.size + 1, 9, none⟩ = false := hb5.frozen (v := .int .u64 0) (by simp [go_sem, qr_9]) (by simp [go_sem, zr_9])
  have pr_10 : w5.cell? ⟨w.heap.size + 1, 10, none⟩ = some (.slice none 0 0) := hb5.cell (by simp [go_sem, qr_10])
  have vr_10 : w5.frozen? ⟨w.heap.size + 1, 10, none⟩ = false := hb5.frozen (v := .slice none 0 0) (by simp [go_sem, qr_10]) (by simp [go_sem, zr_10])
  clear hb5 qa_0 za_0 qa_1 za_1 qa_2 za_2 qa_3 za_3 qa_4 za_4 qa_5 za_5 qa_6 za_6 qa_7 za_7 qa_8 za_8 qa_9 za_9 qa_10 za_10 qr_0 zr_0 qr_1 zr_1 qr_2 zr_2 qr_3 zr_3 qr_4 zr_4 qr_5 zr_5 qr_6 zr_6 qr_7 zr_7 qr_8 zr_8 qr_9 zr_9 qr_10 zr_10
  go_wp2
  refine bodyPost_ret (v := .tuple #[(.agg #[.int .i64 0, .int .i64 tn, .int .i64 0, .int .i64 tp, .int .i64 ((I : Int) + 1), .int .i64 0, .int .u64 tf, .int .u64 x, .int .u64 tv, .int .u64 0, .slice none 0 0]), .bool false]) (by simp [results, Tryz.results59, go_sem, pr_0, pr_1, pr_2, pr_3, pr_4, pr_5, pr_6, pr_7, pr_8, pr_9, pr_10, pa_0, pa_1, pa_2, pa_3, pa_4, pa_5, pa_6, pa_7, pa_8, pa_9, pa_10]) rfl (HG.out _ ?mid)
  case mid => repeat (first | with_reducible exact HM2.out | refine RMid.set ?_ (by simp) (by simp) _)
set_option maxRecDepth 100000 in
theorem rScan64_ge (b : Nat) (r : RY) (f : Nat → Int) (lv : Value) (log : List Acc) (t : Int) (v : Value) (xs : List Int) (I c : Nat) (tn tp tf M tv : Int) (w : World) (h : RB w b r f lv log) (hW : r.W = 64) (hv : IntsV w v xs) (hI : I < xs.length) (hx : xs.getD I 0 = c) (hk : isK r (c : Int) 1 = true) (hc : c < r.m) (hl : log.length ≤ 1000) (hn : xs.length ≤ 1000) (f0 : 0 ≤ f c) (hM : 0 ≤ M) (h0 : ¬ I = 0) (h1 : ¬ D64 (f c - M) < 0) (h2 : I + 1 = xs.length) :
    Calls Tryz.prog 59 #[.pointer (some ⟨b, 0, none⟩), .int .i64 t, v, (.agg #[.int .i64 0, .int .i64 tn, .int .i64 0, .int .i64 tp, .int .i64 I, .int .i64 0, .int .u64 tf, .int .u64 M, .int .u64 tv, .int .u64 0, .slice none 0 0])] w (RScanDoes b r lv f (log ++ [⟨t, 1, c, f c, f c⟩]) true tn tp 0 tf (M) tv w) := by
  have CA := Lib.hid (fun w' (hx : Ext w w') => rLoad_yes b r f lv log t c w' (h.ext hx) hk hc hl)
  have HG : Hid (∀ w', RMid b r lv f (log ++ [⟨t, 1, c, f c, f c⟩]) w w' → RScanDoes b r lv f (log ++ [⟨t, 1, c, f c, f c⟩]) true tn tp 0 tf (M) tv w (.returned (.tuple #[(.agg #[.int .i64 0, .int .i64 tn, .int .i64 0, .int .i64 tp, .int .i64 0, .int .i64 0, .int .u64 tf, .int .u64 M, .int .u64 tv, .int .u64 0, .slice none 0 0]), .bool true])) w') := Lib.hid (fun w' hm => ⟨rfl, hm.does (v := .bool true)⟩)
  have HM := Lib.hid (fun lv' w1 w2 (hx : Ext w w1) hs hR hN hA => rmid_of (f' := f) (lv' := lv') (log' := (log ++ [⟨t, 1, c, f c, f c⟩])) (w1 := w1) (w2 := w2) h hx hs hR hN hA)
  generalize RScanDoes b r lv f (log ++ [⟨t, 1, c, f c, f c⟩]) true tn tp 0 tf (M) tv w = G at *
  obtain ⟨va, vc, ev, hf⟩ := hv.form
  subst ev
  obtain ⟨vb, vo, ea, cv⟩ := hf I hI
  subst ea
  rw [hx] at cv
  generalize hxx : f c = x at *
  have hI1 : (I : Int) < (xs.length : Int) := by omega
  have hI0 : (0 : Int) ≤ (I : Int) := by omega
  have d0 : ((I : Int) == 0) = false := by simp; omega
  have d1 : decide (D64 (x - M) < 0) = false := by simpa using h1
  have d2 : ((I : Int) + 1 == (xs.length : Int)) = true := by simp; omega
  have hwr : IntKind.i64.wrap ((I : Int) + 1) = (I : Int) + 1 := wrapS (by omega) (by omega)
  have hlt := fun k (hk : Own b r.gh lv k) => h.lt hk
  generalize xs.length = n at *
  clear h hv hf hI hx hk hl hn h0 h2 h1
  go_enter Tryz.func59, Tryz.ntmps59
  go_upto_region 1 with (fail)
  refine settle_wp ?_
  intro w1 hb1
  have qa_0 : w1.cell? ⟨w.heap.size, 0, none⟩ = some (.int .i64 0) := (hb1.cells.1 _ _ (by simp <;> omega)).trans (by simp [go_sem])
  have za_0 : w1.frozen? ⟨w.heap.size, 0, none⟩ = false := (hb1.cells.2 _ _ (by simp <;> omega)).trans (by simp [go_sem])
  have qa_1 : w1.cell? ⟨w.heap.size, 1, none⟩ = some (.int .i64 tn) := (hb1.cells.1 _ _ (by simp <;> omega)).trans (by simp [go_sem])
  have za_1 : w1.frozen? ⟨w.heap.size, 1, none⟩ = false := (hb1.cells.2 _ _ (by simp <;> omega)).trans (by simp [go_sem])
  have qa_2 : w1.cell? ⟨w.heap.size, 2, none⟩ = some (.int .i64 0) := (hb1.cells.1 _ _ (by simp <;> omega)).trans (by simp [go_sem])
  have za_2 : w1.frozen? ⟨w.heap.size, 2, none⟩ = false := (hb1.cells.2 _ _ (by simp <;> omega)).trans (by simp [go_sem])
  have qa_3 : w1.cell? ⟨w.heap.size, 3, none⟩ = some (.int .i64 tp) := (hb1.cells.1 _ _ (by simp <;> omega)).trans (by simp [go_sem])
  have za_3 : w1.frozen? ⟨w.heap.size, 3, none⟩ = false := (hb1.cells.2 _ _ (by simp <;> omega)).trans (by simp [go_sem])
  have qa_4 : w1.cell? ⟨w.heap.size, 4, none⟩ = some (.int .i64 I) := (hb1.cells.1 _ _ (by simp <;> omega)).trans (by simp [go_sem])
  have za_4 : w1.frozen? ⟨w.heap.size, 4, none⟩ = false := (hb1.cells.2 _ _ (by simp <;> omega)).trans (by simp [go_sem])
  have qa_5 : w1.cell? ⟨w.heap.size, 5, none⟩ = some (.int .i64 0) := (hb1.cells.1 _ _ (by simp <;> omega)).trans (by simp [go_sem])
  have za_5 : w1.frozen? ⟨w.heap.size, 5, none⟩ = false := (hb1.cells.2 _ _ (by simp <;> omega)).trans (by simp [go_sem])
  have qa_6 : w1.cell? ⟨w.heap.size, 6, none⟩ = some (.int .u64 tf) := (hb1.cells.1 _ _ (by simp <;> omega)).trans (by simp [go_sem])
  have za_6 : w1.frozen? ⟨w.heap.size, 6, none⟩ = false := (hb1.cells.2 _ _ (by simp <;> omega)).trans (by simp [go_sem])
  have qa_7 : w1.cell? ⟨w.heap.size, 7, none⟩ = some (.int .u64 M) := (hb1.cells.1 _ _ (by simp <;> omega)).trans (by simp [go_sem])
  have za_7 : w1.frozen? ⟨w.heap.size, 7, none⟩ = false := (hb1.cells.2 _ _ (by simp <;> omega)).trans (by simp [go_sem])
  have qa_8 : w1.cell? ⟨w.heap.size, 8, none⟩ = some (.int .u64 tv) := (hb1.cells.1 _ _ (by simp <;> omega)).trans (by simp [go_sem])
  have za_8 : w1.frozen? ⟨w.heap.size, 8, none⟩ = false := (hb1.cells.2 _ _ (by simp <;> omega)).trans (by simp [go_sem])
  have qa_9 : w1.cell? ⟨w.heap.size, 9, none⟩ = some (.int .u64 0) := (hb1.cells.1 _ _ (by simp <;> omega)).trans (by simp [go_sem])
  have za_9 : w1.frozen? ⟨w.heap.size, 9, none⟩ = false := (hb1.cells.2 _ _ (by simp <;> omega)).trans (by simp [go_sem])
  have qa_10 : w1.cell? ⟨w.heap.size, 10, none⟩ = some (.slice none 0 0) := (hb1.cells.1 _ _ (by simp <;> omega)).trans (by simp [go_sem])
  have za_10 : w1.frozen? ⟨w.heap.size, 10, none⟩ = false := (hb1.cells.2 _ _ (by simp <;> omega)).trans (by simp [go_sem])
  have pa := World.block_lt_of_cell? _ ⟨w.heap.size, 0, none⟩ qa_0
  have ra := Nat.lt_succ_of_lt pa
  have qr_0 : w1.cell? ⟨(w.heap.size + 1), 0, none⟩ = some (.int .i64 0) := (hb1.cells.1 _ _ (by simp <;> omega)).trans (by simp [go_sem])
  have zr_0 : w1.frozen? ⟨(w.heap.size + 1), 0, none⟩ = false := (hb1.cells.2 _ _ (by simp <;> omega)).trans (by simp [go_sem])
  have qr_1 : w1.cell? ⟨(w.heap.size + 1), 1, none⟩ = some (.int .i64 0) := (hb1.cells.1 _ _ (by simp <;> omega)).trans (by simp [go_sem])
  have zr_1 : w1.frozen? ⟨(w.heap.size + 1), 1, none⟩ = false := (hb1.cells.2 _ _ (by simp <;> omega)).trans (by simp [go_sem])
  have qr_2 : w1.cell? ⟨(w.heap.size + 1), 2, none⟩ = some (.int .i64 0) := (hb1.cells.1 _ _ (by simp <;> omega)).trans (by simp [go_sem])
  have zr_2 : w1.frozen? ⟨(w.heap.size + 1), 2, none⟩ = false := (hb1.cells.2 _ _ (by simp <;> omega)).trans (by simp [go_sem])
  have qr_3 : w1.cell? ⟨(w.heap.size + 1), 3, none⟩ = some (.int .i64 0) := (hb1.cells.1 _ _ (by simp <;> omega)).trans (by simp [go_sem])
  have zr_3 : w1.frozen? ⟨(w.heap.size + 1), 3, none⟩ = false := (hb1.cells.2 _ _ (by simp <;> omega)).trans (by simp [go_sem])
  have qr_4 : w1.cell? ⟨(w.heap.size + 1), 4, none⟩ = some (.int .i64 0) := (hb1.cells.1 _ _ (by simp <;> omega)).trans (by simp [go_sem])
  have zr_4 : w1.frozen? ⟨(w.heap.size + 1), 4, none⟩ = false := (hb1.cells.2 _ _ (by simp <;> omega)).trans (by simp [go_sem])
  have qr_5 : w1.cell? ⟨(w.heap.size + 1), 5, none⟩ = some (.int .i64 0) := (hb1.cells.1 _ _ (by simp <;> omega)).trans (by simp [go_sem])
  have zr_5 : w1.frozen? ⟨(w.heap.size + 1), 5, none⟩ = false := (hb1.cells.2 _ _ (by simp <;> omega)).trans (by simp [go_sem])
  have qr_6 : w1.cell? ⟨(w.heap.size + 1), 6, none⟩ = some (.int .u64 0) := (hb1.cells.1 _ _ (by simp <;> omega)).trans (by simp [go_sem])
  have zr_6 : w1.frozen? ⟨(w.heap.size + 1), 6, none⟩ = false := (hb1.cells.2 _ _ (by simp <;> omega)).trans (by simp [go_sem])
  have qr_7 : w1.cell? ⟨(w.heap.size + 1), 7, none⟩ = some (.int .u64 0) := (hb1.cells.1 _ _ (by simp <;> omega)).trans (by simp [go_sem])
  have zr_7 : w1.frozen? ⟨(w.heap.size + 1), 7, none⟩ = false := (hb1.cells.2 _ _ (by simp <;> omega)).trans (by simp [go_sem])
  have qr_8 : w1.cell? ⟨(w.heap.size + 1), 8, none⟩ = some (.int .u64 0) := (hb1.cells.1 _ _ (by simp <;> omega)).trans (by simp [go_sem])
  have zr_8 : w1.frozen? ⟨(w.heap.size + 1), 8, none⟩ = false := (hb1.cells.2 _ _ (by simp <;> omega)).trans (by simp [go_sem])
  have qr_9 : w1.cell? ⟨(w.heap.size + 1), 9, none⟩ = some (.int .u64 0) := (hb1.cells.1 _ _ (by simp <;> omega)).trans (by simp [go_sem])
  have zr_9 : w1.frozen? ⟨(w.heap.size + 1), 9, none⟩ = false := (hb1.cells.2 _ _ (by simp <;> omega)).trans (by simp [go_sem])
  have qr_10 : w1.cell? ⟨(w.heap.size + 1), 10, none⟩ = some (.slice none 0 0) := (hb1.cells.1 _ _ (by simp <;> omega)).trans (by simp [go_sem])
  have zr_10 : w1.frozen? ⟨(w.heap.size + 1), 10, none⟩ = false := (hb1.cells.2 _ _ (by simp <;> omega)).trans (by simp [go_sem])
  have pr := World.block_lt_of_cell? _ ⟨(w.heap.size + 1), 0, none⟩ qr_0
  have rr := Nat.lt_succ_of_lt pr
  have XE : Ext w w1 := Ext.trans (Ext.alloc (Ext.alloc (Ext.refl w) _) _) hb1
  have hs1 : w.heap.size + 2 ≤ w1.heap.size := by have h1 := hb1.size; simp at h1; omega
  have na : ¬ Own b r.gh lv w.heap.size := fun hk => by have := hlt _ hk; omega
  have nr : ¬ Own b r.gh lv (w.heap.size + 1) := fun hk => by have := hlt _ hk; omega
  replace cv := XE.cell cv
  clear hb1
  go_wp2_with fail
  refine (CA.out _ XE).mono ?_
  rintro e w2 ⟨rfl, lv2, R2, N2, A2⟩
  have HM2 := Lib.hid (HM.out lv2 _ w2 XE hs1 R2 N2 A2)
  have qW := R2.q1
  rw [hW] at qW
  replace za_0 := N2.frozen qa_0 za_0 na
  replace qa_0 := N2.cell qa_0 na
  replace za_1 := N2.frozen qa_1 za_1 na
  replace qa_1 := N2.cell qa_1 na
  replace za_2 := N2.frozen qa_2 za_2 na
  replace qa_2 := N2.cell qa_2 na
  replace za_3 := N2.frozen qa_3 za_3 na
  replace qa_3 := N2.cell qa_3 na
  replace za_4 := N2.frozen qa_4 za_4 na
  replace qa_4 := N2.cell qa_4 na
  replace za_5 := N2.frozen qa_5 za_5 na
  replace qa_5 := N2.cell qa_5 na
  replace za_6 := N2.frozen qa_6 za_6 na
  replace qa_6 := N2.cell qa_6 na
  replace za_7 := N2.frozen qa_7 za_7 na
  replace qa_7 := N2.cell qa_7 na
  replace za_8 := N2.frozen qa_8 za_8 na
  replace qa_8 := N2.cell qa_8 na
  replace za_9 := N2.frozen qa_9 za_9 na
  replace qa_9 := N2.cell qa_9 na
  replace za_10 := N2.frozen qa_10 za_10 na
  replace qa_10 := N2.cell qa_10 na
  replace zr_0 := N2.frozen qr_0 zr_0 nr
  replace qr_0 := N2.cell qr_0 nr
  replace zr_1 := N2.frozen qr_1 zr_1 nr
  replace qr_1 := N2.cell qr_1 nr
  replace zr_2 := N2.frozen qr_2 zr_2 nr
  replace qr_2 := N2.cell qr_2 nr
  replace zr_3 := N2.frozen qr_3 zr_3 nr
  replace qr_3 := N2.cell qr_3 nr
  replace zr_4 := N2.frozen qr_4 zr_4 nr
  replace qr_4 := N2.cell qr_4 nr
  replace zr_5 := N2.frozen qr_5 zr_5 nr
  replace qr_5 := N2.cell qr_5 nr
  replace zr_6 := N2.frozen qr_6 zr_6 nr
  replace qr_6 := N2.cell qr_6 nr
  replace zr_7 := N2.frozen qr_7 zr_7 nr
  replace qr_7 := N2.cell qr_7 nr
  replace zr_8 := N2.frozen qr_8 zr_8 nr
  replace qr_8 := N2.cell qr_8 nr
  replace zr_9 := N2.frozen qr_9 zr_9 nr
  replace qr_9 := N2.cell qr_9 nr
  replace zr_10 := N2.frozen qr_10 zr_10 nr
  replace qr_10 := N2.cell qr_10 nr
  clear R2 N2 A2 XE cv
  go_upto_region 5 with (fail)
  have k4 := fun w' (hx : Ext w2 w') => hx.cell qa_4
  have k7 := fun w' (hx : Ext w2 w') => hx.cell qa_7
  have kW := fun w' (hx : Ext w2 w') => hx.cell qW
  refine wp_region_held_drew (S := fun w' => Ext w2 w') (by kernel_rfl) ?hbeg (fun hHeld => ?_)
  case hbeg => exact (Ext.refl w2).drew
  have hHeld0 : Ext w2 w2 := by first | exact Ext.refl _ | assumption
  first
    | (refine take_at (i := 0) (v := ?_) rfl rfl (by kernel_rfl) (by kernel_rfl) (by kernel_rfl) (fun _ _ _ h => h) (Or.inl ⟨by rfl, ?hy⟩) (by assumption) ?_
       case hy => (intro wz hSw; (try dsimp only at hSw); go_simp <;> with_reducible rfl)
       simp only [List.setIfInBounds_toArray, List.set_cons_zero, List.set_cons_succ])
    | (refine take_at (i := 0) (v := undef) rfl rfl (by kernel_rfl) (by kernel_rfl) (by kernel_rfl) (fun _ _ _ h => h) (Or.inr ⟨by rfl, rfl⟩) (by assumption) ?_
       simp only [List.setIfInBounds_toArray, List.set_cons_zero, List.set_cons_succ])
  first
    | (refine take_at (i := 1) (v := ?_) rfl rfl (by kernel_rfl) (by kernel_rfl) (by kernel_rfl) (fun _ _ _ h => h) (Or.inl ⟨by rfl, ?hy⟩) (by assumption) ?_
       case hy => (intro wz hSw; (try dsimp only at hSw); go_simp <;> with_reducible rfl)
       simp only [List.setIfInBounds_toArray, List.set_cons_zero, List.set_cons_succ])
    | (refine take_at (i := 1) (v := undef) rfl rfl (by kernel_rfl) (by kernel_rfl) (by kernel_rfl) (fun _ _ _ h => h) (Or.inr ⟨by rfl, rfl⟩) (by assumption) ?_
       simp only [List.setIfInBounds_toArray, List.set_cons_zero, List.set_cons_succ])
  first
    | (refine take_at (i := 2) (v := ?_) rfl rfl (by kernel_rfl) (by kernel_rfl) (by kernel_rfl) (fun _ _ _ h => h) (Or.inl ⟨by rfl, ?hy⟩) (by assumption) ?_
       case hy => (intro wz hSw; (try dsimp only at hSw); go_simp <;> with_reducible rfl)
       simp only [List.setIfInBounds_toArray, List.set_cons_zero, List.set_cons_succ])
    | (refine take_at (i := 2) (v := undef) rfl rfl (by kernel_rfl) (by kernel_rfl) (by kernel_rfl) (fun _ _ _ h => h) (Or.inr ⟨by rfl, rfl⟩) (by assumption) ?_
       simp only [List.setIfInBounds_toArray, List.set_cons_zero, List.set_cons_succ])
  first
    | (refine take_at (i := 3) (v := ?_) rfl rfl (by kernel_rfl) (by kernel_rfl) (by kernel_rfl) (fun _ _ _ h => h) (Or.inl ⟨by rfl, ?hy⟩) (by assumption) ?_
       case hy => (intro wz hSw; (try dsimp only at hSw); go_simp <;> with_reducible rfl)
       simp only [List.setIfInBounds_toArray, List.set_cons_zero, List.set_cons_succ])
    | (refine take_at (i := 3) (v := undef) rfl rfl (by kernel_rfl) (by kernel_rfl) (by kernel_rfl) (fun _ _ _ h => h) (Or.inr ⟨by rfl, rfl⟩) (by assumption) ?_
       simp only [List.setIfInBounds_toArray, List.set_cons_zero, List.set_cons_succ])
  first
    | (refine take_at (i := 4) (v := ?_) rfl rfl (by kernel_rfl) (by kernel_rfl) (by kernel_rfl) (fun _ _ _ h => h) (Or.inl ⟨by rfl, ?hy⟩) (by assumption) ?_
       case hy => (intro wz hSw; (try dsimp only at hSw); go_simp <;> with_reducible rfl)
       simp only [List.setIfInBounds_toArray, List.set_cons_zero, List.set_cons_succ])
    | (refine take_at (i := 4) (v := undef) rfl rfl (by kernel_rfl) (by kernel_rfl) (by kernel_rfl) (fun _ _ _ h => h) (Or.inr ⟨by rfl, rfl⟩) (by assumption) ?_
       simp only [List.setIfInBounds_toArray, List.set_cons_zero, List.set_cons_succ])
  first
    | (refine take_at (i := 5) (v := ?_) rfl rfl (by kernel_rfl) (by kernel_rfl) (by kernel_rfl) (fun _ _ _ h => h) (Or.inl ⟨by rfl, ?hy⟩) (by assumption) ?_
       case hy => (intro wz hSw; (try dsimp only at hSw); go_simp <;> with_reducible rfl)
       simp only [List.setIfInBounds_toArray, List.set_cons_zero, List.set_cons_succ])
    | (refine take_at (i := 5) (v := undef) rfl rfl (by kernel_rfl) (by kernel_rfl) (by kernel_rfl) (fun _ _ _ h => h) (Or.inr ⟨by rfl, rfl⟩) (by assumption) ?_
       simp only [List.setIfInBounds_toArray, List.set_cons_zero, List.set_cons_succ])
  first
    | (refine take_at (i := 6) (v := ?_) rfl rfl (by kernel_rfl) (by kernel_rfl) (by kernel_rfl) (fun _ _ _ h => h) (Or.inl ⟨by rfl, ?hy⟩) (by assumption) ?_
       case hy => (intro wz hSw; (try dsimp only at hSw); go_simp <;> with_reducible rfl)
       simp only [List.setIfInBounds_toArray, List.set_cons_zero, List.set_cons_succ])
    | (refine take_at (i := 6) (v := undef) rfl rfl (by kernel_rfl) (by kernel_rfl) (by kernel_rfl) (fun _ _ _ h => h) (Or.inr ⟨by rfl, rfl⟩) (by assumption) ?_
       simp only [List.setIfInBounds_toArray, List.set_cons_zero, List.set_cons_succ])
  first
    | (refine take_at (i := 7) (v := ?_) rfl rfl (by kernel_rfl) (by kernel_rfl) (by kernel_rfl) (fun _ _ _ h => h) (Or.inl ⟨by rfl, ?hy⟩) (by assumption) ?_
       case hy => (intro wz hSw; (try dsimp only at hSw); go_simp <;> with_reducible rfl)
       simp only [List.setIfInBounds_toArray, List.set_cons_zero, List.set_cons_succ])
    | (refine take_at (i := 7) (v := undef) rfl rfl (by kernel_rfl) (by kernel_rfl) (by kernel_rfl) (fun _ _ _ h => h) (Or.inr ⟨by rfl, rfl⟩) (by assumption) ?_
       simp only [List.setIfInBounds_toArray, List.set_cons_zero, List.set_cons_succ])
  first
    | (refine take_at (i := 8) (v := ?_) rfl rfl (by kernel_rfl) (by kernel_rfl) (by kernel_rfl) (fun _ _ _ h => h) (Or.inl ⟨by rfl, ?hy⟩) (by assumption) ?_
       case hy => (intro wz hSw; (try dsimp only at hSw); go_simp <;> with_reducible rfl)
       simp only [List.setIfInBounds_toArray, List.set_cons_zero, List.set_cons_succ])
    | (refine take_at (i := 8) (v := undef) rfl rfl (by kernel_rfl) (by kernel_rfl) (by kernel_rfl) (fun _ _ _ h => h) (Or.inr ⟨by rfl, rfl⟩) (by assumption) ?_
       simp only [List.setIfInBounds_toArray, List.set_cons_zero, List.set_cons_succ])
  first
    | (refine take_at (i := 9) (v := ?_) rfl rfl (by kernel_rfl) (by kernel_rfl) (by kernel_rfl) (fun _ _ _ h => h) (Or.inl ⟨by rfl, ?hy⟩) (by assumption) ?_
       case hy => (intro wz hSw; (try dsimp only at hSw); go_simp <;> with_reducible rfl)
       simp only [List.setIfInBounds_toArray, List.set_cons_zero, List.set_cons_succ])
    | (refine take_at (i := 9) (v := undef) rfl rfl (by kernel_rfl) (by kernel_rfl) (by kernel_rfl) (fun _ _ _ h => h) (Or.inr ⟨by rfl, rfl⟩) (by assumption) ?_
       simp only [List.setIfInBounds_toArray, List.set_cons_zero, List.set_cons_succ])
  first
    | (refine take_at (i := 10) (v := ?_) rfl rfl (by kernel_rfl) (by kernel_rfl) (by kernel_rfl) (fun _ _ _ h => h) (Or.inl ⟨by rfl, ?hy⟩) (by assumption) ?_
       case hy => (intro wz hSw; (try dsimp only at hSw); go_simp <;> with_reducible rfl)
       simp only [List.setIfInBounds_toArray, List.set_cons_zero, List.set_cons_succ])
    | (refine take_at (i := 10) (v := undef) rfl rfl (by kernel_rfl) (by kernel_rfl) (by kernel_rfl) (fun _ _ _ h => h) (Or.inr ⟨by rfl, rfl⟩) (by assumption) ?_
       simp only [List.setIfInBounds_toArray, List.set_cons_zero, List.set_cons_succ])
  first
    | (refine take_at (i := 11) (v := ?_) rfl rfl (by kernel_rfl) (by kernel_rfl) (by kernel_rfl) (fun _ _ _ h => h) (Or.inl ⟨by rfl, ?hy⟩) (by assumption) ?_
       case hy => (intro wz hSw; (try dsimp only at hSw); go_simp <;> with_reducible rfl)
       simp only [List.setIfInBounds_toArray, List.set_cons_zero, List.set_cons_succ])
    | (refine take_at (i := 11) (v := undef) rfl rfl (by kernel_rfl) (by kernel_rfl) (by kernel_rfl) (fun _ _ _ h => h) (Or.inr ⟨by rfl, rfl⟩) (by assumption) ?_
       simp only [List.setIfInBounds_toArray, List.set_cons_zero, List.set_cons_succ])
  refine call_at (i := 12) (F := 79) (gapA64 x M _ (by omega) (by omega)) rfl rfl (by kernel_rfl) (by rfl) (by first | rfl | (go_simp <;> rfl)) ?_
  rintro e w' ⟨rfl, rfl⟩
  refine ⟨_, rfl, by assumption, ?_⟩
  simp only [List.setIfInBounds_toArray, List.set_cons_zero, List.set_cons_succ]
  first
    | (refine take_at (i := 13) (v := ?_) rfl rfl (by kernel_rfl) (by kernel_rfl) (by kernel_rfl) (fun _ _ _ h => h) (Or.inl ⟨by rfl, ?hy⟩) (by assumption) ?_
       case hy => (intro wz hSw; (try dsimp only at hSw); go_simp <;> with_reducible rfl)
       simp only [List.setIfInBounds_toArray, List.set_cons_zero, List.set_cons_succ])
    | (refine take_at (i := 13) (v := undef) rfl rfl (by kernel_rfl) (by kernel_rfl) (by kernel_rfl) (fun _ _ _ h => h) (Or.inr ⟨by rfl, rfl⟩) (by assumption) ?_
       simp only [List.setIfInBounds_toArray, List.set_cons_zero, List.set_cons_succ])
  first
    | (refine take_at (i := 14) (v := ?_) rfl rfl (by kernel_rfl) (by kernel_rfl) (by kernel_rfl) (fun _ _ _ h => h) (Or.inl ⟨by rfl, ?hy⟩) (by assumption) ?_
       case hy => (intro wz hSw; (try dsimp only at hSw); go_simp <;> with_reducible rfl)
       simp only [List.setIfInBounds_toArray, List.set_cons_zero, List.set_cons_succ])
    | (refine take_at (i := 14) (v := undef) rfl rfl (by kernel_rfl) (by kernel_rfl) (by kernel_rfl) (fun _ _ _ h => h) (Or.inr ⟨by rfl, rfl⟩) (by assumption) ?_
       simp only [List.setIfInBounds_toArray, List.set_cons_zero, List.set_cons_succ])
  refine wpAnyH_done (by kernel_rfl) ?_ _
  go_upto_region 7 with (fail)
  refine settle_wp ?_
  intro w3 hb3
  have hH := Ext.trans hHeld hb3
  replace HM2 := Lib.hid (HM2.out.ext hH)
  replace za_0 := hH.frozen qa_0 za_0
  replace qa_0 := hH.cell qa_0
  replace za_1 := hH.frozen qa_1 za_1
  replace qa_1 := hH.cell qa_1
  replace za_2 := hH.frozen qa_2 za_2
  replace qa_2 := hH.cell qa_2
  replace za_3 := hH.frozen qa_3 za_3
  replace qa_3 := hH.cell qa_3
  replace za_4 := hH.frozen qa_4 za_4
  replace qa_4 := hH.cell qa_4
  replace za_5 := hH.frozen qa_5 za_5
  replace qa_5 := hH.cell qa_5
  replace za_6 := hH.frozen qa_6 za_6
  replace qa_6 := hH.cell qa_6
  replace za_7 := hH.frozen qa_7 za_7
  replace qa_7 := hH.cell qa_7
  replace za_8 := hH.frozen qa_8 za_8
  replace qa_8 := hH.cell qa_8
  replace za_9 := hH.frozen qa_9 za_9
  replace qa_9 := hH.cell qa_9
  replace za_10 := hH.frozen qa_10 za_10
  replace qa_10 := hH.cell qa_10
  replace zr_0 := hH.frozen qr_0 zr_0
  replace qr_0 := hH.cell qr_0
  replace zr_1 := hH.frozen qr_1 zr_1
  replace qr_1 := hH.cell qr_1
  replace zr_2 := hH.frozen qr_2 zr_2
  replace qr_2 := hH.cell qr_2
  replace zr_3 := hH.frozen qr_3 zr_3
  replace qr_3 := hH.cell qr_3
  replace zr_4 := hH.frozen qr_4 zr_4
  replace qr_4 := hH.cell qr_4
  replace zr_5 := hH.frozen qr_5 zr_5
  replace qr_5 := hH.cell qr_5
  replace zr_6 := hH.frozen qr_6 zr_6
  replace qr_6 := hH.cell qr_6
  replace zr_7 := hH.frozen qr_7 zr_7
  replace qr_7 := hH.cell qr_7
  replace zr_8 := hH.frozen qr_8 zr_8
  replace qr_8 := hH.cell qr_8
  replace zr_9 := hH.frozen qr_9 zr_9
  replace qr_9 := hH.cell qr_9
  replace zr_10 := hH.frozen qr_10 zr_10
  replace qr_10 := hH.cell qr_10
  clear k4 k7 kW qW hHeld hH hb3
  go_upto_region 10 with (fail)
  refine settle_wp ?_
  intro w5 hb5
  replace HM2 := Lib.hid (((HM2.out.set (p := ⟨w.heap.size, 4, none⟩) (by simp) (by simp) (.int .i64 ((I : Int) + 1))).set (p := ⟨w.heap.size, 4, none⟩) (by simp) (by simp) (.int .i64 0)).ext hb5)
  have pa_0 : w5.cell? ⟨w.heap.size, 0, none⟩ = some (.int .i64 0) := hb5.cell (by simp (maxDischargeDepth := 40) [go_sem, set_some, set_same, qa_0])
  have pa_1 : w5.cell? ⟨w.heap.size, 1, none⟩ = some (.int .i64 tn) := hb5.cell (by simp (maxDischargeDepth := 40) [go_sem, set_some, set_same, qa_1])
  have pa_2 : w5.cell? ⟨w.heap.size, 2, none⟩ = some (.int .i64 0) := hb5.cell (by simp (maxDischargeDepth := 40) [go_sem, set_some, set_same, qa_2])
  have pa_3 : w5.cell? ⟨w.heap.size, 3, none⟩ = some (.int .i64 tp) := hb5.cell (by simp (maxDischargeDepth := 40) [go_sem, set_some, set_same, qa_3])
  have pa_4 : w5.cell? ⟨w.heap.size, 4, none⟩ = some (.int .i64 0) := hb5.cell (by simp (maxDischargeDepth := 40) [go_sem, set_some, set_same, qa_4])
  have pa_5 : w5.cell? ⟨w.heap.size, 5, none⟩ = some (.int .i64 0) := hb5.cell (by simp (maxDischargeDepth := 40) [go_sem, set_some, set_same, qa_5])
  have pa_6 : w5.cell? ⟨w.heap.size, 6, none⟩ = some (.int .u64 tf) := hb5.cell (by simp (maxDischargeDepth := 40) [go_sem, set_some, set_same, qa_6])
  have pa_7 : w5.cell? ⟨w.heap.size, 7, none⟩ = some (.int .u64 M) := hb5.cell (by simp (maxDischargeDepth := 40) [go_sem, set_some, set_same, qa_7])
  have pa_8 : w5.cell? ⟨w.heap.size, 8, none⟩ = some (.int .u64 tv) := hb5.cell (by simp (maxDischargeDepth := 40) [go_sem, set_some, set_same, qa_8])
  have pa_9 : w5.cell? ⟨w.heap.size, 9, none⟩ = some (.int .u64 0) := hb5.cell (by simp (maxDischargeDepth := 40) [go_sem, set_some, set_same, qa_9])
  have pa_10 : w5.cell? ⟨w.heap.size, 10, none⟩ = some (.slice none 0 0) := hb5.cell (by simp (maxDischargeDepth := 40) [go_sem, set_some, set_same, qa_10])
  have pr_0 : w5.cell? ⟨w.heap.size + 1, 0, none⟩ = some (.int .i64 0) := hb5.cell (by simp [go_sem, qr_0])
  have vr_0 : w5.frozen? ⟨w.heap.size + 1, 0, none⟩ = false := hb5.frozen (v := .int .i64 0) (by simp [go_sem, qr_0]) (by simp [go_sem, zr_0])
  have pr_1 : w5.cell? ⟨w.heap.size + 1, 1, none⟩ = some (.int .i64 0) := hb5.cell (by simp [go_sem, qr_1])
  have vr_1 : w5.frozen? ⟨w.heap.size + 1, 1, none⟩ = false := hb5.frozen (v := .int .i64 0) (by simp [go_sem, qr_1]) (by simp [go_sem, zr_1])
  have pr_2 : w5.cell? ⟨w.heap.size + 1, 2, none⟩ = some (.int .i64 0) := hb5.cell (by simp [go_sem, qr_2])
  have vr_2 : w5.frozen? ⟨w.heap.size + 1, 2, none⟩ = false := hb5.frozen (v := .int .i64 0) (by simp [go_sem, qr_2]) (by simp [go_sem, zr_2])
  have pr_3 : w5.cell? ⟨w.heap.size + 1, 3, none⟩ = some (.int .i64 0) := hb5.cell (by simp [go_sem, qr_3])
  have vr_3 : w5.frozen? ⟨w.heap.size + 1, 3, none⟩ = false := hb5.frozen (v := .int .i64 0) (by simp [go_sem, qr_3]) (by simp [go_sem, zr_3])
  have pr_4 : w5.cell? ⟨w.heap.size + 1, 4, none⟩ = some (.int .i64 0) := hb5.cell (by simp [go_sem, qr_4])
  have vr_4 : w5.frozen? ⟨w.heap.size + 1, 4, none⟩ = false := hb5.frozen (v := .int .i64 0) (by simp [go_sem, qr_4]) (by simp [go_sem, zr_4])
  have pr_5 : w5.cell? ⟨w.heap.size + 1, 5, none⟩ = some (.int .i64 0) := hb5.cell (by simp [go_sem, qr_5])
  have vr_5 : w5.frozen? ⟨w.heap.size + 1, 5, none⟩ = false := hb5.frozen (v := .int .i64 0) (by simp [go_sem, qr_5]) (by simp [go_sem, zr_5])
  have pr_6 : w5.cell? ⟨w.heap.size + 1, 6, none⟩ = some (.int .u64 0) := hb5.cell (by simp [go_sem, qr_6])
  have vr_6 : w5.frozen? ⟨w.heap.size + 1, 6, none⟩ = false := hb5.frozen (v := .int .u64 0) (by simp [go_sem, qr_6]) (by simp [go_sem, zr_6])
  have pr_7 : w5.cell? ⟨w.heap.size + 1, 7, none⟩ = some (.int .u64 0) := hb5.cell (by simp [go_sem, qr_7])
  have vr_7 : w5.frozen? ⟨w.heap.size + 1, 7, none⟩ = false := hb5.frozen (v := .int .u64 0) (by simp [go_sem, qr_7]) (by simp [go_sem, zr_7])
  have pr_8 : w5.cell? ⟨w.heap.size + 1, 8, none⟩ = some (.int .u64 0) := hb5.cell (by simp [go_sem, qr_8])
  have vr_8 : w5.frozen? ⟨w.heap.size + 1, 8, none⟩ = false := hb5.frozen (v := .int .u64 0) (by simp [go_sem, qr_8]) (by simp [go_sem, zr_8])
  have pr_9 : w5.cell? ⟨w.heap.size + 1, 9, none⟩ = some (.int .u64 0) := hb5.cell (by simp [go_sem, qr_9])
  have vr_9 : w5.frozen? ⟨w.heap.size + 1, 9, none⟩ = false := hb5.frozen (v := .int .u64 0) (by simp [go_sem, qr_9]) (by simp [go_sem, zr_9])
  have pr_10 : w5.cell? ⟨w.heap.size + 1, 10, none⟩ = some (.slice none 0 0) := hb5.cell (by simp [go_sem, qr_10])
  have vr_10 : w5.frozen? ⟨w.heap.size + 1, 10, none⟩ = false := hb5.frozen (v := .slice none 0 0) (by simp [go_sem, qr_10]) (by simp [go_sem, zr_10])
  clear hb5 qa_0 za_0 qa_1 za_1 qa_2 za_2 qa_3 za_3 qa_4 za_4 qa_5 za_5 qa_6 za_6 qa_7 za_7 qa_8 za_8 qa_9 za_9 qa_10 za_10 qr_0 zr_0 qr_1 zr_1 qr_2 zr_2 qr_3 zr_3 qr_4 zr_4 qr_5 zr_5 qr_6 zr_6 qr_7 zr_7 qr_8 zr_8 qr_9 zr_9 qr_10 zr_10
  go_wp2
  refine bodyPost_ret (v := .tuple #[(.agg #[.int .i64 0, .int .i64 tn, .int .i64 0, .int .i64 tp, .int .i64 0, .int .i64 0, .int .u64 tf, .int .u64 M, .int .u64 tv, .int .u64 0, .slice none 0 0]), .bool true]) (by simp [results, Tryz.results59, go_sem, pr_0, pr_1, pr_2, pr_3, pr_4, pr_5, pr_6, pr_7, pr_8, pr_9, pr_10, pa_0, pa_1, pa_2, pa_3, pa_4, pa_5, pa_6, pa_7, pa_8, pa_9, pa_10]) rfl (HG.out _ ?mid)
  case mid => repeat (first | with_reducible exact HM2.out | refine RMid.set ?_ (by simp) (by simp) _)
set_option maxRecDepth 100000 in
theorem rScan64_gc (b : Nat) (r : RY) (f : Nat → Int) (lv : Value) (log : List Acc) (t : Int) (v : Value) (xs : List Int) (I c : Nat) (tn tp tf M tv : Int) (w : World) (h : RB w b r f lv log) (hW : r.W = 64) (hv : IntsV w v xs) (hI : I < xs.length) (hx : xs.getD I 0 = c) (hk : isK r (c : Int) 1 = true) (hc : c < r.m) (hl : log.length ≤ 1000) (hn : xs.length ≤ 1000) (f0 : 0 ≤ f c) (hM : 0 ≤ M) (h0 : ¬ I = 0) (h1 : ¬ D64 (f c - M) < 0) (h2 : I + 1 < xs.length) :
    Calls Tryz.prog 59 #[.pointer (some ⟨b, 0, none⟩), .int .i64 t, v, (.agg #[.int .i64 0, .int .i64 tn, .int .i64 0, .int .i64 tp, .int .i64 I, .int .i64 0, .int .u64 tf, .int .u64 M, .int .u64 tv, .int .u64 0, .slice none 0 0])] w (RScanDoes b r lv f (log ++ [⟨t, 1, c, f c, f c⟩]) false tn tp ((I : Int) + 1) tf (M) tv w) := by
  have CA := Lib.hid (fun w' (hx : Ext w w') => rLoad_yes b r f lv log t c w' (h.ext hx) hk hc hl)
  have HG : Hid (∀ w', RMid b r lv f (log ++ [⟨t, 1, c, f c, f c⟩]) w w' → RScanDoes b r lv f (log ++ [⟨t, 1, c, f c, f c⟩]) false tn tp ((I : Int) + 1) tf (M) tv w (.returned (.tuple #[(.agg #[.int .i64 0, .int .i64 tn, .int .i64 0, .int .i64 tp, .int .i64 ((I : Int) + 1), .int .i64 0, .int .u64 tf, .int .u64 M, .int .u64 tv, .int .u64 0, .slice none 0 0]), .bool false])) w') := Lib.hid (fun w' hm => ⟨rfl, hm.does (v := .bool true)⟩)
  have HM := Lib.hid (fun lv' w1 w2 (hx : Ext w w1) hs hR hN hA => rmid_of (f' := f) (lv' := lv') (log' := (log ++ [⟨t, 1, c, f c, f c⟩])) (w1 := w1) (w2 := w2) h hx hs hR hN hA)
  generalize RScanDoes b r lv f (log ++ [⟨t, 1, c, f c, f c⟩]) false tn tp ((I : Int) + 1) tf (M) tv w = G at *
  obtain ⟨va, vc, ev, hf⟩ := hv.form
  subst ev
  obtain ⟨vb, vo, ea, cv⟩ := hf I hI
  subst ea
  rw [hx] at cv
  generalize hxx : f c = x at *
  have hI1 : (I : Int) < (xs.length : Int) := by omega
  have hI0 : (0 : Int) ≤ (I : Int) := by omega
  have d0 : ((I : Int) == 0) = false := by simp; omega
  have d1 : decide (D64 (x - M) < 0) = false := by simpa using h1
  have d2 : ((I : Int) + 1 == (xs.length : Int)) = false := by simp; omega
  have hwr : IntKind.i64.wrap ((I : Int) + 1) = (I : Int) + 1 := wrapS (by omega) (by omega)
  have hlt := fun k (hk : Own b r.gh lv k) => h.lt hk
  generalize xs.length = n at *
  clear h hv hf hI hx hk hl hn h0 h2 h1
  go_enter Tryz.func59, Tryz.ntmps59
  go_upto_region 1 with (fail)
  refine settle_wp ?_
  intro w1 hb1
  have qa_0 : w1.cell? ⟨w.heap.size, 0, none⟩ = some (.int .i64 0) := (hb1.cells.1 _ _ (by simp <;> omega)).trans (by simp [go_sem])
  have za_0 : w1.frozen? ⟨w.heap.size, 0, none⟩ = false := (hb1.cells.2 _ _ (by simp <;> omega)).trans (by simp [go_sem])
  have qa_1 : w1.cell? ⟨w.heap.size, 1, none⟩ = some (.int .i64 tn) := (hb1.cells.1 _ _ (by simp <;> omega)).trans (by simp [go_sem])
  have za_1 : w1.frozen? ⟨w.heap.size, 1, none⟩ = false := (hb1.cells.2 _ _ (by simp <;> omega)).trans (by simp [go_sem])
  have qa_2 : w1.cell? ⟨w.heap.size, 2, none⟩ = some (.int .i64 0) := (hb1.cells.1 _ _ (by simp <;> omega)).trans (by simp [go_sem])
  have za_2 : w1.frozen? ⟨w.heap.size, 2, none⟩ = false := (hb1.cells.2 _ _ (by simp <;> omega)).trans (by simp [go_sem])
  have qa_3 : w1.cell? ⟨w.heap.size, 3, none⟩ = some (.int .i64 tp) := (hb1.cells.1 _ _ (by simp <;> omega)).trans (by simp [go_sem])
  have za_3 : w1.frozen? ⟨w.heap.size, 3, none⟩ = false := (hb1.cells.2 _ _ (by simp <;> omega)).trans (by simp [go_sem])
  have qa_4 : w1.cell? ⟨w.heap.size, 4, none⟩ = some (.int .i64 I) := (hb1.cells.1 _ _ (by simp <;> omega)).trans (by simp [go_sem])
  have za_4 : w1.frozen? ⟨w.heap.size, 4, none⟩ = false := (hb1.cells.2 _ _ (by simp <;> omega)).trans (by simp [go_sem])
  have qa_5 : w1.cell? ⟨w.heap.size, 5, none⟩ = some (.int .i64 0) := (hb1.cells.1 _ _ (by simp <;> omega)).trans (by simp [go_sem])
  have za_5 : w1.frozen? ⟨w.heap.size, 5, none⟩ = false := (hb1.cells.2 _ _ (by simp <;> omega)).trans (by simp [go_sem])
  have qa_6 : w1.cell? ⟨w.heap.size, 6, none⟩ = some (.int .u64 tf) := (hb1.cells.1 _ _ (by simp <;> omega)).trans (by simp [go_sem])
  have za_6 : w1.frozen? ⟨w.heap.size, 6, none⟩ = false := (hb1.cells.2 _ _ (by simp <;> omega)).trans (by simp [go_sem])
  have qa_7 : w1.cell? ⟨w.heap.size, 7, none⟩ = some (.int .u64 M) := (hb1.cells.1 _ _ (by simp <;> omega)).trans (by simp [go_sem])
  have za_7 : w1.frozen? ⟨w.heap.size, 7, none⟩ = false := (hb1.cells.2 _ _ (by simp <;> omega)).trans (by simp [go_sem])
  have qa_8 : w1.cell? ⟨w.heap.size, 8, none⟩ = some (.int .u64 tv) := (hb1.cells.1 _ _ (by simp <;> omega)).trans (by simp [go_sem])
  have za_8 : w1.frozen? ⟨w.heap.size, 8, none⟩ = false := (hb1.cells.2 _ _ (by simp <;> omega)).trans (by simp [go_sem])
  have qa_9 : w1.cell? ⟨w.heap.size, 9, none⟩ = some (.int .u64 0) := (hb1.cells.1 _ _ (by simp <;> omega)).trans (by simp [go_sem])
  have za_9 : w1.frozen? ⟨w.heap.size, 9, none⟩ = false := (hb1.cells.2 _ _ (by simp <;> omega)).trans (by simp [go_sem])
  have qa_10 : w1.cell? ⟨w.heap.size, 10, none⟩ = some (.slice none 0 0) := (hb1.cells.1 _ _ (by simp <;> omega)).trans (by simp [go_sem])
  have za_10 : w1.frozen? ⟨w.heap.size, 10, none⟩ = false := (hb1.cells.2 _ _ (by simp <;> omega)).trans (by simp [go_sem])
  have pa := World.block_lt_of_cell? _ ⟨w.heap.size, 0, none⟩ qa_0
  have ra := Nat.lt_succ_of_lt pa
  have qr_0 : w1.cell? ⟨(w.heap.size + 1), 0, none⟩ = some (.int .i64 0) := (hb1.cells.1 _ _ (by simp <;> omega)).trans (by simp [go_sem])
  have zr_0 : w1.frozen? ⟨(w.heap.size + 1), 0, none⟩ = false := (hb1.cells.2 _ _ (by simp <;> omega)).trans (by simp [go_sem])
  have qr_1 : w1.cell? ⟨(w.heap.size + 1), 1, none⟩ = some (.int .i64 0) := (hb1.cells.1 _ _ (by simp <;> omega)).trans (by simp [go_sem])
  have zr_1 : w1.frozen? ⟨(w.heap.size + 1), 1, none⟩ = false := (hb1.cells.2 _ _ (by simp <;> omega)).trans (by simp [go_sem])
  have qr_2 : w1.cell? ⟨(w.heap.size + 1), 2, none⟩ = some (.int .i64 0) := (hb1.cells.1 _ _ (by simp <;> omega)).trans (by simp [go_sem])
  have zr_2 : w1.frozen? ⟨(w.heap.size + 1), 2, none⟩ = false := (hb1.cells.2 _ _ (by simp <;> omega)).trans (by simp [go_sem])
  have qr_3 : w1.cell? ⟨(w.heap.size + 1), 3, none⟩ = some (.int .i64 0) := (hb1.cells.1 _ _ (by simp <;> omega)).trans (by simp [go_sem])
  have zr_3 : w1.frozen? ⟨(w.heap.size + 1), 3, none⟩ = false := (hb1.cells.2 _ _ (by simp <;> omega)).trans (by simp [go_sem])
  have qr_4 : w1.cell? ⟨(w.heap.size + 1), 4, none⟩ = some (.int .i64 0) := (hb1.cells.1 _ _ (by simp <;> omega)).trans (by simp [go_sem])
  have zr_4 : w1.frozen? ⟨(w.heap.size + 1), 4, none⟩ = false := (hb1.cells.2 _ _ (by simp <;> omega)).trans (by simp [go_sem])
  have qr_5 : w1.cell? ⟨(w.heap.size + 1), 5, none⟩ = some (.int .i64 0) := (hb1.cells.1 _ _ (by simp <;> omega)).trans (by simp [go_sem])
  have zr_5 : w1.frozen? ⟨(w.heap.size + 1), 5, none⟩ = false := (hb1.cells.2 _ _ (by simp <;> omega)).trans (by simp [go_sem])
  have qr_6 : w1.cell? ⟨(w.heap.size + 1), 6, none⟩ = some (.int .u64 0) := (hb1.cells.1 _ _ (by simp <;> omega)).trans (by simp [go_sem])
  have zr_6 : w1.frozen? ⟨(w.heap.size + 1), 6, none⟩ = false := (hb1.cells.2 _ _ (by simp <;> omega)).trans (by simp [go_sem])
  have qr_7 : w1.cell? ⟨(w.heap.size + 1), 7, none⟩ = some (.int .u64 0) := (hb1.cells.1 _ _ (by simp <;> omega)).trans (by simp [go_sem])
  have zr_7 : w1.frozen? ⟨(w.heap.size + 1), 7, none⟩ = false := (hb1.cells.2 _ _ (by simp <;> omega)).trans (by simp [go_sem])
  have qr_8 : w1.cell? ⟨(w.heap.size + 1), 8, none⟩ = some (.int .u64 0) := (hb1.cells.1 _ _ (by simp <;> omega)).trans (by simp [go_sem])
  have zr_8 : w1.frozen? ⟨(w.heap.size + 1), 8, none⟩ = false := (hb1.cells.2 _ _ (by simp <;> omega)).trans (by simp [go_sem])
  have qr_9 : w1.cell? ⟨(w.heap.size + 1), 9, none⟩ = some (.int .u64 0) := (hb1.cells.1 _ _ (by simp <;> omega)).trans (by simp [go_sem])
  have zr_9 : w1.frozen? ⟨(w.heap.size + 1), 9, none⟩ = false := (hb1.cells.2 _ _ (by simp <;> omega)).trans (by simp [go_sem])
  have qr_10 : w1.cell? ⟨(w.heap.size + 1), 10, none⟩ = some (.slice none 0 0) := (hb1.cells.1 _ _ (by simp <;> omega)).trans (by simp [go_sem])
  have zr_10 : w1.frozen? ⟨(w.heap.size + 1), 10, none⟩ = false := (hb1.cells.2 _ _ (by simp <;> omega)).trans (by simp [go_sem])
  have pr := World.block_lt_of_cell? _ ⟨(w.heap.size + 1), 0, none⟩ qr_0
  have rr := Nat.lt_succ_of_lt pr
  have XE : Ext w w1 := Ext.trans (Ext.alloc (Ext.alloc (Ext.refl w) _) _) hb1
  have hs1 : w.heap.size + 2 ≤ w1.heap.size := by have h1 := hb1.size; simp at h1; omega
  have na : ¬ Own b r.gh lv w.heap.size := fun hk => by have := hlt _ hk; omega
  have nr : ¬ Own b r.gh lv (w.heap.size + 1) := fun hk => by have := hlt _ hk; omega
  replace cv := XE.cell cv
  clear hb1
  go_wp2_with fail
  refine (CA.out _ XE).mono ?_
  rintro e w2 ⟨rfl, lv2, R2, N2, A2⟩
  have HM2 := Lib.hid (HM.out lv2 _ w2 XE hs1 R2 N2 A2)
  have qW := R2.q1
  rw [hW] at qW
  replace za_0 := N2.frozen qa_0 za_0 na
  replace qa_0 := N2.cell qa_0 na
  replace za_1 := N2.frozen qa_1 za_1 na
  replace qa_1 := N2.cell qa_1 na
  replace za_2 := N2.frozen qa_2 za_2 na
  replace qa_2 := N2.cell qa_2 na
  replace za_3 := N2.frozen qa_3 za_3 na
  replace qa_3 := N2.cell qa_3 na
  replace za_4 := N2.frozen qa_4 za_4 na
  replace qa_4 := N2.cell qa_4 na
  replace za_5 := N2.frozen qa_5 za_5 na
  replace qa_5 := N2.cell qa_5 na
  replace za_6 := N2.frozen qa_6 za_6 na
  replace qa_6 := N2.cell qa_6 na
  replace za_7 := N2.frozen qa_7 za_7 na
  replace qa_7 := N2.cell qa_7 na
  replace za_8 := N2.frozen qa_8 za_8 na
  replace qa_8 := N2.cell qa_8 na
  replace za_9 := N2.frozen qa_9 za_9 na
  replace qa_9 := N2.cell qa_9 na
  replace za_10 := N2.frozen qa_10 za_10 na
  replace qa_10 := N2.cell qa_10 na
  replace zr_0 := N2.frozen qr_0 zr_0 nr
  replace qr_0 := N2.cell qr_0 nr
  replace zr_1 := N2.frozen qr_1 zr_1 nr
  replace qr_1 := N2.cell qr_1 nr
  replace zr_2 := N2.frozen qr_2 zr_2 nr
  replace qr_2 := N2.cell qr_2 nr
  replace zr_3 := N2.frozen qr_3 zr_3 nr
  replace qr_3 := N2.cell qr_3 nr
  replace zr_4 := N2.frozen qr_4 zr_4 nr
  replace qr_4 := N2.cell qr_4 nr
  replace zr_5 := N2.frozen qr_5 zr_5 nr
  replace qr_5 := N2.cell qr_5 nr
  replace zr_6 := N2.frozen qr_6 zr_6 nr
  replace qr_6 := N2.cell qr_6 nr
  replace zr_7 := N2.frozen qr_7 zr_7 nr
  replace qr_7 := N2.cell qr_7 nr
  replace zr_8 := N2.frozen qr_8 zr_8 nr
  replace qr_8 := N2.cell qr_8 nr
  replace zr_9 := N2.frozen qr_9 zr_9 nr
  replace qr_9 := N2.cell qr_9 nr
  replace zr_10 := N2.frozen qr_10 zr_10 nr
  replace qr_10 := N2.cell qr_10 nr
  clear R2 N2 A2 XE cv
  go_upto_region 5 with (fail)
  have k4 := fun w' (hx : Ext w2 w') => hx.cell qa_4
  have k7 := fun w' (hx : Ext w2 w') => hx.cell qa_7
  have kW := fun w' (hx : Ext w2 w') => hx.cell qW
  refine wp_region_held_drew (S := fun w' => Ext w2 w') (by kernel_rfl) ?hbeg (fun hHeld => ?_)
  case hbeg => exact (Ext.refl w2).drew
  have hHeld0 : Ext w2 w2 := by first | exact Ext.refl _ | assumption
  first
    | (refine take_at (i := 0) (v := ?_) rfl rfl (by kernel_rfl) (by kernel_rfl) (by kernel_rfl) (fun _ _ _ h => h) (Or.inl ⟨by rfl, ?hy⟩) (by assumption) ?_
       case hy => (intro wz hSw; (try dsimp only at hSw); go_simp <;> with_reducible rfl)
       simp only [List.setIfInBounds_toArray, List.set_cons_zero, List.set_cons_succ])
    | (refine take_at (i := 0) (v := undef) rfl rfl (by kernel_rfl) (by kernel_rfl) (by kernel_rfl) (fun _ _ _ h => h) (Or.inr ⟨by rfl, rfl⟩) (by assumption) ?_
       simp only [List.setIfInBounds_toArray, List.set_cons_zero, List.set_cons_succ])
  first
    | (refine take_at (i := 1) (v := ?_) rfl rfl (by kernel_rfl) (by kernel_rfl) (by kernel_rfl) (fun _ _ _ h => h) (Or.inl ⟨by rfl, ?hy⟩) (by assumption) ?_
       case hy => (intro wz hSw; (try dsimp only at hSw); go_simp <;> with_reducible rfl)
       simp only [List.setIfInBounds_toArray, List.set_cons_zero, List.set_cons_succ])
    | (refine take_at (i := 1) (v := undef) rfl rfl (by kernel_rfl) (by kernel_rfl) (by kernel_rfl) (fun _ _ _ h => h) (Or.inr ⟨by rfl, rfl⟩) (by assumption) ?_
       simp only [List.setIfInBounds_toArray, List.set_cons_zero, List.set_cons_succ])
  first
    | (refine take_at (i := 2) (v := ?_) rfl rfl (by kernel_rfl) (by kernel_rfl) (by kernel_rfl) (fun _ _ _ h => h) (Or.inl ⟨by rfl, ?hy⟩) (by assumption) ?_
       case hy => (intro wz hSw; (try dsimp only at hSw); go_simp <;> with_reducible rfl)
       simp only [List.setIfInBounds_toArray, List.set_cons_zero, List.set_cons_succ])
    | (refine take_at (i := 2) (v := undef) rfl rfl (by kernel_rfl) (by kernel_rfl) (by kernel_rfl) (fun _ _ _ h => h) (Or.inr ⟨by rfl, rfl⟩) (by assumption) ?_
       simp only [List.setIfInBounds_toArray, List.set_cons_zero, List.set_cons_succ])
  first
    | (refine take_at (i := 3) (v := ?_) rfl rfl (by kernel_rfl) (by kernel_rfl) (by kernel_rfl) (fun _ _ _ h => h) (Or.inl ⟨by rfl, ?hy⟩) (by assumption) ?_
       case hy => (intro wz hSw; (try dsimp only at hSw); go_simp <;> with_reducible rfl)
       simp only [List.setIfInBounds_toArray, List.set_cons_zero, List.set_cons_succ])
    | (refine take_at (i := 3) (v := undef) rfl rfl (by kernel_rfl) (by kernel_rfl) (by kernel_rfl) (fun _ _ _ h => h) (Or.inr ⟨by rfl, rfl⟩) (by assumption) ?_
       simp only [List.setIfInBounds_toArray, List.set_cons_zero, List.set_cons_succ])
  first
    | (refine take_at (i := 4) (v := ?_) rfl rfl (by kernel_rfl) (by kernel_rfl) (by kernel_rfl) (fun _ _ _ h => h) (Or.inl ⟨by rfl, ?hy⟩) (by assumption) ?_
       case hy => (intro wz hSw; (try dsimp only at hSw); go_simp <;> with_reducible rfl)
       simp only [List.setIfInBounds_toArray, List.set_cons_zero, List.set_cons_succ])
    | (refine take_at (i := 4) (v := undef) rfl rfl (by kernel_rfl) (by kernel_rfl) (by kernel_rfl) (fun _ _ _ h => h) (Or.inr ⟨by rfl, rfl⟩) (by assumption) ?_
       simp only [List.setIfInBounds_toArray, List.set_cons_zero, List.set_cons_succ])
  first
    | (refine take_at (i := 5) (v := ?_) rfl rfl (by kernel_rfl) (by kernel_rfl) (by kernel_rfl) (fun _ _ _ h => h) (Or.inl ⟨by rfl, ?hy⟩) (by assumption) ?_
       case hy => (intro wz hSw; (try dsimp only at hSw); go_simp <;> with_reducible rfl)
       simp only [List.setIfInBounds_toArray, List.set_cons_zero, List.set_cons_succ])
    | (refine take_at (i := 5) (v := undef) rfl rfl (by kernel_rfl) (by kernel_rfl) (by kernel_rfl) (fun _ _ _ h => h) (Or.inr ⟨by rfl, rfl⟩) (by assumption) ?_
       simp only [List.setIfInBounds_toArray, List.set_cons_zero, List.set_cons_succ])
  first
    | (refine take_at (i := 6) (v := ?_) rfl rfl (by kernel_rfl) (by kernel_rfl) (by kernel_rfl) (fun _ _ _ h => h) (Or.inl ⟨by rfl, ?hy⟩) (by assumption) ?_
       case hy => (intro wz hSw; (try dsimp only at hSw); go_simp <;> with_reducible rfl)
       simp only [List.setIfInBounds_toArray, List.set_cons_zero, List.set_cons_succ])
    | (refine take_at (i := 6) (v := undef) rfl rfl (by kernel_rfl) (by kernel_rfl) (by kernel_rfl) (fun _ _ _ h => h) (Or.inr ⟨by rfl, rfl⟩) (by assumption) ?_
       simp only [List.setIfInBounds_toArray, List.set_cons_zero, List.set_cons_succ])
  first
    | (refine take_at (i := 7) (v := ?_) rfl rfl (by kernel_rfl) (by kernel_rfl) (by kernel_rfl) (fun _ _ _ h => h) (Or.inl ⟨by rfl, ?hy⟩) (by assumption) ?_
       case hy => (intro wz hSw; (try dsimp only at hSw); go_simp <;> with_reducible rfl)
       simp only [List.setIfInBounds_toArray, List.set_cons_zero, List.set_cons_succ])
    | (refine take_at (i := 7) (v := undef) rfl rfl (by kernel_rfl) (by kernel_rfl) (by kernel_rfl) (fun _ _ _ h => h) (Or.inr ⟨by rfl, rfl⟩) (by assumption) ?_
       simp only [List.setIfInBounds_toArray, List.set_cons_zero, List.set_cons_succ])
  first
    | (refine take_at (i := 8) (v := ?_) rfl rfl (by kernel_rfl) (by kernel_rfl) (by kernel_rfl) (fun _ _ _ h => h) (Or.inl ⟨by rfl, ?hy⟩) (by assumption) ?_
       case hy => (intro wz hSw; (try dsimp only at hSw); go_simp <;> with_reducible rfl)
       simp only [List.setIfInBounds_toArray, List.set_cons_zero, List.set_cons_succ])
    | (refine take_at (i := 8) (v := undef) rfl rfl (by kernel_rfl) (by kernel_rfl) (by kernel_rfl) (fun _ _ _ h => h) (Or.inr ⟨by rfl, rfl⟩) (by assumption) ?_
       simp only [List.setIfInBounds_toArray, List.set_cons_zero, List.set_cons_succ])
  first
    | (refine take_at (i := 9) (v := ?_) rfl rfl (by kernel_rfl) (by kernel_rfl) (by kernel_rfl) (fun _ _ _ h => h) (Or.inl ⟨by rfl, ?hy⟩) (by assumption) ?_
       case hy => (intro wz hSw; (try dsimp only at hSw); go_simp <;> with_reducible rfl)
       simp only [List.setIfInBounds_toArray, List.set_cons_zero, List.set_cons_succ])
    | (refine take_at (i := 9) (v := undef) rfl rfl (by kernel_rfl) (by kernel_rfl) (by kernel_rfl) (fun _ _ _ h => h) (Or.inr ⟨by rfl, rfl⟩) (by assumption) ?_
       simp only [List.setIfInBounds_toArray, List.set_cons_zero, List.set_cons_succ])
  first
    | (refine take_at (i := 10) (v := ?_) rfl rfl (by kernel_rfl) (by kernel_rfl) (by kernel_rfl) (fun _ _ _ h => h) (Or.inl ⟨by rfl, ?hy⟩) (by assumption) ?_
       case hy => (intro wz hSw; (try dsimp only at hSw); go_simp <;> with_reducible rfl)
       simp only [List.setIfInBounds_toArray, List.set_cons_zero, List.set_cons_succ])
    | (refine take_at (i := 10) (v := undef) rfl rfl (by kernel_rfl) (by kernel_rfl) (by kernel_rfl) (fun _ _ _ h => h) (Or.inr ⟨by rfl, rfl⟩) (by assumption) ?_
       simp only [List.setIfInBounds_toArray, List.set_cons_zero, List.set_cons_succ])
  first
    | (refine take_at (i := 11) (v := ?_) rfl rfl (by kernel_rfl) (by kernel_rfl) (by kernel_rfl) (fun _ _ _ h => h) (Or.inl ⟨by rfl, ?hy⟩) (by assumption) ?_
       case hy => (intro wz hSw; (try dsimp only at hSw); go_simp <;> with_reducible rfl)
       simp only [List.setIfInBounds_toArray, List.set_cons_zero, List.set_cons_succ])
    | (refine take_at (i := 11) (v := undef) rfl rfl (by kernel_rfl) (by kernel_rfl) (by kernel_rfl) (fun _ _ _ h => h) (Or.inr ⟨by rfl, rfl⟩) (by assumption) ?_
       simp only [List.setIfInBounds_toArray, List.set_cons_zero, List.set_cons_succ])
  refine call_at (i := 12) (F := 79) (gapA64 x M _ (by omega) (by omega)) rfl rfl (by kernel_rfl) (by rfl) (by first | rfl | (go_simp <;> rfl)) ?_
  rintro e w' ⟨rfl, rfl⟩
  refine ⟨_, rfl, by assumption, ?_⟩
  simp only [List.setIfInBounds_toArray, List.set_cons_zero, List.set_cons_succ]
  first
    | (refine take_at (i := 13) (v := ?_) rfl rfl (by kernel_rfl) (by kernel_rfl) (by kernel_rfl) (fun _ _ _ h => h) (Or.inl ⟨by rfl, ?hy⟩) (by assumption) ?_
       case hy => (intro wz hSw; (try dsimp only at hSw); go_simp <;> with_reducible rfl)
       simp only [List.setIfInBounds_toArray, List.set_cons_zero, List.set_cons_succ])
    | (refine take_at (i := 13) (v := undef) rfl rfl (by kernel_rfl) (by kernel_rfl) (by kernel_rfl) (fun _ _ _ h => h) (Or.inr ⟨by rfl, rfl⟩) (by assumption) ?_
       simp only [List.setIfInBounds_toArray, List.set_cons_zero, List.set_cons_succ])
  first
    | (refine take_at (i := 14) (v := ?_) rfl rfl (by kernel_rfl) (by kernel_rfl) (by kernel_rfl) (fun _ _ _ h => h) (Or.inl ⟨by rfl, ?hy⟩) (by assumption) ?_
       case hy => (intro wz hSw; (try dsimp only at hSw); go_simp <;> with_reducible rfl)
       simp only [List.setIfInBounds_toArray, List.set_cons_zero, List.set_cons_succ])
    | (refine take_at (i := 14) (v := undef) rfl rfl (by kernel_rfl) (by kernel_rfl) (by kernel_rfl) (fun _ _ _ h => h) (Or.inr ⟨by rfl, rfl⟩) (by assumption) ?_
       simp only [List.setIfInBounds_toArray, List.set_cons_zero, List.set_cons_succ])
  refine wpAnyH_done (by kernel_rfl) ?_ _
  go_upto_region 7 with (fail)
  refine settle_wp ?_
  intro w3 hb3
  have hH := Ext.trans hHeld hb3
  replace HM2 := Lib.hid (HM2.out.ext hH)
  replace za_0 := hH.frozen qa_0 za_0
  replace qa_0 := hH.cell qa_0
  replace za_1 := hH.frozen qa_1 za_1
  replace qa_1 := hH.cell qa_1
  replace za_2 := hH.frozen qa_2 za_2
  replace qa_2 := hH.cell qa_2
  replace za_3 := hH.frozen qa_3 za_3
  replace qa_3 := hH.cell qa_3
  replace za_4 := hH.frozen qa_4 za_4
  replace qa_4 := hH.cell qa_4
  replace za_5 := hH.frozen qa_5 za_5
  replace qa_5 := hH.cell qa_5
  replace za_6 := hH.frozen qa_6 za_6
  replace qa_6 := hH.cell qa_6
  replace za_7 := hH.frozen qa_7 za_7
  replace qa_7 := hH.cell qa_7
  replace za_8 := hH.frozen qa_8 za_8
  replace qa_8 := hH.cell qa_8
  replace za_9 := hH.frozen qa_9 za_9
  replace qa_9 := hH.cell qa_9
  replace za_10 := hH.frozen qa_10 za_10
  replace qa_10 := hH.cell qa_10
  replace zr_0 := hH.frozen qr_0 zr_0
  replace qr_0 := hH.cell qr_0
  replace zr_1 := hH.frozen qr_1 zr_1
  replace qr_1 := hH.cell qr_1
  replace zr_2 := hH.frozen qr_2 zr_2
  replace qr_2 := hH.cell qr_2
  replace zr_3 := hH.frozen qr_3 zr_3
  replace qr_3 := hH.cell qr_3
  replace zr_4 := hH.frozen qr_4 zr_4
  replace qr_4 := hH.cell qr_4
  replace zr_5 := hH.frozen qr_5 zr_5
  replace qr_5 := hH.cell qr_5
  replace zr_6 := hH.frozen qr_6 zr_6
  replace qr_6 := hH.cell qr_6
  replace zr_7 := hH.frozen qr_7 zr_7
  replace qr_7 := hH.cell qr_7
  replace zr_8 := hH.frozen qr_8 zr_8
  replace qr_8 := hH.cell qr_8
  replace zr_9 := hH.frozen qr_9 zr_9
  replace qr_9 := hH.cell qr_9
  replace zr_10 := hH.frozen qr_10 zr_10
  replace qr_10 := hH.cell qr_10
  clear k4 k7 kW qW hHeld hH hb3
  go_upto_region 11 with (fail)
  refine settle_wp ?_
  intro w5 hb5
  replace HM2 := Lib.hid ((HM2.out.set (p := ⟨w.heap.size, 4, none⟩) (by simp) (by simp) (.int .i64 ((I : Int) + 1))).ext hb5)
  have pa_0 : w5.cell? ⟨w.heap.size, 0, none⟩ = some (.int .i64 0) := hb5.cell (by simp (maxDischargeDepth := 40) [go_sem, set_some, set_same, qa_0])
  have pa_1 : w5.cell? ⟨w.heap.size, 1, none⟩ = some (.int .i64 tn) := hb5.cell (by simp (maxDischargeDepth := 40) [go_sem, set_some, set_same, qa_1])
  have pa_2 : w5.cell? ⟨w.heap.size, 2, none⟩ = some (.int .i64 0) := hb5.cell (by simp (maxDischargeDepth := 40) [go_sem, set_some, set_same, qa_2])
  have pa_3 : w5.cell? ⟨w.heap.size, 3, none⟩ = some (.int .i64 tp) := hb5.cell (by simp (maxDischargeDepth := 40) [go_sem, set_some, set_same, qa_3])
  have pa_4 : w5.cell? ⟨w.heap.size, 4, none⟩ = some (.int .i64 ((I : Int) + 1)) := hb5.cell (by simp (maxDischargeDepth := 40) [go_sem, set_some, set_same, qa_4])
  have pa_5 : w5.cell? ⟨w.heap.size, 5, none⟩ = some (.int .i64 0) := hb5.cell (by simp (maxDischargeDepth := 40) [go_sem, set_some, set_same, qa_5])
  have pa_6 : w5.cell? ⟨w.heap.size, 6, none⟩ = some (.int .u64 tf) := hb5.cell (by simp (maxDischargeDepth := 40) [go_sem, set_some, set_same, qa_6])
  have pa_7 : w5.cell? ⟨w.heap.size, 7, none⟩ = some (.int .u64 M) := hb5.cell (by simp (maxDischargeDepth := 40) [go_sem, set_some, set_same, qa_7])
  have pa_8 : w5.cell? ⟨w.heap.size, 8, none⟩ = some (.int .u64 tv) := hb5.cell (by simp (maxDischargeDepth := 40) [go_sem, set_some, set_same, qa_8])
  have pa_9 : w5.cell? ⟨w.heap.size, 9, none⟩ = some (.int .u64 0) := hb5.cell (by simp (maxDischargeDepth := 40) [go_sem, set_some, set_same, qa_9])
  have pa_10 : w5.cell? ⟨w.heap.size, 10, none⟩ = some (.slice none 0 0) := hb5.cell (by simp (maxDischargeDepth := 40) [go_sem, set_some, set_same, qa_10])
  have pr_0 : w5.cell? ⟨w.heap.size + 1, 0, none⟩ = some (.int .i64 0) := hb5.cell (by simp [go_sem, qr_0])
  have vr_0 : w5.frozen? ⟨w.heap.size + 1, 0, none⟩ = false := hb5.frozen (v := .int .i64 0) (by simp [go_sem, qr_0]) (by simp [go_sem, zr_0])
  have pr_1 : w5.cell? ⟨w.heap.size + 1, 1, none⟩ = some (.int .i64 0) := hb5.cell (by simp [go_sem, qr_1])
  have vr_1 : w5.frozen? ⟨w.heap.size + 1, 1, none⟩ = false := hb5.frozen (v := .int .i64 0) (by simp [go_sem, qr_1]) (by simp [go_sem, zr_1])
  have pr_2 : w5.cell? ⟨w.heap.size + 1, 2, none⟩ = some (.int .i64 0) := hb5.cell (by simp [go_sem, qr_2])
  have vr_2 : w5.frozen? ⟨w.heap.size + 1, 2, none⟩ = false := hb5.frozen (v := .int .i64 0) (by simp [go_sem, qr_2]) (by simp [go_sem, zr_2])
  have pr_3 : w5.cell? ⟨w.heap.size + 1, 3, none⟩ = some (.int .i64 0) := hb5.cell (by simp [go_sem, qr_3])
  have vr_3 : w5.frozen? ⟨w.heap.size + 1, 3, none⟩ = false := hb5.frozen (v := .int .i64 0) (by simp [go_sem, qr_3]) (by simp [go_sem, zr_3])
  have pr_4 : w5.cell? ⟨w.heap.size + 1, 4, none⟩ = some (.int .i64 0) := hb5.cell (by simp [go_sem, qr_4])
  have vr_4 : w5.frozen? ⟨w.heap.size + 1, 4, none⟩ = false := hb5.frozen (v := .int .i64 0) (by simp [go_sem, qr_4]) (by simp [go_sem, zr_4])
  have pr_5 : w5.cell? ⟨w.heap.size + 1, 5, none⟩ = some (.int .i64 0) := hb5.cell (by simp [go_sem, qr_5])
  have vr_5 : w5.frozen? ⟨w.heap.size + 1, 5, none⟩ = false := hb5.frozen (v := .int .i64 0) (by simp [go_sem, qr_5]) (by simp [go_sem, zr_5])
  have pr_6 : w5.cell? ⟨w.heap.size + 1, 6, none⟩ = some (.int .u64 0) := hb5.cell (by simp [go_sem, qr_6])
  have vr_6 : w5.frozen? ⟨w.heap.size + 1, 6, none⟩ = false := hb5.frozen (v := .int .u64 0) (by simp [go_sem, qr_6]) (by simp [go_sem, zr_6])
  have pr_7 : w5.cell? ⟨w.heap.size + 1, 7, none⟩ = some (.int .u64 0) := hb5.cell (by simp [go_sem, qr_7])
  have vr_7 : w5.frozen? ⟨w.heap.size + 1, 7, none⟩ = false := hb5.frozen (v := .int .u64 0) (by simp [go_sem, qr_7]) (by simp [go_sem, zr_7])
  have pr_8 : w5.cell? ⟨w.heap.size + 1, 8, none⟩ = some (.int .u64 0) := hb5.cell (by simp [go_sem, qr_8])
  have vr_8 : w5.frozen? ⟨w.heap.size + 1, 8, none⟩ = false := hb5.frozen (v := .int .u64 0) (by simp [go_sem, qr_8]) (by simp [go_sem, zr_8])
  have pr_9 : w5.cell? ⟨w.heap.size + 1, 9, none⟩ = some (.int .u64 0) := hb5.cell (by simp [go_sem, qr_9])
  have vr_9 : w5.frozen? ⟨w.heap.size + 1, 9, none⟩ = false := hb5.frozen (v := .int .u64 0) (by simp [go_sem, qr_9]) (by simp [go_sem, zr_9])
  have pr_10 : w5.cell? ⟨w.heap.size + 1, 10, none⟩ = some (.slice none 0 0) := hb5.cell (by simp [go_sem, qr_10])
  have vr_10 : w5.frozen? ⟨w.heap.size + 1, 10, none⟩ = false := hb5.frozen (v := .slice none 0 0) (by simp [go_sem, qr_10]) (by simp [go_sem, zr_10])
  clear hb5 qa_0 za_0 qa_1 za_1 qa_2 za_2 qa_3 za_3 qa_4 za_4 qa_5 za_5 qa_6 za_6 qa_7 za_7 qa_8 za_8 qa_9 za_9 qa_10 za_10 qr_0 zr_0 qr_1 zr_1 qr_2 zr_2 qr_3 zr_3 qr_4 zr_4 qr_5 zr_5 qr_6 zr_6 qr_7 zr_7 qr_8 zr_8 qr_9 zr_9 qr_10 zr_10
  go_wp2
  refine bodyPost_ret (v := .tuple #[(.agg #[.int .i64 0, .int .i64 tn, .int .i64 0, .int .i64 tp, .int .i64 ((I : Int) + 1), .int .i64 0, .int .u64 tf, .int .u64 M, .int .u64 tv, .int .u64 0, .slice none 0 0]), .bool false]) (by simp [results, Tryz.results59, go_sem, pr_0, pr_1, pr_2, pr_3, pr_4, pr_5, pr_6, pr_7, pr_8, pr_9, pr_10, pa_0, pa_1, pa_2, pa_3, pa_4, pa_5, pa_6, pa_7, pa_8, pa_9, pa_10]) rfl (HG.out _ ?mid)
  case mid => repeat (first | with_reducible exact HM2.out | refine RMid.set ?_ (by simp) (by simp) _)
set_option maxRecDepth 100000 in
theorem rScan_none (b : Nat) (r : RY) (f : Nat → Int) (lv : Value) (log : List Acc) (t : Int) (v : Value) (xs : List Int) (tn tp I tf M tv : Int) (w : World) (h : RB w b r f lv log) (hv : IntsV w v xs) (h0 : xs.length = 0) (hI : I = 0) :
    Calls Tryz.prog 59 #[.pointer (some ⟨b, 0, none⟩), .int .i64 t, v, (.agg #[.int .i64 0, .int .i64 tn, .int .i64 0, .int .i64 tp, .int .i64 I, .int .i64 0, .int .u64 tf, .int .u64 M, .int .u64 tv, .int .u64 0, .slice none 0 0])] w fun e w' => e = .returned (.tuple #[(.agg #[.int .i64 0, .int .i64 tn, .int .i64 0, .int .i64 tp, .int .i64 0, .int .i64 0, .int .u64 tf, .int .u64 M, .int .u64 tv, .int .u64 0, .slice none 0 0]), .bool true]) ∧ Ext w w' := by
  obtain ⟨va, vc, ev, hf⟩ := hv.form
  subst ev
  subst hI
  rw [h0]
  clear h hv hf h0
  go_enter Tryz.func59, Tryz.ntmps59
  go_wp2
  refine bodyPost_ret (v := .tuple #[(.agg #[.int .i64 0, .int .i64 tn, .int .i64 0, .int .i64 tp, .int .i64 0, .int .i64 0, .int .u64 tf, .int .u64 M, .int .u64 tv, .int .u64 0, .slice none 0 0]), .bool true]) (by simp [results, Tryz.results59, go_sem]) rfl ⟨rfl, ?_⟩
  repeat (first | with_reducible exact Ext.refl _ | with_reducible assumption | with_reducible refine Ext.alloc ?_ _ | with_reducible refine Ext.drew ?_ | with_reducible refine Ext.drewN ?_ _ | with_reducible refine Ext.setCell ?_ (by simp <;> omega) _ | with_reducible refine Ext.trans ?_ (by assumption))
end Go.Proofs.YtkmfamidahlgiaaGreatDoor
/- A step of a scan, and of the document's, told by the same letters. -/
namespace Go.Proofs.YtkmfamidahlgiaaGreatDoor
open Go.RowKit
set_option linter.unusedVariables false
set_option linter.unusedSimpArgs false
set_option maxHeartbeats 4000000
/-- the first cells are gates -/
theorem BK.gate {y : LY} {ups : List (List Int)} (K : BK y ups) (c : Nat) (h : c < y.n) : kd y c = 1 ∧ c < y.m := by
  have hm := K.m
  have hk := K.num
  have h2 := hk.c2
  have hb : (y.n : Int) ≤ nCe y.V y.n y.C := by
    unfold nCe nSl
    split
    · omega
    · split <;> omega
  refine ⟨?_, by omega⟩
  rw [K.kd_at]
  have : useN y.V y.n y.C c = (1, (c : Int)) := by
    unfold useN useL
    rw [if_neg (by omega), if_pos (by omega)]
  rw [this]; rfl
/-- cells that are gates, as many as n of them -/
structure Gts (n : Nat) (xs : List Int) : Prop where
  at_ : ∀ i, i < xs.length → ∃ c : Nat, xs.getD i 0 = c ∧ c < n
  len : xs.length ≤ 1000
/-- a step of a scan -/
def ScRel (D : Int → Int) (f : Nat → Int) (xs : List Int) (th I M : Int) (log : List Acc) (d : Bool) (I' M' : Int) (log' : List Acc) : Prop :=
  (xs.length = 0 ∧ I = 0 ∧ d = true ∧ I' = 0 ∧ M' = M ∧ log' = log) ∨
  (∃ i c : Nat, I = i ∧ i < xs.length ∧ xs.getD i 0 = c ∧ d = decide (i + 1 = xs.length) ∧ I' = (if i + 1 = xs.length then 0 else (i : Int) + 1) ∧ M' = (if i = 0 ∨ D (f c - M) < 0 then f c else M) ∧ log' = log ++ [⟨th, 1, c, f c, f c⟩])
def tOut (x : Fm) (I' M' : Int) : Value := (.agg #[.int .i64 0, .int .i64 (x.N), .int .i64 0, .int .i64 (x.Pc), .int .i64 (I'), .int .i64 0, .int .u64 (x.Fr), .int .u64 (M'), .int .u64 (x.Vl), .int .u64 0, .slice none 0 0])
/-- where a scan may stand -/
def ScAt (xs : List Int) (I : Int) : Prop := (xs.length = 0 ∧ I = 0) ∨ ∃ i : Nat, I = i ∧ i < xs.length
theorem ScAt.zero (xs : List Int) : ScAt xs 0 := by
  by_cases h : xs.length = 0
  · exact .inl ⟨h, rfl⟩
  · exact .inr ⟨0, rfl, by omega⟩
theorem ScRel.at_ {D : Int → Int} {f : Nat → Int} {xs : List Int} {th I M : Int} {log : List Acc} {d : Bool} {I' M' : Int} {log' : List Acc} (h : ScRel D f xs th I M log d I' M' log') : ScAt xs I' := by
  rcases h with ⟨h1, _, _, h2, _, _⟩ | ⟨i, c, h1, h2, _, _, h3, _, _⟩
  · exact .inl ⟨h1, h2⟩
  · rw [h3]
    split
    · exact .zero xs
    · exact .inr ⟨i + 1, by omega, by omega⟩
theorem ScRel.len {D : Int → Int} {f : Nat → Int} {xs : List Int} {th I M : Int} {log : List Acc} {d : Bool} {I' M' : Int} {log' : List Acc} (h : ScRel D f xs th I M log d I' M' log') : log'.length ≤ log.length + 1 := by
  rcases h with ⟨_, _, _, _, _, e⟩ | ⟨_, _, _, _, _, _, _, _, e⟩ <;> rw [e] <;> simp
theorem ScRel.rng {D : Int → Int} {f : Nat → Int} {xs : List Int} {th I M : Int} {log : List Acc} {d : Bool} {I' M' : Int} {log' : List Acc} (h : ScRel D f xs th I M log d I' M' log') {N : Int} (hf : ∀ c, 0 ≤ f c ∧ f c < N) (hM : 0 ≤ M ∧ M < N) : 0 ≤ M' ∧ M' < N := by
  rcases h with ⟨_, _, _, _, e, _⟩ | ⟨_, c, _, _, _, _, _, e, _⟩
  · rw [e]; exact hM
  · rw [e]
    split
    · exact hf c
    · exact hM
theorem ScRel.I0 {D : Int → Int} {f : Nat → Int} {xs : List Int} {th I M : Int} {log : List Acc} {d : Bool} {I' M' : Int} {log' : List Acc} (h : ScRel D f xs th I M log d I' M' log') (hx : xs.length ≤ 1000) : 0 ≤ I' ∧ I' ≤ 1000 := by
  rcases h.at_ with ⟨_, e⟩ | ⟨i, e, h2⟩ <;> omega
/-- cells of the width -/
def Rgs32 (f : Nat → Int) : Prop := ∀ c : Nat, 0 ≤ f c ∧ f c < 4294967296
theorem in_rgs32 {x : Int} (h : 0 ≤ x ∧ x < 4294967296) : (((x) % 4294967296)) = x := by
  first
    | (unfold U64; omega)
    | omega
theorem Rgs32.upd {f : Nat → Int} (h : Rgs32 f) (c : Nat) (z : Int) (hz : 0 ≤ z ∧ z < 4294967296) : Rgs32 (Go.Proofs.YtkmfamidahlgiaaGreatDoor.upd f c z) := fun i => by
  unfold Go.Proofs.YtkmfamidahlgiaaGreatDoor.upd
  split
  · exact hz
  · exact h i
theorem rgs_first32 {y : LY} {ups : List (List Int)} (K : BK y ups) (hW : y.W = 32) (h0 : 0 ≤ y.S) (h1 : y.S < 18446744073709551616) : Rgs32 (fsC y.V y.W y.C y.S y.n) := fun i => by
  have hc := K.ok.rc
  unfold fsC
  rw [hW]
  first
    | exact fst_rng32 hc _ _
    | exact fst_rng (.inr rfl) hc h0 h1 _ _
theorem plusW_rg32 (x n : Int) : 0 ≤ plusW 32 x n ∧ plusW 32 x n < 4294967296 := by
  unfold plusW
  first
    | (rw [if_pos rfl]; omega)
    | (rw [if_neg (by decide)]; exact U64_range _)
/-- the least as the document looks for it is the program's -/
theorem least_eq32 (g : Nat → Int) : ∀ k, leastP D32 g (k + 1) = least32 (g 0) ((List.range k).map (fun i => g (i + 1)))
  | 0 => by rw [leastP_0]; rfl
  | k + 1 => by
    have ih := least_eq32 g k
    rw [List.range_succ, List.map_append]
    unfold least32 at ih ⊢
    rw [List.foldl_append, ← ih]
    show (if k + 1 = 0 ∨ D32 (g (k + 1) - leastP D32 g (k + 1)) < 0 then g (k + 1) else leastP D32 g (k + 1)) = _
    simp
/-- the program's step of a scan -/
theorem pScan32 {w0 w : World} {b g : Nat} {y : LY} {f f' : Nat → Int} {lv : Value} {log log' : List Acc} {b' : Nat} {r : RY} {lv' : Value} {ups : List (List Int)} {fb n t : Nat} {F : Nat → Fm} {v : Value} {xs : List Int} (K : BK y ups) (h : Duo 121 w0 w b g y f lv log b' r f' lv' log' ups) (hF : Sd b g lv b' r lv' w0 w fb n (fmV32 F)) (ht : t * 11 + 11 ≤ n) (E : Parts w) (hv : IntsV w v xs) (hx : Gts y.n xs) (hI : ScAt xs (F t).I) (hf : Rgs32 f) (hl : log.length ≤ 1000) (th : Int) :
    Calls Tryz.prog 26 #[.pointer (some ⟨b, 0, none⟩), .int .i64 th, v, .pointer (some ⟨fb, t * 11, none⟩)] w fun e w' => ∃ d I' M' log2, ScRel D32 f xs th (F t).I (F t).Mn log d I' M' log2 ∧ e = .returned (.bool d) ∧ ∃ lv2, Duo 121 w0 w' b g y f lv2 log2 b' r f' lv' log' ups ∧ Sd b g lv2 b' r lv' w0 w' fb n (fmV32 (updF F t { F t with I := I', Mn := M' })) ∧ But (fun k => Own b g lv k ∨ k = fb) w w' ∧ (lv2.ownBlock = lv.ownBlock ∨ ∃ j, lv2.ownBlock = some j ∧ w.heap.size ≤ j) := by
  have FR := hF.fr32 ht
  rcases hI with ⟨h0, hI0⟩ | ⟨i, hI0, hi⟩
  · obtain ⟨a, c, e, -⟩ := hv.form
    rw [h0] at e
    subst e
    refine (scan32_zero b fb (t * 11) th _ a c w FR.c4 FR.z4 (by omega)).mono ?_
    rintro e w' ⟨rfl, rfl⟩
    have hN := but_setCell w ⟨fb, t * 11 + 4, none⟩ (.int .i64 0)
    refine ⟨true, 0, (F t).Mn, log, .inl ⟨h0, hI0, rfl, rfl, rfl, rfl⟩, rfl, lv, h.off hF hN, ?_, hN.mono fun _ _ h => .inr h, .inl rfl⟩
    refine (hF.set (i := t * 11 + 4) (by omega) (.int .i64 0)).congr fun j hj => ?_
    have hu : updF F t { F t with I := 0, Mn := (F t).Mn } = F := by
      funext q
      unfold updF
      by_cases e : q = t
      · subst e
        rw [if_pos rfl]
        cases hq : F q with
        | mk a1 a2 a3 a4 a5 a6 =>
          have : a3 = 0 := by have := hI0; rw [hq] at this; exact this
          subst this
          rfl
      · rw [if_neg e]
    rw [hu]
    by_cases e : j = t * 11 + 4
    · subst e
      rw [if_pos rfl, fmV32_at F t 4 (by decide)]
      show Value.int .i64 0 = Value.int .i64 (F t).I
      rw [hI0]
    · rw [if_neg e]
  · obtain ⟨c, hc, hcn⟩ := hx.at_ i hi
    obtain ⟨hk, hm⟩ := K.gate c hcn
    rw [hI0] at FR
    have hfc := hf c
    refine (scan32_step b g fb (t * 11) y f lv log th v xs i c (F t).Mn w h.T.B K.yok E hF.aside FR hv hi hc hk hfc.1 (by have := hfc.2; omega) hl hx.len).mono ?_
    rintro e w' ⟨rfl, lv2, B2, F2, K2, N2, A2⟩
    rw [in_rgs32 hfc] at F2
    have e1 : decide ((i : Int) + 1 = (xs.length : Int)) = decide (i + 1 = xs.length) := by
      by_cases e : i + 1 = xs.length
      · rw [decide_eq_true e, decide_eq_true (by omega)]
      · rw [decide_eq_false e, decide_eq_false (by omega)]
    have e2 : (if (i : Int) + 1 = (xs.length : Int) then (0 : Int) else (i : Int) + 1) = (if i + 1 = xs.length then 0 else (i : Int) + 1) := by
      by_cases e : i + 1 = xs.length
      · rw [if_pos e, if_pos (by omega)]
      · rw [if_neg e, if_neg (by omega)]
    have e3 : nextM32 i (F t).Mn (f c) = (if i = 0 ∨ D32 (f c - (F t).Mn) < 0 then f c else (F t).Mn) := by
      unfold nextM32
      by_cases e : i = 0 ∨ D32 (f c - (F t).Mn) < 0
      · rw [if_pos e, if_pos (e.imp (fun e => by omega) id)]
      · rw [if_neg e, if_neg (fun e' => e (e'.imp (fun e => by omega) id))]
    rw [e2, e3] at F2
    rw [e1]
    refine ⟨_, _, _, _, .inr ⟨i, c, hI0, hi, hc, rfl, rfl, rfl, rfl⟩, rfl, lv2, h.stepK32 hF B2 N2 A2, ⟨va_scan32 hF.a ht F2 K2, F2.od, hF.x.stepB N2.size A2⟩, N2, A2⟩
/-- the document's, told the same -/
theorem dScan32 {w0 w : World} {b g : Nat} {y : LY} {f f1 : Nat → Int} {lv : Value} {log log1 : List Acc} {b' : Nat} {r : RY} {lv' : Value} {ups : List (List Int)} {v : Value} {xs : List Int} (K : BK y ups) (R : Rel y r 32) (h : Duo 121 w0 w b g y f1 lv log1 b' r f lv' log ups) (hv : IntsV w v xs) (hx : Gts y.n xs) (hf : Rgs32 f) (hl : log.length ≤ 1000) (th : Int) (x : Fm) (hM : 0 ≤ x.Mn) {d : Bool} {I' M' : Int} {log2 : List Acc} (hE : ScRel D32 f xs th x.I x.Mn log d I' M' log2) :
    Calls Tryz.prog 59 #[.pointer (some ⟨b', 0, none⟩), .int .i64 th, v, (.agg #[.int .i64 0, .int .i64 (x.N), .int .i64 0, .int .i64 (x.Pc), .int .i64 (x.I), .int .i64 0, .int .u64 (x.Fr), .int .u64 (x.Mn), .int .u64 (x.Vl), .int .u64 0, .slice none 0 0])] w fun e w' => e = .returned (.tuple #[(.agg #[.int .i64 0, .int .i64 (x.N), .int .i64 0, .int .i64 (x.Pc), .int .i64 (I'), .int .i64 0, .int .u64 (x.Fr), .int .u64 (M'), .int .u64 (x.Vl), .int .u64 0, .slice none 0 0]), .bool d]) ∧ ∃ lv2, Duo 121 w0 w' b g y f1 lv log1 b' r f lv2 log2 ups ∧ But (Own b' r.gh lv') w w' ∧ (lv2.ownBlock = lv'.ownBlock ∨ ∃ j, lv2.ownBlock = some j ∧ w.heap.size ≤ j) := by
  rcases hE with ⟨h0, hI0, rfl, rfl, rfl, rfl⟩ | ⟨i, c, hI0, hi, hc, rfl, rfl, rfl, rfl⟩
  · refine (rScan_none b' r f lv' log2 th v xs x.N x.Pc x.I x.Fr x.Mn x.Vl w h.T.R hv h0 hI0).mono ?_
    rintro e w' ⟨rfl, hX⟩
    exact ⟨rfl, lv', h.ext hX, hX.but _, .inl rfl⟩
  · obtain ⟨c', hc', hcn⟩ := hx.at_ i hi
    have ecc : c' = c := by omega
    subst ecc
    obtain ⟨hk, hm⟩ := K.gate c' hcn
    have hk' : isK r (c' : Int) 1 = true := by rw [isK_kd R (by decide), hk]; rfl
    have hm' : c' < r.m := by rw [R.m]; exact hm
    have f0 := (hf c').1
    have hW : r.W = 32 := R.w
    have fin : ∀ d2 I2 M2, d2 = decide (i + 1 = xs.length) → I2 = (if i + 1 = xs.length then 0 else (i : Int) + 1) → M2 = (if i = 0 ∨ D32 (f c' - x.Mn) < 0 then f c' else x.Mn) → ∀ e w', RScanDoes b' r lv' f (log ++ [⟨th, 1, c', f c', f c'⟩]) d2 x.N x.Pc I2 x.Fr M2 x.Vl w e w' → e = .returned (.tuple #[tOut x (if i + 1 = xs.length then 0 else (i : Int) + 1) (if i = 0 ∨ D32 (f c' - x.Mn) < 0 then f c' else x.Mn), .bool (decide (i + 1 = xs.length))]) ∧ ∃ lv2, Duo 121 w0 w' b g y f1 lv log1 b' r f lv2 (log ++ [⟨th, 1, c', f c', f c'⟩]) ups ∧ But (Own b' r.gh lv') w w' ∧ (lv2.ownBlock = lv'.ownBlock ∨ ∃ j, lv2.ownBlock = some j ∧ w.heap.size ≤ j) := by
      rintro d2 I2 M2 rfl rfl rfl e w' ⟨he, lv2, R2, N2, A2⟩
      exact ⟨he, lv2, h.stepR R2 N2 A2, N2, A2⟩
    have hn := hx.len
    rw [hI0]
    by_cases hi0 : i = 0
    · by_cases h2 : i + 1 = xs.length
      · refine (rScan32_ze b' r f lv' log th v xs i c' x.N x.Pc x.Fr x.Mn x.Vl w h.T.R hW hv hi hc hk' hm' hl hn f0 hM hi0 h2).mono (fin _ _ _ (by simp [h2]) (by simp [h2]) (by simp [hi0]))
      · refine (rScan32_zc b' r f lv' log th v xs i c' x.N x.Pc x.Fr x.Mn x.Vl w h.T.R hW hv hi hc hk' hm' hl hn f0 hM hi0 (by omega)).mono (fin _ _ _ (by simp [h2]) (by simp [h2]) (by simp [hi0]))
    · by_cases h1 : D32 (f c' - x.Mn) < 0
      · by_cases h2 : i + 1 = xs.length
        · refine (rScan32_le b' r f lv' log th v xs i c' x.N x.Pc x.Fr x.Mn x.Vl w h.T.R hW hv hi hc hk' hm' hl hn f0 hM hi0 h1 h2).mono (fin _ _ _ (by simp [h2]) (by simp [h2]) (by simp [h1]))
        · refine (rScan32_lc b' r f lv' log th v xs i c' x.N x.Pc x.Fr x.Mn x.Vl w h.T.R hW hv hi hc hk' hm' hl hn f0 hM hi0 h1 (by omega)).mono (fin _ _ _ (by simp [h2]) (by simp [h2]) (by simp [h1]))
      · by_cases h2 : i + 1 = xs.length
        · refine (rScan32_ge b' r f lv' log th v xs i c' x.N x.Pc x.Fr x.Mn x.Vl w h.T.R hW hv hi hc hk' hm' hl hn f0 hM hi0 h1 h2).mono (fin _ _ _ (by simp [h2]) (by simp [h2]) (by simp [h1, hi0]))
        · refine (rScan32_gc b' r f lv' log th v xs i c' x.N x.Pc x.Fr x.Mn x.Vl w h.T.R hW hv hi hc hk' hm' hl hn f0 hM hi0 h1 (by omega)).mono (fin _ _ _ (by simp [h2]) (by simp [h2]) (by simp [h1, hi0]))
/-- cells of the width -/
def Rgs64 (f : Nat → Int) : Prop := ∀ c : Nat, 0 ≤ f c ∧ f c < 18446744073709551616
theorem in_rgs64 {x : Int} (h : 0 ≤ x ∧ x < 18446744073709551616) : ((U64 (x))) = x := by
  first
    | (unfold U64; omega)
    | omega
theorem Rgs64.upd {f : Nat → Int} (h : Rgs64 f) (c : Nat) (z : Int) (hz : 0 ≤ z ∧ z < 18446744073709551616) : Rgs64 (Go.Proofs.YtkmfamidahlgiaaGreatDoor.upd f c z) := fun i => by
  unfold Go.Proofs.YtkmfamidahlgiaaGreatDoor.upd
  split
  · exact hz
  · exact h i
theorem rgs_first64 {y : LY} {ups : List (List Int)} (K : BK y ups) (hW : y.W = 64) (h0 : 0 ≤ y.S) (h1 : y.S < 18446744073709551616) : Rgs64 (fsC y.V y.W y.C y.S y.n) := fun i => by
  have hc := K.ok.rc
  unfold fsC
  rw [hW]
  first
    | exact fst_rng32 hc _ _
    | exact fst_rng (.inr rfl) hc h0 h1 _ _
theorem plusW_rg64 (x n : Int) : 0 ≤ plusW 64 x n ∧ plusW 64 x n < 18446744073709551616 := by
  unfold plusW
  first
    | (rw [if_pos rfl]; omega)
    | (rw [if_neg (by decide)]; exact U64_range _)
/-- the least as the document looks for it is the program's -/
theorem least_eq64 (g : Nat → Int) : ∀ k, leastP D64 g (k + 1) = least64 (g 0) ((List.range k).map (fun i => g (i + 1)))
  | 0 => by rw [leastP_0]; rfl
  | k + 1 => by
    have ih := least_eq64 g k
    rw [List.range_succ, List.map_append]
    unfold least64 at ih ⊢
    rw [List.foldl_append, ← ih]
    show (if k + 1 = 0 ∨ D64 (g (k + 1) - leastP D64 g (k + 1)) < 0 then g (k + 1) else leastP D64 g (k + 1)) = _
    simp
/-- the program's step of a scan -/
theorem pScan64 {w0 w : World} {b g : Nat} {y : LY} {f f' : Nat → Int} {lv : Value} {log log' : List Acc} {b' : Nat} {r : RY} {lv' : Value} {ups : List (List Int)} {fb n t : Nat} {F : Nat → Fm} {v : Value} {xs : List Int} (K : BK y ups) (h : Duo 152 w0 w b g y f lv log b' r f' lv' log' ups) (hF : Sd b g lv b' r lv' w0 w fb n (fmV64 F)) (ht : t * 11 + 11 ≤ n) (E : Parts w) (hv : IntsV w v xs) (hx : Gts y.n xs) (hI : ScAt xs (F t).I) (hf : Rgs64 f) (hl : log.length ≤ 1000) (th : Int) :
    Calls Tryz.prog 65 #[.pointer (some ⟨b, 0, none⟩), .int .i64 th, v, .pointer (some ⟨fb, t * 11, none⟩)] w fun e w' => ∃ d I' M' log2, ScRel D64 f xs th (F t).I (F t).Mn log d I' M' log2 ∧ e = .returned (.bool d) ∧ ∃ lv2, Duo 152 w0 w' b g y f lv2 log2 b' r f' lv' log' ups ∧ Sd b g lv2 b' r lv' w0 w' fb n (fmV64 (updF F t { F t with I := I', Mn := M' })) ∧ But (fun k => Own b g lv k ∨ k = fb) w w' ∧ (lv2.ownBlock = lv.ownBlock ∨ ∃ j, lv2.ownBlock = some j ∧ w.heap.size ≤ j) := by
  have FR := hF.fr64 ht
  rcases hI with ⟨h0, hI0⟩ | ⟨i, hI0, hi⟩
  · obtain ⟨a, c, e, -⟩ := hv.form
    rw [h0] at e
    subst e
    refine (scan64_zero b fb (t * 11) th _ a c w FR.c4 FR.z4 (by omega)).mono ?_
    rintro e w' ⟨rfl, rfl⟩
    have hN := but_setCell w ⟨fb, t * 11 + 4, none⟩ (.int .i64 0)
    refine ⟨true, 0, (F t).Mn, log, .inl ⟨h0, hI0, rfl, rfl, rfl, rfl⟩, rfl, lv, h.off hF hN, ?_, hN.mono fun _ _ h => .inr h, .inl rfl⟩
    refine (hF.set (i := t * 11 + 4) (by omega) (.int .i64 0)).congr fun j hj => ?_
    have hu : updF F t { F t with I := 0, Mn := (F t).Mn } = F := by
      funext q
      unfold updF
      by_cases e : q = t
      · subst e
        rw [if_pos rfl]
        cases hq : F q with
        | mk a1 a2 a3 a4 a5 a6 =>
          have : a3 = 0 := by have := hI0; rw [hq] at this; exact this
          subst this
          rfl
      · rw [if_neg e]
    rw [hu]
    by_cases e : j = t * 11 + 4
    · subst e
      rw [if_pos rfl, fmV64_at F t 4 (by decide)]
      show Value.int .i64 0 = Value.int .i64 (F t).I
      rw [hI0]
    · rw [if_neg e]
  · obtain ⟨c, hc, hcn⟩ := hx.at_ i hi
    obtain ⟨hk, hm⟩ := K.gate c hcn
    rw [hI0] at FR
    have hfc := hf c
    refine (scan64_step b g fb (t * 11) y f lv log th v xs i c (F t).Mn w h.T.B K.yok E hF.aside FR hv hi hc hk hfc.1 (by have := hfc.2; omega) hl hx.len).mono ?_
    rintro e w' ⟨rfl, lv2, B2, F2, K2, N2, A2⟩
    rw [in_rgs64 hfc] at F2
    have e1 : decide ((i : Int) + 1 = (xs.length : Int)) = decide (i + 1 = xs.length) := by
      by_cases e : i + 1 = xs.length
      · rw [decide_eq_true e, decide_eq_true (by omega)]
      · rw [decide_eq_false e, decide_eq_false (by omega)]
    have e2 : (if (i : Int) + 1 = (xs.length : Int) then (0 : Int) else (i : Int) + 1) = (if i + 1 = xs.length then 0 else (i : Int) + 1) := by
      by_cases e : i + 1 = xs.length
      · rw [if_pos e, if_pos (by omega)]
      · rw [if_neg e, if_neg (by omega)]
    have e3 : nextM64 i (F t).Mn (f c) = (if i = 0 ∨ D64 (f c - (F t).Mn) < 0 then f c else (F t).Mn) := by
      unfold nextM64
      by_cases e : i = 0 ∨ D64 (f c - (F t).Mn) < 0
      · rw [if_pos e, if_pos (e.imp (fun e => by omega) id)]
      · rw [if_neg e, if_neg (fun e' => e (e'.imp (fun e => by omega) id))]
    rw [e2, e3] at F2
    rw [e1]
    refine ⟨_, _, _, _, .inr ⟨i, c, hI0, hi, hc, rfl, rfl, rfl, rfl⟩, rfl, lv2, h.stepK64 hF B2 N2 A2, ⟨va_scan64 hF.a ht F2 K2, F2.od, hF.x.stepB N2.size A2⟩, N2, A2⟩
/-- the document's, told the same -/
theorem dScan64 {w0 w : World} {b g : Nat} {y : LY} {f f1 : Nat → Int} {lv : Value} {log log1 : List Acc} {b' : Nat} {r : RY} {lv' : Value} {ups : List (List Int)} {v : Value} {xs : List Int} (K : BK y ups) (R : Rel y r 64) (h : Duo 152 w0 w b g y f1 lv log1 b' r f lv' log ups) (hv : IntsV w v xs) (hx : Gts y.n xs) (hf : Rgs64 f) (hl : log.length ≤ 1000) (th : Int) (x : Fm) (hM : 0 ≤ x.Mn) {d : Bool} {I' M' : Int} {log2 : List Acc} (hE : ScRel D64 f xs th x.I x.Mn log d I' M' log2) :
    Calls Tryz.prog 59 #[.pointer (some ⟨b', 0, none⟩), .int .i64 th, v, (.agg #[.int .i64 0, .int .i64 (x.N), .int .i64 0, .int .i64 (x.Pc), .int .i64 (x.I), .int .i64 0, .int .u64 (x.Fr), .int .u64 (x.Mn), .int .u64 (x.Vl), .int .u64 0, .slice none 0 0])] w fun e w' => e = .returned (.tuple #[(.agg #[.int .i64 0, .int .i64 (x.N), .int .i64 0, .int .i64 (x.Pc), .int .i64 (I'), .int .i64 0, .int .u64 (x.Fr), .int .u64 (M'), .int .u64 (x.Vl), .int .u64 0, .slice none 0 0]), .bool d]) ∧ ∃ lv2, Duo 152 w0 w' b g y f1 lv log1 b' r f lv2 log2 ups ∧ But (Own b' r.gh lv') w w' ∧ (lv2.ownBlock = lv'.ownBlock ∨ ∃ j, lv2.ownBlock = some j ∧ w.heap.size ≤ j) := by
  rcases hE with ⟨h0, hI0, rfl, rfl, rfl, rfl⟩ | ⟨i, c, hI0, hi, hc, rfl, rfl, rfl, rfl⟩
  · refine (rScan_none b' r f lv' log2 th v xs x.N x.Pc x.I x.Fr x.Mn x.Vl w h.T.R hv h0 hI0).mono ?_
    rintro e w' ⟨rfl, hX⟩
    exact ⟨rfl, lv', h.ext hX, hX.but _, .inl rfl⟩
  · obtain ⟨c', hc', hcn⟩ := hx.at_ i hi
    have ecc : c' = c := by omega
    subst ecc
    obtain ⟨hk, hm⟩ := K.gate c' hcn
    have hk' : isK r (c' : Int) 1 = true := by rw [isK_kd R (by decide), hk]; rfl
    have hm' : c' < r.m := by rw [R.m]; exact hm
    have f0 := (hf c').1
    have hW : r.W = 64 := R.w
    have fin : ∀ d2 I2 M2, d2 = decide (i + 1 = xs.length) → I2 = (if i + 1 = xs.length then 0 else (i : Int) + 1) → M2 = (if i = 0 ∨ D64 (f c' - x.Mn) < 0 then f c' else x.Mn) → ∀ e w', RScanDoes b' r lv' f (log ++ [⟨th, 1, c', f c', f c'⟩]) d2 x.N x.Pc I2 x.Fr M2 x.Vl w e w' → e = .returned (.tuple #[tOut x (if i + 1 = xs.length then 0 else (i : Int) + 1) (if i = 0 ∨ D64 (f c' - x.Mn) < 0 then f c' else x.Mn), .bool (decide (i + 1 = xs.length))]) ∧ ∃ lv2, Duo 152 w0 w' b g y f1 lv log1 b' r f lv2 (log ++ [⟨th, 1, c', f c', f c'⟩]) ups ∧ But (Own b' r.gh lv') w w' ∧ (lv2.ownBlock = lv'.ownBlock ∨ ∃ j, lv2.ownBlock = some j ∧ w.heap.size ≤ j) := by
      rintro d2 I2 M2 rfl rfl rfl e w' ⟨he, lv2, R2, N2, A2⟩
      exact ⟨he, lv2, h.stepR R2 N2 A2, N2, A2⟩
    have hn := hx.len
    rw [hI0]
    by_cases hi0 : i = 0
    · by_cases h2 : i + 1 = xs.length
      · refine (rScan64_ze b' r f lv' log th v xs i c' x.N x.Pc x.Fr x.Mn x.Vl w h.T.R hW hv hi hc hk' hm' hl hn f0 hM hi0 h2).mono (fin _ _ _ (by simp [h2]) (by simp [h2]) (by simp [hi0]))
      · refine (rScan64_zc b' r f lv' log th v xs i c' x.N x.Pc x.Fr x.Mn x.Vl w h.T.R hW hv hi hc hk' hm' hl hn f0 hM hi0 (by omega)).mono (fin _ _ _ (by simp [h2]) (by simp [h2]) (by simp [hi0]))
    · by_cases h1 : D64 (f c' - x.Mn) < 0
      · by_cases h2 : i + 1 = xs.length
        · refine (rScan64_le b' r f lv' log th v xs i c' x.N x.Pc x.Fr x.Mn x.Vl w h.T.R hW hv hi hc hk' hm' hl hn f0 hM hi0 h1 h2).mono (fin _ _ _ (by simp [h2]) (by simp [h2]) (by simp [h1]))
        · refine (rScan64_lc b' r f lv' log th v xs i c' x.N x.Pc x.Fr x.Mn x.Vl w h.T.R hW hv hi hc hk' hm' hl hn f0 hM hi0 h1 (by omega)).mono (fin _ _ _ (by simp [h2]) (by simp [h2]) (by simp [h1]))
      · by_cases h2 : i + 1 = xs.length
        · refine (rScan64_ge b' r f lv' log th v xs i c' x.N x.Pc x.Fr x.Mn x.Vl w h.T.R hW hv hi hc hk' hm' hl hn f0 hM hi0 h1 h2).mono (fin _ _ _ (by simp [h2]) (by simp [h2]) (by simp [h1, hi0]))
        · refine (rScan64_gc b' r f lv' log th v xs i c' x.N x.Pc x.Fr x.Mn x.Vl w h.T.R hW hv hi hc hk' hm' hl hn f0 hM hi0 h1 (by omega)).mono (fin _ _ _ (by simp [h2]) (by simp [h2]) (by simp [h1, hi0]))
end Go.Proofs.YtkmfamidahlgiaaGreatDoor
