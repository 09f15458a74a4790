/- The reference's Times where there is none; 'is' and 'live' of layer 4. -/
import Derived.Test.YthdokmhbdjajaaaRef04b
import Derived.Test.YthdokmhbdjajaaaPairSum
import Derived.Test.YthdokmhbdjajaaaFree
namespace Go.Proofs.Ythdokmhbdjajaaa
open Go.RowKit
set_option linter.unusedVariables false
set_option maxHeartbeats 1000000
attribute [local go_sem] later_cell later_frozen later_const
theorem rTimes_wide (a b k : Int) (w : World) (hk : inB k = false) : Calls Try.prog 15 #[.agg #[.int .i64 a, .int .i64 b, .bool false], .int .i64 k] w fun e w' => e = .returned (.agg #[.int .i64 0, .int .i64 0, .bool false]) ∧ Ext w w' := by
  go_enter Try.func15, Try.ntmps15
  go_wp2_with fail
  refine (count4 _ _).mono ?_
  rintro e w' ⟨rfl, rfl⟩
  rw [hk]
  go_wp2
  refine bodyPost_ret (v := .agg #[.int .i64 0, .int .i64 0, .bool false]) (by simp [results, Try.results15, go_sem]) rfl ⟨rfl, ?_⟩
  repeat (first | with_reducible exact Ext.refl _ | with_reducible assumption | with_reducible refine Ext.alloc ?_ _ | with_reducible refine Ext.drew ?_ | with_reducible refine Ext.drewN ?_ _ | with_reducible refine Ext.setCell ?_ (by simp <;> omega) _ | with_reducible refine Ext.trans ?_ (by assumption))
theorem rTimes_great (a b k : Int) (w : World) (ha : inB a = true) (hb : inB b = true) (hk : inB k = true) (h : inB (a * k) = false ∨ inB (b * k) = false) : Calls Try.prog 15 #[.agg #[.int .i64 a, .int .i64 b, .bool false], .int .i64 k] w fun e w' => e = .returned (.agg #[.int .i64 0, .int .i64 0, .bool false]) ∧ Ext w w' := by
  cases h1 : inB (a * k)
  · clear h
    go_enter Try.func15, Try.ntmps15
    go_wp2_with fail
    refine (count4 _ _).mono ?_
    rintro e w' ⟨rfl, rfl⟩
    rw [hk]
    go_wp2_with fail
    refine (product4 _ _ _ ha hk).mono ?_
    rintro e w' ⟨rfl, rfl⟩
    rw [h1]
    go_wp2
    refine bodyPost_ret (v := .agg #[.int .i64 0, .int .i64 0, .bool false]) (by simp [results, Try.results15, go_sem]) rfl ⟨rfl, ?_⟩
    repeat (first | with_reducible exact Ext.refl _ | with_reducible assumption | with_reducible refine Ext.alloc ?_ _ | with_reducible refine Ext.drew ?_ | with_reducible refine Ext.drewN ?_ _ | with_reducible refine Ext.setCell ?_ (by simp <;> omega) _ | with_reducible refine Ext.trans ?_ (by assumption))
  · have h2 : inB (b * k) = false := by rcases h with h | h; rw [h] at h1; cases h1; exact h
    clear h
    go_enter Try.func15, Try.ntmps15
    go_wp2_with fail
    refine (count4 _ _).mono ?_
    rintro e w' ⟨rfl, rfl⟩
    rw [hk]
    go_wp2_with fail
    refine (product4 _ _ _ ha hk).mono ?_
    rintro e w' ⟨rfl, rfl⟩
    rw [h1]
    go_wp2_with fail
    refine (product4 _ _ _ hb hk).mono ?_
    rintro e w' ⟨rfl, rfl⟩
    rw [h2]
    go_wp2
    refine bodyPost_ret (v := .agg #[.int .i64 0, .int .i64 0, .bool false]) (by simp [results, Try.results15, go_sem]) rfl ⟨rfl, ?_⟩
    repeat (first | with_reducible exact Ext.refl _ | with_reducible assumption | with_reducible refine Ext.alloc ?_ _ | with_reducible refine Ext.drew ?_ | with_reducible refine Ext.drewN ?_ _ | with_reducible refine Ext.setCell ?_ (by simp <;> omega) _ | with_reducible refine Ext.trans ?_ (by assumption))
theorem is_yes (a b : Int) (bad : Bool) (w : World) (ha : inB a = true) (hb : inB b = true) : Calls Try.prog 9 #[.complex .f64 (F a) (F b), .agg #[.int .i64 a, .int .i64 b, .bool bad]] w fun e w' => e = .returned (.bool true) ∧ Ext w w' := by
  have ca : Cnt (F a) a := cnt_F ((inB_iff a).1 ha).1 ((inB_iff a).1 ha).2
  have cb : Cnt (F b) b := cnt_F ((inB_iff b).1 hb).1 ((inB_iff b).1 hb).2
  have oa := cnt_self ca
  have ob := cnt_self cb
  go_enter Try.func9, Try.ntmps9
  go_wp2
  refine settle_wp ?_
  intro w1 hb1
  have qp_0 : w1.cell? ⟨w.heap.size, 0, none⟩ = some (.int .i64 a) := (hb1.cells.1 _ _ (by simp <;> omega)).trans (by simp [go_sem])
  have qp_1 : w1.cell? ⟨w.heap.size, 1, none⟩ = some (.int .i64 b) := (hb1.cells.1 _ _ (by simp <;> omega)).trans (by simp [go_sem])
  have qp_2 : w1.cell? ⟨w.heap.size, 2, none⟩ = some (.bool bad) := (hb1.cells.1 _ _ (by simp <;> omega)).trans (by simp [go_sem])
  have pp := World.block_lt_of_cell? _ ⟨w.heap.size, 0, none⟩ qp_0
  have rp := Nat.lt_succ_of_lt pp
  refine wp_region_later (by kernel_rfl) (by kernel_rfl) ?_
  have lp_0 := fun (g : Later w1) => g.ok.cell qp_0
  have lp_1 := fun (g : Later w1) => g.ok.cell qp_1
  have lp_2 := fun (g : Later w1) => g.ok.cell qp_2
  repeat (go_big_quiet_step ((fail)))
  go_big_quiet_step ((go_at_call 21; exact laterS (first_yes _ _ _ _ _ ca cb)))
  repeat (go_big_quiet_step ((fail)))
  go_big_quiet_step ((go_at_call 22; exact laterS (second_yes _ _ _ _ _ ca cb)))
  repeat (go_big_quiet_step ((fail)))
  refine wpQuiet_nil ?_
  intro w2 hl2
  have hb2 := laters_ext hl2
  clear hl2 lp_0 lp_1 lp_2
  have hx2 : Ext w1 w2 := by repeat (first | with_reducible exact Ext.refl _ | with_reducible assumption | with_reducible refine Ext.alloc ?_ _ | with_reducible refine Ext.drew ?_ | with_reducible refine Ext.drewN ?_ _ | with_reducible refine Ext.setCell ?_ (by simp <;> omega) _ | with_reducible refine Ext.trans ?_ (by assumption))
  replace qp_0 := hx2.cell qp_0
  replace qp_1 := hx2.cell qp_1
  replace qp_2 := hx2.cell qp_2
  replace pp := Nat.lt_of_lt_of_le pp hx2.size
  replace rp := Nat.lt_succ_of_lt pp
  clear hx2
  go_wp2
  go_ret
  refine ⟨rfl, ?_⟩
  repeat (first | with_reducible exact Ext.refl _ | with_reducible assumption | with_reducible refine Ext.alloc ?_ _ | with_reducible refine Ext.drew ?_ | with_reducible refine Ext.drewN ?_ _ | with_reducible refine Ext.setCell ?_ (by simp <;> omega) _ | with_reducible refine Ext.trans ?_ (by assumption))
theorem live04 (w : World) : Calls Try.prog 17 #[] w fun e w' => e = .returned (.bool true) ∧ Ext w w' := by
  have c4 : Cnt (F 4) 4 := cnt_F (by decide) (by decide)
  have cm : Cnt (F (-4)) (-4) := cnt_F (by decide) (by decide)
  have hp : ∀ w' : World, w'.cell? ⟨w.heap.size, 0, none⟩ = some (.complex .f64 (F 3) (F 4)) → w'.cell? ⟨w.heap.size, 1, none⟩ = some (.complex .f64 (F 1) (F 0)) → PairsAt w' (.slice (some ⟨w.heap.size, 0, none⟩) 2 2) [(3, 4), (1, 0)] := by
    intro w' h0 h1
    refine .inr ⟨_, 0, 2, rfl, fun j hj => ?_⟩
    match j, hj with
    | 0, _ => exact ⟨_, _, h0, cnt_F (by decide) (by decide), cnt_F (by decide) (by decide)⟩
    | 1, _ => exact ⟨_, _, h1, cnt_F (by decide) (by decide), cnt_F (by decide) (by decide)⟩
  have hw : Way [(3, 4), (1, 0)] := by
    intro k hk
    match k, hk with
    | 0, _ => exact ⟨rfl, rfl⟩
    | 1, _ => exact ⟨rfl, rfl⟩
    | 2, _ => exact ⟨rfl, rfl⟩
  have HP := Lib.hid hp
  clear hp
  go_enter Try.func17, Try.ntmps17
  go_wp2_with fail
  refine (of_yes 3 4 _ (by decide) (by decide) (by decide) (by decide)).mono ?_
  rintro e w' ⟨rfl, rfl⟩
  go_wp2_with fail
  refine (of_yes 1 0 _ (by decide) (by decide) (by decide) (by decide)).mono ?_
  rintro e w' ⟨rfl, rfl⟩
  go_wp2_with fail
  have c := fun w' h0 h1 => sum_yes (.slice (some ⟨w.heap.size, 0, none⟩) 2 2) [(3, 4), (1, 0)] w' (HP.out w' h0 h1) (by decide) hw
  rw [show sumA [(3, 4), (1, 0)] = 4 from rfl, show sumB [(3, 4), (1, 0)] = 4 from rfl] at c
  refine (c _ (by simp [go_sem]) (by simp [go_sem])).mono ?_
  rintro e w' ⟨rfl, rfl⟩
  clear c
  go_wp2_with fail
  refine (first_yes _ _ _ _ _ c4 c4).mono ?_
  rintro e w' ⟨rfl, rfl⟩
  go_wp2_with fail
  refine (second_yes _ _ _ _ _ c4 c4).mono ?_
  rintro e w' ⟨rfl, rfl⟩
  go_wp2_with fail
  refine (total_yes _ _ _ _ _ c4 c4).mono ?_
  rintro e w' ⟨rfl, rfl⟩
  go_wp2_with fail
  refine (turn_yes _ _ _ _ _ c4 c4).mono ?_
  rintro e w' ⟨rfl, rfl⟩
  go_wp2_with fail
  refine (first_yes _ _ _ _ _ cm c4).mono ?_
  rintro e w' ⟨rfl, rfl⟩
  go_wp2
  go_ret
  refine ⟨rfl, ?_⟩
  repeat (first | with_reducible exact Ext.refl _ | with_reducible assumption | with_reducible refine Ext.alloc ?_ _ | with_reducible refine Ext.drew ?_ | with_reducible refine Ext.drewN ?_ _ | with_reducible refine Ext.setCell ?_ (by simp <;> omega) _ | with_reducible refine Ext.trans ?_ (by assumption))
end Go.Proofs.Ythdokmhbdjajaaa
