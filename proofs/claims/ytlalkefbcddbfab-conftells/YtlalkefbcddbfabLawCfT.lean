/- The walk of ConfTells. -/
import Derived.Test.YtlalkefbcddbfabLawCf
namespace Go.Proofs.Ytlalkefbcddbfab
open Go.RowKit
set_option linter.unusedVariables false
set_option maxHeartbeats 2000000
attribute [local go_sem] later_cell later_frozen later_const
set_option maxRecDepth 100000 in
theorem confTells_walk (V W C P S : Int) (a : Option Addr) (len cap : Nat) (ups : List (List Int)) (t : Int) (w : World) (wf : (Lit.int .i64 V).wf = true ∧ (Lit.int .i64 W).wf = true ∧ (Lit.int .i64 C).wf = true ∧ (Lit.int .i64 P).wf = true ∧ (Lit.int .u64 S).wf = true) (h : Came w a len cap ups) (wt : (Lit.int .i64 t).wf = true) :
    Calls Try.prog 4 #[(.agg #[.int .i64 V, .int .i64 W, .int .i64 C, .int .i64 P, .int .u64 (S), .slice a len cap]), .int .i64 t] w fun e w' => e = .returned (.bool true) ∧ Below w.heap.size w w' := by
  have hS := wf_u64 wf.2.2.2.2
  have ht := wf_i64 wt
  clear wf wt
  have CL := fun w' (hx : Ext w w') => long _ ups w' (h.l.ext hx) (by rw [h.n]; exact h.m) (fun l hl => (h.each l hl).1)
  cases hb : longB ups
  · rw [hb] at CL
    have HCL := Lib.hid CL
    obtain ⟨hll, hn⟩ := came_small h hb
    have C0 := Lib.hid (fun w' (hx : Ext w w') => r10Right V W C P S _ ups w' (h.l.ext hx) hll hn)
    have hlen : len ≤ 1000000 := by rw [← h.n]; exact hn
    by_cases hg : ckC V W C P ups = 0
    · have ok := ok_iff.1 hg
      have c2 := fun w' (hx : Ext w w') => cConsumer V W C P S t _ ups w' (h.l.ext hx) hll hn
      have c3 := fun w' (hx : Ext w w') => cThread V W C P S t _ ups w' (h.l.ext hx) hll hn
      have c4 := fun w' (hx : Ext w w') => cThreads V W C P S _ ups w' (h.l.ext hx) hll hn
      have c5 := fun w' (hx : Ext w w') => cProducer V W C P S t _ ups w' (h.l.ext hx) hll hn
      have c6 := fun w' (hx : Ext w w') => cStart_ok V W C P S _ ups w' (h.l.ext hx) hll hn hg hS.1 hS.2
      have c7 := fun w' => rStart V W C P S a len cap w' ok.wd hS.1
      have c8 := fun w' (hx : Ext w w') => cTurns_ok V W C P S _ ups w' (h.l.ext hx) hll hn hg
      have c9 := fun w' => rTurns V W C P S a len cap w' ok.p1 ok.p4 ok.c2 ok.c64 (by rw [← h.n]; exact ok.rt.six)
      have c1 := fun w' => rThreads V W C P S a len cap w' ok.p1 ok.p4 hlen
      have hT : thr V W C P ups = P + (len : Int) := by simp [thr, hg, h.n]
      rw [hT] at c4
      have e2 : consB V W C P ups t = (decide (P ≤ t) && decide (t < P + (len : Int))) := by
        unfold consB
        rw [hT, Bool.eq_iff_iff]
        have := ok.p1
        simp
        omega
      have e3 : thB V W C P ups t = (decide (0 ≤ t) && decide (t < (len : Int))) := by
        unfold thB
        rw [h.n]
        simp [hg]
      have e5 : prodB V W C P ups t = (decide (0 ≤ t) && decide (t < P)) := by
        unfold prodB
        rw [hT, Bool.eq_iff_iff]
        simp
        omega
      rw [e2] at c2
      rw [e3] at c3
      rw [e5] at c5
      rw [hg] at C0
      rw [h.n] at c8
      have hp1 := ok.p1
      have hp4 := ok.p4
      have h6 : len ≤ 6 := by rw [← h.n]; exact ok.rt.six
      have C1 := Lib.hid (fun w' (_ : Ext w w') => c1 w')
      have C6 := Lib.hid c6
      have C7 := Lib.hid c7
      have C8 := Lib.hid c8
      have C9 := Lib.hid c9
      have C4 := Lib.hid c4
      generalize cutS W S = cs at *
      generalize trn C P len = tn at *
      have dcs : (cs == cs) = true := by simp
      have dtn : (tn == tn) = true := by simp
      clear c1 c4 c6 c7 c8 c9 e2 e3 e5 hT hg ok CL h hb hll hn
      by_cases h0 : t < 0
      · have dz : t < (len : Int) := by omega
        have d0 : decide (0 ≤ t) = false := by simp; omega
        have dP : decide (P ≤ t) = false := by simp; omega
        have dQ : decide (t < P) = true := by simp; omega
        have dn : decide (t < P + (len : Int)) = true := by simp; omega
        have dl : decide (t < (len : Int)) = true := by simp; omega
        rw [dP, dn, show (false && true) = false from rfl, if_neg (by simp)] at c2
        rw [d0, dl, show (false && true) = false from rfl, if_neg (by simp)] at c3
        rw [d0, dQ, show (false && true) = false from rfl] at c5
        have C2 := Lib.hid c2
        have C3 := Lib.hid c3
        have C5 := Lib.hid c5
        clear c2 c3 c5 ht hS
        go_enter Try.func4, Try.ntmps4
        go_wp2_with fail
        refine (HCL.out _ (by repeat (first | with_reducible exact Ext.refl _ | with_reducible assumption | with_reducible refine Ext.alloc ?_ _ | with_reducible refine Ext.drew ?_ | with_reducible refine Ext.drewN ?_ _ | with_reducible refine Ext.setCell ?_ (by simp <;> omega) _ | with_reducible refine Ext.trans ?_ (by assumption)))).mono ?_
        rintro e w' ⟨rfl, rfl⟩
        go_wp2_with fail
        refine (C0.out _ (by repeat (first | with_reducible exact Ext.refl _ | with_reducible assumption | with_reducible refine Ext.alloc ?_ _ | with_reducible refine Ext.drew ?_ | with_reducible refine Ext.drewN ?_ _ | with_reducible refine Ext.setCell ?_ (by simp <;> omega) _ | with_reducible refine Ext.trans ?_ (by assumption)))).mono ?_
        rintro e w1 ⟨rfl, hb1⟩
        obtain ⟨hc1, hf1⟩ := hb1.cells
        clear hc1 hf1
        have qc_0 : w1.cell? ⟨w.heap.size, 0, none⟩ = some (.int .i64 V) := (hb1.cells.1 _ _ (by simp <;> omega)).trans (by simp [go_sem])
        have qc_1 : w1.cell? ⟨w.heap.size, 1, none⟩ = some (.int .i64 W) := (hb1.cells.1 _ _ (by simp <;> omega)).trans (by simp [go_sem])
        have qc_2 : w1.cell? ⟨w.heap.size, 2, none⟩ = some (.int .i64 C) := (hb1.cells.1 _ _ (by simp <;> omega)).trans (by simp [go_sem])
        have qc_3 : w1.cell? ⟨w.heap.size, 3, none⟩ = some (.int .i64 P) := (hb1.cells.1 _ _ (by simp <;> omega)).trans (by simp [go_sem])
        have qc_4 : w1.cell? ⟨w.heap.size, 4, none⟩ = some (.int .u64 (S)) := (hb1.cells.1 _ _ (by simp <;> omega)).trans (by simp [go_sem])
        have qc_5 : w1.cell? ⟨w.heap.size, 5, none⟩ = some (.slice a len cap) := (hb1.cells.1 _ _ (by simp <;> omega)).trans (by simp [go_sem])
        have pc := World.block_lt_of_cell? _ ⟨w.heap.size, 0, none⟩ qc_0
        have rc := Nat.lt_succ_of_lt pc
        go_wp2_with fail
        refine (C1.out _ (by repeat (first | with_reducible exact Ext.refl _ | with_reducible assumption | with_reducible refine Ext.alloc ?_ _ | with_reducible refine Ext.drew ?_ | with_reducible refine Ext.drewN ?_ _ | with_reducible refine Ext.setCell ?_ (by simp <;> omega) _ | with_reducible refine Ext.trans ?_ (by assumption)))).mono ?_
        rintro e w2 ⟨rfl, hb2⟩
        have hx2 : Ext w1 w2 := by repeat (first | with_reducible exact Ext.refl _ | with_reducible assumption | with_reducible refine Ext.alloc ?_ _ | with_reducible refine Ext.drew ?_ | with_reducible refine Ext.drewN ?_ _ | with_reducible refine Ext.setCell ?_ (by simp <;> omega) _ | with_reducible refine Ext.trans ?_ (by assumption))
        replace qc_0 := hx2.cell qc_0
        replace qc_1 := hx2.cell qc_1
        replace qc_2 := hx2.cell qc_2
        replace qc_3 := hx2.cell qc_3
        replace qc_4 := hx2.cell qc_4
        replace qc_5 := hx2.cell qc_5
        replace pc := Nat.lt_of_lt_of_le pc hx2.size
        replace rc := Nat.lt_succ_of_lt pc
        clear hx2
        go_wp2_with fail
        refine (C2.out _ (by repeat (first | with_reducible exact Ext.refl _ | with_reducible assumption | with_reducible refine Ext.alloc ?_ _ | with_reducible refine Ext.drew ?_ | with_reducible refine Ext.drewN ?_ _ | with_reducible refine Ext.setCell ?_ (by simp <;> omega) _ | with_reducible refine Ext.trans ?_ (by assumption)))).mono ?_
        rintro e w3 ⟨rfl, hb3⟩
        have hx3 : Ext w2 w3 := by repeat (first | with_reducible exact Ext.refl _ | with_reducible assumption | with_reducible refine Ext.alloc ?_ _ | with_reducible refine Ext.drew ?_ | with_reducible refine Ext.drewN ?_ _ | with_reducible refine Ext.setCell ?_ (by simp <;> omega) _ | with_reducible refine Ext.trans ?_ (by assumption))
        replace qc_0 := hx3.cell qc_0
        replace qc_1 := hx3.cell qc_1
        replace qc_2 := hx3.cell qc_2
        replace qc_3 := hx3.cell qc_3
        replace qc_4 := hx3.cell qc_4
        replace qc_5 := hx3.cell qc_5
        replace pc := Nat.lt_of_lt_of_le pc hx3.size
        replace rc := Nat.lt_succ_of_lt pc
        clear hx3
        go_wp2_with fail
        refine (C3.out _ (by repeat (first | with_reducible exact Ext.refl _ | with_reducible assumption | with_reducible refine Ext.alloc ?_ _ | with_reducible refine Ext.drew ?_ | with_reducible refine Ext.drewN ?_ _ | with_reducible refine Ext.setCell ?_ (by simp <;> omega) _ | with_reducible refine Ext.trans ?_ (by assumption)))).mono ?_
        rintro e w4 ⟨rfl, hb4⟩
        have hx4 : Ext w3 w4 := by repeat (first | with_reducible exact Ext.refl _ | with_reducible assumption | with_reducible refine Ext.alloc ?_ _ | with_reducible refine Ext.drew ?_ | with_reducible refine Ext.drewN ?_ _ | with_reducible refine Ext.setCell ?_ (by simp <;> omega) _ | with_reducible refine Ext.trans ?_ (by assumption))
        replace qc_0 := hx4.cell qc_0
        replace qc_1 := hx4.cell qc_1
        replace qc_2 := hx4.cell qc_2
        replace qc_3 := hx4.cell qc_3
        replace qc_4 := hx4.cell qc_4
        replace qc_5 := hx4.cell qc_5
        replace pc := Nat.lt_of_lt_of_le pc hx4.size
        replace rc := Nat.lt_succ_of_lt pc
        clear hx4
        go_wp2_with fail
        refine (C4.out _ (by repeat (first | with_reducible exact Ext.refl _ | with_reducible assumption | with_reducible refine Ext.alloc ?_ _ | with_reducible refine Ext.drew ?_ | with_reducible refine Ext.drewN ?_ _ | with_reducible refine Ext.setCell ?_ (by simp <;> omega) _ | with_reducible refine Ext.trans ?_ (by assumption)))).mono ?_
        rintro e w5 ⟨rfl, hb5⟩
        have hx5 : Ext w4 w5 := by repeat (first | with_reducible exact Ext.refl _ | with_reducible assumption | with_reducible refine Ext.alloc ?_ _ | with_reducible refine Ext.drew ?_ | with_reducible refine Ext.drewN ?_ _ | with_reducible refine Ext.setCell ?_ (by simp <;> omega) _ | with_reducible refine Ext.trans ?_ (by assumption))
        replace qc_0 := hx5.cell qc_0
        replace qc_1 := hx5.cell qc_1
        replace qc_2 := hx5.cell qc_2
        replace qc_3 := hx5.cell qc_3
        replace qc_4 := hx5.cell qc_4
        replace qc_5 := hx5.cell qc_5
        replace pc := Nat.lt_of_lt_of_le pc hx5.size
        replace rc := Nat.lt_succ_of_lt pc
        clear hx5
        go_wp2_with fail
        refine (C5.out _ (by repeat (first | with_reducible exact Ext.refl _ | with_reducible assumption | with_reducible refine Ext.alloc ?_ _ | with_reducible refine Ext.drew ?_ | with_reducible refine Ext.drewN ?_ _ | with_reducible refine Ext.setCell ?_ (by simp <;> omega) _ | with_reducible refine Ext.trans ?_ (by assumption)))).mono ?_
        rintro e w6 ⟨rfl, hb6⟩
        have hx6 : Ext w5 w6 := by repeat (first | with_reducible exact Ext.refl _ | with_reducible assumption | with_reducible refine Ext.alloc ?_ _ | with_reducible refine Ext.drew ?_ | with_reducible refine Ext.drewN ?_ _ | with_reducible refine Ext.setCell ?_ (by simp <;> omega) _ | with_reducible refine Ext.trans ?_ (by assumption))
        replace qc_0 := hx6.cell qc_0
        replace qc_1 := hx6.cell qc_1
        replace qc_2 := hx6.cell qc_2
        replace qc_3 := hx6.cell qc_3
        replace qc_4 := hx6.cell qc_4
        replace qc_5 := hx6.cell qc_5
        replace pc := Nat.lt_of_lt_of_le pc hx6.size
        replace rc := Nat.lt_succ_of_lt pc
        clear hx6
        have hxx : Ext w w6 := by repeat (first | with_reducible exact Ext.refl _ | with_reducible assumption | with_reducible refine Ext.alloc ?_ _ | with_reducible refine Ext.drew ?_ | with_reducible refine Ext.drewN ?_ _ | with_reducible refine Ext.setCell ?_ (by simp <;> omega) _ | with_reducible refine Ext.trans ?_ (by assumption))
        go_upto_region 10 with (fail)
        refine wp_region_later (by kernel_rfl) (by kernel_rfl) ?_
        have lc_0 := fun (g : Later w6) => g.ok.cell qc_0
        have lc_1 := fun (g : Later w6) => g.ok.cell qc_1
        have lc_2 := fun (g : Later w6) => g.ok.cell qc_2
        have lc_3 := fun (g : Later w6) => g.ok.cell qc_3
        have lc_4 := fun (g : Later w6) => g.ok.cell qc_4
        have lc_5 := fun (g : Later w6) => g.ok.cell qc_5
        repeat (go_big_quiet_step ((fail)))
        go_big_quiet_step ((go_at_call 18; exact laterC (C6.out _ (hxx.trans (Later.ok _)))))
        repeat (go_big_quiet_step ((fail)))
        go_big_quiet_step ((go_at_call 19; exact laterC (C7.out _)))
        repeat (go_big_quiet_step ((fail)))
        go_big_quiet_step ((go_at_call 20; exact laterC (C8.out _ (hxx.trans (Later.ok _)))))
        repeat (go_big_quiet_step ((fail)))
        go_big_quiet_step ((go_at_call 21; exact laterC (C9.out _)))
        repeat (go_big_quiet_step ((fail)))
        go_big_quiet_step ((go_at_call 8; exact laterC (live10 _)))
        repeat (go_big_quiet_step ((fail)))
        refine wpQuiet_nil ?_
        intro w7 hl7
        have hb7 := laters_ext hl7
        clear hl7 lc_0 lc_1 lc_2 lc_3 lc_4 lc_5
        have hx7 : Ext w6 w7 := by repeat (first | with_reducible exact Ext.refl _ | with_reducible assumption | with_reducible refine Ext.alloc ?_ _ | with_reducible refine Ext.drew ?_ | with_reducible refine Ext.drewN ?_ _ | with_reducible refine Ext.setCell ?_ (by simp <;> omega) _ | with_reducible refine Ext.trans ?_ (by assumption))
        replace qc_0 := hx7.cell qc_0
        replace qc_1 := hx7.cell qc_1
        replace qc_2 := hx7.cell qc_2
        replace qc_3 := hx7.cell qc_3
        replace qc_4 := hx7.cell qc_4
        replace qc_5 := hx7.cell qc_5
        replace pc := Nat.lt_of_lt_of_le pc hx7.size
        replace rc := Nat.lt_succ_of_lt pc
        clear hx7
        go_wp2
        go_ret
        refine ⟨rfl, Ext.below ?_⟩
        repeat (first | with_reducible exact Ext.refl _ | with_reducible assumption | with_reducible refine Ext.alloc ?_ _ | with_reducible refine Ext.drew ?_ | with_reducible refine Ext.drewN ?_ _ | with_reducible refine Ext.setCell ?_ (by simp <;> omega) _ | with_reducible refine Ext.trans ?_ (by assumption))
      by_cases hl : t < (len : Int)
      · by_cases hP : t < P
        · have d0 : decide (0 ≤ t) = true := by simp; omega
          have dP : decide (P ≤ t) = false := by simp; omega
          have dQ : decide (t < P) = true := by simp; omega
          have dn : decide (t < P + (len : Int)) = true := by simp; omega
          have dl : decide (t < (len : Int)) = true := by simp; omega
          rw [dP, dn, show (false && true) = false from rfl, if_neg (by simp)] at c2
          rw [d0, dl, show (true && true) = true from rfl, if_pos rfl] at c3
          rw [d0, dQ, show (true && true) = true from rfl] at c5
          have hs2 : wrap64 (t + P) = P + t := by unfold wrap64; omega
          have C2 := Lib.hid c2
          have C3 := Lib.hid c3
          have C5 := Lib.hid c5
          clear c2 c3 c5 ht hS
          go_enter Try.func4, Try.ntmps4
          go_wp2_with fail
          refine (HCL.out _ (by repeat (first | with_reducible exact Ext.refl _ | with_reducible assumption | with_reducible refine Ext.alloc ?_ _ | with_reducible refine Ext.drew ?_ | with_reducible refine Ext.drewN ?_ _ | with_reducible refine Ext.setCell ?_ (by simp <;> omega) _ | with_reducible refine Ext.trans ?_ (by assumption)))).mono ?_
          rintro e w' ⟨rfl, rfl⟩
          go_wp2_with fail
          refine (C0.out _ (by repeat (first | with_reducible exact Ext.refl _ | with_reducible assumption | with_reducible refine Ext.alloc ?_ _ | with_reducible refine Ext.drew ?_ | with_reducible refine Ext.drewN ?_ _ | with_reducible refine Ext.setCell ?_ (by simp <;> omega) _ | with_reducible refine Ext.trans ?_ (by assumption)))).mono ?_
          rintro e w8 ⟨rfl, hb8⟩
          obtain ⟨hc8, hf8⟩ := hb8.cells
          clear hc8 hf8
          have qc_0 : w8.cell? ⟨w.heap.size, 0, none⟩ = some (.int .i64 V) := (hb8.cells.1 _ _ (by simp <;> omega)).trans (by simp [go_sem])
          have qc_1 : w8.cell? ⟨w.heap.size, 1, none⟩ = some (.int .i64 W) := (hb8.cells.1 _ _ (by simp <;> omega)).trans (by simp [go_sem])
          have qc_2 : w8.cell? ⟨w.heap.size, 2, none⟩ = some (.int .i64 C) := (hb8.cells.1 _ _ (by simp <;> omega)).trans (by simp [go_sem])
          have qc_3 : w8.cell? ⟨w.heap.size, 3, none⟩ = some (.int .i64 P) := (hb8.cells.1 _ _ (by simp <;> omega)).trans (by simp [go_sem])
          have qc_4 : w8.cell? ⟨w.heap.size, 4, none⟩ = some (.int .u64 (S)) := (hb8.cells.1 _ _ (by simp <;> omega)).trans (by simp [go_sem])
          have qc_5 : w8.cell? ⟨w.heap.size, 5, none⟩ = some (.slice a len cap) := (hb8.cells.1 _ _ (by simp <;> omega)).trans (by simp [go_sem])
          have pc := World.block_lt_of_cell? _ ⟨w.heap.size, 0, none⟩ qc_0
          have rc := Nat.lt_succ_of_lt pc
          go_wp2_with fail
          refine (C1.out _ (by repeat (first | with_reducible exact Ext.refl _ | with_reducible assumption | with_reducible refine Ext.alloc ?_ _ | with_reducible refine Ext.drew ?_ | with_reducible refine Ext.drewN ?_ _ | with_reducible refine Ext.setCell ?_ (by simp <;> omega) _ | with_reducible refine Ext.trans ?_ (by assumption)))).mono ?_
          rintro e w9 ⟨rfl, hb9⟩
          have hx9 : Ext w8 w9 := by repeat (first | with_reducible exact Ext.refl _ | with_reducible assumption | with_reducible refine Ext.alloc ?_ _ | with_reducible refine Ext.drew ?_ | with_reducible refine Ext.drewN ?_ _ | with_reducible refine Ext.setCell ?_ (by simp <;> omega) _ | with_reducible refine Ext.trans ?_ (by assumption))
          replace qc_0 := hx9.cell qc_0
          replace qc_1 := hx9.cell qc_1
          replace qc_2 := hx9.cell qc_2
          replace qc_3 := hx9.cell qc_3
          replace qc_4 := hx9.cell qc_4
          replace qc_5 := hx9.cell qc_5
          replace pc := Nat.lt_of_lt_of_le pc hx9.size
          replace rc := Nat.lt_succ_of_lt pc
          clear hx9
          go_wp2_with fail
          refine (C2.out _ (by repeat (first | with_reducible exact Ext.refl _ | with_reducible assumption | with_reducible refine Ext.alloc ?_ _ | with_reducible refine Ext.drew ?_ | with_reducible refine Ext.drewN ?_ _ | with_reducible refine Ext.setCell ?_ (by simp <;> omega) _ | with_reducible refine Ext.trans ?_ (by assumption)))).mono ?_
          rintro e w10 ⟨rfl, hb10⟩
          have hx10 : Ext w9 w10 := by repeat (first | with_reducible exact Ext.refl _ | with_reducible assumption | with_reducible refine Ext.alloc ?_ _ | with_reducible refine Ext.drew ?_ | with_reducible refine Ext.drewN ?_ _ | with_reducible refine Ext.setCell ?_ (by simp <;> omega) _ | with_reducible refine Ext.trans ?_ (by assumption))
          replace qc_0 := hx10.cell qc_0
          replace qc_1 := hx10.cell qc_1
          replace qc_2 := hx10.cell qc_2
          replace qc_3 := hx10.cell qc_3
          replace qc_4 := hx10.cell qc_4
          replace qc_5 := hx10.cell qc_5
          replace pc := Nat.lt_of_lt_of_le pc hx10.size
          replace rc := Nat.lt_succ_of_lt pc
          clear hx10
          go_wp2_with fail
          refine (C3.out _ (by repeat (first | with_reducible exact Ext.refl _ | with_reducible assumption | with_reducible refine Ext.alloc ?_ _ | with_reducible refine Ext.drew ?_ | with_reducible refine Ext.drewN ?_ _ | with_reducible refine Ext.setCell ?_ (by simp <;> omega) _ | with_reducible refine Ext.trans ?_ (by assumption)))).mono ?_
          rintro e w11 ⟨rfl, hb11⟩
          have hx11 : Ext w10 w11 := by repeat (first | with_reducible exact Ext.refl _ | with_reducible assumption | with_reducible refine Ext.alloc ?_ _ | with_reducible refine Ext.drew ?_ | with_reducible refine Ext.drewN ?_ _ | with_reducible refine Ext.setCell ?_ (by simp <;> omega) _ | with_reducible refine Ext.trans ?_ (by assumption))
          replace qc_0 := hx11.cell qc_0
          replace qc_1 := hx11.cell qc_1
          replace qc_2 := hx11.cell qc_2
          replace qc_3 := hx11.cell qc_3
          replace qc_4 := hx11.cell qc_4
          replace qc_5 := hx11.cell qc_5
          replace pc := Nat.lt_of_lt_of_le pc hx11.size
          replace rc := Nat.lt_succ_of_lt pc
          clear hx11
          go_wp2_with fail
          refine (C4.out _ (by repeat (first | with_reducible exact Ext.refl _ | with_reducible assumption | with_reducible refine Ext.alloc ?_ _ | with_reducible refine Ext.drew ?_ | with_reducible refine Ext.drewN ?_ _ | with_reducible refine Ext.setCell ?_ (by simp <;> omega) _ | with_reducible refine Ext.trans ?_ (by assumption)))).mono ?_
          rintro e w12 ⟨rfl, hb12⟩
          have hx12 : Ext w11 w12 := by repeat (first | with_reducible exact Ext.refl _ | with_reducible assumption | with_reducible refine Ext.alloc ?_ _ | with_reducible refine Ext.drew ?_ | with_reducible refine Ext.drewN ?_ _ | with_reducible refine Ext.setCell ?_ (by simp <;> omega) _ | with_reducible refine Ext.trans ?_ (by assumption))
          replace qc_0 := hx12.cell qc_0
          replace qc_1 := hx12.cell qc_1
          replace qc_2 := hx12.cell qc_2
          replace qc_3 := hx12.cell qc_3
          replace qc_4 := hx12.cell qc_4
          replace qc_5 := hx12.cell qc_5
          replace pc := Nat.lt_of_lt_of_le pc hx12.size
          replace rc := Nat.lt_succ_of_lt pc
          clear hx12
          go_wp2_with fail
          refine (C5.out _ (by repeat (first | with_reducible exact Ext.refl _ | with_reducible assumption | with_reducible refine Ext.alloc ?_ _ | with_reducible refine Ext.drew ?_ | with_reducible refine Ext.drewN ?_ _ | with_reducible refine Ext.setCell ?_ (by simp <;> omega) _ | with_reducible refine Ext.trans ?_ (by assumption)))).mono ?_
          rintro e w13 ⟨rfl, hb13⟩
          have hx13 : Ext w12 w13 := by repeat (first | with_reducible exact Ext.refl _ | with_reducible assumption | with_reducible refine Ext.alloc ?_ _ | with_reducible refine Ext.drew ?_ | with_reducible refine Ext.drewN ?_ _ | with_reducible refine Ext.setCell ?_ (by simp <;> omega) _ | with_reducible refine Ext.trans ?_ (by assumption))
          replace qc_0 := hx13.cell qc_0
          replace qc_1 := hx13.cell qc_1
          replace qc_2 := hx13.cell qc_2
          replace qc_3 := hx13.cell qc_3
          replace qc_4 := hx13.cell qc_4
          replace qc_5 := hx13.cell qc_5
          replace pc := Nat.lt_of_lt_of_le pc hx13.size
          replace rc := Nat.lt_succ_of_lt pc
          clear hx13
          have hxx : Ext w w13 := by repeat (first | with_reducible exact Ext.refl _ | with_reducible assumption | with_reducible refine Ext.alloc ?_ _ | with_reducible refine Ext.drew ?_ | with_reducible refine Ext.drewN ?_ _ | with_reducible refine Ext.setCell ?_ (by simp <;> omega) _ | with_reducible refine Ext.trans ?_ (by assumption))
          go_upto_region 10 with (fail)
          refine wp_region_later (by kernel_rfl) (by kernel_rfl) ?_
          have lc_0 := fun (g : Later w13) => g.ok.cell qc_0
          have lc_1 := fun (g : Later w13) => g.ok.cell qc_1
          have lc_2 := fun (g : Later w13) => g.ok.cell qc_2
          have lc_3 := fun (g : Later w13) => g.ok.cell qc_3
          have lc_4 := fun (g : Later w13) => g.ok.cell qc_4
          have lc_5 := fun (g : Later w13) => g.ok.cell qc_5
          repeat (go_big_quiet_step ((fail)))
          go_big_quiet_step ((go_at_call 18; exact laterC (C6.out _ (hxx.trans (Later.ok _)))))
          repeat (go_big_quiet_step ((fail)))
          go_big_quiet_step ((go_at_call 19; exact laterC (C7.out _)))
          repeat (go_big_quiet_step ((fail)))
          go_big_quiet_step ((go_at_call 20; exact laterC (C8.out _ (hxx.trans (Later.ok _)))))
          repeat (go_big_quiet_step ((fail)))
          go_big_quiet_step ((go_at_call 21; exact laterC (C9.out _)))
          repeat (go_big_quiet_step ((fail)))
          go_big_quiet_step ((go_at_call 8; exact laterC (live10 _)))
          repeat (go_big_quiet_step ((fail)))
          refine wpQuiet_nil ?_
          intro w14 hl14
          have hb14 := laters_ext hl14
          clear hl14 lc_0 lc_1 lc_2 lc_3 lc_4 lc_5
          have hx14 : Ext w13 w14 := by repeat (first | with_reducible exact Ext.refl _ | with_reducible assumption | with_reducible refine Ext.alloc ?_ _ | with_reducible refine Ext.drew ?_ | with_reducible refine Ext.drewN ?_ _ | with_reducible refine Ext.setCell ?_ (by simp <;> omega) _ | with_reducible refine Ext.trans ?_ (by assumption))
          replace qc_0 := hx14.cell qc_0
          replace qc_1 := hx14.cell qc_1
          replace qc_2 := hx14.cell qc_2
          replace qc_3 := hx14.cell qc_3
          replace qc_4 := hx14.cell qc_4
          replace qc_5 := hx14.cell qc_5
          replace pc := Nat.lt_of_lt_of_le pc hx14.size
          replace rc := Nat.lt_succ_of_lt pc
          clear hx14
          go_wp2
          go_ret
          refine ⟨rfl, Ext.below ?_⟩
          repeat (first | with_reducible exact Ext.refl _ | with_reducible assumption | with_reducible refine Ext.alloc ?_ _ | with_reducible refine Ext.drew ?_ | with_reducible refine Ext.drewN ?_ _ | with_reducible refine Ext.setCell ?_ (by simp <;> omega) _ | with_reducible refine Ext.trans ?_ (by assumption))
        · have d0 : decide (0 ≤ t) = true := by simp; omega
          have dP : decide (P ≤ t) = true := by simp; omega
          have dQ : decide (t < P) = false := by simp; omega
          have dn : decide (t < P + (len : Int)) = true := by simp; omega
          have dl : decide (t < (len : Int)) = true := by simp; omega
          rw [dP, dn, show (true && true) = true from rfl, if_pos rfl] at c2
          rw [d0, dl, show (true && true) = true from rfl, if_pos rfl] at c3
          rw [d0, dQ, show (true && false) = false from rfl] at c5
          have hs1 : wrap64 (t - P) = t - P := by unfold wrap64; omega
          have hs2 : wrap64 (t + P) = P + t := by unfold wrap64; omega
          have C2 := Lib.hid c2
          have C3 := Lib.hid c3
          have C5 := Lib.hid c5
          clear c2 c3 c5 ht hS
          go_enter Try.func4, Try.ntmps4
          go_wp2_with fail
          refine (HCL.out _ (by repeat (first | with_reducible exact Ext.refl _ | with_reducible assumption | with_reducible refine Ext.alloc ?_ _ | with_reducible refine Ext.drew ?_ | with_reducible refine Ext.drewN ?_ _ | with_reducible refine Ext.setCell ?_ (by simp <;> omega) _ | with_reducible refine Ext.trans ?_ (by assumption)))).mono ?_
          rintro e w' ⟨rfl, rfl⟩
          go_wp2_with fail
          refine (C0.out _ (by repeat (first | with_reducible exact Ext.refl _ | with_reducible assumption | with_reducible refine Ext.alloc ?_ _ | with_reducible refine Ext.drew ?_ | with_reducible refine Ext.drewN ?_ _ | with_reducible refine Ext.setCell ?_ (by simp <;> omega) _ | with_reducible refine Ext.trans ?_ (by assumption)))).mono ?_
          rintro e w15 ⟨rfl, hb15⟩
          obtain ⟨hc15, hf15⟩ := hb15.cells
          clear hc15 hf15
          have qc_0 : w15.cell? ⟨w.heap.size, 0, none⟩ = some (.int .i64 V) := (hb15.cells.1 _ _ (by simp <;> omega)).trans (by simp [go_sem])
          have qc_1 : w15.cell? ⟨w.heap.size, 1, none⟩ = some (.int .i64 W) := (hb15.cells.1 _ _ (by simp <;> omega)).trans (by simp [go_sem])
          have qc_2 : w15.cell? ⟨w.heap.size, 2, none⟩ = some (.int .i64 C) := (hb15.cells.1 _ _ (by simp <;> omega)).trans (by simp [go_sem])
          have qc_3 : w15.cell? ⟨w.heap.size, 3, none⟩ = some (.int .i64 P) := (hb15.cells.1 _ _ (by simp <;> omega)).trans (by simp [go_sem])
          have qc_4 : w15.cell? ⟨w.heap.size, 4, none⟩ = some (.int .u64 (S)) := (hb15.cells.1 _ _ (by simp <;> omega)).trans (by simp [go_sem])
          have qc_5 : w15.cell? ⟨w.heap.size, 5, none⟩ = some (.slice a len cap) := (hb15.cells.1 _ _ (by simp <;> omega)).trans (by simp [go_sem])
          have pc := World.block_lt_of_cell? _ ⟨w.heap.size, 0, none⟩ qc_0
          have rc := Nat.lt_succ_of_lt pc
          go_wp2_with fail
          refine (C1.out _ (by repeat (first | with_reducible exact Ext.refl _ | with_reducible assumption | with_reducible refine Ext.alloc ?_ _ | with_reducible refine Ext.drew ?_ | with_reducible refine Ext.drewN ?_ _ | with_reducible refine Ext.setCell ?_ (by simp <;> omega) _ | with_reducible refine Ext.trans ?_ (by assumption)))).mono ?_
          rintro e w16 ⟨rfl, hb16⟩
          have hx16 : Ext w15 w16 := by repeat (first | with_reducible exact Ext.refl _ | with_reducible assumption | with_reducible refine Ext.alloc ?_ _ | with_reducible refine Ext.drew ?_ | with_reducible refine Ext.drewN ?_ _ | with_reducible refine Ext.setCell ?_ (by simp <;> omega) _ | with_reducible refine Ext.trans ?_ (by assumption))
          replace qc_0 := hx16.cell qc_0
          replace qc_1 := hx16.cell qc_1
          replace qc_2 := hx16.cell qc_2
          replace qc_3 := hx16.cell qc_3
          replace qc_4 := hx16.cell qc_4
          replace qc_5 := hx16.cell qc_5
          replace pc := Nat.lt_of_lt_of_le pc hx16.size
          replace rc := Nat.lt_succ_of_lt pc
          clear hx16
          go_wp2_with fail
          refine (C2.out _ (by repeat (first | with_reducible exact Ext.refl _ | with_reducible assumption | with_reducible refine Ext.alloc ?_ _ | with_reducible refine Ext.drew ?_ | with_reducible refine Ext.drewN ?_ _ | with_reducible refine Ext.setCell ?_ (by simp <;> omega) _ | with_reducible refine Ext.trans ?_ (by assumption)))).mono ?_
          rintro e w17 ⟨rfl, hb17⟩
          have hx17 : Ext w16 w17 := by repeat (first | with_reducible exact Ext.refl _ | with_reducible assumption | with_reducible refine Ext.alloc ?_ _ | with_reducible refine Ext.drew ?_ | with_reducible refine Ext.drewN ?_ _ | with_reducible refine Ext.setCell ?_ (by simp <;> omega) _ | with_reducible refine Ext.trans ?_ (by assumption))
          replace qc_0 := hx17.cell qc_0
          replace qc_1 := hx17.cell qc_1
          replace qc_2 := hx17.cell qc_2
          replace qc_3 := hx17.cell qc_3
          replace qc_4 := hx17.cell qc_4
          replace qc_5 := hx17.cell qc_5
          replace pc := Nat.lt_of_lt_of_le pc hx17.size
          replace rc := Nat.lt_succ_of_lt pc
          clear hx17
          go_wp2_with fail
          refine (C3.out _ (by repeat (first | with_reducible exact Ext.refl _ | with_reducible assumption | with_reducible refine Ext.alloc ?_ _ | with_reducible refine Ext.drew ?_ | with_reducible refine Ext.drewN ?_ _ | with_reducible refine Ext.setCell ?_ (by simp <;> omega) _ | with_reducible refine Ext.trans ?_ (by assumption)))).mono ?_
          rintro e w18 ⟨rfl, hb18⟩
          have hx18 : Ext w17 w18 := by repeat (first | with_reducible exact Ext.refl _ | with_reducible assumption | with_reducible refine Ext.alloc ?_ _ | with_reducible refine Ext.drew ?_ | with_reducible refine Ext.drewN ?_ _ | with_reducible refine Ext.setCell ?_ (by simp <;> omega) _ | with_reducible refine Ext.trans ?_ (by assumption))
          replace qc_0 := hx18.cell qc_0
          replace qc_1 := hx18.cell qc_1
          replace qc_2 := hx18.cell qc_2
          replace qc_3 := hx18.cell qc_3
          replace qc_4 := hx18.cell qc_4
          replace qc_5 := hx18.cell qc_5
          replace pc := Nat.lt_of_lt_of_le pc hx18.size
          replace rc := Nat.lt_succ_of_lt pc
          clear hx18
          go_wp2_with fail
          refine (C4.out _ (by repeat (first | with_reducible exact Ext.refl _ | with_reducible assumption | with_reducible refine Ext.alloc ?_ _ | with_reducible refine Ext.drew ?_ | with_reducible refine Ext.drewN ?_ _ | with_reducible refine Ext.setCell ?_ (by simp <;> omega) _ | with_reducible refine Ext.trans ?_ (by assumption)))).mono ?_
          rintro e w19 ⟨rfl, hb19⟩
          have hx19 : Ext w18 w19 := by repeat (first | with_reducible exact Ext.refl _ | with_reducible assumption | with_reducible refine Ext.alloc ?_ _ | with_reducible refine Ext.drew ?_ | with_reducible refine Ext.drewN ?_ _ | with_reducible refine Ext.setCell ?_ (by simp <;> omega) _ | with_reducible refine Ext.trans ?_ (by assumption))
          replace qc_0 := hx19.cell qc_0
          replace qc_1 := hx19.cell qc_1
          replace qc_2 := hx19.cell qc_2
          replace qc_3 := hx19.cell qc_3
          replace qc_4 := hx19.cell qc_4
          replace qc_5 := hx19.cell qc_5
          replace pc := Nat.lt_of_lt_of_le pc hx19.size
          replace rc := Nat.lt_succ_of_lt pc
          clear hx19
          go_wp2_with fail
          refine (C5.out _ (by repeat (first | with_reducible exact Ext.refl _ | with_reducible assumption | with_reducible refine Ext.alloc ?_ _ | with_reducible refine Ext.drew ?_ | with_reducible refine Ext.drewN ?_ _ | with_reducible refine Ext.setCell ?_ (by simp <;> omega) _ | with_reducible refine Ext.trans ?_ (by assumption)))).mono ?_
          rintro e w20 ⟨rfl, hb20⟩
          have hx20 : Ext w19 w20 := by repeat (first | with_reducible exact Ext.refl _ | with_reducible assumption | with_reducible refine Ext.alloc ?_ _ | with_reducible refine Ext.drew ?_ | with_reducible refine Ext.drewN ?_ _ | with_reducible refine Ext.setCell ?_ (by simp <;> omega) _ | with_reducible refine Ext.trans ?_ (by assumption))
          replace qc_0 := hx20.cell qc_0
          replace qc_1 := hx20.cell qc_1
          replace qc_2 := hx20.cell qc_2
          replace qc_3 := hx20.cell qc_3
          replace qc_4 := hx20.cell qc_4
          replace qc_5 := hx20.cell qc_5
          replace pc := Nat.lt_of_lt_of_le pc hx20.size
          replace rc := Nat.lt_succ_of_lt pc
          clear hx20
          have hxx : Ext w w20 := by repeat (first | with_reducible exact Ext.refl _ | with_reducible assumption | with_reducible refine Ext.alloc ?_ _ | with_reducible refine Ext.drew ?_ | with_reducible refine Ext.drewN ?_ _ | with_reducible refine Ext.setCell ?_ (by simp <;> omega) _ | with_reducible refine Ext.trans ?_ (by assumption))
          go_upto_region 10 with (fail)
          refine wp_region_later (by kernel_rfl) (by kernel_rfl) ?_
          have lc_0 := fun (g : Later w20) => g.ok.cell qc_0
          have lc_1 := fun (g : Later w20) => g.ok.cell qc_1
          have lc_2 := fun (g : Later w20) => g.ok.cell qc_2
          have lc_3 := fun (g : Later w20) => g.ok.cell qc_3
          have lc_4 := fun (g : Later w20) => g.ok.cell qc_4
          have lc_5 := fun (g : Later w20) => g.ok.cell qc_5
          repeat (go_big_quiet_step ((fail)))
          go_big_quiet_step ((go_at_call 18; exact laterC (C6.out _ (hxx.trans (Later.ok _)))))
          repeat (go_big_quiet_step ((fail)))
          go_big_quiet_step ((go_at_call 19; exact laterC (C7.out _)))
          repeat (go_big_quiet_step ((fail)))
          go_big_quiet_step ((go_at_call 20; exact laterC (C8.out _ (hxx.trans (Later.ok _)))))
          repeat (go_big_quiet_step ((fail)))
          go_big_quiet_step ((go_at_call 21; exact laterC (C9.out _)))
          repeat (go_big_quiet_step ((fail)))
          go_big_quiet_step ((go_at_call 8; exact laterC (live10 _)))
          repeat (go_big_quiet_step ((fail)))
          refine wpQuiet_nil ?_
          intro w21 hl21
          have hb21 := laters_ext hl21
          clear hl21 lc_0 lc_1 lc_2 lc_3 lc_4 lc_5
          have hx21 : Ext w20 w21 := by repeat (first | with_reducible exact Ext.refl _ | with_reducible assumption | with_reducible refine Ext.alloc ?_ _ | with_reducible refine Ext.drew ?_ | with_reducible refine Ext.drewN ?_ _ | with_reducible refine Ext.setCell ?_ (by simp <;> omega) _ | with_reducible refine Ext.trans ?_ (by assumption))
          replace qc_0 := hx21.cell qc_0
          replace qc_1 := hx21.cell qc_1
          replace qc_2 := hx21.cell qc_2
          replace qc_3 := hx21.cell qc_3
          replace qc_4 := hx21.cell qc_4
          replace qc_5 := hx21.cell qc_5
          replace pc := Nat.lt_of_lt_of_le pc hx21.size
          replace rc := Nat.lt_succ_of_lt pc
          clear hx21
          go_wp2
          go_ret
          refine ⟨rfl, Ext.below ?_⟩
          repeat (first | with_reducible exact Ext.refl _ | with_reducible assumption | with_reducible refine Ext.alloc ?_ _ | with_reducible refine Ext.drew ?_ | with_reducible refine Ext.drewN ?_ _ | with_reducible refine Ext.setCell ?_ (by simp <;> omega) _ | with_reducible refine Ext.trans ?_ (by assumption))
      · by_cases hP : t < P
        · have d0 : decide (0 ≤ t) = true := by simp; omega
          have dP : decide (P ≤ t) = false := by simp; omega
          have dQ : decide (t < P) = true := by simp; omega
          have dn : decide (t < P + (len : Int)) = true := by simp; omega
          have dl : decide (t < (len : Int)) = false := by simp; omega
          rw [dP, dn, show (false && true) = false from rfl, if_neg (by simp)] at c2
          rw [d0, dl, show (true && false) = false from rfl, if_neg (by simp)] at c3
          rw [d0, dQ, show (true && true) = true from rfl] at c5
          have C2 := Lib.hid c2
          have C3 := Lib.hid c3
          have C5 := Lib.hid c5
          clear c2 c3 c5 ht hS
          go_enter Try.func4, Try.ntmps4
          go_wp2_with fail
          refine (HCL.out _ (by repeat (first | with_reducible exact Ext.refl _ | with_reducible assumption | with_reducible refine Ext.alloc ?_ _ | with_reducible refine Ext.drew ?_ | with_reducible refine Ext.drewN ?_ _ | with_reducible refine Ext.setCell ?_ (by simp <;> omega) _ | with_reducible refine Ext.trans ?_ (by assumption)))).mono ?_
          rintro e w' ⟨rfl, rfl⟩
          go_wp2_with fail
          refine (C0.out _ (by repeat (first | with_reducible exact Ext.refl _ | with_reducible assumption | with_reducible refine Ext.alloc ?_ _ | with_reducible refine Ext.drew ?_ | with_reducible refine Ext.drewN ?_ _ | with_reducible refine Ext.setCell ?_ (by simp <;> omega) _ | with_reducible refine Ext.trans ?_ (by assumption)))).mono ?_
          rintro e w22 ⟨rfl, hb22⟩
          obtain ⟨hc22, hf22⟩ := hb22.cells
          clear hc22 hf22
          have qc_0 : w22.cell? ⟨w.heap.size, 0, none⟩ = some (.int .i64 V) := (hb22.cells.1 _ _ (by simp <;> omega)).trans (by simp [go_sem])
          have qc_1 : w22.cell? ⟨w.heap.size, 1, none⟩ = some (.int .i64 W) := (hb22.cells.1 _ _ (by simp <;> omega)).trans (by simp [go_sem])
          have qc_2 : w22.cell? ⟨w.heap.size, 2, none⟩ = some (.int .i64 C) := (hb22.cells.1 _ _ (by simp <;> omega)).trans (by simp [go_sem])
          have qc_3 : w22.cell? ⟨w.heap.size, 3, none⟩ = some (.int .i64 P) := (hb22.cells.1 _ _ (by simp <;> omega)).trans (by simp [go_sem])
          have qc_4 : w22.cell? ⟨w.heap.size, 4, none⟩ = some (.int .u64 (S)) := (hb22.cells.1 _ _ (by simp <;> omega)).trans (by simp [go_sem])
          have qc_5 : w22.cell? ⟨w.heap.size, 5, none⟩ = some (.slice a len cap) := (hb22.cells.1 _ _ (by simp <;> omega)).trans (by simp [go_sem])
          have pc := World.block_lt_of_cell? _ ⟨w.heap.size, 0, none⟩ qc_0
          have rc := Nat.lt_succ_of_lt pc
          go_wp2_with fail
          refine (C1.out _ (by repeat (first | with_reducible exact Ext.refl _ | with_reducible assumption | with_reducible refine Ext.alloc ?_ _ | with_reducible refine Ext.drew ?_ | with_reducible refine Ext.drewN ?_ _ | with_reducible refine Ext.setCell ?_ (by simp <;> omega) _ | with_reducible refine Ext.trans ?_ (by assumption)))).mono ?_
          rintro e w23 ⟨rfl, hb23⟩
          have hx23 : Ext w22 w23 := by repeat (first | with_reducible exact Ext.refl _ | with_reducible assumption | with_reducible refine Ext.alloc ?_ _ | with_reducible refine Ext.drew ?_ | with_reducible refine Ext.drewN ?_ _ | with_reducible refine Ext.setCell ?_ (by simp <;> omega) _ | with_reducible refine Ext.trans ?_ (by assumption))
          replace qc_0 := hx23.cell qc_0
          replace qc_1 := hx23.cell qc_1
          replace qc_2 := hx23.cell qc_2
          replace qc_3 := hx23.cell qc_3
          replace qc_4 := hx23.cell qc_4
          replace qc_5 := hx23.cell qc_5
          replace pc := Nat.lt_of_lt_of_le pc hx23.size
          replace rc := Nat.lt_succ_of_lt pc
          clear hx23
          go_wp2_with fail
          refine (C2.out _ (by repeat (first | with_reducible exact Ext.refl _ | with_reducible assumption | with_reducible refine Ext.alloc ?_ _ | with_reducible refine Ext.drew ?_ | with_reducible refine Ext.drewN ?_ _ | with_reducible refine Ext.setCell ?_ (by simp <;> omega) _ | with_reducible refine Ext.trans ?_ (by assumption)))).mono ?_
          rintro e w24 ⟨rfl, hb24⟩
          have hx24 : Ext w23 w24 := by repeat (first | with_reducible exact Ext.refl _ | with_reducible assumption | with_reducible refine Ext.alloc ?_ _ | with_reducible refine Ext.drew ?_ | with_reducible refine Ext.drewN ?_ _ | with_reducible refine Ext.setCell ?_ (by simp <;> omega) _ | with_reducible refine Ext.trans ?_ (by assumption))
          replace qc_0 := hx24.cell qc_0
          replace qc_1 := hx24.cell qc_1
          replace qc_2 := hx24.cell qc_2
          replace qc_3 := hx24.cell qc_3
          replace qc_4 := hx24.cell qc_4
          replace qc_5 := hx24.cell qc_5
          replace pc := Nat.lt_of_lt_of_le pc hx24.size
          replace rc := Nat.lt_succ_of_lt pc
          clear hx24
          go_wp2_with fail
          refine (C3.out _ (by repeat (first | with_reducible exact Ext.refl _ | with_reducible assumption | with_reducible refine Ext.alloc ?_ _ | with_reducible refine Ext.drew ?_ | with_reducible refine Ext.drewN ?_ _ | with_reducible refine Ext.setCell ?_ (by simp <;> omega) _ | with_reducible refine Ext.trans ?_ (by assumption)))).mono ?_
          rintro e w25 ⟨rfl, hb25⟩
          have hx25 : Ext w24 w25 := by repeat (first | with_reducible exact Ext.refl _ | with_reducible assumption | with_reducible refine Ext.alloc ?_ _ | with_reducible refine Ext.drew ?_ | with_reducible refine Ext.drewN ?_ _ | with_reducible refine Ext.setCell ?_ (by simp <;> omega) _ | with_reducible refine Ext.trans ?_ (by assumption))
          replace qc_0 := hx25.cell qc_0
          replace qc_1 := hx25.cell qc_1
          replace qc_2 := hx25.cell qc_2
          replace qc_3 := hx25.cell qc_3
          replace qc_4 := hx25.cell qc_4
          replace qc_5 := hx25.cell qc_5
          replace pc := Nat.lt_of_lt_of_le pc hx25.size
          replace rc := Nat.lt_succ_of_lt pc
          clear hx25
          go_wp2_with fail
          refine (C4.out _ (by repeat (first | with_reducible exact Ext.refl _ | with_reducible assumption | with_reducible refine Ext.alloc ?_ _ | with_reducible refine Ext.drew ?_ | with_reducible refine Ext.drewN ?_ _ | with_reducible refine Ext.setCell ?_ (by simp <;> omega) _ | with_reducible refine Ext.trans ?_ (by assumption)))).mono ?_
          rintro e w26 ⟨rfl, hb26⟩
          have hx26 : Ext w25 w26 := by repeat (first | with_reducible exact Ext.refl _ | with_reducible assumption | with_reducible refine Ext.alloc ?_ _ | with_reducible refine Ext.drew ?_ | with_reducible refine Ext.drewN ?_ _ | with_reducible refine Ext.setCell ?_ (by simp <;> omega) _ | with_reducible refine Ext.trans ?_ (by assumption))
          replace qc_0 := hx26.cell qc_0
          replace qc_1 := hx26.cell qc_1
          replace qc_2 := hx26.cell qc_2
          replace qc_3 := hx26.cell qc_3
          replace qc_4 := hx26.cell qc_4
          replace qc_5 := hx26.cell qc_5
          replace pc := Nat.lt_of_lt_of_le pc hx26.size
          replace rc := Nat.lt_succ_of_lt pc
          clear hx26
          go_wp2_with fail
          refine (C5.out _ (by repeat (first | with_reducible exact Ext.refl _ | with_reducible assumption | with_reducible refine Ext.alloc ?_ _ | with_reducible refine Ext.drew ?_ | with_reducible refine Ext.drewN ?_ _ | with_reducible refine Ext.setCell ?_ (by simp <;> omega) _ | with_reducible refine Ext.trans ?_ (by assumption)))).mono ?_
          rintro e w27 ⟨rfl, hb27⟩
          have hx27 : Ext w26 w27 := by repeat (first | with_reducible exact Ext.refl _ | with_reducible assumption | with_reducible refine Ext.alloc ?_ _ | with_reducible refine Ext.drew ?_ | with_reducible refine Ext.drewN ?_ _ | with_reducible refine Ext.setCell ?_ (by simp <;> omega) _ | with_reducible refine Ext.trans ?_ (by assumption))
          replace qc_0 := hx27.cell qc_0
          replace qc_1 := hx27.cell qc_1
          replace qc_2 := hx27.cell qc_2
          replace qc_3 := hx27.cell qc_3
          replace qc_4 := hx27.cell qc_4
          replace qc_5 := hx27.cell qc_5
          replace pc := Nat.lt_of_lt_of_le pc hx27.size
          replace rc := Nat.lt_succ_of_lt pc
          clear hx27
          have hxx : Ext w w27 := by repeat (first | with_reducible exact Ext.refl _ | with_reducible assumption | with_reducible refine Ext.alloc ?_ _ | with_reducible refine Ext.drew ?_ | with_reducible refine Ext.drewN ?_ _ | with_reducible refine Ext.setCell ?_ (by simp <;> omega) _ | with_reducible refine Ext.trans ?_ (by assumption))
          go_upto_region 10 with (fail)
          refine wp_region_later (by kernel_rfl) (by kernel_rfl) ?_
          have lc_0 := fun (g : Later w27) => g.ok.cell qc_0
          have lc_1 := fun (g : Later w27) => g.ok.cell qc_1
          have lc_2 := fun (g : Later w27) => g.ok.cell qc_2
          have lc_3 := fun (g : Later w27) => g.ok.cell qc_3
          have lc_4 := fun (g : Later w27) => g.ok.cell qc_4
          have lc_5 := fun (g : Later w27) => g.ok.cell qc_5
          repeat (go_big_quiet_step ((fail)))
          go_big_quiet_step ((go_at_call 18; exact laterC (C6.out _ (hxx.trans (Later.ok _)))))
          repeat (go_big_quiet_step ((fail)))
          go_big_quiet_step ((go_at_call 19; exact laterC (C7.out _)))
          repeat (go_big_quiet_step ((fail)))
          go_big_quiet_step ((go_at_call 20; exact laterC (C8.out _ (hxx.trans (Later.ok _)))))
          repeat (go_big_quiet_step ((fail)))
          go_big_quiet_step ((go_at_call 21; exact laterC (C9.out _)))
          repeat (go_big_quiet_step ((fail)))
          go_big_quiet_step ((go_at_call 8; exact laterC (live10 _)))
          repeat (go_big_quiet_step ((fail)))
          refine wpQuiet_nil ?_
          intro w28 hl28
          have hb28 := laters_ext hl28
          clear hl28 lc_0 lc_1 lc_2 lc_3 lc_4 lc_5
          have hx28 : Ext w27 w28 := by repeat (first | with_reducible exact Ext.refl _ | with_reducible assumption | with_reducible refine Ext.alloc ?_ _ | with_reducible refine Ext.drew ?_ | with_reducible refine Ext.drewN ?_ _ | with_reducible refine Ext.setCell ?_ (by simp <;> omega) _ | with_reducible refine Ext.trans ?_ (by assumption))
          replace qc_0 := hx28.cell qc_0
          replace qc_1 := hx28.cell qc_1
          replace qc_2 := hx28.cell qc_2
          replace qc_3 := hx28.cell qc_3
          replace qc_4 := hx28.cell qc_4
          replace qc_5 := hx28.cell qc_5
          replace pc := Nat.lt_of_lt_of_le pc hx28.size
          replace rc := Nat.lt_succ_of_lt pc
          clear hx28
          go_wp2
          go_ret
          refine ⟨rfl, Ext.below ?_⟩
          repeat (first | with_reducible exact Ext.refl _ | with_reducible assumption | with_reducible refine Ext.alloc ?_ _ | with_reducible refine Ext.drew ?_ | with_reducible refine Ext.drewN ?_ _ | with_reducible refine Ext.setCell ?_ (by simp <;> omega) _ | with_reducible refine Ext.trans ?_ (by assumption))
        · by_cases hn : t < P + (len : Int)
          · have d0 : decide (0 ≤ t) = true := by simp; omega
            have dP : decide (P ≤ t) = true := by simp; omega
            have dQ : decide (t < P) = false := by simp; omega
            have dn : decide (t < P + (len : Int)) = true := by simp; omega
            have dl : decide (t < (len : Int)) = false := by simp; omega
            rw [dP, dn, show (true && true) = true from rfl, if_pos rfl] at c2
            rw [d0, dl, show (true && false) = false from rfl, if_neg (by simp)] at c3
            rw [d0, dQ, show (true && false) = false from rfl] at c5
            have hs1 : wrap64 (t - P) = t - P := by unfold wrap64; omega
            have C2 := Lib.hid c2
            have C3 := Lib.hid c3
            have C5 := Lib.hid c5
            clear c2 c3 c5 ht hS
            go_enter Try.func4, Try.ntmps4
            go_wp2_with fail
            refine (HCL.out _ (by repeat (first | with_reducible exact Ext.refl _ | with_reducible assumption | with_reducible refine Ext.alloc ?_ _ | with_reducible refine Ext.drew ?_ | with_reducible refine Ext.drewN ?_ _ | with_reducible refine Ext.setCell ?_ (by simp <;> omega) _ | with_reducible refine Ext.trans ?_ (by assumption)))).mono ?_
            rintro e w' ⟨rfl, rfl⟩
            go_wp2_with fail
            refine (C0.out _ (by repeat (first | with_reducible exact Ext.refl _ | with_reducible assumption | with_reducible refine Ext.alloc ?_ _ | with_reducible refine Ext.drew ?_ | with_reducible refine Ext.drewN ?_ _ | with_reducible refine Ext.setCell ?_ (by simp <;> omega) _ | with_reducible refine Ext.trans ?_ (by assumption)))).mono ?_
            rintro e w29 ⟨rfl, hb29⟩
            obtain ⟨hc29, hf29⟩ := hb29.cells
            clear hc29 hf29
            have qc_0 : w29.cell? ⟨w.heap.size, 0, none⟩ = some (.int .i64 V) := (hb29.cells.1 _ _ (by simp <;> omega)).trans (by simp [go_sem])
            have qc_1 : w29.cell? ⟨w.heap.size, 1, none⟩ = some (.int .i64 W) := (hb29.cells.1 _ _ (by simp <;> omega)).trans (by simp [go_sem])
            have qc_2 : w29.cell? ⟨w.heap.size, 2, none⟩ = some (.int .i64 C) := (hb29.cells.1 _ _ (by simp <;> omega)).trans (by simp [go_sem])
            have qc_3 : w29.cell? ⟨w.heap.size, 3, none⟩ = some (.int .i64 P) := (hb29.cells.1 _ _ (by simp <;> omega)).trans (by simp [go_sem])
            have qc_4 : w29.cell? ⟨w.heap.size, 4, none⟩ = some (.int .u64 (S)) := (hb29.cells.1 _ _ (by simp <;> omega)).trans (by simp [go_sem])
            have qc_5 : w29.cell? ⟨w.heap.size, 5, none⟩ = some (.slice a len cap) := (hb29.cells.1 _ _ (by simp <;> omega)).trans (by simp [go_sem])
            have pc := World.block_lt_of_cell? _ ⟨w.heap.size, 0, none⟩ qc_0
            have rc := Nat.lt_succ_of_lt pc
            go_wp2_with fail
            refine (C1.out _ (by repeat (first | with_reducible exact Ext.refl _ | with_reducible assumption | with_reducible refine Ext.alloc ?_ _ | with_reducible refine Ext.drew ?_ | with_reducible refine Ext.drewN ?_ _ | with_reducible refine Ext.setCell ?_ (by simp <;> omega) _ | with_reducible refine Ext.trans ?_ (by assumption)))).mono ?_
            rintro e w30 ⟨rfl, hb30⟩
            have hx30 : Ext w29 w30 := by repeat (first | with_reducible exact Ext.refl _ | with_reducible assumption | with_reducible refine Ext.alloc ?_ _ | with_reducible refine Ext.drew ?_ | with_reducible refine Ext.drewN ?_ _ | with_reducible refine Ext.setCell ?_ (by simp <;> omega) _ | with_reducible refine Ext.trans ?_ (by assumption))
            replace qc_0 := hx30.cell qc_0
            replace qc_1 := hx30.cell qc_1
            replace qc_2 := hx30.cell qc_2
            replace qc_3 := hx30.cell qc_3
            replace qc_4 := hx30.cell qc_4
            replace qc_5 := hx30.cell qc_5
            replace pc := Nat.lt_of_lt_of_le pc hx30.size
            replace rc := Nat.lt_succ_of_lt pc
            clear hx30
            go_wp2_with fail
            refine (C2.out _ (by repeat (first | with_reducible exact Ext.refl _ | with_reducible assumption | with_reducible refine Ext.alloc ?_ _ | with_reducible refine Ext.drew ?_ | with_reducible refine Ext.drewN ?_ _ | with_reducible refine Ext.setCell ?_ (by simp <;> omega) _ | with_reducible refine Ext.trans ?_ (by assumption)))).mono ?_
            rintro e w31 ⟨rfl, hb31⟩
            have hx31 : Ext w30 w31 := by repeat (first | with_reducible exact Ext.refl _ | with_reducible assumption | with_reducible refine Ext.alloc ?_ _ | with_reducible refine Ext.drew ?_ | with_reducible refine Ext.drewN ?_ _ | with_reducible refine Ext.setCell ?_ (by simp <;> omega) _ | with_reducible refine Ext.trans ?_ (by assumption))
            replace qc_0 := hx31.cell qc_0
            replace qc_1 := hx31.cell qc_1
            replace qc_2 := hx31.cell qc_2
            replace qc_3 := hx31.cell qc_3
            replace qc_4 := hx31.cell qc_4
            replace qc_5 := hx31.cell qc_5
            replace pc := Nat.lt_of_lt_of_le pc hx31.size
            replace rc := Nat.lt_succ_of_lt pc
            clear hx31
            go_wp2_with fail
            refine (C3.out _ (by repeat (first | with_reducible exact Ext.refl _ | with_reducible assumption | with_reducible refine Ext.alloc ?_ _ | with_reducible refine Ext.drew ?_ | with_reducible refine Ext.drewN ?_ _ | with_reducible refine Ext.setCell ?_ (by simp <;> omega) _ | with_reducible refine Ext.trans ?_ (by assumption)))).mono ?_
            rintro e w32 ⟨rfl, hb32⟩
            have hx32 : Ext w31 w32 := by repeat (first | with_reducible exact Ext.refl _ | with_reducible assumption | with_reducible refine Ext.alloc ?_ _ | with_reducible refine Ext.drew ?_ | with_reducible refine Ext.drewN ?_ _ | with_reducible refine Ext.setCell ?_ (by simp <;> omega) _ | with_reducible refine Ext.trans ?_ (by assumption))
            replace qc_0 := hx32.cell qc_0
            replace qc_1 := hx32.cell qc_1
            replace qc_2 := hx32.cell qc_2
            replace qc_3 := hx32.cell qc_3
            replace qc_4 := hx32.cell qc_4
            replace qc_5 := hx32.cell qc_5
            replace pc := Nat.lt_of_lt_of_le pc hx32.size
            replace rc := Nat.lt_succ_of_lt pc
            clear hx32
            go_wp2_with fail
            refine (C4.out _ (by repeat (first | with_reducible exact Ext.refl _ | with_reducible assumption | with_reducible refine Ext.alloc ?_ _ | with_reducible refine Ext.drew ?_ | with_reducible refine Ext.drewN ?_ _ | with_reducible refine Ext.setCell ?_ (by simp <;> omega) _ | with_reducible refine Ext.trans ?_ (by assumption)))).mono ?_
            rintro e w33 ⟨rfl, hb33⟩
            have hx33 : Ext w32 w33 := by repeat (first | with_reducible exact Ext.refl _ | with_reducible assumption | with_reducible refine Ext.alloc ?_ _ | with_reducible refine Ext.drew ?_ | with_reducible refine Ext.drewN ?_ _ | with_reducible refine Ext.setCell ?_ (by simp <;> omega) _ | with_reducible refine Ext.trans ?_ (by assumption))
            replace qc_0 := hx33.cell qc_0
            replace qc_1 := hx33.cell qc_1
            replace qc_2 := hx33.cell qc_2
            replace qc_3 := hx33.cell qc_3
            replace qc_4 := hx33.cell qc_4
            replace qc_5 := hx33.cell qc_5
            replace pc := Nat.lt_of_lt_of_le pc hx33.size
            replace rc := Nat.lt_succ_of_lt pc
            clear hx33
            go_wp2_with fail
            refine (C5.out _ (by repeat (first | with_reducible exact Ext.refl _ | with_reducible assumption | with_reducible refine Ext.alloc ?_ _ | with_reducible refine Ext.drew ?_ | with_reducible refine Ext.drewN ?_ _ | with_reducible refine Ext.setCell ?_ (by simp <;> omega) _ | with_reducible refine Ext.trans ?_ (by assumption)))).mono ?_
            rintro e w34 ⟨rfl, hb34⟩
            have hx34 : Ext w33 w34 := by repeat (first | with_reducible exact Ext.refl _ | with_reducible assumption | with_reducible refine Ext.alloc ?_ _ | with_reducible refine Ext.drew ?_ | with_reducible refine Ext.drewN ?_ _ | with_reducible refine Ext.setCell ?_ (by simp <;> omega) _ | with_reducible refine Ext.trans ?_ (by assumption))
            replace qc_0 := hx34.cell qc_0
            replace qc_1 := hx34.cell qc_1
            replace qc_2 := hx34.cell qc_2
            replace qc_3 := hx34.cell qc_3
            replace qc_4 := hx34.cell qc_4
            replace qc_5 := hx34.cell qc_5
            replace pc := Nat.lt_of_lt_of_le pc hx34.size
            replace rc := Nat.lt_succ_of_lt pc
            clear hx34
            have hxx : Ext w w34 := by repeat (first | with_reducible exact Ext.refl _ | with_reducible assumption | with_reducible refine Ext.alloc ?_ _ | with_reducible refine Ext.drew ?_ | with_reducible refine Ext.drewN ?_ _ | with_reducible refine Ext.setCell ?_ (by simp <;> omega) _ | with_reducible refine Ext.trans ?_ (by assumption))
            go_upto_region 10 with (fail)
            refine wp_region_later (by kernel_rfl) (by kernel_rfl) ?_
            have lc_0 := fun (g : Later w34) => g.ok.cell qc_0
            have lc_1 := fun (g : Later w34) => g.ok.cell qc_1
            have lc_2 := fun (g : Later w34) => g.ok.cell qc_2
            have lc_3 := fun (g : Later w34) => g.ok.cell qc_3
            have lc_4 := fun (g : Later w34) => g.ok.cell qc_4
            have lc_5 := fun (g : Later w34) => g.ok.cell qc_5
            repeat (go_big_quiet_step ((fail)))
            go_big_quiet_step ((go_at_call 18; exact laterC (C6.out _ (hxx.trans (Later.ok _)))))
            repeat (go_big_quiet_step ((fail)))
            go_big_quiet_step ((go_at_call 19; exact laterC (C7.out _)))
            repeat (go_big_quiet_step ((fail)))
            go_big_quiet_step ((go_at_call 20; exact laterC (C8.out _ (hxx.trans (Later.ok _)))))
            repeat (go_big_quiet_step ((fail)))
            go_big_quiet_step ((go_at_call 21; exact laterC (C9.out _)))
            repeat (go_big_quiet_step ((fail)))
            go_big_quiet_step ((go_at_call 8; exact laterC (live10 _)))
            repeat (go_big_quiet_step ((fail)))
            refine wpQuiet_nil ?_
            intro w35 hl35
            have hb35 := laters_ext hl35
            clear hl35 lc_0 lc_1 lc_2 lc_3 lc_4 lc_5
            have hx35 : Ext w34 w35 := by repeat (first | with_reducible exact Ext.refl _ | with_reducible assumption | with_reducible refine Ext.alloc ?_ _ | with_reducible refine Ext.drew ?_ | with_reducible refine Ext.drewN ?_ _ | with_reducible refine Ext.setCell ?_ (by simp <;> omega) _ | with_reducible refine Ext.trans ?_ (by assumption))
            replace qc_0 := hx35.cell qc_0
            replace qc_1 := hx35.cell qc_1
            replace qc_2 := hx35.cell qc_2
            replace qc_3 := hx35.cell qc_3
            replace qc_4 := hx35.cell qc_4
            replace qc_5 := hx35.cell qc_5
            replace pc := Nat.lt_of_lt_of_le pc hx35.size
            replace rc := Nat.lt_succ_of_lt pc
            clear hx35
            go_wp2
            go_ret
            refine ⟨rfl, Ext.below ?_⟩
            repeat (first | with_reducible exact Ext.refl _ | with_reducible assumption | with_reducible refine Ext.alloc ?_ _ | with_reducible refine Ext.drew ?_ | with_reducible refine Ext.drewN ?_ _ | with_reducible refine Ext.setCell ?_ (by simp <;> omega) _ | with_reducible refine Ext.trans ?_ (by assumption))
          · have d0 : decide (0 ≤ t) = true := by simp; omega
            have dP : decide (P ≤ t) = true := by simp; omega
            have dQ : decide (t < P) = false := by simp; omega
            have dn : decide (t < P + (len : Int)) = false := by simp; omega
            have dl : decide (t < (len : Int)) = false := by simp; omega
            rw [dP, dn, show (true && false) = false from rfl, if_neg (by simp)] at c2
            rw [d0, dl, show (true && false) = false from rfl, if_neg (by simp)] at c3
            rw [d0, dQ, show (true && false) = false from rfl] at c5
            have C2 := Lib.hid c2
            have C3 := Lib.hid c3
            have C5 := Lib.hid c5
            clear c2 c3 c5 ht hS
            go_enter Try.func4, Try.ntmps4
            go_wp2_with fail
            refine (HCL.out _ (by repeat (first | with_reducible exact Ext.refl _ | with_reducible assumption | with_reducible refine Ext.alloc ?_ _ | with_reducible refine Ext.drew ?_ | with_reducible refine Ext.drewN ?_ _ | with_reducible refine Ext.setCell ?_ (by simp <;> omega) _ | with_reducible refine Ext.trans ?_ (by assumption)))).mono ?_
            rintro e w' ⟨rfl, rfl⟩
            go_wp2_with fail
            refine (C0.out _ (by repeat (first | with_reducible exact Ext.refl _ | with_reducible assumption | with_reducible refine Ext.alloc ?_ _ | with_reducible refine Ext.drew ?_ | with_reducible refine Ext.drewN ?_ _ | with_reducible refine Ext.setCell ?_ (by simp <;> omega) _ | with_reducible refine Ext.trans ?_ (by assumption)))).mono ?_
            rintro e w36 ⟨rfl, hb36⟩
            obtain ⟨hc36, hf36⟩ := hb36.cells
            clear hc36 hf36
            have qc_0 : w36.cell? ⟨w.heap.size, 0, none⟩ = some (.int .i64 V) := (hb36.cells.1 _ _ (by simp <;> omega)).trans (by simp [go_sem])
            have qc_1 : w36.cell? ⟨w.heap.size, 1, none⟩ = some (.int .i64 W) := (hb36.cells.1 _ _ (by simp <;> omega)).trans (by simp [go_sem])
            have qc_2 : w36.cell? ⟨w.heap.size, 2, none⟩ = some (.int .i64 C) := (hb36.cells.1 _ _ (by simp <;> omega)).trans (by simp [go_sem])
            have qc_3 : w36.cell? ⟨w.heap.size, 3, none⟩ = some (.int .i64 P) := (hb36.cells.1 _ _ (by simp <;> omega)).trans (by simp [go_sem])
            have qc_4 : w36.cell? ⟨w.heap.size, 4, none⟩ = some (.int .u64 (S)) := (hb36.cells.1 _ _ (by simp <;> omega)).trans (by simp [go_sem])
            have qc_5 : w36.cell? ⟨w.heap.size, 5, none⟩ = some (.slice a len cap) := (hb36.cells.1 _ _ (by simp <;> omega)).trans (by simp [go_sem])
            have pc := World.block_lt_of_cell? _ ⟨w.heap.size, 0, none⟩ qc_0
            have rc := Nat.lt_succ_of_lt pc
            go_wp2_with fail
            refine (C1.out _ (by repeat (first | with_reducible exact Ext.refl _ | with_reducible assumption | with_reducible refine Ext.alloc ?_ _ | with_reducible refine Ext.drew ?_ | with_reducible refine Ext.drewN ?_ _ | with_reducible refine Ext.setCell ?_ (by simp <;> omega) _ | with_reducible refine Ext.trans ?_ (by assumption)))).mono ?_
            rintro e w37 ⟨rfl, hb37⟩
            have hx37 : Ext w36 w37 := by repeat (first | with_reducible exact Ext.refl _ | with_reducible assumption | with_reducible refine Ext.alloc ?_ _ | with_reducible refine Ext.drew ?_ | with_reducible refine Ext.drewN ?_ _ | with_reducible refine Ext.setCell ?_ (by simp <;> omega) _ | with_reducible refine Ext.trans ?_ (by assumption))
            replace qc_0 := hx37.cell qc_0
            replace qc_1 := hx37.cell qc_1
            replace qc_2 := hx37.cell qc_2
            replace qc_3 := hx37.cell qc_3
            replace qc_4 := hx37.cell qc_4
            replace qc_5 := hx37.cell qc_5
            replace pc := Nat.lt_of_lt_of_le pc hx37.size
            replace rc := Nat.lt_succ_of_lt pc
            clear hx37
            go_wp2_with fail
            refine (C2.out _ (by repeat (first | with_reducible exact Ext.refl _ | with_reducible assumption | with_reducible refine Ext.alloc ?_ _ | with_reducible refine Ext.drew ?_ | with_reducible refine Ext.drewN ?_ _ | with_reducible refine Ext.setCell ?_ (by simp <;> omega) _ | with_reducible refine Ext.trans ?_ (by assumption)))).mono ?_
            rintro e w38 ⟨rfl, hb38⟩
            have hx38 : Ext w37 w38 := by repeat (first | with_reducible exact Ext.refl _ | with_reducible assumption | with_reducible refine Ext.alloc ?_ _ | with_reducible refine Ext.drew ?_ | with_reducible refine Ext.drewN ?_ _ | with_reducible refine Ext.setCell ?_ (by simp <;> omega) _ | with_reducible refine Ext.trans ?_ (by assumption))
            replace qc_0 := hx38.cell qc_0
            replace qc_1 := hx38.cell qc_1
            replace qc_2 := hx38.cell qc_2
            replace qc_3 := hx38.cell qc_3
            replace qc_4 := hx38.cell qc_4
            replace qc_5 := hx38.cell qc_5
            replace pc := Nat.lt_of_lt_of_le pc hx38.size
            replace rc := Nat.lt_succ_of_lt pc
            clear hx38
            go_wp2_with fail
            refine (C3.out _ (by repeat (first | with_reducible exact Ext.refl _ | with_reducible assumption | with_reducible refine Ext.alloc ?_ _ | with_reducible refine Ext.drew ?_ | with_reducible refine Ext.drewN ?_ _ | with_reducible refine Ext.setCell ?_ (by simp <;> omega) _ | with_reducible refine Ext.trans ?_ (by assumption)))).mono ?_
            rintro e w39 ⟨rfl, hb39⟩
            have hx39 : Ext w38 w39 := by repeat (first | with_reducible exact Ext.refl _ | with_reducible assumption | with_reducible refine Ext.alloc ?_ _ | with_reducible refine Ext.drew ?_ | with_reducible refine Ext.drewN ?_ _ | with_reducible refine Ext.setCell ?_ (by simp <;> omega) _ | with_reducible refine Ext.trans ?_ (by assumption))
            replace qc_0 := hx39.cell qc_0
            replace qc_1 := hx39.cell qc_1
            replace qc_2 := hx39.cell qc_2
            replace qc_3 := hx39.cell qc_3
            replace qc_4 := hx39.cell qc_4
            replace qc_5 := hx39.cell qc_5
            replace pc := Nat.lt_of_lt_of_le pc hx39.size
            replace rc := Nat.lt_succ_of_lt pc
            clear hx39
            go_wp2_with fail
            refine (C4.out _ (by repeat (first | with_reducible exact Ext.refl _ | with_reducible assumption | with_reducible refine Ext.alloc ?_ _ | with_reducible refine Ext.drew ?_ | with_reducible refine Ext.drewN ?_ _ | with_reducible refine Ext.setCell ?_ (by simp <;> omega) _ | with_reducible refine Ext.trans ?_ (by assumption)))).mono ?_
            rintro e w40 ⟨rfl, hb40⟩
            have hx40 : Ext w39 w40 := by repeat (first | with_reducible exact Ext.refl _ | with_reducible assumption | with_reducible refine Ext.alloc ?_ _ | with_reducible refine Ext.drew ?_ | with_reducible refine Ext.drewN ?_ _ | with_reducible refine Ext.setCell ?_ (by simp <;> omega) _ | with_reducible refine Ext.trans ?_ (by assumption))
            replace qc_0 := hx40.cell qc_0
            replace qc_1 := hx40.cell qc_1
            replace qc_2 := hx40.cell qc_2
            replace qc_3 := hx40.cell qc_3
            replace qc_4 := hx40.cell qc_4
            replace qc_5 := hx40.cell qc_5
            replace pc := Nat.lt_of_lt_of_le pc hx40.size
            replace rc := Nat.lt_succ_of_lt pc
            clear hx40
            go_wp2_with fail
            refine (C5.out _ (by repeat (first | with_reducible exact Ext.refl _ | with_reducible assumption | with_reducible refine Ext.alloc ?_ _ | with_reducible refine Ext.drew ?_ | with_reducible refine Ext.drewN ?_ _ | with_reducible refine Ext.setCell ?_ (by simp <;> omega) _ | with_reducible refine Ext.trans ?_ (by assumption)))).mono ?_
            rintro e w41 ⟨rfl, hb41⟩
            have hx41 : Ext w40 w41 := by repeat (first | with_reducible exact Ext.refl _ | with_reducible assumption | with_reducible refine Ext.alloc ?_ _ | with_reducible refine Ext.drew ?_ | with_reducible refine Ext.drewN ?_ _ | with_reducible refine Ext.setCell ?_ (by simp <;> omega) _ | with_reducible refine Ext.trans ?_ (by assumption))
            replace qc_0 := hx41.cell qc_0
            replace qc_1 := hx41.cell qc_1
            replace qc_2 := hx41.cell qc_2
            replace qc_3 := hx41.cell qc_3
            replace qc_4 := hx41.cell qc_4
            replace qc_5 := hx41.cell qc_5
            replace pc := Nat.lt_of_lt_of_le pc hx41.size
            replace rc := Nat.lt_succ_of_lt pc
            clear hx41
            have hxx : Ext w w41 := by repeat (first | with_reducible exact Ext.refl _ | with_reducible assumption | with_reducible refine Ext.alloc ?_ _ | with_reducible refine Ext.drew ?_ | with_reducible refine Ext.drewN ?_ _ | with_reducible refine Ext.setCell ?_ (by simp <;> omega) _ | with_reducible refine Ext.trans ?_ (by assumption))
            go_upto_region 10 with (fail)
            refine wp_region_later (by kernel_rfl) (by kernel_rfl) ?_
            have lc_0 := fun (g : Later w41) => g.ok.cell qc_0
            have lc_1 := fun (g : Later w41) => g.ok.cell qc_1
            have lc_2 := fun (g : Later w41) => g.ok.cell qc_2
            have lc_3 := fun (g : Later w41) => g.ok.cell qc_3
            have lc_4 := fun (g : Later w41) => g.ok.cell qc_4
            have lc_5 := fun (g : Later w41) => g.ok.cell qc_5
            repeat (go_big_quiet_step ((fail)))
            go_big_quiet_step ((go_at_call 18; exact laterC (C6.out _ (hxx.trans (Later.ok _)))))
            repeat (go_big_quiet_step ((fail)))
            go_big_quiet_step ((go_at_call 19; exact laterC (C7.out _)))
            repeat (go_big_quiet_step ((fail)))
            go_big_quiet_step ((go_at_call 20; exact laterC (C8.out _ (hxx.trans (Later.ok _)))))
            repeat (go_big_quiet_step ((fail)))
            go_big_quiet_step ((go_at_call 21; exact laterC (C9.out _)))
            repeat (go_big_quiet_step ((fail)))
            go_big_quiet_step ((go_at_call 8; exact laterC (live10 _)))
            repeat (go_big_quiet_step ((fail)))
            refine wpQuiet_nil ?_
            intro w42 hl42
            have hb42 := laters_ext hl42
            clear hl42 lc_0 lc_1 lc_2 lc_3 lc_4 lc_5
            have hx42 : Ext w41 w42 := by repeat (first | with_reducible exact Ext.refl _ | with_reducible assumption | with_reducible refine Ext.alloc ?_ _ | with_reducible refine Ext.drew ?_ | with_reducible refine Ext.drewN ?_ _ | with_reducible refine Ext.setCell ?_ (by simp <;> omega) _ | with_reducible refine Ext.trans ?_ (by assumption))
            replace qc_0 := hx42.cell qc_0
            replace qc_1 := hx42.cell qc_1
            replace qc_2 := hx42.cell qc_2
            replace qc_3 := hx42.cell qc_3
            replace qc_4 := hx42.cell qc_4
            replace qc_5 := hx42.cell qc_5
            replace pc := Nat.lt_of_lt_of_le pc hx42.size
            replace rc := Nat.lt_succ_of_lt pc
            clear hx42
            go_wp2
            go_ret
            refine ⟨rfl, Ext.below ?_⟩
            repeat (first | with_reducible exact Ext.refl _ | with_reducible assumption | with_reducible refine Ext.alloc ?_ _ | with_reducible refine Ext.drew ?_ | with_reducible refine Ext.drewN ?_ _ | with_reducible refine Ext.setCell ?_ (by simp <;> omega) _ | with_reducible refine Ext.trans ?_ (by assumption))
    · have kg : (ckC V W C P ups == 0) = false := by simpa using hg
      rw [kg] at C0
      clear CL h hb hll hn hg kg
      go_enter Try.func4, Try.ntmps4
      go_wp2_with fail
      refine (HCL.out _ (by repeat (first | with_reducible exact Ext.refl _ | with_reducible assumption | with_reducible refine Ext.alloc ?_ _ | with_reducible refine Ext.drew ?_ | with_reducible refine Ext.drewN ?_ _ | with_reducible refine Ext.setCell ?_ (by simp <;> omega) _ | with_reducible refine Ext.trans ?_ (by assumption)))).mono ?_
      rintro e w' ⟨rfl, rfl⟩
      go_wp2_with fail
      refine (C0.out _ (by repeat (first | with_reducible exact Ext.refl _ | with_reducible assumption | with_reducible refine Ext.alloc ?_ _ | with_reducible refine Ext.drew ?_ | with_reducible refine Ext.drewN ?_ _ | with_reducible refine Ext.setCell ?_ (by simp <;> omega) _ | with_reducible refine Ext.trans ?_ (by assumption)))).mono ?_
      rintro e w43 ⟨rfl, hb43⟩
      obtain ⟨hc43, hf43⟩ := hb43.cells
      go_wp2_with fail
      refine (live10 _).mono ?_
      rintro e w44 ⟨rfl, hb44⟩
      obtain ⟨hc44, hf44⟩ := hb44.cells
      go_wp2
      go_ret
      refine ⟨rfl, Ext.below ?_⟩
      repeat (first | with_reducible exact Ext.refl _ | with_reducible assumption | with_reducible refine Ext.alloc ?_ _ | with_reducible refine Ext.drew ?_ | with_reducible refine Ext.drewN ?_ _ | with_reducible refine Ext.setCell ?_ (by simp <;> omega) _ | with_reducible refine Ext.trans ?_ (by assumption))
  · rw [hb] at CL
    have HCL := Lib.hid CL
    clear CL h hb
    go_enter Try.func4, Try.ntmps4
    go_wp2_with fail
    refine (HCL.out _ (by repeat (first | with_reducible exact Ext.refl _ | with_reducible assumption | with_reducible refine Ext.alloc ?_ _ | with_reducible refine Ext.drew ?_ | with_reducible refine Ext.drewN ?_ _ | with_reducible refine Ext.setCell ?_ (by simp <;> omega) _ | with_reducible refine Ext.trans ?_ (by assumption)))).mono ?_
    rintro e w' ⟨rfl, rfl⟩
    go_wp2_with fail
    refine (live10 _).mono ?_
    rintro e w45 ⟨rfl, hb45⟩
    obtain ⟨hc45, hf45⟩ := hb45.cells
    go_wp2
    go_ret
    refine ⟨rfl, Ext.below ?_⟩
    repeat (first | with_reducible exact Ext.refl _ | with_reducible assumption | with_reducible refine Ext.alloc ?_ _ | with_reducible refine Ext.drew ?_ | with_reducible refine Ext.drewN ?_ _ | with_reducible refine Ext.setCell ?_ (by simp <;> omega) _ | with_reducible refine Ext.trans ?_ (by assumption))
end Go.Proofs.Ytlalkefbcddbfab
