/- graph's Below. -/
import Derived.Test.YtlalkefbcddbfaaDoorGrF2
namespace Go.Proofs.YtlalkefbcddbfaaDoor
open Go.RowKit
set_option linter.unusedVariables false
set_option maxHeartbeats 1000000
attribute [local go_sem] Oper.semAt_some later_cell later_frozen later_const
/-- is c above d? (c any number) -/
def bcB (ups : List (List Int)) (c : Int) (d : Nat) : Bool := decide (0 ≤ c) && decide (c < 6) && tab ups (d * 6 + c.toNat)
theorem gHasAb (ups : List (List Int)) (c : Int) (d : Nat) (w : World) : Calls Tryd.prog 26 #[.int .u64 (abw ups d : Nat), .int .i64 c] w fun e w' => e = .returned (.bool (bcB ups c d)) ∧ w = w' := by
  have hl := abw_lt ups d
  by_cases hc : 0 ≤ c ∧ c < 64
  · obtain ⟨k, rfl⟩ := Int.eq_ofNat_of_zero_le hc.1
    have := gHas (abw ups d) k w (by omega) (by omega)
    by_cases h6 : k < 6
    · rw [abw_bit _ _ _ h6] at this
      rw [show bcB ups (k : Int) d = tab ups (d * 6 + k) by
        have h1 : (k : Int) < 6 := by omega
        unfold bcB
        rw [decide_eq_true (show (0 : Int) ≤ k by omega), decide_eq_true h1, Int.toNat_natCast]
        simp]
      exact this
    · rw [bit_high hl (by omega)] at this
      rw [show bcB ups (k : Int) d = false by
        unfold bcB
        rw [decide_eq_false (show ¬ (k : Int) < 6 by omega)]
        simp]
      exact this
  · have := gHas_no (abw ups d) c w (by omega) hc
    rw [show bcB ups c d = false by
      unfold bcB
      by_cases h0 : 0 ≤ c
      · rw [decide_eq_false (show ¬ c < 6 by omega)]; simp
      · rw [decide_eq_false h0]; simp]
    exact this
def blwK (ups : List (List Int)) (c : Int) (k : Nat) : Nat := wordOf fun d => decide (d < k) && (decide (d < ups.length) && bcB ups c d)
theorem blwK_zero (ups : List (List Int)) (c : Int) : blwK ups c 0 = 0 := word_zero fun i _ => by simp
theorem blwK_skip {ups : List (List Int)} {c : Int} {k : Nat} (h : bcB ups c k = false) : blwK ups c (k + 1) = blwK ups c k := by
  unfold blwK
  refine wordOf_congr fun d hd => ?_
  by_cases e : d = k
  · subst e; simp [h]
  · have : (d < k + 1) ↔ (d < k) := by omega
    simp [this]
theorem blwK_add {ups : List (List Int)} {c : Int} {k : Nat} (hk : k < 6) (hn : k < ups.length) (h : bcB ups c k = true) : blwK ups c k ||| 2 ^ k = blwK ups c (k + 1) := by
  unfold blwK
  rw [or_word _ _ hk]
  refine wordOf_congr fun d hd => ?_
  by_cases e : d = k
  · subst e; simp [h, hn]
  · have : (d < k + 1) ↔ (d < k) := by omega
    simp [this, e]
set_option maxRecDepth 100000 in
theorem gBelow (v : Value) (ups : List (List Int)) (c : Int) (w : World) (hL : ListsV w v ups) (hll : ∀ l ∈ ups, l.length ≤ 1000000) (hn : ups.length ≤ 1000000) (hT : Tab w) :
    Calls Tryd.prog 18 #[v, .int .i64 c] w fun e w' => e = .returned (.int .u64 ((if chk ups = 0 then blwK ups c ups.length else 0 : Nat) : Int)) ∧ Ext w w' := by
  have CA := Lib.hid (fun w' (hx : Ext w w') => g9all v ups w' (hL.ext hx) hll hn)
  have CR := Lib.hid (fun (rt : Rt ups) (k : Nat) (hk : k < ups.length) w' (hx : Ext w w') => reach v ups w' k rt.nms rt.six (hL.ext hx) hll hk)
  have hx := allW_lt ups
  have HT := Lib.hid hT
  have HL := Lib.hid hL
  obtain ⟨a, cap, e, -⟩ := id hL
  subst e
  clear hT hL hll
  obtain ⟨x, hxe⟩ : ∃ x, x = allW ups := ⟨_, rfl⟩
  rw [← hxe] at CA hx
  have HXE := Lib.hid hxe
  clear hxe
  obtain ⟨n, hN⟩ : ∃ n, n = ups.length := ⟨_, rfl⟩
  have HEQ : Hid ((if chk ups = 0 then blwK ups c ups.length else 0) = blwK ups c (bitsOf x).length) := Lib.hid (by
    rw [HXE.out]
    unfold allW
    by_cases h : chk ups = 0
    · rw [if_pos h, if_pos h, bits_full (chk_zero.1 h).six, List.length_range]
    · simp [h, bits_zero, blwK_zero])
  obtain ⟨rk, hrk⟩ : ∃ rk : Nat → Nat, rk = blwK ups c := ⟨_, rfl⟩
  have HRK := Lib.hid hrk
  have hr0 : rk 0 = 0 := by rw [hrk]; exact blwK_zero _ _
  have HR0 := Lib.hid hr0
  rw [HEQ.out, ← hrk]
  clear hrk hr0 HEQ
  rw [← hN] at hn CA HL CR ⊢
  have HE := Lib.hid hN
  clear hN
  refine callsIn_wide.1 (callsIn_of_wp_marks (n := 3) Tryd.func18 rfl trivial ?_ rfl)
  simp only [Tryd.ntmps18, List.size_toArray, List.length_cons, List.length_nil, Nat.reduceAdd, Nat.reduceSub, Array.replicate_succ, Array.replicate_zero, List.push_toArray, List.append_toArray, List.nil_append, List.cons_append]
  refine wpIn_wide.2 ?_
  go_upto_region 2 with (fail)
  refine settle_wp ?_
  intro w0 hb0
  have p0 : w0.cell? ⟨w.heap.size, 0, none⟩ = some (.slice a n cap) := (hb0.cells.1 _ _ (by simp <;> omega)).trans (by simp [go_sem])
  have i0 : w0.cell? ⟨w.heap.size + 1, 0, none⟩ = some (.int .i64 c) := (hb0.cells.1 _ _ (by simp <;> omega)).trans (by simp [go_sem])
  have s0 : w0.cell? ⟨w.heap.size + 1 + 1, 0, none⟩ = some (.int .u64 0) := (hb0.cells.1 _ _ (by simp <;> omega)).trans (by simp [go_sem])
  have z0 : w0.frozen? ⟨w.heap.size + 1 + 1, 0, none⟩ = false := (hb0.cells.2 _ _ (by simp <;> omega)).trans (by simp [go_sem])
  have E0 : Ext w w0 := by repeat (first | with_reducible exact Ext.refl _ | with_reducible assumption | with_reducible refine Ext.alloc ?_ _ | with_reducible refine Ext.drew ?_ | with_reducible refine Ext.drewN ?_ _ | with_reducible refine Ext.setCell ?_ (by simp <;> omega) _ | with_reducible refine Ext.trans ?_ (by assumption))
  have hs0 := World.block_lt_of_cell? w0 _ s0
  clear hb0
  go_wp2_with fail
  refine (CA.out _ E0).mono ?_
  rintro e w1 ⟨rfl, X1⟩
  have HX1 := Lib.hid X1
  clear X1
  go_wp2_with fail
  refine (gAll _ _).mono ?_
  rintro e w2 ⟨rfl, c0, hz, hb2⟩
  have E2' := HX1.out.trans hb2
  have p2 := E2'.cell p0
  have i2 := E2'.cell i0
  have s2 := E2'.cell s0
  have z2 := E2'.frozen s0 z0
  have E2 := E0.trans E2'
  have hs1 := HX1.out.size
  have HS2 := Lib.hid hz
  clear hz hb2 E2' p0 i0 s0 z0 E0 HX1
  have J0 : (fun (k : Nat) (W : World) => Cells3 w w.heap.size (w.heap.size + 1 + 1) w1.heap.size (.slice a n cap) (.int .u64 (rk k : Nat)) (.int .u64 x) W ∧ W.cell? ⟨w.heap.size + 1, 0, none⟩ = some (.int .i64 c)) 0 w2 := ⟨⟨E2, p2, by rw [s2, HR0.out]; rfl, z2, c0⟩, i2⟩
  have HJ0 := Lib.hid J0
  clear J0 p2 s2 z2 i2 c0
  go_wp2
  refine range_bits x w1.heap.size (fun k W => Cells3 w w.heap.size (w.heap.size + 1 + 1) w1.heap.size (.slice a n cap) (.int .u64 (rk k : Nat)) (.int .u64 x) W ∧ W.cell? ⟨w.heap.size + 1, 0, none⟩ = some (.int .i64 c)) rfl (by omega) rfl (fun k W h => HT.out.ext h.1.x) (fun k W h => h.1.cr) ?stab HJ0.out ?hbody ?hend
  case stab =>
    intro k W W' h hb
    have hs := HS2.out
    exact ⟨h.1.but hb (fun i hi => by omega) (by omega) (by omega) (by omega), hb.cell h.2 (by omega)⟩
  case hbody =>
    intro k hk W hJ hsW
    obtain ⟨rt, hkn, hbk⟩ := bit_at HXE.out hk
    rw [hbk]
    have h6 := rt.six
    have HRT := Lib.hid rt
    clear hJ rt hbk hk
    refine region_round_list (by kernel_rfl) ?_
    go_wp2
    refine ⟨rfl, ?_⟩
    intro W5 hJ hs5
    have X5 := hJ.1.x
    have q5 := hJ.1.cp
    have i5 := hJ.2
    have HJ := Lib.hid hJ
    have HAb := Lib.hid (fun w => gHasAb ups c k w)
    have HRe := Lib.hid (CR.out HRT.out k (by have := HE.out; omega))
    have HSK := Lib.hid (fun h => blwK_skip (ups := ups) (c := c) (k := k) h)
    have HAD := Lib.hid (fun h => blwK_add (ups := ups) (c := c) (k := k) (by omega) hkn h)
    clear hJ
    generalize bcB ups c k = bo at *
    generalize abw ups k = ab at *
    refine wpIn_block (wpIn_seq (region_round_tail 4 (by kernel_rfl) (by kernel_rfl) (by kernel_rfl) ?_))
    simp only [List.take_succ_cons, List.take_zero, List.drop_succ_cons, List.drop_zero]
    have l1 := fun (g : Later W5) => g.ok.cell q5
    have l2 := fun (g : Later W5) => g.ok.cell i5
    repeat (go_big_quiet_step ((fail)))
    go_big_quiet_step ((go_at_call 32; exact laterC (HRe.out _ (X5.trans (Later.ok _)))))
    repeat (go_big_quiet_step ((fail)))
    refine wpQuiet_nil ?_
    intro W6 hl6
    have X6 := laters_ext hl6
    clear hl6 l1 l2 q5 i5
    have HJ6 : Hid (Cells3 w w.heap.size (w.heap.size + 1 + 1) w1.heap.size (.slice a n cap) (.int .u64 (rk k : Nat)) (.int .u64 x) W6 ∧ W6.cell? ⟨w.heap.size + 1, 0, none⟩ = some (.int .i64 c)) := Lib.hid ⟨HJ.out.1.but (X6.but (fun _ => False)) (fun _ h => h.elim) id id id, X6.cell HJ.out.2⟩
    have B6 := X6.but (fun _ => False)
    have HB6 := Lib.hid B6
    have s6 := HJ6.out.1.cq
    have z6 := HJ6.out.1.z
    rw [HRK.out] at s6
    have hs6 := X6.size
    clear X6 B6 HJ
    go_wp2_with fail
    refine (HAb.out _).mono ?_
    rintro e w' ⟨rfl, rfl⟩
    cases bo
    · go_wp2
      refine wpIn_cond_false rfl (wpIn_skip ?_)
      have hj := HJ6.out
      rw [HRK.out, ← HSK.out (by simp), ← HRK.out] at hj
      exact ⟨hj, HB6.out.block _ (by omega) id, HB6.out.block _ (by omega) id, hs6⟩
    · have hlt64 : blwK ups c k < 64 := word_lt _
      have CW := gWith (blwK ups c k) k W6 (by omega) (by omega)
      rw [HAD.out (by simp)] at CW
      have HCW := Lib.hid CW
      have hz2 : rk (k + 1) = blwK ups c (k + 1) := by rw [HRK.out]
      have HZ2 := Lib.hid hz2
      clear CW hz2
      generalize blwK ups c k = z1 at *
      generalize blwK ups c (k + 1) = z2 at *
      have hne : w1.heap.size ≠ w.heap.size + 1 + 1 := by omega
      have HJ7 := Lib.hid (HJ6.out.1.set (by omega) (by omega) hne (.int .u64 (z2 : Int)))
      go_wp2
      refine wpIn_cond_true rfl (region_round_list (by kernel_rfl) ?_)
      go_wp2_with fail
      refine HCW.out.mono ?_
      rintro e w' ⟨rfl, rfl⟩
      go_wp2
      have hs := HS2.out
      have hb := but_setCell W6 ⟨w.heap.size + 1 + 1, 0, none⟩ (.int .u64 (z2 : Int))
      refine ⟨⟨?_, hb.cell HJ6.out.2 (by simp)⟩, (hb.block _ (by omega) (by simp; omega)).trans (HB6.out.block _ (by omega) id), (hb.block _ (by omega) (by simp; omega)).trans (HB6.out.block _ (by omega) id), Nat.le_trans hs6 hb.size⟩
      rw [HZ2.out]
      exact HJ7.out
  case hend =>
    intro W' h K4
    have c5 := h.1.cq
    have X5 := h.1.x
    have HK4 := Lib.hid K4
    clear h K4
    go_wp2
    refine ⟨by simp, .inl ⟨_, _, rfl, run_takeDeferred HK4.out, ?_⟩⟩
    have BD := but_putObj W' w2.heap.size (.deferred none)
    refine ⟨_, results_tmp rfl _ _ _, ?_⟩
    have hs := HS2.out
    exact ⟨rfl, BD.ext X5 (fun i e => by have := E2.size; omega)⟩
end Go.Proofs.YtlalkefbcddbfaaDoor
