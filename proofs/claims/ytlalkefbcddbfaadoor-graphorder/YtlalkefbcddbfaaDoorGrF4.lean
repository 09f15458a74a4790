/- graph's Ends. -/
import Derived.Test.YtlalkefbcddbfaaDoorGrF3
namespace Go.Proofs.YtlalkefbcddbfaaDoor
open Go.RowKit
set_option linter.unusedVariables false
set_option maxHeartbeats 1000000
attribute [local go_sem] Oper.semAt_some later_cell later_frozen later_const
/-- who is no end as far as the first k lists, and j of the next one, tell -/
def endF (ups : List (List Int)) (k j c : Nat) : Bool := decide (c < ups.length) && (!((List.range k).any fun d => (ups.getD d []).contains (c : Int)) && !((ups.getD k []).take j).contains (c : Int))
def endK (ups : List (List Int)) (k j : Nat) : Nat := wordOf (endF ups k j)
theorem endK_zero {ups : List (List Int)} (h6 : ups.length ≤ 6) : endK ups 0 0 = 2 ^ ups.length - 1 := by
  unfold endK
  rw [← word_full h6]
  congr 1
  funext c
  simp [endF]
theorem endK_cut {ups : List (List Int)} {k j a : Nat} (hj : j < (ups.getD k []).length) (ha : (ups.getD k []).getD j 0 = (a : Int)) (h6 : a < 6) : lessN (endK ups k j) (2 ^ a) = endK ups k (j + 1) := by
  unfold endK
  rw [less_word _ _ h6]
  refine wordOf_congr fun c hc => ?_
  unfold endF
  generalize hl : ups.getD k [] = l at *
  rw [List.take_succ_eq_append_getElem hj, show l[j] = (a : Int) by rw [← ha]; simp [hj]]
  have e : (l.take j ++ [(a : Int)]).contains (c : Int) = ((l.take j).contains (c : Int) || decide (c = a)) := by
    rw [Bool.eq_iff_iff]
    simp only [List.contains_eq_mem, decide_eq_true_eq, List.mem_append, List.mem_singleton, Bool.or_eq_true]
    constructor
    · rintro (h | h)
      · exact .inl h
      · exact .inr (by omega)
    · rintro (h | h)
      · exact .inl h
      · exact .inr (by omega)
  rw [e]
  generalize (l.take j).contains (c : Int) = b1
  generalize ((List.range k).any fun d => (ups.getD d []).contains (c : Int)) = b2
  generalize decide (c < ups.length) = b3
  generalize decide (c = a) = b4
  cases b1 <;> cases b2 <;> cases b3 <;> cases b4 <;> rfl
theorem endK_next (ups : List (List Int)) (k : Nat) : endK ups k (ups.getD k []).length = endK ups (k + 1) 0 := by
  unfold endK
  refine wordOf_congr fun c hc => ?_
  unfold endF
  rw [List.take_length, List.range_succ, List.any_append]
  simp only [List.any_cons, List.any_nil, Bool.or_false, List.take_zero, List.contains_nil, Bool.not_false, Bool.and_true, Bool.not_or]
theorem endK_done (ups : List (List Int)) : endK ups ups.length 0 = wordOf fun c => decide (c < ups.length) && !aheadB ups c := by
  unfold endK
  refine wordOf_congr fun c hc => ?_
  unfold endF aheadB
  simp
set_option maxRecDepth 100000 in
theorem gEnds (v : Value) (ups : List (List Int)) (w : World) (hL : ListsV w v ups) (hll : ∀ l ∈ ups, l.length ≤ 1000000) (hn : ups.length ≤ 1000000) (hT : Tab w) :
    Calls Tryd.prog 14 #[v] w (GivesI w (if chk ups = 0 then sel ups.length (fun c => !aheadB ups c) else [])) := by
  have CA := Lib.hid (fun w' (hx : Ext w w') => g9all v ups w' (hL.ext hx) hll hn)
  have hx := allW_lt ups
  have HT := Lib.hid hT
  have HL := Lib.hid hL
  have hll5 : ∀ k, k < ups.length → (ups.getD k []).length ≤ 1000000 := fun k hk => hll _ (by rw [getD_at _ _ _ hk]; exact List.getElem_mem hk)
  have HLL := Lib.hid hll5
  obtain ⟨a, cap, e, -⟩ := id hL
  subst e
  clear hT hL hll hll5
  obtain ⟨x, hxe⟩ : ∃ x, x = allW ups := ⟨_, rfl⟩
  rw [← hxe] at CA hx
  have HXE := Lib.hid hxe
  clear hxe
  obtain ⟨n, hN⟩ : ∃ n, n = ups.length := ⟨_, rfl⟩
  rw [← hN] at hn CA HL
  have HE := Lib.hid hN
  generalize hG : GivesI w (if chk ups = 0 then sel ups.length (fun c => !aheadB ups c) else []) = G
  have HG := Lib.hid hG
  rw [← hN]
  clear hN hG
  refine callsIn_wide.1 (callsIn_of_wp_marks (n := 3) Tryd.func14 rfl trivial ?_ rfl)
  simp only [Tryd.ntmps14, List.size_toArray, List.length_cons, List.length_nil, Nat.reduceAdd, Nat.reduceSub, Array.replicate_succ, Array.replicate_zero, List.push_toArray, List.append_toArray, List.nil_append, List.cons_append]
  refine wpIn_wide.2 ?_
  go_wp2_with fail
  refine (CA.out _ ((Ext.refl w).alloc _)).mono ?_
  rintro e w0 ⟨rfl, X1⟩
  have q1 : w0.cell? ⟨w.heap.size, 0, none⟩ = some (.slice a n cap) := X1.cell (by simp [go_sem])
  have E1 : Ext w w0 := ((Ext.refl w).alloc _).trans X1
  have hs1 : w.heap.size < w0.heap.size := World.block_lt_of_cell? w0 _ q1
  clear X1
  go_wp2_with fail
  refine (CA.out _ (E1.alloc _)).mono ?_
  rintro e w1 ⟨rfl, X1⟩
  have q1' := X1.cell (((Ext.refl w0).alloc (.cells #[.int .u64 x] 33)).cell q1)
  have s1 : w1.cell? ⟨w0.heap.size, 0, none⟩ = some (.int .u64 x) := X1.cell (by simp [go_sem])
  have z1 : w1.frozen? ⟨w0.heap.size, 0, none⟩ = false := X1.frozen (v := .int .u64 x) (by simp [go_sem]) (by simp [go_sem])
  have E1' : Ext w w1 := (E1.alloc _).trans X1
  have hs3 : w0.heap.size < w1.heap.size := World.block_lt_of_cell? w1 _ s1
  clear X1 q1 E1
  go_wp2_with fail
  refine (gAll _ _).mono ?_
  rintro e w2 ⟨rfl, c0, hz, hb2⟩
  have q2 := hb2.cell q1'
  have c2 := hb2.cell s1
  have z2 := hb2.frozen s1 z1
  have E2 := E1'.trans hb2
  have HS2 := Lib.hid hz
  clear hz hb2 q1' s1 z1 E1'
  obtain ⟨rk, hrk⟩ : ∃ rk : Nat → Nat, rk = fun k => if chk ups = 0 then endK ups k 0 else 0 := ⟨_, rfl⟩
  have HRK := Lib.hid hrk
  have hr0 : rk 0 = x := by
    rw [hrk, HXE.out]
    unfold allW
    by_cases h : chk ups = 0
    · simp only [if_pos h]; exact endK_zero (chk_zero.1 h).six
    · simp only [if_neg h]
  have J0 : (fun (k : Nat) (W : World) => Cells3 w w.heap.size w0.heap.size w1.heap.size (.slice a n cap) (.int .u64 (rk k : Nat)) (.int .u64 x) W) 0 w2 := ⟨E2, q2, by rw [c2, hr0], z2, c0⟩
  have HJ0 := Lib.hid J0
  clear J0 c2 z2 c0 q2 hrk hr0
  go_wp2
  refine range_bits x w1.heap.size (fun k W => Cells3 w w.heap.size w0.heap.size w1.heap.size (.slice a n cap) (.int .u64 (rk k : Nat)) (.int .u64 x) W) rfl (by omega) rfl (fun k W h => HT.out.ext h.x) (fun k W h => h.cr) ?stab HJ0.out ?hbody ?hend
  case stab =>
    intro k W W' h hb
    have hs := HS2.out
    exact h.but hb (fun i hi => by omega) (by omega) (by omega) (by omega)
  case hbody =>
    intro k hk W hJ hsW
    obtain ⟨rt, hkn, hbk⟩ := bit_at HXE.out hk
    rw [hbk]
    have h6 := rt.six
    have hck := chk_zero.2 rt
    have HRT := Lib.hid rt
    have hrk : ∀ j, rk j = endK ups j 0 := fun j => by rw [HRK.out]; simp only [if_pos hck]
    have HRK2 := Lib.hid hrk
    clear hJ hrk hck rt hbk hk
    refine region_round_list (by kernel_rfl) ?_
    go_wp2
    refine ⟨rfl, ?_⟩
    intro W5 hJ hs5
    have X5 := hJ.x
    have q5 := hJ.cp
    obtain ⟨b, off, u, cu, ha, hcell0, hI⟩ := HL.out.at (Ext.refl w) (c := k) hkn
    subst ha
    have hcell := X5.cell hcell0
    obtain ⟨u', cu', eu, hform0⟩ := hI.form
    cases eu
    clear hcell0
    have hkn' : (k : Int) < (n : Int) := by have := HE.out; omega
    have hlen := HLL.out k hkn
    rw [HRK2.out] at hJ
    have HJ := Lib.hid hJ
    have HF := Lib.hid hform0
    clear hI hJ hform0
    obtain ⟨m, hm⟩ : ∃ m, m = (ups.getD k []).length := ⟨_, rfl⟩
    rw [← hm] at hcell hlen
    have HM := Lib.hid hm
    clear hm
    refine wpIn_block (wpIn_seq (region_round_list (by kernel_rfl) ?_))
    go_wp2
    refine wpIn_block ?_
    gi_loopw [18] (fun i wr => ∃ j : Nat, j ≤ m ∧ i = .int .i64 j ∧ Cells3 w w.heap.size w0.heap.size w1.heap.size (.slice (some ⟨b, off, none⟩) n cap) (.int .u64 (endK ups k j : Nat)) (.int .u64 x) wr ∧ But (fun i => i = w0.heap.size) W5 wr) (fun i _ => m - (intOf i).toNat)
    case atStart => exact ⟨0, Nat.zero_le _, rfl, HJ.out, But.refl _ _⟩
    case round =>
      obtain ⟨j, hj, rfl, hC, hB⟩ := hrel
      clear q5 hcell
      by_cases hlt : j < m
      · have hjl : j < (ups.getD k []).length := by have := HM.out; omega
        obtain ⟨b1, o1, hu, hcl⟩ := HF.out j hjl
        subst hu
        have hjm : (j : Int) < (m : Int) := by omega
        have hmem : (ups.getD k [])[j] ∈ ups.getD k [] := List.getElem_mem hjl
        have hr := mem_R HRT.out hmem
        have hge := ((HRT.out.nms.at k).1 _ hmem).1
        have hal := HRT.out.nms.lt hr
        obtain ⟨a1, ha1⟩ := Int.eq_ofNat_of_zero_le hge
        have hget : (ups.getD k []).getD j 0 = (a1 : Int) := by rw [getD_at _ _ _ hjl, ha1]
        rw [ha1, Int.toNat_natCast] at hal
        rw [hget] at hcl
        have ha6 : a1 < 6 := by omega
        have hcut := endK_cut hjl hget ha6
        have q1 := hC.x.cell hcl
        have c5 := hC.cq
        have z5 := hC.z
        have hlt64 : endK ups k j < 64 := word_lt _
        have CW := gWithout (endK ups k j) a1 wr (by omega) (by omega)
        rw [hcut] at CW
        have HCW := Lib.hid CW
        have HC2 := Lib.hid (hC.set (by omega) (by omega) (by omega) (.int .u64 ((endK ups k (j + 1) : Nat) : Int)))
        have HB2 := Lib.hid (hB.trans (but_setCell wr ⟨w0.heap.size, 0, none⟩ (.int .u64 ((endK ups k (j + 1) : Nat) : Int))))
        clear CW hcut hC hB hget hal hge hr hmem ha1 hcl hjl
        generalize endK ups k j = z1 at *
        generalize hz2 : endK ups k (j + 1) = z2 at *
        have HZ2 := Lib.hid hz2
        clear hz2
        refine wpIn_seq (region_round_list (by kernel_rfl) ?_)
        go_wp2
        refine wpIn_seq (wpIn_cond_true rfl (wpIn_skip ?_))
        refine wpIn_seq (wpIn_block (wpIn_seq (region_round_list (by kernel_rfl) ?_)))
        go_wp2
        refine region_round_list (by kernel_rfl) ?_
        go_wp2_with fail
        refine HCW.out.mono ?_
        rintro e w' ⟨rfl, rfl⟩
        go_wp2
        refine region_round_list (by kernel_rfl) ?_
        go_wp2
        refine ⟨⟨_, _, _, _, _, _, _, _, _, ?rel, rfl⟩, ?mea⟩
        case rel => exact ⟨j + 1, by omega, by go_num, by rw [HZ2.out]; exact HC2.out, HB2.out⟩
        case mea => simp [intOf]; omega
      · have HC := Lib.hid hC
        have HB := Lib.hid hB
        clear hC hB
        have d1 : decide (j < m) = false := by simp; omega
        refine wpIn_seq (region_round_list (by kernel_rfl) ?_)
        go_wp2
        refine wpIn_seq (wpIn_cond_false rfl (wpIn_exit ?_))
        have hs := HS2.out
        have hbo := HB.out
        refine ⟨?_, hbo.block _ (by omega) (by omega), hbo.block _ (by omega) (by omega), hbo.size⟩
        have hC := HC.out
        rw [show j = (ups.getD k []).length by have := HM.out; omega, endK_next, ← HRK2.out] at hC
        exact hC
  case hend =>
    intro W' h K4
    have c5 := h.cq
    have X5 := h.x
    have hrk : rk (bitsOf x).length < 18446744073709551616 := by
      rw [HRK.out]
      simp only []
      split
      · have : endK ups (bitsOf x).length 0 < 64 := word_lt _
        omega
      · decide
    have CL := Lib.hid (fun W (hx : Ext w W) => gListI (rk (bitsOf x).length) W hrk (HT.out.ext hx))
    have HEQ : Hid ((bitsOf (rk (bitsOf x).length)).map (fun (i : Nat) => (i : Int)) = if chk ups = 0 then sel ups.length (fun c => !aheadB ups c) else []) := Lib.hid (by
      rw [HRK.out, HXE.out]
      simp only []
      unfold allW
      by_cases hc : chk ups = 0
      · rw [if_pos hc, if_pos hc, if_pos hc]
        have h6 := (chk_zero.1 hc).six
        rw [bits_full h6, List.length_range, endK_done, list_word h6]
      · simp [hc, bits_zero])
    clear h hrk
    generalize rk (bitsOf x).length = z at *
    have hK4 : w2.heap.size < W'.heap.size := (Array.getElem?_eq_some_iff.1 K4).1
    have HK4 := Lib.hid K4
    clear K4
    go_wp2_with fail
    refine (CL.out _ X5).mono ?_
    rintro e W6 ⟨v6, rfl, R6, X6⟩
    have K6 := (X6.but (fun _ => False)).heap HK4.out id
    have HR6 := Lib.hid R6
    clear R6
    go_wp2
    refine ⟨by simp, .inl ⟨_, _, rfl, run_takeDeferred K6, ?_⟩⟩
    have BD := but_putObj W6 w2.heap.size (.deferred none)
    refine ⟨_, results_tmp rfl _ _ _, ?_⟩
    rw [← HG.out, ← HEQ.out]
    have hs := HS2.out
    exact ⟨v6, rfl, (show RI _ _ _ _ from BD.row HR6.out (fun g hg e => by have := (World.ownsRow.lt HR6.out g hg).1; omega)).lower X5.size, BD.ext (X5.trans X6) (fun i e => by have := E2.size; omega)⟩
end Go.Proofs.YtlalkefbcddbfaaDoor
