/- The document's Merge. -/
import Derived.Test.YtkbbneknblnbnaaEv6
import Derived.Test.YtkbbneknblnbnaaRef01
import Derived.Test.YtkbbneknblnbnaaEvR
namespace Go.Proofs.Ytkbbneknblnbnaa
open Go.RowKit
set_option linter.unusedVariables false
set_option linter.unusedSimpArgs false
set_option maxHeartbeats 4000000
attribute [local go_sem] later_cell later_frozen later_const
theorem BE.set6 {w : World} {b : Nat} {k t o n p c : Int} {u : Value} (h : BE w b k t o n p c u) (x : Value) : BE (w.setCell ⟨b, 6, none⟩ x) b k t o n p c x := by
  have off : ∀ {j : Nat} {q : Value}, j ≠ 6 → w.cell? ⟨b, j, none⟩ = some q → (w.setCell ⟨b, 6, none⟩ x).cell? ⟨b, j, none⟩ = some q := fun hj hq => by
    rw [World.cell?_setCell_other _ _ _ _ (fun e => hj (by cases e; rfl))]; exact hq
  have fz : ∀ {j : Nat}, w.frozen? ⟨b, j, none⟩ = false → (w.setCell ⟨b, 6, none⟩ x).frozen? ⟨b, j, none⟩ = false := fun hq => by rw [World.frozen?_setCell]; exact hq
  exact ⟨off (by decide) h.c0, off (by decide) h.c1, off (by decide) h.c2, off (by decide) h.c3, off (by decide) h.c4, off (by decide) h.c5, World.cell?_setCell_same _ _ _ h.c6, fz h.z0, fz h.z1, fz h.z2, fz h.z3, fz h.z4, fz h.z5, fz h.z6⟩
theorem BE.set3 {w : World} {b : Nat} {k t o n p c : Int} {u : Value} (h : BE w b k t o n p c u) (x : Int) : BE (w.setCell ⟨b, 3, none⟩ (.int .i64 x)) b k t o x p c u := by
  have off : ∀ {j : Nat} {q : Value}, j ≠ 3 → w.cell? ⟨b, j, none⟩ = some q → (w.setCell ⟨b, 3, none⟩ (.int .i64 x)).cell? ⟨b, j, none⟩ = some q := fun hj hq => by
    rw [World.cell?_setCell_other _ _ _ _ (fun e => hj (by cases e; rfl))]; exact hq
  have fz : ∀ {j : Nat}, w.frozen? ⟨b, j, none⟩ = false → (w.setCell ⟨b, 3, none⟩ (.int .i64 x)).frozen? ⟨b, j, none⟩ = false := fun hq => by rw [World.frozen?_setCell]; exact hq
  exact ⟨off (by decide) h.c0, off (by decide) h.c1, off (by decide) h.c2, World.cell?_setCell_same _ _ _ h.c3, off (by decide) h.c4, off (by decide) h.c5, off (by decide) h.c6, fz h.z0, fz h.z1, fz h.z2, fz h.z3, fz h.z4, fz h.z5, fz h.z6⟩
theorem BE.set4 {w : World} {b : Nat} {k t o n p c : Int} {u : Value} (h : BE w b k t o n p c u) (x : Int) : BE (w.setCell ⟨b, 4, none⟩ (.int .u64 x)) b k t o n x c u := by
  have off : ∀ {j : Nat} {q : Value}, j ≠ 4 → w.cell? ⟨b, j, none⟩ = some q → (w.setCell ⟨b, 4, none⟩ (.int .u64 x)).cell? ⟨b, j, none⟩ = some q := fun hj hq => by
    rw [World.cell?_setCell_other _ _ _ _ (fun e => hj (by cases e; rfl))]; exact hq
  have fz : ∀ {j : Nat}, w.frozen? ⟨b, j, none⟩ = false → (w.setCell ⟨b, 4, none⟩ (.int .u64 x)).frozen? ⟨b, j, none⟩ = false := fun hq => by rw [World.frozen?_setCell]; exact hq
  exact ⟨off (by decide) h.c0, off (by decide) h.c1, off (by decide) h.c2, off (by decide) h.c3, World.cell?_setCell_same _ _ _ h.c4, off (by decide) h.c5, off (by decide) h.c6, fz h.z0, fz h.z1, fz h.z2, fz h.z3, fz h.z4, fz h.z5, fz h.z6⟩
theorem TagE.set {w : World} {b c t j : Nat} {v : Value} (h : TagE w b t) : TagE (w.setCell ⟨c, j, none⟩ v) b t := by
  obtain ⟨cur, h⟩ := h
  by_cases e : b = c
  · subst e
    exact ⟨_, heap_setCell_same w b j cur t v h⟩
  · exact ⟨cur, (but_setCell w ⟨c, j, none⟩ v).heap h e⟩
/-- does the event at the place go on? -/
def nx (W : Int) (L : List Ev) (k : Nat) (e : Ev) : Bool := if h : k < L.length then goOn W e L[k] else false
set_option maxRecDepth 100000 in
theorem rMerge32 {B : Nat} (v : Value) (L : List Ev) (w : World) (h : EvsV w B v L) (hBw : B ≤ w.heap.size) (hl : L.length ≤ 900000) (ht : tot L ≤ 900000) : Calls Try.prog 26 #[.int .i64 32, v] w (GivesR w (merged 32 L)) := by
  obtain ⟨a, cap, e, hm, f⟩ := h.get3
  subst e
  have HA := Lib.hid f
  have HT := Lib.hid (fun e (he : e ∈ L) => Nat.le_trans (tot_mem he) ht)
  have HG : Hid (∀ v w', RE w' w.heap.size v (merged 32 (L.take L.length)) → Ext w w' → GivesR w (merged 32 L) (.returned v) w') := Lib.hid (fun v w' h1 h2 => ⟨v, rfl, by rwa [List.take_length] at h1, h2⟩)
  have HS := Lib.hid (fun k hk => mrun_snoc 32 (L := L) (k := k) hk)
  have HTT := Lib.hid (fun k => Nat.le_trans (merged_take_tot 32 L k) ht)
  have HLL := Lib.hid (fun k => Nat.le_trans (merged_take_len 32 L k) hl)
  generalize GivesR w (merged 32 L) = G at *
  clear h f ht
  go_enter Try.func26, Try.ntmps26
  go_wp2
  go_loopw [5, 6] (fun v i wr => ∃ k : Nat, k ≤ L.length ∧ i = .int .i64 k ∧ RE wr w.heap.size v (merged 32 (L.take k)) ∧ Ext w wr ∧ Hid (∀ hk : k < L.length, mrun 32 (L.take (k + 1)) = (merged 32 (L.take k), some L[k]))) (fun _ i _ => L.length - (intOf i).toNat)
  case atStart => exact ⟨0, Nat.zero_le _, rfl, by rw [List.take_zero]; exact RE.nil _ _, Ext.refl _, Lib.hid fun hk => by rw [HS.out 0 hk, List.take_zero]; rfl⟩
  case round =>
    obtain ⟨k, hk, rfl, hR, hx, HI⟩ := hrel
    by_cases hlt : k < L.length
    case neg =>
      obtain rfl : k = L.length := by omega
      have HG2 := Lib.hid (HG.out _ wr hR hx)
      clear hR hx
      go_wp2
      exact HG2.out
    have hlt' : (k : Int) < (L.length : Int) := by omega
    obtain ⟨b, off, u, ea, A⟩ := HA.out wr hx k hlt
    subst ea
    have hdl := HT.out L[k] (List.getElem_mem hlt)
    obtain ⟨ua, uc, eu⟩ := A.d.len
    have hi2 := HI.out hlt
    generalize hxk : L[k] = x at *
    have HXK := Lib.hid hxk
    generalize hul : x.d.length = ul at eu
    subst eu
    have HUL := Lib.hid hul
    have HI2 := Lib.hid hi2
    have HR := Lib.hid hR
    have HX := Lib.hid hx
    have HAD := Lib.hid A.d
    have HDL := Lib.hid hdl
    obtain ⟨c0, c1, c2, c3, c4, c5, c6, -⟩ := A
    clear hR hx hdl hi2 hul hxk HI
    go_upto_region 5 with (fail)
    refine settle_wp ?_
    intro wA hbA
    have XA : Ext wr wA := Ext.trans (by repeat (first | with_reducible exact Ext.refl _ | with_reducible assumption | with_reducible refine Ext.alloc ?_ _ | with_reducible refine Ext.drew ?_ | with_reducible refine Ext.drewN ?_ _ | with_reducible refine Ext.setCell ?_ (by simp <;> omega) _ | with_reducible refine Ext.trans ?_ (by assumption))) hbA
    have TA : TagE wA wr.heap.size 31 := ⟨_, (hbA.but (fun _ => False)).heap (World.alloc_heap_new wr _) id⟩
    have HBE := Lib.hid ((BE.of (World.alloc_heap_new wr _)).ext hbA : BE wA wr.heap.size x.k x.t x.o x.n x.p x.c (.slice ua ul uc))
    have HTA := Lib.hid TA
    have HXA := Lib.hid XA
    have HDA := Lib.hid (HAD.out.ext XA)
    replace c6 := XA.cell c6
    have hb6 := World.block_lt_of_cell? wA ⟨b, off + k * 7 + 6, none⟩ c6
    have qz := HBE.out.c6
    have yz := HBE.out.z6
    clear hbA TA XA c0 c1 c2 c3 c4 c5 HAD
    obtain ⟨wo, hwo⟩ : ∃ wo, wo = wr := ⟨_, rfl⟩
    subst hwo
    have RE0 := Lib.hid (World.ownsRow_made wA #[] 0 (base := wo.heap.size) (e := 3) (size := 1) HXA.out.size (by unfold maxLen; omega) rfl : RJ (wA.alloc (.cells #[] 3)) wo.heap.size (.slice (some ⟨wA.heap.size, 0, none⟩) 0 0) [])
    go_wp2_with (at_builtin; refine appJ _ rfl _ _ rfl wo.heap.size (.slice (some ⟨wA.heap.size, 0, none⟩) 0 0) [] rfl RE0.out (by have := HXA.out.size; simp; omega) (.slice ua ul uc) x.d rfl (HDA.out.ext ((Ext.refl wA).alloc _)) (by have := HDL.out; simp; omega) ?_)
    intro v1 w1 R1 G1 at1
    obtain ⟨a1, n1, e1⟩ := (R1.dat (B' := 0)).len
    subst e1
    have B1 := but_grown G1
    have nb1 : ¬ (some wA.heap.size = some wo.heap.size) := fun e => by
      have h1 := HTA.out.lt
      have e2 : wA.heap.size = wo.heap.size := by simpa using e
      omega
    have E1 := (HBE.out.ext ((Ext.refl wA).alloc (.cells #[] 3))).but B1 nb1
    have T1 := (HTA.out.ext ((Ext.refl wA).alloc (.cells #[] 3))).but B1 nb1
    have q1 := E1.c6
    have y1 := E1.z6
    have nv1 : ∀ g, (Value.slice a1 ([] ++ x.d).length n1).ownBlock = some g → g ≠ wo.heap.size := fun g hg => (row_tagE R1 hg).ne T1 (by decide)
    have HE1 := Lib.hid (E1.set6 (.slice a1 ([] ++ x.d).length n1))
    have HT1 := Lib.hid (T1.set (c := wo.heap.size) (j := 6) (v := .slice a1 ([] ++ x.d).length n1))
    have HR1 := Lib.hid (R1.set (b := wo.heap.size) (j := 6) (x := .slice a1 ([] ++ x.d).length n1) nv1)
    have HX1 := Lib.hid (((HXA.out.alloc (.cells #[] 3)).grown G1 (fun q hq => by cases hq; exact HXA.out.size)).setCell (p := ⟨wo.heap.size, 6, none⟩) (Nat.le_refl _) (.slice a1 ([] ++ x.d).length n1))
    rw [List.nil_append] at HE1 HT1 HR1 HX1
    simp only [List.nil_append] at *
    clear E1 T1 R1 G1 at1 B1 nb1 nv1 RE0 qz yz c6
    generalize hn2 : x.d.length = N1 at *
    have HN2 := Lib.hid hn2
    clear hn2
    go_wp2
    go_loopw [6] (fun i wr => ∃ (k2 : Nat) (e : Ev) (u : Value), k < k2 ∧ k2 ≤ L.length ∧ i = .int .i64 k2 ∧ Hid (mrun 32 (L.take k2) = (merged 32 (L.take k), some e)) ∧ BE wr wo.heap.size e.k e.t e.o e.n e.p e.c u ∧ TagE wr wo.heap.size 31 ∧ RJ wr wo.heap.size u e.d ∧ Ext wo wr) (fun i _ => L.length - (intOf i).toNat)
    case atStart => exact ⟨k + 1, x, _, by omega, by omega, by go_num, HI2, HE1.out, HT1.out, HR1.out, HX1.out⟩
    case round =>
      obtain ⟨k2, e, u, hk2, hkn, rfl, HM2, hE, hT, hJ, hX⟩ := hrel
      obtain ⟨ea, ec, eu⟩ := (hJ.dat (B' := 0)).len
      generalize hel : e.d.length = el at eu
      subst eu
      have HEL := Lib.hid hel
      have HE := Lib.hid hE
      have HTG := Lib.hid hT
      have HJ := Lib.hid hJ
      have HX2 := Lib.hid hX
      obtain ⟨q0, q1, q2, q3, q4, q5, q6, -, -, -, -, -, -, -⟩ := hE
      clear hT hJ hX hel HE1 HT1 HR1 HX1
      go_upto_region 7 with (fail)
      go_cut [66] from 26 to 86 (fun c wx => c = .bool (nx 32 L k2 e) ∧ Ext wr wx)
      case first =>
        by_cases h2 : k2 < L.length
        case neg =>
          have hnx : nx 32 L k2 e = false := dif_neg h2
          have h2' : ¬ (k2 : Int) < (L.length : Int) := by omega
          refine wp_region_later (by kernel_rfl) (by kernel_rfl) ?_
          have l0 := fun (g : Later wr) => g.ok.cell q0
          have l1 := fun (g : Later wr) => g.ok.cell q1
          have l2 := fun (g : Later wr) => g.ok.cell q2
          have l3 := fun (g : Later wr) => g.ok.cell q3
          have l4 := fun (g : Later wr) => g.ok.cell q4
          have l5 := fun (g : Later wr) => g.ok.cell q5
          have l6 := fun (g : Later wr) => g.ok.cell q6
          repeat (go_big_quiet_step ((fail)))
          refine wpQuiet_nil ?_
          intro w6 hl6
          have X6 := laters_ext hl6
          clear hl6 l0 l1 l2 l3 l4 l5 l6
          go_wp2_with fail
          go_meet
          exact ⟨by rw [hnx], X6⟩
        have h2' : (k2 : Int) < (L.length : Int) := by omega
        have hnx : nx 32 L k2 e = goOn 32 e L[k2] := dif_pos h2
        obtain ⟨b', off', u', ea', A'⟩ := HA.out wr (HX.out.trans HX2.out) k2 h2
        cases ea'
        obtain ⟨d0, d1, d2, d3, d4, d5, d6, -⟩ := A'
        generalize L[k2] = y at *
        by_cases g0 : e.k = 5
        case neg =>
          have e0 : (e.k == 5) = false := by simpa using g0
          rw [show goOn 32 e y = false by unfold goOn; rw [decide_eq_false g0]; rfl] at hnx
          refine wp_region_later (by kernel_rfl) (by kernel_rfl) ?_
          have l0 := fun (g : Later wr) => g.ok.cell q0
          have l1 := fun (g : Later wr) => g.ok.cell q1
          have l2 := fun (g : Later wr) => g.ok.cell q2
          have l3 := fun (g : Later wr) => g.ok.cell q3
          have l4 := fun (g : Later wr) => g.ok.cell q4
          have l5 := fun (g : Later wr) => g.ok.cell q5
          have l6 := fun (g : Later wr) => g.ok.cell q6
          have m0 := fun (g : Later wr) => g.ok.cell d0
          have m1 := fun (g : Later wr) => g.ok.cell d1
          have m2 := fun (g : Later wr) => g.ok.cell d2
          have m3 := fun (g : Later wr) => g.ok.cell d3
          have m4 := fun (g : Later wr) => g.ok.cell d4
          have m5 := fun (g : Later wr) => g.ok.cell d5
          have m6 := fun (g : Later wr) => g.ok.cell d6
          repeat (go_big_quiet_step ((fail)))
          refine wpQuiet_nil ?_
          intro w6 hl6
          have X6 := laters_ext hl6
          clear hl6 l0 l1 l2 l3 l4 l5 l6 m0 m1 m2 m3 m4 m5 m6
          go_wp2_with fail
          go_meet
          exact ⟨by rw [hnx], X6⟩
        have e0 : (e.k == 5) = true := by simpa using g0
        by_cases g1 : y.k = 5
        case neg =>
          have e1 : (y.k == 5) = false := by simpa using g1
          rw [show goOn 32 e y = false by unfold goOn; rw [decide_eq_false g1]; simp] at hnx
          refine wp_region_later (by kernel_rfl) (by kernel_rfl) ?_
          have l0 := fun (g : Later wr) => g.ok.cell q0
          have l1 := fun (g : Later wr) => g.ok.cell q1
          have l2 := fun (g : Later wr) => g.ok.cell q2
          have l3 := fun (g : Later wr) => g.ok.cell q3
          have l4 := fun (g : Later wr) => g.ok.cell q4
          have l5 := fun (g : Later wr) => g.ok.cell q5
          have l6 := fun (g : Later wr) => g.ok.cell q6
          have m0 := fun (g : Later wr) => g.ok.cell d0
          have m1 := fun (g : Later wr) => g.ok.cell d1
          have m2 := fun (g : Later wr) => g.ok.cell d2
          have m3 := fun (g : Later wr) => g.ok.cell d3
          have m4 := fun (g : Later wr) => g.ok.cell d4
          have m5 := fun (g : Later wr) => g.ok.cell d5
          have m6 := fun (g : Later wr) => g.ok.cell d6
          repeat (go_big_quiet_step ((fail)))
          refine wpQuiet_nil ?_
          intro w6 hl6
          have X6 := laters_ext hl6
          clear hl6 l0 l1 l2 l3 l4 l5 l6 m0 m1 m2 m3 m4 m5 m6
          go_wp2_with fail
          go_meet
          exact ⟨by rw [hnx], X6⟩
        have e1 : (y.k == 5) = true := by simpa using g1
        by_cases g2 : e.t = y.t
        case neg =>
          have e2 : (y.t == e.t) = false := by simpa using Ne.symm g2
          rw [show goOn 32 e y = false by unfold goOn; rw [decide_eq_false g2]; simp] at hnx
          refine wp_region_later (by kernel_rfl) (by kernel_rfl) ?_
          have l0 := fun (g : Later wr) => g.ok.cell q0
          have l1 := fun (g : Later wr) => g.ok.cell q1
          have l2 := fun (g : Later wr) => g.ok.cell q2
          have l3 := fun (g : Later wr) => g.ok.cell q3
          have l4 := fun (g : Later wr) => g.ok.cell q4
          have l5 := fun (g : Later wr) => g.ok.cell q5
          have l6 := fun (g : Later wr) => g.ok.cell q6
          have m0 := fun (g : Later wr) => g.ok.cell d0
          have m1 := fun (g : Later wr) => g.ok.cell d1
          have m2 := fun (g : Later wr) => g.ok.cell d2
          have m3 := fun (g : Later wr) => g.ok.cell d3
          have m4 := fun (g : Later wr) => g.ok.cell d4
          have m5 := fun (g : Later wr) => g.ok.cell d5
          have m6 := fun (g : Later wr) => g.ok.cell d6
          repeat (go_big_quiet_step ((fail)))
          refine wpQuiet_nil ?_
          intro w6 hl6
          have X6 := laters_ext hl6
          clear hl6 l0 l1 l2 l3 l4 l5 l6 m0 m1 m2 m3 m4 m5 m6
          go_wp2_with fail
          go_meet
          exact ⟨by rw [hnx], X6⟩
        have e2 : (y.t == e.t) = true := by simpa using g2.symm
        have CP := Lib.hid (fun w => rPlus_32 e.p e.n w)
        have hgo : goOn 32 e y = (y.p == plusW 32 e.p e.n) := by
          unfold goOn
          rw [decide_eq_true g0, decide_eq_true g1, decide_eq_true g2]
          simp only [Bool.true_and]
          exact (by simp [BEq.beq])
        rw [hgo] at hnx
        rw [show (((e.p + e.n) % 4294967296)) = plusW 32 e.p e.n by rfl] at CP
        generalize plusW 32 e.p e.n = z at *
        cases hb : (y.p == z)
        case false =>
          rw [hb] at hnx
          refine wp_region_later (by kernel_rfl) (by kernel_rfl) ?_
          have l0 := fun (g : Later wr) => g.ok.cell q0
          have l1 := fun (g : Later wr) => g.ok.cell q1
          have l2 := fun (g : Later wr) => g.ok.cell q2
          have l3 := fun (g : Later wr) => g.ok.cell q3
          have l4 := fun (g : Later wr) => g.ok.cell q4
          have l5 := fun (g : Later wr) => g.ok.cell q5
          have l6 := fun (g : Later wr) => g.ok.cell q6
          have m0 := fun (g : Later wr) => g.ok.cell d0
          have m1 := fun (g : Later wr) => g.ok.cell d1
          have m2 := fun (g : Later wr) => g.ok.cell d2
          have m3 := fun (g : Later wr) => g.ok.cell d3
          have m4 := fun (g : Later wr) => g.ok.cell d4
          have m5 := fun (g : Later wr) => g.ok.cell d5
          have m6 := fun (g : Later wr) => g.ok.cell d6
          repeat (go_big_quiet_step ((fail)))
          go_big_quiet_step ((go_at_call 47; exact laterS (CP.out _)))
          repeat (go_big_quiet_step ((fail)))
          refine wpQuiet_nil ?_
          intro w6 hl6
          have X6 := laters_ext hl6
          clear hl6 l0 l1 l2 l3 l4 l5 l6 m0 m1 m2 m3 m4 m5 m6
          go_wp2_with fail
          go_meet
          exact ⟨by rw [hnx], X6⟩
        case true =>
          rw [hb] at hnx
          refine wp_region_later (by kernel_rfl) (by kernel_rfl) ?_
          have l0 := fun (g : Later wr) => g.ok.cell q0
          have l1 := fun (g : Later wr) => g.ok.cell q1
          have l2 := fun (g : Later wr) => g.ok.cell q2
          have l3 := fun (g : Later wr) => g.ok.cell q3
          have l4 := fun (g : Later wr) => g.ok.cell q4
          have l5 := fun (g : Later wr) => g.ok.cell q5
          have l6 := fun (g : Later wr) => g.ok.cell q6
          have m0 := fun (g : Later wr) => g.ok.cell d0
          have m1 := fun (g : Later wr) => g.ok.cell d1
          have m2 := fun (g : Later wr) => g.ok.cell d2
          have m3 := fun (g : Later wr) => g.ok.cell d3
          have m4 := fun (g : Later wr) => g.ok.cell d4
          have m5 := fun (g : Later wr) => g.ok.cell d5
          have m6 := fun (g : Later wr) => g.ok.cell d6
          repeat (go_big_quiet_step ((fail)))
          go_big_quiet_step ((go_at_call 47; exact laterS (CP.out _)))
          repeat (go_big_quiet_step ((fail)))
          refine wpQuiet_nil ?_
          intro w6 hl6
          have X6 := laters_ext hl6
          clear hl6 l0 l1 l2 l3 l4 l5 l6 m0 m1 m2 m3 m4 m5 m6
          go_wp2_with fail
          go_meet
          exact ⟨by rw [hnx], X6⟩
      case rest =>
        obtain ⟨hc1, hx7⟩ := hcut
        cases hc1
        have HXc := Lib.hid (HX2.out.trans hx7)
        have HEc := Lib.hid (HE.out.ext hx7)
        have HTc := Lib.hid (HTG.out.ext hx7)
        have HJc := Lib.hid (HJ.out.ext hx7)
        clear hx7 HE HTG HJ q0 q1 q2 q3 q4 q5 q6 HX2
        have hme : merged 32 (L.take k2) = merged 32 (L.take k) ++ [e] := by
          show outM (mrun 32 (L.take k2)) = _
          rw [HM2.out]
          rfl
        cases hnb : nx 32 L k2 e
        case false =>
          have HI3 : Hid (∀ hk : k2 < L.length, mrun 32 (L.take (k2 + 1)) = (merged 32 (L.take k2), some L[k2])) := Lib.hid (fun hk => by
            rw [HS.out k2 hk, HM2.out, hme]
            refine mst_no ?_
            rw [← dif_pos (t := fun h : k2 < L.length => goOn 32 e L[k2]) (e := fun _ => false) hk]
            intro hh
            rw [show nx 32 L k2 e = true from hh] at hnb
            cases hnb)
          have HME := Lib.hid hme
          have hll := HLL.out k
          clear hme hnb
          obtain ⟨q0, q1, q2, q3, q4, q5, q6, -, -, -, -, -, -, -⟩ := HEc.out
          have HDe := Lib.hid (HJc.out.dat (B' := w.heap.size))
          have hsz := (HX.out.trans HXc.out).size
          go_wp2_with (at_builtin; refine appE _ rfl _ _ rfl w.heap.size u5 (merged 32 (L.take k)) rfl ((HR.out.ext HXc.out).ext ((Ext.refl wc).alloc _)) (by simp; omega) wc.heap.size e (.slice ea el ec) rfl (at_new HDe.out) hll ?_)
          intro v9 w9 R9 G9 _
          have HX9 := Lib.hid (((HX.out.trans HXc.out).alloc _).grown G9 (fun q hq => (HR.out.lt hq).1))
          have HR9 := Lib.hid R9
          clear R9 G9 q0 q1 q2 q3 q4 q5 q6 hsz
          go_wp2
          exact ⟨⟨k2, by omega, rfl, by rw [HME.out]; exact HR9.out, HX9.out, HI3⟩, by simp [intOf]; omega⟩
        case true =>
          have h2 : k2 < L.length := by
            by_cases h : k2 < L.length
            · exact h
            · rw [show nx 32 L k2 e = false from dif_neg h] at hnb; cases hnb
          have hgo : goOn 32 e L[k2] = true := by rw [show nx 32 L k2 e = goOn 32 e L[k2] from dif_pos h2] at hnb; exact hnb
          obtain ⟨b', off', u', ea', A0⟩ := HA.out wo HX.out k2 h2
          cases ea'
          obtain ⟨ya, yc, eyu⟩ := A0.d.len
          have hms : mrun 32 (L.take (k2 + 1)) = (merged 32 (L.take k), some (addE e L[k2])) := by rw [HS.out k2 h2, HM2.out]; exact mst_yes hgo
          have hdt : e.d.length + L[k2].d.length ≤ 900000 := by
            have := HTT.out (k2 + 1)
            have e3 : merged 32 (L.take (k2 + 1)) = merged 32 (L.take k) ++ [addE e L[k2]] := by
              show outM (mrun 32 (L.take (k2 + 1))) = _
              rw [hms]
              rfl
            rw [e3, tot_app, tot_one] at this
            simp [addE] at this
            omega
          have h2' : (k2 : Int) < (L.length : Int) := by omega
          clear hnb hgo hme
          generalize L[k2] = y at *
          generalize hyl : y.d.length = yl at *
          subst eyu
          have HYL := Lib.hid hyl
          have HMS := Lib.hid hms
          have HDT := Lib.hid hdt
          have HA0 := Lib.hid A0
          clear hyl hms hdt A0 HM2
          have F3 := fun w' (hx : Ext wc w') => hx.cell HEc.out.c3
          have FQ := fun w' (hx : Ext wc w') => hx.cell (HA0.out.ext HXc.out).c3
          have q3 : wc.drew.cell? ⟨wo.heap.size, 3, none⟩ = some (.int .i64 e.n) := HEc.out.c3
          have z3 : wc.drew.frozen? ⟨wo.heap.size, 3, none⟩ = false := HEc.out.z3
          go_wp2_with fail
          refine wp_region_D (fun i => decide (i ≤ 8)) (by kernel_rfl) ?_
          refine take_D (i := 0) (v := ?_) rfl rfl rfl (by kernel_rfl) (by kernel_rfl) (by kernel_rfl) (by kernel_rfl) (by kernel_rfl) ((Ext.refl wc).drew) ?hyp ?_
          case hyp => intro wz hSw; (try dsimp only at hSw); go_simp <;> with_reducible rfl
          simp only [List.setIfInBounds_toArray, List.set_cons_zero, List.set_cons_succ]
          refine take_D (i := 1) (v := ?_) rfl rfl rfl (by kernel_rfl) (by kernel_rfl) (by kernel_rfl) (by kernel_rfl) (by kernel_rfl) ((Ext.refl wc).drew) ?hyp ?_
          case hyp => intro wz hSw; (try dsimp only at hSw); go_simp <;> with_reducible rfl
          simp only [List.setIfInBounds_toArray, List.set_cons_zero, List.set_cons_succ]
          refine take_D (i := 2) (v := ?_) rfl rfl rfl (by kernel_rfl) (by kernel_rfl) (by kernel_rfl) (by kernel_rfl) (by kernel_rfl) ((Ext.refl wc).drew) ?hyp ?_
          case hyp => intro wz hSw; (try dsimp only at hSw); go_simp <;> with_reducible rfl
          simp only [List.setIfInBounds_toArray, List.set_cons_zero, List.set_cons_succ]
          refine take_D (i := 3) (v := ?_) rfl rfl rfl (by kernel_rfl) (by kernel_rfl) (by kernel_rfl) (by kernel_rfl) (by kernel_rfl) ((Ext.refl wc).drew) ?hyp ?_
          case hyp => intro wz hSw; (try dsimp only at hSw); go_simp <;> with_reducible rfl
          simp only [List.setIfInBounds_toArray, List.set_cons_zero, List.set_cons_succ]
          refine take_D (i := 4) (v := ?_) rfl rfl rfl (by kernel_rfl) (by kernel_rfl) (by kernel_rfl) (by kernel_rfl) (by kernel_rfl) ((Ext.refl wc).drew) ?hyp ?_
          case hyp => intro wz hSw; (try dsimp only at hSw); go_simp <;> with_reducible rfl
          simp only [List.setIfInBounds_toArray, List.set_cons_zero, List.set_cons_succ]
          refine take_D (i := 5) (v := ?_) rfl rfl rfl (by kernel_rfl) (by kernel_rfl) (by kernel_rfl) (by kernel_rfl) (by kernel_rfl) ((Ext.refl wc).drew) ?hyp ?_
          case hyp => intro wz hSw; (try dsimp only at hSw); go_simp <;> with_reducible rfl
          simp only [List.setIfInBounds_toArray, List.set_cons_zero, List.set_cons_succ]
          refine take_D (i := 6) (v := ?_) rfl rfl rfl (by kernel_rfl) (by kernel_rfl) (by kernel_rfl) (by kernel_rfl) (by kernel_rfl) ((Ext.refl wc).drew) ?hyp ?_
          case hyp => intro wz hSw; (try dsimp only at hSw); go_simp <;> with_reducible rfl
          simp only [List.setIfInBounds_toArray, List.set_cons_zero, List.set_cons_succ]
          refine take_D (i := 7) (v := ?_) rfl rfl rfl (by kernel_rfl) (by kernel_rfl) (by kernel_rfl) (by kernel_rfl) (by kernel_rfl) ((Ext.refl wc).drew) ?hyp ?_
          case hyp => intro wz hSw; (try dsimp only at hSw); go_simp <;> with_reducible rfl
          simp only [List.setIfInBounds_toArray, List.set_cons_zero, List.set_cons_succ]
          refine take_D (i := 8) (v := ?_) rfl rfl rfl (by kernel_rfl) (by kernel_rfl) (by kernel_rfl) (by kernel_rfl) (by kernel_rfl) ((Ext.refl wc).drew) ?hyp ?_
          case hyp => intro wz hSw; (try dsimp only at hSw); go_simp <;> with_reducible rfl
          simp only [List.setIfInBounds_toArray, List.set_cons_zero, List.set_cons_succ]
          refine rest_D (n := 9) rfl rfl (fun j hj => by simp; omega) (by kernel_rfl) ?_
          go_wp2
          refine off_normal ?_
          rw [wrapI64]
          rw [show (wc.setCell ⟨wo.heap.size, 3, none⟩ (.int .i64 (D64 (e.n + y.n)))).drew = wc.drew.setCell ⟨wo.heap.size, 3, none⟩ (.int .i64 (D64 (e.n + y.n))) from rfl]
          have nv : ∀ g, (Value.slice ea el ec).ownBlock = some g → g ≠ wo.heap.size := fun g hg => (row_tagE HJc.out hg).ne HTc.out (by decide)
          have HE8 := Lib.hid ((HEc.out.ext ((Ext.refl wc).drew)).set3 (D64 (e.n + y.n)))
          have HT8 := Lib.hid ((HTc.out.ext ((Ext.refl wc).drew)).set (c := wo.heap.size) (j := 3) (v := .int .i64 (D64 (e.n + y.n))))
          have HJ8 := Lib.hid ((HJc.out.ext ((Ext.refl wc).drew)).set (b := wo.heap.size) (j := 3) (x := .int .i64 (D64 (e.n + y.n))) nv)
          have HX8 := Lib.hid ((HXc.out.drew).setCell (p := ⟨wo.heap.size, 3, none⟩) (Nat.le_refl _) (.int .i64 (D64 (e.n + y.n))))
          clear F3 FQ q3 z3 nv HEc HTc HJc HXc
          generalize wc.drew.setCell ⟨wo.heap.size, 3, none⟩ (.int .i64 (D64 (e.n + y.n))) = w8 at *
          have F6 := fun w' (hx : Ext w8 w') => hx.cell HE8.out.c6
          have FQ := fun w' (hx : Ext w8 w') => hx.cell (HA0.out.ext HX8.out).c6
          go_wp2_with fail
          refine wp_region_D (fun i => decide (i ≤ 6)) (by kernel_rfl) ?_
          refine take_D (i := 0) (v := ?_) rfl rfl rfl (by kernel_rfl) (by kernel_rfl) (by kernel_rfl) (by kernel_rfl) (by kernel_rfl) ((Ext.refl w8).drew) ?hyp ?_
          case hyp => intro wz hSw; (try dsimp only at hSw); go_simp <;> with_reducible rfl
          simp only [List.setIfInBounds_toArray, List.set_cons_zero, List.set_cons_succ]
          refine take_D (i := 1) (v := ?_) rfl rfl rfl (by kernel_rfl) (by kernel_rfl) (by kernel_rfl) (by kernel_rfl) (by kernel_rfl) ((Ext.refl w8).drew) ?hyp ?_
          case hyp => intro wz hSw; (try dsimp only at hSw); go_simp <;> with_reducible rfl
          simp only [List.setIfInBounds_toArray, List.set_cons_zero, List.set_cons_succ]
          refine take_D (i := 2) (v := ?_) rfl rfl rfl (by kernel_rfl) (by kernel_rfl) (by kernel_rfl) (by kernel_rfl) (by kernel_rfl) ((Ext.refl w8).drew) ?hyp ?_
          case hyp => intro wz hSw; (try dsimp only at hSw); go_simp <;> with_reducible rfl
          simp only [List.setIfInBounds_toArray, List.set_cons_zero, List.set_cons_succ]
          refine take_D (i := 3) (v := ?_) rfl rfl rfl (by kernel_rfl) (by kernel_rfl) (by kernel_rfl) (by kernel_rfl) (by kernel_rfl) ((Ext.refl w8).drew) ?hyp ?_
          case hyp => intro wz hSw; (try dsimp only at hSw); go_simp <;> with_reducible rfl
          simp only [List.setIfInBounds_toArray, List.set_cons_zero, List.set_cons_succ]
          refine take_D (i := 4) (v := ?_) rfl rfl rfl (by kernel_rfl) (by kernel_rfl) (by kernel_rfl) (by kernel_rfl) (by kernel_rfl) ((Ext.refl w8).drew) ?hyp ?_
          case hyp => intro wz hSw; (try dsimp only at hSw); go_simp <;> with_reducible rfl
          simp only [List.setIfInBounds_toArray, List.set_cons_zero, List.set_cons_succ]
          refine take_D (i := 5) (v := ?_) rfl rfl rfl (by kernel_rfl) (by kernel_rfl) (by kernel_rfl) (by kernel_rfl) (by kernel_rfl) ((Ext.refl w8).drew) ?hyp ?_
          case hyp => intro wz hSw; (try dsimp only at hSw); go_simp <;> with_reducible rfl
          simp only [List.setIfInBounds_toArray, List.set_cons_zero, List.set_cons_succ]
          refine take_D (i := 6) (v := ?_) rfl rfl rfl (by kernel_rfl) (by kernel_rfl) (by kernel_rfl) (by kernel_rfl) (by kernel_rfl) ((Ext.refl w8).drew) ?hyp ?_
          case hyp => intro wz hSw; (try dsimp only at hSw); go_simp <;> with_reducible rfl
          simp only [List.setIfInBounds_toArray, List.set_cons_zero, List.set_cons_succ]
          refine rest_D (n := 7) rfl rfl (fun j hj => by simp; omega) (by kernel_rfl) ?_
          refine appJ _ rfl _ _ rfl wo.heap.size (.slice ea el ec) e.d rfl (HJ8.out.ext ((Ext.refl w8).drew)) (Nat.le_trans HX8.out.size (Nat.le_refl _)) (.slice ya yl yc) y.d rfl ((HA0.out.d.ext HX8.out).ext ((Ext.refl w8).drew)) (by have := HDT.out; have := HYL.out; omega) ?_
          intro v9 w9 R9 G9 at9
          obtain ⟨a9, n9, e9⟩ := (R9.dat (B' := 0)).len
          subst e9
          have B9 := but_grown G9
          have nb9 : ¬ ((Value.slice ea el ec).ownBlock = some wo.heap.size) := fun hh => (row_tagE HJ8.out hh).ne HT8.out (by decide) rfl
          have E9 := (HE8.out.ext ((Ext.refl w8).drew)).but B9 nb9
          have T9 := (HT8.out.ext ((Ext.refl w8).drew)).but B9 nb9
          have q6 := E9.c6
          have z6 := E9.z6
          have nv9 : ∀ g, (Value.slice a9 (e.d ++ y.d).length n9).ownBlock = some g → g ≠ wo.heap.size := fun g hg => (row_tagE R9 hg).ne T9 (by decide)
          have HE9 := Lib.hid (E9.set6 (.slice a9 (e.d ++ y.d).length n9))
          have HT9 := Lib.hid (T9.set (c := wo.heap.size) (j := 6) (v := .slice a9 (e.d ++ y.d).length n9))
          have HR9 := Lib.hid (R9.set (b := wo.heap.size) (j := 6) (x := .slice a9 (e.d ++ y.d).length n9) nv9)
          have HX9 := Lib.hid ((((HX8.out.drew)).grown G9 (fun q hq => (World.ownsRow.lt HJ8.out q hq).1)).setCell (p := ⟨wo.heap.size, 6, none⟩) (Nat.le_refl _) (.slice a9 (e.d ++ y.d).length n9))
          clear E9 T9 R9 G9 at9 B9 nb9 nv9 F6 FQ HE8 HT8 HJ8 HX8
          generalize (e.d ++ y.d).length = N9 at *
          go_wp2
          refine off_normal ?_
          go_wp2
          exact ⟨⟨k2 + 1, addE e y, _, by omega, by omega, by go_num, HMS, HE9.out, HT9.out, HR9.out, HX9.out⟩, by simp [intOf]; omega⟩
set_option maxRecDepth 100000 in
theorem rMerge64 {B : Nat} (v : Value) (L : List Ev) (w : World) (h : EvsV w B v L) (hBw : B ≤ w.heap.size) (hl : L.length ≤ 900000) (ht : tot L ≤ 900000) : Calls Try.prog 26 #[.int .i64 64, v] w (GivesR w (merged 64 L)) := by
  obtain ⟨a, cap, e, hm, f⟩ := h.get3
  subst e
  have HA := Lib.hid f
  have HT := Lib.hid (fun e (he : e ∈ L) => Nat.le_trans (tot_mem he) ht)
  have HG : Hid (∀ v w', RE w' w.heap.size v (merged 64 (L.take L.length)) → Ext w w' → GivesR w (merged 64 L) (.returned v) w') := Lib.hid (fun v w' h1 h2 => ⟨v, rfl, by rwa [List.take_length] at h1, h2⟩)
  have HS := Lib.hid (fun k hk => mrun_snoc 64 (L := L) (k := k) hk)
  have HTT := Lib.hid (fun k => Nat.le_trans (merged_take_tot 64 L k) ht)
  have HLL := Lib.hid (fun k => Nat.le_trans (merged_take_len 64 L k) hl)
  generalize GivesR w (merged 64 L) = G at *
  clear h f ht
  go_enter Try.func26, Try.ntmps26
  go_wp2
  go_loopw [5, 6] (fun v i wr => ∃ k : Nat, k ≤ L.length ∧ i = .int .i64 k ∧ RE wr w.heap.size v (merged 64 (L.take k)) ∧ Ext w wr ∧ Hid (∀ hk : k < L.length, mrun 64 (L.take (k + 1)) = (merged 64 (L.take k), some L[k]))) (fun _ i _ => L.length - (intOf i).toNat)
  case atStart => exact ⟨0, Nat.zero_le _, rfl, by rw [List.take_zero]; exact RE.nil _ _, Ext.refl _, Lib.hid fun hk => by rw [HS.out 0 hk, List.take_zero]; rfl⟩
  case round =>
    obtain ⟨k, hk, rfl, hR, hx, HI⟩ := hrel
    by_cases hlt : k < L.length
    case neg =>
      obtain rfl : k = L.length := by omega
      have HG2 := Lib.hid (HG.out _ wr hR hx)
      clear hR hx
      go_wp2
      exact HG2.out
    have hlt' : (k : Int) < (L.length : Int) := by omega
    obtain ⟨b, off, u, ea, A⟩ := HA.out wr hx k hlt
    subst ea
    have hdl := HT.out L[k] (List.getElem_mem hlt)
    obtain ⟨ua, uc, eu⟩ := A.d.len
    have hi2 := HI.out hlt
    generalize hxk : L[k] = x at *
    have HXK := Lib.hid hxk
    generalize hul : x.d.length = ul at eu
    subst eu
    have HUL := Lib.hid hul
    have HI2 := Lib.hid hi2
    have HR := Lib.hid hR
    have HX := Lib.hid hx
    have HAD := Lib.hid A.d
    have HDL := Lib.hid hdl
    obtain ⟨c0, c1, c2, c3, c4, c5, c6, -⟩ := A
    clear hR hx hdl hi2 hul hxk HI
    go_upto_region 5 with (fail)
    refine settle_wp ?_
    intro wA hbA
    have XA : Ext wr wA := Ext.trans (by repeat (first | with_reducible exact Ext.refl _ | with_reducible assumption | with_reducible refine Ext.alloc ?_ _ | with_reducible refine Ext.drew ?_ | with_reducible refine Ext.drewN ?_ _ | with_reducible refine Ext.setCell ?_ (by simp <;> omega) _ | with_reducible refine Ext.trans ?_ (by assumption))) hbA
    have TA : TagE wA wr.heap.size 31 := ⟨_, (hbA.but (fun _ => False)).heap (World.alloc_heap_new wr _) id⟩
    have HBE := Lib.hid ((BE.of (World.alloc_heap_new wr _)).ext hbA : BE wA wr.heap.size x.k x.t x.o x.n x.p x.c (.slice ua ul uc))
    have HTA := Lib.hid TA
    have HXA := Lib.hid XA
    have HDA := Lib.hid (HAD.out.ext XA)
    replace c6 := XA.cell c6
    have hb6 := World.block_lt_of_cell? wA ⟨b, off + k * 7 + 6, none⟩ c6
    have qz := HBE.out.c6
    have yz := HBE.out.z6
    clear hbA TA XA c0 c1 c2 c3 c4 c5 HAD
    obtain ⟨wo, hwo⟩ : ∃ wo, wo = wr := ⟨_, rfl⟩
    subst hwo
    have RE0 := Lib.hid (World.ownsRow_made wA #[] 0 (base := wo.heap.size) (e := 3) (size := 1) HXA.out.size (by unfold maxLen; omega) rfl : RJ (wA.alloc (.cells #[] 3)) wo.heap.size (.slice (some ⟨wA.heap.size, 0, none⟩) 0 0) [])
    go_wp2_with (at_builtin; refine appJ _ rfl _ _ rfl wo.heap.size (.slice (some ⟨wA.heap.size, 0, none⟩) 0 0) [] rfl RE0.out (by have := HXA.out.size; simp; omega) (.slice ua ul uc) x.d rfl (HDA.out.ext ((Ext.refl wA).alloc _)) (by have := HDL.out; simp; omega) ?_)
    intro v1 w1 R1 G1 at1
    obtain ⟨a1, n1, e1⟩ := (R1.dat (B' := 0)).len
    subst e1
    have B1 := but_grown G1
    have nb1 : ¬ (some wA.heap.size = some wo.heap.size) := fun e => by
      have h1 := HTA.out.lt
      have e2 : wA.heap.size = wo.heap.size := by simpa using e
      omega
    have E1 := (HBE.out.ext ((Ext.refl wA).alloc (.cells #[] 3))).but B1 nb1
    have T1 := (HTA.out.ext ((Ext.refl wA).alloc (.cells #[] 3))).but B1 nb1
    have q1 := E1.c6
    have y1 := E1.z6
    have nv1 : ∀ g, (Value.slice a1 ([] ++ x.d).length n1).ownBlock = some g → g ≠ wo.heap.size := fun g hg => (row_tagE R1 hg).ne T1 (by decide)
    have HE1 := Lib.hid (E1.set6 (.slice a1 ([] ++ x.d).length n1))
    have HT1 := Lib.hid (T1.set (c := wo.heap.size) (j := 6) (v := .slice a1 ([] ++ x.d).length n1))
    have HR1 := Lib.hid (R1.set (b := wo.heap.size) (j := 6) (x := .slice a1 ([] ++ x.d).length n1) nv1)
    have HX1 := Lib.hid (((HXA.out.alloc (.cells #[] 3)).grown G1 (fun q hq => by cases hq; exact HXA.out.size)).setCell (p := ⟨wo.heap.size, 6, none⟩) (Nat.le_refl _) (.slice a1 ([] ++ x.d).length n1))
    rw [List.nil_append] at HE1 HT1 HR1 HX1
    simp only [List.nil_append] at *
    clear E1 T1 R1 G1 at1 B1 nb1 nv1 RE0 qz yz c6
    generalize hn2 : x.d.length = N1 at *
    have HN2 := Lib.hid hn2
    clear hn2
    go_wp2
    go_loopw [6] (fun i wr => ∃ (k2 : Nat) (e : Ev) (u : Value), k < k2 ∧ k2 ≤ L.length ∧ i = .int .i64 k2 ∧ Hid (mrun 64 (L.take k2) = (merged 64 (L.take k), some e)) ∧ BE wr wo.heap.size e.k e.t e.o e.n e.p e.c u ∧ TagE wr wo.heap.size 31 ∧ RJ wr wo.heap.size u e.d ∧ Ext wo wr) (fun i _ => L.length - (intOf i).toNat)
    case atStart => exact ⟨k + 1, x, _, by omega, by omega, by go_num, HI2, HE1.out, HT1.out, HR1.out, HX1.out⟩
    case round =>
      obtain ⟨k2, e, u, hk2, hkn, rfl, HM2, hE, hT, hJ, hX⟩ := hrel
      obtain ⟨ea, ec, eu⟩ := (hJ.dat (B' := 0)).len
      generalize hel : e.d.length = el at eu
      subst eu
      have HEL := Lib.hid hel
      have HE := Lib.hid hE
      have HTG := Lib.hid hT
      have HJ := Lib.hid hJ
      have HX2 := Lib.hid hX
      obtain ⟨q0, q1, q2, q3, q4, q5, q6, -, -, -, -, -, -, -⟩ := hE
      clear hT hJ hX hel HE1 HT1 HR1 HX1
      go_upto_region 7 with (fail)
      go_cut [66] from 26 to 86 (fun c wx => c = .bool (nx 64 L k2 e) ∧ Ext wr wx)
      case first =>
        by_cases h2 : k2 < L.length
        case neg =>
          have hnx : nx 64 L k2 e = false := dif_neg h2
          have h2' : ¬ (k2 : Int) < (L.length : Int) := by omega
          refine wp_region_later (by kernel_rfl) (by kernel_rfl) ?_
          have l0 := fun (g : Later wr) => g.ok.cell q0
          have l1 := fun (g : Later wr) => g.ok.cell q1
          have l2 := fun (g : Later wr) => g.ok.cell q2
          have l3 := fun (g : Later wr) => g.ok.cell q3
          have l4 := fun (g : Later wr) => g.ok.cell q4
          have l5 := fun (g : Later wr) => g.ok.cell q5
          have l6 := fun (g : Later wr) => g.ok.cell q6
          repeat (go_big_quiet_step ((fail)))
          refine wpQuiet_nil ?_
          intro w6 hl6
          have X6 := laters_ext hl6
          clear hl6 l0 l1 l2 l3 l4 l5 l6
          go_wp2_with fail
          go_meet
          exact ⟨by rw [hnx], X6⟩
        have h2' : (k2 : Int) < (L.length : Int) := by omega
        have hnx : nx 64 L k2 e = goOn 64 e L[k2] := dif_pos h2
        obtain ⟨b', off', u', ea', A'⟩ := HA.out wr (HX.out.trans HX2.out) k2 h2
        cases ea'
        obtain ⟨d0, d1, d2, d3, d4, d5, d6, -⟩ := A'
        generalize L[k2] = y at *
        by_cases g0 : e.k = 5
        case neg =>
          have e0 : (e.k == 5) = false := by simpa using g0
          rw [show goOn 64 e y = false by unfold goOn; rw [decide_eq_false g0]; rfl] at hnx
          refine wp_region_later (by kernel_rfl) (by kernel_rfl) ?_
          have l0 := fun (g : Later wr) => g.ok.cell q0
          have l1 := fun (g : Later wr) => g.ok.cell q1
          have l2 := fun (g : Later wr) => g.ok.cell q2
          have l3 := fun (g : Later wr) => g.ok.cell q3
          have l4 := fun (g : Later wr) => g.ok.cell q4
          have l5 := fun (g : Later wr) => g.ok.cell q5
          have l6 := fun (g : Later wr) => g.ok.cell q6
          have m0 := fun (g : Later wr) => g.ok.cell d0
          have m1 := fun (g : Later wr) => g.ok.cell d1
          have m2 := fun (g : Later wr) => g.ok.cell d2
          have m3 := fun (g : Later wr) => g.ok.cell d3
          have m4 := fun (g : Later wr) => g.ok.cell d4
          have m5 := fun (g : Later wr) => g.ok.cell d5
          have m6 := fun (g : Later wr) => g.ok.cell d6
          repeat (go_big_quiet_step ((fail)))
          refine wpQuiet_nil ?_
          intro w6 hl6
          have X6 := laters_ext hl6
          clear hl6 l0 l1 l2 l3 l4 l5 l6 m0 m1 m2 m3 m4 m5 m6
          go_wp2_with fail
          go_meet
          exact ⟨by rw [hnx], X6⟩
        have e0 : (e.k == 5) = true := by simpa using g0
        by_cases g1 : y.k = 5
        case neg =>
          have e1 : (y.k == 5) = false := by simpa using g1
          rw [show goOn 64 e y = false by unfold goOn; rw [decide_eq_false g1]; simp] at hnx
          refine wp_region_later (by kernel_rfl) (by kernel_rfl) ?_
          have l0 := fun (g : Later wr) => g.ok.cell q0
          have l1 := fun (g : Later wr) => g.ok.cell q1
          have l2 := fun (g : Later wr) => g.ok.cell q2
          have l3 := fun (g : Later wr) => g.ok.cell q3
          have l4 := fun (g : Later wr) => g.ok.cell q4
          have l5 := fun (g : Later wr) => g.ok.cell q5
          have l6 := fun (g : Later wr) => g.ok.cell q6
          have m0 := fun (g : Later wr) => g.ok.cell d0
          have m1 := fun (g : Later wr) => g.ok.cell d1
          have m2 := fun (g : Later wr) => g.ok.cell d2
          have m3 := fun (g : Later wr) => g.ok.cell d3
          have m4 := fun (g : Later wr) => g.ok.cell d4
          have m5 := fun (g : Later wr) => g.ok.cell d5
          have m6 := fun (g : Later wr) => g.ok.cell d6
          repeat (go_big_quiet_step ((fail)))
          refine wpQuiet_nil ?_
          intro w6 hl6
          have X6 := laters_ext hl6
          clear hl6 l0 l1 l2 l3 l4 l5 l6 m0 m1 m2 m3 m4 m5 m6
          go_wp2_with fail
          go_meet
          exact ⟨by rw [hnx], X6⟩
        have e1 : (y.k == 5) = true := by simpa using g1
        by_cases g2 : e.t = y.t
        case neg =>
          have e2 : (y.t == e.t) = false := by simpa using Ne.symm g2
          rw [show goOn 64 e y = false by unfold goOn; rw [decide_eq_false g2]; simp] at hnx
          refine wp_region_later (by kernel_rfl) (by kernel_rfl) ?_
          have l0 := fun (g : Later wr) => g.ok.cell q0
          have l1 := fun (g : Later wr) => g.ok.cell q1
          have l2 := fun (g : Later wr) => g.ok.cell q2
          have l3 := fun (g : Later wr) => g.ok.cell q3
          have l4 := fun (g : Later wr) => g.ok.cell q4
          have l5 := fun (g : Later wr) => g.ok.cell q5
          have l6 := fun (g : Later wr) => g.ok.cell q6
          have m0 := fun (g : Later wr) => g.ok.cell d0
          have m1 := fun (g : Later wr) => g.ok.cell d1
          have m2 := fun (g : Later wr) => g.ok.cell d2
          have m3 := fun (g : Later wr) => g.ok.cell d3
          have m4 := fun (g : Later wr) => g.ok.cell d4
          have m5 := fun (g : Later wr) => g.ok.cell d5
          have m6 := fun (g : Later wr) => g.ok.cell d6
          repeat (go_big_quiet_step ((fail)))
          refine wpQuiet_nil ?_
          intro w6 hl6
          have X6 := laters_ext hl6
          clear hl6 l0 l1 l2 l3 l4 l5 l6 m0 m1 m2 m3 m4 m5 m6
          go_wp2_with fail
          go_meet
          exact ⟨by rw [hnx], X6⟩
        have e2 : (y.t == e.t) = true := by simpa using g2.symm
        have CP := Lib.hid (fun w => rPlus_64 e.p e.n w)
        have hgo : goOn 64 e y = (y.p == plusW 64 e.p e.n) := by
          unfold goOn
          rw [decide_eq_true g0, decide_eq_true g1, decide_eq_true g2]
          simp only [Bool.true_and]
          exact (by simp [BEq.beq])
        rw [hgo] at hnx
        rw [show ((U64 (e.p + e.n))) = plusW 64 e.p e.n by rfl] at CP
        generalize plusW 64 e.p e.n = z at *
        cases hb : (y.p == z)
        case false =>
          rw [hb] at hnx
          refine wp_region_later (by kernel_rfl) (by kernel_rfl) ?_
          have l0 := fun (g : Later wr) => g.ok.cell q0
          have l1 := fun (g : Later wr) => g.ok.cell q1
          have l2 := fun (g : Later wr) => g.ok.cell q2
          have l3 := fun (g : Later wr) => g.ok.cell q3
          have l4 := fun (g : Later wr) => g.ok.cell q4
          have l5 := fun (g : Later wr) => g.ok.cell q5
          have l6 := fun (g : Later wr) => g.ok.cell q6
          have m0 := fun (g : Later wr) => g.ok.cell d0
          have m1 := fun (g : Later wr) => g.ok.cell d1
          have m2 := fun (g : Later wr) => g.ok.cell d2
          have m3 := fun (g : Later wr) => g.ok.cell d3
          have m4 := fun (g : Later wr) => g.ok.cell d4
          have m5 := fun (g : Later wr) => g.ok.cell d5
          have m6 := fun (g : Later wr) => g.ok.cell d6
          repeat (go_big_quiet_step ((fail)))
          go_big_quiet_step ((go_at_call 47; exact laterS (CP.out _)))
          repeat (go_big_quiet_step ((fail)))
          refine wpQuiet_nil ?_
          intro w6 hl6
          have X6 := laters_ext hl6
          clear hl6 l0 l1 l2 l3 l4 l5 l6 m0 m1 m2 m3 m4 m5 m6
          go_wp2_with fail
          go_meet
          exact ⟨by rw [hnx], X6⟩
        case true =>
          rw [hb] at hnx
          refine wp_region_later (by kernel_rfl) (by kernel_rfl) ?_
          have l0 := fun (g : Later wr) => g.ok.cell q0
          have l1 := fun (g : Later wr) => g.ok.cell q1
          have l2 := fun (g : Later wr) => g.ok.cell q2
          have l3 := fun (g : Later wr) => g.ok.cell q3
          have l4 := fun (g : Later wr) => g.ok.cell q4
          have l5 := fun (g : Later wr) => g.ok.cell q5
          have l6 := fun (g : Later wr) => g.ok.cell q6
          have m0 := fun (g : Later wr) => g.ok.cell d0
          have m1 := fun (g : Later wr) => g.ok.cell d1
          have m2 := fun (g : Later wr) => g.ok.cell d2
          have m3 := fun (g : Later wr) => g.ok.cell d3
          have m4 := fun (g : Later wr) => g.ok.cell d4
          have m5 := fun (g : Later wr) => g.ok.cell d5
          have m6 := fun (g : Later wr) => g.ok.cell d6
          repeat (go_big_quiet_step ((fail)))
          go_big_quiet_step ((go_at_call 47; exact laterS (CP.out _)))
          repeat (go_big_quiet_step ((fail)))
          refine wpQuiet_nil ?_
          intro w6 hl6
          have X6 := laters_ext hl6
          clear hl6 l0 l1 l2 l3 l4 l5 l6 m0 m1 m2 m3 m4 m5 m6
          go_wp2_with fail
          go_meet
          exact ⟨by rw [hnx], X6⟩
      case rest =>
        obtain ⟨hc1, hx7⟩ := hcut
        cases hc1
        have HXc := Lib.hid (HX2.out.trans hx7)
        have HEc := Lib.hid (HE.out.ext hx7)
        have HTc := Lib.hid (HTG.out.ext hx7)
        have HJc := Lib.hid (HJ.out.ext hx7)
        clear hx7 HE HTG HJ q0 q1 q2 q3 q4 q5 q6 HX2
        have hme : merged 64 (L.take k2) = merged 64 (L.take k) ++ [e] := by
          show outM (mrun 64 (L.take k2)) = _
          rw [HM2.out]
          rfl
        cases hnb : nx 64 L k2 e
        case false =>
          have HI3 : Hid (∀ hk : k2 < L.length, mrun 64 (L.take (k2 + 1)) = (merged 64 (L.take k2), some L[k2])) := Lib.hid (fun hk => by
            rw [HS.out k2 hk, HM2.out, hme]
            refine mst_no ?_
            rw [← dif_pos (t := fun h : k2 < L.length => goOn 64 e L[k2]) (e := fun _ => false) hk]
            intro hh
            rw [show nx 64 L k2 e = true from hh] at hnb
            cases hnb)
          have HME := Lib.hid hme
          have hll := HLL.out k
          clear hme hnb
          obtain ⟨q0, q1, q2, q3, q4, q5, q6, -, -, -, -, -, -, -⟩ := HEc.out
          have HDe := Lib.hid (HJc.out.dat (B' := w.heap.size))
          have hsz := (HX.out.trans HXc.out).size
          go_wp2_with (at_builtin; refine appE _ rfl _ _ rfl w.heap.size u5 (merged 64 (L.take k)) rfl ((HR.out.ext HXc.out).ext ((Ext.refl wc).alloc _)) (by simp; omega) wc.heap.size e (.slice ea el ec) rfl (at_new HDe.out) hll ?_)
          intro v9 w9 R9 G9 _
          have HX9 := Lib.hid (((HX.out.trans HXc.out).alloc _).grown G9 (fun q hq => (HR.out.lt hq).1))
          have HR9 := Lib.hid R9
          clear R9 G9 q0 q1 q2 q3 q4 q5 q6 hsz
          go_wp2
          exact ⟨⟨k2, by omega, rfl, by rw [HME.out]; exact HR9.out, HX9.out, HI3⟩, by simp [intOf]; omega⟩
        case true =>
          have h2 : k2 < L.length := by
            by_cases h : k2 < L.length
            · exact h
            · rw [show nx 64 L k2 e = false from dif_neg h] at hnb; cases hnb
          have hgo : goOn 64 e L[k2] = true := by rw [show nx 64 L k2 e = goOn 64 e L[k2] from dif_pos h2] at hnb; exact hnb
          obtain ⟨b', off', u', ea', A0⟩ := HA.out wo HX.out k2 h2
          cases ea'
          obtain ⟨ya, yc, eyu⟩ := A0.d.len
          have hms : mrun 64 (L.take (k2 + 1)) = (merged 64 (L.take k), some (addE e L[k2])) := by rw [HS.out k2 h2, HM2.out]; exact mst_yes hgo
          have hdt : e.d.length + L[k2].d.length ≤ 900000 := by
            have := HTT.out (k2 + 1)
            have e3 : merged 64 (L.take (k2 + 1)) = merged 64 (L.take k) ++ [addE e L[k2]] := by
              show outM (mrun 64 (L.take (k2 + 1))) = _
              rw [hms]
              rfl
            rw [e3, tot_app, tot_one] at this
            simp [addE] at this
            omega
          have h2' : (k2 : Int) < (L.length : Int) := by omega
          clear hnb hgo hme
          generalize L[k2] = y at *
          generalize hyl : y.d.length = yl at *
          subst eyu
          have HYL := Lib.hid hyl
          have HMS := Lib.hid hms
          have HDT := Lib.hid hdt
          have HA0 := Lib.hid A0
          clear hyl hms hdt A0 HM2
          have F3 := fun w' (hx : Ext wc w') => hx.cell HEc.out.c3
          have FQ := fun w' (hx : Ext wc w') => hx.cell (HA0.out.ext HXc.out).c3
          have q3 : wc.drew.cell? ⟨wo.heap.size, 3, none⟩ = some (.int .i64 e.n) := HEc.out.c3
          have z3 : wc.drew.frozen? ⟨wo.heap.size, 3, none⟩ = false := HEc.out.z3
          go_wp2_with fail
          refine wp_region_D (fun i => decide (i ≤ 8)) (by kernel_rfl) ?_
          refine take_D (i := 0) (v := ?_) rfl rfl rfl (by kernel_rfl) (by kernel_rfl) (by kernel_rfl) (by kernel_rfl) (by kernel_rfl) ((Ext.refl wc).drew) ?hyp ?_
          case hyp => intro wz hSw; (try dsimp only at hSw); go_simp <;> with_reducible rfl
          simp only [List.setIfInBounds_toArray, List.set_cons_zero, List.set_cons_succ]
          refine take_D (i := 1) (v := ?_) rfl rfl rfl (by kernel_rfl) (by kernel_rfl) (by kernel_rfl) (by kernel_rfl) (by kernel_rfl) ((Ext.refl wc).drew) ?hyp ?_
          case hyp => intro wz hSw; (try dsimp only at hSw); go_simp <;> with_reducible rfl
          simp only [List.setIfInBounds_toArray, List.set_cons_zero, List.set_cons_succ]
          refine take_D (i := 2) (v := ?_) rfl rfl rfl (by kernel_rfl) (by kernel_rfl) (by kernel_rfl) (by kernel_rfl) (by kernel_rfl) ((Ext.refl wc).drew) ?hyp ?_
          case hyp => intro wz hSw; (try dsimp only at hSw); go_simp <;> with_reducible rfl
          simp only [List.setIfInBounds_toArray, List.set_cons_zero, List.set_cons_succ]
          refine take_D (i := 3) (v := ?_) rfl rfl rfl (by kernel_rfl) (by kernel_rfl) (by kernel_rfl) (by kernel_rfl) (by kernel_rfl) ((Ext.refl wc).drew) ?hyp ?_
          case hyp => intro wz hSw; (try dsimp only at hSw); go_simp <;> with_reducible rfl
          simp only [List.setIfInBounds_toArray, List.set_cons_zero, List.set_cons_succ]
          refine take_D (i := 4) (v := ?_) rfl rfl rfl (by kernel_rfl) (by kernel_rfl) (by kernel_rfl) (by kernel_rfl) (by kernel_rfl) ((Ext.refl wc).drew) ?hyp ?_
          case hyp => intro wz hSw; (try dsimp only at hSw); go_simp <;> with_reducible rfl
          simp only [List.setIfInBounds_toArray, List.set_cons_zero, List.set_cons_succ]
          refine take_D (i := 5) (v := ?_) rfl rfl rfl (by kernel_rfl) (by kernel_rfl) (by kernel_rfl) (by kernel_rfl) (by kernel_rfl) ((Ext.refl wc).drew) ?hyp ?_
          case hyp => intro wz hSw; (try dsimp only at hSw); go_simp <;> with_reducible rfl
          simp only [List.setIfInBounds_toArray, List.set_cons_zero, List.set_cons_succ]
          refine take_D (i := 6) (v := ?_) rfl rfl rfl (by kernel_rfl) (by kernel_rfl) (by kernel_rfl) (by kernel_rfl) (by kernel_rfl) ((Ext.refl wc).drew) ?hyp ?_
          case hyp => intro wz hSw; (try dsimp only at hSw); go_simp <;> with_reducible rfl
          simp only [List.setIfInBounds_toArray, List.set_cons_zero, List.set_cons_succ]
          refine take_D (i := 7) (v := ?_) rfl rfl rfl (by kernel_rfl) (by kernel_rfl) (by kernel_rfl) (by kernel_rfl) (by kernel_rfl) ((Ext.refl wc).drew) ?hyp ?_
          case hyp => intro wz hSw; (try dsimp only at hSw); go_simp <;> with_reducible rfl
          simp only [List.setIfInBounds_toArray, List.set_cons_zero, List.set_cons_succ]
          refine take_D (i := 8) (v := ?_) rfl rfl rfl (by kernel_rfl) (by kernel_rfl) (by kernel_rfl) (by kernel_rfl) (by kernel_rfl) ((Ext.refl wc).drew) ?hyp ?_
          case hyp => intro wz hSw; (try dsimp only at hSw); go_simp <;> with_reducible rfl
          simp only [List.setIfInBounds_toArray, List.set_cons_zero, List.set_cons_succ]
          refine rest_D (n := 9) rfl rfl (fun j hj => by simp; omega) (by kernel_rfl) ?_
          go_wp2
          refine off_normal ?_
          rw [wrapI64]
          rw [show (wc.setCell ⟨wo.heap.size, 3, none⟩ (.int .i64 (D64 (e.n + y.n)))).drew = wc.drew.setCell ⟨wo.heap.size, 3, none⟩ (.int .i64 (D64 (e.n + y.n))) from rfl]
          have nv : ∀ g, (Value.slice ea el ec).ownBlock = some g → g ≠ wo.heap.size := fun g hg => (row_tagE HJc.out hg).ne HTc.out (by decide)
          have HE8 := Lib.hid ((HEc.out.ext ((Ext.refl wc).drew)).set3 (D64 (e.n + y.n)))
          have HT8 := Lib.hid ((HTc.out.ext ((Ext.refl wc).drew)).set (c := wo.heap.size) (j := 3) (v := .int .i64 (D64 (e.n + y.n))))
          have HJ8 := Lib.hid ((HJc.out.ext ((Ext.refl wc).drew)).set (b := wo.heap.size) (j := 3) (x := .int .i64 (D64 (e.n + y.n))) nv)
          have HX8 := Lib.hid ((HXc.out.drew).setCell (p := ⟨wo.heap.size, 3, none⟩) (Nat.le_refl _) (.int .i64 (D64 (e.n + y.n))))
          clear F3 FQ q3 z3 nv HEc HTc HJc HXc
          generalize wc.drew.setCell ⟨wo.heap.size, 3, none⟩ (.int .i64 (D64 (e.n + y.n))) = w8 at *
          have F6 := fun w' (hx : Ext w8 w') => hx.cell HE8.out.c6
          have FQ := fun w' (hx : Ext w8 w') => hx.cell (HA0.out.ext HX8.out).c6
          go_wp2_with fail
          refine wp_region_D (fun i => decide (i ≤ 6)) (by kernel_rfl) ?_
          refine take_D (i := 0) (v := ?_) rfl rfl rfl (by kernel_rfl) (by kernel_rfl) (by kernel_rfl) (by kernel_rfl) (by kernel_rfl) ((Ext.refl w8).drew) ?hyp ?_
          case hyp => intro wz hSw; (try dsimp only at hSw); go_simp <;> with_reducible rfl
          simp only [List.setIfInBounds_toArray, List.set_cons_zero, List.set_cons_succ]
          refine take_D (i := 1) (v := ?_) rfl rfl rfl (by kernel_rfl) (by kernel_rfl) (by kernel_rfl) (by kernel_rfl) (by kernel_rfl) ((Ext.refl w8).drew) ?hyp ?_
          case hyp => intro wz hSw; (try dsimp only at hSw); go_simp <;> with_reducible rfl
          simp only [List.setIfInBounds_toArray, List.set_cons_zero, List.set_cons_succ]
          refine take_D (i := 2) (v := ?_) rfl rfl rfl (by kernel_rfl) (by kernel_rfl) (by kernel_rfl) (by kernel_rfl) (by kernel_rfl) ((Ext.refl w8).drew) ?hyp ?_
          case hyp => intro wz hSw; (try dsimp only at hSw); go_simp <;> with_reducible rfl
          simp only [List.setIfInBounds_toArray, List.set_cons_zero, List.set_cons_succ]
          refine take_D (i := 3) (v := ?_) rfl rfl rfl (by kernel_rfl) (by kernel_rfl) (by kernel_rfl) (by kernel_rfl) (by kernel_rfl) ((Ext.refl w8).drew) ?hyp ?_
          case hyp => intro wz hSw; (try dsimp only at hSw); go_simp <;> with_reducible rfl
          simp only [List.setIfInBounds_toArray, List.set_cons_zero, List.set_cons_succ]
          refine take_D (i := 4) (v := ?_) rfl rfl rfl (by kernel_rfl) (by kernel_rfl) (by kernel_rfl) (by kernel_rfl) (by kernel_rfl) ((Ext.refl w8).drew) ?hyp ?_
          case hyp => intro wz hSw; (try dsimp only at hSw); go_simp <;> with_reducible rfl
          simp only [List.setIfInBounds_toArray, List.set_cons_zero, List.set_cons_succ]
          refine take_D (i := 5) (v := ?_) rfl rfl rfl (by kernel_rfl) (by kernel_rfl) (by kernel_rfl) (by kernel_rfl) (by kernel_rfl) ((Ext.refl w8).drew) ?hyp ?_
          case hyp => intro wz hSw; (try dsimp only at hSw); go_simp <;> with_reducible rfl
          simp only [List.setIfInBounds_toArray, List.set_cons_zero, List.set_cons_succ]
          refine take_D (i := 6) (v := ?_) rfl rfl rfl (by kernel_rfl) (by kernel_rfl) (by kernel_rfl) (by kernel_rfl) (by kernel_rfl) ((Ext.refl w8).drew) ?hyp ?_
          case hyp => intro wz hSw; (try dsimp only at hSw); go_simp <;> with_reducible rfl
          simp only [List.setIfInBounds_toArray, List.set_cons_zero, List.set_cons_succ]
          refine rest_D (n := 7) rfl rfl (fun j hj => by simp; omega) (by kernel_rfl) ?_
          refine appJ _ rfl _ _ rfl wo.heap.size (.slice ea el ec) e.d rfl (HJ8.out.ext ((Ext.refl w8).drew)) (Nat.le_trans HX8.out.size (Nat.le_refl _)) (.slice ya yl yc) y.d rfl ((HA0.out.d.ext HX8.out).ext ((Ext.refl w8).drew)) (by have := HDT.out; have := HYL.out; omega) ?_
          intro v9 w9 R9 G9 at9
          obtain ⟨a9, n9, e9⟩ := (R9.dat (B' := 0)).len
          subst e9
          have B9 := but_grown G9
          have nb9 : ¬ ((Value.slice ea el ec).ownBlock = some wo.heap.size) := fun hh => (row_tagE HJ8.out hh).ne HT8.out (by decide) rfl
          have E9 := (HE8.out.ext ((Ext.refl w8).drew)).but B9 nb9
          have T9 := (HT8.out.ext ((Ext.refl w8).drew)).but B9 nb9
          have q6 := E9.c6
          have z6 := E9.z6
          have nv9 : ∀ g, (Value.slice a9 (e.d ++ y.d).length n9).ownBlock = some g → g ≠ wo.heap.size := fun g hg => (row_tagE R9 hg).ne T9 (by decide)
          have HE9 := Lib.hid (E9.set6 (.slice a9 (e.d ++ y.d).length n9))
          have HT9 := Lib.hid (T9.set (c := wo.heap.size) (j := 6) (v := .slice a9 (e.d ++ y.d).length n9))
          have HR9 := Lib.hid (R9.set (b := wo.heap.size) (j := 6) (x := .slice a9 (e.d ++ y.d).length n9) nv9)
          have HX9 := Lib.hid ((((HX8.out.drew)).grown G9 (fun q hq => (World.ownsRow.lt HJ8.out q hq).1)).setCell (p := ⟨wo.heap.size, 6, none⟩) (Nat.le_refl _) (.slice a9 (e.d ++ y.d).length n9))
          clear E9 T9 R9 G9 at9 B9 nb9 nv9 F6 FQ HE8 HT8 HJ8 HX8
          generalize (e.d ++ y.d).length = N9 at *
          go_wp2
          refine off_normal ?_
          go_wp2
          exact ⟨⟨k2 + 1, addE e y, _, by omega, by omega, by go_num, HMS, HE9.out, HT9.out, HR9.out, HX9.out⟩, by simp [intOf]; omega⟩
end Go.Proofs.Ytkbbneknblnbnaa
