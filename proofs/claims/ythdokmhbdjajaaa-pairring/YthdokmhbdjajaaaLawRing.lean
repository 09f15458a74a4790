/- The walk of PairRing. -/
import Derived.Test.YthdokmhbdjajaaaRingMath
import Derived.Deep.RegionHeld3
namespace Go.Proofs.Ythdokmhbdjajaaa
open Go.RowKit
set_option linter.unusedVariables false
set_option maxHeartbeats 40000000
theorem lens {zs : List (Int × Int)} (hs : ∀ p ∈ zs, sm p) : zs.map cl = zs := by
  induction zs with
  | nil => rfl
  | cons p l ih => rw [List.map_cons, cl_sm (hs p List.mem_cons_self), ih (fun q hq => hs q (List.mem_cons_of_mem _ hq))]
def rowR (xs : List (Int × Int)) (t k : Nat) : List Value := (rot xs t k).map cV
theorem rowR_snoc (xs : List (Int × Int)) (t k : Nat) : rowR xs t (k + 1) = rowR xs t k ++ [cV (xs.getD ((k + t) % xs.length) (0, 0))] := by
  simp [rowR, rot, List.range_succ]
theorem pairs_of_rot {w : World} {base e : Nat} {v : Value} {xs : List (Int × Int)} {t k : Nat} (hi : AllIn xs) (h : w.ownsRow base e 1 v k (rowR xs t k)) : PairsAt w v (rot xs t k) := by
  have hl : (rot xs t k).length = k := by simp [rot]
  have hin : ∀ p ∈ rot xs t k, inB p.1 = true ∧ inB p.2 = true := by
    intro p hp
    simp only [rot, List.mem_map] at hp
    obtain ⟨i, _, rfl⟩ := hp
    by_cases h0 : (i + t) % xs.length < xs.length
    · rw [List.getD_eq_getElem?_getD, List.getElem?_eq_getElem h0]
      exact hi _ (List.getElem_mem h0)
    · rw [List.getD_eq_getElem?_getD, List.getElem?_eq_none (by omega)]
      exact ⟨rfl, rfl⟩
  rcases h.2 with ⟨h1, h2⟩ | ⟨g, cap, cur, h1, hb, hg, hc, hm, hs, ht⟩
  · exact .inl ⟨h1, by subst h2; rfl⟩
  · refine .inr ⟨g, 0, cap, by rw [hl]; exact h1, fun j hj => ?_⟩
    subst h1
    rw [hl] at hj
    have hj' : j < (rot xs t k).length := by omega
    have e : (rot xs t k).getD j (0, 0) = (rot xs t k)[j] := by simp [hj']
    have hh := hin _ (List.getElem_mem hj')
    rw [e, Nat.zero_add]
    refine ⟨_, _, (h.cellAt j (by omega)).trans (show (rowR xs t k)[j]? = some (cV ((rot xs t k)[j])) by simp [rowR, hj']), cnt_F ((inB_iff _).1 hh.1).1 ((inB_iff _).1 hh.1).2, cnt_F ((inB_iff _).1 hh.2).1 ((inB_iff _).1 hh.2).2⟩
/-- behind the checks -/
def Late04 (w : World) (e : Ending) (w' : World) : Prop := e = .returned (.bool true) ∧ Below w.heap.size w w'
set_option maxRecDepth 100000 in
theorem ring_early (a : Option Addr) (len cap : Nat) (t : Int) (w : World) (h : 100 < len ∨ len = 0 ∨ t < 0 ∨ (len : Int) ≤ t) :
    Calls Try.prog 5 #[.slice a len cap, .int .i64 t] w (Late04 w) := by
  by_cases h1 : 100 < len
  · have d1 : decide (100 < (len : Int)) = true := by simp; omega
    clear h
    go_enter Try.func5, Try.ntmps5
    go_wp2_with fail
    with_reducible refine (live04 _).mono ?_
    rintro e w1 ⟨rfl, hb1⟩
    obtain ⟨hc1, hf1⟩ := hb1.cells
    go_wp2
    go_ret
    refine ⟨rfl, Ext.below ?_⟩
    repeat (first | with_reducible exact Ext.refl _ | with_reducible assumption | with_reducible refine Ext.alloc ?_ _ | with_reducible refine Ext.drew ?_ | with_reducible refine Ext.drewN ?_ _ | with_reducible refine Ext.setCell ?_ (by simp <;> omega) _ | with_reducible refine Ext.trans ?_ (by assumption))
  · have d1 : decide (100 < (len : Int)) = false := by simp; omega
    by_cases h2 : len = 0
    · subst h2
      clear h
      go_enter Try.func5, Try.ntmps5
      go_wp2_with fail
      with_reducible refine (live04 _).mono ?_
      rintro e w2 ⟨rfl, hb2⟩
      obtain ⟨hc2, hf2⟩ := hb2.cells
      go_wp2
      go_ret
      refine ⟨rfl, Ext.below ?_⟩
      repeat (first | with_reducible exact Ext.refl _ | with_reducible assumption | with_reducible refine Ext.alloc ?_ _ | with_reducible refine Ext.drew ?_ | with_reducible refine Ext.drewN ?_ _ | with_reducible refine Ext.setCell ?_ (by simp <;> omega) _ | with_reducible refine Ext.trans ?_ (by assumption))
    · have d2 : ((len : Int) == 0) = false := by simp; omega
      by_cases h3 : t < 0
      · have d3 : decide (t < 0) = true := by simp; omega
        clear h
        go_enter Try.func5, Try.ntmps5
        go_wp2_with fail
        with_reducible refine (live04 _).mono ?_
        rintro e w3 ⟨rfl, hb3⟩
        obtain ⟨hc3, hf3⟩ := hb3.cells
        go_wp2
        go_ret
        refine ⟨rfl, Ext.below ?_⟩
        repeat (first | with_reducible exact Ext.refl _ | with_reducible assumption | with_reducible refine Ext.alloc ?_ _ | with_reducible refine Ext.drew ?_ | with_reducible refine Ext.drewN ?_ _ | with_reducible refine Ext.setCell ?_ (by simp <;> omega) _ | with_reducible refine Ext.trans ?_ (by assumption))
      · have d3 : decide (t < 0) = false := by simp; omega
        have d4 : decide ((len : Int) ≤ t) = true := by simp; omega
        clear h
        go_enter Try.func5, Try.ntmps5
        go_wp2_with fail
        with_reducible refine (live04 _).mono ?_
        rintro e w4 ⟨rfl, hb4⟩
        obtain ⟨hc4, hf4⟩ := hb4.cells
        go_wp2
        go_ret
        refine ⟨rfl, Ext.below ?_⟩
        repeat (first | with_reducible exact Ext.refl _ | with_reducible assumption | with_reducible refine Ext.alloc ?_ _ | with_reducible refine Ext.drew ?_ | with_reducible refine Ext.drewN ?_ _ | with_reducible refine Ext.setCell ?_ (by simp <;> omega) _ | with_reducible refine Ext.trans ?_ (by assumption))
set_option maxRecDepth 100000 in
theorem ring_late (b off cap t : Nat) (zs : List (Int × Int)) (w : World) (h : IsTwos .i64 w (some ⟨b, off, none⟩) zs.length cap zs) (hl : zs.length ≤ 100) (ht : t < zs.length)
    (hz : ∀ i, i < zs.length → w.cell? ⟨b, off + i * 2, none⟩ = some (.int .i64 (zs.getD i (0, 0)).1) ∧ w.cell? ⟨b, off + i * 2 + 1, none⟩ = some (.int .i64 (zs.getD i (0, 0)).2)) :
    Calls Try.prog 5 #[.slice (some ⟨b, off, none⟩) zs.length cap, .int .i64 t] w (Late04 w) := by
  obtain ⟨i0, hi, hz0, hz1, hz2⟩ := info_parts info_cplx
  have HZ := Lib.hid hz
  have HT := Lib.hid h
  obtain ⟨n, hn⟩ : ∃ n, n = zs.length := ⟨_, rfl⟩
  have hl2 : n ≤ 100 := by omega
  have ht2 : t < n := by omega
  have ht3 : (t : Int) < (n : Int) := by omega
  rw [← hn]
  have HN := Lib.hid hn
  have d1 : decide (100 < (n : Int)) = false := by simp; omega
  have d2 : ((n : Int) == 0) = false := by simp; omega
  have d3 : decide ((t : Int) < 0) = false := by simp
  have d4 : decide ((n : Int) ≤ (t : Int)) = false := by simp; omega
  clear hn hl hz h ht
  go_enter Try.func5, Try.ntmps5
  go_wp2
  go_loop [5] (fun i => ∃ k : Nat, k ≤ n ∧ i = .int .i64 k ∧ Hid (∀ j, j < k → sm (zs.getD j (0, 0)))) (fun i => n - (intOf i).toNat)
  case atStart => exact ⟨0, Nat.zero_le _, rfl, Lib.hid fun j hj => absurd hj (Nat.not_lt_zero _)⟩
  case round =>
    obtain ⟨k, hk, rfl, HS⟩ := hrel
    by_cases hlt : k < n
    · have hkz : k < zs.length := by have := HN.out; omega
      have c0 := (HZ.out k hkz).1
      have c1 := (HZ.out k hkz).2
      have hkn : (k : Int) < (n : Int) := by omega
      have HSM : Hid (sm (zs.getD k (0, 0)) → ∀ j, j < k + 1 → sm (zs.getD j (0, 0))) := Lib.hid (fun hs j hj => by
        by_cases e : j = k
        · rw [e]; exact hs
        · exact HS.out j (by omega))
      clear HS
      generalize zs.getD k (0, 0) = q at *
      by_cases p1 : q.1 < -1073741824
      · have e1 : decide (q.1 < -1073741824) = true := by simpa using p1
        go_wp2_with fail
        with_reducible refine (live04 _).mono ?_
        rintro e w1 ⟨rfl, hb1⟩
        obtain ⟨hc1, hf1⟩ := hb1.cells
        go_wp2
        go_ret
        refine ⟨rfl, Ext.below ?_⟩
        repeat (first | with_reducible exact Ext.refl _ | with_reducible assumption | with_reducible refine Ext.alloc ?_ _ | with_reducible refine Ext.drew ?_ | with_reducible refine Ext.drewN ?_ _ | with_reducible refine Ext.setCell ?_ (by simp <;> omega) _ | with_reducible refine Ext.trans ?_ (by assumption))
      · have e1 : decide (q.1 < -1073741824) = false := by simpa using p1
        by_cases p2 : 1073741824 < q.1
        · have e2 : decide (1073741824 < q.1) = true := by simpa using p2
          go_wp2_with fail
          with_reducible refine (live04 _).mono ?_
          rintro e w2 ⟨rfl, hb2⟩
          obtain ⟨hc2, hf2⟩ := hb2.cells
          go_wp2
          go_ret
          refine ⟨rfl, Ext.below ?_⟩
          repeat (first | with_reducible exact Ext.refl _ | with_reducible assumption | with_reducible refine Ext.alloc ?_ _ | with_reducible refine Ext.drew ?_ | with_reducible refine Ext.drewN ?_ _ | with_reducible refine Ext.setCell ?_ (by simp <;> omega) _ | with_reducible refine Ext.trans ?_ (by assumption))
        · have e2 : decide (1073741824 < q.1) = false := by simpa using p2
          by_cases p3 : q.2 < -1073741824
          · have e3 : decide (q.2 < -1073741824) = true := by simpa using p3
            go_wp2_with fail
            with_reducible refine (live04 _).mono ?_
            rintro e w3 ⟨rfl, hb3⟩
            obtain ⟨hc3, hf3⟩ := hb3.cells
            go_wp2
            go_ret
            refine ⟨rfl, Ext.below ?_⟩
            repeat (first | with_reducible exact Ext.refl _ | with_reducible assumption | with_reducible refine Ext.alloc ?_ _ | with_reducible refine Ext.drew ?_ | with_reducible refine Ext.drewN ?_ _ | with_reducible refine Ext.setCell ?_ (by simp <;> omega) _ | with_reducible refine Ext.trans ?_ (by assumption))
          · have e3 : decide (q.2 < -1073741824) = false := by simpa using p3
            by_cases p4 : 1073741824 < q.2
            · have e4 : decide (1073741824 < q.2) = true := by simpa using p4
              go_wp2_with fail
              with_reducible refine (live04 _).mono ?_
              rintro e w4 ⟨rfl, hb4⟩
              obtain ⟨hc4, hf4⟩ := hb4.cells
              go_wp2
              go_ret
              refine ⟨rfl, Ext.below ?_⟩
              repeat (first | with_reducible exact Ext.refl _ | with_reducible assumption | with_reducible refine Ext.alloc ?_ _ | with_reducible refine Ext.drew ?_ | with_reducible refine Ext.drewN ?_ _ | with_reducible refine Ext.setCell ?_ (by simp <;> omega) _ | with_reducible refine Ext.trans ?_ (by assumption))
            · have e4 : decide (1073741824 < q.2) = false := by simpa using p4
              have HS2 := Lib.hid (HSM.out ⟨by omega, by omega, by omega, by omega⟩)
              clear HSM p1 p2 p3 p4
              go_wp2
              exact ⟨⟨k + 1, by omega, by go_num, HS2⟩, by simp [intOf]; omega⟩
    · have hs : ∀ p ∈ zs, sm p := by
        intro p hp
        obtain ⟨j, hj, rfl⟩ := List.getElem_of_mem hp
        have := HS.out j (by have := HN.out; omega)
        simpa [hj] using this
      have hcl := lens hs
      have hin : AllIn zs := by have := allIn_cl zs; rwa [hcl] at this
      have HALL := Lib.hid hs
      have HCL := Lib.hid hcl
      have HIN := Lib.hid hin
      clear HS hs hcl hin
      go_wp2_with fail
      refine (made4 _ _ _ zs _ (by have := HT.out; rw [← HN.out] at this; exact this) (by omega)).mono ?_
      rintro e w1 ⟨v, u, rfl, h1, h2, X1⟩
      clear h2
      have HP := Lib.hid (show PairsAt w1 v zs by have := pairs_of_row h1; rwa [HCL.out] at this)
      rcases h1.2 with ⟨_, h3⟩ | ⟨g, cap', cur, hv, hb, hg, hc, hm, _, _⟩
      · exfalso; have := HN.out; omega
      have hcn : n ≤ cap' := by have := HN.out; omega
      have hcm : cap' ≤ maxLen := hm
      rw [← HN.out] at hv
      subst hv
      have HE : Hid (∀ j, j < zs.length → w1.cell? ⟨g, j, none⟩ = some (cV (zs.getD j (0, 0)))) := Lib.hid (fun j hj => by
        have h1' := h1
        rw [← HN.out] at h1'
        have e := h1'.cellAt j (by have := HN.out; omega)
        rw [rowC_get zs n j (by have := HN.out; omega) (by have := HN.out; omega)] at e
        rw [e]
        congr 2
        exact cl_sm (HALL.out _ (by simp [hj])))
      have HB : Hid (∀ j, j < zs.length → ∃ x y, w1.cell? ⟨g, 0 + j, none⟩ = some (.complex .f64 x y) ∧ Cnt x (zs.getD j (0, 0)).1 ∧ Cnt y (zs.getD j (0, 0)).2) := Lib.hid (fun j hj => by
        have hh := HIN.out (zs.getD j (0, 0)) (by simp [hj])
        rw [Nat.zero_add]
        exact ⟨_, _, HE.out j hj, cnt_F ((inB_iff _).1 hh.1).1 ((inB_iff _).1 hh.1).2, cnt_F ((inB_iff _).1 hh.2).1 ((inB_iff _).1 hh.2).2⟩)
      clear hg h1
      have hw := way_sm zs HALL.out (by have := HN.out; omega)
      have HW := Lib.hid hw
      clear hw hm hc hb
      go_wp2_with fail
      refine (sum_yes _ _ _ HP.out (by have := HN.out; omega) HW.out).mono ?_
      rintro e w' ⟨rfl, rfl⟩
      go_wp2
      go_loopw [9, 10] (fun o i wr => ∃ k : Nat, k ≤ n ∧ i = .int .i64 k ∧ wr.ownsRow w1.heap.size 24 1 o k (rowR zs t k) ∧ Ext w1 wr) (fun _ i _ => n - (intOf i).toNat)
      case atStart => exact ⟨0, Nat.zero_le _, rfl, World.ownsRow_nil _ _ _ _, Ext.refl _⟩
      case round =>
        obtain ⟨k, hk, rfl, ho, hx⟩ := hrel
        have HO := Lib.hid ho
        clear ho
        by_cases hlt2 : k < n
        · have hkn : (k : Int) < (n : Int) := by omega
          obtain ⟨m, hm⟩ : ∃ m, m = (k + t) % n := ⟨_, rfl⟩
          have hmn : m < n := by rw [hm]; exact Nat.mod_lt _ (by omega)
          have hmn' : (m : Int) < (n : Int) := by omega
          have hmi : ((k : Int) + (t : Int)) % (n : Int) = (m : Int) := by rw [hm]; simp
          have S1 : rowR zs t (k + 1) = rowR zs t k ++ [cV (zs.getD m (0, 0))] := by rw [rowR_snoc, ← HN.out, ← hm]
          have HS1 := Lib.hid S1
          have c0 := hx.cell (HE.out m (by have := HN.out; omega))
          unfold cV at c0
          clear hm S1
          generalize zs.getD m (0, 0) = q at *
          go_wp2_with (at_builtin; refine wpList_append_own _ rfl _ _ 39 rfl w1.heap.size 24 i0 (.complex .f64 0 0) 1 16 Try.underlying39 hi hz0 hz1 hz2 rfl (by decide) _ _ _ rfl (HO.out.alloc _) ⟨wr.heap.size, 0, none⟩ 1 1 [cV q] rfl rfl ?c1 ?c2 ?c3 ?c4 ?c5 ?_)
          case c1 =>
            intro j u hj
            match j, hj with
            | 0, hj => simp at hj; subst hj; simp [Addr.add, cV]
          case c2 => intro u hu; simp at hu; subst hu; rfl
          case c3 => unfold maxLen; omega
          case c4 => omega
          case c5 => have := hx.size; simp; omega
          intro v1 w2 hv1 hg1 _
          rw [← HS1.out] at hv1
          have X2 : Ext w1 w2 := (hx.alloc _).grown hg1 (fun j h => (HO.out.lt j h).1)
          clear hg1 c0
          go_wp2
          exact ⟨⟨k + 1, by omega, by go_num, hv1, X2⟩, by simp [intOf]; omega⟩
        · obtain rfl : k = n := by omega
          have q1 := Lib.hid (pairs_of_rot HIN.out HO.out)
          have hlr : (rot zs t k).length = k := by simp [rot]
          have hr : sumA (rot zs t k) = sumA zs ∧ sumB (rot zs t k) = sumB zs := by have := rot_sum zs t (by have := HN.out; omega); rwa [← HN.out] at this
          have hw2 : Way (rot zs t k) := by
            refine way_sm _ ?_ (by omega)
            have e := rot_all zs t (by have := HN.out; omega)
            rw [← HN.out] at e
            intro p hp
            rw [e] at hp
            rcases List.mem_append.1 hp with hp | hp
            · exact HALL.out p (List.mem_of_mem_drop hp)
            · exact HALL.out p (List.mem_of_mem_take hp)
          have hsi := sum_in zs HALL.out (by have := HN.out; omega)
          have c1 := fun w' (hx : Ext wr w') => sum_yes _ _ w' (pairs_ext q1.out hx) (by omega) hw2
          rw [hr.1, hr.2] at c1
          have c2 := fun w' (hy : Ext wr w') => sum_yes _ _ w' (pairs_ext (pairs_take (cap := cap') (n := k) t (by have := HN.out; omega) HB.out) (hx.trans hy)) (by rw [List.length_take]; omega) (way_sm _ (fun p hp => HALL.out p (List.mem_of_mem_take hp)) (by rw [List.length_take]; omega))
          have c3 := fun w' (hy : Ext wr w') => sum_yes _ _ w' (pairs_ext (pairs_drop (cap := cap' - t) t HB.out) (hx.trans hy)) (by rw [List.length_drop]; have := HN.out; omega) (way_sm _ (fun p hp => HALL.out p (List.mem_of_mem_drop hp)) (by rw [List.length_drop]; have := HN.out; omega))
          rw [Nat.zero_add, ← HN.out] at c3
          have hs1 := sum_in (zs.take t) (fun p hp => HALL.out p (List.mem_of_mem_take hp)) (by rw [List.length_take]; omega)
          have hs2 := sum_in (zs.drop t) (fun p hp => HALL.out p (List.mem_of_mem_drop hp)) (by rw [List.length_drop]; have := HN.out; omega)
          have ts := two_sum zs t
          have tw := two_way zs t HALL.out (by have := HN.out; omega)
          generalize sumA (zs.take t) = pa at *
          generalize sumB (zs.take t) = pb at *
          generalize sumA (zs.drop t) = qa at *
          generalize sumB (zs.drop t) = qb at *
          generalize sumA zs = sa at *
          generalize sumB zs = sb at *
          have c4 := fun (w' : World) (g' : Nat) (h0 : w'.cell? ⟨g', 0, none⟩ = some (.complex .f64 (F pa) (F pb))) (h1 : w'.cell? ⟨g', 1, none⟩ = some (.complex .f64 (F qa) (F qb))) =>
            sum_yes (.slice (some ⟨g', 0, none⟩) 2 2) [(pa, pb), (qa, qb)] w' (.inr ⟨g', 0, 2, rfl, fun j hj => match j, hj with
              | 0, _ => ⟨_, _, h0, cnt_F ((inB_iff _).1 hs1.1).1 ((inB_iff _).1 hs1.1).2, cnt_F ((inB_iff _).1 hs1.2).1 ((inB_iff _).1 hs1.2).2⟩
              | 1, _ => ⟨_, _, h1, cnt_F ((inB_iff _).1 hs2.1).1 ((inB_iff _).1 hs2.1).2, cnt_F ((inB_iff _).1 hs2.2).1 ((inB_iff _).1 hs2.2).2⟩⟩) (by simp) tw
          rw [ts.1, ts.2] at c4
          have csa : Cnt (F sa) sa := cnt_F ((inB_iff _).1 hsi.1).1 ((inB_iff _).1 hsi.1).2
          have csb : Cnt (F sb) sb := cnt_F ((inB_iff _).1 hsi.2).1 ((inB_iff _).1 hsi.2).2
          have na : Cnt (F (-sa)) (-sa) := cnt_F (by have := csa.2.1; omega) (by have := csa.1; omega)
          have nb : Cnt (F (-sb)) (-sb) := cnt_F (by have := csb.2.1; omega) (by have := csb.1; omega)
          have oa : (FloatKind.f64.format.order (F sa) (F sa) == some .eq) = true := cnt_self csa
          have ob : (FloatKind.f64.format.order (F sb) (F sb) == some .eq) = true := cnt_self csb
          have C1 := Lib.hid c1
          have C2 := Lib.hid c2
          have C3 := Lib.hid c3
          have C4 := Lib.hid c4
          have HX := Lib.hid (X1.trans hx)
          have hct : ¬ cap' = t := by omega
          have hi1 : (0 : Int) ≤ (t : Int) := by omega
          have hi2 : (t : Int) ≤ (k : Int) := by omega
          have hi3 : (t : Int) ≤ (cap' : Int) := by omega
          have hi4 : (k : Int) ≤ (cap' : Int) := by omega
          have hi5 : (0 : Int) ≤ (k : Int) := by omega
          have hi6 : t ≤ cap' := by omega
          have hi7 : t ≤ k := by omega
          clear c1 c2 c3 c4 hr hw2 hlr hsi hs1 hs2 ts tw q1 HO hx X1 HB HE HP HALL HCL HIN HW HN HZ HT
          go_wp2_with fail
          refine (turn_yes _ _ _ _ _ csa csb).mono ?_
          rintro e w' ⟨rfl, rfl⟩
          go_wp2_with fail
          refine (turn_yes _ _ _ _ _ nb csa).mono ?_
          rintro e w' ⟨rfl, rfl⟩
          go_wp2_with fail
          refine (turn_yes _ _ _ _ _ na nb).mono ?_
          rintro e w' ⟨rfl, rfl⟩
          have t4 := turn_yes _ _ _ _ wr csb na
          rw [Int.neg_neg] at t4
          have T4 := Lib.hid t4
          clear t4
          go_wp2_with fail
          refine T4.out.mono ?_
          rintro e w' ⟨rfl, rfl⟩
          go_wp2_with fail
          go_region_held3 (fun w' => Ext wr w') (repeat (first | with_reducible exact Ext.refl _ | with_reducible assumption | with_reducible refine Ext.alloc ?_ _ | with_reducible refine Ext.drew ?_ | with_reducible refine Ext.drewN ?_ _ | with_reducible refine Ext.setCell ?_ (by simp <;> omega) _ | with_reducible refine Ext.trans ?_ (by assumption))) (first
            | (go_at_call 19; (with_reducible refine (C1.out _ (by repeat (first | with_reducible exact Ext.refl _ | with_reducible assumption | with_reducible refine Ext.alloc ?_ _ | with_reducible refine Ext.drew ?_ | with_reducible refine Ext.drewN ?_ _ | with_reducible refine Ext.setCell ?_ (by simp <;> omega) _ | with_reducible refine Ext.trans ?_ (by assumption)))).mono ?_); rintro e w' ⟨rfl, rfl⟩)
            | (go_at_call 19; (with_reducible refine (C2.out _ (by repeat (first | with_reducible exact Ext.refl _ | with_reducible assumption | with_reducible refine Ext.alloc ?_ _ | with_reducible refine Ext.drew ?_ | with_reducible refine Ext.drewN ?_ _ | with_reducible refine Ext.setCell ?_ (by simp <;> omega) _ | with_reducible refine Ext.trans ?_ (by assumption)))).mono ?_); rintro e w' ⟨rfl, rfl⟩)
            | (go_at_call 19; (with_reducible refine (C3.out _ (by repeat (first | with_reducible exact Ext.refl _ | with_reducible assumption | with_reducible refine Ext.alloc ?_ _ | with_reducible refine Ext.drew ?_ | with_reducible refine Ext.drewN ?_ _ | with_reducible refine Ext.setCell ?_ (by simp <;> omega) _ | with_reducible refine Ext.trans ?_ (by assumption)))).mono ?_); rintro e w' ⟨rfl, rfl⟩)
            | (go_at_call 19; (with_reducible refine (C4.out _ _ (by simp [go_sem]) (by simp [go_sem])).mono ?_); rintro e w' ⟨rfl, rfl⟩)
            | (go_at_call 12; (with_reducible refine (mirror_yes _ _ _ _ _ csa csb).mono ?_); rintro e w' ⟨rfl, rfl⟩)
            | (go_at_call 12; (with_reducible refine (mirror_yes _ _ _ _ _ csb csa).mono ?_); rintro e w' ⟨rfl, rfl⟩)
            | (go_at_call 17; (with_reducible refine (live04 _).mono ?_); rintro e w9 ⟨rfl, X9⟩))
          all_goals go_wp2
          all_goals go_ret
          all_goals exact ⟨rfl, Ext.below (by have := HX.out; repeat (first | with_reducible exact Ext.refl _ | with_reducible assumption | with_reducible refine Ext.alloc ?_ _ | with_reducible refine Ext.drew ?_ | with_reducible refine Ext.drewN ?_ _ | with_reducible refine Ext.setCell ?_ (by simp <;> omega) _ | with_reducible refine Ext.trans ?_ (by assumption)))⟩
end Go.Proofs.Ythdokmhbdjajaaa
