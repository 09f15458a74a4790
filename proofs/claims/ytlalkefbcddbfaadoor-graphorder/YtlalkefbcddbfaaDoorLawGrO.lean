/- The walk of GraphOrder. -/
import Derived.Test.YtlalkefbcddbfaaDoorLawGr
import Derived.Test.YtlalkefbcddbfaaDoorGrR3
namespace Go.Proofs.YtlalkefbcddbfaaDoor
open Go.RowKit
set_option linter.unusedVariables false
set_option maxHeartbeats 2000000
attribute [local go_sem] later_cell later_frozen later_const
/-- each once, and behind all above it -/
theorem ord_nodup {d : Nat → Nat} {L : List Nat} (h : L.Pairwise (lex d)) {i x : Nat} (hx : L[i]? = some x) : ¬ x ∈ L.take i := by
  intro hm
  obtain ⟨hi, rfl⟩ := List.getElem?_eq_some_iff.1 hx
  obtain ⟨j, hj, e⟩ := List.getElem_of_mem hm
  have hj' : j < i := by rw [List.length_take] at hj; omega
  have hl := List.pairwise_iff_getElem.1 h j i (by omega) hi hj'
  have e2 : L[j] = L[i] := by rw [← e]; simp
  rw [e2] at hl
  unfold lex at hl
  omega
theorem ord_before {d : Nat → Nat} {L : List Nat} (h : L.Pairwise (lex d)) {i x y : Nat} (hx : L[i]? = some x) (hy : y ∈ L) (hd : d y < d x) : y ∈ L.take i := by
  obtain ⟨hi, rfl⟩ := List.getElem?_eq_some_iff.1 hx
  obtain ⟨j, hj, rfl⟩ := List.getElem_of_mem hy
  have hji : j < i := by
    rcases Nat.lt_trichotomy j i with h1 | h1 | h1
    · exact h1
    · subst h1; omega
    · have hl := List.pairwise_iff_getElem.1 h i j hi hj h1
      unfold lex at hl
      omega
  rw [List.mem_take_iff_getElem]
  exact ⟨j, by omega, rfl⟩
theorem listI_take (L : List Nat) (i : Nat) : (listI L).take i = listI (L.take i) := by unfold listI; rw [List.map_take]
theorem listI_contains (L : List Nat) (x : Nat) : (listI L).contains (x : Int) = decide (x ∈ L) := by
  rw [Bool.eq_iff_iff, List.contains_iff_mem, decide_eq_true_eq]
  unfold listI
  rw [List.mem_map]
  constructor
  · rintro ⟨y, hy, e⟩
    have : y = x := by omega
    subst this
    exact hy
  · intro h; exact ⟨x, h, rfl⟩
theorem ordN_len {ups : List (List Int)} (rt : Rt ups) : (ordN (dep ups) ups.length).length = ups.length := by
  have hs := ordN_sorted (dep ups) ups.length
  have hnd : (ordN (dep ups) ups.length).Nodup := hs.imp fun {a b} h e => by subst e; unfold lex at h; omega
  have h5 : ∀ i, i < ups.length → dep ups i ≤ 5 := fun i hi => dep_five rt (by have := rt.six; omega)
  have hp : (ordN (dep ups) ups.length).Perm (List.range ups.length) := (List.perm_ext_iff_of_nodup hnd List.nodup_range).2 fun y => by rw [ordN_mem h5]; simp
  rw [hp.length_eq, List.length_range]
theorem sel_contains (n : Nat) (p : Nat → Bool) (x : Nat) : (sel n p).contains (x : Int) = (decide (x < n) && p x) := by
  rw [Bool.eq_iff_iff, List.contains_iff_mem, mem_sel, Bool.and_eq_true, decide_eq_true_eq]
  constructor
  · rintro ⟨i, h1, h2, h3⟩
    have : i = x := by omega
    subst this
    exact ⟨h1, h2⟩
  · rintro ⟨h1, h2⟩; exact ⟨x, h1, h2, rfl⟩
/-- met so far: the end is a root, or one of the first roots is above it -/
def metB (ups : List (List Int)) (x k : Nat) : Bool := isE ups x || ((sel ups.length (isE ups)).take k).any fun r => tab ups (x * 6 + r.toNat)
theorem metB_step (ups : List (List Int)) (x k r : Nat) (hk : k < (sel ups.length (isE ups)).length) (hr : (sel ups.length (isE ups)).getD k 0 = (r : Int)) : metB ups x (k + 1) = (metB ups x k || tab ups (x * 6 + r)) := by
  unfold metB
  generalize sel ups.length (isE ups) = l at *
  rw [List.take_succ_eq_append_getElem hk, List.any_append, show l[k] = (r : Int) by rw [← hr]; simp [hk]]
  simp [Bool.or_assoc]
theorem metB_all {ups : List (List Int)} (rt : Rt ups) {x : Nat} (hx : x < ups.length) : metB ups x (sel ups.length (isE ups)).length = true := by
  unfold metB
  rw [List.take_length]
  have h6 := rt.six
  obtain ⟨r, r1, r2, r3⟩ := root_over rt 6 x (ht_six rt (by omega)) hx
  rcases r3 with rfl | r3
  · rw [r2]; rfl
  · rw [Bool.or_eq_true]
    right
    rw [List.any_eq_true]
    exact ⟨(r : Int), mem_sel.2 ⟨r, r1, r2, rfl⟩, by rw [Int.toNat_natCast]; exact (tab_iff rt.nms rt.six (by omega) (by omega)).2 r3⟩
theorem getD_listI {L : List Nat} {i : Nat} (hi : i < L.length) : ∃ x : Nat, L[i]? = some x ∧ (listI L).getD i 0 = (x : Int) := by
  refine ⟨L[i], List.getElem?_eq_getElem hi, ?_⟩
  unfold listI
  simp [hi]
set_option maxRecDepth 100000 in
theorem graphOrder_walk (a : Option Addr) (len cap : Nat) (ups : List (List Int)) (w : World) (h : Came w a len cap ups) (hT : Tab w) :
    Calls Tryd.prog 6 #[.slice a len cap] w fun e w' => e = .returned (.bool true) ∧ Below w.heap.size w w' := by
  have CL := long _ ups w h.l (by rw [h.n]; exact h.m) (fun l hl => (h.each l hl).1)
  have HT := Lib.hid hT
  clear hT
  cases hb : longB ups
  · rw [hb] at CL
    have HCL := Lib.hid CL
    obtain ⟨hn20, hl20⟩ := longB_no hb
    have hn : ups.length ≤ 1000000 := by omega
    have hll : ∀ l ∈ ups, l.length ≤ 1000000 := fun l hl => by have := hl20 l hl; omega
    have CK := Lib.hid (gCheck _ ups w h.l hll hn)
    by_cases hg : chk ups = 0
    · have rt := chk_zero.1 hg
      have hlen := h.n
      have h6 := rt.six
      have c1 := fun w' (hx : Ext w w') => gRoots _ ups w' (h.l.ext hx) hll hn (HT.out.ext hx)
      have c2 := fun w' (hx : Ext w w') => gEnds _ ups w' (h.l.ext hx) hll hn (HT.out.ext hx)
      have c5 := fun w' (hx : Ext w w') => gOrder _ ups w' (h.l.ext hx) hll hn (HT.out.ext hx)
      have c3 := fun (k : Nat) (hk : k < ups.length) w' (hx : Ext w w') => gAbove _ ups (k : Int) w' (h.l.ext hx) hll hn
      rw [if_pos hg] at c1 c2 c5
      have C1 := Lib.hid c1
      have C2 := Lib.hid c2
      have C5 := Lib.hid c5
      have C3 : Hid (∀ (k : Nat) (hk : k < ups.length) w' (hx : Ext w w'), Calls Tryd.prog 17 #[.slice a len cap, .int .i64 k] w' fun e w'' => e = .returned (.int .u64 ((abw ups k : Nat) : Int)) ∧ Ext w' w'') := Lib.hid (fun k hk w' hx => by
        have := c3 k hk w' hx
        rwa [inB_yes rt hk, if_pos rfl, Int.toNat_natCast] at this)
      rw [hg] at CK
      have HRT := Lib.hid rt
      have HE := Lib.hid hlen
      have hlen6 : len ≤ 6 := by omega
      have hOL := ordN_len rt
      rw [hlen] at hOL
      have HOM : Hid (∀ y, y ∈ ordN (dep ups) ups.length ↔ y < ups.length) := Lib.hid (fun y => ordN_mem (fun i hi => dep_five rt (by omega)) y)
      have HOS := Lib.hid (ordN_sorted (dep ups) ups.length)
      rw [hlen] at HOM HOS C5
      clear CL h hb hn20 hl20 hll hn c1 c2 c3 c5 hg rt hlen
      generalize ordN (dep ups) len = L at *
      have l1 := sel_len ups.length (isE ups)
      have l2 := sel_len ups.length (fun c => !aheadB ups c)
      go_enter Tryd.func6, Tryd.ntmps6
      go_wp2_with fail
      refine (HCL.out).mono ?_
      rintro e w' ⟨rfl, rfl⟩
      go_wp2_with fail
      refine CK.out.mono ?_
      rintro e w1 ⟨rfl, X1⟩
      go_wp2_with fail
      refine (C5.out _ X1).mono ?_
      rintro e w2 ⟨v2, rfl, R2, X2⟩
      obtain ⟨a2, cp2, e2, hf2⟩ := R2.ints.form
      have hcp2 := R2.cap
      subst e2
      simp only [capOk] at hcp2
      rw [listI_len, hOL] at hcp2
      have E2 := X1.trans X2
      have HR2 := Lib.hid R2.ints
      rw [listI_len, hOL] at HR2 ⊢
      have HF2 := Lib.hid hf2
      clear R2 X1 X2 hf2
      go_wp2
      go_loopw [4] (fun i wr => ∃ c : Nat, c ≤ len ∧ i = .int .i64 c ∧ Ext w2 wr) (fun i _ => len - (intOf i).toNat)
      case atStart => exact ⟨0, Nat.zero_le _, rfl, Ext.refl _⟩
      case round =>
        obtain ⟨i, hi, rfl, hx⟩ := hrel
        by_cases hlt : i < len
        · have hin : (i : Int) < (len : Int) := by omega
          have hic : i ≤ cp2 := by omega
          obtain ⟨x, hx1, hx2⟩ := getD_listI (L := L) (i := i) (by omega)
          obtain ⟨b1, o1, e1, q0⟩ := HF2.out i (by rw [listI_len]; omega)
          subst e1
          rw [hx2] at q0
          have q1 := hx.cell q0
          have hxu : x < ups.length := by rw [HE.out]; exact (HOM.out x).1 (List.mem_of_getElem? hx1)
          have hal := abw_lt ups x
          have CLs := Lib.hid (fun w' (hx : Ext w w') => gListI (abw ups x) w' (by omega) (HT.out.ext hx))
          rw [above_list x HRT.out (by omega)] at CLs
          have HA := Lib.hid (C3.out x hxu)
          have E3 := E2.trans hx
          -- the front of the order
          have hfr : IntsV w2 (.slice (some ⟨b1, o1, none⟩) i cp2) (listI (L.take i)) := by
            have := intsV_front HR2.out (k := i) (by rw [listI_len]; omega) i (by rw [listI_len]; omega)
            rwa [listI_take] at this
          have HFR := Lib.hid hfr
          have HNO := Lib.hid (ord_nodup HOS.out hx1)
          have HBE : Hid (∀ y, y < ups.length → tab ups (x * 6 + y) = true → y ∈ L.take i) := Lib.hid (fun y hy ht => ord_before HOS.out hx1 ((HOM.out y).2 (by rw [← HE.out]; exact hy)) (dep_above HRT.out ((tab_iff HRT.out.nms HRT.out.six (by omega) (by omega)).1 ht)))
          have hlf : (listI (L.take i)).length ≤ 1000000 := by rw [listI_len, List.length_take]; omega
          clear hfr hx1 hx2 q0
          go_wp2_with fail
          refine (HA.out _ E3).mono ?_
          rintro e w4 ⟨rfl, X4⟩
          have E4 := E3.trans X4
          go_wp2_with fail
          refine (CLs.out _ E4).mono ?_
          rintro e w5 ⟨v5, rfl, R5, X5⟩
          obtain ⟨a5, cp5, e5, hf5⟩ := R5.ints.form
          subst e5
          have HF5 := Lib.hid hf5
          have hsl := sel_len ups.length (fun y => tab ups (x * 6 + y))
          have E25 : Ext w2 w5 := (hx.trans X4).trans X5
          have HE25 := Lib.hid E25
          have q5 := (X4.trans X5).cell q1
          clear hf5 R5 X4 X5 E4 E3 HA CLs q1 E25
          obtain ⟨m, hm⟩ : ∃ m, m = (sel ups.length fun y => tab ups (x * 6 + y)).length := ⟨_, rfl⟩
          rw [← hm] at hsl ⊢
          have HM := Lib.hid hm
          clear hm
          go_wp2
          go_loopw [6] (fun i wr => ∃ j : Nat, j ≤ m ∧ i = .int .i64 j ∧ Ext w5 wr) (fun i _ => m - (intOf i).toNat)
          case atStart => exact ⟨0, Nat.zero_le _, rfl, Ext.refl _⟩
          case round =>
            obtain ⟨j, hj, rfl, hx5⟩ := hrel
            by_cases hlt2 : j < m
            · have hjs : j < (sel ups.length fun y => tab ups (x * 6 + y)).length := by have := HM.out; omega
              obtain ⟨b6, o6, e6, q6⟩ := HF5.out j hjs
              subst e6
              have hjm : (j : Int) < (m : Int) := by omega
              have hmem := List.getElem_mem hjs
              rw [getD_at _ _ _ hjs] at q6
              obtain ⟨y, y1, y2, y3⟩ := mem_sel.1 hmem
              rw [← y3] at q6
              have q7 := hx5.cell q6
              have CH := fun (g : Later wr) => rHas _ (listI (L.take i)) (y : Int) g.world (HFR.out.ext ((HE25.out.trans hx5).trans g.ok)) hlf
              rw [listI_contains, decide_eq_true (HBE.out y y1 y2)] at CH
              have HCH := Lib.hid CH
              clear CH hmem y2 y3 q6 hjs
              go_wp2
              refine wp_region_later (by kernel_rfl) (by kernel_rfl) ?_
              have lq := fun (g : Later wr) => g.ok.cell q7
              repeat (go_big_quiet_step ((fail)))
              go_big_quiet_step ((go_at_call 28; exact laterS (HCH.out _)))
              repeat (go_big_quiet_step ((fail)))
              refine wpQuiet_nil ?_
              intro w6 hl6
              have X6 := laters_ext hl6
              clear hl6 lq
              go_wp2
              exact ⟨⟨j + 1, by omega, by go_num, hx5.trans X6⟩, by simp [intOf]; omega⟩
            · have q7 := hx5.cell q5
              have CH := fun (g : Later wr) => rHas _ (listI (L.take i)) (x : Int) g.world (HFR.out.ext ((HE25.out.trans hx5).trans g.ok)) hlf
              rw [listI_contains, decide_eq_false HNO.out] at CH
              have HCH := Lib.hid CH
              clear CH
              go_wp2
              refine wp_region_later (by kernel_rfl) (by kernel_rfl) ?_
              have lq := fun (g : Later wr) => g.ok.cell q7
              repeat (go_big_quiet_step ((fail)))
              go_big_quiet_step ((go_at_call 28; exact laterS (HCH.out _)))
              repeat (go_big_quiet_step ((fail)))
              refine wpQuiet_nil ?_
              intro w6 hl6
              have X6 := laters_ext hl6
              clear hl6 lq
              go_wp2
              exact ⟨⟨i + 1, by omega, by go_num, (HE25.out.trans hx5).trans X6⟩, by simp [intOf]; omega⟩
        · have E3 := E2.trans hx
          clear hx
          go_wp2_with fail
          refine (C2.out _ E3).mono ?_
          rintro e w4 ⟨v4, rfl, R4, X4⟩
          obtain ⟨a4, cp4, e4, hf4⟩ := R4.ints.form
          subst e4
          have HF4 := Lib.hid hf4
          have E4 := E3.trans X4
          clear R4 X4 hf4 E3
          go_wp2_with fail
          refine (C1.out _ E4).mono ?_
          rintro e w5 ⟨v5, rfl, R5, X5⟩
          obtain ⟨a5, cp5, e5, hf5⟩ := R5.ints.form
          subst e5
          have HF5 := Lib.hid hf5
          have HI5 := Lib.hid R5.ints
          have E5 := E4.trans X5
          have HX5 := Lib.hid X5
          clear R5 X5 hf5 E4
          obtain ⟨m4, hm4⟩ : ∃ m, m = (sel ups.length fun c => !aheadB ups c).length := ⟨_, rfl⟩
          obtain ⟨m5, hm5⟩ : ∃ m, m = (sel ups.length (isE ups)).length := ⟨_, rfl⟩
          rw [← hm4] at l2 ⊢
          rw [← hm5] at l1 HI5 ⊢
          have HM4 := Lib.hid hm4
          have HM5 := Lib.hid hm5
          clear hm4 hm5
          go_wp2
          go_loopw [9] (fun i wr => ∃ c : Nat, c ≤ m4 ∧ i = .int .i64 c ∧ Ext w5 wr) (fun i _ => m4 - (intOf i).toNat)
          case atStart => exact ⟨0, Nat.zero_le _, rfl, Ext.refl _⟩
          case round =>
            obtain ⟨i, hi, rfl, hx⟩ := hrel
            by_cases hlt3 : i < m4
            · have him : (i : Int) < (m4 : Int) := by omega
              have his : i < (sel ups.length fun c => !aheadB ups c).length := by have := HM4.out; omega
              obtain ⟨b1, o1, e1, q0⟩ := HF4.out i his
              subst e1
              have hmem := List.getElem_mem his
              rw [getD_at _ _ _ his] at q0
              obtain ⟨x, x1, x2, x3⟩ := mem_sel.1 hmem
              rw [← x3] at q0
              have q1' := HX5.out.cell q0
              have q1 := hx.cell q1'
              have CH := rHas _ (sel ups.length (isE ups)) (x : Int) wr (HI5.out.ext hx) (by have := HM5.out; omega)
              rw [sel_contains, decide_eq_true x1, Bool.true_and] at CH
              have HCH := Lib.hid CH
              have hm0 : isE ups x = metB ups x 0 := by unfold metB; simp
              have HM0 := Lib.hid hm0
              have HMA := Lib.hid (metB_all HRT.out x1)
              have HA := Lib.hid (C3.out x x1)
              have HGH := Lib.hid (fun (r : Nat) (hr : r < 6) w' => (by have := gHasAb ups (r : Int) x w'; rwa [bcB_nat _ _ _ hr] at this : Calls Tryd.prog 26 #[.int .u64 (abw ups x : Nat), .int .i64 r] w' fun e w'' => e = .returned (.bool (tab ups (x * 6 + r))) ∧ w' = w''))
              clear CH hmem x2 x3 q0 his hm0
              rw [HM0.out] at HCH
              go_wp2_with fail
              refine HCH.out.mono ?_
              rintro e w' ⟨rfl, rfl⟩
              go_wp2
              go_loopw [10, 11] (fun mt ii wr2 => ∃ j : Nat, j ≤ m5 ∧ ii = .int .i64 j ∧ mt = .bool (metB ups x j) ∧ Ext w5 wr2) (fun _ ii _ => m5 - (intOf ii).toNat)
              case atStart => exact ⟨0, Nat.zero_le _, rfl, rfl, hx⟩
              case round =>
                obtain ⟨j, hj, rfl, rfl, hx6⟩ := hrel
                by_cases hlt4 : j < m5
                · have hjm : (j : Int) < (m5 : Int) := by omega
                  have hjs : j < (sel ups.length (isE ups)).length := by have := HM5.out; omega
                  obtain ⟨b6, o6, e6, q6⟩ := HF5.out j hjs
                  subst e6
                  have hmem := List.getElem_mem hjs
                  have hg6 := getD_at (sel ups.length (isE ups)) j 0 hjs
                  obtain ⟨r, r1, r2, r3⟩ := mem_sel.1 hmem
                  rw [← r3] at hg6
                  rw [hg6] at q6
                  have q7 := hx6.cell q6
                  have q8 := hx6.cell q1'
                  have HST := Lib.hid (metB_step ups x j r hjs hg6)
                  have HG2 := Lib.hid (HGH.out r (by omega))
                  have HA2 := Lib.hid (fun (g : Later wr) => HA.out g.world ((E5.trans hx6).trans g.ok))
                  clear hmem hg6 r2 r3 q6 hjs
                  generalize hmt : metB ups x j = mt at *
                  generalize tab ups (x * 6 + r) = tr at *
                  generalize abw ups x = ax at *
                  clear hmt
                  cases mt
                  · go_wp2
                    refine wp_region_later (by kernel_rfl) (by kernel_rfl) ?_
                    have lq := fun (g : Later wr) => g.ok.cell q7
                    have lp := fun (g : Later wr) => g.ok.cell q8
                    repeat (go_big_quiet_step ((fail)))
                    go_big_quiet_step ((go_at_call 17; exact laterC (HA2.out _)))
                    repeat (go_big_quiet_step ((fail)))
                    go_big_quiet_step ((go_at_call 26; exact laterS (HG2.out _)))
                    repeat (go_big_quiet_step ((fail)))
                    refine wpQuiet_nil ?_
                    intro w6 hl6
                    have X6 := laters_ext hl6
                    clear hl6 lq lp
                    go_wp2
                    exact ⟨⟨j + 1, by omega, by go_num, by rw [HST.out]; simp, hx6.trans X6⟩, by simp [intOf]; omega⟩
                  · go_wp2
                    refine wp_region_later (by kernel_rfl) (by kernel_rfl) ?_
                    repeat (go_big_quiet_step ((fail)))
                    refine wpQuiet_nil ?_
                    intro w6 hl6
                    have X6 := laters_ext hl6
                    clear hl6
                    go_wp2
                    exact ⟨⟨j + 1, by omega, by go_num, by rw [HST.out]; simp, hx6.trans X6⟩, by simp [intOf]; omega⟩
                · have hmt : metB ups x j = true := by rw [show j = (sel ups.length (isE ups)).length by have := HM5.out; omega]; exact HMA.out
                  rw [hmt]
                  clear hmt
                  go_wp2
                  exact ⟨⟨i + 1, by omega, by go_num, hx6⟩, by simp [intOf]; omega⟩
            · have E6 := E5.trans hx
              clear hx
              go_wp2_with fail
              refine (live9 _ (HT.out.ext E6)).mono ?_
              rintro e w7 ⟨rfl, X7⟩
              go_wp2
              go_ret
              exact ⟨rfl, (E6.trans X7).below⟩
    · have k : (chk ups != 0) = true := by simpa using hg
      have k2 : (chk ups == 0) = false := by simpa using hg
      generalize chk ups = g at *
      clear CL h hb hn20 hl20 hll hn hg
      go_enter Tryd.func6, Tryd.ntmps6
      go_wp2_with fail
      refine (HCL.out).mono ?_
      rintro e w' ⟨rfl, rfl⟩
      go_wp2_with fail
      refine CK.out.mono ?_
      rintro e w1 ⟨rfl, X1⟩
      go_wp2_with fail
      refine (live9 _ (HT.out.ext X1)).mono ?_
      rintro e w4 ⟨rfl, X4⟩
      go_wp2
      go_ret
      exact ⟨rfl, (X1.trans X4).below⟩
  · rw [hb] at CL
    have HCL := Lib.hid CL
    clear CL h hb
    go_enter Tryd.func6, Tryd.ntmps6
    go_wp2_with fail
    refine (HCL.out).mono ?_
    rintro e w' ⟨rfl, rfl⟩
    go_wp2_with fail
    refine (live9 _ HT.out).mono ?_
    rintro e w4 ⟨rfl, X4⟩
    go_wp2
    go_ret
    exact ⟨rfl, X4.below⟩
end Go.Proofs.YtlalkefbcddbfaaDoor
