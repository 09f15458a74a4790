/- graph's named, reach and Check. -/
import Derived.Test.YtkmfamidahlgiaaGreatDoorGOf
import Derived.Test.YtkmfamidahlgiaaGreatDoorLists
import Derived.Test.YtkmfamidahlgiaaGreatDoorSeq
import Derived.Deep.DeepCutAuto
import Derived.Laws.EntriesVeiled
namespace Go.Proofs.YtkmfamidahlgiaaGreatDoor
open Go.RowKit
set_option linter.unusedVariables false
set_option maxHeartbeats 1000000
theorem getD_at {α : Type} (l : List α) (k : Nat) (d : α) (h : k < l.length) : l.getD k d = l[k] := by simp [h]
theorem named_no (v : Value) (xs : List Int) (n : Nat) (w : World) (h : IntsV w v xs) (hl : xs.length ≤ 1000000) (hok : ¬ ∀ i ∈ xs, okI i = true) :
    Calls Tryz.prog 146 #[v, .int .i64 n] w fun e w' => e = .returned (.bool false) ∧ w = w' := by
  obtain ⟨a, cap, rfl, -⟩ := h.form
  have C := Lib.hid (gOf_no _ xs w h hl hok)
  clear h hok
  go_enter Tryz.func146, Tryz.ntmps146
  go_wp2_with fail
  refine (C.out).mono ?_
  rintro e w' ⟨rfl, rfl⟩
  go_wp2
  go_ret
  exact ⟨rfl, rfl⟩
theorem named_yes (v : Value) (xs : List Int) (n : Nat) (w : World) (h : IntsV w v xs) (hl : xs.length ≤ 1000000) (hok : ∀ i ∈ xs, okI i = true) (hn : n ≤ 6) :
    Calls Tryz.prog 146 #[v, .int .i64 n] w fun e w' => e = .returned (.bool (decide (Named n xs))) ∧ w = w' := by
  have hN := named_iff n hn xs
  have hg := gw_lt xs hok
  obtain ⟨a, cap, rfl, -⟩ := h.form
  have C := Lib.hid (gOf_yes _ xs w h hl hok)
  clear h
  have hf := full_lt (k := n) (by omega)
  have hL := bits_len (gw xs)
  have CF := Lib.hid (gFull (n : Int) n w (by omega))
  by_cases h1 : lessN (gw xs) (2 ^ n - 1) = 0
  · have d1 : (((lessN (gw xs) (2 ^ n - 1) : Nat) : Int) == 0) = true := by rw [h1]; rfl
    have e : decide (Named n xs) = (((bitsOf (gw xs)).length : Int) == (xs.length : Int)) := by
      rw [Bool.eq_iff_iff, decide_eq_true_eq, beq_iff_eq, hN]
      constructor
      · rintro ⟨_, _, h3⟩; omega
      · intro h3; exact ⟨hok, h1, by omega⟩
    rw [e]
    have CI := gInside _ _ w hg hf
    rw [d1] at CI
    have CI := Lib.hid CI
    have CL := Lib.hid (gLen _ w hg)
    generalize gw xs = g at *
    generalize (bitsOf g).length = m at *
    generalize xs.length = xl at *
    clear hN hok h1 e d1 hf hg
    go_enter Tryz.func146, Tryz.ntmps146
    go_wp2_with fail
    refine (C.out).mono ?_
    rintro e w' ⟨rfl, rfl⟩
    go_wp2_with fail
    refine (CF.out).mono ?_
    rintro e w' ⟨rfl, rfl⟩
    go_wp2_with fail
    refine (CI.out).mono ?_
    rintro e w' ⟨rfl, rfl⟩
    go_wp2_with fail
    refine (CL.out).mono ?_
    rintro e w' ⟨rfl, rfl⟩
    go_wp2
    go_ret
    exact ⟨rfl, rfl⟩
  · have d1 : (((lessN (gw xs) (2 ^ n - 1) : Nat) : Int) == 0) = false := by simpa using h1
    have e : decide (Named n xs) = false := by
      rw [decide_eq_false_iff_not, hN]
      rintro ⟨_, h3, _⟩; exact h1 h3
    rw [e]
    have CI := gInside _ _ w hg hf
    rw [d1] at CI
    have CI := Lib.hid CI
    generalize gw xs = g at *
    generalize xs.length = xl at *
    clear hN hok h1 e d1 hf hg hL
    go_enter Tryz.func146, Tryz.ntmps146
    go_wp2_with fail
    refine (C.out).mono ?_
    rintro e w' ⟨rfl, rfl⟩
    go_wp2_with fail
    refine (CF.out).mono ?_
    rintro e w' ⟨rfl, rfl⟩
    go_wp2_with fail
    refine (CI.out).mono ?_
    rintro e w' ⟨rfl, rfl⟩
    go_wp2
    go_ret
    exact ⟨rfl, rfl⟩
theorem named (v : Value) (xs : List Int) (n : Nat) (w : World) (h : IntsV w v xs) (hl : xs.length ≤ 1000000) (hn : n ≤ 6) :
    Calls Tryz.prog 146 #[v, .int .i64 n] w fun e w' => e = .returned (.bool (decide (Named n xs))) ∧ w = w' := by
  by_cases hok : ∀ i ∈ xs, okI i = true
  · exact named_yes v xs n w h hl hok hn
  · have e : decide (Named n xs) = false := by
      rw [decide_eq_false_iff_not, named_iff n hn xs]
      rintro ⟨h3, _⟩; exact hok h3
    rw [e]
    exact named_no v xs n w h hl hok
/-- the climb's blocks: the lists, what was found, the climb itself -/
structure St (w0 : World) (v : Value) (b2 b5 b6 : Nat) (g : Nat) (W : World) : Prop where
  x : Ext w0 W
  up : W.cell? ⟨b2, 0, none⟩ = some v
  fnd : W.cell? ⟨b5, 0, none⟩ = some (.int .u64 (g : Int))
  z : W.frozen? ⟨b5, 0, none⟩ = false
  cl : W.cell? ⟨b6, 0, none⟩ = some (.func (.func 173) #[] #[.pointer (some ⟨b2, 0, none⟩), .pointer (some ⟨b5, 0, none⟩), .pointer (some ⟨b6, 0, none⟩)])
theorem St.set {w0 : World} {v : Value} {b2 b5 b6 g : Nat} {W : World} (h : St w0 v b2 b5 b6 g W) (h5 : w0.heap.size ≤ b5) (n2 : b2 ≠ b5) (n6 : b6 ≠ b5) (g' : Nat) : St w0 v b2 b5 b6 g' (W.setCell ⟨b5, 0, none⟩ (.int .u64 (g' : Int))) := by
  refine ⟨h.x.setCell h5 _, ?_, World.cell?_setCell_same _ _ _ h.fnd, by rw [World.frozen?_setCell]; exact h.z, ?_⟩
  · rw [World.cell?_setCell_other _ _ _ _ (by intro e; cases e; exact n2 rfl)]; exact h.up
  · rw [World.cell?_setCell_other _ _ _ _ (by intro e; cases e; exact n6 rfl)]; exact h.cl
theorem climb (ups : List (List Int)) (hN : Nms ups) (h6 : ups.length ≤ 6) (w0 : World) (a : Option Addr) (cap : Nat) (hL : ListsV w0 (.slice a ups.length cap) ups) (hll : ∀ l ∈ ups, l.length ≤ 1000000) (b2 b5 b6 : Nat) (h5 : w0.heap.size ≤ b5) (n2 : b2 ≠ b5) (n6 : b6 ≠ b5) :
    ∀ (m g c : Nat) (W : World), 64 ≤ g + m → g < 64 → c < ups.length → St w0 (.slice a ups.length cap) b2 b5 b6 g W →
      Calls Tryz.prog 173 #[.int .i64 c, .pointer (some ⟨b2, 0, none⟩), .pointer (some ⟨b5, 0, none⟩), .pointer (some ⟨b6, 0, none⟩)] W fun e W' => (∃ v, e = .returned v) ∧ ∃ g', Dfs ups c (ups.getD c []) g g' ∧ St w0 (.slice a ups.length cap) b2 b5 b6 g' W' := by
  intro m
  induction m with
  | zero => intro g c W h1 h2; omega
  | succ m ih =>
    intro g c W hm hg hc hS
    obtain ⟨b, off, u, cu, ha, hcell0, hI⟩ := hL.at (Ext.refl w0) hc
    subst ha
    have hcell := hS.x.cell hcell0
    have hlen : (ups.getD c []).length ≤ 1000000 := hll _ (by rw [List.getD_eq_getElem?_getD, List.getElem?_eq_getElem hc]; simp)
    obtain ⟨u', cu', eu, hform⟩ := hI.form
    cases eu
    have q2 := hS.up
    have IH := Lib.hid ih
    have HS := Lib.hid hS
    have HF := Lib.hid hform
    have HN := Lib.hid hN
    clear ih hS hI hform hN hL hll hcell0
    obtain ⟨n, hn⟩ : ∃ n, n = (ups.getD c []).length := ⟨_, rfl⟩
    rw [← hn] at hcell
    rw [← hn] at hlen
    have HLN := Lib.hid hn
    clear hn
    go_enter Tryz.func173, Tryz.ntmps173
    go_wp2
    go_loopw [12] (fun i wr => ∃ k : Nat, k ≤ n ∧ i = .int .i64 k ∧ ∃ g1, Dfs ups c ((ups.getD c []).take k) g g1 ∧ St w0 (.slice (some ⟨b, off, none⟩) ups.length cap) b2 b5 b6 g1 wr) (fun i _ => n - (intOf i).toNat)
    case atStart => exact ⟨0, Nat.zero_le _, rfl, g, by simpa using Dfs.refl hg, HS.out⟩
    case round =>
      obtain ⟨k, hk, rfl, g1, hD, hS⟩ := hrel
      clear q2 hcell
      by_cases hlt : k < n
      · have hkl : k < (ups.getD c []).length := by have := HLN.out; omega
        obtain ⟨b1, o1, hu, hcl⟩ := HF.out k hkl
        subst hu
        have hkn : (k : Int) < (n : Int) := by omega
        have hget : (ups.getD c []).getD k 0 = (ups.getD c [])[k] := getD_at _ _ _ hkl
        have hmem : (ups.getD c [])[k] ∈ ups.getD c [] := List.getElem_mem hkl
        have hrange := (HN.out.at c).1 _ hmem
        obtain ⟨a1, ha1⟩ := Int.eq_ofNat_of_zero_le hrange.1
        rw [ha1] at hmem hrange hget
        rw [hget] at hcl
        have hT : (ups.getD c []).take (k + 1) = (ups.getD c []).take k ++ [(a1 : Int)] := by rw [List.take_succ_eq_append_getElem hkl, ha1]
        have HT := Lib.hid hT
        have HR := Lib.hid (show R ups c a1 from hmem)
        have ha6 : a1 < 6 := by omega
        have hal : a1 < ups.length := by omega
        have q1 := hS.x.cell hcl
        have q5 := hS.fnd
        have z5 := hS.z
        have q6 := hS.cl
        have hg1 : g1 < 64 := hD.lt
        have hle : g ≤ g1 := le_of_sub hD.sub
        have HD := Lib.hid hD
        have HSS := Lib.hid hS
        clear hcl hget hT hmem ha1 hrange hS hD hkl
        have CH := gHas g1 a1 wr (by omega) (by omega)
        cases hb : g1.testBit a1
        · rw [hb] at CH
          have HCH := Lib.hid CH
          have HCW := Lib.hid (gWith g1 a1 wr (by omega) (by omega))
          have HS1 := Lib.hid (HSS.out.set h5 n2 n6 (g1 ||| 2 ^ a1))
          have hlt1 := lt_or_one hb
          have hlt2 := or_one_lt hg1 ha6
          clear CH
          go_wp2_with fail
          refine HCH.out.mono ?_
          rintro e w' ⟨rfl, rfl⟩
          go_wp2_with fail
          refine HCW.out.mono ?_
          rintro e w' ⟨rfl, rfl⟩
          clear q1 q6
          have q6 := HS1.out.cl
          generalize hg2 : g1 ||| 2 ^ a1 = g2 at *
          go_wp2_with fail
          generalize wr.setCell ⟨b5, 0, none⟩ (.int .u64 (g2 : Int)) = W2 at *
          refine (IH.out g2 a1 W2 (by omega) hlt2 hal HS1.out).mono ?_
          rintro e W3 ⟨⟨ve, rfl⟩, g3, hD3, hS3⟩
          clear q6 q5 z5
          have HD3 := Lib.hid hD3
          have HS3 := Lib.hid hS3
          clear hD3 hS3
          go_wp2
          exact ⟨⟨k + 1, by omega, by go_num, g3, by rw [HT.out]; exact HD.out.step HR.out (by rw [hg2]; exact HD3.out), HS3.out⟩, by simp [intOf]; omega⟩
        · rw [hb] at CH
          have HCH := Lib.hid CH
          clear CH
          go_wp2_with fail
          refine HCH.out.mono ?_
          rintro e w' ⟨rfl, rfl⟩
          go_wp2
          exact ⟨⟨k + 1, by omega, by go_num, g1, by rw [HT.out]; exact HD.out.skip hb, HSS.out⟩, by simp [intOf]; omega⟩
      · have e : (ups.getD c []).take k = ups.getD c [] := List.take_of_length_le (by have := HLN.out; omega)
        rw [e] at hD
        have HD := Lib.hid hD
        have HS2 := Lib.hid hS
        clear hD e hS
        go_wp2
        go_end0
        exact ⟨⟨_, rfl⟩, g1, HD.out, HS2.out⟩
theorem reach (v : Value) (ups : List (List Int)) (w : World) (c : Nat) (hN : Nms ups) (h6 : ups.length ≤ 6) (hL : ListsV w v ups) (hll : ∀ l ∈ ups, l.length ≤ 1000000) (hc : c < ups.length) :
    Calls Tryz.prog 147 #[v, .int .i64 c] w fun e w' => e = .returned (.int .u64 (abw ups c : Nat)) ∧ Ext w w' := by
  obtain ⟨a, cap, e, -⟩ := id hL
  subst e
  have HL := Lib.hid hL
  have HN := Lib.hid hN
  have HLL := Lib.hid hll
  clear hL hN hll
  go_enter Tryz.func147, Tryz.ntmps147
  go_upto_region 3 with (fail)
  refine settle_wp ?_
  intro w1 hb1
  have q2 : w1.cell? ⟨w.heap.size, 0, none⟩ = some (.slice a ups.length cap) := (hb1.cells.1 _ _ (by simp <;> omega)).trans (by simp [go_sem])
  have q5 : w1.cell? ⟨w.heap.size + 1, 0, none⟩ = some (.int .u64 0) := (hb1.cells.1 _ _ (by simp <;> omega)).trans (by simp [go_sem])
  have z5 : w1.frozen? ⟨w.heap.size + 1, 0, none⟩ = false := (hb1.cells.2 _ _ (by simp <;> omega)).trans (by simp [go_sem])
  have q6 : w1.cell? ⟨w.heap.size + 1 + 1, 0, none⟩ = some .nilFunc := (hb1.cells.1 _ _ (by simp <;> omega)).trans (by simp [go_sem])
  have z6 : w1.frozen? ⟨w.heap.size + 1 + 1, 0, none⟩ = false := (hb1.cells.2 _ _ (by simp <;> omega)).trans (by simp [go_sem])
  have hx1 : Ext w w1 := by repeat (first | with_reducible exact Ext.refl _ | with_reducible assumption | with_reducible refine Ext.alloc ?_ _ | with_reducible refine Ext.drew ?_ | with_reducible refine Ext.drewN ?_ _ | with_reducible refine Ext.setCell ?_ (by simp <;> omega) _ | with_reducible refine Ext.trans ?_ (by assumption))
  clear hb1
  go_wp2_with fail
  refine (climb ups HN.out h6 w a cap HL.out HLL.out w.heap.size (w.heap.size + 1) (w.heap.size + 1 + 1) (by omega) (by omega) (by omega) 64 0 c _ (by omega) (by omega) hc ?hS).mono ?_
  case hS =>
    exact ⟨hx1.setCell (by simp <;> omega) _, by simp [go_sem, q2], by simp [go_sem, q5], by simp [go_sem, z5], by simp [go_sem, q6]⟩
  clear q2 q5 z5 q6 z6
  rintro e W3 ⟨⟨ve, rfl⟩, g3, hD3, hS3⟩
  obtain rfl := hD3.word HN.out h6 (by omega)
  have q5 := hS3.fnd
  have HX := Lib.hid hS3.x
  clear hD3 hS3
  go_wp2
  go_ret
  exact ⟨rfl, HX.out⟩
theorem nms_of {ups : List (List Int)} (h : ∀ j, j < ups.length → Named ups.length (ups.getD j [])) : Nms ups := by
  intro l hl
  obtain ⟨j, hj, rfl⟩ := List.getElem_of_mem hl
  have := h j hj
  rwa [getD_at _ _ _ hj] at this
theorem gCheck (v : Value) (ups : List (List Int)) (w : World) (hL : ListsV w v ups) (hll : ∀ l ∈ ups, l.length ≤ 1000000) (hn : ups.length ≤ 1000000) :
    Calls Tryz.prog 104 #[v] w fun e w' => e = .returned (.int .i64 (chk ups)) ∧ Ext w w' := by
  obtain ⟨a, cap, e, -⟩ := id hL
  subst e
  have HL := Lib.hid hL
  have HLL := Lib.hid hll
  clear hL hll
  obtain ⟨n, hN⟩ : ∃ n, n = ups.length := ⟨_, rfl⟩
  by_cases h1 : ups.length < 1 ∨ 6 < ups.length
  · have e : chk ups = 6 := by unfold chk; rw [if_pos h1]
    rw [e, ← hN]
    rw [← hN] at h1 hn
    clear e hN HL HLL
    rcases h1 with h1 | h1
    · have d : decide ((n : Int) < 1) = true := by simp; omega
      go_enter Tryz.func104, Tryz.ntmps104
      go_wp2
      go_ret
      exact ⟨rfl, Ext.refl _⟩
    · have d : decide ((n : Int) < 1) = false := by simp; omega
      have d2 : (6 : Int) < n := by omega
      go_enter Tryz.func104, Tryz.ntmps104
      go_wp2
      go_ret
      exact ⟨rfl, Ext.refl _⟩
  · have e : chk ups = if ¬ nmB ups = true then 7 else if (List.range ups.length).any (fun c => tab ups (c * 6 + c)) then 8 else 0 := by rw [chk, if_neg h1]
    rw [e, ← hN]
    rw [← hN] at h1 hn
    have d : decide ((n : Int) < 1) = false := by simp; omega
    have d2 : ¬ (6 : Int) < n := by omega
    have hn6 : n ≤ 6 := by omega
    have HE := Lib.hid hN
    clear e hN h1
    generalize hv : (if ¬ nmB ups = true then (7 : Int) else if (List.range n).any (fun c => tab ups (c * 6 + c)) then 8 else 0) = val
    have HV := Lib.hid hv
    clear hv
    go_enter Tryz.func104, Tryz.ntmps104
    go_wp2
    go_loop [16] (fun i => ∃ k : Nat, k ≤ n ∧ i = .int .i64 k ∧ Hid (∀ j, j < k → Named n (ups.getD j []))) (fun i => n - (intOf i).toNat)
    case atStart => exact ⟨0, Nat.zero_le _, rfl, Lib.hid fun j hj => by omega⟩
    case round =>
      obtain ⟨k, hk, rfl, HA⟩ := hrel
      by_cases hlt : k < n
      · have hku : k < ups.length := by have := HE.out; omega
        have hkn : (k : Int) < (n : Int) := by omega
        obtain ⟨b, off, u, cu, ha, hcell, hI⟩ := HL.out.at (Ext.refl w) (c := k) (by have := HE.out; omega)
        subst ha
        have hlen : (ups.getD k []).length ≤ 1000000 := HLL.out _ (by rw [getD_at _ _ _ hku]; exact List.getElem_mem hku)
        have C := named _ _ n w hI hlen hn6
        cases hb : decide (Named n (ups.getD k []))
        · rw [hb] at C
          have HC := Lib.hid C
          have HB := Lib.hid hb
          clear C hI hb HA hku
          generalize (ups.getD k []).length = ul at *
          go_wp2_with fail
          refine HC.out.mono ?_
          rintro e w' ⟨rfl, rfl⟩
          go_wp2
          go_ret
          have hno : ¬ Nms ups := by
            intro hnm
            have h1 := hnm.at k
            have h2 := of_decide_eq_false HB.out
            rw [← HE.out] at h1
            exact h2 h1
          exact ⟨congrArg (fun x => Ending.returned (Value.int .i64 x)) (show (7 : Int) = val by rw [← HV.out, if_pos (fun h => hno (nmB_iff.1 h))]), Ext.refl _⟩
        · rw [hb] at C
          have HC := Lib.hid C
          have HA2 : Hid (∀ j, j < k + 1 → Named n (ups.getD j [])) := Lib.hid (fun j hj => by
            by_cases ej : j = k
            · subst ej; exact of_decide_eq_true hb
            · exact HA.out j (by omega))
          clear C hI hb HA hku
          generalize (ups.getD k []).length = ul at *
          go_wp2_with fail
          refine HC.out.mono ?_
          rintro e w' ⟨rfl, rfl⟩
          go_wp2
          exact ⟨⟨k + 1, by omega, by go_num, HA2⟩, by simp [intOf]; omega⟩
      · have hnm : Nms ups := nms_of fun j hj => by
          have e := HE.out
          rw [← e]
          exact HA.out j (by omega)
        have HNM := Lib.hid hnm
        have hv := HV.out
        rw [if_neg (fun h => h (nmB_iff.2 hnm))] at hv
        have HV2 := Lib.hid hv
        clear hnm hv HA HV
        go_wp2
        go_loopw [28] (fun i wr => ∃ k : Nat, k ≤ n ∧ i = .int .i64 k ∧ Ext w wr ∧ Hid (∀ j, j < k → tab ups (j * 6 + j) = false)) (fun i _ => n - (intOf i).toNat)
        case atStart => exact ⟨0, Nat.zero_le _, rfl, Ext.refl _, Lib.hid fun j hj => by omega⟩
        case round =>
          obtain ⟨c, hc, rfl, hx, HA⟩ := hrel
          by_cases hlt : c < n
          · have hku : c < ups.length := by have := HE.out; omega
            have hkn : (c : Int) < (n : Int) := by omega
            have CR := reach _ ups wr c HNM.out (by have := HE.out; omega) (HL.out.ext hx) HLL.out hku
            rw [← HE.out] at CR
            have HCR := Lib.hid CR
            have CH := fun wr => gHas (abw ups c) c wr (by have := abw_lt ups c; omega) (by omega)
            rw [abw_bit _ _ _ (by omega)] at CH
            cases hb : tab ups (c * 6 + c)
            · rw [hb] at CH
              have HCH := Lib.hid CH
              have HA2 : Hid (∀ j, j < c + 1 → tab ups (j * 6 + j) = false) := Lib.hid (fun j hj => by
                by_cases ej : j = c
                · subst ej; exact hb
                · exact HA.out j (by omega))
              clear CH CR hb HA hku
              generalize abw ups c = g at *
              go_wp2_with fail
              refine HCR.out.mono ?_
              rintro e w3 ⟨rfl, hx3⟩
              go_wp2_with fail
              refine (HCH.out _).mono ?_
              rintro e w' ⟨rfl, rfl⟩
              go_wp2
              exact ⟨⟨c + 1, by omega, by go_num, hx.trans hx3, HA2⟩, by simp [intOf]; omega⟩
            · rw [hb] at CH
              have HCH := Lib.hid CH
              have HB := Lib.hid hb
              clear CH CR hb HA hku
              generalize abw ups c = g at *
              go_wp2_with fail
              refine HCR.out.mono ?_
              rintro e w3 ⟨rfl, hx3⟩
              go_wp2_with fail
              refine (HCH.out _).mono ?_
              rintro e w' ⟨rfl, rfl⟩
              go_wp2
              go_ret
              have hany : ((List.range n).any fun c => tab ups (c * 6 + c)) = true := List.any_eq_true.2 ⟨c, by simpa using hlt, HB.out⟩
              exact ⟨congrArg (fun x => Ending.returned (Value.int .i64 x)) (show (8 : Int) = val by rw [← HV2.out, if_pos hany]), hx.trans hx3⟩
          · go_wp2
            go_ret
            have hno : ¬ ((List.range n).any fun c => tab ups (c * 6 + c)) = true := by
              intro hany
              obtain ⟨j, hj, ht⟩ := List.any_eq_true.1 hany
              have hj' : j < n := by simpa using hj
              have := HA.out j (by omega)
              rw [this] at ht
              cases ht
            exact ⟨congrArg (fun x => Ending.returned (Value.int .i64 x)) (show (0 : Int) = val by rw [← HV2.out, if_neg hno]), hx⟩
end Go.Proofs.YtkmfamidahlgiaaGreatDoor
