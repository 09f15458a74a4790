/- graph's Roots, Ends and Below. -/
import Derived.Test.YtlalkefbcddbfaaDoorGrF
import Derived.Test.YtlalkefbcddbfaaDoorGrCopy
import Derived.Test.YtlalkefbcddbfaaDoorGIt
import Derived.LoopIn
namespace Go.Proofs.YtlalkefbcddbfaaDoor
open Go.RowKit
set_option linter.unusedVariables false
set_option maxHeartbeats 1000000
attribute [local go_sem] Oper.semAt_some
theorem gListI (x : Nat) (w : World) (hx : x < 18446744073709551616) (hT : Tab w) : Calls Tryd.prog 22 #[.int .u64 x] w (GivesI w ((bitsOf x).map fun (i : Nat) => (i : Int))) := by
  refine (gList x w hx hT).mono ?_
  rintro e w' ⟨v, rfl, hr, hX⟩
  refine ⟨v, rfl, ?_, hX⟩
  unfold RI
  rw [List.length_map, List.map_map]
  unfold rowB at hr
  rw [List.take_length] at hr
  exact hr
/-- three blocks of the call's own: what is read, what is written, the iterator's word -/
structure Cells3 (w : World) (p q r : Nat) (vp vq vr : Value) (W : World) : Prop where
  x : Ext w W
  cp : W.cell? ⟨p, 0, none⟩ = some vp
  cq : W.cell? ⟨q, 0, none⟩ = some vq
  z : W.frozen? ⟨q, 0, none⟩ = false
  cr : W.cell? ⟨r, 0, none⟩ = some vr
theorem Cells3.but {w : World} {p q r : Nat} {vp vq vr : Value} {W W' : World} {S : Nat → Prop} (h : Cells3 w p q r vp vq vr W) (hb : But S W W') (h0 : ∀ i, S i → w.heap.size ≤ i) (hp : ¬ S p) (hq : ¬ S q) (hr : ¬ S r) : Cells3 w p q r vp vq vr W' :=
  ⟨hb.ext h.x h0, hb.cell h.cp hp, hb.cell h.cq hq, hb.frozen h.cq h.z hq, hb.cell h.cr hr⟩
theorem Cells3.set {w : World} {p q r : Nat} {vp vq vr : Value} {W : World} (h : Cells3 w p q r vp vq vr W) (hq : w.heap.size ≤ q) (hpq : p ≠ q) (hrq : r ≠ q) (u : Value) : Cells3 w p q r vp u vr (W.setCell ⟨q, 0, none⟩ u) := by
  refine ⟨h.x.setCell hq _, ?_, World.cell?_setCell_same _ _ _ h.cq, by rw [World.frozen?_setCell]; exact h.z, ?_⟩
  · rw [World.cell?_setCell_other _ _ _ _ (by intro e; cases e; exact hpq rfl)]; exact h.cp
  · rw [World.cell?_setCell_other _ _ _ _ (by intro e; cases e; exact hrq rfl)]; exact h.cr
def isE (ups : List (List Int)) (c : Nat) : Bool := decide ((ups.getD c []).length = 0)
/-- the roots, where the first k are gone through -/
def rootK (ups : List (List Int)) (k : Nat) : Nat := wordOf fun c => decide (c < ups.length) && (decide (k ≤ c) || isE ups c)
theorem rootK_zero {ups : List (List Int)} (h6 : ups.length ≤ 6) : rootK ups 0 = 2 ^ ups.length - 1 := by
  unfold rootK
  rw [← word_full h6]
  congr 1
  funext c
  simp
theorem rootK_skip {ups : List (List Int)} {k : Nat} (he : isE ups k = true) : rootK ups (k + 1) = rootK ups k := by
  unfold rootK
  refine wordOf_congr fun c hc => ?_
  by_cases e : c = k
  · subst e; simp [he]
  · have : (k + 1 ≤ c) ↔ (k ≤ c) := by omega
    simp [this]
theorem rootK_cut {ups : List (List Int)} {k : Nat} (hk : k < 6) (he : isE ups k = false) : lessN (rootK ups k) (2 ^ k) = rootK ups (k + 1) := by
  unfold rootK
  rw [less_word _ _ hk]
  refine wordOf_congr fun c hc => ?_
  by_cases e : c = k
  · subst e; simp [he]
  · have : (k + 1 ≤ c) ↔ (k ≤ c) := by omega
    simp [this, e]
theorem bit_at {ups : List (List Int)} {x k : Nat} (hx : x = allW ups) (hk : k < (bitsOf x).length) : Rt ups ∧ k < ups.length ∧ (bitsOf x)[k] = k := by
  unfold allW at hx
  by_cases h : chk ups = 0
  · rw [if_pos h] at hx
    have rt := chk_zero.1 h
    have hb := bits_full rt.six
    rw [← hx] at hb
    have h1 : k < ups.length := by rw [hb] at hk; simpa using hk
    refine ⟨rt, h1, ?_⟩
    simp only [hb, List.getElem_range]
  · rw [if_neg h] at hx
    subst hx
    rw [bits_zero] at hk
    simp at hk
set_option maxRecDepth 100000 in
theorem gRoots (v : Value) (ups : List (List Int)) (w : World) (hL : ListsV w v ups) (hll : ∀ l ∈ ups, l.length ≤ 1000000) (hn : ups.length ≤ 1000000) (hT : Tab w) :
    Calls Tryd.prog 13 #[v] w (GivesI w (if chk ups = 0 then sel ups.length (isE ups) else [])) := by
  have CA := Lib.hid (fun w' (hx : Ext w w') => g9all v ups w' (hL.ext hx) hll hn)
  have hx := allW_lt ups
  have HT := Lib.hid hT
  have HL := Lib.hid hL
  obtain ⟨a, cap, e, -⟩ := id hL
  subst e
  have hll5 : ∀ k, k < ups.length → (ups.getD k []).length ≤ 1000000 := fun k hk => hll _ (by rw [getD_at _ _ _ hk]; exact List.getElem_mem hk)
  have HLL := Lib.hid hll5
  clear hT hL hll hll5
  obtain ⟨x, hxe⟩ : ∃ x, x = allW ups := ⟨_, rfl⟩
  rw [← hxe] at CA hx
  have HXE := Lib.hid hxe
  clear hxe
  obtain ⟨n, hN⟩ : ∃ n, n = ups.length := ⟨_, rfl⟩
  rw [← hN] at hn CA HL
  have HE := Lib.hid hN
  generalize hG : GivesI w (if chk ups = 0 then sel ups.length (isE ups) else []) = G
  have HG := Lib.hid hG
  rw [← hN]
  clear hN hG
  refine callsIn_wide.1 (callsIn_of_wp_marks (n := 3) Tryd.func13 rfl trivial ?_ rfl)
  simp only [Tryd.ntmps13, List.size_toArray, List.length_cons, List.length_nil, Nat.reduceAdd, Nat.reduceSub, Array.replicate_succ, Array.replicate_zero, List.push_toArray, List.append_toArray, List.nil_append, List.cons_append]
  refine wpIn_wide.2 ?_
  go_wp2_with fail
  refine (CA.out _ ((Ext.refl w).alloc _)).mono ?_
  rintro e w1 ⟨rfl, X1⟩
  have q1 : w1.cell? ⟨w.heap.size, 0, none⟩ = some (.slice a n cap) := X1.cell (by simp [go_sem])
  have E1 : Ext w w1 := ((Ext.refl w).alloc _).trans X1
  have hs1 : w.heap.size < w1.heap.size := World.block_lt_of_cell? w1 _ q1
  clear X1
  go_wp2_with fail
  refine (gAll _ _).mono ?_
  rintro e w2 ⟨rfl, c0, hz, hb2⟩
  have E2' := ((Ext.refl w1).alloc _).trans hb2
  have q2 := E2'.cell q1
  have c2 := hb2.cell (b := w1.heap.size) (o := 0) (v := .int .u64 x) (by simp [go_sem])
  have z2 := hb2.frozen (b := w1.heap.size) (o := 0) (v := .int .u64 x) (by simp [go_sem]) (by simp [go_sem])
  have c0' : w2.cell? ⟨w1.heap.size + 1, 0, none⟩ = some (.int .u64 x) := by simpa using c0
  have E2 := E1.trans E2'
  have hs2 : w2.heap.size = w1.heap.size + 2 := by rw [hz]; simp
  have HS2 := Lib.hid hs2
  clear c0 hz hb2 E2' q1 hs2
  go_wp2
  obtain ⟨rk, hrk⟩ : ∃ rk : Nat → Nat, rk = fun k => if chk ups = 0 then rootK ups k else 0 := ⟨_, rfl⟩
  have HRK := Lib.hid hrk
  have hr0 : rk 0 = x := by
    rw [hrk, HXE.out]
    unfold allW
    by_cases h : chk ups = 0
    · simp only [if_pos h]; exact rootK_zero (chk_zero.1 h).six
    · simp only [if_neg h]
  have J0 : (fun (k : Nat) (W : World) => Cells3 w w.heap.size w1.heap.size (w1.heap.size + 1) (.slice a n cap) (.int .u64 (rk k : Nat)) (.int .u64 x) W) 0 w2 := ⟨E2, q2, by rw [c2, hr0], z2, c0'⟩
  have HJ0 := Lib.hid J0
  clear J0 c2 z2 c0' q2 hrk hr0
  refine range_bits x (w1.heap.size + 1) (fun k W => Cells3 w w.heap.size w1.heap.size (w1.heap.size + 1) (.slice a n cap) (.int .u64 (rk k : Nat)) (.int .u64 x) W) rfl (by omega) rfl (fun k W h => HT.out.ext h.x) (fun k W h => h.cr) ?stab HJ0.out ?hbody ?hend
  case stab =>
    intro k W W' h hb
    have hs := HS2.out
    exact h.but hb (fun i hi => by omega) (by omega) (by omega) (by omega)
  case hbody =>
    intro k hk W hJ hsW
    obtain ⟨rt, hkn, hbk⟩ := bit_at HXE.out hk
    rw [hbk]
    have h6 := rt.six
    have hck := chk_zero.2 rt
    have HRT := Lib.hid rt
    have hrk : ∀ j, rk j = rootK ups j := fun j => by rw [HRK.out]; simp only [if_pos hck]
    have HRK2 := Lib.hid hrk
    clear hJ hrk hck rt hbk hk
    refine region_round_list (by kernel_rfl) ?_
    go_wp2
    refine ⟨rfl, ?_⟩
    intro W5 hJ hs5
    have X5 := hJ.x
    have q5 := hJ.cp
    have c5 := hJ.cq
    have z5 := hJ.z
    rw [HRK2.out] at c5
    obtain ⟨b, off, u, cu, ha, hcell, hI⟩ := HL.out.at X5 (c := k) hkn
    subst ha
    have hkn' : (k : Int) < (n : Int) := by have := HE.out; omega
    have hlen := HLL.out k hkn
    have HJ := Lib.hid hJ
    clear hI hJ
    generalize hm : (ups.getD k []).length = m at *
    have HM := Lib.hid hm
    clear hm
    refine wpIn_block (wpIn_seq (region_round_list (by kernel_rfl) ?_))
    by_cases h0 : m = 0
    · have d1 : decide (0 < m) = false := by simp; omega
      go_wp2
      refine wpIn_cond_false rfl (wpIn_skip ?_)
      refine ⟨?_, rfl, rfl, Nat.le_refl _⟩
      have := HJ.out
      rw [HRK2.out, ← rootK_skip (ups := ups) (k := k) (by unfold isE; rw [HM.out]; simpa using h0), ← HRK2.out] at this
      exact this
    · have d1 : decide (0 < m) = true := by simp; omega
      go_wp2
      refine wpIn_cond_true rfl (region_round_list (by kernel_rfl) ?_)
      have hlt64 : rootK ups k < 64 := word_lt _
      have hcut := rootK_cut (ups := ups) (k := k) (by omega) (by unfold isE; rw [HM.out]; simpa using h0)
      have CW := gWithout (rootK ups k) k W5 (by omega) (by omega)
      rw [hcut] at CW
      have HCW := Lib.hid CW
      clear CW hcut
      generalize rootK ups k = z1 at *
      generalize hz2 : rootK ups (k + 1) = z2 at *
      have HZ2 := Lib.hid hz2
      clear hz2
      go_wp2_with fail
      refine HCW.out.mono ?_
      rintro e w' ⟨rfl, rfl⟩
      have HJ2 := Lib.hid (HJ.out.set (by omega) (by omega) (by omega) (.int .u64 (z2 : Int)))
      go_wp2
      have hs := HS2.out
      have hb := but_setCell W5 ⟨w1.heap.size, 0, none⟩ (.int .u64 (z2 : Int))
      refine ⟨?_, hb.block _ (by omega) (by simp; omega), hb.block _ (by omega) (by simp; omega), hb.size⟩
      rw [HRK2.out, HZ2.out]
      exact HJ2.out
  case hend =>
    intro W' h K4
    have c5 := h.cq
    have X5 := h.x
    have hrk : rk (bitsOf x).length < 18446744073709551616 := by
      rw [HRK.out]
      simp only []
      split
      · have : rootK ups (bitsOf x).length < 64 := word_lt _
        omega
      · decide
    have CL := Lib.hid (fun W (hx : Ext w W) => gListI (rk (bitsOf x).length) W hrk (HT.out.ext hx))
    have HEQ : Hid ((bitsOf (rk (bitsOf x).length)).map (fun (i : Nat) => (i : Int)) = if chk ups = 0 then sel ups.length (isE ups) else []) := Lib.hid (by
      rw [HRK.out, HXE.out]
      simp only []
      unfold allW
      by_cases hc : chk ups = 0
      · rw [if_pos hc, if_pos hc, if_pos hc]
        have h6 := (chk_zero.1 hc).six
        rw [bits_full h6, List.length_range]
        unfold rootK
        rw [← list_word h6]
        congr 2
        refine wordOf_congr fun c hc6 => ?_
        by_cases hcn : c < ups.length
        · have : ¬ ups.length ≤ c := by omega
          simp [hcn, this]
        · simp [hcn]
      · simp [hc, bits_zero])
    clear h hrk
    generalize rk (bitsOf x).length = z at *
    have hK4 : w2.heap.size < W'.heap.size := (Array.getElem?_eq_some_iff.1 K4).1
    have HK4 := Lib.hid K4
    clear K4
    go_wp2_with fail
    refine (CL.out _ X5).mono ?_
    rintro e W6 ⟨v6, rfl, R6, X6⟩
    have K6 := (X6.but (fun _ => False)).heap HK4.out id
    have HR6 := Lib.hid R6
    clear R6
    go_wp2
    refine ⟨by simp, .inl ⟨_, _, rfl, run_takeDeferred K6, ?_⟩⟩
    have BD := but_putObj W6 w2.heap.size (.deferred none)
    refine ⟨_, results_tmp rfl _ _ _, ?_⟩
    rw [← HG.out, ← HEQ.out]
    have hs := HS2.out
    exact ⟨v6, rfl, (show RI _ _ _ _ from BD.row HR6.out (fun g hg e => by have := (World.ownsRow.lt HR6.out g hg).1; omega)).lower X5.size, BD.ext (X5.trans X6) (fun i e => by omega)⟩
end Go.Proofs.YtlalkefbcddbfaaDoor
