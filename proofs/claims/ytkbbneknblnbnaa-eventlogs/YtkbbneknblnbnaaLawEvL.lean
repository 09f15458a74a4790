/- The walk of EventLogs. -/
import Derived.Test.YtkbbneknblnbnaaEvL
import Derived.Test.YtkbbneknblnbnaaEvG
import Derived.Test.YtkbbneknblnbnaaEvB
import Derived.Test.YtkbbneknblnbnaaEv2
import Derived.Test.YtkbbneknblnbnaaOpenE
import Derived.Test.YtkbbneknblnbnaaGrow
namespace Go.Proofs.Ytkbbneknblnbnaa
open Go.RowKit
set_option linter.unusedVariables false
set_option linter.unusedSimpArgs false
set_option maxHeartbeats 4000000
attribute [local go_sem] later_cell later_frozen later_const
set_option maxRecDepth 100000 in
theorem logs_mid (a : Option Addr) (cap : Nat) (L : List Ev) (n : Int) (k : Nat) (dv : Value) (ds : List Int) (w : World) (hE : EvsV w w.heap.size (.slice a L.length cap) L) (hD : Dat w w.heap.size dv ds) (h200 : L.length ≤ 200) (h100 : ∀ e ∈ L, e.d.length ≤ 100) (hds : ds.length ≤ 100) (hlg : lng L 200 = false) (hn : n = k) (hk : k < L.length) :
    Calls Try.prog 3 #[.slice a L.length cap, .int .i64 n, dv] w fun e w' => e = .returned (.bool true) ∧ Below w.heap.size w w' := by
  have HE := Lib.hid hE
  have HD := Lib.hid hD
  have CL := Lib.hid (eLong (.slice a L.length cap) L 200 w hE (by decide))
  rw [hlg] at CL
  obtain ⟨da, dc, ed⟩ := hD.len
  subst ed
  have hd6 : ∀ e ∈ L, e.d.length ≤ 1000000 := fun e he => by have := h100 e he; omega
  have HD6 := Lib.hid hd6
  have H100 := Lib.hid h100
  have hkI : (k : Int) < (L.length : Int) := by omega
  have hkJ : ¬ (L.length : Int) ≤ (k : Int) := by omega
  have hkK : (k : Int) ≤ (L.length : Int) := by omega
  have hk0 : ¬ (k : Int) < 0 := by omega
  obtain ⟨b, off, u, ea, -⟩ := HE.out.at (Ext.refl w) hk
  subst ea
  have hcap : L.length ≤ cap := by obtain ⟨a', cap', e, h1, _⟩ := HE.out; cases e; exact h1
  have HSL := Lib.hid (shV_drop HE.out (by omega : k ≤ L.length))
  subst hn
  have hdl : ¬ (100 : Int) < (ds.length : Int) := by omega
  clear hE hD hlg hd6 h100
  go_enter Try.func3, Try.ntmps3
  go_wp2_with fail
  refine CL.out.mono ?_
  rintro e w2 ⟨rfl, X2⟩
  have HX2 := Lib.hid X2
  clear X2
  have CN := Lib.hid (fun w' => eNote_nil ⟨1, 0, 0, 0, 0, 0, []⟩ (.slice none 0 0) w')
  unfold evA at CN
  go_wp2_with fail
  refine (CN.out _).mono ?_
  rintro e w3 ⟨rfl, X3⟩
  have HX3 := Lib.hid (HX2.out.trans X3)
  clear X3 HX2 CN
  go_wp2_with fail
  refine (eLen_nil _).mono ?_
  rintro e w' ⟨rfl, rfl⟩
  go_wp2_with fail
  refine (eFrom_nil _).mono ?_
  rintro e w' ⟨rfl, rfl⟩
  go_wp2_with fail
  refine (eFill_nil _ _).mono ?_
  rintro e w' ⟨rfl, rfl⟩
  go_wp2_with fail
  refine (eNew _).mono ?_
  rintro e w4 ⟨rfl, hw4⟩
  have G4 := LG.new w w3 HX3.out
  rw [← hw4] at G4
  have HX4 := Lib.hid (HX3.out.trans (by rw [hw4]; exact (Ext.refl w3).alloc _) : Ext w w4)
  have HG4 := Lib.hid G4
  clear G4 hw4 HX3
  generalize w3.heap.size = lb at *
  go_wp2
  go_loopw [9] (fun i wr => ∃ j : Nat, j ≤ L.length ∧ i = .int .i64 j ∧ ∃ v, LG w wr lb v (L.take j) ∧ Ext w wr) (fun i _ => L.length - (intOf i).toNat)
  case atStart => exact ⟨0, Nat.zero_le _, rfl, _, by rw [List.take_zero]; exact HG4.out, HX4.out⟩
  case round =>
    obtain ⟨j, hj, rfl, v, hG, hx⟩ := hrel
    clear HG4 HX4
    by_cases hlt : j < L.length
    case pos =>
      have hlt' : (j : Int) < (L.length : Int) := by omega
      obtain ⟨b, off, u, ea, A⟩ := HE.out.at hx hlt
      cases ea
      obtain ⟨ua, uc, eu⟩ := A.d.len
      have hst : L.take (j + 1) = L.take j ++ [L[j]] := List.take_succ_eq_append_getElem hlt
      have hxd := H100.out L[j] (List.getElem_mem hlt)
      have CN := fun (h : u = .slice ua L[j].d.length uc) => eNote w wr lb v (L.take j) L[j] u hG hx A.d (by rw [List.length_take]; omega) (by omega)
      have CN2 := CN eu
      rw [← hst] at CN2
      generalize L[j] = x at *
      generalize hul : x.d.length = ul at eu
      subst eu
      unfold evA at CN2
      have HCN := Lib.hid CN2
      obtain ⟨c0, c1, c2, c3, c4, c5, c6, -⟩ := A
      clear CN CN2 hst hG hx hul
      go_wp2_with fail
      refine HCN.out.mono ?_
      rintro e w5 ⟨rfl, v5, G5, X5⟩
      have HG5 := Lib.hid G5
      have HX5 := Lib.hid X5
      clear G5 X5
      go_wp2
      exact ⟨⟨j + 1, by omega, by go_num, v5, HG5.out, HX5.out⟩, by simp [intOf]; omega⟩
    obtain rfl : j = L.length := by omega
    rw [List.take_length] at hG
    have HG := Lib.hid hG
    have HX := Lib.hid hx
    clear hG hx hlt
    have CLen := Lib.hid (fun w' (hz : Ext wr w') => eLen w w' lb v L (HG.out.ext hz))
    have CF1 := Lib.hid (fun w' (hz : Ext wr w') => eFrom_pos w w' lb v L k k (HG.out.ext hz) (by omega) HD6.out ⟨rfl, Nat.zero_le _⟩)
    have CF2 := Lib.hid (fun w' (hz : Ext wr w') => eFrom_neg w w' lb v L (-1) 0 (HG.out.ext hz) (by omega) HD6.out ⟨by decide, rfl⟩)
    rw [List.drop_zero] at CF2
    go_upto_region 12 with (fail)
    refine wp_region_held_drew (S := fun w' => Ext wr w') (by kernel_rfl) ?hbeg (fun hHeld => ?_)
    case hbeg => exact (Ext.refl wr).drew
    have hHeld0 : Ext wr wr := by first | exact Ext.refl _ | assumption
    first
      | (refine take_at (i := 0) (v := ?_) rfl rfl (by kernel_rfl) (by kernel_rfl) (by kernel_rfl) (fun _ _ _ h => h) (Or.inl ⟨by rfl, ?hy⟩) (by assumption) ?_
         case hy => (intro wz hSw; (try dsimp only at hSw); go_simp <;> with_reducible rfl)
         simp only [List.setIfInBounds_toArray, List.set_cons_zero, List.set_cons_succ])
      | (refine take_at (i := 0) (v := undef) rfl rfl (by kernel_rfl) (by kernel_rfl) (by kernel_rfl) (fun _ _ _ h => h) (Or.inr ⟨by rfl, rfl⟩) (by assumption) ?_
         simp only [List.setIfInBounds_toArray, List.set_cons_zero, List.set_cons_succ])
    first
      | (refine take_at (i := 2) (v := ?_) rfl rfl (by kernel_rfl) (by kernel_rfl) (by kernel_rfl) (fun _ _ _ h => h) (Or.inl ⟨by rfl, ?hy⟩) (by assumption) ?_
         case hy => (intro wz hSw; (try dsimp only at hSw); go_simp <;> with_reducible rfl)
         simp only [List.setIfInBounds_toArray, List.set_cons_zero, List.set_cons_succ])
      | (refine take_at (i := 2) (v := undef) rfl rfl (by kernel_rfl) (by kernel_rfl) (by kernel_rfl) (fun _ _ _ h => h) (Or.inr ⟨by rfl, rfl⟩) (by assumption) ?_
         simp only [List.setIfInBounds_toArray, List.set_cons_zero, List.set_cons_succ])
    first
      | (refine take_at (i := 3) (v := ?_) rfl rfl (by kernel_rfl) (by kernel_rfl) (by kernel_rfl) (fun _ _ _ h => h) (Or.inl ⟨by rfl, ?hy⟩) (by assumption) ?_
         case hy => (intro wz hSw; (try dsimp only at hSw); go_simp <;> with_reducible rfl)
         simp only [List.setIfInBounds_toArray, List.set_cons_zero, List.set_cons_succ])
      | (refine take_at (i := 3) (v := undef) rfl rfl (by kernel_rfl) (by kernel_rfl) (by kernel_rfl) (fun _ _ _ h => h) (Or.inr ⟨by rfl, rfl⟩) (by assumption) ?_
         simp only [List.setIfInBounds_toArray, List.set_cons_zero, List.set_cons_succ])
    refine call_at (i := 1) (F := 10) (CLen.out _ (by repeat (first | with_reducible exact Ext.refl _ | with_reducible assumption | with_reducible refine Ext.alloc ?_ _ | with_reducible refine Ext.drew ?_ | with_reducible refine Ext.drewN ?_ _ | with_reducible refine Ext.setCell ?_ (by simp <;> omega) _ | with_reducible refine Ext.trans ?_ (by assumption)))) rfl rfl (by kernel_rfl) (by rfl) (by first | rfl | (go_simp <;> rfl)) ?_
    rintro e w' ⟨rfl, rfl⟩
    refine ⟨_, rfl, by assumption, ?_⟩
    simp only [List.setIfInBounds_toArray, List.set_cons_zero, List.set_cons_succ]
    first
      | (refine take_at (i := 4) (v := ?_) rfl rfl (by kernel_rfl) (by kernel_rfl) (by kernel_rfl) (fun _ _ _ h => h) (Or.inl ⟨by rfl, ?hy⟩) (by assumption) ?_
         case hy => (intro wz hSw; (try dsimp only at hSw); go_simp <;> with_reducible rfl)
         simp only [List.setIfInBounds_toArray, List.set_cons_zero, List.set_cons_succ])
      | (refine take_at (i := 4) (v := undef) rfl rfl (by kernel_rfl) (by kernel_rfl) (by kernel_rfl) (fun _ _ _ h => h) (Or.inr ⟨by rfl, rfl⟩) (by assumption) ?_
         simp only [List.setIfInBounds_toArray, List.set_cons_zero, List.set_cons_succ])
    first
      | (refine take_at (i := 5) (v := ?_) rfl rfl (by kernel_rfl) (by kernel_rfl) (by kernel_rfl) (fun _ _ _ h => h) (Or.inl ⟨by rfl, ?hy⟩) (by assumption) ?_
         case hy => (intro wz hSw; (try dsimp only at hSw); go_simp <;> with_reducible rfl)
         simp only [List.setIfInBounds_toArray, List.set_cons_zero, List.set_cons_succ])
      | (refine take_at (i := 5) (v := undef) rfl rfl (by kernel_rfl) (by kernel_rfl) (by kernel_rfl) (fun _ _ _ h => h) (Or.inr ⟨by rfl, rfl⟩) (by assumption) ?_
         simp only [List.setIfInBounds_toArray, List.set_cons_zero, List.set_cons_succ])
    first
      | (refine take_at (i := 6) (v := ?_) rfl rfl (by kernel_rfl) (by kernel_rfl) (by kernel_rfl) (fun _ _ _ h => h) (Or.inl ⟨by rfl, ?hy⟩) (by assumption) ?_
         case hy => (intro wz hSw; (try dsimp only at hSw); go_simp <;> with_reducible rfl)
         simp only [List.setIfInBounds_toArray, List.set_cons_zero, List.set_cons_succ])
      | (refine take_at (i := 6) (v := undef) rfl rfl (by kernel_rfl) (by kernel_rfl) (by kernel_rfl) (fun _ _ _ h => h) (Or.inr ⟨by rfl, rfl⟩) (by assumption) ?_
         simp only [List.setIfInBounds_toArray, List.set_cons_zero, List.set_cons_succ])
    first
      | (refine take_at (i := 7) (v := ?_) rfl rfl (by kernel_rfl) (by kernel_rfl) (by kernel_rfl) (fun _ _ _ h => h) (Or.inl ⟨by rfl, ?hy⟩) (by assumption) ?_
         case hy => (intro wz hSw; (try dsimp only at hSw); go_simp <;> with_reducible rfl)
         simp only [List.setIfInBounds_toArray, List.set_cons_zero, List.set_cons_succ])
      | (refine take_at (i := 7) (v := undef) rfl rfl (by kernel_rfl) (by kernel_rfl) (by kernel_rfl) (fun _ _ _ h => h) (Or.inr ⟨by rfl, rfl⟩) (by assumption) ?_
         simp only [List.setIfInBounds_toArray, List.set_cons_zero, List.set_cons_succ])
    first
      | (refine take_at (i := 9) (v := ?_) rfl rfl (by kernel_rfl) (by kernel_rfl) (by kernel_rfl) (fun _ _ _ h => h) (Or.inl ⟨by rfl, ?hy⟩) (by assumption) ?_
         case hy => (intro wz hSw; (try dsimp only at hSw); go_simp <;> with_reducible rfl)
         simp only [List.setIfInBounds_toArray, List.set_cons_zero, List.set_cons_succ])
      | (refine take_at (i := 9) (v := undef) rfl rfl (by kernel_rfl) (by kernel_rfl) (by kernel_rfl) (fun _ _ _ h => h) (Or.inr ⟨by rfl, rfl⟩) (by assumption) ?_
         simp only [List.setIfInBounds_toArray, List.set_cons_zero, List.set_cons_succ])
    first
      | (refine take_at (i := 10) (v := ?_) rfl rfl (by kernel_rfl) (by kernel_rfl) (by kernel_rfl) (fun _ _ _ h => h) (Or.inl ⟨by rfl, ?hy⟩) (by assumption) ?_
         case hy => (intro wz hSw; (try dsimp only at hSw); go_simp <;> with_reducible rfl)
         simp only [List.setIfInBounds_toArray, List.set_cons_zero, List.set_cons_succ])
      | (refine take_at (i := 10) (v := undef) rfl rfl (by kernel_rfl) (by kernel_rfl) (by kernel_rfl) (fun _ _ _ h => h) (Or.inr ⟨by rfl, rfl⟩) (by assumption) ?_
         simp only [List.setIfInBounds_toArray, List.set_cons_zero, List.set_cons_succ])
    first
      | (refine take_at (i := 11) (v := ?_) rfl rfl (by kernel_rfl) (by kernel_rfl) (by kernel_rfl) (fun _ _ _ h => h) (Or.inl ⟨by rfl, ?hy⟩) (by assumption) ?_
         case hy => (intro wz hSw; (try dsimp only at hSw); go_simp <;> with_reducible rfl)
         simp only [List.setIfInBounds_toArray, List.set_cons_zero, List.set_cons_succ])
      | (refine take_at (i := 11) (v := undef) rfl rfl (by kernel_rfl) (by kernel_rfl) (by kernel_rfl) (fun _ _ _ h => h) (Or.inr ⟨by rfl, rfl⟩) (by assumption) ?_
         simp only [List.setIfInBounds_toArray, List.set_cons_zero, List.set_cons_succ])
    first
      | (refine take_at (i := 12) (v := ?_) rfl rfl (by kernel_rfl) (by kernel_rfl) (by kernel_rfl) (fun _ _ _ h => h) (Or.inl ⟨by rfl, ?hy⟩) (by assumption) ?_
         case hy => (intro wz hSw; (try dsimp only at hSw); go_simp <;> with_reducible rfl)
         simp only [List.setIfInBounds_toArray, List.set_cons_zero, List.set_cons_succ])
      | (refine take_at (i := 12) (v := undef) rfl rfl (by kernel_rfl) (by kernel_rfl) (by kernel_rfl) (fun _ _ _ h => h) (Or.inr ⟨by rfl, rfl⟩) (by assumption) ?_
         simp only [List.setIfInBounds_toArray, List.set_cons_zero, List.set_cons_succ])
    first
      | (refine take_at (i := 13) (v := ?_) rfl rfl (by kernel_rfl) (by kernel_rfl) (by kernel_rfl) (fun _ _ _ h => h) (Or.inl ⟨by rfl, ?hy⟩) (by assumption) ?_
         case hy => (intro wz hSw; (try dsimp only at hSw); go_simp <;> with_reducible rfl)
         simp only [List.setIfInBounds_toArray, List.set_cons_zero, List.set_cons_succ])
      | (refine take_at (i := 13) (v := undef) rfl rfl (by kernel_rfl) (by kernel_rfl) (by kernel_rfl) (fun _ _ _ h => h) (Or.inr ⟨by rfl, rfl⟩) (by assumption) ?_
         simp only [List.setIfInBounds_toArray, List.set_cons_zero, List.set_cons_succ])
    first
      | (refine take_at (i := 14) (v := ?_) rfl rfl (by kernel_rfl) (by kernel_rfl) (by kernel_rfl) (fun _ _ _ h => h) (Or.inl ⟨by rfl, ?hy⟩) (by assumption) ?_
         case hy => (intro wz hSw; (try dsimp only at hSw); go_simp <;> with_reducible rfl)
         simp only [List.setIfInBounds_toArray, List.set_cons_zero, List.set_cons_succ])
      | (refine take_at (i := 14) (v := undef) rfl rfl (by kernel_rfl) (by kernel_rfl) (by kernel_rfl) (fun _ _ _ h => h) (Or.inr ⟨by rfl, rfl⟩) (by assumption) ?_
         simp only [List.setIfInBounds_toArray, List.set_cons_zero, List.set_cons_succ])
    refine take_at (i := 15) (v := .slice (some ⟨b, off + k * 7, none⟩) (L.length - k) (cap - k)) rfl rfl (by kernel_rfl) (by kernel_rfl) (by kernel_rfl) (fun _ _ _ h => h) (Or.inl ⟨by rfl, ?hy⟩) (by assumption) ?_
    case hy =>
      intro wz hSw
      (try dsimp only at hSw)
      go_simp
      rw [show (if (k : Int) < 0 then (0 : Int) else k) = k from if_neg (by omega)]
      rw [show (if (L.length : Int) < (k : Int) then (L.length : Int) else k) = k from if_neg (by omega)]
      rw [if_pos ⟨by omega, by omega⟩]
      simp only [Int.toNat_natCast]
      rw [if_neg (by omega)]
    simp only [List.setIfInBounds_toArray, List.set_cons_zero, List.set_cons_succ]
    refine call_at (i := 8) (F := 11) (CF1.out _ (by repeat (first | with_reducible exact Ext.refl _ | with_reducible assumption | with_reducible refine Ext.alloc ?_ _ | with_reducible refine Ext.drew ?_ | with_reducible refine Ext.drewN ?_ _ | with_reducible refine Ext.setCell ?_ (by simp <;> omega) _ | with_reducible refine Ext.trans ?_ (by assumption)))) rfl rfl (by kernel_rfl) (by rfl) (by first | rfl | (go_simp <;> rfl)) ?_
    rintro e wq2 ⟨vq2, rfl, Rq2, Xq2⟩
    have Yq2 := Ext.trans hHeld Xq2
    refine ⟨_, rfl, Yq2, wpAnyH_strong (S' := fun w' => Ext wq2 w') (fun w' h => Ext.trans Yq2 h) _ _ _ _ ?_⟩
    simp only [List.setIfInBounds_toArray, List.set_cons_zero, List.set_cons_succ]
    have Zq2 : Ext wr wq2 := Ext.trans (by assumption) Yq2
    clear hHeld Xq2 Yq2
    have hHeld := Ext.refl wq2
    have SA := Lib.hid (fun v' w' B1 (h1 : EvsV w' B1 v' (L.drop k)) (hz : Ext w w') => rSame_is v' (.slice (some ⟨b, off + k * 7, none⟩) (L.length - k) (cap - k)) (L.drop k) (L.drop k) w' h1 (HSL.out.ext hz) (fun e he => HD6.out e (List.mem_of_mem_drop he)) (fun e he => HD6.out e (List.mem_of_mem_drop he)))
    rw [decide_eq_true (rfl : L.drop k = L.drop k)] at SA
    have SB := Lib.hid (fun v' w' B1 (h1 : EvsV w' B1 v' L) (hz : Ext w w') => rSame_is v' _ L L w' h1 (HE.out.ext hz) HD6.out HD6.out)
    rw [decide_eq_true (rfl : L = L)] at SB
    refine call_at (i := 16) (F := 14) (SA.out _ _ _ (Rq2.evs) (HX.out.trans (by repeat (first | with_reducible exact Ext.refl _ | with_reducible assumption | with_reducible refine Ext.alloc ?_ _ | with_reducible refine Ext.drew ?_ | with_reducible refine Ext.drewN ?_ _ | with_reducible refine Ext.setCell ?_ (by simp <;> omega) _ | with_reducible refine Ext.trans ?_ (by assumption))))) rfl rfl (by kernel_rfl) (by rfl) (by first | rfl | (go_simp <;> rfl)) ?_
    rintro e wq3 ⟨rfl, Xq3⟩
    have Yq3 := Ext.trans hHeld Xq3
    refine ⟨_, rfl, Yq3, wpAnyH_strong (S' := fun w' => Ext wq3 w') (fun w' h => Ext.trans Yq3 h) _ _ _ _ ?_⟩
    simp only [List.setIfInBounds_toArray, List.set_cons_zero, List.set_cons_succ]
    have Zq3 : Ext wr wq3 := Ext.trans (by assumption) Yq3
    clear hHeld Xq3 Yq3
    have hHeld := Ext.refl wq3
    first
      | (refine take_at (i := 17) (v := ?_) rfl rfl (by kernel_rfl) (by kernel_rfl) (by kernel_rfl) (fun _ _ _ h => h) (Or.inl ⟨by rfl, ?hy⟩) (by assumption) ?_
         case hy => (intro wz hSw; (try dsimp only at hSw); go_simp <;> with_reducible rfl)
         simp only [List.setIfInBounds_toArray, List.set_cons_zero, List.set_cons_succ])
      | (refine take_at (i := 17) (v := undef) rfl rfl (by kernel_rfl) (by kernel_rfl) (by kernel_rfl) (fun _ _ _ h => h) (Or.inr ⟨by rfl, rfl⟩) (by assumption) ?_
         simp only [List.setIfInBounds_toArray, List.set_cons_zero, List.set_cons_succ])
    first
      | (refine take_at (i := 18) (v := ?_) rfl rfl (by kernel_rfl) (by kernel_rfl) (by kernel_rfl) (fun _ _ _ h => h) (Or.inl ⟨by rfl, ?hy⟩) (by assumption) ?_
         case hy => (intro wz hSw; (try dsimp only at hSw); go_simp <;> with_reducible rfl)
         simp only [List.setIfInBounds_toArray, List.set_cons_zero, List.set_cons_succ])
      | (refine take_at (i := 18) (v := undef) rfl rfl (by kernel_rfl) (by kernel_rfl) (by kernel_rfl) (fun _ _ _ h => h) (Or.inr ⟨by rfl, rfl⟩) (by assumption) ?_
         simp only [List.setIfInBounds_toArray, List.set_cons_zero, List.set_cons_succ])
    first
      | (refine take_at (i := 19) (v := ?_) rfl rfl (by kernel_rfl) (by kernel_rfl) (by kernel_rfl) (fun _ _ _ h => h) (Or.inl ⟨by rfl, ?hy⟩) (by assumption) ?_
         case hy => (intro wz hSw; (try dsimp only at hSw); go_simp <;> with_reducible rfl)
         simp only [List.setIfInBounds_toArray, List.set_cons_zero, List.set_cons_succ])
      | (refine take_at (i := 19) (v := undef) rfl rfl (by kernel_rfl) (by kernel_rfl) (by kernel_rfl) (fun _ _ _ h => h) (Or.inr ⟨by rfl, rfl⟩) (by assumption) ?_
         simp only [List.setIfInBounds_toArray, List.set_cons_zero, List.set_cons_succ])
    first
      | (refine take_at (i := 20) (v := ?_) rfl rfl (by kernel_rfl) (by kernel_rfl) (by kernel_rfl) (fun _ _ _ h => h) (Or.inl ⟨by rfl, ?hy⟩) (by assumption) ?_
         case hy => (intro wz hSw; (try dsimp only at hSw); go_simp <;> with_reducible rfl)
         simp only [List.setIfInBounds_toArray, List.set_cons_zero, List.set_cons_succ])
      | (refine take_at (i := 20) (v := undef) rfl rfl (by kernel_rfl) (by kernel_rfl) (by kernel_rfl) (fun _ _ _ h => h) (Or.inr ⟨by rfl, rfl⟩) (by assumption) ?_
         simp only [List.setIfInBounds_toArray, List.set_cons_zero, List.set_cons_succ])
    first
      | (refine take_at (i := 22) (v := ?_) rfl rfl (by kernel_rfl) (by kernel_rfl) (by kernel_rfl) (fun _ _ _ h => h) (Or.inl ⟨by rfl, ?hy⟩) (by assumption) ?_
         case hy => (intro wz hSw; (try dsimp only at hSw); go_simp <;> with_reducible rfl)
         simp only [List.setIfInBounds_toArray, List.set_cons_zero, List.set_cons_succ])
      | (refine take_at (i := 22) (v := undef) rfl rfl (by kernel_rfl) (by kernel_rfl) (by kernel_rfl) (fun _ _ _ h => h) (Or.inr ⟨by rfl, rfl⟩) (by assumption) ?_
         simp only [List.setIfInBounds_toArray, List.set_cons_zero, List.set_cons_succ])
    refine call_at (i := 21) (F := 11) (CF2.out _ (by repeat (first | with_reducible exact Ext.refl _ | with_reducible assumption | with_reducible refine Ext.alloc ?_ _ | with_reducible refine Ext.drew ?_ | with_reducible refine Ext.drewN ?_ _ | with_reducible refine Ext.setCell ?_ (by simp <;> omega) _ | with_reducible refine Ext.trans ?_ (by assumption)))) rfl rfl (by kernel_rfl) (by rfl) (by first | rfl | (go_simp <;> rfl)) ?_
    rintro e wq4 ⟨vq4, rfl, Rq4, Xq4⟩
    have Yq4 := Ext.trans hHeld Xq4
    refine ⟨_, rfl, Yq4, wpAnyH_strong (S' := fun w' => Ext wq4 w') (fun w' h => Ext.trans Yq4 h) _ _ _ _ ?_⟩
    simp only [List.setIfInBounds_toArray, List.set_cons_zero, List.set_cons_succ]
    have Zq4 : Ext wr wq4 := Ext.trans (by assumption) Yq4
    clear hHeld Xq4 Yq4
    have hHeld := Ext.refl wq4
    refine call_at (i := 23) (F := 14) (SB.out _ _ _ (Rq4.evs) (HX.out.trans (by repeat (first | with_reducible exact Ext.refl _ | with_reducible assumption | with_reducible refine Ext.alloc ?_ _ | with_reducible refine Ext.drew ?_ | with_reducible refine Ext.drewN ?_ _ | with_reducible refine Ext.setCell ?_ (by simp <;> omega) _ | with_reducible refine Ext.trans ?_ (by assumption))))) rfl rfl (by kernel_rfl) (by rfl) (by first | rfl | (go_simp <;> rfl)) ?_
    rintro e wq5 ⟨rfl, Xq5⟩
    have Yq5 := Ext.trans hHeld Xq5
    refine ⟨_, rfl, Yq5, wpAnyH_strong (S' := fun w' => Ext wq5 w') (fun w' h => Ext.trans Yq5 h) _ _ _ _ ?_⟩
    simp only [List.setIfInBounds_toArray, List.set_cons_zero, List.set_cons_succ]
    have Zq5 : Ext wr wq5 := Ext.trans (by assumption) Yq5
    clear hHeld Xq5 Yq5
    have hHeld := Ext.refl wq5
    first
      | (refine take_at (i := 24) (v := ?_) rfl rfl (by kernel_rfl) (by kernel_rfl) (by kernel_rfl) (fun _ _ _ h => h) (Or.inl ⟨by rfl, ?hy⟩) (by assumption) ?_
         case hy => (intro wz hSw; (try dsimp only at hSw); go_simp <;> with_reducible rfl)
         simp only [List.setIfInBounds_toArray, List.set_cons_zero, List.set_cons_succ])
      | (refine take_at (i := 24) (v := undef) rfl rfl (by kernel_rfl) (by kernel_rfl) (by kernel_rfl) (fun _ _ _ h => h) (Or.inr ⟨by rfl, rfl⟩) (by assumption) ?_
         simp only [List.setIfInBounds_toArray, List.set_cons_zero, List.set_cons_succ])
    first
      | (refine take_at (i := 25) (v := ?_) rfl rfl (by kernel_rfl) (by kernel_rfl) (by kernel_rfl) (fun _ _ _ h => h) (Or.inl ⟨by rfl, ?hy⟩) (by assumption) ?_
         case hy => (intro wz hSw; (try dsimp only at hSw); go_simp <;> with_reducible rfl)
         simp only [List.setIfInBounds_toArray, List.set_cons_zero, List.set_cons_succ])
      | (refine take_at (i := 25) (v := undef) rfl rfl (by kernel_rfl) (by kernel_rfl) (by kernel_rfl) (fun _ _ _ h => h) (Or.inr ⟨by rfl, rfl⟩) (by assumption) ?_
         simp only [List.setIfInBounds_toArray, List.set_cons_zero, List.set_cons_succ])
    refine wpAnyH_done (by kernel_rfl) ?_ _
    have XW := Lib.hid (by repeat (first | with_reducible exact Ext.refl _ | with_reducible assumption | with_reducible refine Ext.alloc ?_ _ | with_reducible refine Ext.drew ?_ | with_reducible refine Ext.drewN ?_ _ | with_reducible refine Ext.setCell ?_ (by simp <;> omega) _ | with_reducible refine Ext.trans ?_ (by assumption)) : Ext wr wq5)
    have HGQ := Lib.hid (HG.out.ext XW.out)
    have HXQ := Lib.hid (HX.out.trans XW.out)
    have hq9 := HXQ.out.size
    clear Rq2 Rq4 hHeld SA SB CF1 CF2 CLen XW
    have HLW : Hid (∀ q, v.ownBlock = some q → q < wq5.heap.size) := Lib.hid (fun q hq => (HGQ.out.r.lt hq).2.1)
    have hL9 : ([] : List Ev).length + L.length ≤ 1000000 := by simp; omega
    go_wp2_with (at_builtin; refine appEs _ rfl _ _ rfl w.heap.size (.slice none 0 0) [] rfl (RE.nil _ _) hq9 (.slice (some ⟨b, off, none⟩) L.length cap) L rfl (HE.out.ext HXQ.out) hL9 ?_)
    intro v6 w6 R6 G6 at6
    have X6 : Ext wq5 w6 := (Ext.refl wq5).grown G6 (fun q hq => by cases hq)
    have hv6 : ∀ q, v6.ownBlock = some q → wq5.heap.size ≤ q := fun q hq => by
      rcases at6 with h | h
      · rw [hq] at h; cases h
      · rw [hq] at h; cases h; exact Nat.le_refl _
    have HV6 := Lib.hid hv6
    obtain ⟨gw, cw, uw, ew, AW, zw, _, _, put⟩ := R6.nth hk
    subst ew
    have hgw : wq5.heap.size ≤ gw := hv6 gw rfl
    have qw := AW.c6
    have yw := zw (k * 7 + 6)
    have R7 := put 6 (.slice da ds.length dc) { L[k] with d := ds } (.slice da ds.length dc) (by decide) rfl (HD.out.ext (HXQ.out.trans X6))
    have X7 := X6.setCell (p := ⟨gw, k * 7 + 6, none⟩) hgw (.slice da ds.length dc)
    obtain ⟨uwa, uwc, euw⟩ := AW.d.len
    subst euw
    have HX7 := Lib.hid X7
    have HR7 := Lib.hid R7
    clear put R6 G6 at6 X6 AW zw hv6 R7 X7 hL9 hq9
    generalize L[k].d.length = ulw at *
    go_upto_region 19 with (fail)
    generalize w6.setCell ⟨gw, k * 7 + 6, none⟩ (.slice da ds.length dc) = w7 at *
    have HG7 := Lib.hid (HGQ.out.ext HX7.out)
    have HXX := Lib.hid (HXQ.out.trans HX7.out)
    have CF := Lib.hid (eFill w w7 lb v L k (.slice da ds.length dc) ds HG7.out HXX.out hk (HD.out.ext HXX.out) (by omega))
    go_wp2_with fail
    refine CF.out.mono ?_
    rintro e w8 ⟨rfl, G8, X8, B8⟩
    have R8 := HR7.out.but B8 (fun q hq _ => ⟨(HG7.out.r.lt hq).1, (HG7.out.r.lt hq).2.2⟩) (fun q hq hq2 => by
      have h1 := HV6.out q hq
      have h2 := HLW.out q hq2
      omega)
    have hd8 : ∀ e ∈ L.set k { L[k] with d := ds }, e.d.length ≤ 1000000 := fun e he => by
      rcases List.mem_or_eq_of_mem_set he with he | rfl
      · exact HD6.out e he
      · show ds.length ≤ 1000000; omega
    have CF0 := Lib.hid (eFrom_pos w w8 lb v (L.set k { L[k] with d := ds }) 0 0 G8 (by rw [List.length_set]; omega) hd8 ⟨rfl, Nat.zero_le _⟩)
    rw [List.drop_zero] at CF0
    have HR8 := Lib.hid R8
    have HX8 := Lib.hid X8
    have SC := Lib.hid (fun a b w' B1 B2 (h1 : EvsV w' B1 a (L.set k { L[k] with d := ds })) (h2 : EvsV w' B2 b (L.set k { L[k] with d := ds })) => rSame_is a b _ _ w' h1 h2 hd8 hd8)
    rw [decide_eq_true (rfl : L.set k { L[k] with d := ds } = L.set k { L[k] with d := ds })] at SC
    generalize L.set k { L[k] with d := ds } = LL at *
    clear R8 X8 G8 hd8 B8
    go_wp2_with fail
    refine CF0.out.mono ?_
    rintro e w9 ⟨v9, rfl, R9, X9⟩
    have HR9 := Lib.hid R9.evs
    have HW9 := Lib.hid (HR8.out.ext X9).evs
    have HX9 := Lib.hid (HX8.out.trans X9)
    clear R9 X9
    go_wp2_with fail
    refine (SC.out _ _ _ _ _ HR9.out HW9.out).mono ?_
    rintro e wa ⟨rfl, Xa⟩
    go_wp2_with fail
    refine (live15 _).mono ?_
    rintro e wb ⟨rfl, Xb⟩
    go_wp2
    go_ret
    exact ⟨rfl, ((HX9.out.trans Xa).trans Xb).below⟩
set_option maxRecDepth 100000 in
theorem logs_neg (a : Option Addr) (cap : Nat) (L : List Ev) (n : Int) (k : Nat) (dv : Value) (ds : List Int) (w : World) (hE : EvsV w w.heap.size (.slice a L.length cap) L) (hD : Dat w w.heap.size dv ds) (h200 : L.length ≤ 200) (h100 : ∀ e ∈ L, e.d.length ≤ 100) (hds : ds.length ≤ 100) (hlg : lng L 200 = false) (hn : n < 0) (hk : 0 < L.length) :
    Calls Try.prog 3 #[.slice a L.length cap, .int .i64 n, dv] w fun e w' => e = .returned (.bool true) ∧ Below w.heap.size w w' := by
  have HE := Lib.hid hE
  have HD := Lib.hid hD
  have CL := Lib.hid (eLong (.slice a L.length cap) L 200 w hE (by decide))
  rw [hlg] at CL
  obtain ⟨da, dc, ed⟩ := hD.len
  subst ed
  have hd6 : ∀ e ∈ L, e.d.length ≤ 1000000 := fun e he => by have := h100 e he; omega
  have HD6 := Lib.hid hd6
  have H100 := Lib.hid h100
  have hout : n < 0 ∨ (L.length : Int) ≤ n := .inl hn
  have HOUT := Lib.hid hout
  clear hout
  have hnn : ¬ 0 ≤ n := by omega
  obtain ⟨b, off, u, ea, -⟩ := HE.out.at (Ext.refl w) hk
  subst ea
  have hcap : L.length ≤ cap := by obtain ⟨a', cap', e, h1, _⟩ := HE.out; cases e; exact h1
  have HSL : Hid (EvsV w w.heap.size (.slice (some ⟨b, off, none⟩) L.length cap) (L.drop 0)) := Lib.hid (by rw [List.drop_zero]; exact HE.out)
  have hdl : ¬ (100 : Int) < (ds.length : Int) := by omega
  clear hE hD hlg hd6 h100
  go_enter Try.func3, Try.ntmps3
  go_wp2_with fail
  refine CL.out.mono ?_
  rintro e w2 ⟨rfl, X2⟩
  have HX2 := Lib.hid X2
  clear X2
  have CN := Lib.hid (fun w' => eNote_nil ⟨1, 0, 0, 0, 0, 0, []⟩ (.slice none 0 0) w')
  unfold evA at CN
  go_wp2_with fail
  refine (CN.out _).mono ?_
  rintro e w3 ⟨rfl, X3⟩
  have HX3 := Lib.hid (HX2.out.trans X3)
  clear X3 HX2 CN
  go_wp2_with fail
  refine (eLen_nil _).mono ?_
  rintro e w' ⟨rfl, rfl⟩
  go_wp2_with fail
  refine (eFrom_nil _).mono ?_
  rintro e w' ⟨rfl, rfl⟩
  go_wp2_with fail
  refine (eFill_nil _ _).mono ?_
  rintro e w' ⟨rfl, rfl⟩
  go_wp2_with fail
  refine (eNew _).mono ?_
  rintro e w4 ⟨rfl, hw4⟩
  have G4 := LG.new w w3 HX3.out
  rw [← hw4] at G4
  have HX4 := Lib.hid (HX3.out.trans (by rw [hw4]; exact (Ext.refl w3).alloc _) : Ext w w4)
  have HG4 := Lib.hid G4
  clear G4 hw4 HX3
  generalize w3.heap.size = lb at *
  go_wp2
  go_loopw [9] (fun i wr => ∃ j : Nat, j ≤ L.length ∧ i = .int .i64 j ∧ ∃ v, LG w wr lb v (L.take j) ∧ Ext w wr) (fun i _ => L.length - (intOf i).toNat)
  case atStart => exact ⟨0, Nat.zero_le _, rfl, _, by rw [List.take_zero]; exact HG4.out, HX4.out⟩
  case round =>
    obtain ⟨j, hj, rfl, v, hG, hx⟩ := hrel
    clear HG4 HX4
    by_cases hlt : j < L.length
    case pos =>
      have hlt' : (j : Int) < (L.length : Int) := by omega
      obtain ⟨b, off, u, ea, A⟩ := HE.out.at hx hlt
      cases ea
      obtain ⟨ua, uc, eu⟩ := A.d.len
      have hst : L.take (j + 1) = L.take j ++ [L[j]] := List.take_succ_eq_append_getElem hlt
      have hxd := H100.out L[j] (List.getElem_mem hlt)
      have CN := fun (h : u = .slice ua L[j].d.length uc) => eNote w wr lb v (L.take j) L[j] u hG hx A.d (by rw [List.length_take]; omega) (by omega)
      have CN2 := CN eu
      rw [← hst] at CN2
      generalize L[j] = x at *
      generalize hul : x.d.length = ul at eu
      subst eu
      unfold evA at CN2
      have HCN := Lib.hid CN2
      obtain ⟨c0, c1, c2, c3, c4, c5, c6, -⟩ := A
      clear CN CN2 hst hG hx hul
      go_wp2_with fail
      refine HCN.out.mono ?_
      rintro e w5 ⟨rfl, v5, G5, X5⟩
      have HG5 := Lib.hid G5
      have HX5 := Lib.hid X5
      clear G5 X5
      go_wp2
      exact ⟨⟨j + 1, by omega, by go_num, v5, HG5.out, HX5.out⟩, by simp [intOf]; omega⟩
    obtain rfl : j = L.length := by omega
    rw [List.take_length] at hG
    have HG := Lib.hid hG
    have HX := Lib.hid hx
    clear hG hx hlt
    have CLen := Lib.hid (fun w' (hz : Ext wr w') => eLen w w' lb v L (HG.out.ext hz))
    have CF1 := Lib.hid (fun w' (hz : Ext wr w') => eFrom_neg w w' lb v L n 0 (HG.out.ext hz) (by omega) HD6.out ⟨hn, rfl⟩)
    have CF2 := Lib.hid (fun w' (hz : Ext wr w') => eFrom_neg w w' lb v L (-1) 0 (HG.out.ext hz) (by omega) HD6.out ⟨by decide, rfl⟩)
    rw [List.drop_zero] at CF2
    go_upto_region 12 with (fail)
    refine wp_region_held_drew (S := fun w' => Ext wr w') (by kernel_rfl) ?hbeg (fun hHeld => ?_)
    case hbeg => exact (Ext.refl wr).drew
    have hHeld0 : Ext wr wr := by first | exact Ext.refl _ | assumption
    first
      | (refine take_at (i := 0) (v := ?_) rfl rfl (by kernel_rfl) (by kernel_rfl) (by kernel_rfl) (fun _ _ _ h => h) (Or.inl ⟨by rfl, ?hy⟩) (by assumption) ?_
         case hy => (intro wz hSw; (try dsimp only at hSw); go_simp <;> with_reducible rfl)
         simp only [List.setIfInBounds_toArray, List.set_cons_zero, List.set_cons_succ])
      | (refine take_at (i := 0) (v := undef) rfl rfl (by kernel_rfl) (by kernel_rfl) (by kernel_rfl) (fun _ _ _ h => h) (Or.inr ⟨by rfl, rfl⟩) (by assumption) ?_
         simp only [List.setIfInBounds_toArray, List.set_cons_zero, List.set_cons_succ])
    first
      | (refine take_at (i := 2) (v := ?_) rfl rfl (by kernel_rfl) (by kernel_rfl) (by kernel_rfl) (fun _ _ _ h => h) (Or.inl ⟨by rfl, ?hy⟩) (by assumption) ?_
         case hy => (intro wz hSw; (try dsimp only at hSw); go_simp <;> with_reducible rfl)
         simp only [List.setIfInBounds_toArray, List.set_cons_zero, List.set_cons_succ])
      | (refine take_at (i := 2) (v := undef) rfl rfl (by kernel_rfl) (by kernel_rfl) (by kernel_rfl) (fun _ _ _ h => h) (Or.inr ⟨by rfl, rfl⟩) (by assumption) ?_
         simp only [List.setIfInBounds_toArray, List.set_cons_zero, List.set_cons_succ])
    first
      | (refine take_at (i := 3) (v := ?_) rfl rfl (by kernel_rfl) (by kernel_rfl) (by kernel_rfl) (fun _ _ _ h => h) (Or.inl ⟨by rfl, ?hy⟩) (by assumption) ?_
         case hy => (intro wz hSw; (try dsimp only at hSw); go_simp <;> with_reducible rfl)
         simp only [List.setIfInBounds_toArray, List.set_cons_zero, List.set_cons_succ])
      | (refine take_at (i := 3) (v := undef) rfl rfl (by kernel_rfl) (by kernel_rfl) (by kernel_rfl) (fun _ _ _ h => h) (Or.inr ⟨by rfl, rfl⟩) (by assumption) ?_
         simp only [List.setIfInBounds_toArray, List.set_cons_zero, List.set_cons_succ])
    refine call_at (i := 1) (F := 10) (CLen.out _ (by repeat (first | with_reducible exact Ext.refl _ | with_reducible assumption | with_reducible refine Ext.alloc ?_ _ | with_reducible refine Ext.drew ?_ | with_reducible refine Ext.drewN ?_ _ | with_reducible refine Ext.setCell ?_ (by simp <;> omega) _ | with_reducible refine Ext.trans ?_ (by assumption)))) rfl rfl (by kernel_rfl) (by rfl) (by first | rfl | (go_simp <;> rfl)) ?_
    rintro e w' ⟨rfl, rfl⟩
    refine ⟨_, rfl, by assumption, ?_⟩
    simp only [List.setIfInBounds_toArray, List.set_cons_zero, List.set_cons_succ]
    first
      | (refine take_at (i := 4) (v := ?_) rfl rfl (by kernel_rfl) (by kernel_rfl) (by kernel_rfl) (fun _ _ _ h => h) (Or.inl ⟨by rfl, ?hy⟩) (by assumption) ?_
         case hy => (intro wz hSw; (try dsimp only at hSw); go_simp <;> with_reducible rfl)
         simp only [List.setIfInBounds_toArray, List.set_cons_zero, List.set_cons_succ])
      | (refine take_at (i := 4) (v := undef) rfl rfl (by kernel_rfl) (by kernel_rfl) (by kernel_rfl) (fun _ _ _ h => h) (Or.inr ⟨by rfl, rfl⟩) (by assumption) ?_
         simp only [List.setIfInBounds_toArray, List.set_cons_zero, List.set_cons_succ])
    first
      | (refine take_at (i := 5) (v := ?_) rfl rfl (by kernel_rfl) (by kernel_rfl) (by kernel_rfl) (fun _ _ _ h => h) (Or.inl ⟨by rfl, ?hy⟩) (by assumption) ?_
         case hy => (intro wz hSw; (try dsimp only at hSw); go_simp <;> with_reducible rfl)
         simp only [List.setIfInBounds_toArray, List.set_cons_zero, List.set_cons_succ])
      | (refine take_at (i := 5) (v := undef) rfl rfl (by kernel_rfl) (by kernel_rfl) (by kernel_rfl) (fun _ _ _ h => h) (Or.inr ⟨by rfl, rfl⟩) (by assumption) ?_
         simp only [List.setIfInBounds_toArray, List.set_cons_zero, List.set_cons_succ])
    first
      | (refine take_at (i := 6) (v := ?_) rfl rfl (by kernel_rfl) (by kernel_rfl) (by kernel_rfl) (fun _ _ _ h => h) (Or.inl ⟨by rfl, ?hy⟩) (by assumption) ?_
         case hy => (intro wz hSw; (try dsimp only at hSw); go_simp <;> with_reducible rfl)
         simp only [List.setIfInBounds_toArray, List.set_cons_zero, List.set_cons_succ])
      | (refine take_at (i := 6) (v := undef) rfl rfl (by kernel_rfl) (by kernel_rfl) (by kernel_rfl) (fun _ _ _ h => h) (Or.inr ⟨by rfl, rfl⟩) (by assumption) ?_
         simp only [List.setIfInBounds_toArray, List.set_cons_zero, List.set_cons_succ])
    first
      | (refine take_at (i := 7) (v := ?_) rfl rfl (by kernel_rfl) (by kernel_rfl) (by kernel_rfl) (fun _ _ _ h => h) (Or.inl ⟨by rfl, ?hy⟩) (by assumption) ?_
         case hy => (intro wz hSw; (try dsimp only at hSw); go_simp <;> with_reducible rfl)
         simp only [List.setIfInBounds_toArray, List.set_cons_zero, List.set_cons_succ])
      | (refine take_at (i := 7) (v := undef) rfl rfl (by kernel_rfl) (by kernel_rfl) (by kernel_rfl) (fun _ _ _ h => h) (Or.inr ⟨by rfl, rfl⟩) (by assumption) ?_
         simp only [List.setIfInBounds_toArray, List.set_cons_zero, List.set_cons_succ])
    first
      | (refine take_at (i := 9) (v := ?_) rfl rfl (by kernel_rfl) (by kernel_rfl) (by kernel_rfl) (fun _ _ _ h => h) (Or.inl ⟨by rfl, ?hy⟩) (by assumption) ?_
         case hy => (intro wz hSw; (try dsimp only at hSw); go_simp <;> with_reducible rfl)
         simp only [List.setIfInBounds_toArray, List.set_cons_zero, List.set_cons_succ])
      | (refine take_at (i := 9) (v := undef) rfl rfl (by kernel_rfl) (by kernel_rfl) (by kernel_rfl) (fun _ _ _ h => h) (Or.inr ⟨by rfl, rfl⟩) (by assumption) ?_
         simp only [List.setIfInBounds_toArray, List.set_cons_zero, List.set_cons_succ])
    first
      | (refine take_at (i := 10) (v := ?_) rfl rfl (by kernel_rfl) (by kernel_rfl) (by kernel_rfl) (fun _ _ _ h => h) (Or.inl ⟨by rfl, ?hy⟩) (by assumption) ?_
         case hy => (intro wz hSw; (try dsimp only at hSw); go_simp <;> with_reducible rfl)
         simp only [List.setIfInBounds_toArray, List.set_cons_zero, List.set_cons_succ])
      | (refine take_at (i := 10) (v := undef) rfl rfl (by kernel_rfl) (by kernel_rfl) (by kernel_rfl) (fun _ _ _ h => h) (Or.inr ⟨by rfl, rfl⟩) (by assumption) ?_
         simp only [List.setIfInBounds_toArray, List.set_cons_zero, List.set_cons_succ])
    first
      | (refine take_at (i := 11) (v := ?_) rfl rfl (by kernel_rfl) (by kernel_rfl) (by kernel_rfl) (fun _ _ _ h => h) (Or.inl ⟨by rfl, ?hy⟩) (by assumption) ?_
         case hy => (intro wz hSw; (try dsimp only at hSw); go_simp <;> with_reducible rfl)
         simp only [List.setIfInBounds_toArray, List.set_cons_zero, List.set_cons_succ])
      | (refine take_at (i := 11) (v := undef) rfl rfl (by kernel_rfl) (by kernel_rfl) (by kernel_rfl) (fun _ _ _ h => h) (Or.inr ⟨by rfl, rfl⟩) (by assumption) ?_
         simp only [List.setIfInBounds_toArray, List.set_cons_zero, List.set_cons_succ])
    first
      | (refine take_at (i := 12) (v := ?_) rfl rfl (by kernel_rfl) (by kernel_rfl) (by kernel_rfl) (fun _ _ _ h => h) (Or.inl ⟨by rfl, ?hy⟩) (by assumption) ?_
         case hy => (intro wz hSw; (try dsimp only at hSw); go_simp <;> with_reducible rfl)
         simp only [List.setIfInBounds_toArray, List.set_cons_zero, List.set_cons_succ])
      | (refine take_at (i := 12) (v := undef) rfl rfl (by kernel_rfl) (by kernel_rfl) (by kernel_rfl) (fun _ _ _ h => h) (Or.inr ⟨by rfl, rfl⟩) (by assumption) ?_
         simp only [List.setIfInBounds_toArray, List.set_cons_zero, List.set_cons_succ])
    first
      | (refine take_at (i := 13) (v := ?_) rfl rfl (by kernel_rfl) (by kernel_rfl) (by kernel_rfl) (fun _ _ _ h => h) (Or.inl ⟨by rfl, ?hy⟩) (by assumption) ?_
         case hy => (intro wz hSw; (try dsimp only at hSw); go_simp <;> with_reducible rfl)
         simp only [List.setIfInBounds_toArray, List.set_cons_zero, List.set_cons_succ])
      | (refine take_at (i := 13) (v := undef) rfl rfl (by kernel_rfl) (by kernel_rfl) (by kernel_rfl) (fun _ _ _ h => h) (Or.inr ⟨by rfl, rfl⟩) (by assumption) ?_
         simp only [List.setIfInBounds_toArray, List.set_cons_zero, List.set_cons_succ])
    first
      | (refine take_at (i := 14) (v := ?_) rfl rfl (by kernel_rfl) (by kernel_rfl) (by kernel_rfl) (fun _ _ _ h => h) (Or.inl ⟨by rfl, ?hy⟩) (by assumption) ?_
         case hy => (intro wz hSw; (try dsimp only at hSw); go_simp <;> with_reducible rfl)
         simp only [List.setIfInBounds_toArray, List.set_cons_zero, List.set_cons_succ])
      | (refine take_at (i := 14) (v := undef) rfl rfl (by kernel_rfl) (by kernel_rfl) (by kernel_rfl) (fun _ _ _ h => h) (Or.inr ⟨by rfl, rfl⟩) (by assumption) ?_
         simp only [List.setIfInBounds_toArray, List.set_cons_zero, List.set_cons_succ])
    refine take_at (i := 15) (v := .slice (some ⟨b, off, none⟩) L.length cap) rfl rfl (by kernel_rfl) (by kernel_rfl) (by kernel_rfl) (fun _ _ _ h => h) (Or.inl ⟨by rfl, ?hy⟩) (by assumption) ?_
    case hy =>
      intro wz hSw
      (try dsimp only at hSw)
      go_simp
      rw [show (if (L.length : Int) < 0 then (L.length : Int) else 0) = 0 from if_neg (by omega)]
      rw [if_pos ⟨by omega, by omega⟩]
      rw [show ((0 : Int)).toNat = 0 from rfl, if_neg (by omega : ¬ cap = 0), Nat.zero_mul, Nat.add_zero, Nat.sub_zero, Nat.sub_zero]
    simp only [List.setIfInBounds_toArray, List.set_cons_zero, List.set_cons_succ]
    refine call_at (i := 8) (F := 11) (CF1.out _ (by repeat (first | with_reducible exact Ext.refl _ | with_reducible assumption | with_reducible refine Ext.alloc ?_ _ | with_reducible refine Ext.drew ?_ | with_reducible refine Ext.drewN ?_ _ | with_reducible refine Ext.setCell ?_ (by simp <;> omega) _ | with_reducible refine Ext.trans ?_ (by assumption)))) rfl rfl (by kernel_rfl) (by rfl) (by first | rfl | (go_simp <;> rfl)) ?_
    rintro e wq2 ⟨vq2, rfl, Rq2, Xq2⟩
    have Yq2 := Ext.trans hHeld Xq2
    refine ⟨_, rfl, Yq2, wpAnyH_strong (S' := fun w' => Ext wq2 w') (fun w' h => Ext.trans Yq2 h) _ _ _ _ ?_⟩
    simp only [List.setIfInBounds_toArray, List.set_cons_zero, List.set_cons_succ]
    have Zq2 : Ext wr wq2 := Ext.trans (by assumption) Yq2
    clear hHeld Xq2 Yq2
    have hHeld := Ext.refl wq2
    have SA := Lib.hid (fun v' w' B1 (h1 : EvsV w' B1 v' (L.drop 0)) (hz : Ext w w') => rSame_is v' (.slice (some ⟨b, off, none⟩) L.length cap) (L.drop 0) (L.drop 0) w' h1 (HSL.out.ext hz) (fun e he => HD6.out e (List.mem_of_mem_drop he)) (fun e he => HD6.out e (List.mem_of_mem_drop he)))
    rw [decide_eq_true (rfl : L.drop 0 = L.drop 0)] at SA
    have SB := Lib.hid (fun v' w' B1 (h1 : EvsV w' B1 v' L) (hz : Ext w w') => rSame_is v' _ L L w' h1 (HE.out.ext hz) HD6.out HD6.out)
    rw [decide_eq_true (rfl : L = L)] at SB
    refine call_at (i := 16) (F := 14) (SA.out _ _ _ (Rq2.evs) (HX.out.trans (by repeat (first | with_reducible exact Ext.refl _ | with_reducible assumption | with_reducible refine Ext.alloc ?_ _ | with_reducible refine Ext.drew ?_ | with_reducible refine Ext.drewN ?_ _ | with_reducible refine Ext.setCell ?_ (by simp <;> omega) _ | with_reducible refine Ext.trans ?_ (by assumption))))) rfl rfl (by kernel_rfl) (by rfl) (by first | rfl | (go_simp <;> rfl)) ?_
    rintro e wq3 ⟨rfl, Xq3⟩
    have Yq3 := Ext.trans hHeld Xq3
    refine ⟨_, rfl, Yq3, wpAnyH_strong (S' := fun w' => Ext wq3 w') (fun w' h => Ext.trans Yq3 h) _ _ _ _ ?_⟩
    simp only [List.setIfInBounds_toArray, List.set_cons_zero, List.set_cons_succ]
    have Zq3 : Ext wr wq3 := Ext.trans (by assumption) Yq3
    clear hHeld Xq3 Yq3
    have hHeld := Ext.refl wq3
    first
      | (refine take_at (i := 17) (v := ?_) rfl rfl (by kernel_rfl) (by kernel_rfl) (by kernel_rfl) (fun _ _ _ h => h) (Or.inl ⟨by rfl, ?hy⟩) (by assumption) ?_
         case hy => (intro wz hSw; (try dsimp only at hSw); go_simp <;> with_reducible rfl)
         simp only [List.setIfInBounds_toArray, List.set_cons_zero, List.set_cons_succ])
      | (refine take_at (i := 17) (v := undef) rfl rfl (by kernel_rfl) (by kernel_rfl) (by kernel_rfl) (fun _ _ _ h => h) (Or.inr ⟨by rfl, rfl⟩) (by assumption) ?_
         simp only [List.setIfInBounds_toArray, List.set_cons_zero, List.set_cons_succ])
    first
      | (refine take_at (i := 18) (v := ?_) rfl rfl (by kernel_rfl) (by kernel_rfl) (by kernel_rfl) (fun _ _ _ h => h) (Or.inl ⟨by rfl, ?hy⟩) (by assumption) ?_
         case hy => (intro wz hSw; (try dsimp only at hSw); go_simp <;> with_reducible rfl)
         simp only [List.setIfInBounds_toArray, List.set_cons_zero, List.set_cons_succ])
      | (refine take_at (i := 18) (v := undef) rfl rfl (by kernel_rfl) (by kernel_rfl) (by kernel_rfl) (fun _ _ _ h => h) (Or.inr ⟨by rfl, rfl⟩) (by assumption) ?_
         simp only [List.setIfInBounds_toArray, List.set_cons_zero, List.set_cons_succ])
    first
      | (refine take_at (i := 19) (v := ?_) rfl rfl (by kernel_rfl) (by kernel_rfl) (by kernel_rfl) (fun _ _ _ h => h) (Or.inl ⟨by rfl, ?hy⟩) (by assumption) ?_
         case hy => (intro wz hSw; (try dsimp only at hSw); go_simp <;> with_reducible rfl)
         simp only [List.setIfInBounds_toArray, List.set_cons_zero, List.set_cons_succ])
      | (refine take_at (i := 19) (v := undef) rfl rfl (by kernel_rfl) (by kernel_rfl) (by kernel_rfl) (fun _ _ _ h => h) (Or.inr ⟨by rfl, rfl⟩) (by assumption) ?_
         simp only [List.setIfInBounds_toArray, List.set_cons_zero, List.set_cons_succ])
    first
      | (refine take_at (i := 20) (v := ?_) rfl rfl (by kernel_rfl) (by kernel_rfl) (by kernel_rfl) (fun _ _ _ h => h) (Or.inl ⟨by rfl, ?hy⟩) (by assumption) ?_
         case hy => (intro wz hSw; (try dsimp only at hSw); go_simp <;> with_reducible rfl)
         simp only [List.setIfInBounds_toArray, List.set_cons_zero, List.set_cons_succ])
      | (refine take_at (i := 20) (v := undef) rfl rfl (by kernel_rfl) (by kernel_rfl) (by kernel_rfl) (fun _ _ _ h => h) (Or.inr ⟨by rfl, rfl⟩) (by assumption) ?_
         simp only [List.setIfInBounds_toArray, List.set_cons_zero, List.set_cons_succ])
    first
      | (refine take_at (i := 22) (v := ?_) rfl rfl (by kernel_rfl) (by kernel_rfl) (by kernel_rfl) (fun _ _ _ h => h) (Or.inl ⟨by rfl, ?hy⟩) (by assumption) ?_
         case hy => (intro wz hSw; (try dsimp only at hSw); go_simp <;> with_reducible rfl)
         simp only [List.setIfInBounds_toArray, List.set_cons_zero, List.set_cons_succ])
      | (refine take_at (i := 22) (v := undef) rfl rfl (by kernel_rfl) (by kernel_rfl) (by kernel_rfl) (fun _ _ _ h => h) (Or.inr ⟨by rfl, rfl⟩) (by assumption) ?_
         simp only [List.setIfInBounds_toArray, List.set_cons_zero, List.set_cons_succ])
    refine call_at (i := 21) (F := 11) (CF2.out _ (by repeat (first | with_reducible exact Ext.refl _ | with_reducible assumption | with_reducible refine Ext.alloc ?_ _ | with_reducible refine Ext.drew ?_ | with_reducible refine Ext.drewN ?_ _ | with_reducible refine Ext.setCell ?_ (by simp <;> omega) _ | with_reducible refine Ext.trans ?_ (by assumption)))) rfl rfl (by kernel_rfl) (by rfl) (by first | rfl | (go_simp <;> rfl)) ?_
    rintro e wq4 ⟨vq4, rfl, Rq4, Xq4⟩
    have Yq4 := Ext.trans hHeld Xq4
    refine ⟨_, rfl, Yq4, wpAnyH_strong (S' := fun w' => Ext wq4 w') (fun w' h => Ext.trans Yq4 h) _ _ _ _ ?_⟩
    simp only [List.setIfInBounds_toArray, List.set_cons_zero, List.set_cons_succ]
    have Zq4 : Ext wr wq4 := Ext.trans (by assumption) Yq4
    clear hHeld Xq4 Yq4
    have hHeld := Ext.refl wq4
    refine call_at (i := 23) (F := 14) (SB.out _ _ _ (Rq4.evs) (HX.out.trans (by repeat (first | with_reducible exact Ext.refl _ | with_reducible assumption | with_reducible refine Ext.alloc ?_ _ | with_reducible refine Ext.drew ?_ | with_reducible refine Ext.drewN ?_ _ | with_reducible refine Ext.setCell ?_ (by simp <;> omega) _ | with_reducible refine Ext.trans ?_ (by assumption))))) rfl rfl (by kernel_rfl) (by rfl) (by first | rfl | (go_simp <;> rfl)) ?_
    rintro e wq5 ⟨rfl, Xq5⟩
    have Yq5 := Ext.trans hHeld Xq5
    refine ⟨_, rfl, Yq5, wpAnyH_strong (S' := fun w' => Ext wq5 w') (fun w' h => Ext.trans Yq5 h) _ _ _ _ ?_⟩
    simp only [List.setIfInBounds_toArray, List.set_cons_zero, List.set_cons_succ]
    have Zq5 : Ext wr wq5 := Ext.trans (by assumption) Yq5
    clear hHeld Xq5 Yq5
    have hHeld := Ext.refl wq5
    first
      | (refine take_at (i := 24) (v := ?_) rfl rfl (by kernel_rfl) (by kernel_rfl) (by kernel_rfl) (fun _ _ _ h => h) (Or.inl ⟨by rfl, ?hy⟩) (by assumption) ?_
         case hy => (intro wz hSw; (try dsimp only at hSw); go_simp <;> with_reducible rfl)
         simp only [List.setIfInBounds_toArray, List.set_cons_zero, List.set_cons_succ])
      | (refine take_at (i := 24) (v := undef) rfl rfl (by kernel_rfl) (by kernel_rfl) (by kernel_rfl) (fun _ _ _ h => h) (Or.inr ⟨by rfl, rfl⟩) (by assumption) ?_
         simp only [List.setIfInBounds_toArray, List.set_cons_zero, List.set_cons_succ])
    first
      | (refine take_at (i := 25) (v := ?_) rfl rfl (by kernel_rfl) (by kernel_rfl) (by kernel_rfl) (fun _ _ _ h => h) (Or.inl ⟨by rfl, ?hy⟩) (by assumption) ?_
         case hy => (intro wz hSw; (try dsimp only at hSw); go_simp <;> with_reducible rfl)
         simp only [List.setIfInBounds_toArray, List.set_cons_zero, List.set_cons_succ])
      | (refine take_at (i := 25) (v := undef) rfl rfl (by kernel_rfl) (by kernel_rfl) (by kernel_rfl) (fun _ _ _ h => h) (Or.inr ⟨by rfl, rfl⟩) (by assumption) ?_
         simp only [List.setIfInBounds_toArray, List.set_cons_zero, List.set_cons_succ])
    refine wpAnyH_done (by kernel_rfl) ?_ _
    have XW := Lib.hid (by repeat (first | with_reducible exact Ext.refl _ | with_reducible assumption | with_reducible refine Ext.alloc ?_ _ | with_reducible refine Ext.drew ?_ | with_reducible refine Ext.drewN ?_ _ | with_reducible refine Ext.setCell ?_ (by simp <;> omega) _ | with_reducible refine Ext.trans ?_ (by assumption)) : Ext wr wq5)
    have HGQ := Lib.hid (HG.out.ext XW.out)
    have HXQ := Lib.hid (HX.out.trans XW.out)
    have hq9 := HXQ.out.size
    clear Rq2 Rq4 hHeld SA SB CF1 CF2 CLen XW
    have HLW : Hid (∀ q, v.ownBlock = some q → q < wq5.heap.size) := Lib.hid (fun q hq => (HGQ.out.r.lt hq).2.1)
    have hL9 : ([] : List Ev).length + L.length ≤ 1000000 := by simp; omega
    go_wp2_with (at_builtin; refine appEs _ rfl _ _ rfl w.heap.size (.slice none 0 0) [] rfl (RE.nil _ _) hq9 (.slice (some ⟨b, off, none⟩) L.length cap) L rfl (HE.out.ext HXQ.out) hL9 ?_)
    intro v6 w6 R6 G6 at6
    have X6 : Ext wq5 w6 := (Ext.refl wq5).grown G6 (fun q hq => by cases hq)
    have hv6 : ∀ q, v6.ownBlock = some q → wq5.heap.size ≤ q := fun q hq => by
      rcases at6 with h | h
      · rw [hq] at h; cases h
      · rw [hq] at h; cases h; exact Nat.le_refl _
    have HV6 := Lib.hid hv6
    have G8 := HGQ.out.ext X6
    have X8 := HXQ.out.trans X6
    have R8 := R6
    have CF := Lib.hid (eFill_no w w6 lb v L n (.slice da ds.length dc) G8 HOUT.out)
    clear R6 G6 at6 X6 hv6 hL9 hq9
    go_wp2_with fail
    refine CF.out.mono ?_
    rintro e w' ⟨rfl, rfl⟩
    have hd8 : ∀ e ∈ L, e.d.length ≤ 1000000 := HD6.out
    have CF0 := Lib.hid (eFrom_pos w w6 lb v (L) 0 0 G8 (by omega) hd8 ⟨rfl, Nat.zero_le _⟩)
    rw [List.drop_zero] at CF0
    have HR8 := Lib.hid R8
    have HX8 := Lib.hid X8
    have SC := Lib.hid (fun a b w' B1 B2 (h1 : EvsV w' B1 a (L)) (h2 : EvsV w' B2 b (L)) => rSame_is a b _ _ w' h1 h2 hd8 hd8)
    rw [decide_eq_true (rfl : L = L)] at SC
    generalize L = LL at *
    clear R8 X8 G8 hd8
    go_wp2_with fail
    refine CF0.out.mono ?_
    rintro e w9 ⟨v9, rfl, R9, X9⟩
    have HR9 := Lib.hid R9.evs
    have HW9 := Lib.hid (HR8.out.ext X9).evs
    have HX9 := Lib.hid (HX8.out.trans X9)
    clear R9 X9
    go_wp2_with fail
    refine (SC.out _ _ _ _ _ HR9.out HW9.out).mono ?_
    rintro e wa ⟨rfl, Xa⟩
    go_wp2_with fail
    refine (live15 _).mono ?_
    rintro e wb ⟨rfl, Xb⟩
    go_wp2
    go_ret
    exact ⟨rfl, ((HX9.out.trans Xa).trans Xb).below⟩
set_option maxRecDepth 100000 in
theorem logs_big (a : Option Addr) (cap : Nat) (L : List Ev) (n : Int) (k : Nat) (dv : Value) (ds : List Int) (w : World) (hE : EvsV w w.heap.size (.slice a L.length cap) L) (hD : Dat w w.heap.size dv ds) (h200 : L.length ≤ 200) (h100 : ∀ e ∈ L, e.d.length ≤ 100) (hds : ds.length ≤ 100) (hlg : lng L 200 = false) (hn : n = k) (hk9 : L.length < k) (hk : 0 < L.length) :
    Calls Try.prog 3 #[.slice a L.length cap, .int .i64 n, dv] w fun e w' => e = .returned (.bool true) ∧ Below w.heap.size w w' := by
  have HE := Lib.hid hE
  have HD := Lib.hid hD
  have CL := Lib.hid (eLong (.slice a L.length cap) L 200 w hE (by decide))
  rw [hlg] at CL
  obtain ⟨da, dc, ed⟩ := hD.len
  subst ed
  have hd6 : ∀ e ∈ L, e.d.length ≤ 1000000 := fun e he => by have := h100 e he; omega
  have HD6 := Lib.hid hd6
  have H100 := Lib.hid h100
  have hkk : L.length ≤ k := by omega
  have hkL : (L.length : Int) < (k : Int) := by omega
  have hout : n < 0 ∨ (L.length : Int) ≤ n := .inr (by omega)
  have hnn : 0 ≤ n := by omega
  have hnl : ¬ n < (L.length : Int) := by omega
  obtain ⟨b, off, u, ea, -⟩ := HE.out.at (Ext.refl w) hk
  subst ea
  have hcap : L.length ≤ cap ∧ cap ≤ maxLen := by obtain ⟨a', cap', e, h1, h2, _⟩ := HE.out; cases e; exact ⟨h1, h2⟩
  obtain ⟨oa, hoa⟩ : ∃ oa : Option Addr, oa = (if cap = L.length then some ⟨b, off, none⟩ else some ⟨b, off + L.length * 7, none⟩) := ⟨_, rfl⟩
  have hos : oa ≠ none := by rw [hoa]; split <;> simp
  have HSL : Hid (EvsV w w.heap.size (.slice oa 0 (cap - L.length)) (L.drop k)) := Lib.hid (by
    rw [List.drop_of_length_le hkk]
    exact ⟨oa, _, rfl, Nat.zero_le _, by omega, fun e => absurd e hos, fun i hi => by simp at hi⟩)
  have HOA := Lib.hid hoa
  have HOS := Lib.hid hos
  have hkJ : (L.length : Int) ≤ (k : Int) := by omega
  have HOUT := Lib.hid hout
  clear hout
  have hkN : ¬ (k : Int) < (L.length : Int) := by omega
  have hcap1 := hcap.1
  clear hoa hos hcap
  subst hn
  have hdl : ¬ (100 : Int) < (ds.length : Int) := by omega
  clear hE hD hlg hd6 h100
  go_enter Try.func3, Try.ntmps3
  go_wp2_with fail
  refine CL.out.mono ?_
  rintro e w2 ⟨rfl, X2⟩
  have HX2 := Lib.hid X2
  clear X2
  have CN := Lib.hid (fun w' => eNote_nil ⟨1, 0, 0, 0, 0, 0, []⟩ (.slice none 0 0) w')
  unfold evA at CN
  go_wp2_with fail
  refine (CN.out _).mono ?_
  rintro e w3 ⟨rfl, X3⟩
  have HX3 := Lib.hid (HX2.out.trans X3)
  clear X3 HX2 CN
  go_wp2_with fail
  refine (eLen_nil _).mono ?_
  rintro e w' ⟨rfl, rfl⟩
  go_wp2_with fail
  refine (eFrom_nil _).mono ?_
  rintro e w' ⟨rfl, rfl⟩
  go_wp2_with fail
  refine (eFill_nil _ _).mono ?_
  rintro e w' ⟨rfl, rfl⟩
  go_wp2_with fail
  refine (eNew _).mono ?_
  rintro e w4 ⟨rfl, hw4⟩
  have G4 := LG.new w w3 HX3.out
  rw [← hw4] at G4
  have HX4 := Lib.hid (HX3.out.trans (by rw [hw4]; exact (Ext.refl w3).alloc _) : Ext w w4)
  have HG4 := Lib.hid G4
  clear G4 hw4 HX3
  generalize w3.heap.size = lb at *
  go_wp2
  go_loopw [9] (fun i wr => ∃ j : Nat, j ≤ L.length ∧ i = .int .i64 j ∧ ∃ v, LG w wr lb v (L.take j) ∧ Ext w wr) (fun i _ => L.length - (intOf i).toNat)
  case atStart => exact ⟨0, Nat.zero_le _, rfl, _, by rw [List.take_zero]; exact HG4.out, HX4.out⟩
  case round =>
    obtain ⟨j, hj, rfl, v, hG, hx⟩ := hrel
    clear HG4 HX4
    by_cases hlt : j < L.length
    case pos =>
      have hlt' : (j : Int) < (L.length : Int) := by omega
      obtain ⟨b, off, u, ea, A⟩ := HE.out.at hx hlt
      cases ea
      obtain ⟨ua, uc, eu⟩ := A.d.len
      have hst : L.take (j + 1) = L.take j ++ [L[j]] := List.take_succ_eq_append_getElem hlt
      have hxd := H100.out L[j] (List.getElem_mem hlt)
      have CN := fun (h : u = .slice ua L[j].d.length uc) => eNote w wr lb v (L.take j) L[j] u hG hx A.d (by rw [List.length_take]; omega) (by omega)
      have CN2 := CN eu
      rw [← hst] at CN2
      generalize L[j] = x at *
      generalize hul : x.d.length = ul at eu
      subst eu
      unfold evA at CN2
      have HCN := Lib.hid CN2
      obtain ⟨c0, c1, c2, c3, c4, c5, c6, -⟩ := A
      clear CN CN2 hst hG hx hul
      go_wp2_with fail
      refine HCN.out.mono ?_
      rintro e w5 ⟨rfl, v5, G5, X5⟩
      have HG5 := Lib.hid G5
      have HX5 := Lib.hid X5
      clear G5 X5
      go_wp2
      exact ⟨⟨j + 1, by omega, by go_num, v5, HG5.out, HX5.out⟩, by simp [intOf]; omega⟩
    obtain rfl : j = L.length := by omega
    rw [List.take_length] at hG
    have HG := Lib.hid hG
    have HX := Lib.hid hx
    clear hG hx hlt
    have CLen := Lib.hid (fun w' (hz : Ext wr w') => eLen w w' lb v L (HG.out.ext hz))
    have CF1 := Lib.hid (fun w' (hz : Ext wr w') => eFrom_pos w w' lb v L k k (HG.out.ext hz) (by omega) HD6.out ⟨rfl, Nat.zero_le _⟩)
    have CF2 := Lib.hid (fun w' (hz : Ext wr w') => eFrom_neg w w' lb v L (-1) 0 (HG.out.ext hz) (by omega) HD6.out ⟨by decide, rfl⟩)
    rw [List.drop_zero] at CF2
    go_upto_region 12 with (fail)
    refine wp_region_held_drew (S := fun w' => Ext wr w') (by kernel_rfl) ?hbeg (fun hHeld => ?_)
    case hbeg => exact (Ext.refl wr).drew
    have hHeld0 : Ext wr wr := by first | exact Ext.refl _ | assumption
    first
      | (refine take_at (i := 0) (v := ?_) rfl rfl (by kernel_rfl) (by kernel_rfl) (by kernel_rfl) (fun _ _ _ h => h) (Or.inl ⟨by rfl, ?hy⟩) (by assumption) ?_
         case hy => (intro wz hSw; (try dsimp only at hSw); go_simp <;> with_reducible rfl)
         simp only [List.setIfInBounds_toArray, List.set_cons_zero, List.set_cons_succ])
      | (refine take_at (i := 0) (v := undef) rfl rfl (by kernel_rfl) (by kernel_rfl) (by kernel_rfl) (fun _ _ _ h => h) (Or.inr ⟨by rfl, rfl⟩) (by assumption) ?_
         simp only [List.setIfInBounds_toArray, List.set_cons_zero, List.set_cons_succ])
    first
      | (refine take_at (i := 2) (v := ?_) rfl rfl (by kernel_rfl) (by kernel_rfl) (by kernel_rfl) (fun _ _ _ h => h) (Or.inl ⟨by rfl, ?hy⟩) (by assumption) ?_
         case hy => (intro wz hSw; (try dsimp only at hSw); go_simp <;> with_reducible rfl)
         simp only [List.setIfInBounds_toArray, List.set_cons_zero, List.set_cons_succ])
      | (refine take_at (i := 2) (v := undef) rfl rfl (by kernel_rfl) (by kernel_rfl) (by kernel_rfl) (fun _ _ _ h => h) (Or.inr ⟨by rfl, rfl⟩) (by assumption) ?_
         simp only [List.setIfInBounds_toArray, List.set_cons_zero, List.set_cons_succ])
    first
      | (refine take_at (i := 3) (v := ?_) rfl rfl (by kernel_rfl) (by kernel_rfl) (by kernel_rfl) (fun _ _ _ h => h) (Or.inl ⟨by rfl, ?hy⟩) (by assumption) ?_
         case hy => (intro wz hSw; (try dsimp only at hSw); go_simp <;> with_reducible rfl)
         simp only [List.setIfInBounds_toArray, List.set_cons_zero, List.set_cons_succ])
      | (refine take_at (i := 3) (v := undef) rfl rfl (by kernel_rfl) (by kernel_rfl) (by kernel_rfl) (fun _ _ _ h => h) (Or.inr ⟨by rfl, rfl⟩) (by assumption) ?_
         simp only [List.setIfInBounds_toArray, List.set_cons_zero, List.set_cons_succ])
    refine call_at (i := 1) (F := 10) (CLen.out _ (by repeat (first | with_reducible exact Ext.refl _ | with_reducible assumption | with_reducible refine Ext.alloc ?_ _ | with_reducible refine Ext.drew ?_ | with_reducible refine Ext.drewN ?_ _ | with_reducible refine Ext.setCell ?_ (by simp <;> omega) _ | with_reducible refine Ext.trans ?_ (by assumption)))) rfl rfl (by kernel_rfl) (by rfl) (by first | rfl | (go_simp <;> rfl)) ?_
    rintro e w' ⟨rfl, rfl⟩
    refine ⟨_, rfl, by assumption, ?_⟩
    simp only [List.setIfInBounds_toArray, List.set_cons_zero, List.set_cons_succ]
    first
      | (refine take_at (i := 4) (v := ?_) rfl rfl (by kernel_rfl) (by kernel_rfl) (by kernel_rfl) (fun _ _ _ h => h) (Or.inl ⟨by rfl, ?hy⟩) (by assumption) ?_
         case hy => (intro wz hSw; (try dsimp only at hSw); go_simp <;> with_reducible rfl)
         simp only [List.setIfInBounds_toArray, List.set_cons_zero, List.set_cons_succ])
      | (refine take_at (i := 4) (v := undef) rfl rfl (by kernel_rfl) (by kernel_rfl) (by kernel_rfl) (fun _ _ _ h => h) (Or.inr ⟨by rfl, rfl⟩) (by assumption) ?_
         simp only [List.setIfInBounds_toArray, List.set_cons_zero, List.set_cons_succ])
    first
      | (refine take_at (i := 5) (v := ?_) rfl rfl (by kernel_rfl) (by kernel_rfl) (by kernel_rfl) (fun _ _ _ h => h) (Or.inl ⟨by rfl, ?hy⟩) (by assumption) ?_
         case hy => (intro wz hSw; (try dsimp only at hSw); go_simp <;> with_reducible rfl)
         simp only [List.setIfInBounds_toArray, List.set_cons_zero, List.set_cons_succ])
      | (refine take_at (i := 5) (v := undef) rfl rfl (by kernel_rfl) (by kernel_rfl) (by kernel_rfl) (fun _ _ _ h => h) (Or.inr ⟨by rfl, rfl⟩) (by assumption) ?_
         simp only [List.setIfInBounds_toArray, List.set_cons_zero, List.set_cons_succ])
    first
      | (refine take_at (i := 6) (v := ?_) rfl rfl (by kernel_rfl) (by kernel_rfl) (by kernel_rfl) (fun _ _ _ h => h) (Or.inl ⟨by rfl, ?hy⟩) (by assumption) ?_
         case hy => (intro wz hSw; (try dsimp only at hSw); go_simp <;> with_reducible rfl)
         simp only [List.setIfInBounds_toArray, List.set_cons_zero, List.set_cons_succ])
      | (refine take_at (i := 6) (v := undef) rfl rfl (by kernel_rfl) (by kernel_rfl) (by kernel_rfl) (fun _ _ _ h => h) (Or.inr ⟨by rfl, rfl⟩) (by assumption) ?_
         simp only [List.setIfInBounds_toArray, List.set_cons_zero, List.set_cons_succ])
    first
      | (refine take_at (i := 7) (v := ?_) rfl rfl (by kernel_rfl) (by kernel_rfl) (by kernel_rfl) (fun _ _ _ h => h) (Or.inl ⟨by rfl, ?hy⟩) (by assumption) ?_
         case hy => (intro wz hSw; (try dsimp only at hSw); go_simp <;> with_reducible rfl)
         simp only [List.setIfInBounds_toArray, List.set_cons_zero, List.set_cons_succ])
      | (refine take_at (i := 7) (v := undef) rfl rfl (by kernel_rfl) (by kernel_rfl) (by kernel_rfl) (fun _ _ _ h => h) (Or.inr ⟨by rfl, rfl⟩) (by assumption) ?_
         simp only [List.setIfInBounds_toArray, List.set_cons_zero, List.set_cons_succ])
    first
      | (refine take_at (i := 9) (v := ?_) rfl rfl (by kernel_rfl) (by kernel_rfl) (by kernel_rfl) (fun _ _ _ h => h) (Or.inl ⟨by rfl, ?hy⟩) (by assumption) ?_
         case hy => (intro wz hSw; (try dsimp only at hSw); go_simp <;> with_reducible rfl)
         simp only [List.setIfInBounds_toArray, List.set_cons_zero, List.set_cons_succ])
      | (refine take_at (i := 9) (v := undef) rfl rfl (by kernel_rfl) (by kernel_rfl) (by kernel_rfl) (fun _ _ _ h => h) (Or.inr ⟨by rfl, rfl⟩) (by assumption) ?_
         simp only [List.setIfInBounds_toArray, List.set_cons_zero, List.set_cons_succ])
    first
      | (refine take_at (i := 10) (v := ?_) rfl rfl (by kernel_rfl) (by kernel_rfl) (by kernel_rfl) (fun _ _ _ h => h) (Or.inl ⟨by rfl, ?hy⟩) (by assumption) ?_
         case hy => (intro wz hSw; (try dsimp only at hSw); go_simp <;> with_reducible rfl)
         simp only [List.setIfInBounds_toArray, List.set_cons_zero, List.set_cons_succ])
      | (refine take_at (i := 10) (v := undef) rfl rfl (by kernel_rfl) (by kernel_rfl) (by kernel_rfl) (fun _ _ _ h => h) (Or.inr ⟨by rfl, rfl⟩) (by assumption) ?_
         simp only [List.setIfInBounds_toArray, List.set_cons_zero, List.set_cons_succ])
    first
      | (refine take_at (i := 11) (v := ?_) rfl rfl (by kernel_rfl) (by kernel_rfl) (by kernel_rfl) (fun _ _ _ h => h) (Or.inl ⟨by rfl, ?hy⟩) (by assumption) ?_
         case hy => (intro wz hSw; (try dsimp only at hSw); go_simp <;> with_reducible rfl)
         simp only [List.setIfInBounds_toArray, List.set_cons_zero, List.set_cons_succ])
      | (refine take_at (i := 11) (v := undef) rfl rfl (by kernel_rfl) (by kernel_rfl) (by kernel_rfl) (fun _ _ _ h => h) (Or.inr ⟨by rfl, rfl⟩) (by assumption) ?_
         simp only [List.setIfInBounds_toArray, List.set_cons_zero, List.set_cons_succ])
    first
      | (refine take_at (i := 12) (v := ?_) rfl rfl (by kernel_rfl) (by kernel_rfl) (by kernel_rfl) (fun _ _ _ h => h) (Or.inl ⟨by rfl, ?hy⟩) (by assumption) ?_
         case hy => (intro wz hSw; (try dsimp only at hSw); go_simp <;> with_reducible rfl)
         simp only [List.setIfInBounds_toArray, List.set_cons_zero, List.set_cons_succ])
      | (refine take_at (i := 12) (v := undef) rfl rfl (by kernel_rfl) (by kernel_rfl) (by kernel_rfl) (fun _ _ _ h => h) (Or.inr ⟨by rfl, rfl⟩) (by assumption) ?_
         simp only [List.setIfInBounds_toArray, List.set_cons_zero, List.set_cons_succ])
    first
      | (refine take_at (i := 13) (v := ?_) rfl rfl (by kernel_rfl) (by kernel_rfl) (by kernel_rfl) (fun _ _ _ h => h) (Or.inl ⟨by rfl, ?hy⟩) (by assumption) ?_
         case hy => (intro wz hSw; (try dsimp only at hSw); go_simp <;> with_reducible rfl)
         simp only [List.setIfInBounds_toArray, List.set_cons_zero, List.set_cons_succ])
      | (refine take_at (i := 13) (v := undef) rfl rfl (by kernel_rfl) (by kernel_rfl) (by kernel_rfl) (fun _ _ _ h => h) (Or.inr ⟨by rfl, rfl⟩) (by assumption) ?_
         simp only [List.setIfInBounds_toArray, List.set_cons_zero, List.set_cons_succ])
    first
      | (refine take_at (i := 14) (v := ?_) rfl rfl (by kernel_rfl) (by kernel_rfl) (by kernel_rfl) (fun _ _ _ h => h) (Or.inl ⟨by rfl, ?hy⟩) (by assumption) ?_
         case hy => (intro wz hSw; (try dsimp only at hSw); go_simp <;> with_reducible rfl)
         simp only [List.setIfInBounds_toArray, List.set_cons_zero, List.set_cons_succ])
      | (refine take_at (i := 14) (v := undef) rfl rfl (by kernel_rfl) (by kernel_rfl) (by kernel_rfl) (fun _ _ _ h => h) (Or.inr ⟨by rfl, rfl⟩) (by assumption) ?_
         simp only [List.setIfInBounds_toArray, List.set_cons_zero, List.set_cons_succ])
    refine take_at (i := 15) (v := .slice oa 0 (cap - L.length)) rfl rfl (by kernel_rfl) (by kernel_rfl) (by kernel_rfl) (fun _ _ _ h => h) (Or.inl ⟨by rfl, ?hy⟩) (by assumption) ?_
    case hy =>
      intro wz hSw
      (try dsimp only at hSw)
      go_simp
      have hm : ∀ z : Int, z = (if (k : Int) < 0 then 0 else (k : Int)) → (if (L.length : Int) < z then (L.length : Int) else z) = (L.length : Int) := fun z hz => by rw [if_neg (by omega)] at hz; subst hz; split <;> omega
      rw [hm _ rfl]
      rw [if_pos ⟨by omega, by omega⟩]
      rw [Int.toNat_natCast, Nat.sub_self, HOA.out]
    simp only [List.setIfInBounds_toArray, List.set_cons_zero, List.set_cons_succ]
    refine call_at (i := 8) (F := 11) (CF1.out _ (by repeat (first | with_reducible exact Ext.refl _ | with_reducible assumption | with_reducible refine Ext.alloc ?_ _ | with_reducible refine Ext.drew ?_ | with_reducible refine Ext.drewN ?_ _ | with_reducible refine Ext.setCell ?_ (by simp <;> omega) _ | with_reducible refine Ext.trans ?_ (by assumption)))) rfl rfl (by kernel_rfl) (by rfl) (by first | rfl | (go_simp <;> rfl)) ?_
    rintro e wq2 ⟨vq2, rfl, Rq2, Xq2⟩
    have Yq2 := Ext.trans hHeld Xq2
    refine ⟨_, rfl, Yq2, wpAnyH_strong (S' := fun w' => Ext wq2 w') (fun w' h => Ext.trans Yq2 h) _ _ _ _ ?_⟩
    simp only [List.setIfInBounds_toArray, List.set_cons_zero, List.set_cons_succ]
    have Zq2 : Ext wr wq2 := Ext.trans (by assumption) Yq2
    clear hHeld Xq2 Yq2
    have hHeld := Ext.refl wq2
    have SA := Lib.hid (fun v' w' B1 (h1 : EvsV w' B1 v' (L.drop k)) (hz : Ext w w') => rSame_is v' (.slice oa 0 (cap - L.length)) (L.drop k) (L.drop k) w' h1 (HSL.out.ext hz) (fun e he => HD6.out e (List.mem_of_mem_drop he)) (fun e he => HD6.out e (List.mem_of_mem_drop he)))
    rw [decide_eq_true (rfl : L.drop k = L.drop k)] at SA
    have SB := Lib.hid (fun v' w' B1 (h1 : EvsV w' B1 v' L) (hz : Ext w w') => rSame_is v' _ L L w' h1 (HE.out.ext hz) HD6.out HD6.out)
    rw [decide_eq_true (rfl : L = L)] at SB
    refine call_at (i := 16) (F := 14) (SA.out _ _ _ (Rq2.evs) (HX.out.trans (by repeat (first | with_reducible exact Ext.refl _ | with_reducible assumption | with_reducible refine Ext.alloc ?_ _ | with_reducible refine Ext.drew ?_ | with_reducible refine Ext.drewN ?_ _ | with_reducible refine Ext.setCell ?_ (by simp <;> omega) _ | with_reducible refine Ext.trans ?_ (by assumption))))) rfl rfl (by kernel_rfl) (by rfl) (by first | rfl | (go_simp <;> rfl)) ?_
    rintro e wq3 ⟨rfl, Xq3⟩
    have Yq3 := Ext.trans hHeld Xq3
    refine ⟨_, rfl, Yq3, wpAnyH_strong (S' := fun w' => Ext wq3 w') (fun w' h => Ext.trans Yq3 h) _ _ _ _ ?_⟩
    simp only [List.setIfInBounds_toArray, List.set_cons_zero, List.set_cons_succ]
    have Zq3 : Ext wr wq3 := Ext.trans (by assumption) Yq3
    clear hHeld Xq3 Yq3
    have hHeld := Ext.refl wq3
    first
      | (refine take_at (i := 17) (v := ?_) rfl rfl (by kernel_rfl) (by kernel_rfl) (by kernel_rfl) (fun _ _ _ h => h) (Or.inl ⟨by rfl, ?hy⟩) (by assumption) ?_
         case hy => (intro wz hSw; (try dsimp only at hSw); go_simp <;> with_reducible rfl)
         simp only [List.setIfInBounds_toArray, List.set_cons_zero, List.set_cons_succ])
      | (refine take_at (i := 17) (v := undef) rfl rfl (by kernel_rfl) (by kernel_rfl) (by kernel_rfl) (fun _ _ _ h => h) (Or.inr ⟨by rfl, rfl⟩) (by assumption) ?_
         simp only [List.setIfInBounds_toArray, List.set_cons_zero, List.set_cons_succ])
    first
      | (refine take_at (i := 18) (v := ?_) rfl rfl (by kernel_rfl) (by kernel_rfl) (by kernel_rfl) (fun _ _ _ h => h) (Or.inl ⟨by rfl, ?hy⟩) (by assumption) ?_
         case hy => (intro wz hSw; (try dsimp only at hSw); go_simp <;> with_reducible rfl)
         simp only [List.setIfInBounds_toArray, List.set_cons_zero, List.set_cons_succ])
      | (refine take_at (i := 18) (v := undef) rfl rfl (by kernel_rfl) (by kernel_rfl) (by kernel_rfl) (fun _ _ _ h => h) (Or.inr ⟨by rfl, rfl⟩) (by assumption) ?_
         simp only [List.setIfInBounds_toArray, List.set_cons_zero, List.set_cons_succ])
    first
      | (refine take_at (i := 19) (v := ?_) rfl rfl (by kernel_rfl) (by kernel_rfl) (by kernel_rfl) (fun _ _ _ h => h) (Or.inl ⟨by rfl, ?hy⟩) (by assumption) ?_
         case hy => (intro wz hSw; (try dsimp only at hSw); go_simp <;> with_reducible rfl)
         simp only [List.setIfInBounds_toArray, List.set_cons_zero, List.set_cons_succ])
      | (refine take_at (i := 19) (v := undef) rfl rfl (by kernel_rfl) (by kernel_rfl) (by kernel_rfl) (fun _ _ _ h => h) (Or.inr ⟨by rfl, rfl⟩) (by assumption) ?_
         simp only [List.setIfInBounds_toArray, List.set_cons_zero, List.set_cons_succ])
    first
      | (refine take_at (i := 20) (v := ?_) rfl rfl (by kernel_rfl) (by kernel_rfl) (by kernel_rfl) (fun _ _ _ h => h) (Or.inl ⟨by rfl, ?hy⟩) (by assumption) ?_
         case hy => (intro wz hSw; (try dsimp only at hSw); go_simp <;> with_reducible rfl)
         simp only [List.setIfInBounds_toArray, List.set_cons_zero, List.set_cons_succ])
      | (refine take_at (i := 20) (v := undef) rfl rfl (by kernel_rfl) (by kernel_rfl) (by kernel_rfl) (fun _ _ _ h => h) (Or.inr ⟨by rfl, rfl⟩) (by assumption) ?_
         simp only [List.setIfInBounds_toArray, List.set_cons_zero, List.set_cons_succ])
    first
      | (refine take_at (i := 22) (v := ?_) rfl rfl (by kernel_rfl) (by kernel_rfl) (by kernel_rfl) (fun _ _ _ h => h) (Or.inl ⟨by rfl, ?hy⟩) (by assumption) ?_
         case hy => (intro wz hSw; (try dsimp only at hSw); go_simp <;> with_reducible rfl)
         simp only [List.setIfInBounds_toArray, List.set_cons_zero, List.set_cons_succ])
      | (refine take_at (i := 22) (v := undef) rfl rfl (by kernel_rfl) (by kernel_rfl) (by kernel_rfl) (fun _ _ _ h => h) (Or.inr ⟨by rfl, rfl⟩) (by assumption) ?_
         simp only [List.setIfInBounds_toArray, List.set_cons_zero, List.set_cons_succ])
    refine call_at (i := 21) (F := 11) (CF2.out _ (by repeat (first | with_reducible exact Ext.refl _ | with_reducible assumption | with_reducible refine Ext.alloc ?_ _ | with_reducible refine Ext.drew ?_ | with_reducible refine Ext.drewN ?_ _ | with_reducible refine Ext.setCell ?_ (by simp <;> omega) _ | with_reducible refine Ext.trans ?_ (by assumption)))) rfl rfl (by kernel_rfl) (by rfl) (by first | rfl | (go_simp <;> rfl)) ?_
    rintro e wq4 ⟨vq4, rfl, Rq4, Xq4⟩
    have Yq4 := Ext.trans hHeld Xq4
    refine ⟨_, rfl, Yq4, wpAnyH_strong (S' := fun w' => Ext wq4 w') (fun w' h => Ext.trans Yq4 h) _ _ _ _ ?_⟩
    simp only [List.setIfInBounds_toArray, List.set_cons_zero, List.set_cons_succ]
    have Zq4 : Ext wr wq4 := Ext.trans (by assumption) Yq4
    clear hHeld Xq4 Yq4
    have hHeld := Ext.refl wq4
    refine call_at (i := 23) (F := 14) (SB.out _ _ _ (Rq4.evs) (HX.out.trans (by repeat (first | with_reducible exact Ext.refl _ | with_reducible assumption | with_reducible refine Ext.alloc ?_ _ | with_reducible refine Ext.drew ?_ | with_reducible refine Ext.drewN ?_ _ | with_reducible refine Ext.setCell ?_ (by simp <;> omega) _ | with_reducible refine Ext.trans ?_ (by assumption))))) rfl rfl (by kernel_rfl) (by rfl) (by first | rfl | (go_simp <;> rfl)) ?_
    rintro e wq5 ⟨rfl, Xq5⟩
    have Yq5 := Ext.trans hHeld Xq5
    refine ⟨_, rfl, Yq5, wpAnyH_strong (S' := fun w' => Ext wq5 w') (fun w' h => Ext.trans Yq5 h) _ _ _ _ ?_⟩
    simp only [List.setIfInBounds_toArray, List.set_cons_zero, List.set_cons_succ]
    have Zq5 : Ext wr wq5 := Ext.trans (by assumption) Yq5
    clear hHeld Xq5 Yq5
    have hHeld := Ext.refl wq5
    first
      | (refine take_at (i := 24) (v := ?_) rfl rfl (by kernel_rfl) (by kernel_rfl) (by kernel_rfl) (fun _ _ _ h => h) (Or.inl ⟨by rfl, ?hy⟩) (by assumption) ?_
         case hy => (intro wz hSw; (try dsimp only at hSw); go_simp <;> with_reducible rfl)
         simp only [List.setIfInBounds_toArray, List.set_cons_zero, List.set_cons_succ])
      | (refine take_at (i := 24) (v := undef) rfl rfl (by kernel_rfl) (by kernel_rfl) (by kernel_rfl) (fun _ _ _ h => h) (Or.inr ⟨by rfl, rfl⟩) (by assumption) ?_
         simp only [List.setIfInBounds_toArray, List.set_cons_zero, List.set_cons_succ])
    first
      | (refine take_at (i := 25) (v := ?_) rfl rfl (by kernel_rfl) (by kernel_rfl) (by kernel_rfl) (fun _ _ _ h => h) (Or.inl ⟨by rfl, ?hy⟩) (by assumption) ?_
         case hy => (intro wz hSw; (try dsimp only at hSw); go_simp <;> with_reducible rfl)
         simp only [List.setIfInBounds_toArray, List.set_cons_zero, List.set_cons_succ])
      | (refine take_at (i := 25) (v := undef) rfl rfl (by kernel_rfl) (by kernel_rfl) (by kernel_rfl) (fun _ _ _ h => h) (Or.inr ⟨by rfl, rfl⟩) (by assumption) ?_
         simp only [List.setIfInBounds_toArray, List.set_cons_zero, List.set_cons_succ])
    refine wpAnyH_done (by kernel_rfl) ?_ _
    have XW := Lib.hid (by repeat (first | with_reducible exact Ext.refl _ | with_reducible assumption | with_reducible refine Ext.alloc ?_ _ | with_reducible refine Ext.drew ?_ | with_reducible refine Ext.drewN ?_ _ | with_reducible refine Ext.setCell ?_ (by simp <;> omega) _ | with_reducible refine Ext.trans ?_ (by assumption)) : Ext wr wq5)
    have HGQ := Lib.hid (HG.out.ext XW.out)
    have HXQ := Lib.hid (HX.out.trans XW.out)
    have hq9 := HXQ.out.size
    clear Rq2 Rq4 hHeld SA SB CF1 CF2 CLen XW
    have HLW : Hid (∀ q, v.ownBlock = some q → q < wq5.heap.size) := Lib.hid (fun q hq => (HGQ.out.r.lt hq).2.1)
    have hL9 : ([] : List Ev).length + L.length ≤ 1000000 := by simp; omega
    go_wp2_with (at_builtin; refine appEs _ rfl _ _ rfl w.heap.size (.slice none 0 0) [] rfl (RE.nil _ _) hq9 (.slice (some ⟨b, off, none⟩) L.length cap) L rfl (HE.out.ext HXQ.out) hL9 ?_)
    intro v6 w6 R6 G6 at6
    have X6 : Ext wq5 w6 := (Ext.refl wq5).grown G6 (fun q hq => by cases hq)
    have hv6 : ∀ q, v6.ownBlock = some q → wq5.heap.size ≤ q := fun q hq => by
      rcases at6 with h | h
      · rw [hq] at h; cases h
      · rw [hq] at h; cases h; exact Nat.le_refl _
    have HV6 := Lib.hid hv6
    have G8 := HGQ.out.ext X6
    have X8 := HXQ.out.trans X6
    have R8 := R6
    have CF := Lib.hid (eFill_no w w6 lb v L k (.slice da ds.length dc) G8 HOUT.out)
    clear R6 G6 at6 X6 hv6 hL9 hq9
    go_wp2_with fail
    refine CF.out.mono ?_
    rintro e w' ⟨rfl, rfl⟩
    have hd8 : ∀ e ∈ L, e.d.length ≤ 1000000 := HD6.out
    have CF0 := Lib.hid (eFrom_pos w w6 lb v (L) 0 0 G8 (by omega) hd8 ⟨rfl, Nat.zero_le _⟩)
    rw [List.drop_zero] at CF0
    have HR8 := Lib.hid R8
    have HX8 := Lib.hid X8
    have SC := Lib.hid (fun a b w' B1 B2 (h1 : EvsV w' B1 a (L)) (h2 : EvsV w' B2 b (L)) => rSame_is a b _ _ w' h1 h2 hd8 hd8)
    rw [decide_eq_true (rfl : L = L)] at SC
    generalize L = LL at *
    clear R8 X8 G8 hd8
    go_wp2_with fail
    refine CF0.out.mono ?_
    rintro e w9 ⟨v9, rfl, R9, X9⟩
    have HR9 := Lib.hid R9.evs
    have HW9 := Lib.hid (HR8.out.ext X9).evs
    have HX9 := Lib.hid (HX8.out.trans X9)
    clear R9 X9
    go_wp2_with fail
    refine (SC.out _ _ _ _ _ HR9.out HW9.out).mono ?_
    rintro e wa ⟨rfl, Xa⟩
    go_wp2_with fail
    refine (live15 _).mono ?_
    rintro e wb ⟨rfl, Xb⟩
    go_wp2
    go_ret
    exact ⟨rfl, ((HX9.out.trans Xa).trans Xb).below⟩
set_option maxRecDepth 100000 in
theorem logs_edge (a : Option Addr) (cap : Nat) (L : List Ev) (n : Int) (k : Nat) (dv : Value) (ds : List Int) (w : World) (hE : EvsV w w.heap.size (.slice a L.length cap) L) (hD : Dat w w.heap.size dv ds) (h200 : L.length ≤ 200) (h100 : ∀ e ∈ L, e.d.length ≤ 100) (hds : ds.length ≤ 100) (hlg : lng L 200 = false) (hn : n = k) (hk9 : ¬ L.length < k) (hkk : L.length ≤ k) (hk : 0 < L.length) :
    Calls Try.prog 3 #[.slice a L.length cap, .int .i64 n, dv] w fun e w' => e = .returned (.bool true) ∧ Below w.heap.size w w' := by
  have HE := Lib.hid hE
  have HD := Lib.hid hD
  have CL := Lib.hid (eLong (.slice a L.length cap) L 200 w hE (by decide))
  rw [hlg] at CL
  obtain ⟨da, dc, ed⟩ := hD.len
  subst ed
  have hd6 : ∀ e ∈ L, e.d.length ≤ 1000000 := fun e he => by have := h100 e he; omega
  have HD6 := Lib.hid hd6
  have H100 := Lib.hid h100
  have hkL : ¬ (L.length : Int) < (k : Int) := by omega
  have hout : n < 0 ∨ (L.length : Int) ≤ n := .inr (by omega)
  have hnn : 0 ≤ n := by omega
  have hnl : ¬ n < (L.length : Int) := by omega
  obtain ⟨b, off, u, ea, -⟩ := HE.out.at (Ext.refl w) hk
  subst ea
  have hcap : L.length ≤ cap ∧ cap ≤ maxLen := by obtain ⟨a', cap', e, h1, h2, _⟩ := HE.out; cases e; exact ⟨h1, h2⟩
  obtain ⟨oa, hoa⟩ : ∃ oa : Option Addr, oa = (if cap = L.length then some ⟨b, off, none⟩ else some ⟨b, off + L.length * 7, none⟩) := ⟨_, rfl⟩
  have hos : oa ≠ none := by rw [hoa]; split <;> simp
  have HSL : Hid (EvsV w w.heap.size (.slice oa 0 (cap - L.length)) (L.drop k)) := Lib.hid (by
    rw [List.drop_of_length_le hkk]
    exact ⟨oa, _, rfl, Nat.zero_le _, by omega, fun e => absurd e hos, fun i hi => by simp at hi⟩)
  have HOA := Lib.hid hoa
  have HOS := Lib.hid hos
  have hkJ : (L.length : Int) ≤ (k : Int) := by omega
  have HOUT := Lib.hid hout
  clear hout
  have hkN : ¬ (k : Int) < (L.length : Int) := by omega
  have hcap1 := hcap.1
  clear hoa hos hcap
  subst hn
  have hdl : ¬ (100 : Int) < (ds.length : Int) := by omega
  clear hE hD hlg hd6 h100
  go_enter Try.func3, Try.ntmps3
  go_wp2_with fail
  refine CL.out.mono ?_
  rintro e w2 ⟨rfl, X2⟩
  have HX2 := Lib.hid X2
  clear X2
  have CN := Lib.hid (fun w' => eNote_nil ⟨1, 0, 0, 0, 0, 0, []⟩ (.slice none 0 0) w')
  unfold evA at CN
  go_wp2_with fail
  refine (CN.out _).mono ?_
  rintro e w3 ⟨rfl, X3⟩
  have HX3 := Lib.hid (HX2.out.trans X3)
  clear X3 HX2 CN
  go_wp2_with fail
  refine (eLen_nil _).mono ?_
  rintro e w' ⟨rfl, rfl⟩
  go_wp2_with fail
  refine (eFrom_nil _).mono ?_
  rintro e w' ⟨rfl, rfl⟩
  go_wp2_with fail
  refine (eFill_nil _ _).mono ?_
  rintro e w' ⟨rfl, rfl⟩
  go_wp2_with fail
  refine (eNew _).mono ?_
  rintro e w4 ⟨rfl, hw4⟩
  have G4 := LG.new w w3 HX3.out
  rw [← hw4] at G4
  have HX4 := Lib.hid (HX3.out.trans (by rw [hw4]; exact (Ext.refl w3).alloc _) : Ext w w4)
  have HG4 := Lib.hid G4
  clear G4 hw4 HX3
  generalize w3.heap.size = lb at *
  go_wp2
  go_loopw [9] (fun i wr => ∃ j : Nat, j ≤ L.length ∧ i = .int .i64 j ∧ ∃ v, LG w wr lb v (L.take j) ∧ Ext w wr) (fun i _ => L.length - (intOf i).toNat)
  case atStart => exact ⟨0, Nat.zero_le _, rfl, _, by rw [List.take_zero]; exact HG4.out, HX4.out⟩
  case round =>
    obtain ⟨j, hj, rfl, v, hG, hx⟩ := hrel
    clear HG4 HX4
    by_cases hlt : j < L.length
    case pos =>
      have hlt' : (j : Int) < (L.length : Int) := by omega
      obtain ⟨b, off, u, ea, A⟩ := HE.out.at hx hlt
      cases ea
      obtain ⟨ua, uc, eu⟩ := A.d.len
      have hst : L.take (j + 1) = L.take j ++ [L[j]] := List.take_succ_eq_append_getElem hlt
      have hxd := H100.out L[j] (List.getElem_mem hlt)
      have CN := fun (h : u = .slice ua L[j].d.length uc) => eNote w wr lb v (L.take j) L[j] u hG hx A.d (by rw [List.length_take]; omega) (by omega)
      have CN2 := CN eu
      rw [← hst] at CN2
      generalize L[j] = x at *
      generalize hul : x.d.length = ul at eu
      subst eu
      unfold evA at CN2
      have HCN := Lib.hid CN2
      obtain ⟨c0, c1, c2, c3, c4, c5, c6, -⟩ := A
      clear CN CN2 hst hG hx hul
      go_wp2_with fail
      refine HCN.out.mono ?_
      rintro e w5 ⟨rfl, v5, G5, X5⟩
      have HG5 := Lib.hid G5
      have HX5 := Lib.hid X5
      clear G5 X5
      go_wp2
      exact ⟨⟨j + 1, by omega, by go_num, v5, HG5.out, HX5.out⟩, by simp [intOf]; omega⟩
    obtain rfl : j = L.length := by omega
    rw [List.take_length] at hG
    have HG := Lib.hid hG
    have HX := Lib.hid hx
    clear hG hx hlt
    have CLen := Lib.hid (fun w' (hz : Ext wr w') => eLen w w' lb v L (HG.out.ext hz))
    have CF1 := Lib.hid (fun w' (hz : Ext wr w') => eFrom_pos w w' lb v L k k (HG.out.ext hz) (by omega) HD6.out ⟨rfl, Nat.zero_le _⟩)
    have CF2 := Lib.hid (fun w' (hz : Ext wr w') => eFrom_neg w w' lb v L (-1) 0 (HG.out.ext hz) (by omega) HD6.out ⟨by decide, rfl⟩)
    rw [List.drop_zero] at CF2
    go_upto_region 12 with (fail)
    refine wp_region_held_drew (S := fun w' => Ext wr w') (by kernel_rfl) ?hbeg (fun hHeld => ?_)
    case hbeg => exact (Ext.refl wr).drew
    have hHeld0 : Ext wr wr := by first | exact Ext.refl _ | assumption
    first
      | (refine take_at (i := 0) (v := ?_) rfl rfl (by kernel_rfl) (by kernel_rfl) (by kernel_rfl) (fun _ _ _ h => h) (Or.inl ⟨by rfl, ?hy⟩) (by assumption) ?_
         case hy => (intro wz hSw; (try dsimp only at hSw); go_simp <;> with_reducible rfl)
         simp only [List.setIfInBounds_toArray, List.set_cons_zero, List.set_cons_succ])
      | (refine take_at (i := 0) (v := undef) rfl rfl (by kernel_rfl) (by kernel_rfl) (by kernel_rfl) (fun _ _ _ h => h) (Or.inr ⟨by rfl, rfl⟩) (by assumption) ?_
         simp only [List.setIfInBounds_toArray, List.set_cons_zero, List.set_cons_succ])
    first
      | (refine take_at (i := 2) (v := ?_) rfl rfl (by kernel_rfl) (by kernel_rfl) (by kernel_rfl) (fun _ _ _ h => h) (Or.inl ⟨by rfl, ?hy⟩) (by assumption) ?_
         case hy => (intro wz hSw; (try dsimp only at hSw); go_simp <;> with_reducible rfl)
         simp only [List.setIfInBounds_toArray, List.set_cons_zero, List.set_cons_succ])
      | (refine take_at (i := 2) (v := undef) rfl rfl (by kernel_rfl) (by kernel_rfl) (by kernel_rfl) (fun _ _ _ h => h) (Or.inr ⟨by rfl, rfl⟩) (by assumption) ?_
         simp only [List.setIfInBounds_toArray, List.set_cons_zero, List.set_cons_succ])
    first
      | (refine take_at (i := 3) (v := ?_) rfl rfl (by kernel_rfl) (by kernel_rfl) (by kernel_rfl) (fun _ _ _ h => h) (Or.inl ⟨by rfl, ?hy⟩) (by assumption) ?_
         case hy => (intro wz hSw; (try dsimp only at hSw); go_simp <;> with_reducible rfl)
         simp only [List.setIfInBounds_toArray, List.set_cons_zero, List.set_cons_succ])
      | (refine take_at (i := 3) (v := undef) rfl rfl (by kernel_rfl) (by kernel_rfl) (by kernel_rfl) (fun _ _ _ h => h) (Or.inr ⟨by rfl, rfl⟩) (by assumption) ?_
         simp only [List.setIfInBounds_toArray, List.set_cons_zero, List.set_cons_succ])
    refine call_at (i := 1) (F := 10) (CLen.out _ (by repeat (first | with_reducible exact Ext.refl _ | with_reducible assumption | with_reducible refine Ext.alloc ?_ _ | with_reducible refine Ext.drew ?_ | with_reducible refine Ext.drewN ?_ _ | with_reducible refine Ext.setCell ?_ (by simp <;> omega) _ | with_reducible refine Ext.trans ?_ (by assumption)))) rfl rfl (by kernel_rfl) (by rfl) (by first | rfl | (go_simp <;> rfl)) ?_
    rintro e w' ⟨rfl, rfl⟩
    refine ⟨_, rfl, by assumption, ?_⟩
    simp only [List.setIfInBounds_toArray, List.set_cons_zero, List.set_cons_succ]
    first
      | (refine take_at (i := 4) (v := ?_) rfl rfl (by kernel_rfl) (by kernel_rfl) (by kernel_rfl) (fun _ _ _ h => h) (Or.inl ⟨by rfl, ?hy⟩) (by assumption) ?_
         case hy => (intro wz hSw; (try dsimp only at hSw); go_simp <;> with_reducible rfl)
         simp only [List.setIfInBounds_toArray, List.set_cons_zero, List.set_cons_succ])
      | (refine take_at (i := 4) (v := undef) rfl rfl (by kernel_rfl) (by kernel_rfl) (by kernel_rfl) (fun _ _ _ h => h) (Or.inr ⟨by rfl, rfl⟩) (by assumption) ?_
         simp only [List.setIfInBounds_toArray, List.set_cons_zero, List.set_cons_succ])
    first
      | (refine take_at (i := 5) (v := ?_) rfl rfl (by kernel_rfl) (by kernel_rfl) (by kernel_rfl) (fun _ _ _ h => h) (Or.inl ⟨by rfl, ?hy⟩) (by assumption) ?_
         case hy => (intro wz hSw; (try dsimp only at hSw); go_simp <;> with_reducible rfl)
         simp only [List.setIfInBounds_toArray, List.set_cons_zero, List.set_cons_succ])
      | (refine take_at (i := 5) (v := undef) rfl rfl (by kernel_rfl) (by kernel_rfl) (by kernel_rfl) (fun _ _ _ h => h) (Or.inr ⟨by rfl, rfl⟩) (by assumption) ?_
         simp only [List.setIfInBounds_toArray, List.set_cons_zero, List.set_cons_succ])
    first
      | (refine take_at (i := 6) (v := ?_) rfl rfl (by kernel_rfl) (by kernel_rfl) (by kernel_rfl) (fun _ _ _ h => h) (Or.inl ⟨by rfl, ?hy⟩) (by assumption) ?_
         case hy => (intro wz hSw; (try dsimp only at hSw); go_simp <;> with_reducible rfl)
         simp only [List.setIfInBounds_toArray, List.set_cons_zero, List.set_cons_succ])
      | (refine take_at (i := 6) (v := undef) rfl rfl (by kernel_rfl) (by kernel_rfl) (by kernel_rfl) (fun _ _ _ h => h) (Or.inr ⟨by rfl, rfl⟩) (by assumption) ?_
         simp only [List.setIfInBounds_toArray, List.set_cons_zero, List.set_cons_succ])
    first
      | (refine take_at (i := 7) (v := ?_) rfl rfl (by kernel_rfl) (by kernel_rfl) (by kernel_rfl) (fun _ _ _ h => h) (Or.inl ⟨by rfl, ?hy⟩) (by assumption) ?_
         case hy => (intro wz hSw; (try dsimp only at hSw); go_simp <;> with_reducible rfl)
         simp only [List.setIfInBounds_toArray, List.set_cons_zero, List.set_cons_succ])
      | (refine take_at (i := 7) (v := undef) rfl rfl (by kernel_rfl) (by kernel_rfl) (by kernel_rfl) (fun _ _ _ h => h) (Or.inr ⟨by rfl, rfl⟩) (by assumption) ?_
         simp only [List.setIfInBounds_toArray, List.set_cons_zero, List.set_cons_succ])
    first
      | (refine take_at (i := 9) (v := ?_) rfl rfl (by kernel_rfl) (by kernel_rfl) (by kernel_rfl) (fun _ _ _ h => h) (Or.inl ⟨by rfl, ?hy⟩) (by assumption) ?_
         case hy => (intro wz hSw; (try dsimp only at hSw); go_simp <;> with_reducible rfl)
         simp only [List.setIfInBounds_toArray, List.set_cons_zero, List.set_cons_succ])
      | (refine take_at (i := 9) (v := undef) rfl rfl (by kernel_rfl) (by kernel_rfl) (by kernel_rfl) (fun _ _ _ h => h) (Or.inr ⟨by rfl, rfl⟩) (by assumption) ?_
         simp only [List.setIfInBounds_toArray, List.set_cons_zero, List.set_cons_succ])
    first
      | (refine take_at (i := 10) (v := ?_) rfl rfl (by kernel_rfl) (by kernel_rfl) (by kernel_rfl) (fun _ _ _ h => h) (Or.inl ⟨by rfl, ?hy⟩) (by assumption) ?_
         case hy => (intro wz hSw; (try dsimp only at hSw); go_simp <;> with_reducible rfl)
         simp only [List.setIfInBounds_toArray, List.set_cons_zero, List.set_cons_succ])
      | (refine take_at (i := 10) (v := undef) rfl rfl (by kernel_rfl) (by kernel_rfl) (by kernel_rfl) (fun _ _ _ h => h) (Or.inr ⟨by rfl, rfl⟩) (by assumption) ?_
         simp only [List.setIfInBounds_toArray, List.set_cons_zero, List.set_cons_succ])
    first
      | (refine take_at (i := 11) (v := ?_) rfl rfl (by kernel_rfl) (by kernel_rfl) (by kernel_rfl) (fun _ _ _ h => h) (Or.inl ⟨by rfl, ?hy⟩) (by assumption) ?_
         case hy => (intro wz hSw; (try dsimp only at hSw); go_simp <;> with_reducible rfl)
         simp only [List.setIfInBounds_toArray, List.set_cons_zero, List.set_cons_succ])
      | (refine take_at (i := 11) (v := undef) rfl rfl (by kernel_rfl) (by kernel_rfl) (by kernel_rfl) (fun _ _ _ h => h) (Or.inr ⟨by rfl, rfl⟩) (by assumption) ?_
         simp only [List.setIfInBounds_toArray, List.set_cons_zero, List.set_cons_succ])
    first
      | (refine take_at (i := 12) (v := ?_) rfl rfl (by kernel_rfl) (by kernel_rfl) (by kernel_rfl) (fun _ _ _ h => h) (Or.inl ⟨by rfl, ?hy⟩) (by assumption) ?_
         case hy => (intro wz hSw; (try dsimp only at hSw); go_simp <;> with_reducible rfl)
         simp only [List.setIfInBounds_toArray, List.set_cons_zero, List.set_cons_succ])
      | (refine take_at (i := 12) (v := undef) rfl rfl (by kernel_rfl) (by kernel_rfl) (by kernel_rfl) (fun _ _ _ h => h) (Or.inr ⟨by rfl, rfl⟩) (by assumption) ?_
         simp only [List.setIfInBounds_toArray, List.set_cons_zero, List.set_cons_succ])
    first
      | (refine take_at (i := 13) (v := ?_) rfl rfl (by kernel_rfl) (by kernel_rfl) (by kernel_rfl) (fun _ _ _ h => h) (Or.inl ⟨by rfl, ?hy⟩) (by assumption) ?_
         case hy => (intro wz hSw; (try dsimp only at hSw); go_simp <;> with_reducible rfl)
         simp only [List.setIfInBounds_toArray, List.set_cons_zero, List.set_cons_succ])
      | (refine take_at (i := 13) (v := undef) rfl rfl (by kernel_rfl) (by kernel_rfl) (by kernel_rfl) (fun _ _ _ h => h) (Or.inr ⟨by rfl, rfl⟩) (by assumption) ?_
         simp only [List.setIfInBounds_toArray, List.set_cons_zero, List.set_cons_succ])
    first
      | (refine take_at (i := 14) (v := ?_) rfl rfl (by kernel_rfl) (by kernel_rfl) (by kernel_rfl) (fun _ _ _ h => h) (Or.inl ⟨by rfl, ?hy⟩) (by assumption) ?_
         case hy => (intro wz hSw; (try dsimp only at hSw); go_simp <;> with_reducible rfl)
         simp only [List.setIfInBounds_toArray, List.set_cons_zero, List.set_cons_succ])
      | (refine take_at (i := 14) (v := undef) rfl rfl (by kernel_rfl) (by kernel_rfl) (by kernel_rfl) (fun _ _ _ h => h) (Or.inr ⟨by rfl, rfl⟩) (by assumption) ?_
         simp only [List.setIfInBounds_toArray, List.set_cons_zero, List.set_cons_succ])
    refine take_at (i := 15) (v := .slice oa 0 (cap - L.length)) rfl rfl (by kernel_rfl) (by kernel_rfl) (by kernel_rfl) (fun _ _ _ h => h) (Or.inl ⟨by rfl, ?hy⟩) (by assumption) ?_
    case hy =>
      intro wz hSw
      (try dsimp only at hSw)
      go_simp
      have hm : ∀ z : Int, z = (if (k : Int) < 0 then 0 else (k : Int)) → (if (L.length : Int) < z then (L.length : Int) else z) = (L.length : Int) := fun z hz => by rw [if_neg (by omega)] at hz; subst hz; split <;> omega
      rw [hm _ rfl]
      rw [if_pos ⟨by omega, by omega⟩]
      rw [Int.toNat_natCast, Nat.sub_self, HOA.out]
    simp only [List.setIfInBounds_toArray, List.set_cons_zero, List.set_cons_succ]
    refine call_at (i := 8) (F := 11) (CF1.out _ (by repeat (first | with_reducible exact Ext.refl _ | with_reducible assumption | with_reducible refine Ext.alloc ?_ _ | with_reducible refine Ext.drew ?_ | with_reducible refine Ext.drewN ?_ _ | with_reducible refine Ext.setCell ?_ (by simp <;> omega) _ | with_reducible refine Ext.trans ?_ (by assumption)))) rfl rfl (by kernel_rfl) (by rfl) (by first | rfl | (go_simp <;> rfl)) ?_
    rintro e wq2 ⟨vq2, rfl, Rq2, Xq2⟩
    have Yq2 := Ext.trans hHeld Xq2
    refine ⟨_, rfl, Yq2, wpAnyH_strong (S' := fun w' => Ext wq2 w') (fun w' h => Ext.trans Yq2 h) _ _ _ _ ?_⟩
    simp only [List.setIfInBounds_toArray, List.set_cons_zero, List.set_cons_succ]
    have Zq2 : Ext wr wq2 := Ext.trans (by assumption) Yq2
    clear hHeld Xq2 Yq2
    have hHeld := Ext.refl wq2
    have SA := Lib.hid (fun v' w' B1 (h1 : EvsV w' B1 v' (L.drop k)) (hz : Ext w w') => rSame_is v' (.slice oa 0 (cap - L.length)) (L.drop k) (L.drop k) w' h1 (HSL.out.ext hz) (fun e he => HD6.out e (List.mem_of_mem_drop he)) (fun e he => HD6.out e (List.mem_of_mem_drop he)))
    rw [decide_eq_true (rfl : L.drop k = L.drop k)] at SA
    have SB := Lib.hid (fun v' w' B1 (h1 : EvsV w' B1 v' L) (hz : Ext w w') => rSame_is v' _ L L w' h1 (HE.out.ext hz) HD6.out HD6.out)
    rw [decide_eq_true (rfl : L = L)] at SB
    refine call_at (i := 16) (F := 14) (SA.out _ _ _ (Rq2.evs) (HX.out.trans (by repeat (first | with_reducible exact Ext.refl _ | with_reducible assumption | with_reducible refine Ext.alloc ?_ _ | with_reducible refine Ext.drew ?_ | with_reducible refine Ext.drewN ?_ _ | with_reducible refine Ext.setCell ?_ (by simp <;> omega) _ | with_reducible refine Ext.trans ?_ (by assumption))))) rfl rfl (by kernel_rfl) (by rfl) (by first | rfl | (go_simp <;> rfl)) ?_
    rintro e wq3 ⟨rfl, Xq3⟩
    have Yq3 := Ext.trans hHeld Xq3
    refine ⟨_, rfl, Yq3, wpAnyH_strong (S' := fun w' => Ext wq3 w') (fun w' h => Ext.trans Yq3 h) _ _ _ _ ?_⟩
    simp only [List.setIfInBounds_toArray, List.set_cons_zero, List.set_cons_succ]
    have Zq3 : Ext wr wq3 := Ext.trans (by assumption) Yq3
    clear hHeld Xq3 Yq3
    have hHeld := Ext.refl wq3
    first
      | (refine take_at (i := 17) (v := ?_) rfl rfl (by kernel_rfl) (by kernel_rfl) (by kernel_rfl) (fun _ _ _ h => h) (Or.inl ⟨by rfl, ?hy⟩) (by assumption) ?_
         case hy => (intro wz hSw; (try dsimp only at hSw); go_simp <;> with_reducible rfl)
         simp only [List.setIfInBounds_toArray, List.set_cons_zero, List.set_cons_succ])
      | (refine take_at (i := 17) (v := undef) rfl rfl (by kernel_rfl) (by kernel_rfl) (by kernel_rfl) (fun _ _ _ h => h) (Or.inr ⟨by rfl, rfl⟩) (by assumption) ?_
         simp only [List.setIfInBounds_toArray, List.set_cons_zero, List.set_cons_succ])
    first
      | (refine take_at (i := 18) (v := ?_) rfl rfl (by kernel_rfl) (by kernel_rfl) (by kernel_rfl) (fun _ _ _ h => h) (Or.inl ⟨by rfl, ?hy⟩) (by assumption) ?_
         case hy => (intro wz hSw; (try dsimp only at hSw); go_simp <;> with_reducible rfl)
         simp only [List.setIfInBounds_toArray, List.set_cons_zero, List.set_cons_succ])
      | (refine take_at (i := 18) (v := undef) rfl rfl (by kernel_rfl) (by kernel_rfl) (by kernel_rfl) (fun _ _ _ h => h) (Or.inr ⟨by rfl, rfl⟩) (by assumption) ?_
         simp only [List.setIfInBounds_toArray, List.set_cons_zero, List.set_cons_succ])
    first
      | (refine take_at (i := 19) (v := ?_) rfl rfl (by kernel_rfl) (by kernel_rfl) (by kernel_rfl) (fun _ _ _ h => h) (Or.inl ⟨by rfl, ?hy⟩) (by assumption) ?_
         case hy => (intro wz hSw; (try dsimp only at hSw); go_simp <;> with_reducible rfl)
         simp only [List.setIfInBounds_toArray, List.set_cons_zero, List.set_cons_succ])
      | (refine take_at (i := 19) (v := undef) rfl rfl (by kernel_rfl) (by kernel_rfl) (by kernel_rfl) (fun _ _ _ h => h) (Or.inr ⟨by rfl, rfl⟩) (by assumption) ?_
         simp only [List.setIfInBounds_toArray, List.set_cons_zero, List.set_cons_succ])
    first
      | (refine take_at (i := 20) (v := ?_) rfl rfl (by kernel_rfl) (by kernel_rfl) (by kernel_rfl) (fun _ _ _ h => h) (Or.inl ⟨by rfl, ?hy⟩) (by assumption) ?_
         case hy => (intro wz hSw; (try dsimp only at hSw); go_simp <;> with_reducible rfl)
         simp only [List.setIfInBounds_toArray, List.set_cons_zero, List.set_cons_succ])
      | (refine take_at (i := 20) (v := undef) rfl rfl (by kernel_rfl) (by kernel_rfl) (by kernel_rfl) (fun _ _ _ h => h) (Or.inr ⟨by rfl, rfl⟩) (by assumption) ?_
         simp only [List.setIfInBounds_toArray, List.set_cons_zero, List.set_cons_succ])
    first
      | (refine take_at (i := 22) (v := ?_) rfl rfl (by kernel_rfl) (by kernel_rfl) (by kernel_rfl) (fun _ _ _ h => h) (Or.inl ⟨by rfl, ?hy⟩) (by assumption) ?_
         case hy => (intro wz hSw; (try dsimp only at hSw); go_simp <;> with_reducible rfl)
         simp only [List.setIfInBounds_toArray, List.set_cons_zero, List.set_cons_succ])
      | (refine take_at (i := 22) (v := undef) rfl rfl (by kernel_rfl) (by kernel_rfl) (by kernel_rfl) (fun _ _ _ h => h) (Or.inr ⟨by rfl, rfl⟩) (by assumption) ?_
         simp only [List.setIfInBounds_toArray, List.set_cons_zero, List.set_cons_succ])
    refine call_at (i := 21) (F := 11) (CF2.out _ (by repeat (first | with_reducible exact Ext.refl _ | with_reducible assumption | with_reducible refine Ext.alloc ?_ _ | with_reducible refine Ext.drew ?_ | with_reducible refine Ext.drewN ?_ _ | with_reducible refine Ext.setCell ?_ (by simp <;> omega) _ | with_reducible refine Ext.trans ?_ (by assumption)))) rfl rfl (by kernel_rfl) (by rfl) (by first | rfl | (go_simp <;> rfl)) ?_
    rintro e wq4 ⟨vq4, rfl, Rq4, Xq4⟩
    have Yq4 := Ext.trans hHeld Xq4
    refine ⟨_, rfl, Yq4, wpAnyH_strong (S' := fun w' => Ext wq4 w') (fun w' h => Ext.trans Yq4 h) _ _ _ _ ?_⟩
    simp only [List.setIfInBounds_toArray, List.set_cons_zero, List.set_cons_succ]
    have Zq4 : Ext wr wq4 := Ext.trans (by assumption) Yq4
    clear hHeld Xq4 Yq4
    have hHeld := Ext.refl wq4
    refine call_at (i := 23) (F := 14) (SB.out _ _ _ (Rq4.evs) (HX.out.trans (by repeat (first | with_reducible exact Ext.refl _ | with_reducible assumption | with_reducible refine Ext.alloc ?_ _ | with_reducible refine Ext.drew ?_ | with_reducible refine Ext.drewN ?_ _ | with_reducible refine Ext.setCell ?_ (by simp <;> omega) _ | with_reducible refine Ext.trans ?_ (by assumption))))) rfl rfl (by kernel_rfl) (by rfl) (by first | rfl | (go_simp <;> rfl)) ?_
    rintro e wq5 ⟨rfl, Xq5⟩
    have Yq5 := Ext.trans hHeld Xq5
    refine ⟨_, rfl, Yq5, wpAnyH_strong (S' := fun w' => Ext wq5 w') (fun w' h => Ext.trans Yq5 h) _ _ _ _ ?_⟩
    simp only [List.setIfInBounds_toArray, List.set_cons_zero, List.set_cons_succ]
    have Zq5 : Ext wr wq5 := Ext.trans (by assumption) Yq5
    clear hHeld Xq5 Yq5
    have hHeld := Ext.refl wq5
    first
      | (refine take_at (i := 24) (v := ?_) rfl rfl (by kernel_rfl) (by kernel_rfl) (by kernel_rfl) (fun _ _ _ h => h) (Or.inl ⟨by rfl, ?hy⟩) (by assumption) ?_
         case hy => (intro wz hSw; (try dsimp only at hSw); go_simp <;> with_reducible rfl)
         simp only [List.setIfInBounds_toArray, List.set_cons_zero, List.set_cons_succ])
      | (refine take_at (i := 24) (v := undef) rfl rfl (by kernel_rfl) (by kernel_rfl) (by kernel_rfl) (fun _ _ _ h => h) (Or.inr ⟨by rfl, rfl⟩) (by assumption) ?_
         simp only [List.setIfInBounds_toArray, List.set_cons_zero, List.set_cons_succ])
    first
      | (refine take_at (i := 25) (v := ?_) rfl rfl (by kernel_rfl) (by kernel_rfl) (by kernel_rfl) (fun _ _ _ h => h) (Or.inl ⟨by rfl, ?hy⟩) (by assumption) ?_
         case hy => (intro wz hSw; (try dsimp only at hSw); go_simp <;> with_reducible rfl)
         simp only [List.setIfInBounds_toArray, List.set_cons_zero, List.set_cons_succ])
      | (refine take_at (i := 25) (v := undef) rfl rfl (by kernel_rfl) (by kernel_rfl) (by kernel_rfl) (fun _ _ _ h => h) (Or.inr ⟨by rfl, rfl⟩) (by assumption) ?_
         simp only [List.setIfInBounds_toArray, List.set_cons_zero, List.set_cons_succ])
    refine wpAnyH_done (by kernel_rfl) ?_ _
    have XW := Lib.hid (by repeat (first | with_reducible exact Ext.refl _ | with_reducible assumption | with_reducible refine Ext.alloc ?_ _ | with_reducible refine Ext.drew ?_ | with_reducible refine Ext.drewN ?_ _ | with_reducible refine Ext.setCell ?_ (by simp <;> omega) _ | with_reducible refine Ext.trans ?_ (by assumption)) : Ext wr wq5)
    have HGQ := Lib.hid (HG.out.ext XW.out)
    have HXQ := Lib.hid (HX.out.trans XW.out)
    have hq9 := HXQ.out.size
    clear Rq2 Rq4 hHeld SA SB CF1 CF2 CLen XW
    have HLW : Hid (∀ q, v.ownBlock = some q → q < wq5.heap.size) := Lib.hid (fun q hq => (HGQ.out.r.lt hq).2.1)
    have hL9 : ([] : List Ev).length + L.length ≤ 1000000 := by simp; omega
    go_wp2_with (at_builtin; refine appEs _ rfl _ _ rfl w.heap.size (.slice none 0 0) [] rfl (RE.nil _ _) hq9 (.slice (some ⟨b, off, none⟩) L.length cap) L rfl (HE.out.ext HXQ.out) hL9 ?_)
    intro v6 w6 R6 G6 at6
    have X6 : Ext wq5 w6 := (Ext.refl wq5).grown G6 (fun q hq => by cases hq)
    have hv6 : ∀ q, v6.ownBlock = some q → wq5.heap.size ≤ q := fun q hq => by
      rcases at6 with h | h
      · rw [hq] at h; cases h
      · rw [hq] at h; cases h; exact Nat.le_refl _
    have HV6 := Lib.hid hv6
    have G8 := HGQ.out.ext X6
    have X8 := HXQ.out.trans X6
    have R8 := R6
    have CF := Lib.hid (eFill_no w w6 lb v L k (.slice da ds.length dc) G8 HOUT.out)
    clear R6 G6 at6 X6 hv6 hL9 hq9
    go_wp2_with fail
    refine CF.out.mono ?_
    rintro e w' ⟨rfl, rfl⟩
    have hd8 : ∀ e ∈ L, e.d.length ≤ 1000000 := HD6.out
    have CF0 := Lib.hid (eFrom_pos w w6 lb v (L) 0 0 G8 (by omega) hd8 ⟨rfl, Nat.zero_le _⟩)
    rw [List.drop_zero] at CF0
    have HR8 := Lib.hid R8
    have HX8 := Lib.hid X8
    have SC := Lib.hid (fun a b w' B1 B2 (h1 : EvsV w' B1 a (L)) (h2 : EvsV w' B2 b (L)) => rSame_is a b _ _ w' h1 h2 hd8 hd8)
    rw [decide_eq_true (rfl : L = L)] at SC
    generalize L = LL at *
    clear R8 X8 G8 hd8
    go_wp2_with fail
    refine CF0.out.mono ?_
    rintro e w9 ⟨v9, rfl, R9, X9⟩
    have HR9 := Lib.hid R9.evs
    have HW9 := Lib.hid (HR8.out.ext X9).evs
    have HX9 := Lib.hid (HX8.out.trans X9)
    clear R9 X9
    go_wp2_with fail
    refine (SC.out _ _ _ _ _ HR9.out HW9.out).mono ?_
    rintro e wa ⟨rfl, Xa⟩
    go_wp2_with fail
    refine (live15 _).mono ?_
    rintro e wb ⟨rfl, Xb⟩
    go_wp2
    go_ret
    exact ⟨rfl, ((HX9.out.trans Xa).trans Xb).below⟩
end Go.Proofs.Ytkbbneknblnbnaa
