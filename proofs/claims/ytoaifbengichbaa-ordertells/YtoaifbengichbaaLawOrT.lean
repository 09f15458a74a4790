/- The walk of OrderTells. -/
import Derived.Test.YtoaifbengichbaaOr19
import Derived.Test.YtoaifbengichbaaLawOrR
namespace Go.Proofs.Ytoaifbengichbaa
open Go.RowKit
set_option linter.unusedVariables false
set_option linter.unusedSimpArgs false
set_option maxHeartbeats 4000000
attribute [local go_sem] later_cell later_frozen later_const
/-- is one of the first m p? -/
def anyP (p : Nat → Bool) : Nat → Bool
  | 0 => false
  | m + 1 => anyP p m || p m
theorem anyP_yes {p : Nat → Bool} {m k : Nat} (hk : k < m) (h : p k = true) : anyP p m = true := by
  induction m with
  | zero => omega
  | succ m ih =>
    unfold anyP
    by_cases e : k = m
    · subst e; rw [h]; simp
    · rw [ih (by omega)]; rfl
theorem src_both (v : Value) (ls : List Acc) (i : Int) (hl : ls.length ≤ 1000) : ∃ x : Int, (∀ w, AccV w v ls → Calls Try.prog 10 #[v, .int .i64 i] w fun e w' => e = .returned (.int .i64 x) ∧ Ext w w') ∧ (∀ w, AccV w v ls → Calls Try.prog 11 #[v, .int .i64 i] w fun e w' => e = .returned (.int .i64 x) ∧ Ext w w') := by
  by_cases h : i < 0 ∨ (ls.length : Int) ≤ i
  · exact ⟨-1, fun w hA => oSource_no v ls i w hA h, fun w hA => rSource_no v ls i w hA h⟩
  · obtain ⟨k, rfl⟩ : ∃ k : Nat, i = k := ⟨i.toNat, by omega⟩
    exact ⟨srcR ls k, fun w hA => oSource_in v ls k w hA (by omega) hl, fun w hA => rSource_in v ls k w hA (by omega) hl⟩
set_option maxRecDepth 100000 in
theorem orderTells_walk (n : Int) (a : Option Addr) (len cap : Nat) (ls : List Acc) (i : Int) (w : World) (wn : (Lit.int .i64 n).wf = true) (hI : IsAccs w a len cap ls) (wi : (Lit.int .i64 i).wf = true) :
    Calls Try.prog 3 #[.int .i64 n, .slice a len cap, .int .i64 i] w fun e w' => e = .returned (.bool true) ∧ Below w.heap.size w w' := by
  obtain ⟨hlen, hA, hwf⟩ := hI
  subst hlen
  have CV := Lib.hid (fun w => live13 w)
  by_cases h150 : 150 < ls.length
  · have d0 : decide ((150 : Int) < (ls.length : Int)) = true := by simp; omega
    clear hA hwf
    go_enter Try.func3, Try.ntmps3
    go_wp2_with fail
    refine (CV.out _).mono ?_
    rintro e w1 ⟨rfl, X1⟩
    go_wp2
    go_ret
    exact ⟨rfl, X1.below⟩
  have d0 : decide ((150 : Int) < (ls.length : Int)) = false := by simp; omega
  have hl : ls.length ≤ 150 := by omega
  have C1 := Lib.hid (fun w' (hx : Ext w w') => oRight n _ ls w' (hA.ext hx))
  have C2 := Lib.hid (fun w' (hx : Ext w w') => rRight n _ ls w' (hA.ext hx))
  obtain ⟨sx, S1, S2⟩ := src_both (.slice a ls.length cap) ls i (by omega)
  have C3 := Lib.hid (fun w' (hx : Ext w w') => S1 w' (hA.ext hx))
  have C4 := Lib.hid (fun w' (hx : Ext w w') => S2 w' (hA.ext hx))
  have C5 := Lib.hid (fun w => oWrites i w)
  have C6 := Lib.hid (fun w => rWrites i w)
  have C7 := Lib.hid (fun w => oReads i w)
  have C8 := Lib.hid (fun w => rReads i w)
  have C9 := Lib.hid (fun w' (hx : Ext w w') => oCells _ ls w' (hA.ext hx) (by omega) (wfl_of hwf))
  have HA := Lib.hid hA
  have e1 : ∀ b : Bool, (b != b) = false := fun b => by cases b <;> rfl
  have e2 : ∀ b : Int, (b != b) = false := fun b => by simp
  generalize rightL n ls = rl at *
  generalize wrB i = wb at *
  generalize rdB i = rb at *
  clear hA hwf S1 S2 h150
  go_enter Try.func3, Try.ntmps3
  go_wp2_with fail
  refine (C1.out _ (Ext.refl w)).mono ?_
  rintro e w1 ⟨rfl, X1⟩
  go_wp2_with fail
  refine (C2.out _ X1).mono ?_
  rintro e w2 ⟨rfl, X2⟩
  have Y2 := X1.trans X2
  go_wp2_with fail
  refine (C3.out _ Y2).mono ?_
  rintro e w3 ⟨rfl, X3⟩
  have Y3 := Y2.trans X3
  go_wp2_with fail
  refine (C4.out _ Y3).mono ?_
  rintro e w4 ⟨rfl, X4⟩
  have Y4 := Y3.trans X4
  go_wp2_with fail
  refine (C5.out _).mono ?_
  rintro e w' ⟨rfl, rfl⟩
  go_wp2_with fail
  refine (C6.out _).mono ?_
  rintro e w' ⟨rfl, rfl⟩
  go_wp2_with fail
  refine (C7.out _).mono ?_
  rintro e w' ⟨rfl, rfl⟩
  go_wp2_with fail
  refine (C8.out _).mono ?_
  rintro e w' ⟨rfl, rfl⟩
  go_wp2_with fail
  refine (C9.out _ Y4).mono ?_
  rintro e w5 ⟨cv, rfl, I5, X5⟩
  have HI5 := Lib.hid I5
  have HY5 := Lib.hid (Y4.trans X5)
  have hcl := cellsS_len ls
  have HMEM := Lib.hid (cellsS_mem ls)
  have HUP := Lib.hid (fun x y => cellsS_lt ls (i := x) (j := y))
  obtain ⟨ca, ccap, ecv⟩ := I5.form
  subst ecv
  clear X1 X2 X3 X4 X5 Y2 Y3 Y4 I5 C1 C2 C3 C4 C5 C6 C7 C8 C9 e1 e2
  generalize cellsS ls = cs at *
  go_wp2
  go_loopw [8] (fun x wr => ∃ k : Nat, k ≤ cs.length ∧ x = .int .i64 k ∧ Ext w5 wr) (fun x _ => cs.length - (intOf x).toNat)
  case atStart => exact ⟨0, Nat.zero_le _, rfl, Ext.refl _⟩
  case round =>
    obtain ⟨k, hk, rfl, hx⟩ := hrel
    by_cases hlt : k < cs.length
    case pos =>
      have hkI : (k : Int) < (cs.length : Int) := by omega
      have HX := Lib.hid hx
      clear hx
      obtain ⟨cb, coff, ccap2, ecc, hcell⟩ := HI5.out.full (by omega)
      cases ecc
      have HCELL := Lib.hid hcell
      clear hcell
      go_wp2
      go_loopw [10, 9] (fun x g wr => ∃ q : Nat, q ≤ ls.length ∧ x = .int .i64 q ∧ g = .bool (anyP (fun j => decide ((A ls j).c = cs.getD k 0)) q) ∧ Ext w5 wr) (fun x _ _ => ls.length - (intOf x).toNat)
      case atStart => exact ⟨0, Nat.zero_le _, rfl, rfl, HX.out⟩
      case round =>
        obtain ⟨q, hq, rfl, rfl, hx⟩ := hrel
        by_cases hql : q < ls.length
        case pos =>
          have hqI : (q : Int) < (ls.length : Int) := by omega
          obtain ⟨b, off, ea, _, _, qx_0, _, _⟩ := HA.out.at (HY5.out.trans hx) hql
          subst ea
          rw [A_at hql] at qx_0
          have qy_0 := hx.cell (HCELL.out k hlt)
          have HS : Hid (anyP (fun j => decide ((A ls j).c = cs.getD k 0)) (q + 1) = (anyP (fun j => decide ((A ls j).c = cs.getD k 0)) q || decide ((A ls q).c = cs.getD k 0))) := Lib.hid rfl
          have HXQ := Lib.hid hx
          clear hx
          generalize anyP (fun j => decide ((A ls j).c = cs.getD k 0)) q = p1 at *
          generalize (A ls q).c = xc at *
          generalize cs.getD k 0 = yc at *
          cases p1
          case true =>
            have hs := HS.out
            rw [Bool.true_or] at hs
            have HS' := Lib.hid hs
            clear hs
            go_wp2_with fail
            refine wp_region_later (by kernel_rfl) (by kernel_rfl) ?_
            have lx_0 := fun (g : Later wr) => g.ok.cell qx_0
            have ly_0 := fun (g : Later wr) => g.ok.cell qy_0
            repeat (go_big_quiet_step ((fail)))
            refine wpQuiet_nil ?_
            intro w1 hl1
            have hb1 := laters_ext hl1
            clear hl1 lx_0 ly_0
            have hx1 : Ext wr w1 := by repeat (first | with_reducible exact Ext.refl _ | with_reducible assumption | with_reducible refine Ext.alloc ?_ _ | with_reducible refine Ext.drew ?_ | with_reducible refine Ext.drewN ?_ _ | with_reducible refine Ext.setCell ?_ (by simp <;> omega) _ | with_reducible refine Ext.trans ?_ (by assumption))
            replace qx_0 := hx1.cell qx_0
            replace qy_0 := hx1.cell qy_0
            clear hx1
            go_wp2
            exact ⟨⟨q + 1, by omega, by go_num, by rw [HS'.out], HXQ.out.trans (by repeat (first | with_reducible exact Ext.refl _ | with_reducible assumption | with_reducible refine Ext.alloc ?_ _ | with_reducible refine Ext.drew ?_ | with_reducible refine Ext.drewN ?_ _ | with_reducible refine Ext.setCell ?_ (by simp <;> omega) _ | with_reducible refine Ext.trans ?_ (by assumption)))⟩, by simp [intOf]; omega⟩
          by_cases hc : xc = yc
          case pos =>
            have hs := HS.out
            rw [decide_eq_true hc, Bool.or_true] at hs
            have HS' := Lib.hid hs
            have e1 : (xc == yc) = true := by simpa using hc
            clear hs hc
            go_wp2_with fail
            refine wp_region_later (by kernel_rfl) (by kernel_rfl) ?_
            have lx_0 := fun (g : Later wr) => g.ok.cell qx_0
            have ly_0 := fun (g : Later wr) => g.ok.cell qy_0
            repeat (go_big_quiet_step ((fail)))
            refine wpQuiet_nil ?_
            intro w2 hl2
            have hb2 := laters_ext hl2
            clear hl2 lx_0 ly_0
            have hx2 : Ext wr w2 := by repeat (first | with_reducible exact Ext.refl _ | with_reducible assumption | with_reducible refine Ext.alloc ?_ _ | with_reducible refine Ext.drew ?_ | with_reducible refine Ext.drewN ?_ _ | with_reducible refine Ext.setCell ?_ (by simp <;> omega) _ | with_reducible refine Ext.trans ?_ (by assumption))
            replace qx_0 := hx2.cell qx_0
            replace qy_0 := hx2.cell qy_0
            clear hx2
            go_wp2
            exact ⟨⟨q + 1, by omega, by go_num, by rw [HS'.out], HXQ.out.trans (by repeat (first | with_reducible exact Ext.refl _ | with_reducible assumption | with_reducible refine Ext.alloc ?_ _ | with_reducible refine Ext.drew ?_ | with_reducible refine Ext.drewN ?_ _ | with_reducible refine Ext.setCell ?_ (by simp <;> omega) _ | with_reducible refine Ext.trans ?_ (by assumption)))⟩, by simp [intOf]; omega⟩
          have hs := HS.out
          rw [decide_eq_false hc, Bool.or_false] at hs
          have HS' := Lib.hid hs
          have e1 : (xc == yc) = false := by simpa using hc
          clear hs hc
          go_wp2_with fail
          refine wp_region_later (by kernel_rfl) (by kernel_rfl) ?_
          have lx_0 := fun (g : Later wr) => g.ok.cell qx_0
          have ly_0 := fun (g : Later wr) => g.ok.cell qy_0
          repeat (go_big_quiet_step ((fail)))
          refine wpQuiet_nil ?_
          intro w3 hl3
          have hb3 := laters_ext hl3
          clear hl3 lx_0 ly_0
          have hx3 : Ext wr w3 := by repeat (first | with_reducible exact Ext.refl _ | with_reducible assumption | with_reducible refine Ext.alloc ?_ _ | with_reducible refine Ext.drew ?_ | with_reducible refine Ext.drewN ?_ _ | with_reducible refine Ext.setCell ?_ (by simp <;> omega) _ | with_reducible refine Ext.trans ?_ (by assumption))
          replace qx_0 := hx3.cell qx_0
          replace qy_0 := hx3.cell qy_0
          clear hx3
          go_wp2
          exact ⟨⟨q + 1, by omega, by go_num, by rw [HS'.out], HXQ.out.trans (by repeat (first | with_reducible exact Ext.refl _ | with_reducible assumption | with_reducible refine Ext.alloc ?_ _ | with_reducible refine Ext.drew ?_ | with_reducible refine Ext.drewN ?_ _ | with_reducible refine Ext.setCell ?_ (by simp <;> omega) _ | with_reducible refine Ext.trans ?_ (by assumption)))⟩, by simp [intOf]; omega⟩
        obtain rfl : q = ls.length := by omega
        have hin : anyP (fun j => decide ((A ls j).c = cs.getD k 0)) ls.length = true := by
          obtain ⟨j, hj, ej⟩ := (HMEM.out (cs.getD k 0)).1 (by rw [List.getD_eq_getElem?_getD, List.getElem?_eq_getElem hlt]; exact List.getElem_mem hlt)
          exact anyP_yes hj (by rw [ej]; simp)
        rw [hin]
        have HXQ := Lib.hid hx
        have qy_0 := hx.cell (HCELL.out k hlt)
        clear hx hin
        by_cases hk0 : 0 < k
        · obtain ⟨k1, rfl⟩ : ∃ k1, k = k1 + 1 := ⟨k - 1, by omega⟩
          have hk1 : (k1 : Int) < (cs.length : Int) := by omega
          have hge : cs.getD k1 0 < cs.getD (k1 + 1) 0 := HUP.out k1 (k1 + 1) (by omega) hlt
          have qz_0 := HXQ.out.cell (HCELL.out k1 (by omega))
          have d1 : decide ((0 : Int) < ((k1 + 1 : Nat) : Int)) = true := by simp
          have d2 : decide (cs.getD (k1 + 1) 0 ≤ cs.getD k1 0) = false := decide_eq_false (by omega)
          have d3 : decide ((0 : Int) < ((k1 : Nat) : Int) + 1) = true := decide_eq_true (by omega)
          have ek : ((k1 + 1 : Nat) : Int) - 1 = (k1 : Int) := by omega
          generalize cs.getD (k1 + 1) 0 = yc at *
          generalize cs.getD k1 0 = zc at *
          clear hge
          go_wp2_with fail
          refine wp_region_later (by kernel_rfl) (by kernel_rfl) ?_
          have ly_0 := fun (g : Later wr) => g.ok.cell qy_0
          have lz_0 := fun (g : Later wr) => g.ok.cell qz_0
          repeat (go_big_quiet_step ((fail)))
          refine wpQuiet_nil ?_
          intro w4 hl4
          have hb4 := laters_ext hl4
          clear hl4 ly_0 lz_0
          have hx4 : Ext wr w4 := by repeat (first | with_reducible exact Ext.refl _ | with_reducible assumption | with_reducible refine Ext.alloc ?_ _ | with_reducible refine Ext.drew ?_ | with_reducible refine Ext.drewN ?_ _ | with_reducible refine Ext.setCell ?_ (by simp <;> omega) _ | with_reducible refine Ext.trans ?_ (by assumption))
          replace qy_0 := hx4.cell qy_0
          replace qz_0 := hx4.cell qz_0
          clear hx4
          go_wp2
          exact ⟨⟨k1 + 2, by omega, by go_num, HXQ.out.trans (by repeat (first | with_reducible exact Ext.refl _ | with_reducible assumption | with_reducible refine Ext.alloc ?_ _ | with_reducible refine Ext.drew ?_ | with_reducible refine Ext.drewN ?_ _ | with_reducible refine Ext.setCell ?_ (by simp <;> omega) _ | with_reducible refine Ext.trans ?_ (by assumption)))⟩, by simp [intOf]; omega⟩
        · obtain rfl : k = 0 := by omega
          have d1 : decide ((0 : Int) < ((0 : Nat) : Int)) = false := by simp
          generalize cs.getD 0 0 = yc at *
          go_wp2_with fail
          refine wp_region_later (by kernel_rfl) (by kernel_rfl) ?_
          have ly_0 := fun (g : Later wr) => g.ok.cell qy_0
          repeat (go_big_quiet_step ((fail)))
          refine wpQuiet_nil ?_
          intro w5 hl5
          have hb5 := laters_ext hl5
          clear hl5 ly_0
          have hx5 : Ext wr w5 := by repeat (first | with_reducible exact Ext.refl _ | with_reducible assumption | with_reducible refine Ext.alloc ?_ _ | with_reducible refine Ext.drew ?_ | with_reducible refine Ext.drewN ?_ _ | with_reducible refine Ext.setCell ?_ (by simp <;> omega) _ | with_reducible refine Ext.trans ?_ (by assumption))
          replace qy_0 := hx5.cell qy_0
          clear hx5
          go_wp2
          exact ⟨⟨1, by omega, by go_num, HXQ.out.trans (by repeat (first | with_reducible exact Ext.refl _ | with_reducible assumption | with_reducible refine Ext.alloc ?_ _ | with_reducible refine Ext.drew ?_ | with_reducible refine Ext.drewN ?_ _ | with_reducible refine Ext.setCell ?_ (by simp <;> omega) _ | with_reducible refine Ext.trans ?_ (by assumption)))⟩, by simp [intOf]; omega⟩
    obtain rfl : k = cs.length := by omega
    have HX := Lib.hid hx
    clear hx
    obtain ⟨wo, hwo⟩ : ∃ wo, wo = wr := ⟨_, rfl⟩
    subst hwo
    go_wp2
    go_loopw [11] (fun x wr => ∃ q : Nat, q ≤ ls.length ∧ x = .int .i64 q ∧ Ext w5 wr) (fun x _ => ls.length - (intOf x).toNat)
    case atStart => exact ⟨0, Nat.zero_le _, rfl, HX.out⟩
    case round =>
      obtain ⟨q, hq, rfl, hx⟩ := hrel
      by_cases hql : q < ls.length
      case neg =>
        obtain rfl : q = ls.length := by omega
        have HXF := Lib.hid (HY5.out.trans hx)
        clear hx
        go_wp2_with fail
        refine (CV.out _).mono ?_
        rintro e w7 ⟨rfl, X7⟩
        go_wp2
        go_ret
        exact ⟨rfl, (HXF.out.trans X7).below⟩
      have hqI : (q : Int) < (ls.length : Int) := by omega
      have hmem : (A ls q).c ∈ cs := (HMEM.out _).2 ⟨q, hql, rfl⟩
      have hpos : 0 < cs.length := List.length_pos_of_mem hmem
      obtain ⟨cb, coff, ccap2, ecc, hcell⟩ := HI5.out.full hpos
      cases ecc
      have HCELL := Lib.hid hcell
      have HX2 := Lib.hid hx
      have HMM := Lib.hid hmem
      clear hcell hx hmem
      go_wp2
      go_loopw [13, 12] (fun x g wr => ∃ k : Nat, k ≤ cs.length ∧ x = .int .i64 k ∧ g = .bool (anyP (fun j => decide (cs.getD j 0 = (A ls q).c)) k) ∧ Ext w5 wr) (fun x _ _ => cs.length - (intOf x).toNat)
      case atStart => exact ⟨0, Nat.zero_le _, rfl, rfl, HX2.out⟩
      case round =>
        obtain ⟨k, hk, rfl, rfl, hx⟩ := hrel
        by_cases hlt : k < cs.length
        case pos =>
          have hkI : (k : Int) < (cs.length : Int) := by omega
          obtain ⟨b, off, ea, _, _, qx_0, _, _⟩ := HA.out.at (HY5.out.trans hx) hql
          subst ea
          rw [A_at hql] at qx_0
          have qy_0 := hx.cell (HCELL.out k hlt)
          have HS : Hid (anyP (fun j => decide (cs.getD j 0 = (A ls q).c)) (k + 1) = (anyP (fun j => decide (cs.getD j 0 = (A ls q).c)) k || decide (cs.getD k 0 = (A ls q).c))) := Lib.hid rfl
          have HXQ := Lib.hid hx
          clear hx HMM
          generalize anyP (fun j => decide (cs.getD j 0 = (A ls q).c)) k = p1 at *
          generalize (A ls q).c = yc at *
          generalize cs.getD k 0 = xc at *
          cases p1
          case true =>
            have hs := HS.out
            rw [Bool.true_or] at hs
            have HS' := Lib.hid hs
            clear hs
            go_wp2_with fail
            refine wp_region_later (by kernel_rfl) (by kernel_rfl) ?_
            have lx_0 := fun (g : Later wr) => g.ok.cell qx_0
            have ly_0 := fun (g : Later wr) => g.ok.cell qy_0
            repeat (go_big_quiet_step ((fail)))
            refine wpQuiet_nil ?_
            intro w6 hl6
            have hb6 := laters_ext hl6
            clear hl6 lx_0 ly_0
            have hx6 : Ext wr w6 := by repeat (first | with_reducible exact Ext.refl _ | with_reducible assumption | with_reducible refine Ext.alloc ?_ _ | with_reducible refine Ext.drew ?_ | with_reducible refine Ext.drewN ?_ _ | with_reducible refine Ext.setCell ?_ (by simp <;> omega) _ | with_reducible refine Ext.trans ?_ (by assumption))
            replace qx_0 := hx6.cell qx_0
            replace qy_0 := hx6.cell qy_0
            clear hx6
            go_wp2
            exact ⟨⟨k + 1, by omega, by go_num, by rw [HS'.out], HXQ.out.trans (by repeat (first | with_reducible exact Ext.refl _ | with_reducible assumption | with_reducible refine Ext.alloc ?_ _ | with_reducible refine Ext.drew ?_ | with_reducible refine Ext.drewN ?_ _ | with_reducible refine Ext.setCell ?_ (by simp <;> omega) _ | with_reducible refine Ext.trans ?_ (by assumption)))⟩, by simp [intOf]; omega⟩
          by_cases hc : xc = yc
          case pos =>
            have hs := HS.out
            rw [decide_eq_true hc, Bool.or_true] at hs
            have HS' := Lib.hid hs
            have e1 : (xc == yc) = true := by simpa using hc
            clear hs hc
            go_wp2_with fail
            refine wp_region_later (by kernel_rfl) (by kernel_rfl) ?_
            have lx_0 := fun (g : Later wr) => g.ok.cell qx_0
            have ly_0 := fun (g : Later wr) => g.ok.cell qy_0
            repeat (go_big_quiet_step ((fail)))
            refine wpQuiet_nil ?_
            intro w7 hl7
            have hb7 := laters_ext hl7
            clear hl7 lx_0 ly_0
            have hx7 : Ext wr w7 := by repeat (first | with_reducible exact Ext.refl _ | with_reducible assumption | with_reducible refine Ext.alloc ?_ _ | with_reducible refine Ext.drew ?_ | with_reducible refine Ext.drewN ?_ _ | with_reducible refine Ext.setCell ?_ (by simp <;> omega) _ | with_reducible refine Ext.trans ?_ (by assumption))
            replace qx_0 := hx7.cell qx_0
            replace qy_0 := hx7.cell qy_0
            clear hx7
            go_wp2
            exact ⟨⟨k + 1, by omega, by go_num, by rw [HS'.out], HXQ.out.trans (by repeat (first | with_reducible exact Ext.refl _ | with_reducible assumption | with_reducible refine Ext.alloc ?_ _ | with_reducible refine Ext.drew ?_ | with_reducible refine Ext.drewN ?_ _ | with_reducible refine Ext.setCell ?_ (by simp <;> omega) _ | with_reducible refine Ext.trans ?_ (by assumption)))⟩, by simp [intOf]; omega⟩
          have hs := HS.out
          rw [decide_eq_false hc, Bool.or_false] at hs
          have HS' := Lib.hid hs
          have e1 : (xc == yc) = false := by simpa using hc
          clear hs hc
          go_wp2_with fail
          refine wp_region_later (by kernel_rfl) (by kernel_rfl) ?_
          have lx_0 := fun (g : Later wr) => g.ok.cell qx_0
          have ly_0 := fun (g : Later wr) => g.ok.cell qy_0
          repeat (go_big_quiet_step ((fail)))
          refine wpQuiet_nil ?_
          intro w8 hl8
          have hb8 := laters_ext hl8
          clear hl8 lx_0 ly_0
          have hx8 : Ext wr w8 := by repeat (first | with_reducible exact Ext.refl _ | with_reducible assumption | with_reducible refine Ext.alloc ?_ _ | with_reducible refine Ext.drew ?_ | with_reducible refine Ext.drewN ?_ _ | with_reducible refine Ext.setCell ?_ (by simp <;> omega) _ | with_reducible refine Ext.trans ?_ (by assumption))
          replace qx_0 := hx8.cell qx_0
          replace qy_0 := hx8.cell qy_0
          clear hx8
          go_wp2
          exact ⟨⟨k + 1, by omega, by go_num, by rw [HS'.out], HXQ.out.trans (by repeat (first | with_reducible exact Ext.refl _ | with_reducible assumption | with_reducible refine Ext.alloc ?_ _ | with_reducible refine Ext.drew ?_ | with_reducible refine Ext.drewN ?_ _ | with_reducible refine Ext.setCell ?_ (by simp <;> omega) _ | with_reducible refine Ext.trans ?_ (by assumption)))⟩, by simp [intOf]; omega⟩
        obtain rfl : k = cs.length := by omega
        have hin : anyP (fun j => decide (cs.getD j 0 = (A ls q).c)) cs.length = true := by
          obtain ⟨j, hj, ej⟩ := List.getElem_of_mem HMM.out
          exact anyP_yes hj (by rw [List.getD_eq_getElem?_getD, List.getElem?_eq_getElem hj]; simpa using ej)
        rw [hin]
        have HXQ := Lib.hid hx
        clear hx hin
        go_wp2
        exact ⟨⟨q + 1, by omega, by go_num, HXQ.out⟩, by simp [intOf]; omega⟩
end Go.Proofs.Ytoaifbengichbaa
