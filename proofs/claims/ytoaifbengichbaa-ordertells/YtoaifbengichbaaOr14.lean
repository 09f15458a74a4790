/- The document's Race. -/
import Derived.Test.YtoaifbengichbaaOr13
namespace Go.Proofs.Ytoaifbengichbaa
open Go.RowKit
set_option linter.unusedVariables false
set_option linter.unusedSimpArgs false
set_option maxHeartbeats 4000000
attribute [local go_sem] later_cell later_frozen later_const
def raceR (n : Nat) (ls : List Acc) : Value := if jj n ls < ls.length then .tuple #[.int .i64 (rv n ls (jj n ls)), .int .i64 (jj n ls)] else .tuple #[.int .i64 (-1), .int .i64 (-1)]
theorem raceR_none {n : Nat} {ls : List Acc} (h : ∀ j, j < ls.length → (plB (A ls j).k && decide (rv n ls j < j)) = false) : raceR n ls = .tuple #[.int .i64 (-1), .int .i64 (-1)] := by
  have e : jj n ls = ls.length := firstP_unique (Nat.le_refl _) h (fun h => absurd h (Nat.lt_irrefl _))
  unfold raceR
  rw [if_neg (by omega)]
theorem raceR_at {n : Nat} {ls : List Acc} {m k : Nat} (hm : m < ls.length) (h : ∀ j, j < m → (plB (A ls j).k && decide (rv n ls j < j)) = false) (hk : k < m) (hb : ∀ j, j < k → (clash ls j m && !kn n ls m j) = false) (hc : clash ls k m = true) (hn : kn n ls m k = false) : raceR n ls = .tuple #[.int .i64 k, .int .i64 m] := by
  have er : rv n ls m = k := firstP_unique (Nat.le_of_lt hk) hb (fun _ => by rw [hc, hn]; rfl)
  have hp : plB (A ls m).k = true := by unfold clash at hc; simp only [Bool.and_eq_true] at hc; exact hc.1.1.1.2
  have e : jj n ls = m := firstP_unique (Nat.le_of_lt hm) h (fun _ => by rw [hp, er]; simpa using hk)
  unfold raceR
  rw [e, er, if_pos hm]
theorem rv_end {n : Nat} {ls : List Acc} {m : Nat} (hb : ∀ j, j < m → (clash ls j m && !kn n ls m j) = false) : (plB (A ls m).k && decide (rv n ls m < m)) = false := by
  have er : rv n ls m = m := firstP_unique (Nat.le_refl _) hb (fun h => absurd h (Nat.lt_irrefl _))
  rw [er]
  simp
set_option maxRecDepth 100000 in
theorem rRace (n : Nat) (v : Value) (ls : List Acc) (w : World) (hA : AccV w v ls) (R : RL n ls) : Calls Try.prog 27 #[v] w fun e w' => e = .returned (raceR n ls) ∧ Ext w w' := by
  have CT := Lib.hid (rTable n v ls w hA R)
  obtain ⟨a, cap, rfl, hcap, hmax⟩ := hA.form
  have hL := R.l
  have HA := Lib.hid hA
  have HNONE := Lib.hid (fun h => raceR_none (n := n) (ls := ls) h)
  have HAT := Lib.hid (fun m k hm h hk hb hc hn => raceR_at (n := n) (ls := ls) (m := m) (k := k) hm h hk hb hc hn)
  have HEND := Lib.hid (fun m hb => rv_end (n := n) (ls := ls) (m := m) hb)
  generalize raceR n ls = RV at *
  clear hA R
  go_enter Try.func27, Try.ntmps27
  go_wp2_with fail
  refine CT.out.mono ?_
  rintro e w1 ⟨tv, rfl, ⟨ta, tcap, rfl, hrows⟩, X1⟩
  have HROWS := Lib.hid hrows
  have HX1 := Lib.hid X1
  clear hrows X1
  go_wp2
  go_loopw [5] (fun x wr => ∃ i : Nat, i ≤ ls.length ∧ x = .int .i64 i ∧ (∀ j, j < i → (plB (A ls j).k && decide (rv n ls j < j)) = false) ∧ Ext w1 wr) (fun x _ => ls.length - (intOf x).toNat)
  case atStart => exact ⟨0, Nat.zero_le _, rfl, fun j h => absurd h (Nat.not_lt_zero _), Ext.refl _⟩
  case round =>
    obtain ⟨i, hi, rfl, hall, hx⟩ := hrel
    by_cases hlt : i < ls.length
    case neg =>
      obtain rfl : i = ls.length := by omega
      have e := HNONE.out hall
      subst e
      have HX := Lib.hid (HX1.out.trans hx)
      clear hall hx
      go_wp2
      refine bodyPost_ret (v := .tuple #[.int .i64 (-1), .int .i64 (-1)]) (by simp [results, Try.results27, go_sem]) rfl ⟨rfl, HX.out⟩
    have hil : (i : Int) < (ls.length : Int) := by omega
    have HALL := Lib.hid hall
    have HXO := Lib.hid hx
    clear hall hx
    go_wp2
    go_loopw [6] (fun x wr => ∃ k : Nat, k ≤ i ∧ x = .int .i64 k ∧ (∀ j, j < k → (clash ls j i && !kn n ls i j) = false) ∧ Ext w1 wr) (fun x _ => i - (intOf x).toNat)
    case atStart => exact ⟨0, Nat.zero_le _, rfl, fun j h => absurd h (Nat.not_lt_zero _), HXO.out⟩
    case round =>
      obtain ⟨k, hk, rfl, hbs, hx⟩ := hrel
      by_cases hki : k < i
      case neg =>
        obtain rfl : k = i := by omega
        have HE := Lib.hid (HEND.out k hbs)
        have HAL : Hid (∀ j, j < k + 1 → (plB (A ls j).k && decide (rv n ls j < j)) = false) := Lib.hid (fun j hj => by
          by_cases e : j = k
          · subst e; exact HE.out
          · exact HALL.out j (by omega))
        clear hbs
        go_wp2
        exact ⟨⟨k + 1, by omega, by go_num, HAL.out, hx⟩, by simp [intOf]; omega⟩
      have hkI : (k : Int) < (i : Int) := by omega
      have hkL : (k : Int) < (ls.length : Int) := by omega
      obtain ⟨b, off, ea, qx_0, qx_1, qx_2, qx_3, qx_4⟩ := HA.out.at (HX1.out.trans hx) (i := k) (by omega)
      subst ea
      obtain ⟨b2, off2, ea, qy_0, qy_1, qy_2, qy_3, qy_4⟩ := HA.out.at (HX1.out.trans hx) hlt
      cases ea
      rw [A_at (by omega)] at qx_0 qx_1 qx_2 qx_3 qx_4
      rw [A_at hlt] at qy_0 qy_1 qy_2 qy_3 qy_4
      obtain ⟨g, f, eg, hcs⟩ := HROWS.out (by omega)
      subst eg
      obtain ⟨qz_0, hq⟩ := hcs _ hx i hlt
      have qz_1 := hq k (by omega)
      rw [show knT n ls i k = kn n ls i k by unfold knT; simp [hki]] at qz_1
      have HX := Lib.hid hx
      have HBS := Lib.hid hbs
      have CC := Lib.hid (fun w => rClash (A ls k) (A ls i) w)
      have ecl : clA (A ls k) (A ls i) = clash ls k i := rfl
      rw [ecl] at CC
      have HGO : Hid ((clash ls k i && !kn n ls i k) = false → ∀ j, j < k + 1 → (clash ls j i && !kn n ls i j) = false) := Lib.hid (fun e j hj => by
        by_cases h : j = k
        · subst h; exact e
        · exact HBS.out j (by omega))
      have HST : Hid (clash ls k i = true → kn n ls i k = false → RV = .tuple #[.int .i64 k, .int .i64 i]) := Lib.hid (fun h1 h2 => HAT.out i k hlt HALL.out hki HBS.out h1 h2)
      clear hx hbs hcs hq ecl
      generalize A ls k = ak at *
      generalize A ls i = ai at *
      generalize kn n ls i k = bk at *
      cases hcl : clash ls k i
      case false =>
        rw [hcl] at CC
        have HG := Lib.hid (HGO.out (by rw [hcl]; rfl))
        clear hcl
        go_wp2_with fail
        refine wp_region_later (by kernel_rfl) (by kernel_rfl) ?_
        have lx_0 := fun (g : Later wr) => g.ok.cell qx_0
        have lx_1 := fun (g : Later wr) => g.ok.cell qx_1
        have lx_2 := fun (g : Later wr) => g.ok.cell qx_2
        have lx_3 := fun (g : Later wr) => g.ok.cell qx_3
        have lx_4 := fun (g : Later wr) => g.ok.cell qx_4
        have ly_0 := fun (g : Later wr) => g.ok.cell qy_0
        have ly_1 := fun (g : Later wr) => g.ok.cell qy_1
        have ly_2 := fun (g : Later wr) => g.ok.cell qy_2
        have ly_3 := fun (g : Later wr) => g.ok.cell qy_3
        have ly_4 := fun (g : Later wr) => g.ok.cell qy_4
        have lz_0 := fun (g : Later wr) => g.ok.cell qz_0
        have lz_1 := fun (g : Later wr) => g.ok.cell qz_1
        repeat (go_big_quiet_step ((fail)))
        go_big_quiet_step ((go_at_call 44; exact laterC (CC.out _)))
        repeat (go_big_quiet_step ((fail)))
        refine wpQuiet_nil ?_
        intro w1 hl1
        have hb1 := laters_ext hl1
        clear hl1 lx_0 lx_1 lx_2 lx_3 lx_4 ly_0 ly_1 ly_2 ly_3 ly_4 lz_0 lz_1
        have hx1 : Ext wr w1 := by repeat (first | with_reducible exact Ext.refl _ | with_reducible assumption | with_reducible refine Ext.alloc ?_ _ | with_reducible refine Ext.drew ?_ | with_reducible refine Ext.drewN ?_ _ | with_reducible refine Ext.setCell ?_ (by simp <;> omega) _ | with_reducible refine Ext.trans ?_ (by assumption))
        replace qx_0 := hx1.cell qx_0
        replace qx_1 := hx1.cell qx_1
        replace qx_2 := hx1.cell qx_2
        replace qx_3 := hx1.cell qx_3
        replace qx_4 := hx1.cell qx_4
        replace qy_0 := hx1.cell qy_0
        replace qy_1 := hx1.cell qy_1
        replace qy_2 := hx1.cell qy_2
        replace qy_3 := hx1.cell qy_3
        replace qy_4 := hx1.cell qy_4
        replace qz_0 := hx1.cell qz_0
        replace qz_1 := hx1.cell qz_1
        clear hx1
        go_wp2
        exact ⟨⟨k + 1, by omega, by go_num, HG.out, HX.out.trans (by repeat (first | with_reducible exact Ext.refl _ | with_reducible assumption | with_reducible refine Ext.alloc ?_ _ | with_reducible refine Ext.drew ?_ | with_reducible refine Ext.drewN ?_ _ | with_reducible refine Ext.setCell ?_ (by simp <;> omega) _ | with_reducible refine Ext.trans ?_ (by assumption)))⟩, by simp [intOf]; omega⟩
      rw [hcl] at CC
      cases bk
      case true =>
        have HG := Lib.hid (HGO.out (by rw [hcl]; rfl))
        clear hcl
        go_wp2_with fail
        refine wp_region_later (by kernel_rfl) (by kernel_rfl) ?_
        have lx_0 := fun (g : Later wr) => g.ok.cell qx_0
        have lx_1 := fun (g : Later wr) => g.ok.cell qx_1
        have lx_2 := fun (g : Later wr) => g.ok.cell qx_2
        have lx_3 := fun (g : Later wr) => g.ok.cell qx_3
        have lx_4 := fun (g : Later wr) => g.ok.cell qx_4
        have ly_0 := fun (g : Later wr) => g.ok.cell qy_0
        have ly_1 := fun (g : Later wr) => g.ok.cell qy_1
        have ly_2 := fun (g : Later wr) => g.ok.cell qy_2
        have ly_3 := fun (g : Later wr) => g.ok.cell qy_3
        have ly_4 := fun (g : Later wr) => g.ok.cell qy_4
        have lz_0 := fun (g : Later wr) => g.ok.cell qz_0
        have lz_1 := fun (g : Later wr) => g.ok.cell qz_1
        repeat (go_big_quiet_step ((fail)))
        go_big_quiet_step ((go_at_call 44; exact laterC (CC.out _)))
        repeat (go_big_quiet_step ((fail)))
        refine wpQuiet_nil ?_
        intro w2 hl2
        have hb2 := laters_ext hl2
        clear hl2 lx_0 lx_1 lx_2 lx_3 lx_4 ly_0 ly_1 ly_2 ly_3 ly_4 lz_0 lz_1
        have hx2 : Ext wr w2 := by repeat (first | with_reducible exact Ext.refl _ | with_reducible assumption | with_reducible refine Ext.alloc ?_ _ | with_reducible refine Ext.drew ?_ | with_reducible refine Ext.drewN ?_ _ | with_reducible refine Ext.setCell ?_ (by simp <;> omega) _ | with_reducible refine Ext.trans ?_ (by assumption))
        replace qx_0 := hx2.cell qx_0
        replace qx_1 := hx2.cell qx_1
        replace qx_2 := hx2.cell qx_2
        replace qx_3 := hx2.cell qx_3
        replace qx_4 := hx2.cell qx_4
        replace qy_0 := hx2.cell qy_0
        replace qy_1 := hx2.cell qy_1
        replace qy_2 := hx2.cell qy_2
        replace qy_3 := hx2.cell qy_3
        replace qy_4 := hx2.cell qy_4
        replace qz_0 := hx2.cell qz_0
        replace qz_1 := hx2.cell qz_1
        clear hx2
        go_wp2
        exact ⟨⟨k + 1, by omega, by go_num, HG.out, HX.out.trans (by repeat (first | with_reducible exact Ext.refl _ | with_reducible assumption | with_reducible refine Ext.alloc ?_ _ | with_reducible refine Ext.drew ?_ | with_reducible refine Ext.drewN ?_ _ | with_reducible refine Ext.setCell ?_ (by simp <;> omega) _ | with_reducible refine Ext.trans ?_ (by assumption)))⟩, by simp [intOf]; omega⟩
      have e := HST.out hcl rfl
      subst e
      clear hcl
      go_wp2_with fail
      refine wp_region_later (by kernel_rfl) (by kernel_rfl) ?_
      have lx_0 := fun (g : Later wr) => g.ok.cell qx_0
      have lx_1 := fun (g : Later wr) => g.ok.cell qx_1
      have lx_2 := fun (g : Later wr) => g.ok.cell qx_2
      have lx_3 := fun (g : Later wr) => g.ok.cell qx_3
      have lx_4 := fun (g : Later wr) => g.ok.cell qx_4
      have ly_0 := fun (g : Later wr) => g.ok.cell qy_0
      have ly_1 := fun (g : Later wr) => g.ok.cell qy_1
      have ly_2 := fun (g : Later wr) => g.ok.cell qy_2
      have ly_3 := fun (g : Later wr) => g.ok.cell qy_3
      have ly_4 := fun (g : Later wr) => g.ok.cell qy_4
      have lz_0 := fun (g : Later wr) => g.ok.cell qz_0
      have lz_1 := fun (g : Later wr) => g.ok.cell qz_1
      repeat (go_big_quiet_step ((fail)))
      go_big_quiet_step ((go_at_call 44; exact laterC (CC.out _)))
      repeat (go_big_quiet_step ((fail)))
      refine wpQuiet_nil ?_
      intro w3 hl3
      have hb3 := laters_ext hl3
      clear hl3 lx_0 lx_1 lx_2 lx_3 lx_4 ly_0 ly_1 ly_2 ly_3 ly_4 lz_0 lz_1
      have hx3 : Ext wr w3 := by repeat (first | with_reducible exact Ext.refl _ | with_reducible assumption | with_reducible refine Ext.alloc ?_ _ | with_reducible refine Ext.drew ?_ | with_reducible refine Ext.drewN ?_ _ | with_reducible refine Ext.setCell ?_ (by simp <;> omega) _ | with_reducible refine Ext.trans ?_ (by assumption))
      replace qx_0 := hx3.cell qx_0
      replace qx_1 := hx3.cell qx_1
      replace qx_2 := hx3.cell qx_2
      replace qx_3 := hx3.cell qx_3
      replace qx_4 := hx3.cell qx_4
      replace qy_0 := hx3.cell qy_0
      replace qy_1 := hx3.cell qy_1
      replace qy_2 := hx3.cell qy_2
      replace qy_3 := hx3.cell qy_3
      replace qy_4 := hx3.cell qy_4
      replace qz_0 := hx3.cell qz_0
      replace qz_1 := hx3.cell qz_1
      clear hx3
      go_wp2
      refine bodyPost_ret (v := .tuple #[.int .i64 (k : Int), .int .i64 (i : Int)]) (by simp [results, Try.results27, go_sem]) rfl ⟨rfl, (HX1.out.trans HX.out).trans (by repeat (first | with_reducible exact Ext.refl _ | with_reducible assumption | with_reducible refine Ext.alloc ?_ _ | with_reducible refine Ext.drew ?_ | with_reducible refine Ext.drewN ?_ _ | with_reducible refine Ext.setCell ?_ (by simp <;> omega) _ | with_reducible refine Ext.trans ?_ (by assumption)))⟩
end Go.Proofs.Ytoaifbengichbaa
