/- order.Source; the cells of a list. -/
import Derived.Test.YtoaifbengichbaaOr11
namespace Go.Proofs.Ytoaifbengichbaa
open Go.RowKit
set_option linter.unusedVariables false
set_option linter.unusedSimpArgs false
set_option maxHeartbeats 4000000
attribute [local go_sem] later_cell later_frozen later_const
theorem sP_is {ls : List Acc} {i k : Nat} (hr : rdB (A ls i).k = true) : sP ls i k = (decide ((A ls k).c = (A ls i).c) && wrB (A ls k).k && (atB (A ls k).k == atB (A ls i).k)) := by
  unfold sP
  cases hw : wrB (A ls k).k
  · simp
  · have e : (atB (A ls k).k == atB (A ls i).k) = (plB (A ls k).k == plB (A ls i).k) := by
      unfold rdB at hr
      unfold wrB at hw
      unfold atB plB
      generalize (A ls k).k = x at *
      generalize (A ls i).k = y at *
      simp only [decide_eq_true_eq] at hr hw
      rcases hw with rfl | rfl | rfl | rfl <;> rcases hr with rfl | ⟨h1, h2⟩
      all_goals first | decide | skip
      all_goals
        have hy : y = 3 ∨ y = 4 ∨ y = 5 ∨ y = 6 := by omega
        rcases hy with rfl | rfl | rfl | rfl <;> decide
    rw [e]
    simp
theorem oSource_no (v : Value) (ls : List Acc) (i : Int) (w : World) (h : AccV w v ls) (hn : i < 0 ∨ (ls.length : Int) ≤ i) : Calls Try.prog 10 #[v, .int .i64 i] w fun e w' => e = .returned (.int .i64 (-1)) ∧ Ext w w' := by
  obtain ⟨a, cap, rfl, hc, hm⟩ := h.form
  have hl : ls.length ≤ 9223372036854775807 := by unfold maxLen at hm; omega
  clear h
  by_cases h0 : i < 0
  · have d0 : decide (i < 0) = true := by simpa using h0
    go_enter Try.func10, Try.ntmps10
    go_wp2
    go_ret
    exact ⟨rfl, Ext.refl _⟩
  have d0 : decide (i < 0) = false := by simpa using h0
  have d1 : decide ((ls.length : Int) ≤ i) = true := by simp; omega
  go_enter Try.func10, Try.ntmps10
  go_wp2
  go_ret
  exact ⟨rfl, Ext.refl _⟩
set_option maxRecDepth 100000 in
theorem oSource_in (v : Value) (ls : List Acc) (i : Nat) (w : World) (h : AccV w v ls) (hi : i < ls.length) (hl : ls.length ≤ 1000) : Calls Try.prog 10 #[v, .int .i64 i] w fun e w' => e = .returned (.int .i64 (srcR ls i)) ∧ Ext w w' := by
  obtain ⟨b, off, cap, rfl, hcs⟩ := h.all (by omega)
  have HC := Lib.hid hcs
  have d0 : decide ((i : Int) < 0) = false := by simp
  have d1 : decide ((ls.length : Int) ≤ i) = false := by simp; omega
  have hil : (i : Int) < (ls.length : Int) := by omega
  have CR := Lib.hid (fun w => oReads (A ls i).k w)
  have HV : Hid (srcR ls i = if rdB (A ls i).k = false then -1 else lastP (sP ls i) i) := Lib.hid (by
    unfold srcR
    rw [show (i : Int).toNat = i by omega]
    cases rdB (A ls i).k
    · rw [if_pos (by simp), if_pos rfl]
    · rw [if_neg (by simp; omega), if_neg (by simp)])
  cases hr : rdB (A ls i).k
  case false =>
    rw [hr] at CR
    rw [HV.out, hr, if_pos rfl]
    obtain ⟨c0, c1, c2, c3, c4⟩ := HC.out _ (Ext.refl w) i hi
    clear h hcs
    generalize (A ls i).k = yk at *
    go_enter Try.func10, Try.ntmps10
    go_wp2_with fail
    refine (CR.out _).mono ?_
    rintro e w' ⟨rfl, rfl⟩
    go_wp2
    go_ret
    exact ⟨rfl, Ext.refl _⟩
  rw [hr] at CR
  rw [HV.out, hr, if_neg (by simp)]
  have HS : Hid (∀ k, sP ls i k = (decide ((A ls k).c = (A ls i).c) && wrB (A ls k).k && (atB (A ls k).k == atB (A ls i).k))) := Lib.hid (fun k => sP_is hr)
  have HF : Hid (∀ k, k < i → sP ls i k = true → (∀ j, k < j → j < i → sP ls i j = false) → lastP (sP ls i) i = k) := Lib.hid (fun k hk h1 h2 => by
    rw [lastP_drop (show k + 1 ≤ i by omega) (fun j h3 h4 => h2 j (by omega) h4)]
    unfold lastP
    rw [if_pos h1])
  have HZ : Hid ((∀ j, j < i → sP ls i j = false) → lastP (sP ls i) i = -1) := Lib.hid (fun h2 => lastP_drop (Nat.zero_le i) (fun j _ h4 => h2 j h4))
  generalize lastP (sP ls i) i = RV at *
  have HW : Hid (∀ (x : Int) w, Calls Try.prog 12 #[.int .i64 x] w fun e w' => e = .returned (.bool (wrB x)) ∧ w = w') := Lib.hid oWrites
  have HAT : Hid (∀ (x : Int) w, Calls Try.prog 30 #[.int .i64 x] w fun e w' => e = .returned (.bool (atB x)) ∧ w = w') := Lib.hid oAtomic
  obtain ⟨c0, c1, c2, c3, c4⟩ := HC.out _ (Ext.refl w) i hi
  clear h hcs HV
  go_enter Try.func10, Try.ntmps10
  go_wp2_with fail
  refine (CR.out _).mono ?_
  rintro e w' ⟨rfl, rfl⟩
  go_wp2
  clear c0 c1 c2 c3 c4
  go_loopw [5] (fun x wr => ∃ y : Nat, y ≤ i ∧ x = .int .i64 ((y : Int) - 1) ∧ (∀ j, y ≤ j → j < i → sP ls i j = false) ∧ Ext w wr) (fun x _ => (intOf x + 1).toNat)
  case atStart => exact ⟨i, Nat.le_refl _, rfl, fun j h1 h2 => by omega, Ext.refl _⟩
  case round =>
    obtain ⟨y, hy, rfl, hno, hx⟩ := hrel
    by_cases hlt : 0 < y
    case neg =>
      obtain rfl : y = 0 := by omega
      have e := HZ.out (fun j hj => hno j (Nat.zero_le _) hj)
      subst e
      have d2 : decide ((0 : Int) ≤ ((0 : Nat) : Int) - 1) = false := by decide
      clear hno
      go_wp2
      go_ret
      exact ⟨rfl, hx⟩
    obtain ⟨k, rfl⟩ : ∃ k, y = k + 1 := ⟨y - 1, by omega⟩
    have ek : ((k + 1 : Nat) : Int) - 1 = (k : Int) := by omega
    rw [ek]
    have hkl : (k : Int) < (ls.length : Int) := by omega
    obtain ⟨_, qx_0, qx_1, _, _⟩ := HC.out _ hx k (by omega)
    obtain ⟨_, qy_0, qy_1, _, _⟩ := HC.out _ hx i hi
    have hs := HS.out k
    have HX := Lib.hid hx
    have HNO := Lib.hid (fun (e : sP ls i k = false) (j : Nat) (h1 : k ≤ j) (h2 : j < i) => show sP ls i j = false from by
      by_cases h : j = k
      · subst h; exact e
      · exact hno j (by omega) h2)
    have HY := Lib.hid (fun e => HF.out k (by omega) e (fun j h1 h2 => hno j (by omega) h2))
    have CW := Lib.hid (fun w => HW.out (A ls k).k w)
    have CAX := Lib.hid (fun w => HAT.out (A ls k).k w)
    have CAY := Lib.hid (fun w => HAT.out (A ls i).k w)
    clear hx hr hno ek
    generalize sP ls i k = sv at *
    generalize wrB (A ls k).k = wx at *
    generalize atB (A ls k).k = ax at *
    generalize atB (A ls i).k = ay at *
    generalize (A ls k).k = xk at *
    generalize (A ls i).k = yk at *
    generalize (A ls k).c = xc at *
    generalize (A ls i).c = yc at *
    by_cases hc : xc = yc
    case neg =>
      have e1 : (xc == yc) = false := by simpa using hc
      rw [decide_eq_false hc, Bool.false_and, Bool.false_and] at hs
      have HN := Lib.hid (HNO.out hs)
      clear hs
      go_wp2_with fail
      refine wp_region_later (by kernel_rfl) (by kernel_rfl) ?_
      have lx_0 := fun (g : Later wr) => g.ok.cell qx_0
      have lx_1 := fun (g : Later wr) => g.ok.cell qx_1
      have ly_0 := fun (g : Later wr) => g.ok.cell qy_0
      have ly_1 := fun (g : Later wr) => g.ok.cell qy_1
      repeat (go_big_quiet_step ((fail)))
      refine wpQuiet_nil ?_
      intro w1 hl1
      have hb1 := laters_ext hl1
      clear hl1 lx_0 lx_1 ly_0 ly_1
      have hx1 : Ext wr w1 := by repeat (first | with_reducible exact Ext.refl _ | with_reducible assumption | with_reducible refine Ext.alloc ?_ _ | with_reducible refine Ext.drew ?_ | with_reducible refine Ext.drewN ?_ _ | with_reducible refine Ext.setCell ?_ (by simp <;> omega) _ | with_reducible refine Ext.trans ?_ (by assumption))
      replace qx_0 := hx1.cell qx_0
      replace qx_1 := hx1.cell qx_1
      replace qy_0 := hx1.cell qy_0
      replace qy_1 := hx1.cell qy_1
      clear hx1
      go_wp2
      exact ⟨⟨k, by omega, by go_num, HN.out, HX.out.trans (by repeat (first | with_reducible exact Ext.refl _ | with_reducible assumption | with_reducible refine Ext.alloc ?_ _ | with_reducible refine Ext.drew ?_ | with_reducible refine Ext.drewN ?_ _ | with_reducible refine Ext.setCell ?_ (by simp <;> omega) _ | with_reducible refine Ext.trans ?_ (by assumption)))⟩, by simp [intOf] <;> omega⟩
    have e1 : (xc == yc) = true := by simpa using hc
    rw [decide_eq_true hc, Bool.true_and] at hs
    cases wx
    case false =>
      rw [Bool.false_and] at hs
      have HN := Lib.hid (HNO.out hs)
      clear hs
      go_wp2_with fail
      refine wp_region_later (by kernel_rfl) (by kernel_rfl) ?_
      have lx_0 := fun (g : Later wr) => g.ok.cell qx_0
      have lx_1 := fun (g : Later wr) => g.ok.cell qx_1
      have ly_0 := fun (g : Later wr) => g.ok.cell qy_0
      have ly_1 := fun (g : Later wr) => g.ok.cell qy_1
      repeat (go_big_quiet_step ((fail)))
      go_big_quiet_step ((go_at_call 12; exact laterS (CW.out _)))
      repeat (go_big_quiet_step ((fail)))
      refine wpQuiet_nil ?_
      intro w2 hl2
      have hb2 := laters_ext hl2
      clear hl2 lx_0 lx_1 ly_0 ly_1
      have hx2 : Ext wr w2 := by repeat (first | with_reducible exact Ext.refl _ | with_reducible assumption | with_reducible refine Ext.alloc ?_ _ | with_reducible refine Ext.drew ?_ | with_reducible refine Ext.drewN ?_ _ | with_reducible refine Ext.setCell ?_ (by simp <;> omega) _ | with_reducible refine Ext.trans ?_ (by assumption))
      replace qx_0 := hx2.cell qx_0
      replace qx_1 := hx2.cell qx_1
      replace qy_0 := hx2.cell qy_0
      replace qy_1 := hx2.cell qy_1
      clear hx2
      go_wp2
      exact ⟨⟨k, by omega, by go_num, HN.out, HX.out.trans (by repeat (first | with_reducible exact Ext.refl _ | with_reducible assumption | with_reducible refine Ext.alloc ?_ _ | with_reducible refine Ext.drew ?_ | with_reducible refine Ext.drewN ?_ _ | with_reducible refine Ext.setCell ?_ (by simp <;> omega) _ | with_reducible refine Ext.trans ?_ (by assumption)))⟩, by simp [intOf] <;> omega⟩
    rw [Bool.true_and] at hs
    by_cases ha : ax = ay
    case neg =>
      have e3 : (ax == ay) = false := by simpa using ha
      rw [e3] at hs
      have HN := Lib.hid (HNO.out hs)
      clear hs
      go_wp2_with fail
      refine wp_region_later (by kernel_rfl) (by kernel_rfl) ?_
      have lx_0 := fun (g : Later wr) => g.ok.cell qx_0
      have lx_1 := fun (g : Later wr) => g.ok.cell qx_1
      have ly_0 := fun (g : Later wr) => g.ok.cell qy_0
      have ly_1 := fun (g : Later wr) => g.ok.cell qy_1
      repeat (go_big_quiet_step ((fail)))
      go_big_quiet_step ((go_at_call 12; exact laterS (CW.out _)))
      repeat (go_big_quiet_step ((fail)))
      go_big_quiet_step ((go_at_call 30; exact laterS (CAX.out _)))
      repeat (go_big_quiet_step ((fail)))
      go_big_quiet_step ((go_at_call 30; exact laterS (CAY.out _)))
      repeat (go_big_quiet_step ((fail)))
      refine wpQuiet_nil ?_
      intro w3 hl3
      have hb3 := laters_ext hl3
      clear hl3 lx_0 lx_1 ly_0 ly_1
      have hx3 : Ext wr w3 := by repeat (first | with_reducible exact Ext.refl _ | with_reducible assumption | with_reducible refine Ext.alloc ?_ _ | with_reducible refine Ext.drew ?_ | with_reducible refine Ext.drewN ?_ _ | with_reducible refine Ext.setCell ?_ (by simp <;> omega) _ | with_reducible refine Ext.trans ?_ (by assumption))
      replace qx_0 := hx3.cell qx_0
      replace qx_1 := hx3.cell qx_1
      replace qy_0 := hx3.cell qy_0
      replace qy_1 := hx3.cell qy_1
      clear hx3
      go_wp2
      exact ⟨⟨k, by omega, by go_num, HN.out, HX.out.trans (by repeat (first | with_reducible exact Ext.refl _ | with_reducible assumption | with_reducible refine Ext.alloc ?_ _ | with_reducible refine Ext.drew ?_ | with_reducible refine Ext.drewN ?_ _ | with_reducible refine Ext.setCell ?_ (by simp <;> omega) _ | with_reducible refine Ext.trans ?_ (by assumption)))⟩, by simp [intOf] <;> omega⟩
    have e3 : (ax == ay) = true := by simpa using ha
    rw [e3] at hs
    obtain rfl : RV = k := HY.out hs
    clear hs
    go_wp2_with fail
    refine wp_region_later (by kernel_rfl) (by kernel_rfl) ?_
    have lx_0 := fun (g : Later wr) => g.ok.cell qx_0
    have lx_1 := fun (g : Later wr) => g.ok.cell qx_1
    have ly_0 := fun (g : Later wr) => g.ok.cell qy_0
    have ly_1 := fun (g : Later wr) => g.ok.cell qy_1
    repeat (go_big_quiet_step ((fail)))
    go_big_quiet_step ((go_at_call 12; exact laterS (CW.out _)))
    repeat (go_big_quiet_step ((fail)))
    go_big_quiet_step ((go_at_call 30; exact laterS (CAX.out _)))
    repeat (go_big_quiet_step ((fail)))
    go_big_quiet_step ((go_at_call 30; exact laterS (CAY.out _)))
    repeat (go_big_quiet_step ((fail)))
    refine wpQuiet_nil ?_
    intro w4 hl4
    have hb4 := laters_ext hl4
    clear hl4 lx_0 lx_1 ly_0 ly_1
    have hx4 : Ext wr w4 := by repeat (first | with_reducible exact Ext.refl _ | with_reducible assumption | with_reducible refine Ext.alloc ?_ _ | with_reducible refine Ext.drew ?_ | with_reducible refine Ext.drewN ?_ _ | with_reducible refine Ext.setCell ?_ (by simp <;> omega) _ | with_reducible refine Ext.trans ?_ (by assumption))
    replace qx_0 := hx4.cell qx_0
    replace qx_1 := hx4.cell qx_1
    replace qy_0 := hx4.cell qy_0
    replace qy_1 := hx4.cell qy_1
    clear hx4
    go_wp2
    go_ret
    exact ⟨rfl, HX.out.trans (by repeat (first | with_reducible exact Ext.refl _ | with_reducible assumption | with_reducible refine Ext.alloc ?_ _ | with_reducible refine Ext.drew ?_ | with_reducible refine Ext.drewN ?_ _ | with_reducible refine Ext.setCell ?_ (by simp <;> omega) _ | with_reducible refine Ext.trans ?_ (by assumption)))⟩
/-- the cells of the first m, each once -/
def cellsL (ls : List Acc) : Nat → List Int
  | 0 => []
  | m + 1 => if (A ls m).c ∈ cellsL ls m then cellsL ls m else cellsL ls m ++ [(A ls m).c]
theorem cellsL_mem (ls : List Acc) : ∀ m x, x ∈ cellsL ls m ↔ ∃ k, k < m ∧ (A ls k).c = x
  | 0, x => by simp [cellsL]
  | m + 1, x => by
    unfold cellsL
    constructor
    · intro h
      split at h
      · obtain ⟨k, hk, e⟩ := (cellsL_mem ls m x).1 h
        exact ⟨k, by omega, e⟩
      · rcases List.mem_append.1 h with h | h
        · obtain ⟨k, hk, e⟩ := (cellsL_mem ls m x).1 h
          exact ⟨k, by omega, e⟩
        · exact ⟨m, by omega, by simp at h; exact h.symm⟩
    · rintro ⟨k, hk, e⟩
      by_cases hkm : k = m
      · subst hkm
        split
        · rw [← e]; assumption
        · rw [← e]; simp
      · have := (cellsL_mem ls m x).2 ⟨k, by omega, e⟩
        split
        · exact this
        · exact List.mem_append.2 (.inl this)
theorem cellsL_nodup (ls : List Acc) : ∀ m, (cellsL ls m).Nodup
  | 0 => List.nodup_nil
  | m + 1 => by
    unfold cellsL
    split
    · exact cellsL_nodup ls m
    · rename_i h
      exact List.nodup_append.2 ⟨cellsL_nodup ls m, by simp, fun a ha b hb => by simp at hb; subst hb; exact fun e => h (e ▸ ha)⟩
theorem cellsL_len (ls : List Acc) : ∀ m, (cellsL ls m).length ≤ m
  | 0 => Nat.le_refl _
  | m + 1 => by
    have := cellsL_len ls m
    unfold cellsL
    split
    · omega
    · rw [List.length_append]
      simp
      omega
/-- rising -/
def cellsS (ls : List Acc) : List Int := (cellsL ls ls.length).mergeSort fun x y => decide (x ≤ y)
theorem cellsS_len (ls : List Acc) : (cellsS ls).length ≤ ls.length := by unfold cellsS; rw [List.length_mergeSort]; exact cellsL_len ls _
theorem cellsS_mem (ls : List Acc) (x : Int) : x ∈ cellsS ls ↔ ∃ k, k < ls.length ∧ (A ls k).c = x := by
  unfold cellsS
  rw [List.mem_mergeSort]
  exact cellsL_mem ls _ x
theorem cellsS_up (ls : List Acc) : (cellsS ls).Pairwise (· < ·) := by
  have tr : ∀ a b c : Int, decide (a ≤ b) = true → decide (b ≤ c) = true → decide (a ≤ c) = true := fun a b c h1 h2 => by simp only [decide_eq_true_eq] at *; exact Int.le_trans h1 h2
  have tt : ∀ a b : Int, (decide (a ≤ b) || decide (b ≤ a)) = true := fun a b => by simp only [Bool.or_eq_true, decide_eq_true_eq]; exact Int.le_total a b
  have h1 : (cellsS ls).Pairwise (fun a b => decide (a ≤ b) = true) := List.pairwise_mergeSort tr tt _
  have h2 : (cellsS ls).Pairwise (· ≠ ·) := (List.mergeSort_perm (cellsL ls ls.length) _).nodup_iff.2 (cellsL_nodup ls _)
  refine List.Pairwise.imp₂ (fun a b h3 h4 => ?_) h1 h2
  simp only [decide_eq_true_eq] at h3
  omega
theorem cellsS_lt (ls : List Acc) {i j : Nat} (h : i < j) (hj : j < (cellsS ls).length) : (cellsS ls).getD i 0 < (cellsS ls).getD j 0 := by
  have := List.pairwise_iff_getElem.1 (cellsS_up ls) i j (by omega) hj h
  simpa [List.getD_eq_getElem?_getD, show i < (cellsS ls).length by omega, hj] using this
end Go.Proofs.Ytoaifbengichbaa
