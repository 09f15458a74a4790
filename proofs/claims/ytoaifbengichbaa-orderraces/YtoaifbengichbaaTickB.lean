/- tick.New, Tick; slices.Clone of numbers. -/
import Derived.Test.YtoaifbengichbaaTickA
import Derived.Deep.OwnRows
import Derived.Deep.AppendLies
import Derived.Lib.SliceRun
namespace Go.Proofs.Ytoaifbengichbaa
open Go.RowKit
set_option linter.unusedVariables false
set_option maxHeartbeats 1000000
theorem info_int : (Try.prog.info? 3).map (fun i => (i.zero, i.size, i.bytes)) = some (some (.int .i64 0), 1, 8) := by kernel_rfl
theorem Ext.row {a b : World} (h : Ext a b) {base e sz : Nat} {v : Value} {n : Nat} {xs : List Value} (hr : a.ownsRow base e sz v n xs) : b.ownsRow base e sz v n xs := by
  refine ⟨hr.1, ?_⟩
  rcases hr.2 with hn | ⟨g, cap, cur, rfl, hb, hg, rest⟩
  · exact .inl hn
  · exact .inr ⟨g, cap, cur, rfl, hb, (h.block g (Array.getElem?_eq_some_iff.1 hg).1).trans hg, rest⟩
/-- a row of numbers of the call's own -/
def RI (w : World) (base : Nat) (v : Value) (xs : List Int) : Prop := w.ownsRow base 3 1 v xs.length (xs.map (Value.int .i64))
theorem RI.ints {w : World} {base : Nat} {v : Value} {xs : List Int} (h : RI w base v xs) : IntsV w v xs := intsV_row h
theorem RI.ext {w w' : World} {base : Nat} {v : Value} {xs : List Int} (h : RI w base v xs) (hx : Ext w w') : RI w' base v xs := hx.row h
/-- a call gives these numbers, in memory of its own -/
def GivesI (w : World) (xs : List Int) (e : Ending) (w' : World) : Prop := ∃ v, e = .returned v ∧ RI w' w.heap.size v xs ∧ Ext w w'
theorem gives_nil {w w' : World} (hx : Ext w w') : GivesI w [] (.returned (.slice none 0 0)) w' := ⟨_, rfl, World.ownsRow_nil _ _ _ _, hx⟩
theorem tNew_yes (n : Nat) (w : World) (h1 : 1 ≤ n) (h2 : n ≤ 10) : Calls Try.prog 35 #[.int .i64 n] w (GivesI w (List.replicate n 0)) := by
  have hmk := fun W => run_make_row' (P := Try.prog) 27 3 (.int .i64 0) 8 Try.underlying27 info_int rfl .i64 .i64 n (by omega) (by omega) W
  have HR := Lib.hid (World.ownsRow_lit (e := 3) (size := 1) (base := w.heap.size) w (madeCells #[.int .i64 0] n) n (Nat.le_refl _) (by unfold maxLen; omega) (by simp [madeCells]))
  have e0 : (madeCells #[.int .i64 0] n).toList = (List.replicate n (0 : Int)).map (Value.int .i64) := by rw [toList_madeCells_one]; simp
  have E0 := Lib.hid e0
  clear e0
  have d1 : ¬ ((n : Int) < 1) := by omega
  have d2 : ¬ (10 < (n : Int)) := by omega
  go_enter Try.func35, Try.ntmps35
  go_wp2
  go_ret
  refine ⟨_, rfl, ?_, ?_⟩
  · unfold RI
    rw [← E0.out, List.length_replicate]
    exact HR.out
  · repeat (first | with_reducible exact Ext.refl _ | with_reducible assumption | with_reducible refine Ext.alloc ?_ _ | with_reducible refine Ext.drew ?_ | with_reducible refine Ext.drewN ?_ _ | with_reducible refine Ext.setCell ?_ (by simp <;> omega) _ | with_reducible refine Ext.trans ?_ (by assumption))
theorem tNew_no (n : Int) (w : World) (h : n < 1 ∨ 10 < n) : Calls Try.prog 35 #[.int .i64 n] w (GivesI w []) := by
  by_cases h1 : n < 1
  · go_enter Try.func35, Try.ntmps35
    go_wp2
    go_ret
    exact gives_nil (Ext.refl _)
  · have h2 : 10 < n := by omega
    go_enter Try.func35, Try.ntmps35
    go_wp2
    go_ret
    exact gives_nil (Ext.refl _)
theorem map_get (xs : List Int) (j : Nat) (u : Value) (h : (xs.map (Value.int .i64))[j]? = some u) : j < xs.length ∧ u = .int .i64 (xs.getD j 0) := by
  rw [List.getElem?_map] at h
  obtain ⟨x, hx, rfl⟩ := Option.map_eq_some_iff.1 h
  obtain ⟨hj, rfl⟩ := List.getElem?_eq_some_iff.1 hx
  exact ⟨hj, by simp [hj]⟩
theorem tClone (v : Value) (xs : List Int) (w : World) (h : IntsV w v xs) (h0 : 0 < xs.length) (hl : xs.length ≤ 1000) : Calls Try.prog 50 #[v] w (GivesI w xs) := by
  obtain ⟨i0, hi, hz0, hz1, hz2⟩ := info_parts info_int
  obtain ⟨b, off, cap, rfl, hc⟩ := h.full h0
  have hnews : ∀ j u, (xs.map (Value.int .i64))[j]? = some u → w.cell? ((⟨b, off, none⟩ : Addr).add j) = some u := by
    intro j u hu
    obtain ⟨hj, rfl⟩ := map_get xs j u hu
    have := hc j hj
    by_cases hj0 : j = 0
    · subst hj0; simpa [Addr.add] using this
    · simpa [Addr.add, hj0] using this
  have HN := Lib.hid hnews
  have hb : b < w.heap.size := World.block_lt_of_cell? w _ (hc 0 h0)
  have HL : Hid ((xs.map (Value.int .i64)).length = xs.length * 1) := Lib.hid (by simp)
  have HM : Hid (∀ u ∈ xs.map (Value.int .i64), u.oneCell' = true) := Lib.hid (by intro u hu; obtain ⟨x, _, rfl⟩ := List.mem_map.1 hu; rfl)
  have HG : Hid (∀ v' w', w'.ownsRow w.heap.size 3 1 v' xs.length (xs.map (Value.int .i64)) → Ext w w' → GivesI w xs (.returned v') w') := Lib.hid (fun v' w' h1 h2 => ⟨v', rfl, h1, h2⟩)
  generalize hgr : GivesI w xs = G at *
  generalize xs.map (Value.int .i64) = ns at *
  generalize xs.length = n at *
  clear h hnews hc hgr
  have heq := fun W => Lib.run_eql_slice_nil (P := Try.prog) W 27 3 (some ⟨b, off, none⟩) n cap 0 0 Try.underlying27
  go_enter Try.func50, Try.ntmps50
  go_wp2_with (at_builtin; refine wpList_append_own _ rfl _ _ 27 rfl w.heap.size 3 i0 (.int .i64 0) 1 8 Try.underlying27 hi hz0 hz1 hz2 rfl (by decide) _ 0 [] rfl (World.ownsRow_made w #[] 0 (Nat.le_refl _) (by unfold maxLen; omega) rfl) ⟨b, off, none⟩ n cap ns rfl HL.out ?c1 HM.out ?c3 ?c4 ?c5 ?_)
  case c1 => intro j u hu; exact Lib.cell?_alloc_some _ (HN.out j u hu)
  case c3 => unfold maxLen; omega
  case c4 => omega
  case c5 => simp
  intro v' w' h1 h2 _
  have X := (((Ext.refl w).alloc (.cells #[] 3))).grown h2 (fun j h => by simp [Value.ownBlock] at h; omega)
  have HG2 := Lib.hid (HG.out v' w' h1 X)
  clear h1 h2 X
  go_wp2
  exact HG2.out
/-- a clock with one step more of a thread -/
def tickL (c : List Int) (i : Int) : List Int := if hasB c i = true ∧ c.getD i.toNat 0 ≠ 1099511627776 then c.set i.toNat (c.getD i.toNat 0 + 1) else []
theorem has_iff (c : List Int) (i : Int) : hasB c i = true ↔ rightB c = true ∧ 0 ≤ i ∧ i < c.length := by simp [hasB, and_assoc]
theorem tTick (v : Value) (xs : List Int) (i : Int) (w : World) (h : IntsV w v xs) (hl : xs.length ≤ 1000000) : Calls Try.prog 37 #[v, .int .i64 i] w (GivesI w (tickL xs i)) := by
  have C1 := Lib.hid fun w' (hx : Ext w w') => tHas v xs i w' (h.ext hx) hl
  cases hh : hasB xs i
  · have e : tickL xs i = [] := by simp [tickL, hh]
    rw [e]
    rw [hh] at C1
    clear e hh
    go_enter Try.func37, Try.ntmps37
    go_wp2_with fail
    refine (C1.out _ (Ext.refl _)).mono ?_
    rintro e w' ⟨rfl, rfl⟩
    go_wp2
    go_ret
    exact gives_nil (Ext.refl _)
  · obtain ⟨hr, hi0, hi1⟩ := (has_iff xs i).1 hh
    obtain ⟨hl1, hl10, hall⟩ := (right_iff xs).1 hr
    obtain ⟨k, rfl⟩ := Int.eq_ofNat_of_zero_le hi0
    have hk : k < xs.length := by omega
    have C2 := Lib.hid (tClone v xs w h (by omega) (by omega))
    obtain ⟨b, off, cap, rfl, hc⟩ := h.full (by omega)
    have hcell := hc k hk
    obtain ⟨hz0, hz1⟩ := hall k hk
    rw [hh] at C1
    have HE : Hid (tickL xs (k : Int) = if xs.getD k 0 ≠ 1099511627776 then xs.set k (xs.getD k 0 + 1) else []) := Lib.hid (by unfold tickL; simp [hh])
    have HS : Hid (∀ (w' : World) g cap, RI w' w.heap.size (.slice (some ⟨g, 0, none⟩) xs.length cap) xs → RI (w'.setCell ⟨g, k, none⟩ (.int .i64 (xs.getD k 0 + 1))) w.heap.size (.slice (some ⟨g, 0, none⟩) xs.length cap) (xs.set k (xs.getD k 0 + 1))) := Lib.hid (fun w' g cap hri => by
      have := (World.ownsRow.stored hri k (.int .i64 (xs.getD k 0 + 1))).1
      unfold RI
      rw [List.length_set, List.map_set]
      exact this)
    clear h hh hr hall hc
    by_cases hz : xs.getD k 0 = 1099511627776
    · have e : tickL xs (k : Int) = [] := by rw [HE.out, if_neg (fun h => h hz)]
      rw [e]
      rw [hz] at hcell
      clear e hz HE HS hz0 hz1
      generalize xs.length = n at *
      have hkn : (k : Int) < (n : Int) := by omega
      go_enter Try.func37, Try.ntmps37
      go_wp2_with fail
      refine (C1.out _ (Ext.refl _)).mono ?_
      rintro e w' ⟨rfl, rfl⟩
      go_wp2
      go_ret
      exact gives_nil (Ext.refl _)
    · have e : tickL xs (k : Int) = xs.set k (xs.getD k 0 + 1) := by rw [HE.out, if_pos hz]
      rw [e]
      have hzz : (xs.getD k 0 == 1099511627776) = false := by simpa using hz
      have HK := Lib.hid hk
      obtain ⟨n, hn⟩ : ∃ n, n = xs.length := ⟨_, rfl⟩
      have HN := Lib.hid hn
      rw [← hn] at hk hl1 hl10 hi1 C1 C2 HS ⊢
      obtain ⟨z, hzd⟩ : ∃ z, z = xs.getD k 0 := ⟨_, rfl⟩
      have HZ := Lib.hid hzd
      rw [← hzd] at hcell hz0 hz1 hzz HS ⊢
      clear e hz HE hn hzd
      have hkn : (k : Int) < (n : Int) := by omega
      have hpos : 0 < n := by omega
      go_enter Try.func37, Try.ntmps37
      go_wp2_with fail
      refine (C1.out _ (Ext.refl _)).mono ?_
      rintro e w' ⟨rfl, rfl⟩
      go_wp2_with fail
      refine C2.out.mono ?_
      rintro e w1 ⟨v1, rfl, R1, X1⟩
      obtain ⟨g, c1, rfl, hg1, hg2⟩ := World.ownsRow.form R1 (by have := HN.out; omega)
      have hcg := World.ownsRow.cellAt R1 k (by have := HN.out; omega)
      have e2 : xs[k]? = some z := by rw [HZ.out]; simp [HK.out]
      rw [List.getElem?_map, e2] at hcg
      simp only [Option.map_some] at hcg
      have hfg := World.ownsRow.frozenAt R1 k
      have hne := HN.out
      have HR := Lib.hid (HS.out w1 g c1 (by rw [hne]; exact R1))
      rw [← hne]
      clear hne e2 R1 HS
      have hX := X1.setCell (p := ⟨g, k, none⟩) (by simpa using hg1) (.int .i64 (z + 1))
      go_wp2
      go_ret
      exact ⟨_, rfl, HR.out, hX⟩
end Go.Proofs.Ytoaifbengichbaa
