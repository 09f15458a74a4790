/- tick.Join, Within, Same, Apart, Knows, Sum. -/
import Derived.Test.YtoaifbengichbaaTickB
namespace Go.Proofs.Ytoaifbengichbaa
open Go.RowKit
set_option linter.unusedVariables false
set_option maxHeartbeats 1000000
attribute [local go_sem] later_cell later_frozen later_const
def leAll (a b : List Int) : Bool := decide (∀ k, k < a.length → a.getD k 0 ≤ b.getD k 0)
def withinB (a b : List Int) : Bool := bothB a b && leAll a b
def sameB (a b : List Int) : Bool := withinB a b && withinB b a
def apartB (a b : List Int) : Bool := bothB a b && !withinB a b && !withinB b a
def knowsB (c : List Int) (i n : Int) : Bool := hasB c i && decide (n ≤ c.getD i.toNat 0)
def jmix (a b : List Int) (k : Nat) : List Int := (List.range a.length).map fun j => if j < k then max (a.getD j 0) (b.getD j 0) else 0
def joinL (a b : List Int) : List Int := if bothB a b then jmix a b a.length else []
def sumL (c : List Int) : Int := if rightB c then c.sum else 0
theorem both_iff (a b : List Int) : bothB a b = true ↔ rightB a = true ∧ rightB b = true ∧ a.length = b.length := by simp [bothB, and_assoc]
theorem both_len (a b : List Int) (h : bothB a b = true) : 1 ≤ a.length ∧ a.length ≤ 10 ∧ a.length = b.length := by
  obtain ⟨h1, h2, h3⟩ := (both_iff a b).1 h
  have := (right_iff a).1 h1
  exact ⟨this.1, this.2.1, h3⟩
theorem jmix_len (a b : List Int) (k : Nat) : (jmix a b k).length = a.length := by simp [jmix]
theorem jmix_get (a b : List Int) (k j : Nat) (hj : j < a.length) : (jmix a b k).getD j 0 = if j < k then max (a.getD j 0) (b.getD j 0) else 0 := by
  unfold jmix
  simp [hj]
theorem jmix_zero (a b : List Int) : jmix a b 0 = List.replicate a.length 0 := by
  apply List.ext_getElem
  · simp [jmix]
  · intro j h1 h2; simp [jmix]
theorem jmix_set (a b : List Int) (k : Nat) : (jmix a b k).set k (max (a.getD k 0) (b.getD k 0)) = jmix a b (k + 1) := by
  apply List.ext_getElem
  · simp [jmix]
  · intro j h1 h2
    rw [List.getElem_set]
    by_cases e : k = j
    · subst e; simp [jmix]
    · have e1 : (j < k) = (j < k + 1) := by rw [eq_iff_iff]; omega
      simp [e, jmix, e1]
theorem jmix_more (a b : List Int) (k : Nat) (h : a.length ≤ k) : jmix a b k = jmix a b a.length := by
  apply List.ext_getElem
  · simp [jmix]
  · intro j h1 h2
    have : j < a.length := by simpa [jmix] using h1
    have h3 : j < k := by omega
    simp [jmix, this, h3]
theorem leAll_no (a b : List Int) (k : Nat) (hk : k < a.length) (h : b.getD k 0 < a.getD k 0) : leAll a b = false := by
  unfold leAll
  rw [decide_eq_false_iff_not]
  intro hh
  have := hh k hk
  omega
theorem leAll_yes (a b : List Int) (h : ∀ k, k < a.length → a.getD k 0 ≤ b.getD k 0) : leAll a b = true := by
  unfold leAll
  rw [decide_eq_true_eq]
  exact h
theorem tJoin (v u : Value) (xs ys : List Int) (w : World) (h : IntsV w v xs) (h2 : IntsV w u ys) (hl : xs.length ≤ 1000000) (hl2 : ys.length ≤ 1000000) :
    Calls Try.prog 36 #[v, u] w (GivesI w (joinL xs ys)) := by
  have C1 := Lib.hid (tMatch v u xs ys w h h2 hl hl2)
  cases hb : bothB xs ys
  · have e : joinL xs ys = [] := by simp [joinL, hb]
    rw [e]
    rw [hb] at C1
    clear e hb
    go_enter Try.func36, Try.ntmps36
    go_wp2_with fail
    refine (C1.out).mono ?_
    rintro e w' ⟨rfl, rfl⟩
    go_wp2
    go_ret
    exact gives_nil (Ext.refl _)
  · obtain ⟨b1, b2, b3⟩ := both_len xs ys hb
    have e : joinL xs ys = jmix xs ys xs.length := by simp [joinL, hb]
    rw [e]
    rw [hb] at C1
    clear e hb
    obtain ⟨p, off, cap, rfl, hc⟩ := h.full (by omega)
    obtain ⟨p2, off2, cap2, rfl, hc2⟩ := h2.full (by omega)
    have H1 := Lib.hid hc
    have H2 := Lib.hid hc2
    obtain ⟨n, hn⟩ : ∃ n, n = xs.length := ⟨_, rfl⟩
    rw [← hn] at b1 b2 b3 hl C1 ⊢
    rw [← b3] at hl2 C1 H2 ⊢
    have HN := Lib.hid hn
    have HY := Lib.hid b3
    have C2 := Lib.hid (fun w => tNew_yes n w b1 b2)
    clear b3 hn hc hc2 h h2
    go_enter Try.func36, Try.ntmps36
    go_wp2_with fail
    refine (C1.out).mono ?_
    rintro e w' ⟨rfl, rfl⟩
    go_wp2_with fail
    refine (C2.out _).mono ?_
    rintro e w1 ⟨v1, rfl, R1, X1⟩
    have R1' : RI w1 w.heap.size v1 (jmix xs ys 0) := by rw [jmix_zero, ← HN.out]; exact R1
    obtain ⟨g, c1, rfl, hg1, hg2⟩ := World.ownsRow.form R1' (by rw [jmix_len, ← HN.out]; omega)
    rw [jmix_len, ← HN.out] at R1'
    have HR1 := Lib.hid R1'
    clear R1 R1'
    rw [jmix_len, ← HN.out]
    go_wp2
    go_loopw [16] (fun i wr => ∃ k : Nat, k ≤ n ∧ i = .int .i64 k ∧ RI wr w.heap.size (.slice (some ⟨g, 0, none⟩) n c1) (jmix xs ys k) ∧ Ext w wr) (fun i _ => n - (intOf i).toNat)
    case atStart => exact ⟨0, Nat.zero_le _, rfl, HR1.out, X1⟩
    case round =>
      obtain ⟨k, hk, rfl, R, hx⟩ := hrel
      clear HR1 X1
      by_cases hlt : k < n
      · have hkx : k < xs.length := by have := HN.out; omega
        have d1 := hx.cell (H1.out k hkx)
        have d2 := hx.cell (H2.out k hlt)
        have hform : (Value.slice (some ⟨g, 0, none⟩) n c1) = Value.slice (some ⟨g, 0, none⟩) (jmix xs ys k).length c1 := by rw [jmix_len, ← HN.out]
        have R' := R
        unfold RI at R'
        rw [hform] at R'
        have hcg := World.ownsRow.cellAt R' k (by rw [jmix_len]; omega)
        have hfg := World.ownsRow.frozenAt R' k
        have hS := World.ownsRow.stored R' k (.int .i64 (max (xs.getD k 0) (ys.getD k 0)))
        have HS : Hid (∀ w', Ext wr w' → RI (w'.setCell ⟨g, k, none⟩ (.int .i64 (max (xs.getD k 0) (ys.getD k 0)))) w.heap.size (.slice (some ⟨g, 0, none⟩) n c1) (jmix xs ys (k + 1))) := Lib.hid (fun w' hx' => by
          have h1 := World.ownsRow.stored (hx'.row R') k (.int .i64 (max (xs.getD k 0) (ys.getD k 0)))
          unfold RI
          rw [← List.map_set, jmix_set] at h1
          rw [jmix_len] at h1
          rw [jmix_len, HN.out]
          exact h1.1)
        obtain ⟨z0, hz0⟩ : ∃ z, wr.cell? ⟨g, k, none⟩ = some z := by
          rw [hcg]
          exact ⟨_, List.getElem?_eq_getElem (by simp [jmix_len]; omega)⟩
        clear hcg R' hform R hS
        obtain ⟨x, hxx⟩ : ∃ x, x = xs.getD k 0 := ⟨_, rfl⟩
        obtain ⟨y, hyy⟩ : ∃ y, y = ys.getD k 0 := ⟨_, rfl⟩
        rw [← hxx] at d1 HS
        rw [← hyy] at d2 HS
        clear hxx hyy
        have hkn : (k : Int) < (n : Int) := by omega
        obtain ⟨m, hm⟩ : ∃ m, m = max x y := ⟨_, rfl⟩
        rw [← hm] at HS
        have HM : Hid ((if x < y then y else x) = m) := Lib.hid (by rw [hm]; omega)
        clear hm
        go_wp2
        refine wp_region_later_tail 11 (by kernel_rfl) (by kernel_rfl) ?_
        simp only [List.take_succ_cons, List.take_zero, List.drop_succ_cons, List.drop_zero]
        have l1 := fun (g : Later wr) => g.ok.cell d1
        have l2 := fun (g : Later wr) => g.ok.cell d2
        repeat (go_big_quiet_step ((fail)))
        refine wpQuiet_nil ?_
        intro w6 hl6
        have X6 := laters_ext hl6
        clear hl6 l1 l2
        have t1 := X6.cell hz0
        have t2 := X6.frozen hz0 hfg
        have HS2 := Lib.hid (HS.out w6 X6)
        have HX := Lib.hid ((hx.trans X6).setCell (p := ⟨g, k, none⟩) (by simpa using hg1) (.int .i64 m))
        have hm := HM.out
        rw [hm]
        clear hm d1 d2 hz0 hfg HS
        go_wp2
        exact ⟨⟨k + 1, by omega, by go_num, HS2.out, HX.out⟩, by simp [intOf]; omega⟩
      · obtain rfl : k = n := by omega
        have HR := Lib.hid R
        have HX := Lib.hid hx
        clear R hx
        go_wp2
        go_ret
        refine ⟨_, rfl, ?_, HX.out⟩
        have := HR.out
        rw [HN.out] at this
        rw [HN.out]
        exact this
theorem tKnows (v : Value) (xs : List Int) (i n : Int) (w : World) (h : IntsV w v xs) (hl : xs.length ≤ 1000000) :
    Calls Try.prog 28 #[v, .int .i64 i, .int .i64 n] w fun e w' => e = .returned (.bool (knowsB xs i n)) ∧ w = w' := by
  have C1 := Lib.hid (tHas v xs i w h hl)
  cases hh : hasB xs i
  · have e : knowsB xs i n = false := by simp [knowsB, hh]
    rw [e]
    rw [hh] at C1
    clear e hh
    go_enter Try.func28, Try.ntmps28
    go_wp2_with fail
    refine (C1.out).mono ?_
    rintro e w' ⟨rfl, rfl⟩
    go_wp2
    go_ret
    exact ⟨rfl, rfl⟩
  · obtain ⟨hr, hi0, hi1⟩ := (has_iff xs i).1 hh
    obtain ⟨k, rfl⟩ := Int.eq_ofNat_of_zero_le hi0
    have hk : k < xs.length := by omega
    obtain ⟨b, off, cap, rfl, hc⟩ := h.full (by omega)
    have hcell := hc k hk
    have HE : Hid (knowsB xs (k : Int) n = decide (n ≤ xs.getD k 0)) := Lib.hid (by simp [knowsB, hh])
    generalize knowsB xs (k : Int) n = g at *
    rw [hh] at C1
    clear h hh hr hc
    generalize xs.getD k 0 = z at *
    generalize xs.length = m at *
    have hkn : (k : Int) < (m : Int) := by omega
    by_cases hz : n ≤ z
    · go_enter Try.func28, Try.ntmps28
      go_wp2_with fail
      refine (C1.out).mono ?_
      rintro e w' ⟨rfl, rfl⟩
      go_wp2
      go_ret
      exact ⟨by rw [HE.out]; simp [hz], rfl⟩
    · go_enter Try.func28, Try.ntmps28
      go_wp2_with fail
      refine (C1.out).mono ?_
      rintro e w' ⟨rfl, rfl⟩
      go_wp2
      go_ret
      exact ⟨by rw [HE.out]; simp, rfl⟩
theorem sum_snoc (xs : List Int) (k : Nat) (h : k < xs.length) : (xs.take (k + 1)).sum = (xs.take k).sum + xs.getD k 0 := by
  rw [List.take_succ_eq_append_getElem h, List.sum_append]
  simp [h]
theorem sum_bound (xs : List Int) (hall : ∀ k, k < xs.length → 0 ≤ xs.getD k 0 ∧ xs.getD k 0 ≤ 1099511627776) : ∀ k, k ≤ xs.length → 0 ≤ (xs.take k).sum ∧ (xs.take k).sum ≤ 1099511627776 * k := by
  intro k
  induction k with
  | zero => intro _; simp
  | succ k ih =>
    intro hk
    have h1 := ih (by omega)
    have h2 := hall k (by omega)
    rw [sum_snoc xs k (by omega)]
    omega
end Go.Proofs.Ytoaifbengichbaa
