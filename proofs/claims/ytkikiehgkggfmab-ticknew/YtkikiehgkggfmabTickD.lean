/- The document's answers of layer 8: Tick, Join, Within, Sum. -/
import Derived.Test.YtkikiehgkggfmabTickC
import Derived.Test.YtkikiehgkggfmabApp1
namespace Go.Proofs.Ytkikiehgkggfmab
open Go.RowKit
set_option linter.unusedVariables false
set_option maxHeartbeats 1000000
attribute [local go_sem] later_cell later_frozen later_const
/-- what the first k numbers become -/
def pre (f : Nat → Int) (k : Nat) : List Int := (List.range k).map f
theorem pre_succ (f : Nat → Int) (k : Nat) : pre f (k + 1) = pre f k ++ [f k] := by simp [pre, List.range_succ]
theorem pre_len (f : Nat → Int) (k : Nat) : (pre f k).length = k := by simp [pre]
theorem tick_pre (xs : List Int) (k : Nat) : xs.set k (xs.getD k 0 + 1) = pre (fun j => if j = k then xs.getD j 0 + 1 else xs.getD j 0) xs.length := by
  apply List.ext_getElem
  · simp [pre]
  · intro j h1 h2
    have hj : j < xs.length := by simpa using h1
    rw [List.getElem_set]
    by_cases e : k = j
    · subst e; simp [pre]
    · have e2 : ¬ j = k := fun h => e h.symm
      simp [pre, e, e2, hj]
theorem rTick8 (v : Value) (xs : List Int) (i : Int) (w : World) (h : IntsV w v xs) (hl : xs.length ≤ 1000000) : Calls Try.prog 13 #[v, .int .i64 i] w (GivesI w (tickL xs i)) := by
  have C1 := Lib.hid (rRight8 v xs w h hl)
  cases hr : rightB xs
  · have e : tickL xs i = [] := by simp [tickL, hasB, hr]
    rw [e]
    rw [hr] at C1
    clear e hr
    go_enter Try.func13, Try.ntmps13
    go_wp2_with fail
    refine (C1.out).mono ?_
    rintro e w' ⟨rfl, rfl⟩
    go_wp2
    go_ret
    exact gives_nil (Ext.refl _)
  · obtain ⟨hl1, hl10, hall⟩ := (right_iff xs).1 hr
    obtain ⟨b, off, cap, rfl, hc⟩ := h.full (by omega)
    rw [hr] at C1
    by_cases hi0 : i < 0
    · have e : tickL xs i = [] := by
        have : hasB xs i = false := by simp [hasB]; omega
        simp [tickL, this]
      rw [e]
      generalize xs.length = n at *
      clear e hr hall hc h
      go_enter Try.func13, Try.ntmps13
      go_wp2_with fail
      refine (C1.out).mono ?_
      rintro e w' ⟨rfl, rfl⟩
      go_wp2
      go_ret
      exact gives_nil (Ext.refl _)
    · by_cases hi1 : (xs.length : Int) ≤ i
      · have e : tickL xs i = [] := by
          have : hasB xs i = false := by simp [hasB]; omega
          simp [tickL, this]
        rw [e]
        generalize xs.length = n at *
        clear e hr hall hc h
        go_enter Try.func13, Try.ntmps13
        go_wp2_with fail
        refine (C1.out).mono ?_
        rintro e w' ⟨rfl, rfl⟩
        go_wp2
        go_ret
        exact gives_nil (Ext.refl _)
      · obtain ⟨k, rfl⟩ := Int.eq_ofNat_of_zero_le (show 0 ≤ i by omega)
        have hh : hasB xs (k : Int) = true := (has_iff _ _).2 ⟨hr, by omega, by omega⟩
        have hk : k < xs.length := by omega
        have hcell := hc k hk
        have HE : Hid (tickL xs (k : Int) = if xs.getD k 0 ≠ 1099511627776 then xs.set k (xs.getD k 0 + 1) else []) := Lib.hid (by unfold tickL; simp [hh])
        by_cases hz : xs.getD k 0 = 1099511627776
        · have e : tickL xs (k : Int) = [] := by rw [HE.out, if_neg (fun h => h hz)]
          rw [e]
          rw [hz] at hcell
          clear e hz HE hh hr hall hc h hi0 hi1
          generalize xs.length = n at *
          have hkn : (k : Int) < (n : Int) := by omega
          go_enter Try.func13, Try.ntmps13
          go_wp2_with fail
          refine (C1.out).mono ?_
          rintro e w' ⟨rfl, rfl⟩
          go_wp2
          go_ret
          exact gives_nil (Ext.refl _)
        · have e : tickL xs (k : Int) = pre (fun j => if j = k then xs.getD j 0 + 1 else xs.getD j 0) xs.length := by rw [HE.out, if_pos hz, tick_pre]
          rw [e]
          have hzz : (xs.getD k 0 == 1099511627776) = false := by simpa using hz
          have HC := Lib.hid hc
          have HA := Lib.hid hall
          obtain ⟨f, hf⟩ : ∃ f : Nat → Int, f = fun j => if j = k then xs.getD j 0 + 1 else xs.getD j 0 := ⟨_, rfl⟩
          rw [← hf]
          have HF1 : Hid (f k = xs.getD k 0 + 1) := Lib.hid (by rw [hf]; simp)
          have HF2 : Hid (∀ j, j ≠ k → f j = xs.getD j 0) := Lib.hid (fun j hj => by rw [hf]; simp [hj])
          obtain ⟨n, hn⟩ : ∃ n, n = xs.length := ⟨_, rfl⟩
          rw [← hn] at hl1 hl10 hk hi1 C1 ⊢
          have HN := Lib.hid hn
          have hz1 := (hall k (by omega)).1
          have hz2 := (hall k (by omega)).2
          obtain ⟨zk, hzk⟩ : ∃ z, z = xs.getD k 0 := ⟨_, rfl⟩
          rw [← hzk] at hcell hzz hz1 hz2 HF1
          have HZK := Lib.hid hzk
          clear hf e hz HE hh hr hall hc h hn hzk hl
          have hkn : (k : Int) < (n : Int) := by omega
          have q1 : decide ((k : Int) < 0) = false := by simp
          have q2 : decide (n ≤ k) = false := by simp; omega
          go_enter Try.func13, Try.ntmps13
          go_wp2_with fail
          refine (C1.out).mono ?_
          rintro e w' ⟨rfl, rfl⟩
          go_wp2
          go_loopw [5, 6] (fun o i wr => ∃ m : Nat, m ≤ n ∧ i = .int .i64 m ∧ RI wr w.heap.size o (pre f m) ∧ Ext w wr) (fun _ i _ => n - (intOf i).toNat)
          case atStart => exact ⟨0, Nat.zero_le _, rfl, World.ownsRow_nil _ _ _ _, Ext.refl _⟩
          case round =>
            obtain ⟨m, hm, rfl, R, hx⟩ := hrel
            clear hcell
            by_cases hlt : m < n
            · have hkx : m < xs.length := by have := HN.out; omega
              have d1 := hx.cell (HC.out m hkx)
              have hmn : (m : Int) < (n : Int) := by omega
              have HR := Lib.hid R
              have hlen := pre_len f m
              have HS := Lib.hid (pre_succ f m)
              have HL : Hid ((pre f m).length ≤ 1000000) := Lib.hid (by omega)
              clear R hlen
              by_cases hmk : m = k
              · have hv : xs.getD m 0 = zk := by rw [hmk, HZK.out]
                rw [hv] at d1
                have HV : Hid (f m = zk + 1) := Lib.hid (by rw [hmk]; exact HF1.out)
                have t1 : ((m : Int) == (k : Int)) = true := by simp; omega
                have t2 : (m == k) = true := by simp; omega
                clear hv hmk
                go_wp2_with (at_builtin; refine app1 _ rfl _ _ rfl w _ (pre f m) rfl (((Ext.refl wr).alloc _).row HR.out) (hx.alloc _) wr.heap.size (zk + 1) rfl ?c1 HL.out ?_)
                case c1 => simp [go_sem]
                intro v1 w1 R1 X1
                rw [← HV.out, ← HS.out] at R1
                have HR1 := Lib.hid R1
                clear R1 HR hx
                go_wp2
                exact ⟨⟨m + 1, by omega, by go_num, HR1.out, X1⟩, by simp [intOf]; omega⟩
              · have HV : Hid (f m = xs.getD m 0) := Lib.hid (HF2.out m hmk)
                have t1 : ((m : Int) == (k : Int)) = false := by simp; omega
                have t2 : (m == k) = false := by simp; omega
                generalize xs.getD m 0 = z at *
                clear hmk
                go_wp2_with (at_builtin; refine app1 _ rfl _ _ rfl w _ (pre f m) rfl (((Ext.refl wr).alloc _).row HR.out) (hx.alloc _) wr.heap.size z rfl ?c2 HL.out ?_)
                case c2 => simp [go_sem]
                intro v1 w1 R1 X1
                rw [← HV.out, ← HS.out] at R1
                have HR1 := Lib.hid R1
                clear R1 HR hx
                go_wp2
                exact ⟨⟨m + 1, by omega, by go_num, HR1.out, X1⟩, by simp [intOf]; omega⟩
            · obtain rfl : m = n := by omega
              have HR := Lib.hid R
              clear R
              go_wp2
              go_ret
              exact ⟨_, rfl, HR.out, hx⟩
theorem join_pre (a b : List Int) : jmix a b a.length = pre (fun j => max (a.getD j 0) (b.getD j 0)) a.length := by
  unfold jmix pre
  apply List.map_congr_left
  intro j hj
  have : j < a.length := by simpa using hj
  simp [this]
theorem rJoin8 (v u : Value) (xs ys : List Int) (w : World) (h : IntsV w v xs) (h2 : IntsV w u ys) (hl : xs.length ≤ 1000000) (hl2 : ys.length ≤ 1000000) :
    Calls Try.prog 15 #[v, u] w (GivesI w (joinL xs ys)) := by
  have C1 := Lib.hid fun w' (hx : Ext w w') => rBoth8 v u xs ys w' (h.ext hx) (h2.ext hx) hl hl2
  cases hb : bothB xs ys
  · have e : joinL xs ys = [] := by simp [joinL, hb]
    rw [e]
    rw [hb] at C1
    obtain ⟨a1, cap1, rfl⟩ := h.form
    obtain ⟨a2, cap2, rfl⟩ := h2.form
    generalize xs.length = n at *
    generalize ys.length = m at *
    clear e hb h h2
    by_cases h0 : n = 0
    · subst h0
      go_enter Try.func15, Try.ntmps15
      go_wp2
      refine wp_loop_rounds 1 ?_
      rw [rounds_succ]
      go_wp2
      go_ret
      exact gives_nil (Ext.refl _)
    · have hn0 : 0 < n := by omega
      go_enter Try.func15, Try.ntmps15
      go_wp2
      refine wp_loop_rounds 1 ?_
      rw [rounds_succ]
      go_wp2_with fail
      refine (C1.out _ (Ext.refl _)).mono ?_
      rintro e w' ⟨rfl, rfl⟩
      go_wp2
      go_ret
      exact gives_nil (Ext.refl _)
  · obtain ⟨b1, b2, b3⟩ := both_len xs ys hb
    have e : joinL xs ys = pre (fun j => max (xs.getD j 0) (ys.getD j 0)) xs.length := by simp [joinL, hb, join_pre]
    rw [e]
    rw [hb] at C1
    clear e hb
    obtain ⟨p, off, cap, rfl, hc⟩ := h.full (by omega)
    obtain ⟨p2, off2, cap2, rfl, hc2⟩ := h2.full (by omega)
    have H1 := Lib.hid hc
    have H2 := Lib.hid hc2
    obtain ⟨f, hf⟩ : ∃ f : Nat → Int, f = fun j => max (xs.getD j 0) (ys.getD j 0) := ⟨_, rfl⟩
    rw [← hf]
    have HF : Hid (∀ j, f j = max (xs.getD j 0) (ys.getD j 0)) := Lib.hid (fun j => by rw [hf])
    obtain ⟨n, hn⟩ : ∃ n, n = xs.length := ⟨_, rfl⟩
    rw [← hn] at b1 b2 b3 hl C1 ⊢
    rw [← b3] at hl2 C1 H2 ⊢
    have HN := Lib.hid hn
    clear b3 hn hc hc2 h h2 hf
    go_enter Try.func15, Try.ntmps15
    go_wp2
    go_loopw [5, 6] (fun o i wr => ∃ m : Nat, m ≤ n ∧ i = .int .i64 m ∧ RI wr w.heap.size o (pre f m) ∧ Ext w wr) (fun _ i _ => n - (intOf i).toNat)
    case atStart => exact ⟨0, Nat.zero_le _, rfl, World.ownsRow_nil _ _ _ _, Ext.refl _⟩
    case round =>
      obtain ⟨m, hm, rfl, R, hx⟩ := hrel
      by_cases hlt : m < n
      · have hkx : m < xs.length := by have := HN.out; omega
        have d1 := hx.cell (H1.out m hkx)
        have d2 := hx.cell (H2.out m hlt)
        have hmn : (m : Int) < (n : Int) := by omega
        have HR := Lib.hid R
        have hlen := pre_len f m
        have HS := Lib.hid (pre_succ f m)
        have HL : Hid ((pre f m).length ≤ 1000000) := Lib.hid (by omega)
        have hfm := HF.out m
        clear R hlen
        generalize xs.getD m 0 = x at *
        generalize ys.getD m 0 = y at *
        by_cases hxy : x < y
        · have HV : Hid (f m = y) := Lib.hid (by rw [hfm]; omega)
          clear hfm
          go_wp2_with fail
          refine (C1.out _ hx).mono ?_
          rintro e w' ⟨rfl, rfl⟩
          go_wp2_with (at_builtin; refine app1 _ rfl _ _ rfl w _ (pre f m) rfl (((Ext.refl wr).alloc _).row HR.out) (hx.alloc _) wr.heap.size y rfl ?c1 HL.out ?_)
          case c1 => simp [go_sem]
          intro v1 w1 R1 X1
          rw [← HV.out, ← HS.out] at R1
          have HR1 := Lib.hid R1
          clear R1 HR hx
          go_wp2
          exact ⟨⟨m + 1, by omega, by go_num, HR1.out, X1⟩, by simp [intOf]; omega⟩
        · have HV : Hid (f m = x) := Lib.hid (by rw [hfm]; omega)
          clear hfm
          go_wp2_with fail
          refine (C1.out _ hx).mono ?_
          rintro e w' ⟨rfl, rfl⟩
          go_wp2_with (at_builtin; refine app1 _ rfl _ _ rfl w _ (pre f m) rfl (((Ext.refl wr).alloc _).row HR.out) (hx.alloc _) wr.heap.size x rfl ?c2 HL.out ?_)
          case c2 => simp [go_sem]
          intro v1 w1 R1 X1
          rw [← HV.out, ← HS.out] at R1
          have HR1 := Lib.hid R1
          clear R1 HR hx
          go_wp2
          exact ⟨⟨m + 1, by omega, by go_num, HR1.out, X1⟩, by simp [intOf]; omega⟩
      · obtain rfl : m = n := by omega
        have HR := Lib.hid R
        clear R
        go_wp2
        go_ret
        exact ⟨_, rfl, HR.out, hx⟩
/-- how many of the first k are not above -/
def cnt (xs ys : List Int) : Nat → Nat
  | 0 => 0
  | k + 1 => cnt xs ys k + if xs.getD k 0 ≤ ys.getD k 0 then 1 else 0
theorem cnt_le (xs ys : List Int) : ∀ k, cnt xs ys k ≤ k
  | 0 => Nat.le_refl _
  | k + 1 => by have := cnt_le xs ys k; unfold cnt; split <;> omega
theorem cnt_all (xs ys : List Int) : ∀ k, cnt xs ys k = k ↔ ∀ j, j < k → xs.getD j 0 ≤ ys.getD j 0
  | 0 => by simp [cnt]
  | k + 1 => by
    have h1 := cnt_le xs ys k
    have h2 := cnt_all xs ys k
    unfold cnt
    constructor
    · intro h j hj
      have h3 : cnt xs ys k = k := by split at h <;> omega
      by_cases e : j = k
      · subst e
        split at h
        · assumption
        · omega
      · exact h2.1 h3 j (by omega)
    · intro h
      rw [h2.2 fun j hj => h j (by omega), if_pos (h k (by omega))]
theorem cnt_eq (xs ys : List Int) : decide (cnt xs ys xs.length = xs.length) = leAll xs ys := by
  unfold leAll
  rw [decide_eq_decide]
  exact cnt_all xs ys xs.length
theorem rWithin8 (v u : Value) (xs ys : List Int) (w : World) (h : IntsV w v xs) (h2 : IntsV w u ys) (hl : xs.length ≤ 1000000) (hl2 : ys.length ≤ 1000000) :
    Calls Try.prog 18 #[v, u] w fun e w' => e = .returned (.bool (withinB xs ys)) ∧ Ext w w' := by
  have C1 := Lib.hid (rBoth8 v u xs ys w h h2 hl hl2)
  cases hb : bothB xs ys
  · have e : withinB xs ys = false := by simp [withinB, hb]
    rw [e]
    rw [hb] at C1
    clear e hb
    go_enter Try.func18, Try.ntmps18
    go_wp2_with fail
    refine (C1.out).mono ?_
    rintro e w' ⟨rfl, rfl⟩
    go_wp2
    go_ret
    exact ⟨rfl, Ext.refl _⟩
  · obtain ⟨b1, b2, b3⟩ := both_len xs ys hb
    have e : withinB xs ys = decide (cnt xs ys xs.length = xs.length) := by rw [cnt_eq]; simp [withinB, hb]
    have HRR := Lib.hid e
    generalize withinB xs ys = rr at *
    rw [hb] at C1
    clear e hb
    obtain ⟨p, off, cap, rfl, hc⟩ := h.full (by omega)
    obtain ⟨p2, off2, cap2, rfl, hc2⟩ := h2.full (by omega)
    have H1 := Lib.hid hc
    have H2 := Lib.hid hc2
    have HCL := Lib.hid (cnt_le xs ys)
    obtain ⟨n, hn⟩ : ∃ n, n = xs.length := ⟨_, rfl⟩
    rw [← hn] at b1 b2 b3 hl C1 ⊢
    rw [← b3] at hl2 C1 H2 ⊢
    have HN := Lib.hid hn
    have HRR2 : Hid (rr = decide (cnt xs ys n = n)) := Lib.hid (by have := HRR.out; rw [← hn] at this; exact this)
    clear b3 hn hc hc2 h h2 HRR
    go_enter Try.func18, Try.ntmps18
    go_wp2_with fail
    refine (C1.out).mono ?_
    rintro e w' ⟨rfl, rfl⟩
    go_wp2
    go_loopw [5, 6] (fun c i wr => ∃ k : Nat, k ≤ n ∧ i = .int .i64 k ∧ c = .int .i64 (cnt xs ys k : Nat) ∧ Ext w wr) (fun _ i _ => n - (intOf i).toNat)
    case atStart => exact ⟨0, Nat.zero_le _, rfl, rfl, Ext.refl _⟩
    case round =>
      obtain ⟨k, hk, rfl, rfl, hx⟩ := hrel
      by_cases hlt : k < n
      · have hkx : k < xs.length := by have := HN.out; omega
        have d1 := hx.cell (H1.out k hkx)
        have d2 := hx.cell (H2.out k hlt)
        have HS : Hid (cnt xs ys (k + 1) = cnt xs ys k + if xs.getD k 0 ≤ ys.getD k 0 then 1 else 0) := Lib.hid rfl
        have hcl := HCL.out k
        generalize cnt xs ys k = c at *
        generalize xs.getD k 0 = x at *
        generalize ys.getD k 0 = y at *
        have hkn : (k : Int) < (n : Int) := by omega
        by_cases hxy : x ≤ y
        · have HS2 : Hid (cnt xs ys (k + 1) = c + 1) := Lib.hid (by rw [HS.out, if_pos hxy])
          clear HS
          go_wp2
          refine wp_region_later (by kernel_rfl) (by kernel_rfl) ?_
          have l1 := fun (g : Later wr) => g.ok.cell d1
          have l2 := fun (g : Later wr) => g.ok.cell d2
          repeat (go_big_quiet_step ((fail)))
          refine wpQuiet_nil ?_
          intro w6 hl6
          have X6 := laters_ext hl6
          clear hl6 l1 l2
          go_wp2
          exact ⟨⟨k + 1, by omega, by go_num, by rw [HS2.out]; go_num, hx.trans X6⟩, by simp [intOf]; omega⟩
        · have HS2 : Hid (cnt xs ys (k + 1) = c) := Lib.hid (by rw [HS.out, if_neg hxy]; rfl)
          clear HS
          go_wp2
          refine wp_region_later (by kernel_rfl) (by kernel_rfl) ?_
          have l1 := fun (g : Later wr) => g.ok.cell d1
          have l2 := fun (g : Later wr) => g.ok.cell d2
          repeat (go_big_quiet_step ((fail)))
          refine wpQuiet_nil ?_
          intro w6 hl6
          have X6 := laters_ext hl6
          clear hl6 l1 l2
          go_wp2
          exact ⟨⟨k + 1, by omega, by go_num, by rw [HS2.out], hx.trans X6⟩, by simp [intOf]; omega⟩
      · obtain rfl : k = n := by omega
        generalize cnt xs ys k = c at *
        by_cases e : c = k
        · have t1 : ((c : Int) == (k : Int)) = true := by simp; omega
          have t2 : (c == k) = true := by simpa using e
          have HE : Hid (rr = true) := Lib.hid (by rw [HRR2.out]; simpa using e)
          clear e HRR2
          go_wp2
          go_ret
          exact ⟨by rw [HE.out]; rfl, hx⟩
        · have t1 : ((c : Int) == (k : Int)) = false := by simp; omega
          have t2 : (c == k) = false := by simpa using e
          have HE : Hid (rr = false) := Lib.hid (by rw [HRR2.out]; simpa using e)
          clear e HRR2
          go_wp2
          go_ret
          exact ⟨by rw [HE.out]; rfl, hx⟩
theorem rSum8 (v : Value) (xs : List Int) (w : World) (h : IntsV w v xs) (hl : xs.length ≤ 1000000) :
    Calls Try.prog 17 #[v] w fun e w' => e = .returned (.int .i64 (sumL xs)) ∧ w = w' := by
  have C1 := Lib.hid (rRight8 v xs w h hl)
  cases hr : rightB xs
  · have e : sumL xs = 0 := by simp [sumL, hr]
    rw [e]
    rw [hr] at C1
    obtain ⟨a1, cap1, rfl⟩ := h.form
    generalize xs.length = n at *
    clear e hr h
    by_cases h0 : n = 0
    · subst h0
      go_enter Try.func17, Try.ntmps17
      go_wp2
      refine wp_loop_rounds 1 ?_
      rw [rounds_succ]
      go_wp2
      go_ret
      exact ⟨rfl, rfl⟩
    · have hn0 : 0 < n := by omega
      go_enter Try.func17, Try.ntmps17
      go_wp2
      refine wp_loop_rounds 1 ?_
      rw [rounds_succ]
      go_wp2_with fail
      refine (C1.out).mono ?_
      rintro e w' ⟨rfl, rfl⟩
      go_wp2
      go_ret
      exact ⟨rfl, rfl⟩
  · obtain ⟨hl1, hl10, hall⟩ := (right_iff xs).1 hr
    have HE : Hid (sumL xs = xs.sum) := Lib.hid (by simp [sumL, hr])
    obtain ⟨b, off, cap, rfl, hc⟩ := h.full (by omega)
    have HB := Lib.hid (sum_bound xs hall)
    have HA := Lib.hid hall
    have HC := Lib.hid hc
    obtain ⟨n, hn⟩ : ∃ n, n = xs.length := ⟨_, rfl⟩
    rw [hr] at C1
    rw [← hn] at hl1 hl10 C1 ⊢
    have HN := Lib.hid hn
    clear hn hall hc h hr hl
    go_enter Try.func17, Try.ntmps17
    go_wp2
    go_loop [3, 4] (fun s i => ∃ k : Nat, k ≤ n ∧ i = .int .i64 k ∧ s = .int .i64 (xs.take k).sum) (fun _ i => n - (intOf i).toNat)
    case atStart => exact ⟨0, Nat.zero_le _, rfl, rfl⟩
    case round =>
      obtain ⟨k, hk, rfl, rfl⟩ := hrel
      by_cases hlt : k < n
      · have hkx : k < xs.length := by have := HN.out; omega
        have hcell := HC.out k hkx
        have hB := HB.out k (by omega)
        have hZ := HA.out k hkx
        have HS := Lib.hid (sum_snoc xs k hkx)
        generalize xs.getD k 0 = z at *
        generalize (xs.take k).sum = s at *
        have hkn : (k : Int) < (n : Int) := by omega
        have g1 : s + z ≤ 1099511627776 * 11 := by omega
        have g2 : 0 ≤ s + z := by omega
        go_wp2_with fail
        refine (C1.out).mono ?_
        rintro e w' ⟨rfl, rfl⟩
        go_wp2
        exact ⟨⟨k + 1, by omega, by go_num, by rw [HS.out]⟩, by simp [intOf]; omega⟩
      · have e : xs.take k = xs := List.take_of_length_le (by have := HN.out; omega)
        rw [e]
        have HE2 := HE.out
        rw [← HE2]
        clear e HE2
        go_wp2
        go_ret
        exact ⟨rfl, rfl⟩
end Go.Proofs.Ytkikiehgkggfmab
