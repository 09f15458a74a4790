/- The walk of TickNew. -/
import Derived.Test.YtkikiehgkggfmabLawTickA
namespace Go.Proofs.Ytkikiehgkggfmab
open Go.RowKit
set_option linter.unusedVariables false
set_option maxHeartbeats 2000000
attribute [local go_sem] later_cell later_frozen later_const
theorem zeros_right (n : Nat) (h1 : 1 ≤ n) (h2 : n ≤ 10) : rightB (List.replicate n 0) = true := by
  rw [right_iff, List.length_replicate]
  refine ⟨h1, h2, fun k hk => ?_⟩
  simp [hk]
theorem zeros_sum (n : Nat) (h1 : 1 ≤ n) (h2 : n ≤ 10) : sumL (List.replicate n 0) = 0 := by
  unfold sumL
  rw [if_pos (zeros_right n h1 h2)]
  simp
theorem zeros_knows (n : Nat) (h1 : 1 ≤ n) (h2 : n ≤ 10) (k : Int) : knowsB (List.replicate n 0) ((n : Int) - 1) k = decide (k ≤ 0) := by
  obtain ⟨m, rfl⟩ : ∃ m, n = m + 1 := ⟨n - 1, by omega⟩
  have e : ((m + 1 : Nat) : Int) - 1 = (m : Int) := by omega
  rw [e]
  unfold knowsB
  have : hasB (List.replicate (m + 1) 0) (m : Int) = true := (has_iff _ _).2 ⟨zeros_right _ h1 h2, by omega, by rw [List.length_replicate]; omega⟩
  rw [this]
  simp
theorem tickNew_way (n : Int) (a : Option Addr) (len cap : Nat) (i k : Int) (r g : Bool) (w : World) (hlen : len ≤ 100) (hb : n < 1 ∨ 10 < n ∨ ∃ m : Nat, n = m ∧ 1 ≤ m ∧ m ≤ 10)
    (C1 : ∀ w', Ext w w' → Calls Try.prog 10 #[.slice a len cap] w' fun e w'' => e = .returned (.bool r) ∧ w' = w'')
    (C2 : ∀ w', Ext w w' → Calls Try.prog 24 #[.slice a len cap, .int .i64 i, .int .i64 k] w' fun e w'' => e = .returned (.bool g) ∧ w' = w'')
    (hno : r = false ∨ i < 0 ∨ (len : Int) ≤ i → g = false) (hyes : r = true → 0 ≤ i → i < len → ∃ b off z, a = some ⟨b, off, none⟩ ∧ w.cell? ⟨b, off + i.toNat, none⟩ = some (.int .i64 z) ∧ g = decide (k ≤ z)) :
    Calls Try.prog 4 #[.int .i64 n, .slice a len cap, .agg #[.int .i64 i, .int .i64 k]] w fun e w' => e = .returned (.bool true) ∧ Ext w w' := by
  have d0 : decide (100 < (len : Int)) = false := by simp; omega
  have K1 := Lib.hid C1
  have K2 := Lib.hid C2
  have HNO := Lib.hid hno
  have HYES := Lib.hid hyes
  clear C1 C2 hno hyes
  have qa : (w.alloc (.cells #[.int .i64 i, .int .i64 k] 30)).cell? ⟨w.heap.size, 0, none⟩ = some (.int .i64 i) := by simp [go_sem]
  have qb : (w.alloc (.cells #[.int .i64 i, .int .i64 k] 30)).cell? ⟨w.heap.size, 1, none⟩ = some (.int .i64 k) := by simp [go_sem]
  have HQ := Lib.hid (And.intro qa qb)
  clear qa qb
  have X0 : Ext w (w.alloc (.cells #[.int .i64 i, .int .i64 k] 30)) := (Ext.refl w).alloc _
  rcases hb with hb | hb | ⟨m, rfl, hm1, hm2⟩
  all_goals
    first
    | (skip
       go_enter Try.func4, Try.ntmps4
       go_wp2_with fail
       refine (tNew_no n _ (.inl hb)).mono ?_
       rintro e w1 ⟨v1, rfl, R1, X1⟩
       obtain ⟨a1, c1, rfl⟩ := R1.ints.form
       have p0 := X1.cell HQ.out.1
       have p1 := X1.cell HQ.out.2
       have Y1 := X0.trans X1
       clear R1 X1 X0 HQ
       go_wp2)
    | (have hb1 : ¬ n < 1 := by omega
       go_enter Try.func4, Try.ntmps4
       go_wp2_with fail
       refine (tNew_no n _ (.inr hb)).mono ?_
       rintro e w1 ⟨v1, rfl, R1, X1⟩
       obtain ⟨a1, c1, rfl⟩ := R1.ints.form
       have p0 := X1.cell HQ.out.1
       have p1 := X1.cell HQ.out.2
       have Y1 := X0.trans X1
       clear R1 X1 X0 HQ
       go_wp2)
    | (have hb1 : ¬ (m : Int) < 1 := by omega
       have hb2 : ¬ 10 < (m : Int) := by omega
       have Z1 := Lib.hid fun v w h => tSum v (List.replicate m 0) w h (by rw [List.length_replicate]; omega)
       rw [zeros_sum m hm1 hm2] at Z1
       have Z2 := Lib.hid fun v w h => tRight v (List.replicate m 0) w h (by rw [List.length_replicate]; omega)
       rw [zeros_right m hm1 hm2] at Z2
       have Z3 := Lib.hid fun v w h => tKnows v (List.replicate m 0) ((m : Int) - 1) 0 w h (by rw [List.length_replicate]; omega)
       rw [zeros_knows m hm1 hm2 0] at Z3
       have Z4 := Lib.hid fun v w h => tKnows v (List.replicate m 0) ((m : Int) - 1) 1 w h (by rw [List.length_replicate]; omega)
       rw [zeros_knows m hm1 hm2 1] at Z4
       go_enter Try.func4, Try.ntmps4
       go_wp2_with fail
       refine (tNew_yes m _ hm1 hm2).mono ?_
       rintro e w1 ⟨v1, rfl, R1, X1⟩
       have I1 := Lib.hid R1.ints
       have hf := R1.ints.form
       rw [List.length_replicate] at hf
       obtain ⟨a1, c1, rfl⟩ := hf
       have p0 := X1.cell HQ.out.1
       have p1 := X1.cell HQ.out.2
       have Y1 := X0.trans X1
       clear R1 X1 X0 HQ
       go_wp2_with fail
       refine (Z1.out _ _ I1.out).mono ?_
       rintro e w' ⟨rfl, rfl⟩
       go_wp2_with fail
       refine (Z2.out _ _ I1.out).mono ?_
       rintro e w' ⟨rfl, rfl⟩
       go_wp2_with fail
       refine (Z3.out _ _ I1.out).mono ?_
       rintro e w' ⟨rfl, rfl⟩
       go_wp2_with fail
       refine (Z4.out _ _ I1.out).mono ?_
       rintro e w' ⟨rfl, rfl⟩
       clear Z1 Z2 Z3 Z4 I1
       go_wp2)
    refine wp_region_later (by kernel_rfl) (by kernel_rfl) ?_
    have l0 := fun (g : Later w1) => g.ok.cell p0
    have l1 := fun (g : Later w1) => g.ok.cell p1
    repeat (go_big_quiet_step ((fail)))
    refine wpQuiet_nil ?_
    intro w6 hl6
    have Y6 := Y1.trans (laters_ext hl6)
    clear hl6 l0 l1 p0 p1 Y1
    cases r
    · have hg := HNO.out (.inl rfl)
      subst hg
      clear HNO HYES
      go_wp2_with fail
      refine (K1.out _ Y6).mono ?_
      rintro e w' ⟨rfl, rfl⟩
      go_wp2_with fail
      refine (K2.out _ Y6).mono ?_
      rintro e w' ⟨rfl, rfl⟩
      go_wp2_with fail
      refine (live8 _).mono ?_
      rintro e w7 ⟨rfl, X7⟩
      go_wp2
      go_ret
      exact ⟨rfl, Y6.trans X7⟩
    · by_cases h1 : i < 0
      · have hg := HNO.out (.inr (.inl h1))
        subst hg
        have h1' : ¬ 0 ≤ i := by omega
        clear HNO HYES
        go_wp2_with fail
        refine (K1.out _ Y6).mono ?_
        rintro e w' ⟨rfl, rfl⟩
        go_wp2_with fail
        refine (K2.out _ Y6).mono ?_
        rintro e w' ⟨rfl, rfl⟩
        go_wp2_with fail
        refine (live8 _).mono ?_
        rintro e w7 ⟨rfl, X7⟩
        go_wp2
        go_ret
        exact ⟨rfl, Y6.trans X7⟩
      · obtain ⟨j, rfl⟩ := Int.eq_ofNat_of_zero_le (show 0 ≤ i by omega)
        by_cases h2 : len ≤ j
        · have hg := HNO.out (.inr (.inr (by omega)))
          subst hg
          have h2' : ¬ j < len := by omega
          clear HNO HYES
          go_wp2_with fail
          refine (K1.out _ Y6).mono ?_
          rintro e w' ⟨rfl, rfl⟩
          go_wp2_with fail
          refine (K2.out _ Y6).mono ?_
          rintro e w' ⟨rfl, rfl⟩
          go_wp2_with fail
          refine (live8 _).mono ?_
          rintro e w7 ⟨rfl, X7⟩
          go_wp2
          go_ret
          exact ⟨rfl, Y6.trans X7⟩
        · have h2' : j < len := by omega
          obtain ⟨b, off, z, rfl, hz, hg⟩ := HYES.out rfl (by omega) (by omega)
          rw [Int.toNat_natCast] at hz
          have hz6 := Y6.cell hz
          by_cases h3 : k ≤ z
          · have hgt : g = true := by rw [hg]; simpa using h3
            subst hgt
            have dkz : decide (k ≤ z) = true := by simpa using h3
            clear HNO HYES hg hz
            go_wp2_with fail
            refine (K1.out _ Y6).mono ?_
            rintro e w' ⟨rfl, rfl⟩
            go_wp2_with fail
            refine (K2.out _ Y6).mono ?_
            rintro e w' ⟨rfl, rfl⟩
            go_wp2_with fail
            refine (live8 _).mono ?_
            rintro e w7 ⟨rfl, X7⟩
            go_wp2
            go_ret
            exact ⟨rfl, Y6.trans X7⟩
          · have hgf : g = false := by rw [hg]; simpa using h3
            subst hgf
            have dkz : decide (k ≤ z) = false := by simpa using h3
            clear HNO HYES hg hz
            go_wp2_with fail
            refine (K1.out _ Y6).mono ?_
            rintro e w' ⟨rfl, rfl⟩
            go_wp2_with fail
            refine (K2.out _ Y6).mono ?_
            rintro e w' ⟨rfl, rfl⟩
            go_wp2_with fail
            refine (live8 _).mono ?_
            rintro e w7 ⟨rfl, X7⟩
            go_wp2
            go_ret
            exact ⟨rfl, Y6.trans X7⟩
theorem tickNew_walk (n : Int) (a : Option Addr) (len cap : Nat) (zs : List Int) (i k : Int) (w : World) (w0 : (Lit.int .i64 n).wf = true) (h : IsRow .i64 w a len cap zs) (wx : (Lit.int .i64 i).wf = true) (wy : (Lit.int .i64 k).wf = true) :
    Calls Try.prog 4 #[.int .i64 n, .slice a len cap, .agg #[.int .i64 i, .int .i64 k]] w fun e w' => e = .returned (.bool true) ∧ Below w.heap.size w w' := by
  by_cases hl : 100 < len
  · have d0 : decide (100 < (len : Int)) = true := by simp; omega
    clear h
    go_enter Try.func4, Try.ntmps4
    go_wp2_with fail
    refine (live8 _).mono ?_
    rintro e w1 ⟨rfl, X1⟩
    go_wp2
    go_ret
    exact ⟨rfl, (((Ext.refl w).alloc _).trans X1).below⟩
  · obtain ⟨hv, hlen, _⟩ := intsV_of_row h
    generalize zs.take len = xs at *
    have l1 : xs.length ≤ 1000000 := by omega
    refine (tickNew_way n a len cap i k (rightB xs) (knowsB xs i k) w (by omega) ?_ (fun w' hx => rRight8 _ xs w' (hv.ext hx) l1) (fun w' hx => tKnows _ xs i k w' (hv.ext hx) l1) ?_ ?_).mono fun e w' ⟨h, hx⟩ => ⟨h, hx.below⟩
    · by_cases h1 : n < 1
      · exact .inl h1
      · by_cases h2 : 10 < n
        · exact .inr (.inl h2)
        · exact .inr (.inr ⟨n.toNat, by omega, by omega, by omega⟩)
    · intro hh
      have : hasB xs i = false := by
        cases hb : hasB xs i
        · rfl
        · obtain ⟨h1, h2, h3⟩ := (has_iff xs i).1 hb
          rw [h1] at hh
          simp at hh
          omega
      simp [knowsB, this]
    · intro h1 h2 h3
      have hb : hasB xs i = true := (has_iff xs i).2 ⟨h1, h2, by omega⟩
      obtain ⟨b, off, cap', hv', hc⟩ := hv.full (by omega)
      injection hv' with e1 e2 e3
      exact ⟨b, off, xs.getD i.toNat 0, e1, hc _ (by omega), by simp [knowsB, hb]⟩
end Go.Proofs.Ytkikiehgkggfmab
