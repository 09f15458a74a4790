/- pair.Sum: of counts. -/
import Derived.Test.YtoaifbengichbaaPair2
import Derived.Lib.Hide
namespace Go.Proofs.Ytoaifbengichbaa
open Go.RowKit
set_option linter.unusedVariables false
set_option maxHeartbeats 400000
/-- a slice of pairs of counts -/
def PairsAt (w : World) (v : Value) (xs : List (Int × Int)) : Prop :=
  (v = .slice none 0 0 ∧ xs = []) ∨ ∃ b off cap, v = .slice (some ⟨b, off, none⟩) xs.length cap ∧ ∀ j, j < xs.length → ∃ x y, w.cell? ⟨b, off + j, none⟩ = some (.complex .f64 x y) ∧ Cnt x (xs.getD j (0, 0)).1 ∧ Cnt y (xs.getD j (0, 0)).2
/-- the sum of the first parts, and of the second ones -/
def sumA (xs : List (Int × Int)) : Int := xs.foldl (fun s p => s + p.1) 0
def sumB (xs : List (Int × Int)) : Int := xs.foldl (fun s p => s + p.2) 0
theorem sumA_snoc (xs : List (Int × Int)) (k : Nat) (h : k < xs.length) : sumA (xs.take (k + 1)) = sumA (xs.take k) + (xs.getD k (0, 0)).1 := by
  unfold sumA
  rw [List.take_succ_eq_append_getElem h, List.foldl_append]
  simp [h]
theorem sumB_snoc (xs : List (Int × Int)) (k : Nat) (h : k < xs.length) : sumB (xs.take (k + 1)) = sumB (xs.take k) + (xs.getD k (0, 0)).2 := by
  unfold sumB
  rw [List.take_succ_eq_append_getElem h, List.foldl_append]
  simp [h]
/-- are all the sums on the way counts? -/
def Way (xs : List (Int × Int)) : Prop := ∀ k, k ≤ xs.length → inB (sumA (xs.take k)) = true ∧ inB (sumB (xs.take k)) = true
theorem csum {u v x y : Nat} {a b c d : Int} (h1 : Cnt u a) (h2 : Cnt v b) (h3 : Cnt x c) (h4 : Cnt y d) : ∃ re im, cSumBits .add .f64 u v x y = some (re, im) ∧ Fl re (a + c) ∧ Fl im (b + d) := by
  obtain ⟨re, e1, p1⟩ := fl_add h1.2.2 h3.2.2 (by have := h1.1; have := h1.2.1; have := h3.1; have := h3.2.1; omega)
  obtain ⟨im, e2, p2⟩ := fl_add h2.2.2 h4.2.2 (by have := h2.1; have := h2.2.1; have := h4.1; have := h4.2.1; omega)
  refine ⟨re, im, ?_, p1, p2⟩
  unfold cSumBits
  simp [e1, e2]
theorem cnt_of {x : Nat} {a : Int} (h : Fl x a) (hb : inB a = true) : Cnt x a := ⟨((inB_iff a).1 hb).1, ((inB_iff a).1 hb).2, h⟩
theorem no_of {x : Nat} {a : Int} (h : Fl x a) (hb : inB a = false) : ∀ z, ¬ Cnt x z := fl_no h (by intro h'; rw [(inB_iff a).2 h'] at hb; cases hb)
theorem sum_yes (v : Value) (xs : List (Int × Int)) (w : World) (h : PairsAt w v xs) (hl : xs.length ≤ 1000000) (hw : Way xs) :
    Calls Try.prog 39 #[v] w fun e w' => e = .returned (.complex .f64 (F (sumA xs)) (F (sumB xs))) ∧ w = w' := by
  have H0 : Cnt 0 0 := cnt_F (by decide) (by decide)
  rcases h with ⟨rfl, rfl⟩ | ⟨b, off, cap, rfl, hc⟩
  · go_enter Try.func39, Try.ntmps39
    go_wp2
    refine wp_loop_rounds 1 ?_
    rw [rounds_succ]
    go_wp2_with fail
    refine (told_yes _ _ _ _ _ H0 H0).mono ?_
    rintro e w' ⟨rfl, rfl⟩
    go_wp2
    go_ret
    exact ⟨rfl, rfl⟩
  · have HC := Lib.hid hc
    have HW := Lib.hid hw
    clear hc hw
    obtain ⟨n, hn⟩ : ∃ n, n = xs.length := ⟨_, rfl⟩
    rw [← hn]
    have HN := Lib.hid hn
    have hl2 : n ≤ 1000000 := by omega
    clear hn hl
    go_enter Try.func39, Try.ntmps39
    go_wp2
    go_loop [3, 8] (fun m i => ∃ k : Nat, k ≤ n ∧ i = .int .i64 k ∧ ∃ x y, m = .complex .f64 x y ∧ Cnt x (sumA (xs.take k)) ∧ Cnt y (sumB (xs.take k))) (fun _ i => n - (intOf i).toNat)
    case atStart => exact ⟨0, Nat.zero_le _, rfl, 0, 0, rfl, H0, H0⟩
    case round =>
      obtain ⟨k, hk, rfl, u, v, rfl, h1, h2⟩ := hrel
      by_cases hlt : k < n
      · have hx : k < xs.length := by have := HN.out; omega
        obtain ⟨x, y, hcell, h3, h4⟩ := HC.out k hx
        obtain ⟨re, im, e, p1, p2⟩ := csum h1 h2 h3 h4
        rw [← sumA_snoc xs k hx] at p1
        rw [← sumB_snoc xs k hx] at p2
        have q1 := cnt_of p1 (HW.out (k + 1) hx).1
        have q2 := cnt_of p2 (HW.out (k + 1) hx).2
        have hop := fun t w => run_complex_sum (P := Try.prog) w .add (Or.inl rfl) t .f64 u v x y re im e
        clear hx e p1 p2 h1 h2
        have hkn : (k : Int) < (n : Int) := by omega
        go_wp2_with fail
        refine (whole_yes _ _ _ _ _ h3 h4).mono ?_
        rintro e w' ⟨rfl, rfl⟩
        go_wp2_with fail
        refine (whole_yes _ _ _ _ _ q1 q2).mono ?_
        rintro e w' ⟨rfl, rfl⟩
        go_wp2
        exact ⟨⟨k + 1, by omega, by go_num, re, im, rfl, q1, q2⟩, by simp [intOf]; omega⟩
      · have e : xs.take k = xs := List.take_of_length_le (by have := HN.out; omega)
        rw [e] at h1 h2
        clear e
        go_wp2_with fail
        refine (told_yes _ _ _ _ _ h1 h2).mono ?_
        rintro e w' ⟨rfl, rfl⟩
        go_wp2
        go_ret
        exact ⟨rfl, rfl⟩
theorem sum_no (v : Value) (xs : List (Int × Int)) (w : World) (h : PairsAt w v xs) (hl : xs.length ≤ 1000000) (hw : ¬ Way xs) :
    Calls Try.prog 39 #[v] w fun e w' => e = .returned (.complex .f64 (F 0) (F 0)) ∧ w = w' := by
  have H0 : Cnt 0 0 := cnt_F (by decide) (by decide)
  have hs : ∀ j, j ≤ 0 → inB (sumA (xs.take j)) = true ∧ inB (sumB (xs.take j)) = true := by
    intro j hj
    have : j = 0 := by omega
    subst this
    exact ⟨rfl, rfl⟩
  have HS := Lib.hid hs
  clear hs
  rcases h with ⟨rfl, rfl⟩ | ⟨b, off, cap, rfl, hc⟩
  · clear HS
    exfalso
    apply hw
    intro k hk
    have : k = 0 := by simpa using hk
    subst this
    exact ⟨rfl, rfl⟩
  · have HC := Lib.hid hc
    have HW := Lib.hid hw
    clear hc hw
    obtain ⟨n, hn⟩ : ∃ n, n = xs.length := ⟨_, rfl⟩
    rw [← hn]
    have HN := Lib.hid hn
    have hl2 : n ≤ 1000000 := by omega
    clear hn hl
    go_enter Try.func39, Try.ntmps39
    go_wp2
    go_loop [3, 8] (fun m i => ∃ k : Nat, k ≤ n ∧ i = .int .i64 k ∧ (∃ x y, m = .complex .f64 x y ∧ Cnt x (sumA (xs.take k)) ∧ Cnt y (sumB (xs.take k))) ∧ ∀ j, j ≤ k → inB (sumA (xs.take j)) = true ∧ inB (sumB (xs.take j)) = true) (fun _ i => n - (intOf i).toNat)
    case atStart => exact ⟨0, Nat.zero_le _, rfl, ⟨0, 0, rfl, H0, H0⟩, HS.out⟩
    case round =>
      obtain ⟨k, hk, rfl, ⟨u, v, rfl, h1, h2⟩, hall⟩ := hrel
      have HA := Lib.hid hall
      clear hall
      by_cases hlt : k < n
      · have hx : k < xs.length := by have := HN.out; omega
        obtain ⟨x, y, hcell, h3, h4⟩ := HC.out k hx
        obtain ⟨re, im, e, p1, p2⟩ := csum h1 h2 h3 h4
        rw [← sumA_snoc xs k hx] at p1
        rw [← sumB_snoc xs k hx] at p2
        have hop := fun t w => run_complex_sum (P := Try.prog) w .add (Or.inl rfl) t .f64 u v x y re im e
        clear hx e h1 h2
        have hkn : (k : Int) < (n : Int) := by omega
        by_cases hb : inB (sumA (xs.take (k + 1))) = true ∧ inB (sumB (xs.take (k + 1))) = true
        · have q1 := cnt_of p1 hb.1
          have q2 := cnt_of p2 hb.2
          have HB := Lib.hid hb
          clear p1 p2 hb
          go_wp2_with fail
          refine (whole_yes _ _ _ _ _ h3 h4).mono ?_
          rintro e w' ⟨rfl, rfl⟩
          go_wp2_with fail
          refine (whole_yes _ _ _ _ _ q1 q2).mono ?_
          rintro e w' ⟨rfl, rfl⟩
          go_wp2
          refine ⟨⟨k + 1, by omega, by go_num, ⟨re, im, rfl, q1, q2⟩, fun j hj => ?_⟩, by simp [intOf]; omega⟩
          by_cases hj' : j ≤ k
          · exact HA.out j hj'
          · have : j = k + 1 := by omega
            subst this
            exact HB.out
        · have q : (∀ z, ¬ Cnt re z) ∨ (∀ z, ¬ Cnt im z) := by
            cases ha : inB (sumA (xs.take (k + 1)))
            · exact .inl (no_of p1 ha)
            · cases hb' : inB (sumB (xs.take (k + 1)))
              · exact .inr (no_of p2 hb')
              · exact absurd ⟨ha, hb'⟩ hb
          clear p1 p2 hb
          go_wp2_with fail
          refine (whole_yes _ _ _ _ _ h3 h4).mono ?_
          rintro e w' ⟨rfl, rfl⟩
          go_wp2_with fail
          refine (whole_no _ _ _ q).mono ?_
          rintro e w' ⟨rfl, rfl⟩
          go_wp2
          go_ret
          exact ⟨rfl, rfl⟩
      · exfalso
        exact HW.out fun j hj => HA.out j (by have := HN.out; omega)
end Go.Proofs.Ytoaifbengichbaa
