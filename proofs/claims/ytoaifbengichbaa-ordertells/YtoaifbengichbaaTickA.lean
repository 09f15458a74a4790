/- Clocks: which numbers are one. (tick.Right, has, match; the reference's Right, Both.) -/
import Derived.Test.YtoaifbengichbaaInts
namespace Go.Proofs.Ytoaifbengichbaa
open Go.RowKit
set_option linter.unusedVariables false
set_option maxHeartbeats 1000000
/-- may a clock have this number? -/
def okC (x : Int) : Bool := decide (0 ≤ x) && decide (x ≤ 1099511627776)
theorem okC_iff (x : Int) : okC x = true ↔ 0 ≤ x ∧ x ≤ 1099511627776 := by simp [okC]
/-- are these numbers a clock? -/
def rightB (xs : List Int) : Bool := decide (1 ≤ xs.length) && decide (xs.length ≤ 10) && xs.all okC
def bothB (a b : List Int) : Bool := rightB a && rightB b && decide (a.length = b.length)
def hasB (xs : List Int) (i : Int) : Bool := rightB xs && decide (0 ≤ i) && decide (i < xs.length)
theorem right_iff (xs : List Int) : rightB xs = true ↔ 1 ≤ xs.length ∧ xs.length ≤ 10 ∧ ∀ k, k < xs.length → 0 ≤ xs.getD k 0 ∧ xs.getD k 0 ≤ 1099511627776 := by
  unfold rightB
  simp only [Bool.and_eq_true, decide_eq_true_eq, List.all_eq_true, okC_iff, and_assoc]
  constructor
  · rintro ⟨h1, h2, h3⟩
    refine ⟨h1, h2, fun k hk => ?_⟩
    have := h3 (xs.getD k 0) (by simp [hk])
    exact this
  · rintro ⟨h1, h2, h3⟩
    refine ⟨h1, h2, fun x hx => ?_⟩
    obtain ⟨k, hk, rfl⟩ := List.getElem_of_mem hx
    have := h3 k hk
    simpa [hk] using this
theorem right_no_of (xs : List Int) (k : Nat) (hk : k < xs.length) (h : okC (xs.getD k 0) = false) : rightB xs = false := by
  cases hr : rightB xs
  · rfl
  · have := ((right_iff xs).1 hr).2.2 k hk
    rw [← okC_iff, h] at this
    exact absurd this (by decide)
theorem right_yes_of (xs : List Int) (h1 : 1 ≤ xs.length) (h2 : xs.length ≤ 10) (h : ∀ k, k < xs.length → okC (xs.getD k 0) = true) : rightB xs = true :=
  (right_iff xs).2 ⟨h1, h2, fun k hk => (okC_iff _).1 (h k hk)⟩
theorem right_len (xs : List Int) (h : xs.length < 1 ∨ 10 < xs.length) : rightB xs = false := by
  cases hr : rightB xs
  · rfl
  · have := (right_iff xs).1 hr
    omega
theorem IntsV.form {w : World} {v : Value} {xs : List Int} (h : IntsV w v xs) : ∃ a cap, v = .slice a xs.length cap := by
  rcases h with ⟨a, cap, rfl, rfl⟩ | ⟨b, off, cap, rfl, _⟩
  · exact ⟨a, cap, rfl⟩
  · exact ⟨_, cap, rfl⟩
theorem IntsV.full {w : World} {v : Value} {xs : List Int} (h : IntsV w v xs) (h0 : 0 < xs.length) : ∃ b off cap, v = .slice (some ⟨b, off, none⟩) xs.length cap ∧ ∀ j, j < xs.length → w.cell? ⟨b, off + j, none⟩ = some (.int .i64 (xs.getD j 0)) := by
  rcases h with ⟨a, cap, rfl, rfl⟩ | h
  · simp at h0
  · exact h
theorem tRight (v : Value) (xs : List Int) (w : World) (h : IntsV w v xs) (hl : xs.length ≤ 1000000) :
    Calls Try.prog 55 #[v] w fun e w' => e = .returned (.bool (rightB xs)) ∧ w = w' := by
  by_cases h0 : xs.length = 0
  · have hr : rightB xs = false := right_len xs (by omega)
    obtain ⟨a, cap, rfl⟩ := h.form
    rw [hr, h0]
    clear hr h0 h hl
    go_enter Try.func55, Try.ntmps55
    go_wp2
    all_goals first
      | (go_ret; exact ⟨rfl, rfl⟩)
      | (refine wp_loop_rounds 1 ?_
         rw [rounds_succ]
         go_wp2
         go_ret
         exact ⟨rfl, rfl⟩)
  · obtain ⟨b, off, cap, rfl, hc⟩ := h.full (by omega)
    have HC := Lib.hid hc
    obtain ⟨n, hn⟩ : ∃ n, n = xs.length := ⟨_, rfl⟩
    have HR1 := Lib.hid (right_len xs)
    have HR2 := Lib.hid (right_no_of xs)
    have HR3 := Lib.hid (right_yes_of xs)
    rw [← hn] at hl h0 ⊢
    have HN := Lib.hid hn
    generalize hrr : rightB xs = r at *
    clear hn hc h
    have h1 : 1 ≤ n := by omega
    clear h0 hrr
    by_cases h10 : 10 < n
    · have HF : Hid (r = false) := Lib.hid (HR1.out (by have := HN.out; omega))
      have d1 : decide (10 < (n : Int)) = true := by simp; omega
      have d2 : decide ((n : Int) ≤ 10) = false := by simp; omega
      have d3 : decide (10 < n) = true := by simp; omega
      have d4 : decide (n ≤ 10) = false := by simp; omega
      go_enter Try.func55, Try.ntmps55
      go_wp2
      all_goals first
        | (go_ret; exact ⟨by rw [HF.out]; rfl, rfl⟩)
        | skip
      all_goals
        go_loop [14] (fun i => ∃ k : Nat, k ≤ n ∧ i = .int .i64 k) (fun i => n - (intOf i).toNat)
        case atStart => exact ⟨0, Nat.zero_le _, rfl⟩
        case round =>
          obtain ⟨k, hk, rfl⟩ := hrel
          by_cases hlt : k < n
          · have hkx : k < xs.length := by have := HN.out; omega
            have hcell := HC.out k hkx
            have hkn : (k : Int) < (n : Int) := by omega
            generalize xs.getD k 0 = z at *
            by_cases hz : z < 0
            · go_wp2
              go_ret
              exact ⟨by rw [HF.out]; rfl, rfl⟩
            · by_cases hz2 : 1099511627776 < z
              · go_wp2
                go_ret
                exact ⟨by rw [HF.out]; rfl, rfl⟩
              · go_wp2
                exact ⟨⟨k + 1, by omega, by go_num⟩, by simp [intOf]; omega⟩
          · go_wp2
            go_ret
            exact ⟨by rw [HF.out]; rfl, rfl⟩
    · have d1 : decide (10 < (n : Int)) = false := by simp; omega
      have d2 : decide ((n : Int) ≤ 10) = true := by simp; omega
      have d3 : decide (10 < n) = false := by simp; omega
      have d4 : decide (n ≤ 10) = true := by simp; omega
      go_enter Try.func55, Try.ntmps55
      go_wp2
      go_loop [14] (fun i => ∃ k : Nat, k ≤ n ∧ i = .int .i64 k ∧ Hid (∀ j, j < k → okC (xs.getD j 0) = true)) (fun i => n - (intOf i).toNat)
      case atStart => exact ⟨0, Nat.zero_le _, rfl, Lib.hid fun j hj => by omega⟩
      case round =>
        obtain ⟨k, hk, rfl, HA⟩ := hrel
        by_cases hlt : k < n
        · have hkx : k < xs.length := by have := HN.out; omega
          have hcell := HC.out k hkx
          have hkn : (k : Int) < (n : Int) := by omega
          have HQ : Hid (okC (xs.getD k 0) = true → ∀ j, j < k + 1 → okC (xs.getD j 0) = true) := Lib.hid (fun h j hj => by
            by_cases e : j = k
            · subst e; exact h
            · exact HA.out j (by omega))
          have HF : Hid (okC (xs.getD k 0) = false → r = false) := Lib.hid (HR2.out k hkx)
          generalize xs.getD k 0 = z at *
          by_cases hz : z < 0
          · go_wp2
            go_ret
            exact ⟨by rw [HF.out (by simp [okC]; omega)]; rfl, rfl⟩
          · by_cases hz2 : 1099511627776 < z
            · go_wp2
              go_ret
              exact ⟨by rw [HF.out (by simp [okC]; omega)]; rfl, rfl⟩
            · go_wp2
              exact ⟨⟨k + 1, by omega, by go_num, Lib.hid (HQ.out (by simp [okC]; omega))⟩, by simp [intOf]; omega⟩
        · have HT : Hid (r = true) := Lib.hid (HR3.out (by have := HN.out; omega) (by have := HN.out; omega) (fun j hj => HA.out j (by have := HN.out; omega)))
          go_wp2
          go_ret
          exact ⟨by rw [HT.out]; rfl, rfl⟩
theorem tHas (v : Value) (xs : List Int) (i : Int) (w : World) (h : IntsV w v xs) (hl : xs.length ≤ 1000000) :
    Calls Try.prog 45 #[v, .int .i64 i] w fun e w' => e = .returned (.bool (hasB xs i)) ∧ w = w' := by
  have C := Lib.hid (tRight v xs w h hl)
  obtain ⟨a, cap, rfl⟩ := h.form
  have HB : Hid (hasB xs i = (rightB xs && decide (0 ≤ i) && decide (i < xs.length))) := Lib.hid rfl
  generalize hasB xs i = g at *
  generalize xs.length = n at *
  generalize rightB xs = r at *
  clear h
  cases r
  · go_enter Try.func45, Try.ntmps45
    go_wp2_with fail
    refine C.out.mono ?_
    rintro e w' ⟨rfl, rfl⟩
    go_wp2
    go_ret
    exact ⟨by rw [HB.out]; rfl, rfl⟩
  · by_cases h1 : 0 ≤ i
    · have d1 : decide (0 ≤ i) = true := by simpa using h1
      by_cases h2 : i < n
      · have d2 : decide (i < n) = true := by simpa using h2
        go_enter Try.func45, Try.ntmps45
        go_wp2_with fail
        refine C.out.mono ?_
        rintro e w' ⟨rfl, rfl⟩
        go_wp2
        go_ret
        exact ⟨by rw [HB.out, d1, d2]; rfl, rfl⟩
      · have d2 : decide (i < n) = false := by simpa using h2
        go_enter Try.func45, Try.ntmps45
        go_wp2_with fail
        refine C.out.mono ?_
        rintro e w' ⟨rfl, rfl⟩
        go_wp2
        go_ret
        exact ⟨by rw [HB.out, d1, d2]; rfl, rfl⟩
    · have d1 : decide (0 ≤ i) = false := by simpa using h1
      go_enter Try.func45, Try.ntmps45
      go_wp2_with fail
      refine C.out.mono ?_
      rintro e w' ⟨rfl, rfl⟩
      go_wp2
      go_ret
      exact ⟨by rw [HB.out, d1]; rfl, rfl⟩
theorem tMatch (v u : Value) (xs ys : List Int) (w : World) (h : IntsV w v xs) (h2 : IntsV w u ys) (hl : xs.length ≤ 1000000) (hl2 : ys.length ≤ 1000000) :
    Calls Try.prog 49 #[v, u] w fun e w' => e = .returned (.bool (bothB xs ys)) ∧ w = w' := by
  have C := Lib.hid (tRight v xs w h hl)
  have D := Lib.hid (tRight u ys w h2 hl2)
  obtain ⟨a, cap, rfl⟩ := h.form
  obtain ⟨a2, cap2, rfl⟩ := h2.form
  have HB : Hid (bothB xs ys = (rightB xs && rightB ys && decide (xs.length = ys.length))) := Lib.hid rfl
  generalize bothB xs ys = g at *
  generalize xs.length = n at *
  generalize ys.length = m at *
  generalize rightB xs = r at *
  generalize rightB ys = s at *
  clear h h2
  cases r
  · go_enter Try.func49, Try.ntmps49
    go_wp2_with fail
    refine C.out.mono ?_
    rintro e w' ⟨rfl, rfl⟩
    go_wp2
    go_ret
    exact ⟨by rw [HB.out]; rfl, rfl⟩
  · cases s
    · go_enter Try.func49, Try.ntmps49
      go_wp2_with fail
      refine C.out.mono ?_
      rintro e w' ⟨rfl, rfl⟩
      go_wp2_with fail
      refine D.out.mono ?_
      rintro e w' ⟨rfl, rfl⟩
      go_wp2
      go_ret
      exact ⟨by rw [HB.out]; rfl, rfl⟩
    · by_cases e : n = m
      · subst e
        go_enter Try.func49, Try.ntmps49
        go_wp2_with fail
        refine C.out.mono ?_
        rintro e w' ⟨rfl, rfl⟩
        go_wp2_with fail
        refine D.out.mono ?_
        rintro e w' ⟨rfl, rfl⟩
        go_wp2
        go_ret
        exact ⟨by rw [HB.out]; simp, rfl⟩
      · have HE := Lib.hid e
        have d1 : ((n : Int) == (m : Int)) = false := by simp; omega
        have d2 : (n == m) = false := by simpa using e
        clear e
        go_enter Try.func49, Try.ntmps49
        go_wp2_with fail
        refine C.out.mono ?_
        rintro e w' ⟨rfl, rfl⟩
        go_wp2_with fail
        refine D.out.mono ?_
        rintro e w' ⟨rfl, rfl⟩
        go_wp2
        go_ret
        exact ⟨by rw [HB.out]; simp [HE.out], rfl⟩
end Go.Proofs.Ytoaifbengichbaa
