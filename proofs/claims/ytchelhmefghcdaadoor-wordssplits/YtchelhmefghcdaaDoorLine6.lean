/- The document's Line of layer 6; rows of texts of the call's own. -/
import Derived.Test.YtchelhmefghcdaaDoorWLive
import Derived.Test.YtchelhmefghcdaaDoorSList
namespace Go.Proofs.YtchelhmefghcdaaDoor
open Go.RowKit
set_option linter.unusedVariables false
set_option maxHeartbeats 2000000
/-- the byte ahead of a place; a blank ahead of the first one -/
def ahead (l : List UInt8) (k : Nat) : Nat := if k = 0 then 32 else (l.getD (k - 1) 0).toNat
theorem ahead_succ (l : List UInt8) (k : Nat) : ahead l (k + 1) = (l.getD k 0).toNat := by simp [ahead]
theorem line_step (l : List UInt8) (k : Nat) (h : k < l.length) (b : Nat) : lineFrom b (l.drop k) = if (l.getD k 0).toNat < 32 ∨ 126 < (l.getD k 0).toNat ∨ ((l.getD k 0).toNat = 32 ∧ b = 32) then false else lineFrom (l.getD k 0).toNat (l.drop (k + 1)) := by
  have e : l.getD k 0 = l[k] := by simp [h]
  rw [e]
  exact line_drop l k h b
set_option maxRecDepth 100000 in
theorem rLine (l : List UInt8) (w : World) (hl : l.length ≤ 1000000) : Calls Tryd.prog 12 #[.string (tx l)] w fun e w' => e = .returned (.bool (isLineB l)) ∧ w = w' := by
  obtain ⟨s, hs⟩ : ∃ s, s = tx l := ⟨_, rfl⟩
  obtain ⟨n, hn⟩ : ∃ n, n = l.length := ⟨_, rfl⟩
  have hsz : s.size = n := by rw [hs, hn]; rfl
  have HB : Hid (∀ k (h : k < s.size), (s[k]'h).toNat = (l.getD k 0).toNat) := Lib.hid (fun k h => by
    subst hs
    have h2 : k < l.length := by rw [tx_size] at h; exact h
    rw [tx_getE l k h]
    simp [h2])
  have HN := Lib.hid hn
  rw [← hs]
  rw [← hn] at hl
  have HE : Hid (n = 0 → isLineB l = true) := Lib.hid (fun h => by have : l = [] := List.eq_nil_of_length_eq_zero (by omega); rw [this]; rfl)
  have HF : Hid (0 < n → lineFrom 32 l = false → isLineB l = false) := Lib.hid (fun h h2 => by
    have : l ≠ [] := fun e => by rw [e] at hn; simp at hn; omega
    unfold isLineB; rw [h2]; simp [this])
  have HT : Hid (lineFrom 32 l = true → isLineB l = true) := Lib.hid (fun h => by unfold isLineB; rw [h]; simp)
  clear hs hn
  go_enter Tryd.func12, Tryd.ntmps12
  go_wp2
  go_loop [3] (fun i => ∃ k : Nat, k ≤ n ∧ i = .int .i64 k ∧ Hid (lineFrom (ahead l k) (l.drop k) = lineFrom 32 l) ∧ Hid (0 < k → k = n → ahead l k ≠ 32)) (fun i => n - (intOf i).toNat)
  case atStart => exact ⟨0, Nat.zero_le _, rfl, Lib.hid rfl, Lib.hid (fun h => by omega)⟩
  case round =>
    obtain ⟨k, hk, rfl, HL, HK⟩ := hrel
    by_cases hlt : k < n
    · have hks : k < s.size := by omega
      have hkl : k < l.length := by have := HN.out; omega
      have hc := HB.out k hks
      have hstep := line_step l k hkl (ahead l k)
      rw [HL.out] at hstep
      have hah := ahead_succ l k
      have hcl := (l.getD k 0).toNat_lt
      generalize (l.getD k 0).toNat = c at *
      have HST := Lib.hid hstep
      have HNO : Hid ((c < 32 ∨ 126 < c ∨ (c = 32 ∧ ahead l k = 32)) → isLineB l = false) := Lib.hid (fun h => HF.out (by omega) (by rw [HST.out, if_pos h]))
      have HON : Hid (¬ (c < 32 ∨ 126 < c ∨ (c = 32 ∧ ahead l k = 32)) → lineFrom (ahead l (k + 1)) (l.drop (k + 1)) = lineFrom 32 l) := Lib.hid (fun h => by rw [HST.out, if_neg h, hah])
      have HLB : Hid (c = 32 → k + 1 = n → isLineB l = false) := Lib.hid (fun h1 h2 => by
        by_cases h3 : ahead l k = 32
        · exact HNO.out (.inr (.inr ⟨h1, h3⟩))
        · refine HF.out (by omega) ?_
          rw [HST.out, if_neg (by omega), h1, List.drop_of_length_le (by have := HN.out; omega)]
          rfl)
      have HAH := Lib.hid hah
      have hkn : (k : Int) < (n : Int) := by omega
      have hks2 : (k : Int) < (s.size : Int) := by omega
      clear hstep HST hah
      by_cases h1 : c < 32
      · have HI := Lib.hid (HNO.out (.inl h1))
        have t1 : decide ((c : Int) < 32) = true := by simp; omega
        have t2 : decide (c < 32) = true := by simpa using h1
        clear HNO HON HLB
        go_wp2
        go_ret
        exact ⟨by rw [HI.out]; rfl, rfl⟩
      · have t1 : decide ((c : Int) < 32) = false := by simp; omega
        have t2 : decide (c < 32) = false := by simpa using h1
        by_cases h2 : 126 < c
        · have HI := Lib.hid (HNO.out (.inr (.inl h2)))
          have t3 : decide (126 < (c : Int)) = true := by simp; omega
          have t4 : decide (126 < c) = true := by simpa using h2
          clear HNO HON HLB
          go_wp2
          go_ret
          exact ⟨by rw [HI.out]; rfl, rfl⟩
        · have t3 : decide (126 < (c : Int)) = false := by simp; omega
          have t4 : decide (126 < c) = false := by simpa using h2
          by_cases h3 : c = 32
          · have t5 : ((c : Int) == 32) = true := by simp; omega
            have t6 : (c == 32) = true := by simpa using h3
            cases k with
            | zero =>
              have HI := Lib.hid (HNO.out (.inr (.inr ⟨h3, rfl⟩)))
              clear HNO HON HLB h3 h2 h1
              go_wp2
              go_ret
              exact ⟨by rw [HI.out]; rfl, rfl⟩
            | succ p =>
              have hps : p < s.size := by omega
              have hb := HB.out p hps
              have hap := ahead_succ l p
              have hbl := (l.getD p 0).toNat_lt
              generalize (l.getD p 0).toNat = b at *
              have u1 : ((p : Int) + 1 == 0) = false := by simp; omega
              have u2 : (p + 1 == 0) = false := by simp
              have u9 : (p : Int) < (s.size : Int) := by omega
              by_cases h4 : p + 2 = n
              · have HI := Lib.hid (HLB.out h3 (by omega))
                have u3 : ((p : Int) + 1 == (n : Int) - 1) = true := by simp; omega
                clear HNO HON HLB h3 h2 h1
                go_wp2
                go_ret
                exact ⟨by rw [HI.out]; rfl, rfl⟩
              · have u3 : ((p : Int) + 1 == (n : Int) - 1) = false := by simp; omega
                by_cases h5 : b = 32
                · have HI := Lib.hid (HNO.out (.inr (.inr ⟨h3, by rw [hap]; exact h5⟩)))
                  have u5 : ((b : Int) == 32) = true := by simp; omega
                  have u6 : (b == 32) = true := by simpa using h5
                  clear HNO HON HLB h3 h2 h1 h5
                  go_wp2
                  go_ret
                  exact ⟨by rw [HI.out]; rfl, rfl⟩
                · have HN2 := Lib.hid (HON.out (by rw [hap]; omega))
                  have u5 : ((b : Int) == 32) = false := by simp; omega
                  have u6 : (b == 32) = false := by simpa using h5
                  clear HNO HON HLB h3 h2 h1 h5
                  go_wp2
                  exact ⟨⟨p + 2, by omega, by go_num, HN2, Lib.hid (fun _ h => absurd h (by omega))⟩, by simp [intOf]; omega⟩
          · have HN2 := Lib.hid (HON.out (by omega))
            have t5 : ((c : Int) == 32) = false := by simp; omega
            have t6 : (c == 32) = false := by simpa using h3
            have HQ : Hid (0 < k + 1 → k + 1 = n → ahead l (k + 1) ≠ 32) := Lib.hid (fun _ _ => by rw [HAH.out]; exact h3)
            clear HNO HON HLB h2 h1
            go_wp2
            exact ⟨⟨k + 1, by omega, by go_num, HN2, HQ⟩, by simp [intOf]; omega⟩
    · have e : k = n := by omega
      have HI : Hid (isLineB l = true) := Lib.hid (by
        by_cases h0 : n = 0
        · exact HE.out h0
        · have h1 := HK.out (by omega) e
          have h2 := HL.out
          rw [List.drop_of_length_le (by have := HN.out; omega)] at h2
          exact HT.out (by rw [← h2]; simpa [lineFrom] using h1))
      clear HL HK HE HF HT HB
      go_wp2
      go_ret
      exact ⟨by rw [HI.out]; rfl, rfl⟩
end Go.Proofs.YtchelhmefghcdaaDoor
