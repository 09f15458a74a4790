/- The walk of EventWords. -/
import Derived.Test.YtkbbneknblnbnaaEvL
namespace Go.Proofs.Ytkbbneknblnbnaa
open Go.RowKit
set_option linter.unusedVariables false
set_option linter.unusedSimpArgs false
set_option maxHeartbeats 4000000
attribute [local go_sem] later_cell later_frozen later_const
theorem bytes_nil15 : (⟨#[]⟩ : ByteArray).toList = [] := by decide +kernel
theorem oL_ne : ∀ k : Nat, k < 7 → 1 ≤ k → wAt oL k ≠ ⟨#[]⟩ := by decide +kernel
theorem kL_of {s : ByteArray} {k : Nat} (hk : k < 8) (h : wAt kL k = s) : fnd kL s = k := by rw [← h]; exact kback k hk
theorem oL_of {s : ByteArray} {k : Nat} (hk : k < 7) (h : wAt oL k = s) : fnd oL s = k := by rw [← h]; exact oback k hk
set_option maxRecDepth 100000 in
theorem eventWords_walk (n : Int) (s : ByteArray) (w : World) (w0 : (Lit.int .i64 n).wf = true) {p : Prop} (w1 : p) :
    Calls Try.prog 6 #[.int .i64 n, .string s] w fun e w' => e = .returned (.bool true) ∧ Below w.heap.size w w' := by
  have CK := Lib.hid (fun w => eKind s w)
  have CO := Lib.hid (fun w => eOp s w)
  have HK := Lib.hid (fun (k : Nat) (hk : k < 8) (h : wAt kL k = s) => kL_of hk h)
  have HO := Lib.hid (fun (k : Nat) (hk : k < 7) (h : wAt oL k = s) => oL_of hk h)
  have CK1 := fun w => rWord (fnd kL s) w
  have CO1 := fun w => rOpWord (fnd oL s) w
  have hk1 := fnd_word kL s
  have ho1 := fnd_word oL s
  generalize fnd kL s = K at *
  generalize fnd oL s = O at *
  clear w0 w1
  generalize wAt kL K = y at *
  generalize wAt oL O = z at *
  have HCK1 := Lib.hid CK1
  have HCO1 := Lib.hid CO1
  clear CK1 CO1
  have fK : (K = 0 ∧ (K != 0) = false) ∨ (y = s ∧ (y.toList != s.toList) = false) := by
    by_cases h : K = 0
    · exact .inl ⟨h, by simp [h]⟩
    · have := hk1 h; exact .inr ⟨this, by simp [this]⟩
  have fO : (O = 0 ∧ (O != 0) = false) ∨ (z = s ∧ (z.toList != s.toList) = false) := by
    by_cases h : O = 0
    · exact .inl ⟨h, by simp [h]⟩
    · have := ho1 h; exact .inr ⟨this, by simp [this]⟩
  clear hk1 ho1
  go_enter Try.func6, Try.ntmps6
  go_wp2_with fail
  refine (eWord n _).mono ?_
  rintro e w2 ⟨rfl, X2⟩
  go_wp2_with fail
  refine (rWord n _).mono ?_
  rintro e w3 ⟨rfl, X3⟩
  go_wp2_with fail
  refine (eOpWord n _).mono ?_
  rintro e w4 ⟨rfl, X4⟩
  go_wp2_with fail
  refine (rOpWord n _).mono ?_
  rintro e w5 ⟨rfl, X5⟩
  go_wp2_with fail
  refine (CK.out _).mono ?_
  rintro e w6 ⟨rfl, X6⟩
  go_wp2_with fail
  refine (CO.out _).mono ?_
  rintro e w7 ⟨rfl, X7⟩
  have E7 := ((((X2.trans X3).trans X4).trans X5).trans X6).trans X7
  clear X2 X3 X4 X5 X6 X7
  go_wp2_with fail
  refine (HCK1.out _).mono ?_
  rintro e w8 ⟨rfl, X8⟩
  have E8 := E7.trans X8
  clear X8 E7
  have gK : ((y.toList != s.toList) = false) ∨ ((y.toList != s.toList) = true ∧ (K != 0) = false) := by
    rcases fK with ⟨_, h⟩ | ⟨_, h⟩
    · cases hb : (y.toList != s.toList)
      · exact .inl rfl
      · exact .inr ⟨rfl, h⟩
    · exact .inl h
  have gO : ((z.toList != s.toList) = false) ∨ ((z.toList != s.toList) = true ∧ (O != 0) = false) := by
    rcases fO with ⟨_, h⟩ | ⟨_, h⟩
    · cases hb : (z.toList != s.toList)
      · exact .inl rfl
      · exact .inr ⟨rfl, h⟩
    · exact .inl h
  clear fK fO
  rcases gK with gK | ⟨gK, gK2⟩
  all_goals
    have gK3 := gK
    simp only [bne, Bool.not_eq_false', Bool.not_eq_true'] at gK3
    go_wp2_with fail
    refine (HCO1.out _).mono ?_
    rintro e w9 ⟨rfl, X9⟩
    have E9 := E8.trans X9
    clear X9 E8
    rcases gO with gO | ⟨gO, gO2⟩
    all_goals
      have gO3 := gO
      simp only [bne, Bool.not_eq_false', Bool.not_eq_true'] at gO3
      go_wp2
      go_loopw [7] (fun i wr => ∃ k : Nat, 1 ≤ k ∧ k ≤ 8 ∧ i = .int .i64 k ∧ Ext w wr) (fun i _ => 8 - (intOf i).toNat)
      case atStart => exact ⟨1, Nat.le_refl _, by decide, rfl, E9⟩
      case round =>
        obtain ⟨k, hk1, hk8, rfl, hx⟩ := hrel
        by_cases hlt : k < 8
        case neg =>
          obtain rfl : k = 8 := by omega
          go_wp2_with fail
          refine (live15 _).mono ?_
          rintro e wl ⟨rfl, Xl⟩
          go_wp2
          go_ret
          exact ⟨rfl, (hx.trans Xl).below⟩
        have hlt' : (k : Int) < 8 := by omega
        have HX := Lib.hid hx
        have A1 := fun w => rWord k w
        have A2 := fun w => eKind (wAt kL k) w
        have A3 := fun w => rOpWord k w
        rw [kback k hlt] at A2
        have hK := HK.out k hlt
        have hO := HO.out k
        have hne := oL_ne k
        generalize hyk : wAt kL k = yk at *
        have A4 := fun (h7 : k < 7) w => (by have := eOp (wAt oL k) w; rwa [oback k h7] at this : Calls Try.prog 33 #[.string (wAt oL k)] w fun e w' => e = .returned (.int .i64 k) ∧ Ext w w')
        have hz7 : ¬ k < 7 → wAt oL k = ⟨#[]⟩ := fun h => by
          obtain rfl : k = 7 := by omega
          rfl
        generalize hzk : wAt oL k = zk at *
        have B1 := Lib.hid A1
        have B2 := Lib.hid A2
        have B3 := Lib.hid A3
        have B4 := Lib.hid A4
        have fy : ((yk.toList == s.toList) = false) ∨ ((yk.toList == s.toList) = true ∧ (K != (k : Int)) = false) := by
          by_cases h : yk = s
          · right; exact ⟨by rw [h]; exact beq_self_eq_true _, by rw [hK h]; simp⟩
          · exact .inl ((Lib.bytes_beq_false_iff _ _).2 h)
        have fz : ((zk.toList == s.toList) = false) ∨ (zk.toList = [] ∧ s.toList = []) ∨ ((zk.toList == s.toList) = true ∧ (¬ s.toList = [] ∧ s.toList.isEmpty = false) ∧ (O != (k : Int)) = false) := by
          by_cases h : zk = s
          · right
            by_cases h7 : k < 7
            · right
              refine ⟨by rw [h]; exact beq_self_eq_true _, ?_, by rw [hO h7 h]; simp⟩
              have h2 := hne h7 hk1
              rw [h] at h2
              have h3 := (Lib.bytes_beq_false_iff s ⟨#[]⟩).2 h2
              rw [bytes_nil15] at h3
              have h4 : ¬ s.toList = [] := by simpa using h3
              exact ⟨h4, by simpa using h4⟩
            · left
              exact ⟨by rw [hz7 h7, bytes_nil15], by rw [← h, hz7 h7, bytes_nil15]⟩
          · exact .inl ((Lib.bytes_beq_false_iff _ _).2 h)
        clear hx A1 A2 A3 A4 hK hO hne hz7 hyk hzk
        go_wp2_with fail
        refine (B1.out _).mono ?_
        rintro e wa ⟨rfl, Xa⟩
        go_wp2_with fail
        refine (B2.out _).mono ?_
        rintro e wb ⟨rfl, Xb⟩
        go_wp2_with fail
        refine (B1.out _).mono ?_
        rintro e wc ⟨rfl, Xc⟩
        have HC := Lib.hid (((HX.out.trans Xa).trans Xb).trans Xc)
        clear Xa Xb Xc
        rcases fy with fy | ⟨fy, fy2⟩
        all_goals
          by_cases h7 : k < 7
          · have h7' : (k : Int) < 7 := by omega
            go_wp2_with fail
            refine (B3.out _).mono ?_
            rintro e wd ⟨rfl, Xd⟩
            go_wp2_with fail
            refine (B4.out h7 _).mono ?_
            rintro e we ⟨rfl, Xe⟩
            go_wp2_with fail
            refine (B3.out _).mono ?_
            rintro e wf ⟨rfl, Xf⟩
            have HF := Lib.hid (((HC.out.trans Xd).trans Xe).trans Xf)
            clear Xd Xe Xf
            rcases fz with fz | ⟨fz, fz2⟩ | ⟨fz, ⟨fz2, fz4⟩, fz3⟩
            all_goals
              go_wp2
              exact ⟨⟨k + 1, by omega, by omega, by go_num, HF.out⟩, by simp [intOf]; omega⟩
          · have h7' : ¬ (k : Int) < 7 := by omega
            go_wp2_with fail
            refine (B3.out _).mono ?_
            rintro e wf ⟨rfl, Xf⟩
            have HF := Lib.hid (HC.out.trans Xf)
            clear Xf
            rcases fz with fz | ⟨fz, fz2⟩ | ⟨fz, ⟨fz2, fz4⟩, fz3⟩
            all_goals
              go_wp2
              exact ⟨⟨k + 1, by omega, by omega, by go_num, HF.out⟩, by simp [intOf]; omega⟩
end Go.Proofs.Ytkbbneknblnbnaa
