/- Layer 7: the walk of OctetOnce. -/
import Derived.Test.YtkikiehgkggfmaaLawOctB
import Derived.Deep.RegionHeld
namespace Go.Proofs.Ytkikiehgkggfmaa
open Go.RowKit
set_option linter.unusedVariables false
set_option maxHeartbeats 4000000
attribute [local go_sem] later_cell later_frozen later_const
theorem decN_ok : ∀ (k : Nat) (l : List UInt8) (zs : List Int) (n : Nat), decN k l = some (zs, n) → ∀ z ∈ zs, okI64 z
  | 0, l, zs, n, h => by
    simp [decN] at h
    obtain ⟨rfl, rfl⟩ := h
    simp
  | k + 1, l, zs, n, h => by
    unfold decN at h
    cases hd : dec l with
    | none => rw [hd] at h; cases h
    | some p =>
      obtain ⟨x, m⟩ := p
      rw [hd] at h
      simp only at h
      obtain ⟨⟨zs', m'⟩, h1, h2⟩ := Option.map_eq_some_iff.1 h
      injection h2 with h3 h4
      dsimp only at h3 h4
      obtain ⟨d1, d2, d3, d4, d5, d6⟩ := dec_is l x m hd
      subst h3
      intro z hz
      rcases List.mem_cons.1 hz with rfl | hz
      · exact zag_bound x d4
      · exact decN_ok k _ zs' m' h1 z hz
theorem gl_ok (l : List UInt8) (most : Int) : ∀ n ∈ glL l most, okI64 n := by
  unfold glL decL
  cases hd : dec l with
  | none => simp
  | some p =>
    obtain ⟨x, n⟩ := p
    simp only
    by_cases hm : most < 0 ∨ most < x
    · rw [if_pos hm]; simp
    · rw [if_neg hm]
      cases hn : decN x (l.drop n) with
      | none => simp
      | some q => obtain ⟨zs, m⟩ := q; exact decN_ok _ _ _ _ hn
theorem bytes_pre {w : World} {a : Option Addr} {n cap k : Nat} {l : List UInt8} (h : BytesV w (.slice a n cap) l) (hn : n = l.length) (hk : k ≤ n) : BytesV w (.slice a k cap) (l.take k) := by
  rcases h with ⟨a', c', e, rfl⟩ | ⟨b, off, c', e, h1, h2⟩
  · injection e with e1 e2 e3
    have : k = 0 := by omega
    subst this
    exact .inl ⟨a, cap, rfl, rfl⟩
  · injection e with e1 e2 e3
    subst e1
    subst e3
    refine .inr ⟨b, off, cap, by rw [List.length_take, Nat.min_eq_left (by omega)], by rw [List.length_take]; omega, fun j hj => ?_⟩
    rw [List.length_take] at hj
    rw [take_getD l k j (by omega)]
    exact h2 j (by omega)
theorem once_no_no (a : Option Addr) (n cap x m E k F : Nat) (ps : List Int) (es fs : List UInt8) (w : World) (hn : n ≤ 2000) (hnc : n ≤ cap) (hcm : cap ≤ maxLen)   (hF : F = 20 ∨ F = 21) (hps : ps.length = 0)
    (C1 : ∀ w', Ext w w' → Calls Try.prog 18 #[.slice a n cap] w' fun e w'' => e = .returned (.tuple #[.int .u64 0, .int .i64 0, .int .i64 20]) ∧ Ext w' w'')
    (C3 : ∀ w', Ext w w' → Calls Try.prog 21 #[.slice a n cap, .int .i64 2000] w' fun e w'' => ∃ v, e = .returned (.tuple #[v, .int .i64 0, .int .i64 (F : Nat)]) ∧ IntsV w'' v ps ∧ Ext w' w'') :
    Calls Try.prog 6 #[.slice a n cap] w fun e w' => e = .returned (.bool true) ∧ Ext w w' := by
  have d1 : decide (2000 < (n : Int)) = false := by simp; omega
  unfold maxLen at hcm
  have r0 : ((F : Int) == 0) = false := by simp; omega
  have K1 := Lib.hid C1; have K3 := Lib.hid C3
  clear C1 C3
  go_enter Try.func6, Try.ntmps6
  go_wp2_with fail
  refine (K1.out _ (Ext.refl _)).mono ?_
  rintro e w1 ⟨rfl, Y1⟩
  go_wp2_with fail
  refine wp_region_later (by kernel_rfl) (by kernel_rfl) ?_
  repeat (go_big_quiet_step ((fail)))
  refine wpQuiet_nil ?_
  intro w2 hl2
  have Y2 := Y1.trans (laters_ext hl2)
  clear hl2 Y1
  go_wp2_with fail
  refine (K3.out _ Y2).mono ?_
  rintro e w3 ⟨v3, rfl, I3, X3⟩
  have HI3 := Lib.hid I3
  have Y3 := Y2.trans X3
  clear I3 X3 Y2
  go_wp2_with fail
  refine wp_region_later (by kernel_rfl) (by kernel_rfl) ?_
  repeat (go_big_quiet_step ((fail)))
  refine wpQuiet_nil ?_
  intro w4 hl4
  have Y4 := Y3.trans (laters_ext hl4)
  clear hl4 Y3
  obtain ⟨p3, c3, rfl⟩ := intsV_form HI3.out
  rw [hps]
  go_wp2_with fail
  refine (live7 _).mono ?_
  rintro e w5 ⟨rfl, X5⟩
  go_wp2
  go_ret
  exact ⟨rfl, Y4.trans X5⟩
theorem once_no_yes (a : Option Addr) (n cap x m E k F : Nat) (ps : List Int) (es fs : List UInt8) (w : World) (hn : n ≤ 2000) (hnc : n ≤ cap) (hcm : cap ≤ maxLen)  
    (hk0 : 1 ≤ k) (hk1 : k ≤ n) (hf : ∀ w', Ext w w' → BytesV w' (.slice a k cap) fs)
    (C4 : ∀ w' v, Ext w w' → IntsV w' v ps → Calls Try.prog 16 #[.slice none 0 0, v] w' (PutsB w' fs))
    (C1 : ∀ w', Ext w w' → Calls Try.prog 18 #[.slice a n cap] w' fun e w'' => e = .returned (.tuple #[.int .u64 0, .int .i64 0, .int .i64 20]) ∧ Ext w' w'')
    (C3 : ∀ w', Ext w w' → Calls Try.prog 21 #[.slice a n cap, .int .i64 2000] w' fun e w'' => ∃ v, e = .returned (.tuple #[v, .int .i64 (k : Nat), .int .i64 0]) ∧ IntsV w'' v ps ∧ Ext w' w'') :
    Calls Try.prog 6 #[.slice a n cap] w fun e w' => e = .returned (.bool true) ∧ Ext w w' := by
  have d1 : decide (2000 < (n : Int)) = false := by simp; omega
  unfold maxLen at hcm
  have r1 : decide ((k : Int) < 1) = false := by simp; omega
  have r2 : decide ((n : Int) < (k : Int)) = false := by simp; omega
  have r3 : (0 : Int) ≤ (k : Int) := by omega
  have r4 : (k : Int) ≤ (n : Int) := by omega
  have r5 : (k : Int) ≤ (cap : Int) := by omega
  have r6 : k ≤ cap := by omega
  have r7 : decide (n < k) = false := by simp; omega
  have r8 : decide (k < 1) = false := by simp; omega
  have r9 : decide (k = 0) = false := by simp; omega
  have r10 : k ≤ n := by omega
  have r11 : ¬ n < k := by omega
  have f1 := fun w' (h : Ext w w') => conv_bytes (hf w' h)
  have K4 := Lib.hid C4
  clear C4 hf
  have K1 := Lib.hid C1; have K3 := Lib.hid C3
  clear C1 C3
  go_enter Try.func6, Try.ntmps6
  go_wp2_with fail
  refine (K1.out _ (Ext.refl _)).mono ?_
  rintro e w1 ⟨rfl, Y1⟩
  go_wp2_with fail
  refine wp_region_later (by kernel_rfl) (by kernel_rfl) ?_
  repeat (go_big_quiet_step ((fail)))
  refine wpQuiet_nil ?_
  intro w2 hl2
  have Y2 := Y1.trans (laters_ext hl2)
  clear hl2 Y1
  go_wp2_with fail
  refine (K3.out _ Y2).mono ?_
  rintro e w3 ⟨v3, rfl, I3, X3⟩
  have HI3 := Lib.hid I3
  have Y3 := Y2.trans X3
  clear I3 X3 Y2
  go_wp2_with fail
  go_region_held (fun w' => Ext w w') (repeat (first | with_reducible exact Ext.refl _ | with_reducible assumption | with_reducible refine Ext.alloc ?_ _ | with_reducible refine Ext.drew ?_ | with_reducible refine Ext.drewN ?_ _ | with_reducible refine Ext.setCell ?_ (by simp <;> omega) _ | with_reducible refine Ext.trans ?_ (by assumption))) (first
    | (go_at_call 16; (with_reducible refine (K4.out _ _ (by repeat (first | with_reducible exact Ext.refl _ | with_reducible assumption | with_reducible refine Ext.alloc ?_ _ | with_reducible refine Ext.drew ?_ | with_reducible refine Ext.drewN ?_ _ | with_reducible refine Ext.setCell ?_ (by simp <;> omega) _ | with_reducible refine Ext.trans ?_ (by assumption))) (HI3.out.ext (by repeat (first | with_reducible exact Ext.refl _ | with_reducible assumption | with_reducible refine Ext.alloc ?_ _ | with_reducible refine Ext.drew ?_ | with_reducible refine Ext.drewN ?_ _ | with_reducible refine Ext.setCell ?_ (by simp <;> omega) _ | with_reducible refine Ext.trans ?_ (by assumption))))).mono ?_); rintro e w4 ⟨v4, rfl, R4, X4⟩; have cv4 := conv_bytes R4.bytes; obtain ⟨p4, c4, rfl⟩ := R4.bytes.form; have Y4 := Ext.trans (by assumption) X4; clear R4 X4))
  go_wp2_with fail
  refine (live7 _).mono ?_
  rintro e w5 ⟨rfl, X5⟩
  go_wp2
  go_ret
  exact ⟨rfl, Y4.trans X5⟩
theorem once_yes_no (a : Option Addr) (n cap x m E k F : Nat) (ps : List Int) (es fs : List UInt8) (w : World) (hn : n ≤ 2000) (hnc : n ≤ cap) (hcm : cap ≤ maxLen) 
    (hm0 : 1 ≤ m) (hm1 : m ≤ n) (he : ∀ w', Ext w w' → BytesV w' (.slice a m cap) es)
    (C2 : ∀ w', Ext w w' → Calls Try.prog 8 #[.slice none 0 0, .int .u64 (x : Nat)] w' (PutsB w' es)) (hF : F = 20 ∨ F = 21) (hps : ps.length = 0)
    (C1 : ∀ w', Ext w w' → Calls Try.prog 18 #[.slice a n cap] w' fun e w'' => e = .returned (.tuple #[.int .u64 (x : Nat), .int .i64 (m : Nat), .int .i64 0]) ∧ Ext w' w'')
    (C3 : ∀ w', Ext w w' → Calls Try.prog 21 #[.slice a n cap, .int .i64 2000] w' fun e w'' => ∃ v, e = .returned (.tuple #[v, .int .i64 0, .int .i64 (F : Nat)]) ∧ IntsV w'' v ps ∧ Ext w' w'') :
    Calls Try.prog 6 #[.slice a n cap] w fun e w' => e = .returned (.bool true) ∧ Ext w w' := by
  have d1 : decide (2000 < (n : Int)) = false := by simp; omega
  unfold maxLen at hcm
  have s1 : decide ((m : Int) < 1) = false := by simp; omega
  have s2 : decide ((n : Int) < (m : Int)) = false := by simp; omega
  have s3 : (0 : Int) ≤ (m : Int) := by omega
  have s4 : (m : Int) ≤ (n : Int) := by omega
  have s5 : (m : Int) ≤ (cap : Int) := by omega
  have s6 : m ≤ cap := by omega
  have s7 : decide (n < m) = false := by simp; omega
  have s8 : decide (m < 1) = false := by simp; omega
  have s9 : decide (m = 0) = false := by simp; omega
  have s10 : m ≤ n := by omega
  have s11 : ¬ n < m := by omega
  have g1 := fun w' (h : Ext w w') => conv_bytes (he w' h)
  have K2 := Lib.hid C2
  clear C2 he
  have r0 : ((F : Int) == 0) = false := by simp; omega
  have K1 := Lib.hid C1; have K3 := Lib.hid C3
  clear C1 C3
  go_enter Try.func6, Try.ntmps6
  go_wp2_with fail
  refine (K1.out _ (Ext.refl _)).mono ?_
  rintro e w1 ⟨rfl, Y1⟩
  go_wp2_with fail
  go_region_held (fun w' => Ext w w') (repeat (first | with_reducible exact Ext.refl _ | with_reducible assumption | with_reducible refine Ext.alloc ?_ _ | with_reducible refine Ext.drew ?_ | with_reducible refine Ext.drewN ?_ _ | with_reducible refine Ext.setCell ?_ (by simp <;> omega) _ | with_reducible refine Ext.trans ?_ (by assumption))) (first
    | (go_at_call 8; (with_reducible refine (K2.out _ (by repeat (first | with_reducible exact Ext.refl _ | with_reducible assumption | with_reducible refine Ext.alloc ?_ _ | with_reducible refine Ext.drew ?_ | with_reducible refine Ext.drewN ?_ _ | with_reducible refine Ext.setCell ?_ (by simp <;> omega) _ | with_reducible refine Ext.trans ?_ (by assumption)))).mono ?_); rintro e w2 ⟨v2, rfl, R2, X2⟩; have cv2 := conv_bytes R2.bytes; obtain ⟨p2, c2, rfl⟩ := R2.bytes.form; have Y2 := Ext.trans (by assumption) X2; clear R2 X2))
  go_wp2_with fail
  refine (K3.out _ Y2).mono ?_
  rintro e w3 ⟨v3, rfl, I3, X3⟩
  have HI3 := Lib.hid I3
  have Y3 := Y2.trans X3
  clear I3 X3 Y2
  go_wp2_with fail
  refine wp_region_later (by kernel_rfl) (by kernel_rfl) ?_
  repeat (go_big_quiet_step ((fail)))
  refine wpQuiet_nil ?_
  intro w4 hl4
  have Y4 := Y3.trans (laters_ext hl4)
  clear hl4 Y3
  obtain ⟨p3, c3, rfl⟩ := intsV_form HI3.out
  rw [hps]
  go_wp2_with fail
  refine (live7 _).mono ?_
  rintro e w5 ⟨rfl, X5⟩
  go_wp2
  go_ret
  exact ⟨rfl, Y4.trans X5⟩
theorem once_yes_yes (a : Option Addr) (n cap x m E k F : Nat) (ps : List Int) (es fs : List UInt8) (w : World) (hn : n ≤ 2000) (hnc : n ≤ cap) (hcm : cap ≤ maxLen) 
    (hm0 : 1 ≤ m) (hm1 : m ≤ n) (he : ∀ w', Ext w w' → BytesV w' (.slice a m cap) es)
    (C2 : ∀ w', Ext w w' → Calls Try.prog 8 #[.slice none 0 0, .int .u64 (x : Nat)] w' (PutsB w' es))
    (hk0 : 1 ≤ k) (hk1 : k ≤ n) (hf : ∀ w', Ext w w' → BytesV w' (.slice a k cap) fs)
    (C4 : ∀ w' v, Ext w w' → IntsV w' v ps → Calls Try.prog 16 #[.slice none 0 0, v] w' (PutsB w' fs))
    (C1 : ∀ w', Ext w w' → Calls Try.prog 18 #[.slice a n cap] w' fun e w'' => e = .returned (.tuple #[.int .u64 (x : Nat), .int .i64 (m : Nat), .int .i64 0]) ∧ Ext w' w'')
    (C3 : ∀ w', Ext w w' → Calls Try.prog 21 #[.slice a n cap, .int .i64 2000] w' fun e w'' => ∃ v, e = .returned (.tuple #[v, .int .i64 (k : Nat), .int .i64 0]) ∧ IntsV w'' v ps ∧ Ext w' w'') :
    Calls Try.prog 6 #[.slice a n cap] w fun e w' => e = .returned (.bool true) ∧ Ext w w' := by
  have d1 : decide (2000 < (n : Int)) = false := by simp; omega
  unfold maxLen at hcm
  have s1 : decide ((m : Int) < 1) = false := by simp; omega
  have s2 : decide ((n : Int) < (m : Int)) = false := by simp; omega
  have s3 : (0 : Int) ≤ (m : Int) := by omega
  have s4 : (m : Int) ≤ (n : Int) := by omega
  have s5 : (m : Int) ≤ (cap : Int) := by omega
  have s6 : m ≤ cap := by omega
  have s7 : decide (n < m) = false := by simp; omega
  have s8 : decide (m < 1) = false := by simp; omega
  have s9 : decide (m = 0) = false := by simp; omega
  have s10 : m ≤ n := by omega
  have s11 : ¬ n < m := by omega
  have g1 := fun w' (h : Ext w w') => conv_bytes (he w' h)
  have K2 := Lib.hid C2
  clear C2 he
  have r1 : decide ((k : Int) < 1) = false := by simp; omega
  have r2 : decide ((n : Int) < (k : Int)) = false := by simp; omega
  have r3 : (0 : Int) ≤ (k : Int) := by omega
  have r4 : (k : Int) ≤ (n : Int) := by omega
  have r5 : (k : Int) ≤ (cap : Int) := by omega
  have r6 : k ≤ cap := by omega
  have r7 : decide (n < k) = false := by simp; omega
  have r8 : decide (k < 1) = false := by simp; omega
  have r9 : decide (k = 0) = false := by simp; omega
  have r10 : k ≤ n := by omega
  have r11 : ¬ n < k := by omega
  have f1 := fun w' (h : Ext w w') => conv_bytes (hf w' h)
  have K4 := Lib.hid C4
  clear C4 hf
  have K1 := Lib.hid C1; have K3 := Lib.hid C3
  clear C1 C3
  go_enter Try.func6, Try.ntmps6
  go_wp2_with fail
  refine (K1.out _ (Ext.refl _)).mono ?_
  rintro e w1 ⟨rfl, Y1⟩
  go_wp2_with fail
  go_region_held (fun w' => Ext w w') (repeat (first | with_reducible exact Ext.refl _ | with_reducible assumption | with_reducible refine Ext.alloc ?_ _ | with_reducible refine Ext.drew ?_ | with_reducible refine Ext.drewN ?_ _ | with_reducible refine Ext.setCell ?_ (by simp <;> omega) _ | with_reducible refine Ext.trans ?_ (by assumption))) (first
    | (go_at_call 8; (with_reducible refine (K2.out _ (by repeat (first | with_reducible exact Ext.refl _ | with_reducible assumption | with_reducible refine Ext.alloc ?_ _ | with_reducible refine Ext.drew ?_ | with_reducible refine Ext.drewN ?_ _ | with_reducible refine Ext.setCell ?_ (by simp <;> omega) _ | with_reducible refine Ext.trans ?_ (by assumption)))).mono ?_); rintro e w2 ⟨v2, rfl, R2, X2⟩; have cv2 := conv_bytes R2.bytes; obtain ⟨p2, c2, rfl⟩ := R2.bytes.form; have Y2 := Ext.trans (by assumption) X2; clear R2 X2))
  go_wp2_with fail
  refine (K3.out _ Y2).mono ?_
  rintro e w3 ⟨v3, rfl, I3, X3⟩
  have HI3 := Lib.hid I3
  have Y3 := Y2.trans X3
  clear I3 X3 Y2
  go_wp2_with fail
  go_region_held (fun w' => Ext w w') (repeat (first | with_reducible exact Ext.refl _ | with_reducible assumption | with_reducible refine Ext.alloc ?_ _ | with_reducible refine Ext.drew ?_ | with_reducible refine Ext.drewN ?_ _ | with_reducible refine Ext.setCell ?_ (by simp <;> omega) _ | with_reducible refine Ext.trans ?_ (by assumption))) (first
    | (go_at_call 16; (with_reducible refine (K4.out _ _ (by repeat (first | with_reducible exact Ext.refl _ | with_reducible assumption | with_reducible refine Ext.alloc ?_ _ | with_reducible refine Ext.drew ?_ | with_reducible refine Ext.drewN ?_ _ | with_reducible refine Ext.setCell ?_ (by simp <;> omega) _ | with_reducible refine Ext.trans ?_ (by assumption))) (HI3.out.ext (by repeat (first | with_reducible exact Ext.refl _ | with_reducible assumption | with_reducible refine Ext.alloc ?_ _ | with_reducible refine Ext.drew ?_ | with_reducible refine Ext.drewN ?_ _ | with_reducible refine Ext.setCell ?_ (by simp <;> omega) _ | with_reducible refine Ext.trans ?_ (by assumption))))).mono ?_); rintro e w4 ⟨v4, rfl, R4, X4⟩; have cv4 := conv_bytes R4.bytes; obtain ⟨p4, c4, rfl⟩ := R4.bytes.form; have Y4 := Ext.trans (by assumption) X4; clear R4 X4))
  go_wp2_with fail
  refine (live7 _).mono ?_
  rintro e w5 ⟨rfl, X5⟩
  go_wp2
  go_ret
  exact ⟨rfl, Y4.trans X5⟩
end Go.Proofs.Ytkikiehgkggfmaa
