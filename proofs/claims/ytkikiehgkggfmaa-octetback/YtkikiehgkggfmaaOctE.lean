/- The document's Get of layer 7: the walk. -/
import Derived.Test.YtkikiehgkggfmaaOctD
namespace Go.Proofs.Ytkikiehgkggfmaa
open Go.RowKit
set_option linter.unusedVariables false
set_option maxHeartbeats 2000000
attribute [local go_sem] later_cell later_frozen later_const
theorem rGet_nil (a : Option Addr) (cap : Nat) (w : World) : Calls Try.prog 19 #[.slice a 0 cap] w (GetDoes w []) := by
  have HD := Lib.hid fun w' (hx : Ext w w') => getDoes_none (l := []) rfl hx
  go_enter Try.func19, Try.ntmps19
  go_wp2
  refine wp_loop_rounds 1 ?_
  rw [rounds_succ]
  go_wp2
  go_ret3
  exact HD.out _ (Ext.refl _)
set_option maxRecDepth 100000 in
theorem rGet_some (b off cap : Nat) (l : List UInt8) (w : World) (h0 : 0 < l.length) (hl : l.length ≤ 1000000) (hc : ∀ j, j < l.length → w.cell? ⟨b, off + j, none⟩ = some (.int .u8 ((l.getD j 0).toNat : Int))) :
    Calls Try.prog 19 #[.slice (some ⟨b, off, none⟩) l.length cap] w (GetDoes w l) := by
  have HC := Lib.hid hc
  have HNO := Lib.hid fun (hd : dec l = none) w' (hx : Ext w w') => getDoes_none hd hx
  have HYES := Lib.hid fun x n (hd : dec l = some (x, n)) w' (hx : Ext w w') => getDoes_some hd hx
  have HFAR := Lib.hid (dec_far l)
  have HDY := Lib.hid (dec_yes l)
  have HDN := Lib.hid (dec_no l)
  obtain ⟨n, hn⟩ : ∃ n, n = l.length := ⟨_, rfl⟩
  rw [← hn] at hl h0 HFAR HDY HDN ⊢
  have HN := Lib.hid hn
  clear hn hc
  go_enter Try.func19, Try.ntmps19
  go_wp2
  go_loop [5] (fun i => ∃ k : Nat, k ≤ n ∧ k ≤ 10 ∧ i = .int .i64 k ∧ Hid (∀ j, j < k → 127 < (l.getD j 0).toNat)) (fun i => n - (intOf i).toNat)
  case atStart => exact ⟨0, Nat.zero_le _, by omega, rfl, Lib.hid fun j hj => by omega⟩
  case round =>
    obtain ⟨k, hk, hk10, rfl, HA⟩ := hrel
    by_cases hlt : k < n
    · have q1 : decide ((k : Int) < (n : Int)) = true := by simp; omega
      have q2 : decide (k < n) = true := by simp; omega
      have q3 : decide (n ≤ k) = false := by simp; omega
      have hkn : (k : Int) < (n : Int) := by omega
      by_cases h10 : k < 10
      · have q4 : decide ((k : Int) < 10) = true := by simp; omega
        have q5 : decide (k < 10) = true := by simp; omega
        have q6 : decide (10 ≤ (k : Int)) = false := by simp; omega
        have q7 : decide (10 ≤ k) = false := by simp; omega
        have hkx : k < l.length := by have := HN.out; omega
        have hcell := HC.out k hkx
        have HQ : Hid (127 < (l.getD k 0).toNat → ∀ j, j < k + 1 → 127 < (l.getD j 0).toNat) := Lib.hid (fun h j hj => by
          by_cases e : j = k
          · subst e; exact h
          · exact HA.out j (by omega))
        have HLAST : Hid ((l.getD k 0).toNat ≤ 127 → enc (vs (l.take (k + 1)) % 18446744073709551616) ≠ l.take (k + 1) → dec l = none) := Lib.hid (fun h1 h2 => HDN.out k hlt HA.out h1 h2)
        generalize (l.getD k 0).toNat = c at *
        by_cases hc : 127 < c
        · have u1 : decide (127 < (c : Int)) = true := by simp; omega
          have u2 : decide (127 < c) = true := by simp; omega
          clear HNO HYES HFAR HDY HDN HLAST
          go_wp2
          exact ⟨⟨k + 1, by omega, by omega, by go_num, Lib.hid (HQ.out hc)⟩, by simp [intOf]; omega⟩
        · have u1 : decide (127 < (c : Int)) = false := by simp; omega
          have u2 : decide (127 < c) = false := by simp; omega
          have HLN := Lib.hid (HLAST.out (by omega))
          have HTL : Hid ((l.take (k + 1)).length = k + 1) := Lib.hid (by rw [List.length_take]; omega)
          have HTG : Hid (∀ j, j < k + 1 → (l.take (k + 1)).getD j 0 = l.getD j 0) := Lib.hid (fun j hj => take_getD l (k + 1) j hj)
          have HY2 : Hid (∀ X, X < 18446744073709551616 → enc X = l.take (k + 1) → dec l = some (X, k + 1)) := Lib.hid (fun X h1 h2 => HDY.out k X h1 hlt h2)
          obtain ⟨p, hp⟩ : ∃ p, p = l.take (k + 1) := ⟨_, rfl⟩
          rw [← hp] at HLN HTL HTG HY2
          clear hp HLAST HFAR HDY HDN HQ HA
          go_wp2
          clear hcell
          go_loop [6, 7] (fun x i => ∃ j X : Nat, j ≤ k + 1 ∧ i = .int .i64 ((j : Int) - 1) ∧ x = .int .u64 (X : Nat) ∧ X < 18446744073709551616 ∧ Hid (X = vs (p.drop j) % 18446744073709551616)) (fun _ i => (intOf i + 1).toNat)
          case atStart => exact ⟨k + 1, 0, Nat.le_refl _, by go_num, rfl, by decide, Lib.hid (by rw [List.drop_of_length_le (by rw [HTL.out]; exact Nat.le_refl _)]; rfl)⟩
          case round =>
            obtain ⟨j, X, hj, rfl, rfl, hX, HX⟩ := hrel
            cases j with
            | succ t =>
              have et : ((t + 1 : Nat) : Int) - 1 = (t : Int) := by omega
              rw [et]
              have htx : t < l.length := by omega
              have hcell := HC.out t htx
              have hst := vs_step p t (by rw [HTL.out]; omega)
              rw [HTG.out t (by omega), ← HX.out] at hst
              have hcl := (l.getD t 0).toNat_lt
              generalize (l.getD t 0).toNat = d at *
              obtain ⟨r, hr⟩ : ∃ r, r = d % 128 := ⟨_, rfl⟩
              obtain ⟨Y, hY⟩ : ∃ Y, Y = vs (p.drop t) % 18446744073709551616 := ⟨_, rfl⟩
              rw [← hr, ← hY] at hst
              obtain ⟨s, hs⟩ : ∃ s, s = 128 * X % 18446744073709551616 := ⟨_, rfl⟩
              have r1 : (d : Int) % 128 = (r : Int) := by omega
              have r2 : IntKind.u64.wrap (128 * (X : Int)) = (s : Int) := by rw [IntKind.wrap_u64]; omega
              have r3 : IntKind.u64.wrap ((s : Int) + (r : Int)) = (Y : Int) := by rw [IntKind.wrap_u64]; omega
              have r4 : r < 128 := by omega
              have r5 : s < 18446744073709551616 := by omega
              have r6 : Y < 18446744073709551616 := by omega
              have r7 : IntKind.u64.wrap (r : Int) = (r : Int) := by rw [IntKind.wrap_u64]; omega
              have r8 : IntKind.u8.wrap (r : Int) = (r : Int) := by rw [IntKind.wrap_u8]; omega
              have HY := Lib.hid hY
              have htk : (t : Int) < (n : Int) := by omega
              clear hst hr hY hs et HX
              go_wp2
              exact ⟨⟨t, Y, by omega, by go_num, rfl, r6, HY⟩, by first | (simp [intOf]; done) | (simp [intOf]; omega)⟩
            | zero =>
              rw [show ((0 : Nat) : Int) - 1 = -1 from rfl]
              rw [List.drop_zero] at HX
              have HLN2 : Hid (enc X ≠ p → dec l = none) := Lib.hid (fun h => HLN.out (by rw [← HX.out]; exact h))
              have HY3 := Lib.hid (HY2.out X hX)
              have HEL := Lib.hid (enc_len X hX)
              have C1 := Lib.hid fun w => rPut X w hX
              clear HLN HX HY2
              have HNE : Hid ((enc X).length ≠ k + 1 → enc X ≠ p) := Lib.hid (fun h e => h (by rw [e, HTL.out]))
              have HDIF : Hid (∀ j, j < k + 1 → (enc X).getD j 0 ≠ l.getD j 0 → enc X ≠ p) := Lib.hid (fun j hj h e => h (by rw [e]; exact HTG.out j hj))
              have HEQ : Hid ((enc X).length = k + 1 → (∀ j, j < k + 1 → (enc X).getD j 0 = l.getD j 0) → enc X = p) := Lib.hid (fun h1 h2 => differ (by rw [h1, HTL.out]) fun j hj => by rw [h2 j (by omega), HTG.out j (by omega)])
              generalize enc X = es at *
              clear HTL HTG
              go_wp2_with fail
              refine (C1.out _).mono ?_
              rintro e w1 ⟨v1, rfl, R1, X1⟩
              have HB1 := Lib.hid R1.bytes
              obtain ⟨a1, c1, rfl⟩ := R1.bytes.form
              clear R1
              by_cases hlen : es.length = k + 1
              · have HB2 : Hid (∃ b1 o1, a1 = some ⟨b1, o1, none⟩ ∧ ∀ j, j < k + 1 → w1.cell? ⟨b1, o1 + j, none⟩ = some (.int .u8 ((es.getD j 0).toNat : Int))) := Lib.hid (by
                  obtain ⟨b1, o1, c1', e1, _, e3⟩ := HB1.out.full (by omega)
                  injection e1 with e4 e5 e6
                  exact ⟨b1, o1, e4, fun j hj => e3 j (by omega)⟩)
                obtain ⟨b1, o1, ha1, hcells⟩ := HB2.out
                subst ha1
                have HCE := Lib.hid hcells
                rw [hlen]
                have hle := HEQ.out hlen
                have HLE := Lib.hid hle
                clear hlen hcells HB2 HB1 HNE HEQ hle
                go_wp2
                go_loopw [9] (fun i wr => ∃ t : Nat, t ≤ k + 1 ∧ i = .int .i64 t ∧ Ext w1 wr ∧ Hid (∀ j, j < t → es.getD j 0 = l.getD j 0)) (fun i _ => k + 1 - (intOf i).toNat)
                case atStart => exact ⟨0, Nat.zero_le _, rfl, Ext.refl _, Lib.hid fun j hj => by omega⟩
                case round =>
                  obtain ⟨t, ht, rfl, hx, HP⟩ := hrel
                  by_cases htk : t ≤ k
                  · have d1 := hx.cell (HCE.out t (by omega))
                    have d2 := (X1.trans hx).cell (HC.out t (by have := HN.out; omega))
                    have HQ2 : Hid (es.getD t 0 = l.getD t 0 → ∀ j, j < t + 1 → es.getD j 0 = l.getD j 0) := Lib.hid (fun h j hj => by
                      by_cases e : j = t
                      · subst e; exact h
                      · exact HP.out j (by omega))
                    have HD2 := Lib.hid (HDIF.out t (by omega))
                    have htk2 : (t : Int) ≤ (k : Int) := by omega
                    have htn : (t : Int) < (n : Int) := by omega
                    have htk3 : (t : Int) < (k : Int) + 1 := by omega
                    by_cases he : es.getD t 0 = l.getD t 0
                    · have HQ3 := Lib.hid (HQ2.out he)
                      rw [he] at d1
                      generalize (l.getD t 0).toNat = c2 at *
                      clear HQ2 HD2 he HLE HDIF
                      go_wp2
                      refine wp_region_later (by kernel_rfl) (by kernel_rfl) ?_
                      have l1 := fun (g : Later wr) => g.ok.cell d1
                      have l2 := fun (g : Later wr) => g.ok.cell d2
                      repeat (go_big_quiet_step ((fail)))
                      refine wpQuiet_nil ?_
                      intro w6 hl6
                      have X6 := laters_ext hl6
                      clear hl6 l1 l2
                      go_wp2
                      exact ⟨⟨t + 1, by omega, by go_num, hx.trans X6, HQ3⟩, by simp [intOf]; omega⟩
                    · have HD := Lib.hid (HNO.out (HLN2.out (HD2.out he)))
                      have hne : (es.getD t 0).toNat ≠ (l.getD t 0).toNat := fun h => he (UInt8.toNat_inj.1 h)
                      generalize (l.getD t 0).toNat = c2 at *
                      generalize (es.getD t 0).toNat = c3 at *
                      have f1 : ((c3 : Int) != (c2 : Int)) = true := by simp; omega
                      have f2 : (c3 != c2) = true := by simp; omega
                      have f3 : ((c3 : Int) == (c2 : Int)) = false := by simp; omega
                      have f4 : (c3 == c2) = false := by simp; omega
                      clear HQ2 HD2 he HLE HDIF hne HNO HYES HLN2
                      go_wp2
                      refine wp_region_later (by kernel_rfl) (by kernel_rfl) ?_
                      have l1 := fun (g : Later wr) => g.ok.cell d1
                      have l2 := fun (g : Later wr) => g.ok.cell d2
                      repeat (go_big_quiet_step ((fail)))
                      refine wpQuiet_nil ?_
                      intro w6 hl6
                      have X6 := (X1.trans hx).trans (laters_ext hl6)
                      clear hl6 l1 l2
                      go_wp2
                      go_ret3
                      exact HD.out _ X6
                  · have HD := Lib.hid (HYES.out X (k + 1) (HY3.out (HLE.out (fun j hj => HP.out j (by omega)))))
                    rw [show ((k + 1 : Nat) : Int) = (k : Int) + 1 by omega] at HD
                    have htk2 : ¬ (t : Int) ≤ (k : Int) := by omega
                    have X6 := X1.trans hx
                    clear HNO HYES HLN2 HY3 HLE HDIF
                    go_wp2
                    go_ret3
                    exact HD.out _ X6
              · have HD := Lib.hid (HNO.out (HLN2.out (HNE.out hlen)))
                have z1 : ((es.length : Int) != (k : Int) + 1) = true := by simp; omega
                have z2 : ((es.length : Int) == (k : Int) + 1) = false := by simp; omega
                generalize es.length = el at *
                clear hlen HNO HYES HLN2 HY3 HNE HDIF HEQ
                go_wp2
                go_ret3
                exact HD.out _ X1
      · have q4 : decide ((k : Int) < 10) = false := by simp; omega
        have q5 : decide (k < 10) = false := by simp; omega
        have q6 : decide (10 ≤ (k : Int)) = true := by simp; omega
        have q7 : decide (10 ≤ k) = true := by simp; omega
        have HD := Lib.hid (HNO.out (HFAR.out k HA.out (by omega)))
        clear HNO HYES HFAR HDY HDN
        go_wp2
        go_ret3
        exact HD.out _ (Ext.refl _)
    · have q1 : decide ((k : Int) < (n : Int)) = false := by simp; omega
      have q2 : decide (k < n) = false := by simp; omega
      have q3 : decide (n ≤ k) = true := by simp; omega
      have HD := Lib.hid (HNO.out (HFAR.out k HA.out (by omega)))
      clear HNO HYES HFAR HDY HDN
      go_wp2
      go_ret3
      exact HD.out _ (Ext.refl _)
theorem rGet (v : Value) (l : List UInt8) (w : World) (h : BytesV w v l) (hl : l.length ≤ 1000000) : Calls Try.prog 19 #[v] w (GetDoes w l) := by
  rcases h with ⟨a, cap, rfl, rfl⟩ | ⟨b, off, cap, rfl, _, hc⟩
  · exact rGet_nil a cap w
  · by_cases h0 : 0 < l.length
    · exact rGet_some b off cap l w h0 hl hc
    · have e : l = [] := List.eq_nil_of_length_eq_zero (by omega)
      subst e
      exact rGet_nil _ cap w
end Go.Proofs.Ytkikiehgkggfmaa
