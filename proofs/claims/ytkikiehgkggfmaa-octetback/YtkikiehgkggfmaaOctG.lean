/- The document's GetList. -/
import Derived.Test.YtkikiehgkggfmaaOctF
namespace Go.Proofs.Ytkikiehgkggfmaa
open Go.RowKit
set_option linter.unusedVariables false
set_option maxHeartbeats 2000000
theorem rGetList_big (b off cap : Nat) (l : List UInt8) (most : Int) (w : World) (hl : l.length ≤ 100000) (hcap : l.length ≤ cap) (hcm : cap ≤ maxLen) (hc : ∀ j, j < l.length → w.cell? ⟨b, off + j, none⟩ = some (.int .u8 ((l.getD j 0).toNat : Int))) (hm0 : -9223372036854775808 ≤ most) (hm1 : most ≤ 9223372036854775807) :
    Calls Try.prog 22 #[.slice (some ⟨b, off, none⟩) l.length cap, .int .i64 most] w (ListDoes w l most) := by
  have hv : BytesV w (.slice (some ⟨b, off, none⟩) l.length cap) l := .inr ⟨b, off, cap, rfl, hcap, hc⟩
  have C1 := Lib.hid (rGet _ l w hv (by omega))
  unfold GetDoes at C1
  unfold maxLen at hcm
  cases hd : dec l with
  | none =>
    obtain ⟨g1, g2, g3⟩ := get_none hd
    rw [g1, g2, g3] at C1
    have HD := Lib.hid fun w' (hx : Ext w w') => list_none 20 (decL_none (most := most) hd) hx
    generalize l.length = n at *
    clear g1 g2 g3 hd hv hc
    go_enter Try.func22, Try.ntmps22
    go_wp2_with fail
    refine C1.out.mono ?_
    rintro e w1 ⟨rfl, X1⟩
    go_wp2
    go_ret3
    exact HD.out _ X1
  | some p =>
    obtain ⟨x, n0⟩ := p
    obtain ⟨g1, g2, g3⟩ := get_some hd
    rw [g1, g2, g3] at C1
    obtain ⟨d1, d2, d3, d4, d5, d6⟩ := dec_is _ _ _ hd
    by_cases hm : most < 0 ∨ most < x
    · have HD := Lib.hid fun w' (hx : Ext w w') => list_none 21 (decL_long hd hm) hx
      generalize l.length = n at *
      have s1 : decide (most < 0) = true ∨ (decide (most < 0) = false ∧ IntKind.u64.wrap most = most ∧ decide (most < (x : Int)) = true) := by
        by_cases h : most < 0
        · left; simpa using h
        · right
          refine ⟨by simpa using h, by rw [IntKind.wrap_u64]; omega, by simp; omega⟩
      clear g1 g2 g3 hd hv hc d1 d2 hm
      rcases s1 with s1 | ⟨s1, s2, s3⟩
      · go_enter Try.func22, Try.ntmps22
        go_wp2_with fail
        refine C1.out.mono ?_
        rintro e w1 ⟨rfl, X1⟩
        go_wp2
        go_ret3
        exact HD.out _ X1
      · go_enter Try.func22, Try.ntmps22
        go_wp2_with fail
        refine C1.out.mono ?_
        rintro e w1 ⟨rfl, X1⟩
        go_wp2
        go_ret3
        exact HD.out _ X1
    · have s1 : decide (most < 0) = false := by simp; omega
      have s2 : IntKind.u64.wrap most = most := by rw [IntKind.wrap_u64]; omega
      have s3 : decide (most < (x : Int)) = false := by simp; omega
      have HBAD := Lib.hid fun (h : decN x (l.drop n0) = none) w' (hx : Ext w w') => list_none 20 (decL_bad hd hm h) hx
      have HGOOD := Lib.hid fun v zs m (h : decN x (l.drop n0) = some (zs, m)) w' (hv : IntsV w' v zs) (hx : Ext w w') => list_some v zs (n0 + m) (decL_good hd hm h) hv hx
      have F0 := Lib.hid (far_zero l n0 x d3)
      have HC := Lib.hid hc
      have CG := Lib.hid fun v l w h hl => rGet v l w h hl
      unfold GetDoes at CG
      obtain ⟨n, hn⟩ : ∃ n, n = l.length := ⟨_, rfl⟩
      rw [← hn] at hl hcap d3 C1 ⊢
      have HN := Lib.hid hn
      clear g1 g2 g3 hd hv hc d1 d2 hm hn
      have hx0 : Hid (n0 = n0) := Lib.hid rfl
      go_enter Try.func22, Try.ntmps22
      go_wp2_with fail
      refine C1.out.mono ?_
      rintro e w1 ⟨rfl, X1⟩
      go_wp2
      go_loopw [8, 10, 11] (fun a lv i wr => ∃ (k p : Nat) (zs : List Int), a = .int .i64 p ∧ i = .int .u64 (k : Nat) ∧ p ≤ n ∧ k ≤ x ∧ k ≤ p ∧ Hid (Far l n0 x k zs p) ∧ RI wr w.heap.size lv zs ∧ Ext w wr) (fun _ _ i _ => x - (intOf i).toNat)
      case atStart => exact ⟨0, n0, [], rfl, rfl, d3, Nat.zero_le _, Nat.zero_le _, F0, World.ownsRow_nil _ _ _ _, X1⟩
      case round =>
        obtain ⟨k, p, zs, rfl, rfl, hp, hk, hkp, HF, R, hX⟩ := hrel
        have HR := Lib.hid R
        clear R F0
        by_cases hlt : k < x
        · have hkx : (k : Int) < (x : Int) := by omega
          have HBX : Hid (∀ a c, (cap = p → BytesV wr (.slice a (n - p) c) (l.drop p)) ∧ (¬ cap = p → BytesV wr (.slice (some ⟨b, off + p, none⟩) (n - p) (cap - p)) (l.drop p))) := Lib.hid (fun a c => ⟨fun e => bytes_cut0 p (by have := HN.out; omega) (by omega), fun _ => bytes_cut p (by have := HN.out; omega) HN.out (by have := HN.out; omega) fun j hj => hX.cell (HC.out j hj)⟩)
          have HDL : Hid ((l.drop p).length ≤ 1000000) := Lib.hid (by rw [List.length_drop]; have := HN.out; omega)
          have CB := Lib.hid fun v h => CG.out v (l.drop p) wr h HDL.out
          cases hd : dec (l.drop p) with
          | none =>
            obtain ⟨g1, g2, g3⟩ := get_none hd
            rw [g1, g2, g3] at CB
            have HD := Lib.hid (HBAD.out (far_bad l n0 x k zs p HF.out hlt hd))
            clear g1 g2 g3 hd HBAD HGOOD CG HF HR
            go_wp2_with fail
            all_goals (refine (CB.out _ (by first | exact (HBX.out none 0).2 (by first | assumption | omega) | exact (HBX.out _ _).1 (by first | assumption | omega))).mono ?_)
            all_goals (rintro e w2 ⟨rfl, X2⟩)
            all_goals (go_wp2; go_ret3; exact HD.out _ (hX.trans X2))
          | some q =>
            obtain ⟨y, m⟩ := q
            obtain ⟨g1, g2, g3⟩ := get_some hd
            rw [g1, g2, g3] at CB
            obtain ⟨e1, e2, e3, e4, e5, e6⟩ := dec_is _ _ _ hd
            rw [List.length_drop, ← HN.out] at e3
            have HF2 := Lib.hid (far_on l n0 x k zs p y m HF.out hlt hd)
            have hzl : zs.length ≤ 1000000 := by have := HF.out.2.2.2.1; omega
            have CZ := Lib.hid fun w => rZag y w e4
            generalize zag y = z at *
            clear g1 g2 g3 hd HBAD HGOOD CG HF e1 e2
            go_wp2_with fail
            all_goals (refine (CB.out _ (by first | exact (HBX.out none 0).2 (by first | assumption | omega) | exact (HBX.out _ _).1 (by first | assumption | omega))).mono ?_)
            all_goals (rintro e w2 ⟨rfl, X2⟩)
            all_goals (have X3 := hX.trans X2)
            all_goals (have HR3 := Lib.hid (HR.out.ext X2))
            all_goals (clear HR CB HBX)
            all_goals (go_wp2_with fail)
            all_goals (refine (CZ.out _).mono ?_; rintro e w' ⟨rfl, rfl⟩)
            all_goals (go_wp2_with (at_builtin; refine app1 _ rfl _ _ rfl w _ zs rfl (((Ext.refl w2).alloc _).row HR3.out) (X3.alloc _) w2.heap.size z rfl (by simp [go_sem]) hzl ?_))
            all_goals (intro v4 w4 R4 X4; have HR4 := Lib.hid R4; clear R4 HR3)
            all_goals (go_wp2; exact ⟨⟨k + 1, p + m, zs ++ [z], by go_num, by go_num, by omega, by omega, by omega, HF2, HR4.out, X4⟩, by simp [intOf]; omega⟩)
        · have hkx : ¬ (k : Int) < (x : Int) := by omega
          have e : k = x := by omega
          subst e
          have hnp := HF.out.1
          have HD := Lib.hid fun v w' h1 h2 => HGOOD.out v zs (p - n0) (far_end l n0 k zs p HF.out) w' h1 h2
          rw [show n0 + (p - n0) = p by omega] at HD
          have HD2 := Lib.hid (HD.out _ wr HR.out.ints hX)
          clear HD HGOOD HBAD CG HF HR
          go_wp2
          go_ret3
          exact HD2.out
theorem rGetList (v : Value) (l : List UInt8) (most : Int) (w : World) (h : BytesV w v l) (hl : l.length ≤ 100000) (hcm : ∀ a n c, v = .slice a n c → c ≤ maxLen) (hm0 : -9223372036854775808 ≤ most) (hm1 : most ≤ 9223372036854775807) : Calls Try.prog 22 #[v, .int .i64 most] w (ListDoes w l most) := by
  rcases h with ⟨a, cap, rfl, rfl⟩ | ⟨b, off, cap, rfl, hcap, hc⟩
  · have C1 := Lib.hid (rGet (.slice a 0 cap) [] w (.inl ⟨a, cap, rfl, rfl⟩) (by simp))
    unfold GetDoes at C1
    obtain ⟨g1, g2, g3⟩ := get_none (l := []) rfl
    rw [g1, g2, g3] at C1
    have HD := Lib.hid fun w' (hx : Ext w w') => list_none 20 (decL_none (most := most) (l := []) rfl) hx
    clear g1 g2 g3 hcm
    go_enter Try.func22, Try.ntmps22
    go_wp2_with fail
    refine C1.out.mono ?_
    rintro e w1 ⟨rfl, X1⟩
    go_wp2
    go_ret3
    exact HD.out _ X1
  · exact rGetList_big b off cap l most w hl hcap (hcm _ _ _ rfl) hc hm0 hm1
end Go.Proofs.Ytkikiehgkggfmaa
