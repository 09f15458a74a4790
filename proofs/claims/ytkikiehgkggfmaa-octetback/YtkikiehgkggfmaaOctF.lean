/- octet.GetList, the document's GetList. -/
import Derived.Test.YtkikiehgkggfmaaOctE
import Derived.Test.YtkikiehgkggfmaaInts
namespace Go.Proofs.Ytkikiehgkggfmaa
open Go.RowKit
set_option linter.unusedVariables false
set_option maxHeartbeats 2000000
theorem info_int : (Try.prog.info? 3).map (fun i => (i.zero, i.size, i.bytes)) = some (some (.int .i64 0), 1, 8) := by kernel_rfl
/-- a row of numbers of the call's own -/
def RI (w : World) (base : Nat) (v : Value) (xs : List Int) : Prop := w.ownsRow base 3 1 v xs.length (xs.map (Value.int .i64))
theorem RI.ints {w : World} {base : Nat} {v : Value} {xs : List Int} (h : RI w base v xs) : IntsV w v xs := intsV_row h
theorem RI.ext {w w' : World} {base : Nat} {v : Value} {xs : List Int} (h : RI w base v xs) (hx : Ext w w') : RI w' base v xs := hx.row h
theorem app1 {ops : Array Oper} {rest : List Oper} {o : Oper} {a : Act} {Q : Exit → Act → World → Prop} (w : World) (hgd : o.guard = none) (s x : Operand)
    (ho : o.op = .call { callee := .builtin .append, args := #[s, x], argTypes := #[23, 23] })
    (W : World) (v : Value) (xs : List Int) (hs : a.eval s = v) (hown : RI w W.heap.size v xs) (hW : Ext W w) (g : Nat) (z : Int) (hx : a.eval x = .slice (some ⟨g, 0, none⟩) 1 1) (hcell : w.cell? ⟨g, 0, none⟩ = some (.int .i64 z)) (hl : xs.length ≤ 1000000)
    (h : ∀ v' w', RI w' W.heap.size v' (xs ++ [z]) → Ext W w' → wpList Try.prog ops Q rest (a.put o.dst v') w') : wpList Try.prog ops Q (o :: rest) a w := by
  obtain ⟨i0, hi, hz0, hz1, hz2⟩ := info_parts info_int
  refine wpList_append_own w hgd s x 23 ho W.heap.size 3 i0 (.int .i64 0) 1 8 Try.underlying23 hi hz0 hz1 hz2 rfl (by decide) v xs.length (xs.map (Value.int .i64)) hs hown ⟨g, 0, none⟩ 1 1 [.int .i64 z] hx rfl ?_ ?_ ?_ ?_ ?_ ?_
  · intro j u hu
    match j, hu with
    | 0, hu =>
      simp at hu
      subst hu
      simpa [Addr.add] using hcell
  · intro u hu; simp at hu; subst hu; rfl
  · unfold maxLen; omega
  · omega
  · exact hW.size
  · intro v' w' h1 h2 _
    refine h v' w' ?_ (hW.grown h2 fun j hj => (World.ownsRow.lt hown j hj).1)
    unfold RI
    rw [List.length_append, List.map_append]
    exact h1
/-- what GetList tells -/
def glL (l : List UInt8) (most : Int) : List Int := (decL l most).1.elim [] (·.1)
def glN (l : List UInt8) (most : Int) : Nat := (decL l most).1.elim 0 (·.2)
def glE (l : List UInt8) (most : Int) : Nat := (decL l most).2
def ListDoes (w : World) (l : List UInt8) (most : Int) (e : Ending) (w' : World) : Prop :=
  ∃ v, e = .returned (.tuple #[v, .int .i64 (glN l most : Nat), .int .i64 (glE l most : Nat)]) ∧ IntsV w' v (glL l most) ∧ Ext w w'
theorem list_none {w w' : World} {l : List UInt8} {most : Int} (E : Nat) (h : decL l most = (none, E)) (hx : Ext w w') : ListDoes w l most (.returned (.tuple #[.slice none 0 0, .int .i64 0, .int .i64 (E : Nat)])) w' := by
  refine ⟨.slice none 0 0, ?_, ?_, hx⟩
  · simp [glN, glE, h]
  · simp only [glL, h, Option.elim]
    exact .inl ⟨none, 0, rfl, rfl⟩
theorem list_some {w w' : World} {l : List UInt8} {most : Int} (v : Value) (zs : List Int) (m : Nat) (h : decL l most = (some (zs, m), 0)) (hv : IntsV w' v zs) (hx : Ext w w') : ListDoes w l most (.returned (.tuple #[v, .int .i64 (m : Nat), .int .i64 0])) w' := by
  refine ⟨v, ?_, ?_, hx⟩
  · simp [glN, glE, h]
  · simp only [glL, h, Option.elim]
    exact hv
theorem decL_none {l : List UInt8} {most : Int} (h : dec l = none) : decL l most = (none, 20) := by simp [decL, h]
theorem decL_long {l : List UInt8} {most : Int} {x n : Nat} (h : dec l = some (x, n)) (hm : most < 0 ∨ most < x) : decL l most = (none, 21) := by
  unfold decL; rw [h]; simp only; rw [if_pos hm]
theorem decL_bad {l : List UInt8} {most : Int} {x n : Nat} (h : dec l = some (x, n)) (hm : ¬ (most < 0 ∨ most < x)) (hd : decN x (l.drop n) = none) : decL l most = (none, 20) := by
  unfold decL; rw [h]; simp only; rw [if_neg hm, hd]
theorem decL_good {l : List UInt8} {most : Int} {x n m : Nat} {zs : List Int} (h : dec l = some (x, n)) (hm : ¬ (most < 0 ∨ most < x)) (hd : decN x (l.drop n) = some (zs, m)) : decL l most = (some (zs, n + m), 0) := by
  unfold decL; rw [h]; simp only; rw [if_neg hm, hd]
/-- so far: i numbers, zs, up to the byte at -/
def Far (l : List UInt8) (n0 x i : Nat) (zs : List Int) (at_ : Nat) : Prop := n0 ≤ at_ ∧ at_ ≤ l.length ∧ i ≤ x ∧ zs.length = i ∧ decN x (l.drop n0) = (decN (x - i) (l.drop at_)).map fun p => (zs ++ p.1, (at_ - n0) + p.2)
theorem far_zero (l : List UInt8) (n0 x : Nat) (h : n0 ≤ l.length) : Far l n0 x 0 [] n0 := by
  refine ⟨Nat.le_refl _, h, Nat.zero_le _, rfl, ?_⟩
  rw [Nat.sub_zero]
  cases decN x (l.drop n0) with
  | none => rfl
  | some p => simp
theorem far_bad (l : List UInt8) (n0 x i : Nat) (zs : List Int) (at_ : Nat) (h : Far l n0 x i zs at_) (hi : i < x) (hd : dec (l.drop at_) = none) : decN x (l.drop n0) = none := by
  obtain ⟨_, _, _, _, h5⟩ := h
  rw [h5]
  obtain ⟨k, hk⟩ : ∃ k, x - i = k + 1 := ⟨x - i - 1, by omega⟩
  rw [hk]
  unfold decN
  rw [hd]
  rfl
theorem far_on (l : List UInt8) (n0 x i : Nat) (zs : List Int) (at_ y n : Nat) (h : Far l n0 x i zs at_) (hi : i < x) (hd : dec (l.drop at_) = some (y, n)) : Far l n0 x (i + 1) (zs ++ [zag y]) (at_ + n) := by
  obtain ⟨h1, h2, h3, h4, h5⟩ := h
  obtain ⟨d1, d2, d3, d4, d5, d6⟩ := dec_is _ _ _ hd
  rw [List.length_drop] at d3
  refine ⟨by omega, by omega, by omega, by simp [h4], ?_⟩
  rw [h5]
  obtain ⟨k, hk⟩ : ∃ k, x - i = k + 1 := ⟨x - i - 1, by omega⟩
  have hk2 : x - (i + 1) = k := by omega
  rw [hk, hk2]
  conv => lhs; unfold decN
  rw [hd]
  simp only
  rw [Option.map_map, List.drop_drop]
  congr 1
  funext p
  simp only [Function.comp, List.append_assoc, List.singleton_append, Prod.mk.injEq, true_and]
  omega
theorem far_end (l : List UInt8) (n0 x : Nat) (zs : List Int) (at_ : Nat) (h : Far l n0 x x zs at_) : decN x (l.drop n0) = some (zs, at_ - n0) := by
  obtain ⟨_, _, _, _, h5⟩ := h
  rw [h5, Nat.sub_self]
  simp [decN]
/-- the bytes behind some -/
theorem bytes_cut {w : World} {b off cap n : Nat} {l : List UInt8} (k : Nat) (hk : k ≤ l.length) (hn : n = l.length) (hcap : l.length ≤ cap) (hc : ∀ j, j < l.length → w.cell? ⟨b, off + j, none⟩ = some (.int .u8 ((l.getD j 0).toNat : Int))) : BytesV w (.slice (some ⟨b, off + k, none⟩) (n - k) (cap - k)) (l.drop k) := by
  subst hn
  refine .inr ⟨b, off + k, cap - k, by rw [List.length_drop], by rw [List.length_drop]; omega, fun j hj => ?_⟩
  rw [List.length_drop] at hj
  have := hc (k + j) (by omega)
  rw [show off + k + j = off + (k + j) by omega, this]
  simp [List.getElem?_drop]
theorem bytes_cut0 {w : World} {a : Option Addr} {c n : Nat} {l : List UInt8} (k : Nat) (hk : l.length ≤ k) (hn : n = 0) : BytesV w (.slice a n c) (l.drop k) := by
  subst hn
  exact .inl ⟨a, c, rfl, List.drop_of_length_le hk⟩
theorem oGetList_big (b off cap : Nat) (l : List UInt8) (most : Int) (w : World) (hl : l.length ≤ 100000) (hcap : l.length ≤ cap) (hcm : cap ≤ maxLen) (hc : ∀ j, j < l.length → w.cell? ⟨b, off + j, none⟩ = some (.int .u8 ((l.getD j 0).toNat : Int))) (hm0 : -9223372036854775808 ≤ most) (hm1 : most ≤ 9223372036854775807) :
    Calls Try.prog 21 #[.slice (some ⟨b, off, none⟩) l.length cap, .int .i64 most] w (ListDoes w l most) := by
  have hv : BytesV w (.slice (some ⟨b, off, none⟩) l.length cap) l := .inr ⟨b, off, cap, rfl, hcap, hc⟩
  have C1 := Lib.hid (oGet _ l w hv (by omega))
  unfold GetDoes at C1
  unfold maxLen at hcm
  cases hd : dec l with
  | none =>
    obtain ⟨g1, g2, g3⟩ := get_none hd
    rw [g1, g2, g3] at C1
    have HD := Lib.hid fun w' (hx : Ext w w') => list_none 20 (decL_none (most := most) hd) hx
    generalize l.length = n at *
    clear g1 g2 g3 hd hv hc
    go_enter Try.func21, Try.ntmps21
    go_wp2_with fail
    refine C1.out.mono ?_
    rintro e w1 ⟨rfl, X1⟩
    go_wp2
    go_ret3
    exact HD.out _ X1
  | some p =>
    obtain ⟨x, n0⟩ := p
    obtain ⟨g1, g2, g3⟩ := get_some hd
    rw [g1, g2, g3] at C1
    obtain ⟨d1, d2, d3, d4, d5, d6⟩ := dec_is _ _ _ hd
    by_cases hm : most < 0 ∨ most < x
    · have HD := Lib.hid fun w' (hx : Ext w w') => list_none 21 (decL_long hd hm) hx
      generalize l.length = n at *
      have s1 : decide (most < 0) = true ∨ (decide (most < 0) = false ∧ IntKind.u64.wrap most = most ∧ decide (most < (x : Int)) = true) := by
        by_cases h : most < 0
        · left; simpa using h
        · right
          refine ⟨by simpa using h, by rw [IntKind.wrap_u64]; omega, by simp; omega⟩
      clear g1 g2 g3 hd hv hc d1 d2 hm
      rcases s1 with s1 | ⟨s1, s2, s3⟩
      · go_enter Try.func21, Try.ntmps21
        go_wp2_with fail
        refine C1.out.mono ?_
        rintro e w1 ⟨rfl, X1⟩
        go_wp2
        go_ret3
        exact HD.out _ X1
      · go_enter Try.func21, Try.ntmps21
        go_wp2_with fail
        refine C1.out.mono ?_
        rintro e w1 ⟨rfl, X1⟩
        go_wp2
        go_ret3
        exact HD.out _ X1
    · have s1 : decide (most < 0) = false := by simp; omega
      have s2 : IntKind.u64.wrap most = most := by rw [IntKind.wrap_u64]; omega
      have s3 : decide (most < (x : Int)) = false := by simp; omega
      have HBAD := Lib.hid fun (h : decN x (l.drop n0) = none) w' (hx : Ext w w') => list_none 20 (decL_bad hd hm h) hx
      have HGOOD := Lib.hid fun v zs m (h : decN x (l.drop n0) = some (zs, m)) w' (hv : IntsV w' v zs) (hx : Ext w w') => list_some v zs (n0 + m) (decL_good hd hm h) hv hx
      have F0 := Lib.hid (far_zero l n0 x d3)
      have HC := Lib.hid hc
      have CG := Lib.hid fun v l w h hl => oGetInt v l w h hl
      unfold GetIntDoes at CG
      obtain ⟨n, hn⟩ : ∃ n, n = l.length := ⟨_, rfl⟩
      rw [← hn] at hl hcap d3 C1 ⊢
      have HN := Lib.hid hn
      clear g1 g2 g3 hd hv hc d1 d2 hm hn
      have hx0 : Hid (n0 = n0) := Lib.hid rfl
      go_enter Try.func21, Try.ntmps21
      go_wp2_with fail
      refine C1.out.mono ?_
      rintro e w1 ⟨rfl, X1⟩
      go_wp2
      go_loopw [8, 10, 32] (fun a lv i wr => ∃ (k p : Nat) (zs : List Int), a = .int .i64 p ∧ i = .int .u64 (k : Nat) ∧ p ≤ n ∧ k ≤ x ∧ k ≤ p ∧ Hid (Far l n0 x k zs p) ∧ RI wr w.heap.size lv zs ∧ Ext w wr) (fun _ _ i _ => x - (intOf i).toNat)
      case atStart => exact ⟨0, n0, [], rfl, rfl, d3, Nat.zero_le _, Nat.zero_le _, F0, World.ownsRow_nil _ _ _ _, X1⟩
      case round =>
        obtain ⟨k, p, zs, rfl, rfl, hp, hk, hkp, HF, R, hX⟩ := hrel
        have HR := Lib.hid R
        clear R F0
        by_cases hlt : k < x
        · have hkx : (k : Int) < (x : Int) := by omega
          have HBX : Hid (∀ a c, (cap = p → BytesV wr (.slice a (n - p) c) (l.drop p)) ∧ (¬ cap = p → BytesV wr (.slice (some ⟨b, off + p, none⟩) (n - p) (cap - p)) (l.drop p))) := Lib.hid (fun a c => ⟨fun e => bytes_cut0 p (by have := HN.out; omega) (by omega), fun _ => bytes_cut p (by have := HN.out; omega) HN.out (by have := HN.out; omega) fun j hj => hX.cell (HC.out j hj)⟩)
          have HDL : Hid ((l.drop p).length ≤ 1000000) := Lib.hid (by rw [List.length_drop]; have := HN.out; omega)
          have CB := Lib.hid fun v h => CG.out v (l.drop p) wr h HDL.out
          cases hd : dec (l.drop p) with
          | none =>
            obtain ⟨g1, g2, g3⟩ := get_none hd
            rw [g1, g2, g3] at CB
            have HD := Lib.hid (HBAD.out (far_bad l n0 x k zs p HF.out hlt hd))
            clear g1 g2 g3 hd HBAD HGOOD CG HF HR
            go_wp2_with fail
            all_goals (refine (CB.out _ (by first | exact (HBX.out none 0).2 (by first | assumption | omega) | exact (HBX.out _ _).1 (by first | assumption | omega))).mono ?_)
            all_goals (rintro e w2 ⟨rfl, X2⟩)
            all_goals (go_wp2; go_ret3; exact HD.out _ (hX.trans X2))
          | some q =>
            obtain ⟨y, m⟩ := q
            obtain ⟨g1, g2, g3⟩ := get_some hd
            rw [g1, g2, g3] at CB
            obtain ⟨e1, e2, e3, e4, e5, e6⟩ := dec_is _ _ _ hd
            rw [List.length_drop, ← HN.out] at e3
            have HF2 := Lib.hid (far_on l n0 x k zs p y m HF.out hlt hd)
            have hzl : zs.length ≤ 1000000 := by have := HF.out.2.2.2.1; omega
            generalize zag y = z at *
            clear g1 g2 g3 hd HBAD HGOOD CG HF e1 e2
            go_wp2_with fail
            all_goals (refine (CB.out _ (by first | exact (HBX.out none 0).2 (by first | assumption | omega) | exact (HBX.out _ _).1 (by first | assumption | omega))).mono ?_)
            all_goals (rintro e w2 ⟨rfl, X2⟩)
            all_goals (have X3 := hX.trans X2)
            all_goals (have HR3 := Lib.hid (HR.out.ext X2))
            all_goals (clear HR CB HBX)
            all_goals (go_wp2_with (at_builtin; refine app1 _ rfl _ _ rfl w _ zs rfl (((Ext.refl w2).alloc _).row HR3.out) (X3.alloc _) w2.heap.size z rfl (by simp [go_sem]) hzl ?_))
            all_goals (intro v4 w4 R4 X4; have HR4 := Lib.hid R4; clear R4 HR3)
            all_goals (go_wp2; exact ⟨⟨k + 1, p + m, zs ++ [z], by go_num, by go_num, by omega, by omega, by omega, HF2, HR4.out, X4⟩, by simp [intOf]; omega⟩)
        · have hkx : ¬ (k : Int) < (x : Int) := by omega
          have e : k = x := by omega
          subst e
          have hnp := HF.out.1
          have HD := Lib.hid fun v w' h1 h2 => HGOOD.out v zs (p - n0) (far_end l n0 k zs p HF.out) w' h1 h2
          rw [show n0 + (p - n0) = p by omega] at HD
          have HD2 := Lib.hid (HD.out _ wr HR.out.ints hX)
          clear HD HGOOD HBAD CG HF HR
          go_wp2
          go_ret3
          exact HD2.out
theorem oGetList (v : Value) (l : List UInt8) (most : Int) (w : World) (h : BytesV w v l) (hl : l.length ≤ 100000) (hcm : ∀ a n c, v = .slice a n c → c ≤ maxLen) (hm0 : -9223372036854775808 ≤ most) (hm1 : most ≤ 9223372036854775807) : Calls Try.prog 21 #[v, .int .i64 most] w (ListDoes w l most) := by
  rcases h with ⟨a, cap, rfl, rfl⟩ | ⟨b, off, cap, rfl, hcap, hc⟩
  · have C1 := Lib.hid (oGet (.slice a 0 cap) [] w (.inl ⟨a, cap, rfl, rfl⟩) (by simp))
    unfold GetDoes at C1
    obtain ⟨g1, g2, g3⟩ := get_none (l := []) rfl
    rw [g1, g2, g3] at C1
    have HD := Lib.hid fun w' (hx : Ext w w') => list_none 20 (decL_none (most := most) (l := []) rfl) hx
    clear g1 g2 g3 hcm
    go_enter Try.func21, Try.ntmps21
    go_wp2_with fail
    refine C1.out.mono ?_
    rintro e w1 ⟨rfl, X1⟩
    go_wp2
    go_ret3
    exact HD.out _ X1
  · exact oGetList_big b off cap l most w hl hcap (hcm _ _ _ rfl) hc hm0 hm1
end Go.Proofs.Ytkikiehgkggfmaa
