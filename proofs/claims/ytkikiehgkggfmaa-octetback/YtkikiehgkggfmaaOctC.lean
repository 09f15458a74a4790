/- octet: Get, GetInt. -/
import Derived.Test.YtkikiehgkggfmaaOctB
import Derived.WalkMore
import Derived.Deep.LoopGhost
namespace Go.Proofs.Ytkikiehgkggfmaa
open Go.RowKit
set_option linter.unusedVariables false
set_option maxHeartbeats 1000000
/-- what Get tells -/
def getX (l : List UInt8) : Nat := (dec l).elim 0 (·.1)
def getN (l : List UInt8) : Nat := (dec l).elim 0 (·.2)
def getE (l : List UInt8) : Nat := (dec l).elim 20 (fun _ => 0)
theorem get_none {l : List UInt8} (h : dec l = none) : getX l = 0 ∧ getN l = 0 ∧ getE l = 20 := by simp [getX, getN, getE, h]
theorem get_some {l : List UInt8} {x n : Nat} (h : dec l = some (x, n)) : getX l = x ∧ getN l = n ∧ getE l = 0 := by simp [getX, getN, getE, h]
theorem get_bound (l : List UInt8) : getX l < 18446744073709551616 ∧ getN l ≤ l.length ∧ getN l ≤ 10 := by
  cases h : dec l with
  | none => obtain ⟨h1, h2, h3⟩ := get_none h; rw [h1, h2]; omega
  | some p =>
    obtain ⟨x, n⟩ := p
    obtain ⟨h1, h2, h3⟩ := get_some h
    obtain ⟨d1, d2, d3, d4, d5, d6⟩ := dec_is l x n h
    rw [h1, h2]; omega
def GetDoes (w : World) (l : List UInt8) (e : Ending) (w' : World) : Prop := e = .returned (.tuple #[.int .u64 (getX l : Nat), .int .i64 (getN l : Nat), .int .i64 (getE l : Nat)]) ∧ Ext w w'
theorem getDoes_none {w w' : World} {l : List UInt8} (h : dec l = none) (hx : Ext w w') : GetDoes w l (.returned (.tuple #[.int .u64 0, .int .i64 0, .int .i64 20])) w' := by
  obtain ⟨h1, h2, h3⟩ := get_none h
  refine ⟨?_, hx⟩
  rw [h1, h2, h3]; rfl
theorem getDoes_some {w w' : World} {l : List UInt8} {x n : Nat} (h : dec l = some (x, n)) (hx : Ext w w') : GetDoes w l (.returned (.tuple #[.int .u64 (x : Nat), .int .i64 (n : Nat), .int .i64 0])) w' := by
  obtain ⟨h1, h2, h3⟩ := get_some h
  refine ⟨?_, hx⟩
  rw [h1, h2, h3]; rfl
/-- behind k bytes, all of them above 127, that make acc -/
def Mid (l : List UInt8) (k acc : Nat) : Prop := dec l = (decAt k (l.drop k)).map fun p => (acc + 2 ^ (7 * k) * p.1, p.2 + k)
theorem mid_zero (l : List UInt8) : Mid l 0 0 := by
  unfold Mid dec
  rw [List.drop_zero]
  cases decAt 0 l with
  | none => rfl
  | some p => simp
theorem mid_end (l : List UInt8) (k acc : Nat) (h : Mid l k acc) (hk : l.length ≤ k) : dec l = none := by
  rw [h, List.drop_of_length_le hk]
  rfl
theorem mid_cons (l : List UInt8) (k acc : Nat) (h : Mid l k acc) (hk : k < l.length) : dec l = (decAt k (l[k] :: l.drop (k + 1))).map fun p => (acc + 2 ^ (7 * k) * p.1, p.2 + k) := by
  rw [h, List.drop_eq_getElem_cons hk]
theorem mid_bad (l : List UInt8) (k acc : Nat) (h : Mid l k acc) (hk : k < l.length) (hb : (k = 9 ∧ 1 < (l.getD k 0).toNat) ∨ (0 < k ∧ (l.getD k 0).toNat = 0)) : dec l = none := by
  rw [mid_cons l k acc h hk]
  have e : l.getD k 0 = l[k] := by simp [hk]
  rw [e] at hb
  unfold decAt
  rw [if_pos hb]
  rfl
theorem mid_last (l : List UInt8) (k acc : Nat) (h : Mid l k acc) (hk : k < l.length) (hb : ¬ ((k = 9 ∧ 1 < (l.getD k 0).toNat) ∨ (0 < k ∧ (l.getD k 0).toNat = 0))) (hs : (l.getD k 0).toNat < 128) : dec l = some (acc + 2 ^ (7 * k) * (l.getD k 0).toNat, k + 1) := by
  rw [mid_cons l k acc h hk]
  have e : l.getD k 0 = l[k] := by simp [hk]
  rw [e] at hb hs ⊢
  unfold decAt
  rw [if_neg hb, if_pos hs]
  simp only [Option.map_some, Option.some.injEq, Prod.mk.injEq, true_and]
  omega
theorem mid_on (l : List UInt8) (k acc : Nat) (h : Mid l k acc) (hk : k < l.length) (hb : ¬ ((k = 9 ∧ 1 < (l.getD k 0).toNat) ∨ (0 < k ∧ (l.getD k 0).toNat = 0))) (hs : ¬ (l.getD k 0).toNat < 128) : Mid l (k + 1) (acc + 2 ^ (7 * k) * ((l.getD k 0).toNat % 128)) := by
  have hm := mid_cons l k acc h hk
  have e : l.getD k 0 = l[k] := by simp [hk]
  rw [e] at hb hs ⊢
  unfold Mid
  rw [hm]
  have hc := (l[k]).toNat_lt
  rw [decAt, if_neg hb, if_neg hs, Option.map_map]
  congr 1
  funext p
  simp only [Function.comp]
  rw [show 7 * (k + 1) = 7 * k + 7 by omega, Nat.pow_add]
  have e1 : (l[k]).toNat - 128 = (l[k]).toNat % 128 := by omega
  rw [e1, Prod.mk.injEq]
  refine ⟨?_, by omega⟩
  rw [show (2 : Nat) ^ 7 = 128 from rfl, Nat.mul_add, ← Nat.mul_assoc, Nat.add_assoc]
theorem andNot_u8 (c : Nat) (h : c < 256) : bits .andNot .u8 (c : Int) 128 = ((c % 128 : Nat) : Int) := by
  have : ∀ r : Fin 256, bits .andNot .u8 ((r.val : Nat) : Int) 128 = ((r.val % 128 : Nat) : Int) := by decide +kernel
  exact this ⟨c, h⟩
/-- the digits of a byte, moved up -/
theorem shl7 (m k : Nat) (hk : k ≤ 9) : Op.shift .shl .u64 (m : Int) .i64 (7 * (k : Int)) = pure (.int .u64 ((m * 2 ^ (7 * k) % 18446744073709551616 : Nat) : Int)) := by
  have h := shift_shl_u64 (x := (m : Int)) (yk := .i64) (y := 7 * (k : Int)) (by omega) (by omega)
  rw [h, IntKind.wrap_u64]
  have e : (7 * (k : Int)).toNat = 7 * k := by omega
  rw [e]
  congr 1
theorem or_low (acc m k : Nat) (h : acc < 2 ^ (7 * k)) : acc ||| (m * 2 ^ (7 * k)) = acc + 2 ^ (7 * k) * m := by
  have := Nat.shiftLeft_add_eq_or_of_lt h m
  rw [Nat.shiftLeft_eq] at this
  rw [Nat.or_comm, ← this, Nat.mul_comm m]
  omega
theorem oGet (v : Value) (l : List UInt8) (w : World) (h : BytesV w v l) (hl : l.length ≤ 1000000) : Calls Try.prog 18 #[v] w (GetDoes w l) := by
  by_cases h0 : l.length = 0
  · have hd : dec l = none := mid_end l 0 0 (mid_zero l) (by omega)
    obtain ⟨a, cap, rfl⟩ := h.form
    have HD := Lib.hid fun w' (hx : Ext w w') => getDoes_none hd hx
    rw [h0]
    clear hd h0 h hl
    go_enter Try.func18, Try.ntmps18
    go_wp2
    go_step3
    go_wp2
    go_step3
    go_wp2
    refine wp_loop_rounds 1 ?_
    rw [rounds_succ]
    go_wp2
    try rw [Exit.noGoto_ret]
    go_ret3
    exact HD.out _ (Ext.refl _)
  · obtain ⟨b, off, cap, rfl, hcap, hc⟩ := h.full (by omega)
    have HC := Lib.hid hc
    have HNO := Lib.hid fun (hd : dec l = none) w' (hx : Ext w w') => getDoes_none hd hx
    have HYES := Lib.hid fun x n (hd : dec l = some (x, n)) w' (hx : Ext w w') => getDoes_some hd hx
    have HM0 := Lib.hid (mid_zero l)
    obtain ⟨n, hn⟩ : ∃ n, n = l.length := ⟨_, rfl⟩
    rw [← hn] at hl h0 ⊢
    have HN := Lib.hid hn
    clear hn hc h hcap
    go_enter Try.func18, Try.ntmps18
    go_wp2
    go_step3
    go_wp2
    go_step3
    go_wp2
    go_loop [5, 6, 11] (fun x s i => ∃ k acc : Nat, k ≤ n ∧ k ≤ 9 ∧ i = .int .i64 k ∧ s = .int .i64 0 ∧ x = .int .u64 (acc : Nat) ∧ acc < 2 ^ (7 * k) ∧ Hid (Mid l k acc)) (fun _ _ i => n - (intOf i).toNat)
    case atStart => exact ⟨0, 0, Nat.zero_le _, by omega, rfl, rfl, rfl, by simp, HM0⟩
    case round =>
      obtain ⟨k, acc, hk, hk9, rfl, rfl, rfl, hacc, HM⟩ := hrel
      clear HM0
      by_cases hlt : k < n
      · have hkx : k < l.length := by have := HN.out; omega
        have hcell := HC.out k hkx
        have HB1 := Lib.hid (mid_bad l k acc HM.out hkx)
        have HL1 := Lib.hid (mid_last l k acc HM.out hkx)
        have HO1 := Lib.hid (mid_on l k acc HM.out hkx)
        have hcl := (l.getD k 0).toNat_lt
        generalize (l.getD k 0).toNat = c at *
        have hkn : (k : Int) < (n : Int) := by omega
        have b1 := andNot_u8 c (by omega)
        obtain ⟨m, hm⟩ : ∃ m, m = c % 128 := ⟨_, rfl⟩
        rw [← hm] at b1 HO1
        have b2 := shl7 m k hk9
        obtain ⟨s, hs⟩ : ∃ s, s = m * 2 ^ (7 * k) % 18446744073709551616 := ⟨_, rfl⟩
        rw [← hs] at b2
        have b4 : IntKind.u64.wrap ((m : Int) * 2 ^ (7 * k)) = (s : Int) := by rw [IntKind.wrap_u64, hs]; simp
        have hm128 : m < 128 := by omega
        have b5 : IntKind.u64.wrap (m : Int) = (m : Int) := by rw [IntKind.wrap_u64]; omega
        have hp9 : 2 ^ (7 * k) ≤ 2 ^ 63 := Nat.pow_le_pow_right (by decide) (by omega)
        have e63 : (2 : Nat) ^ 63 = 9223372036854775808 := rfl
        have b3 := u64_or_nat acc s (by omega) (by omega)
        obtain ⟨y, hy⟩ : ∃ y, y = acc ||| s := ⟨_, rfl⟩
        rw [← hy] at b3
        -- where the byte has its place
        have HY : Hid (m * 2 ^ (7 * k) < 18446744073709551616 → y = acc + 2 ^ (7 * k) * m ∧ y < 18446744073709551616) := Lib.hid (fun h => by
          have e : s = m * 2 ^ (7 * k) := by rw [hs]; exact Nat.mod_eq_of_lt h
          have := or_low acc m k hacc
          refine ⟨by rw [hy, e]; exact this, ?_⟩
          rw [hy]
          exact Nat.or_lt_two_pow (n := 64) (by omega) (by omega))
        have HP : Hid (k ≤ 8 → m * 2 ^ (7 * k) < 2 ^ (7 * (k + 1))) := Lib.hid (fun h => by
          rw [show 7 * (k + 1) = 7 * k + 7 by omega, Nat.pow_add, Nat.mul_comm]
          exact Nat.mul_lt_mul_of_pos_left (by omega) (Nat.two_pow_pos _))
        have HP8 : Hid (k ≤ 8 → 2 ^ (7 * (k + 1)) ≤ 9223372036854775808) := Lib.hid (fun h => by rw [← e63]; exact Nat.pow_le_pow_right (by decide) (by omega))
        clear hs hy hp9 e63
        by_cases hbad : (k = 9 ∧ 1 < c) ∨ (0 < k ∧ c = 0)
        · have HD := Lib.hid (HNO.out (HB1.out hbad))
          clear HNO HYES HB1 HL1 HO1 HM HY HP HP8
          by_cases h9 : k = 9 ∧ 1 < c
          · have t1 : ((k : Int) == 9) = true := by simp; omega
            have t2 : decide (1 < (c : Int)) = true := by simp; omega
            have t3 : decide (1 < c) = true := by simp; omega
            clear h9 hbad hm
            go_wp2
            try rw [Exit.noGoto_ret]
            go_ret3
            exact HD.out _ (Ext.refl _)
          · have hc0 : c = 0 := by omega
            have hk0 : 0 < k := by omega
            have t3 : decide (1 < c) = false := by simp; omega
            have t4 : decide (1 < (c : Int)) = false := by simp; omega
            have t5 : ((c : Int) == 0) = true := by simp; omega
            have t6 : (c == 0) = true := by simp; omega
            have t7 : decide (0 < (k : Int)) = true := by simp; omega
            have t8 : decide (0 < k) = true := by simp; omega
            clear hc0 hbad h9 hm
            by_cases hk9' : k = 9
            · have t1 : ((k : Int) == 9) = true := by simp; omega
              clear hk9'
              go_wp2
              try rw [Exit.noGoto_ret]
              go_ret3
              exact HD.out _ (Ext.refl _)
            · have t1 : ((k : Int) == 9) = false := by simp; omega
              clear hk9'
              go_wp2
              try rw [Exit.noGoto_ret]
              go_ret3
              exact HD.out _ (Ext.refl _)
        · have t1 : decide (1 < (c : Int)) = false ∨ ((k : Int) == 9) = false := by
            by_cases e : k = 9
            · left; simp; omega
            · right; simp; omega
          have hm9 : k = 9 → c ≤ 1 := by omega
          by_cases hs : c < 128
          · -- the last byte
            have hmc : m = c := by omega
            have hfit : m * 2 ^ (7 * k) < 18446744073709551616 := by
              by_cases e : k = 9
              · have := hm9 e
                subst e
                rw [hmc]
                omega
              · have h1 := HP.out (by omega)
                have h2 := HP8.out (by omega)
                omega
            obtain ⟨hy1, hy2⟩ := HY.out hfit
            have HD := Lib.hid (HYES.out _ _ (HL1.out hbad hs))
            rw [← hmc, ← hy1, show ((k + 1 : Nat) : Int) = (k : Int) + 1 by omega] at HD
            have u1 : decide ((c : Int) < 128) = true := by simp; omega
            have u2 : decide (c < 128) = true := by simp; omega
            clear HNO HYES HB1 HL1 HO1 HM HY HP HP8 hy1 hfit hmc
            clear hm hm9 t1
            have HBAD := Lib.hid hbad
            clear hbad hs
            by_cases e9 : k = 9
            · have t1 : ((k : Int) == 9) = true := by simp; omega
              have t2 : decide (1 < (c : Int)) = false := by have := HBAD.out; simp; omega
              have t3 : decide (1 < c) = false := by have := HBAD.out; simp; omega
              have t4 : ((c : Int) == 0) = false := by have := HBAD.out; simp; omega
              have t5 : (c == 0) = false := by have := HBAD.out; simp; omega
              have t6 : decide (0 < (k : Int)) = true := by simp; omega
              have t7 : decide (0 < k) = true := by simp; omega
              have t8 : ((k : Int) + 1 == 0) = false := by simp; omega
              clear e9
              go_wp2
              try rw [Exit.noGoto_ret]
              go_ret3
              exact HD.out _ (Ext.refl _)
            · have t1 : ((k : Int) == 9) = false := by simp; omega
              by_cases e0 : k = 0
              · have t6 : decide (0 < (k : Int)) = false := by simp; omega
                have t7 : decide (0 < k) = false := by simp; omega
                have t8 : ((k : Int) + 1 == 0) = false := by simp; omega
                clear e9 e0
                go_wp2
                try rw [Exit.noGoto_ret]
                go_ret3
                exact HD.out _ (Ext.refl _)
              · have t4 : ((c : Int) == 0) = false := by have := HBAD.out; simp; omega
                have t5 : (c == 0) = false := by have := HBAD.out; simp; omega
                have t6 : decide (0 < (k : Int)) = true := by simp; omega
                have t7 : decide (0 < k) = true := by simp; omega
                have t8 : ((k : Int) + 1 == 0) = false := by simp; omega
                clear e9 e0
                go_wp2
                try rw [Exit.noGoto_ret]
                go_ret3
                exact HD.out _ (Ext.refl _)
          · -- a byte, and more
            have h9 : k ≠ 9 := by omega
            have h1 := HP.out (by omega)
            have h2 := HP8.out (by omega)
            obtain ⟨hy1, hy2⟩ := HY.out (by omega)
            have HO2 := Lib.hid (HO1.out hbad hs)
            rw [← hy1] at HO2
            have hy3 : y < 2 ^ (7 * (k + 1)) := by
              rw [hy1, show 7 * (k + 1) = 7 * k + 7 by omega, Nat.pow_add]
              have h4 : 2 ^ (7 * k) * m ≤ 2 ^ (7 * k) * 127 := Nat.mul_le_mul_left _ (by omega)
              omega
            have u1 : decide ((c : Int) < 128) = false := by simp; omega
            have u2 : decide (c < 128) = false := by simp; omega
            have t2 : ((k : Int) == 9) = false := by simp; omega
            have t4 : ((c : Int) == 0) = false := by simp; omega
            have t5 : (c == 0) = false := by simp; omega
            have hk8 : k ≤ 8 := by omega
            clear HNO HYES HB1 HL1 HO1 HM HY HP HP8 hy1 t1 hm9 hm h9 h1 h2 hbad
            by_cases e0 : k = 0
            · have t6 : decide (0 < (k : Int)) = false := by simp; omega
              have t7 : decide (0 < k) = false := by simp; omega
              clear e0
              go_wp2
              exact ⟨⟨k + 1, y, by omega, by omega, by go_num, rfl, rfl, hy3, HO2⟩, by simp [intOf]; omega⟩
            · have t6 : decide (0 < (k : Int)) = true := by simp; omega
              have t7 : decide (0 < k) = true := by simp; omega
              clear e0
              go_wp2
              exact ⟨⟨k + 1, y, by omega, by omega, by go_num, rfl, rfl, hy3, HO2⟩, by simp [intOf]; omega⟩
      · have HD := Lib.hid (HNO.out (mid_end l k acc HM.out (by have := HN.out; omega)))
        clear HNO HYES HM
        go_wp2
        try rw [Exit.noGoto_ret]
        go_ret3
        exact HD.out _ (Ext.refl _)
def GetIntDoes (w : World) (l : List UInt8) (e : Ending) (w' : World) : Prop := e = .returned (.tuple #[.int .i64 (zag (getX l)), .int .i64 (getN l : Nat), .int .i64 (getE l : Nat)]) ∧ Ext w w'
theorem oGetInt (v : Value) (l : List UInt8) (w : World) (h : BytesV w v l) (hl : l.length ≤ 1000000) : Calls Try.prog 20 #[v] w (GetIntDoes w l) := by
  have C1 := Lib.hid (oGet v l w h hl)
  have C2 := Lib.hid fun w => oZag (getX l) w (get_bound l).1
  unfold GetIntDoes
  unfold GetDoes at C1
  generalize zag (getX l) = z at *
  generalize getX l = x at *
  generalize getN l = n at *
  generalize getE l = g at *
  clear h
  go_enter Try.func20, Try.ntmps20
  go_wp2_with fail
  refine C1.out.mono ?_
  rintro e w1 ⟨rfl, X1⟩
  go_wp2_with fail
  refine (C2.out _).mono ?_
  rintro e w' ⟨rfl, rfl⟩
  go_wp2
  go_ret3
  exact ⟨rfl, X1⟩
end Go.Proofs.Ytkikiehgkggfmaa
