/- The document's answers of layer 5: Word, List, Next, In, Of. -/
import Derived.Test.YthdokmhbdjajaabDoorRef05
namespace Go.Proofs.YthdokmhbdjajaabDoor
open Go.RowKit
set_option linter.unusedVariables false
set_option maxHeartbeats 1000000
theorem rIn (i : Int) (w : World) : Calls Tryd.prog 14 #[.int .i64 i] w fun e w' => e = .returned (.bool (okI i)) ∧ w = w' := by
  by_cases h : 0 ≤ i
  · have d : decide (0 ≤ i) = true := by simpa using h
    go_enter Tryd.func14, Tryd.ntmps14
    go_wp2
    go_ret
    simp [okI, h]
  · have d : decide (0 ≤ i) = false := by simpa using h
    have e : okI i = false := by unfold okI; rw [d]; rfl
    rw [e]
    go_enter Tryd.func14, Tryd.ntmps14
    go_wp2
    go_ret
    exact ⟨rfl, rfl⟩
theorem half_step (X k : Nat) : X / 2 ^ k = 2 * (X / 2 ^ (k + 1)) + (X.testBit k).toNat := by
  rw [Nat.testBit_eq_decide_div_mod_eq, Nat.pow_succ, ← Nat.div_div_eq_div_mul]
  generalize X / 2 ^ k = q
  by_cases h : q % 2 = 1
  · simp [h]; omega
  · simp [h]; omega
set_option maxRecDepth 100000 in
theorem rWord (X : Nat) (w : World) (hX : X < 18446744073709551616) : Calls Tryd.prog 10 #[.agg (bl X.testBit).toArray] w fun e w' => e = .returned (.int .u64 (X : Nat)) ∧ Ext w w' := by
  have B0 := ba_new w 30 _ X.testBit rfl
  have E0 : Ext w (w.alloc (.cells (bl X.testBit).toArray 30)) := (Ext.refl w).alloc _
  go_enter Tryd.func10, Tryd.ntmps10
  go_wp2
  generalize w.alloc (.cells (bl X.testBit).toArray 30) = w1 at *
  go_loop [3, 4] (fun q i => ∃ k : Nat, k ≤ 64 ∧ i = .int .i64 ((k : Int) - 1) ∧ q = .int .u64 (X / 2 ^ k : Nat)) (fun _ i => (intOf i + 1).toNat)
  case atStart => exact ⟨64, by decide, rfl, by rw [Nat.div_eq_of_lt (by simpa using hX)]; rfl⟩
  case round =>
    obtain ⟨k, hk, rfl, rfl⟩ := hrel
    cases k with
    | zero =>
      have d : decide ((0 : Int) ≤ ((0 : Nat) : Int) - 1) = false := by decide
      rw [show X / 2 ^ 0 = X by simp]
      have e0 : (((0 : Nat) : Int) - 1) = -1 := by decide
      rw [e0]
      go_wp2
      go_ret
      exact ⟨rfl, E0⟩
    | succ k =>
      have c0 := B0.c k (by omega)
      have hs := half_step X k
      have hq : X / 2 ^ k < 18446744073709551616 := Nat.lt_of_le_of_lt (Nat.div_le_self _ _) hX
      have e1 : (((k + 1 : Nat) : Int) - 1) = (k : Int) := by omega
      rw [e1]
      have h63 : (k : Int) < 64 := by omega
      obtain ⟨q, hqq⟩ : ∃ q, q = X / 2 ^ (k + 1) := ⟨_, rfl⟩
      rw [← hqq] at hs ⊢
      obtain ⟨q', hq'⟩ : ∃ q', q' = X / 2 ^ k := ⟨_, rfl⟩
      rw [← hq'] at hs hq
      have HQ := Lib.hid hq'
      clear hq' hqq
      cases hb : X.testBit k
      · rw [hb] at c0 hs
        have hw : IntKind.u64.wrap (2 * (q : Int)) = (q' : Int) := by rw [IntKind.wrap_u64]; simp at hs; omega
        clear hs hb
        go_wp2
        exact ⟨⟨k, by omega, by first | rfl | go_num, by rw [HQ.out]⟩, by simp [intOf]⟩
      · rw [hb] at c0 hs
        simp at hs
        have hw : IntKind.u64.wrap (2 * (q : Int)) = 2 * (q : Int) := by rw [IntKind.wrap_u64]; omega
        have hw2 : IntKind.u64.wrap (2 * (q : Int) + 1) = (q' : Int) := by rw [IntKind.wrap_u64]; omega
        clear hs hb
        go_wp2
        exact ⟨⟨k, by omega, by first | rfl | go_num, by rw [HQ.out]⟩, by simp [intOf]⟩
theorem filter_snoc (X k : Nat) : (List.range (k + 1)).filter (fun i => X.testBit i) = (List.range k).filter (fun i => X.testBit i) ++ (if X.testBit k then [k] else []) := by
  rw [List.range_succ, List.filter_append, List.filter_cons]
  cases X.testBit k <;> rfl
/-- the first ones, as cells -/
def rowF (X k : Nat) : List Value := ((List.range k).filter fun i => X.testBit i).map fun (j : Nat) => Value.int .i64 (j : Int)
def lenF (X k : Nat) : Nat := ((List.range k).filter fun i => X.testBit i).length
theorem lenF_le (X k : Nat) : lenF X k ≤ k := by
  have := List.length_filter_le (fun i => X.testBit i) (List.range k)
  simpa [lenF] using this
theorem rowF_yes {X k : Nat} (h : X.testBit k = true) : rowF X (k + 1) = rowF X k ++ [.int .i64 (k : Int)] ∧ lenF X (k + 1) = lenF X k + 1 := by
  unfold rowF lenF
  rw [filter_snoc, h]
  simp
theorem rowF_no {X k : Nat} (h : X.testBit k = false) : rowF X (k + 1) = rowF X k ∧ lenF X (k + 1) = lenF X k := by
  unfold rowF lenF
  rw [filter_snoc, h]
  simp
theorem rowF_all (X : Nat) : rowF X 64 = rowB (bitsOf X) (bitsOf X).length ∧ lenF X 64 = (bitsOf X).length := by
  refine ⟨?_, rfl⟩
  unfold rowF rowB
  rw [List.take_length]
  rfl
set_option maxRecDepth 100000 in
theorem rList5 (X : Nat) (w : World) : Calls Tryd.prog 13 #[.agg (bl X.testBit).toArray] w (GListDoes w X) := by
  obtain ⟨i0, hi, hz0, hz1, hz2⟩ := info_parts info_int
  have B0 := ba_new w 30 _ X.testBit rfl
  have E0 : Ext w (w.alloc (.cells (bl X.testBit).toArray 30)) := (Ext.refl w).alloc _
  go_enter Tryd.func13, Tryd.ntmps13
  go_wp2
  generalize w.alloc (.cells (bl X.testBit).toArray 30) = w1 at *
  go_loopw [3, 4] (fun v i wr => ∃ k : Nat, k ≤ 64 ∧ i = .int .i64 k ∧ wr.ownsRow w1.heap.size 3 1 v (lenF X k) (rowF X k) ∧ Ext w1 wr) (fun _ i _ => 64 - (intOf i).toNat)
  case atStart => exact ⟨0, by decide, rfl, World.ownsRow_nil _ _ _ _, Ext.refl _⟩
  case round =>
    obtain ⟨k, hk, rfl, ho, hx⟩ := hrel
    have HO := Lib.hid ho
    clear ho
    by_cases hlt : k < 64
    · have c0 := (B0.ext hx).c k hlt
      have hkn : (k : Int) < 64 := by omega
      cases hb : X.testBit k
      · rw [hb] at c0
        have HR := Lib.hid (rowF_no hb)
        clear hb
        go_wp2
        exact ⟨⟨k + 1, by omega, by go_num, by rw [HR.out.1, HR.out.2]; exact HO.out, hx⟩, by simp [intOf]; omega⟩
      · rw [hb] at c0
        have HR := Lib.hid (rowF_yes hb)
        have hlk := lenF_le X k
        clear hb
        go_wp2_with (at_builtin; refine wpList_append_own _ rfl _ _ 22 rfl w1.heap.size 3 i0 (.int .i64 0) 1 8 Tryd.underlying22 hi hz0 hz1 hz2 rfl (by decide) _ _ _ rfl (HO.out.alloc _) ⟨wr.heap.size, 0, none⟩ 1 1 [.int .i64 (k : Int)] rfl rfl ?c1 ?c2 ?c3 ?c4 ?c5 ?_)
        case c1 =>
          intro j u hj
          match j, hj with
          | 0, hj => simp at hj; subst hj; simp [Addr.add]
        case c2 => intro u hu; simp at hu; subst hu; rfl
        case c3 => unfold maxLen; omega
        case c4 => omega
        case c5 => have := hx.size; simp; omega
        intro v1 w2 hv1 hg1 _
        rw [← HR.out.1, ← HR.out.2] at hv1
        have X2 : Ext w1 w2 := (hx.alloc _).grown hg1 (fun j h => (HO.out.lt j h).1)
        clear hg1 c0
        go_wp2
        exact ⟨⟨k + 1, by omega, by go_num, hv1, X2⟩, by simp [intOf]; omega⟩
    · obtain rfl : k = 64 := by omega
      go_wp2
      go_ret
      have hr := HO.out
      rw [(rowF_all X).1, (rowF_all X).2] at hr
      exact ⟨_, rfl, World.ownsRow.lower hr E0.size, E0.trans hx⟩
theorem nxt_range (X : Nat) (n : Int) : nxt X n = (List.range 64).find? (fun j : Nat => X.testBit j && decide (n < (j : Int))) := by
  unfold nxt bitsOf
  rw [List.find?_filter]
  congr 1
  funext a
  cases X.testBit a <;> simp
theorem nxt_first {X : Nat} {n : Int} {k : Nat} (hk : k < 64) (h1 : X.testBit k = true) (h2 : n < (k : Int)) (h : ∀ j, j < k → ¬ (n < (j : Int) ∧ X.testBit j = true)) : nxt X n = some k := by
  rw [nxt_range, List.find?_range_eq_some]
  refine ⟨by simp [h1, h2], by simpa using hk, fun j hj => ?_⟩
  have := h j hj
  cases hb : X.testBit j
  · simp
  · simp [hb] at this ⊢; exact this
theorem nxt_none {X : Nat} {n : Int} (h : ∀ j : Nat, j < 64 → ¬ (n < (j : Int) ∧ X.testBit j = true)) : nxt X n = none := by
  rw [nxt_range, List.find?_eq_none]
  intro j hj
  have := h j (by simpa using hj)
  cases hb : X.testBit j
  · simp
  · simp [hb] at this ⊢; exact this
/-- the document's way to tell it -/
def nxtI : Option Nat → Int
  | some j => j
  | none => -1
set_option maxRecDepth 100000 in
theorem rNext5 (X : Nat) (n : Int) (w : World) : Calls Tryd.prog 21 #[.agg (bl X.testBit).toArray, .int .i64 n] w fun e w' => e = .returned (.int .i64 (nxtI (nxt X n))) ∧ Ext w w' := by
  have B0 := ba_new w 30 _ X.testBit rfl
  have E0 : Ext w (w.alloc (.cells (bl X.testBit).toArray 30)) := (Ext.refl w).alloc _
  go_enter Tryd.func21, Tryd.ntmps21
  go_wp2
  generalize w.alloc (.cells (bl X.testBit).toArray 30) = w1 at *
  go_loop [5] (fun i => ∃ k : Nat, k ≤ 64 ∧ i = .int .i64 k ∧ Hid (∀ j, j < k → ¬ (n < (j : Int) ∧ X.testBit j = true))) (fun i => 64 - (intOf i).toNat)
  case atStart => exact ⟨0, by decide, rfl, Lib.hid fun j hj => absurd hj (Nat.not_lt_zero _)⟩
  case round =>
    obtain ⟨k, hk, rfl, HA⟩ := hrel
    by_cases hlt : k < 64
    · have c0 := B0.c k hlt
      have hkn : (k : Int) < 64 := by omega
      have HON : Hid (¬ (n < (k : Int) ∧ X.testBit k = true) → ∀ j, j < k + 1 → ¬ (n < (j : Int) ∧ X.testBit j = true)) := Lib.hid (fun h j hj => by
        by_cases e : j = k
        · rw [e]; exact h
        · exact HA.out j (by omega))
      by_cases hn : n < (k : Int)
      · have d : decide (n < (k : Int)) = true := by simpa using hn
        cases hb : X.testBit k
        · rw [hb] at c0
          have HA2 := Lib.hid (HON.out (by rw [hb]; simp))
          clear HON HA hb
          go_wp2
          exact ⟨⟨k + 1, by omega, by go_num, HA2⟩, by simp [intOf]; omega⟩
        · rw [hb] at c0
          have HF := Lib.hid (nxt_first hlt hb hn HA.out)
          clear HON HA hb
          go_wp2
          go_ret
          exact ⟨by rw [HF.out]; rfl, E0⟩
      · have d : decide (n < (k : Int)) = false := by simpa using hn
        have HA2 := Lib.hid (HON.out (fun h => hn h.1))
        clear HON HA
        go_wp2
        exact ⟨⟨k + 1, by omega, by go_num, HA2⟩, by simp [intOf]; omega⟩
    · obtain rfl : k = 64 := by omega
      have HF := Lib.hid (nxt_none HA.out)
      clear HA
      go_wp2
      go_ret
      exact ⟨by rw [HF.out]; rfl, E0⟩
theorem gw_bit (xs : List Int) (k : Nat) (m : Nat) (S : gw (xs.take (k + 1)) = gw (xs.take k) ||| 2 ^ m) (i : Nat) : (if i = m then true else (gw (xs.take k)).testBit i) = (gw (xs.take (k + 1))).testBit i := by
  rw [S, Nat.testBit_or, one_bit]
  by_cases e : i = m
  · subst e; simp
  · rw [if_neg e]
    have : decide (m = i) = false := by simp; omega
    rw [this]; simp
def OfDoes (w : World) (xs : List Int) (e : Ending) (w' : World) : Prop :=
  (((∀ i ∈ xs, okI i = true) ∧ e = .returned (.tuple #[.agg (bl (gw xs).testBit).toArray, .bool true])) ∨ ((¬ ∀ i ∈ xs, okI i = true) ∧ e = .returned (.tuple #[.agg (bl (0 : Nat).testBit).toArray, .bool false]))) ∧ Ext w w'
set_option maxRecDepth 100000 in
theorem rOf5 (v : Value) (xs : List Int) (w : World) (h : IntsV w v xs) (hl : xs.length ≤ 1000000) : Calls Tryd.prog 9 #[v] w (OfDoes w xs) := by
  have hz0 : ∀ i, (0 : Nat).testBit i = false := Nat.zero_testBit
  have hv : ∃ a cap, v = .slice a xs.length cap := by
    rcases h with ⟨a, cap, h1, h2⟩ | ⟨b, off, cap, h1, _⟩
    · exact ⟨a, cap, by rw [h1, h2]; rfl⟩
    · exact ⟨_, cap, h1⟩
  obtain ⟨a, cap, rfl⟩ := hv
  have hcell : ∀ j, j < xs.length → ∃ b off, a = some ⟨b, off, none⟩ ∧ w.cell? ⟨b, off + j, none⟩ = some (.int .i64 (xs.getD j 0)) := by
    intro j hj
    rcases h with ⟨a', cap', h1, h2⟩ | ⟨b, off, cap', h1, h2⟩
    · subst h2; cases hj
    · simp at h1
      exact ⟨b, off, h1.1, h2 j hj⟩
  have HC := Lib.hid hcell
  obtain ⟨n, hn⟩ : ∃ n, n = xs.length := ⟨_, rfl⟩
  rw [← hn]
  have HN := Lib.hid hn
  have hl2 : n ≤ 1000000 := by omega
  clear hn hl hcell h
  go_enter Tryd.func9, Tryd.ntmps9
  go_wp2_with (with_reducible refine wpList_store_mid rfl _ (.tmp 4) (.tmp 6) rfl _ 0 _ rfl rfl ?ht ?hi ?h1 ?_)
  case ht =>
    have := ba_new (w.alloc (.cells #[.bool false, .bool false, .bool false, .bool false, .bool false, .bool false, .bool false, .bool false, .bool false, .bool false, .bool false, .bool false, .bool false, .bool false, .bool false, .bool false, .bool false, .bool false, .bool false, .bool false, .bool false, .bool false, .bool false, .bool false, .bool false, .bool false, .bool false, .bool false, .bool false, .bool false, .bool false, .bool false, .bool false, .bool false, .bool false, .bool false, .bool false, .bool false, .bool false, .bool false, .bool false, .bool false, .bool false, .bool false, .bool false, .bool false, .bool false, .bool false, .bool false, .bool false, .bool false, .bool false, .bool false, .bool false, .bool false, .bool false, .bool false, .bool false, .bool false, .bool false, .bool false, .bool false, .bool false, .bool false] 30)) 30 #[.bool false, .bool false, .bool false, .bool false, .bool false, .bool false, .bool false, .bool false, .bool false, .bool false, .bool false, .bool false, .bool false, .bool false, .bool false, .bool false, .bool false, .bool false, .bool false, .bool false, .bool false, .bool false, .bool false, .bool false, .bool false, .bool false, .bool false, .bool false, .bool false, .bool false, .bool false, .bool false, .bool false, .bool false, .bool false, .bool false, .bool false, .bool false, .bool false, .bool false, .bool false, .bool false, .bool false, .bool false, .bool false, .bool false, .bool false, .bool false, .bool false, .bool false, .bool false, .bool false, .bool false, .bool false, .bool false, .bool false, .bool false, .bool false, .bool false, .bool false, .bool false, .bool false, .bool false, .bool false] (fun _ => false) rfl
    rw [World.size_alloc] at this
    exact this.there rfl
  case hi => exact S5_size
  case h1 => exact bl_one fun _ => false
  have hn1 := ba_new w 30 #[.bool false, .bool false, .bool false, .bool false, .bool false, .bool false, .bool false, .bool false, .bool false, .bool false, .bool false, .bool false, .bool false, .bool false, .bool false, .bool false, .bool false, .bool false, .bool false, .bool false, .bool false, .bool false, .bool false, .bool false, .bool false, .bool false, .bool false, .bool false, .bool false, .bool false, .bool false, .bool false, .bool false, .bool false, .bool false, .bool false, .bool false, .bool false, .bool false, .bool false, .bool false, .bool false, .bool false, .bool false, .bool false, .bool false, .bool false, .bool false, .bool false, .bool false, .bool false, .bool false, .bool false, .bool false, .bool false, .bool false, .bool false, .bool false, .bool false, .bool false, .bool false, .bool false, .bool false, .bool false] (fun _ => false) rfl
  have hn2 := ba_new (w.alloc (.cells #[.bool false, .bool false, .bool false, .bool false, .bool false, .bool false, .bool false, .bool false, .bool false, .bool false, .bool false, .bool false, .bool false, .bool false, .bool false, .bool false, .bool false, .bool false, .bool false, .bool false, .bool false, .bool false, .bool false, .bool false, .bool false, .bool false, .bool false, .bool false, .bool false, .bool false, .bool false, .bool false, .bool false, .bool false, .bool false, .bool false, .bool false, .bool false, .bool false, .bool false, .bool false, .bool false, .bool false, .bool false, .bool false, .bool false, .bool false, .bool false, .bool false, .bool false, .bool false, .bool false, .bool false, .bool false, .bool false, .bool false, .bool false, .bool false, .bool false, .bool false, .bool false, .bool false, .bool false, .bool false] 30)) 30 #[.bool false, .bool false, .bool false, .bool false, .bool false, .bool false, .bool false, .bool false, .bool false, .bool false, .bool false, .bool false, .bool false, .bool false, .bool false, .bool false, .bool false, .bool false, .bool false, .bool false, .bool false, .bool false, .bool false, .bool false, .bool false, .bool false, .bool false, .bool false, .bool false, .bool false, .bool false, .bool false, .bool false, .bool false, .bool false, .bool false, .bool false, .bool false, .bool false, .bool false, .bool false, .bool false, .bool false, .bool false, .bool false, .bool false, .bool false, .bool false, .bool false, .bool false, .bool false, .bool false, .bool false, .bool false, .bool false, .bool false, .bool false, .bool false, .bool false, .bool false, .bool false, .bool false, .bool false, .bool false] (fun _ => false) rfl
  rw [World.size_alloc] at hn2
  have b2 := ba_setCells_off (b' := w.heap.size + 1) (hn1.ext ((Ext.refl _).alloc (.cells #[.bool false, .bool false, .bool false, .bool false, .bool false, .bool false, .bool false, .bool false, .bool false, .bool false, .bool false, .bool false, .bool false, .bool false, .bool false, .bool false, .bool false, .bool false, .bool false, .bool false, .bool false, .bool false, .bool false, .bool false, .bool false, .bool false, .bool false, .bool false, .bool false, .bool false, .bool false, .bool false, .bool false, .bool false, .bool false, .bool false, .bool false, .bool false, .bool false, .bool false, .bool false, .bool false, .bool false, .bool false, .bool false, .bool false, .bool false, .bool false, .bool false, .bool false, .bool false, .bool false, .bool false, .bool false, .bool false, .bool false, .bool false, .bool false, .bool false, .bool false, .bool false, .bool false, .bool false, .bool false] 30))) (by omega) (#[.bool false, .bool false, .bool false, .bool false, .bool false, .bool false, .bool false, .bool false, .bool false, .bool false, .bool false, .bool false, .bool false, .bool false, .bool false, .bool false, .bool false, .bool false, .bool false, .bool false, .bool false, .bool false, .bool false, .bool false, .bool false, .bool false, .bool false, .bool false, .bool false, .bool false, .bool false, .bool false, .bool false, .bool false, .bool false, .bool false, .bool false, .bool false, .bool false, .bool false, .bool false, .bool false, .bool false, .bool false, .bool false, .bool false, .bool false, .bool false, .bool false, .bool false, .bool false, .bool false, .bool false, .bool false, .bool false, .bool false, .bool false, .bool false, .bool false, .bool false, .bool false, .bool false, .bool false, .bool false]).toList
  have b3 := ba_setCells hn2 (fun _ => false) (#[.bool false, .bool false, .bool false, .bool false, .bool false, .bool false, .bool false, .bool false, .bool false, .bool false, .bool false, .bool false, .bool false, .bool false, .bool false, .bool false, .bool false, .bool false, .bool false, .bool false, .bool false, .bool false, .bool false, .bool false, .bool false, .bool false, .bool false, .bool false, .bool false, .bool false, .bool false, .bool false, .bool false, .bool false, .bool false, .bool false, .bool false, .bool false, .bool false, .bool false, .bool false, .bool false, .bool false, .bool false, .bool false, .bool false, .bool false, .bool false, .bool false, .bool false, .bool false, .bool false, .bool false, .bool false, .bool false, .bool false, .bool false, .bool false, .bool false, .bool false, .bool false, .bool false, .bool false, .bool false]).toList rfl
  have X1 := ext_setCells (a := w) (w.heap.size + 1) (by omega) (#[.bool false, .bool false, .bool false, .bool false, .bool false, .bool false, .bool false, .bool false, .bool false, .bool false, .bool false, .bool false, .bool false, .bool false, .bool false, .bool false, .bool false, .bool false, .bool false, .bool false, .bool false, .bool false, .bool false, .bool false, .bool false, .bool false, .bool false, .bool false, .bool false, .bool false, .bool false, .bool false, .bool false, .bool false, .bool false, .bool false, .bool false, .bool false, .bool false, .bool false, .bool false, .bool false, .bool false, .bool false, .bool false, .bool false, .bool false, .bool false, .bool false, .bool false, .bool false, .bool false, .bool false, .bool false, .bool false, .bool false, .bool false, .bool false, .bool false, .bool false, .bool false, .bool false, .bool false, .bool false]).toList 0 _ (((Ext.refl w).alloc (.cells #[.bool false, .bool false, .bool false, .bool false, .bool false, .bool false, .bool false, .bool false, .bool false, .bool false, .bool false, .bool false, .bool false, .bool false, .bool false, .bool false, .bool false, .bool false, .bool false, .bool false, .bool false, .bool false, .bool false, .bool false, .bool false, .bool false, .bool false, .bool false, .bool false, .bool false, .bool false, .bool false, .bool false, .bool false, .bool false, .bool false, .bool false, .bool false, .bool false, .bool false, .bool false, .bool false, .bool false, .bool false, .bool false, .bool false, .bool false, .bool false, .bool false, .bool false, .bool false, .bool false, .bool false, .bool false, .bool false, .bool false, .bool false, .bool false, .bool false, .bool false, .bool false, .bool false, .bool false, .bool false] 30)).alloc (.cells #[.bool false, .bool false, .bool false, .bool false, .bool false, .bool false, .bool false, .bool false, .bool false, .bool false, .bool false, .bool false, .bool false, .bool false, .bool false, .bool false, .bool false, .bool false, .bool false, .bool false, .bool false, .bool false, .bool false, .bool false, .bool false, .bool false, .bool false, .bool false, .bool false, .bool false, .bool false, .bool false, .bool false, .bool false, .bool false, .bool false, .bool false, .bool false, .bool false, .bool false, .bool false, .bool false, .bool false, .bool false, .bool false, .bool false, .bool false, .bool false, .bool false, .bool false, .bool false, .bool false, .bool false, .bool false, .bool false, .bool false, .bool false, .bool false, .bool false, .bool false, .bool false, .bool false, .bool false, .bool false] 30))
  simp only [] at b2 b3 X1
  generalize ((w.alloc (.cells #[.bool false, .bool false, .bool false, .bool false, .bool false, .bool false, .bool false, .bool false, .bool false, .bool false, .bool false, .bool false, .bool false, .bool false, .bool false, .bool false, .bool false, .bool false, .bool false, .bool false, .bool false, .bool false, .bool false, .bool false, .bool false, .bool false, .bool false, .bool false, .bool false, .bool false, .bool false, .bool false, .bool false, .bool false, .bool false, .bool false, .bool false, .bool false, .bool false, .bool false, .bool false, .bool false, .bool false, .bool false, .bool false, .bool false, .bool false, .bool false, .bool false, .bool false, .bool false, .bool false, .bool false, .bool false, .bool false, .bool false, .bool false, .bool false, .bool false, .bool false, .bool false, .bool false, .bool false, .bool false] 30)).alloc (.cells #[.bool false, .bool false, .bool false, .bool false, .bool false, .bool false, .bool false, .bool false, .bool false, .bool false, .bool false, .bool false, .bool false, .bool false, .bool false, .bool false, .bool false, .bool false, .bool false, .bool false, .bool false, .bool false, .bool false, .bool false, .bool false, .bool false, .bool false, .bool false, .bool false, .bool false, .bool false, .bool false, .bool false, .bool false, .bool false, .bool false, .bool false, .bool false, .bool false, .bool false, .bool false, .bool false, .bool false, .bool false, .bool false, .bool false, .bool false, .bool false, .bool false, .bool false, .bool false, .bool false, .bool false, .bool false, .bool false, .bool false, .bool false, .bool false, .bool false, .bool false, .bool false, .bool false, .bool false, .bool false] 30)).setCells (w.heap.size + 1) 0 _ = w1 at *
  go_loopw [5] (fun i wr => ∃ k : Nat, k ≤ n ∧ i = .int .i64 k ∧ BA wr w.heap.size (fun _ => false) ∧ BA wr (w.heap.size + 1) (gw (xs.take k)).testBit ∧ Ext w wr ∧ Hid (∀ i ∈ xs.take k, okI i = true)) (fun i _ => n - (intOf i).toNat)
  case atStart => exact ⟨0, Nat.zero_le _, rfl, b2, b3.congr (fun i _ => (hz0 i).symm), X1, Lib.hid fun i hi => by simp at hi⟩
  case round =>
    obtain ⟨k, hk, rfl, B2, B3, hX, HA⟩ := hrel
    clear b2 b3 X1 hn1 hn2 hz0
    by_cases hlt : k < n
    · have hxk : k < xs.length := by have := HN.out; omega
      obtain ⟨b, off, rfl, hc0⟩ := HC.out k hxk
      have hc := hX.cell hc0
      have hkn : (k : Int) < (n : Int) := by omega
      cases hin : okI (xs.getD k 0)
      · have HNO : Hid (¬ ∀ i ∈ xs, okI i = true) := Lib.hid (fun h => by have := h (xs.getD k 0) (by simp [hxk]); rw [hin] at this; cases this)
        generalize xs.getD k 0 = z at *
        clear HA hxk hc0
        go_wp2_with fail
        refine (rIn _ _).mono ?_
        rw [hin]
        rintro e w' ⟨rfl, rfl⟩
        go_wp2_with (with_reducible refine wpList_store_mid rfl _ (.tmp 2) (.tmp 19) rfl w.heap.size 0 _ rfl rfl ?hs1 ?hs2 ?hs3 ?_)
        case hs1 => exact B2.there rfl
        case hs2 => exact S5_size
        case hs3 => exact bl_one fun _ => false
        have B5 := ba_setCells B2 (0 : Nat).testBit (#[.bool false, .bool false, .bool false, .bool false, .bool false, .bool false, .bool false, .bool false, .bool false, .bool false, .bool false, .bool false, .bool false, .bool false, .bool false, .bool false, .bool false, .bool false, .bool false, .bool false, .bool false, .bool false, .bool false, .bool false, .bool false, .bool false, .bool false, .bool false, .bool false, .bool false, .bool false, .bool false, .bool false, .bool false, .bool false, .bool false, .bool false, .bool false, .bool false, .bool false, .bool false, .bool false, .bool false, .bool false, .bool false, .bool false, .bool false, .bool false, .bool false, .bool false, .bool false, .bool false, .bool false, .bool false, .bool false, .bool false, .bool false, .bool false, .bool false, .bool false, .bool false, .bool false, .bool false, .bool false]).toList rfl
        have X5 := ext_setCells w.heap.size (Nat.le_refl _) (#[.bool false, .bool false, .bool false, .bool false, .bool false, .bool false, .bool false, .bool false, .bool false, .bool false, .bool false, .bool false, .bool false, .bool false, .bool false, .bool false, .bool false, .bool false, .bool false, .bool false, .bool false, .bool false, .bool false, .bool false, .bool false, .bool false, .bool false, .bool false, .bool false, .bool false, .bool false, .bool false, .bool false, .bool false, .bool false, .bool false, .bool false, .bool false, .bool false, .bool false, .bool false, .bool false, .bool false, .bool false, .bool false, .bool false, .bool false, .bool false, .bool false, .bool false, .bool false, .bool false, .bool false, .bool false, .bool false, .bool false, .bool false, .bool false, .bool false, .bool false, .bool false, .bool false, .bool false, .bool false]).toList 0 _ hX
        simp only [] at B5 X5
        generalize wr.setCells w.heap.size 0 _ = w9 at *
        exact bodyPost_ret (v := .tuple #[.agg (bl (0 : Nat).testBit).toArray, .bool false]) (results_cell_tmp Tryd.results9 rfl (loadS5 B5)) rfl ⟨.inr ⟨HNO.out, rfl⟩, X5⟩
      · have S := gw_snoc xs k hxk
        have HA2 : Hid (∀ i ∈ xs.take (k + 1), okI i = true) := Lib.hid (fun i hi => by
          rw [List.take_succ_eq_append_getElem hxk] at hi
          rcases List.mem_append.1 hi with h | h
          · exact HA.out i h
          · simp at h; subst h; simpa [hxk] using hin)
        obtain ⟨m, hm⟩ := Int.eq_ofNat_of_zero_le ((okI_iff _).1 hin).1
        rw [hm] at hc hin S
        have hm64 : m < 64 := by have := ((okI_iff _).1 hin).2; omega
        rw [Int.toNat_natCast] at S
        have hmi : (m : Int) < 64 := by omega
        have c3 := B3.c m hm64
        have z3 := B3.z m hm64
        have HB2 := Lib.hid (ba_set_off (b' := w.heap.size + 1) (i := m) B2 (by omega) (.bool true))
        have HB3 := Lib.hid ((ba_set B3 true hm64).congr (fun i _ => gw_bit xs k m S i))
        have HX := Lib.hid (hX.setCell (p := ⟨w.heap.size + 1, m, none⟩) (by simp) (.bool true))
        clear S hm HA B2 B3 hX hc0 hxk
        go_wp2_with fail
        refine (rIn _ _).mono ?_
        rw [show okI (m : Int) = true from hin]
        rintro e w' ⟨rfl, rfl⟩
        go_wp2
        exact ⟨⟨k + 1, by omega, by go_num, HB2.out, HB3.out, HX.out, HA2⟩, by simp [intOf]; omega⟩
    · have e : xs.take k = xs := List.take_of_length_le (by have := HN.out; omega)
      rw [e] at B3 HA
      clear e
      go_wp2_with (first
        | (with_reducible refine wpList_load_mid rfl _ (.tmp 4) rfl (w.heap.size + 1) 0 rfl (bl (gw xs).testBit) _ B3.range S5_under rfl ?hl1 ?_)
        | (with_reducible refine wpList_store_mid rfl _ (.tmp 2) (.tmp 25) rfl w.heap.size 0 (bl (gw xs).testBit).toArray rfl rfl ?hs4 ?hs5 ?hs6 ?_))
      case hl1 => rw [bl_len]; exact S5_size
      case hs4 => exact B2.there (by simp [bl_len])
      case hs5 => rw [show (bl (gw xs).testBit).toArray.size = 64 by simp [bl_len]]; exact S5_size
      case hs6 => exact bl_one _
      have B5 := ba_setCells B2 (gw xs).testBit (bl (gw xs).testBit).toArray.toList rfl
      have X5 := ext_setCells w.heap.size (Nat.le_refl _) (bl (gw xs).testBit).toArray.toList 0 _ hX
      simp only [] at B5 X5
      generalize wr.setCells w.heap.size 0 _ = w9 at *
      exact bodyPost_ret (v := .tuple #[.agg (bl (gw xs).testBit).toArray, .bool true]) (results_cell_tmp Tryd.results9 rfl (loadS5 B5)) rfl ⟨.inl ⟨HA.out, rfl⟩, X5⟩
end Go.Proofs.YthdokmhbdjajaabDoor
