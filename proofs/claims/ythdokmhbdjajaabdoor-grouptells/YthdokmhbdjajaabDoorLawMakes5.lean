/- The walk of GroupMakes. -/
import Derived.Test.YthdokmhbdjajaabDoorRef05b
import Derived.Test.YthdokmhbdjajaabDoorWMath
import Derived.Test.YthdokmhbdjajaabDoorOpen2
namespace Go.Proofs.YthdokmhbdjajaabDoor
open Go.RowKit
set_option linter.unusedVariables false
set_option maxHeartbeats 4000000
attribute [local go_sem] later_cell later_frozen later_const
theorem loadAtS5 {w : World} {b : Nat} {f : Nat → Bool} (h : BA w b f) : (Instr.loadAt 30 (.pointer (some ⟨b, 0, none⟩))).run Tryd.prog w = .ok (.agg (bl f).toArray) w :=
  run_loadAt_mid w b 0 30 (bl f) _ h.range S5_under rfl (by rw [bl_len]; exact S5_size)
theorem quiet_load {P : Program} {ops : Array Oper} {C : World → Prop} {Q : Act → Prop} {a : Act} {op : Oper} {rest : List Oper} (hw : Region.wanted op (yielded ops a.tmps) = true) (ty : TypeId) (x : Operand) (ho : op.op = .load ty x)
    (b : Nat) (hx : a.eval x = .pointer (some ⟨b, 0, none⟩)) (v : Value) (hC : ∀ w, C w → (Instr.loadAt ty (.pointer (some ⟨b, 0, none⟩))).run P w = .ok v w)
    (h : wpQuiet P ops C Q rest (a.put op.dst v)) : wpQuiet P ops C Q (op :: rest) a := by
  unfold wpQuiet
  rw [if_pos hw]
  refine ⟨v, fun w hw' => ?_, h⟩
  unfold Oper.quietAt execOp
  simp only [ho, hx, Sem.run_bind, hC w hw', Result.andThen_ok, Sem.run_pure]
  exact ⟨rfl, rfl⟩
/-- a slice that came in reads as its numbers -/
theorem intsV_of_row {w : World} {a : Option Addr} {len cap : Nat} {zs : List Int} (h : IsRow .i64 w a len cap zs) : IntsV w (.slice a len cap) (zs.take len) ∧ (zs.take len).length = len ∧ ∀ i ∈ zs.take len, (Lit.int .i64 i).wf = true := by
  rcases h with ⟨rfl, rfl, rfl, rfl⟩ | ⟨x, rfl, hl, hm, hz, hc, hw⟩
  · exact ⟨.inl ⟨none, 0, rfl, rfl⟩, rfl, by simp⟩
  · have hlen : (zs.take len).length = len := by rw [List.length_take]; omega
    refine ⟨?_, hlen, fun i hi => hw i (List.mem_of_mem_take hi)⟩
    by_cases h0 : len = 0
    · subst h0
      exact .inl ⟨some x, cap, rfl, by simp⟩
    · right
      have h1 := hc 0 (by omega)
      have hx := spot_none h1
      simp [Addr.add] at hx
      refine ⟨x.block, x.off, cap, by rw [hlen, ← hx], fun j hj => ?_⟩
      rw [hlen] at hj
      have h2 := hc j (by omega)
      rw [hx] at h2
      have e : (zs.take len).getD j 0 = zs.getD j 0 := by simp [hj]
      rw [e]
      by_cases hj0 : j = 0
      · subst hj0; simpa [Addr.add] using h2
      · simpa [Addr.add, hj0] using h2
set_option maxRecDepth 100000 in
theorem makes_true (a : Option Addr) (len cap : Nat) (n : Int) (X : Nat) (w : World) (hX : X < 18446744073709551616) (hl : len ≤ 200) (hT : Tab w)
    (c1 : ∀ w', Ext w w' → Calls Tryd.prog 8 #[.slice a len cap] w' fun e w'' => e = .returned (.tuple #[.int .u64 (X : Nat), .int .i64 0]) ∧ w' = w'')
    (c2 : ∀ w', Ext w w' → Calls Tryd.prog 9 #[.slice a len cap] w' fun e w'' => e = .returned (.tuple #[.agg (bl X.testBit).toArray, .bool true]) ∧ Ext w' w'') :
    Calls Tryd.prog 3 #[.slice a len cap, .int .i64 n] w fun e w' => e = .returned (.bool true) ∧ Ext w w' := by
  have d : decide (200 < (len : Int)) = false := by simp; omega
  have HT := Lib.hid hT
  have C1 := Lib.hid c1
  have C2 := Lib.hid c2
  obtain ⟨k, hk⟩ : ∃ k : Nat, min (max n 0) 64 = (k : Int) := ⟨(min (max n 0) 64).toNat, by omega⟩
  have cf := fun w => gFull n k w hk
  have CF := Lib.hid cf
  have HK := Lib.hid hk
  have hf := full_lt (k := k) (by omega)
  have cw1 := fun w => rWord X w hX
  have cw2 := fun w => rWord (2 ^ k - 1) w hf
  have CW1 := Lib.hid cw1
  have CW2 := Lib.hid cw2
  clear hT c1 c2 cf hk cw1 cw2
  go_enter Tryd.func3, Tryd.ntmps3
  go_wp2_with fail
  refine (C1.out _ (Ext.refl _)).mono ?_
  rintro e w' ⟨rfl, rfl⟩
  go_wp2_with fail
  refine (C2.out _ (Ext.refl _)).mono ?_
  rintro e w1 ⟨rfl, X1⟩
  have hnew := ba_new w1 30 #[.bool false, .bool false, .bool false, .bool false, .bool false, .bool false, .bool false, .bool false, .bool false, .bool false, .bool false, .bool false, .bool false, .bool false, .bool false, .bool false, .bool false, .bool false, .bool false, .bool false, .bool false, .bool false, .bool false, .bool false, .bool false, .bool false, .bool false, .bool false, .bool false, .bool false, .bool false, .bool false, .bool false, .bool false, .bool false, .bool false, .bool false, .bool false, .bool false, .bool false, .bool false, .bool false, .bool false, .bool false, .bool false, .bool false, .bool false, .bool false, .bool false, .bool false, .bool false, .bool false, .bool false, .bool false, .bool false, .bool false, .bool false, .bool false, .bool false, .bool false, .bool false, .bool false, .bool false, .bool false] (fun _ => false) rfl
  have s1 := X1.size
  go_upto_region 5 with (with_reducible refine wpList_store_mid rfl _ (.tmp 7) (.tmp 24) rfl w1.heap.size 0 (bl X.testBit).toArray rfl rfl ?hs1 ?hs2 ?hs3 ?_)
  case hs1 => exact hnew.there (by simp [bl_len])
  case hs2 => rw [show (bl X.testBit).toArray.size = 64 by simp [bl_len]]; exact S5_size
  case hs3 => exact bl_one _
  have B7 := ba_setCells hnew X.testBit (bl X.testBit).toArray.toList rfl
  have X7 := ext_setCells w1.heap.size X1.size (bl X.testBit).toArray.toList 0 _ (X1.alloc (.cells #[.bool false, .bool false, .bool false, .bool false, .bool false, .bool false, .bool false, .bool false, .bool false, .bool false, .bool false, .bool false, .bool false, .bool false, .bool false, .bool false, .bool false, .bool false, .bool false, .bool false, .bool false, .bool false, .bool false, .bool false, .bool false, .bool false, .bool false, .bool false, .bool false, .bool false, .bool false, .bool false, .bool false, .bool false, .bool false, .bool false, .bool false, .bool false, .bool false, .bool false, .bool false, .bool false, .bool false, .bool false, .bool false, .bool false, .bool false, .bool false, .bool false, .bool false, .bool false, .bool false, .bool false, .bool false, .bool false, .bool false, .bool false, .bool false, .bool false, .bool false, .bool false, .bool false, .bool false, .bool false] 30))
  simp only [] at B7 X7
  generalize (w1.alloc (.cells #[.bool false, .bool false, .bool false, .bool false, .bool false, .bool false, .bool false, .bool false, .bool false, .bool false, .bool false, .bool false, .bool false, .bool false, .bool false, .bool false, .bool false, .bool false, .bool false, .bool false, .bool false, .bool false, .bool false, .bool false, .bool false, .bool false, .bool false, .bool false, .bool false, .bool false, .bool false, .bool false, .bool false, .bool false, .bool false, .bool false, .bool false, .bool false, .bool false, .bool false, .bool false, .bool false, .bool false, .bool false, .bool false, .bool false, .bool false, .bool false, .bool false, .bool false, .bool false, .bool false, .bool false, .bool false, .bool false, .bool false, .bool false, .bool false, .bool false, .bool false, .bool false, .bool false, .bool false, .bool false] 30)).setCells w1.heap.size 0 _ = w2 at *
  have hnew2 := ba_new w2 30 #[.bool false, .bool false, .bool false, .bool false, .bool false, .bool false, .bool false, .bool false, .bool false, .bool false, .bool false, .bool false, .bool false, .bool false, .bool false, .bool false, .bool false, .bool false, .bool false, .bool false, .bool false, .bool false, .bool false, .bool false, .bool false, .bool false, .bool false, .bool false, .bool false, .bool false, .bool false, .bool false, .bool false, .bool false, .bool false, .bool false, .bool false, .bool false, .bool false, .bool false, .bool false, .bool false, .bool false, .bool false, .bool false, .bool false, .bool false, .bool false, .bool false, .bool false, .bool false, .bool false, .bool false, .bool false, .bool false, .bool false, .bool false, .bool false, .bool false, .bool false, .bool false, .bool false, .bool false, .bool false] (fun _ => false) rfl
  have s2 := X7.size
  have s3 := B7.lt
  clear hnew X1
  go_upto_region 9 with (with_reducible refine wpList_store_mid rfl _ (.tmp 10) (.tmp 28) rfl w2.heap.size 0 _ rfl rfl ?hs4 ?hs5 ?hs6 ?_)
  case hs4 => exact hnew2.there rfl
  case hs5 => first | exact S5_size | simpa using S5_size
  case hs6 => first | exact bl_one fun _ => false | rfl
  have B10 := ba_setCells hnew2 (fun _ => false) (#[.bool false, .bool false, .bool false, .bool false, .bool false, .bool false, .bool false, .bool false, .bool false, .bool false, .bool false, .bool false, .bool false, .bool false, .bool false, .bool false, .bool false, .bool false, .bool false, .bool false, .bool false, .bool false, .bool false, .bool false, .bool false, .bool false, .bool false, .bool false, .bool false, .bool false, .bool false, .bool false, .bool false, .bool false, .bool false, .bool false, .bool false, .bool false, .bool false, .bool false, .bool false, .bool false, .bool false, .bool false, .bool false, .bool false, .bool false, .bool false, .bool false, .bool false, .bool false, .bool false, .bool false, .bool false, .bool false, .bool false, .bool false, .bool false, .bool false, .bool false, .bool false, .bool false, .bool false, .bool false]).toList rfl
  have B7' := ba_setCells_off (b' := w2.heap.size) (B7.ext ((Ext.refl w2).alloc (.cells #[.bool false, .bool false, .bool false, .bool false, .bool false, .bool false, .bool false, .bool false, .bool false, .bool false, .bool false, .bool false, .bool false, .bool false, .bool false, .bool false, .bool false, .bool false, .bool false, .bool false, .bool false, .bool false, .bool false, .bool false, .bool false, .bool false, .bool false, .bool false, .bool false, .bool false, .bool false, .bool false, .bool false, .bool false, .bool false, .bool false, .bool false, .bool false, .bool false, .bool false, .bool false, .bool false, .bool false, .bool false, .bool false, .bool false, .bool false, .bool false, .bool false, .bool false, .bool false, .bool false, .bool false, .bool false, .bool false, .bool false, .bool false, .bool false, .bool false, .bool false, .bool false, .bool false, .bool false, .bool false] 30))) (by omega) (#[.bool false, .bool false, .bool false, .bool false, .bool false, .bool false, .bool false, .bool false, .bool false, .bool false, .bool false, .bool false, .bool false, .bool false, .bool false, .bool false, .bool false, .bool false, .bool false, .bool false, .bool false, .bool false, .bool false, .bool false, .bool false, .bool false, .bool false, .bool false, .bool false, .bool false, .bool false, .bool false, .bool false, .bool false, .bool false, .bool false, .bool false, .bool false, .bool false, .bool false, .bool false, .bool false, .bool false, .bool false, .bool false, .bool false, .bool false, .bool false, .bool false, .bool false, .bool false, .bool false, .bool false, .bool false, .bool false, .bool false, .bool false, .bool false, .bool false, .bool false, .bool false, .bool false, .bool false, .bool false]).toList
  have X10 := ext_setCells w2.heap.size s2 (#[.bool false, .bool false, .bool false, .bool false, .bool false, .bool false, .bool false, .bool false, .bool false, .bool false, .bool false, .bool false, .bool false, .bool false, .bool false, .bool false, .bool false, .bool false, .bool false, .bool false, .bool false, .bool false, .bool false, .bool false, .bool false, .bool false, .bool false, .bool false, .bool false, .bool false, .bool false, .bool false, .bool false, .bool false, .bool false, .bool false, .bool false, .bool false, .bool false, .bool false, .bool false, .bool false, .bool false, .bool false, .bool false, .bool false, .bool false, .bool false, .bool false, .bool false, .bool false, .bool false, .bool false, .bool false, .bool false, .bool false, .bool false, .bool false, .bool false, .bool false, .bool false, .bool false, .bool false, .bool false]).toList 0 _ (X7.alloc (.cells #[.bool false, .bool false, .bool false, .bool false, .bool false, .bool false, .bool false, .bool false, .bool false, .bool false, .bool false, .bool false, .bool false, .bool false, .bool false, .bool false, .bool false, .bool false, .bool false, .bool false, .bool false, .bool false, .bool false, .bool false, .bool false, .bool false, .bool false, .bool false, .bool false, .bool false, .bool false, .bool false, .bool false, .bool false, .bool false, .bool false, .bool false, .bool false, .bool false, .bool false, .bool false, .bool false, .bool false, .bool false, .bool false, .bool false, .bool false, .bool false, .bool false, .bool false, .bool false, .bool false, .bool false, .bool false, .bool false, .bool false, .bool false, .bool false, .bool false, .bool false, .bool false, .bool false, .bool false, .bool false] 30))
  simp only [] at B10 B7' X10
  generalize (w2.alloc (.cells #[.bool false, .bool false, .bool false, .bool false, .bool false, .bool false, .bool false, .bool false, .bool false, .bool false, .bool false, .bool false, .bool false, .bool false, .bool false, .bool false, .bool false, .bool false, .bool false, .bool false, .bool false, .bool false, .bool false, .bool false, .bool false, .bool false, .bool false, .bool false, .bool false, .bool false, .bool false, .bool false, .bool false, .bool false, .bool false, .bool false, .bool false, .bool false, .bool false, .bool false, .bool false, .bool false, .bool false, .bool false, .bool false, .bool false, .bool false, .bool false, .bool false, .bool false, .bool false, .bool false, .bool false, .bool false, .bool false, .bool false, .bool false, .bool false, .bool false, .bool false, .bool false, .bool false, .bool false, .bool false] 30)).setCells w2.heap.size 0 _ = w3 at *
  clear hnew2 B7 X7
  go_wp2
  go_loopw [11] (fun i wr => ∃ j : Nat, j ≤ 64 ∧ i = .int .i64 j ∧ BA wr w1.heap.size X.testBit ∧ BA wr w2.heap.size (fun m => decide (m < j) && decide ((m : Int) < n)) ∧ Ext w wr) (fun i _ => 64 - (intOf i).toNat)
  case atStart => exact ⟨0, by decide, rfl, B7', B10.congr (by simp), X10⟩
  case round =>
    obtain ⟨j, hj, rfl, BX, BF, hX3⟩ := hrel
    clear B7' B10 X10
    by_cases hlt : j < 64
    · have c3 := BF.c j hlt
      have z3 := BF.z j hlt
      have hjn : (j : Int) < 64 := by omega
      have HB2 := Lib.hid (ba_set_off (b' := w2.heap.size) (i := j) BX (by omega) (.bool (decide ((j : Int) < n))))
      have HB3 := Lib.hid ((ba_set BF (decide ((j : Int) < n)) hlt).congr (g := fun m => decide (m < j + 1) && decide ((m : Int) < n)) (by
        intro i hi
        by_cases e : i = j
        · subst e; simp
        · rw [if_neg e]
          congr 1
          rw [decide_eq_decide]
          omega))
      have HX := Lib.hid (hX3.setCell (p := ⟨w2.heap.size, j, none⟩) (by simpa using s2) (.bool (decide ((j : Int) < n))))
      clear BX BF hX3
      go_wp2
      exact ⟨⟨j + 1, by omega, by go_num, HB2.out, HB3.out, HX.out⟩, by simp [intOf]; omega⟩
    · obtain rfl : j = 64 := by omega
      have BG := BF.congr (g := (2 ^ k - 1).testBit) (by
        intro i hi
        have hk := HK.out
        rw [testBit_full, Bool.eq_iff_iff]
        simp [hi]
        omega)
      clear BF
      go_wp2
      refine wp_region_later (by kernel_rfl) (by kernel_rfl) ?_
      have l7 : ∀ w' : World, (∃ g : Later wr, w' = g.world) → (Instr.loadAt 30 (.pointer (some ⟨w1.heap.size, 0, none⟩))).run Tryd.prog w' = .ok (.agg (bl X.testBit).toArray) w' := fun w' ⟨g, e⟩ => by rw [e]; exact loadAtS5 (BX.ext g.ok)
      have l10 : ∀ w' : World, (∃ g : Later wr, w' = g.world) → (Instr.loadAt 30 (.pointer (some ⟨w2.heap.size, 0, none⟩))).run Tryd.prog w' = .ok (.agg (bl (2 ^ k - 1).testBit).toArray) w' := fun w' ⟨g, e⟩ => by rw [e]; exact loadAtS5 (BG.ext g.ok)
      have L7 := Lib.hid l7
      have L10 := Lib.hid l10
      clear BX BG l7 l10
      generalize (bl X.testBit).toArray = A1 at *
      generalize (bl (2 ^ k - 1).testBit).toArray = A2 at *
      go_big_quiet_step ((fail))
      refine quiet_load rfl _ (.tmp 7) rfl w1.heap.size rfl _ L7.out ?_
      simp only [Act.put, List.setIfInBounds_toArray, List.set_cons_succ, List.set_cons_zero]
      go_big_quiet_step ((go_at_call 10; exact laterC (CW1.out _)))
      repeat (go_big_quiet_step ((fail)))
      go_big_quiet_step ((go_at_call 11; exact laterS (CF.out _)))
      refine quiet_load rfl _ (.tmp 10) rfl w2.heap.size rfl _ L10.out ?_
      simp only [Act.put, List.setIfInBounds_toArray, List.set_cons_succ, List.set_cons_zero]
      go_big_quiet_step ((go_at_call 10; exact laterC (CW2.out _)))
      repeat (go_big_quiet_step ((fail)))
      go_big_quiet_step ((go_at_call 7; exact laterC (live05 _ (HT.out.ext (hX3.trans (Later.ok _))))))
      repeat (go_big_quiet_step ((fail)))
      refine wpQuiet_nil ?_
      intro w6 hl6
      have X6 := laters_ext hl6
      clear hl6
      go_wp2
      go_ret
      exact ⟨rfl, hX3.trans X6⟩
set_option maxRecDepth 100000 in
theorem makes_false (a : Option Addr) (len cap : Nat) (n : Int) (X : Nat) (w : World) (hX : X < 18446744073709551616) (hl : len ≤ 200) (hT : Tab w)
    (c1 : ∀ w', Ext w w' → Calls Tryd.prog 8 #[.slice a len cap] w' fun e w'' => e = .returned (.tuple #[.int .u64 (X : Nat), .int .i64 1]) ∧ w' = w'')
    (c2 : ∀ w', Ext w w' → Calls Tryd.prog 9 #[.slice a len cap] w' fun e w'' => e = .returned (.tuple #[.agg (bl X.testBit).toArray, .bool false]) ∧ Ext w' w'') :
    Calls Tryd.prog 3 #[.slice a len cap, .int .i64 n] w fun e w' => e = .returned (.bool true) ∧ Ext w w' := by
  have d : decide (200 < (len : Int)) = false := by simp; omega
  have HT := Lib.hid hT
  have C1 := Lib.hid c1
  have C2 := Lib.hid c2
  obtain ⟨k, hk⟩ : ∃ k : Nat, min (max n 0) 64 = (k : Int) := ⟨(min (max n 0) 64).toNat, by omega⟩
  have cf := fun w => gFull n k w hk
  have CF := Lib.hid cf
  have HK := Lib.hid hk
  have hf := full_lt (k := k) (by omega)
  have cw1 := fun w => rWord X w hX
  have cw2 := fun w => rWord (2 ^ k - 1) w hf
  have CW1 := Lib.hid cw1
  have CW2 := Lib.hid cw2
  clear hT c1 c2 cf hk cw1 cw2
  go_enter Tryd.func3, Tryd.ntmps3
  go_wp2_with fail
  refine (C1.out _ (Ext.refl _)).mono ?_
  rintro e w' ⟨rfl, rfl⟩
  go_wp2_with fail
  refine (C2.out _ (Ext.refl _)).mono ?_
  rintro e w1 ⟨rfl, X1⟩
  have hnew := ba_new w1 30 #[.bool false, .bool false, .bool false, .bool false, .bool false, .bool false, .bool false, .bool false, .bool false, .bool false, .bool false, .bool false, .bool false, .bool false, .bool false, .bool false, .bool false, .bool false, .bool false, .bool false, .bool false, .bool false, .bool false, .bool false, .bool false, .bool false, .bool false, .bool false, .bool false, .bool false, .bool false, .bool false, .bool false, .bool false, .bool false, .bool false, .bool false, .bool false, .bool false, .bool false, .bool false, .bool false, .bool false, .bool false, .bool false, .bool false, .bool false, .bool false, .bool false, .bool false, .bool false, .bool false, .bool false, .bool false, .bool false, .bool false, .bool false, .bool false, .bool false, .bool false, .bool false, .bool false, .bool false, .bool false] (fun _ => false) rfl
  have s1 := X1.size
  go_upto_region 5 with (with_reducible refine wpList_store_mid rfl _ (.tmp 7) (.tmp 24) rfl w1.heap.size 0 (bl X.testBit).toArray rfl rfl ?hs1 ?hs2 ?hs3 ?_)
  case hs1 => exact hnew.there (by simp [bl_len])
  case hs2 => rw [show (bl X.testBit).toArray.size = 64 by simp [bl_len]]; exact S5_size
  case hs3 => exact bl_one _
  have B7 := ba_setCells hnew X.testBit (bl X.testBit).toArray.toList rfl
  have X7 := ext_setCells w1.heap.size X1.size (bl X.testBit).toArray.toList 0 _ (X1.alloc (.cells #[.bool false, .bool false, .bool false, .bool false, .bool false, .bool false, .bool false, .bool false, .bool false, .bool false, .bool false, .bool false, .bool false, .bool false, .bool false, .bool false, .bool false, .bool false, .bool false, .bool false, .bool false, .bool false, .bool false, .bool false, .bool false, .bool false, .bool false, .bool false, .bool false, .bool false, .bool false, .bool false, .bool false, .bool false, .bool false, .bool false, .bool false, .bool false, .bool false, .bool false, .bool false, .bool false, .bool false, .bool false, .bool false, .bool false, .bool false, .bool false, .bool false, .bool false, .bool false, .bool false, .bool false, .bool false, .bool false, .bool false, .bool false, .bool false, .bool false, .bool false, .bool false, .bool false, .bool false, .bool false] 30))
  simp only [] at B7 X7
  generalize (w1.alloc (.cells #[.bool false, .bool false, .bool false, .bool false, .bool false, .bool false, .bool false, .bool false, .bool false, .bool false, .bool false, .bool false, .bool false, .bool false, .bool false, .bool false, .bool false, .bool false, .bool false, .bool false, .bool false, .bool false, .bool false, .bool false, .bool false, .bool false, .bool false, .bool false, .bool false, .bool false, .bool false, .bool false, .bool false, .bool false, .bool false, .bool false, .bool false, .bool false, .bool false, .bool false, .bool false, .bool false, .bool false, .bool false, .bool false, .bool false, .bool false, .bool false, .bool false, .bool false, .bool false, .bool false, .bool false, .bool false, .bool false, .bool false, .bool false, .bool false, .bool false, .bool false, .bool false, .bool false, .bool false, .bool false] 30)).setCells w1.heap.size 0 _ = w2 at *
  have hnew2 := ba_new w2 30 #[.bool false, .bool false, .bool false, .bool false, .bool false, .bool false, .bool false, .bool false, .bool false, .bool false, .bool false, .bool false, .bool false, .bool false, .bool false, .bool false, .bool false, .bool false, .bool false, .bool false, .bool false, .bool false, .bool false, .bool false, .bool false, .bool false, .bool false, .bool false, .bool false, .bool false, .bool false, .bool false, .bool false, .bool false, .bool false, .bool false, .bool false, .bool false, .bool false, .bool false, .bool false, .bool false, .bool false, .bool false, .bool false, .bool false, .bool false, .bool false, .bool false, .bool false, .bool false, .bool false, .bool false, .bool false, .bool false, .bool false, .bool false, .bool false, .bool false, .bool false, .bool false, .bool false, .bool false, .bool false] (fun _ => false) rfl
  have s2 := X7.size
  have s3 := B7.lt
  clear hnew X1
  go_upto_region 9 with (with_reducible refine wpList_store_mid rfl _ (.tmp 10) (.tmp 28) rfl w2.heap.size 0 _ rfl rfl ?hs4 ?hs5 ?hs6 ?_)
  case hs4 => exact hnew2.there rfl
  case hs5 => first | exact S5_size | simpa using S5_size
  case hs6 => first | exact bl_one fun _ => false | rfl
  have B10 := ba_setCells hnew2 (fun _ => false) (#[.bool false, .bool false, .bool false, .bool false, .bool false, .bool false, .bool false, .bool false, .bool false, .bool false, .bool false, .bool false, .bool false, .bool false, .bool false, .bool false, .bool false, .bool false, .bool false, .bool false, .bool false, .bool false, .bool false, .bool false, .bool false, .bool false, .bool false, .bool false, .bool false, .bool false, .bool false, .bool false, .bool false, .bool false, .bool false, .bool false, .bool false, .bool false, .bool false, .bool false, .bool false, .bool false, .bool false, .bool false, .bool false, .bool false, .bool false, .bool false, .bool false, .bool false, .bool false, .bool false, .bool false, .bool false, .bool false, .bool false, .bool false, .bool false, .bool false, .bool false, .bool false, .bool false, .bool false, .bool false]).toList rfl
  have B7' := ba_setCells_off (b' := w2.heap.size) (B7.ext ((Ext.refl w2).alloc (.cells #[.bool false, .bool false, .bool false, .bool false, .bool false, .bool false, .bool false, .bool false, .bool false, .bool false, .bool false, .bool false, .bool false, .bool false, .bool false, .bool false, .bool false, .bool false, .bool false, .bool false, .bool false, .bool false, .bool false, .bool false, .bool false, .bool false, .bool false, .bool false, .bool false, .bool false, .bool false, .bool false, .bool false, .bool false, .bool false, .bool false, .bool false, .bool false, .bool false, .bool false, .bool false, .bool false, .bool false, .bool false, .bool false, .bool false, .bool false, .bool false, .bool false, .bool false, .bool false, .bool false, .bool false, .bool false, .bool false, .bool false, .bool false, .bool false, .bool false, .bool false, .bool false, .bool false, .bool false, .bool false] 30))) (by omega) (#[.bool false, .bool false, .bool false, .bool false, .bool false, .bool false, .bool false, .bool false, .bool false, .bool false, .bool false, .bool false, .bool false, .bool false, .bool false, .bool false, .bool false, .bool false, .bool false, .bool false, .bool false, .bool false, .bool false, .bool false, .bool false, .bool false, .bool false, .bool false, .bool false, .bool false, .bool false, .bool false, .bool false, .bool false, .bool false, .bool false, .bool false, .bool false, .bool false, .bool false, .bool false, .bool false, .bool false, .bool false, .bool false, .bool false, .bool false, .bool false, .bool false, .bool false, .bool false, .bool false, .bool false, .bool false, .bool false, .bool false, .bool false, .bool false, .bool false, .bool false, .bool false, .bool false, .bool false, .bool false]).toList
  have X10 := ext_setCells w2.heap.size s2 (#[.bool false, .bool false, .bool false, .bool false, .bool false, .bool false, .bool false, .bool false, .bool false, .bool false, .bool false, .bool false, .bool false, .bool false, .bool false, .bool false, .bool false, .bool false, .bool false, .bool false, .bool false, .bool false, .bool false, .bool false, .bool false, .bool false, .bool false, .bool false, .bool false, .bool false, .bool false, .bool false, .bool false, .bool false, .bool false, .bool false, .bool false, .bool false, .bool false, .bool false, .bool false, .bool false, .bool false, .bool false, .bool false, .bool false, .bool false, .bool false, .bool false, .bool false, .bool false, .bool false, .bool false, .bool false, .bool false, .bool false, .bool false, .bool false, .bool false, .bool false, .bool false, .bool false, .bool false, .bool false]).toList 0 _ (X7.alloc (.cells #[.bool false, .bool false, .bool false, .bool false, .bool false, .bool false, .bool false, .bool false, .bool false, .bool false, .bool false, .bool false, .bool false, .bool false, .bool false, .bool false, .bool false, .bool false, .bool false, .bool false, .bool false, .bool false, .bool false, .bool false, .bool false, .bool false, .bool false, .bool false, .bool false, .bool false, .bool false, .bool false, .bool false, .bool false, .bool false, .bool false, .bool false, .bool false, .bool false, .bool false, .bool false, .bool false, .bool false, .bool false, .bool false, .bool false, .bool false, .bool false, .bool false, .bool false, .bool false, .bool false, .bool false, .bool false, .bool false, .bool false, .bool false, .bool false, .bool false, .bool false, .bool false, .bool false, .bool false, .bool false] 30))
  simp only [] at B10 B7' X10
  generalize (w2.alloc (.cells #[.bool false, .bool false, .bool false, .bool false, .bool false, .bool false, .bool false, .bool false, .bool false, .bool false, .bool false, .bool false, .bool false, .bool false, .bool false, .bool false, .bool false, .bool false, .bool false, .bool false, .bool false, .bool false, .bool false, .bool false, .bool false, .bool false, .bool false, .bool false, .bool false, .bool false, .bool false, .bool false, .bool false, .bool false, .bool false, .bool false, .bool false, .bool false, .bool false, .bool false, .bool false, .bool false, .bool false, .bool false, .bool false, .bool false, .bool false, .bool false, .bool false, .bool false, .bool false, .bool false, .bool false, .bool false, .bool false, .bool false, .bool false, .bool false, .bool false, .bool false, .bool false, .bool false, .bool false, .bool false] 30)).setCells w2.heap.size 0 _ = w3 at *
  clear hnew2 B7 X7
  go_wp2
  go_loopw [11] (fun i wr => ∃ j : Nat, j ≤ 64 ∧ i = .int .i64 j ∧ BA wr w1.heap.size X.testBit ∧ BA wr w2.heap.size (fun m => decide (m < j) && decide ((m : Int) < n)) ∧ Ext w wr) (fun i _ => 64 - (intOf i).toNat)
  case atStart => exact ⟨0, by decide, rfl, B7', B10.congr (by simp), X10⟩
  case round =>
    obtain ⟨j, hj, rfl, BX, BF, hX3⟩ := hrel
    clear B7' B10 X10
    by_cases hlt : j < 64
    · have c3 := BF.c j hlt
      have z3 := BF.z j hlt
      have hjn : (j : Int) < 64 := by omega
      have HB2 := Lib.hid (ba_set_off (b' := w2.heap.size) (i := j) BX (by omega) (.bool (decide ((j : Int) < n))))
      have HB3 := Lib.hid ((ba_set BF (decide ((j : Int) < n)) hlt).congr (g := fun m => decide (m < j + 1) && decide ((m : Int) < n)) (by
        intro i hi
        by_cases e : i = j
        · subst e; simp
        · rw [if_neg e]
          congr 1
          rw [decide_eq_decide]
          omega))
      have HX := Lib.hid (hX3.setCell (p := ⟨w2.heap.size, j, none⟩) (by simpa using s2) (.bool (decide ((j : Int) < n))))
      clear BX BF hX3
      go_wp2
      exact ⟨⟨j + 1, by omega, by go_num, HB2.out, HB3.out, HX.out⟩, by simp [intOf]; omega⟩
    · obtain rfl : j = 64 := by omega
      have BG := BF.congr (g := (2 ^ k - 1).testBit) (by
        intro i hi
        have hk := HK.out
        rw [testBit_full, Bool.eq_iff_iff]
        simp [hi]
        omega)
      clear BF
      go_wp2
      refine wp_region_later (by kernel_rfl) (by kernel_rfl) ?_
      have l7 : ∀ w' : World, (∃ g : Later wr, w' = g.world) → (Instr.loadAt 30 (.pointer (some ⟨w1.heap.size, 0, none⟩))).run Tryd.prog w' = .ok (.agg (bl X.testBit).toArray) w' := fun w' ⟨g, e⟩ => by rw [e]; exact loadAtS5 (BX.ext g.ok)
      have l10 : ∀ w' : World, (∃ g : Later wr, w' = g.world) → (Instr.loadAt 30 (.pointer (some ⟨w2.heap.size, 0, none⟩))).run Tryd.prog w' = .ok (.agg (bl (2 ^ k - 1).testBit).toArray) w' := fun w' ⟨g, e⟩ => by rw [e]; exact loadAtS5 (BG.ext g.ok)
      have L7 := Lib.hid l7
      have L10 := Lib.hid l10
      clear BX BG l7 l10
      generalize (bl X.testBit).toArray = A1 at *
      generalize (bl (2 ^ k - 1).testBit).toArray = A2 at *
      go_big_quiet_step ((fail))
      refine quiet_load rfl _ (.tmp 7) rfl w1.heap.size rfl _ L7.out ?_
      simp only [Act.put, List.setIfInBounds_toArray, List.set_cons_succ, List.set_cons_zero]
      go_big_quiet_step ((go_at_call 10; exact laterC (CW1.out _)))
      repeat (go_big_quiet_step ((fail)))
      go_big_quiet_step ((go_at_call 11; exact laterS (CF.out _)))
      refine quiet_load rfl _ (.tmp 10) rfl w2.heap.size rfl _ L10.out ?_
      simp only [Act.put, List.setIfInBounds_toArray, List.set_cons_succ, List.set_cons_zero]
      go_big_quiet_step ((go_at_call 10; exact laterC (CW2.out _)))
      repeat (go_big_quiet_step ((fail)))
      go_big_quiet_step ((go_at_call 7; exact laterC (live05 _ (HT.out.ext (hX3.trans (Later.ok _))))))
      repeat (go_big_quiet_step ((fail)))
      refine wpQuiet_nil ?_
      intro w6 hl6
      have X6 := laters_ext hl6
      clear hl6
      go_wp2
      go_ret
      exact ⟨rfl, hX3.trans X6⟩
theorem groupMakes_walk (a : Option Addr) (len cap : Nat) (zs : List Int) (n : Int) (w : World) (h : IsRow .i64 w a len cap zs) (w1 : (Lit.int .i64 n).wf = true) (hT : Tab w) :
    Calls Tryd.prog 3 #[.slice a len cap, .int .i64 n] w fun e w' => e = .returned (.bool true) ∧ Below w.heap.size w w' := by
  by_cases hl : 200 < len
  · have d : decide (200 < (len : Int)) = true := by simp; omega
    have HT := Lib.hid hT
    clear hT h
    go_enter Tryd.func3, Tryd.ntmps3
    go_wp2_with fail
    refine (live05 _ HT.out).mono ?_
    rintro e w1 ⟨rfl, X1⟩
    go_wp2
    go_ret
    exact ⟨rfl, X1.below⟩
  · obtain ⟨hv, hlen, _⟩ := intsV_of_row h
    generalize zs.take len = xs at *
    by_cases hok : ∀ i ∈ xs, okI i = true
    · refine (makes_true a len cap n (gw xs) w (gw_lt xs hok) (by omega) hT (fun w' hx => gOf_yes _ xs w' (hv.ext hx) (by omega) hok) (fun w' hx => (rOf5 _ xs w' (hv.ext hx) (by omega)).mono ?_)).mono fun e w' ⟨h, hx⟩ => ⟨h, hx.below⟩
      rintro e w'' ⟨h1 | h1, hx2⟩
      · exact ⟨h1.2, hx2⟩
      · exact absurd hok h1.1
    · refine (makes_false a len cap n 0 w (by decide) (by omega) hT (fun w' hx => gOf_no _ xs w' (hv.ext hx) (by omega) hok) (fun w' hx => (rOf5 _ xs w' (hv.ext hx) (by omega)).mono ?_)).mono fun e w' ⟨h, hx⟩ => ⟨h, hx.below⟩
      rintro e w'' ⟨h1 | h1, hx2⟩
      · exact absurd h1.1 hok
      · exact ⟨h1.2, hx2⟩
end Go.Proofs.YthdokmhbdjajaabDoor
