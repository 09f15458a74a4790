/- The walk of GroupTells, some cases. -/
import Derived.Test.YthdokmhbdjajaabDoorFree64
namespace Go.Proofs.YthdokmhbdjajaabDoor
open Go.RowKit
set_option linter.unusedVariables false
set_option maxHeartbeats 8000000
attribute [local go_sem] later_cell later_frozen later_const
set_option maxRecDepth 100000 in
theorem tells_out_nil_none (x : Nat) (i : Int) (hi : okI i = false) (h1 : -9223372036854775808 ≤ i) (h2 : i ≤ 9223372036854775807) (hL : bitsOf x = []) (hN : nxt x i = none) (w : World) (hx : x < 18446744073709551616) (hT : Tab w) :
    Calls Tryd.prog 4 #[.int .u64 x, .int .i64 i] w fun e w' => e = .returned (.bool true) ∧ Ext w w' := by
  have HT := Lib.hid hT
  have hlen := bits_len x
  have hn : ¬ (0 ≤ i ∧ i < 64) := by rw [← okI_iff, hi]; simp
  have CH := Lib.hid fun w => gHas_no x i w hx hn
  have CWi := Lib.hid fun w => gWith_no x i w hx hn
  have CWo := Lib.hid fun w => gWithout_no x i w hx hn
  have cin := fun w => rIn i w
  rw [hi] at cin
  have CIN := Lib.hid cin
  have CW1 := Lib.hid fun w => rWord x w hx
  have CW2 := Lib.hid fun w => rWord x w hx
  clear cin hn hi
  have cl := fun w hT => gLeast x w hx hT
  rw [hL] at cl
  have CL : Hid (∀ w, Tab w → Calls Tryd.prog 19 #[.int .u64 x] w fun e w' => e = .returned (.tuple #[.int .i64 0, .bool false]) ∧ w = w') := Lib.hid cl
  have cn := fun w hT => gNext x i w hx (by omega) (by omega) hT
  rw [hN] at cn
  have CN : Hid (∀ w, Tab w → Calls Tryd.prog 20 #[.int .u64 x, .int .i64 i] w fun e w' => e = .returned (.tuple #[.int .i64 0, .bool false]) ∧ w = w') := Lib.hid cn
  have cr := fun w => rNext5 x i w
  rw [hN] at cr
  have CR : Hid (∀ w, Calls Tryd.prog 21 #[.agg (bl x.testBit).toArray, .int .i64 i] w fun e w' => e = .returned (.int .i64 (-1)) ∧ Ext w w') := Lib.hid cr
  have CLN := Lib.hid fun w => gLen x w hx
  have CLI := Lib.hid fun w hT => gList x w hx hT
  have CRL := Lib.hid fun w => rList5 x w
  have HL := Lib.hid hL
  clear hT cl cn cr hN hL
  go_enter Tryd.func4, Tryd.ntmps4
  go_wp2_with fail
  refine (rSet x _ hx).mono ?_
  rintro e w1 ⟨rfl, X1⟩
  have hnew := ba_new w1 30 #[.bool false, .bool false, .bool false, .bool false, .bool false, .bool false, .bool false, .bool false, .bool false, .bool false, .bool false, .bool false, .bool false, .bool false, .bool false, .bool false, .bool false, .bool false, .bool false, .bool false, .bool false, .bool false, .bool false, .bool false, .bool false, .bool false, .bool false, .bool false, .bool false, .bool false, .bool false, .bool false, .bool false, .bool false, .bool false, .bool false, .bool false, .bool false, .bool false, .bool false, .bool false, .bool false, .bool false, .bool false, .bool false, .bool false, .bool false, .bool false, .bool false, .bool false, .bool false, .bool false, .bool false, .bool false, .bool false, .bool false, .bool false, .bool false, .bool false, .bool false, .bool false, .bool false, .bool false, .bool false] (fun _ => false) rfl
  go_upto_region 2 with (with_reducible refine wpList_store_mid rfl _ (.tmp 6) (.tmp 17) rfl w1.heap.size 0 (bl x.testBit).toArray rfl rfl ?hs1 ?hs2 ?hs3 ?_)
  case hs1 => exact hnew.there (by simp [bl_len])
  case hs2 => rw [show (bl x.testBit).toArray.size = 64 by simp [bl_len]]; exact S5_size
  case hs3 => exact bl_one _
  have B6 := ba_setCells hnew x.testBit (bl x.testBit).toArray.toList rfl
  have X2 := ext_setCells w1.heap.size X1.size (bl x.testBit).toArray.toList 0 _ (X1.alloc (.cells #[.bool false, .bool false, .bool false, .bool false, .bool false, .bool false, .bool false, .bool false, .bool false, .bool false, .bool false, .bool false, .bool false, .bool false, .bool false, .bool false, .bool false, .bool false, .bool false, .bool false, .bool false, .bool false, .bool false, .bool false, .bool false, .bool false, .bool false, .bool false, .bool false, .bool false, .bool false, .bool false, .bool false, .bool false, .bool false, .bool false, .bool false, .bool false, .bool false, .bool false, .bool false, .bool false, .bool false, .bool false, .bool false, .bool false, .bool false, .bool false, .bool false, .bool false, .bool false, .bool false, .bool false, .bool false, .bool false, .bool false, .bool false, .bool false, .bool false, .bool false, .bool false, .bool false, .bool false, .bool false] 30))
  simp only [] at B6 X2
  generalize (w1.alloc (.cells #[.bool false, .bool false, .bool false, .bool false, .bool false, .bool false, .bool false, .bool false, .bool false, .bool false, .bool false, .bool false, .bool false, .bool false, .bool false, .bool false, .bool false, .bool false, .bool false, .bool false, .bool false, .bool false, .bool false, .bool false, .bool false, .bool false, .bool false, .bool false, .bool false, .bool false, .bool false, .bool false, .bool false, .bool false, .bool false, .bool false, .bool false, .bool false, .bool false, .bool false, .bool false, .bool false, .bool false, .bool false, .bool false, .bool false, .bool false, .bool false, .bool false, .bool false, .bool false, .bool false, .bool false, .bool false, .bool false, .bool false, .bool false, .bool false, .bool false, .bool false, .bool false, .bool false, .bool false, .bool false] 30)).setCells w1.heap.size 0 _ = w2 at *
  have sw := X1.size
  clear hnew X1
  go_wp2_with (with_reducible refine wpList_load_mid rfl _ (.tmp 6) rfl w1.heap.size 0 rfl (bl x.testBit) _ B6.range S5_under rfl ?hl1 ?_)
  case hl1 => rw [bl_len]; exact S5_size
  refine (CRL.out _).mono ?_
  rintro e w3 ⟨v, rfl, hrow, X3⟩
  have B6' := B6.ext X3
  have X3' := X2.trans X3
  have HROW0 := Lib.hid (intsV_row (xs := (bitsOf x).map fun (j : Nat) => (j : Int)) (n := (bitsOf x).length) (by
    have := hrow
    unfold rowB at this
    rw [List.take_length] at this
    rw [List.map_map]
    exact this))
  have hvf : ∃ a cap, v = .slice a (bitsOf x).length cap := by
    rcases hrow.2 with ⟨e, h0⟩ | ⟨g, cap, cur, e, _⟩
    · rw [h0]; exact ⟨none, 0, e⟩
    · exact ⟨_, cap, e⟩
  obtain ⟨va, vc, rfl⟩ := hvf
  clear hrow X2 X3 B6
  have hll : (bitsOf x).length = 0 := by rw [HL.out]; rfl
  rw [hll] at hlen
  have cln := CLN.out
  simp only [hll] at cln ⊢
  have hr3 := HROW0.out
  rw [hll] at hr3
  have HROW := Lib.hid hr3
  clear hr3 HROW0
  have CLN2 := Lib.hid cln
  clear CLN cln hll
  go_wp2
  refine wp_freeE [.quiet, .quiet, .new (.cells #[.bool false, .bool false, .bool false, .bool false, .bool false, .bool false, .bool false, .bool false, .bool false, .bool false, .bool false, .bool false, .bool false, .bool false, .bool false, .bool false, .bool false, .bool false, .bool false, .bool false, .bool false, .bool false, .bool false, .bool false, .bool false, .bool false, .bool false, .bool false, .bool false, .bool false, .bool false, .bool false, .bool false, .bool false, .bool false, .bool false, .bool false, .bool false, .bool false, .bool false, .bool false, .bool false, .bool false, .bool false, .bool false, .bool false, .bool false, .bool false, .bool false, .bool false, .bool false, .bool false, .bool false, .bool false, .bool false, .bool false, .bool false, .bool false, .bool false, .bool false, .bool false, .bool false, .bool false, .bool false] 30), .new (.cells #[.bool false, .bool false, .bool false, .bool false, .bool false, .bool false, .bool false, .bool false, .bool false, .bool false, .bool false, .bool false, .bool false, .bool false, .bool false, .bool false, .bool false, .bool false, .bool false, .bool false, .bool false, .bool false, .bool false, .bool false, .bool false, .bool false, .bool false, .bool false, .bool false, .bool false, .bool false, .bool false, .bool false, .bool false, .bool false, .bool false, .bool false, .bool false, .bool false, .bool false, .bool false, .bool false, .bool false, .bool false, .bool false, .bool false, .bool false, .bool false, .bool false, .bool false, .bool false, .bool false, .bool false, .bool false, .bool false, .bool false, .bool false, .bool false, .bool false, .bool false, .bool false, .bool false, .bool false, .bool false] 30), .set 2 (.cells (bl x.testBit).toArray 30), .set 3 (.cells (bl x.testBit).toArray 30)] [(2, 8), (3, 9)] 120 (by kernel_rfl) (by kernel_rfl) (by kernel_rfl) rfl ?hnew1 ?_
  case hnew1 =>
    intro i o op hr ho ρ w
    match i, hr, ho with
    | 0, hr, ho => exact absurd hr (by intro h; cases h)
    | 1, hr, ho => exact absurd hr (by intro h; cases h)
    | 2, hr, ho => cases hr; cases ho; simp [go_sem]
    | 3, hr, ho => cases hr; cases ho; simp [go_sem]
    | 4, hr, ho => exact absurd hr (by intro h; cases h)
    | 5, hr, ho => exact absurd hr (by intro h; cases h)
    | i + 6, hr, ho => exact absurd hr (by intro h; cases h)
  apply Exists.intro
  refine ⟨?hwalk1, ?hset1, ?_⟩
  case hwalk1 =>
    intro F hF g0
    have lf : ∀ w' : World, (∃ g : LaterF w3 F, w' = g.world) → (Instr.loadAt 30 (.pointer (some ⟨w1.heap.size, 0, none⟩))).run Tryd.prog w' = .ok (.agg (bl x.testBit).toArray) w' := fun w' ⟨g, e⟩ => by rw [e]; exact loadAtS5 (B6'.ext g.ok)
    simp only [keepQ]
    refine quiet_load rfl _ (.tmp 6) rfl w1.heap.size rfl _ lf ?_
    simp only [Act.put, List.setIfInBounds_toArray, List.set_cons_succ, List.set_cons_zero]
    refine quiet_load rfl _ (.tmp 6) rfl w1.heap.size rfl _ lf ?_
    simp only [Act.put, List.setIfInBounds_toArray, List.set_cons_succ, List.set_cons_zero]
    exact wpQuiet_nil rfl
  case hset1 =>
    intro B i s o' op hr ho o hz w hw
    match i, hr, ho with
    | 0, hr, ho => exact absurd hr (by intro h; cases h)
    | 1, hr, ho => exact absurd hr (by intro h; cases h)
    | 2, hr, ho => exact absurd hr (by intro h; cases h)
    | 3, hr, ho => exact absurd hr (by intro h; cases h)
    | 4, hr, ho => cases hr; cases ho; cases hz; exact store64 (p := .tmp 8) (q := .tmp 20) rfl rfl rfl hw
    | 5, hr, ho => cases hr; cases ho; cases hz; exact store64 (p := .tmp 9) (q := .tmp 21) rfl rfl rfl hw
    | i + 6, hr, ho => exact absurd hr (by intro h; cases h)
  intro B w4 hb4 hN1
  have h8 : w4.heap[B 2]? = some (.cells (bl x.testBit).toArray 30) := hN1.holds 2 _ rfl rfl
  have h9 : w4.heap[B 3]? = some (.cells (bl x.testBit).toArray 30) := hN1.holds 3 _ rfl rfl
  have y8 : w3.heap.size ≤ B 2 := hN1.beyond 2 _ rfl rfl
  have y9 : w3.heap.size ≤ B 3 := hN1.beyond 3 _ rfl rfl
  have hne : B 2 ≠ B 3 := hN1.apart 2 3 _ _ rfl rfl rfl rfl (by decide)
  clear hN1
  simp only [withNews, List.foldl_cons, List.foldl_nil, Act.put, List.setIfInBounds_toArray, List.set_cons_succ, List.set_cons_zero]
  generalize B 2 = b8 at *
  generalize B 3 = b9 at *
  have B8 := ba_of_heap h8
  have B9 := ba_of_heap h9
  have B6 := B6'.ext hb4
  have X4 := X3'.trans hb4
  have s3 := X3'.size
  have s6 := B6'.lt
  clear h8 h9
  go_wp2_with fail
  refine (CIN.out _).mono ?_
  rintro e w' ⟨rfl, rfl⟩
  go_wp2
  obtain ⟨w5, hw5⟩ : ∃ w5, w5 = w4 := ⟨_, rfl⟩
  rw [← hw5] at B6 B8 B9 hb4 ⊢
  have E8 := B8
  have E9 := B9
  have E6 := B6
  have X35 := hb4
  clear hw5 B6 B8 B9
  have X5 := X3'.trans X35
  have HR5 := Lib.hid (HROW.out.ext X35)
  clear B6' X3' hb4 HROW X35 X4 hne y8 y9
  have l8 : ∀ w' : World, (∃ g : Later w5, w' = g.world) → (Instr.loadAt 30 (.pointer (some ⟨b8, 0, none⟩))).run Tryd.prog w' = .ok (.agg (bl x.testBit).toArray) w' := fun w' ⟨g, e⟩ => by rw [e]; exact loadAtS5 (E8.ext g.ok)
  have l9 : ∀ w' : World, (∃ g : Later w5, w' = g.world) → (Instr.loadAt 30 (.pointer (some ⟨b9, 0, none⟩))).run Tryd.prog w' = .ok (.agg (bl x.testBit).toArray) w' := fun w' ⟨g, e⟩ => by rw [e]; exact loadAtS5 (E9.ext g.ok)
  have L8 := Lib.hid l8
  have L9 := Lib.hid l9
  clear l8 l9 E8 E9
  refine wp_region_later (by kernel_rfl) (by kernel_rfl) ?_
  repeat (go_big_quiet_step ((fail)))
  go_big_quiet_step ((go_at_call 15; exact laterS (CH.out _)))
  repeat (go_big_quiet_step ((fail)))
  go_big_quiet_step ((go_at_call 14; exact laterS (CIN.out _)))
  repeat (go_big_quiet_step ((fail)))
  go_big_quiet_step ((go_at_call 16; exact laterS (CLN2.out _)))
  repeat (go_big_quiet_step ((fail)))
  go_big_quiet_step ((go_at_call 17; exact laterS (CWi.out _)))
  refine quiet_load rfl _ (.tmp 8) rfl b8 rfl _ L8.out ?_
  simp only [Act.put, List.setIfInBounds_toArray, List.set_cons_succ, List.set_cons_zero]
  go_big_quiet_step ((go_at_call 10; exact laterC (CW1.out _)))
  repeat (go_big_quiet_step ((fail)))
  go_big_quiet_step ((go_at_call 18; exact laterS (CWo.out _)))
  refine quiet_load rfl _ (.tmp 9) rfl b9 rfl _ L9.out ?_
  simp only [Act.put, List.setIfInBounds_toArray, List.set_cons_succ, List.set_cons_zero]
  go_big_quiet_step ((go_at_call 10; exact laterC (CW2.out _)))
  repeat (go_big_quiet_step ((fail)))
  refine wpQuiet_nil ?_
  intro w6 hl6
  have X56 := laters_ext hl6
  have X6 := X5.trans X56
  have F6 := E6.ext X56
  have HR6 := Lib.hid (HR5.out.ext X56)
  clear hl6 X56 X5 E6 HR5 L8 L9
  go_wp2_with fail
  refine (CL.out _ (HT.out.ext X6)).mono ?_
  rintro e w' ⟨rfl, rfl⟩
  go_wp2_with fail
  refine (CN.out _ (HT.out.ext X6)).mono ?_
  rintro e w' ⟨rfl, rfl⟩
  go_wp2_with (with_reducible refine wpList_load_mid rfl _ (.tmp 6) rfl w1.heap.size 0 rfl (bl x.testBit) _ F6.range S5_under rfl ?hl2 ?_)
  case hl2 => rw [bl_len]; exact S5_size
  refine (CR.out _).mono ?_
  rintro e w7 ⟨rfl, X67⟩
  have X7 := X6.trans X67
  have HR7 := Lib.hid (HR6.out.ext X67)
  clear F6 X67 X6 HR6
  go_wp2_with fail
  refine (CLI.out _ (HT.out.ext X7)).mono ?_
  rintro e w8 ⟨v2, rfl, hrow2, X78⟩
  have HR8 := Lib.hid (HR7.out.ext X78)
  have HQ8 := Lib.hid (intsV_row (xs := (bitsOf x).map fun (j : Nat) => (j : Int)) (n := (bitsOf x).length) (by
    have := hrow2
    unfold rowB at this
    rw [List.take_length] at this
    rw [List.map_map]
    exact this))
  have X8 := X7.trans X78
  clear hrow2 X78 HR7 X7
  go_wp2_with fail
  with_reducible refine (same5 _ _ _ _ HQ8.out HR8.out (by rw [List.length_map]; have := bits_len x; omega)).mono ?_
  rintro e w9 ⟨rfl, X89⟩
  have X9 := X8.trans X89
  go_wp2_with fail
  refine (live05 _ (HT.out.ext X9)).mono ?_
  rintro e w10 ⟨rfl, X10⟩
  go_wp2
  go_ret
  exact ⟨rfl, X9.trans X10⟩
end Go.Proofs.YthdokmhbdjajaabDoor
