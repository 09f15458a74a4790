/- The document's answers of layer 5, by rows of 64 truths. -/
import Derived.Test.YthdokmhbdjajaabDoorGrp3
import Derived.Test.YthdokmhbdjajaabDoorBArr
namespace Go.Proofs.YthdokmhbdjajaabDoor
open Go.RowKit
set_option linter.unusedVariables false
set_option maxHeartbeats 1000000
theorem S5_size : (Tryd.prog.info? 30).map (·.size) = some 64 := by kernel_rfl
theorem S5_under : Tryd.prog.underlying 30 = some (.array 64 4) := by kernel_rfl
theorem results_cell {P : Program} {fn : Func} {tmps : Array Value} {w : World} {a b : Nat} {t : TypeId} {v : Value} (hr : fn.results = #[.cell a t]) (ht : tmps[a]?.getD undef = .pointer (some ⟨b, 0, none⟩)) (hl : (loadVar t ⟨b, 0, none⟩).run P w = .ok v w) :
    (results fn tmps).run P w = .ok v w := by
  unfold results
  rw [hr]
  simp [ht, asAddr, hl]
theorem results_cell_tmp {P : Program} {fn : Func} {tmps : Array Value} {w : World} {a b c : Nat} {t : TypeId} {v : Value} (hr : fn.results = #[.cell a t, .tmp c]) (ht : tmps[a]?.getD undef = .pointer (some ⟨b, 0, none⟩)) (hl : (loadVar t ⟨b, 0, none⟩).run P w = .ok v w) :
    (results fn tmps).run P w = .ok (.tuple #[v, tmps[c]?.getD undef]) w := by
  unfold results
  rw [hr]
  simp [ht, asAddr, hl]
theorem loadS5 {w : World} {b : Nat} {f : Nat → Bool} (h : BA w b f) : (loadVar 30 ⟨b, 0, none⟩).run Tryd.prog w = .ok (.agg (bl f).toArray) w :=
  run_loadVar_mid w b 0 30 (bl f) _ h.range S5_under rfl (by rw [bl_len]; exact S5_size)
theorem testBit_mod (x k : Nat) : ((((x / 2 ^ k : Nat) : Int) % 2) == 1) = x.testBit k := by
  rw [Nat.testBit_eq_decide_div_mod_eq]
  generalize x / 2 ^ k = q
  rw [Bool.eq_iff_iff, beq_iff_eq, decide_eq_true_eq]
  omega
theorem div_step (x k : Nat) : ((x / 2 ^ k : Nat) : Int) / 2 = ((x / 2 ^ (k + 1) : Nat) : Int) := by
  rw [Nat.pow_succ, ← Nat.div_div_eq_div_mul]; omega
set_option maxRecDepth 100000 in
theorem rSet (x : Nat) (w : World) (hx : x < 18446744073709551616) : Calls Tryd.prog 12 #[.int .u64 x] w fun e w' => e = .returned (.agg (bl x.testBit).toArray) ∧ Ext w w' := by
  go_enter Tryd.func12, Tryd.ntmps12
  go_wp2_with (with_reducible refine wpList_store_mid rfl _ (.tmp 3) (.tmp 5) rfl _ 0 _ rfl rfl ?ht ?hi ?h1 ?_)
  case ht =>
    have := ba_new (w.alloc (.cells #[.bool false, .bool false, .bool false, .bool false, .bool false, .bool false, .bool false, .bool false, .bool false, .bool false, .bool false, .bool false, .bool false, .bool false, .bool false, .bool false, .bool false, .bool false, .bool false, .bool false, .bool false, .bool false, .bool false, .bool false, .bool false, .bool false, .bool false, .bool false, .bool false, .bool false, .bool false, .bool false, .bool false, .bool false, .bool false, .bool false, .bool false, .bool false, .bool false, .bool false, .bool false, .bool false, .bool false, .bool false, .bool false, .bool false, .bool false, .bool false, .bool false, .bool false, .bool false, .bool false, .bool false, .bool false, .bool false, .bool false, .bool false, .bool false, .bool false, .bool false, .bool false, .bool false, .bool false, .bool false] 30)) 30 #[.bool false, .bool false, .bool false, .bool false, .bool false, .bool false, .bool false, .bool false, .bool false, .bool false, .bool false, .bool false, .bool false, .bool false, .bool false, .bool false, .bool false, .bool false, .bool false, .bool false, .bool false, .bool false, .bool false, .bool false, .bool false, .bool false, .bool false, .bool false, .bool false, .bool false, .bool false, .bool false, .bool false, .bool false, .bool false, .bool false, .bool false, .bool false, .bool false, .bool false, .bool false, .bool false, .bool false, .bool false, .bool false, .bool false, .bool false, .bool false, .bool false, .bool false, .bool false, .bool false, .bool false, .bool false, .bool false, .bool false, .bool false, .bool false, .bool false, .bool false, .bool false, .bool false, .bool false, .bool false] (fun _ => false) rfl
    rw [World.size_alloc] at this
    exact this.there rfl
  case hi => exact S5_size
  case h1 => exact bl_one fun _ => false
  have hn1 := ba_new w 30 #[.bool false, .bool false, .bool false, .bool false, .bool false, .bool false, .bool false, .bool false, .bool false, .bool false, .bool false, .bool false, .bool false, .bool false, .bool false, .bool false, .bool false, .bool false, .bool false, .bool false, .bool false, .bool false, .bool false, .bool false, .bool false, .bool false, .bool false, .bool false, .bool false, .bool false, .bool false, .bool false, .bool false, .bool false, .bool false, .bool false, .bool false, .bool false, .bool false, .bool false, .bool false, .bool false, .bool false, .bool false, .bool false, .bool false, .bool false, .bool false, .bool false, .bool false, .bool false, .bool false, .bool false, .bool false, .bool false, .bool false, .bool false, .bool false, .bool false, .bool false, .bool false, .bool false, .bool false, .bool false] (fun _ => false) rfl
  have hn2 := ba_new (w.alloc (.cells #[.bool false, .bool false, .bool false, .bool false, .bool false, .bool false, .bool false, .bool false, .bool false, .bool false, .bool false, .bool false, .bool false, .bool false, .bool false, .bool false, .bool false, .bool false, .bool false, .bool false, .bool false, .bool false, .bool false, .bool false, .bool false, .bool false, .bool false, .bool false, .bool false, .bool false, .bool false, .bool false, .bool false, .bool false, .bool false, .bool false, .bool false, .bool false, .bool false, .bool false, .bool false, .bool false, .bool false, .bool false, .bool false, .bool false, .bool false, .bool false, .bool false, .bool false, .bool false, .bool false, .bool false, .bool false, .bool false, .bool false, .bool false, .bool false, .bool false, .bool false, .bool false, .bool false, .bool false, .bool false] 30)) 30 #[.bool false, .bool false, .bool false, .bool false, .bool false, .bool false, .bool false, .bool false, .bool false, .bool false, .bool false, .bool false, .bool false, .bool false, .bool false, .bool false, .bool false, .bool false, .bool false, .bool false, .bool false, .bool false, .bool false, .bool false, .bool false, .bool false, .bool false, .bool false, .bool false, .bool false, .bool false, .bool false, .bool false, .bool false, .bool false, .bool false, .bool false, .bool false, .bool false, .bool false, .bool false, .bool false, .bool false, .bool false, .bool false, .bool false, .bool false, .bool false, .bool false, .bool false, .bool false, .bool false, .bool false, .bool false, .bool false, .bool false, .bool false, .bool false, .bool false, .bool false, .bool false, .bool false, .bool false, .bool false] (fun _ => false) rfl
  rw [World.size_alloc] at hn2
  have b2 := ba_setCells_off (b' := w.heap.size + 1) (hn1.ext ((Ext.refl _).alloc (.cells #[.bool false, .bool false, .bool false, .bool false, .bool false, .bool false, .bool false, .bool false, .bool false, .bool false, .bool false, .bool false, .bool false, .bool false, .bool false, .bool false, .bool false, .bool false, .bool false, .bool false, .bool false, .bool false, .bool false, .bool false, .bool false, .bool false, .bool false, .bool false, .bool false, .bool false, .bool false, .bool false, .bool false, .bool false, .bool false, .bool false, .bool false, .bool false, .bool false, .bool false, .bool false, .bool false, .bool false, .bool false, .bool false, .bool false, .bool false, .bool false, .bool false, .bool false, .bool false, .bool false, .bool false, .bool false, .bool false, .bool false, .bool false, .bool false, .bool false, .bool false, .bool false, .bool false, .bool false, .bool false] 30))) (by omega) (#[.bool false, .bool false, .bool false, .bool false, .bool false, .bool false, .bool false, .bool false, .bool false, .bool false, .bool false, .bool false, .bool false, .bool false, .bool false, .bool false, .bool false, .bool false, .bool false, .bool false, .bool false, .bool false, .bool false, .bool false, .bool false, .bool false, .bool false, .bool false, .bool false, .bool false, .bool false, .bool false, .bool false, .bool false, .bool false, .bool false, .bool false, .bool false, .bool false, .bool false, .bool false, .bool false, .bool false, .bool false, .bool false, .bool false, .bool false, .bool false, .bool false, .bool false, .bool false, .bool false, .bool false, .bool false, .bool false, .bool false, .bool false, .bool false, .bool false, .bool false, .bool false, .bool false, .bool false, .bool false]).toList
  have b3 := ba_setCells hn2 (fun _ => false) (#[.bool false, .bool false, .bool false, .bool false, .bool false, .bool false, .bool false, .bool false, .bool false, .bool false, .bool false, .bool false, .bool false, .bool false, .bool false, .bool false, .bool false, .bool false, .bool false, .bool false, .bool false, .bool false, .bool false, .bool false, .bool false, .bool false, .bool false, .bool false, .bool false, .bool false, .bool false, .bool false, .bool false, .bool false, .bool false, .bool false, .bool false, .bool false, .bool false, .bool false, .bool false, .bool false, .bool false, .bool false, .bool false, .bool false, .bool false, .bool false, .bool false, .bool false, .bool false, .bool false, .bool false, .bool false, .bool false, .bool false, .bool false, .bool false, .bool false, .bool false, .bool false, .bool false, .bool false, .bool false]).toList rfl
  have X1 := ext_setCells (a := w) (w.heap.size + 1) (by omega) (#[.bool false, .bool false, .bool false, .bool false, .bool false, .bool false, .bool false, .bool false, .bool false, .bool false, .bool false, .bool false, .bool false, .bool false, .bool false, .bool false, .bool false, .bool false, .bool false, .bool false, .bool false, .bool false, .bool false, .bool false, .bool false, .bool false, .bool false, .bool false, .bool false, .bool false, .bool false, .bool false, .bool false, .bool false, .bool false, .bool false, .bool false, .bool false, .bool false, .bool false, .bool false, .bool false, .bool false, .bool false, .bool false, .bool false, .bool false, .bool false, .bool false, .bool false, .bool false, .bool false, .bool false, .bool false, .bool false, .bool false, .bool false, .bool false, .bool false, .bool false, .bool false, .bool false, .bool false, .bool false]).toList 0 _ (((Ext.refl w).alloc (.cells #[.bool false, .bool false, .bool false, .bool false, .bool false, .bool false, .bool false, .bool false, .bool false, .bool false, .bool false, .bool false, .bool false, .bool false, .bool false, .bool false, .bool false, .bool false, .bool false, .bool false, .bool false, .bool false, .bool false, .bool false, .bool false, .bool false, .bool false, .bool false, .bool false, .bool false, .bool false, .bool false, .bool false, .bool false, .bool false, .bool false, .bool false, .bool false, .bool false, .bool false, .bool false, .bool false, .bool false, .bool false, .bool false, .bool false, .bool false, .bool false, .bool false, .bool false, .bool false, .bool false, .bool false, .bool false, .bool false, .bool false, .bool false, .bool false, .bool false, .bool false, .bool false, .bool false, .bool false, .bool false] 30)).alloc (.cells #[.bool false, .bool false, .bool false, .bool false, .bool false, .bool false, .bool false, .bool false, .bool false, .bool false, .bool false, .bool false, .bool false, .bool false, .bool false, .bool false, .bool false, .bool false, .bool false, .bool false, .bool false, .bool false, .bool false, .bool false, .bool false, .bool false, .bool false, .bool false, .bool false, .bool false, .bool false, .bool false, .bool false, .bool false, .bool false, .bool false, .bool false, .bool false, .bool false, .bool false, .bool false, .bool false, .bool false, .bool false, .bool false, .bool false, .bool false, .bool false, .bool false, .bool false, .bool false, .bool false, .bool false, .bool false, .bool false, .bool false, .bool false, .bool false, .bool false, .bool false, .bool false, .bool false, .bool false, .bool false] 30))
  simp only [] at b2 b3 X1
  generalize ((w.alloc (.cells #[.bool false, .bool false, .bool false, .bool false, .bool false, .bool false, .bool false, .bool false, .bool false, .bool false, .bool false, .bool false, .bool false, .bool false, .bool false, .bool false, .bool false, .bool false, .bool false, .bool false, .bool false, .bool false, .bool false, .bool false, .bool false, .bool false, .bool false, .bool false, .bool false, .bool false, .bool false, .bool false, .bool false, .bool false, .bool false, .bool false, .bool false, .bool false, .bool false, .bool false, .bool false, .bool false, .bool false, .bool false, .bool false, .bool false, .bool false, .bool false, .bool false, .bool false, .bool false, .bool false, .bool false, .bool false, .bool false, .bool false, .bool false, .bool false, .bool false, .bool false, .bool false, .bool false, .bool false, .bool false] 30)).alloc (.cells #[.bool false, .bool false, .bool false, .bool false, .bool false, .bool false, .bool false, .bool false, .bool false, .bool false, .bool false, .bool false, .bool false, .bool false, .bool false, .bool false, .bool false, .bool false, .bool false, .bool false, .bool false, .bool false, .bool false, .bool false, .bool false, .bool false, .bool false, .bool false, .bool false, .bool false, .bool false, .bool false, .bool false, .bool false, .bool false, .bool false, .bool false, .bool false, .bool false, .bool false, .bool false, .bool false, .bool false, .bool false, .bool false, .bool false, .bool false, .bool false, .bool false, .bool false, .bool false, .bool false, .bool false, .bool false, .bool false, .bool false, .bool false, .bool false, .bool false, .bool false, .bool false, .bool false, .bool false, .bool false] 30)).setCells (w.heap.size + 1) 0 _ = w1 at *
  go_loopw [0, 4] (fun q i wr => ∃ k : Nat, k ≤ 64 ∧ i = .int .i64 k ∧ q = .int .u64 (x / 2 ^ k : Nat) ∧ BA wr w.heap.size (fun _ => false) ∧ BA wr (w.heap.size + 1) (fun j => decide (j < k) && x.testBit j) ∧ Ext w wr) (fun _ i _ => 64 - (intOf i).toNat)
  case atStart => exact ⟨0, by decide, rfl, by simp, b2, b3.congr (by simp), X1⟩
  case round =>
    obtain ⟨k, hk, rfl, rfl, B2, B3, hX⟩ := hrel
    clear b2 b3 X1 hn1 hn2
    by_cases hlt : k < 64
    · have hb := testBit_mod x k
      have hd := div_step x k
      have c3 := B3.c k hlt
      have z3 := B3.z k hlt
      have hq : x / 2 ^ k < 18446744073709551616 := Nat.lt_of_le_of_lt (Nat.div_le_self _ _) hx
      generalize x / 2 ^ k = q at *
      obtain ⟨q', hq'⟩ : ∃ q', q' = x / 2 ^ (k + 1) := ⟨_, rfl⟩
      rw [← hq'] at hd
      have HQ := Lib.hid hq'
      clear hq'
      have hkn : (k : Int) < 64 := by omega
      have HB2 := Lib.hid (ba_set_off (b' := w.heap.size + 1) (i := k) B2 (by omega) (.bool (x.testBit k)))
      have HB3 := Lib.hid ((ba_set B3 (x.testBit k) hlt).congr (g := fun j => decide (j < k + 1) && x.testBit j) (by
        intro i hi
        by_cases e : i = k
        · subst e; simp
        · rw [if_neg e]
          congr 1
          rw [decide_eq_decide]
          omega))
      have HX := Lib.hid (hX.setCell (p := ⟨w.heap.size + 1, k, none⟩) (by simp) (.bool (x.testBit k)))
      clear B2 B3 hX
      go_wp2
      exact ⟨⟨k + 1, by omega, by go_num, by rw [HQ.out], HB2.out, HB3.out, HX.out⟩, by simp [intOf]; omega⟩
    · obtain rfl : k = 64 := by omega
      have B4 := B3.congr (g := x.testBit) (by intro i hi; simp [hi])
      clear B3
      go_wp2_with (first
        | (with_reducible refine wpList_load_mid rfl _ (.tmp 3) rfl (w.heap.size + 1) 0 rfl (bl x.testBit) _ B4.range S5_under rfl ?hl1 ?_)
        | (with_reducible refine wpList_store_mid rfl _ (.tmp 2) (.tmp 17) rfl w.heap.size 0 (bl x.testBit).toArray rfl rfl ?hs1 ?hs2 ?hs3 ?_))
      case hl1 => rw [bl_len]; exact S5_size
      case hs1 => exact B2.there (by simp [bl_len])
      case hs2 => rw [show (bl x.testBit).toArray.size = 64 by simp [bl_len]]; exact S5_size
      case hs3 => exact bl_one _
      have B5 := ba_setCells B2 x.testBit (bl x.testBit).toArray.toList rfl
      have X5 := ext_setCells w.heap.size (Nat.le_refl _) (bl x.testBit).toArray.toList 0 _ hX
      simp only [] at B5 X5
      generalize wr.setCells w.heap.size 0 _ = w9 at *
      exact bodyPost_ret (v := .agg (bl x.testBit).toArray) (results_cell Tryd.results12 rfl (loadS5 B5)) rfl ⟨rfl, X5⟩
end Go.Proofs.YthdokmhbdjajaabDoor
