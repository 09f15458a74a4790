/- The document's answers of layer 9: Has, the table, Check. -/
import Derived.Test.YtkmfamidahlgiaaGreatDoorGrDfs
import Derived.Test.YtkmfamidahlgiaaGreatDoorLists
import Derived.Deep.DeepCutAuto
namespace Go.Proofs.YtkmfamidahlgiaaGreatDoor
open Go.RowKit
set_option linter.unusedVariables false
set_option maxHeartbeats 1000000
attribute [local go_sem] later_cell later_frozen later_const
theorem contains_step (xs : List Int) (n : Int) (k : Nat) (h : k < xs.length) : (xs.take (k + 1)).contains n = ((xs.take k).contains n || decide (xs.getD k 0 = n)) := by
  rw [List.take_succ_eq_append_getElem h, show xs.getD k 0 = xs[k] by simp [h]]
  rw [Bool.eq_iff_iff]
  simp only [List.contains_eq_mem, decide_eq_true_eq, List.mem_append, List.mem_singleton, Bool.or_eq_true]
  constructor
  · rintro (h | h)
    · exact .inl h
    · exact .inr h.symm
  · rintro (h | h)
    · exact .inl h
    · exact .inr h.symm
theorem rHas (v : Value) (xs : List Int) (n : Int) (w : World) (h : IntsV w v xs) (hl : xs.length ≤ 1000000) :
    Calls Tryz.prog 144 #[v, .int .i64 n] w fun e w' => e = .returned (.bool (xs.contains n)) ∧ w = w' := by
  obtain ⟨a, cap, rfl, hf⟩ := h.form
  have HF := Lib.hid hf
  clear h hf
  obtain ⟨m, hm⟩ : ∃ m, m = xs.length := ⟨_, rfl⟩
  rw [← hm] at hl ⊢
  have HM := Lib.hid hm
  clear hm
  generalize hb : xs.contains n = bo
  have HB := Lib.hid hb
  clear hb
  go_enter Tryz.func144, Tryz.ntmps144
  go_wp2
  go_loop [5] (fun i => ∃ k : Nat, k ≤ m ∧ i = .int .i64 k ∧ Hid ((xs.take k).contains n = false)) (fun i => m - (intOf i).toNat)
  case atStart => exact ⟨0, Nat.zero_le _, rfl, Lib.hid (by simp)⟩
  case round =>
    obtain ⟨k, hk, rfl, HA⟩ := hrel
    by_cases hlt : k < m
    · have hkx : k < xs.length := by have := HM.out; omega
      have hkn : (k : Int) < (m : Int) := by omega
      obtain ⟨b, off, ha, hcell⟩ := HF.out k hkx
      subst ha
      have hs := contains_step xs n k hkx
      rw [HA.out] at hs
      generalize xs.getD k 0 = z at *
      by_cases hz : z = n
      · have d : (z == n) = true := by simpa using hz
        have HBB : Hid (bo = true) := Lib.hid (by
          rw [← HB.out]
          have h1 : (xs.take (k + 1)).contains n = true := by rw [hs]; simpa using hz
          rw [List.contains_iff_mem] at h1 ⊢
          exact List.mem_of_mem_take h1)
        clear HA hs hkx hz
        go_wp2
        go_ret
        exact ⟨congrArg (fun x => Ending.returned (Value.bool x)) HBB.out.symm, rfl⟩
      · have d : (z == n) = false := by simpa using hz
        have HA2 : Hid ((xs.take (k + 1)).contains n = false) := Lib.hid (by rw [hs]; simpa using hz)
        clear HA hs hkx hz
        go_wp2
        exact ⟨⟨k + 1, by omega, by go_num, HA2⟩, by simp [intOf]; omega⟩
    · have e : xs.take k = xs := List.take_of_length_le (by have := HM.out; omega)
      have HBB : Hid (bo = false) := Lib.hid (by rw [← HB.out]; have := HA.out; rwa [e] at this)
      clear HA e
      go_wp2
      go_ret
      exact ⟨congrArg (fun x => Ending.returned (Value.bool x)) HBB.out.symm, rfl⟩
theorem T_size : (Tryz.prog.info? 202).map (·.size) = some 36 := by kernel_rfl
theorem T_under : Tryz.prog.underlying 202 = some (.array 6 (202 - 2)) := by kernel_rfl
def vb (f : Nat → Bool) (i : Nat) : Value := .bool (f i)
theorem vb_one (f : Nat → Bool) : (vl 36 (vb f)).toArray.all (·.oneCell') = true := vl_one fun _ _ => rfl
theorem loadT {w : World} {b : Nat} {f : Nat → Bool} (h : VA 36 w b (vb f)) : (loadVar 202 ⟨b, 0, none⟩).run Tryz.prog w = .ok (.agg (vl 36 (vb f)).toArray) w :=
  run_loadVar_mid w b 0 202 (vl 36 (vb f)) _ h.range T_under rfl (by rw [vl_len]; exact T_size)
set_option maxRecDepth 100000 in
theorem rOf9 (v : Value) (ups : List (List Int)) (w : World) (hN : Nms ups) (h6 : ups.length ≤ 6) (hL : ListsV w v ups) (hll : ∀ l ∈ ups, l.length ≤ 1000000) :
    Calls Tryz.prog 145 #[v] w fun e w' => e = .returned (.agg (vl 36 (vb (tab ups))).toArray) ∧ Ext w w' := by
  obtain ⟨a, cap, e, -⟩ := id hL
  subst e
  have HL := Lib.hid hL
  have HN := Lib.hid hN
  have HLL := Lib.hid hll
  clear hL hN hll
  go_enter Tryz.func145, Tryz.ntmps145
  go_wp2_with (with_reducible refine wpList_store_mid rfl _ (.tmp 3) (.tmp 9) rfl _ 0 _ rfl rfl ?ht ?hi ?h1 ?_)
  case ht =>
    have := va_new (n := 36) (w.alloc (.cells #[.bool false, .bool false, .bool false, .bool false, .bool false, .bool false, .bool false, .bool false, .bool false, .bool false, .bool false, .bool false, .bool false, .bool false, .bool false, .bool false, .bool false, .bool false, .bool false, .bool false, .bool false, .bool false, .bool false, .bool false, .bool false, .bool false, .bool false, .bool false, .bool false, .bool false, .bool false, .bool false, .bool false, .bool false, .bool false, .bool false] 202)) 202 #[.bool false, .bool false, .bool false, .bool false, .bool false, .bool false, .bool false, .bool false, .bool false, .bool false, .bool false, .bool false, .bool false, .bool false, .bool false, .bool false, .bool false, .bool false, .bool false, .bool false, .bool false, .bool false, .bool false, .bool false, .bool false, .bool false, .bool false, .bool false, .bool false, .bool false, .bool false, .bool false, .bool false, .bool false, .bool false, .bool false] (vb fun _ => false) rfl
    rw [World.size_alloc] at this
    exact this.there
  case hi => exact T_size
  case h1 => exact vb_one fun _ => false
  have hn1 := va_new (n := 36) w 202 #[.bool false, .bool false, .bool false, .bool false, .bool false, .bool false, .bool false, .bool false, .bool false, .bool false, .bool false, .bool false, .bool false, .bool false, .bool false, .bool false, .bool false, .bool false, .bool false, .bool false, .bool false, .bool false, .bool false, .bool false, .bool false, .bool false, .bool false, .bool false, .bool false, .bool false, .bool false, .bool false, .bool false, .bool false, .bool false, .bool false] (vb fun _ => false) rfl
  have hn2 := va_new (n := 36) (w.alloc (.cells #[.bool false, .bool false, .bool false, .bool false, .bool false, .bool false, .bool false, .bool false, .bool false, .bool false, .bool false, .bool false, .bool false, .bool false, .bool false, .bool false, .bool false, .bool false, .bool false, .bool false, .bool false, .bool false, .bool false, .bool false, .bool false, .bool false, .bool false, .bool false, .bool false, .bool false, .bool false, .bool false, .bool false, .bool false, .bool false, .bool false] 202)) 202 #[.bool false, .bool false, .bool false, .bool false, .bool false, .bool false, .bool false, .bool false, .bool false, .bool false, .bool false, .bool false, .bool false, .bool false, .bool false, .bool false, .bool false, .bool false, .bool false, .bool false, .bool false, .bool false, .bool false, .bool false, .bool false, .bool false, .bool false, .bool false, .bool false, .bool false, .bool false, .bool false, .bool false, .bool false, .bool false, .bool false] (vb fun _ => false) rfl
  rw [World.size_alloc] at hn2
  have b2 := va_setCells_off (b' := w.heap.size + 1) (hn1.ext ((Ext.refl _).alloc (.cells #[.bool false, .bool false, .bool false, .bool false, .bool false, .bool false, .bool false, .bool false, .bool false, .bool false, .bool false, .bool false, .bool false, .bool false, .bool false, .bool false, .bool false, .bool false, .bool false, .bool false, .bool false, .bool false, .bool false, .bool false, .bool false, .bool false, .bool false, .bool false, .bool false, .bool false, .bool false, .bool false, .bool false, .bool false, .bool false, .bool false] 202))) (by omega) (#[.bool false, .bool false, .bool false, .bool false, .bool false, .bool false, .bool false, .bool false, .bool false, .bool false, .bool false, .bool false, .bool false, .bool false, .bool false, .bool false, .bool false, .bool false, .bool false, .bool false, .bool false, .bool false, .bool false, .bool false, .bool false, .bool false, .bool false, .bool false, .bool false, .bool false, .bool false, .bool false, .bool false, .bool false, .bool false, .bool false]).toList
  have b3 := va_setCells hn2 (vb fun _ => false) (#[.bool false, .bool false, .bool false, .bool false, .bool false, .bool false, .bool false, .bool false, .bool false, .bool false, .bool false, .bool false, .bool false, .bool false, .bool false, .bool false, .bool false, .bool false, .bool false, .bool false, .bool false, .bool false, .bool false, .bool false, .bool false, .bool false, .bool false, .bool false, .bool false, .bool false, .bool false, .bool false, .bool false, .bool false, .bool false, .bool false]).toList rfl
  have X1 := ext_setCells (a := w) (w.heap.size + 1) (by omega) (#[.bool false, .bool false, .bool false, .bool false, .bool false, .bool false, .bool false, .bool false, .bool false, .bool false, .bool false, .bool false, .bool false, .bool false, .bool false, .bool false, .bool false, .bool false, .bool false, .bool false, .bool false, .bool false, .bool false, .bool false, .bool false, .bool false, .bool false, .bool false, .bool false, .bool false, .bool false, .bool false, .bool false, .bool false, .bool false, .bool false]).toList 0 _ (((Ext.refl w).alloc (.cells #[.bool false, .bool false, .bool false, .bool false, .bool false, .bool false, .bool false, .bool false, .bool false, .bool false, .bool false, .bool false, .bool false, .bool false, .bool false, .bool false, .bool false, .bool false, .bool false, .bool false, .bool false, .bool false, .bool false, .bool false, .bool false, .bool false, .bool false, .bool false, .bool false, .bool false, .bool false, .bool false, .bool false, .bool false, .bool false, .bool false] 202)).alloc (.cells #[.bool false, .bool false, .bool false, .bool false, .bool false, .bool false, .bool false, .bool false, .bool false, .bool false, .bool false, .bool false, .bool false, .bool false, .bool false, .bool false, .bool false, .bool false, .bool false, .bool false, .bool false, .bool false, .bool false, .bool false, .bool false, .bool false, .bool false, .bool false, .bool false, .bool false, .bool false, .bool false, .bool false, .bool false, .bool false, .bool false] 202))
  simp only [] at b2 b3 X1
  generalize ((w.alloc (.cells #[.bool false, .bool false, .bool false, .bool false, .bool false, .bool false, .bool false, .bool false, .bool false, .bool false, .bool false, .bool false, .bool false, .bool false, .bool false, .bool false, .bool false, .bool false, .bool false, .bool false, .bool false, .bool false, .bool false, .bool false, .bool false, .bool false, .bool false, .bool false, .bool false, .bool false, .bool false, .bool false, .bool false, .bool false, .bool false, .bool false] 202)).alloc (.cells #[.bool false, .bool false, .bool false, .bool false, .bool false, .bool false, .bool false, .bool false, .bool false, .bool false, .bool false, .bool false, .bool false, .bool false, .bool false, .bool false, .bool false, .bool false, .bool false, .bool false, .bool false, .bool false, .bool false, .bool false, .bool false, .bool false, .bool false, .bool false, .bool false, .bool false, .bool false, .bool false, .bool false, .bool false, .bool false, .bool false] 202)).setCells (w.heap.size + 1) 0 _ = w1 at *
  clear hn1 hn2
  obtain ⟨n, hn⟩ : ∃ n, n = ups.length := ⟨_, rfl⟩
  rw [← hn]
  rw [← hn] at h6
  have HE := Lib.hid hn
  clear hn
  go_wp2
  go_loopw [4] (fun i wr => ∃ c : Nat, c ≤ n ∧ i = .int .i64 c ∧ VA 36 wr w.heap.size (vb fun _ => false) ∧ VA 36 wr (w.heap.size + 1) (vb (preT ups c 0)) ∧ Ext w wr) (fun i _ => n - (intOf i).toNat)
  case atStart => exact ⟨0, Nat.zero_le _, rfl, b2, b3.congr (fun i _ => by simp only [vb, preT_zero]), X1⟩
  case round =>
    obtain ⟨c, hc, rfl, B2, B3, hX⟩ := hrel
    clear b2 b3 X1
    by_cases hlt : c < n
    · have hcu : c < ups.length := by have := HE.out; omega
      have hcn : (c : Int) < (n : Int) := by omega
      obtain ⟨b, off, u, cu, ha, hcell0, hI⟩ := HL.out.at (Ext.refl w) hcu
      subst ha
      obtain ⟨u', cu', eu, hform⟩ := hI.form
      cases eu
      have hlen : (ups.getD c []).length ≤ 1000000 := HLL.out _ (by rw [List.getD_eq_getElem?_getD, List.getElem?_eq_getElem hcu]; simp)
      have HF := Lib.hid hform
      obtain ⟨m, hm⟩ : ∃ m, m = (ups.getD c []).length := ⟨_, rfl⟩
      rw [← hm] at hlen hcell0
      have HM := Lib.hid hm
      clear hform hm hI
      have HB2 := Lib.hid B2
      have HB3 := Lib.hid B3
      have HX := Lib.hid hX
      clear B2 B3 hX
      go_wp2
      go_loopw [5] (fun i wr => ∃ k : Nat, k ≤ m ∧ i = .int .i64 k ∧ VA 36 wr w.heap.size (vb fun _ => false) ∧ VA 36 wr (w.heap.size + 1) (vb (preT ups c k)) ∧ Ext w wr) (fun i _ => m - (intOf i).toNat)
      case atStart => exact ⟨0, Nat.zero_le _, rfl, HB2.out, HB3.out, HX.out⟩
      case round =>
        obtain ⟨k, hk, rfl, B2, B3, hX⟩ := hrel
        have hcell := hX.cell hcell0
        by_cases hlt2 : k < m
        · have hkl : k < (ups.getD c []).length := by have := HM.out; omega
          obtain ⟨b1, o1, hu, hcl⟩ := HF.out k hkl
          subst hu
          have hkn : (k : Int) < (m : Int) := by omega
          have hget : (ups.getD c []).getD k 0 = (ups.getD c [])[k] := by
            generalize ups.getD c [] = l at *
            simp [hkl]
          have hmem : (ups.getD c [])[k] ∈ ups.getD c [] := List.getElem_mem hkl
          have hrange := (HN.out.at c).1 _ hmem
          obtain ⟨a1, ha1⟩ := Int.eq_ofNat_of_zero_le hrange.1
          rw [ha1] at hrange hget
          have ha6 : a1 < 6 := by have := HE.out; omega
          have hst := fun x => preT_step ups c k hkl a1 hget ha6 x
          rw [hget] at hcl
          have q1 := hX.cell hcl
          have HB2 := Lib.hid B2
          have HB3 := Lib.hid B3
          have HX := Lib.hid hX
          have HST := Lib.hid hst
          have ha6' : (a1 : Int) < 6 := by omega
          have hc6 : (c : Int) < 6 := by omega
          clear hst hget hmem hrange ha1 hcl B2 B3 hX hkl
          go_wp2
          refine wp_region_later_tail 10 (by kernel_rfl) (by kernel_rfl) ?_
          simp only [List.take_succ_cons, List.take_zero, List.drop_succ_cons, List.drop_zero]
          have l1 := fun (g : Later wr) => g.ok.cell hcell
          have l2 := fun (g : Later wr) => g.ok.cell q1
          repeat (go_big_quiet_step ((fail)))
          refine wpQuiet_nil ?_
          intro w6 hl6
          have X6 := laters_ext hl6
          clear hl6 l1 l2 hcell q1
          have B2 := HB2.out.ext X6
          have B3 := HB3.out.ext X6
          have hX := HX.out.trans X6
          clear HB2 HB3 HX
          have c3 := B3.c (c * 6 + a1) (by omega)
          have z3 := B3.z (c * 6 + a1) (by omega)
          have HB2 := Lib.hid (va_set_off (b' := w.heap.size + 1) (i := c * 6 + a1) B2 (by omega) (.bool true))
          have HB3 := Lib.hid ((va_set B3 (.bool true) (i := c * 6 + a1) (by omega)).congr (g := vb (preT ups c (k + 1))) (by
            intro i hi
            simp only [vb, HST.out]
            by_cases e : i = c * 6 + a1
            · rw [if_pos e, if_pos e]
            · rw [if_neg e, if_neg e]))
          have HX := Lib.hid (hX.setCell (p := ⟨w.heap.size + 1, c * 6 + a1, none⟩) (by simp) (.bool true))
          clear B2 B3 hX
          go_wp2
          exact ⟨⟨k + 1, by omega, by go_num, HB2.out, HB3.out, HX.out⟩, by simp [intOf]; omega⟩
        · have HB3 := Lib.hid (B3.congr (g := vb (preT ups (c + 1) 0)) (fun i _ => by
            rw [show k = (ups.getD c []).length by have := HM.out; omega]
            simp only [vb, preT_next]))
          have HB2 := Lib.hid B2
          have HX := Lib.hid hX
          clear B2 B3 hX
          go_wp2
          exact ⟨⟨c + 1, by omega, by go_num, HB2.out, HB3.out, HX.out⟩, by simp [intOf]; omega⟩
    · obtain rfl : c = n := by omega
      have hce := HE.out
      have HB2 := Lib.hid B2
      have HB3 := Lib.hid B3
      have HX := Lib.hid hX
      clear B2 B3 hX
      go_wp2
      go_loopw [6] (fun i wr => ∃ k : Nat, k ≤ 6 ∧ i = .int .i64 k ∧ VA 36 wr w.heap.size (vb fun _ => false) ∧ VA 36 wr (w.heap.size + 1) (vb (war (preT ups c 0) k)) ∧ Ext w wr) (fun i _ => 6 - (intOf i).toNat)
      case atStart => exact ⟨0, Nat.zero_le _, rfl, HB2.out, HB3.out, HX.out⟩
      case round =>
        obtain ⟨k, hk, rfl, B2, B3, hX⟩ := hrel
        clear HB2 HB3 HX
        by_cases hlt2 : k < 6
        · have hkn : (k : Int) < 6 := by omega
          have HB2 := Lib.hid B2
          have HB3 := Lib.hid B3
          have HX := Lib.hid hX
          clear B2 B3 hX
          obtain ⟨f, hf⟩ : ∃ f, f = war (preT ups c 0) k := ⟨_, rfl⟩
          rw [← hf] at HB3
          have HF := Lib.hid hf
          clear hf
          go_wp2
          go_loopw [7] (fun i wr => ∃ a : Nat, a ≤ 6 ∧ i = .int .i64 a ∧ VA 36 wr w.heap.size (vb fun _ => false) ∧ VA 36 wr (w.heap.size + 1) (vb (stg f k (a * 6))) ∧ Ext w wr) (fun i _ => 6 - (intOf i).toNat)
          case atStart => exact ⟨0, Nat.zero_le _, rfl, HB2.out, HB3.out.congr (fun i _ => by simp only [vb, Nat.zero_mul, stg_zero]), HX.out⟩
          case round =>
            obtain ⟨a, hka, rfl, B2, B3, hX⟩ := hrel
            clear HB2 HB3 HX
            by_cases hlt3 : a < 6
            · have han : (a : Int) < 6 := by omega
              have HB2 := Lib.hid B2
              have HB3 := Lib.hid B3
              have HX := Lib.hid hX
              clear B2 B3 hX
              go_wp2
              go_loopw [8] (fun i wr => ∃ b : Nat, b ≤ 6 ∧ i = .int .i64 b ∧ VA 36 wr w.heap.size (vb fun _ => false) ∧ VA 36 wr (w.heap.size + 1) (vb (stg f k (a * 6 + b))) ∧ Ext w wr) (fun i _ => 6 - (intOf i).toNat)
              case atStart => exact ⟨0, Nat.zero_le _, rfl, HB2.out, HB3.out, HX.out⟩
              case round =>
                obtain ⟨b, hkb, rfl, B2, B3, hX⟩ := hrel
                clear HB2 HB3 HX
                by_cases hlt4 : b < 6
                · have hbn : (b : Int) < 6 := by omega
                  have hst := fun x => stg_step f k a b hlt3 hlt4 x
                  have d0 := B3.c (a * 6 + b) (by omega)
                  have d1 := B3.c (a * 6 + k) (by omega)
                  have d2 := B3.c (k * 6 + b) (by omega)
                  simp only [vb] at d0 d1 d2
                  rw [stg_col f k _ a hlt2] at d1
                  rw [stg_row f k _ b hlt4] at d2
                  generalize stg f k (a * 6 + b) (a * 6 + b) = p0 at *
                  generalize f (a * 6 + k) = p1 at *
                  generalize f (k * 6 + b) = p2 at *
                  have HST := Lib.hid hst
                  have HB2 := Lib.hid B2
                  have HB3 := Lib.hid B3
                  have HX := Lib.hid hX
                  clear hst B2 B3 hX
                  go_wp2
                  cases p0 <;> cases p1 <;> cases p2 <;> (
                    refine wp_region_later_tail 23 (by kernel_rfl) (by kernel_rfl) ?_
                    simp only [List.take_succ_cons, List.take_zero, List.drop_succ_cons, List.drop_zero]
                    have l0 := fun (g : Later wr) => g.ok.cell d0
                    have l1 := fun (g : Later wr) => g.ok.cell d1
                    have l2 := fun (g : Later wr) => g.ok.cell d2
                    repeat (go_big_quiet_step ((fail)))
                    refine wpQuiet_nil ?_
                    intro w6 hl6
                    have X6 := laters_ext hl6
                    clear hl6 l0 l1 l2 d0 d1 d2
                    have B2 := HB2.out.ext X6
                    have B3 := HB3.out.ext X6
                    have hX := HX.out.trans X6
                    clear HB2 HB3 HX
                    have c3 := B3.c (a * 6 + b) (by omega)
                    have z3 := B3.z (a * 6 + b) (by omega)
                    go_wp2_with fail
                    refine ⟨⟨b + 1, by omega, by go_num, va_set_off (b' := w.heap.size + 1) (i := a * 6 + b) B2 (by omega) _, (va_set B3 _ (i := a * 6 + b) (by omega)).congr (g := vb (stg f k (a * 6 + (b + 1)))) ?_, hX.setCell (p := ⟨w.heap.size + 1, a * 6 + b, none⟩) (by simp) _⟩, by simp [intOf]; omega⟩
                    intro i hi
                    rw [← Nat.add_assoc]
                    simp only [vb, HST.out]
                    by_cases e : i = a * 6 + b
                    · rw [if_pos e, if_pos e]; rfl
                    · rw [if_neg e, if_neg e])
                · obtain rfl : b = 6 := by omega
                  have HB2 := Lib.hid B2
                  have HB3 := Lib.hid B3
                  have HX := Lib.hid hX
                  clear B2 B3 hX
                  go_wp2
                  exact ⟨⟨a + 1, by omega, by go_num, HB2.out, HB3.out.congr (fun i _ => by rw [show (a + 1) * 6 = a * 6 + 6 by omega]), HX.out⟩, by simp [intOf]; omega⟩
            · obtain rfl : a = 6 := by omega
              have HB2 := Lib.hid B2
              have HB3 := Lib.hid (B3.congr (g := vb (war (preT ups c 0) (k + 1))) (fun i _ => by rw [HF.out]; rfl))
              have HX := Lib.hid hX
              clear B2 B3 hX
              go_wp2
              exact ⟨⟨k + 1, by omega, by go_num, HB2.out, HB3.out, HX.out⟩, by simp [intOf]; omega⟩
        · obtain rfl : k = 6 := by omega
          have B4 := B3.congr (g := vb (tab ups)) (fun i _ => by unfold tab; rw [← HE.out])
          clear B3
          go_wp2_with (first
            | (with_reducible refine wpList_load_mid rfl _ (.tmp 3) rfl (w.heap.size + 1) 0 rfl (vl 36 (vb (tab ups))) _ B4.range T_under rfl ?hl1 ?_)
            | (with_reducible refine wpList_store_mid rfl _ (.tmp 2) (.tmp 70) rfl w.heap.size 0 (vl 36 (vb (tab ups))).toArray rfl rfl ?hs1 ?hs2 ?hs3 ?_))
          case hl1 => rw [vl_len]; exact T_size
          case hs1 => rw [show (vl 36 (vb (tab ups))).toArray.size = 36 by simp [vl_len]]; exact B2.there
          case hs2 => rw [show (vl 36 (vb (tab ups))).toArray.size = 36 by simp [vl_len]]; exact T_size
          case hs3 => exact vb_one _
          have B5 := va_setCells B2 (vb (tab ups)) (vl 36 (vb (tab ups))).toArray.toList rfl
          have X5 := ext_setCells w.heap.size (Nat.le_refl _) (vl 36 (vb (tab ups))).toArray.toList 0 _ hX
          simp only [] at B5 X5
          generalize wr.setCells w.heap.size 0 _ = w9 at *
          exact bodyPost_ret (v := .agg (vl 36 (vb (tab ups))).toArray) (results_cell Tryz.results145 rfl (loadT B5)) rfl ⟨rfl, X5⟩
theorem named_take {n : Nat} {l : List Int} {k : Nat} (h : Named n l) : Named n (l.take k) := ⟨fun x hx => h.1 x (List.mem_of_mem_take hx), h.2.sublist (List.take_sublist k l)⟩
theorem named_step {n : Nat} {l : List Int} {k : Nat} (hk : k < l.length) : Named n (l.take (k + 1)) ↔ Named n (l.take k) ∧ (0 ≤ l.getD k 0 ∧ l.getD k 0 < (n : Int)) ∧ (l.take k).contains (l.getD k 0) = false := by
  rw [List.take_succ_eq_append_getElem hk, show l.getD k 0 = l[k] by simp [hk]]
  generalize l[k] = z
  generalize l.take k = m
  unfold Named
  rw [List.nodup_append, ← Bool.not_eq_true, List.contains_iff_mem]
  constructor
  · rintro ⟨h1, h2, _, h3⟩
    exact ⟨⟨fun x hx => h1 x (by simp [hx]), h2⟩, h1 z (by simp), fun hz => h3 z hz z (by simp) rfl⟩
  · rintro ⟨⟨h1, h2⟩, h3, h4⟩
    refine ⟨fun x hx => ?_, h2, by simp, fun x hx y hy e => ?_⟩
    · rcases List.mem_append.1 hx with hx | hx
      · exact h1 x hx
      · simp at hx; subst hx; exact h3
    · simp at hy; subst hy; subst e; exact h4 hx
theorem nms_of' {ups : List (List Int)} (h : ∀ j, j < ups.length → Named ups.length (ups.getD j [])) : Nms ups := by
  intro l hl
  obtain ⟨j, hj, rfl⟩ := List.getElem_of_mem hl
  have := h j hj
  rwa [show ups.getD j [] = ups[j] by simp [hj]] at this
set_option maxRecDepth 100000 in
theorem rChk9 (v : Value) (ups : List (List Int)) (w : World) (hL : ListsV w v ups) (hll : ∀ l ∈ ups, l.length ≤ 1000000) (hn : ups.length ≤ 1000000) :
    Calls Tryz.prog 100 #[v] w fun e w' => e = .returned (.int .i64 (chk ups)) ∧ Ext w w' := by
  obtain ⟨a, cap, e, -⟩ := id hL
  subst e
  have HL := Lib.hid hL
  have HLL := Lib.hid hll
  clear hL hll
  obtain ⟨n, hN⟩ : ∃ n, n = ups.length := ⟨_, rfl⟩
  by_cases h1 : ups.length < 1 ∨ 6 < ups.length
  · have e : chk ups = 6 := by unfold chk; rw [if_pos h1]
    rw [e, ← hN]
    rw [← hN] at h1 hn
    clear e hN HL HLL
    rcases h1 with h1 | h1
    · have d : decide ((n : Int) < 1) = true := by simp; omega
      go_enter Tryz.func100, Tryz.ntmps100
      go_wp2
      go_ret
      exact ⟨rfl, Ext.refl _⟩
    · have d : decide ((n : Int) < 1) = false := by simp; omega
      have d2 : (6 : Int) < n := by omega
      go_enter Tryz.func100, Tryz.ntmps100
      go_wp2
      go_ret
      exact ⟨rfl, Ext.refl _⟩
  · have e : chk ups = if ¬ nmB ups = true then 7 else if (List.range ups.length).any (fun c => tab ups (c * 6 + c)) then 8 else 0 := by rw [chk, if_neg h1]
    rw [e, ← hN]
    rw [← hN] at h1 hn
    have d : decide ((n : Int) < 1) = false := by simp; omega
    have d2 : ¬ (6 : Int) < n := by omega
    have hn6 : n ≤ 6 := by omega
    have HE := Lib.hid hN
    clear e hN h1
    generalize hv : (if ¬ nmB ups = true then (7 : Int) else if (List.range n).any (fun c => tab ups (c * 6 + c)) then 8 else 0) = val
    have HV := Lib.hid hv
    clear hv
    go_enter Tryz.func100, Tryz.ntmps100
    go_wp2
    go_loop [3] (fun i => ∃ k : Nat, k ≤ n ∧ i = .int .i64 k ∧ Hid (∀ j, j < k → Named n (ups.getD j []))) (fun i => n - (intOf i).toNat)
    case atStart => exact ⟨0, Nat.zero_le _, rfl, Lib.hid fun j hj => by omega⟩
    case round =>
      obtain ⟨c, hc, rfl, HA⟩ := hrel
      by_cases hlt : c < n
      · have hcu : c < ups.length := by have := HE.out; omega
        have hcn : (c : Int) < (n : Int) := by omega
        obtain ⟨b, off, u, cu, ha, hcell, hI, hcap⟩ := HL.out.capAt (Ext.refl w) hcu
        subst ha
        obtain ⟨u', cu', eu, hform⟩ := hI.form
        cases eu
        have hlen : (ups.getD c []).length ≤ 1000000 := HLL.out _ (by rw [List.getD_eq_getElem?_getD, List.getElem?_eq_getElem hcu]; simp)
        have HF := Lib.hid hform
        have HI := Lib.hid hI
        have HNM : Hid (Nms ups → Named n (ups.getD c [])) := Lib.hid (fun h => by rw [HE.out]; exact h.at c)
        have HA2 : Hid (Named n (ups.getD c []) → ∀ j, j < c + 1 → Named n (ups.getD j [])) := Lib.hid (fun h j hj => by
          by_cases ej : j = c
          · subst ej; exact h
          · exact HA.out j (by omega))
        clear hform hI HA hcu
        generalize ups.getD c [] = l at *
        obtain ⟨m, hm⟩ : ∃ m, m = l.length := ⟨_, rfl⟩
        rw [← hm] at hlen hcell hcap HI
        have HM := Lib.hid hm
        clear hm
        go_wp2
        go_loop [4] (fun i => ∃ k : Nat, k ≤ m ∧ i = .int .i64 k ∧ Hid (Named n (l.take k))) (fun i => m - (intOf i).toNat)
        case atStart => exact ⟨0, Nat.zero_le _, rfl, Lib.hid ⟨fun x hx => by simp at hx, by simp⟩⟩
        case round =>
          obtain ⟨k, hk, rfl, HK⟩ := hrel
          by_cases hlt2 : k < m
          · have hkl : k < l.length := by have := HM.out; omega
            have hkm : (k : Int) < (m : Int) := by omega
            have hkc : k ≤ cu := by omega
            obtain ⟨b1, o1, hu, q1⟩ := HF.out k hkl
            subst hu
            have hst := named_step (n := n) hkl
            have HFR := intsV_front HI.out hkl k (by omega)
            have hno : ¬ Named n (l.take (k + 1)) → ¬ nmB ups = true := fun h1 h2 => h1 (named_take (HNM.out (nmB_iff.1 h2)))
            by_cases hz0 : l.getD k 0 < 0
            · have hv : (7 : Int) = val := by rw [← HV.out, if_pos (hno (fun h => by have := (hst.1 h).2.1.1; omega))]
              have HV7 := Lib.hid hv
              generalize l.getD k 0 = z at *
              have d3 : decide (z < 0) = true := by simpa using hz0
              clear hv hno hst HFR hkl hz0
              go_wp2
              go_ret
              exact ⟨congrArg (fun x => Ending.returned (Value.int .i64 x)) HV7.out, Ext.refl _⟩
            · by_cases hzn : (n : Int) ≤ l.getD k 0
              · have hv : (7 : Int) = val := by rw [← HV.out, if_pos (hno (fun h => by have := (hst.1 h).2.1.2; omega))]
                have HV7 := Lib.hid hv
                generalize l.getD k 0 = z at *
                have d3 : decide (z < 0) = false := by simpa using hz0
                have d4 : decide ((n : Int) ≤ z) = true := by simpa using hzn
                clear hv hno hst HFR hkl hz0 hzn
                go_wp2
                go_ret
                exact ⟨congrArg (fun x => Ending.returned (Value.int .i64 x)) HV7.out, Ext.refl _⟩
              · have CH := rHas _ _ (l.getD k 0) w HFR (by rw [List.length_take]; omega)
                cases hb : (l.take k).contains (l.getD k 0)
                · have HK2 : Hid (Named n (l.take (k + 1))) := Lib.hid (hst.2 ⟨HK.out, ⟨by omega, by omega⟩, hb⟩)
                  rw [hb] at CH
                  have HCH := Lib.hid CH
                  generalize l.getD k 0 = z at *
                  have d3 : decide (z < 0) = false := by simpa using hz0
                  have d4 : decide ((n : Int) ≤ z) = false := by simpa using hzn
                  clear CH hno hst HFR hkl hz0 hzn hb
                  go_wp2_with fail
                  refine HCH.out.mono ?_
                  rintro e w' ⟨rfl, rfl⟩
                  go_wp2
                  exact ⟨⟨k + 1, by omega, by go_num, HK2⟩, by simp [intOf]; omega⟩
                · have hv : (7 : Int) = val := by rw [← HV.out, if_pos (hno (fun h => by have := (hst.1 h).2.2; rw [hb] at this; cases this))]
                  have HV7 := Lib.hid hv
                  rw [hb] at CH
                  have HCH := Lib.hid CH
                  generalize l.getD k 0 = z at *
                  have d3 : decide (z < 0) = false := by simpa using hz0
                  have d4 : decide ((n : Int) ≤ z) = false := by simpa using hzn
                  clear CH hv hno hst HFR hkl hz0 hzn hb
                  go_wp2_with fail
                  refine HCH.out.mono ?_
                  rintro e w' ⟨rfl, rfl⟩
                  go_wp2
                  go_ret
                  exact ⟨congrArg (fun x => Ending.returned (Value.int .i64 x)) HV7.out, Ext.refl _⟩
          · have e : l.take k = l := List.take_of_length_le (by have := HM.out; omega)
            have hk2 := HK.out
            rw [e] at hk2
            have HA3 := Lib.hid (HA2.out hk2)
            clear e hk2
            go_wp2
            exact ⟨⟨c + 1, by omega, by go_num, HA3⟩, by simp [intOf]; omega⟩
      · have hnm : Nms ups := nms_of' fun j hj => by
          have e := HE.out
          rw [← e]
          exact HA.out j (by omega)
        have hv := HV.out
        rw [if_neg (fun h => h (nmB_iff.2 hnm))] at hv
        have HV2 := Lib.hid hv
        have CO := rOf9 _ ups w hnm (by have := HE.out; omega) HL.out HLL.out
        rw [← HE.out] at CO
        have HCO := Lib.hid CO
        clear hnm hv HA HV CO
        go_wp2_with fail
        refine HCO.out.mono ?_
        rintro e w3 ⟨rfl, hx3⟩
        go_wp2_with (with_reducible refine wpList_store_mid rfl _ (.tmp 6) (.tmp 57) rfl w3.heap.size 0 (vl 36 (vb (tab ups))).toArray rfl rfl ?ht ?hi ?h1 ?_)
        case ht =>
          rw [show (vl 36 (vb (tab ups))).toArray.size = 36 by simp [vl_len]]
          exact (va_new (n := 36) w3 202 #[.bool false, .bool false, .bool false, .bool false, .bool false, .bool false, .bool false, .bool false, .bool false, .bool false, .bool false, .bool false, .bool false, .bool false, .bool false, .bool false, .bool false, .bool false, .bool false, .bool false, .bool false, .bool false, .bool false, .bool false, .bool false, .bool false, .bool false, .bool false, .bool false, .bool false, .bool false, .bool false, .bool false, .bool false, .bool false, .bool false] (vb fun _ => false) rfl).there
        case hi => rw [show (vl 36 (vb (tab ups))).toArray.size = 36 by simp [vl_len]]; exact T_size
        case h1 => exact vb_one _
        have b3 := va_setCells (va_new (n := 36) w3 202 #[.bool false, .bool false, .bool false, .bool false, .bool false, .bool false, .bool false, .bool false, .bool false, .bool false, .bool false, .bool false, .bool false, .bool false, .bool false, .bool false, .bool false, .bool false, .bool false, .bool false, .bool false, .bool false, .bool false, .bool false, .bool false, .bool false, .bool false, .bool false, .bool false, .bool false, .bool false, .bool false, .bool false, .bool false, .bool false, .bool false] (vb fun _ => false) rfl) (vb (tab ups)) (vl 36 (vb (tab ups))).toArray.toList rfl
        have X1 := ext_setCells (a := w) w3.heap.size hx3.size (vl 36 (vb (tab ups))).toArray.toList 0 _ (hx3.alloc (.cells #[.bool false, .bool false, .bool false, .bool false, .bool false, .bool false, .bool false, .bool false, .bool false, .bool false, .bool false, .bool false, .bool false, .bool false, .bool false, .bool false, .bool false, .bool false, .bool false, .bool false, .bool false, .bool false, .bool false, .bool false, .bool false, .bool false, .bool false, .bool false, .bool false, .bool false, .bool false, .bool false, .bool false, .bool false, .bool false, .bool false] 202))
        simp only [] at b3 X1
        generalize (w3.alloc (.cells #[.bool false, .bool false, .bool false, .bool false, .bool false, .bool false, .bool false, .bool false, .bool false, .bool false, .bool false, .bool false, .bool false, .bool false, .bool false, .bool false, .bool false, .bool false, .bool false, .bool false, .bool false, .bool false, .bool false, .bool false, .bool false, .bool false, .bool false, .bool false, .bool false, .bool false, .bool false, .bool false, .bool false, .bool false, .bool false, .bool false] 202)).setCells w3.heap.size 0 _ = w4 at *
        have HX1 := Lib.hid X1
        have HB3 := Lib.hid b3
        clear X1 b3
        go_wp2
        go_loop [7] (fun i => ∃ k : Nat, k ≤ n ∧ i = .int .i64 k ∧ Hid (∀ j, j < k → tab ups (j * 6 + j) = false)) (fun i => n - (intOf i).toNat)
        case atStart => exact ⟨0, Nat.zero_le _, rfl, Lib.hid fun j hj => by omega⟩
        case round =>
          obtain ⟨c, hc, rfl, HA⟩ := hrel
          by_cases hlt : c < n
          · have hcn : (c : Int) < (n : Int) := by omega
            have hc6 : (c : Int) < 6 := by omega
            have q := HB3.out.c (c * 6 + c) (by omega)
            simp only [vb] at q
            cases hb : tab ups (c * 6 + c)
            · have HA2 : Hid (∀ j, j < c + 1 → tab ups (j * 6 + j) = false) := Lib.hid (fun j hj => by
                by_cases ej : j = c
                · subst ej; exact hb
                · exact HA.out j (by omega))
              rw [hb] at q
              clear hb HA
              go_wp2
              exact ⟨⟨c + 1, by omega, by go_num, HA2⟩, by simp [intOf]; omega⟩
            · have hany : ((List.range n).any fun c => tab ups (c * 6 + c)) = true := List.any_eq_true.2 ⟨c, by simpa using hlt, hb⟩
              have HV8 := Lib.hid (show (8 : Int) = val by rw [← HV2.out, if_pos hany])
              rw [hb] at q
              clear hany hb HA
              go_wp2
              go_ret
              exact ⟨congrArg (fun x => Ending.returned (Value.int .i64 x)) HV8.out, HX1.out⟩
          · have hno : ¬ ((List.range n).any fun c => tab ups (c * 6 + c)) = true := by
              intro hany
              obtain ⟨j, hj, ht⟩ := List.any_eq_true.1 hany
              have hj' : j < n := by simpa using hj
              have := HA.out j (by omega)
              rw [this] at ht
              cases ht
            have HV0 := Lib.hid (show (0 : Int) = val by rw [← HV2.out, if_neg hno])
            clear hno HA
            go_wp2
            go_ret
            exact ⟨congrArg (fun x => Ending.returned (Value.int .i64 x)) HV0.out, HX1.out⟩
end Go.Proofs.YtkmfamidahlgiaaGreatDoor
