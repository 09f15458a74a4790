/- The document's answers of layer 3: Pieces. -/
import Derived.Test.YtclhbdedibcgjaaRef03
import Derived.Test.YtclhbdedibcgjaaRef02
import Derived.Test.YtclhbdedibcgjaaLaw03a
import Derived.RegionTactic
import Derived.ChangeAlike
import Derived.BigRegion
namespace Go.Proofs.Ytclhbdedibcgjaa
open Go.RowKit
set_option linter.unusedVariables false
set_option maxHeartbeats 1000000
attribute [local go_sem] later_cell later_frozen later_const
theorem flat1 (a b : Int) : flat [(a, b)] = [.int .i64 a, .int .i64 b] := rfl
theorem flat2 (a b c d : Int) : flat [(a, b), (c, d)] = [.int .i64 a, .int .i64 b, .int .i64 c, .int .i64 d] := rfl
/-- the last piece grows by one: in a row of one -/
theorem grow1 {w : World} {base g cap : Nat} {a b : Int} (h : w.ownsRow base 67 2 (.slice (some ⟨g, 0, none⟩) 1 cap) 1 (flat [(a, b)])) :
    w.cell? ⟨g, 1, none⟩ = some (.int .i64 b) ∧ w.frozen? ⟨g, 1, none⟩ = false ∧ (w.setCell ⟨g, 1, none⟩ (.int .i64 (b + 1))).ownsRow base 67 2 (.slice (some ⟨g, 0, none⟩) 1 cap) 1 (flat [(a, b + 1)]) := by
  refine ⟨by rw [h.cellAt 1 (by omega)]; rfl, h.frozenAt 1, ?_⟩
  have := (h.stored 1 (.int .i64 (b + 1))).1
  simpa [flat1] using this
/-- .. of two -/
theorem grow2 {w : World} {base g cap : Nat} {a b c d : Int} (h : w.ownsRow base 67 2 (.slice (some ⟨g, 0, none⟩) 2 cap) 2 (flat [(a, b), (c, d)])) :
    w.cell? ⟨g, 3, none⟩ = some (.int .i64 d) ∧ w.frozen? ⟨g, 3, none⟩ = false ∧ (w.setCell ⟨g, 3, none⟩ (.int .i64 (d + 1))).ownsRow base 67 2 (.slice (some ⟨g, 0, none⟩) 2 cap) 2 (flat [(a, b), (c, d + 1)]) := by
  refine ⟨by rw [h.cellAt 3 (by omega)]; rfl, h.frozenAt 3, ?_⟩
  have := (h.stored 3 (.int .i64 (d + 1))).1
  simpa [flat2] using this
theorem row_form {w : World} {base e sz : Nat} {v : Value} {k : Nat} {xs : List Value} (h : w.ownsRow base e sz v k xs) (hk : 0 < k) : ∃ g cap, v = .slice (some ⟨g, 0, none⟩) k cap ∧ base ≤ g := by
  obtain ⟨g, cap, hv, hb, _⟩ := h.form hk
  exact ⟨g, cap, hv, hb⟩
theorem but_drew {w : World} {base e sz : Nat} {v : Value} {n : Nat} {xs : List Value} (h : w.ownsRow base e sz v n xs) : w.drew.ownsRow base e sz v n xs := h
theorem slot_lo {c s k : Int} (h0 : 0 ≤ s) (hk : 0 ≤ k) (h : s + k < c) : (s + k) % c = s + k := Int.emod_eq_of_lt (by omega) h
theorem slot_hi {c s k : Int} (hs : s < c) (hk : k < c) (h : c ≤ s + k) : (s + k) % c = s + k - c := by
  rw [← Int.sub_emod_right, Int.emod_eq_of_lt (by omega) (by omega)]
theorem add_slot {c : Int} (f k : Int) : (f % c + k) % c = (f + k) % c := Int.emod_add_emod f c k
def P3Does32 (w : World) (cs : List (Int × Int)) (e : Ending) (w' : World) : Prop := ∃ v, e = .returned v ∧ PcsAt w' v cs ∧ Ext w w'
set_option maxRecDepth 100000 in
theorem r3Pieces32 (f c : Int) (n : Nat) (w : World) (hc : rightB c = true) (hn : n ≤ 1000) (hnc : (n : Int) ≤ c) : Calls Try.prog 35 #[.agg #[.int .i64 32, .int .u64 f, .int .i64 n], .int .i64 c] w (P3Does32 w (pcs c (f % c) n)) := by
  obtain ⟨i0, hi, hz0, hz1, hz2⟩ := info_parts info_arr
  have hcr := right_range hc
  have hs0 := Int.emod_nonneg f (show c ≠ 0 by omega)
  have hs1 := Int.emod_lt_of_pos f (show 0 < c by omega)
  go_enter Try.func35, Try.ntmps35
  go_wp2_with fail
  refine (rList32 _ _ _ hn).mono ?_
  rintro e w1 ⟨v, rfl, hI, hb1⟩
  have E1 : Ext w w1 := by repeat (first | with_reducible exact Ext.refl _ | with_reducible assumption | with_reducible refine Ext.alloc ?_ _ | with_reducible refine Ext.drew ?_ | with_reducible refine Ext.drewN ?_ _ | with_reducible refine Ext.setCell ?_ (by simp <;> omega) _ | with_reducible refine Ext.trans ?_ (by assumption))
  clear hb1
  rcases hI with ⟨hv, hnil⟩ | ⟨b, off, cap, hv, hcl⟩
  · rw [hv]
    have h0 : n = 0 := by have := pos32_len f n; rw [hnil] at this; simpa using this.symm
    clear hv hnil
    subst h0
    go_wp2
    refine wp_loop_rounds 1 ?_
    rw [rounds_succ]
    go_wp2
    go_ret
    exact ⟨_, rfl, .inl ⟨rfl, pcs_zero _ _ _ (by simp)⟩, E1⟩
  · rw [hv, pos32_len]
    have HC : Hid (∀ j, j < n → w1.cell? ⟨b, off + j, none⟩ = some (.int .u64 ((f + (j : Int)) % 4294967296))) := Lib.hid (fun j hj => by rw [hcl j (by rw [pos32_len]; exact hj), pos32_get f n j hj])
    clear hv hcl
    go_wp2
    go_loopw [5, 7] (fun v i wr => ∃ k q : Nat, k ≤ n ∧ i = .int .i64 k ∧ wr.ownsRow w1.heap.size 67 2 v q (flat (pcs c (f % c) k)) ∧ Ext w1 wr ∧ (k = 0 → v = .slice none 0 0)) (fun _ i _ => n - (intOf i).toNat)
    case atStart => exact ⟨0, 0, Nat.zero_le _, rfl, by rw [pcs_zero _ _ _ (by simp)]; exact World.ownsRow_nil _ _ _ _, Ext.refl _, fun _ => rfl⟩
    case round =>
      obtain ⟨k, q, hk, rfl, ho, hx, hv0⟩ := hrel
      by_cases hlt : k < n
      · have hcell := hx.cell (HC.out k hlt)
        have hkn : (k : Int) < (n : Int) := by omega
        have hsl := fun w => r2Slot c ((f + (k : Int)) % 4294967296) w hc (by first | omega | exact (U64_range _).1)
        rw [show ((f + (k : Int)) % 4294967296) % c = (f % c + (k : Int)) % c by rw [mod32_mod hc, add_slot]] at hsl
        have HSL := Lib.hid hsl
        clear hsl
        by_cases hk0 : k = 0
        · have hv := hv0 hk0
          have dk : ((k : Int) == 0) = true := by simp; omega
          have hq : q = 0 := by have := ho.1; rw [pcs_zero _ _ _ (by omega)] at this; simp [flat] at this; omega
          subst hq
          rw [pcs_zero _ _ _ (by omega)] at ho
          rw [hv] at ho ⊢
          have HS : Hid ((f % c + (k : Int)) % c = f % c) := Lib.hid (by rw [slot_lo hs0 (by omega) (by omega)]; omega)
          have HP : Hid (pcs c (f % c) ((k + 1 : Nat) : Int) = [(f % c, 0 + 1)]) := Lib.hid (by unfold pcs; rw [if_neg (by omega), if_pos (by omega)]; simp; omega)
          have HO := Lib.hid ho
          clear ho hv hv0 hk0
          go_wp2_with fail
          refine (HSL.out _).mono ?_
          rintro e w' ⟨rfl, rfl⟩
          rw [HS.out]
          go_wp2_with (at_builtin; refine wpList_append_own _ rfl _ _ 64 rfl w1.heap.size 67 i0 (.agg #[.int .i64 0, .int .i64 0]) 2 16 Try.underlying64 hi hz0 hz1 hz2 rfl (by decide) _ _ _ rfl (HO.out.alloc _) ⟨wr.heap.size, 0, none⟩ 1 1 [.int .i64 (f % c), .int .i64 0] rfl rfl ?a1 ?a2 ?a3 ?a4 ?a5 ?_)
          case a1 => exact World.news_of_block (World.alloc_heap_new wr _)
          case a2 => intro u hu; simp at hu; rcases hu with rfl | rfl <;> rfl
          case a3 => unfold maxLen; omega
          case a4 => omega
          case a5 => have := hx.size; simp; omega
          intro v1 w2 hv1 hg1 _
          have X2 : Ext w1 w2 := (hx.alloc _).grown hg1 (fun j h => (HO.out.lt j h).1)
          have R2 : w2.ownsRow w1.heap.size 67 2 v1 1 (flat [(f % c, 0)]) := by simpa [flat] using hv1
          obtain ⟨g, cp, hvf, hbg⟩ := row_form R2 (by omega)
          rw [hvf] at R2 ⊢
          obtain ⟨c1, z1, R3⟩ := grow1 R2
          have X3 : Ext w1 (w2.setCell ⟨g, 1, none⟩ (.int .i64 (0 + 1))) := X2.setCell hbg _
          rw [← HP.out] at R3
          have HR3 := Lib.hid R3
          have HX3 := Lib.hid X3
          clear hv1 hg1 R2 hvf R3 X3
          go_wp2
          go_region
          go_wp2
          exact ⟨⟨k + 1, 1, by omega, by go_num, (but_drew HR3.out), HX3.out.drew, fun h => by omega⟩, by simp [intOf]; omega⟩
        · have dk : ((k : Int) == 0) = false := by simp; omega
          clear hv0
          by_cases hlo : f % c + (k : Int) < c
          · have hpk : pcs c (f % c) k = [(f % c, (k : Int))] := by unfold pcs; rw [if_neg (by omega), if_pos (by omega)]
            rw [hpk] at ho
            have hq : q = 1 := by have := ho.1; simp [flat] at this; omega
            subst hq
            have HS : Hid ((f % c + (k : Int)) % c = f % c + (k : Int)) := Lib.hid (slot_lo hs0 (by omega) hlo)
            have HP : Hid (pcs c (f % c) ((k + 1 : Nat) : Int) = [(f % c, (k : Int) + 1)]) := Lib.hid (by unfold pcs; rw [if_neg (by omega), if_pos (by omega)]; simp)
            have ds : (f % c + (k : Int) == 0) = false := by simp; omega
            obtain ⟨g, cp, hvf, hbg⟩ := row_form ho (by omega)
            rw [hvf] at ho ⊢
            obtain ⟨c1, z1, R3⟩ := grow1 ho
            have X3 : Ext w1 (wr.setCell ⟨g, 1, none⟩ (.int .i64 ((k : Int) + 1))) := hx.setCell hbg _
            rw [← HP.out] at R3
            have HR3 := Lib.hid R3
            have HX3 := Lib.hid X3
            clear ho hpk hvf R3 X3 hk0
            go_wp2_with fail
            refine (HSL.out _).mono ?_
            rintro e w' ⟨rfl, rfl⟩
            rw [HS.out]
            go_wp2
            go_region
            go_wp2
            exact ⟨⟨k + 1, 1, by omega, by go_num, (but_drew HR3.out), HX3.out.drew, fun h => by omega⟩, by simp [intOf]; omega⟩
          · by_cases heq : f % c + (k : Int) = c
            · have hpk : pcs c (f % c) k = [(f % c, (k : Int))] := by unfold pcs; rw [if_neg (by omega), if_pos (by omega)]
              rw [hpk] at ho
              have hq : q = 1 := by have := ho.1; simp [flat] at this; omega
              subst hq
              have HS : Hid ((f % c + (k : Int)) % c = 0) := Lib.hid (by rw [slot_hi hs1 (by omega) (by omega)]; omega)
              have HP : Hid (pcs c (f % c) ((k + 1 : Nat) : Int) = [(f % c, (k : Int)), (0, 0 + 1)]) := Lib.hid (by
                unfold pcs
                rw [if_neg (by omega), if_neg (by omega)]
                rw [show c - f % c = (k : Int) by omega, show ((k + 1 : Nat) : Int) - (k : Int) = 0 + 1 by omega])
              have HO := Lib.hid ho
              clear ho hpk hk0 heq hlo
              go_wp2_with fail
              refine (HSL.out _).mono ?_
              rintro e w' ⟨rfl, rfl⟩
              rw [HS.out]
              go_wp2_with (at_builtin; refine wpList_append_own _ rfl _ _ 64 rfl w1.heap.size 67 i0 (.agg #[.int .i64 0, .int .i64 0]) 2 16 Try.underlying64 hi hz0 hz1 hz2 rfl (by decide) _ _ _ rfl (HO.out.alloc _) ⟨wr.heap.size, 0, none⟩ 1 1 [.int .i64 0, .int .i64 0] rfl rfl ?b1 ?b2 ?b3 ?b4 ?b5 ?_)
              case b1 => exact World.news_of_block (World.alloc_heap_new wr _)
              case b2 => intro u hu; simp at hu; rcases hu with rfl | rfl <;> rfl
              case b3 => unfold maxLen; omega
              case b4 => omega
              case b5 => have := hx.size; simp; omega
              intro v1 w2 hv1 hg1 _
              have X2 : Ext w1 w2 := (hx.alloc _).grown hg1 (fun j h => (HO.out.lt j h).1)
              have R2 : w2.ownsRow w1.heap.size 67 2 v1 2 (flat [(f % c, (k : Int)), (0, 0)]) := by simpa [flat] using hv1
              obtain ⟨g, cp, hvf, hbg⟩ := row_form R2 (by omega)
              rw [hvf] at R2 ⊢
              obtain ⟨c1, z1, R3⟩ := grow2 R2
              have X3 : Ext w1 (w2.setCell ⟨g, 3, none⟩ (.int .i64 (0 + 1))) := X2.setCell hbg _
              rw [← HP.out] at R3
              have HR3 := Lib.hid R3
              have HX3 := Lib.hid X3
              clear hv1 hg1 R2 hvf R3 X3
              go_wp2
              go_region
              go_wp2
              exact ⟨⟨k + 1, 2, by omega, by go_num, (but_drew HR3.out), HX3.out.drew, fun h => by omega⟩, by simp [intOf]; omega⟩
            · have hpk : pcs c (f % c) k = [(f % c, c - f % c), (0, (k : Int) - (c - f % c))] := by unfold pcs; rw [if_neg (by omega), if_neg (by omega)]
              rw [hpk] at ho
              have hq : q = 2 := by have := ho.1; simp [flat] at this; omega
              subst hq
              have HS : Hid ((f % c + (k : Int)) % c = f % c + (k : Int) - c) := Lib.hid (slot_hi hs1 (by omega) (by omega))
              have HP : Hid (pcs c (f % c) ((k + 1 : Nat) : Int) = [(f % c, c - f % c), (0, (k : Int) - (c - f % c) + 1)]) := Lib.hid (by
                unfold pcs
                rw [if_neg (by omega), if_neg (by omega)]
                rw [show ((k + 1 : Nat) : Int) - (c - f % c) = (k : Int) - (c - f % c) + 1 by omega])
              have ds : (f % c + (k : Int) - c == 0) = false := by simp; omega
              obtain ⟨g, cp, hvf, hbg⟩ := row_form ho (by omega)
              rw [hvf] at ho ⊢
              obtain ⟨c1, z1, R3⟩ := grow2 ho
              have X3 : Ext w1 (wr.setCell ⟨g, 3, none⟩ (.int .i64 ((k : Int) - (c - f % c) + 1))) := hx.setCell hbg _
              rw [← HP.out] at R3
              have HR3 := Lib.hid R3
              have HX3 := Lib.hid X3
              clear ho hpk hvf R3 X3 hk0
              go_wp2_with fail
              refine (HSL.out _).mono ?_
              rintro e w' ⟨rfl, rfl⟩
              rw [HS.out]
              go_wp2
              go_region
              go_wp2
              exact ⟨⟨k + 1, 2, by omega, by go_num, (but_drew HR3.out), HX3.out.drew, fun h => by omega⟩, by simp [intOf]; omega⟩
      · obtain rfl : k = n := by omega
        have HO := Lib.hid ho
        clear ho hv0
        go_wp2
        go_ret
        exact ⟨_, rfl, pcsAt_of HO.out, E1.trans hx⟩
def P3Does64 (w : World) (cs : List (Int × Int)) (e : Ending) (w' : World) : Prop := ∃ v, e = .returned v ∧ PcsAt w' v cs ∧ Ext w w'
set_option maxRecDepth 100000 in
theorem r3Pieces64 (f c : Int) (n : Nat) (w : World) (hc : rightB c = true) (hn : n ≤ 1000) (hnc : (n : Int) ≤ c) : Calls Try.prog 35 #[.agg #[.int .i64 64, .int .u64 f, .int .i64 n], .int .i64 c] w (P3Does64 w (pcs c (f % c) n)) := by
  obtain ⟨i0, hi, hz0, hz1, hz2⟩ := info_parts info_arr
  have hcr := right_range hc
  have hs0 := Int.emod_nonneg f (show c ≠ 0 by omega)
  have hs1 := Int.emod_lt_of_pos f (show 0 < c by omega)
  go_enter Try.func35, Try.ntmps35
  go_wp2_with fail
  refine (rList64 _ _ _ hn).mono ?_
  rintro e w1 ⟨v, rfl, hI, hb1⟩
  have E1 : Ext w w1 := by repeat (first | with_reducible exact Ext.refl _ | with_reducible assumption | with_reducible refine Ext.alloc ?_ _ | with_reducible refine Ext.drew ?_ | with_reducible refine Ext.drewN ?_ _ | with_reducible refine Ext.setCell ?_ (by simp <;> omega) _ | with_reducible refine Ext.trans ?_ (by assumption))
  clear hb1
  rcases hI with ⟨hv, hnil⟩ | ⟨b, off, cap, hv, hcl⟩
  · rw [hv]
    have h0 : n = 0 := by have := pos64_len f n; rw [hnil] at this; simpa using this.symm
    clear hv hnil
    subst h0
    go_wp2
    refine wp_loop_rounds 1 ?_
    rw [rounds_succ]
    go_wp2
    go_ret
    exact ⟨_, rfl, .inl ⟨rfl, pcs_zero _ _ _ (by simp)⟩, E1⟩
  · rw [hv, pos64_len]
    have HC : Hid (∀ j, j < n → w1.cell? ⟨b, off + j, none⟩ = some (.int .u64 (U64 (f + (j : Int))))) := Lib.hid (fun j hj => by rw [hcl j (by rw [pos64_len]; exact hj), pos64_get f n j hj])
    clear hv hcl
    go_wp2
    go_loopw [5, 7] (fun v i wr => ∃ k q : Nat, k ≤ n ∧ i = .int .i64 k ∧ wr.ownsRow w1.heap.size 67 2 v q (flat (pcs c (f % c) k)) ∧ Ext w1 wr ∧ (k = 0 → v = .slice none 0 0)) (fun _ i _ => n - (intOf i).toNat)
    case atStart => exact ⟨0, 0, Nat.zero_le _, rfl, by rw [pcs_zero _ _ _ (by simp)]; exact World.ownsRow_nil _ _ _ _, Ext.refl _, fun _ => rfl⟩
    case round =>
      obtain ⟨k, q, hk, rfl, ho, hx, hv0⟩ := hrel
      by_cases hlt : k < n
      · have hcell := hx.cell (HC.out k hlt)
        have hkn : (k : Int) < (n : Int) := by omega
        have hsl := fun w => r2Slot c (U64 (f + (k : Int))) w hc (by first | omega | exact (U64_range _).1)
        rw [show (U64 (f + (k : Int))) % c = (f % c + (k : Int)) % c by rw [mod64_mod hc, add_slot]] at hsl
        have HSL := Lib.hid hsl
        clear hsl
        by_cases hk0 : k = 0
        · have hv := hv0 hk0
          have dk : ((k : Int) == 0) = true := by simp; omega
          have hq : q = 0 := by have := ho.1; rw [pcs_zero _ _ _ (by omega)] at this; simp [flat] at this; omega
          subst hq
          rw [pcs_zero _ _ _ (by omega)] at ho
          rw [hv] at ho ⊢
          have HS : Hid ((f % c + (k : Int)) % c = f % c) := Lib.hid (by rw [slot_lo hs0 (by omega) (by omega)]; omega)
          have HP : Hid (pcs c (f % c) ((k + 1 : Nat) : Int) = [(f % c, 0 + 1)]) := Lib.hid (by unfold pcs; rw [if_neg (by omega), if_pos (by omega)]; simp; omega)
          have HO := Lib.hid ho
          clear ho hv hv0 hk0
          go_wp2_with fail
          refine (HSL.out _).mono ?_
          rintro e w' ⟨rfl, rfl⟩
          rw [HS.out]
          go_wp2_with (at_builtin; refine wpList_append_own _ rfl _ _ 64 rfl w1.heap.size 67 i0 (.agg #[.int .i64 0, .int .i64 0]) 2 16 Try.underlying64 hi hz0 hz1 hz2 rfl (by decide) _ _ _ rfl (HO.out.alloc _) ⟨wr.heap.size, 0, none⟩ 1 1 [.int .i64 (f % c), .int .i64 0] rfl rfl ?a1 ?a2 ?a3 ?a4 ?a5 ?_)
          case a1 => exact World.news_of_block (World.alloc_heap_new wr _)
          case a2 => intro u hu; simp at hu; rcases hu with rfl | rfl <;> rfl
          case a3 => unfold maxLen; omega
          case a4 => omega
          case a5 => have := hx.size; simp; omega
          intro v1 w2 hv1 hg1 _
          have X2 : Ext w1 w2 := (hx.alloc _).grown hg1 (fun j h => (HO.out.lt j h).1)
          have R2 : w2.ownsRow w1.heap.size 67 2 v1 1 (flat [(f % c, 0)]) := by simpa [flat] using hv1
          obtain ⟨g, cp, hvf, hbg⟩ := row_form R2 (by omega)
          rw [hvf] at R2 ⊢
          obtain ⟨c1, z1, R3⟩ := grow1 R2
          have X3 : Ext w1 (w2.setCell ⟨g, 1, none⟩ (.int .i64 (0 + 1))) := X2.setCell hbg _
          rw [← HP.out] at R3
          have HR3 := Lib.hid R3
          have HX3 := Lib.hid X3
          clear hv1 hg1 R2 hvf R3 X3
          go_wp2
          go_region
          go_wp2
          exact ⟨⟨k + 1, 1, by omega, by go_num, (but_drew HR3.out), HX3.out.drew, fun h => by omega⟩, by simp [intOf]; omega⟩
        · have dk : ((k : Int) == 0) = false := by simp; omega
          clear hv0
          by_cases hlo : f % c + (k : Int) < c
          · have hpk : pcs c (f % c) k = [(f % c, (k : Int))] := by unfold pcs; rw [if_neg (by omega), if_pos (by omega)]
            rw [hpk] at ho
            have hq : q = 1 := by have := ho.1; simp [flat] at this; omega
            subst hq
            have HS : Hid ((f % c + (k : Int)) % c = f % c + (k : Int)) := Lib.hid (slot_lo hs0 (by omega) hlo)
            have HP : Hid (pcs c (f % c) ((k + 1 : Nat) : Int) = [(f % c, (k : Int) + 1)]) := Lib.hid (by unfold pcs; rw [if_neg (by omega), if_pos (by omega)]; simp)
            have ds : (f % c + (k : Int) == 0) = false := by simp; omega
            obtain ⟨g, cp, hvf, hbg⟩ := row_form ho (by omega)
            rw [hvf] at ho ⊢
            obtain ⟨c1, z1, R3⟩ := grow1 ho
            have X3 : Ext w1 (wr.setCell ⟨g, 1, none⟩ (.int .i64 ((k : Int) + 1))) := hx.setCell hbg _
            rw [← HP.out] at R3
            have HR3 := Lib.hid R3
            have HX3 := Lib.hid X3
            clear ho hpk hvf R3 X3 hk0
            go_wp2_with fail
            refine (HSL.out _).mono ?_
            rintro e w' ⟨rfl, rfl⟩
            rw [HS.out]
            go_wp2
            go_region
            go_wp2
            exact ⟨⟨k + 1, 1, by omega, by go_num, (but_drew HR3.out), HX3.out.drew, fun h => by omega⟩, by simp [intOf]; omega⟩
          · by_cases heq : f % c + (k : Int) = c
            · have hpk : pcs c (f % c) k = [(f % c, (k : Int))] := by unfold pcs; rw [if_neg (by omega), if_pos (by omega)]
              rw [hpk] at ho
              have hq : q = 1 := by have := ho.1; simp [flat] at this; omega
              subst hq
              have HS : Hid ((f % c + (k : Int)) % c = 0) := Lib.hid (by rw [slot_hi hs1 (by omega) (by omega)]; omega)
              have HP : Hid (pcs c (f % c) ((k + 1 : Nat) : Int) = [(f % c, (k : Int)), (0, 0 + 1)]) := Lib.hid (by
                unfold pcs
                rw [if_neg (by omega), if_neg (by omega)]
                rw [show c - f % c = (k : Int) by omega, show ((k + 1 : Nat) : Int) - (k : Int) = 0 + 1 by omega])
              have HO := Lib.hid ho
              clear ho hpk hk0 heq hlo
              go_wp2_with fail
              refine (HSL.out _).mono ?_
              rintro e w' ⟨rfl, rfl⟩
              rw [HS.out]
              go_wp2_with (at_builtin; refine wpList_append_own _ rfl _ _ 64 rfl w1.heap.size 67 i0 (.agg #[.int .i64 0, .int .i64 0]) 2 16 Try.underlying64 hi hz0 hz1 hz2 rfl (by decide) _ _ _ rfl (HO.out.alloc _) ⟨wr.heap.size, 0, none⟩ 1 1 [.int .i64 0, .int .i64 0] rfl rfl ?b1 ?b2 ?b3 ?b4 ?b5 ?_)
              case b1 => exact World.news_of_block (World.alloc_heap_new wr _)
              case b2 => intro u hu; simp at hu; rcases hu with rfl | rfl <;> rfl
              case b3 => unfold maxLen; omega
              case b4 => omega
              case b5 => have := hx.size; simp; omega
              intro v1 w2 hv1 hg1 _
              have X2 : Ext w1 w2 := (hx.alloc _).grown hg1 (fun j h => (HO.out.lt j h).1)
              have R2 : w2.ownsRow w1.heap.size 67 2 v1 2 (flat [(f % c, (k : Int)), (0, 0)]) := by simpa [flat] using hv1
              obtain ⟨g, cp, hvf, hbg⟩ := row_form R2 (by omega)
              rw [hvf] at R2 ⊢
              obtain ⟨c1, z1, R3⟩ := grow2 R2
              have X3 : Ext w1 (w2.setCell ⟨g, 3, none⟩ (.int .i64 (0 + 1))) := X2.setCell hbg _
              rw [← HP.out] at R3
              have HR3 := Lib.hid R3
              have HX3 := Lib.hid X3
              clear hv1 hg1 R2 hvf R3 X3
              go_wp2
              go_region
              go_wp2
              exact ⟨⟨k + 1, 2, by omega, by go_num, (but_drew HR3.out), HX3.out.drew, fun h => by omega⟩, by simp [intOf]; omega⟩
            · have hpk : pcs c (f % c) k = [(f % c, c - f % c), (0, (k : Int) - (c - f % c))] := by unfold pcs; rw [if_neg (by omega), if_neg (by omega)]
              rw [hpk] at ho
              have hq : q = 2 := by have := ho.1; simp [flat] at this; omega
              subst hq
              have HS : Hid ((f % c + (k : Int)) % c = f % c + (k : Int) - c) := Lib.hid (slot_hi hs1 (by omega) (by omega))
              have HP : Hid (pcs c (f % c) ((k + 1 : Nat) : Int) = [(f % c, c - f % c), (0, (k : Int) - (c - f % c) + 1)]) := Lib.hid (by
                unfold pcs
                rw [if_neg (by omega), if_neg (by omega)]
                rw [show ((k + 1 : Nat) : Int) - (c - f % c) = (k : Int) - (c - f % c) + 1 by omega])
              have ds : (f % c + (k : Int) - c == 0) = false := by simp; omega
              obtain ⟨g, cp, hvf, hbg⟩ := row_form ho (by omega)
              rw [hvf] at ho ⊢
              obtain ⟨c1, z1, R3⟩ := grow2 ho
              have X3 : Ext w1 (wr.setCell ⟨g, 3, none⟩ (.int .i64 ((k : Int) - (c - f % c) + 1))) := hx.setCell hbg _
              rw [← HP.out] at R3
              have HR3 := Lib.hid R3
              have HX3 := Lib.hid X3
              clear ho hpk hvf R3 X3 hk0
              go_wp2_with fail
              refine (HSL.out _).mono ?_
              rintro e w' ⟨rfl, rfl⟩
              rw [HS.out]
              go_wp2
              go_region
              go_wp2
              exact ⟨⟨k + 1, 2, by omega, by go_num, (but_drew HR3.out), HX3.out.drew, fun h => by omega⟩, by simp [intOf]; omega⟩
      · obtain rfl : k = n := by omega
        have HO := Lib.hid ho
        clear ho hv0
        go_wp2
        go_ret
        exact ⟨_, rfl, pcsAt_of HO.out, E1.trans hx⟩
end Go.Proofs.Ytclhbdedibcgjaa
