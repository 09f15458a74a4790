/- conf.Others of a configuration that may be, and the document's. -/
import Derived.Test.YtlalkefbcddbfabCfT
import Derived.Test.YtlalkefbcddbfabCf2
namespace Go.Proofs.Ytlalkefbcddbfab
open Go.RowKit
set_option linter.unusedVariables false
set_option maxHeartbeats 1000000
set_option maxRecDepth 100000 in
theorem cOthers_ok (V W C P S : Int) (a : Option Addr) (cap : Nat) (ups : List (List Int)) (w : World) (hL : ListsV w (.slice a ups.length cap) ups) (hll : ∀ l ∈ ups, l.length ≤ 1000000) (ok : Ok V W C P ups) :
    Calls Try.prog 22 #[(.agg #[.int .i64 V, .int .i64 W, .int .i64 C, .int .i64 P, .int .u64 (S), .slice a ups.length cap])] w (TellDoes w C P (S % 4294967296) ups) := by
  have h6 := ok.rt.six
  have CK := Lib.hid (fun w' (hx : Ext w w') => cCheck V W C P S _ ups w' (hL.ext hx) hll (by omega))
  rw [ok_iff.2 ok] at CK
  have CT := Lib.hid (fun w' (hx : Ext w w') wb h0 h1 => cTell V W C P S a cap ups w' (hL.ext hx) hll ok wb h0 h1)
  generalize hG : TellDoes w C P (S % 4294967296) ups = G
  have HG : Hid (∀ e w1 w', Ext w w1 → TellDoes w1 C P (S % 4294967296) ups e w' → G e w') := Lib.hid (fun e w1 w' hx h => by
    rw [← hG]
    obtain ⟨v, us, he, hT⟩ := h
    exact ⟨v, us, he, ⟨hx.trans hT.x, hT.len, row_lower hT.row hx.size, hT.own⟩⟩)
  clear hL hll ok hG
  obtain ⟨n, hN⟩ : ∃ n, n = ups.length := ⟨_, rfl⟩
  rw [← hN] at CK CT h6 ⊢
  clear hN
  go_enter Try.func22, Try.ntmps22
  go_wp2_with fail
  refine (CK.out _ (by repeat (first | with_reducible exact Ext.refl _ | with_reducible assumption | with_reducible refine Ext.alloc ?_ _ | with_reducible refine Ext.drew ?_ | with_reducible refine Ext.drewN ?_ _ | with_reducible refine Ext.setCell ?_ (by simp <;> omega) _ | with_reducible refine Ext.trans ?_ (by assumption)))).mono ?_
  rintro e w1 ⟨rfl, hb1⟩
  obtain ⟨hc1, hf1⟩ := hb1.cells
  clear hc1 hf1
  have qc_0 : w1.cell? ⟨w.heap.size, 0, none⟩ = some (.int .i64 V) := (hb1.cells.1 _ _ (by simp <;> omega)).trans (by simp [go_sem])
  have qc_1 : w1.cell? ⟨w.heap.size, 1, none⟩ = some (.int .i64 W) := (hb1.cells.1 _ _ (by simp <;> omega)).trans (by simp [go_sem])
  have qc_2 : w1.cell? ⟨w.heap.size, 2, none⟩ = some (.int .i64 C) := (hb1.cells.1 _ _ (by simp <;> omega)).trans (by simp [go_sem])
  have qc_3 : w1.cell? ⟨w.heap.size, 3, none⟩ = some (.int .i64 P) := (hb1.cells.1 _ _ (by simp <;> omega)).trans (by simp [go_sem])
  have qc_4 : w1.cell? ⟨w.heap.size, 4, none⟩ = some (.int .u64 (S)) := (hb1.cells.1 _ _ (by simp <;> omega)).trans (by simp [go_sem])
  have qc_5 : w1.cell? ⟨w.heap.size, 5, none⟩ = some (.slice a n cap) := (hb1.cells.1 _ _ (by simp <;> omega)).trans (by simp [go_sem])
  have pc := World.block_lt_of_cell? _ ⟨w.heap.size, 0, none⟩ qc_0
  have rc := Nat.lt_succ_of_lt pc
  have hxx : Ext w w1 := by repeat (first | with_reducible exact Ext.refl _ | with_reducible assumption | with_reducible refine Ext.alloc ?_ _ | with_reducible refine Ext.drew ?_ | with_reducible refine Ext.drewN ?_ _ | with_reducible refine Ext.setCell ?_ (by simp <;> omega) _ | with_reducible refine Ext.trans ?_ (by assumption))
  go_wp2_with fail
  refine (CT.out _ (hxx.alloc _) w1.heap.size (by simp [go_sem]) (by simp [go_sem])).mono ?_
  intro e w9 hD
  have hD2 := HG.out _ _ _ (hxx.alloc _) hD
  obtain ⟨v9, us9, rfl, -⟩ := hD
  have HD2 := Lib.hid hD2
  clear hD2
  go_wp2
  exact HD2.out
/-- the document's, told so far -/
def RefDoes (w : World) (C P S : Int) (u : Value) (e : Ending) (w' : World) : Prop := ∃ v, e = .returned v ∧ w'.ownsRow w.heap.size 25 6 v (tg P 10).length (rowT C P S (tg P 10) (List.replicate (tg P 10).length u)) ∧ Ext w w'
theorem rep_snoc (u : Value) (n : Nat) : List.replicate (n + 1) u = List.replicate n u ++ [u] := by rw [List.replicate_succ']
set_option maxRecDepth 100000 in
theorem rOthers (V W C P S : Int) (a : Option Addr) (cap : Nat) (ups : List (List Int)) (w : World) (hL : ListsV w (.slice a ups.length cap) ups) (hll : ∀ l ∈ ups, l.length ≤ 1000000) (ok : Ok V W C P ups) (hS0 : 0 ≤ S) :
    Calls Try.prog 23 #[(.agg #[.int .i64 V, .int .i64 W, .int .i64 C, .int .i64 P, .int .u64 (S), .slice a ups.length cap])] w (RefDoes w C P (S % 4294967296) (.slice a ups.length cap)) := by
  have hn6 := ok.rt.six
  have hn : ups.length ≤ 1000000 := by omega
  have CK := Lib.hid (fun (V W : Int) w' (hx : Ext w w') => r10Right V W C P (S % 4294967296) _ ups w' (hL.ext hx) hll hn)
  have HOK : Hid (∀ V W : Int, 1 ≤ V → V ≤ 5 → (W = 32 ∨ W = 64) → (ckC V W C P ups = 0 ↔ P ≤ mostOf V)) := Lib.hid (fun V W a b c => ok_other ok a b c)
  clear hL hll ok
  obtain ⟨n, hN⟩ : ∃ n, n = ups.length := ⟨_, rfl⟩
  rw [← hN] at CK hn6 ⊢
  generalize hG : RefDoes w C P (S % 4294967296) (.slice a n cap) = G
  have HG : Hid (∀ e w', (∃ v, e = .returned v ∧ w'.ownsRow w.heap.size 25 6 v (tg P 10).length (rowT C P (S % 4294967296) (tg P 10) (List.replicate (tg P 10).length (.slice a n cap))) ∧ Ext w w') → G e w') := Lib.hid (fun e w' h => by rw [← hG]; exact h)
  clear hG hN
  obtain ⟨i0, hi, hz0, hz1, hz2⟩ := info_parts info_conf
  have hmod : S % 4294967296 = S % 4294967296 := rfl
  obtain ⟨Z, hZ⟩ : ∃ Z, Z = S % 4294967296 := ⟨_, rfl⟩
  rw [← hZ] at CK HG
  have HZ := Lib.hid hZ
  clear hZ hmod
  go_enter Try.func23, Try.ntmps23
  go_upto_region 1 with (fail)
  refine settle_wp ?_
  intro wB hb
  have q_2 : wB.cell? ⟨w.heap.size, 2, none⟩ = some (.int .i64 C) := (hb.cells.1 _ _ (by simp <;> omega)).trans (by simp [go_sem])
  have q_3 : wB.cell? ⟨w.heap.size, 3, none⟩ = some (.int .i64 P) := (hb.cells.1 _ _ (by simp <;> omega)).trans (by simp [go_sem])
  have q_4 : wB.cell? ⟨w.heap.size, 4, none⟩ = some (.int .u64 S) := (hb.cells.1 _ _ (by simp <;> omega)).trans (by simp [go_sem])
  have q_5 : wB.cell? ⟨w.heap.size, 5, none⟩ = some (.slice a n cap) := (hb.cells.1 _ _ (by simp <;> omega)).trans (by simp [go_sem])
  have EB : Ext w wB := by repeat (first | with_reducible exact Ext.refl _ | with_reducible assumption | with_reducible refine Ext.alloc ?_ _ | with_reducible refine Ext.drew ?_ | with_reducible refine Ext.drewN ?_ _ | with_reducible refine Ext.setCell ?_ (by simp <;> omega) _ | with_reducible refine Ext.trans ?_ (by assumption))
  have hsB : w.heap.size < wB.heap.size := World.block_lt_of_cell? wB _ q_2
  clear hb
  go_wp2
  go_loopw [3, 4] (fun v i wr => ∃ V : Nat, 1 ≤ V ∧ V ≤ 6 ∧ i = .int .i64 V ∧ Ext wB wr ∧ wr.ownsRow wB.heap.size 25 6 v (tg P (2 * (V - 1))).length (rowT C P Z (tg P (2 * (V - 1))) (List.replicate (tg P (2 * (V - 1))).length (.slice a n cap)))) (fun _ i _ => 6 - (intOf i).toNat)
  case atStart => exact ⟨1, Nat.le_refl _, by omega, rfl, Ext.refl _, World.ownsRow_nil _ _ _ _⟩
  case round =>
    obtain ⟨V, hV1, hV6, rfl, hx, hR⟩ := hrel
    by_cases hlt : V ≤ 5
    · have hV5 : (V : Int) ≤ 5 := by omega
      have HX := Lib.hid hx
      have HR := Lib.hid hR
      clear hx hR
      go_wp2
      go_loopw [3, 5] (fun v i wr => ∃ j : Nat, j ≤ 2 ∧ i = .int .i64 (32 + 32 * (j : Int)) ∧ Ext wB wr ∧ wr.ownsRow wB.heap.size 25 6 v (tg P (2 * (V - 1) + j)).length (rowT C P Z (tg P (2 * (V - 1) + j)) (List.replicate (tg P (2 * (V - 1) + j)).length (.slice a n cap)))) (fun _ i _ => (96 - intOf i).toNat)
      case atStart => exact ⟨0, Nat.zero_le _, rfl, HX.out, HR.out⟩
      case round =>
        obtain ⟨j, hj, rfl, hx, hR⟩ := hrel
        clear HX HR
        by_cases hlt2 : j < 2
        · have p_2 := hx.cell q_2
          have p_3 := hx.cell q_3
          have p_4 := hx.cell q_4
          have p_5 := hx.cell q_5
          have hat := allT_at hV1 hlt hlt2
          have hst := tg_step (P := P) hat
          have hWe : (if j = 0 then (32 : Int) else 64) = 32 + 32 * (j : Int) := by
            have : j = 0 ∨ j = 1 := by omega
            rcases this with rfl | rfl <;> rfl
          rw [hWe] at hst
          have hWd : (32 + 32 * (j : Int)) = 32 ∨ (32 + 32 * (j : Int)) = 64 := by omega
          have hok := HOK.out (V : Int) (32 + 32 * (j : Int)) (by omega) (by omega) hWd
          have EW := EB.trans hx
          have HX := Lib.hid hx
          have HR := Lib.hid hR
          have hsW := hx.size
          have pb : w.heap.size < wr.heap.size := Nat.lt_of_lt_of_le hsB hsW
          have rb := Nat.lt_succ_of_lt pb
          have hW64 : (32 + 32 * (j : Int)) ≤ 64 := by omega
          have hWr : wrap64 (32 + 32 * (j : Int) + 32) = 32 + 32 * ((j + 1 : Nat) : Int) := by unfold wrap64; omega
          have hWs : (32 + 32 * (j : Int) + 32) = 32 + 32 * ((j + 1 : Nat) : Int) := by omega
          have HWS := Lib.hid hWs
          clear hWs
          have hW0 : 0 ≤ 32 + 32 * (j : Int) := by omega
          have HM := Lib.hid (show (96 - (32 + 32 * ((j + 1 : Nat) : Int))).toNat < (96 - (32 + 32 * (j : Int))).toNat by omega)
          clear hR hx hat hWe hWd
          generalize hWd : (32 + 32 * (j : Int)) = Wd at *
          generalize hWn : (32 + 32 * ((j + 1 : Nat) : Int)) = Wn at *
          have HWn := Lib.hid hWn
          clear hWd hWn
          simp only [] at hst
          have CK2 := Lib.hid (CK.out (V : Int) Wd)
          have hzz : S % 4294967296 = Z := HZ.out.symm
          by_cases hpm : P ≤ mostOf (V : Int)
          · rw [if_pos hpm] at hst
            rw [hok.2 hpm] at CK2
            have HST := Lib.hid hst
            clear hok hst hpm
            go_wp2_with fail
            refine (CK2.out _ (EW.alloc _)).mono ?_
            rintro e w3 ⟨rfl, X3⟩
            have o_0 : w3.cell? ⟨wr.heap.size, 0, none⟩ = some (.int .i64 (V : Int)) := X3.cell (by simp [go_sem])
            have o_1 : w3.cell? ⟨wr.heap.size, 1, none⟩ = some (.int .i64 Wd) := X3.cell (by simp [go_sem])
            have o_2 : w3.cell? ⟨wr.heap.size, 2, none⟩ = some (.int .i64 C) := X3.cell (by simp [go_sem])
            have o_3 : w3.cell? ⟨wr.heap.size, 3, none⟩ = some (.int .i64 P) := X3.cell (by simp [go_sem])
            have o_4 : w3.cell? ⟨wr.heap.size, 4, none⟩ = some (.int .u64 Z) := X3.cell (by simp [go_sem])
            have o_5 : w3.cell? ⟨wr.heap.size, 5, none⟩ = some (.slice a n cap) := X3.cell (by simp [go_sem])
            have XW3 := ((Ext.refl wr).alloc (.cells #[.int .i64 (V : Int), .int .i64 Wd, .int .i64 C, .int .i64 P, .int .u64 Z, .slice a n cap] 25)).trans X3
            have HR3 := Lib.hid (XW3.row HR.out)
            have HX3 := Lib.hid (HX.out.trans XW3)
            have HNW := Lib.hid (World.news_of_block (World.alloc_heap_new w3 (.cells #[.int .i64 (V : Int), .int .i64 Wd, .int .i64 C, .int .i64 P, .int .u64 Z, .slice a n cap] 25)))
            have htl := tg_len P (2 * (V - 1) + j)
            clear p_2 p_3 p_4 p_5 X3 XW3 HR HX
            go_wp2_with (at_builtin; refine wpList_append_own _ rfl _ _ 36 rfl wB.heap.size 25 i0 (.agg #[.int .i64 0, .int .i64 0, .int .i64 0, .int .i64 0, .int .u64 0, .slice none 0 0]) 6 64 Try.underlying36 hi hz0 hz1 hz2 rfl (by decide) _ _ _ rfl (((Ext.refl w3).alloc _).row HR3.out) ⟨w3.heap.size, 0, none⟩ 1 1 (cc C P Z ((V : Int), Wd) (.slice a n cap)) rfl rfl HNW.out ?c2 ?c3 ?c4 ?c5 ?_)
            case c2 => intro u hu; simp [cc] at hu; rcases hu with rfl | rfl | rfl | rfl | rfl | rfl <;> rfl
            case c3 => unfold maxLen; omega
            case c4 => omega
            case c5 => have := HX3.out.size; simp; omega
            intro v' w' h1 h2 _
            have R6 := ((Ext.refl w3).alloc (.cells #[.int .i64 (V : Int), .int .i64 Wd, .int .i64 C, .int .i64 P, .int .u64 Z, .slice a n cap] 25)).row HR3.out
            have R7 : w'.ownsRow wB.heap.size 25 6 v' (tg P (2 * (V - 1) + (j + 1))).length (rowT C P Z (tg P (2 * (V - 1) + (j + 1))) (List.replicate (tg P (2 * (V - 1) + (j + 1))).length (.slice a n cap))) := by
              show w'.ownsRow _ _ _ _ (tg P (2 * (V - 1) + j + 1)).length (rowT C P Z (tg P (2 * (V - 1) + j + 1)) (List.replicate (tg P (2 * (V - 1) + j + 1)).length _))
              rw [HST.out, List.length_append, List.length_singleton, rep_snoc, rowT_snoc _ _ _ _ _ _ _ (by simp)]
              exact h1
            have HR7 := Lib.hid R7
            have HX7 := Lib.hid ((HX3.out.alloc _).grown h2 (fun g hg => (R6.lt g hg).1))
            clear h1 h2 R6 R7 o_0 o_1 o_2 o_3 o_4 o_5
            go_wp2
            exact ⟨⟨j + 1, by omega, by rw [HWn.out, HWS.out], HX7.out, HR7.out⟩, by show (96 - (Wd + 32)).toNat < (96 - Wd).toNat; rw [HWS.out]; exact HM.out⟩
          · rw [if_neg hpm] at hst
            have kg : (ckC (V : Int) Wd C P ups == 0) = false := by rw [beq_eq_false_iff_ne]; exact fun h => hpm (hok.1 h)
            have HST := Lib.hid hst
            rw [kg] at CK2
            clear hok hst hpm kg
            go_wp2_with fail
            refine (CK2.out _ (EW.alloc _)).mono ?_
            rintro e w3 ⟨rfl, X3⟩
            have XW3 := ((Ext.refl wr).alloc (.cells #[.int .i64 (V : Int), .int .i64 Wd, .int .i64 C, .int .i64 P, .int .u64 Z, .slice a n cap] 25)).trans X3
            have hr3 := XW3.row HR.out
            rw [← HST.out] at hr3
            have HR3 := Lib.hid hr3
            have HX3 := Lib.hid (HX.out.trans XW3)
            clear p_2 p_3 p_4 p_5 X3 XW3 HR HX hr3
            go_wp2
            exact ⟨⟨j + 1, by omega, by rw [HWn.out, HWS.out], HX3.out, HR3.out⟩, by show (96 - (Wd + 32)).toNat < (96 - Wd).toNat; rw [HWS.out]; exact HM.out⟩
        · obtain rfl : j = 2 := by omega
          have HX := Lib.hid hx
          rw [show 2 * (V - 1) + 2 = 2 * (V + 1 - 1) by omega] at hR
          have HR := Lib.hid hR
          clear hx hR
          go_wp2
          exact ⟨⟨V + 1, by omega, by omega, by go_num, HX.out, HR.out⟩, by simp [intOf]; omega⟩
    · obtain rfl : V = 6 := by omega
      have HG2 := Lib.hid (HG.out (.returned _) wr ⟨_, rfl, row_lower hR EB.size, EB.trans hx⟩)
      clear hx hR
      go_wp2
      exact HG2.out
end Go.Proofs.Ytlalkefbcddbfab
