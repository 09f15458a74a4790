/- conf.tell and Others. -/
import Derived.Test.YtlalkefbcddbfabCfO
namespace Go.Proofs.Ytlalkefbcddbfab
open Go.RowKit
set_option linter.unusedVariables false
set_option maxHeartbeats 1000000
/-- told so far -/
structure TS (wB : World) (C P S : Int) (ups : List (List Int)) (m : Nat) (v : Value) (us : List Value) (wr : World) : Prop where
  x : Ext wB wr
  len : us.length = (tg P m).length
  row : wr.ownsRow wB.heap.size 25 6 v (tg P m).length (rowT C P S (tg P m) us)
  own : ∀ u ∈ us, OwnL wr u ups
theorem TS.ext {wB : World} {C P S : Int} {ups : List (List Int)} {m : Nat} {v : Value} {us : List Value} {wr w' : World} (h : TS wB C P S ups m v us wr) (hx : Ext wr w') : TS wB C P S ups m v us w' :=
  ⟨h.x.trans hx, h.len, hx.row h.row, fun u hu => (h.own u hu).ext hx⟩
theorem TS.next {wB : World} {C P S : Int} {ups : List (List Int)} {m m' : Nat} {v : Value} {us : List Value} {wr : World} (h : TS wB C P S ups m v us wr) (e : tg P m' = tg P m) : TS wB C P S ups m' v us wr :=
  ⟨h.x, by rw [e]; exact h.len, by rw [e]; exact h.row, h.own⟩
/-- the row's block is a row of configurations -/
theorem row_tag {w : World} {base e sz n : Nat} {v : Value} {xs : List Value} (h : w.ownsRow base e sz v n xs) : ∀ g, v.ownBlock = some g → g < w.heap.size → ∃ cur fz, w.heap[g]? = some (.cells cur e fz) := by
  intro g hg _
  rcases h.2 with ⟨e1, _⟩ | ⟨g', cap', cur, e1, _, hgo, _⟩
  · rw [e1] at hg; cases hg
  · rw [e1] at hg; cases hg; exact ⟨_, _, hgo⟩
theorem allT_at {V j : Nat} (h1 : 1 ≤ V) (h5 : V ≤ 5) (hj : j < 2) : allT[2 * (V - 1) + j]? = some ((V : Int), if j = 0 then 32 else 64) := by
  have hV : V = 1 ∨ V = 2 ∨ V = 3 ∨ V = 4 ∨ V = 5 := by omega
  have hJ : j = 0 ∨ j = 1 := by omega
  rcases hV with rfl | rfl | rfl | rfl | rfl <;> rcases hJ with rfl | rfl <;> rfl
def TellDoes (w : World) (C P S : Int) (ups : List (List Int)) (e : Ending) (w' : World) : Prop := ∃ v us, e = .returned v ∧ TS w C P S ups 10 v us w'
set_option maxRecDepth 100000 in
theorem cTell (V0 W0 C P S : Int) (a : Option Addr) (cap : Nat) (ups : List (List Int)) (w : World) (hL : ListsV w (.slice a ups.length cap) ups) (hll : ∀ l ∈ ups, l.length ≤ 1000000) (ok : Ok V0 W0 C P ups) (wb : Nat) (h0 : w.cell? ⟨wb, 0, none⟩ = some (.int .i64 32)) (h1 : w.cell? ⟨wb, 1, none⟩ = some (.int .i64 64)) :
    Calls Try.prog 36 #[(.agg #[.int .i64 V0, .int .i64 W0, .int .i64 C, .int .i64 P, .int .u64 (S), .slice a ups.length cap]), .slice (some ⟨wb, 0, none⟩) 2 2] w (TellDoes w C P (S % 4294967296) ups) := by
  have hn6 := ok.rt.six
  have hn : ups.length ≤ 1000000 := by omega
  have CK := Lib.hid (fun (V W : Int) w' (hx : Ext w w') => cCheck V W C P (S % 4294967296) _ ups w' (hL.ext hx) hll hn)
  have CC := Lib.hid (fun w' (hx : Ext w w') => gCopyO _ ups w' (hL.ext hx) hll hn)
  have HOK : Hid (∀ V W : Int, 1 ≤ V → V ≤ 5 → (W = 32 ∨ W = 64) → (ckC V W C P ups = 0 ↔ P ≤ mostOf V)) := Lib.hid (fun V W a b c => ok_other ok a b c)
  have HW : Hid (∀ j : Nat, j < 2 → w.cell? ⟨wb, j, none⟩ = some (.int .i64 (if j = 0 then 32 else 64))) := Lib.hid (fun j hj => by
    have : j = 0 ∨ j = 1 := by omega
    rcases this with rfl | rfl
    · exact h0
    · exact h1)
  clear hL hll ok h0 h1
  generalize hG : TellDoes w C P (S % 4294967296) ups = G
  have HG : Hid (∀ e w', (∃ v us, e = .returned v ∧ TS w C P (S % 4294967296) ups 10 v us w') → G e w') := Lib.hid (fun e w' h => by rw [← hG]; exact h)
  clear hG
  have HLN : Hid (∀ (W : World) b, OwnL W (.slice (some ⟨b, 0, none⟩) ups.length ups.length) ups → OwnL W (.slice (some ⟨b, 0, none⟩) ups.length ups.length) ups) := Lib.hid (fun _ _ h => h)
  obtain ⟨n, hN⟩ : ∃ n, n = ups.length := ⟨_, rfl⟩
  rw [← hN] at CK CC ⊢
  have HE := Lib.hid hN
  clear HLN hN
  have HCUT := Lib.hid (fun w => wCut_32 S w)
  obtain ⟨i0, hi, hz0, hz1, hz2⟩ := info_parts info_conf
  obtain ⟨Z, hZ⟩ : ∃ Z, Z = S % 4294967296 := ⟨_, rfl⟩
  rw [← hZ] at CK HG HCUT
  clear hZ
  go_enter Try.func36, Try.ntmps36
  go_upto_region 1 with (fail)
  refine settle_wp ?_
  intro wB hb
  have q_0 : wB.cell? ⟨w.heap.size, 0, none⟩ = some (.int .i64 V0) := (hb.cells.1 _ _ (by simp <;> omega)).trans (by simp [go_sem])
  have q_1 : wB.cell? ⟨w.heap.size, 1, none⟩ = some (.int .i64 W0) := (hb.cells.1 _ _ (by simp <;> omega)).trans (by simp [go_sem])
  have q_2 : wB.cell? ⟨w.heap.size, 2, none⟩ = some (.int .i64 C) := (hb.cells.1 _ _ (by simp <;> omega)).trans (by simp [go_sem])
  have q_3 : wB.cell? ⟨w.heap.size, 3, none⟩ = some (.int .i64 P) := (hb.cells.1 _ _ (by simp <;> omega)).trans (by simp [go_sem])
  have q_4 : wB.cell? ⟨w.heap.size, 4, none⟩ = some (.int .u64 S) := (hb.cells.1 _ _ (by simp <;> omega)).trans (by simp [go_sem])
  have q_5 : wB.cell? ⟨w.heap.size, 5, none⟩ = some (.slice a n cap) := (hb.cells.1 _ _ (by simp <;> omega)).trans (by simp [go_sem])
  have EB : Ext w wB := by repeat (first | with_reducible exact Ext.refl _ | with_reducible assumption | with_reducible refine Ext.alloc ?_ _ | with_reducible refine Ext.drew ?_ | with_reducible refine Ext.drewN ?_ _ | with_reducible refine Ext.setCell ?_ (by simp <;> omega) _ | with_reducible refine Ext.trans ?_ (by assumption))
  have hsB : w.heap.size < wB.heap.size := World.block_lt_of_cell? wB _ q_0
  clear hb
  go_wp2
  go_loopw [5, 6] (fun v i wr => ∃ V : Nat, 1 ≤ V ∧ V ≤ 6 ∧ i = .int .i64 V ∧ ∃ us, TS wB C P Z ups (2 * (V - 1)) v us wr) (fun _ i _ => 6 - (intOf i).toNat)
  case atStart => exact ⟨1, Nat.le_refl _, by omega, rfl, [], ⟨Ext.refl _, rfl, World.ownsRow_nil _ _ _ _, fun u hu => by cases hu⟩⟩
  case round =>
    obtain ⟨V, hV1, hV6, rfl, us, hTS⟩ := hrel
    by_cases hlt : V ≤ 5
    · have hV5 : (V : Int) ≤ 5 := by omega
      have HTS := Lib.hid hTS
      clear hTS
      go_wp2
      go_loopw [5, 16] (fun v i wr => ∃ j : Nat, j ≤ 2 ∧ i = .int .i64 j ∧ ∃ us, TS wB C P Z ups (2 * (V - 1) + j) v us wr) (fun _ i _ => 2 - (intOf i).toNat)
      case atStart => exact ⟨0, Nat.zero_le _, rfl, us, HTS.out⟩
      case round =>
        obtain ⟨j, hj, rfl, us, hTS⟩ := hrel
        clear HTS
        by_cases hlt2 : j < 2
        · have hj2 : (j : Int) < 2 := by omega
          have p_0 := hTS.x.cell q_0
          have p_1 := hTS.x.cell q_1
          have p_2 := hTS.x.cell q_2
          have p_3 := hTS.x.cell q_3
          have p_4 := hTS.x.cell q_4
          have p_5 := hTS.x.cell q_5
          have wq := (EB.trans hTS.x).cell (HW.out j hlt2)
          have hat := allT_at hV1 hlt hlt2
          have hst := tg_step (P := P) hat
          have hWd : (if j = 0 then (32 : Int) else 64) = 32 ∨ (if j = 0 then (32 : Int) else 64) = 64 := by by_cases h : j = 0 <;> simp [h]
          have hok := HOK.out (V : Int) (if j = 0 then 32 else 64) (by omega) (by omega) hWd
          have EW := EB.trans hTS.x
          have HTS := Lib.hid hTS
          have hsW := hTS.x.size
          have pb : w.heap.size < wr.heap.size := Nat.lt_of_lt_of_le hsB hsW
          have rb := Nat.lt_succ_of_lt pb
          clear hTS hat hWd
          generalize (if j = 0 then (32 : Int) else 64) = Wd at *
          simp only [] at hst
          have CK2 := Lib.hid (CK.out (V : Int) Wd)
          by_cases hpm : P ≤ mostOf (V : Int)
          · rw [if_pos hpm] at hst
            rw [hok.2 hpm] at CK2
            have HST := Lib.hid hst
            clear hok hst hpm
            go_wp2_with fail
            refine (HCUT.out _).mono ?_
            rintro e w' ⟨rfl, rfl⟩
            go_wp2_with fail
            refine (CK2.out _ (EW.alloc _)).mono ?_
            rintro e w3 ⟨rfl, X3⟩
            have o_0 : w3.cell? ⟨wr.heap.size, 0, none⟩ = some (.int .i64 (V : Int)) := X3.cell (by simp [go_sem])
            have o_1 : w3.cell? ⟨wr.heap.size, 1, none⟩ = some (.int .i64 Wd) := X3.cell (by simp [go_sem])
            have o_2 : w3.cell? ⟨wr.heap.size, 2, none⟩ = some (.int .i64 C) := X3.cell (by simp [go_sem])
            have o_3 : w3.cell? ⟨wr.heap.size, 3, none⟩ = some (.int .i64 P) := X3.cell (by simp [go_sem])
            have o_4 : w3.cell? ⟨wr.heap.size, 4, none⟩ = some (.int .u64 Z) := X3.cell (by simp [go_sem])
            have o_5 : w3.cell? ⟨wr.heap.size, 5, none⟩ = some (.slice a n cap) := X3.cell (by simp [go_sem])
            have z_5 : w3.frozen? ⟨wr.heap.size, 5, none⟩ = false := X3.frozen (v := .slice a n cap) (by simp [go_sem]) (by simp [go_sem])
            have tag3 := (X3.but (fun _ => False)).heap (World.alloc_heap_new wr (.cells #[.int .i64 (V : Int), .int .i64 Wd, .int .i64 C, .int .i64 P, .int .u64 Z, .slice a n cap] 25)) id
            have XW3 := ((Ext.refl wr).alloc (.cells #[.int .i64 (V : Int), .int .i64 Wd, .int .i64 C, .int .i64 P, .int .u64 Z, .slice a n cap] 25)).trans X3
            have HXW3 := Lib.hid XW3
            have HTAG3 := Lib.hid tag3
            have p5' := XW3.cell p_5
            clear p_0 p_1 p_2 p_3 p_4 p_5 wq X3 XW3 tag3
            go_wp2_with fail
            refine (CC.out _ (EW.trans HXW3.out)).mono ?_
            rintro e w4 ⟨b4, rfl, O4, X4⟩
            have T4 := HTS.out.ext (HXW3.out.trans X4)
            have tag4 := (X4.but (fun _ => False)).heap HTAG3.out id
            have HT4 := Lib.hid T4
            have HO4 := Lib.hid O4
            have HTAG4 := Lib.hid tag4
            replace o_0 := X4.cell o_0
            replace o_1 := X4.cell o_1
            replace o_2 := X4.cell o_2
            replace o_3 := X4.cell o_3
            replace o_4 := X4.cell o_4
            replace z_5 := X4.frozen o_5 z_5
            replace o_5 := X4.cell o_5
            clear X4 T4 O4 tag4 p5' HXW3 HTAG3
            rw [← HE.out] at HO4 ⊢
            go_upto_region 13 with (fail)
            refine settle_wp ?_
            intro w5 hb5
            have r_0 : w5.cell? ⟨wr.heap.size, 0, none⟩ = some (.int .i64 (V : Int)) := hb5.cell (by simp [go_sem, o_0])
            have r_1 : w5.cell? ⟨wr.heap.size, 1, none⟩ = some (.int .i64 Wd) := hb5.cell (by simp [go_sem, o_1])
            have r_2 : w5.cell? ⟨wr.heap.size, 2, none⟩ = some (.int .i64 C) := hb5.cell (by simp [go_sem, o_2])
            have r_3 : w5.cell? ⟨wr.heap.size, 3, none⟩ = some (.int .i64 P) := hb5.cell (by simp [go_sem, o_3])
            have r_4 : w5.cell? ⟨wr.heap.size, 4, none⟩ = some (.int .u64 Z) := hb5.cell (by simp [go_sem, o_4])
            have r_5 : w5.cell? ⟨wr.heap.size, 5, none⟩ = some (.slice (some ⟨b4, 0, none⟩) n n) := hb5.cell (by simp [go_sem, o_5])
            have B5 := but_setCell w4 ⟨wr.heap.size, 5, none⟩ (.slice (some ⟨b4, 0, none⟩) n n)
            have tagS : ∀ g, (g = (⟨wr.heap.size, 5, none⟩ : Addr).block) → g < w4.heap.size → ∃ cur fz, w4.heap[g]? = some (.cells cur 25 fz) := fun g hg _ => by subst hg; exact ⟨_, _, HTAG4.out⟩
            have T5 : TS wB C P Z ups (2 * (V - 1) + j) u5 us w5 := by
              refine TS.ext ⟨HT4.out.x.setCell (p := ⟨wr.heap.size, 5, none⟩) hsW _, HT4.out.len, B5.row HT4.out.row (fun g hg e => ?_), fun u hu => (HT4.out.own u hu).but B5 tagS⟩ hb5
              have := (HTS.out.row.lt g hg).2
              simp at e
              omega
            have O5 : OwnL w5 (.slice (some ⟨b4, 0, none⟩) n n) ups := (HO4.out.but B5 tagS).ext hb5
            have HT5 := Lib.hid T5
            have HO5 := Lib.hid O5
            have HNW := Lib.hid (World.news_of_block (World.alloc_heap_new w5 (.cells #[.int .i64 (V : Int), .int .i64 Wd, .int .i64 C, .int .i64 P, .int .u64 Z, .slice (some ⟨b4, 0, none⟩) n n] 25)))
            have htl := tg_len P (2 * (V - 1) + j)
            clear B5 tagS T5 O5 hb5 o_0 o_1 o_2 o_3 o_4 o_5 z_5 HT4 HO4 HTAG4
            go_wp2_with (at_builtin; refine wpList_append_own _ rfl _ _ 36 rfl wB.heap.size 25 i0 (.agg #[.int .i64 0, .int .i64 0, .int .i64 0, .int .i64 0, .int .u64 0, .slice none 0 0]) 6 64 Try.underlying36 hi hz0 hz1 hz2 rfl (by decide) _ _ _ rfl (((Ext.refl w5).alloc _).row HT5.out.row) ⟨w5.heap.size, 0, none⟩ 1 1 (cc C P Z ((V : Int), Wd) (.slice (some ⟨b4, 0, none⟩) n n)) rfl rfl HNW.out ?c2 ?c3 ?c4 ?c5 ?_)
            case c2 => intro u hu; simp [cc] at hu; rcases hu with rfl | rfl | rfl | rfl | rfl | rfl <;> rfl
            case c3 => unfold maxLen; omega
            case c4 => omega
            case c5 => have := HT5.out.x.size; simp; omega
            intro v' w' h1 h2 _
            have R6 := ((Ext.refl w5).alloc (.cells #[.int .i64 (V : Int), .int .i64 Wd, .int .i64 C, .int .i64 P, .int .u64 Z, .slice (some ⟨b4, 0, none⟩) n n] 25)).row HT5.out.row
            have B7 := but_grown h2
            have T7 : TS wB C P Z ups (2 * (V - 1) + (j + 1)) v' (us ++ [.slice (some ⟨b4, 0, none⟩) n n]) w' := by
              refine ⟨(HT5.out.x.alloc _).grown h2 (fun g hg => (R6.lt g hg).1), ?_, ?_, ?_⟩
              · show _ = (tg P (2 * (V - 1) + j + 1)).length
                rw [HST.out, List.length_append, List.length_append, HT5.out.len]
                rfl
              · show w'.ownsRow _ _ _ _ (tg P (2 * (V - 1) + j + 1)).length (rowT C P Z (tg P (2 * (V - 1) + j + 1)) _)
                rw [HST.out, rowT_snoc _ _ _ _ _ _ _ HT5.out.len, List.length_append]
                exact h1
              · intro u hu
                rcases List.mem_append.1 hu with hu | hu
                · exact ((HT5.out.own u hu).ext ((Ext.refl w5).alloc _)).but B7 (row_tag R6)
                · have : u = .slice (some ⟨b4, 0, none⟩) n n := by simpa using hu
                  subst this
                  exact (HO5.out.ext ((Ext.refl w5).alloc _)).but B7 (row_tag R6)
            have HT7 := Lib.hid T7
            clear h1 h2 R6 B7 T7
            go_wp2
            exact ⟨⟨j + 1, by omega, by go_num, _, HT7.out⟩, by simp [intOf]; omega⟩
          · rw [if_neg hpm] at hst
            have kg : (ckC (V : Int) Wd C P ups == 0) = false := by rw [beq_eq_false_iff_ne]; exact fun h => hpm (hok.1 h)
            have HST := Lib.hid hst
            generalize ckC (V : Int) Wd C P ups = gg at *
            clear hok hst hpm
            go_wp2_with fail
            refine (HCUT.out _).mono ?_
            rintro e w' ⟨rfl, rfl⟩
            go_wp2_with fail
            refine (CK2.out _ (EW.alloc _)).mono ?_
            rintro e w3 ⟨rfl, X3⟩
            have HT3 := Lib.hid ((HTS.out.ext (((Ext.refl wr).alloc _).trans X3)).next (m' := 2 * (V - 1) + (j + 1)) HST.out)
            clear p_0 p_1 p_2 p_3 p_4 p_5 wq X3
            go_wp2
            exact ⟨⟨j + 1, by omega, by go_num, us, HT3.out⟩, by simp [intOf]; omega⟩
        · have HTS2 := Lib.hid (hTS.next (m' := 2 * (V + 1 - 1)) (by rw [show 2 * (V + 1 - 1) = 2 * (V - 1) + j by omega]))
          clear hTS
          go_wp2
          exact ⟨⟨V + 1, by omega, by omega, by go_num, us, HTS2.out⟩, by simp [intOf]; omega⟩
    · obtain rfl : V = 6 := by omega
      have HG2 := Lib.hid (HG.out (.returned _) wr ⟨_, us, rfl, ⟨EB.trans hTS.x, hTS.len, row_lower hTS.row EB.size, hTS.own⟩⟩)
      clear hTS
      go_wp2
      exact HG2.out
end Go.Proofs.Ytlalkefbcddbfab
