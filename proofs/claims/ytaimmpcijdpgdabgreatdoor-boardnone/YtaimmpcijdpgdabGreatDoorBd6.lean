/- The law's live; Log and Len. -/
import Derived.Test.YtaimmpcijdpgdabGreatDoorBd5
namespace Go.Proofs.YtaimmpcijdpgdabGreatDoor
open Go.RowKit
set_option linter.unusedVariables false
set_option linter.unusedSimpArgs false
set_option maxHeartbeats 2000000
attribute [local go_sem] later_cell later_frozen later_const
theorem notOwn {b g k : Nat} (h1 : k ≠ b) (h2 : k ≠ g) : ¬ Own b g (.slice none 0 0) k := fun h => by
  rcases h with h | h | h
  · exact h1 h
  · exact h2 h
  · cases h
theorem ownGe {b g n : Nat} (h1 : n ≤ b) (h2 : n ≤ g) : ∀ k, Own b g (.slice none 0 0) k → n ≤ k := fun k h => by
  rcases h with h | h | h
  · omega
  · omega
  · cases h
theorem ckV : ckC 2 32 4 1 [[]] = 0 := by decide +kernel
theorem layV12 (u : Value) : layV 2 32 4 1 4294967295 u 1 = (.agg #[.int .i64 2, .int .i64 32, .int .i64 4, .int .i64 1, .int .u64 4294967295, u, .int .i64 (-1), .int .i64 1, .int .i64 (-1), .int .i64 (-1), .int .i64 (-1), .int .i64 2, .int .i64 6, .int .i64 10]) := by simp [layV, nCu, nCl, nTi, nSe, nNe, nMa, nSl, nCe]
theorem use12 : useN 2 1 4 1 = (3, 0) := by decide
set_option maxRecDepth 100000 in
theorem live12 (w : World) (E : Parts w) : Calls Tryz.prog 8 #[] w fun e w' => e = .returned (.bool true) ∧ Ext w w' := by
  have hok : NumOk 2 1 4 := ⟨by omega, by omega, by omega, by omega, by omega, by omega⟩
  have c1 := fun u w h => lOf_ok 2 32 4 1 4294967295 u [[]] w h (by simp) (by simp) ckV
  have c2 := fun (a : Option Addr) (w : World) h => New32 2 4 1 4294967295 a 1 [[]] (-1) 1 (-1) (-1) (-1) 2 6 10 w h (by simp) (by simp) ckV (by omega) (by omega) (by decide)
  have hkd : ∀ bo, kd (yOf 2 32 4 1 4294967295 bo 1 10) ((1 : Nat) : Int) = 1 := fun bo => by
    rw [yOf_kd (by decide)]
    decide
  have hf : fsC 2 32 4 4294967295 1 1 = 4294967295 := by
    unfold fsC
    rw [show useN 2 ((1 : Nat) : Int) 4 ((1 : Nat) : Int) = (3, 0) from use12]
    decide
  have c3 := fun b g bo (w : World) h hE => Add32_yes b g (yOf 2 32 4 1 4294967295 bo 1 10) (fsC 2 32 4 4294967295 1) (.slice none 0 0) [] 0 2 1 w h (yOf_ok hok (by decide)) hE (hkd bo) (by rw [hf]; omega) (by rw [hf]; omega) (by simp)
  have c4 := fun b g bo f lv log (w : World) h hE => Peek32 b g (yOf 2 32 4 1 4294967295 bo 1 10) f lv log 1 w h (yOf_ok hok (by decide)) hE (by rw [hkd bo]; decide)
  have c5 := fun b g bo f lv (w : World) h => Cost32 b g (yOf 2 32 4 1 4294967295 bo 1 10) f lv [⟨0, 3, ((1 : Nat) : Int), fsC 2 32 4 4294967295 1 1, (fsC 2 32 4 4294967295 1 1 % 4294967296 + 2) % 4294967296⟩] 0 w h (by simp)
  rw [show nL 0 [(⟨0, 3, ((1 : Nat) : Int), fsC 2 32 4 4294967295 1 1, (fsC 2 32 4 4294967295 1 1 % 4294967296 + 2) % 4294967296⟩ : Acc)] = 0 from rfl, show nC 0 [(⟨0, 3, ((1 : Nat) : Int), fsC 2 32 4 4294967295 1 1, (fsC 2 32 4 4294967295 1 1 % 4294967296 + 2) % 4294967296⟩ : Acc)] = 1 from rfl] at c5
  have c6 := fun w => second_yes (F ((0 : Nat) : Int)) (F ((1 : Nat) : Int)) 0 1 w (cnt_F (by omega) (by omega)) (cnt_F (by omega) (by omega))
  have HV : Hid (fsC 2 32 4 4294967295 1 1 % 4294967296 = 4294967295) := Lib.hid (by rw [hf]; decide)
  have HV2 : Hid (upd (fsC 2 32 4 4294967295 1) 1 ((fsC 2 32 4 4294967295 1 1 % 4294967296 + 2) % 4294967296) 1 = 1) := Lib.hid (by unfold upd; rw [if_pos rfl, hf]; decide)
  have C1 := Lib.hid c1
  have C2 := Lib.hid c2
  have C3 := Lib.hid c3
  have C4 := Lib.hid c4
  have C5 := Lib.hid c5
  have C6 := Lib.hid c6
  have HE := Lib.hid E
  clear c1 c2 c3 c4 c5 c6 E hkd hf hok
  go_enter Tryz.func8, Tryz.ntmps8
  go_wp2_with fail
  refine (plain10 _).mono ?_
  rintro e w1 ⟨b1, rfl, L1, X1⟩
  have HL1 := Lib.hid (L1.ext ((Ext.refl w1).alloc (.cells #[.int .i64 2, .int .i64 32, .int .i64 4, .int .i64 1, .int .u64 4294967295, .slice (some ⟨b1, 0, none⟩) 1 1] 25)))
  clear L1
  go_wp2_with fail
  refine (C1.out _ _ HL1.out).mono ?_
  rintro e w2 ⟨u2, rfl, O2, X2⟩
  obtain ⟨b2, f2, cur2, e2, -⟩ := id O2
  rw [show (([[]] : List (List Int)).length) = 1 from rfl] at e2 ⊢
  subst e2
  rw [show ((1 : Nat) : Int) = 1 from rfl, layV12]
  have E2 : Ext w w2 := X1.trans (Ext.trans ((Ext.refl w1).alloc _) X2)
  have HL2 := Lib.hid ((O2.ext ((Ext.refl w2).alloc (.cells #[.int .i64 2, .int .i64 32, .int .i64 4, .int .i64 1, .int .u64 4294967295, .slice (some ⟨b2, 0, none⟩) 1 1, .int .i64 (-1), .int .i64 1, .int .i64 (-1), .int .i64 (-1), .int .i64 (-1), .int .i64 2, .int .i64 6, .int .i64 10] 31))).lists)
  clear X1 X2 O2 HL1
  go_wp2_with fail
  refine (C2.out _ _ HL2.out).mono ?_
  rintro e w3 ⟨b3, g3, bo3, rfl, B3, O3, X3, hb3, hg3⟩
  rw [show (([[]] : List (List Int)).length) = 1 from rfl] at B3
  have ql : w3.cell? ⟨w2.heap.size, 7, none⟩ = some (.int .i64 1) := X3.cell (by simp [go_sem])
  have hs2 : (w2.alloc (.cells #[.int .i64 2, .int .i64 32, .int .i64 4, .int .i64 1, .int .u64 4294967295, .slice (some ⟨b2, 0, none⟩) 1 1, .int .i64 (-1), .int .i64 1, .int .i64 (-1), .int .i64 (-1), .int .i64 (-1), .int .i64 2, .int .i64 6, .int .i64 10] 31)).heap.size = w2.heap.size + 1 := by simp
  rw [hs2] at hb3 hg3
  have E3 : Ext w w3 := Ext.trans (E2.alloc _) X3
  have h02 := E2.size
  have HB3 := Lib.hid B3
  clear X3 O3 B3 E2 HL2 hs2
  go_wp2_with fail
  refine (C3.out b3 g3 bo3 _ HB3.out (HE.out.ext E3)).mono ?_
  rintro e w4 ⟨rfl, lv4, B4, T4, A4⟩
  rw [HV.out]
  replace ql := T4.cell ql (notOwn (by omega) (by omega))
  have E4 : Ext w w4 := But.ext E3 T4 (ownGe (by omega) (by omega))
  have HB4 := Lib.hid B4
  clear B4 T4 A4 HB3
  go_wp2_with fail
  refine (C4.out b3 g3 bo3 _ _ _ _ HB4.out (HE.out.ext E4)).mono ?_
  rintro e w5 ⟨rfl, X5⟩
  rw [HV2.out]
  have HB5 := Lib.hid (HB4.out.ext X5)
  have E5 := E4.trans X5
  clear X5 ql
  go_wp2_with fail
  refine (C5.out b3 g3 bo3 _ _ _ HB5.out).mono ?_
  rintro e w6 ⟨rfl, X6⟩
  have E6 := E5.trans X6
  clear X6
  go_wp2_with fail
  refine (C6.out _).mono ?_
  rintro e w' ⟨rfl, rfl⟩
  go_wp2
  go_ret
  exact ⟨rfl, E6⟩
def GivesA (w : World) (l : List Acc) (e : Ending) (w' : World) : Prop := ∃ v, e = .returned v ∧ w'.ownsRow w.heap.size 91 5 v l.length (rowA l) ∧ Ext w w'
theorem aClone (base : Nat) (v : Value) (l : List Acc) (w : World) (h : w.ownsRow base 91 5 v l.length (rowA l)) (hl : l.length ≤ 1000) : Calls Tryz.prog 68 #[v] w (GivesA w l) := by
  obtain ⟨a, cap, rfl, hf⟩ := rowA_form h
  cases a with
  | none =>
    have h0 : l = [] := by
      cases l with
      | nil => rfl
      | cons z l => obtain ⟨g, e, _⟩ := hf 0 (by simp); cases e
    subst h0
    have heq := fun W => Lib.run_eql_slice_nil (P := Tryz.prog) W 50 91 none 0 cap 0 0 Tryz.underlying50
    have HG : Hid (GivesA w [] (.returned (.slice none 0 0)) w) := Lib.hid ⟨_, rfl, World.ownsRow_nil _ _ _ _, Ext.refl _⟩
    generalize GivesA w [] = G at *
    clear hf h
    show Calls Tryz.prog 68 #[.slice none 0 cap] w G
    go_enter Tryz.func68, Tryz.ntmps68
    go_wp2
    exact HG.out
  | some p =>
    obtain ⟨i0, hi, hz0, hz1, hz2⟩ := info_parts info_acc
    have hnews : ∀ j u, (rowA l)[j]? = some u → w.cell? (p.add j) = some u := by
      intro j u hu
      have hll : 0 < l.length := by
        rcases Nat.eq_zero_or_pos l.length with h0 | h0
        · have : l = [] := List.length_eq_zero_iff.1 h0
          subst this
          simp [rowA] at hu
        · exact h0
      obtain ⟨g, e, hc⟩ := hf 0 hll
      cases e
      have := hc j u hu
      by_cases hj0 : j = 0
      · subst hj0; simpa [Addr.add] using this
      · simpa [Addr.add, hj0] using this
    have HN := Lib.hid hnews
    have HL : Hid ((rowA l).length = l.length * 5) := Lib.hid (rowA_len l)
    have HM := Lib.hid (rowA_one l)
    have HG : Hid (∀ v' w', w'.ownsRow w.heap.size 91 5 v' l.length (rowA l) → Ext w w' → GivesA w l (.returned v') w') := Lib.hid (fun v' w' h1 h2 => ⟨v', rfl, h1, h2⟩)
    generalize hgr : GivesA w l = G at *
    generalize rowA l = ns at *
    generalize l.length = n at *
    clear h hnews hf hgr
    have heq := fun W => Lib.run_eql_slice_nil (P := Tryz.prog) W 50 91 (some p) n cap 0 0 Tryz.underlying50
    go_enter Tryz.func68, Tryz.ntmps68
    go_wp2_with (at_builtin; refine wpList_append_own _ rfl _ _ 50 rfl w.heap.size 91 i0 (.agg #[.int .i64 0, .int .i64 0, .int .i64 0, .int .u64 0, .int .u64 0]) 5 40 Tryz.underlying50 hi hz0 hz1 hz2 rfl (by decide) _ 0 [] rfl (World.ownsRow_made w #[] 0 (Nat.le_refl _) (by unfold maxLen; omega) rfl) p n cap ns rfl HL.out ?c1 HM.out ?c3 ?c4 ?c5 ?_)
    case c1 => intro j u hu; exact Lib.cell?_alloc_some _ (HN.out j u hu)
    case c3 => unfold maxLen; omega
    case c4 => omega
    case c5 => simp
    intro v' w' h1 h2 _
    have X := (((Ext.refl w).alloc (.cells #[] 91))).grown h2 (fun j h => by simp [Value.ownBlock] at h; omega)
    have h1' : w'.ownsRow w.heap.size 91 5 v' n ns := by simpa using h1
    have HG2 := Lib.hid (HG.out v' w' h1' X)
    clear h1 h1' h2 X
    go_wp2
    exact HG2.out
theorem Log32 (b g : Nat) (y : LY) (f : Nat → Int) (lv : Value) (log : List Acc) (w : World) (hB : BD w 74 b g y f lv log) (hl : log.length ≤ 1000) :
    Calls Tryz.prog 19 #[.pointer (some ⟨b, 0, none⟩)] w (GivesA w log) := by
  have C := Lib.hid (aClone 0 lv log w hB.row hl)
  have q15 := hB.q15
  clear hB
  go_enter Tryz.func19, Tryz.ntmps19
  go_wp2_with fail
  refine C.out.mono ?_
  rintro e w1 ⟨v, rfl, R1, X1⟩
  have HR : Hid (GivesA w log (.returned v) w1) := Lib.hid ⟨v, rfl, R1, X1⟩
  clear R1 X1
  go_wp2
  go_ret
  exact HR.out
theorem Log64 (b g : Nat) (y : LY) (f : Nat → Int) (lv : Value) (log : List Acc) (w : World) (hB : BD w 75 b g y f lv log) (hl : log.length ≤ 1000) :
    Calls Tryz.prog 23 #[.pointer (some ⟨b, 0, none⟩)] w (GivesA w log) := by
  have C := Lib.hid (aClone 0 lv log w hB.row hl)
  have q15 := hB.q15
  clear hB
  go_enter Tryz.func23, Tryz.ntmps23
  go_wp2_with fail
  refine C.out.mono ?_
  rintro e w1 ⟨v, rfl, R1, X1⟩
  have HR : Hid (GivesA w log (.returned v) w1) := Lib.hid ⟨v, rfl, R1, X1⟩
  clear R1 X1
  go_wp2
  go_ret
  exact HR.out
end Go.Proofs.YtaimmpcijdpgdabGreatDoor
