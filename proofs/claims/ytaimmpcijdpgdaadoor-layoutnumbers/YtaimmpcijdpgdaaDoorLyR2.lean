/- The document's Of of layer 11. -/
import Derived.Test.YtaimmpcijdpgdaaDoorLyR
namespace Go.Proofs.YtaimmpcijdpgdaaDoor
open Go.RowKit
set_option linter.unusedVariables false
set_option linter.unusedSimpArgs false
set_option maxHeartbeats 2000000
attribute [local go_sem] later_cell later_frozen later_const
/-- the gates -/
def gateL (W S : Int) (m : Nat) : List DC := (List.range m).map fun (i : Nat) => ⟨pName 1 ++ tx (Lib.itoa (i : Int)), 1, cutS W S⟩
theorem gateL_len (W S : Int) (m : Nat) : (gateL W S m).length = m := by simp [gateL]
theorem gateL_snoc (W S : Int) (m : Nat) : gateL W S (m + 1) = gateL W S m ++ [⟨pName 1 ++ tx (Lib.itoa (m : Int)), 1, cutS W S⟩] := by
  unfold gateL
  rw [List.range_succ, List.map_append]
  rfl
/-- those of the variant -/
def varL (V W C S : Int) : List DC :=
  if V = 1 then [⟨pName 2, 1, cutS W S⟩] else if V = 5 then [⟨pName 4, 1, 0⟩, ⟨pName 5, 1, 0⟩, ⟨pName 6, 2, cutS W S⟩] ++ slotL 9 W C S C.toNat
  else if V = 4 then [⟨pName 3, 1, cutS W S⟩] ++ slotL 8 W C S C.toNat else [⟨pName 3, 1, cutS W S⟩] ++ slotL 7 W C S C.toNat
def listD (V W C S : Int) (n : Nat) : List DC := gateL W S n ++ varL V W C S ++ slotL 10 W C S C.toNat
theorem three_cells (w : World) (g : Nat) (d e f : DC) (h : ∀ j u, (dcV d ++ dcV e ++ dcV f)[j]? = some u → w.cell? ⟨g, j, none⟩ = some u) : ∀ j u, (rowD [d, e, f])[j]? = some u → w.cell? ⟨g, j, none⟩ = some u := by
  intro j u hu
  refine h j u ?_
  simpa [rowD] using hu
theorem three_at (w : World) (g : Nat) (d e f : DC) (h0 : w.cell? ⟨g, 0, none⟩ = some (.string d.nm)) (h1 : w.cell? ⟨g, 1, none⟩ = some (.int .i64 d.kd)) (h2 : w.cell? ⟨g, 2, none⟩ = some (.int .u64 d.fs)) (h3 : w.cell? ⟨g, 3, none⟩ = some (.string e.nm)) (h4 : w.cell? ⟨g, 4, none⟩ = some (.int .i64 e.kd)) (h5 : w.cell? ⟨g, 5, none⟩ = some (.int .u64 e.fs)) (h6 : w.cell? ⟨g, 6, none⟩ = some (.string f.nm)) (h7 : w.cell? ⟨g, 7, none⟩ = some (.int .i64 f.kd)) (h8 : w.cell? ⟨g, 8, none⟩ = some (.int .u64 f.fs)) : ∀ j u, (dcV d ++ dcV e ++ dcV f)[j]? = some u → w.cell? ⟨g, j, none⟩ = some u := by
  intro j u hu
  match j, hu with
  | 0, hu => simp [dcV] at hu; subst hu; exact h0
  | 1, hu => simp [dcV] at hu; subst hu; exact h1
  | 2, hu => simp [dcV] at hu; subst hu; exact h2
  | 3, hu => simp [dcV] at hu; subst hu; exact h3
  | 4, hu => simp [dcV] at hu; subst hu; exact h4
  | 5, hu => simp [dcV] at hu; subst hu; exact h5
  | 6, hu => simp [dcV] at hu; subst hu; exact h6
  | 7, hu => simp [dcV] at hu; subst hu; exact h7
  | 8, hu => simp [dcV] at hu; subst hu; exact h8
  | j + 9, hu => simp [dcV] at hu
set_option maxRecDepth 100000 in
theorem rOf11 (V W C P S : Int) (a : Option Addr) (n cap : Nat) (w : World) (hV1 : 1 ≤ V) (hV5 : V ≤ 5) (hW : W = 32 ∨ W = 64) (hC : rightB C = true) (hC1 : C ≤ 64) (hS0 : 0 ≤ S) (hn : n ≤ 6) :
    Calls Tryd.prog 12 #[(.agg #[.int .i64 V, .int .i64 W, .int .i64 C, .int .i64 P, .int .u64 (S), .slice a n cap])] w (GivesD w (listD V W C S n)) := by
  have CS := Lib.hid (fun w => rStart V W C P S a n cap w hW hS0)
  have c7 := Lib.hid (fun w => rSlots_7 V W C P S a n cap w hW hC hC1 hS0)
  have c8 := Lib.hid (fun w => rSlots_8 V W C P S a n cap w hW hC hC1 hS0)
  have c9 := Lib.hid (fun w => rSlots_9 V W C P S a n cap w hW hC hC1 hS0)
  have c10 := Lib.hid (fun w => rSlots_10 V W C P S a n cap w hW hC hC1 hS0)
  have hCr := right_range hC
  have l7 := Lib.hid (slotL_len 7 W C S C.toNat)
  have l8 := Lib.hid (slotL_len 8 W C S C.toNat)
  have l9 := Lib.hid (slotL_len 9 W C S C.toNat)
  have l10 := Lib.hid (slotL_len 10 W C S C.toNat)
  have HL0 : Hid (∀ F, F = listD V W C S n → ∀ v w', RD w' w.heap.size v F → Ext w w' → GivesD w (listD V W C S n) (.returned v) w') := Lib.hid (fun F e v w' h1 h2 => ⟨v, rfl, by rw [← e]; exact h1, h2⟩)
  have CN := Lib.hid (fun (i : Nat) (w : World) (hi : i ≤ 64) => rNum6 i w (by omega) (by omega))
  have HST : Hid (∀ i : Nat, gateL W S (i + 1) = gateL W S i ++ [⟨⟨#[103, 97, 116, 101]⟩ ++ tx (Lib.itoa (i : Int)), 1, cutS W S⟩]) := Lib.hid (fun i => by rw [gateL_snoc]; rfl)
  have HLN : Hid (∀ i : Nat, (gateL W S i).length = i) := Lib.hid (fun i => gateL_len _ _ _)
  have HZ : Hid (∀ i : Nat, i ≤ 64 → (tx (Lib.itoa (i : Int))).size ≤ 21) := Lib.hid (fun i hi => itoa_len21 i hi)
  have HSL : Hid (gateL W S 0 = []) := Lib.hid rfl
  have hv1 : V = 1 → varL V W C S = [⟨⟨#[99, 117, 114, 115, 111, 114]⟩, 1, cutS W S⟩] := fun h => by unfold varL; rw [if_pos h]; rfl
  have hv5 : V = 5 → varL V W C S = [⟨⟨#[116, 105, 99, 107, 101, 116]⟩, 1, 0⟩, ⟨⟨#[115, 101, 114, 118, 105, 110, 103]⟩, 1, 0⟩, ⟨⟨#[110, 101, 120, 116]⟩, 2, cutS W S⟩] ++ slotL 9 W C S C.toNat := fun h => by unfold varL; rw [if_neg (by omega), if_pos h]; rfl
  have hv4 : V = 4 → varL V W C S = [⟨⟨#[99, 108, 97, 105, 109]⟩, 1, cutS W S⟩] ++ slotL 8 W C S C.toNat := fun h => by unfold varL; rw [if_neg (by omega), if_neg (by omega), if_pos h]; rfl
  have hv2 : V = 2 ∨ V = 3 → varL V W C S = [⟨⟨#[99, 108, 97, 105, 109]⟩, 1, cutS W S⟩] ++ slotL 7 W C S C.toNat := fun h => by unfold varL; rw [if_neg (by omega), if_neg (by omega), if_neg (by omega)]; rfl
  have HLD : Hid (∀ G, varL V W C S = G → listD V W C S n = gateL W S n ++ G ++ slotL 10 W C S C.toNat) := Lib.hid (fun G h => by rw [← h]; rfl)
  have H1 := Lib.hid hv1
  have H5 := Lib.hid hv5
  have H4 := Lib.hid hv4
  have H2 := Lib.hid hv2
  clear hv1 hv5 hv4 hv2
  generalize GivesD w (listD V W C S n) = G at *
  generalize listD V W C S n = LD at *
  generalize varL V W C S = VL at *
  generalize slotL 7 W C S C.toNat = L7 at *
  generalize slotL 8 W C S C.toNat = L8 at *
  generalize slotL 9 W C S C.toNat = L9 at *
  generalize slotL 10 W C S C.toNat = L10 at *
  generalize hf : gateL W S = F at *
  clear hf hC hS0 hW
  generalize cutS W S = p at *
  go_enter Tryd.func12, Tryd.ntmps12
  go_wp2_with fail
  refine (CS.out _).mono ?_
  rintro e w1 ⟨rfl, hb1⟩
  obtain ⟨hc1, hf1⟩ := hb1.cells
  clear hc1 hf1
  have qc_0 : w1.cell? ⟨w.heap.size, 0, none⟩ = some (.int .i64 V) := (hb1.cells.1 _ _ (by simp <;> omega)).trans (by simp [go_sem])
  have qc_1 : w1.cell? ⟨w.heap.size, 1, none⟩ = some (.int .i64 W) := (hb1.cells.1 _ _ (by simp <;> omega)).trans (by simp [go_sem])
  have qc_2 : w1.cell? ⟨w.heap.size, 2, none⟩ = some (.int .i64 C) := (hb1.cells.1 _ _ (by simp <;> omega)).trans (by simp [go_sem])
  have qc_3 : w1.cell? ⟨w.heap.size, 3, none⟩ = some (.int .i64 P) := (hb1.cells.1 _ _ (by simp <;> omega)).trans (by simp [go_sem])
  have qc_4 : w1.cell? ⟨w.heap.size, 4, none⟩ = some (.int .u64 (S)) := (hb1.cells.1 _ _ (by simp <;> omega)).trans (by simp [go_sem])
  have qc_5 : w1.cell? ⟨w.heap.size, 5, none⟩ = some (.slice a n cap) := (hb1.cells.1 _ _ (by simp <;> omega)).trans (by simp [go_sem])
  have pc := World.block_lt_of_cell? _ ⟨w.heap.size, 0, none⟩ qc_0
  have rc := Nat.lt_succ_of_lt pc
  have EB : Ext w w1 := by repeat (first | with_reducible exact Ext.refl _ | with_reducible assumption | with_reducible refine Ext.alloc ?_ _ | with_reducible refine Ext.drew ?_ | with_reducible refine Ext.drewN ?_ _ | with_reducible refine Ext.setCell ?_ (by simp <;> omega) _ | with_reducible refine Ext.trans ?_ (by assumption))
  clear hb1
  go_wp2
  go_loopw [3, 5] (fun v i wr => ∃ k : Nat, k ≤ n ∧ i = .int .i64 k ∧ RD wr w1.heap.size v (F k) ∧ Ext w1 wr) (fun _ i _ => n - (intOf i).toNat)
  case atStart => exact ⟨0, Nat.zero_le _, rfl, by rw [HSL.out]; exact RD.nil _ _, Ext.refl _⟩
  case round =>
    obtain ⟨k, hk, rfl, hR, hx⟩ := hrel
    have p_0 := hx.cell qc_0
    have p_1 := hx.cell qc_1
    have p_2 := hx.cell qc_2
    have p_3 := hx.cell qc_3
    have p_4 := hx.cell qc_4
    have p_5 := hx.cell qc_5
    by_cases hlt : k < n
    · have hkm : (k : Int) < (n : Int) := by omega
      have HR := Lib.hid hR
      have HX := Lib.hid hx
      have CK := Lib.hid (fun w => CN.out k w (by omega))
      have hz := HZ.out k (by omega)
      have hz2 : (⟨#[103, 97, 116, 101]⟩ : ByteArray).size + (tx (Lib.itoa (k : Int))).size ≤ 9223372036854775807 := by
        have : (⟨#[103, 97, 116, 101]⟩ : ByteArray).size ≤ 10 := by decide
        omega
      have HT := Lib.hid (HST.out k)
      have hfl := HLN.out k
      generalize tx (Lib.itoa (k : Int)) = num at *
      clear hR hx
      go_wp2_with fail
      refine (CK.out _).mono ?_
      rintro e w2 ⟨rfl, X2⟩
      have HR3 := Lib.hid (HR.out.ext X2)
      have HX3 := Lib.hid (HX.out.trans X2)
      clear X2 p_0 p_1 p_2 p_3 p_4 p_5
      go_wp2_with (at_builtin; refine appD _ rfl _ _ rfl w1 _ (F k) rfl (HR3.out.ext ((Ext.refl w2).alloc _)) (HX3.out.alloc _) w2.heap.size 1 [⟨⟨#[103, 97, 116, 101]⟩ ++ num, 1, p⟩] rfl (one_cells _ _ _ (by simp [go_sem]) (by simp [go_sem]) (by simp [go_sem])) (by omega) (by simp) ?_)
      intro v' w' hR' hX'
      have HR4 := Lib.hid hR'
      have HX4 := Lib.hid hX'
      clear hR' hX'
      go_wp2
      exact ⟨⟨k + 1, by omega, by go_num, by rw [HT.out]; exact HR4.out, HX4.out⟩, by simp [intOf]; omega⟩
    · obtain rfl : k = n := by omega
      have HR := Lib.hid hR
      have HX := Lib.hid hx
      have hfl := HLN.out k
      clear hR hx
      by_cases h1 : V = 1
      · subst h1
        go_wp2_with (at_builtin; refine appD _ rfl _ _ rfl w1 _ (F k) rfl (HR.out.ext ((Ext.refl wr).alloc _)) (HX.out.alloc _) wr.heap.size 1 [⟨⟨#[99, 117, 114, 115, 111, 114]⟩, 1, p⟩] rfl (one_cells _ _ _ (by simp [go_sem]) (by simp [go_sem]) (by simp [go_sem])) (by first | omega | (simp only [List.length_append, List.length_cons, List.length_nil]; omega)) (by simp) ?_)
        intro v6 w6 hR' hX'
        have HR6 := Lib.hid hR'
        have HX6 := Lib.hid hX'
        clear hR' hX' p_0 p_1 p_2 p_3 p_4 p_5
        have p_0 := HX6.out.cell qc_0
        have p_1 := HX6.out.cell qc_1
        have p_2 := HX6.out.cell qc_2
        have p_3 := HX6.out.cell qc_3
        have p_4 := HX6.out.cell qc_4
        have p_5 := HX6.out.cell qc_5
        go_wp2_with fail
        rename_i Kz hKz
        refine (c10.out _).mono ?_
        rintro e wz9 ⟨vz, rfl, Rz, Xz⟩
        obtain ⟨gz, capz, ez, _, _, hcz⟩ := Rz.form (by have := l7.out; have := l8.out; have := l9.out; have := l10.out; omega)
        subst ez
        have HRz := Lib.hid (HR6.out.ext Xz)
        have HXz := Lib.hid (HX6.out.trans Xz)
        have HCZ := Lib.hid hcz
        clear Rz Xz hcz
        refine hKz _ _ (appD _ rfl _ _ rfl w1 v6 (F k ++ [⟨⟨#[99, 117, 114, 115, 111, 114]⟩, 1, p⟩]) rfl HRz.out HXz.out gz capz L10 rfl HCZ.out (by have := l7.out; have := l8.out; have := l9.out; have := l10.out; simp only [List.length_append, List.length_cons, List.length_nil]; omega) (by have := l7.out; have := l8.out; have := l9.out; have := l10.out; omega) ?_)
        intro v9 w9 hR' hX'
        have HR9 := Lib.hid hR'
        have HX9 := Lib.hid hX'
        clear hR' hX' p_0 p_1 p_2 p_3 p_4 p_5 HRz HXz HCZ
        have p_0 := HX9.out.cell qc_0
        have p_1 := HX9.out.cell qc_1
        have p_2 := HX9.out.cell qc_2
        have p_3 := HX9.out.cell qc_3
        have p_4 := HX9.out.cell qc_4
        have p_5 := HX9.out.cell qc_5
        have HG2 := Lib.hid (HL0.out _ ((by simp only [List.append_assoc] : F k ++ [⟨⟨#[99, 117, 114, 115, 111, 114]⟩, 1, p⟩] ++ L10 = F k ++ ([⟨⟨#[99, 117, 114, 115, 111, 114]⟩, 1, p⟩]) ++ L10).trans (HLD.out _ (H1.out (by first | trivial | simp | omega))).symm) _ _ (HR9.out.lower EB.size) (EB.trans HX9.out))
        clear p_0 p_1 p_2 p_3 p_4 p_5
        go_wp2
        exact HG2.out
      have d1 : (V == 1) = false := by simpa using h1
      by_cases h23 : V = 2 ∨ V = 3
      · rcases h23 with rfl | rfl
        · go_wp2_with (at_builtin; refine appD _ rfl _ _ rfl w1 _ (F k) rfl (HR.out.ext ((Ext.refl wr).alloc _)) (HX.out.alloc _) wr.heap.size 1 [⟨⟨#[99, 108, 97, 105, 109]⟩, 1, p⟩] rfl (one_cells _ _ _ (by simp [go_sem]) (by simp [go_sem]) (by simp [go_sem])) (by first | omega | (simp only [List.length_append, List.length_cons, List.length_nil]; omega)) (by simp) ?_)
          intro v6 w6 hR' hX'
          have HR6 := Lib.hid hR'
          have HX6 := Lib.hid hX'
          clear hR' hX' p_0 p_1 p_2 p_3 p_4 p_5
          have p_0 := HX6.out.cell qc_0
          have p_1 := HX6.out.cell qc_1
          have p_2 := HX6.out.cell qc_2
          have p_3 := HX6.out.cell qc_3
          have p_4 := HX6.out.cell qc_4
          have p_5 := HX6.out.cell qc_5
          go_wp2_with fail
          rename_i Kz hKz
          refine (c7.out _).mono ?_
          rintro e wz7 ⟨vz, rfl, Rz, Xz⟩
          obtain ⟨gz, capz, ez, _, _, hcz⟩ := Rz.form (by have := l7.out; have := l8.out; have := l9.out; have := l10.out; omega)
          subst ez
          have HRz := Lib.hid (HR6.out.ext Xz)
          have HXz := Lib.hid (HX6.out.trans Xz)
          have HCZ := Lib.hid hcz
          clear Rz Xz hcz
          refine hKz _ _ (appD _ rfl _ _ rfl w1 v6 (F k ++ [⟨⟨#[99, 108, 97, 105, 109]⟩, 1, p⟩]) rfl HRz.out HXz.out gz capz L7 rfl HCZ.out (by have := l7.out; have := l8.out; have := l9.out; have := l10.out; simp only [List.length_append, List.length_cons, List.length_nil]; omega) (by have := l7.out; have := l8.out; have := l9.out; have := l10.out; omega) ?_)
          intro v7 w7 hR' hX'
          have HR7 := Lib.hid hR'
          have HX7 := Lib.hid hX'
          clear hR' hX' p_0 p_1 p_2 p_3 p_4 p_5 HRz HXz HCZ
          have p_0 := HX7.out.cell qc_0
          have p_1 := HX7.out.cell qc_1
          have p_2 := HX7.out.cell qc_2
          have p_3 := HX7.out.cell qc_3
          have p_4 := HX7.out.cell qc_4
          have p_5 := HX7.out.cell qc_5
          go_wp2_with fail
          rename_i Kz hKz
          refine (c10.out _).mono ?_
          rintro e wz9 ⟨vz, rfl, Rz, Xz⟩
          obtain ⟨gz, capz, ez, _, _, hcz⟩ := Rz.form (by have := l7.out; have := l8.out; have := l9.out; have := l10.out; omega)
          subst ez
          have HRz := Lib.hid (HR7.out.ext Xz)
          have HXz := Lib.hid (HX7.out.trans Xz)
          have HCZ := Lib.hid hcz
          clear Rz Xz hcz
          refine hKz _ _ (appD _ rfl _ _ rfl w1 v7 (F k ++ [⟨⟨#[99, 108, 97, 105, 109]⟩, 1, p⟩] ++ L7) rfl HRz.out HXz.out gz capz L10 rfl HCZ.out (by have := l7.out; have := l8.out; have := l9.out; have := l10.out; simp only [List.length_append, List.length_cons, List.length_nil]; omega) (by have := l7.out; have := l8.out; have := l9.out; have := l10.out; omega) ?_)
          intro v9 w9 hR' hX'
          have HR9 := Lib.hid hR'
          have HX9 := Lib.hid hX'
          clear hR' hX' p_0 p_1 p_2 p_3 p_4 p_5 HRz HXz HCZ
          have p_0 := HX9.out.cell qc_0
          have p_1 := HX9.out.cell qc_1
          have p_2 := HX9.out.cell qc_2
          have p_3 := HX9.out.cell qc_3
          have p_4 := HX9.out.cell qc_4
          have p_5 := HX9.out.cell qc_5
          have HG2 := Lib.hid (HL0.out _ ((by simp only [List.append_assoc] : F k ++ [⟨⟨#[99, 108, 97, 105, 109]⟩, 1, p⟩] ++ L7 ++ L10 = F k ++ ([⟨⟨#[99, 108, 97, 105, 109]⟩, 1, p⟩] ++ L7) ++ L10).trans (HLD.out _ (H2.out (by first | trivial | simp | omega))).symm) _ _ (HR9.out.lower EB.size) (EB.trans HX9.out))
          clear p_0 p_1 p_2 p_3 p_4 p_5
          go_wp2
          exact HG2.out
        · go_wp2_with (at_builtin; refine appD _ rfl _ _ rfl w1 _ (F k) rfl (HR.out.ext ((Ext.refl wr).alloc _)) (HX.out.alloc _) wr.heap.size 1 [⟨⟨#[99, 108, 97, 105, 109]⟩, 1, p⟩] rfl (one_cells _ _ _ (by simp [go_sem]) (by simp [go_sem]) (by simp [go_sem])) (by first | omega | (simp only [List.length_append, List.length_cons, List.length_nil]; omega)) (by simp) ?_)
          intro v6 w6 hR' hX'
          have HR6 := Lib.hid hR'
          have HX6 := Lib.hid hX'
          clear hR' hX' p_0 p_1 p_2 p_3 p_4 p_5
          have p_0 := HX6.out.cell qc_0
          have p_1 := HX6.out.cell qc_1
          have p_2 := HX6.out.cell qc_2
          have p_3 := HX6.out.cell qc_3
          have p_4 := HX6.out.cell qc_4
          have p_5 := HX6.out.cell qc_5
          go_wp2_with fail
          rename_i Kz hKz
          refine (c7.out _).mono ?_
          rintro e wz7 ⟨vz, rfl, Rz, Xz⟩
          obtain ⟨gz, capz, ez, _, _, hcz⟩ := Rz.form (by have := l7.out; have := l8.out; have := l9.out; have := l10.out; omega)
          subst ez
          have HRz := Lib.hid (HR6.out.ext Xz)
          have HXz := Lib.hid (HX6.out.trans Xz)
          have HCZ := Lib.hid hcz
          clear Rz Xz hcz
          refine hKz _ _ (appD _ rfl _ _ rfl w1 v6 (F k ++ [⟨⟨#[99, 108, 97, 105, 109]⟩, 1, p⟩]) rfl HRz.out HXz.out gz capz L7 rfl HCZ.out (by have := l7.out; have := l8.out; have := l9.out; have := l10.out; simp only [List.length_append, List.length_cons, List.length_nil]; omega) (by have := l7.out; have := l8.out; have := l9.out; have := l10.out; omega) ?_)
          intro v7 w7 hR' hX'
          have HR7 := Lib.hid hR'
          have HX7 := Lib.hid hX'
          clear hR' hX' p_0 p_1 p_2 p_3 p_4 p_5 HRz HXz HCZ
          have p_0 := HX7.out.cell qc_0
          have p_1 := HX7.out.cell qc_1
          have p_2 := HX7.out.cell qc_2
          have p_3 := HX7.out.cell qc_3
          have p_4 := HX7.out.cell qc_4
          have p_5 := HX7.out.cell qc_5
          go_wp2_with fail
          rename_i Kz hKz
          refine (c10.out _).mono ?_
          rintro e wz9 ⟨vz, rfl, Rz, Xz⟩
          obtain ⟨gz, capz, ez, _, _, hcz⟩ := Rz.form (by have := l7.out; have := l8.out; have := l9.out; have := l10.out; omega)
          subst ez
          have HRz := Lib.hid (HR7.out.ext Xz)
          have HXz := Lib.hid (HX7.out.trans Xz)
          have HCZ := Lib.hid hcz
          clear Rz Xz hcz
          refine hKz _ _ (appD _ rfl _ _ rfl w1 v7 (F k ++ [⟨⟨#[99, 108, 97, 105, 109]⟩, 1, p⟩] ++ L7) rfl HRz.out HXz.out gz capz L10 rfl HCZ.out (by have := l7.out; have := l8.out; have := l9.out; have := l10.out; simp only [List.length_append, List.length_cons, List.length_nil]; omega) (by have := l7.out; have := l8.out; have := l9.out; have := l10.out; omega) ?_)
          intro v9 w9 hR' hX'
          have HR9 := Lib.hid hR'
          have HX9 := Lib.hid hX'
          clear hR' hX' p_0 p_1 p_2 p_3 p_4 p_5 HRz HXz HCZ
          have p_0 := HX9.out.cell qc_0
          have p_1 := HX9.out.cell qc_1
          have p_2 := HX9.out.cell qc_2
          have p_3 := HX9.out.cell qc_3
          have p_4 := HX9.out.cell qc_4
          have p_5 := HX9.out.cell qc_5
          have HG2 := Lib.hid (HL0.out _ ((by simp only [List.append_assoc] : F k ++ [⟨⟨#[99, 108, 97, 105, 109]⟩, 1, p⟩] ++ L7 ++ L10 = F k ++ ([⟨⟨#[99, 108, 97, 105, 109]⟩, 1, p⟩] ++ L7) ++ L10).trans (HLD.out _ (H2.out (by first | trivial | simp | omega))).symm) _ _ (HR9.out.lower EB.size) (EB.trans HX9.out))
          clear p_0 p_1 p_2 p_3 p_4 p_5
          go_wp2
          exact HG2.out
      have d2 : (V == 2) = false := by simp; omega
      have d3 : (V == 3) = false := by simp; omega
      by_cases h4 : V = 4
      · subst h4
        go_wp2_with (at_builtin; refine appD _ rfl _ _ rfl w1 _ (F k) rfl (HR.out.ext ((Ext.refl wr).alloc _)) (HX.out.alloc _) wr.heap.size 1 [⟨⟨#[99, 108, 97, 105, 109]⟩, 1, p⟩] rfl (one_cells _ _ _ (by simp [go_sem]) (by simp [go_sem]) (by simp [go_sem])) (by first | omega | (simp only [List.length_append, List.length_cons, List.length_nil]; omega)) (by simp) ?_)
        intro v6 w6 hR' hX'
        have HR6 := Lib.hid hR'
        have HX6 := Lib.hid hX'
        clear hR' hX' p_0 p_1 p_2 p_3 p_4 p_5
        have p_0 := HX6.out.cell qc_0
        have p_1 := HX6.out.cell qc_1
        have p_2 := HX6.out.cell qc_2
        have p_3 := HX6.out.cell qc_3
        have p_4 := HX6.out.cell qc_4
        have p_5 := HX6.out.cell qc_5
        go_wp2_with fail
        rename_i Kz hKz
        refine (c8.out _).mono ?_
        rintro e wz7 ⟨vz, rfl, Rz, Xz⟩
        obtain ⟨gz, capz, ez, _, _, hcz⟩ := Rz.form (by have := l7.out; have := l8.out; have := l9.out; have := l10.out; omega)
        subst ez
        have HRz := Lib.hid (HR6.out.ext Xz)
        have HXz := Lib.hid (HX6.out.trans Xz)
        have HCZ := Lib.hid hcz
        clear Rz Xz hcz
        refine hKz _ _ (appD _ rfl _ _ rfl w1 v6 (F k ++ [⟨⟨#[99, 108, 97, 105, 109]⟩, 1, p⟩]) rfl HRz.out HXz.out gz capz L8 rfl HCZ.out (by have := l7.out; have := l8.out; have := l9.out; have := l10.out; simp only [List.length_append, List.length_cons, List.length_nil]; omega) (by have := l7.out; have := l8.out; have := l9.out; have := l10.out; omega) ?_)
        intro v7 w7 hR' hX'
        have HR7 := Lib.hid hR'
        have HX7 := Lib.hid hX'
        clear hR' hX' p_0 p_1 p_2 p_3 p_4 p_5 HRz HXz HCZ
        have p_0 := HX7.out.cell qc_0
        have p_1 := HX7.out.cell qc_1
        have p_2 := HX7.out.cell qc_2
        have p_3 := HX7.out.cell qc_3
        have p_4 := HX7.out.cell qc_4
        have p_5 := HX7.out.cell qc_5
        go_wp2_with fail
        rename_i Kz hKz
        refine (c10.out _).mono ?_
        rintro e wz9 ⟨vz, rfl, Rz, Xz⟩
        obtain ⟨gz, capz, ez, _, _, hcz⟩ := Rz.form (by have := l7.out; have := l8.out; have := l9.out; have := l10.out; omega)
        subst ez
        have HRz := Lib.hid (HR7.out.ext Xz)
        have HXz := Lib.hid (HX7.out.trans Xz)
        have HCZ := Lib.hid hcz
        clear Rz Xz hcz
        refine hKz _ _ (appD _ rfl _ _ rfl w1 v7 (F k ++ [⟨⟨#[99, 108, 97, 105, 109]⟩, 1, p⟩] ++ L8) rfl HRz.out HXz.out gz capz L10 rfl HCZ.out (by have := l7.out; have := l8.out; have := l9.out; have := l10.out; simp only [List.length_append, List.length_cons, List.length_nil]; omega) (by have := l7.out; have := l8.out; have := l9.out; have := l10.out; omega) ?_)
        intro v9 w9 hR' hX'
        have HR9 := Lib.hid hR'
        have HX9 := Lib.hid hX'
        clear hR' hX' p_0 p_1 p_2 p_3 p_4 p_5 HRz HXz HCZ
        have p_0 := HX9.out.cell qc_0
        have p_1 := HX9.out.cell qc_1
        have p_2 := HX9.out.cell qc_2
        have p_3 := HX9.out.cell qc_3
        have p_4 := HX9.out.cell qc_4
        have p_5 := HX9.out.cell qc_5
        have HG2 := Lib.hid (HL0.out _ ((by simp only [List.append_assoc] : F k ++ [⟨⟨#[99, 108, 97, 105, 109]⟩, 1, p⟩] ++ L8 ++ L10 = F k ++ ([⟨⟨#[99, 108, 97, 105, 109]⟩, 1, p⟩] ++ L8) ++ L10).trans (HLD.out _ (H4.out (by first | trivial | simp | omega))).symm) _ _ (HR9.out.lower EB.size) (EB.trans HX9.out))
        clear p_0 p_1 p_2 p_3 p_4 p_5
        go_wp2
        exact HG2.out
      · obtain rfl : V = 5 := by omega
        go_wp2_with (at_builtin; refine appD _ rfl _ _ rfl w1 _ (F k) rfl (HR.out.ext ((Ext.refl wr).alloc _)) (HX.out.alloc _) wr.heap.size 3 [⟨⟨#[116, 105, 99, 107, 101, 116]⟩, 1, 0⟩, ⟨⟨#[115, 101, 114, 118, 105, 110, 103]⟩, 1, 0⟩, ⟨⟨#[110, 101, 120, 116]⟩, 2, p⟩] rfl (three_cells _ _ _ _ _ (fun j u hu => three_at _ _ _ _ _ (by simp [go_sem]) (by simp [go_sem]) (by simp [go_sem]) (by simp [go_sem]) (by simp [go_sem]) (by simp [go_sem]) (by simp [go_sem]) (by simp [go_sem]) (by simp [go_sem]) j u hu)) (by first | omega | (simp only [List.length_append, List.length_cons, List.length_nil]; omega)) (by simp) ?_)
        intro v6 w6 hR' hX'
        have HR6 := Lib.hid hR'
        have HX6 := Lib.hid hX'
        clear hR' hX' p_0 p_1 p_2 p_3 p_4 p_5
        have p_0 := HX6.out.cell qc_0
        have p_1 := HX6.out.cell qc_1
        have p_2 := HX6.out.cell qc_2
        have p_3 := HX6.out.cell qc_3
        have p_4 := HX6.out.cell qc_4
        have p_5 := HX6.out.cell qc_5
        go_wp2_with fail
        rename_i Kz hKz
        refine (c9.out _).mono ?_
        rintro e wz7 ⟨vz, rfl, Rz, Xz⟩
        obtain ⟨gz, capz, ez, _, _, hcz⟩ := Rz.form (by have := l7.out; have := l8.out; have := l9.out; have := l10.out; omega)
        subst ez
        have HRz := Lib.hid (HR6.out.ext Xz)
        have HXz := Lib.hid (HX6.out.trans Xz)
        have HCZ := Lib.hid hcz
        clear Rz Xz hcz
        refine hKz _ _ (appD _ rfl _ _ rfl w1 v6 (F k ++ [⟨⟨#[116, 105, 99, 107, 101, 116]⟩, 1, 0⟩, ⟨⟨#[115, 101, 114, 118, 105, 110, 103]⟩, 1, 0⟩, ⟨⟨#[110, 101, 120, 116]⟩, 2, p⟩]) rfl HRz.out HXz.out gz capz L9 rfl HCZ.out (by have := l7.out; have := l8.out; have := l9.out; have := l10.out; simp only [List.length_append, List.length_cons, List.length_nil]; omega) (by have := l7.out; have := l8.out; have := l9.out; have := l10.out; omega) ?_)
        intro v7 w7 hR' hX'
        have HR7 := Lib.hid hR'
        have HX7 := Lib.hid hX'
        clear hR' hX' p_0 p_1 p_2 p_3 p_4 p_5 HRz HXz HCZ
        have p_0 := HX7.out.cell qc_0
        have p_1 := HX7.out.cell qc_1
        have p_2 := HX7.out.cell qc_2
        have p_3 := HX7.out.cell qc_3
        have p_4 := HX7.out.cell qc_4
        have p_5 := HX7.out.cell qc_5
        go_wp2_with fail
        rename_i Kz hKz
        refine (c10.out _).mono ?_
        rintro e wz9 ⟨vz, rfl, Rz, Xz⟩
        obtain ⟨gz, capz, ez, _, _, hcz⟩ := Rz.form (by have := l7.out; have := l8.out; have := l9.out; have := l10.out; omega)
        subst ez
        have HRz := Lib.hid (HR7.out.ext Xz)
        have HXz := Lib.hid (HX7.out.trans Xz)
        have HCZ := Lib.hid hcz
        clear Rz Xz hcz
        refine hKz _ _ (appD _ rfl _ _ rfl w1 v7 (F k ++ [⟨⟨#[116, 105, 99, 107, 101, 116]⟩, 1, 0⟩, ⟨⟨#[115, 101, 114, 118, 105, 110, 103]⟩, 1, 0⟩, ⟨⟨#[110, 101, 120, 116]⟩, 2, p⟩] ++ L9) rfl HRz.out HXz.out gz capz L10 rfl HCZ.out (by have := l7.out; have := l8.out; have := l9.out; have := l10.out; simp only [List.length_append, List.length_cons, List.length_nil]; omega) (by have := l7.out; have := l8.out; have := l9.out; have := l10.out; omega) ?_)
        intro v9 w9 hR' hX'
        have HR9 := Lib.hid hR'
        have HX9 := Lib.hid hX'
        clear hR' hX' p_0 p_1 p_2 p_3 p_4 p_5 HRz HXz HCZ
        have p_0 := HX9.out.cell qc_0
        have p_1 := HX9.out.cell qc_1
        have p_2 := HX9.out.cell qc_2
        have p_3 := HX9.out.cell qc_3
        have p_4 := HX9.out.cell qc_4
        have p_5 := HX9.out.cell qc_5
        have HG2 := Lib.hid (HL0.out _ ((by simp only [List.append_assoc] : F k ++ [⟨⟨#[116, 105, 99, 107, 101, 116]⟩, 1, 0⟩, ⟨⟨#[115, 101, 114, 118, 105, 110, 103]⟩, 1, 0⟩, ⟨⟨#[110, 101, 120, 116]⟩, 2, p⟩] ++ L9 ++ L10 = F k ++ ([⟨⟨#[116, 105, 99, 107, 101, 116]⟩, 1, 0⟩, ⟨⟨#[115, 101, 114, 118, 105, 110, 103]⟩, 1, 0⟩, ⟨⟨#[110, 101, 120, 116]⟩, 2, p⟩] ++ L9) ++ L10).trans (HLD.out _ (H5.out (by first | trivial | simp | omega))).symm) _ _ (HR9.out.lower EB.size) (EB.trans HX9.out))
        clear p_0 p_1 p_2 p_3 p_4 p_5
        go_wp2
        exact HG2.out
end Go.Proofs.YtaimmpcijdpgdaaDoor
