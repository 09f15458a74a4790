import Derived.Test.YtkmfamidahlgiaaGreatDoorGr9
import Derived.Test.YtkmfamidahlgiaaGreatDoorGrCopy
import Derived.Test.YtkmfamidahlgiaaGreatDoorJG
import Derived.Test.YtkmfamidahlgiaaGreatDoorJA
/- The document's Roots, Above, Below and Ends of layer 9. -/
namespace Go.Proofs.YtkmfamidahlgiaaGreatDoor
open Go.RowKit
set_option linter.unusedVariables false
set_option maxHeartbeats 1000000
/-- 'out = append(out, z)' of a row of numbers of the call's own -/
theorem app9 {ops : Array Oper} {rest : List Oper} {o : Oper} {a : Act} {Q : Exit → Act → World → Prop} (w : World) (hgd : o.guard = none) (s x : Operand)
    (ho : o.op = .call { callee := .builtin .append, args := #[s, x], argTypes := #[35, 35] })
    (W : World) (v : Value) (xs : List Int) (hs : a.eval s = v) (hown : RI w W.heap.size v xs) (hW : Ext W w) (g : Nat) (z : Int) (hx : a.eval x = .slice (some ⟨g, 0, none⟩) 1 1) (hcell : w.cell? ⟨g, 0, none⟩ = some (.int .i64 z)) (hl : xs.length ≤ 1000000)
    (h : ∀ v' w', RI w' W.heap.size v' (xs ++ [z]) → Ext W w' → But (fun k => v.ownBlock = some k) w w' → wpList Tryz.prog ops Q rest (a.put o.dst v') w') : wpList Tryz.prog ops Q (o :: rest) a w := by
  obtain ⟨i0, hi, hz0, hz1, hz2⟩ := info_parts info_int9
  refine wpList_append_own w hgd s x 35 ho W.heap.size 3 i0 (.int .i64 0) 1 8 Tryz.underlying35 hi hz0 hz1 hz2 rfl (by decide) v xs.length (xs.map (Value.int .i64)) hs hown ⟨g, 0, none⟩ 1 1 [.int .i64 z] hx rfl ?_ ?_ ?_ ?_ ?_ ?_
  · intro j u hu
    match j, hu with
    | 0, hu =>
      simp at hu
      subst hu
      simpa [Addr.add] using hcell
  · intro u hu; simp at hu; subst hu; rfl
  · unfold maxLen; omega
  · omega
  · exact hW.size
  · intro v' w' h1 h2 _
    refine h v' w' ?_ (hW.grown h2 fun j hj => (World.ownsRow.lt hown j hj).1) (but_grown h2)
    unfold RI
    rw [List.length_append, List.map_append]
    exact h1
theorem sel_snoc_yes {n : Nat} {p : Nat → Bool} (h : p n = true) : sel (n + 1) p = sel n p ++ [(n : Int)] := by
  unfold sel
  rw [List.range_succ, List.filter_append, List.map_append]
  simp [h]
theorem sel_snoc_no {n : Nat} {p : Nat → Bool} (h : p n = false) : sel (n + 1) p = sel n p := by
  unfold sel
  rw [List.range_succ, List.filter_append, List.map_append]
  simp [h]
theorem RI.nil (w : World) (base : Nat) : RI w base (.slice none 0 0) [] := World.ownsRow_nil _ _ _ _
end Go.Proofs.YtkmfamidahlgiaaGreatDoor
/- The document's Above, Below and Ends of layer 9. -/
namespace Go.Proofs.YtkmfamidahlgiaaGreatDoor
open Go.RowKit
set_option linter.unusedVariables false
set_option maxHeartbeats 1000000
def rAboveP (ups : List (List Int)) (c k : Nat) : Bool := tab ups (c * 6 + k)
def rBelowP (ups : List (List Int)) (c k : Nat) : Bool := tab ups (k * 6 + c)
set_option maxRecDepth 100000 in
theorem rBelow (v : Value) (ups : List (List Int)) (c : Nat) (w : World) (rt : Rt ups) (hL : ListsV w v ups) (hll : ∀ l ∈ ups, l.length ≤ 1000000) (hc : c < ups.length) :
    Calls Tryz.prog 111 #[v, .int .i64 c] w (GivesI w (sel ups.length (rBelowP ups c))) := by
  have CO := Lib.hid (rOf9 v ups w rt.nms rt.six hL hll)
  have h6 := rt.six
  obtain ⟨a, cap, e, -⟩ := id hL
  subst e
  clear hL hll
  obtain ⟨n, hN⟩ : ∃ n, n = ups.length := ⟨_, rfl⟩
  rw [← hN] at hc h6 CO ⊢
  clear hN rt
  generalize hG : GivesI w (sel n (rBelowP ups c)) = G
  have HG := Lib.hid hG
  clear hG
  go_enter Tryz.func111, Tryz.ntmps111
  go_wp2_with fail
  refine CO.out.mono ?_
  rintro e w3 ⟨rfl, hx3⟩
  go_wp2_with (with_reducible refine wpList_store_mid rfl _ (.tmp 5) (.tmp 9) rfl w3.heap.size 0 (vl 36 (vb (tab ups))).toArray rfl rfl ?ht ?hi ?h1 ?_)
  case ht =>
    rw [show (vl 36 (vb (tab ups))).toArray.size = 36 by simp [vl_len]]
    exact (va_new (n := 36) w3 202 #[.bool false, .bool false, .bool false, .bool false, .bool false, .bool false, .bool false, .bool false, .bool false, .bool false, .bool false, .bool false, .bool false, .bool false, .bool false, .bool false, .bool false, .bool false, .bool false, .bool false, .bool false, .bool false, .bool false, .bool false, .bool false, .bool false, .bool false, .bool false, .bool false, .bool false, .bool false, .bool false, .bool false, .bool false, .bool false, .bool false] (vb fun _ => false) rfl).there
  case hi => rw [show (vl 36 (vb (tab ups))).toArray.size = 36 by simp [vl_len]]; exact T_size
  case h1 => exact vb_one _
  have b3 := va_setCells (va_new (n := 36) w3 202 #[.bool false, .bool false, .bool false, .bool false, .bool false, .bool false, .bool false, .bool false, .bool false, .bool false, .bool false, .bool false, .bool false, .bool false, .bool false, .bool false, .bool false, .bool false, .bool false, .bool false, .bool false, .bool false, .bool false, .bool false, .bool false, .bool false, .bool false, .bool false, .bool false, .bool false, .bool false, .bool false, .bool false, .bool false, .bool false, .bool false] (vb fun _ => false) rfl) (vb (tab ups)) (vl 36 (vb (tab ups))).toArray.toList rfl
  have X1 := ext_setCells (a := w) w3.heap.size hx3.size (vl 36 (vb (tab ups))).toArray.toList 0 _ (hx3.alloc (.cells #[.bool false, .bool false, .bool false, .bool false, .bool false, .bool false, .bool false, .bool false, .bool false, .bool false, .bool false, .bool false, .bool false, .bool false, .bool false, .bool false, .bool false, .bool false, .bool false, .bool false, .bool false, .bool false, .bool false, .bool false, .bool false, .bool false, .bool false, .bool false, .bool false, .bool false, .bool false, .bool false, .bool false, .bool false, .bool false, .bool false] 202))
  simp only [] at b3 X1
  generalize (w3.alloc (.cells #[.bool false, .bool false, .bool false, .bool false, .bool false, .bool false, .bool false, .bool false, .bool false, .bool false, .bool false, .bool false, .bool false, .bool false, .bool false, .bool false, .bool false, .bool false, .bool false, .bool false, .bool false, .bool false, .bool false, .bool false, .bool false, .bool false, .bool false, .bool false, .bool false, .bool false, .bool false, .bool false, .bool false, .bool false, .bool false, .bool false] 202)).setCells w3.heap.size 0 _ = w4 at *
  have HX1 := Lib.hid X1
  have HB3 := Lib.hid b3
  clear X1 b3
  go_wp2
  go_loopw [6, 7] (fun v i wr => ∃ k : Nat, k ≤ n ∧ i = .int .i64 k ∧ RI wr w4.heap.size v (sel k (rBelowP ups c)) ∧ Ext w4 wr) (fun _ i _ => n - (intOf i).toNat)
  case atStart => exact ⟨0, Nat.zero_le _, rfl, RI.nil _ _, Ext.refl _⟩
  case round =>
    obtain ⟨k, hk, rfl, hR, hx⟩ := hrel
    by_cases hlt : k < n
    · have hkn : (k : Int) < (n : Int) := by omega
      have hk6 : (k : Int) < 6 := by omega
      have hc6 : (c : Int) < 6 := by omega
      have q0 := HB3.out.c (k * 6 + c) (by omega)
      simp only [vb] at q0
      have q := hx.cell q0
      have hsl := sel_len k (rBelowP ups c)
      have hP : tab ups (k * 6 + c) = rBelowP ups c k := rfl
      rw [hP] at q
      cases hb : rBelowP ups c k
      · have HS := Lib.hid (sel_snoc_no (n := k) (p := rBelowP ups c) hb)
        rw [hb] at q
        have HR := Lib.hid hR
        have HX := Lib.hid hx
        clear hR hx q0 hb hP
        go_wp2
        exact ⟨⟨k + 1, by omega, by go_num, by rw [HS.out]; exact HR.out, HX.out⟩, by simp [intOf]; omega⟩
      · have HS := Lib.hid (sel_snoc_yes (n := k) (p := rBelowP ups c) hb)
        rw [hb] at q
        have HR := Lib.hid hR
        have HX := Lib.hid hx
        clear hR hx q0 hb hP
        generalize sel k (rBelowP ups c) = s1 at *
        go_wp2_with (at_builtin; refine app9 _ rfl _ _ rfl w4 _ s1 rfl (HR.out.ext ((Ext.refl wr).alloc _)) (HX.out.alloc _) wr.heap.size (k : Int) rfl (by simp [go_sem]) (by omega) ?_)
        intro v' w' hR' hX' _
        have HR2 := Lib.hid hR'
        have HX2 := Lib.hid hX'
        clear hR' hX'
        go_wp2
        exact ⟨⟨k + 1, by omega, by go_num, by rw [HS.out]; exact HR2.out, HX2.out⟩, by simp [intOf]; omega⟩
    · obtain rfl : k = n := by omega
      have HG2 : Hid (G (.returned _) wr) := Lib.hid (by rw [← HG.out]; exact ⟨_, rfl, hR.lower HX1.out.size, HX1.out.trans hx⟩)
      clear hR hx
      go_wp2
      exact HG2.out
theorem rEnds (v : Value) (ups : List (List Int)) (w : World) (rt : Rt ups) (hL : ListsV w v ups) (hll : ∀ l ∈ ups, l.length ≤ 1000000) :
    Calls Tryz.prog 56 #[v] w (GivesI w (sel ups.length (fun c => !aheadB ups c))) := by
  have CB := Lib.hid (fun (c : Nat) (hc : c < ups.length) w' (hx : Ext w w') => rBelow v ups c w' rt (hL.ext hx) hll hc)
  have HEQ : Hid (∀ c, c < ups.length → ((sel ups.length (rBelowP ups c)).length = 0 ↔ aheadB ups c = false)) := Lib.hid (fun c hc => ends_eq rt (by have := rt.six; omega))
  have h6 := rt.six
  obtain ⟨a, cap, e, -⟩ := id hL
  subst e
  clear hL hll
  obtain ⟨n, hN⟩ : ∃ n, n = ups.length := ⟨_, rfl⟩
  rw [← hN] at h6 CB HEQ ⊢
  clear hN rt
  generalize hG : GivesI w (sel n (fun c => !aheadB ups c)) = G
  have HG := Lib.hid hG
  clear hG
  go_enter Tryz.func56, Tryz.ntmps56
  go_wp2
  go_loopw [3, 4] (fun v i wr => ∃ k : Nat, k ≤ n ∧ i = .int .i64 k ∧ RI wr w.heap.size v (sel k (fun c => !aheadB ups c)) ∧ Ext w wr) (fun _ i _ => n - (intOf i).toNat)
  case atStart => exact ⟨0, Nat.zero_le _, rfl, RI.nil _ _, Ext.refl _⟩
  case round =>
    obtain ⟨k, hk, rfl, hR, hx⟩ := hrel
    by_cases hlt : k < n
    · have hkn : (k : Int) < (n : Int) := by omega
      have C := Lib.hid (CB.out k hlt wr hx)
      have hsl := sel_len k (fun c => !aheadB ups c)
      have heq := HEQ.out k hlt
      have HR := Lib.hid hR
      have HX := Lib.hid hx
      clear hR hx
      go_wp2_with fail
      refine C.out.mono ?_
      rintro e w2 ⟨v2, rfl, R2, X2⟩
      obtain ⟨a2, cp2, e2, -⟩ := R2.ints.form
      subst e2
      have HR2 := Lib.hid (HR.out.ext X2)
      have HX2 := Lib.hid (HX.out.trans X2)
      have hbl := sel_len n (rBelowP ups k)
      clear R2 X2 HR HX
      generalize (sel n (rBelowP ups k)).length = m at *
      by_cases h0 : m = 0
      · have HS := Lib.hid (sel_snoc_yes (n := k) (p := fun c => !aheadB ups c) (by rw [heq.1 h0]; rfl))
        have d : ((m : Int) == 0) = true := by simpa using h0
        clear heq h0
        generalize sel k (fun c => !aheadB ups c) = s1 at *
        go_wp2_with (at_builtin; refine app9 _ rfl _ _ rfl w _ s1 rfl (HR2.out.ext ((Ext.refl w2).alloc _)) (HX2.out.alloc _) w2.heap.size (k : Int) rfl (by simp [go_sem]) (by omega) ?_)
        intro v' w' hR' hX' _
        have HR3 := Lib.hid hR'
        have HX3 := Lib.hid hX'
        clear hR' hX'
        go_wp2
        exact ⟨⟨k + 1, by omega, by go_num, by rw [HS.out]; exact HR3.out, HX3.out⟩, by simp [intOf]; omega⟩
      · have hah : aheadB ups k = true := by
          cases e : aheadB ups k with
          | true => rfl
          | false => exact absurd (heq.2 e) h0
        have HS := Lib.hid (sel_snoc_no (n := k) (p := fun c => !aheadB ups c) (by rw [hah]; rfl))
        have d : ((m : Int) == 0) = false := by simpa using h0
        clear heq h0 hah
        go_wp2
        exact ⟨⟨k + 1, by omega, by go_num, by rw [HS.out]; exact HR2.out, HX2.out⟩, by simp [intOf]; omega⟩
    · obtain rfl : k = n := by omega
      have HG2 : Hid (G (.returned _) wr) := Lib.hid (by rw [← HG.out]; exact ⟨_, rfl, hR, hx⟩)
      clear hR hx
      go_wp2
      exact HG2.out
end Go.Proofs.YtkmfamidahlgiaaGreatDoor
/- The document's gates at the ends. -/
namespace Go.Proofs.YtkmfamidahlgiaaGreatDoor
open Go.RowKit
set_option linter.unusedVariables false
set_option linter.unusedSimpArgs false
set_option maxHeartbeats 4000000
attribute [local go_sem] later_cell later_frozen later_const
theorem r16Ends (V W C P S : Int) (a : Option Addr) (cap : Nat) (ups : List (List Int)) (w : World) (rt : Rt ups) (hk : chk ups = 0) (hL : ListsV w (.slice a ups.length cap) ups) (hll : ∀ l ∈ ups, l.length ≤ 1000000) :
    Calls Tryz.prog 15 #[(.agg #[.int .i64 V, .int .i64 W, .int .i64 C, .int .i64 P, .int .u64 (S), .slice a ups.length cap])] w (GivesI w (endsG ups)) := by
  have CE := Lib.hid (fun w' (hx : Ext w w') => rEnds (.slice a ups.length cap) ups w' rt (hL.ext hx) hll)
  rw [show sel ups.length (fun c => !aheadB ups c) = endsG ups from (if_pos hk).symm] at CE
  have HG : Hid (∀ w2 v w', Ext w w2 → RI w' w2.heap.size v (endsG ups) → Ext w w' → GivesI w (endsG ups) (.returned v) w') := Lib.hid (fun w2 v w' hx h1 h2 => ⟨v, rfl, h1.lower hx.size, h2⟩)
  generalize GivesI w (endsG ups) = G at *
  generalize endsG ups = xs at *
  generalize ups.length = n at *
  clear rt hk hL hll
  go_enter Tryz.func15, Tryz.ntmps15
  go_upto_region 1 with (fail)
  refine settle_wp ?_
  intro w1 hb1
  have q5 : w1.cell? ⟨w.heap.size, 5, none⟩ = some (.slice a n cap) := hb1.cell (by simp [go_sem])
  have XE : Ext w w1 := Ext.trans ((Ext.refl w).alloc _) hb1
  clear hb1
  go_wp2_with fail
  refine (CE.out _ XE).mono ?_
  rintro e w2 ⟨v, rfl, hR, X2⟩
  have HF := Lib.hid (HG.out _ _ _ XE hR (XE.trans X2))
  clear hR X2 XE
  go_wp2
  first
    | exact HF.out
    | (go_ret; exact HF.out)
end Go.Proofs.YtkmfamidahlgiaaGreatDoor
/- The gates of those ahead of a consumer. -/
namespace Go.Proofs.YtkmfamidahlgiaaGreatDoor
open Go.RowKit
set_option linter.unusedVariables false
set_option linter.unusedSimpArgs false
set_option maxHeartbeats 4000000
attribute [local go_sem] later_cell later_frozen later_const
theorem gtUps_out (V W C P S : Int) (v : Option Addr) (n cap : Nat) (Cu Cl Ti Se Ne Ma Sl Ce c : Int) (w : World) (hc : c < 0 ∨ (n : Int) ≤ c) :
    Calls Tryz.prog 13 #[(.agg #[.int .i64 V, .int .i64 W, .int .i64 C, .int .i64 P, .int .u64 S, .slice v n cap, .int .i64 Cu, .int .i64 Cl, .int .i64 Ti, .int .i64 Se, .int .i64 Ne, .int .i64 Ma, .int .i64 Sl, .int .i64 Ce]), .int .i64 c] w fun e w' => e = .returned (.slice none 0 0) ∧ Ext w w' := by
  by_cases h : c < 0
  · clear hc
    go_enter Tryz.func13, Tryz.ntmps13
    go_wp2
    go_ret
    refine ⟨rfl, ?_⟩
    repeat (first | with_reducible exact Ext.refl _ | with_reducible assumption | with_reducible refine Ext.alloc ?_ _ | with_reducible refine Ext.drew ?_ | with_reducible refine Ext.drewN ?_ _ | with_reducible refine Ext.setCell ?_ (by simp <;> omega) _ | with_reducible refine Ext.trans ?_ (by assumption))
  · have h2 : 0 ≤ c := by omega
    have h3 : (n : Int) ≤ c := by omega
    clear hc h
    go_enter Tryz.func13, Tryz.ntmps13
    go_wp2
    go_ret
    refine ⟨rfl, ?_⟩
    repeat (first | with_reducible exact Ext.refl _ | with_reducible assumption | with_reducible refine Ext.alloc ?_ _ | with_reducible refine Ext.drew ?_ | with_reducible refine Ext.drewN ?_ _ | with_reducible refine Ext.setCell ?_ (by simp <;> omega) _ | with_reducible refine Ext.trans ?_ (by assumption))
set_option maxRecDepth 100000 in
theorem gtUps_in (V W C P S : Int) (a : Option Addr) (cap : Nat) (ups : List (List Int)) (Cu Cl Ti Se Ne Ma Sl Ce : Int) (c : Nat) (w : World) (hL : ListsV w (.slice a ups.length cap) ups) (hc : c < ups.length) (hn : ups.length ≤ 1000) (hs : (ups.getD c []).length ≤ 1000) :
    Calls Tryz.prog 13 #[(.agg #[.int .i64 V, .int .i64 W, .int .i64 C, .int .i64 P, .int .u64 S, .slice a ups.length cap, .int .i64 Cu, .int .i64 Cl, .int .i64 Ti, .int .i64 Se, .int .i64 Ne, .int .i64 Ma, .int .i64 Sl, .int .i64 Ce]), .int .i64 c] w (GivesI w ((ups.getD c []).map (plc 0 ups.length))) := by
  obtain ⟨b, off, u, cu, ea, cu0, hI⟩ := hL.at (Ext.refl w) hc
  subst ea
  have HI := Lib.hid hI
  have HG : Hid (∀ w2 v w', Ext w w2 → RI w' w2.heap.size v ((ups.getD c []).map (plc 0 ups.length)) → Ext w w' → GivesI w ((ups.getD c []).map (plc 0 ups.length)) (.returned v) w') := Lib.hid (fun w2 v w' hx h1 h2 => ⟨v, rfl, h1.lower hx.size, h2⟩)
  have CGt := Lib.hid (fun v w' (hv : IntsV w' v (ups.getD c [])) => gGates V W C P S (some ⟨b, off, none⟩) ups.length cap Cu Cl Ti Se Ne Ma Sl Ce v _ w' hv hn hs)
  have hci : (c : Int) < (ups.length : Int) := by omega
  have hc0 : (0 : Int) ≤ (c : Int) := by omega
  generalize (ups.getD c []).map (plc 0 ups.length) = R at *
  generalize ups.getD c [] = xs at *
  generalize GivesI w R = G at *
  clear hL hI hs
  generalize ups.length = n at *
  go_enter Tryz.func13, Tryz.ntmps13
  go_upto_region 1 with (fail)
  refine settle_wp ?_
  intro w1 hb1
  have qc_0 : w1.cell? ⟨w.heap.size, 0, none⟩ = some (.int .i64 V) := (hb1.cells.1 _ _ (by simp <;> omega)).trans (by simp [go_sem])
  have qc_1 : w1.cell? ⟨w.heap.size, 1, none⟩ = some (.int .i64 W) := (hb1.cells.1 _ _ (by simp <;> omega)).trans (by simp [go_sem])
  have qc_2 : w1.cell? ⟨w.heap.size, 2, none⟩ = some (.int .i64 C) := (hb1.cells.1 _ _ (by simp <;> omega)).trans (by simp [go_sem])
  have qc_3 : w1.cell? ⟨w.heap.size, 3, none⟩ = some (.int .i64 P) := (hb1.cells.1 _ _ (by simp <;> omega)).trans (by simp [go_sem])
  have qc_4 : w1.cell? ⟨w.heap.size, 4, none⟩ = some (.int .u64 S) := (hb1.cells.1 _ _ (by simp <;> omega)).trans (by simp [go_sem])
  have qc_5 : w1.cell? ⟨w.heap.size, 5, none⟩ = some (.slice (some ⟨b, off, none⟩) n cap) := (hb1.cells.1 _ _ (by simp <;> omega)).trans (by simp [go_sem])
  have qc_6 : w1.cell? ⟨w.heap.size, 6, none⟩ = some (.int .i64 Cu) := (hb1.cells.1 _ _ (by simp <;> omega)).trans (by simp [go_sem])
  have qc_7 : w1.cell? ⟨w.heap.size, 7, none⟩ = some (.int .i64 Cl) := (hb1.cells.1 _ _ (by simp <;> omega)).trans (by simp [go_sem])
  have qc_8 : w1.cell? ⟨w.heap.size, 8, none⟩ = some (.int .i64 Ti) := (hb1.cells.1 _ _ (by simp <;> omega)).trans (by simp [go_sem])
  have qc_9 : w1.cell? ⟨w.heap.size, 9, none⟩ = some (.int .i64 Se) := (hb1.cells.1 _ _ (by simp <;> omega)).trans (by simp [go_sem])
  have qc_10 : w1.cell? ⟨w.heap.size, 10, none⟩ = some (.int .i64 Ne) := (hb1.cells.1 _ _ (by simp <;> omega)).trans (by simp [go_sem])
  have qc_11 : w1.cell? ⟨w.heap.size, 11, none⟩ = some (.int .i64 Ma) := (hb1.cells.1 _ _ (by simp <;> omega)).trans (by simp [go_sem])
  have qc_12 : w1.cell? ⟨w.heap.size, 12, none⟩ = some (.int .i64 Sl) := (hb1.cells.1 _ _ (by simp <;> omega)).trans (by simp [go_sem])
  have qc_13 : w1.cell? ⟨w.heap.size, 13, none⟩ = some (.int .i64 Ce) := (hb1.cells.1 _ _ (by simp <;> omega)).trans (by simp [go_sem])
  have pc := World.block_lt_of_cell? _ ⟨w.heap.size, 0, none⟩ qc_0
  have rc := Nat.lt_succ_of_lt pc
  have E1 : Ext w w1 := by repeat (first | with_reducible exact Ext.refl _ | with_reducible assumption | with_reducible refine Ext.alloc ?_ _ | with_reducible refine Ext.drew ?_ | with_reducible refine Ext.drewN ?_ _ | with_reducible refine Ext.setCell ?_ (by simp <;> omega) _ | with_reducible refine Ext.trans ?_ (by assumption))
  replace cu0 := E1.cell cu0
  clear hb1
  go_upto_region 3 with (fail)
  have F0 := fun w' (hz : Ext w1 w') => hz.cell qc_0
  have F1 := fun w' (hz : Ext w1 w') => hz.cell qc_1
  have F2 := fun w' (hz : Ext w1 w') => hz.cell qc_2
  have F3 := fun w' (hz : Ext w1 w') => hz.cell qc_3
  have F4 := fun w' (hz : Ext w1 w') => hz.cell qc_4
  have F5 := fun w' (hz : Ext w1 w') => hz.cell qc_5
  have F6 := fun w' (hz : Ext w1 w') => hz.cell qc_6
  have F7 := fun w' (hz : Ext w1 w') => hz.cell qc_7
  have F8 := fun w' (hz : Ext w1 w') => hz.cell qc_8
  have F9 := fun w' (hz : Ext w1 w') => hz.cell qc_9
  have F10 := fun w' (hz : Ext w1 w') => hz.cell qc_10
  have F11 := fun w' (hz : Ext w1 w') => hz.cell qc_11
  have F12 := fun w' (hz : Ext w1 w') => hz.cell qc_12
  have F13 := fun w' (hz : Ext w1 w') => hz.cell qc_13
  have F14 := fun w' (hz : Ext w1 w') => hz.cell cu0
  refine wp_region_held_drew (S := fun w' => Ext w1 w') (by kernel_rfl) ?hbeg (fun hHeld => ?_)
  case hbeg => exact (Ext.refl w1).drew
  have hHeld0 : Ext w1 w1 := by first | exact Ext.refl _ | assumption
  first
    | (refine take_at (i := 0) (v := ?_) rfl rfl (by kernel_rfl) (by kernel_rfl) (by kernel_rfl) (fun _ _ _ h => h) (Or.inl ⟨by rfl, ?hy⟩) (by assumption) ?_
       case hy => (intro wz hSw; (try dsimp only at hSw); go_simp <;> with_reducible rfl)
       simp only [List.setIfInBounds_toArray, List.set_cons_zero, List.set_cons_succ])
    | (refine take_at (i := 0) (v := undef) rfl rfl (by kernel_rfl) (by kernel_rfl) (by kernel_rfl) (fun _ _ _ h => h) (Or.inr ⟨by rfl, rfl⟩) (by assumption) ?_
       simp only [List.setIfInBounds_toArray, List.set_cons_zero, List.set_cons_succ])
  first
    | (refine take_at (i := 1) (v := ?_) rfl rfl (by kernel_rfl) (by kernel_rfl) (by kernel_rfl) (fun _ _ _ h => h) (Or.inl ⟨by rfl, ?hy⟩) (by assumption) ?_
       case hy => (intro wz hSw; (try dsimp only at hSw); go_simp <;> with_reducible rfl)
       simp only [List.setIfInBounds_toArray, List.set_cons_zero, List.set_cons_succ])
    | (refine take_at (i := 1) (v := undef) rfl rfl (by kernel_rfl) (by kernel_rfl) (by kernel_rfl) (fun _ _ _ h => h) (Or.inr ⟨by rfl, rfl⟩) (by assumption) ?_
       simp only [List.setIfInBounds_toArray, List.set_cons_zero, List.set_cons_succ])
  first
    | (refine take_at (i := 2) (v := ?_) rfl rfl (by kernel_rfl) (by kernel_rfl) (by kernel_rfl) (fun _ _ _ h => h) (Or.inl ⟨by rfl, ?hy⟩) (by assumption) ?_
       case hy => (intro wz hSw; (try dsimp only at hSw); go_simp <;> with_reducible rfl)
       simp only [List.setIfInBounds_toArray, List.set_cons_zero, List.set_cons_succ])
    | (refine take_at (i := 2) (v := undef) rfl rfl (by kernel_rfl) (by kernel_rfl) (by kernel_rfl) (fun _ _ _ h => h) (Or.inr ⟨by rfl, rfl⟩) (by assumption) ?_
       simp only [List.setIfInBounds_toArray, List.set_cons_zero, List.set_cons_succ])
  first
    | (refine take_at (i := 3) (v := ?_) rfl rfl (by kernel_rfl) (by kernel_rfl) (by kernel_rfl) (fun _ _ _ h => h) (Or.inl ⟨by rfl, ?hy⟩) (by assumption) ?_
       case hy => (intro wz hSw; (try dsimp only at hSw); go_simp <;> with_reducible rfl)
       simp only [List.setIfInBounds_toArray, List.set_cons_zero, List.set_cons_succ])
    | (refine take_at (i := 3) (v := undef) rfl rfl (by kernel_rfl) (by kernel_rfl) (by kernel_rfl) (fun _ _ _ h => h) (Or.inr ⟨by rfl, rfl⟩) (by assumption) ?_
       simp only [List.setIfInBounds_toArray, List.set_cons_zero, List.set_cons_succ])
  first
    | (refine take_at (i := 4) (v := ?_) rfl rfl (by kernel_rfl) (by kernel_rfl) (by kernel_rfl) (fun _ _ _ h => h) (Or.inl ⟨by rfl, ?hy⟩) (by assumption) ?_
       case hy => (intro wz hSw; (try dsimp only at hSw); go_simp <;> with_reducible rfl)
       simp only [List.setIfInBounds_toArray, List.set_cons_zero, List.set_cons_succ])
    | (refine take_at (i := 4) (v := undef) rfl rfl (by kernel_rfl) (by kernel_rfl) (by kernel_rfl) (fun _ _ _ h => h) (Or.inr ⟨by rfl, rfl⟩) (by assumption) ?_
       simp only [List.setIfInBounds_toArray, List.set_cons_zero, List.set_cons_succ])
  first
    | (refine take_at (i := 5) (v := ?_) rfl rfl (by kernel_rfl) (by kernel_rfl) (by kernel_rfl) (fun _ _ _ h => h) (Or.inl ⟨by rfl, ?hy⟩) (by assumption) ?_
       case hy => (intro wz hSw; (try dsimp only at hSw); go_simp <;> with_reducible rfl)
       simp only [List.setIfInBounds_toArray, List.set_cons_zero, List.set_cons_succ])
    | (refine take_at (i := 5) (v := undef) rfl rfl (by kernel_rfl) (by kernel_rfl) (by kernel_rfl) (fun _ _ _ h => h) (Or.inr ⟨by rfl, rfl⟩) (by assumption) ?_
       simp only [List.setIfInBounds_toArray, List.set_cons_zero, List.set_cons_succ])
  first
    | (refine take_at (i := 6) (v := ?_) rfl rfl (by kernel_rfl) (by kernel_rfl) (by kernel_rfl) (fun _ _ _ h => h) (Or.inl ⟨by rfl, ?hy⟩) (by assumption) ?_
       case hy => (intro wz hSw; (try dsimp only at hSw); go_simp <;> with_reducible rfl)
       simp only [List.setIfInBounds_toArray, List.set_cons_zero, List.set_cons_succ])
    | (refine take_at (i := 6) (v := undef) rfl rfl (by kernel_rfl) (by kernel_rfl) (by kernel_rfl) (fun _ _ _ h => h) (Or.inr ⟨by rfl, rfl⟩) (by assumption) ?_
       simp only [List.setIfInBounds_toArray, List.set_cons_zero, List.set_cons_succ])
  have X0 := E1.trans hHeld
  refine call_at (i := 7) (F := 54) (CGt.out _ _ (HI.out.ext X0)) rfl rfl (by kernel_rfl) (by rfl) (by first | rfl | (go_simp <;> rfl)) ?_
  rintro e wq2 ⟨vq2, rfl, Rq2, Xq2⟩
  have Yq2 := Ext.trans hHeld Xq2
  refine ⟨_, rfl, Yq2, wpAnyH_strong (S' := fun w' => Ext wq2 w') (fun w' h => Ext.trans Yq2 h) _ _ _ _ ?_⟩
  simp only [List.setIfInBounds_toArray, List.set_cons_zero, List.set_cons_succ]
  have Zq2 : Ext w1 wq2 := Ext.trans (by assumption) Yq2
  clear hHeld Xq2 Yq2
  have hHeld := Ext.refl wq2
  first
    | (refine take_at (i := 8) (v := ?_) rfl rfl (by kernel_rfl) (by kernel_rfl) (by kernel_rfl) (fun _ _ _ h => h) (Or.inl ⟨by rfl, ?hy⟩) (by assumption) ?_
       case hy => (intro wz hSw; (try dsimp only at hSw); go_simp <;> with_reducible rfl)
       simp only [List.setIfInBounds_toArray, List.set_cons_zero, List.set_cons_succ])
    | (refine take_at (i := 8) (v := undef) rfl rfl (by kernel_rfl) (by kernel_rfl) (by kernel_rfl) (fun _ _ _ h => h) (Or.inr ⟨by rfl, rfl⟩) (by assumption) ?_
       simp only [List.setIfInBounds_toArray, List.set_cons_zero, List.set_cons_succ])
  refine wpAnyH_done (by kernel_rfl) ?_ _
  have HG2 := Lib.hid (HG.out _ _ _ X0 Rq2 (E1.trans Zq2))
  go_wp2
  exact HG2.out
end Go.Proofs.YtkmfamidahlgiaaGreatDoor
/- The ends' gates, of a board's layout. -/
namespace Go.Proofs.YtkmfamidahlgiaaGreatDoor
open Go.RowKit
set_option linter.unusedVariables false
set_option linter.unusedSimpArgs false
theorem endsG_len (ups : List (List Int)) : (endsG ups).length ≤ ups.length := by
  unfold endsG
  split
  · exact sel_len _ _
  · simp
theorem gtEnds_y (y : LY) (ups : List (List Int)) (w : World) (K : BK y ups) (O : ListsV w (.slice y.a y.n y.cap) ups) (T : Tab w) :
    Calls Tryz.prog 12 #[(.agg #[.int .i64 (y.V), .int .i64 (y.W), .int .i64 (y.C), .int .i64 (y.P), .int .u64 (y.S), .slice y.a y.n y.cap, .int .i64 (y.Cu), .int .i64 (y.Cl), .int .i64 (y.Ti), .int .i64 (y.Se), .int .i64 (y.Ne), .int .i64 (y.Ma), .int .i64 (y.Sl), .int .i64 (y.m)])] w (GivesI w ((endsG ups).map (plc 0 ups.length))) := by
  obtain ⟨V, W, C, P, S, a, n, cap, Cu, Cl, Ti, Se, Ne, Ma, Sl, m⟩ := y
  have hn := K.n
  have h6 := K.num.n6
  have hl := endsG_len ups
  dsimp only at hn h6 O ⊢
  subst hn
  exact gtEnds0 V W C P S a cap ups Cu Cl Ti Se Ne Ma Sl m w O K.ll (by omega) T (by omega)
end Go.Proofs.YtkmfamidahlgiaaGreatDoor
