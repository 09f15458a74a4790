/- A thread's events, those of some kinds, where a call ends, are they the same? The program's and the document's. -/
import Derived.Test.YtkbbneknblnbnaaEv3
import Derived.Test.YtkbbneknblnbnaaEv2
namespace Go.Proofs.Ytkbbneknblnbnaa
open Go.RowKit
set_option linter.unusedVariables false
set_option linter.unusedSimpArgs false
set_option maxHeartbeats 4000000
attribute [local go_sem] later_cell later_frozen later_const
def ixG {α : Type} (p : α → Bool) : List α → Nat → Int
  | [], _ => -1
  | x :: l, k => if p x = true then (k : Int) else ixG p l (k + 1)
theorem ixG_spec {α : Type} (p : α → Bool) : ∀ (l : List α) (k : Nat), (ixG p l k = -1 ∧ l.any p = false) ∨ (∃ j, ixG p l k = ((k + j : Nat) : Int) ∧ l.any p = true)
  | [], k => .inl ⟨rfl, rfl⟩
  | x :: l, k => by
    by_cases h : p x = true
    · exact .inr ⟨0, if_pos h, by simp [h]⟩
    · have e : ixG p (x :: l) k = ixG p l (k + 1) := if_neg h
      rcases ixG_spec p l (k + 1) with ⟨h1, h2⟩ | ⟨j, h1, h2⟩
      · exact .inl ⟨e.trans h1, by simp [h, h2]⟩
      · exact .inr ⟨j + 1, by rw [e, h1]; congr 1; omega, by simp [h2]⟩
theorem ixG_step {α : Type} (p : α → Bool) {l : List α} {k : Nat} (hk : k < l.length) : ixG p (l.drop k) k = if p l[k] = true then (k : Int) else ixG p (l.drop (k + 1)) (k + 1) := by
  rw [List.drop_eq_getElem_cons hk]
  rfl
theorem ixG_end {α : Type} (p : α → Bool) {l : List α} {k : Nat} (hk : l.length ≤ k) : ixG p (l.drop k) k = -1 := by
  rw [List.drop_of_length_le hk]
  rfl
set_option maxRecDepth 100000 in
theorem index (v : Value) (xs : List Int) (x : Int) (w : World) (h : IntsV w v xs) (hl : xs.length ≤ 1000000) : Calls Try.prog 54 #[v, .int .i64 x] w fun e w' => e = .returned (.int .i64 (ixG (fun y => decide (x = y)) xs 0)) ∧ Ext w w' := by
  obtain ⟨a, cap, rfl, f⟩ := h.form
  have HF := Lib.hid f
  have HS := Lib.hid (fun k hk => ixG_step (fun y => decide (x = y)) (l := xs) (k := k) hk)
  have HE := Lib.hid (fun k hk => ixG_end (fun y => decide (x = y)) (l := xs) (k := k) hk)
  obtain ⟨V, hV⟩ : ∃ V, V = ixG (fun y => decide (x = y)) xs 0 := ⟨_, rfl⟩
  rw [← hV]
  have HV := Lib.hid hV
  clear h f hV
  go_enter Try.func54, Try.ntmps54
  go_wp2
  go_loopw [8] (fun i wr => ∃ k : Nat, k ≤ xs.length ∧ i = .int .i64 k ∧ Ext w wr ∧ Hid (ixG (fun y => decide (x = y)) (xs.drop k) k = V)) (fun i _ => xs.length - (intOf i).toNat)
  case atStart => exact ⟨0, Nat.zero_le _, rfl, Ext.refl _, Lib.hid HV.out.symm⟩
  case round =>
    obtain ⟨k, hk, rfl, hx, HP⟩ := hrel
    by_cases hlt : k < xs.length
    case neg =>
      have e : -1 = V := (HE.out k (by omega)).symm.trans HP.out
      obtain rfl : k = xs.length := by omega
      subst e
      clear HV HP
      go_wp2
      go_ret
      exact ⟨rfl, hx⟩
    have hlt' : (k : Int) < (xs.length : Int) := by omega
    obtain ⟨b, off, ea, c0⟩ := HF.out k hlt
    subst ea
    have c := hx.cell c0
    have hp := (HS.out k hlt).symm.trans HP.out
    rw [show xs[k] = xs.getD k 0 by simp [hlt]] at hp
    clear c0
    generalize xs.getD k 0 = y at *
    by_cases he : x = y
    · have e : (k : Int) = V := by rw [if_pos (by simpa using he)] at hp; exact hp
      have d : (x == y) = true := by simpa using he
      subst e
      clear HV HP hp he
      go_wp2
      go_ret
      exact ⟨rfl, hx⟩
    · have e : ixG (fun y => decide (x = y)) (xs.drop (k + 1)) (k + 1) = V := by rw [if_neg (by simpa using he)] at hp; exact hp
      have d : (x == y) = false := by simpa using he
      have HE2 := Lib.hid e
      clear e HP hp he
      go_wp2
      exact ⟨⟨k + 1, by omega, by go_num, hx, HE2⟩, by simp [intOf]; omega⟩
theorem contains (v : Value) (xs : List Int) (x : Int) (w : World) (h : IntsV w v xs) (hl : xs.length ≤ 1000000) : Calls Try.prog 39 #[v, .int .i64 x] w fun e w' => e = .returned (.bool (xs.any fun y => decide (x = y))) ∧ Ext w w' := by
  have C := Lib.hid (index v xs x w h hl)
  have r := ixG_spec (fun y => decide (x = y)) xs 0
  generalize ixG (fun y => decide (x = y)) xs 0 = z at *
  generalize xs.any (fun y => decide (x = y)) = b at *
  clear h
  rcases r with ⟨rfl, rfl⟩ | ⟨j, h1, rfl⟩
  · go_enter Try.func39, Try.ntmps39
    go_wp2_with fail
    refine C.out.mono ?_
    rintro e w2 ⟨rfl, X2⟩
    go_wp2
    go_ret
    exact ⟨rfl, X2⟩
  · have hz : 0 ≤ z := by omega
    clear h1
    go_enter Try.func39, Try.ntmps39
    go_wp2_with fail
    refine C.out.mono ?_
    rintro e w2 ⟨rfl, X2⟩
    go_wp2
    go_ret
    exact ⟨by simp [hz], X2⟩
/-- a call gives these events -/
def GivesV (w : World) (L : List Ev) (e : Ending) (w' : World) : Prop := ∃ v B, e = .returned v ∧ EvsV w' B v L ∧ Ext w w'
theorem eOf1 (e : Ev) (u : Value) (b : Nat) (t : Int) (w : World) (q : w.cell? ⟨b, 0, none⟩ = some (.int .i64 t)) : Calls Try.prog 37 (#[evA e u] ++ #[.pointer (some ⟨b, 0, none⟩)]) w fun r w' => r = .returned (.bool (decide (e.t = t))) ∧ Ext w w' := by
  show Calls Try.prog 37 #[evA e u, .pointer (some ⟨b, 0, none⟩)] w _
  unfold evA
  have hb := World.block_lt_of_cell? w ⟨b, 0, none⟩ q
  by_cases h : e.t = t
  · have d : (e.t == t) = true := by simpa using h
    rw [decide_eq_true h]
    clear h
    go_enter Try.func37, Try.ntmps37
    go_wp2
    go_ret
    refine ⟨rfl, ?_⟩
    repeat (first | with_reducible exact Ext.refl _ | with_reducible assumption | with_reducible refine Ext.alloc ?_ _ | with_reducible refine Ext.drew ?_ | with_reducible refine Ext.drewN ?_ _ | with_reducible refine Ext.setCell ?_ (by simp <;> omega) _ | with_reducible refine Ext.trans ?_ (by assumption))
  · have d : (e.t == t) = false := by simpa using h
    rw [decide_eq_false h]
    clear h
    go_enter Try.func37, Try.ntmps37
    go_wp2
    go_ret
    refine ⟨rfl, ?_⟩
    repeat (first | with_reducible exact Ext.refl _ | with_reducible assumption | with_reducible refine Ext.alloc ?_ _ | with_reducible refine Ext.drew ?_ | with_reducible refine Ext.drewN ?_ _ | with_reducible refine Ext.setCell ?_ (by simp <;> omega) _ | with_reducible refine Ext.trans ?_ (by assumption))
theorem eOnly1 (e : Ev) (u : Value) (b : Nat) (v : Value) (xs : List Int) (w : World) (q : w.cell? ⟨b, 0, none⟩ = some v) (h : IntsV w v xs) (hl : xs.length ≤ 1000000) : Calls Try.prog 38 (#[evA e u] ++ #[.pointer (some ⟨b, 0, none⟩)]) w fun r w' => r = .returned (.bool (xs.any fun y => decide (e.k = y))) ∧ Ext w w' := by
  show Calls Try.prog 38 #[evA e u, .pointer (some ⟨b, 0, none⟩)] w _
  unfold evA
  have hb := World.block_lt_of_cell? w ⟨b, 0, none⟩ q
  have C := Lib.hid (fun w' (hx : Ext w w') => contains v xs e.k w' (h.ext hx) hl)
  obtain ⟨a, cap, rfl, -⟩ := h.form
  clear h
  generalize xs.any (fun y => decide (e.k = y)) = r at *
  generalize xs.length = n at *
  go_enter Try.func38, Try.ntmps38
  go_wp2_with fail
  refine (C.out _ (by repeat (first | with_reducible exact Ext.refl _ | with_reducible assumption | with_reducible refine Ext.alloc ?_ _ | with_reducible refine Ext.drew ?_ | with_reducible refine Ext.drewN ?_ _ | with_reducible refine Ext.setCell ?_ (by simp <;> omega) _ | with_reducible refine Ext.trans ?_ (by assumption)))).mono ?_
  rintro e w2 ⟨rfl, X2⟩
  have X3 : Ext w w2 := Ext.trans (by repeat (first | with_reducible exact Ext.refl _ | with_reducible assumption | with_reducible refine Ext.alloc ?_ _ | with_reducible refine Ext.drew ?_ | with_reducible refine Ext.drewN ?_ _ | with_reducible refine Ext.setCell ?_ (by simp <;> omega) _ | with_reducible refine Ext.trans ?_ (by assumption))) X2
  go_wp2
  go_ret
  exact ⟨rfl, X3⟩
theorem eOf {B : Nat} (v : Value) (L : List Ev) (t : Int) (w : World) (h : EvsV w B v L) (hl : L.length ≤ 900000) (hd : ∀ e ∈ L, e.d.length ≤ 1000000) : Calls Try.prog 17 #[v, .int .i64 t] w (GivesV w (L.filter fun e => decide (e.t = t))) := by
  have HG : Hid (∀ w2 v w', Ext w w2 → RE w' w2.heap.size v (L.filter fun e => decide (e.t = t)) → Ext w2 w' → GivesV w (L.filter fun e => decide (e.t = t)) (.returned v) w') := Lib.hid (fun w2 v w' hx h1 h2 => ⟨v, _, rfl, h1.evs, hx.trans h2⟩)
  have C := Lib.hid (fun w' (hx : Ext w w') b (q : w'.cell? ⟨b, 0, none⟩ = some (.int .i64 t)) => ePick_eOf1 v L (fun e => decide (e.t = t)) #[.pointer (some ⟨b, 0, none⟩)] w' (h.ext hx) hl hd (fun e _ u w'' hx2 => eOf1 e u b t w'' (hx2.cell q)))
  generalize GivesV w (L.filter fun e => decide (e.t = t)) = G at *
  clear h hd
  go_enter Try.func17, Try.ntmps17
  go_wp2_with fail
  refine (C.out _ (by repeat (first | with_reducible exact Ext.refl _ | with_reducible assumption | with_reducible refine Ext.alloc ?_ _ | with_reducible refine Ext.drew ?_ | with_reducible refine Ext.drewN ?_ _ | with_reducible refine Ext.setCell ?_ (by simp <;> omega) _ | with_reducible refine Ext.trans ?_ (by assumption))) w.heap.size (by simp [go_sem])).mono ?_
  rintro e w2 ⟨v2, rfl, R2, X2⟩
  have HG2 := Lib.hid (HG.out _ _ _ (by repeat (first | with_reducible exact Ext.refl _ | with_reducible assumption | with_reducible refine Ext.alloc ?_ _ | with_reducible refine Ext.drew ?_ | with_reducible refine Ext.drewN ?_ _ | with_reducible refine Ext.setCell ?_ (by simp <;> omega) _ | with_reducible refine Ext.trans ?_ (by assumption))) R2 X2)
  clear R2 X2 HG C
  go_wp2
  exact HG2.out
theorem eOnly {B : Nat} (v : Value) (L : List Ev) (kv : Value) (xs : List Int) (w : World) (h : EvsV w B v L) (hl : L.length ≤ 900000) (hd : ∀ e ∈ L, e.d.length ≤ 1000000) (hk : IntsV w kv xs) (hxl : xs.length ≤ 1000000) : Calls Try.prog 19 #[v, kv] w (GivesV w (L.filter fun e => xs.any fun y => decide (e.k = y))) := by
  have HG : Hid (∀ w2 v w', Ext w w2 → RE w' w2.heap.size v (L.filter fun e => xs.any fun y => decide (e.k = y)) → Ext w2 w' → GivesV w (L.filter fun e => xs.any fun y => decide (e.k = y)) (.returned v) w') := Lib.hid (fun w2 v w' hx h1 h2 => ⟨v, _, rfl, h1.evs, hx.trans h2⟩)
  have C := Lib.hid (fun w' (hx : Ext w w') b (q : w'.cell? ⟨b, 0, none⟩ = some kv) => ePick_eOnly1 v L (fun e => xs.any fun y => decide (e.k = y)) #[.pointer (some ⟨b, 0, none⟩)] w' (h.ext hx) hl hd (fun e _ u w'' hx2 => eOnly1 e u b kv xs w'' (hx2.cell q) ((hk.ext hx).ext hx2) hxl))
  generalize GivesV w (L.filter fun e => xs.any fun y => decide (e.k = y)) = G at *
  obtain ⟨a, cap, rfl, -⟩ := hk.form
  clear h hd hk
  generalize xs.length = n at *
  go_enter Try.func19, Try.ntmps19
  go_wp2_with fail
  refine (C.out _ (by repeat (first | with_reducible exact Ext.refl _ | with_reducible assumption | with_reducible refine Ext.alloc ?_ _ | with_reducible refine Ext.drew ?_ | with_reducible refine Ext.drewN ?_ _ | with_reducible refine Ext.setCell ?_ (by simp <;> omega) _ | with_reducible refine Ext.trans ?_ (by assumption))) w.heap.size (by simp [go_sem])).mono ?_
  rintro e w2 ⟨v2, rfl, R2, X2⟩
  have HG2 := Lib.hid (HG.out _ _ _ (by repeat (first | with_reducible exact Ext.refl _ | with_reducible assumption | with_reducible refine Ext.alloc ?_ _ | with_reducible refine Ext.drew ?_ | with_reducible refine Ext.drewN ?_ _ | with_reducible refine Ext.setCell ?_ (by simp <;> omega) _ | with_reducible refine Ext.trans ?_ (by assumption))) R2 X2)
  clear R2 X2 HG C
  go_wp2
  exact HG2.out
set_option maxRecDepth 100000 in
theorem rOf {B : Nat} (v : Value) (L : List Ev) (t : Int) (w : World) (h : EvsV w B v L) (hBw : B ≤ w.heap.size) (hl : L.length ≤ 900000) : Calls Try.prog 18 #[v, .int .i64 t] w (GivesR w (L.filter fun e => decide (e.t = t))) := by
  obtain ⟨a, cap, e, hm, f⟩ := h.get3
  subst e
  have HA := Lib.hid f
  have HG : Hid (∀ v w', RE w' w.heap.size v ((L.take L.length).filter fun e => decide (e.t = t)) → Ext w w' → GivesR w (L.filter fun e => decide (e.t = t)) (.returned v) w') := Lib.hid (fun v w' h1 h2 => ⟨v, rfl, by rwa [List.take_length] at h1, h2⟩)
  have HS := Lib.hid (fun k hk => filter_snoc (fun e : Ev => decide (e.t = t)) (l := L) (k := k) hk)
  have HFL := Lib.hid (filter_len (fun e : Ev => decide (e.t = t)) L)
  generalize GivesR w (L.filter fun e => decide (e.t = t)) = G at *
  clear h f
  go_enter Try.func18, Try.ntmps18
  go_wp2
  go_loopw [5, 6] (fun v i wr => ∃ k : Nat, k ≤ L.length ∧ i = .int .i64 k ∧ RE wr w.heap.size v ((L.take k).filter fun e => decide (e.t = t)) ∧ Ext w wr) (fun _ i _ => L.length - (intOf i).toNat)
  case atStart => exact ⟨0, Nat.zero_le _, rfl, by rw [List.take_zero]; exact RE.nil _ _, Ext.refl _⟩
  case round =>
    obtain ⟨k, hk, rfl, hR, hx⟩ := hrel
    by_cases hlt : k < L.length
    case neg =>
      obtain rfl : k = L.length := by omega
      have HG2 := Lib.hid (HG.out _ wr hR hx)
      clear hR hx
      go_wp2
      exact HG2.out
    have hlt' : (k : Int) < (L.length : Int) := by omega
    obtain ⟨b, off, u, ea, A⟩ := HA.out wr hx k hlt
    subst ea
    obtain ⟨ua, uc, eu⟩ := A.d.len
    have hs := HS.out k hlt
    generalize L[k] = x at *
    generalize hul : x.d.length = ul at eu
    subst eu
    have HSN := Lib.hid hs
    have HR := Lib.hid hR
    have HX := Lib.hid hx
    have HAD := Lib.hid (A.d.up hBw)
    obtain ⟨c0, c1, c2, c3, c4, c5, c6, -⟩ := A
    have hb0 := World.block_lt_of_cell? wr ⟨b, off + k * 7, none⟩ c0
    clear hR hx hs hul
    have hfl := HFL.out k
    by_cases hp : x.t = t
    case neg =>
      have e1 : (x.t == t) = false := by simpa using hp
      have hsn : (L.take (k + 1)).filter (fun e => decide (e.t = t)) = (L.take k).filter (fun e => decide (e.t = t)) := by simpa [hp] using HSN.out
      have HSN2 := Lib.hid hsn
      clear hsn HSN hp
      go_wp2
      exact ⟨⟨k + 1, by omega, by go_num, by rw [HSN2.out]; exact HR.out, HX.out⟩, by simp [intOf]; omega⟩
    have e1 : (x.t == t) = true := by simpa using hp
    have hsn : (L.take (k + 1)).filter (fun e => decide (e.t = t)) = (L.take k).filter (fun e => decide (e.t = t)) ++ [x] := by simpa [hp] using HSN.out
    have HSN2 := Lib.hid hsn
    have hsz := HX.out.size
    clear hsn HSN hp
    go_wp2_with (at_builtin; refine appE _ rfl _ _ rfl w.heap.size u5 ((L.take k).filter fun e => decide (e.t = t)) rfl (HR.out.ext ((Ext.refl wr).alloc _)) (by simp; omega) wr.heap.size x (.slice ua ul uc) rfl (at_new HAD.out) (by omega) ?_)
    intro v4 w4 R4 G4 _
    have HX4 := Lib.hid ((HX.out.alloc _).grown G4 (fun q hq => (HR.out.lt hq).1))
    have HR4 := Lib.hid R4
    clear R4 G4 hsz
    go_wp2
    exact ⟨⟨k + 1, by omega, by go_num, by rw [HSN2.out]; exact HR4.out, HX4.out⟩, by simp [intOf]; omega⟩
end Go.Proofs.Ytkbbneknblnbnaa
