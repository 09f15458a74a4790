/- The document's Table. -/
import Derived.Test.YtoaifbengichbaaOr12
namespace Go.Proofs.Ytoaifbengichbaa
open Go.RowKit
set_option linter.unusedVariables false
set_option linter.unusedSimpArgs false
set_option maxHeartbeats 4000000
attribute [local go_sem] later_cell later_frozen later_const
theorem info_bool : (Try.prog.info? 4).map (fun i => (i.zero, i.size, i.bytes)) = some (some (.bool false), 1, 1) := by kernel_rfl
theorem info_bools : (Try.prog.info? 65).map (fun i => (i.zero, i.size, i.bytes)) = some (some (.slice none 0 0), 1, 24) := by kernel_rfl
def rowV (L : Nat) (f : Nat → Nat) (j : Nat) : Value := .slice (some ⟨f j, 0, none⟩) L L
/-- the first m rows of the table -/
structure TB (w : World) (B : Nat) (v : Value) (n : Nat) (ls : List Acc) (m : Nat) (f : Nat → Nat) : Prop where
  own : w.ownsRow B 65 1 v m (vl m (rowV ls.length f))
  va : ∀ j, j < m → VA ls.length w (f j) (fun k => .bool (knT n ls j k))
  lt : ∀ j, j < m → f j < w.heap.size
  ne : ∀ j, j < m → v.ownBlock ≠ some (f j)
theorem TB.ext {w w' : World} {B : Nat} {v : Value} {n : Nat} {ls : List Acc} {m : Nat} {f : Nat → Nat} (h : TB w B v n ls m f) (hx : Ext w w') : TB w' B v n ls m f :=
  ⟨hx.row h.own, fun j hj => (h.va j hj).ext hx, fun j hj => Nat.lt_of_lt_of_le (h.lt j hj) hx.size, h.ne⟩
theorem TB.nil (w : World) (B : Nat) (n : Nat) (ls : List Acc) (f : Nat → Nat) : TB w B (.slice none 0 0) n ls 0 f :=
  ⟨⟨rfl, .inl ⟨rfl, rfl⟩⟩, fun j hj => absurd hj (Nat.not_lt_zero _), fun j hj => absurd hj (Nat.not_lt_zero _), fun j hj => absurd hj (Nat.not_lt_zero _)⟩
theorem vl_cell (m : Nat) (f : Nat → Nat) (L : Nat) (j : Nat) (hj : j < m) : (vl m (rowV L f))[j]? = some (.slice (some ⟨f j, 0, none⟩) L L) := vl_get _ j hj
theorem TB.form {w : World} {B : Nat} {v : Value} {n : Nat} {ls : List Acc} {m : Nat} {f : Nat → Nat} (h : TB w B v n ls m f) (h0 : 0 < m) : ∃ g cap, v = .slice (some ⟨g, 0, none⟩) m cap ∧ ∀ w', Ext w w' → ∀ j, j < m → w'.cell? ⟨g, j, none⟩ = some (.slice (some ⟨f j, 0, none⟩) ls.length ls.length) ∧ ∀ k, k < ls.length → w'.cell? ⟨f j, k, none⟩ = some (.bool (knT n ls j k)) := by
  rcases h.own.2 with ⟨_, e⟩ | ⟨g, cap, cur, rfl, _⟩
  · omega
  · refine ⟨g, cap, rfl, fun w' hx j hj => ⟨?_, fun k hk => ((h.va j hj).ext hx).c k hk⟩⟩
    rw [World.ownsRow.cellAt (hx.row h.own) j (by omega)]
    exact vl_cell _ _ _ _ hj
theorem vl_succ (m : Nat) (f : Nat → Nat) (L r : Nat) : vl m (rowV L f) ++ [.slice (some ⟨r, 0, none⟩) L L] = vl (m + 1) (rowV L (fun j => if j = m then r else f j)) := by
  apply List.ext_getElem?
  intro i
  by_cases h : i < m
  · rw [List.getElem?_append_left (by rw [vl_len]; exact h), vl_cell _ _ _ _ h, vl_cell _ _ _ _ (by omega), if_neg (by omega)]
  · rw [List.getElem?_append_right (by rw [vl_len]; omega), vl_len]
    by_cases h2 : i = m
    · subst h2
      rw [vl_cell _ _ _ _ (by omega), if_pos rfl]
      simp
    · have h3 : i - m ≠ 0 := by omega
      rw [List.getElem?_eq_none (by simp; omega), List.getElem?_eq_none (by rw [vl_len]; omega)]
theorem TB.app {w w1 w' : World} {B r : Nat} {v v' : Value} {n : Nat} {ls : List Acc} {m : Nat} {f : Nat → Nat} (h : TB w B v n ls m f) (hv : VA ls.length w r (fun k => .bool (knT n ls m k))) (hr : r < w.heap.size) (hrv : v.ownBlock ≠ some r) (hx : Ext w w1)
    (ho : w'.ownsRow B 65 1 v' (m + 1) (vl m (rowV ls.length f) ++ [.slice (some ⟨r, 0, none⟩) ls.length ls.length])) (hg : w1.grownBy w' v.ownBlock) (hl : v'.ownBlock = v.ownBlock ∨ v'.ownBlock = some w1.heap.size) :
    TB w' B v' n ls (m + 1) (fun j => if j = m then r else f j) := by
  have hb := but_grown hg
  have hsz := hx.size
  have hsz2 := hb.size
  rw [vl_succ] at ho
  have none' : ∀ g, g < w.heap.size → v.ownBlock ≠ some g → v'.ownBlock ≠ some g := fun g hg hne e => by
    rcases hl with e' | e'
    · rw [e] at e'; exact hne e'.symm
    · rw [e] at e'; cases e'; omega
  refine ⟨ho, fun j hj => ?_, fun j hj => ?_, fun j hj => ?_⟩
  · by_cases e : j = m
    · subst e
      rw [if_pos rfl]
      exact (hv.ext hx).but hb hrv
    · rw [if_neg e]
      exact ((h.va j (by omega)).ext hx).but hb (h.ne j (by omega))
  · by_cases e : j = m
    · rw [if_pos e]; omega
    · rw [if_neg e]
      have := h.lt j (by omega)
      omega
  · by_cases e : j = m
    · rw [if_pos e]; exact none' _ hr hrv
    · rw [if_neg e]
      exact none' _ (h.lt j (by omega)) (h.ne j (by omega))
def TbV (w : World) (v : Value) (n : Nat) (ls : List Acc) : Prop := ∃ a cap, v = .slice a ls.length cap ∧ (0 < ls.length → ∃ (g : Nat) (f : Nat → Nat), a = some ⟨g, 0, none⟩ ∧ ∀ w', Ext w w' → ∀ j, j < ls.length → w'.cell? ⟨g, j, none⟩ = some (.slice (some ⟨f j, 0, none⟩) ls.length ls.length) ∧ ∀ k, k < ls.length → w'.cell? ⟨f j, k, none⟩ = some (.bool (knT n ls j k)))
theorem TB.tbv {w : World} {B : Nat} {v : Value} {n : Nat} {ls : List Acc} {f : Nat → Nat} (h : TB w B v n ls ls.length f) : TbV w v n ls := by
  by_cases h0 : 0 < ls.length
  · obtain ⟨g, cap, rfl, hc⟩ := h.form h0
    exact ⟨_, cap, rfl, fun _ => ⟨g, f, rfl, hc⟩⟩
  · rcases h.own.2 with ⟨rfl, e⟩ | ⟨g, cap, cur, rfl, _⟩
    · exact ⟨none, 0, by rw [e], fun h => absurd h h0⟩
    · exact ⟨_, cap, rfl, fun h => absurd h h0⟩
/-- 'out = append(out, row)' -/
theorem appB {ops : Array Oper} {rest : List Oper} {o : Oper} {a : Act} {Q : Exit → Act → World → Prop} (w : World) (hgd : o.guard = none) (s x : Operand)
    (ho : o.op = .call { callee := .builtin .append, args := #[s, x], argTypes := #[38, 38] })
    (W : World) (w0 : World) (v : Value) (n : Nat) (ls : List Acc) (m : Nat) (f : Nat → Nat) (r : Nat) (hs : a.eval s = v) (hT : TB w0 W.heap.size v n ls m f) (hv : VA ls.length w0 r (fun k => .bool (knT n ls m k))) (hr : r < w0.heap.size) (hrv : v.ownBlock ≠ some r) (hW : Ext W w0) (h0 : Ext w0 w)
    (g : Nat) (hx : a.eval x = .slice (some ⟨g, 0, none⟩) 1 1) (hcell : w.cell? ⟨g, 0, none⟩ = some (.slice (some ⟨r, 0, none⟩) ls.length ls.length)) (hl : m ≤ 1000000)
    (h : ∀ v' w' f', TB w' W.heap.size v' n ls (m + 1) f' → Ext W w' → wpList Try.prog ops Q rest (a.put o.dst v') w') : wpList Try.prog ops Q (o :: rest) a w := by
  obtain ⟨i0, hi, hz0, hz1, hz2⟩ := info_parts info_bools
  refine wpList_append_own_at w hgd s x 38 ho W.heap.size 65 i0 (.slice none 0 0) 1 24 Try.underlying38 hi hz0 hz1 hz2 rfl (by decide) v m _ hs (h0.row hT.own) ⟨g, 0, none⟩ 1 1 [.slice (some ⟨r, 0, none⟩) ls.length ls.length] hx rfl ?_ ?_ ?_ ?_ ?_ ?_
  · intro j u hu
    match j, hu with
    | 0, hu =>
      simp at hu
      subst hu
      simpa [Addr.add] using hcell
  · intro u hu; simp at hu; subst hu; rfl
  · unfold maxLen; omega
  · omega
  · exact Nat.le_trans hW.size h0.size
  · intro v' w' h1 h2 _ h4
    exact h v' w' _ (hT.app hv hr hrv h0 h1 h2 h4) ((hW.trans h0).grown h2 fun j hj => (World.ownsRow.lt hT.own j hj).1)
theorem va_step {L : Nat} {w : World} {r k : Nat} {n i : Nat} {ls : List Acc} {b : Bool} (h : VA L w r (fun x => .bool (decide (x < k) && knT n ls i x))) (hk : k < L) (hki : k < i) (hb : kn n ls i k = b) : VA L (w.setCell ⟨r, k, none⟩ (.bool b)) r (fun x => .bool (decide (x < k + 1) && knT n ls i x)) := by
  refine (va_set h (.bool b) hk).congr fun j hj => ?_
  by_cases e : j = k
  · subst e
    rw [if_pos rfl, ← hb]
    unfold knT
    simp [hki]
  · rw [if_neg e]
    have : decide (j < k) = decide (j < k + 1) := by
      by_cases h : j < k
      · rw [decide_eq_true h, decide_eq_true (by omega)]
      · rw [decide_eq_false h, decide_eq_false (by omega)]
    rw [this]
def TDoes (w : World) (n : Nat) (ls : List Acc) (e : Ending) (w' : World) : Prop := ∃ v, e = .returned v ∧ TbV w' v n ls ∧ Ext w w'
set_option maxRecDepth 100000 in
theorem rTable (n : Nat) (v : Value) (ls : List Acc) (w : World) (hA : AccV w v ls) (R : RL n ls) : Calls Try.prog 20 #[v] w (TDoes w n ls) := by
  obtain ⟨a, cap, rfl, hcap, hmax⟩ := hA.form
  have hL := R.l
  have HA := Lib.hid hA
  have HR := Lib.hid R
  have HG : Hid (∀ (W : World) (v : Value) (f : Nat → Nat), TB W w.heap.size v n ls ls.length f → Ext w W → TDoes w n ls (.returned v) W) := Lib.hid (fun W v f hT hX => ⟨v, rfl, hT.tbv, hX⟩)
  generalize TDoes w n ls = G at *
  have hmk := fun W => run_make_row' (P := Try.prog) 65 4 (.bool false) 1 Try.underlying65 info_bool rfl .i64 .i64 ls.length (by omega) (by omega) W
  clear hA R
  go_enter Try.func20, Try.ntmps20
  go_wp2
  go_loopw [4, 3] (fun x o wr => ∃ (i : Nat) (f : Nat → Nat), i ≤ ls.length ∧ x = .int .i64 i ∧ TB wr w.heap.size o n ls i f ∧ Ext w wr) (fun x _ _ => ls.length - (intOf x).toNat)
  case atStart => exact ⟨0, fun _ => 0, Nat.zero_le _, rfl, TB.nil _ _ _ _ _, Ext.refl _⟩
  case round =>
    obtain ⟨i, f, hi, rfl, hT, hx⟩ := hrel
    by_cases hlt : i < ls.length
    case neg =>
      obtain rfl : i = ls.length := by omega
      have HF := Lib.hid (HG.out _ _ f hT hx)
      clear hT hx hmk
      go_wp2
      first
        | exact HF.out
        | (go_ret; exact HF.out)
        | (go_ret2; exact HF.out)
        | exact bodyPost_ret (P := Try.prog) (f := Try.f20) (v := u3) (by simp [results, Try.results20, go_sem]) rfl HF.out
    have hil : (i : Int) < (ls.length : Int) := by omega
    have HX := Lib.hid hx
    have HT := Lib.hid hT
    clear hT hx
    have V1 := va_new (n := ls.length) wr 4 (madeCells #[.bool false] ls.length) (fun _ => .bool false) (made_vl _ rfl ls.length)
    have HV1 : Hid (VA ls.length (wr.alloc (.cells (madeCells #[.bool false] ls.length) 4)) wr.heap.size (fun x => .bool (decide (x < 0) && knT n ls i x))) := Lib.hid (V1.congr fun j _ => by simp)
    clear V1
    have X1 : Hid (Ext wr (wr.alloc (.cells (madeCells #[.bool false] ls.length) 4))) := Lib.hid ((Ext.refl wr).alloc _)
    have hsz : (wr.alloc (.cells (madeCells #[.bool false] ls.length) 4)).heap.size = wr.heap.size + 1 := by simp
    have CA := Lib.hid (fun w' (hx : Ext wr w') => rAhead _ ls i w' (HA.out.ext (HX.out.trans hx)) hlt hL)
    have CS := Lib.hid (fun w' (hx : Ext wr w') => rSource_in _ ls i w' (HA.out.ext (HX.out.trans hx)) hlt hL)
    have CT := Lib.hid (fun w => rAtomic (A ls i).k w)
    have HK : Hid (∀ k, k < i → kn n ls i k = (decide ((k : Int) = prv ls (A ls i).t i) || decide ((k : Int) = srcA ls i) || (decide (0 ≤ prv ls (A ls i).t i) && knT n ls (prv ls (A ls i).t i).toNat k) || (decide (0 ≤ srcA ls i) && knT n ls (srcA ls i).toNat k))) := Lib.hid (fun k hk => kn_rec HR.out hlt hk)
    have hPr : prv ls (A ls i).t i < i := (lastP_rng _ i).2
    have hSr : srcA ls i < i := by
      by_cases h : srcA ls i < 0
      · omega
      · have := srcA_lt h; omega
    have HSY : Hid (atB (A ls i).k = true → srcR ls i = srcA ls i) := Lib.hid (srcR_at HR.out hlt)
    have HSN : Hid (atB (A ls i).k = false → srcA ls i = -1) := Lib.hid srcA_no
    obtain ⟨b, off, ea, _⟩ := HA.out.at HX.out hlt
    subst ea
    cases hat : atB (A ls i).k
    case false =>
      rw [hat] at CT
      have hSS := HSN.out hat
      go_wp2_with fail
      refine (CA.out _ X1.out).mono ?_
      rintro e w2 ⟨rfl, X2⟩
      obtain ⟨_, _, ea, c0, c1, _⟩ := HA.out.at (HX.out.trans (X1.out.trans X2)) hlt
      cases ea
      rw [A_at hlt] at c0 c1
      have HV2 := Lib.hid (HV1.out.ext X2)
      have HX2 := Lib.hid (X1.out.trans X2)
      clear X2
      go_wp2_with fail
      refine (CT.out _).mono ?_
      rintro e w' ⟨rfl, rfl⟩
      have HV3 := HV2
      have HX3 := HX2
      clear HV2 HX2 c0 c1
      rw [← hSS]
      clear hSS HSY HSN
      clear hmk HG
      obtain ⟨wo, hwo⟩ : ∃ wo, wo = wr := ⟨_, rfl⟩
      subst hwo
      generalize prv ls (A ls i).t i = P at *
      generalize srcA ls i = S at *
      generalize hr : wo.heap.size = r at HV3 ⊢
      have hrr : wo.heap.size ≤ r := Nat.le_of_eq hr
      go_wp2
      go_loopw [8] (fun x w3 => ∃ k : Nat, k ≤ i ∧ x = .int .i64 k ∧ VA ls.length w3 r (fun y => .bool (decide (y < k) && knT n ls i y)) ∧ Ext wo w3) (fun x _ => i - (intOf x).toNat)
      case atStart => exact ⟨0, Nat.zero_le _, rfl, HV3.out, HX3.out⟩
      case round =>
        obtain ⟨k, hk, rfl, hV, hx⟩ := hrel
        by_cases hki : k < i
        case neg =>
          obtain rfl : k = i := by omega
          have hrlt := World.block_lt_of_cell? _ ⟨r, 0, none⟩ (hV.c 0 (by omega))
          have hrv : u3.ownBlock ≠ some r := fun e => by have := (World.ownsRow.lt HT.out.own r e).2; omega
          have HVF := Lib.hid (hV.congr (g := fun y => .bool (knT n ls k y)) (fun y _ => by unfold knT; by_cases h : y < k <;> simp [h]))
          have HTF := Lib.hid (HT.out.ext hx)
          have HXF := Lib.hid (HX.out.trans hx)
          clear hV hx
          go_wp2_with (at_builtin; refine appB _ rfl _ _ rfl w _ u3 n ls k f r rfl HTF.out HVF.out hrlt hrv HXF.out ((Ext.refl _).alloc _) _ rfl (by simp [go_sem]) (by omega) ?_; intro v4 w4 f4 hT4 hX4; have HT4 := Lib.hid hT4; have HX4 := Lib.hid hX4; clear hT4 hX4)
          exact ⟨⟨k + 1, f4, by omega, by go_num, HT4.out, HX4.out⟩, by simp [intOf]; omega⟩
        have KK := HK.out k hki
        have hkI : (k : Int) < (i : Int) := by omega
        have hkL : (k : Int) < (ls.length : Int) := by omega
        have hkl : k < ls.length := by omega
        have hrow := hV.c k hkl
        have hz := hV.z k hkl
        have HV := Lib.hid hV
        obtain ⟨g, tcap, eo, hcs⟩ := HT.out.form (by omega)
        subst eo
        have HCS := Lib.hid (fun j hj => hcs _ hx j hj)
        have HXW := Lib.hid hx
        clear hV hx hcs
        generalize hkn : kn n ls i k = b at *
        have HKN := Lib.hid hkn
        clear hkn
        by_cases hP : (k : Int) = P
        · subst hP
          obtain rfl : b = true := by rw [KK] <;> simp [*]
          have HVS := Lib.hid (va_step HV.out hkl hki HKN.out)
          have HXS := Lib.hid (HXW.out.setCell (p := ⟨r, k, none⟩) hrr (.bool true))
          clear KK
          go_wp2
          exact ⟨⟨k + 1, by omega, by go_num, HVS.out, HXS.out⟩, by simp [intOf]; omega⟩
        have e1 : ((k : Int) == P) = false := by simpa using hP
        by_cases hS : (k : Int) = S
        · subst hS
          obtain rfl : b = true := by rw [KK] <;> simp [*]
          have HVS := Lib.hid (va_step HV.out hkl hki HKN.out)
          have HXS := Lib.hid (HXW.out.setCell (p := ⟨r, k, none⟩) hrr (.bool true))
          clear KK
          go_wp2
          exact ⟨⟨k + 1, by omega, by go_num, HVS.out, HXS.out⟩, by simp [intOf]; omega⟩
        have e2 : ((k : Int) == S) = false := by simpa using hS
        by_cases hP0 : 0 ≤ P
        · obtain ⟨p, hp⟩ : ∃ p : Nat, P = p := ⟨P.toNat, by omega⟩
          subst hp
          obtain ⟨q1, q2⟩ := HCS.out p (by omega)
          have q3 := q2 k hkl
          have hpi : (p : Int) < (i : Int) := hPr
          have d1 : decide ((0 : Int) ≤ (p : Int)) = true := by simp
          clear q2
          rw [show ((p : Int)).toNat = p by omega] at KK
          generalize knT n ls p k = b1 at *
          cases b1
          case true =>
            obtain rfl : b = true := by rw [KK] <;> simp [*]
            have HVS := Lib.hid (va_step HV.out hkl hki HKN.out)
            have HXS := Lib.hid (HXW.out.setCell (p := ⟨r, k, none⟩) hrr (.bool true))
            clear KK
            go_wp2
            exact ⟨⟨k + 1, by omega, by go_num, HVS.out, HXS.out⟩, by simp [intOf]; omega⟩
          by_cases hS0 : 0 ≤ S
          · obtain ⟨s, hs⟩ : ∃ s : Nat, S = s := ⟨S.toNat, by omega⟩
            subst hs
            obtain ⟨q4, q5⟩ := HCS.out s (by omega)
            have q6 := q5 k hkl
            have hsi : (s : Int) < (i : Int) := hSr
            have d2 : decide ((0 : Int) ≤ (s : Int)) = true := by simp
            clear q5
            rw [show ((s : Int)).toNat = s by omega] at KK
            generalize knT n ls s k = b2 at *
            obtain rfl : b = b2 := by rw [KK] <;> simp [*]
            have HVS := Lib.hid (va_step HV.out hkl hki HKN.out)
            have HXS := Lib.hid (HXW.out.setCell (p := ⟨r, k, none⟩) hrr (.bool b))
            clear KK
            go_wp2
            exact ⟨⟨k + 1, by omega, by go_num, HVS.out, HXS.out⟩, by simp [intOf]; omega⟩
          have d2 : decide (0 ≤ S) = false := by simp; omega
          obtain rfl : b = false := by rw [KK] <;> simp [*]
          have HVS := Lib.hid (va_step HV.out hkl hki HKN.out)
          have HXS := Lib.hid (HXW.out.setCell (p := ⟨r, k, none⟩) hrr (.bool false))
          clear KK
          go_wp2
          exact ⟨⟨k + 1, by omega, by go_num, HVS.out, HXS.out⟩, by simp [intOf]; omega⟩
        have d1 : decide (0 ≤ P) = false := by simp; omega
        by_cases hS0 : 0 ≤ S
        · obtain ⟨s, hs⟩ : ∃ s : Nat, S = s := ⟨S.toNat, by omega⟩
          subst hs
          obtain ⟨q4, q5⟩ := HCS.out s (by omega)
          have q6 := q5 k hkl
          have hsi : (s : Int) < (i : Int) := hSr
          have d2 : decide ((0 : Int) ≤ (s : Int)) = true := by simp
          clear q5
          rw [show ((s : Int)).toNat = s by omega] at KK
          generalize knT n ls s k = b2 at *
          obtain rfl : b = b2 := by rw [KK] <;> simp [*]
          have HVS := Lib.hid (va_step HV.out hkl hki HKN.out)
          have HXS := Lib.hid (HXW.out.setCell (p := ⟨r, k, none⟩) hrr (.bool b))
          clear KK
          go_wp2
          exact ⟨⟨k + 1, by omega, by go_num, HVS.out, HXS.out⟩, by simp [intOf]; omega⟩
        have d2 : decide (0 ≤ S) = false := by simp; omega
        obtain rfl : b = false := by rw [KK] <;> simp [*]
        have HVS := Lib.hid (va_step HV.out hkl hki HKN.out)
        have HXS := Lib.hid (HXW.out.setCell (p := ⟨r, k, none⟩) hrr (.bool false))
        clear KK
        go_wp2
        exact ⟨⟨k + 1, by omega, by go_num, HVS.out, HXS.out⟩, by simp [intOf]; omega⟩
    rw [hat] at CT
    have hSS := HSY.out hat
    rw [hSS] at CS
    go_wp2_with fail
    refine (CA.out _ X1.out).mono ?_
    rintro e w2 ⟨rfl, X2⟩
    obtain ⟨_, _, ea, c0, c1, _⟩ := HA.out.at (HX.out.trans (X1.out.trans X2)) hlt
    cases ea
    rw [A_at hlt] at c0 c1
    have HV2 := Lib.hid (HV1.out.ext X2)
    have HX2 := Lib.hid (X1.out.trans X2)
    clear X2
    go_wp2_with fail
    refine (CT.out _).mono ?_
    rintro e w' ⟨rfl, rfl⟩
    go_wp2_with fail
    refine (CS.out _ HX2.out).mono ?_
    rintro e w3 ⟨rfl, X3⟩
    have HV3 := Lib.hid (HV2.out.ext X3)
    have HX3 := Lib.hid (HX2.out.trans X3)
    clear hSS HSY HSN
    clear HV2 HX2 c0 c1 X3
    clear hmk HG
    obtain ⟨wo, hwo⟩ : ∃ wo, wo = wr := ⟨_, rfl⟩
    subst hwo
    generalize prv ls (A ls i).t i = P at *
    generalize srcA ls i = S at *
    generalize hr : wo.heap.size = r at HV3 ⊢
    have hrr : wo.heap.size ≤ r := Nat.le_of_eq hr
    go_wp2
    go_loopw [8] (fun x w3 => ∃ k : Nat, k ≤ i ∧ x = .int .i64 k ∧ VA ls.length w3 r (fun y => .bool (decide (y < k) && knT n ls i y)) ∧ Ext wo w3) (fun x _ => i - (intOf x).toNat)
    case atStart => exact ⟨0, Nat.zero_le _, rfl, HV3.out, HX3.out⟩
    case round =>
      obtain ⟨k, hk, rfl, hV, hx⟩ := hrel
      by_cases hki : k < i
      case neg =>
        obtain rfl : k = i := by omega
        have hrlt := World.block_lt_of_cell? _ ⟨r, 0, none⟩ (hV.c 0 (by omega))
        have hrv : u3.ownBlock ≠ some r := fun e => by have := (World.ownsRow.lt HT.out.own r e).2; omega
        have HVF := Lib.hid (hV.congr (g := fun y => .bool (knT n ls k y)) (fun y _ => by unfold knT; by_cases h : y < k <;> simp [h]))
        have HTF := Lib.hid (HT.out.ext hx)
        have HXF := Lib.hid (HX.out.trans hx)
        clear hV hx
        go_wp2_with (at_builtin; refine appB _ rfl _ _ rfl w _ u3 n ls k f r rfl HTF.out HVF.out hrlt hrv HXF.out ((Ext.refl _).alloc _) _ rfl (by simp [go_sem]) (by omega) ?_; intro v4 w4 f4 hT4 hX4; have HT4 := Lib.hid hT4; have HX4 := Lib.hid hX4; clear hT4 hX4)
        exact ⟨⟨k + 1, f4, by omega, by go_num, HT4.out, HX4.out⟩, by simp [intOf]; omega⟩
      have KK := HK.out k hki
      have hkI : (k : Int) < (i : Int) := by omega
      have hkL : (k : Int) < (ls.length : Int) := by omega
      have hkl : k < ls.length := by omega
      have hrow := hV.c k hkl
      have hz := hV.z k hkl
      have HV := Lib.hid hV
      obtain ⟨g, tcap, eo, hcs⟩ := HT.out.form (by omega)
      subst eo
      have HCS := Lib.hid (fun j hj => hcs _ hx j hj)
      have HXW := Lib.hid hx
      clear hV hx hcs
      generalize hkn : kn n ls i k = b at *
      have HKN := Lib.hid hkn
      clear hkn
      by_cases hP : (k : Int) = P
      · subst hP
        obtain rfl : b = true := by rw [KK] <;> simp [*]
        have HVS := Lib.hid (va_step HV.out hkl hki HKN.out)
        have HXS := Lib.hid (HXW.out.setCell (p := ⟨r, k, none⟩) hrr (.bool true))
        clear KK
        go_wp2
        exact ⟨⟨k + 1, by omega, by go_num, HVS.out, HXS.out⟩, by simp [intOf]; omega⟩
      have e1 : ((k : Int) == P) = false := by simpa using hP
      by_cases hS : (k : Int) = S
      · subst hS
        obtain rfl : b = true := by rw [KK] <;> simp [*]
        have HVS := Lib.hid (va_step HV.out hkl hki HKN.out)
        have HXS := Lib.hid (HXW.out.setCell (p := ⟨r, k, none⟩) hrr (.bool true))
        clear KK
        go_wp2
        exact ⟨⟨k + 1, by omega, by go_num, HVS.out, HXS.out⟩, by simp [intOf]; omega⟩
      have e2 : ((k : Int) == S) = false := by simpa using hS
      by_cases hP0 : 0 ≤ P
      · obtain ⟨p, hp⟩ : ∃ p : Nat, P = p := ⟨P.toNat, by omega⟩
        subst hp
        obtain ⟨q1, q2⟩ := HCS.out p (by omega)
        have q3 := q2 k hkl
        have hpi : (p : Int) < (i : Int) := hPr
        have d1 : decide ((0 : Int) ≤ (p : Int)) = true := by simp
        clear q2
        rw [show ((p : Int)).toNat = p by omega] at KK
        generalize knT n ls p k = b1 at *
        cases b1
        case true =>
          obtain rfl : b = true := by rw [KK] <;> simp [*]
          have HVS := Lib.hid (va_step HV.out hkl hki HKN.out)
          have HXS := Lib.hid (HXW.out.setCell (p := ⟨r, k, none⟩) hrr (.bool true))
          clear KK
          go_wp2
          exact ⟨⟨k + 1, by omega, by go_num, HVS.out, HXS.out⟩, by simp [intOf]; omega⟩
        by_cases hS0 : 0 ≤ S
        · obtain ⟨s, hs⟩ : ∃ s : Nat, S = s := ⟨S.toNat, by omega⟩
          subst hs
          obtain ⟨q4, q5⟩ := HCS.out s (by omega)
          have q6 := q5 k hkl
          have hsi : (s : Int) < (i : Int) := hSr
          have d2 : decide ((0 : Int) ≤ (s : Int)) = true := by simp
          clear q5
          rw [show ((s : Int)).toNat = s by omega] at KK
          generalize knT n ls s k = b2 at *
          obtain rfl : b = b2 := by rw [KK] <;> simp [*]
          have HVS := Lib.hid (va_step HV.out hkl hki HKN.out)
          have HXS := Lib.hid (HXW.out.setCell (p := ⟨r, k, none⟩) hrr (.bool b))
          clear KK
          go_wp2
          exact ⟨⟨k + 1, by omega, by go_num, HVS.out, HXS.out⟩, by simp [intOf]; omega⟩
        have d2 : decide (0 ≤ S) = false := by simp; omega
        obtain rfl : b = false := by rw [KK] <;> simp [*]
        have HVS := Lib.hid (va_step HV.out hkl hki HKN.out)
        have HXS := Lib.hid (HXW.out.setCell (p := ⟨r, k, none⟩) hrr (.bool false))
        clear KK
        go_wp2
        exact ⟨⟨k + 1, by omega, by go_num, HVS.out, HXS.out⟩, by simp [intOf]; omega⟩
      have d1 : decide (0 ≤ P) = false := by simp; omega
      by_cases hS0 : 0 ≤ S
      · obtain ⟨s, hs⟩ : ∃ s : Nat, S = s := ⟨S.toNat, by omega⟩
        subst hs
        obtain ⟨q4, q5⟩ := HCS.out s (by omega)
        have q6 := q5 k hkl
        have hsi : (s : Int) < (i : Int) := hSr
        have d2 : decide ((0 : Int) ≤ (s : Int)) = true := by simp
        clear q5
        rw [show ((s : Int)).toNat = s by omega] at KK
        generalize knT n ls s k = b2 at *
        obtain rfl : b = b2 := by rw [KK] <;> simp [*]
        have HVS := Lib.hid (va_step HV.out hkl hki HKN.out)
        have HXS := Lib.hid (HXW.out.setCell (p := ⟨r, k, none⟩) hrr (.bool b))
        clear KK
        go_wp2
        exact ⟨⟨k + 1, by omega, by go_num, HVS.out, HXS.out⟩, by simp [intOf]; omega⟩
      have d2 : decide (0 ≤ S) = false := by simp; omega
      obtain rfl : b = false := by rw [KK] <;> simp [*]
      have HVS := Lib.hid (va_step HV.out hkl hki HKN.out)
      have HXS := Lib.hid (HXW.out.setCell (p := ⟨r, k, none⟩) hrr (.bool false))
      clear KK
      go_wp2
      exact ⟨⟨k + 1, by omega, by go_num, HVS.out, HXS.out⟩, by simp [intOf]; omega⟩
end Go.Proofs.Ytoaifbengichbaa
