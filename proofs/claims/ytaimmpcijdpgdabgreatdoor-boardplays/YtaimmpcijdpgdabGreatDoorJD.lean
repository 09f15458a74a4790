import Derived.Test.YtaimmpcijdpgdabGreatDoorJB
import Derived.Test.YtaimmpcijdpgdabGreatDoorJC
import Derived.Test.YtaimmpcijdpgdabGreatDoorJA
/- The document's board made. -/
namespace Go.Proofs.YtaimmpcijdpgdabGreatDoor
open Go.RowKit
set_option linter.unusedVariables false
set_option linter.unusedSimpArgs false
set_option maxHeartbeats 2000000
attribute [local go_sem] later_cell later_frozen later_const
def nmO (k : Nat) (i : Int) : ByteArray := if pMany k then pName k ++ tx (Lib.itoa i) else pName k
theorem gateL_at (W S : Int) {m i : Nat} (h : i < m) : (gateL W S m)[i]? = some ⟨pName 1 ++ tx (Lib.itoa (i : Int)), 1, cutS W S⟩ := by simp [gateL, h]
theorem slotL_at (k : Nat) (W C S : Int) {m i : Nat} (h : i < m) : (slotL k W C S m)[i]? = some ⟨pName k ++ tx (Lib.itoa (i : Int)), pKind k, fst W C S k i⟩ := by simp [slotL, h]
theorem listD_at {V n C : Int} (h : NumOk V n C) (W S : Int) {N c : Nat} (hN : (N : Int) = n) (hc : (c : Int) < nCe V n C) {k i : Int} (e : useN V n C c = (k, i)) :
    (listD V W C S N)[c]? = some ⟨nmO k.toNat i, pKind k.toNat, fst W C S k i⟩ := by
  have hg := gateL_len W S N
  have hs10 := slotL_len 10 W C S C.toNat
  have hs9 := slotL_len 9 W C S C.toNat
  have hs8 := slotL_len 8 W C S C.toNat
  have hs7 := slotL_len 7 W C S C.toNat
  have h6 := h.c64
  have h5 := h.c2
  have hce : nCe V n C = nSl V n C + C := rfl
  have hlv : ((varL V W C S).length : Int) = nSl V n C - n := by
    unfold varL nSl
    by_cases v1 : V = 1
    · simp [v1]; omega
    by_cases v5 : V = 5
    · simp [v5, hs9]; omega
    by_cases v4 : V = 4
    · simp [v4, hs8]; omega
    · simp [v1, v5, v4, hs7]; omega
  have hsl : n ≤ nSl V n C := by omega
  unfold listD
  rcases use_cases h (by omega) hc with ⟨a, b⟩ | ⟨a, b⟩ | ⟨a, a2, b⟩ | ⟨a, a1, a2, b⟩ | ⟨a, a2, b⟩ | ⟨a, a2, b⟩ | ⟨a, a2, b⟩ | ⟨a, a1, a2, b⟩ <;> rw [e] at b <;> cases b
  · rw [List.append_assoc, List.getElem?_append_left (by omega), gateL_at W S (by omega)]
    rfl
  · rw [List.getElem?_append_right (by rw [List.length_append]; omega), List.length_append, slotL_at 10 W C S (by omega)]
    have : (c : Int) - nSl V n C = ((c - ((gateL W S N).length + (varL V W C S).length) : Nat) : Int) := by omega
    rw [this]
    rfl
  · rw [List.append_assoc, List.getElem?_append_right (by omega), hg, show c - N = 0 by omega]
    subst a
    simp [varL, nmO, pMany, pKind, fst]
  · rw [List.append_assoc, List.getElem?_append_right (by omega), hg, show c - N = 0 by omega]
    by_cases v4 : V = 4
    · subst v4
      simp [varL, nmO, pMany, pKind, fst]
    · simp [varL, a, a1, v4, nmO, pMany, pKind, fst]
  · rw [List.append_assoc, List.getElem?_append_right (by omega), hg, show c - N = 0 by omega]
    subst a
    simp [varL, nmO, pMany, pKind, fst]
  · rw [List.append_assoc, List.getElem?_append_right (by omega), hg, show c - N = 1 by omega]
    subst a
    simp [varL, nmO, pMany, pKind, fst]
  · rw [List.append_assoc, List.getElem?_append_right (by omega), hg, show c - N = 2 by omega]
    subst a
    simp [varL, nmO, pMany, pKind, fst]
  · by_cases v5 : V = 5
    · subst v5
      simp [nMa, nSl] at a1 a2
      rw [List.append_assoc, List.getElem?_append_right (by omega), hg, List.getElem?_append_left (by simp [nSl] at hlv; omega)]
      have hx : (c : Int) - (n + 3) = ((c - N - 3 : Nat) : Int) := by omega
      have hv : varL 5 W C S = [⟨pName 4, 1, 0⟩, ⟨pName 5, 1, 0⟩, ⟨pName 6, 2, cutS W S⟩] ++ slotL 9 W C S C.toNat := by simp [varL]
      rw [hv, List.getElem?_append_right (by simp; omega)]
      simp only [List.length_cons, List.length_nil]
      rw [slotL_at 9 W C S (by omega), show nMa 5 n = n + 3 by simp [nMa], show mrk 5 = 9 by simp [mrk], hx]
      rfl
    · have hma : nMa V n = n + 1 := by simp [nMa, a, v5]
      have hsl2 : nSl V n C = n + 1 + C := by simp [nSl, a, v5]
      rw [List.append_assoc, List.getElem?_append_right (by omega), hg, List.getElem?_append_left (by omega)]
      have hx : (c : Int) - (n + 1) = ((c - N - 1 : Nat) : Int) := by omega
      by_cases v4 : V = 4
      · subst v4
        have hv : varL 4 W C S = [⟨pName 3, 1, cutS W S⟩] ++ slotL 8 W C S C.toNat := by simp [varL]
        rw [hv, List.getElem?_append_right (by simp; omega)]
        simp only [List.length_cons, List.length_nil]
        rw [slotL_at 8 W C S (by omega), hma, show mrk 4 = 8 by simp [mrk], hx]
        rfl
      · have hv : varL V W C S = [⟨pName 3, 1, cutS W S⟩] ++ slotL 7 W C S C.toNat := by simp [varL, a, v4, v5]
        rw [hv, List.getElem?_append_right (by simp; omega)]
        simp only [List.length_cons, List.length_nil]
        rw [slotL_at 7 W C S (by omega), hma, show mrk V = 7 by simp [mrk, v4, v5], hx]
        rfl
theorem listD_len {V n C : Int} (h : NumOk V n C) (W S : Int) {N : Nat} (hN : (N : Int) = n) : ((listD V W C S N).length : Int) = nCe V n C := by
  have h5 := h.c2
  unfold listD varL nCe nSl
  simp only [List.length_append, gateL_len, slotL_len]
  by_cases v1 : V = 1
  · simp [v1]; omega
  by_cases v5 : V = 5
  · simp [v5, slotL_len]; omega
  by_cases v4 : V = 4
  · simp [v4, slotL_len]; omega
  · simp [v1, v5, v4, slotL_len]; omega

def rowU (F : Nat → Int) (k : Nat) : List Value := (List.range k).map fun i => .int .u64 (F i)
theorem rowU_snoc (F : Nat → Int) (k : Nat) : rowU F (k + 1) = rowU F k ++ [.int .u64 (F k)] := by
  unfold rowU
  rw [List.range_succ, List.map_append]
  rfl
/-- a board on its way: k numbers are laid -/
structure RN (w : World) (base b : Nat) (y : RY) (F : Nat → Int) (hv : Value) (k : Nat) : Prop where
  q0 : w.cell? ⟨b, 0, none⟩ = some (.int .i64 y.V)
  q1 : w.cell? ⟨b, 1, none⟩ = some (.int .i64 y.W)
  q2 : w.cell? ⟨b, 2, none⟩ = some (.int .i64 y.C)
  q3 : w.cell? ⟨b, 3, none⟩ = some (.int .i64 y.P)
  q4 : w.cell? ⟨b, 4, none⟩ = some (.int .u64 y.S)
  q5 : w.cell? ⟨b, 5, none⟩ = some (.slice y.a y.n y.cap)
  q6 : w.cell? ⟨b, 6, none⟩ = some (.slice (some ⟨y.gc, 0, none⟩) y.m y.cc)
  q7 : w.cell? ⟨b, 7, none⟩ = some hv
  z7 : w.frozen? ⟨b, 7, none⟩ = false
  q8 : w.cell? ⟨b, 8, none⟩ = some (.slice none 0 0)
  z8 : w.frozen? ⟨b, 8, none⟩ = false
  kc : ∀ c, c < y.m → w.cell? ⟨y.gc, c * 3 + 1, none⟩ = some (.int .i64 (y.kf c))
  fc : ∀ c, c < y.m → w.cell? ⟨y.gc, c * 3 + 2, none⟩ = some (.int .u64 (F c))
  tb : Tag w b 52
  tc : Tag w y.gc 78
  row : w.ownsRow base 22 1 hv k (rowU F k)
theorem row_tagU {w : World} {base t n : Nat} {v : Value} {xs : List Value} (h : w.ownsRow base t 1 v n xs) {k : Nat} (hk : v.ownBlock = some k) : Tag w k t := by
  rcases h.2 with ⟨e1, _⟩ | ⟨g', cap', cur, e1, _, hgo, _⟩
  · rw [e1] at hk; cases hk
  · rw [e1] at hk; cases hk; exact ⟨_, hgo⟩
theorem RN.ext {w w' : World} {base b : Nat} {y : RY} {F : Nat → Int} {hv : Value} {k : Nat} (h : RN w base b y F hv k) (hx : Ext w w') : RN w' base b y F hv k :=
  ⟨hx.cell h.q0, hx.cell h.q1, hx.cell h.q2, hx.cell h.q3, hx.cell h.q4, hx.cell h.q5, hx.cell h.q6, hx.cell h.q7, hx.frozen h.q7 h.z7, hx.cell h.q8, hx.frozen h.q8 h.z8, fun c hc => hx.cell (h.kc c hc), fun c hc => hx.cell (h.fc c hc), h.tb.ext hx, h.tc.ext hx, hx.row h.row⟩
theorem RN.grown {w w2 : World} {base b : Nat} {y : RY} {F : Nat → Int} {hv : Value} {k : Nat} (h : RN w base b y F hv k) (hg : w.grownBy w2 hv.ownBlock) : w2.cell? ⟨b, 7, none⟩ = some hv ∧ w2.frozen? ⟨b, 7, none⟩ = false := by
  have B2 := but_grown hg
  have sb : ¬ (hv.ownBlock = some b) := fun e => tag_ne h.tb (row_tagU h.row e) (by decide) rfl
  exact ⟨B2.cell h.q7 sb, B2.frozen h.q7 h.z7 sb⟩
theorem RN.step {w w2 : World} {base b : Nat} {y : RY} {F : Nat → Int} {hv v' : Value} {k : Nat} (h : RN w base b y F hv k) (hr : w2.ownsRow base 22 1 v' (k + 1) (rowU F k ++ [.int .u64 (F k)])) (hg : w.grownBy w2 hv.ownBlock) (hat : v'.ownBlock = hv.ownBlock ∨ v'.ownBlock = some w.heap.size) : RN (w2.setCell ⟨b, 7, none⟩ v') base b y F v' (k + 1) := by
  have B2 := but_grown hg
  have nbc : b ≠ y.gc := tag_ne h.tb h.tc (by decide)
  have sb : ¬ (hv.ownBlock = some b) := fun e => tag_ne h.tb (row_tagU h.row e) (by decide) rfl
  have sc : ¬ (hv.ownBlock = some y.gc) := fun e => tag_ne h.tc (row_tagU h.row e) (by decide) rfl
  have lb : b < w.heap.size := tag_lt h.tb
  have nb' : ¬ (v'.ownBlock = some b) := fun e => by
    rcases hat with e' | e'
    · rw [e] at e'; exact sb e'.symm
    · rw [e] at e'; have := Option.some.inj e'; omega
  have C3 := but_setCell w2 ⟨b, 7, none⟩ v'
  have far : ∀ {j : Nat} {u : Value}, j ≠ 7 → w.cell? ⟨b, j, none⟩ = some u → (w2.setCell ⟨b, 7, none⟩ v').cell? ⟨b, j, none⟩ = some u := by
    intro j u hj hq
    rw [World.cell?_setCell_other _ _ _ _ (fun e => hj (by cases e; rfl))]
    exact B2.cell hq sb
  refine ⟨far (by decide) h.q0, far (by decide) h.q1, far (by decide) h.q2, far (by decide) h.q3, far (by decide) h.q4, far (by decide) h.q5, far (by decide) h.q6, ?_, ?_, far (by decide) h.q8, ?_, ?_, ?_, (h.tb.but B2 sb).set, (h.tc.but B2 sc).set, ?_⟩
  · exact World.cell?_setCell_same _ _ _ (B2.cell h.q7 sb)
  · rw [World.frozen?_setCell]
    exact B2.frozen h.q7 h.z7 sb
  · rw [World.frozen?_setCell]
    exact B2.frozen h.q8 h.z8 sb
  · intro c hc
    exact C3.cell (B2.cell (h.kc c hc) sc) (by simpa using Ne.symm nbc)
  · intro c hc
    exact C3.cell (B2.cell (h.fc c hc) sc) (by simpa using Ne.symm nbc)
  · rw [rowU_snoc]
    exact C3.row hr (fun k hk e => nb' (by rw [hk]; simp at e; rw [e]))
/-- all numbers are laid: it is a board -/
theorem RN.done {w : World} {base b : Nat} {y : RY} {F : Nat → Int} {hv : Value} (h : RN w base b y F hv y.m) (h0 : 0 < y.m) : ∃ gh ch, base ≤ gh ∧ RB w b { y with gh := gh, ch := ch } F (.slice none 0 0) [] := by
  rcases h.row.2 with ⟨h1, h2⟩ | ⟨g, cap, cur, h1, h2, h3, h4, h5, h6, h7⟩
  · omega
  · refine ⟨g, cap, h2, ⟨h.q0, h.q1, h.q2, h.q3, h.q4, h.q5, h.q6, by rw [← h1]; exact h.q7, h.q8, h.z8, h.kc, h.tb, h.tc, ⟨_, h3⟩, ⟨fun i hi => ?_, fun i hi => ?_⟩, World.ownsRow_nil _ _ _ _⟩⟩
    · have hi2 : i < y.m := hi
      have hu : (rowU F y.m)[i]? = some (.int .u64 (F i)) := by simp [rowU, hi2]
      rw [← h7, List.getElem?_take] at hu
      have hv : cur[i]? = some (.int .u64 (F i)) := by
        rw [← Array.getElem?_toList]
        split at hu
        · exact hu
        · cases hu
      simp [World.cell?, h3, hv]
    · simp [World.frozen?, h3]
/-- the document's New -/
def RNewDoes (V W C P S : Int) (n m : Nat) (w : World) (e : Ending) (w' : World) : Prop :=
  ∃ b y, e = .returned (.pointer (some ⟨b, 0, none⟩)) ∧ RB w' b y (fsC V W C S n) (.slice none 0 0) [] ∧ y.m = m ∧ y.W = W ∧ y.C = C ∧ (∀ c : Nat, c < m → y.kf c = pKind (useN V n C c).1.toNat) ∧ Ext w w' ∧ w.heap.size ≤ b ∧ w.heap.size ≤ y.gh
theorem listD_kf {V : Int} {N : Nat} {C : Int} (h : NumOk V N C) (W S : Int) {c : Nat} (hc : c < (listD V W C S N).length) : (listD V W C S N)[c].kd = pKind (useN V N C c).1.toNat ∧ (listD V W C S N)[c].fs = fsC V W C S N c := by
  have hl := listD_len h W S rfl
  have ha := listD_at h W S (N := N) (c := c) rfl (by omega) (k := (useN V N C c).1) (i := (useN V N C c).2) rfl
  rw [List.getElem?_eq_getElem hc] at ha
  have := Option.some.inj ha
  rw [this]
  exact ⟨rfl, rfl⟩
theorem rNew_start {w : World} {base : Nat} {V W C P S : Int} {a : Option Addr} {n cap m : Nat} {v : Value} (hok : NumOk V n C) (hm : (m : Int) = nCe V n C) (h0 : 0 < m) (hR : RD w base v (listD V W C S n)) :
    ∃ gc cc, v = .slice (some ⟨gc, 0, none⟩) m cc ∧ ∀ w', Ext w w' → RN (w'.alloc (.cells #[.int .i64 V, .int .i64 W, .int .i64 C, .int .i64 P, .int .u64 S, .slice a n cap, .slice (some ⟨gc, 0, none⟩) m cc, .slice none 0 0, .slice none 0 0] 52)) base w'.heap.size ⟨V, W, C, P, S, a, n, cap, gc, cc, 0, 0, m, fun c => pKind (useN V n C c).1.toNat⟩ (fsC V W C S n) (.slice none 0 0) 0 := by
  have hl := listD_len hok W S rfl
  have hlm : (listD V W C S n).length = m := by omega
  have hR0 : RD w base v (listD V W C S n) := hR
  rcases hR.2 with ⟨h1, h2⟩ | ⟨g, cc, cur, h1, h2, h3, h4, h5, h6, h7⟩
  · omega
  · refine ⟨g, cc, by rw [← hlm]; exact h1, fun w' hx => ?_⟩
    have X := hx.alloc (.cells #[.int .i64 V, .int .i64 W, .int .i64 C, .int .i64 P, .int .u64 S, .slice a n cap, .slice (some ⟨g, 0, none⟩) m cc, .slice none 0 0, .slice none 0 0] 52)
    refine ⟨by simp [go_sem], by simp [go_sem], by simp [go_sem], by simp [go_sem], by simp [go_sem], by simp [go_sem], by simp [go_sem], by simp [go_sem], by simp [go_sem], by simp [go_sem], by simp [go_sem], fun c hc => ?_, fun c hc => ?_, Tag.new _ _ _, Tag.ext ⟨_, h3⟩ X, World.ownsRow_nil _ _ _ _⟩
    · have hc' : c < (listD V W C S n).length := by rw [hlm]; exact hc
      obtain ⟨g2, cap2, e2, _, r1, _⟩ := hR0.cell hc'
      rw [h1] at e2
      cases e2
      rw [(listD_kf hok W S hc').1] at r1
      exact X.cell r1
    · have hc' : c < (listD V W C S n).length := by rw [hlm]; exact hc
      obtain ⟨g2, cap2, e2, _, _, r2⟩ := hR0.cell hc'
      rw [h1] at e2
      cases e2
      rw [(listD_kf hok W S hc').2] at r2
      exact X.cell r2
set_option maxRecDepth 100000 in
theorem rNew12 (V W C P S : Int) (a : Option Addr) (n cap m : Nat) (w : World) (hok : NumOk V n C) (hW : W = 32 ∨ W = 64) (hC : rightB C = true) (hS0 : 0 ≤ S) (hm : (m : Int) = nCe V n C) :
    Calls Tryz.prog 12 #[(.agg #[.int .i64 V, .int .i64 W, .int .i64 C, .int .i64 P, .int .u64 (S), .slice a n cap])] w (RNewDoes V W C P S n m w) := by
  have hbd := num_bounds hok
  have h0 : 0 < m := by omega
  have hm5 : m ≤ 500 := by omega
  have CO := Lib.hid (fun w => rOf11 V W C P S a n cap w hok.v1 hok.v5 hW hC hok.c64 hS0 (by have := hok.n6; omega))
  have HST : Hid (∀ (w : World) (base : Nat) (v : Value), RD w base v (listD V W C S n) → ∃ gc cc, v = .slice (some ⟨gc, 0, none⟩) m cc ∧ ∀ w', Ext w w' → RN (w'.alloc (.cells #[.int .i64 V, .int .i64 W, .int .i64 C, .int .i64 P, .int .u64 S, .slice a n cap, .slice (some ⟨gc, 0, none⟩) m cc, .slice none 0 0, .slice none 0 0] 52)) base w'.heap.size ⟨V, W, C, P, S, a, n, cap, gc, cc, 0, 0, m, fun c => pKind (useN V n C c).1.toNat⟩ (fsC V W C S n) (.slice none 0 0) 0) := Lib.hid (fun w base v h => rNew_start hok hm h0 h)
  have HG : Hid (∀ b gc cc hv w', RN w' w.heap.size b ⟨V, W, C, P, S, a, n, cap, gc, cc, 0, 0, m, fun c => pKind (useN V n C c).1.toNat⟩ (fsC V W C S n) hv m → Ext w w' → w.heap.size ≤ b → RNewDoes V W C P S n m w (.returned (.pointer (some ⟨b, 0, none⟩))) w') := Lib.hid (fun b gc cc hv w' h1 h2 h3 => by
    obtain ⟨gh, ch, hh, hB⟩ := RN.done h1 h0
    exact ⟨b, _, rfl, hB, rfl, rfl, rfl, fun c hc => rfl, h2, h3, hh⟩)
  generalize RNewDoes V W C P S n m w = G at *
  generalize fsC V W C S n = F at *
  generalize (fun c : Nat => pKind (useN V n C c).1.toNat) = kf at *
  generalize listD V W C S n = LD at *
  obtain ⟨i0, hi, hz0, hz1, hz2⟩ := info_parts info_u64
  clear hok hW hC hS0 hm hbd
  go_enter Tryz.func12, Tryz.ntmps12
  go_upto_region 1 with (fail)
  refine settle_wp ?_
  intro w1 hb1
  have q_0 : w1.cell? ⟨w.heap.size, 0, none⟩ = some (.int .i64 V) := hb1.cell (by simp [go_sem])
  have q_1 : w1.cell? ⟨w.heap.size, 1, none⟩ = some (.int .i64 W) := hb1.cell (by simp [go_sem])
  have q_2 : w1.cell? ⟨w.heap.size, 2, none⟩ = some (.int .i64 C) := hb1.cell (by simp [go_sem])
  have q_3 : w1.cell? ⟨w.heap.size, 3, none⟩ = some (.int .i64 P) := hb1.cell (by simp [go_sem])
  have q_4 : w1.cell? ⟨w.heap.size, 4, none⟩ = some (.int .u64 S) := hb1.cell (by simp [go_sem])
  have q_5 : w1.cell? ⟨w.heap.size, 5, none⟩ = some (.slice a n cap) := hb1.cell (by simp [go_sem])
  have X1 : Ext w w1 := Ext.trans ((Ext.refl w).alloc _) hb1
  clear hb1
  refine wp_region_D (fun i => decide (i ≤ 2)) (by kernel_rfl) ?_
  have f_0 := fun w' (hx : Ext w1 w') => hx.cell q_0
  have f_1 := fun w' (hx : Ext w1 w') => hx.cell q_1
  have f_2 := fun w' (hx : Ext w1 w') => hx.cell q_2
  have f_3 := fun w' (hx : Ext w1 w') => hx.cell q_3
  have f_4 := fun w' (hx : Ext w1 w') => hx.cell q_4
  have f_5 := fun w' (hx : Ext w1 w') => hx.cell q_5
  refine take_D (i := 0) (v := ?_) rfl rfl rfl (by kernel_rfl) (by kernel_rfl) (by kernel_rfl) (by kernel_rfl) (by kernel_rfl) ((Ext.refl w1).drew) ?hy0 ?_
  case hy0 => intro wz hSw; (try dsimp only at hSw); go_simp <;> with_reducible rfl
  simp only [List.setIfInBounds_toArray, List.set_cons_zero, List.set_cons_succ]
  refine take_D (i := 1) (v := ?_) rfl rfl rfl (by kernel_rfl) (by kernel_rfl) (by kernel_rfl) (by kernel_rfl) (by kernel_rfl) ((Ext.refl w1).drew) ?hy1 ?_
  case hy1 => intro wz hSw; (try dsimp only at hSw); go_simp <;> with_reducible rfl
  simp only [List.setIfInBounds_toArray, List.set_cons_zero, List.set_cons_succ]
  refine last_D (n := 2) rfl rfl (fun j hj => by simp; omega) (by kernel_rfl) ?_
  clear f_0 f_1 f_2 f_3 f_4 f_5 q_0 q_1 q_2 q_3 q_4 q_5
  go_wp2_with fail
  refine (CO.out _).mono ?_
  rintro e w2 ⟨v2, rfl, R2, X2⟩
  have E2 : Ext w1 w2 := ((Ext.refl w1).drew).trans X2
  have hle : w.heap.size ≤ w1.drew.heap.size := ((X1.drew)).size
  obtain ⟨gc, cc, ev, HRN⟩ := HST.out w2 w.heap.size v2 (R2.lower hle)
  subst ev
  have EW := X1.trans E2
  have HR0 := Lib.hid (HRN w2 (Ext.refl _))
  clear HRN R2 X2 hle
  go_wp2
  refine ⟨E2, ?_⟩
  go_wp2
  refine off_normal ?_
  have EW3 := EW.alloc (.cells #[.int .i64 V, .int .i64 W, .int .i64 C, .int .i64 P, .int .u64 S, .slice a n cap, .slice (some ⟨gc, 0, none⟩) m cc, .slice none 0 0, .slice none 0 0] 52)
  have hb : w.heap.size ≤ w2.heap.size := EW.size
  have HX3 := Lib.hid EW3
  clear E2 X1 EW EW3
  go_wp2
  go_loopw [4] (fun i wr => ∃ k : Nat, k ≤ m ∧ i = .int .i64 k ∧ Ext w wr ∧ ∃ hv, RN wr w.heap.size w2.heap.size ⟨V, W, C, P, S, a, n, cap, gc, cc, 0, 0, m, kf⟩ F hv k) (fun i _ => m - (intOf i).toNat)
  case atStart => exact ⟨0, Nat.zero_le _, rfl, HX3.out, _, HR0.out⟩
  case round =>
    obtain ⟨k, hk, rfl, hx, hv, hR⟩ := hrel
    have q6 := hR.q6
    by_cases hlt : k < m
    · have hkm : (k : Int) < (m : Int) := by omega
      have q7 := hR.q7
      have fc := hR.fc k hlt
      have HR := Lib.hid hR
      have HX := Lib.hid hx
      clear hx hR
      go_upto_region 5 with (fail)
      refine wp_region_D (fun i => decide (1 ≤ i) && decide (i ≤ 13)) (by kernel_rfl) ?_
      have F6 := fun w' (hx : Ext wr w') => hx.cell q6
      have F7 := fun w' (hx : Ext wr w') => hx.cell q7
      have FC := fun w' (hx : Ext wr w') => hx.cell fc
      refine pure_D (i := 0) (v := ?_) rfl rfl rfl (by kernel_rfl) (by kernel_rfl) (by kernel_rfl) rfl ?hy0 ?_
      case hy0 => intro wz; go_simp <;> with_reducible rfl
      simp only [List.setIfInBounds_toArray, List.set_cons_zero, List.set_cons_succ]
      refine take_D (i := 1) (v := ?_) rfl rfl rfl (by kernel_rfl) (by kernel_rfl) (by kernel_rfl) (by kernel_rfl) (by kernel_rfl) ((Ext.refl wr).drew) ?hy1 ?_
      case hy1 => intro wz hSw; (try dsimp only at hSw); go_simp <;> with_reducible rfl
      simp only [List.setIfInBounds_toArray, List.set_cons_zero, List.set_cons_succ]
      refine take_D (i := 2) (v := ?_) rfl rfl rfl (by kernel_rfl) (by kernel_rfl) (by kernel_rfl) (by kernel_rfl) (by kernel_rfl) ((Ext.refl wr).drew) ?hy2 ?_
      case hy2 => intro wz hSw; (try dsimp only at hSw); go_simp <;> with_reducible rfl
      simp only [List.setIfInBounds_toArray, List.set_cons_zero, List.set_cons_succ]
      refine take_D (i := 3) (v := ?_) rfl rfl rfl (by kernel_rfl) (by kernel_rfl) (by kernel_rfl) (by kernel_rfl) (by kernel_rfl) ((Ext.refl wr).drew) ?hy3 ?_
      case hy3 => intro wz hSw; (try dsimp only at hSw); go_simp <;> with_reducible rfl
      simp only [List.setIfInBounds_toArray, List.set_cons_zero, List.set_cons_succ]
      refine take_D (i := 4) (v := ?_) rfl rfl rfl (by kernel_rfl) (by kernel_rfl) (by kernel_rfl) (by kernel_rfl) (by kernel_rfl) ((Ext.refl wr).drew) ?hy4 ?_
      case hy4 => intro wz hSw; (try dsimp only at hSw); go_simp <;> with_reducible rfl
      simp only [List.setIfInBounds_toArray, List.set_cons_zero, List.set_cons_succ]
      refine take_D (i := 5) (v := ?_) rfl rfl rfl (by kernel_rfl) (by kernel_rfl) (by kernel_rfl) (by kernel_rfl) (by kernel_rfl) ((Ext.refl wr).drew) ?hy5 ?_
      case hy5 => intro wz hSw; (try dsimp only at hSw); go_simp <;> with_reducible rfl
      simp only [List.setIfInBounds_toArray, List.set_cons_zero, List.set_cons_succ]
      refine take_D (i := 6) (v := ?_) rfl rfl rfl (by kernel_rfl) (by kernel_rfl) (by kernel_rfl) (by kernel_rfl) (by kernel_rfl) ((Ext.refl wr).drew) ?hy6 ?_
      case hy6 => intro wz hSw; (try dsimp only at hSw); go_simp <;> with_reducible rfl
      simp only [List.setIfInBounds_toArray, List.set_cons_zero, List.set_cons_succ]
      refine take_D (i := 7) (v := ?_) rfl rfl rfl (by kernel_rfl) (by kernel_rfl) (by kernel_rfl) (by kernel_rfl) (by kernel_rfl) ((Ext.refl wr).drew) ?hy7 ?_
      case hy7 => intro wz hSw; (try dsimp only at hSw); go_simp <;> with_reducible rfl
      simp only [List.setIfInBounds_toArray, List.set_cons_zero, List.set_cons_succ]
      refine take_D (i := 8) (v := ?_) rfl rfl rfl (by kernel_rfl) (by kernel_rfl) (by kernel_rfl) (by kernel_rfl) (by kernel_rfl) ((Ext.refl wr).drew) ?hy8 ?_
      case hy8 => intro wz hSw; (try dsimp only at hSw); go_simp <;> with_reducible rfl
      simp only [List.setIfInBounds_toArray, List.set_cons_zero, List.set_cons_succ]
      refine take_D (i := 9) (v := ?_) rfl rfl rfl (by kernel_rfl) (by kernel_rfl) (by kernel_rfl) (by kernel_rfl) (by kernel_rfl) ((Ext.refl wr).drew) ?hy9 ?_
      case hy9 => intro wz hSw; (try dsimp only at hSw); go_simp <;> with_reducible rfl
      simp only [List.setIfInBounds_toArray, List.set_cons_zero, List.set_cons_succ]
      refine take_D (i := 10) (v := ?_) rfl rfl rfl (by kernel_rfl) (by kernel_rfl) (by kernel_rfl) (by kernel_rfl) (by kernel_rfl) ((Ext.refl wr).drew) ?hy10 ?_
      case hy10 => intro wz hSw; (try dsimp only at hSw); go_simp <;> with_reducible rfl
      simp only [List.setIfInBounds_toArray, List.set_cons_zero, List.set_cons_succ]
      refine take_D (i := 11) (v := ?_) rfl rfl rfl (by kernel_rfl) (by kernel_rfl) (by kernel_rfl) (by kernel_rfl) (by kernel_rfl) ((Ext.refl wr).drew) ?hy11 ?_
      case hy11 => intro wz hSw; (try dsimp only at hSw); go_simp <;> with_reducible rfl
      simp only [List.setIfInBounds_toArray, List.set_cons_zero, List.set_cons_succ]
      refine take_D (i := 12) (v := ?_) rfl rfl rfl (by kernel_rfl) (by kernel_rfl) (by kernel_rfl) (by kernel_rfl) (by kernel_rfl) ((Ext.refl wr).drew) ?hy12 ?_
      case hy12 => intro wz hSw; (try dsimp only at hSw); go_simp <;> with_reducible rfl
      simp only [List.setIfInBounds_toArray, List.set_cons_zero, List.set_cons_succ]
      refine last_D (n := 13) rfl rfl (fun j hj => by simp; omega) (by kernel_rfl) ?_
      clear F6 F7 FC q6 q7 fc
      go_wp2
      refine ⟨((Ext.refl wr).drew).alloc _, ?_⟩
      have HRA := Lib.hid (HR.out.ext (((Ext.refl wr).drew).alloc (.cells #[.int .u64 (F k)] 22)))
      have HXA := Lib.hid (HX.out.trans (((Ext.refl wr).drew).alloc (.cells #[.int .u64 (F k)] 22)))
      refine wpList_append_own_at _ rfl _ _ 49 rfl w.heap.size 22 i0 (.int .u64 0) 1 8 Tryz.underlying49 hi hz0 hz1 hz2 rfl (by decide) hv k (rowU F k) rfl HRA.out.row ⟨wr.heap.size, 0, none⟩ 1 1 [.int .u64 (F k)] rfl rfl ?c1 ?c2 ?c3 ?c4 ?c5 ?_
      case c1 =>
        intro j u hu
        match j, hu with
        | 0, hu => simp at hu; subst hu; simp [go_sem, Addr.add]
        | j + 1, hu => simp at hu
      case c2 => intro u hu; simp at hu; subst hu; rfl
      case c3 => unfold maxLen; omega
      case c4 => omega
      case c5 => exact HXA.out.size
      intro v' w5 h1 h2 _ h4
      have HRS := Lib.hid (HRA.out.step h1 h2 h4)
      obtain ⟨g7, gz7⟩ := HRA.out.grown h2
      have HXS := Lib.hid ((HXA.out.grown h2 (fun j hj => (HRA.out.row.lt j hj).1)).setCell (p := ⟨w2.heap.size, 7, none⟩) hb v')
      obtain ⟨a', n', c', ev'⟩ : ∃ a n c, v' = .slice a n c := by
        rcases h1.2 with ⟨e1, _⟩ | ⟨g', cap', cur, e1, _⟩
        · exact ⟨_, _, _, e1⟩
        · exact ⟨_, _, _, e1⟩
      subst ev'
      clear h1 h2 h4 HR HX HRA HXA
      generalize F k = o at *
      go_wp2
      refine off_normal ?_
      go_wp2
      exact ⟨⟨k + 1, by omega, by go_num, HXS.out, _, HRS.out⟩, by simp [intOf]; omega⟩
    · obtain rfl : k = m := by omega
      have HG2 := Lib.hid (HG.out _ gc cc hv wr hR hx hb)
      clear hx hR
      go_wp2
      exact HG2.out
end Go.Proofs.YtaimmpcijdpgdabGreatDoor
/- Each access finds what the last one of the same cell left. No program in sight. -/
namespace Go.Proofs.YtaimmpcijdpgdabGreatDoor
open Go.RowKit
set_option linter.unusedVariables false
set_option linter.unusedSimpArgs false
set_option maxHeartbeats 1000000
/-- what the last one of a cell left -/
def lastN (v0 : Int) (l : List Acc) (c : Int) : Int := l.foldl (fun h x => if x.c = c then x.n else h) v0
theorem lastN_snoc (v0 : Int) (l : List Acc) (x : Acc) (c : Int) : lastN v0 (l ++ [x]) c = if x.c = c then x.n else lastN v0 l c := by
  unfold lastN
  rw [List.foldl_append]
  rfl
/-- one access more, or none -/
theorem stp_form (y : LY) (W : Int) (hW : W = 32 ∨ W = 64) (d : DoR) (f : Nat → Int) (l : List Acc) (fr : ∀ i, i < y.m → 0 ≤ f i ∧ f i < 18446744073709551616) (z0 : 0 ≤ d.z) (z1 : d.z < 18446744073709551616) :
    ((stp y W d f l).f = f ∧ (stp y W d f l).l = l) ∨ ∃ (t k : Int) (c : Nat) (z : Int), c < y.m ∧ 0 ≤ z ∧ z < 18446744073709551616 ∧ (stp y W d f l).f = upd f c z ∧ (stp y W d f l).l = l ++ [⟨t, k, c, f c, z⟩] := by
  have cz : 0 ≤ cutS W d.z ∧ cutS W d.z < 18446744073709551616 := by unfold cutS; split <;> omega
  have pz : ∀ x n, 0 ≤ plusW W x n ∧ plusW W x n < 18446744073709551616 := fun x n => by
    unfold plusW
    split
    · omega
    · exact U64_range _
  have look : ∀ kind ak, kind ≠ 0 → ((lookS y W kind ak d f l).f = f ∧ (lookS y W kind ak d f l).l = l) ∨ ∃ (t k : Int) (c : Nat) (z : Int), c < y.m ∧ 0 ≤ z ∧ z < 18446744073709551616 ∧ (lookS y W kind ak d f l).f = upd f c z ∧ (lookS y W kind ak d f l).l = l ++ [⟨t, k, c, f c, z⟩] := by
    intro kind ak h0
    unfold lookS
    by_cases hk : kd y d.c = kind
    · rw [if_pos hk]
      obtain ⟨c0, c1⟩ := kd_in (y := y) (c := d.c) (by rw [hk]; exact h0)
      have hc : d.c.toNat < y.m := by omega
      have e : ((d.c.toNat : Nat) : Int) = d.c := by omega
      exact .inr ⟨d.t, ak, d.c.toNat, f d.c.toNat, hc, (fr _ hc).1, (fr _ hc).2, (upd_same f _).symm, by rw [e]⟩
    · rw [if_neg hk]; exact .inl ⟨rfl, rfl⟩
  have put : ∀ kind ak, kind ≠ 0 → ((putS y W kind ak d f l).f = f ∧ (putS y W kind ak d f l).l = l) ∨ ∃ (t k : Int) (c : Nat) (z : Int), c < y.m ∧ 0 ≤ z ∧ z < 18446744073709551616 ∧ (putS y W kind ak d f l).f = upd f c z ∧ (putS y W kind ak d f l).l = l ++ [⟨t, k, c, f c, z⟩] := by
    intro kind ak h0
    unfold putS
    by_cases hk : kd y d.c = kind
    · rw [if_pos hk]
      obtain ⟨c0, c1⟩ := kd_in (y := y) (c := d.c) (by rw [hk]; exact h0)
      have hc : d.c.toNat < y.m := by omega
      have e : ((d.c.toNat : Nat) : Int) = d.c := by omega
      exact .inr ⟨d.t, ak, d.c.toNat, cutS W d.z, hc, cz.1, cz.2, rfl, by rw [e]⟩
    · rw [if_neg hk]; exact .inl ⟨rfl, rfl⟩
  unfold stp
  by_cases k1 : d.k = 1
  · rw [if_pos k1]; exact look 1 1 (by decide)
  rw [if_neg k1]
  by_cases k2 : d.k = 2
  · rw [if_pos k2]; exact put 1 2 (by decide)
  rw [if_neg k2]
  by_cases k3 : d.k = 3
  · rw [if_pos k3]
    unfold addS
    by_cases hk : kd y d.c = 1
    · rw [if_pos hk]
      obtain ⟨c0, c1⟩ := kd_in (y := y) (c := d.c) (by rw [hk]; decide)
      have hc : d.c.toNat < y.m := by omega
      have e : ((d.c.toNat : Nat) : Int) = d.c := by omega
      exact .inr ⟨d.t, 3, d.c.toNat, _, hc, (pz _ _).1, (pz _ _).2, rfl, by rw [e]⟩
    · rw [if_neg hk]; exact .inl ⟨rfl, rfl⟩
  rw [if_neg k3]
  by_cases k4 : d.k = 4
  · rw [if_pos k4]
    unfold swapS
    by_cases hk : kd y d.c = 1
    · rw [if_pos hk]
      obtain ⟨c0, c1⟩ := kd_in (y := y) (c := d.c) (by rw [hk]; decide)
      have hc : d.c.toNat < y.m := by omega
      have e : ((d.c.toNat : Nat) : Int) = d.c := by omega
      by_cases ho : cutS W (f d.c.toNat) = cutS W d.o
      · rw [if_pos ho]
        exact .inr ⟨d.t, 4, d.c.toNat, cutS W d.z, hc, cz.1, cz.2, rfl, by rw [e]⟩
      · rw [if_neg ho]
        exact .inr ⟨d.t, 5, d.c.toNat, f d.c.toNat, hc, (fr _ hc).1, (fr _ hc).2, (upd_same f _).symm, by rw [e]⟩
    · rw [if_neg hk]; exact .inl ⟨rfl, rfl⟩
  rw [if_neg k4]
  by_cases k6 : d.k = 6
  · rw [if_pos k6]; exact look 2 6 (by decide)
  rw [if_neg k6]
  by_cases k7 : d.k = 7
  · rw [if_pos k7]; exact put 2 7 (by decide)
  rw [if_neg k7]
  by_cases k8 : d.k = 8
  · rw [if_pos k8]
    unfold getS
    by_cases hk : kd y (plc y.Sl y.C d.c) = 3
    · rw [if_pos hk]
      obtain ⟨c0, c1⟩ := kd_in (y := y) (c := plc y.Sl y.C d.c) (by rw [hk]; decide)
      have hc : (plc y.Sl y.C d.c).toNat < y.m := by omega
      have e : (((plc y.Sl y.C d.c).toNat : Nat) : Int) = plc y.Sl y.C d.c := by omega
      exact .inr ⟨d.t, 6, (plc y.Sl y.C d.c).toNat, _, hc, (fr _ hc).1, (fr _ hc).2, (upd_same f _).symm, by rw [e]⟩
    · rw [if_neg hk]; exact .inl ⟨rfl, rfl⟩
  rw [if_neg k8]
  by_cases k9 : d.k = 9
  · rw [if_pos k9]
    unfold setS
    by_cases hk : kd y (plc y.Sl y.C d.c) = 3
    · rw [if_pos hk]
      obtain ⟨c0, c1⟩ := kd_in (y := y) (c := plc y.Sl y.C d.c) (by rw [hk]; decide)
      have hc : (plc y.Sl y.C d.c).toNat < y.m := by omega
      have e : (((plc y.Sl y.C d.c).toNat : Nat) : Int) = plc y.Sl y.C d.c := by omega
      exact .inr ⟨d.t, 7, (plc y.Sl y.C d.c).toNat, _, hc, (U64_range _).1, (U64_range _).2, rfl, by rw [e]⟩
    · rw [if_neg hk]; exact .inl ⟨rfl, rfl⟩
  · rw [if_neg k9]; exact .inl ⟨rfl, rfl⟩
/-- how cells and accesses stand to each other -/
structure Chain (m : Nat) (F f : Nat → Int) (l : List Acc) : Prop where
  rng : ∀ i, i < m → 0 ≤ f i ∧ f i < 18446744073709551616
  cur : ∀ i, i < m → f i = lastN (F i) l i
  old : ∀ i, (hi : i < l.length) → ∃ c : Nat, c < m ∧ l[i].c = c ∧ l[i].o = lastN (F c) (l.take i) c
theorem Chain.step {m : Nat} {F f : Nat → Int} {l : List Acc} (h : Chain m F f l) {t k : Int} {c : Nat} {z : Int} (hc : c < m) (z0 : 0 ≤ z) (z1 : z < 18446744073709551616) : Chain m F (upd f c z) (l ++ [⟨t, k, c, f c, z⟩]) := by
  refine ⟨fun i hi => ?_, fun i hi => ?_, fun i hi => ?_⟩
  · unfold upd
    by_cases e : i = c
    · rw [if_pos e]; exact ⟨z0, z1⟩
    · rw [if_neg e]; exact h.rng i hi
  · rw [lastN_snoc]
    unfold upd
    by_cases e : i = c
    · rw [if_pos e, if_pos (by simp [e])]
    · rw [if_neg e, if_neg (by simp; omega)]
      exact h.cur i hi
  · rw [List.length_append] at hi
    simp at hi
    by_cases hil : i < l.length
    · obtain ⟨c', a, b, d⟩ := h.old i hil
      rw [List.getElem_append_left hil, List.take_append_of_le_length (by omega)]
      exact ⟨c', a, b, d⟩
    · have : i = l.length := by omega
      subst this
      refine ⟨c, hc, by simp, ?_⟩
      rw [List.getElem_append_right (Nat.le_refl _), List.take_append_of_le_length (Nat.le_refl _), List.take_length]
      simpa using h.cur c hc
theorem Chain.nil {m : Nat} {F : Nat → Int} (h : ∀ i, i < m → 0 ≤ F i ∧ F i < 18446744073709551616) : Chain m F F [] := ⟨h, fun _ _ => rfl, fun i hi => by simp at hi⟩
theorem stp_len (y : LY) (W : Int) (hW : W = 32 ∨ W = 64) (d : DoR) (f : Nat → Int) (l : List Acc) (fr : ∀ i, i < y.m → 0 ≤ f i ∧ f i < 18446744073709551616) (z0 : 0 ≤ d.z) (z1 : d.z < 18446744073709551616) : (stp y W d f l).l.length ≤ l.length + 1 := by
  rcases stp_form y W hW d f l fr z0 z1 with ⟨_, e⟩ | ⟨t, k, c, z, _, _, _, _, e⟩
  · rw [e]; omega
  · rw [e]; simp
theorem Chain.stp {y : LY} {F f : Nat → Int} {l : List Acc} (h : Chain y.m F f l) (W : Int) (hW : W = 32 ∨ W = 64) (d : DoR) (z0 : 0 ≤ d.z) (z1 : d.z < 18446744073709551616) : Chain y.m F (Go.Proofs.YtaimmpcijdpgdabGreatDoor.stp y W d f l).f (Go.Proofs.YtaimmpcijdpgdabGreatDoor.stp y W d f l).l := by
  rcases stp_form y W hW d f l h.rng z0 z1 with ⟨e1, e2⟩ | ⟨t, k, c, z, hc, a, b, e1, e2⟩
  · rw [e1, e2]; exact h
  · rw [e1, e2]; exact h.step hc a b
/-- what cells have at first fits -/
theorem fst_rng {W C S : Int} (hW : W = 32 ∨ W = 64) (hC : rightB C = true) (h0 : 0 ≤ S) (h1 : S < 18446744073709551616) (k i : Int) : 0 ≤ fst W C S k i ∧ fst W C S k i < 18446744073709551616 := by
  have hc : 0 ≤ cutS W S ∧ cutS W S < 18446744073709551616 := by unfold cutS; split <;> omega
  unfold fst
  split
  · exact hc
  · split
    · unfold aheadR
      rcases hW with rfl | rfl
      · rw [if_pos rfl]
        have := ahead_bound32 (cutS 32 S + (i - cutS 32 S) % C - C) hC
        omega
      · rw [if_neg (by decide)]
        exact ahead_bound64 _ hC
    · split
      · unfold firstR
        rcases hW with rfl | rfl
        · rw [if_pos rfl]; omega
        · rw [if_neg (by decide)]; exact first_bound64 _
      · omega
end Go.Proofs.YtaimmpcijdpgdabGreatDoor
/- The two boards beside each other; the document's Cost. -/
namespace Go.Proofs.YtaimmpcijdpgdabGreatDoor
open Go.RowKit
set_option linter.unusedVariables false
set_option linter.unusedSimpArgs false
set_option maxHeartbeats 2000000
attribute [local go_sem] later_cell later_frozen later_const
theorem rel_of {V W C P S : Int} {bo n m : Nat} {r : RY} (hok : NumOk V n C) (hm : (m : Int) = nCe V n C) (h1 : r.m = m) (h2 : r.W = W) (h3 : r.C = C) (h4 : ∀ c : Nat, c < m → r.kf c = pKind (useN V n C c).1.toNat) : Rel (yOf V W C P S bo n m) r W := by
  have hb := num_bounds hok
  have h6 := hok.c64
  have h5 := hok.c2
  have hn := hok.n0
  have hce : nCe V n C = nSl V n C + C := rfl
  have hns : (n : Int) ≤ nSl V n C := by
    have := hok.v1
    have := hok.v5
    unfold nSl
    split
    · omega
    · split <;> omega
  refine ⟨h1, h2, h3, fun c hc => by rw [yOf_kd hm]; exact h4 c hc, ?_, ?_, ?_, ?_, fun s s0 s1 => ?_⟩
  · show nSl V n C + C = m
    omega
  · show 0 ≤ nSl V n C
    omega
  · show 0 ≤ C
    omega
  · show m ≤ 1000
    omega
  · rw [yOf_kd hm]
    have s1' : s < C := s1
    show pKind (useN V n C (nSl V n C + s)).1.toNat = 3
    unfold useN useL
    rw [if_neg (by omega), if_neg (by omega), if_pos (by omega)]
    rfl
theorem nar64 (y : LY) (f : Nat → Int) : Nar y 64 f := fun c _ _ => rfl
theorem nar_upd {y : LY} {W : Int} {f : Nat → Int} (h : Nar y W f) (c : Nat) (z : Int) (hz : kd y c ≠ 3 → cutS W z = z) : Nar y W (upd f c z) := by
  intro i hi hk
  unfold upd
  by_cases e : i = c
  · subst e
    rw [if_pos rfl]
    exact hz hk
  · rw [if_neg e]
    exact h i hi hk
theorem cut_cut (W x : Int) : cutS W (cutS W x) = cutS W x := by
  unfold cutS
  split
  · omega
  · rfl
theorem cut_plus (W x n : Int) : cutS W (plusW W x n) = plusW W x n := by
  unfold cutS plusW
  split
  · omega
  · rfl
theorem Nar.stp {y : LY} {W : Int} {f : Nat → Int} (h : Nar y W f) (d : DoR) (l : List Acc) : Nar y W (Go.Proofs.YtaimmpcijdpgdabGreatDoor.stp y W d f l).f := by
  unfold Go.Proofs.YtaimmpcijdpgdabGreatDoor.stp
  by_cases k1 : d.k = 1
  · rw [if_pos k1]
    unfold lookS
    split
    · exact h
    · exact h
  rw [if_neg k1]
  by_cases k2 : d.k = 2
  · rw [if_pos k2]
    unfold putS
    split
    · exact nar_upd h _ _ (fun _ => cut_cut _ _)
    · exact h
  rw [if_neg k2]
  by_cases k3 : d.k = 3
  · rw [if_pos k3]
    unfold addS
    split
    · exact nar_upd h _ _ (fun _ => cut_plus _ _ _)
    · exact h
  rw [if_neg k3]
  by_cases k4 : d.k = 4
  · rw [if_pos k4]
    unfold swapS
    split
    · split
      · exact nar_upd h _ _ (fun _ => cut_cut _ _)
      · exact h
    · exact h
  rw [if_neg k4]
  by_cases k6 : d.k = 6
  · rw [if_pos k6]
    unfold lookS
    split
    · exact h
    · exact h
  rw [if_neg k6]
  by_cases k7 : d.k = 7
  · rw [if_pos k7]
    unfold putS
    split
    · exact nar_upd h _ _ (fun _ => cut_cut _ _)
    · exact h
  rw [if_neg k7]
  by_cases k8 : d.k = 8
  · rw [if_pos k8]
    unfold getS
    split
    · exact h
    · exact h
  rw [if_neg k8]
  by_cases k9 : d.k = 9
  · rw [if_pos k9]
    unfold setS
    split
    · rename_i hk
      refine nar_upd h _ _ (fun hn => absurd ?_ hn)
      have := kd_in (y := y) (c := plc y.Sl y.C d.c) (by rw [hk]; decide)
      rw [show (((plc y.Sl y.C d.c).toNat : Nat) : Int) = plc y.Sl y.C d.c by omega]
      exact hk
    · exact h
  rw [if_neg k9]
  exact h
theorem fst_rng32 {C S : Int} (hC : rightB C = true) (k i : Int) : 0 ≤ fst 32 C S k i ∧ fst 32 C S k i < 4294967296 := by
  unfold fst
  split
  · unfold cutS; rw [if_pos rfl]; omega
  · split
    · unfold aheadR
      rw [if_pos rfl]
      exact ahead_bound32 _ hC
    · split
      · unfold firstR
        rw [if_pos rfl]; omega
      · omega
theorem nar_first {V C S P : Int} {bo n m : Nat} (hC : rightB C = true) : Nar (yOf V 32 C P S bo n m) 32 (fsC V 32 C S n) := by
  intro c _ _
  have := fst_rng32 (S := S) hC (useN V n C c).1 (useN V n C c).2
  unfold cutS fsC
  rw [if_pos rfl]
  omega
/-- the program's board and the document's, beside each other -/
structure Two (w0 w : World) (bt b g : Nat) (y : LY) (f : Nat → Int) (lv : Value) (log : List Acc) (b' : Nat) (r : RY) (f' : Nat → Int) (lv' : Value) (log' : List Acc) : Prop where
  B : BD w bt b g y f lv log
  R : RB w b' r f' lv' log'
  ap : ∀ k, Own b g lv k → ¬ Own b' r.gh lv' k
  ex : Ext w0 w
  ob : ∀ k, Own b g lv k → w0.heap.size ≤ k
  od : ∀ k, Own b' r.gh lv' k → w0.heap.size ≤ k
theorem Two.gc {w0 w : World} {bt b g : Nat} {y : LY} {f : Nat → Int} {lv : Value} {log : List Acc} {b' : Nat} {r : RY} {f' : Nat → Int} {lv' : Value} {log' : List Acc} (h : Two w0 w bt b g y f lv log b' r f' lv' log') (hbt : bt ≠ 78) : ¬ Own b g lv r.gc := by
  rintro (e | e | e)
  · exact tag_ne h.R.tc h.B.tb (Ne.symm hbt) e
  · exact tag_ne h.R.tc h.B.tg (by decide) e
  · exact tag_ne h.R.tc (row_tagA h.B.row e) (by decide) rfl
theorem Two.stepB {w0 w w5 : World} {bt b g : Nat} {y : LY} {f f2 : Nat → Int} {lv lv5 : Value} {log log2 : List Acc} {b' : Nat} {r : RY} {f' : Nat → Int} {lv' : Value} {log' : List Acc} (h : Two w0 w bt b g y f lv log b' r f' lv' log') (hbt : bt ≠ 78)
    (B5 : BD w5 bt b g y f2 lv5 log2) (hb : But (Own b g lv) w w5) (hat : lv5.ownBlock = lv.ownBlock ∨ ∃ j, lv5.ownBlock = some j ∧ w.heap.size ≤ j) : Two w0 w5 bt b g y f2 lv5 log2 b' r f' lv' log' := by
  refine ⟨B5, h.R.but hb (fun k hk hk2 => h.ap k hk2 hk) (h.gc hbt), fun k hk hk2 => ?_, But.ext h.ex hb h.ob, fun k hk => ?_, h.od⟩
  · rcases hk with e | e | e
    · exact h.ap k (.inl e) hk2
    · exact h.ap k (.inr (.inl e)) hk2
    · rcases hat with e' | ⟨j, e', hj⟩
      · exact h.ap k (.inr (.inr (by rw [← e']; exact e))) hk2
      · rw [e'] at e
        cases e
        have := h.R.lt hk2
        omega
  · rcases hk with e | e | e
    · exact h.ob k (.inl e)
    · exact h.ob k (.inr (.inl e))
    · rcases hat with e' | ⟨j, e', hj⟩
      · exact h.ob k (.inr (.inr (by rw [← e']; exact e)))
      · rw [e'] at e
        cases e
        exact Nat.le_trans h.ex.size hj
theorem Two.stepR {w0 w w5 : World} {bt b g : Nat} {y : LY} {f : Nat → Int} {lv : Value} {log : List Acc} {b' : Nat} {r : RY} {f' f2 : Nat → Int} {lv' lv5 : Value} {log' log2 : List Acc} (h : Two w0 w bt b g y f lv log b' r f' lv' log')
    (R5 : RB w5 b' r f2 lv5 log2) (hb : But (Own b' r.gh lv') w w5) (hat : lv5.ownBlock = lv'.ownBlock ∨ ∃ j, lv5.ownBlock = some j ∧ w.heap.size ≤ j) : Two w0 w5 bt b g y f lv log b' r f2 lv5 log2 := by
  refine ⟨h.B.but hb (fun k hk => h.ap k hk), R5, fun k hk2 hk => ?_, But.ext h.ex hb h.od, h.ob, fun k hk => ?_⟩
  · rcases hk with e | e | e
    · exact h.ap k hk2 (.inl e)
    · exact h.ap k hk2 (.inr (.inl e))
    · rcases hat with e' | ⟨j, e', hj⟩
      · exact h.ap k hk2 (.inr (.inr (by rw [← e']; exact e)))
      · rw [e'] at e
        cases e
        have := h.B.lt hk2
        omega
  · rcases hk with e | e | e
    · exact h.od k (.inl e)
    · exact h.od k (.inr (.inl e))
    · rcases hat with e' | ⟨j, e', hj⟩
      · exact h.od k (.inr (.inr (by rw [← e']; exact e)))
      · rw [e'] at e
        cases e
        exact Nat.le_trans h.ex.size hj
theorem Two.ext {w0 w w5 : World} {bt b g : Nat} {y : LY} {f : Nat → Int} {lv : Value} {log : List Acc} {b' : Nat} {r : RY} {f' : Nat → Int} {lv' : Value} {log' : List Acc} (h : Two w0 w bt b g y f lv log b' r f' lv' log') (hx : Ext w w5) : Two w0 w5 bt b g y f lv log b' r f' lv' log' :=
  ⟨h.B.ext hx, h.R.ext hx, h.ap, h.ex.trans hx, h.ob, h.od⟩
/-- the first behind its New, the second behind its New -/
theorem two_new {w0 w3 w4 : World} {bt b g : Nat} {y : LY} {f : Nat → Int} {b' : Nat} {r : RY} (hB : BD w3 bt b g y f (.slice none 0 0) []) (X0 : Ext w0 w3) (hb : w0.heap.size ≤ b) (hg : w0.heap.size ≤ g) (hR : RB w4 b' r f (.slice none 0 0) []) (X3 : Ext w3 w4) (hb' : w3.heap.size ≤ b') (hg' : w3.heap.size ≤ r.gh) : Two w0 w4 bt b g y f (.slice none 0 0) [] b' r f (.slice none 0 0) [] := by
  refine ⟨hB.ext X3, hR, fun k hk hk2 => ?_, X0.trans X3, ownGe hb hg, fun k hk => Nat.le_trans X0.size (ownGe hb' hg' k hk)⟩
  have h1 := hB.lt hk
  have h2 := ownGe hb' hg' k hk2
  omega
set_option maxRecDepth 100000 in
theorem rCost (base : Nat) (v : Value) (log : List Acc) (t : Int) (w : World) (h : w.ownsRow base 91 5 v log.length (rowA log)) (hl : log.length ≤ 1000) :
    Calls Tryz.prog 26 #[v, .int .i64 t] w fun e w' => e = .returned (.tuple #[.int .i64 (nL t log), .int .i64 (nC t log)]) ∧ w = w' := by
  obtain ⟨a, cap, e, -⟩ := rowA_form h
  subst e
  have HROW := Lib.hid h
  clear h
  have h1 := nL_le t log
  have h2 := nC_le t log
  have HT : Hid (log.take log.length = log) := Lib.hid (List.take_length)
  obtain ⟨N, hN⟩ : ∃ N, N = log.length := ⟨_, rfl⟩
  have HN := Lib.hid hN
  rw [← hN] at hl h1 h2 ⊢
  clear hN
  go_enter Tryz.func26, Tryz.ntmps26
  go_wp2
  go_loopw [6, 7, 8] (fun u v i wr => ∃ k : Nat, k ≤ N ∧ i = .int .i64 k ∧ u = .int .i64 (nL t (log.take k)) ∧ v = .int .i64 (nC t (log.take k)) ∧ wr = w) (fun _ _ i _ => N - (intOf i).toNat)
  case atStart => exact ⟨0, Nat.zero_le _, rfl, by simp [nL], by simp [nC], rfl⟩
  case round =>
    obtain ⟨k, hk, rfl, rfl, rfl, rfl⟩ := hrel
    by_cases hlt : k < N
    · have hkN : (k : Int) < (N : Int) := by omega
      have hkl : k < log.length := by have := HN.out; omega
      have HROW2 := HROW
      obtain ⟨gl, ea, r0, r1, -, -, -⟩ := rowA_cell HROW2.out hkl
      subst ea
      have hsL := nL_snoc t (log.take k) log[k]
      have hsC := nC_snoc t (log.take k) log[k]
      rw [← take_snoc hkl] at hsL hsC
      have bL := nL_le t (log.take k)
      have bC := nC_le t (log.take k)
      have bk : (log.take k).length ≤ k := by rw [List.length_take]; omega
      generalize nL t (log.take k) = x at *
      generalize nC t (log.take k) = z at *
      generalize log[k] = q at *
      clear hkl HROW2
      by_cases ht : q.t = t
      · by_cases hq : isLk q.k = true
        · have HL1 : Hid (nL t (log.take (k + 1)) = x + 1) := Lib.hid (by rw [hsL]; simp [ht, hq])
          have HC1 : Hid (nC t (log.take (k + 1)) = z) := Lib.hid (by rw [hsC]; simp [ht, hq])
          have dt : (q.t == t) = true := by simpa using ht
          have dk : ((q.k == 1) = true) ∨ ((q.k == 1) = false ∧ (q.k == 5) = true) ∨ ((q.k == 1) = false ∧ (q.k == 5) = false ∧ (q.k == 6) = true) := by
            unfold isLk at hq
            rw [Bool.or_eq_true, Bool.or_eq_true] at hq
            cases h1 : (q.k == 1) with
            | true => exact .inl rfl
            | false =>
              cases h5 : (q.k == 5) with
              | true => exact .inr (.inl ⟨rfl, rfl⟩)
              | false =>
                rw [h1, h5] at hq
                rcases hq with (hq | hq) | hq
                · cases hq
                · cases hq
                · exact .inr (.inr ⟨rfl, rfl, hq⟩)
          clear hsL hsC hq ht
          rcases dk with d1 | ⟨d1, d5⟩ | ⟨d1, d5, d6⟩
          · go_wp2
            exact ⟨⟨k + 1, by omega, by go_num, by rw [HL1.out]; go_num, by rw [HC1.out], by first | trivial | rfl⟩, by simp [intOf]; omega⟩
          · go_wp2
            exact ⟨⟨k + 1, by omega, by go_num, by rw [HL1.out]; go_num, by rw [HC1.out], by first | trivial | rfl⟩, by simp [intOf]; omega⟩
          · go_wp2
            exact ⟨⟨k + 1, by omega, by go_num, by rw [HL1.out]; go_num, by rw [HC1.out], by first | trivial | rfl⟩, by simp [intOf]; omega⟩
        · have HL1 : Hid (nL t (log.take (k + 1)) = x) := Lib.hid (by rw [hsL]; simp [hq])
          have HC1 : Hid (nC t (log.take (k + 1)) = z + 1) := Lib.hid (by rw [hsC]; simp [ht, hq])
          have dk : (q.k == 1) = false ∧ (q.k == 5) = false ∧ (q.k == 6) = false := by
            unfold isLk at hq
            cases h1 : (q.k == 1) <;> cases h5 : (q.k == 5) <;> cases h6 : (q.k == 6) <;> simp [h1, h5, h6] at hq ⊢
          obtain ⟨d1, d5, d6⟩ := dk
          have dt : (q.t == t) = true := by simpa using ht
          clear hsL hsC hq ht
          go_wp2
          exact ⟨⟨k + 1, by omega, by go_num, by rw [HL1.out], by rw [HC1.out]; go_num, by first | trivial | rfl⟩, by simp [intOf]; omega⟩
      · have HL1 : Hid (nL t (log.take (k + 1)) = x) := Lib.hid (by rw [hsL]; simp [ht])
        have HC1 : Hid (nC t (log.take (k + 1)) = z) := Lib.hid (by rw [hsC]; simp [ht])
        have dt : (q.t == t) = false := by simpa using ht
        clear hsL hsC ht
        go_wp2
        exact ⟨⟨k + 1, by omega, by go_num, by rw [HL1.out], by rw [HC1.out], by first | trivial | rfl⟩, by simp [intOf]; omega⟩
    · obtain rfl : k = N := by omega
      rw [show log.take k = log by rw [HN.out]; exact HT.out]
      go_wp2
      refine bodyPost_ret (v := .tuple #[.int .i64 (nL t log), .int .i64 (nC t log)]) (by simp [results, Tryz.results26, go_sem]) rfl ⟨rfl, by first | trivial | rfl | simp⟩
end Go.Proofs.YtaimmpcijdpgdabGreatDoor
