import Derived.Test.YtlnffbocclpnnaaGreatDoorRJB
import Derived.Test.YtlnffbocclpnnaaGreatDoorRCf6
/- A board of 32 digits with a lock; the law's live. -/
namespace Go.Proofs.YtlnffbocclpnnaaGreatDoorR
open Go.RowKit
set_option linter.unusedVariables false
set_option linter.unusedSimpArgs false
set_option maxHeartbeats 4000000
attribute [local go_sem] later_cell later_frozen later_const
/-- its letters -/
structure LkY (y : LY) : Prop where
  K : BK y [[]]
  v : y.V = 5
  w : y.W = 32
/-- so many tickets were taken, so many have left, so many accesses there were -/
def Lk (w : World) (b g : Nat) (y : LY) (lv : Value) (T S L : Nat) : Prop := ∃ f log, BW w 93 b g y f lv log [[]] ∧ f y.n = T ∧ f (y.n + 1) = S ∧ log.length = L
theorem Lk.ext {w w' : World} {b g : Nat} {y : LY} {lv : Value} {T S L : Nat} (h : Lk w b g y lv T S L) (hx : Ext w w') : Lk w' b g y lv T S L := by
  obtain ⟨f, log, h1, h2⟩ := h
  exact ⟨f, log, h1.ext hx, h2⟩
theorem Lk.but {S' : Nat → Prop} {w w' : World} {b g : Nat} {y : LY} {lv : Value} {T S L : Nat} (h : Lk w b g y lv T S L) (hb : But S' w w') (hs : ∀ k, Own b g lv k → ¬ S' k) (ho : ∀ k, S' k → k < w.heap.size → Odd w k) : Lk w' b g y lv T S L := by
  obtain ⟨f, log, h1, h2⟩ := h
  exact ⟨f, log, h1.but hb hs ho, h2⟩
/-- a block of a frame's type is no part of a board -/
theorem Lk.aside {w : World} {b g : Nat} {y : LY} {lv : Value} {T S L k t : Nat} (h : Lk w b g y lv T S L) (hk : Tag w k t) (h1 : t ≠ 93) (h2 : t ≠ 22) (h3 : t ≠ 139) : Aside w b g lv k := by
  obtain ⟨f, log, hB, -⟩ := h
  refine ⟨?_, ?_⟩
  · rintro (e | e | e)
    · subst e; exact tag_ne hk hB.B.tb h1 rfl
    · subst e; exact tag_ne hk hB.B.tg h2 rfl
    · exact tag_ne hk (row_tagA hB.B.row e) h3 rfl
  · obtain ⟨cur, h4⟩ := hk
    exact (Array.getElem?_eq_some_iff.1 h4).1
def LkDoes (b g fb o : Nat) (y : LY) (lv : Value) (r : Bool) (T S L : Nat) (Pc Ow : Int) (w : World) (e : Ending) (w' : World) : Prop :=
  e = .returned (.bool r) ∧ ∃ lv', Lk w' b g y lv' T S L ∧ FT32 w' fb o Pc Ow ∧ Aside w' b g lv' fb ∧ Keep32 w w' fb o ∧ But (fun k => Own b g lv k ∨ k = fb) w w' ∧ (lv'.ownBlock = lv.ownBlock ∨ ∃ j, lv'.ownBlock = some j ∧ w.heap.size ≤ j)
theorem lk_of {b g fb o : Nat} {y : LY} {lv : Value} {f' : Nat → Int} {log' : List Acc} {r : Bool} {Pc Ow : Int} {w w' : World} {e : Ending} {T S L : Nat} (h : EnterDoes32 b g fb o y [[]] lv f' log' r Pc Ow w e w') (h1 : f' y.n = T) (h2 : f' (y.n + 1) = S) (h3 : log'.length = L) : LkDoes b g fb o y lv r T S L Pc Ow w e w' := by
  obtain ⟨he, lv', hB, hF, hX, hK, hN, hA⟩ := h
  exact ⟨he, lv', ⟨f', log', hB, h1, h2, h3⟩, hF, hX, hK, hN, hA⟩
theorem upd_at (f : Nat → Int) (c : Nat) (z : Int) : upd f c z c = z := if_pos rfl
theorem upd_off (f : Nat → Int) {c i : Nat} (z : Int) (h : i ≠ c) : upd f c z i = f i := if_neg h
theorem lk_take (b g fb o : Nat) (y : LY) (lv : Value) (t Ow : Int) (T S L : Nat) (w : World) (Y : LkY y) (h : Lk w b g y lv T S L) (E : Parts w) (F : FT32 w fb o 0 Ow) (X : Aside w b g lv fb) (hT : T ≤ 100000) (hl : L ≤ 1000) :
    Calls Tryz.prog 62 #[.pointer (some ⟨b, 0, none⟩), .int .i64 t, .pointer (some ⟨fb, o, none⟩)] w (LkDoes b g fb o y lv false (T + 1) S (L + 1) 1 T w) := by
  obtain ⟨f, log, hB, hfT, hfS, hL⟩ := h
  refine (Enter32_take b g fb o y f lv log [[]] t Ow w Y.K hB E F X Y.v (by omega) (by omega) (by omega)).mono ?_
  intro e w' h
  rw [hfT, show ((T : Int) % 4294967296) = T by omega, show (((T : Int) + 1) % 4294967296) = ((T + 1 : Nat) : Int) by omega] at h
  exact lk_of h (upd_at _ _ _) (by rw [upd_off _ _ (by omega)]; exact hfS) (by simp [hL])
theorem lk_wait (b g fb o : Nat) (y : LY) (lv : Value) (t Pc : Int) (T S L Ow : Nat) (w : World) (Y : LkY y) (h : Lk w b g y lv T S L) (E : Parts w) (F : FT32 w fb o Pc Ow) (X : Aside w b g lv fb) (hP : ¬ Pc = 0) (hS : S ≤ 100000) (hne : S ≠ Ow) (hl : L ≤ 1000) :
    Calls Tryz.prog 62 #[.pointer (some ⟨b, 0, none⟩), .int .i64 t, .pointer (some ⟨fb, o, none⟩)] w (LkDoes b g fb o y lv false T S (L + 1) Pc Ow w) := by
  obtain ⟨f, log, hB, hfT, hfS, hL⟩ := h
  refine (Enter32_wait b g fb o y f lv log [[]] t Pc Ow w Y.K hB E F X Y.v hP (by rw [hfS]; omega) (by omega) (by omega) (by omega)).mono ?_
  intro e w' h
  exact lk_of h hfT hfS (by simp [hL])
theorem lk_in (b g fb o : Nat) (y : LY) (lv : Value) (t Pc : Int) (T S L : Nat) (w : World) (Y : LkY y) (h : Lk w b g y lv T S L) (E : Parts w) (F : FT32 w fb o Pc S) (X : Aside w b g lv fb) (hP : ¬ Pc = 0) (hS : S ≤ 100000) (hl : L ≤ 1000) :
    Calls Tryz.prog 62 #[.pointer (some ⟨b, 0, none⟩), .int .i64 t, .pointer (some ⟨fb, o, none⟩)] w (LkDoes b g fb o y lv true T S (L + 1) 2 S w) := by
  obtain ⟨f, log, hB, hfT, hfS, hL⟩ := h
  refine (Enter32_in b g fb o y f lv log [[]] t Pc S w Y.K hB E F X Y.v hP (by rw [hfS]; omega) (by omega) (by omega) (by omega)).mono ?_
  intro e w' h
  exact lk_of h hfT hfS (by simp [hL])
def LkLeft (b g : Nat) (y : LY) (lv : Value) (T S L : Nat) (w : World) (e : Ending) (w' : World) : Prop :=
  e = .returned (.tuple #[]) ∧ ∃ lv', Lk w' b g y lv' T S L ∧ But (Own b g lv) w w' ∧ (lv'.ownBlock = lv.ownBlock ∨ ∃ j, lv'.ownBlock = some j ∧ w.heap.size ≤ j)
theorem lk_leave (b g : Nat) (y : LY) (lv : Value) (t : Int) (T S L : Nat) (w : World) (Y : LkY y) (h : Lk w b g y lv T S L) (E : Parts w) (hS : S ≤ 100000) (hl : L ≤ 1000) :
    Calls Tryz.prog 64 #[.pointer (some ⟨b, 0, none⟩), .int .i64 t] w (LkLeft b g y lv T (S + 1) (L + 1) w) := by
  obtain ⟨f, log, hB, hfT, hfS, hL⟩ := h
  refine (Leave32_yes b g y f lv log [[]] t w Y.K hB E Y.v (by omega) (by omega) (by omega)).mono ?_
  rintro e w' ⟨he, lv', h1, h2, h3⟩
  refine ⟨he, lv', ⟨_, _, h1, by rw [upd_off _ _ (by omega)]; exact hfT, ?_, by simp [hL]⟩, h2, h3⟩
  rw [upd_at, hfS]
  omega
theorem lk_waiting (b g : Nat) (y : LY) (lv : Value) (T S L : Nat) (w : World) (Y : LkY y) (h : Lk w b g y lv T S L) (E : Parts w) (hT : T ≤ 100000) (hS : S ≤ 100000) :
    Calls Tryz.prog 63 #[.pointer (some ⟨b, 0, none⟩)] w fun e w' => e = .returned (.int .i64 ((T : Int) - S)) ∧ Ext w w' := by
  obtain ⟨f, log, hB, hfT, hfS, hL⟩ := h
  have h := Waiting32_yes b g y f lv log [[]] w Y.K hB E Y.v Y.w
  rw [hfT, hfS, show D32 ((T : Int) - S) = (T : Int) - S by unfold D32; omega] at h
  exact h
/-- a board with a lock that is made -/
def LockDoes (w : World) (e : Ending) (w' : World) : Prop := ∃ b g y, e = .returned (.pointer (some ⟨b, 0, none⟩)) ∧ LkY y ∧ Lk w' b g y (.slice none 0 0) 0 0 0 ∧ Ext w w' ∧ w.heap.size ≤ b ∧ w.heap.size ≤ g
theorem ckL : ckC 5 32 4 1 [[]] = 0 := by decide +kernel
set_option maxRecDepth 100000 in
theorem locked (w : World) : Calls Tryz.prog 61 #[] w (LockDoes w) := by
  have CO := Lib.hid (fun u w' h => of_board 5 32 4 1 4294967294 u [[]] w' h (by simp) (by simp) ckL)
  have CN := Lib.hid (fun (y : LY) w' (K : BK y [[]]) hw hL h0 h1 => new_board32 y [[]] w' K hw hL h0 h1)
  have HG : Hid (∀ (y0 : LY) e w1 w2, y0.V = 5 → y0.W = 32 → Ext w w1 → NewBoard 93 y0 [[]] w1 e w2 → LockDoes w e w2) := Lib.hid (fun y0 e w1 w2 hV hW hx h => by
    obtain ⟨b, g, y, he, K, o, B, X, hb, hg⟩ := h
    have e1 : y.V = 5 := o.v.trans hV
    have e2 : y.W = 32 := o.w.trans hW
    have hsz := hx.size
    have hn : y.n = 1 := by rw [K.n]; rfl
    refine ⟨b, g, y, he, ⟨K, e1, e2⟩, ⟨_, [], B, ?_, ?_, rfl⟩, hx.trans X, by omega, by omega⟩
    · have h4 : useN 5 y.n y.C y.n = (4, 0) := by
        have hC := K.num.c2
        have h6 : nSl 5 y.n y.C = y.n + 3 + y.C := rfl
        have h5 : nCe 5 y.n y.C = y.n + 3 + y.C + y.C := rfl
        unfold useN useL
        rw [if_neg (by omega), if_neg (by omega), if_neg (by omega), if_neg (by show ¬ (y.n : Int) = -1; omega), if_neg (by show ¬ (y.n : Int) = -1; omega), if_pos (show (y.n : Int) = nTi 5 y.n from rfl)]
      unfold fsC
      rw [e1, h4]
      rfl
    · have h4 : useN 5 y.n y.C ((y.n + 1 : Nat) : Int) = (5, 0) := by
        have hC := K.num.c2
        have h6 : nSl 5 y.n y.C = y.n + 3 + y.C := rfl
        have h5 : nCe 5 y.n y.C = y.n + 3 + y.C + y.C := rfl
        unfold useN useL
        rw [if_neg (by omega), if_neg (by omega), if_neg (by omega), if_neg (by show ¬ ((y.n + 1 : Nat) : Int) = -1; omega), if_neg (by show ¬ ((y.n + 1 : Nat) : Int) = -1; omega), if_neg (by show ¬ ((y.n + 1 : Nat) : Int) = (y.n : Int); omega), if_pos (show ((y.n + 1 : Nat) : Int) = nSe 5 y.n by show ((y.n + 1 : Nat) : Int) = (y.n : Int) + 1; omega)]
      unfold fsC
      rw [e1, h4]
      rfl)
  generalize LockDoes w = G at *
  go_enter Tryz.func61, Tryz.ntmps61
  go_wp2_with fail
  refine (plain10 _).mono ?_
  rintro e w1 ⟨b1, rfl, L1, X1⟩
  have HL1 := Lib.hid L1
  have HX1 := Lib.hid X1
  clear L1 X1
  go_upto_region 3 with (fail)
  refine settle_wp ?_
  intro w2 hb2
  have X12 : Ext w1 w2 := Ext.trans ((Ext.refl w1).alloc _) hb2
  have c0 : w2.cell? ⟨w1.heap.size, 0, none⟩ = some (.int .i64 5) := hb2.cell (by simp [go_sem])
  have c1 : w2.cell? ⟨w1.heap.size, 1, none⟩ = some (.int .i64 32) := hb2.cell (by simp [go_sem])
  have c2 : w2.cell? ⟨w1.heap.size, 2, none⟩ = some (.int .i64 4) := hb2.cell (by simp [go_sem])
  have c3 : w2.cell? ⟨w1.heap.size, 3, none⟩ = some (.int .i64 1) := hb2.cell (by simp [go_sem])
  have c4 : w2.cell? ⟨w1.heap.size, 4, none⟩ = some (.int .u64 4294967294) := hb2.cell (by simp [go_sem])
  have c5 : w2.cell? ⟨w1.heap.size, 5, none⟩ = some (.slice (some ⟨b1, 0, none⟩) 1 1) := hb2.cell (by simp [go_sem])
  have HL2 := Lib.hid (HL1.out.ext X12)
  have HX2 := Lib.hid (HX1.out.trans X12)
  clear hb2 X12 HL1 HX1
  go_wp2_with fail
  refine (CO.out _ _ HL2.out).mono ?_
  rintro e w3 ⟨y, K, o, rfl, O, X3⟩
  have HX3 := Lib.hid (HX2.out.trans (X3.alloc (.cells #[.int .i64 y.V, .int .i64 y.W, .int .i64 y.C, .int .i64 y.P, .int .u64 y.S, .slice y.a y.n y.cap, .int .i64 y.Cu, .int .i64 y.Cl, .int .i64 y.Ti, .int .i64 y.Se, .int .i64 y.Ne, .int .i64 y.Ma, .int .i64 y.Sl, .int .i64 y.m] 31)))
  have HO3 := Lib.hid (O.ext ((Ext.refl w3).alloc (.cells #[.int .i64 y.V, .int .i64 y.W, .int .i64 y.C, .int .i64 y.P, .int .u64 y.S, .slice y.a y.n y.cap, .int .i64 y.Cu, .int .i64 y.Cl, .int .i64 y.Ti, .int .i64 y.Se, .int .i64 y.Ne, .int .i64 y.Ma, .int .i64 y.Sl, .int .i64 y.m] 31)))
  have HK := Lib.hid K
  have Ho := Lib.hid o
  clear O X3 K o c0 c1 c2 c3 c4 c5
  go_wp2_with fail
  refine (CN.out y _ HK.out Ho.out.w HO3.out (by rw [Ho.out.s]; omega) (by rw [Ho.out.s]; omega)).mono ?_
  intro e w4 h4
  have HD := Lib.hid (HG.out y e _ w4 Ho.out.v Ho.out.w HX3.out h4)
  obtain ⟨b, g, y', rfl, -⟩ := h4
  go_wp2
  exact HD.out
/-- a frame in a block of its own -/
structure Fr (w : World) (b g : Nat) (lv : Value) (fb : Nat) (Pc Ow : Int) : Prop where
  F : FT32 w fb 0 Pc Ow
  X : Aside w b g lv fb
theorem Fr.ext {w w' : World} {b g : Nat} {lv : Value} {fb : Nat} {Pc Ow : Int} (h : Fr w b g lv fb Pc Ow) (hx : Ext w w') : Fr w' b g lv fb Pc Ow := ⟨h.F.ext hx, h.X.ext hx⟩
theorem Fr.other {w w' : World} {b g : Nat} {lv lv' : Value} {fb fa : Nat} {Pc Ow : Int} (h : Fr w b g lv fb Pc Ow) (hN : But (fun k => Own b g lv k ∨ k = fa) w w') (hA : lv'.ownBlock = lv.ownBlock ∨ ∃ j, lv'.ownBlock = some j ∧ w.heap.size ≤ j) (hne : fb ≠ fa) : Fr w' b g lv' fb Pc Ow :=
  ⟨h.F.but hN (fun e => e.elim h.X.out hne), h.X.step hN hA⟩
theorem Fr.left {w w' : World} {b g : Nat} {lv lv' : Value} {fb : Nat} {Pc Ow : Int} (h : Fr w b g lv fb Pc Ow) (hN : But (Own b g lv) w w') (hA : lv'.ownBlock = lv.ownBlock ∨ ∃ j, lv'.ownBlock = some j ∧ w.heap.size ≤ j) : Fr w' b g lv' fb Pc Ow :=
  ⟨h.F.but hN h.X.out, h.X.step hN hA⟩
theorem fr_new {w w' : World} {b g : Nat} {y : LY} {lv : Value} {T S L fb : Nat} (h : Lk w' b g y lv T S L) (hc : w'.heap[fb]? = some (.cells #[.int .i64 0, .int .i64 0, .int .i64 0, .int .i64 0, .int .i64 0, .int .i64 0, .int .u32 0, .int .u32 0, .int .u32 0, .int .u32 0, .slice none 0 0] 58 (0, 0))) : Fr w' b g lv fb 0 0 :=
  have hl := (Array.getElem?_eq_some_iff.1 hc).1
  ⟨⟨by simp [World.cell?, hc], by simp [World.frozen?, hc], by simp [World.cell?, hc], by simp [World.frozen?, hc], ⟨_, ⟨_, hc⟩, by decide, by decide⟩⟩, h.aside ⟨_, hc⟩ (by decide) (by decide) (by decide)⟩
/-- the board's own blocks lie beyond -/
theorem own_new {b g n : Nat} {lv lv' : Value} {w : World} (h : ∀ k, Own b g lv k → n ≤ k) (hn : n ≤ w.heap.size) (hA : lv'.ownBlock = lv.ownBlock ∨ ∃ j, lv'.ownBlock = some j ∧ w.heap.size ≤ j) : ∀ k, Own b g lv' k → n ≤ k := by
  rintro k (e | e | e)
  · exact h k (.inl e)
  · exact h k (.inr (.inl e))
  · rcases hA with e' | ⟨j, e', hj⟩
    · exact h k (.inr (.inr (by rw [← e']; exact e)))
    · rw [e'] at e
      have := Option.some.inj e
      omega
set_option maxRecDepth 100000 in
theorem live18 (w : World) (E : Parts w) : Calls Tryz.prog 26 #[] w fun e w' => e = .returned (.bool true) ∧ Ext w w' := by
  have HE := Lib.hid (fun w' (hx : Ext w w') => E.ext hx)
  clear E
  go_enter Tryz.func26, Tryz.ntmps26
  go_wp2_with fail
  refine (locked _).mono ?_
  rintro e w1 ⟨b, g, y, rfl, Y, L1, X1, hb1, hg1⟩
  have HY := Lib.hid Y
  have HL1 := Lib.hid L1
  have HX1 := Lib.hid X1
  have HO1 : Hid (∀ k, Own b g (.slice none 0 0) k → w.heap.size ≤ k) := Lib.hid (fun k hk => by
    rcases hk with e | e | e
    · omega
    · omega
    · cases e)
  clear Y L1 X1 hb1 hg1
  go_upto_region 3 with (fail)
  refine settle_wp ?_
  intro w2 hb2
  have X12 : Ext w1 w2 := Ext.trans (((Ext.refl w1).alloc _).alloc _) hb2
  have hl1 : w1.heap.size < (w1.alloc (.cells #[.int .i64 0, .int .i64 0, .int .i64 0, .int .i64 0, .int .i64 0, .int .i64 0, .int .u32 0, .int .u32 0, .int .u32 0, .int .u32 0, .slice none 0 0] 58)).heap.size := by simp
  have L2 := HL1.out.ext X12
  have ha : w2.heap[w1.heap.size]? = some (.cells #[.int .i64 0, .int .i64 0, .int .i64 0, .int .i64 0, .int .i64 0, .int .i64 0, .int .u32 0, .int .u32 0, .int .u32 0, .int .u32 0, .slice none 0 0] 58 (0, 0)) :=
    (hb2.block _ (by simp; omega)).trans ((((Ext.refl _).alloc _).block _ hl1).trans (World.alloc_heap_new w1 _))
  have hc : w2.heap[w1.heap.size + 1]? = some (.cells #[.int .i64 0, .int .i64 0, .int .i64 0, .int .i64 0, .int .i64 0, .int .i64 0, .int .u32 0, .int .u32 0, .int .u32 0, .int .u32 0, .slice none 0 0] 58 (0, 0)) := by
    refine (hb2.block _ (by simp)).trans ?_
    have h3 := World.alloc_heap_new (w1.alloc (.cells #[.int .i64 0, .int .i64 0, .int .i64 0, .int .i64 0, .int .i64 0, .int .i64 0, .int .u32 0, .int .u32 0, .int .u32 0, .int .u32 0, .slice none 0 0] 58)) (.cells #[.int .i64 0, .int .i64 0, .int .i64 0, .int .i64 0, .int .i64 0, .int .i64 0, .int .u32 0, .int .u32 0, .int .u32 0, .int .u32 0, .slice none 0 0] 58)
    rw [show (w1.alloc (.cells #[.int .i64 0, .int .i64 0, .int .i64 0, .int .i64 0, .int .i64 0, .int .i64 0, .int .u32 0, .int .u32 0, .int .u32 0, .int .u32 0, .slice none 0 0] 58)).heap.size = w1.heap.size + 1 by simp] at h3
    exact h3
  have HFa := Lib.hid (fr_new (w := w) L2 ha)
  have HFc := Lib.hid (fr_new (w := w) L2 hc)
  have HL2 := Lib.hid L2
  have HX2 := Lib.hid (HX1.out.trans X12)
  have hne : w1.heap.size + 1 ≠ w1.heap.size := by omega
  have hne' : w1.heap.size ≠ w1.heap.size + 1 := by omega
  have ho1 : w.heap.size ≤ w1.heap.size := HX1.out.size
  generalize w1.heap.size = fa at *
  clear hb2 X12 L2 ha hc hl1 HL1
  have HO := HO1
  go_wp2_with fail
  refine (lk_take b g fa 0 y _ _ _ 0 0 0 _ HY.out HL2.out (HE.out _ HX2.out) HFa.out.F HFa.out.X (by omega) (by omega)).mono ?_
  rintro e w3 ⟨rfl, lv3, L3, F3, A3, -, N3, O3⟩
  have HFa3 : Hid (Fr w3 b g lv3 fa 1 ((0 : Nat) : Int)) := Lib.hid ⟨F3, A3⟩
  have HFc3 := Lib.hid (HFc.out.other N3 O3 hne)
  have HL3 := Lib.hid L3
  have HX3 := Lib.hid (But.ext HX2.out N3 (fun k hk => hk.elim (HO.out k) (fun e => by omega)))
  replace HO := Lib.hid (own_new HO.out HX2.out.size O3)
  clear L3 F3 A3 N3 O3 HFa HFc HL2
  go_wp2_with fail
  refine (lk_take b g (fa + 1) 0 y _ _ _ (0 + 1) 0 (0 + 1) _ HY.out HL3.out (HE.out _ HX3.out) HFc3.out.F HFc3.out.X (by omega) (by omega)).mono ?_
  rintro e w4 ⟨rfl, lv4, L4, F4, A4, -, N4, O4⟩
  have HFc4 : Hid (Fr w4 b g lv4 (fa + 1) 1 ((0 + 1 : Nat) : Int)) := Lib.hid ⟨F4, A4⟩
  have HFa4 := Lib.hid (HFa3.out.other N4 O4 hne')
  have HL4 := Lib.hid L4
  have HX4 := Lib.hid (But.ext HX3.out N4 (fun k hk => hk.elim (HO.out k) (fun e => by omega)))
  replace HO := Lib.hid (own_new HO.out HX3.out.size O4)
  clear L4 F4 A4 N4 O4 HFa3 HFc3 HL3
  go_wp2_with fail
  refine (lk_wait b g (fa + 1) 0 y _ _ 1 _ _ _ _ _ HY.out HL4.out (HE.out _ HX4.out) HFc4.out.F HFc4.out.X (by decide) (by omega) (by omega) (by omega)).mono ?_
  rintro e w5 ⟨rfl, lv5, L5, F5, A5, -, N5, O5⟩
  have HFc5 : Hid (Fr w5 b g lv5 (fa + 1) 1 ((0 + 1 : Nat) : Int)) := Lib.hid ⟨F5, A5⟩
  have HFa5 := Lib.hid (HFa4.out.other N5 O5 hne')
  have HL5 := Lib.hid L5
  have HX5 := Lib.hid (But.ext HX4.out N5 (fun k hk => hk.elim (HO.out k) (fun e => by omega)))
  replace HO := Lib.hid (own_new HO.out HX4.out.size O5)
  clear L5 F5 A5 N5 O5 HFa4 HFc4 HL4
  go_wp2_with fail
  refine (lk_in b g fa 0 y _ _ 1 _ 0 _ _ HY.out HL5.out (HE.out _ HX5.out) HFa5.out.F HFa5.out.X (by decide) (by omega) (by omega)).mono ?_
  rintro e w6 ⟨rfl, lv6, L6, F6, A6, -, N6, O6⟩
  have HFc6 := Lib.hid (HFc5.out.other N6 O6 hne)
  have HL6 := Lib.hid L6
  have HX6 := Lib.hid (But.ext HX5.out N6 (fun k hk => hk.elim (HO.out k) (fun e => by omega)))
  replace HO := Lib.hid (own_new HO.out HX5.out.size O6)
  clear L6 F6 A6 N6 O6 HFa5 HFc5 HL5
  go_wp2_with fail
  refine (lk_waiting b g y _ (0 + 1 + 1) 0 _ _ HY.out HL6.out (HE.out _ HX6.out) (by omega) (by omega)).mono ?_
  rintro e w7 ⟨rfl, X7⟩
  have HFc7 := Lib.hid (HFc6.out.ext X7)
  have HL7 := Lib.hid (HL6.out.ext X7)
  have HX7 := Lib.hid (HX6.out.trans X7)
  clear X7 HFc6 HL6
  go_wp2_with fail
  refine (lk_leave b g y _ _ _ 0 _ _ HY.out HL7.out (HE.out _ HX7.out) (by omega) (by omega)).mono ?_
  rintro e w8 ⟨rfl, lv8, L8, N8, O8⟩
  have HFc8 := Lib.hid (HFc7.out.left N8 O8)
  have HL8 := Lib.hid L8
  have HX8 := Lib.hid (But.ext HX7.out N8 HO.out)
  replace HO := Lib.hid (own_new HO.out HX7.out.size O8)
  clear L8 N8 O8 HFc7 HL7
  go_wp2_with fail
  refine (lk_in b g (fa + 1) 0 y _ _ 1 _ (0 + 1) _ _ HY.out HL8.out (HE.out _ HX8.out) HFc8.out.F HFc8.out.X (by decide) (by omega) (by omega)).mono ?_
  rintro e w9 ⟨rfl, lv9, L9, F9, A9, -, N9, O9⟩
  have HL9 := Lib.hid L9
  have HX9 := Lib.hid (But.ext HX8.out N9 (fun k hk => hk.elim (HO.out k) (fun e => by omega)))
  clear L9 F9 A9 N9 O9 HFc8 HL8
  go_wp2_with fail
  refine (lk_waiting b g y _ (0 + 1 + 1) (0 + 1) _ _ HY.out HL9.out (HE.out _ HX9.out) (by omega) (by omega)).mono ?_
  rintro e w10 ⟨rfl, X10⟩
  have HX10 := Lib.hid (HX9.out.trans X10)
  clear X10
  go_wp2
  go_ret
  exact ⟨rfl, HX10.out⟩
end Go.Proofs.YtlnffbocclpnnaaGreatDoorR
