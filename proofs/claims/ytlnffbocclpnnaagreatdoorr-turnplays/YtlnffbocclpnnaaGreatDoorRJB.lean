import Derived.Test.YtlnffbocclpnnaaGreatDoorRJA
import Derived.Test.YtlnffbocclpnnaaGreatDoorRGrow
import Derived.Test.YtlnffbocclpnnaaGreatDoorRBd3
/- A lock on a board: Enter, Leave, Waiting. -/
namespace Go.Proofs.YtlnffbocclpnnaaGreatDoorR
open Go.RowKit
set_option linter.unusedVariables false
set_option linter.unusedSimpArgs false
set_option maxHeartbeats 4000000
attribute [local go_sem] later_cell later_frozen later_const
/-- nothing is told; there may be more memory -/
def VoidX (w : World) (e : Ending) (w' : World) : Prop := e = .returned (.tuple #[]) ∧ Ext w w'
/-- a block that is no part of a board -/
structure Aside (w : World) (b g : Nat) (lv : Value) (k : Nat) : Prop where
  out : ¬ Own b g lv k
  lt : k < w.heap.size
theorem Aside.ext {w w' : World} {b g : Nat} {lv : Value} {k : Nat} (h : Aside w b g lv k) (hx : Ext w w') : Aside w' b g lv k := ⟨h.out, Nat.lt_of_lt_of_le h.lt hx.size⟩
/-- behind an access -/
theorem Aside.step {S : Nat → Prop} {w w' : World} {b g : Nat} {lv lv' : Value} {k : Nat} (h : Aside w b g lv k) (hN : But S w w') (hA : lv'.ownBlock = lv.ownBlock ∨ ∃ j, lv'.ownBlock = some j ∧ w.heap.size ≤ j) : Aside w' b g lv' k := by
  have hl := h.lt
  refine ⟨?_, Nat.lt_of_lt_of_le hl hN.size⟩
  rintro (e | e | e)
  · exact h.out (.inl e)
  · exact h.out (.inr (.inl e))
  · rcases hA with e' | ⟨j, e', hj⟩
    · exact h.out (.inr (.inr (by rw [← e']; exact e)))
    · rw [e'] at e
      have := Option.some.inj e
      omega
/-- a block of a type that a graph is not of -/
def Odd (w : World) (k : Nat) : Prop := ∃ t, Tag w k t ∧ t ≠ 35 ∧ t ≠ 3
theorem Odd.but {S : Nat → Prop} {w w' : World} {k : Nat} (h : Odd w k) (hb : But S w w') (hs : ¬ S k) : Odd w' k := by
  obtain ⟨t, h1, h2⟩ := h
  exact ⟨t, h1.but hb hs, h2⟩
theorem Odd.set {w : World} {k b o : Nat} {v : Value} (h : Odd w k) : Odd (w.setCell ⟨b, o, none⟩ v) k := by
  obtain ⟨t, h1, h2⟩ := h
  exact ⟨t, h1.set, h2⟩
theorem BW.step {w w' : World} {bt b g : Nat} {y : LY} {f f' : Nat → Int} {lv lv' : Value} {log log' : List Acc} {ups : List (List Int)} (h : BW w bt b g y f lv log ups) (hB : BD w' bt b g y f' lv' log') (hN : But (Own b g lv) w w') (h1 : bt ≠ 35) (h2 : bt ≠ 3) : BW w' bt b g y f' lv' log' ups :=
  ⟨hB, h.O.but hN (h.B.own h1 h2)⟩
theorem nTi5 (n : Int) : nTi 5 n = n := rfl
theorem nSe5 (n : Int) : nSe 5 n = n + 1 := rfl
theorem BK.lock {y : LY} {ups : List (List Int)} (K : BK y ups) (h : y.V = 5) : y.Ti = y.n ∧ y.Se = y.n + 1 ∧ kd y (y.n : Int) = 1 ∧ kd y ((y.n + 1 : Nat) : Int) = 1 ∧ y.n + 1 < y.m := by
  obtain ⟨-, -, h3, h4, -⟩ := K.fields
  have hm := K.m
  have hn := K.num
  have h2 := hn.c2
  rw [h] at h3 h4 hm
  have h5 : nCe 5 y.n y.C = y.n + 3 + y.C + y.C := rfl
  refine ⟨h3, h4, ?_, ?_, by omega⟩
  · rw [K.kd_at, h]
    have : useN 5 y.n y.C y.n = (4, 0) := by
      have h6 : nSl 5 y.n y.C = y.n + 3 + y.C := rfl
      unfold useN useL
      rw [if_neg (by omega), if_neg (by omega), if_neg (by omega), if_neg (by show ¬ (y.n : Int) = -1; omega), if_neg (by show ¬ (y.n : Int) = -1; omega), if_pos (show (y.n : Int) = nTi 5 y.n from rfl)]
    rw [this]; rfl
  · rw [K.kd_at, h]
    have : useN 5 y.n y.C ((y.n + 1 : Nat) : Int) = (5, 0) := by
      have h6 : nSl 5 y.n y.C = y.n + 3 + y.C := rfl
      unfold useN useL
      rw [if_neg (by omega), if_neg (by omega), if_neg (by omega), if_neg (by show ¬ ((y.n + 1 : Nat) : Int) = -1; omega), if_neg (by show ¬ ((y.n + 1 : Nat) : Int) = -1; omega), if_neg (by show ¬ ((y.n + 1 : Nat) : Int) = (y.n : Int); omega), if_pos (show ((y.n + 1 : Nat) : Int) = nSe 5 y.n by show ((y.n + 1 : Nat) : Int) = (y.n : Int) + 1; omega)]
    rw [this]; rfl
theorem tnHas (V W C P S : Int) (a : Option Addr) (n cap : Nat) (Cu Cl Ti Se Ne Ma Sl Ce : Int) (w : World) : Calls Tryz.prog 111 #[(.agg #[.int .i64 V, .int .i64 W, .int .i64 C, .int .i64 P, .int .u64 S, .slice a n cap, .int .i64 Cu, .int .i64 Cl, .int .i64 Ti, .int .i64 Se, .int .i64 Ne, .int .i64 Ma, .int .i64 Sl, .int .i64 Ce])] w fun e w' => e = .returned (.bool (V == 5)) ∧ Ext w w' := by
  go_enter Tryz.func111, Tryz.ntmps111
  go_wp2
  go_ret
  refine ⟨rfl, ?_⟩
  repeat (first | with_reducible exact Ext.refl _ | with_reducible assumption | with_reducible refine Ext.alloc ?_ _ | with_reducible refine Ext.drew ?_ | with_reducible refine Ext.drewN ?_ _ | with_reducible refine Ext.setCell ?_ (by simp <;> omega) _ | with_reducible refine Ext.trans ?_ (by assumption))
theorem Layout32_void (w : World) : Calls Tryz.prog 55 #[.pointer none] w fun e w' => e = .returned (.agg #[.int .i64 0, .int .i64 0, .int .i64 0, .int .i64 0, .int .u64 0, .slice none 0 0, .int .i64 0, .int .i64 0, .int .i64 0, .int .i64 0, .int .i64 0, .int .i64 0, .int .i64 0, .int .i64 0]) ∧ Ext w w' := by
  go_enter Tryz.func55, Tryz.ntmps55
  go_wp2
  refine bodyPost_ret (v := (.agg #[.int .i64 0, .int .i64 0, .int .i64 0, .int .i64 0, .int .u64 0, .slice none 0 0, .int .i64 0, .int .i64 0, .int .i64 0, .int .i64 0, .int .i64 0, .int .i64 0, .int .i64 0, .int .i64 0])) (by simp [results, Tryz.results55, go_sem]) rfl ⟨rfl, ?_⟩
  repeat (first | with_reducible exact Ext.refl _ | with_reducible assumption | with_reducible refine Ext.alloc ?_ _ | with_reducible refine Ext.drew ?_ | with_reducible refine Ext.drewN ?_ _ | with_reducible refine Ext.setCell ?_ (by simp <;> omega) _ | with_reducible refine Ext.trans ?_ (by assumption))
/-- a thread's frame: where an Enter has come to, the ticket -/
structure FT32 (w : World) (fb o : Nat) (Pc Ow : Int) : Prop where
  c3 : w.cell? ⟨fb, o + 3, none⟩ = some (.int .i64 Pc)
  z3 : w.frozen? ⟨fb, o + 3, none⟩ = false
  c9 : w.cell? ⟨fb, o + 9, none⟩ = some (.int .u32 Ow)
  z9 : w.frozen? ⟨fb, o + 9, none⟩ = false
  od : Odd w fb
theorem FT32.but {S : Nat → Prop} {w w' : World} {fb o : Nat} {Pc Ow : Int} (h : FT32 w fb o Pc Ow) (hb : But S w w') (hs : ¬ S fb) : FT32 w' fb o Pc Ow := ⟨hb.cell h.c3 hs, hb.frozen h.c3 h.z3 hs, hb.cell h.c9 hs, hb.frozen h.c9 h.z9 hs, h.od.but hb hs⟩
theorem FT32.ext {w w' : World} {fb o : Nat} {Pc Ow : Int} (h : FT32 w fb o Pc Ow) (hx : Ext w w') : FT32 w' fb o Pc Ow := h.but (hx.but (fun _ => False)) id
theorem FT32.set3 {w : World} {fb o : Nat} {Pc Ow : Int} (h : FT32 w fb o Pc Ow) (Pc' : Int) : FT32 (w.setCell ⟨fb, o + 3, none⟩ (.int .i64 Pc')) fb o Pc' Ow :=
  ⟨World.cell?_setCell_same _ _ _ h.c3, by rw [World.frozen?_setCell]; exact h.z3, by rw [World.cell?_setCell_other _ _ _ _ (fun e => by have := congrArg Addr.off e; simp at this)]; exact h.c9, by rw [World.frozen?_setCell]; exact h.z9, h.od.set⟩
theorem FT32.set9 {w : World} {fb o : Nat} {Pc Ow : Int} (h : FT32 w fb o Pc Ow) (Ow' : Int) : FT32 (w.setCell ⟨fb, o + 9, none⟩ (.int .u32 Ow')) fb o Pc Ow' :=
  ⟨by rw [World.cell?_setCell_other _ _ _ _ (fun e => by have := congrArg Addr.off e; simp at this)]; exact h.c3, by rw [World.frozen?_setCell]; exact h.z3, World.cell?_setCell_same _ _ _ h.c9, by rw [World.frozen?_setCell]; exact h.z9, h.od.set⟩
/-- the frame's other cells stay -/
structure Keep32 (w w' : World) (fb o : Nat) : Prop where
  c : ∀ j v, j ≠ o + 3 → j ≠ o + 9 → w.cell? ⟨fb, j, none⟩ = some v → w'.cell? ⟨fb, j, none⟩ = some v
  z : ∀ j v, w.cell? ⟨fb, j, none⟩ = some v → w.frozen? ⟨fb, j, none⟩ = false → w'.frozen? ⟨fb, j, none⟩ = false
theorem Keep32.set {w w' : World} {fb o : Nat} (h : Keep32 w w' fb o) (k : Nat) (hk : k = o + 3 ∨ k = o + 9) (u : Value) : Keep32 w (w'.setCell ⟨fb, k, none⟩ u) fb o :=
  ⟨fun j v h3 h9 hc => by
    rw [World.cell?_setCell_other _ _ _ _ (fun e => by have := congrArg Addr.off e; simp at this; omega)]
    exact h.c j v h3 h9 hc, fun j v hc hz => by rw [World.frozen?_setCell]; exact h.z j v hc hz⟩
theorem Keep32.of {S : Nat → Prop} {w w' : World} {fb o : Nat} (hb : But S w w') (hs : ¬ S fb) : Keep32 w w' fb o := ⟨fun j v _ _ hc => hb.cell hc hs, fun j v hc hz => hb.frozen hc hz hs⟩
theorem Keep32.refl (w : World) (fb o : Nat) : Keep32 w w fb o := ⟨fun _ _ _ _ h => h, fun _ _ _ h => h⟩
/-- a step of Enter: the answer, the board, the frame -/
def EnterDoes32 (b g fb o : Nat) (y : LY) (ups : List (List Int)) (lv : Value) (f' : Nat → Int) (log' : List Acc) (r : Bool) (Pc' Ow' : Int) (w : World) (e : Ending) (w' : World) : Prop :=
  e = .returned (.bool r) ∧ ∃ lv', BW w' 93 b g y f' lv' log' ups ∧ FT32 w' fb o Pc' Ow' ∧ Aside w' b g lv' fb ∧ Keep32 w w' fb o ∧ But (fun k => Own b g lv k ∨ k = fb) w w' ∧ (lv'.ownBlock = lv.ownBlock ∨ ∃ j, lv'.ownBlock = some j ∧ w.heap.size ≤ j)
theorem enter_fin32 {b g fb o : Nat} {y : LY} {ups : List (List Int)} {f f' : Nat → Int} {lv lv1 : Value} {log log' : List Acc} {r : Bool} {Pc Ow Pc' Ow' : Int} {w w1 w2 : World} (B : BW w 93 b g y f lv log ups) (X : Aside w b g lv fb) (F : FT32 w fb o Pc Ow) (B1 : BD w1 93 b g y f' lv1 log') (N : But (Own b g lv) w w1) (A : lv1.ownBlock = lv.ownBlock ∨ ∃ j, lv1.ownBlock = some j ∧ w.heap.size ≤ j)
    (F2 : FT32 w2 fb o Pc' Ow') (C : But (· = fb) w1 w2) (Kp : Keep32 w1 w2 fb o) : EnterDoes32 b g fb o y ups lv f' log' r Pc' Ow' w (.returned (.bool r)) w2 := by
  have BW1 := B.step B1 N (by decide) (by decide)
  have X1 := X.step N A
  have F1 := F.but N X.out
  have hs : ∀ k, Own b g lv1 k → ¬ k = fb := fun k hk e => X1.out (by rw [← e]; exact hk)
  exact ⟨rfl, lv1, BW1.but C hs (fun k hk _ => by rw [hk]; exact F1.od), F2, ⟨X1.out, Nat.lt_of_lt_of_le X1.lt C.size⟩, ⟨fun j v h3 h9 hc => Kp.c j v h3 h9 (N.cell hc X.out), fun j v hc hz => Kp.z j v (N.cell hc X.out) (N.frozen hc hz X.out)⟩, (N.mono fun _ _ h => .inl h).trans (C.mono fun _ _ h => .inr h), A⟩
set_option maxRecDepth 100000 in
/-- the first step takes a ticket -/
theorem Enter32_take (b g fb o : Nat) (y : LY) (f : Nat → Int) (lv : Value) (log : List Acc) (ups : List (List Int)) (t Ow : Int) (w : World) (K : BK y ups) (B : BW w 93 b g y f lv log ups) (E : Parts w) (F : FT32 w fb o 0 Ow) (X : Aside w b g lv fb) (hV : y.V = 5) (f0 : 0 ≤ f y.n) (f1 : f y.n < 18446744073709551616) (hl : log.length ≤ 1000) :
    Calls Tryz.prog 62 #[.pointer (some ⟨b, 0, none⟩), .int .i64 t, .pointer (some ⟨fb, o, none⟩)] w (EnterDoes32 b g fb o y ups lv (upd f y.n (((((f y.n) % 4294967296) + 1) % 4294967296))) (log ++ [⟨t, 3, y.n, f y.n, (((((f y.n) % 4294967296) + 1) % 4294967296))⟩]) false 1 (((f y.n) % 4294967296)) w) := by
  have CL := Lib.hid (BWLayout32 b g y f lv log ups w K B)
  obtain ⟨kTi, kSe, kk1, kk2, klt⟩ := K.lock hV
  have HF := Lib.hid F
  have HX := Lib.hid X
  have HB := Lib.hid B.B
  have HE := Lib.hid E
  have hfld : ∀ (u : Value) (x1 x2 x3 x4 x5 x6 x7 x8 : Int) (w : World), (Instr.field 31 (.agg #[.int .i64 (y.V), .int .i64 (y.W), .int .i64 (y.C), .int .i64 (y.P), .int .u64 (y.S), u, .int .i64 x1, .int .i64 x2, .int .i64 x3, .int .i64 x4, .int .i64 x5, .int .i64 x6, .int .i64 x7, .int .i64 x8]) 0).run Tryz.prog w = .ok (.agg #[.int .i64 (y.V), .int .i64 (y.W), .int .i64 (y.C), .int .i64 (y.P), .int .u64 (y.S), u]) w := fun u x1 x2 x3 x4 x5 x6 x7 x8 w => by kernel_rfl
  have hV5 : (y.V == 5) = true := by simp [hV]
  have CA := Lib.hid (fun w1 (h : BD w1 93 b g y f lv log) (E1 : Parts w1) => Add32_yes b g y f lv log t 1 y.n w1 h K.yok E1 kk1 f0 f1 hl)
  have HFIN := Lib.hid (fun lv1 w1 w2 (h1 : BD w1 93 b g y (upd f y.n (((((f y.n) % 4294967296) + 1) % 4294967296))) lv1 (log ++ [⟨t, 3, y.n, f y.n, (((((f y.n) % 4294967296) + 1) % 4294967296))⟩])) (hN : But (Own b g lv) w w1) (hA : lv1.ownBlock = lv.ownBlock ∨ ∃ j, lv1.ownBlock = some j ∧ w.heap.size ≤ j) (F2 : FT32 w2 fb o 1 (((f y.n) % 4294967296))) (hC : But (· = fb) w1 w2) (Kp : Keep32 w1 w2 fb o) => enter_fin32 (r := false) B X F h1 hN hA F2 hC Kp)
  generalize hG : EnterDoes32 b g fb o y ups lv (upd f y.n (((((f y.n) % 4294967296) + 1) % 4294967296))) (log ++ [⟨t, 3, y.n, f y.n, (((((f y.n) % 4294967296) + 1) % 4294967296))⟩]) false 1 (((f y.n) % 4294967296)) w = G at *
  generalize hz : (((f y.n) % 4294967296)) = z at *
  clear hG hz B F X E K kk1 kk2 klt f0 f1 hV
  go_enter Tryz.func62, Tryz.ntmps62
  go_wp2_with fail
  refine CL.out.mono ?_
  rintro e wo ⟨u, rfl, L1, Xo⟩
  obtain ⟨ua, uc, rfl, -⟩ := L1
  rw [kTi, kSe]
  have Ho := Lib.hid Xo
  clear Xo CL kTi kSe
  go_upto_region 2 with (fail)
  refine settle_wp ?_
  intro w1 hb1
  have ql_0 : w1.cell? ⟨wo.heap.size, 0, none⟩ = some (.int .i64 (y.V)) := (hb1.cells.1 _ _ (by simp <;> omega)).trans (by simp [go_sem])
  have ql_1 : w1.cell? ⟨wo.heap.size, 1, none⟩ = some (.int .i64 (y.W)) := (hb1.cells.1 _ _ (by simp <;> omega)).trans (by simp [go_sem])
  have ql_2 : w1.cell? ⟨wo.heap.size, 2, none⟩ = some (.int .i64 (y.C)) := (hb1.cells.1 _ _ (by simp <;> omega)).trans (by simp [go_sem])
  have ql_3 : w1.cell? ⟨wo.heap.size, 3, none⟩ = some (.int .i64 (y.P)) := (hb1.cells.1 _ _ (by simp <;> omega)).trans (by simp [go_sem])
  have ql_4 : w1.cell? ⟨wo.heap.size, 4, none⟩ = some (.int .u64 (y.S)) := (hb1.cells.1 _ _ (by simp <;> omega)).trans (by simp [go_sem])
  have ql_5 : w1.cell? ⟨wo.heap.size, 5, none⟩ = some (.slice ua ups.length uc) := (hb1.cells.1 _ _ (by simp <;> omega)).trans (by simp [go_sem])
  have ql_6 : w1.cell? ⟨wo.heap.size, 6, none⟩ = some (.int .i64 (y.Cu)) := (hb1.cells.1 _ _ (by simp <;> omega)).trans (by simp [go_sem])
  have ql_7 : w1.cell? ⟨wo.heap.size, 7, none⟩ = some (.int .i64 (y.Cl)) := (hb1.cells.1 _ _ (by simp <;> omega)).trans (by simp [go_sem])
  have ql_8 : w1.cell? ⟨wo.heap.size, 8, none⟩ = some (.int .i64 (y.n)) := (hb1.cells.1 _ _ (by simp <;> omega)).trans (by simp [go_sem])
  have ql_9 : w1.cell? ⟨wo.heap.size, 9, none⟩ = some (.int .i64 (y.n + 1)) := (hb1.cells.1 _ _ (by simp <;> omega)).trans (by simp [go_sem])
  have ql_10 : w1.cell? ⟨wo.heap.size, 10, none⟩ = some (.int .i64 (y.Ne)) := (hb1.cells.1 _ _ (by simp <;> omega)).trans (by simp [go_sem])
  have ql_11 : w1.cell? ⟨wo.heap.size, 11, none⟩ = some (.int .i64 (y.Ma)) := (hb1.cells.1 _ _ (by simp <;> omega)).trans (by simp [go_sem])
  have ql_12 : w1.cell? ⟨wo.heap.size, 12, none⟩ = some (.int .i64 (y.Sl)) := (hb1.cells.1 _ _ (by simp <;> omega)).trans (by simp [go_sem])
  have ql_13 : w1.cell? ⟨wo.heap.size, 13, none⟩ = some (.int .i64 (y.m)) := (hb1.cells.1 _ _ (by simp <;> omega)).trans (by simp [go_sem])
  have pl := World.block_lt_of_cell? _ ⟨wo.heap.size, 0, none⟩ ql_0
  have rl := Nat.lt_succ_of_lt pl
  go_wp2_with fail
  refine (tnHas _ _ _ _ _ _ _ _ _ _ _ _ _ _ _ _ _).mono ?_
  rintro e w2 ⟨rfl, hb2⟩
  have hx2 : Ext w1 w2 := by repeat (first | with_reducible exact Ext.refl _ | with_reducible assumption | with_reducible refine Ext.alloc ?_ _ | with_reducible refine Ext.drew ?_ | with_reducible refine Ext.drewN ?_ _ | with_reducible refine Ext.setCell ?_ (by simp <;> omega) _ | with_reducible refine Ext.trans ?_ (by assumption))
  replace ql_0 := hx2.cell ql_0
  replace ql_1 := hx2.cell ql_1
  replace ql_2 := hx2.cell ql_2
  replace ql_3 := hx2.cell ql_3
  replace ql_4 := hx2.cell ql_4
  replace ql_5 := hx2.cell ql_5
  replace ql_6 := hx2.cell ql_6
  replace ql_7 := hx2.cell ql_7
  replace ql_8 := hx2.cell ql_8
  replace ql_9 := hx2.cell ql_9
  replace ql_10 := hx2.cell ql_10
  replace ql_11 := hx2.cell ql_11
  replace ql_12 := hx2.cell ql_12
  replace ql_13 := hx2.cell ql_13
  replace pl := Nat.lt_of_lt_of_le pl hx2.size
  replace rl := Nat.lt_succ_of_lt pl
  clear hx2
  have XE : Ext w w2 := Ho.out.trans (Ext.trans ((Ext.refl wo).alloc _) (hb1.trans hb2))
  have F2 := HF.out.ext XE
  have HF2 := Lib.hid F2
  have HX2 := Lib.hid (HX.out.ext XE)
  have HB2 := Lib.hid (HB.out.ext XE)
  have HE2 := Lib.hid (HE.out.ext XE)
  have HXE := Lib.hid XE
  have nl : ¬ Own b g lv wo.heap.size := fun h => by
    have h1 := HB.out.lt h
    have h2 := Ho.out.size
    omega
  have q3 := F2.c3
  have q9 := F2.c9
  clear XE F2 hb1 hb2
  go_wp2_with fail
  refine (CA.out _ HB2.out HE2.out).mono ?_
  rintro e w3 ⟨rfl, lv3, B3, N3, A3⟩
  have F3 := HF2.out.but N3 HX2.out.out
  have r3 := F3.c3
  have y3 := F3.z3
  have r9 := F3.c9
  have y9 := F3.z9
  have HF3 := Lib.hid F3
  have HN3 := Lib.hid ((HXE.out.but (Own b g lv)).trans N3)
  have HB3 := Lib.hid B3
  have HA3 : Hid (lv3.ownBlock = lv.ownBlock ∨ ∃ j, lv3.ownBlock = some j ∧ w.heap.size ≤ j) := Lib.hid (A3.imp id (fun ⟨j, e, hj⟩ => ⟨j, e, Nat.le_trans HXE.out.size hj⟩))
  clear F3 N3 B3 A3 q3 q9 ql_0 ql_1 ql_2 ql_3 ql_4 ql_5 ql_6 ql_7 ql_8 ql_9 ql_10 ql_11 ql_12 ql_13 hfld hV5
  have hne : (⟨fb, o + 3, none⟩ : Addr) ≠ ⟨fb, o + 9, none⟩ := fun e => by have := congrArg Addr.off e; simp at this
  go_wp2
  exact HFIN.out lv3 w3 _ HB3.out HN3.out HA3.out ((HF3.out.set9 z).set3 1) ((but_setCell w3 ⟨fb, o + 9, none⟩ _).trans (but_setCell _ ⟨fb, o + 3, none⟩ _)) (((Keep32.refl w3 fb o).set (o + 9) (.inr rfl) _).set (o + 3) (.inl rfl) _)
set_option maxRecDepth 100000 in
/-- a step that waits -/
theorem Enter32_wait (b g fb o : Nat) (y : LY) (f : Nat → Int) (lv : Value) (log : List Acc) (ups : List (List Int)) (t Pc Ow : Int) (w : World) (K : BK y ups) (B : BW w 93 b g y f lv log ups) (E : Parts w) (F : FT32 w fb o Pc Ow) (X : Aside w b g lv fb) (hV : y.V = 5) (hP : ¬ Pc = 0) (hS : ¬ ((f (y.n + 1)) % 4294967296) = Ow) (f0 : 0 ≤ f (y.n + 1)) (f1 : f (y.n + 1) < 18446744073709551616) (hl : log.length ≤ 1000) :
    Calls Tryz.prog 62 #[.pointer (some ⟨b, 0, none⟩), .int .i64 t, .pointer (some ⟨fb, o, none⟩)] w (EnterDoes32 b g fb o y ups lv f (log ++ [⟨t, 1, (y.n + 1 : Nat), f (y.n + 1), f (y.n + 1)⟩]) false Pc Ow w) := by
  have CL := Lib.hid (BWLayout32 b g y f lv log ups w K B)
  obtain ⟨kTi, kSe, kk1, kk2, klt⟩ := K.lock hV
  have HF := Lib.hid F
  have HX := Lib.hid X
  have HB := Lib.hid B.B
  have HE := Lib.hid E
  have hfld : ∀ (u : Value) (x1 x2 x3 x4 x5 x6 x7 x8 : Int) (w : World), (Instr.field 31 (.agg #[.int .i64 (y.V), .int .i64 (y.W), .int .i64 (y.C), .int .i64 (y.P), .int .u64 (y.S), u, .int .i64 x1, .int .i64 x2, .int .i64 x3, .int .i64 x4, .int .i64 x5, .int .i64 x6, .int .i64 x7, .int .i64 x8]) 0).run Tryz.prog w = .ok (.agg #[.int .i64 (y.V), .int .i64 (y.W), .int .i64 (y.C), .int .i64 (y.P), .int .u64 (y.S), u]) w := fun u x1 x2 x3 x4 x5 x6 x7 x8 w => by kernel_rfl
  have hV5 : (y.V == 5) = true := by simp [hV]
  have CA := Lib.hid (fun w1 (h : BD w1 93 b g y f lv log) (E1 : Parts w1) => Load32_yes b g y f lv log t (y.n + 1) w1 h K.yok E1 kk2 f0 f1 hl)
  have HFIN := Lib.hid (fun lv1 w1 w2 (h1 : BD w1 93 b g y f lv1 (log ++ [⟨t, 1, (y.n + 1 : Nat), f (y.n + 1), f (y.n + 1)⟩])) (hN : But (Own b g lv) w w1) (hA : lv1.ownBlock = lv.ownBlock ∨ ∃ j, lv1.ownBlock = some j ∧ w.heap.size ≤ j) (F2 : FT32 w2 fb o Pc Ow) (hC : But (· = fb) w1 w2) (Kp : Keep32 w1 w2 fb o) => enter_fin32 (r := false) B X F h1 hN hA F2 hC Kp)
  have hP0 : (Pc == 0) = false := by simpa using hP
  have hSB : (((f (y.n + 1)) % 4294967296) == Ow) = false := by simpa using hS
  generalize hG : EnterDoes32 b g fb o y ups lv f (log ++ [⟨t, 1, (y.n + 1 : Nat), f (y.n + 1), f (y.n + 1)⟩]) false Pc Ow w = G at *
  generalize hz : (((f (y.n + 1)) % 4294967296)) = z at *
  clear hG hz B F X E K kk1 kk2 klt f0 f1 hV hP hS
  go_enter Tryz.func62, Tryz.ntmps62
  go_wp2_with fail
  refine CL.out.mono ?_
  rintro e wo ⟨u, rfl, L1, Xo⟩
  obtain ⟨ua, uc, rfl, -⟩ := L1
  rw [kTi, kSe]
  have Ho := Lib.hid Xo
  clear Xo CL kTi kSe
  go_upto_region 2 with (fail)
  refine settle_wp ?_
  intro w1 hb1
  have ql_0 : w1.cell? ⟨wo.heap.size, 0, none⟩ = some (.int .i64 (y.V)) := (hb1.cells.1 _ _ (by simp <;> omega)).trans (by simp [go_sem])
  have ql_1 : w1.cell? ⟨wo.heap.size, 1, none⟩ = some (.int .i64 (y.W)) := (hb1.cells.1 _ _ (by simp <;> omega)).trans (by simp [go_sem])
  have ql_2 : w1.cell? ⟨wo.heap.size, 2, none⟩ = some (.int .i64 (y.C)) := (hb1.cells.1 _ _ (by simp <;> omega)).trans (by simp [go_sem])
  have ql_3 : w1.cell? ⟨wo.heap.size, 3, none⟩ = some (.int .i64 (y.P)) := (hb1.cells.1 _ _ (by simp <;> omega)).trans (by simp [go_sem])
  have ql_4 : w1.cell? ⟨wo.heap.size, 4, none⟩ = some (.int .u64 (y.S)) := (hb1.cells.1 _ _ (by simp <;> omega)).trans (by simp [go_sem])
  have ql_5 : w1.cell? ⟨wo.heap.size, 5, none⟩ = some (.slice ua ups.length uc) := (hb1.cells.1 _ _ (by simp <;> omega)).trans (by simp [go_sem])
  have ql_6 : w1.cell? ⟨wo.heap.size, 6, none⟩ = some (.int .i64 (y.Cu)) := (hb1.cells.1 _ _ (by simp <;> omega)).trans (by simp [go_sem])
  have ql_7 : w1.cell? ⟨wo.heap.size, 7, none⟩ = some (.int .i64 (y.Cl)) := (hb1.cells.1 _ _ (by simp <;> omega)).trans (by simp [go_sem])
  have ql_8 : w1.cell? ⟨wo.heap.size, 8, none⟩ = some (.int .i64 (y.n)) := (hb1.cells.1 _ _ (by simp <;> omega)).trans (by simp [go_sem])
  have ql_9 : w1.cell? ⟨wo.heap.size, 9, none⟩ = some (.int .i64 (y.n + 1)) := (hb1.cells.1 _ _ (by simp <;> omega)).trans (by simp [go_sem])
  have ql_10 : w1.cell? ⟨wo.heap.size, 10, none⟩ = some (.int .i64 (y.Ne)) := (hb1.cells.1 _ _ (by simp <;> omega)).trans (by simp [go_sem])
  have ql_11 : w1.cell? ⟨wo.heap.size, 11, none⟩ = some (.int .i64 (y.Ma)) := (hb1.cells.1 _ _ (by simp <;> omega)).trans (by simp [go_sem])
  have ql_12 : w1.cell? ⟨wo.heap.size, 12, none⟩ = some (.int .i64 (y.Sl)) := (hb1.cells.1 _ _ (by simp <;> omega)).trans (by simp [go_sem])
  have ql_13 : w1.cell? ⟨wo.heap.size, 13, none⟩ = some (.int .i64 (y.m)) := (hb1.cells.1 _ _ (by simp <;> omega)).trans (by simp [go_sem])
  have pl := World.block_lt_of_cell? _ ⟨wo.heap.size, 0, none⟩ ql_0
  have rl := Nat.lt_succ_of_lt pl
  go_wp2_with fail
  refine (tnHas _ _ _ _ _ _ _ _ _ _ _ _ _ _ _ _ _).mono ?_
  rintro e w2 ⟨rfl, hb2⟩
  have hx2 : Ext w1 w2 := by repeat (first | with_reducible exact Ext.refl _ | with_reducible assumption | with_reducible refine Ext.alloc ?_ _ | with_reducible refine Ext.drew ?_ | with_reducible refine Ext.drewN ?_ _ | with_reducible refine Ext.setCell ?_ (by simp <;> omega) _ | with_reducible refine Ext.trans ?_ (by assumption))
  replace ql_0 := hx2.cell ql_0
  replace ql_1 := hx2.cell ql_1
  replace ql_2 := hx2.cell ql_2
  replace ql_3 := hx2.cell ql_3
  replace ql_4 := hx2.cell ql_4
  replace ql_5 := hx2.cell ql_5
  replace ql_6 := hx2.cell ql_6
  replace ql_7 := hx2.cell ql_7
  replace ql_8 := hx2.cell ql_8
  replace ql_9 := hx2.cell ql_9
  replace ql_10 := hx2.cell ql_10
  replace ql_11 := hx2.cell ql_11
  replace ql_12 := hx2.cell ql_12
  replace ql_13 := hx2.cell ql_13
  replace pl := Nat.lt_of_lt_of_le pl hx2.size
  replace rl := Nat.lt_succ_of_lt pl
  clear hx2
  have XE : Ext w w2 := Ho.out.trans (Ext.trans ((Ext.refl wo).alloc _) (hb1.trans hb2))
  have F2 := HF.out.ext XE
  have HF2 := Lib.hid F2
  have HX2 := Lib.hid (HX.out.ext XE)
  have HB2 := Lib.hid (HB.out.ext XE)
  have HE2 := Lib.hid (HE.out.ext XE)
  have HXE := Lib.hid XE
  have nl : ¬ Own b g lv wo.heap.size := fun h => by
    have h1 := HB.out.lt h
    have h2 := Ho.out.size
    omega
  have q3 := F2.c3
  have q9 := F2.c9
  clear XE F2 hb1 hb2
  go_upto_region 8 with (fail)
  refine wp_region_held_drew (S := (fun w' => But (Own b g lv) w2 w')) (by kernel_rfl) ?hbeg (fun hHeld => ?_)
  case hbeg => exact ((Ext.refl w2).drew).but _
  have k4 := fun w' (hx : But (Own b g lv) w2 w') => hx.cell ql_9 nl
  have k9 := fun w' (hx : But (Own b g lv) w2 w') => hx.cell q9 HX2.out.out
  first
    | (refine take_at (i := 0) (v := ?_) rfl rfl (by kernel_rfl) (by kernel_rfl) (by kernel_rfl) (fun _ _ _ h => h) (Or.inl ⟨by rfl, ?hy⟩) (by assumption) ?_
       case hy => (intro wz hSw; (try dsimp only at hSw); go_simp <;> with_reducible rfl)
       simp only [List.setIfInBounds_toArray, List.set_cons_zero, List.set_cons_succ])
    | (refine take_at (i := 0) (v := undef) rfl rfl (by kernel_rfl) (by kernel_rfl) (by kernel_rfl) (fun _ _ _ h => h) (Or.inr ⟨by rfl, rfl⟩) (by assumption) ?_
       simp only [List.setIfInBounds_toArray, List.set_cons_zero, List.set_cons_succ])
  first
    | (refine take_at (i := 1) (v := ?_) rfl rfl (by kernel_rfl) (by kernel_rfl) (by kernel_rfl) (fun _ _ _ h => h) (Or.inl ⟨by rfl, ?hy⟩) (by assumption) ?_
       case hy => (intro wz hSw; (try dsimp only at hSw); go_simp <;> with_reducible rfl)
       simp only [List.setIfInBounds_toArray, List.set_cons_zero, List.set_cons_succ])
    | (refine take_at (i := 1) (v := undef) rfl rfl (by kernel_rfl) (by kernel_rfl) (by kernel_rfl) (fun _ _ _ h => h) (Or.inr ⟨by rfl, rfl⟩) (by assumption) ?_
       simp only [List.setIfInBounds_toArray, List.set_cons_zero, List.set_cons_succ])
  first
    | (refine take_at (i := 2) (v := ?_) rfl rfl (by kernel_rfl) (by kernel_rfl) (by kernel_rfl) (fun _ _ _ h => h) (Or.inl ⟨by rfl, ?hy⟩) (by assumption) ?_
       case hy => (intro wz hSw; (try dsimp only at hSw); go_simp <;> with_reducible rfl)
       simp only [List.setIfInBounds_toArray, List.set_cons_zero, List.set_cons_succ])
    | (refine take_at (i := 2) (v := undef) rfl rfl (by kernel_rfl) (by kernel_rfl) (by kernel_rfl) (fun _ _ _ h => h) (Or.inr ⟨by rfl, rfl⟩) (by assumption) ?_
       simp only [List.setIfInBounds_toArray, List.set_cons_zero, List.set_cons_succ])
  first
    | (refine take_at (i := 3) (v := ?_) rfl rfl (by kernel_rfl) (by kernel_rfl) (by kernel_rfl) (fun _ _ _ h => h) (Or.inl ⟨by rfl, ?hy⟩) (by assumption) ?_
       case hy => (intro wz hSw; (try dsimp only at hSw); go_simp <;> with_reducible rfl)
       simp only [List.setIfInBounds_toArray, List.set_cons_zero, List.set_cons_succ])
    | (refine take_at (i := 3) (v := undef) rfl rfl (by kernel_rfl) (by kernel_rfl) (by kernel_rfl) (fun _ _ _ h => h) (Or.inr ⟨by rfl, rfl⟩) (by assumption) ?_
       simp only [List.setIfInBounds_toArray, List.set_cons_zero, List.set_cons_succ])
  first
    | (refine take_at (i := 5) (v := ?_) rfl rfl (by kernel_rfl) (by kernel_rfl) (by kernel_rfl) (fun _ _ _ h => h) (Or.inl ⟨by rfl, ?hy⟩) (by assumption) ?_
       case hy => (intro wz hSw; (try dsimp only at hSw); go_simp <;> with_reducible rfl)
       simp only [List.setIfInBounds_toArray, List.set_cons_zero, List.set_cons_succ])
    | (refine take_at (i := 5) (v := undef) rfl rfl (by kernel_rfl) (by kernel_rfl) (by kernel_rfl) (fun _ _ _ h => h) (Or.inr ⟨by rfl, rfl⟩) (by assumption) ?_
       simp only [List.setIfInBounds_toArray, List.set_cons_zero, List.set_cons_succ])
  first
    | (refine take_at (i := 6) (v := ?_) rfl rfl (by kernel_rfl) (by kernel_rfl) (by kernel_rfl) (fun _ _ _ h => h) (Or.inl ⟨by rfl, ?hy⟩) (by assumption) ?_
       case hy => (intro wz hSw; (try dsimp only at hSw); go_simp <;> with_reducible rfl)
       simp only [List.setIfInBounds_toArray, List.set_cons_zero, List.set_cons_succ])
    | (refine take_at (i := 6) (v := undef) rfl rfl (by kernel_rfl) (by kernel_rfl) (by kernel_rfl) (fun _ _ _ h => h) (Or.inr ⟨by rfl, rfl⟩) (by assumption) ?_
       simp only [List.setIfInBounds_toArray, List.set_cons_zero, List.set_cons_succ])
  first
    | (refine take_at (i := 7) (v := ?_) rfl rfl (by kernel_rfl) (by kernel_rfl) (by kernel_rfl) (fun _ _ _ h => h) (Or.inl ⟨by rfl, ?hy⟩) (by assumption) ?_
       case hy => (intro wz hSw; (try dsimp only at hSw); go_simp <;> with_reducible rfl)
       simp only [List.setIfInBounds_toArray, List.set_cons_zero, List.set_cons_succ])
    | (refine take_at (i := 7) (v := undef) rfl rfl (by kernel_rfl) (by kernel_rfl) (by kernel_rfl) (fun _ _ _ h => h) (Or.inr ⟨by rfl, rfl⟩) (by assumption) ?_
       simp only [List.setIfInBounds_toArray, List.set_cons_zero, List.set_cons_succ])
  first
    | (refine take_at (i := 8) (v := ?_) rfl rfl (by kernel_rfl) (by kernel_rfl) (by kernel_rfl) (fun _ _ _ h => h) (Or.inl ⟨by rfl, ?hy⟩) (by assumption) ?_
       case hy => (intro wz hSw; (try dsimp only at hSw); go_simp <;> with_reducible rfl)
       simp only [List.setIfInBounds_toArray, List.set_cons_zero, List.set_cons_succ])
    | (refine take_at (i := 8) (v := undef) rfl rfl (by kernel_rfl) (by kernel_rfl) (by kernel_rfl) (fun _ _ _ h => h) (Or.inr ⟨by rfl, rfl⟩) (by assumption) ?_
       simp only [List.setIfInBounds_toArray, List.set_cons_zero, List.set_cons_succ])
  refine call_at (i := 4) (F := 59) (CA.out _ (HB2.out.ext (Ext.refl w2).drew) (HE2.out.ext (Ext.refl w2).drew)) rfl rfl (by kernel_rfl) (by rfl) (by first | rfl | (go_simp <;> rfl)) ?_
  rintro e w3 ⟨rfl, lv3, B3, N3, A3⟩
  replace hHeld := hHeld.trans N3
  refine ⟨_, rfl, hHeld, ?_⟩
  simp only [List.setIfInBounds_toArray, List.set_cons_zero, List.set_cons_succ]
  first
    | (refine take_at (i := 9) (v := ?_) rfl rfl (by kernel_rfl) (by kernel_rfl) (by kernel_rfl) (fun _ _ _ h => h) (Or.inl ⟨by rfl, ?hy⟩) (by assumption) ?_
       case hy => (intro wz hSw; (try dsimp only at hSw); go_simp <;> with_reducible rfl)
       simp only [List.setIfInBounds_toArray, List.set_cons_zero, List.set_cons_succ])
    | (refine take_at (i := 9) (v := undef) rfl rfl (by kernel_rfl) (by kernel_rfl) (by kernel_rfl) (fun _ _ _ h => h) (Or.inr ⟨by rfl, rfl⟩) (by assumption) ?_
       simp only [List.setIfInBounds_toArray, List.set_cons_zero, List.set_cons_succ])
  refine wpAnyH_done (by kernel_rfl) ?_ _
  have F3 := HF2.out.but hHeld HX2.out.out
  have r3 := F3.c3
  have y3 := F3.z3
  have HF3 := Lib.hid F3
  have HN3 := Lib.hid ((HXE.out.but (Own b g lv)).trans hHeld)
  have HB3 := Lib.hid B3
  have HA3 : Hid (lv3.ownBlock = lv.ownBlock ∨ ∃ j, lv3.ownBlock = some j ∧ w.heap.size ≤ j) := Lib.hid (A3.imp id (fun ⟨j, e, hj⟩ => ⟨j, e, Nat.le_trans (HXE.out.drew).size hj⟩))
  clear F3 N3 B3 A3 k4 k9 hHeld q3 q9 ql_0 ql_1 ql_2 ql_3 ql_4 ql_5 ql_6 ql_7 ql_8 ql_9 ql_10 ql_11 ql_12 ql_13 hfld hV5
  go_wp2
  exact HFIN.out lv3 w3 _ HB3.out HN3.out HA3.out HF3.out (But.refl _ w3) (Keep32.refl w3 fb o)
set_option maxRecDepth 100000 in
/-- the step that comes inside -/
theorem Enter32_in (b g fb o : Nat) (y : LY) (f : Nat → Int) (lv : Value) (log : List Acc) (ups : List (List Int)) (t Pc Ow : Int) (w : World) (K : BK y ups) (B : BW w 93 b g y f lv log ups) (E : Parts w) (F : FT32 w fb o Pc Ow) (X : Aside w b g lv fb) (hV : y.V = 5) (hP : ¬ Pc = 0) (hS : ((f (y.n + 1)) % 4294967296) = Ow) (f0 : 0 ≤ f (y.n + 1)) (f1 : f (y.n + 1) < 18446744073709551616) (hl : log.length ≤ 1000) :
    Calls Tryz.prog 62 #[.pointer (some ⟨b, 0, none⟩), .int .i64 t, .pointer (some ⟨fb, o, none⟩)] w (EnterDoes32 b g fb o y ups lv f (log ++ [⟨t, 1, (y.n + 1 : Nat), f (y.n + 1), f (y.n + 1)⟩]) true 2 Ow w) := by
  have CL := Lib.hid (BWLayout32 b g y f lv log ups w K B)
  obtain ⟨kTi, kSe, kk1, kk2, klt⟩ := K.lock hV
  have HF := Lib.hid F
  have HX := Lib.hid X
  have HB := Lib.hid B.B
  have HE := Lib.hid E
  have hfld : ∀ (u : Value) (x1 x2 x3 x4 x5 x6 x7 x8 : Int) (w : World), (Instr.field 31 (.agg #[.int .i64 (y.V), .int .i64 (y.W), .int .i64 (y.C), .int .i64 (y.P), .int .u64 (y.S), u, .int .i64 x1, .int .i64 x2, .int .i64 x3, .int .i64 x4, .int .i64 x5, .int .i64 x6, .int .i64 x7, .int .i64 x8]) 0).run Tryz.prog w = .ok (.agg #[.int .i64 (y.V), .int .i64 (y.W), .int .i64 (y.C), .int .i64 (y.P), .int .u64 (y.S), u]) w := fun u x1 x2 x3 x4 x5 x6 x7 x8 w => by kernel_rfl
  have hV5 : (y.V == 5) = true := by simp [hV]
  have CA := Lib.hid (fun w1 (h : BD w1 93 b g y f lv log) (E1 : Parts w1) => Load32_yes b g y f lv log t (y.n + 1) w1 h K.yok E1 kk2 f0 f1 hl)
  have HFIN := Lib.hid (fun lv1 w1 w2 (h1 : BD w1 93 b g y f lv1 (log ++ [⟨t, 1, (y.n + 1 : Nat), f (y.n + 1), f (y.n + 1)⟩])) (hN : But (Own b g lv) w w1) (hA : lv1.ownBlock = lv.ownBlock ∨ ∃ j, lv1.ownBlock = some j ∧ w.heap.size ≤ j) (F2 : FT32 w2 fb o 2 Ow) (hC : But (· = fb) w1 w2) (Kp : Keep32 w1 w2 fb o) => enter_fin32 (r := true) B X F h1 hN hA F2 hC Kp)
  have hP0 : (Pc == 0) = false := by simpa using hP
  have hSB : (((f (y.n + 1)) % 4294967296) == Ow) = true := by simpa using hS
  generalize hG : EnterDoes32 b g fb o y ups lv f (log ++ [⟨t, 1, (y.n + 1 : Nat), f (y.n + 1), f (y.n + 1)⟩]) true 2 Ow w = G at *
  generalize hz : (((f (y.n + 1)) % 4294967296)) = z at *
  clear hG hz B F X E K kk1 kk2 klt f0 f1 hV hP hS
  go_enter Tryz.func62, Tryz.ntmps62
  go_wp2_with fail
  refine CL.out.mono ?_
  rintro e wo ⟨u, rfl, L1, Xo⟩
  obtain ⟨ua, uc, rfl, -⟩ := L1
  rw [kTi, kSe]
  have Ho := Lib.hid Xo
  clear Xo CL kTi kSe
  go_upto_region 2 with (fail)
  refine settle_wp ?_
  intro w1 hb1
  have ql_0 : w1.cell? ⟨wo.heap.size, 0, none⟩ = some (.int .i64 (y.V)) := (hb1.cells.1 _ _ (by simp <;> omega)).trans (by simp [go_sem])
  have ql_1 : w1.cell? ⟨wo.heap.size, 1, none⟩ = some (.int .i64 (y.W)) := (hb1.cells.1 _ _ (by simp <;> omega)).trans (by simp [go_sem])
  have ql_2 : w1.cell? ⟨wo.heap.size, 2, none⟩ = some (.int .i64 (y.C)) := (hb1.cells.1 _ _ (by simp <;> omega)).trans (by simp [go_sem])
  have ql_3 : w1.cell? ⟨wo.heap.size, 3, none⟩ = some (.int .i64 (y.P)) := (hb1.cells.1 _ _ (by simp <;> omega)).trans (by simp [go_sem])
  have ql_4 : w1.cell? ⟨wo.heap.size, 4, none⟩ = some (.int .u64 (y.S)) := (hb1.cells.1 _ _ (by simp <;> omega)).trans (by simp [go_sem])
  have ql_5 : w1.cell? ⟨wo.heap.size, 5, none⟩ = some (.slice ua ups.length uc) := (hb1.cells.1 _ _ (by simp <;> omega)).trans (by simp [go_sem])
  have ql_6 : w1.cell? ⟨wo.heap.size, 6, none⟩ = some (.int .i64 (y.Cu)) := (hb1.cells.1 _ _ (by simp <;> omega)).trans (by simp [go_sem])
  have ql_7 : w1.cell? ⟨wo.heap.size, 7, none⟩ = some (.int .i64 (y.Cl)) := (hb1.cells.1 _ _ (by simp <;> omega)).trans (by simp [go_sem])
  have ql_8 : w1.cell? ⟨wo.heap.size, 8, none⟩ = some (.int .i64 (y.n)) := (hb1.cells.1 _ _ (by simp <;> omega)).trans (by simp [go_sem])
  have ql_9 : w1.cell? ⟨wo.heap.size, 9, none⟩ = some (.int .i64 (y.n + 1)) := (hb1.cells.1 _ _ (by simp <;> omega)).trans (by simp [go_sem])
  have ql_10 : w1.cell? ⟨wo.heap.size, 10, none⟩ = some (.int .i64 (y.Ne)) := (hb1.cells.1 _ _ (by simp <;> omega)).trans (by simp [go_sem])
  have ql_11 : w1.cell? ⟨wo.heap.size, 11, none⟩ = some (.int .i64 (y.Ma)) := (hb1.cells.1 _ _ (by simp <;> omega)).trans (by simp [go_sem])
  have ql_12 : w1.cell? ⟨wo.heap.size, 12, none⟩ = some (.int .i64 (y.Sl)) := (hb1.cells.1 _ _ (by simp <;> omega)).trans (by simp [go_sem])
  have ql_13 : w1.cell? ⟨wo.heap.size, 13, none⟩ = some (.int .i64 (y.m)) := (hb1.cells.1 _ _ (by simp <;> omega)).trans (by simp [go_sem])
  have pl := World.block_lt_of_cell? _ ⟨wo.heap.size, 0, none⟩ ql_0
  have rl := Nat.lt_succ_of_lt pl
  go_wp2_with fail
  refine (tnHas _ _ _ _ _ _ _ _ _ _ _ _ _ _ _ _ _).mono ?_
  rintro e w2 ⟨rfl, hb2⟩
  have hx2 : Ext w1 w2 := by repeat (first | with_reducible exact Ext.refl _ | with_reducible assumption | with_reducible refine Ext.alloc ?_ _ | with_reducible refine Ext.drew ?_ | with_reducible refine Ext.drewN ?_ _ | with_reducible refine Ext.setCell ?_ (by simp <;> omega) _ | with_reducible refine Ext.trans ?_ (by assumption))
  replace ql_0 := hx2.cell ql_0
  replace ql_1 := hx2.cell ql_1
  replace ql_2 := hx2.cell ql_2
  replace ql_3 := hx2.cell ql_3
  replace ql_4 := hx2.cell ql_4
  replace ql_5 := hx2.cell ql_5
  replace ql_6 := hx2.cell ql_6
  replace ql_7 := hx2.cell ql_7
  replace ql_8 := hx2.cell ql_8
  replace ql_9 := hx2.cell ql_9
  replace ql_10 := hx2.cell ql_10
  replace ql_11 := hx2.cell ql_11
  replace ql_12 := hx2.cell ql_12
  replace ql_13 := hx2.cell ql_13
  replace pl := Nat.lt_of_lt_of_le pl hx2.size
  replace rl := Nat.lt_succ_of_lt pl
  clear hx2
  have XE : Ext w w2 := Ho.out.trans (Ext.trans ((Ext.refl wo).alloc _) (hb1.trans hb2))
  have F2 := HF.out.ext XE
  have HF2 := Lib.hid F2
  have HX2 := Lib.hid (HX.out.ext XE)
  have HB2 := Lib.hid (HB.out.ext XE)
  have HE2 := Lib.hid (HE.out.ext XE)
  have HXE := Lib.hid XE
  have nl : ¬ Own b g lv wo.heap.size := fun h => by
    have h1 := HB.out.lt h
    have h2 := Ho.out.size
    omega
  have q3 := F2.c3
  have q9 := F2.c9
  clear XE F2 hb1 hb2
  go_upto_region 8 with (fail)
  refine wp_region_held_drew (S := (fun w' => But (Own b g lv) w2 w')) (by kernel_rfl) ?hbeg (fun hHeld => ?_)
  case hbeg => exact ((Ext.refl w2).drew).but _
  have k4 := fun w' (hx : But (Own b g lv) w2 w') => hx.cell ql_9 nl
  have k9 := fun w' (hx : But (Own b g lv) w2 w') => hx.cell q9 HX2.out.out
  first
    | (refine take_at (i := 0) (v := ?_) rfl rfl (by kernel_rfl) (by kernel_rfl) (by kernel_rfl) (fun _ _ _ h => h) (Or.inl ⟨by rfl, ?hy⟩) (by assumption) ?_
       case hy => (intro wz hSw; (try dsimp only at hSw); go_simp <;> with_reducible rfl)
       simp only [List.setIfInBounds_toArray, List.set_cons_zero, List.set_cons_succ])
    | (refine take_at (i := 0) (v := undef) rfl rfl (by kernel_rfl) (by kernel_rfl) (by kernel_rfl) (fun _ _ _ h => h) (Or.inr ⟨by rfl, rfl⟩) (by assumption) ?_
       simp only [List.setIfInBounds_toArray, List.set_cons_zero, List.set_cons_succ])
  first
    | (refine take_at (i := 1) (v := ?_) rfl rfl (by kernel_rfl) (by kernel_rfl) (by kernel_rfl) (fun _ _ _ h => h) (Or.inl ⟨by rfl, ?hy⟩) (by assumption) ?_
       case hy => (intro wz hSw; (try dsimp only at hSw); go_simp <;> with_reducible rfl)
       simp only [List.setIfInBounds_toArray, List.set_cons_zero, List.set_cons_succ])
    | (refine take_at (i := 1) (v := undef) rfl rfl (by kernel_rfl) (by kernel_rfl) (by kernel_rfl) (fun _ _ _ h => h) (Or.inr ⟨by rfl, rfl⟩) (by assumption) ?_
       simp only [List.setIfInBounds_toArray, List.set_cons_zero, List.set_cons_succ])
  first
    | (refine take_at (i := 2) (v := ?_) rfl rfl (by kernel_rfl) (by kernel_rfl) (by kernel_rfl) (fun _ _ _ h => h) (Or.inl ⟨by rfl, ?hy⟩) (by assumption) ?_
       case hy => (intro wz hSw; (try dsimp only at hSw); go_simp <;> with_reducible rfl)
       simp only [List.setIfInBounds_toArray, List.set_cons_zero, List.set_cons_succ])
    | (refine take_at (i := 2) (v := undef) rfl rfl (by kernel_rfl) (by kernel_rfl) (by kernel_rfl) (fun _ _ _ h => h) (Or.inr ⟨by rfl, rfl⟩) (by assumption) ?_
       simp only [List.setIfInBounds_toArray, List.set_cons_zero, List.set_cons_succ])
  first
    | (refine take_at (i := 3) (v := ?_) rfl rfl (by kernel_rfl) (by kernel_rfl) (by kernel_rfl) (fun _ _ _ h => h) (Or.inl ⟨by rfl, ?hy⟩) (by assumption) ?_
       case hy => (intro wz hSw; (try dsimp only at hSw); go_simp <;> with_reducible rfl)
       simp only [List.setIfInBounds_toArray, List.set_cons_zero, List.set_cons_succ])
    | (refine take_at (i := 3) (v := undef) rfl rfl (by kernel_rfl) (by kernel_rfl) (by kernel_rfl) (fun _ _ _ h => h) (Or.inr ⟨by rfl, rfl⟩) (by assumption) ?_
       simp only [List.setIfInBounds_toArray, List.set_cons_zero, List.set_cons_succ])
  first
    | (refine take_at (i := 5) (v := ?_) rfl rfl (by kernel_rfl) (by kernel_rfl) (by kernel_rfl) (fun _ _ _ h => h) (Or.inl ⟨by rfl, ?hy⟩) (by assumption) ?_
       case hy => (intro wz hSw; (try dsimp only at hSw); go_simp <;> with_reducible rfl)
       simp only [List.setIfInBounds_toArray, List.set_cons_zero, List.set_cons_succ])
    | (refine take_at (i := 5) (v := undef) rfl rfl (by kernel_rfl) (by kernel_rfl) (by kernel_rfl) (fun _ _ _ h => h) (Or.inr ⟨by rfl, rfl⟩) (by assumption) ?_
       simp only [List.setIfInBounds_toArray, List.set_cons_zero, List.set_cons_succ])
  first
    | (refine take_at (i := 6) (v := ?_) rfl rfl (by kernel_rfl) (by kernel_rfl) (by kernel_rfl) (fun _ _ _ h => h) (Or.inl ⟨by rfl, ?hy⟩) (by assumption) ?_
       case hy => (intro wz hSw; (try dsimp only at hSw); go_simp <;> with_reducible rfl)
       simp only [List.setIfInBounds_toArray, List.set_cons_zero, List.set_cons_succ])
    | (refine take_at (i := 6) (v := undef) rfl rfl (by kernel_rfl) (by kernel_rfl) (by kernel_rfl) (fun _ _ _ h => h) (Or.inr ⟨by rfl, rfl⟩) (by assumption) ?_
       simp only [List.setIfInBounds_toArray, List.set_cons_zero, List.set_cons_succ])
  first
    | (refine take_at (i := 7) (v := ?_) rfl rfl (by kernel_rfl) (by kernel_rfl) (by kernel_rfl) (fun _ _ _ h => h) (Or.inl ⟨by rfl, ?hy⟩) (by assumption) ?_
       case hy => (intro wz hSw; (try dsimp only at hSw); go_simp <;> with_reducible rfl)
       simp only [List.setIfInBounds_toArray, List.set_cons_zero, List.set_cons_succ])
    | (refine take_at (i := 7) (v := undef) rfl rfl (by kernel_rfl) (by kernel_rfl) (by kernel_rfl) (fun _ _ _ h => h) (Or.inr ⟨by rfl, rfl⟩) (by assumption) ?_
       simp only [List.setIfInBounds_toArray, List.set_cons_zero, List.set_cons_succ])
  first
    | (refine take_at (i := 8) (v := ?_) rfl rfl (by kernel_rfl) (by kernel_rfl) (by kernel_rfl) (fun _ _ _ h => h) (Or.inl ⟨by rfl, ?hy⟩) (by assumption) ?_
       case hy => (intro wz hSw; (try dsimp only at hSw); go_simp <;> with_reducible rfl)
       simp only [List.setIfInBounds_toArray, List.set_cons_zero, List.set_cons_succ])
    | (refine take_at (i := 8) (v := undef) rfl rfl (by kernel_rfl) (by kernel_rfl) (by kernel_rfl) (fun _ _ _ h => h) (Or.inr ⟨by rfl, rfl⟩) (by assumption) ?_
       simp only [List.setIfInBounds_toArray, List.set_cons_zero, List.set_cons_succ])
  refine call_at (i := 4) (F := 59) (CA.out _ (HB2.out.ext (Ext.refl w2).drew) (HE2.out.ext (Ext.refl w2).drew)) rfl rfl (by kernel_rfl) (by rfl) (by first | rfl | (go_simp <;> rfl)) ?_
  rintro e w3 ⟨rfl, lv3, B3, N3, A3⟩
  replace hHeld := hHeld.trans N3
  refine ⟨_, rfl, hHeld, ?_⟩
  simp only [List.setIfInBounds_toArray, List.set_cons_zero, List.set_cons_succ]
  first
    | (refine take_at (i := 9) (v := ?_) rfl rfl (by kernel_rfl) (by kernel_rfl) (by kernel_rfl) (fun _ _ _ h => h) (Or.inl ⟨by rfl, ?hy⟩) (by assumption) ?_
       case hy => (intro wz hSw; (try dsimp only at hSw); go_simp <;> with_reducible rfl)
       simp only [List.setIfInBounds_toArray, List.set_cons_zero, List.set_cons_succ])
    | (refine take_at (i := 9) (v := undef) rfl rfl (by kernel_rfl) (by kernel_rfl) (by kernel_rfl) (fun _ _ _ h => h) (Or.inr ⟨by rfl, rfl⟩) (by assumption) ?_
       simp only [List.setIfInBounds_toArray, List.set_cons_zero, List.set_cons_succ])
  refine wpAnyH_done (by kernel_rfl) ?_ _
  have F3 := HF2.out.but hHeld HX2.out.out
  have r3 := F3.c3
  have y3 := F3.z3
  have HF3 := Lib.hid F3
  have HN3 := Lib.hid ((HXE.out.but (Own b g lv)).trans hHeld)
  have HB3 := Lib.hid B3
  have HA3 : Hid (lv3.ownBlock = lv.ownBlock ∨ ∃ j, lv3.ownBlock = some j ∧ w.heap.size ≤ j) := Lib.hid (A3.imp id (fun ⟨j, e, hj⟩ => ⟨j, e, Nat.le_trans (HXE.out.drew).size hj⟩))
  clear F3 N3 B3 A3 k4 k9 hHeld q3 q9 ql_0 ql_1 ql_2 ql_3 ql_4 ql_5 ql_6 ql_7 ql_8 ql_9 ql_10 ql_11 ql_12 ql_13 hfld hV5
  go_wp2
  exact HFIN.out lv3 w3 _ HB3.out HN3.out HA3.out (HF3.out.set3 2) (but_setCell w3 ⟨fb, o + 3, none⟩ _) ((Keep32.refl w3 fb o).set (o + 3) (.inl rfl) _)
set_option maxRecDepth 100000 in
/-- without a lock -/
theorem Enter32_no (b g : Nat) (y : LY) (f : Nat → Int) (lv : Value) (log : List Acc) (ups : List (List Int)) (t : Int) (fp : Value) (w : World) (K : BK y ups) (B : BW w 93 b g y f lv log ups) (hV : ¬ y.V = 5) (hfp : (∃ a, fp = .pointer (some a)) ∨ fp = .pointer none) :
    Calls Tryz.prog 62 #[.pointer (some ⟨b, 0, none⟩), .int .i64 t, fp] w fun e w' => e = .returned (.bool true) ∧ Ext w w' := by
  have CL := Lib.hid (BWLayout32 b g y f lv log ups w K B)
  have hfld : ∀ (u : Value) (x1 x2 x3 x4 x5 x6 x7 x8 : Int) (w : World), (Instr.field 31 (.agg #[.int .i64 (y.V), .int .i64 (y.W), .int .i64 (y.C), .int .i64 (y.P), .int .u64 (y.S), u, .int .i64 x1, .int .i64 x2, .int .i64 x3, .int .i64 x4, .int .i64 x5, .int .i64 x6, .int .i64 x7, .int .i64 x8]) 0).run Tryz.prog w = .ok (.agg #[.int .i64 (y.V), .int .i64 (y.W), .int .i64 (y.C), .int .i64 (y.P), .int .u64 (y.S), u]) w := fun u x1 x2 x3 x4 x5 x6 x7 x8 w => by kernel_rfl
  have hV5 : (y.V == 5) = false := by simpa using hV
  clear B hV K
  rcases hfp with ⟨a, rfl⟩ | rfl
  · go_enter Tryz.func62, Tryz.ntmps62
    go_wp2_with fail
    refine CL.out.mono ?_
    rintro e wo ⟨u, rfl, L1, Xo⟩
    obtain ⟨ua, uc, rfl, -⟩ := L1
    have Ho := Lib.hid Xo
    clear Xo CL
    go_upto_region 2 with (fail)
    refine settle_wp ?_
    intro w1 hb1
    have ql_0 : w1.cell? ⟨wo.heap.size, 0, none⟩ = some (.int .i64 (y.V)) := (hb1.cells.1 _ _ (by simp <;> omega)).trans (by simp [go_sem])
    have ql_1 : w1.cell? ⟨wo.heap.size, 1, none⟩ = some (.int .i64 (y.W)) := (hb1.cells.1 _ _ (by simp <;> omega)).trans (by simp [go_sem])
    have ql_2 : w1.cell? ⟨wo.heap.size, 2, none⟩ = some (.int .i64 (y.C)) := (hb1.cells.1 _ _ (by simp <;> omega)).trans (by simp [go_sem])
    have ql_3 : w1.cell? ⟨wo.heap.size, 3, none⟩ = some (.int .i64 (y.P)) := (hb1.cells.1 _ _ (by simp <;> omega)).trans (by simp [go_sem])
    have ql_4 : w1.cell? ⟨wo.heap.size, 4, none⟩ = some (.int .u64 (y.S)) := (hb1.cells.1 _ _ (by simp <;> omega)).trans (by simp [go_sem])
    have ql_5 : w1.cell? ⟨wo.heap.size, 5, none⟩ = some (.slice ua ups.length uc) := (hb1.cells.1 _ _ (by simp <;> omega)).trans (by simp [go_sem])
    have ql_6 : w1.cell? ⟨wo.heap.size, 6, none⟩ = some (.int .i64 (y.Cu)) := (hb1.cells.1 _ _ (by simp <;> omega)).trans (by simp [go_sem])
    have ql_7 : w1.cell? ⟨wo.heap.size, 7, none⟩ = some (.int .i64 (y.Cl)) := (hb1.cells.1 _ _ (by simp <;> omega)).trans (by simp [go_sem])
    have ql_8 : w1.cell? ⟨wo.heap.size, 8, none⟩ = some (.int .i64 (y.Ti)) := (hb1.cells.1 _ _ (by simp <;> omega)).trans (by simp [go_sem])
    have ql_9 : w1.cell? ⟨wo.heap.size, 9, none⟩ = some (.int .i64 (y.Se)) := (hb1.cells.1 _ _ (by simp <;> omega)).trans (by simp [go_sem])
    have ql_10 : w1.cell? ⟨wo.heap.size, 10, none⟩ = some (.int .i64 (y.Ne)) := (hb1.cells.1 _ _ (by simp <;> omega)).trans (by simp [go_sem])
    have ql_11 : w1.cell? ⟨wo.heap.size, 11, none⟩ = some (.int .i64 (y.Ma)) := (hb1.cells.1 _ _ (by simp <;> omega)).trans (by simp [go_sem])
    have ql_12 : w1.cell? ⟨wo.heap.size, 12, none⟩ = some (.int .i64 (y.Sl)) := (hb1.cells.1 _ _ (by simp <;> omega)).trans (by simp [go_sem])
    have ql_13 : w1.cell? ⟨wo.heap.size, 13, none⟩ = some (.int .i64 (y.m)) := (hb1.cells.1 _ _ (by simp <;> omega)).trans (by simp [go_sem])
    have pl := World.block_lt_of_cell? _ ⟨wo.heap.size, 0, none⟩ ql_0
    have rl := Nat.lt_succ_of_lt pl
    go_wp2_with fail
    refine (tnHas _ _ _ _ _ _ _ _ _ _ _ _ _ _ _ _ _).mono ?_
    rintro e w2 ⟨rfl, hb2⟩
    have hx2 : Ext w1 w2 := by repeat (first | with_reducible exact Ext.refl _ | with_reducible assumption | with_reducible refine Ext.alloc ?_ _ | with_reducible refine Ext.drew ?_ | with_reducible refine Ext.drewN ?_ _ | with_reducible refine Ext.setCell ?_ (by simp <;> omega) _ | with_reducible refine Ext.trans ?_ (by assumption))
    replace ql_0 := hx2.cell ql_0
    replace ql_1 := hx2.cell ql_1
    replace ql_2 := hx2.cell ql_2
    replace ql_3 := hx2.cell ql_3
    replace ql_4 := hx2.cell ql_4
    replace ql_5 := hx2.cell ql_5
    replace ql_6 := hx2.cell ql_6
    replace ql_7 := hx2.cell ql_7
    replace ql_8 := hx2.cell ql_8
    replace ql_9 := hx2.cell ql_9
    replace ql_10 := hx2.cell ql_10
    replace ql_11 := hx2.cell ql_11
    replace ql_12 := hx2.cell ql_12
    replace ql_13 := hx2.cell ql_13
    replace pl := Nat.lt_of_lt_of_le pl hx2.size
    replace rl := Nat.lt_succ_of_lt pl
    clear hx2
    go_wp2
    go_ret
    exact ⟨rfl, Ho.out.trans (Ext.trans ((Ext.refl wo).alloc _) (hb1.trans hb2))⟩
  · go_enter Tryz.func62, Tryz.ntmps62
    go_wp2_with fail
    refine CL.out.mono ?_
    rintro e wo ⟨u, rfl, L1, Xo⟩
    obtain ⟨ua, uc, rfl, -⟩ := L1
    have Ho := Lib.hid Xo
    clear Xo CL
    go_wp2
    go_ret
    exact ⟨rfl, Ho.out.trans ((Ext.refl wo).alloc _)⟩
set_option maxRecDepth 100000 in
/-- a frame that is none -/
theorem Enter32_nilf (b g : Nat) (y : LY) (f : Nat → Int) (lv : Value) (log : List Acc) (ups : List (List Int)) (t : Int) (w : World) (K : BK y ups) (B : BW w 93 b g y f lv log ups) :
    Calls Tryz.prog 62 #[.pointer (some ⟨b, 0, none⟩), .int .i64 t, .pointer none] w fun e w' => e = .returned (.bool true) ∧ Ext w w' := by
  have CL := Lib.hid (BWLayout32 b g y f lv log ups w K B)
  clear B K
  go_enter Tryz.func62, Tryz.ntmps62
  go_wp2_with fail
  refine CL.out.mono ?_
  rintro e wo ⟨u, rfl, L1, Xo⟩
  obtain ⟨ua, uc, rfl, -⟩ := L1
  have Ho := Lib.hid Xo
  clear Xo CL
  go_wp2
  go_ret
  exact ⟨rfl, Ho.out.trans ((Ext.refl wo).alloc _)⟩
set_option maxRecDepth 100000 in
/-- no board -/
theorem Enter32_nilb (t : Int) (a : Addr) (w : World) : Calls Tryz.prog 62 #[.pointer none, .int .i64 t, .pointer (some a)] w fun e w' => e = .returned (.bool true) ∧ Ext w w' := by
  go_enter Tryz.func62, Tryz.ntmps62
  go_wp2_with fail
  refine (Layout32_void _).mono ?_
  rintro e w1 ⟨rfl, hb1⟩
  obtain ⟨hc1, hf1⟩ := hb1.cells
  have Ho := Lib.hid hb1
  clear hb1
  go_upto_region 2 with (fail)
  clear hc1 hf1
  refine settle_wp ?_
  intro w2 hb2
  have ql_0 : w2.cell? ⟨w1.heap.size, 0, none⟩ = some (.int .i64 0) := (hb2.cells.1 _ _ (by simp <;> omega)).trans (by simp [go_sem])
  have ql_1 : w2.cell? ⟨w1.heap.size, 1, none⟩ = some (.int .i64 0) := (hb2.cells.1 _ _ (by simp <;> omega)).trans (by simp [go_sem])
  have ql_2 : w2.cell? ⟨w1.heap.size, 2, none⟩ = some (.int .i64 0) := (hb2.cells.1 _ _ (by simp <;> omega)).trans (by simp [go_sem])
  have ql_3 : w2.cell? ⟨w1.heap.size, 3, none⟩ = some (.int .i64 0) := (hb2.cells.1 _ _ (by simp <;> omega)).trans (by simp [go_sem])
  have ql_4 : w2.cell? ⟨w1.heap.size, 4, none⟩ = some (.int .u64 0) := (hb2.cells.1 _ _ (by simp <;> omega)).trans (by simp [go_sem])
  have ql_5 : w2.cell? ⟨w1.heap.size, 5, none⟩ = some (.slice none 0 0) := (hb2.cells.1 _ _ (by simp <;> omega)).trans (by simp [go_sem])
  have ql_6 : w2.cell? ⟨w1.heap.size, 6, none⟩ = some (.int .i64 0) := (hb2.cells.1 _ _ (by simp <;> omega)).trans (by simp [go_sem])
  have ql_7 : w2.cell? ⟨w1.heap.size, 7, none⟩ = some (.int .i64 0) := (hb2.cells.1 _ _ (by simp <;> omega)).trans (by simp [go_sem])
  have ql_8 : w2.cell? ⟨w1.heap.size, 8, none⟩ = some (.int .i64 0) := (hb2.cells.1 _ _ (by simp <;> omega)).trans (by simp [go_sem])
  have ql_9 : w2.cell? ⟨w1.heap.size, 9, none⟩ = some (.int .i64 0) := (hb2.cells.1 _ _ (by simp <;> omega)).trans (by simp [go_sem])
  have ql_10 : w2.cell? ⟨w1.heap.size, 10, none⟩ = some (.int .i64 0) := (hb2.cells.1 _ _ (by simp <;> omega)).trans (by simp [go_sem])
  have ql_11 : w2.cell? ⟨w1.heap.size, 11, none⟩ = some (.int .i64 0) := (hb2.cells.1 _ _ (by simp <;> omega)).trans (by simp [go_sem])
  have ql_12 : w2.cell? ⟨w1.heap.size, 12, none⟩ = some (.int .i64 0) := (hb2.cells.1 _ _ (by simp <;> omega)).trans (by simp [go_sem])
  have ql_13 : w2.cell? ⟨w1.heap.size, 13, none⟩ = some (.int .i64 0) := (hb2.cells.1 _ _ (by simp <;> omega)).trans (by simp [go_sem])
  have pl := World.block_lt_of_cell? _ ⟨w1.heap.size, 0, none⟩ ql_0
  have rl := Nat.lt_succ_of_lt pl
  go_wp2_with fail
  refine (tnHas _ _ _ _ _ _ _ _ _ _ _ _ _ _ _ _ _).mono ?_
  rintro e w3 ⟨rfl, hb3⟩
  have hx3 : Ext w2 w3 := by repeat (first | with_reducible exact Ext.refl _ | with_reducible assumption | with_reducible refine Ext.alloc ?_ _ | with_reducible refine Ext.drew ?_ | with_reducible refine Ext.drewN ?_ _ | with_reducible refine Ext.setCell ?_ (by simp <;> omega) _ | with_reducible refine Ext.trans ?_ (by assumption))
  replace ql_0 := hx3.cell ql_0
  replace ql_1 := hx3.cell ql_1
  replace ql_2 := hx3.cell ql_2
  replace ql_3 := hx3.cell ql_3
  replace ql_4 := hx3.cell ql_4
  replace ql_5 := hx3.cell ql_5
  replace ql_6 := hx3.cell ql_6
  replace ql_7 := hx3.cell ql_7
  replace ql_8 := hx3.cell ql_8
  replace ql_9 := hx3.cell ql_9
  replace ql_10 := hx3.cell ql_10
  replace ql_11 := hx3.cell ql_11
  replace ql_12 := hx3.cell ql_12
  replace ql_13 := hx3.cell ql_13
  replace pl := Nat.lt_of_lt_of_le pl hx3.size
  replace rl := Nat.lt_succ_of_lt pl
  clear hx3
  go_wp2
  go_ret
  exact ⟨rfl, Ho.out.trans (Ext.trans ((Ext.refl w1).alloc _) (hb2.trans hb3))⟩
theorem Layout64_void (w : World) : Calls Tryz.prog 99 #[.pointer none] w fun e w' => e = .returned (.agg #[.int .i64 0, .int .i64 0, .int .i64 0, .int .i64 0, .int .u64 0, .slice none 0 0, .int .i64 0, .int .i64 0, .int .i64 0, .int .i64 0, .int .i64 0, .int .i64 0, .int .i64 0, .int .i64 0]) ∧ Ext w w' := by
  go_enter Tryz.func99, Tryz.ntmps99
  go_wp2
  refine bodyPost_ret (v := (.agg #[.int .i64 0, .int .i64 0, .int .i64 0, .int .i64 0, .int .u64 0, .slice none 0 0, .int .i64 0, .int .i64 0, .int .i64 0, .int .i64 0, .int .i64 0, .int .i64 0, .int .i64 0, .int .i64 0])) (by simp [results, Tryz.results99, go_sem]) rfl ⟨rfl, ?_⟩
  repeat (first | with_reducible exact Ext.refl _ | with_reducible assumption | with_reducible refine Ext.alloc ?_ _ | with_reducible refine Ext.drew ?_ | with_reducible refine Ext.drewN ?_ _ | with_reducible refine Ext.setCell ?_ (by simp <;> omega) _ | with_reducible refine Ext.trans ?_ (by assumption))
/-- a thread's frame: where an Enter has come to, the ticket -/
structure FT64 (w : World) (fb o : Nat) (Pc Ow : Int) : Prop where
  c3 : w.cell? ⟨fb, o + 3, none⟩ = some (.int .i64 Pc)
  z3 : w.frozen? ⟨fb, o + 3, none⟩ = false
  c9 : w.cell? ⟨fb, o + 9, none⟩ = some (.int .u64 Ow)
  z9 : w.frozen? ⟨fb, o + 9, none⟩ = false
  od : Odd w fb
theorem FT64.but {S : Nat → Prop} {w w' : World} {fb o : Nat} {Pc Ow : Int} (h : FT64 w fb o Pc Ow) (hb : But S w w') (hs : ¬ S fb) : FT64 w' fb o Pc Ow := ⟨hb.cell h.c3 hs, hb.frozen h.c3 h.z3 hs, hb.cell h.c9 hs, hb.frozen h.c9 h.z9 hs, h.od.but hb hs⟩
theorem FT64.ext {w w' : World} {fb o : Nat} {Pc Ow : Int} (h : FT64 w fb o Pc Ow) (hx : Ext w w') : FT64 w' fb o Pc Ow := h.but (hx.but (fun _ => False)) id
theorem FT64.set3 {w : World} {fb o : Nat} {Pc Ow : Int} (h : FT64 w fb o Pc Ow) (Pc' : Int) : FT64 (w.setCell ⟨fb, o + 3, none⟩ (.int .i64 Pc')) fb o Pc' Ow :=
  ⟨World.cell?_setCell_same _ _ _ h.c3, by rw [World.frozen?_setCell]; exact h.z3, by rw [World.cell?_setCell_other _ _ _ _ (fun e => by have := congrArg Addr.off e; simp at this)]; exact h.c9, by rw [World.frozen?_setCell]; exact h.z9, h.od.set⟩
theorem FT64.set9 {w : World} {fb o : Nat} {Pc Ow : Int} (h : FT64 w fb o Pc Ow) (Ow' : Int) : FT64 (w.setCell ⟨fb, o + 9, none⟩ (.int .u64 Ow')) fb o Pc Ow' :=
  ⟨by rw [World.cell?_setCell_other _ _ _ _ (fun e => by have := congrArg Addr.off e; simp at this)]; exact h.c3, by rw [World.frozen?_setCell]; exact h.z3, World.cell?_setCell_same _ _ _ h.c9, by rw [World.frozen?_setCell]; exact h.z9, h.od.set⟩
/-- the frame's other cells stay -/
structure Keep64 (w w' : World) (fb o : Nat) : Prop where
  c : ∀ j v, j ≠ o + 3 → j ≠ o + 9 → w.cell? ⟨fb, j, none⟩ = some v → w'.cell? ⟨fb, j, none⟩ = some v
  z : ∀ j v, w.cell? ⟨fb, j, none⟩ = some v → w.frozen? ⟨fb, j, none⟩ = false → w'.frozen? ⟨fb, j, none⟩ = false
theorem Keep64.set {w w' : World} {fb o : Nat} (h : Keep64 w w' fb o) (k : Nat) (hk : k = o + 3 ∨ k = o + 9) (u : Value) : Keep64 w (w'.setCell ⟨fb, k, none⟩ u) fb o :=
  ⟨fun j v h3 h9 hc => by
    rw [World.cell?_setCell_other _ _ _ _ (fun e => by have := congrArg Addr.off e; simp at this; omega)]
    exact h.c j v h3 h9 hc, fun j v hc hz => by rw [World.frozen?_setCell]; exact h.z j v hc hz⟩
theorem Keep64.of {S : Nat → Prop} {w w' : World} {fb o : Nat} (hb : But S w w') (hs : ¬ S fb) : Keep64 w w' fb o := ⟨fun j v _ _ hc => hb.cell hc hs, fun j v hc hz => hb.frozen hc hz hs⟩
theorem Keep64.refl (w : World) (fb o : Nat) : Keep64 w w fb o := ⟨fun _ _ _ _ h => h, fun _ _ _ h => h⟩
/-- a step of Enter: the answer, the board, the frame -/
def EnterDoes64 (b g fb o : Nat) (y : LY) (ups : List (List Int)) (lv : Value) (f' : Nat → Int) (log' : List Acc) (r : Bool) (Pc' Ow' : Int) (w : World) (e : Ending) (w' : World) : Prop :=
  e = .returned (.bool r) ∧ ∃ lv', BW w' 141 b g y f' lv' log' ups ∧ FT64 w' fb o Pc' Ow' ∧ Aside w' b g lv' fb ∧ Keep64 w w' fb o ∧ But (fun k => Own b g lv k ∨ k = fb) w w' ∧ (lv'.ownBlock = lv.ownBlock ∨ ∃ j, lv'.ownBlock = some j ∧ w.heap.size ≤ j)
theorem enter_fin64 {b g fb o : Nat} {y : LY} {ups : List (List Int)} {f f' : Nat → Int} {lv lv1 : Value} {log log' : List Acc} {r : Bool} {Pc Ow Pc' Ow' : Int} {w w1 w2 : World} (B : BW w 141 b g y f lv log ups) (X : Aside w b g lv fb) (F : FT64 w fb o Pc Ow) (B1 : BD w1 141 b g y f' lv1 log') (N : But (Own b g lv) w w1) (A : lv1.ownBlock = lv.ownBlock ∨ ∃ j, lv1.ownBlock = some j ∧ w.heap.size ≤ j)
    (F2 : FT64 w2 fb o Pc' Ow') (C : But (· = fb) w1 w2) (Kp : Keep64 w1 w2 fb o) : EnterDoes64 b g fb o y ups lv f' log' r Pc' Ow' w (.returned (.bool r)) w2 := by
  have BW1 := B.step B1 N (by decide) (by decide)
  have X1 := X.step N A
  have F1 := F.but N X.out
  have hs : ∀ k, Own b g lv1 k → ¬ k = fb := fun k hk e => X1.out (by rw [← e]; exact hk)
  exact ⟨rfl, lv1, BW1.but C hs (fun k hk _ => by rw [hk]; exact F1.od), F2, ⟨X1.out, Nat.lt_of_lt_of_le X1.lt C.size⟩, ⟨fun j v h3 h9 hc => Kp.c j v h3 h9 (N.cell hc X.out), fun j v hc hz => Kp.z j v (N.cell hc X.out) (N.frozen hc hz X.out)⟩, (N.mono fun _ _ h => .inl h).trans (C.mono fun _ _ h => .inr h), A⟩
set_option maxRecDepth 100000 in
/-- the first step takes a ticket -/
theorem Enter64_take (b g fb o : Nat) (y : LY) (f : Nat → Int) (lv : Value) (log : List Acc) (ups : List (List Int)) (t Ow : Int) (w : World) (K : BK y ups) (B : BW w 141 b g y f lv log ups) (E : Parts w) (F : FT64 w fb o 0 Ow) (X : Aside w b g lv fb) (hV : y.V = 5) (f0 : 0 ≤ f y.n) (f1 : f y.n < 18446744073709551616) (hl : log.length ≤ 1000) :
    Calls Tryz.prog 72 #[.pointer (some ⟨b, 0, none⟩), .int .i64 t, .pointer (some ⟨fb, o, none⟩)] w (EnterDoes64 b g fb o y ups lv (upd f y.n ((U64 ((U64 (f y.n)) + 1)))) (log ++ [⟨t, 3, y.n, f y.n, ((U64 ((U64 (f y.n)) + 1)))⟩]) false 1 ((U64 (f y.n))) w) := by
  have CL := Lib.hid (BWLayout64 b g y f lv log ups w K B)
  obtain ⟨kTi, kSe, kk1, kk2, klt⟩ := K.lock hV
  have HF := Lib.hid F
  have HX := Lib.hid X
  have HB := Lib.hid B.B
  have HE := Lib.hid E
  have hfld : ∀ (u : Value) (x1 x2 x3 x4 x5 x6 x7 x8 : Int) (w : World), (Instr.field 31 (.agg #[.int .i64 (y.V), .int .i64 (y.W), .int .i64 (y.C), .int .i64 (y.P), .int .u64 (y.S), u, .int .i64 x1, .int .i64 x2, .int .i64 x3, .int .i64 x4, .int .i64 x5, .int .i64 x6, .int .i64 x7, .int .i64 x8]) 0).run Tryz.prog w = .ok (.agg #[.int .i64 (y.V), .int .i64 (y.W), .int .i64 (y.C), .int .i64 (y.P), .int .u64 (y.S), u]) w := fun u x1 x2 x3 x4 x5 x6 x7 x8 w => by kernel_rfl
  have hV5 : (y.V == 5) = true := by simp [hV]
  have CA := Lib.hid (fun w1 (h : BD w1 141 b g y f lv log) (E1 : Parts w1) => Add64_yes b g y f lv log t 1 y.n w1 h K.yok E1 kk1 f0 f1 hl)
  have HFIN := Lib.hid (fun lv1 w1 w2 (h1 : BD w1 141 b g y (upd f y.n ((U64 ((U64 (f y.n)) + 1)))) lv1 (log ++ [⟨t, 3, y.n, f y.n, ((U64 ((U64 (f y.n)) + 1)))⟩])) (hN : But (Own b g lv) w w1) (hA : lv1.ownBlock = lv.ownBlock ∨ ∃ j, lv1.ownBlock = some j ∧ w.heap.size ≤ j) (F2 : FT64 w2 fb o 1 ((U64 (f y.n)))) (hC : But (· = fb) w1 w2) (Kp : Keep64 w1 w2 fb o) => enter_fin64 (r := false) B X F h1 hN hA F2 hC Kp)
  generalize hG : EnterDoes64 b g fb o y ups lv (upd f y.n ((U64 ((U64 (f y.n)) + 1)))) (log ++ [⟨t, 3, y.n, f y.n, ((U64 ((U64 (f y.n)) + 1)))⟩]) false 1 ((U64 (f y.n))) w = G at *
  generalize hz : ((U64 (f y.n))) = z at *
  clear hG hz B F X E K kk1 kk2 klt f0 f1 hV
  go_enter Tryz.func72, Tryz.ntmps72
  go_wp2_with fail
  refine CL.out.mono ?_
  rintro e wo ⟨u, rfl, L1, Xo⟩
  obtain ⟨ua, uc, rfl, -⟩ := L1
  rw [kTi, kSe]
  have Ho := Lib.hid Xo
  clear Xo CL kTi kSe
  go_upto_region 2 with (fail)
  refine settle_wp ?_
  intro w1 hb1
  have ql_0 : w1.cell? ⟨wo.heap.size, 0, none⟩ = some (.int .i64 (y.V)) := (hb1.cells.1 _ _ (by simp <;> omega)).trans (by simp [go_sem])
  have ql_1 : w1.cell? ⟨wo.heap.size, 1, none⟩ = some (.int .i64 (y.W)) := (hb1.cells.1 _ _ (by simp <;> omega)).trans (by simp [go_sem])
  have ql_2 : w1.cell? ⟨wo.heap.size, 2, none⟩ = some (.int .i64 (y.C)) := (hb1.cells.1 _ _ (by simp <;> omega)).trans (by simp [go_sem])
  have ql_3 : w1.cell? ⟨wo.heap.size, 3, none⟩ = some (.int .i64 (y.P)) := (hb1.cells.1 _ _ (by simp <;> omega)).trans (by simp [go_sem])
  have ql_4 : w1.cell? ⟨wo.heap.size, 4, none⟩ = some (.int .u64 (y.S)) := (hb1.cells.1 _ _ (by simp <;> omega)).trans (by simp [go_sem])
  have ql_5 : w1.cell? ⟨wo.heap.size, 5, none⟩ = some (.slice ua ups.length uc) := (hb1.cells.1 _ _ (by simp <;> omega)).trans (by simp [go_sem])
  have ql_6 : w1.cell? ⟨wo.heap.size, 6, none⟩ = some (.int .i64 (y.Cu)) := (hb1.cells.1 _ _ (by simp <;> omega)).trans (by simp [go_sem])
  have ql_7 : w1.cell? ⟨wo.heap.size, 7, none⟩ = some (.int .i64 (y.Cl)) := (hb1.cells.1 _ _ (by simp <;> omega)).trans (by simp [go_sem])
  have ql_8 : w1.cell? ⟨wo.heap.size, 8, none⟩ = some (.int .i64 (y.n)) := (hb1.cells.1 _ _ (by simp <;> omega)).trans (by simp [go_sem])
  have ql_9 : w1.cell? ⟨wo.heap.size, 9, none⟩ = some (.int .i64 (y.n + 1)) := (hb1.cells.1 _ _ (by simp <;> omega)).trans (by simp [go_sem])
  have ql_10 : w1.cell? ⟨wo.heap.size, 10, none⟩ = some (.int .i64 (y.Ne)) := (hb1.cells.1 _ _ (by simp <;> omega)).trans (by simp [go_sem])
  have ql_11 : w1.cell? ⟨wo.heap.size, 11, none⟩ = some (.int .i64 (y.Ma)) := (hb1.cells.1 _ _ (by simp <;> omega)).trans (by simp [go_sem])
  have ql_12 : w1.cell? ⟨wo.heap.size, 12, none⟩ = some (.int .i64 (y.Sl)) := (hb1.cells.1 _ _ (by simp <;> omega)).trans (by simp [go_sem])
  have ql_13 : w1.cell? ⟨wo.heap.size, 13, none⟩ = some (.int .i64 (y.m)) := (hb1.cells.1 _ _ (by simp <;> omega)).trans (by simp [go_sem])
  have pl := World.block_lt_of_cell? _ ⟨wo.heap.size, 0, none⟩ ql_0
  have rl := Nat.lt_succ_of_lt pl
  go_wp2_with fail
  refine (tnHas _ _ _ _ _ _ _ _ _ _ _ _ _ _ _ _ _).mono ?_
  rintro e w2 ⟨rfl, hb2⟩
  have hx2 : Ext w1 w2 := by repeat (first | with_reducible exact Ext.refl _ | with_reducible assumption | with_reducible refine Ext.alloc ?_ _ | with_reducible refine Ext.drew ?_ | with_reducible refine Ext.drewN ?_ _ | with_reducible refine Ext.setCell ?_ (by simp <;> omega) _ | with_reducible refine Ext.trans ?_ (by assumption))
  replace ql_0 := hx2.cell ql_0
  replace ql_1 := hx2.cell ql_1
  replace ql_2 := hx2.cell ql_2
  replace ql_3 := hx2.cell ql_3
  replace ql_4 := hx2.cell ql_4
  replace ql_5 := hx2.cell ql_5
  replace ql_6 := hx2.cell ql_6
  replace ql_7 := hx2.cell ql_7
  replace ql_8 := hx2.cell ql_8
  replace ql_9 := hx2.cell ql_9
  replace ql_10 := hx2.cell ql_10
  replace ql_11 := hx2.cell ql_11
  replace ql_12 := hx2.cell ql_12
  replace ql_13 := hx2.cell ql_13
  replace pl := Nat.lt_of_lt_of_le pl hx2.size
  replace rl := Nat.lt_succ_of_lt pl
  clear hx2
  have XE : Ext w w2 := Ho.out.trans (Ext.trans ((Ext.refl wo).alloc _) (hb1.trans hb2))
  have F2 := HF.out.ext XE
  have HF2 := Lib.hid F2
  have HX2 := Lib.hid (HX.out.ext XE)
  have HB2 := Lib.hid (HB.out.ext XE)
  have HE2 := Lib.hid (HE.out.ext XE)
  have HXE := Lib.hid XE
  have nl : ¬ Own b g lv wo.heap.size := fun h => by
    have h1 := HB.out.lt h
    have h2 := Ho.out.size
    omega
  have q3 := F2.c3
  have q9 := F2.c9
  clear XE F2 hb1 hb2
  go_wp2_with fail
  refine (CA.out _ HB2.out HE2.out).mono ?_
  rintro e w3 ⟨rfl, lv3, B3, N3, A3⟩
  have F3 := HF2.out.but N3 HX2.out.out
  have r3 := F3.c3
  have y3 := F3.z3
  have r9 := F3.c9
  have y9 := F3.z9
  have HF3 := Lib.hid F3
  have HN3 := Lib.hid ((HXE.out.but (Own b g lv)).trans N3)
  have HB3 := Lib.hid B3
  have HA3 : Hid (lv3.ownBlock = lv.ownBlock ∨ ∃ j, lv3.ownBlock = some j ∧ w.heap.size ≤ j) := Lib.hid (A3.imp id (fun ⟨j, e, hj⟩ => ⟨j, e, Nat.le_trans HXE.out.size hj⟩))
  clear F3 N3 B3 A3 q3 q9 ql_0 ql_1 ql_2 ql_3 ql_4 ql_5 ql_6 ql_7 ql_8 ql_9 ql_10 ql_11 ql_12 ql_13 hfld hV5
  have hne : (⟨fb, o + 3, none⟩ : Addr) ≠ ⟨fb, o + 9, none⟩ := fun e => by have := congrArg Addr.off e; simp at this
  go_wp2
  exact HFIN.out lv3 w3 _ HB3.out HN3.out HA3.out ((HF3.out.set9 z).set3 1) ((but_setCell w3 ⟨fb, o + 9, none⟩ _).trans (but_setCell _ ⟨fb, o + 3, none⟩ _)) (((Keep64.refl w3 fb o).set (o + 9) (.inr rfl) _).set (o + 3) (.inl rfl) _)
set_option maxRecDepth 100000 in
/-- a step that waits -/
theorem Enter64_wait (b g fb o : Nat) (y : LY) (f : Nat → Int) (lv : Value) (log : List Acc) (ups : List (List Int)) (t Pc Ow : Int) (w : World) (K : BK y ups) (B : BW w 141 b g y f lv log ups) (E : Parts w) (F : FT64 w fb o Pc Ow) (X : Aside w b g lv fb) (hV : y.V = 5) (hP : ¬ Pc = 0) (hS : ¬ (U64 (f (y.n + 1))) = Ow) (f0 : 0 ≤ f (y.n + 1)) (f1 : f (y.n + 1) < 18446744073709551616) (hl : log.length ≤ 1000) :
    Calls Tryz.prog 72 #[.pointer (some ⟨b, 0, none⟩), .int .i64 t, .pointer (some ⟨fb, o, none⟩)] w (EnterDoes64 b g fb o y ups lv f (log ++ [⟨t, 1, (y.n + 1 : Nat), f (y.n + 1), f (y.n + 1)⟩]) false Pc Ow w) := by
  have CL := Lib.hid (BWLayout64 b g y f lv log ups w K B)
  obtain ⟨kTi, kSe, kk1, kk2, klt⟩ := K.lock hV
  have HF := Lib.hid F
  have HX := Lib.hid X
  have HB := Lib.hid B.B
  have HE := Lib.hid E
  have hfld : ∀ (u : Value) (x1 x2 x3 x4 x5 x6 x7 x8 : Int) (w : World), (Instr.field 31 (.agg #[.int .i64 (y.V), .int .i64 (y.W), .int .i64 (y.C), .int .i64 (y.P), .int .u64 (y.S), u, .int .i64 x1, .int .i64 x2, .int .i64 x3, .int .i64 x4, .int .i64 x5, .int .i64 x6, .int .i64 x7, .int .i64 x8]) 0).run Tryz.prog w = .ok (.agg #[.int .i64 (y.V), .int .i64 (y.W), .int .i64 (y.C), .int .i64 (y.P), .int .u64 (y.S), u]) w := fun u x1 x2 x3 x4 x5 x6 x7 x8 w => by kernel_rfl
  have hV5 : (y.V == 5) = true := by simp [hV]
  have CA := Lib.hid (fun w1 (h : BD w1 141 b g y f lv log) (E1 : Parts w1) => Load64_yes b g y f lv log t (y.n + 1) w1 h K.yok E1 kk2 f0 f1 hl)
  have HFIN := Lib.hid (fun lv1 w1 w2 (h1 : BD w1 141 b g y f lv1 (log ++ [⟨t, 1, (y.n + 1 : Nat), f (y.n + 1), f (y.n + 1)⟩])) (hN : But (Own b g lv) w w1) (hA : lv1.ownBlock = lv.ownBlock ∨ ∃ j, lv1.ownBlock = some j ∧ w.heap.size ≤ j) (F2 : FT64 w2 fb o Pc Ow) (hC : But (· = fb) w1 w2) (Kp : Keep64 w1 w2 fb o) => enter_fin64 (r := false) B X F h1 hN hA F2 hC Kp)
  have hP0 : (Pc == 0) = false := by simpa using hP
  have hSB : ((U64 (f (y.n + 1))) == Ow) = false := by simpa using hS
  generalize hG : EnterDoes64 b g fb o y ups lv f (log ++ [⟨t, 1, (y.n + 1 : Nat), f (y.n + 1), f (y.n + 1)⟩]) false Pc Ow w = G at *
  generalize hz : ((U64 (f (y.n + 1)))) = z at *
  clear hG hz B F X E K kk1 kk2 klt f0 f1 hV hP hS
  go_enter Tryz.func72, Tryz.ntmps72
  go_wp2_with fail
  refine CL.out.mono ?_
  rintro e wo ⟨u, rfl, L1, Xo⟩
  obtain ⟨ua, uc, rfl, -⟩ := L1
  rw [kTi, kSe]
  have Ho := Lib.hid Xo
  clear Xo CL kTi kSe
  go_upto_region 2 with (fail)
  refine settle_wp ?_
  intro w1 hb1
  have ql_0 : w1.cell? ⟨wo.heap.size, 0, none⟩ = some (.int .i64 (y.V)) := (hb1.cells.1 _ _ (by simp <;> omega)).trans (by simp [go_sem])
  have ql_1 : w1.cell? ⟨wo.heap.size, 1, none⟩ = some (.int .i64 (y.W)) := (hb1.cells.1 _ _ (by simp <;> omega)).trans (by simp [go_sem])
  have ql_2 : w1.cell? ⟨wo.heap.size, 2, none⟩ = some (.int .i64 (y.C)) := (hb1.cells.1 _ _ (by simp <;> omega)).trans (by simp [go_sem])
  have ql_3 : w1.cell? ⟨wo.heap.size, 3, none⟩ = some (.int .i64 (y.P)) := (hb1.cells.1 _ _ (by simp <;> omega)).trans (by simp [go_sem])
  have ql_4 : w1.cell? ⟨wo.heap.size, 4, none⟩ = some (.int .u64 (y.S)) := (hb1.cells.1 _ _ (by simp <;> omega)).trans (by simp [go_sem])
  have ql_5 : w1.cell? ⟨wo.heap.size, 5, none⟩ = some (.slice ua ups.length uc) := (hb1.cells.1 _ _ (by simp <;> omega)).trans (by simp [go_sem])
  have ql_6 : w1.cell? ⟨wo.heap.size, 6, none⟩ = some (.int .i64 (y.Cu)) := (hb1.cells.1 _ _ (by simp <;> omega)).trans (by simp [go_sem])
  have ql_7 : w1.cell? ⟨wo.heap.size, 7, none⟩ = some (.int .i64 (y.Cl)) := (hb1.cells.1 _ _ (by simp <;> omega)).trans (by simp [go_sem])
  have ql_8 : w1.cell? ⟨wo.heap.size, 8, none⟩ = some (.int .i64 (y.n)) := (hb1.cells.1 _ _ (by simp <;> omega)).trans (by simp [go_sem])
  have ql_9 : w1.cell? ⟨wo.heap.size, 9, none⟩ = some (.int .i64 (y.n + 1)) := (hb1.cells.1 _ _ (by simp <;> omega)).trans (by simp [go_sem])
  have ql_10 : w1.cell? ⟨wo.heap.size, 10, none⟩ = some (.int .i64 (y.Ne)) := (hb1.cells.1 _ _ (by simp <;> omega)).trans (by simp [go_sem])
  have ql_11 : w1.cell? ⟨wo.heap.size, 11, none⟩ = some (.int .i64 (y.Ma)) := (hb1.cells.1 _ _ (by simp <;> omega)).trans (by simp [go_sem])
  have ql_12 : w1.cell? ⟨wo.heap.size, 12, none⟩ = some (.int .i64 (y.Sl)) := (hb1.cells.1 _ _ (by simp <;> omega)).trans (by simp [go_sem])
  have ql_13 : w1.cell? ⟨wo.heap.size, 13, none⟩ = some (.int .i64 (y.m)) := (hb1.cells.1 _ _ (by simp <;> omega)).trans (by simp [go_sem])
  have pl := World.block_lt_of_cell? _ ⟨wo.heap.size, 0, none⟩ ql_0
  have rl := Nat.lt_succ_of_lt pl
  go_wp2_with fail
  refine (tnHas _ _ _ _ _ _ _ _ _ _ _ _ _ _ _ _ _).mono ?_
  rintro e w2 ⟨rfl, hb2⟩
  have hx2 : Ext w1 w2 := by repeat (first | with_reducible exact Ext.refl _ | with_reducible assumption | with_reducible refine Ext.alloc ?_ _ | with_reducible refine Ext.drew ?_ | with_reducible refine Ext.drewN ?_ _ | with_reducible refine Ext.setCell ?_ (by simp <;> omega) _ | with_reducible refine Ext.trans ?_ (by assumption))
  replace ql_0 := hx2.cell ql_0
  replace ql_1 := hx2.cell ql_1
  replace ql_2 := hx2.cell ql_2
  replace ql_3 := hx2.cell ql_3
  replace ql_4 := hx2.cell ql_4
  replace ql_5 := hx2.cell ql_5
  replace ql_6 := hx2.cell ql_6
  replace ql_7 := hx2.cell ql_7
  replace ql_8 := hx2.cell ql_8
  replace ql_9 := hx2.cell ql_9
  replace ql_10 := hx2.cell ql_10
  replace ql_11 := hx2.cell ql_11
  replace ql_12 := hx2.cell ql_12
  replace ql_13 := hx2.cell ql_13
  replace pl := Nat.lt_of_lt_of_le pl hx2.size
  replace rl := Nat.lt_succ_of_lt pl
  clear hx2
  have XE : Ext w w2 := Ho.out.trans (Ext.trans ((Ext.refl wo).alloc _) (hb1.trans hb2))
  have F2 := HF.out.ext XE
  have HF2 := Lib.hid F2
  have HX2 := Lib.hid (HX.out.ext XE)
  have HB2 := Lib.hid (HB.out.ext XE)
  have HE2 := Lib.hid (HE.out.ext XE)
  have HXE := Lib.hid XE
  have nl : ¬ Own b g lv wo.heap.size := fun h => by
    have h1 := HB.out.lt h
    have h2 := Ho.out.size
    omega
  have q3 := F2.c3
  have q9 := F2.c9
  clear XE F2 hb1 hb2
  go_upto_region 8 with (fail)
  refine wp_region_held_drew (S := (fun w' => But (Own b g lv) w2 w')) (by kernel_rfl) ?hbeg (fun hHeld => ?_)
  case hbeg => exact ((Ext.refl w2).drew).but _
  have k4 := fun w' (hx : But (Own b g lv) w2 w') => hx.cell ql_9 nl
  have k9 := fun w' (hx : But (Own b g lv) w2 w') => hx.cell q9 HX2.out.out
  first
    | (refine take_at (i := 0) (v := ?_) rfl rfl (by kernel_rfl) (by kernel_rfl) (by kernel_rfl) (fun _ _ _ h => h) (Or.inl ⟨by rfl, ?hy⟩) (by assumption) ?_
       case hy => (intro wz hSw; (try dsimp only at hSw); go_simp <;> with_reducible rfl)
       simp only [List.setIfInBounds_toArray, List.set_cons_zero, List.set_cons_succ])
    | (refine take_at (i := 0) (v := undef) rfl rfl (by kernel_rfl) (by kernel_rfl) (by kernel_rfl) (fun _ _ _ h => h) (Or.inr ⟨by rfl, rfl⟩) (by assumption) ?_
       simp only [List.setIfInBounds_toArray, List.set_cons_zero, List.set_cons_succ])
  first
    | (refine take_at (i := 1) (v := ?_) rfl rfl (by kernel_rfl) (by kernel_rfl) (by kernel_rfl) (fun _ _ _ h => h) (Or.inl ⟨by rfl, ?hy⟩) (by assumption) ?_
       case hy => (intro wz hSw; (try dsimp only at hSw); go_simp <;> with_reducible rfl)
       simp only [List.setIfInBounds_toArray, List.set_cons_zero, List.set_cons_succ])
    | (refine take_at (i := 1) (v := undef) rfl rfl (by kernel_rfl) (by kernel_rfl) (by kernel_rfl) (fun _ _ _ h => h) (Or.inr ⟨by rfl, rfl⟩) (by assumption) ?_
       simp only [List.setIfInBounds_toArray, List.set_cons_zero, List.set_cons_succ])
  first
    | (refine take_at (i := 2) (v := ?_) rfl rfl (by kernel_rfl) (by kernel_rfl) (by kernel_rfl) (fun _ _ _ h => h) (Or.inl ⟨by rfl, ?hy⟩) (by assumption) ?_
       case hy => (intro wz hSw; (try dsimp only at hSw); go_simp <;> with_reducible rfl)
       simp only [List.setIfInBounds_toArray, List.set_cons_zero, List.set_cons_succ])
    | (refine take_at (i := 2) (v := undef) rfl rfl (by kernel_rfl) (by kernel_rfl) (by kernel_rfl) (fun _ _ _ h => h) (Or.inr ⟨by rfl, rfl⟩) (by assumption) ?_
       simp only [List.setIfInBounds_toArray, List.set_cons_zero, List.set_cons_succ])
  first
    | (refine take_at (i := 3) (v := ?_) rfl rfl (by kernel_rfl) (by kernel_rfl) (by kernel_rfl) (fun _ _ _ h => h) (Or.inl ⟨by rfl, ?hy⟩) (by assumption) ?_
       case hy => (intro wz hSw; (try dsimp only at hSw); go_simp <;> with_reducible rfl)
       simp only [List.setIfInBounds_toArray, List.set_cons_zero, List.set_cons_succ])
    | (refine take_at (i := 3) (v := undef) rfl rfl (by kernel_rfl) (by kernel_rfl) (by kernel_rfl) (fun _ _ _ h => h) (Or.inr ⟨by rfl, rfl⟩) (by assumption) ?_
       simp only [List.setIfInBounds_toArray, List.set_cons_zero, List.set_cons_succ])
  first
    | (refine take_at (i := 5) (v := ?_) rfl rfl (by kernel_rfl) (by kernel_rfl) (by kernel_rfl) (fun _ _ _ h => h) (Or.inl ⟨by rfl, ?hy⟩) (by assumption) ?_
       case hy => (intro wz hSw; (try dsimp only at hSw); go_simp <;> with_reducible rfl)
       simp only [List.setIfInBounds_toArray, List.set_cons_zero, List.set_cons_succ])
    | (refine take_at (i := 5) (v := undef) rfl rfl (by kernel_rfl) (by kernel_rfl) (by kernel_rfl) (fun _ _ _ h => h) (Or.inr ⟨by rfl, rfl⟩) (by assumption) ?_
       simp only [List.setIfInBounds_toArray, List.set_cons_zero, List.set_cons_succ])
  first
    | (refine take_at (i := 6) (v := ?_) rfl rfl (by kernel_rfl) (by kernel_rfl) (by kernel_rfl) (fun _ _ _ h => h) (Or.inl ⟨by rfl, ?hy⟩) (by assumption) ?_
       case hy => (intro wz hSw; (try dsimp only at hSw); go_simp <;> with_reducible rfl)
       simp only [List.setIfInBounds_toArray, List.set_cons_zero, List.set_cons_succ])
    | (refine take_at (i := 6) (v := undef) rfl rfl (by kernel_rfl) (by kernel_rfl) (by kernel_rfl) (fun _ _ _ h => h) (Or.inr ⟨by rfl, rfl⟩) (by assumption) ?_
       simp only [List.setIfInBounds_toArray, List.set_cons_zero, List.set_cons_succ])
  first
    | (refine take_at (i := 7) (v := ?_) rfl rfl (by kernel_rfl) (by kernel_rfl) (by kernel_rfl) (fun _ _ _ h => h) (Or.inl ⟨by rfl, ?hy⟩) (by assumption) ?_
       case hy => (intro wz hSw; (try dsimp only at hSw); go_simp <;> with_reducible rfl)
       simp only [List.setIfInBounds_toArray, List.set_cons_zero, List.set_cons_succ])
    | (refine take_at (i := 7) (v := undef) rfl rfl (by kernel_rfl) (by kernel_rfl) (by kernel_rfl) (fun _ _ _ h => h) (Or.inr ⟨by rfl, rfl⟩) (by assumption) ?_
       simp only [List.setIfInBounds_toArray, List.set_cons_zero, List.set_cons_succ])
  first
    | (refine take_at (i := 8) (v := ?_) rfl rfl (by kernel_rfl) (by kernel_rfl) (by kernel_rfl) (fun _ _ _ h => h) (Or.inl ⟨by rfl, ?hy⟩) (by assumption) ?_
       case hy => (intro wz hSw; (try dsimp only at hSw); go_simp <;> with_reducible rfl)
       simp only [List.setIfInBounds_toArray, List.set_cons_zero, List.set_cons_succ])
    | (refine take_at (i := 8) (v := undef) rfl rfl (by kernel_rfl) (by kernel_rfl) (by kernel_rfl) (fun _ _ _ h => h) (Or.inr ⟨by rfl, rfl⟩) (by assumption) ?_
       simp only [List.setIfInBounds_toArray, List.set_cons_zero, List.set_cons_succ])
  refine call_at (i := 4) (F := 97) (CA.out _ (HB2.out.ext (Ext.refl w2).drew) (HE2.out.ext (Ext.refl w2).drew)) rfl rfl (by kernel_rfl) (by rfl) (by first | rfl | (go_simp <;> rfl)) ?_
  rintro e w3 ⟨rfl, lv3, B3, N3, A3⟩
  replace hHeld := hHeld.trans N3
  refine ⟨_, rfl, hHeld, ?_⟩
  simp only [List.setIfInBounds_toArray, List.set_cons_zero, List.set_cons_succ]
  first
    | (refine take_at (i := 9) (v := ?_) rfl rfl (by kernel_rfl) (by kernel_rfl) (by kernel_rfl) (fun _ _ _ h => h) (Or.inl ⟨by rfl, ?hy⟩) (by assumption) ?_
       case hy => (intro wz hSw; (try dsimp only at hSw); go_simp <;> with_reducible rfl)
       simp only [List.setIfInBounds_toArray, List.set_cons_zero, List.set_cons_succ])
    | (refine take_at (i := 9) (v := undef) rfl rfl (by kernel_rfl) (by kernel_rfl) (by kernel_rfl) (fun _ _ _ h => h) (Or.inr ⟨by rfl, rfl⟩) (by assumption) ?_
       simp only [List.setIfInBounds_toArray, List.set_cons_zero, List.set_cons_succ])
  refine wpAnyH_done (by kernel_rfl) ?_ _
  have F3 := HF2.out.but hHeld HX2.out.out
  have r3 := F3.c3
  have y3 := F3.z3
  have HF3 := Lib.hid F3
  have HN3 := Lib.hid ((HXE.out.but (Own b g lv)).trans hHeld)
  have HB3 := Lib.hid B3
  have HA3 : Hid (lv3.ownBlock = lv.ownBlock ∨ ∃ j, lv3.ownBlock = some j ∧ w.heap.size ≤ j) := Lib.hid (A3.imp id (fun ⟨j, e, hj⟩ => ⟨j, e, Nat.le_trans (HXE.out.drew).size hj⟩))
  clear F3 N3 B3 A3 k4 k9 hHeld q3 q9 ql_0 ql_1 ql_2 ql_3 ql_4 ql_5 ql_6 ql_7 ql_8 ql_9 ql_10 ql_11 ql_12 ql_13 hfld hV5
  go_wp2
  exact HFIN.out lv3 w3 _ HB3.out HN3.out HA3.out HF3.out (But.refl _ w3) (Keep64.refl w3 fb o)
set_option maxRecDepth 100000 in
/-- the step that comes inside -/
theorem Enter64_in (b g fb o : Nat) (y : LY) (f : Nat → Int) (lv : Value) (log : List Acc) (ups : List (List Int)) (t Pc Ow : Int) (w : World) (K : BK y ups) (B : BW w 141 b g y f lv log ups) (E : Parts w) (F : FT64 w fb o Pc Ow) (X : Aside w b g lv fb) (hV : y.V = 5) (hP : ¬ Pc = 0) (hS : (U64 (f (y.n + 1))) = Ow) (f0 : 0 ≤ f (y.n + 1)) (f1 : f (y.n + 1) < 18446744073709551616) (hl : log.length ≤ 1000) :
    Calls Tryz.prog 72 #[.pointer (some ⟨b, 0, none⟩), .int .i64 t, .pointer (some ⟨fb, o, none⟩)] w (EnterDoes64 b g fb o y ups lv f (log ++ [⟨t, 1, (y.n + 1 : Nat), f (y.n + 1), f (y.n + 1)⟩]) true 2 Ow w) := by
  have CL := Lib.hid (BWLayout64 b g y f lv log ups w K B)
  obtain ⟨kTi, kSe, kk1, kk2, klt⟩ := K.lock hV
  have HF := Lib.hid F
  have HX := Lib.hid X
  have HB := Lib.hid B.B
  have HE := Lib.hid E
  have hfld : ∀ (u : Value) (x1 x2 x3 x4 x5 x6 x7 x8 : Int) (w : World), (Instr.field 31 (.agg #[.int .i64 (y.V), .int .i64 (y.W), .int .i64 (y.C), .int .i64 (y.P), .int .u64 (y.S), u, .int .i64 x1, .int .i64 x2, .int .i64 x3, .int .i64 x4, .int .i64 x5, .int .i64 x6, .int .i64 x7, .int .i64 x8]) 0).run Tryz.prog w = .ok (.agg #[.int .i64 (y.V), .int .i64 (y.W), .int .i64 (y.C), .int .i64 (y.P), .int .u64 (y.S), u]) w := fun u x1 x2 x3 x4 x5 x6 x7 x8 w => by kernel_rfl
  have hV5 : (y.V == 5) = true := by simp [hV]
  have CA := Lib.hid (fun w1 (h : BD w1 141 b g y f lv log) (E1 : Parts w1) => Load64_yes b g y f lv log t (y.n + 1) w1 h K.yok E1 kk2 f0 f1 hl)
  have HFIN := Lib.hid (fun lv1 w1 w2 (h1 : BD w1 141 b g y f lv1 (log ++ [⟨t, 1, (y.n + 1 : Nat), f (y.n + 1), f (y.n + 1)⟩])) (hN : But (Own b g lv) w w1) (hA : lv1.ownBlock = lv.ownBlock ∨ ∃ j, lv1.ownBlock = some j ∧ w.heap.size ≤ j) (F2 : FT64 w2 fb o 2 Ow) (hC : But (· = fb) w1 w2) (Kp : Keep64 w1 w2 fb o) => enter_fin64 (r := true) B X F h1 hN hA F2 hC Kp)
  have hP0 : (Pc == 0) = false := by simpa using hP
  have hSB : ((U64 (f (y.n + 1))) == Ow) = true := by simpa using hS
  generalize hG : EnterDoes64 b g fb o y ups lv f (log ++ [⟨t, 1, (y.n + 1 : Nat), f (y.n + 1), f (y.n + 1)⟩]) true 2 Ow w = G at *
  generalize hz : ((U64 (f (y.n + 1)))) = z at *
  clear hG hz B F X E K kk1 kk2 klt f0 f1 hV hP hS
  go_enter Tryz.func72, Tryz.ntmps72
  go_wp2_with fail
  refine CL.out.mono ?_
  rintro e wo ⟨u, rfl, L1, Xo⟩
  obtain ⟨ua, uc, rfl, -⟩ := L1
  rw [kTi, kSe]
  have Ho := Lib.hid Xo
  clear Xo CL kTi kSe
  go_upto_region 2 with (fail)
  refine settle_wp ?_
  intro w1 hb1
  have ql_0 : w1.cell? ⟨wo.heap.size, 0, none⟩ = some (.int .i64 (y.V)) := (hb1.cells.1 _ _ (by simp <;> omega)).trans (by simp [go_sem])
  have ql_1 : w1.cell? ⟨wo.heap.size, 1, none⟩ = some (.int .i64 (y.W)) := (hb1.cells.1 _ _ (by simp <;> omega)).trans (by simp [go_sem])
  have ql_2 : w1.cell? ⟨wo.heap.size, 2, none⟩ = some (.int .i64 (y.C)) := (hb1.cells.1 _ _ (by simp <;> omega)).trans (by simp [go_sem])
  have ql_3 : w1.cell? ⟨wo.heap.size, 3, none⟩ = some (.int .i64 (y.P)) := (hb1.cells.1 _ _ (by simp <;> omega)).trans (by simp [go_sem])
  have ql_4 : w1.cell? ⟨wo.heap.size, 4, none⟩ = some (.int .u64 (y.S)) := (hb1.cells.1 _ _ (by simp <;> omega)).trans (by simp [go_sem])
  have ql_5 : w1.cell? ⟨wo.heap.size, 5, none⟩ = some (.slice ua ups.length uc) := (hb1.cells.1 _ _ (by simp <;> omega)).trans (by simp [go_sem])
  have ql_6 : w1.cell? ⟨wo.heap.size, 6, none⟩ = some (.int .i64 (y.Cu)) := (hb1.cells.1 _ _ (by simp <;> omega)).trans (by simp [go_sem])
  have ql_7 : w1.cell? ⟨wo.heap.size, 7, none⟩ = some (.int .i64 (y.Cl)) := (hb1.cells.1 _ _ (by simp <;> omega)).trans (by simp [go_sem])
  have ql_8 : w1.cell? ⟨wo.heap.size, 8, none⟩ = some (.int .i64 (y.n)) := (hb1.cells.1 _ _ (by simp <;> omega)).trans (by simp [go_sem])
  have ql_9 : w1.cell? ⟨wo.heap.size, 9, none⟩ = some (.int .i64 (y.n + 1)) := (hb1.cells.1 _ _ (by simp <;> omega)).trans (by simp [go_sem])
  have ql_10 : w1.cell? ⟨wo.heap.size, 10, none⟩ = some (.int .i64 (y.Ne)) := (hb1.cells.1 _ _ (by simp <;> omega)).trans (by simp [go_sem])
  have ql_11 : w1.cell? ⟨wo.heap.size, 11, none⟩ = some (.int .i64 (y.Ma)) := (hb1.cells.1 _ _ (by simp <;> omega)).trans (by simp [go_sem])
  have ql_12 : w1.cell? ⟨wo.heap.size, 12, none⟩ = some (.int .i64 (y.Sl)) := (hb1.cells.1 _ _ (by simp <;> omega)).trans (by simp [go_sem])
  have ql_13 : w1.cell? ⟨wo.heap.size, 13, none⟩ = some (.int .i64 (y.m)) := (hb1.cells.1 _ _ (by simp <;> omega)).trans (by simp [go_sem])
  have pl := World.block_lt_of_cell? _ ⟨wo.heap.size, 0, none⟩ ql_0
  have rl := Nat.lt_succ_of_lt pl
  go_wp2_with fail
  refine (tnHas _ _ _ _ _ _ _ _ _ _ _ _ _ _ _ _ _).mono ?_
  rintro e w2 ⟨rfl, hb2⟩
  have hx2 : Ext w1 w2 := by repeat (first | with_reducible exact Ext.refl _ | with_reducible assumption | with_reducible refine Ext.alloc ?_ _ | with_reducible refine Ext.drew ?_ | with_reducible refine Ext.drewN ?_ _ | with_reducible refine Ext.setCell ?_ (by simp <;> omega) _ | with_reducible refine Ext.trans ?_ (by assumption))
  replace ql_0 := hx2.cell ql_0
  replace ql_1 := hx2.cell ql_1
  replace ql_2 := hx2.cell ql_2
  replace ql_3 := hx2.cell ql_3
  replace ql_4 := hx2.cell ql_4
  replace ql_5 := hx2.cell ql_5
  replace ql_6 := hx2.cell ql_6
  replace ql_7 := hx2.cell ql_7
  replace ql_8 := hx2.cell ql_8
  replace ql_9 := hx2.cell ql_9
  replace ql_10 := hx2.cell ql_10
  replace ql_11 := hx2.cell ql_11
  replace ql_12 := hx2.cell ql_12
  replace ql_13 := hx2.cell ql_13
  replace pl := Nat.lt_of_lt_of_le pl hx2.size
  replace rl := Nat.lt_succ_of_lt pl
  clear hx2
  have XE : Ext w w2 := Ho.out.trans (Ext.trans ((Ext.refl wo).alloc _) (hb1.trans hb2))
  have F2 := HF.out.ext XE
  have HF2 := Lib.hid F2
  have HX2 := Lib.hid (HX.out.ext XE)
  have HB2 := Lib.hid (HB.out.ext XE)
  have HE2 := Lib.hid (HE.out.ext XE)
  have HXE := Lib.hid XE
  have nl : ¬ Own b g lv wo.heap.size := fun h => by
    have h1 := HB.out.lt h
    have h2 := Ho.out.size
    omega
  have q3 := F2.c3
  have q9 := F2.c9
  clear XE F2 hb1 hb2
  go_upto_region 8 with (fail)
  refine wp_region_held_drew (S := (fun w' => But (Own b g lv) w2 w')) (by kernel_rfl) ?hbeg (fun hHeld => ?_)
  case hbeg => exact ((Ext.refl w2).drew).but _
  have k4 := fun w' (hx : But (Own b g lv) w2 w') => hx.cell ql_9 nl
  have k9 := fun w' (hx : But (Own b g lv) w2 w') => hx.cell q9 HX2.out.out
  first
    | (refine take_at (i := 0) (v := ?_) rfl rfl (by kernel_rfl) (by kernel_rfl) (by kernel_rfl) (fun _ _ _ h => h) (Or.inl ⟨by rfl, ?hy⟩) (by assumption) ?_
       case hy => (intro wz hSw; (try dsimp only at hSw); go_simp <;> with_reducible rfl)
       simp only [List.setIfInBounds_toArray, List.set_cons_zero, List.set_cons_succ])
    | (refine take_at (i := 0) (v := undef) rfl rfl (by kernel_rfl) (by kernel_rfl) (by kernel_rfl) (fun _ _ _ h => h) (Or.inr ⟨by rfl, rfl⟩) (by assumption) ?_
       simp only [List.setIfInBounds_toArray, List.set_cons_zero, List.set_cons_succ])
  first
    | (refine take_at (i := 1) (v := ?_) rfl rfl (by kernel_rfl) (by kernel_rfl) (by kernel_rfl) (fun _ _ _ h => h) (Or.inl ⟨by rfl, ?hy⟩) (by assumption) ?_
       case hy => (intro wz hSw; (try dsimp only at hSw); go_simp <;> with_reducible rfl)
       simp only [List.setIfInBounds_toArray, List.set_cons_zero, List.set_cons_succ])
    | (refine take_at (i := 1) (v := undef) rfl rfl (by kernel_rfl) (by kernel_rfl) (by kernel_rfl) (fun _ _ _ h => h) (Or.inr ⟨by rfl, rfl⟩) (by assumption) ?_
       simp only [List.setIfInBounds_toArray, List.set_cons_zero, List.set_cons_succ])
  first
    | (refine take_at (i := 2) (v := ?_) rfl rfl (by kernel_rfl) (by kernel_rfl) (by kernel_rfl) (fun _ _ _ h => h) (Or.inl ⟨by rfl, ?hy⟩) (by assumption) ?_
       case hy => (intro wz hSw; (try dsimp only at hSw); go_simp <;> with_reducible rfl)
       simp only [List.setIfInBounds_toArray, List.set_cons_zero, List.set_cons_succ])
    | (refine take_at (i := 2) (v := undef) rfl rfl (by kernel_rfl) (by kernel_rfl) (by kernel_rfl) (fun _ _ _ h => h) (Or.inr ⟨by rfl, rfl⟩) (by assumption) ?_
       simp only [List.setIfInBounds_toArray, List.set_cons_zero, List.set_cons_succ])
  first
    | (refine take_at (i := 3) (v := ?_) rfl rfl (by kernel_rfl) (by kernel_rfl) (by kernel_rfl) (fun _ _ _ h => h) (Or.inl ⟨by rfl, ?hy⟩) (by assumption) ?_
       case hy => (intro wz hSw; (try dsimp only at hSw); go_simp <;> with_reducible rfl)
       simp only [List.setIfInBounds_toArray, List.set_cons_zero, List.set_cons_succ])
    | (refine take_at (i := 3) (v := undef) rfl rfl (by kernel_rfl) (by kernel_rfl) (by kernel_rfl) (fun _ _ _ h => h) (Or.inr ⟨by rfl, rfl⟩) (by assumption) ?_
       simp only [List.setIfInBounds_toArray, List.set_cons_zero, List.set_cons_succ])
  first
    | (refine take_at (i := 5) (v := ?_) rfl rfl (by kernel_rfl) (by kernel_rfl) (by kernel_rfl) (fun _ _ _ h => h) (Or.inl ⟨by rfl, ?hy⟩) (by assumption) ?_
       case hy => (intro wz hSw; (try dsimp only at hSw); go_simp <;> with_reducible rfl)
       simp only [List.setIfInBounds_toArray, List.set_cons_zero, List.set_cons_succ])
    | (refine take_at (i := 5) (v := undef) rfl rfl (by kernel_rfl) (by kernel_rfl) (by kernel_rfl) (fun _ _ _ h => h) (Or.inr ⟨by rfl, rfl⟩) (by assumption) ?_
       simp only [List.setIfInBounds_toArray, List.set_cons_zero, List.set_cons_succ])
  first
    | (refine take_at (i := 6) (v := ?_) rfl rfl (by kernel_rfl) (by kernel_rfl) (by kernel_rfl) (fun _ _ _ h => h) (Or.inl ⟨by rfl, ?hy⟩) (by assumption) ?_
       case hy => (intro wz hSw; (try dsimp only at hSw); go_simp <;> with_reducible rfl)
       simp only [List.setIfInBounds_toArray, List.set_cons_zero, List.set_cons_succ])
    | (refine take_at (i := 6) (v := undef) rfl rfl (by kernel_rfl) (by kernel_rfl) (by kernel_rfl) (fun _ _ _ h => h) (Or.inr ⟨by rfl, rfl⟩) (by assumption) ?_
       simp only [List.setIfInBounds_toArray, List.set_cons_zero, List.set_cons_succ])
  first
    | (refine take_at (i := 7) (v := ?_) rfl rfl (by kernel_rfl) (by kernel_rfl) (by kernel_rfl) (fun _ _ _ h => h) (Or.inl ⟨by rfl, ?hy⟩) (by assumption) ?_
       case hy => (intro wz hSw; (try dsimp only at hSw); go_simp <;> with_reducible rfl)
       simp only [List.setIfInBounds_toArray, List.set_cons_zero, List.set_cons_succ])
    | (refine take_at (i := 7) (v := undef) rfl rfl (by kernel_rfl) (by kernel_rfl) (by kernel_rfl) (fun _ _ _ h => h) (Or.inr ⟨by rfl, rfl⟩) (by assumption) ?_
       simp only [List.setIfInBounds_toArray, List.set_cons_zero, List.set_cons_succ])
  first
    | (refine take_at (i := 8) (v := ?_) rfl rfl (by kernel_rfl) (by kernel_rfl) (by kernel_rfl) (fun _ _ _ h => h) (Or.inl ⟨by rfl, ?hy⟩) (by assumption) ?_
       case hy => (intro wz hSw; (try dsimp only at hSw); go_simp <;> with_reducible rfl)
       simp only [List.setIfInBounds_toArray, List.set_cons_zero, List.set_cons_succ])
    | (refine take_at (i := 8) (v := undef) rfl rfl (by kernel_rfl) (by kernel_rfl) (by kernel_rfl) (fun _ _ _ h => h) (Or.inr ⟨by rfl, rfl⟩) (by assumption) ?_
       simp only [List.setIfInBounds_toArray, List.set_cons_zero, List.set_cons_succ])
  refine call_at (i := 4) (F := 97) (CA.out _ (HB2.out.ext (Ext.refl w2).drew) (HE2.out.ext (Ext.refl w2).drew)) rfl rfl (by kernel_rfl) (by rfl) (by first | rfl | (go_simp <;> rfl)) ?_
  rintro e w3 ⟨rfl, lv3, B3, N3, A3⟩
  replace hHeld := hHeld.trans N3
  refine ⟨_, rfl, hHeld, ?_⟩
  simp only [List.setIfInBounds_toArray, List.set_cons_zero, List.set_cons_succ]
  first
    | (refine take_at (i := 9) (v := ?_) rfl rfl (by kernel_rfl) (by kernel_rfl) (by kernel_rfl) (fun _ _ _ h => h) (Or.inl ⟨by rfl, ?hy⟩) (by assumption) ?_
       case hy => (intro wz hSw; (try dsimp only at hSw); go_simp <;> with_reducible rfl)
       simp only [List.setIfInBounds_toArray, List.set_cons_zero, List.set_cons_succ])
    | (refine take_at (i := 9) (v := undef) rfl rfl (by kernel_rfl) (by kernel_rfl) (by kernel_rfl) (fun _ _ _ h => h) (Or.inr ⟨by rfl, rfl⟩) (by assumption) ?_
       simp only [List.setIfInBounds_toArray, List.set_cons_zero, List.set_cons_succ])
  refine wpAnyH_done (by kernel_rfl) ?_ _
  have F3 := HF2.out.but hHeld HX2.out.out
  have r3 := F3.c3
  have y3 := F3.z3
  have HF3 := Lib.hid F3
  have HN3 := Lib.hid ((HXE.out.but (Own b g lv)).trans hHeld)
  have HB3 := Lib.hid B3
  have HA3 : Hid (lv3.ownBlock = lv.ownBlock ∨ ∃ j, lv3.ownBlock = some j ∧ w.heap.size ≤ j) := Lib.hid (A3.imp id (fun ⟨j, e, hj⟩ => ⟨j, e, Nat.le_trans (HXE.out.drew).size hj⟩))
  clear F3 N3 B3 A3 k4 k9 hHeld q3 q9 ql_0 ql_1 ql_2 ql_3 ql_4 ql_5 ql_6 ql_7 ql_8 ql_9 ql_10 ql_11 ql_12 ql_13 hfld hV5
  go_wp2
  exact HFIN.out lv3 w3 _ HB3.out HN3.out HA3.out (HF3.out.set3 2) (but_setCell w3 ⟨fb, o + 3, none⟩ _) ((Keep64.refl w3 fb o).set (o + 3) (.inl rfl) _)
set_option maxRecDepth 100000 in
/-- without a lock -/
theorem Enter64_no (b g : Nat) (y : LY) (f : Nat → Int) (lv : Value) (log : List Acc) (ups : List (List Int)) (t : Int) (fp : Value) (w : World) (K : BK y ups) (B : BW w 141 b g y f lv log ups) (hV : ¬ y.V = 5) (hfp : (∃ a, fp = .pointer (some a)) ∨ fp = .pointer none) :
    Calls Tryz.prog 72 #[.pointer (some ⟨b, 0, none⟩), .int .i64 t, fp] w fun e w' => e = .returned (.bool true) ∧ Ext w w' := by
  have CL := Lib.hid (BWLayout64 b g y f lv log ups w K B)
  have hfld : ∀ (u : Value) (x1 x2 x3 x4 x5 x6 x7 x8 : Int) (w : World), (Instr.field 31 (.agg #[.int .i64 (y.V), .int .i64 (y.W), .int .i64 (y.C), .int .i64 (y.P), .int .u64 (y.S), u, .int .i64 x1, .int .i64 x2, .int .i64 x3, .int .i64 x4, .int .i64 x5, .int .i64 x6, .int .i64 x7, .int .i64 x8]) 0).run Tryz.prog w = .ok (.agg #[.int .i64 (y.V), .int .i64 (y.W), .int .i64 (y.C), .int .i64 (y.P), .int .u64 (y.S), u]) w := fun u x1 x2 x3 x4 x5 x6 x7 x8 w => by kernel_rfl
  have hV5 : (y.V == 5) = false := by simpa using hV
  clear B hV K
  rcases hfp with ⟨a, rfl⟩ | rfl
  · go_enter Tryz.func72, Tryz.ntmps72
    go_wp2_with fail
    refine CL.out.mono ?_
    rintro e wo ⟨u, rfl, L1, Xo⟩
    obtain ⟨ua, uc, rfl, -⟩ := L1
    have Ho := Lib.hid Xo
    clear Xo CL
    go_upto_region 2 with (fail)
    refine settle_wp ?_
    intro w1 hb1
    have ql_0 : w1.cell? ⟨wo.heap.size, 0, none⟩ = some (.int .i64 (y.V)) := (hb1.cells.1 _ _ (by simp <;> omega)).trans (by simp [go_sem])
    have ql_1 : w1.cell? ⟨wo.heap.size, 1, none⟩ = some (.int .i64 (y.W)) := (hb1.cells.1 _ _ (by simp <;> omega)).trans (by simp [go_sem])
    have ql_2 : w1.cell? ⟨wo.heap.size, 2, none⟩ = some (.int .i64 (y.C)) := (hb1.cells.1 _ _ (by simp <;> omega)).trans (by simp [go_sem])
    have ql_3 : w1.cell? ⟨wo.heap.size, 3, none⟩ = some (.int .i64 (y.P)) := (hb1.cells.1 _ _ (by simp <;> omega)).trans (by simp [go_sem])
    have ql_4 : w1.cell? ⟨wo.heap.size, 4, none⟩ = some (.int .u64 (y.S)) := (hb1.cells.1 _ _ (by simp <;> omega)).trans (by simp [go_sem])
    have ql_5 : w1.cell? ⟨wo.heap.size, 5, none⟩ = some (.slice ua ups.length uc) := (hb1.cells.1 _ _ (by simp <;> omega)).trans (by simp [go_sem])
    have ql_6 : w1.cell? ⟨wo.heap.size, 6, none⟩ = some (.int .i64 (y.Cu)) := (hb1.cells.1 _ _ (by simp <;> omega)).trans (by simp [go_sem])
    have ql_7 : w1.cell? ⟨wo.heap.size, 7, none⟩ = some (.int .i64 (y.Cl)) := (hb1.cells.1 _ _ (by simp <;> omega)).trans (by simp [go_sem])
    have ql_8 : w1.cell? ⟨wo.heap.size, 8, none⟩ = some (.int .i64 (y.Ti)) := (hb1.cells.1 _ _ (by simp <;> omega)).trans (by simp [go_sem])
    have ql_9 : w1.cell? ⟨wo.heap.size, 9, none⟩ = some (.int .i64 (y.Se)) := (hb1.cells.1 _ _ (by simp <;> omega)).trans (by simp [go_sem])
    have ql_10 : w1.cell? ⟨wo.heap.size, 10, none⟩ = some (.int .i64 (y.Ne)) := (hb1.cells.1 _ _ (by simp <;> omega)).trans (by simp [go_sem])
    have ql_11 : w1.cell? ⟨wo.heap.size, 11, none⟩ = some (.int .i64 (y.Ma)) := (hb1.cells.1 _ _ (by simp <;> omega)).trans (by simp [go_sem])
    have ql_12 : w1.cell? ⟨wo.heap.size, 12, none⟩ = some (.int .i64 (y.Sl)) := (hb1.cells.1 _ _ (by simp <;> omega)).trans (by simp [go_sem])
    have ql_13 : w1.cell? ⟨wo.heap.size, 13, none⟩ = some (.int .i64 (y.m)) := (hb1.cells.1 _ _ (by simp <;> omega)).trans (by simp [go_sem])
    have pl := World.block_lt_of_cell? _ ⟨wo.heap.size, 0, none⟩ ql_0
    have rl := Nat.lt_succ_of_lt pl
    go_wp2_with fail
    refine (tnHas _ _ _ _ _ _ _ _ _ _ _ _ _ _ _ _ _).mono ?_
    rintro e w2 ⟨rfl, hb2⟩
    have hx2 : Ext w1 w2 := by repeat (first | with_reducible exact Ext.refl _ | with_reducible assumption | with_reducible refine Ext.alloc ?_ _ | with_reducible refine Ext.drew ?_ | with_reducible refine Ext.drewN ?_ _ | with_reducible refine Ext.setCell ?_ (by simp <;> omega) _ | with_reducible refine Ext.trans ?_ (by assumption))
    replace ql_0 := hx2.cell ql_0
    replace ql_1 := hx2.cell ql_1
    replace ql_2 := hx2.cell ql_2
    replace ql_3 := hx2.cell ql_3
    replace ql_4 := hx2.cell ql_4
    replace ql_5 := hx2.cell ql_5
    replace ql_6 := hx2.cell ql_6
    replace ql_7 := hx2.cell ql_7
    replace ql_8 := hx2.cell ql_8
    replace ql_9 := hx2.cell ql_9
    replace ql_10 := hx2.cell ql_10
    replace ql_11 := hx2.cell ql_11
    replace ql_12 := hx2.cell ql_12
    replace ql_13 := hx2.cell ql_13
    replace pl := Nat.lt_of_lt_of_le pl hx2.size
    replace rl := Nat.lt_succ_of_lt pl
    clear hx2
    go_wp2
    go_ret
    exact ⟨rfl, Ho.out.trans (Ext.trans ((Ext.refl wo).alloc _) (hb1.trans hb2))⟩
  · go_enter Tryz.func72, Tryz.ntmps72
    go_wp2_with fail
    refine CL.out.mono ?_
    rintro e wo ⟨u, rfl, L1, Xo⟩
    obtain ⟨ua, uc, rfl, -⟩ := L1
    have Ho := Lib.hid Xo
    clear Xo CL
    go_wp2
    go_ret
    exact ⟨rfl, Ho.out.trans ((Ext.refl wo).alloc _)⟩
set_option maxRecDepth 100000 in
/-- a frame that is none -/
theorem Enter64_nilf (b g : Nat) (y : LY) (f : Nat → Int) (lv : Value) (log : List Acc) (ups : List (List Int)) (t : Int) (w : World) (K : BK y ups) (B : BW w 141 b g y f lv log ups) :
    Calls Tryz.prog 72 #[.pointer (some ⟨b, 0, none⟩), .int .i64 t, .pointer none] w fun e w' => e = .returned (.bool true) ∧ Ext w w' := by
  have CL := Lib.hid (BWLayout64 b g y f lv log ups w K B)
  clear B K
  go_enter Tryz.func72, Tryz.ntmps72
  go_wp2_with fail
  refine CL.out.mono ?_
  rintro e wo ⟨u, rfl, L1, Xo⟩
  obtain ⟨ua, uc, rfl, -⟩ := L1
  have Ho := Lib.hid Xo
  clear Xo CL
  go_wp2
  go_ret
  exact ⟨rfl, Ho.out.trans ((Ext.refl wo).alloc _)⟩
set_option maxRecDepth 100000 in
/-- no board -/
theorem Enter64_nilb (t : Int) (a : Addr) (w : World) : Calls Tryz.prog 72 #[.pointer none, .int .i64 t, .pointer (some a)] w fun e w' => e = .returned (.bool true) ∧ Ext w w' := by
  go_enter Tryz.func72, Tryz.ntmps72
  go_wp2_with fail
  refine (Layout64_void _).mono ?_
  rintro e w1 ⟨rfl, hb1⟩
  obtain ⟨hc1, hf1⟩ := hb1.cells
  have Ho := Lib.hid hb1
  clear hb1
  go_upto_region 2 with (fail)
  clear hc1 hf1
  refine settle_wp ?_
  intro w2 hb2
  have ql_0 : w2.cell? ⟨w1.heap.size, 0, none⟩ = some (.int .i64 0) := (hb2.cells.1 _ _ (by simp <;> omega)).trans (by simp [go_sem])
  have ql_1 : w2.cell? ⟨w1.heap.size, 1, none⟩ = some (.int .i64 0) := (hb2.cells.1 _ _ (by simp <;> omega)).trans (by simp [go_sem])
  have ql_2 : w2.cell? ⟨w1.heap.size, 2, none⟩ = some (.int .i64 0) := (hb2.cells.1 _ _ (by simp <;> omega)).trans (by simp [go_sem])
  have ql_3 : w2.cell? ⟨w1.heap.size, 3, none⟩ = some (.int .i64 0) := (hb2.cells.1 _ _ (by simp <;> omega)).trans (by simp [go_sem])
  have ql_4 : w2.cell? ⟨w1.heap.size, 4, none⟩ = some (.int .u64 0) := (hb2.cells.1 _ _ (by simp <;> omega)).trans (by simp [go_sem])
  have ql_5 : w2.cell? ⟨w1.heap.size, 5, none⟩ = some (.slice none 0 0) := (hb2.cells.1 _ _ (by simp <;> omega)).trans (by simp [go_sem])
  have ql_6 : w2.cell? ⟨w1.heap.size, 6, none⟩ = some (.int .i64 0) := (hb2.cells.1 _ _ (by simp <;> omega)).trans (by simp [go_sem])
  have ql_7 : w2.cell? ⟨w1.heap.size, 7, none⟩ = some (.int .i64 0) := (hb2.cells.1 _ _ (by simp <;> omega)).trans (by simp [go_sem])
  have ql_8 : w2.cell? ⟨w1.heap.size, 8, none⟩ = some (.int .i64 0) := (hb2.cells.1 _ _ (by simp <;> omega)).trans (by simp [go_sem])
  have ql_9 : w2.cell? ⟨w1.heap.size, 9, none⟩ = some (.int .i64 0) := (hb2.cells.1 _ _ (by simp <;> omega)).trans (by simp [go_sem])
  have ql_10 : w2.cell? ⟨w1.heap.size, 10, none⟩ = some (.int .i64 0) := (hb2.cells.1 _ _ (by simp <;> omega)).trans (by simp [go_sem])
  have ql_11 : w2.cell? ⟨w1.heap.size, 11, none⟩ = some (.int .i64 0) := (hb2.cells.1 _ _ (by simp <;> omega)).trans (by simp [go_sem])
  have ql_12 : w2.cell? ⟨w1.heap.size, 12, none⟩ = some (.int .i64 0) := (hb2.cells.1 _ _ (by simp <;> omega)).trans (by simp [go_sem])
  have ql_13 : w2.cell? ⟨w1.heap.size, 13, none⟩ = some (.int .i64 0) := (hb2.cells.1 _ _ (by simp <;> omega)).trans (by simp [go_sem])
  have pl := World.block_lt_of_cell? _ ⟨w1.heap.size, 0, none⟩ ql_0
  have rl := Nat.lt_succ_of_lt pl
  go_wp2_with fail
  refine (tnHas _ _ _ _ _ _ _ _ _ _ _ _ _ _ _ _ _).mono ?_
  rintro e w3 ⟨rfl, hb3⟩
  have hx3 : Ext w2 w3 := by repeat (first | with_reducible exact Ext.refl _ | with_reducible assumption | with_reducible refine Ext.alloc ?_ _ | with_reducible refine Ext.drew ?_ | with_reducible refine Ext.drewN ?_ _ | with_reducible refine Ext.setCell ?_ (by simp <;> omega) _ | with_reducible refine Ext.trans ?_ (by assumption))
  replace ql_0 := hx3.cell ql_0
  replace ql_1 := hx3.cell ql_1
  replace ql_2 := hx3.cell ql_2
  replace ql_3 := hx3.cell ql_3
  replace ql_4 := hx3.cell ql_4
  replace ql_5 := hx3.cell ql_5
  replace ql_6 := hx3.cell ql_6
  replace ql_7 := hx3.cell ql_7
  replace ql_8 := hx3.cell ql_8
  replace ql_9 := hx3.cell ql_9
  replace ql_10 := hx3.cell ql_10
  replace ql_11 := hx3.cell ql_11
  replace ql_12 := hx3.cell ql_12
  replace ql_13 := hx3.cell ql_13
  replace pl := Nat.lt_of_lt_of_le pl hx3.size
  replace rl := Nat.lt_succ_of_lt pl
  clear hx3
  go_wp2
  go_ret
  exact ⟨rfl, Ho.out.trans (Ext.trans ((Ext.refl w1).alloc _) (hb2.trans hb3))⟩
end Go.Proofs.YtlnffbocclpnnaaGreatDoorR
/- A lock on a board: Leave, Has, Waiting. -/
namespace Go.Proofs.YtlnffbocclpnnaaGreatDoorR
open Go.RowKit
set_option linter.unusedVariables false
set_option linter.unusedSimpArgs false
set_option maxHeartbeats 4000000
attribute [local go_sem] later_cell later_frozen later_const
/-- the board behind a Leave -/
def LeaveDoes32 (b g : Nat) (y : LY) (ups : List (List Int)) (lv : Value) (f' : Nat → Int) (log' : List Acc) (w : World) (e : Ending) (w' : World) : Prop :=
  e = .returned (.tuple #[]) ∧ ∃ lv', BW w' 93 b g y f' lv' log' ups ∧ But (Own b g lv) w w' ∧ (lv'.ownBlock = lv.ownBlock ∨ ∃ j, lv'.ownBlock = some j ∧ w.heap.size ≤ j)
set_option maxRecDepth 100000 in
theorem Leave32_yes (b g : Nat) (y : LY) (f : Nat → Int) (lv : Value) (log : List Acc) (ups : List (List Int)) (t : Int) (w : World) (K : BK y ups) (B : BW w 93 b g y f lv log ups) (E : Parts w) (hV : y.V = 5) (f0 : 0 ≤ f (y.n + 1)) (f1 : f (y.n + 1) < 18446744073709551616) (hl : log.length ≤ 1000) :
    Calls Tryz.prog 64 #[.pointer (some ⟨b, 0, none⟩), .int .i64 t] w (LeaveDoes32 b g y ups lv (upd f (y.n + 1) (((((f (y.n + 1)) % 4294967296) + 1) % 4294967296))) (log ++ [⟨t, 3, (y.n + 1 : Nat), f (y.n + 1), (((((f (y.n + 1)) % 4294967296) + 1) % 4294967296))⟩]) w) := by
  have CL := Lib.hid (BWLayout32 b g y f lv log ups w K B)
  obtain ⟨kTi, kSe, kk1, kk2, klt⟩ := K.lock hV
  have HB := Lib.hid B.B
  have HE := Lib.hid E
  have hfld : ∀ (u : Value) (x1 x2 x3 x4 x5 x6 x7 x8 : Int) (w : World), (Instr.field 31 (.agg #[.int .i64 (y.V), .int .i64 (y.W), .int .i64 (y.C), .int .i64 (y.P), .int .u64 (y.S), u, .int .i64 x1, .int .i64 x2, .int .i64 x3, .int .i64 x4, .int .i64 x5, .int .i64 x6, .int .i64 x7, .int .i64 x8]) 0).run Tryz.prog w = .ok (.agg #[.int .i64 (y.V), .int .i64 (y.W), .int .i64 (y.C), .int .i64 (y.P), .int .u64 (y.S), u]) w := fun u x1 x2 x3 x4 x5 x6 x7 x8 w => by kernel_rfl
  have hV5 : (y.V == 5) = true := by simp [hV]
  have CA := Lib.hid (fun w1 (h : BD w1 93 b g y f lv log) (E1 : Parts w1) => Add32_yes b g y f lv log t 1 (y.n + 1) w1 h K.yok E1 kk2 f0 f1 hl)
  have HFIN : Hid (∀ lv1 w1, BD w1 93 b g y (upd f (y.n + 1) (((((f (y.n + 1)) % 4294967296) + 1) % 4294967296))) lv1 (log ++ [⟨t, 3, (y.n + 1 : Nat), f (y.n + 1), (((((f (y.n + 1)) % 4294967296) + 1) % 4294967296))⟩]) → But (Own b g lv) w w1 → (lv1.ownBlock = lv.ownBlock ∨ ∃ j, lv1.ownBlock = some j ∧ w.heap.size ≤ j) → LeaveDoes32 b g y ups lv (upd f (y.n + 1) (((((f (y.n + 1)) % 4294967296) + 1) % 4294967296))) (log ++ [⟨t, 3, (y.n + 1 : Nat), f (y.n + 1), (((((f (y.n + 1)) % 4294967296) + 1) % 4294967296))⟩]) w (.returned (.tuple #[])) w1) := Lib.hid (fun lv1 w1 h1 h2 h3 => ⟨rfl, lv1, B.step h1 h2 (by decide) (by decide), h2, h3⟩)
  generalize hG : LeaveDoes32 b g y ups lv (upd f (y.n + 1) (((((f (y.n + 1)) % 4294967296) + 1) % 4294967296))) (log ++ [⟨t, 3, (y.n + 1 : Nat), f (y.n + 1), (((((f (y.n + 1)) % 4294967296) + 1) % 4294967296))⟩]) w = G at *
  generalize hz : (((f (y.n + 1)) % 4294967296)) = z at *
  clear hG hz B E K kk1 kk2 klt f0 f1 hV
  go_enter Tryz.func64, Tryz.ntmps64
  go_wp2_with fail
  refine CL.out.mono ?_
  rintro e wo ⟨u, rfl, L1, Xo⟩
  obtain ⟨ua, uc, rfl, -⟩ := L1
  rw [kTi, kSe]
  have Ho := Lib.hid Xo
  clear Xo CL kTi kSe
  go_upto_region 1 with (fail)
  refine settle_wp ?_
  intro w1 hb1
  have ql_0 : w1.cell? ⟨wo.heap.size, 0, none⟩ = some (.int .i64 (y.V)) := (hb1.cells.1 _ _ (by simp <;> omega)).trans (by simp [go_sem])
  have ql_1 : w1.cell? ⟨wo.heap.size, 1, none⟩ = some (.int .i64 (y.W)) := (hb1.cells.1 _ _ (by simp <;> omega)).trans (by simp [go_sem])
  have ql_2 : w1.cell? ⟨wo.heap.size, 2, none⟩ = some (.int .i64 (y.C)) := (hb1.cells.1 _ _ (by simp <;> omega)).trans (by simp [go_sem])
  have ql_3 : w1.cell? ⟨wo.heap.size, 3, none⟩ = some (.int .i64 (y.P)) := (hb1.cells.1 _ _ (by simp <;> omega)).trans (by simp [go_sem])
  have ql_4 : w1.cell? ⟨wo.heap.size, 4, none⟩ = some (.int .u64 (y.S)) := (hb1.cells.1 _ _ (by simp <;> omega)).trans (by simp [go_sem])
  have ql_5 : w1.cell? ⟨wo.heap.size, 5, none⟩ = some (.slice ua ups.length uc) := (hb1.cells.1 _ _ (by simp <;> omega)).trans (by simp [go_sem])
  have ql_6 : w1.cell? ⟨wo.heap.size, 6, none⟩ = some (.int .i64 (y.Cu)) := (hb1.cells.1 _ _ (by simp <;> omega)).trans (by simp [go_sem])
  have ql_7 : w1.cell? ⟨wo.heap.size, 7, none⟩ = some (.int .i64 (y.Cl)) := (hb1.cells.1 _ _ (by simp <;> omega)).trans (by simp [go_sem])
  have ql_8 : w1.cell? ⟨wo.heap.size, 8, none⟩ = some (.int .i64 (y.n)) := (hb1.cells.1 _ _ (by simp <;> omega)).trans (by simp [go_sem])
  have ql_9 : w1.cell? ⟨wo.heap.size, 9, none⟩ = some (.int .i64 (y.n + 1)) := (hb1.cells.1 _ _ (by simp <;> omega)).trans (by simp [go_sem])
  have ql_10 : w1.cell? ⟨wo.heap.size, 10, none⟩ = some (.int .i64 (y.Ne)) := (hb1.cells.1 _ _ (by simp <;> omega)).trans (by simp [go_sem])
  have ql_11 : w1.cell? ⟨wo.heap.size, 11, none⟩ = some (.int .i64 (y.Ma)) := (hb1.cells.1 _ _ (by simp <;> omega)).trans (by simp [go_sem])
  have ql_12 : w1.cell? ⟨wo.heap.size, 12, none⟩ = some (.int .i64 (y.Sl)) := (hb1.cells.1 _ _ (by simp <;> omega)).trans (by simp [go_sem])
  have ql_13 : w1.cell? ⟨wo.heap.size, 13, none⟩ = some (.int .i64 (y.m)) := (hb1.cells.1 _ _ (by simp <;> omega)).trans (by simp [go_sem])
  have pl := World.block_lt_of_cell? _ ⟨wo.heap.size, 0, none⟩ ql_0
  have rl := Nat.lt_succ_of_lt pl
  go_wp2_with fail
  refine (tnHas _ _ _ _ _ _ _ _ _ _ _ _ _ _ _ _ _).mono ?_
  rintro e w2 ⟨rfl, hb2⟩
  have hx2 : Ext w1 w2 := by repeat (first | with_reducible exact Ext.refl _ | with_reducible assumption | with_reducible refine Ext.alloc ?_ _ | with_reducible refine Ext.drew ?_ | with_reducible refine Ext.drewN ?_ _ | with_reducible refine Ext.setCell ?_ (by simp <;> omega) _ | with_reducible refine Ext.trans ?_ (by assumption))
  replace ql_0 := hx2.cell ql_0
  replace ql_1 := hx2.cell ql_1
  replace ql_2 := hx2.cell ql_2
  replace ql_3 := hx2.cell ql_3
  replace ql_4 := hx2.cell ql_4
  replace ql_5 := hx2.cell ql_5
  replace ql_6 := hx2.cell ql_6
  replace ql_7 := hx2.cell ql_7
  replace ql_8 := hx2.cell ql_8
  replace ql_9 := hx2.cell ql_9
  replace ql_10 := hx2.cell ql_10
  replace ql_11 := hx2.cell ql_11
  replace ql_12 := hx2.cell ql_12
  replace ql_13 := hx2.cell ql_13
  replace pl := Nat.lt_of_lt_of_le pl hx2.size
  replace rl := Nat.lt_succ_of_lt pl
  clear hx2
  have XE : Ext w w2 := Ho.out.trans (Ext.trans ((Ext.refl wo).alloc _) (hb1.trans hb2))
  have HB2 := Lib.hid (HB.out.ext XE)
  have HE2 := Lib.hid (HE.out.ext XE)
  have HXE := Lib.hid XE
  clear XE hb1 hb2
  go_wp2_with fail
  refine (CA.out _ HB2.out HE2.out).mono ?_
  rintro e w3 ⟨rfl, lv3, B3, N3, A3⟩
  have HR := Lib.hid (HFIN.out lv3 w3 B3 ((HXE.out.but (Own b g lv)).trans N3) (A3.imp id (fun ⟨j, e, hj⟩ => ⟨j, e, Nat.le_trans HXE.out.size hj⟩)))
  clear N3 B3 A3 ql_0 ql_1 ql_2 ql_3 ql_4 ql_5 ql_6 ql_7 ql_8 ql_9 ql_10 ql_11 ql_12 ql_13 hfld hV5
  go_wp2
  refine bodyPost_ret (v := .tuple #[]) (by simp [results, Tryz.results64, go_sem]) rfl ?_
  exact HR.out
set_option maxRecDepth 100000 in
theorem Leave32_no (b g : Nat) (y : LY) (f : Nat → Int) (lv : Value) (log : List Acc) (ups : List (List Int)) (t : Int) (w : World) (K : BK y ups) (B : BW w 93 b g y f lv log ups) (hV : ¬ y.V = 5) :
    Calls Tryz.prog 64 #[.pointer (some ⟨b, 0, none⟩), .int .i64 t] w (VoidX w) := by
  have CL := Lib.hid (BWLayout32 b g y f lv log ups w K B)
  have hfld : ∀ (u : Value) (x1 x2 x3 x4 x5 x6 x7 x8 : Int) (w : World), (Instr.field 31 (.agg #[.int .i64 (y.V), .int .i64 (y.W), .int .i64 (y.C), .int .i64 (y.P), .int .u64 (y.S), u, .int .i64 x1, .int .i64 x2, .int .i64 x3, .int .i64 x4, .int .i64 x5, .int .i64 x6, .int .i64 x7, .int .i64 x8]) 0).run Tryz.prog w = .ok (.agg #[.int .i64 (y.V), .int .i64 (y.W), .int .i64 (y.C), .int .i64 (y.P), .int .u64 (y.S), u]) w := fun u x1 x2 x3 x4 x5 x6 x7 x8 w => by kernel_rfl
  have hV5 : (y.V == 5) = false := by simpa using hV
  clear B hV K
  go_enter Tryz.func64, Tryz.ntmps64
  go_wp2_with fail
  refine CL.out.mono ?_
  rintro e wo ⟨u, rfl, L1, Xo⟩
  obtain ⟨ua, uc, rfl, -⟩ := L1
  have Ho := Lib.hid Xo
  clear Xo CL
  go_upto_region 1 with (fail)
  refine settle_wp ?_
  intro w1 hb1
  have ql_0 : w1.cell? ⟨wo.heap.size, 0, none⟩ = some (.int .i64 (y.V)) := (hb1.cells.1 _ _ (by simp <;> omega)).trans (by simp [go_sem])
  have ql_1 : w1.cell? ⟨wo.heap.size, 1, none⟩ = some (.int .i64 (y.W)) := (hb1.cells.1 _ _ (by simp <;> omega)).trans (by simp [go_sem])
  have ql_2 : w1.cell? ⟨wo.heap.size, 2, none⟩ = some (.int .i64 (y.C)) := (hb1.cells.1 _ _ (by simp <;> omega)).trans (by simp [go_sem])
  have ql_3 : w1.cell? ⟨wo.heap.size, 3, none⟩ = some (.int .i64 (y.P)) := (hb1.cells.1 _ _ (by simp <;> omega)).trans (by simp [go_sem])
  have ql_4 : w1.cell? ⟨wo.heap.size, 4, none⟩ = some (.int .u64 (y.S)) := (hb1.cells.1 _ _ (by simp <;> omega)).trans (by simp [go_sem])
  have ql_5 : w1.cell? ⟨wo.heap.size, 5, none⟩ = some (.slice ua ups.length uc) := (hb1.cells.1 _ _ (by simp <;> omega)).trans (by simp [go_sem])
  have ql_6 : w1.cell? ⟨wo.heap.size, 6, none⟩ = some (.int .i64 (y.Cu)) := (hb1.cells.1 _ _ (by simp <;> omega)).trans (by simp [go_sem])
  have ql_7 : w1.cell? ⟨wo.heap.size, 7, none⟩ = some (.int .i64 (y.Cl)) := (hb1.cells.1 _ _ (by simp <;> omega)).trans (by simp [go_sem])
  have ql_8 : w1.cell? ⟨wo.heap.size, 8, none⟩ = some (.int .i64 (y.Ti)) := (hb1.cells.1 _ _ (by simp <;> omega)).trans (by simp [go_sem])
  have ql_9 : w1.cell? ⟨wo.heap.size, 9, none⟩ = some (.int .i64 (y.Se)) := (hb1.cells.1 _ _ (by simp <;> omega)).trans (by simp [go_sem])
  have ql_10 : w1.cell? ⟨wo.heap.size, 10, none⟩ = some (.int .i64 (y.Ne)) := (hb1.cells.1 _ _ (by simp <;> omega)).trans (by simp [go_sem])
  have ql_11 : w1.cell? ⟨wo.heap.size, 11, none⟩ = some (.int .i64 (y.Ma)) := (hb1.cells.1 _ _ (by simp <;> omega)).trans (by simp [go_sem])
  have ql_12 : w1.cell? ⟨wo.heap.size, 12, none⟩ = some (.int .i64 (y.Sl)) := (hb1.cells.1 _ _ (by simp <;> omega)).trans (by simp [go_sem])
  have ql_13 : w1.cell? ⟨wo.heap.size, 13, none⟩ = some (.int .i64 (y.m)) := (hb1.cells.1 _ _ (by simp <;> omega)).trans (by simp [go_sem])
  have pl := World.block_lt_of_cell? _ ⟨wo.heap.size, 0, none⟩ ql_0
  have rl := Nat.lt_succ_of_lt pl
  go_wp2_with fail
  refine (tnHas _ _ _ _ _ _ _ _ _ _ _ _ _ _ _ _ _).mono ?_
  rintro e w2 ⟨rfl, hb2⟩
  have hx2 : Ext w1 w2 := by repeat (first | with_reducible exact Ext.refl _ | with_reducible assumption | with_reducible refine Ext.alloc ?_ _ | with_reducible refine Ext.drew ?_ | with_reducible refine Ext.drewN ?_ _ | with_reducible refine Ext.setCell ?_ (by simp <;> omega) _ | with_reducible refine Ext.trans ?_ (by assumption))
  replace ql_0 := hx2.cell ql_0
  replace ql_1 := hx2.cell ql_1
  replace ql_2 := hx2.cell ql_2
  replace ql_3 := hx2.cell ql_3
  replace ql_4 := hx2.cell ql_4
  replace ql_5 := hx2.cell ql_5
  replace ql_6 := hx2.cell ql_6
  replace ql_7 := hx2.cell ql_7
  replace ql_8 := hx2.cell ql_8
  replace ql_9 := hx2.cell ql_9
  replace ql_10 := hx2.cell ql_10
  replace ql_11 := hx2.cell ql_11
  replace ql_12 := hx2.cell ql_12
  replace ql_13 := hx2.cell ql_13
  replace pl := Nat.lt_of_lt_of_le pl hx2.size
  replace rl := Nat.lt_succ_of_lt pl
  clear hx2
  have XE : Ext w w2 := Ho.out.trans (Ext.trans ((Ext.refl wo).alloc _) (hb1.trans hb2))
  go_wp2
  refine bodyPost_ret (v := .tuple #[]) (by simp [results, Tryz.results64, go_sem]) rfl ?_
  exact ⟨rfl, XE⟩
set_option maxRecDepth 100000 in
theorem Leave32_nil (t : Int) (w : World) : Calls Tryz.prog 64 #[.pointer none, .int .i64 t] w (VoidX w) := by
  go_enter Tryz.func64, Tryz.ntmps64
  go_wp2_with fail
  refine (Layout32_void _).mono ?_
  rintro e w1 ⟨rfl, hb1⟩
  obtain ⟨hc1, hf1⟩ := hb1.cells
  have Ho := Lib.hid hb1
  clear hb1
  go_upto_region 1 with (fail)
  clear hc1 hf1
  refine settle_wp ?_
  intro w2 hb2
  have ql_0 : w2.cell? ⟨w1.heap.size, 0, none⟩ = some (.int .i64 0) := (hb2.cells.1 _ _ (by simp <;> omega)).trans (by simp [go_sem])
  have ql_1 : w2.cell? ⟨w1.heap.size, 1, none⟩ = some (.int .i64 0) := (hb2.cells.1 _ _ (by simp <;> omega)).trans (by simp [go_sem])
  have ql_2 : w2.cell? ⟨w1.heap.size, 2, none⟩ = some (.int .i64 0) := (hb2.cells.1 _ _ (by simp <;> omega)).trans (by simp [go_sem])
  have ql_3 : w2.cell? ⟨w1.heap.size, 3, none⟩ = some (.int .i64 0) := (hb2.cells.1 _ _ (by simp <;> omega)).trans (by simp [go_sem])
  have ql_4 : w2.cell? ⟨w1.heap.size, 4, none⟩ = some (.int .u64 0) := (hb2.cells.1 _ _ (by simp <;> omega)).trans (by simp [go_sem])
  have ql_5 : w2.cell? ⟨w1.heap.size, 5, none⟩ = some (.slice none 0 0) := (hb2.cells.1 _ _ (by simp <;> omega)).trans (by simp [go_sem])
  have ql_6 : w2.cell? ⟨w1.heap.size, 6, none⟩ = some (.int .i64 0) := (hb2.cells.1 _ _ (by simp <;> omega)).trans (by simp [go_sem])
  have ql_7 : w2.cell? ⟨w1.heap.size, 7, none⟩ = some (.int .i64 0) := (hb2.cells.1 _ _ (by simp <;> omega)).trans (by simp [go_sem])
  have ql_8 : w2.cell? ⟨w1.heap.size, 8, none⟩ = some (.int .i64 0) := (hb2.cells.1 _ _ (by simp <;> omega)).trans (by simp [go_sem])
  have ql_9 : w2.cell? ⟨w1.heap.size, 9, none⟩ = some (.int .i64 0) := (hb2.cells.1 _ _ (by simp <;> omega)).trans (by simp [go_sem])
  have ql_10 : w2.cell? ⟨w1.heap.size, 10, none⟩ = some (.int .i64 0) := (hb2.cells.1 _ _ (by simp <;> omega)).trans (by simp [go_sem])
  have ql_11 : w2.cell? ⟨w1.heap.size, 11, none⟩ = some (.int .i64 0) := (hb2.cells.1 _ _ (by simp <;> omega)).trans (by simp [go_sem])
  have ql_12 : w2.cell? ⟨w1.heap.size, 12, none⟩ = some (.int .i64 0) := (hb2.cells.1 _ _ (by simp <;> omega)).trans (by simp [go_sem])
  have ql_13 : w2.cell? ⟨w1.heap.size, 13, none⟩ = some (.int .i64 0) := (hb2.cells.1 _ _ (by simp <;> omega)).trans (by simp [go_sem])
  have pl := World.block_lt_of_cell? _ ⟨w1.heap.size, 0, none⟩ ql_0
  have rl := Nat.lt_succ_of_lt pl
  go_wp2_with fail
  refine (tnHas _ _ _ _ _ _ _ _ _ _ _ _ _ _ _ _ _).mono ?_
  rintro e w3 ⟨rfl, hb3⟩
  have hx3 : Ext w2 w3 := by repeat (first | with_reducible exact Ext.refl _ | with_reducible assumption | with_reducible refine Ext.alloc ?_ _ | with_reducible refine Ext.drew ?_ | with_reducible refine Ext.drewN ?_ _ | with_reducible refine Ext.setCell ?_ (by simp <;> omega) _ | with_reducible refine Ext.trans ?_ (by assumption))
  replace ql_0 := hx3.cell ql_0
  replace ql_1 := hx3.cell ql_1
  replace ql_2 := hx3.cell ql_2
  replace ql_3 := hx3.cell ql_3
  replace ql_4 := hx3.cell ql_4
  replace ql_5 := hx3.cell ql_5
  replace ql_6 := hx3.cell ql_6
  replace ql_7 := hx3.cell ql_7
  replace ql_8 := hx3.cell ql_8
  replace ql_9 := hx3.cell ql_9
  replace ql_10 := hx3.cell ql_10
  replace ql_11 := hx3.cell ql_11
  replace ql_12 := hx3.cell ql_12
  replace ql_13 := hx3.cell ql_13
  replace pl := Nat.lt_of_lt_of_le pl hx3.size
  replace rl := Nat.lt_succ_of_lt pl
  clear hx3
  have XE : Ext w w3 := Ho.out.trans (Ext.trans ((Ext.refl w1).alloc _) (hb2.trans hb3))
  go_wp2
  refine bodyPost_ret (v := .tuple #[]) (by simp [results, Tryz.results64, go_sem]) rfl ?_
  exact ⟨rfl, XE⟩
set_option maxRecDepth 100000 in
theorem tnHas32 (b g : Nat) (y : LY) (f : Nat → Int) (lv : Value) (log : List Acc) (ups : List (List Int)) (w : World) (K : BK y ups) (B : BW w 93 b g y f lv log ups) :
    Calls Tryz.prog 65 #[.pointer (some ⟨b, 0, none⟩)] w fun e w' => e = .returned (.bool (y.V == 5)) ∧ Ext w w' := by
  have CL := Lib.hid (BWLayout32 b g y f lv log ups w K B)
  clear B K
  go_enter Tryz.func65, Tryz.ntmps65
  go_wp2_with fail
  refine CL.out.mono ?_
  rintro e wo ⟨u, rfl, L1, Xo⟩
  obtain ⟨ua, uc, rfl, -⟩ := L1
  have Ho := Lib.hid Xo
  clear Xo CL
  go_wp2_with fail
  refine (tnHas _ _ _ _ _ _ _ _ _ _ _ _ _ _ _ _ _).mono ?_
  rintro e w2 ⟨rfl, X2⟩
  have HX2 := Lib.hid (Ho.out.trans X2)
  clear X2 Ho
  cases hv : (y.V == 5)
  · go_wp2
    go_ret
    exact ⟨by rw [hv]; rfl, HX2.out⟩
  · go_wp2
    go_ret
    exact ⟨by rw [hv]; rfl, HX2.out⟩
theorem tnHas32_nil (w : World) : Calls Tryz.prog 65 #[.pointer none] w fun e w' => e = .returned (.bool false) ∧ Ext w w' := by
  go_enter Tryz.func65, Tryz.ntmps65
  go_wp2_with fail
  refine (Layout32_void _).mono ?_
  rintro e w1 ⟨rfl, hb1⟩
  obtain ⟨hc1, hf1⟩ := hb1.cells
  go_wp2_with fail
  refine (tnHas _ _ _ _ _ _ _ _ _ _ _ _ _ _ _ _ _).mono ?_
  rintro e w2 ⟨rfl, hb2⟩
  obtain ⟨hc2, hf2⟩ := hb2.cells
  go_wp2
  go_ret
  refine ⟨rfl, hb1.trans hb2⟩
set_option maxRecDepth 100000 in
theorem Waiting32_yes (b g : Nat) (y : LY) (f : Nat → Int) (lv : Value) (log : List Acc) (ups : List (List Int)) (w : World) (K : BK y ups) (B : BW w 93 b g y f lv log ups) (E : Parts w) (hV : y.V = 5) (hW : y.W = 32) :
    Calls Tryz.prog 63 #[.pointer (some ⟨b, 0, none⟩)] w fun e w' => e = .returned (.int .i64 (D32 (f y.n - f (y.n + 1)))) ∧ Ext w w' := by
  have CL := Lib.hid (BWLayout32 b g y f lv log ups w K B)
  obtain ⟨kTi, kSe, kk1, kk2, klt⟩ := K.lock hV
  have HB := Lib.hid B.B
  have HE := Lib.hid E
  have hfld : ∀ (u : Value) (x1 x2 x3 x4 x5 x6 x7 x8 : Int) (w : World), (Instr.field 31 (.agg #[.int .i64 (y.V), .int .i64 32, .int .i64 (y.C), .int .i64 (y.P), .int .u64 (y.S), u, .int .i64 x1, .int .i64 x2, .int .i64 x3, .int .i64 x4, .int .i64 x5, .int .i64 x6, .int .i64 x7, .int .i64 x8]) 0).run Tryz.prog w = .ok (.agg #[.int .i64 (y.V), .int .i64 32, .int .i64 (y.C), .int .i64 (y.P), .int .u64 (y.S), u]) w := fun u x1 x2 x3 x4 x5 x6 x7 x8 w => by kernel_rfl
  have hV5 : (y.V == 5) = true := by simp [hV]
  have CP1 := Lib.hid (fun w1 (h : BD w1 93 b g y f lv log) (E1 : Parts w1) => Peek32 b g y f lv log y.n w1 h K.yok E1 (by rw [kk1]; decide))
  have CP2 := Lib.hid (fun w1 (h : BD w1 93 b g y f lv log) (E1 : Parts w1) => Peek32 b g y f lv log (y.n + 1) w1 h K.yok E1 (by rw [kk2]; decide))
  generalize f y.n = x1 at *
  generalize f (y.n + 1) = x2 at *
  have HW := Lib.hid hW
  clear B E K kk1 kk2 klt hV hW
  go_enter Tryz.func63, Tryz.ntmps63
  go_wp2_with fail
  refine CL.out.mono ?_
  rintro e wo ⟨u, rfl, L1, Xo⟩
  obtain ⟨ua, uc, rfl, -⟩ := L1
  rw [kTi, kSe, HW.out]
  have Ho := Lib.hid Xo
  clear Xo CL kTi kSe
  go_upto_region 2 with (fail)
  refine settle_wp ?_
  intro w1 hb1
  have ql_0 : w1.cell? ⟨wo.heap.size, 0, none⟩ = some (.int .i64 (y.V)) := (hb1.cells.1 _ _ (by simp <;> omega)).trans (by simp [go_sem])
  have ql_1 : w1.cell? ⟨wo.heap.size, 1, none⟩ = some (.int .i64 32) := (hb1.cells.1 _ _ (by simp <;> omega)).trans (by simp [go_sem])
  have ql_2 : w1.cell? ⟨wo.heap.size, 2, none⟩ = some (.int .i64 (y.C)) := (hb1.cells.1 _ _ (by simp <;> omega)).trans (by simp [go_sem])
  have ql_3 : w1.cell? ⟨wo.heap.size, 3, none⟩ = some (.int .i64 (y.P)) := (hb1.cells.1 _ _ (by simp <;> omega)).trans (by simp [go_sem])
  have ql_4 : w1.cell? ⟨wo.heap.size, 4, none⟩ = some (.int .u64 (y.S)) := (hb1.cells.1 _ _ (by simp <;> omega)).trans (by simp [go_sem])
  have ql_5 : w1.cell? ⟨wo.heap.size, 5, none⟩ = some (.slice ua ups.length uc) := (hb1.cells.1 _ _ (by simp <;> omega)).trans (by simp [go_sem])
  have ql_6 : w1.cell? ⟨wo.heap.size, 6, none⟩ = some (.int .i64 (y.Cu)) := (hb1.cells.1 _ _ (by simp <;> omega)).trans (by simp [go_sem])
  have ql_7 : w1.cell? ⟨wo.heap.size, 7, none⟩ = some (.int .i64 (y.Cl)) := (hb1.cells.1 _ _ (by simp <;> omega)).trans (by simp [go_sem])
  have ql_8 : w1.cell? ⟨wo.heap.size, 8, none⟩ = some (.int .i64 (y.n)) := (hb1.cells.1 _ _ (by simp <;> omega)).trans (by simp [go_sem])
  have ql_9 : w1.cell? ⟨wo.heap.size, 9, none⟩ = some (.int .i64 (y.n + 1)) := (hb1.cells.1 _ _ (by simp <;> omega)).trans (by simp [go_sem])
  have ql_10 : w1.cell? ⟨wo.heap.size, 10, none⟩ = some (.int .i64 (y.Ne)) := (hb1.cells.1 _ _ (by simp <;> omega)).trans (by simp [go_sem])
  have ql_11 : w1.cell? ⟨wo.heap.size, 11, none⟩ = some (.int .i64 (y.Ma)) := (hb1.cells.1 _ _ (by simp <;> omega)).trans (by simp [go_sem])
  have ql_12 : w1.cell? ⟨wo.heap.size, 12, none⟩ = some (.int .i64 (y.Sl)) := (hb1.cells.1 _ _ (by simp <;> omega)).trans (by simp [go_sem])
  have ql_13 : w1.cell? ⟨wo.heap.size, 13, none⟩ = some (.int .i64 (y.m)) := (hb1.cells.1 _ _ (by simp <;> omega)).trans (by simp [go_sem])
  have pl := World.block_lt_of_cell? _ ⟨wo.heap.size, 0, none⟩ ql_0
  have rl := Nat.lt_succ_of_lt pl
  go_wp2_with fail
  refine (tnHas _ _ _ _ _ _ _ _ _ _ _ _ _ _ _ _ _).mono ?_
  rintro e w2 ⟨rfl, hb2⟩
  have hx2 : Ext w1 w2 := by repeat (first | with_reducible exact Ext.refl _ | with_reducible assumption | with_reducible refine Ext.alloc ?_ _ | with_reducible refine Ext.drew ?_ | with_reducible refine Ext.drewN ?_ _ | with_reducible refine Ext.setCell ?_ (by simp <;> omega) _ | with_reducible refine Ext.trans ?_ (by assumption))
  replace ql_0 := hx2.cell ql_0
  replace ql_1 := hx2.cell ql_1
  replace ql_2 := hx2.cell ql_2
  replace ql_3 := hx2.cell ql_3
  replace ql_4 := hx2.cell ql_4
  replace ql_5 := hx2.cell ql_5
  replace ql_6 := hx2.cell ql_6
  replace ql_7 := hx2.cell ql_7
  replace ql_8 := hx2.cell ql_8
  replace ql_9 := hx2.cell ql_9
  replace ql_10 := hx2.cell ql_10
  replace ql_11 := hx2.cell ql_11
  replace ql_12 := hx2.cell ql_12
  replace ql_13 := hx2.cell ql_13
  replace pl := Nat.lt_of_lt_of_le pl hx2.size
  replace rl := Nat.lt_succ_of_lt pl
  clear hx2
  have XE : Ext w w2 := Ho.out.trans (Ext.trans ((Ext.refl wo).alloc _) (hb1.trans hb2))
  have HB2 := Lib.hid (HB.out.ext XE)
  have HE2 := Lib.hid (HE.out.ext XE)
  have HXE := Lib.hid XE
  clear XE hb1 hb2
  go_upto_region 4 with (fail)
  refine wp_region_held_drew (S := fun w' => Ext w2 w') (by kernel_rfl) ?hbeg (fun hHeld => ?_)
  case hbeg => exact (Ext.refl w2).drew
  have hHeld0 : Ext w2 w2 := by first | exact Ext.refl _ | assumption
  have k1 := fun w' (hx : Ext w2 w') => hx.cell ql_1
  have k8 := fun w' (hx : Ext w2 w') => hx.cell ql_8
  have k9 := fun w' (hx : Ext w2 w') => hx.cell ql_9
  first
    | (refine take_at (i := 0) (v := ?_) rfl rfl (by kernel_rfl) (by kernel_rfl) (by kernel_rfl) (fun _ _ _ h => h) (Or.inl ⟨by rfl, ?hy⟩) (by assumption) ?_
       case hy => (intro wz hSw; (try dsimp only at hSw); go_simp <;> with_reducible rfl)
       simp only [List.setIfInBounds_toArray, List.set_cons_zero, List.set_cons_succ])
    | (refine take_at (i := 0) (v := undef) rfl rfl (by kernel_rfl) (by kernel_rfl) (by kernel_rfl) (fun _ _ _ h => h) (Or.inr ⟨by rfl, rfl⟩) (by assumption) ?_
       simp only [List.setIfInBounds_toArray, List.set_cons_zero, List.set_cons_succ])
  first
    | (refine take_at (i := 1) (v := ?_) rfl rfl (by kernel_rfl) (by kernel_rfl) (by kernel_rfl) (fun _ _ _ h => h) (Or.inl ⟨by rfl, ?hy⟩) (by assumption) ?_
       case hy => (intro wz hSw; (try dsimp only at hSw); go_simp <;> with_reducible rfl)
       simp only [List.setIfInBounds_toArray, List.set_cons_zero, List.set_cons_succ])
    | (refine take_at (i := 1) (v := undef) rfl rfl (by kernel_rfl) (by kernel_rfl) (by kernel_rfl) (fun _ _ _ h => h) (Or.inr ⟨by rfl, rfl⟩) (by assumption) ?_
       simp only [List.setIfInBounds_toArray, List.set_cons_zero, List.set_cons_succ])
  first
    | (refine take_at (i := 2) (v := ?_) rfl rfl (by kernel_rfl) (by kernel_rfl) (by kernel_rfl) (fun _ _ _ h => h) (Or.inl ⟨by rfl, ?hy⟩) (by assumption) ?_
       case hy => (intro wz hSw; (try dsimp only at hSw); go_simp <;> with_reducible rfl)
       simp only [List.setIfInBounds_toArray, List.set_cons_zero, List.set_cons_succ])
    | (refine take_at (i := 2) (v := undef) rfl rfl (by kernel_rfl) (by kernel_rfl) (by kernel_rfl) (fun _ _ _ h => h) (Or.inr ⟨by rfl, rfl⟩) (by assumption) ?_
       simp only [List.setIfInBounds_toArray, List.set_cons_zero, List.set_cons_succ])
  first
    | (refine take_at (i := 3) (v := ?_) rfl rfl (by kernel_rfl) (by kernel_rfl) (by kernel_rfl) (fun _ _ _ h => h) (Or.inl ⟨by rfl, ?hy⟩) (by assumption) ?_
       case hy => (intro wz hSw; (try dsimp only at hSw); go_simp <;> with_reducible rfl)
       simp only [List.setIfInBounds_toArray, List.set_cons_zero, List.set_cons_succ])
    | (refine take_at (i := 3) (v := undef) rfl rfl (by kernel_rfl) (by kernel_rfl) (by kernel_rfl) (fun _ _ _ h => h) (Or.inr ⟨by rfl, rfl⟩) (by assumption) ?_
       simp only [List.setIfInBounds_toArray, List.set_cons_zero, List.set_cons_succ])
  first
    | (refine take_at (i := 4) (v := ?_) rfl rfl (by kernel_rfl) (by kernel_rfl) (by kernel_rfl) (fun _ _ _ h => h) (Or.inl ⟨by rfl, ?hy⟩) (by assumption) ?_
       case hy => (intro wz hSw; (try dsimp only at hSw); go_simp <;> with_reducible rfl)
       simp only [List.setIfInBounds_toArray, List.set_cons_zero, List.set_cons_succ])
    | (refine take_at (i := 4) (v := undef) rfl rfl (by kernel_rfl) (by kernel_rfl) (by kernel_rfl) (fun _ _ _ h => h) (Or.inr ⟨by rfl, rfl⟩) (by assumption) ?_
       simp only [List.setIfInBounds_toArray, List.set_cons_zero, List.set_cons_succ])
  first
    | (refine take_at (i := 5) (v := ?_) rfl rfl (by kernel_rfl) (by kernel_rfl) (by kernel_rfl) (fun _ _ _ h => h) (Or.inl ⟨by rfl, ?hy⟩) (by assumption) ?_
       case hy => (intro wz hSw; (try dsimp only at hSw); go_simp <;> with_reducible rfl)
       simp only [List.setIfInBounds_toArray, List.set_cons_zero, List.set_cons_succ])
    | (refine take_at (i := 5) (v := undef) rfl rfl (by kernel_rfl) (by kernel_rfl) (by kernel_rfl) (fun _ _ _ h => h) (Or.inr ⟨by rfl, rfl⟩) (by assumption) ?_
       simp only [List.setIfInBounds_toArray, List.set_cons_zero, List.set_cons_succ])
  first
    | (refine take_at (i := 7) (v := ?_) rfl rfl (by kernel_rfl) (by kernel_rfl) (by kernel_rfl) (fun _ _ _ h => h) (Or.inl ⟨by rfl, ?hy⟩) (by assumption) ?_
       case hy => (intro wz hSw; (try dsimp only at hSw); go_simp <;> with_reducible rfl)
       simp only [List.setIfInBounds_toArray, List.set_cons_zero, List.set_cons_succ])
    | (refine take_at (i := 7) (v := undef) rfl rfl (by kernel_rfl) (by kernel_rfl) (by kernel_rfl) (fun _ _ _ h => h) (Or.inr ⟨by rfl, rfl⟩) (by assumption) ?_
       simp only [List.setIfInBounds_toArray, List.set_cons_zero, List.set_cons_succ])
  first
    | (refine take_at (i := 8) (v := ?_) rfl rfl (by kernel_rfl) (by kernel_rfl) (by kernel_rfl) (fun _ _ _ h => h) (Or.inl ⟨by rfl, ?hy⟩) (by assumption) ?_
       case hy => (intro wz hSw; (try dsimp only at hSw); go_simp <;> with_reducible rfl)
       simp only [List.setIfInBounds_toArray, List.set_cons_zero, List.set_cons_succ])
    | (refine take_at (i := 8) (v := undef) rfl rfl (by kernel_rfl) (by kernel_rfl) (by kernel_rfl) (fun _ _ _ h => h) (Or.inr ⟨by rfl, rfl⟩) (by assumption) ?_
       simp only [List.setIfInBounds_toArray, List.set_cons_zero, List.set_cons_succ])
  first
    | (refine take_at (i := 9) (v := ?_) rfl rfl (by kernel_rfl) (by kernel_rfl) (by kernel_rfl) (fun _ _ _ h => h) (Or.inl ⟨by rfl, ?hy⟩) (by assumption) ?_
       case hy => (intro wz hSw; (try dsimp only at hSw); go_simp <;> with_reducible rfl)
       simp only [List.setIfInBounds_toArray, List.set_cons_zero, List.set_cons_succ])
    | (refine take_at (i := 9) (v := undef) rfl rfl (by kernel_rfl) (by kernel_rfl) (by kernel_rfl) (fun _ _ _ h => h) (Or.inr ⟨by rfl, rfl⟩) (by assumption) ?_
       simp only [List.setIfInBounds_toArray, List.set_cons_zero, List.set_cons_succ])
  refine call_at (i := 6) (F := 23) (CP1.out _ (HB2.out.ext hHeld) (HE2.out.ext hHeld)) rfl rfl (by kernel_rfl) (by rfl) (by first | rfl | (go_simp <;> rfl)) ?_
  rintro e wq3 ⟨rfl, Xq3⟩
  have Yq3 := Ext.trans hHeld Xq3
  refine ⟨_, rfl, Yq3, wpAnyH_strong (S' := fun w' => Ext wq3 w') (fun w' h => Ext.trans Yq3 h) _ _ _ _ ?_⟩
  simp only [List.setIfInBounds_toArray, List.set_cons_zero, List.set_cons_succ]
  have Zq3 : Ext w2 wq3 := Ext.trans (by assumption) Yq3
  clear hHeld Xq3 Yq3
  have hHeld := Ext.refl wq3
  refine call_at (i := 10) (F := 23) (CP2.out _ (HB2.out.ext Zq3) (HE2.out.ext Zq3)) rfl rfl (by kernel_rfl) (by rfl) (by first | rfl | (go_simp <;> rfl)) ?_
  rintro e wq4 ⟨rfl, Xq4⟩
  have Yq4 := Ext.trans hHeld Xq4
  refine ⟨_, rfl, Yq4, wpAnyH_strong (S' := fun w' => Ext wq4 w') (fun w' h => Ext.trans Yq4 h) _ _ _ _ ?_⟩
  simp only [List.setIfInBounds_toArray, List.set_cons_zero, List.set_cons_succ]
  have Zq4 : Ext w2 wq4 := Ext.trans (by assumption) Yq4
  clear hHeld Xq4 Yq4
  have hHeld := Ext.refl wq4
  refine call_at (i := 11) (F := 113) (wGap_32 x1 x2 _) rfl rfl (by kernel_rfl) (by rfl) (by first | rfl | (go_simp <;> rfl)) ?_
  rintro e w' ⟨rfl, rfl⟩
  refine ⟨_, rfl, by assumption, ?_⟩
  simp only [List.setIfInBounds_toArray, List.set_cons_zero, List.set_cons_succ]
  first
    | (refine take_at (i := 12) (v := ?_) rfl rfl (by kernel_rfl) (by kernel_rfl) (by kernel_rfl) (fun _ _ _ h => h) (Or.inl ⟨by rfl, ?hy⟩) (by assumption) ?_
       case hy => (intro wz hSw; (try dsimp only at hSw); go_simp <;> with_reducible rfl)
       simp only [List.setIfInBounds_toArray, List.set_cons_zero, List.set_cons_succ])
    | (refine take_at (i := 12) (v := undef) rfl rfl (by kernel_rfl) (by kernel_rfl) (by kernel_rfl) (fun _ _ _ h => h) (Or.inr ⟨by rfl, rfl⟩) (by assumption) ?_
       simp only [List.setIfInBounds_toArray, List.set_cons_zero, List.set_cons_succ])
  refine wpAnyH_done (by kernel_rfl) ?_ _
  go_wp2
  go_ret
  exact ⟨rfl, HXE.out.trans Zq4⟩
set_option maxRecDepth 100000 in
theorem Waiting32_no (b g : Nat) (y : LY) (f : Nat → Int) (lv : Value) (log : List Acc) (ups : List (List Int)) (w : World) (K : BK y ups) (B : BW w 93 b g y f lv log ups) (hV : ¬ y.V = 5) :
    Calls Tryz.prog 63 #[.pointer (some ⟨b, 0, none⟩)] w fun e w' => e = .returned (.int .i64 0) ∧ Ext w w' := by
  have CL := Lib.hid (BWLayout32 b g y f lv log ups w K B)
  have hfld : ∀ (u : Value) (x1 x2 x3 x4 x5 x6 x7 x8 : Int) (w : World), (Instr.field 31 (.agg #[.int .i64 (y.V), .int .i64 (y.W), .int .i64 (y.C), .int .i64 (y.P), .int .u64 (y.S), u, .int .i64 x1, .int .i64 x2, .int .i64 x3, .int .i64 x4, .int .i64 x5, .int .i64 x6, .int .i64 x7, .int .i64 x8]) 0).run Tryz.prog w = .ok (.agg #[.int .i64 (y.V), .int .i64 (y.W), .int .i64 (y.C), .int .i64 (y.P), .int .u64 (y.S), u]) w := fun u x1 x2 x3 x4 x5 x6 x7 x8 w => by kernel_rfl
  have hV5 : (y.V == 5) = false := by simpa using hV
  clear B hV K
  go_enter Tryz.func63, Tryz.ntmps63
  go_wp2_with fail
  refine CL.out.mono ?_
  rintro e wo ⟨u, rfl, L1, Xo⟩
  obtain ⟨ua, uc, rfl, -⟩ := L1
  have Ho := Lib.hid Xo
  clear Xo CL
  go_upto_region 2 with (fail)
  refine settle_wp ?_
  intro w1 hb1
  have ql_0 : w1.cell? ⟨wo.heap.size, 0, none⟩ = some (.int .i64 (y.V)) := (hb1.cells.1 _ _ (by simp <;> omega)).trans (by simp [go_sem])
  have ql_1 : w1.cell? ⟨wo.heap.size, 1, none⟩ = some (.int .i64 (y.W)) := (hb1.cells.1 _ _ (by simp <;> omega)).trans (by simp [go_sem])
  have ql_2 : w1.cell? ⟨wo.heap.size, 2, none⟩ = some (.int .i64 (y.C)) := (hb1.cells.1 _ _ (by simp <;> omega)).trans (by simp [go_sem])
  have ql_3 : w1.cell? ⟨wo.heap.size, 3, none⟩ = some (.int .i64 (y.P)) := (hb1.cells.1 _ _ (by simp <;> omega)).trans (by simp [go_sem])
  have ql_4 : w1.cell? ⟨wo.heap.size, 4, none⟩ = some (.int .u64 (y.S)) := (hb1.cells.1 _ _ (by simp <;> omega)).trans (by simp [go_sem])
  have ql_5 : w1.cell? ⟨wo.heap.size, 5, none⟩ = some (.slice ua ups.length uc) := (hb1.cells.1 _ _ (by simp <;> omega)).trans (by simp [go_sem])
  have ql_6 : w1.cell? ⟨wo.heap.size, 6, none⟩ = some (.int .i64 (y.Cu)) := (hb1.cells.1 _ _ (by simp <;> omega)).trans (by simp [go_sem])
  have ql_7 : w1.cell? ⟨wo.heap.size, 7, none⟩ = some (.int .i64 (y.Cl)) := (hb1.cells.1 _ _ (by simp <;> omega)).trans (by simp [go_sem])
  have ql_8 : w1.cell? ⟨wo.heap.size, 8, none⟩ = some (.int .i64 (y.Ti)) := (hb1.cells.1 _ _ (by simp <;> omega)).trans (by simp [go_sem])
  have ql_9 : w1.cell? ⟨wo.heap.size, 9, none⟩ = some (.int .i64 (y.Se)) := (hb1.cells.1 _ _ (by simp <;> omega)).trans (by simp [go_sem])
  have ql_10 : w1.cell? ⟨wo.heap.size, 10, none⟩ = some (.int .i64 (y.Ne)) := (hb1.cells.1 _ _ (by simp <;> omega)).trans (by simp [go_sem])
  have ql_11 : w1.cell? ⟨wo.heap.size, 11, none⟩ = some (.int .i64 (y.Ma)) := (hb1.cells.1 _ _ (by simp <;> omega)).trans (by simp [go_sem])
  have ql_12 : w1.cell? ⟨wo.heap.size, 12, none⟩ = some (.int .i64 (y.Sl)) := (hb1.cells.1 _ _ (by simp <;> omega)).trans (by simp [go_sem])
  have ql_13 : w1.cell? ⟨wo.heap.size, 13, none⟩ = some (.int .i64 (y.m)) := (hb1.cells.1 _ _ (by simp <;> omega)).trans (by simp [go_sem])
  have pl := World.block_lt_of_cell? _ ⟨wo.heap.size, 0, none⟩ ql_0
  have rl := Nat.lt_succ_of_lt pl
  go_wp2_with fail
  refine (tnHas _ _ _ _ _ _ _ _ _ _ _ _ _ _ _ _ _).mono ?_
  rintro e w2 ⟨rfl, hb2⟩
  have hx2 : Ext w1 w2 := by repeat (first | with_reducible exact Ext.refl _ | with_reducible assumption | with_reducible refine Ext.alloc ?_ _ | with_reducible refine Ext.drew ?_ | with_reducible refine Ext.drewN ?_ _ | with_reducible refine Ext.setCell ?_ (by simp <;> omega) _ | with_reducible refine Ext.trans ?_ (by assumption))
  replace ql_0 := hx2.cell ql_0
  replace ql_1 := hx2.cell ql_1
  replace ql_2 := hx2.cell ql_2
  replace ql_3 := hx2.cell ql_3
  replace ql_4 := hx2.cell ql_4
  replace ql_5 := hx2.cell ql_5
  replace ql_6 := hx2.cell ql_6
  replace ql_7 := hx2.cell ql_7
  replace ql_8 := hx2.cell ql_8
  replace ql_9 := hx2.cell ql_9
  replace ql_10 := hx2.cell ql_10
  replace ql_11 := hx2.cell ql_11
  replace ql_12 := hx2.cell ql_12
  replace ql_13 := hx2.cell ql_13
  replace pl := Nat.lt_of_lt_of_le pl hx2.size
  replace rl := Nat.lt_succ_of_lt pl
  clear hx2
  have XE : Ext w w2 := Ho.out.trans (Ext.trans ((Ext.refl wo).alloc _) (hb1.trans hb2))
  go_wp2
  go_ret
  exact ⟨rfl, XE⟩
set_option maxRecDepth 100000 in
theorem Waiting32_nil (w : World) : Calls Tryz.prog 63 #[.pointer none] w fun e w' => e = .returned (.int .i64 0) ∧ Ext w w' := by
  go_enter Tryz.func63, Tryz.ntmps63
  go_wp2_with fail
  refine (Layout32_void _).mono ?_
  rintro e w1 ⟨rfl, hb1⟩
  obtain ⟨hc1, hf1⟩ := hb1.cells
  have Ho := Lib.hid hb1
  clear hb1
  go_upto_region 2 with (fail)
  clear hc1 hf1
  refine settle_wp ?_
  intro w2 hb2
  have ql_0 : w2.cell? ⟨w1.heap.size, 0, none⟩ = some (.int .i64 0) := (hb2.cells.1 _ _ (by simp <;> omega)).trans (by simp [go_sem])
  have ql_1 : w2.cell? ⟨w1.heap.size, 1, none⟩ = some (.int .i64 0) := (hb2.cells.1 _ _ (by simp <;> omega)).trans (by simp [go_sem])
  have ql_2 : w2.cell? ⟨w1.heap.size, 2, none⟩ = some (.int .i64 0) := (hb2.cells.1 _ _ (by simp <;> omega)).trans (by simp [go_sem])
  have ql_3 : w2.cell? ⟨w1.heap.size, 3, none⟩ = some (.int .i64 0) := (hb2.cells.1 _ _ (by simp <;> omega)).trans (by simp [go_sem])
  have ql_4 : w2.cell? ⟨w1.heap.size, 4, none⟩ = some (.int .u64 0) := (hb2.cells.1 _ _ (by simp <;> omega)).trans (by simp [go_sem])
  have ql_5 : w2.cell? ⟨w1.heap.size, 5, none⟩ = some (.slice none 0 0) := (hb2.cells.1 _ _ (by simp <;> omega)).trans (by simp [go_sem])
  have ql_6 : w2.cell? ⟨w1.heap.size, 6, none⟩ = some (.int .i64 0) := (hb2.cells.1 _ _ (by simp <;> omega)).trans (by simp [go_sem])
  have ql_7 : w2.cell? ⟨w1.heap.size, 7, none⟩ = some (.int .i64 0) := (hb2.cells.1 _ _ (by simp <;> omega)).trans (by simp [go_sem])
  have ql_8 : w2.cell? ⟨w1.heap.size, 8, none⟩ = some (.int .i64 0) := (hb2.cells.1 _ _ (by simp <;> omega)).trans (by simp [go_sem])
  have ql_9 : w2.cell? ⟨w1.heap.size, 9, none⟩ = some (.int .i64 0) := (hb2.cells.1 _ _ (by simp <;> omega)).trans (by simp [go_sem])
  have ql_10 : w2.cell? ⟨w1.heap.size, 10, none⟩ = some (.int .i64 0) := (hb2.cells.1 _ _ (by simp <;> omega)).trans (by simp [go_sem])
  have ql_11 : w2.cell? ⟨w1.heap.size, 11, none⟩ = some (.int .i64 0) := (hb2.cells.1 _ _ (by simp <;> omega)).trans (by simp [go_sem])
  have ql_12 : w2.cell? ⟨w1.heap.size, 12, none⟩ = some (.int .i64 0) := (hb2.cells.1 _ _ (by simp <;> omega)).trans (by simp [go_sem])
  have ql_13 : w2.cell? ⟨w1.heap.size, 13, none⟩ = some (.int .i64 0) := (hb2.cells.1 _ _ (by simp <;> omega)).trans (by simp [go_sem])
  have pl := World.block_lt_of_cell? _ ⟨w1.heap.size, 0, none⟩ ql_0
  have rl := Nat.lt_succ_of_lt pl
  go_wp2_with fail
  refine (tnHas _ _ _ _ _ _ _ _ _ _ _ _ _ _ _ _ _).mono ?_
  rintro e w3 ⟨rfl, hb3⟩
  have hx3 : Ext w2 w3 := by repeat (first | with_reducible exact Ext.refl _ | with_reducible assumption | with_reducible refine Ext.alloc ?_ _ | with_reducible refine Ext.drew ?_ | with_reducible refine Ext.drewN ?_ _ | with_reducible refine Ext.setCell ?_ (by simp <;> omega) _ | with_reducible refine Ext.trans ?_ (by assumption))
  replace ql_0 := hx3.cell ql_0
  replace ql_1 := hx3.cell ql_1
  replace ql_2 := hx3.cell ql_2
  replace ql_3 := hx3.cell ql_3
  replace ql_4 := hx3.cell ql_4
  replace ql_5 := hx3.cell ql_5
  replace ql_6 := hx3.cell ql_6
  replace ql_7 := hx3.cell ql_7
  replace ql_8 := hx3.cell ql_8
  replace ql_9 := hx3.cell ql_9
  replace ql_10 := hx3.cell ql_10
  replace ql_11 := hx3.cell ql_11
  replace ql_12 := hx3.cell ql_12
  replace ql_13 := hx3.cell ql_13
  replace pl := Nat.lt_of_lt_of_le pl hx3.size
  replace rl := Nat.lt_succ_of_lt pl
  clear hx3
  have XE : Ext w w3 := Ho.out.trans (Ext.trans ((Ext.refl w1).alloc _) (hb2.trans hb3))
  go_wp2
  go_ret
  exact ⟨rfl, XE⟩
/-- the board behind a Leave -/
def LeaveDoes64 (b g : Nat) (y : LY) (ups : List (List Int)) (lv : Value) (f' : Nat → Int) (log' : List Acc) (w : World) (e : Ending) (w' : World) : Prop :=
  e = .returned (.tuple #[]) ∧ ∃ lv', BW w' 141 b g y f' lv' log' ups ∧ But (Own b g lv) w w' ∧ (lv'.ownBlock = lv.ownBlock ∨ ∃ j, lv'.ownBlock = some j ∧ w.heap.size ≤ j)
set_option maxRecDepth 100000 in
theorem Leave64_yes (b g : Nat) (y : LY) (f : Nat → Int) (lv : Value) (log : List Acc) (ups : List (List Int)) (t : Int) (w : World) (K : BK y ups) (B : BW w 141 b g y f lv log ups) (E : Parts w) (hV : y.V = 5) (f0 : 0 ≤ f (y.n + 1)) (f1 : f (y.n + 1) < 18446744073709551616) (hl : log.length ≤ 1000) :
    Calls Tryz.prog 71 #[.pointer (some ⟨b, 0, none⟩), .int .i64 t] w (LeaveDoes64 b g y ups lv (upd f (y.n + 1) ((U64 ((U64 (f (y.n + 1))) + 1)))) (log ++ [⟨t, 3, (y.n + 1 : Nat), f (y.n + 1), ((U64 ((U64 (f (y.n + 1))) + 1)))⟩]) w) := by
  have CL := Lib.hid (BWLayout64 b g y f lv log ups w K B)
  obtain ⟨kTi, kSe, kk1, kk2, klt⟩ := K.lock hV
  have HB := Lib.hid B.B
  have HE := Lib.hid E
  have hfld : ∀ (u : Value) (x1 x2 x3 x4 x5 x6 x7 x8 : Int) (w : World), (Instr.field 31 (.agg #[.int .i64 (y.V), .int .i64 (y.W), .int .i64 (y.C), .int .i64 (y.P), .int .u64 (y.S), u, .int .i64 x1, .int .i64 x2, .int .i64 x3, .int .i64 x4, .int .i64 x5, .int .i64 x6, .int .i64 x7, .int .i64 x8]) 0).run Tryz.prog w = .ok (.agg #[.int .i64 (y.V), .int .i64 (y.W), .int .i64 (y.C), .int .i64 (y.P), .int .u64 (y.S), u]) w := fun u x1 x2 x3 x4 x5 x6 x7 x8 w => by kernel_rfl
  have hV5 : (y.V == 5) = true := by simp [hV]
  have CA := Lib.hid (fun w1 (h : BD w1 141 b g y f lv log) (E1 : Parts w1) => Add64_yes b g y f lv log t 1 (y.n + 1) w1 h K.yok E1 kk2 f0 f1 hl)
  have HFIN : Hid (∀ lv1 w1, BD w1 141 b g y (upd f (y.n + 1) ((U64 ((U64 (f (y.n + 1))) + 1)))) lv1 (log ++ [⟨t, 3, (y.n + 1 : Nat), f (y.n + 1), ((U64 ((U64 (f (y.n + 1))) + 1)))⟩]) → But (Own b g lv) w w1 → (lv1.ownBlock = lv.ownBlock ∨ ∃ j, lv1.ownBlock = some j ∧ w.heap.size ≤ j) → LeaveDoes64 b g y ups lv (upd f (y.n + 1) ((U64 ((U64 (f (y.n + 1))) + 1)))) (log ++ [⟨t, 3, (y.n + 1 : Nat), f (y.n + 1), ((U64 ((U64 (f (y.n + 1))) + 1)))⟩]) w (.returned (.tuple #[])) w1) := Lib.hid (fun lv1 w1 h1 h2 h3 => ⟨rfl, lv1, B.step h1 h2 (by decide) (by decide), h2, h3⟩)
  generalize hG : LeaveDoes64 b g y ups lv (upd f (y.n + 1) ((U64 ((U64 (f (y.n + 1))) + 1)))) (log ++ [⟨t, 3, (y.n + 1 : Nat), f (y.n + 1), ((U64 ((U64 (f (y.n + 1))) + 1)))⟩]) w = G at *
  generalize hz : ((U64 (f (y.n + 1)))) = z at *
  clear hG hz B E K kk1 kk2 klt f0 f1 hV
  go_enter Tryz.func71, Tryz.ntmps71
  go_wp2_with fail
  refine CL.out.mono ?_
  rintro e wo ⟨u, rfl, L1, Xo⟩
  obtain ⟨ua, uc, rfl, -⟩ := L1
  rw [kTi, kSe]
  have Ho := Lib.hid Xo
  clear Xo CL kTi kSe
  go_upto_region 1 with (fail)
  refine settle_wp ?_
  intro w1 hb1
  have ql_0 : w1.cell? ⟨wo.heap.size, 0, none⟩ = some (.int .i64 (y.V)) := (hb1.cells.1 _ _ (by simp <;> omega)).trans (by simp [go_sem])
  have ql_1 : w1.cell? ⟨wo.heap.size, 1, none⟩ = some (.int .i64 (y.W)) := (hb1.cells.1 _ _ (by simp <;> omega)).trans (by simp [go_sem])
  have ql_2 : w1.cell? ⟨wo.heap.size, 2, none⟩ = some (.int .i64 (y.C)) := (hb1.cells.1 _ _ (by simp <;> omega)).trans (by simp [go_sem])
  have ql_3 : w1.cell? ⟨wo.heap.size, 3, none⟩ = some (.int .i64 (y.P)) := (hb1.cells.1 _ _ (by simp <;> omega)).trans (by simp [go_sem])
  have ql_4 : w1.cell? ⟨wo.heap.size, 4, none⟩ = some (.int .u64 (y.S)) := (hb1.cells.1 _ _ (by simp <;> omega)).trans (by simp [go_sem])
  have ql_5 : w1.cell? ⟨wo.heap.size, 5, none⟩ = some (.slice ua ups.length uc) := (hb1.cells.1 _ _ (by simp <;> omega)).trans (by simp [go_sem])
  have ql_6 : w1.cell? ⟨wo.heap.size, 6, none⟩ = some (.int .i64 (y.Cu)) := (hb1.cells.1 _ _ (by simp <;> omega)).trans (by simp [go_sem])
  have ql_7 : w1.cell? ⟨wo.heap.size, 7, none⟩ = some (.int .i64 (y.Cl)) := (hb1.cells.1 _ _ (by simp <;> omega)).trans (by simp [go_sem])
  have ql_8 : w1.cell? ⟨wo.heap.size, 8, none⟩ = some (.int .i64 (y.n)) := (hb1.cells.1 _ _ (by simp <;> omega)).trans (by simp [go_sem])
  have ql_9 : w1.cell? ⟨wo.heap.size, 9, none⟩ = some (.int .i64 (y.n + 1)) := (hb1.cells.1 _ _ (by simp <;> omega)).trans (by simp [go_sem])
  have ql_10 : w1.cell? ⟨wo.heap.size, 10, none⟩ = some (.int .i64 (y.Ne)) := (hb1.cells.1 _ _ (by simp <;> omega)).trans (by simp [go_sem])
  have ql_11 : w1.cell? ⟨wo.heap.size, 11, none⟩ = some (.int .i64 (y.Ma)) := (hb1.cells.1 _ _ (by simp <;> omega)).trans (by simp [go_sem])
  have ql_12 : w1.cell? ⟨wo.heap.size, 12, none⟩ = some (.int .i64 (y.Sl)) := (hb1.cells.1 _ _ (by simp <;> omega)).trans (by simp [go_sem])
  have ql_13 : w1.cell? ⟨wo.heap.size, 13, none⟩ = some (.int .i64 (y.m)) := (hb1.cells.1 _ _ (by simp <;> omega)).trans (by simp [go_sem])
  have pl := World.block_lt_of_cell? _ ⟨wo.heap.size, 0, none⟩ ql_0
  have rl := Nat.lt_succ_of_lt pl
  go_wp2_with fail
  refine (tnHas _ _ _ _ _ _ _ _ _ _ _ _ _ _ _ _ _).mono ?_
  rintro e w2 ⟨rfl, hb2⟩
  have hx2 : Ext w1 w2 := by repeat (first | with_reducible exact Ext.refl _ | with_reducible assumption | with_reducible refine Ext.alloc ?_ _ | with_reducible refine Ext.drew ?_ | with_reducible refine Ext.drewN ?_ _ | with_reducible refine Ext.setCell ?_ (by simp <;> omega) _ | with_reducible refine Ext.trans ?_ (by assumption))
  replace ql_0 := hx2.cell ql_0
  replace ql_1 := hx2.cell ql_1
  replace ql_2 := hx2.cell ql_2
  replace ql_3 := hx2.cell ql_3
  replace ql_4 := hx2.cell ql_4
  replace ql_5 := hx2.cell ql_5
  replace ql_6 := hx2.cell ql_6
  replace ql_7 := hx2.cell ql_7
  replace ql_8 := hx2.cell ql_8
  replace ql_9 := hx2.cell ql_9
  replace ql_10 := hx2.cell ql_10
  replace ql_11 := hx2.cell ql_11
  replace ql_12 := hx2.cell ql_12
  replace ql_13 := hx2.cell ql_13
  replace pl := Nat.lt_of_lt_of_le pl hx2.size
  replace rl := Nat.lt_succ_of_lt pl
  clear hx2
  have XE : Ext w w2 := Ho.out.trans (Ext.trans ((Ext.refl wo).alloc _) (hb1.trans hb2))
  have HB2 := Lib.hid (HB.out.ext XE)
  have HE2 := Lib.hid (HE.out.ext XE)
  have HXE := Lib.hid XE
  clear XE hb1 hb2
  go_wp2_with fail
  refine (CA.out _ HB2.out HE2.out).mono ?_
  rintro e w3 ⟨rfl, lv3, B3, N3, A3⟩
  have HR := Lib.hid (HFIN.out lv3 w3 B3 ((HXE.out.but (Own b g lv)).trans N3) (A3.imp id (fun ⟨j, e, hj⟩ => ⟨j, e, Nat.le_trans HXE.out.size hj⟩)))
  clear N3 B3 A3 ql_0 ql_1 ql_2 ql_3 ql_4 ql_5 ql_6 ql_7 ql_8 ql_9 ql_10 ql_11 ql_12 ql_13 hfld hV5
  go_wp2
  refine bodyPost_ret (v := .tuple #[]) (by simp [results, Tryz.results71, go_sem]) rfl ?_
  exact HR.out
set_option maxRecDepth 100000 in
theorem Leave64_no (b g : Nat) (y : LY) (f : Nat → Int) (lv : Value) (log : List Acc) (ups : List (List Int)) (t : Int) (w : World) (K : BK y ups) (B : BW w 141 b g y f lv log ups) (hV : ¬ y.V = 5) :
    Calls Tryz.prog 71 #[.pointer (some ⟨b, 0, none⟩), .int .i64 t] w (VoidX w) := by
  have CL := Lib.hid (BWLayout64 b g y f lv log ups w K B)
  have hfld : ∀ (u : Value) (x1 x2 x3 x4 x5 x6 x7 x8 : Int) (w : World), (Instr.field 31 (.agg #[.int .i64 (y.V), .int .i64 (y.W), .int .i64 (y.C), .int .i64 (y.P), .int .u64 (y.S), u, .int .i64 x1, .int .i64 x2, .int .i64 x3, .int .i64 x4, .int .i64 x5, .int .i64 x6, .int .i64 x7, .int .i64 x8]) 0).run Tryz.prog w = .ok (.agg #[.int .i64 (y.V), .int .i64 (y.W), .int .i64 (y.C), .int .i64 (y.P), .int .u64 (y.S), u]) w := fun u x1 x2 x3 x4 x5 x6 x7 x8 w => by kernel_rfl
  have hV5 : (y.V == 5) = false := by simpa using hV
  clear B hV K
  go_enter Tryz.func71, Tryz.ntmps71
  go_wp2_with fail
  refine CL.out.mono ?_
  rintro e wo ⟨u, rfl, L1, Xo⟩
  obtain ⟨ua, uc, rfl, -⟩ := L1
  have Ho := Lib.hid Xo
  clear Xo CL
  go_upto_region 1 with (fail)
  refine settle_wp ?_
  intro w1 hb1
  have ql_0 : w1.cell? ⟨wo.heap.size, 0, none⟩ = some (.int .i64 (y.V)) := (hb1.cells.1 _ _ (by simp <;> omega)).trans (by simp [go_sem])
  have ql_1 : w1.cell? ⟨wo.heap.size, 1, none⟩ = some (.int .i64 (y.W)) := (hb1.cells.1 _ _ (by simp <;> omega)).trans (by simp [go_sem])
  have ql_2 : w1.cell? ⟨wo.heap.size, 2, none⟩ = some (.int .i64 (y.C)) := (hb1.cells.1 _ _ (by simp <;> omega)).trans (by simp [go_sem])
  have ql_3 : w1.cell? ⟨wo.heap.size, 3, none⟩ = some (.int .i64 (y.P)) := (hb1.cells.1 _ _ (by simp <;> omega)).trans (by simp [go_sem])
  have ql_4 : w1.cell? ⟨wo.heap.size, 4, none⟩ = some (.int .u64 (y.S)) := (hb1.cells.1 _ _ (by simp <;> omega)).trans (by simp [go_sem])
  have ql_5 : w1.cell? ⟨wo.heap.size, 5, none⟩ = some (.slice ua ups.length uc) := (hb1.cells.1 _ _ (by simp <;> omega)).trans (by simp [go_sem])
  have ql_6 : w1.cell? ⟨wo.heap.size, 6, none⟩ = some (.int .i64 (y.Cu)) := (hb1.cells.1 _ _ (by simp <;> omega)).trans (by simp [go_sem])
  have ql_7 : w1.cell? ⟨wo.heap.size, 7, none⟩ = some (.int .i64 (y.Cl)) := (hb1.cells.1 _ _ (by simp <;> omega)).trans (by simp [go_sem])
  have ql_8 : w1.cell? ⟨wo.heap.size, 8, none⟩ = some (.int .i64 (y.Ti)) := (hb1.cells.1 _ _ (by simp <;> omega)).trans (by simp [go_sem])
  have ql_9 : w1.cell? ⟨wo.heap.size, 9, none⟩ = some (.int .i64 (y.Se)) := (hb1.cells.1 _ _ (by simp <;> omega)).trans (by simp [go_sem])
  have ql_10 : w1.cell? ⟨wo.heap.size, 10, none⟩ = some (.int .i64 (y.Ne)) := (hb1.cells.1 _ _ (by simp <;> omega)).trans (by simp [go_sem])
  have ql_11 : w1.cell? ⟨wo.heap.size, 11, none⟩ = some (.int .i64 (y.Ma)) := (hb1.cells.1 _ _ (by simp <;> omega)).trans (by simp [go_sem])
  have ql_12 : w1.cell? ⟨wo.heap.size, 12, none⟩ = some (.int .i64 (y.Sl)) := (hb1.cells.1 _ _ (by simp <;> omega)).trans (by simp [go_sem])
  have ql_13 : w1.cell? ⟨wo.heap.size, 13, none⟩ = some (.int .i64 (y.m)) := (hb1.cells.1 _ _ (by simp <;> omega)).trans (by simp [go_sem])
  have pl := World.block_lt_of_cell? _ ⟨wo.heap.size, 0, none⟩ ql_0
  have rl := Nat.lt_succ_of_lt pl
  go_wp2_with fail
  refine (tnHas _ _ _ _ _ _ _ _ _ _ _ _ _ _ _ _ _).mono ?_
  rintro e w2 ⟨rfl, hb2⟩
  have hx2 : Ext w1 w2 := by repeat (first | with_reducible exact Ext.refl _ | with_reducible assumption | with_reducible refine Ext.alloc ?_ _ | with_reducible refine Ext.drew ?_ | with_reducible refine Ext.drewN ?_ _ | with_reducible refine Ext.setCell ?_ (by simp <;> omega) _ | with_reducible refine Ext.trans ?_ (by assumption))
  replace ql_0 := hx2.cell ql_0
  replace ql_1 := hx2.cell ql_1
  replace ql_2 := hx2.cell ql_2
  replace ql_3 := hx2.cell ql_3
  replace ql_4 := hx2.cell ql_4
  replace ql_5 := hx2.cell ql_5
  replace ql_6 := hx2.cell ql_6
  replace ql_7 := hx2.cell ql_7
  replace ql_8 := hx2.cell ql_8
  replace ql_9 := hx2.cell ql_9
  replace ql_10 := hx2.cell ql_10
  replace ql_11 := hx2.cell ql_11
  replace ql_12 := hx2.cell ql_12
  replace ql_13 := hx2.cell ql_13
  replace pl := Nat.lt_of_lt_of_le pl hx2.size
  replace rl := Nat.lt_succ_of_lt pl
  clear hx2
  have XE : Ext w w2 := Ho.out.trans (Ext.trans ((Ext.refl wo).alloc _) (hb1.trans hb2))
  go_wp2
  refine bodyPost_ret (v := .tuple #[]) (by simp [results, Tryz.results71, go_sem]) rfl ?_
  exact ⟨rfl, XE⟩
set_option maxRecDepth 100000 in
theorem Leave64_nil (t : Int) (w : World) : Calls Tryz.prog 71 #[.pointer none, .int .i64 t] w (VoidX w) := by
  go_enter Tryz.func71, Tryz.ntmps71
  go_wp2_with fail
  refine (Layout64_void _).mono ?_
  rintro e w1 ⟨rfl, hb1⟩
  obtain ⟨hc1, hf1⟩ := hb1.cells
  have Ho := Lib.hid hb1
  clear hb1
  go_upto_region 1 with (fail)
  clear hc1 hf1
  refine settle_wp ?_
  intro w2 hb2
  have ql_0 : w2.cell? ⟨w1.heap.size, 0, none⟩ = some (.int .i64 0) := (hb2.cells.1 _ _ (by simp <;> omega)).trans (by simp [go_sem])
  have ql_1 : w2.cell? ⟨w1.heap.size, 1, none⟩ = some (.int .i64 0) := (hb2.cells.1 _ _ (by simp <;> omega)).trans (by simp [go_sem])
  have ql_2 : w2.cell? ⟨w1.heap.size, 2, none⟩ = some (.int .i64 0) := (hb2.cells.1 _ _ (by simp <;> omega)).trans (by simp [go_sem])
  have ql_3 : w2.cell? ⟨w1.heap.size, 3, none⟩ = some (.int .i64 0) := (hb2.cells.1 _ _ (by simp <;> omega)).trans (by simp [go_sem])
  have ql_4 : w2.cell? ⟨w1.heap.size, 4, none⟩ = some (.int .u64 0) := (hb2.cells.1 _ _ (by simp <;> omega)).trans (by simp [go_sem])
  have ql_5 : w2.cell? ⟨w1.heap.size, 5, none⟩ = some (.slice none 0 0) := (hb2.cells.1 _ _ (by simp <;> omega)).trans (by simp [go_sem])
  have ql_6 : w2.cell? ⟨w1.heap.size, 6, none⟩ = some (.int .i64 0) := (hb2.cells.1 _ _ (by simp <;> omega)).trans (by simp [go_sem])
  have ql_7 : w2.cell? ⟨w1.heap.size, 7, none⟩ = some (.int .i64 0) := (hb2.cells.1 _ _ (by simp <;> omega)).trans (by simp [go_sem])
  have ql_8 : w2.cell? ⟨w1.heap.size, 8, none⟩ = some (.int .i64 0) := (hb2.cells.1 _ _ (by simp <;> omega)).trans (by simp [go_sem])
  have ql_9 : w2.cell? ⟨w1.heap.size, 9, none⟩ = some (.int .i64 0) := (hb2.cells.1 _ _ (by simp <;> omega)).trans (by simp [go_sem])
  have ql_10 : w2.cell? ⟨w1.heap.size, 10, none⟩ = some (.int .i64 0) := (hb2.cells.1 _ _ (by simp <;> omega)).trans (by simp [go_sem])
  have ql_11 : w2.cell? ⟨w1.heap.size, 11, none⟩ = some (.int .i64 0) := (hb2.cells.1 _ _ (by simp <;> omega)).trans (by simp [go_sem])
  have ql_12 : w2.cell? ⟨w1.heap.size, 12, none⟩ = some (.int .i64 0) := (hb2.cells.1 _ _ (by simp <;> omega)).trans (by simp [go_sem])
  have ql_13 : w2.cell? ⟨w1.heap.size, 13, none⟩ = some (.int .i64 0) := (hb2.cells.1 _ _ (by simp <;> omega)).trans (by simp [go_sem])
  have pl := World.block_lt_of_cell? _ ⟨w1.heap.size, 0, none⟩ ql_0
  have rl := Nat.lt_succ_of_lt pl
  go_wp2_with fail
  refine (tnHas _ _ _ _ _ _ _ _ _ _ _ _ _ _ _ _ _).mono ?_
  rintro e w3 ⟨rfl, hb3⟩
  have hx3 : Ext w2 w3 := by repeat (first | with_reducible exact Ext.refl _ | with_reducible assumption | with_reducible refine Ext.alloc ?_ _ | with_reducible refine Ext.drew ?_ | with_reducible refine Ext.drewN ?_ _ | with_reducible refine Ext.setCell ?_ (by simp <;> omega) _ | with_reducible refine Ext.trans ?_ (by assumption))
  replace ql_0 := hx3.cell ql_0
  replace ql_1 := hx3.cell ql_1
  replace ql_2 := hx3.cell ql_2
  replace ql_3 := hx3.cell ql_3
  replace ql_4 := hx3.cell ql_4
  replace ql_5 := hx3.cell ql_5
  replace ql_6 := hx3.cell ql_6
  replace ql_7 := hx3.cell ql_7
  replace ql_8 := hx3.cell ql_8
  replace ql_9 := hx3.cell ql_9
  replace ql_10 := hx3.cell ql_10
  replace ql_11 := hx3.cell ql_11
  replace ql_12 := hx3.cell ql_12
  replace ql_13 := hx3.cell ql_13
  replace pl := Nat.lt_of_lt_of_le pl hx3.size
  replace rl := Nat.lt_succ_of_lt pl
  clear hx3
  have XE : Ext w w3 := Ho.out.trans (Ext.trans ((Ext.refl w1).alloc _) (hb2.trans hb3))
  go_wp2
  refine bodyPost_ret (v := .tuple #[]) (by simp [results, Tryz.results71, go_sem]) rfl ?_
  exact ⟨rfl, XE⟩
set_option maxRecDepth 100000 in
theorem tnHas64 (b g : Nat) (y : LY) (f : Nat → Int) (lv : Value) (log : List Acc) (ups : List (List Int)) (w : World) (K : BK y ups) (B : BW w 141 b g y f lv log ups) :
    Calls Tryz.prog 70 #[.pointer (some ⟨b, 0, none⟩)] w fun e w' => e = .returned (.bool (y.V == 5)) ∧ Ext w w' := by
  have CL := Lib.hid (BWLayout64 b g y f lv log ups w K B)
  clear B K
  go_enter Tryz.func70, Tryz.ntmps70
  go_wp2_with fail
  refine CL.out.mono ?_
  rintro e wo ⟨u, rfl, L1, Xo⟩
  obtain ⟨ua, uc, rfl, -⟩ := L1
  have Ho := Lib.hid Xo
  clear Xo CL
  go_wp2_with fail
  refine (tnHas _ _ _ _ _ _ _ _ _ _ _ _ _ _ _ _ _).mono ?_
  rintro e w2 ⟨rfl, X2⟩
  have HX2 := Lib.hid (Ho.out.trans X2)
  clear X2 Ho
  cases hv : (y.V == 5)
  · go_wp2
    go_ret
    exact ⟨by rw [hv]; rfl, HX2.out⟩
  · go_wp2
    go_ret
    exact ⟨by rw [hv]; rfl, HX2.out⟩
theorem tnHas64_nil (w : World) : Calls Tryz.prog 70 #[.pointer none] w fun e w' => e = .returned (.bool false) ∧ Ext w w' := by
  go_enter Tryz.func70, Tryz.ntmps70
  go_wp2_with fail
  refine (Layout64_void _).mono ?_
  rintro e w1 ⟨rfl, hb1⟩
  obtain ⟨hc1, hf1⟩ := hb1.cells
  go_wp2_with fail
  refine (tnHas _ _ _ _ _ _ _ _ _ _ _ _ _ _ _ _ _).mono ?_
  rintro e w2 ⟨rfl, hb2⟩
  obtain ⟨hc2, hf2⟩ := hb2.cells
  go_wp2
  go_ret
  refine ⟨rfl, hb1.trans hb2⟩
set_option maxRecDepth 100000 in
theorem Waiting64_yes (b g : Nat) (y : LY) (f : Nat → Int) (lv : Value) (log : List Acc) (ups : List (List Int)) (w : World) (K : BK y ups) (B : BW w 141 b g y f lv log ups) (E : Parts w) (hV : y.V = 5) (hW : y.W = 64) :
    Calls Tryz.prog 73 #[.pointer (some ⟨b, 0, none⟩)] w fun e w' => e = .returned (.int .i64 (D64 (f y.n - f (y.n + 1)))) ∧ Ext w w' := by
  have CL := Lib.hid (BWLayout64 b g y f lv log ups w K B)
  obtain ⟨kTi, kSe, kk1, kk2, klt⟩ := K.lock hV
  have HB := Lib.hid B.B
  have HE := Lib.hid E
  have hfld : ∀ (u : Value) (x1 x2 x3 x4 x5 x6 x7 x8 : Int) (w : World), (Instr.field 31 (.agg #[.int .i64 (y.V), .int .i64 64, .int .i64 (y.C), .int .i64 (y.P), .int .u64 (y.S), u, .int .i64 x1, .int .i64 x2, .int .i64 x3, .int .i64 x4, .int .i64 x5, .int .i64 x6, .int .i64 x7, .int .i64 x8]) 0).run Tryz.prog w = .ok (.agg #[.int .i64 (y.V), .int .i64 64, .int .i64 (y.C), .int .i64 (y.P), .int .u64 (y.S), u]) w := fun u x1 x2 x3 x4 x5 x6 x7 x8 w => by kernel_rfl
  have hV5 : (y.V == 5) = true := by simp [hV]
  have CP1 := Lib.hid (fun w1 (h : BD w1 141 b g y f lv log) (E1 : Parts w1) => Peek64 b g y f lv log y.n w1 h K.yok E1 (by rw [kk1]; decide))
  have CP2 := Lib.hid (fun w1 (h : BD w1 141 b g y f lv log) (E1 : Parts w1) => Peek64 b g y f lv log (y.n + 1) w1 h K.yok E1 (by rw [kk2]; decide))
  generalize f y.n = x1 at *
  generalize f (y.n + 1) = x2 at *
  have HW := Lib.hid hW
  clear B E K kk1 kk2 klt hV hW
  go_enter Tryz.func73, Tryz.ntmps73
  go_wp2_with fail
  refine CL.out.mono ?_
  rintro e wo ⟨u, rfl, L1, Xo⟩
  obtain ⟨ua, uc, rfl, -⟩ := L1
  rw [kTi, kSe, HW.out]
  have Ho := Lib.hid Xo
  clear Xo CL kTi kSe
  go_upto_region 2 with (fail)
  refine settle_wp ?_
  intro w1 hb1
  have ql_0 : w1.cell? ⟨wo.heap.size, 0, none⟩ = some (.int .i64 (y.V)) := (hb1.cells.1 _ _ (by simp <;> omega)).trans (by simp [go_sem])
  have ql_1 : w1.cell? ⟨wo.heap.size, 1, none⟩ = some (.int .i64 64) := (hb1.cells.1 _ _ (by simp <;> omega)).trans (by simp [go_sem])
  have ql_2 : w1.cell? ⟨wo.heap.size, 2, none⟩ = some (.int .i64 (y.C)) := (hb1.cells.1 _ _ (by simp <;> omega)).trans (by simp [go_sem])
  have ql_3 : w1.cell? ⟨wo.heap.size, 3, none⟩ = some (.int .i64 (y.P)) := (hb1.cells.1 _ _ (by simp <;> omega)).trans (by simp [go_sem])
  have ql_4 : w1.cell? ⟨wo.heap.size, 4, none⟩ = some (.int .u64 (y.S)) := (hb1.cells.1 _ _ (by simp <;> omega)).trans (by simp [go_sem])
  have ql_5 : w1.cell? ⟨wo.heap.size, 5, none⟩ = some (.slice ua ups.length uc) := (hb1.cells.1 _ _ (by simp <;> omega)).trans (by simp [go_sem])
  have ql_6 : w1.cell? ⟨wo.heap.size, 6, none⟩ = some (.int .i64 (y.Cu)) := (hb1.cells.1 _ _ (by simp <;> omega)).trans (by simp [go_sem])
  have ql_7 : w1.cell? ⟨wo.heap.size, 7, none⟩ = some (.int .i64 (y.Cl)) := (hb1.cells.1 _ _ (by simp <;> omega)).trans (by simp [go_sem])
  have ql_8 : w1.cell? ⟨wo.heap.size, 8, none⟩ = some (.int .i64 (y.n)) := (hb1.cells.1 _ _ (by simp <;> omega)).trans (by simp [go_sem])
  have ql_9 : w1.cell? ⟨wo.heap.size, 9, none⟩ = some (.int .i64 (y.n + 1)) := (hb1.cells.1 _ _ (by simp <;> omega)).trans (by simp [go_sem])
  have ql_10 : w1.cell? ⟨wo.heap.size, 10, none⟩ = some (.int .i64 (y.Ne)) := (hb1.cells.1 _ _ (by simp <;> omega)).trans (by simp [go_sem])
  have ql_11 : w1.cell? ⟨wo.heap.size, 11, none⟩ = some (.int .i64 (y.Ma)) := (hb1.cells.1 _ _ (by simp <;> omega)).trans (by simp [go_sem])
  have ql_12 : w1.cell? ⟨wo.heap.size, 12, none⟩ = some (.int .i64 (y.Sl)) := (hb1.cells.1 _ _ (by simp <;> omega)).trans (by simp [go_sem])
  have ql_13 : w1.cell? ⟨wo.heap.size, 13, none⟩ = some (.int .i64 (y.m)) := (hb1.cells.1 _ _ (by simp <;> omega)).trans (by simp [go_sem])
  have pl := World.block_lt_of_cell? _ ⟨wo.heap.size, 0, none⟩ ql_0
  have rl := Nat.lt_succ_of_lt pl
  go_wp2_with fail
  refine (tnHas _ _ _ _ _ _ _ _ _ _ _ _ _ _ _ _ _).mono ?_
  rintro e w2 ⟨rfl, hb2⟩
  have hx2 : Ext w1 w2 := by repeat (first | with_reducible exact Ext.refl _ | with_reducible assumption | with_reducible refine Ext.alloc ?_ _ | with_reducible refine Ext.drew ?_ | with_reducible refine Ext.drewN ?_ _ | with_reducible refine Ext.setCell ?_ (by simp <;> omega) _ | with_reducible refine Ext.trans ?_ (by assumption))
  replace ql_0 := hx2.cell ql_0
  replace ql_1 := hx2.cell ql_1
  replace ql_2 := hx2.cell ql_2
  replace ql_3 := hx2.cell ql_3
  replace ql_4 := hx2.cell ql_4
  replace ql_5 := hx2.cell ql_5
  replace ql_6 := hx2.cell ql_6
  replace ql_7 := hx2.cell ql_7
  replace ql_8 := hx2.cell ql_8
  replace ql_9 := hx2.cell ql_9
  replace ql_10 := hx2.cell ql_10
  replace ql_11 := hx2.cell ql_11
  replace ql_12 := hx2.cell ql_12
  replace ql_13 := hx2.cell ql_13
  replace pl := Nat.lt_of_lt_of_le pl hx2.size
  replace rl := Nat.lt_succ_of_lt pl
  clear hx2
  have XE : Ext w w2 := Ho.out.trans (Ext.trans ((Ext.refl wo).alloc _) (hb1.trans hb2))
  have HB2 := Lib.hid (HB.out.ext XE)
  have HE2 := Lib.hid (HE.out.ext XE)
  have HXE := Lib.hid XE
  clear XE hb1 hb2
  go_upto_region 4 with (fail)
  refine wp_region_held_drew (S := fun w' => Ext w2 w') (by kernel_rfl) ?hbeg (fun hHeld => ?_)
  case hbeg => exact (Ext.refl w2).drew
  have hHeld0 : Ext w2 w2 := by first | exact Ext.refl _ | assumption
  have k1 := fun w' (hx : Ext w2 w') => hx.cell ql_1
  have k8 := fun w' (hx : Ext w2 w') => hx.cell ql_8
  have k9 := fun w' (hx : Ext w2 w') => hx.cell ql_9
  first
    | (refine take_at (i := 0) (v := ?_) rfl rfl (by kernel_rfl) (by kernel_rfl) (by kernel_rfl) (fun _ _ _ h => h) (Or.inl ⟨by rfl, ?hy⟩) (by assumption) ?_
       case hy => (intro wz hSw; (try dsimp only at hSw); go_simp <;> with_reducible rfl)
       simp only [List.setIfInBounds_toArray, List.set_cons_zero, List.set_cons_succ])
    | (refine take_at (i := 0) (v := undef) rfl rfl (by kernel_rfl) (by kernel_rfl) (by kernel_rfl) (fun _ _ _ h => h) (Or.inr ⟨by rfl, rfl⟩) (by assumption) ?_
       simp only [List.setIfInBounds_toArray, List.set_cons_zero, List.set_cons_succ])
  first
    | (refine take_at (i := 1) (v := ?_) rfl rfl (by kernel_rfl) (by kernel_rfl) (by kernel_rfl) (fun _ _ _ h => h) (Or.inl ⟨by rfl, ?hy⟩) (by assumption) ?_
       case hy => (intro wz hSw; (try dsimp only at hSw); go_simp <;> with_reducible rfl)
       simp only [List.setIfInBounds_toArray, List.set_cons_zero, List.set_cons_succ])
    | (refine take_at (i := 1) (v := undef) rfl rfl (by kernel_rfl) (by kernel_rfl) (by kernel_rfl) (fun _ _ _ h => h) (Or.inr ⟨by rfl, rfl⟩) (by assumption) ?_
       simp only [List.setIfInBounds_toArray, List.set_cons_zero, List.set_cons_succ])
  first
    | (refine take_at (i := 2) (v := ?_) rfl rfl (by kernel_rfl) (by kernel_rfl) (by kernel_rfl) (fun _ _ _ h => h) (Or.inl ⟨by rfl, ?hy⟩) (by assumption) ?_
       case hy => (intro wz hSw; (try dsimp only at hSw); go_simp <;> with_reducible rfl)
       simp only [List.setIfInBounds_toArray, List.set_cons_zero, List.set_cons_succ])
    | (refine take_at (i := 2) (v := undef) rfl rfl (by kernel_rfl) (by kernel_rfl) (by kernel_rfl) (fun _ _ _ h => h) (Or.inr ⟨by rfl, rfl⟩) (by assumption) ?_
       simp only [List.setIfInBounds_toArray, List.set_cons_zero, List.set_cons_succ])
  first
    | (refine take_at (i := 3) (v := ?_) rfl rfl (by kernel_rfl) (by kernel_rfl) (by kernel_rfl) (fun _ _ _ h => h) (Or.inl ⟨by rfl, ?hy⟩) (by assumption) ?_
       case hy => (intro wz hSw; (try dsimp only at hSw); go_simp <;> with_reducible rfl)
       simp only [List.setIfInBounds_toArray, List.set_cons_zero, List.set_cons_succ])
    | (refine take_at (i := 3) (v := undef) rfl rfl (by kernel_rfl) (by kernel_rfl) (by kernel_rfl) (fun _ _ _ h => h) (Or.inr ⟨by rfl, rfl⟩) (by assumption) ?_
       simp only [List.setIfInBounds_toArray, List.set_cons_zero, List.set_cons_succ])
  first
    | (refine take_at (i := 4) (v := ?_) rfl rfl (by kernel_rfl) (by kernel_rfl) (by kernel_rfl) (fun _ _ _ h => h) (Or.inl ⟨by rfl, ?hy⟩) (by assumption) ?_
       case hy => (intro wz hSw; (try dsimp only at hSw); go_simp <;> with_reducible rfl)
       simp only [List.setIfInBounds_toArray, List.set_cons_zero, List.set_cons_succ])
    | (refine take_at (i := 4) (v := undef) rfl rfl (by kernel_rfl) (by kernel_rfl) (by kernel_rfl) (fun _ _ _ h => h) (Or.inr ⟨by rfl, rfl⟩) (by assumption) ?_
       simp only [List.setIfInBounds_toArray, List.set_cons_zero, List.set_cons_succ])
  first
    | (refine take_at (i := 5) (v := ?_) rfl rfl (by kernel_rfl) (by kernel_rfl) (by kernel_rfl) (fun _ _ _ h => h) (Or.inl ⟨by rfl, ?hy⟩) (by assumption) ?_
       case hy => (intro wz hSw; (try dsimp only at hSw); go_simp <;> with_reducible rfl)
       simp only [List.setIfInBounds_toArray, List.set_cons_zero, List.set_cons_succ])
    | (refine take_at (i := 5) (v := undef) rfl rfl (by kernel_rfl) (by kernel_rfl) (by kernel_rfl) (fun _ _ _ h => h) (Or.inr ⟨by rfl, rfl⟩) (by assumption) ?_
       simp only [List.setIfInBounds_toArray, List.set_cons_zero, List.set_cons_succ])
  first
    | (refine take_at (i := 7) (v := ?_) rfl rfl (by kernel_rfl) (by kernel_rfl) (by kernel_rfl) (fun _ _ _ h => h) (Or.inl ⟨by rfl, ?hy⟩) (by assumption) ?_
       case hy => (intro wz hSw; (try dsimp only at hSw); go_simp <;> with_reducible rfl)
       simp only [List.setIfInBounds_toArray, List.set_cons_zero, List.set_cons_succ])
    | (refine take_at (i := 7) (v := undef) rfl rfl (by kernel_rfl) (by kernel_rfl) (by kernel_rfl) (fun _ _ _ h => h) (Or.inr ⟨by rfl, rfl⟩) (by assumption) ?_
       simp only [List.setIfInBounds_toArray, List.set_cons_zero, List.set_cons_succ])
  first
    | (refine take_at (i := 8) (v := ?_) rfl rfl (by kernel_rfl) (by kernel_rfl) (by kernel_rfl) (fun _ _ _ h => h) (Or.inl ⟨by rfl, ?hy⟩) (by assumption) ?_
       case hy => (intro wz hSw; (try dsimp only at hSw); go_simp <;> with_reducible rfl)
       simp only [List.setIfInBounds_toArray, List.set_cons_zero, List.set_cons_succ])
    | (refine take_at (i := 8) (v := undef) rfl rfl (by kernel_rfl) (by kernel_rfl) (by kernel_rfl) (fun _ _ _ h => h) (Or.inr ⟨by rfl, rfl⟩) (by assumption) ?_
       simp only [List.setIfInBounds_toArray, List.set_cons_zero, List.set_cons_succ])
  first
    | (refine take_at (i := 9) (v := ?_) rfl rfl (by kernel_rfl) (by kernel_rfl) (by kernel_rfl) (fun _ _ _ h => h) (Or.inl ⟨by rfl, ?hy⟩) (by assumption) ?_
       case hy => (intro wz hSw; (try dsimp only at hSw); go_simp <;> with_reducible rfl)
       simp only [List.setIfInBounds_toArray, List.set_cons_zero, List.set_cons_succ])
    | (refine take_at (i := 9) (v := undef) rfl rfl (by kernel_rfl) (by kernel_rfl) (by kernel_rfl) (fun _ _ _ h => h) (Or.inr ⟨by rfl, rfl⟩) (by assumption) ?_
       simp only [List.setIfInBounds_toArray, List.set_cons_zero, List.set_cons_succ])
  refine call_at (i := 6) (F := 45) (CP1.out _ (HB2.out.ext hHeld) (HE2.out.ext hHeld)) rfl rfl (by kernel_rfl) (by rfl) (by first | rfl | (go_simp <;> rfl)) ?_
  rintro e wq3 ⟨rfl, Xq3⟩
  have Yq3 := Ext.trans hHeld Xq3
  refine ⟨_, rfl, Yq3, wpAnyH_strong (S' := fun w' => Ext wq3 w') (fun w' h => Ext.trans Yq3 h) _ _ _ _ ?_⟩
  simp only [List.setIfInBounds_toArray, List.set_cons_zero, List.set_cons_succ]
  have Zq3 : Ext w2 wq3 := Ext.trans (by assumption) Yq3
  clear hHeld Xq3 Yq3
  have hHeld := Ext.refl wq3
  refine call_at (i := 10) (F := 45) (CP2.out _ (HB2.out.ext Zq3) (HE2.out.ext Zq3)) rfl rfl (by kernel_rfl) (by rfl) (by first | rfl | (go_simp <;> rfl)) ?_
  rintro e wq4 ⟨rfl, Xq4⟩
  have Yq4 := Ext.trans hHeld Xq4
  refine ⟨_, rfl, Yq4, wpAnyH_strong (S' := fun w' => Ext wq4 w') (fun w' h => Ext.trans Yq4 h) _ _ _ _ ?_⟩
  simp only [List.setIfInBounds_toArray, List.set_cons_zero, List.set_cons_succ]
  have Zq4 : Ext w2 wq4 := Ext.trans (by assumption) Yq4
  clear hHeld Xq4 Yq4
  have hHeld := Ext.refl wq4
  refine call_at (i := 11) (F := 113) (wGap_64 x1 x2 _) rfl rfl (by kernel_rfl) (by rfl) (by first | rfl | (go_simp <;> rfl)) ?_
  rintro e w' ⟨rfl, rfl⟩
  refine ⟨_, rfl, by assumption, ?_⟩
  simp only [List.setIfInBounds_toArray, List.set_cons_zero, List.set_cons_succ]
  first
    | (refine take_at (i := 12) (v := ?_) rfl rfl (by kernel_rfl) (by kernel_rfl) (by kernel_rfl) (fun _ _ _ h => h) (Or.inl ⟨by rfl, ?hy⟩) (by assumption) ?_
       case hy => (intro wz hSw; (try dsimp only at hSw); go_simp <;> with_reducible rfl)
       simp only [List.setIfInBounds_toArray, List.set_cons_zero, List.set_cons_succ])
    | (refine take_at (i := 12) (v := undef) rfl rfl (by kernel_rfl) (by kernel_rfl) (by kernel_rfl) (fun _ _ _ h => h) (Or.inr ⟨by rfl, rfl⟩) (by assumption) ?_
       simp only [List.setIfInBounds_toArray, List.set_cons_zero, List.set_cons_succ])
  refine wpAnyH_done (by kernel_rfl) ?_ _
  go_wp2
  go_ret
  exact ⟨rfl, HXE.out.trans Zq4⟩
set_option maxRecDepth 100000 in
theorem Waiting64_no (b g : Nat) (y : LY) (f : Nat → Int) (lv : Value) (log : List Acc) (ups : List (List Int)) (w : World) (K : BK y ups) (B : BW w 141 b g y f lv log ups) (hV : ¬ y.V = 5) :
    Calls Tryz.prog 73 #[.pointer (some ⟨b, 0, none⟩)] w fun e w' => e = .returned (.int .i64 0) ∧ Ext w w' := by
  have CL := Lib.hid (BWLayout64 b g y f lv log ups w K B)
  have hfld : ∀ (u : Value) (x1 x2 x3 x4 x5 x6 x7 x8 : Int) (w : World), (Instr.field 31 (.agg #[.int .i64 (y.V), .int .i64 (y.W), .int .i64 (y.C), .int .i64 (y.P), .int .u64 (y.S), u, .int .i64 x1, .int .i64 x2, .int .i64 x3, .int .i64 x4, .int .i64 x5, .int .i64 x6, .int .i64 x7, .int .i64 x8]) 0).run Tryz.prog w = .ok (.agg #[.int .i64 (y.V), .int .i64 (y.W), .int .i64 (y.C), .int .i64 (y.P), .int .u64 (y.S), u]) w := fun u x1 x2 x3 x4 x5 x6 x7 x8 w => by kernel_rfl
  have hV5 : (y.V == 5) = false := by simpa using hV
  clear B hV K
  go_enter Tryz.func73, Tryz.ntmps73
  go_wp2_with fail
  refine CL.out.mono ?_
  rintro e wo ⟨u, rfl, L1, Xo⟩
  obtain ⟨ua, uc, rfl, -⟩ := L1
  have Ho := Lib.hid Xo
  clear Xo CL
  go_upto_region 2 with (fail)
  refine settle_wp ?_
  intro w1 hb1
  have ql_0 : w1.cell? ⟨wo.heap.size, 0, none⟩ = some (.int .i64 (y.V)) := (hb1.cells.1 _ _ (by simp <;> omega)).trans (by simp [go_sem])
  have ql_1 : w1.cell? ⟨wo.heap.size, 1, none⟩ = some (.int .i64 (y.W)) := (hb1.cells.1 _ _ (by simp <;> omega)).trans (by simp [go_sem])
  have ql_2 : w1.cell? ⟨wo.heap.size, 2, none⟩ = some (.int .i64 (y.C)) := (hb1.cells.1 _ _ (by simp <;> omega)).trans (by simp [go_sem])
  have ql_3 : w1.cell? ⟨wo.heap.size, 3, none⟩ = some (.int .i64 (y.P)) := (hb1.cells.1 _ _ (by simp <;> omega)).trans (by simp [go_sem])
  have ql_4 : w1.cell? ⟨wo.heap.size, 4, none⟩ = some (.int .u64 (y.S)) := (hb1.cells.1 _ _ (by simp <;> omega)).trans (by simp [go_sem])
  have ql_5 : w1.cell? ⟨wo.heap.size, 5, none⟩ = some (.slice ua ups.length uc) := (hb1.cells.1 _ _ (by simp <;> omega)).trans (by simp [go_sem])
  have ql_6 : w1.cell? ⟨wo.heap.size, 6, none⟩ = some (.int .i64 (y.Cu)) := (hb1.cells.1 _ _ (by simp <;> omega)).trans (by simp [go_sem])
  have ql_7 : w1.cell? ⟨wo.heap.size, 7, none⟩ = some (.int .i64 (y.Cl)) := (hb1.cells.1 _ _ (by simp <;> omega)).trans (by simp [go_sem])
  have ql_8 : w1.cell? ⟨wo.heap.size, 8, none⟩ = some (.int .i64 (y.Ti)) := (hb1.cells.1 _ _ (by simp <;> omega)).trans (by simp [go_sem])
  have ql_9 : w1.cell? ⟨wo.heap.size, 9, none⟩ = some (.int .i64 (y.Se)) := (hb1.cells.1 _ _ (by simp <;> omega)).trans (by simp [go_sem])
  have ql_10 : w1.cell? ⟨wo.heap.size, 10, none⟩ = some (.int .i64 (y.Ne)) := (hb1.cells.1 _ _ (by simp <;> omega)).trans (by simp [go_sem])
  have ql_11 : w1.cell? ⟨wo.heap.size, 11, none⟩ = some (.int .i64 (y.Ma)) := (hb1.cells.1 _ _ (by simp <;> omega)).trans (by simp [go_sem])
  have ql_12 : w1.cell? ⟨wo.heap.size, 12, none⟩ = some (.int .i64 (y.Sl)) := (hb1.cells.1 _ _ (by simp <;> omega)).trans (by simp [go_sem])
  have ql_13 : w1.cell? ⟨wo.heap.size, 13, none⟩ = some (.int .i64 (y.m)) := (hb1.cells.1 _ _ (by simp <;> omega)).trans (by simp [go_sem])
  have pl := World.block_lt_of_cell? _ ⟨wo.heap.size, 0, none⟩ ql_0
  have rl := Nat.lt_succ_of_lt pl
  go_wp2_with fail
  refine (tnHas _ _ _ _ _ _ _ _ _ _ _ _ _ _ _ _ _).mono ?_
  rintro e w2 ⟨rfl, hb2⟩
  have hx2 : Ext w1 w2 := by repeat (first | with_reducible exact Ext.refl _ | with_reducible assumption | with_reducible refine Ext.alloc ?_ _ | with_reducible refine Ext.drew ?_ | with_reducible refine Ext.drewN ?_ _ | with_reducible refine Ext.setCell ?_ (by simp <;> omega) _ | with_reducible refine Ext.trans ?_ (by assumption))
  replace ql_0 := hx2.cell ql_0
  replace ql_1 := hx2.cell ql_1
  replace ql_2 := hx2.cell ql_2
  replace ql_3 := hx2.cell ql_3
  replace ql_4 := hx2.cell ql_4
  replace ql_5 := hx2.cell ql_5
  replace ql_6 := hx2.cell ql_6
  replace ql_7 := hx2.cell ql_7
  replace ql_8 := hx2.cell ql_8
  replace ql_9 := hx2.cell ql_9
  replace ql_10 := hx2.cell ql_10
  replace ql_11 := hx2.cell ql_11
  replace ql_12 := hx2.cell ql_12
  replace ql_13 := hx2.cell ql_13
  replace pl := Nat.lt_of_lt_of_le pl hx2.size
  replace rl := Nat.lt_succ_of_lt pl
  clear hx2
  have XE : Ext w w2 := Ho.out.trans (Ext.trans ((Ext.refl wo).alloc _) (hb1.trans hb2))
  go_wp2
  go_ret
  exact ⟨rfl, XE⟩
set_option maxRecDepth 100000 in
theorem Waiting64_nil (w : World) : Calls Tryz.prog 73 #[.pointer none] w fun e w' => e = .returned (.int .i64 0) ∧ Ext w w' := by
  go_enter Tryz.func73, Tryz.ntmps73
  go_wp2_with fail
  refine (Layout64_void _).mono ?_
  rintro e w1 ⟨rfl, hb1⟩
  obtain ⟨hc1, hf1⟩ := hb1.cells
  have Ho := Lib.hid hb1
  clear hb1
  go_upto_region 2 with (fail)
  clear hc1 hf1
  refine settle_wp ?_
  intro w2 hb2
  have ql_0 : w2.cell? ⟨w1.heap.size, 0, none⟩ = some (.int .i64 0) := (hb2.cells.1 _ _ (by simp <;> omega)).trans (by simp [go_sem])
  have ql_1 : w2.cell? ⟨w1.heap.size, 1, none⟩ = some (.int .i64 0) := (hb2.cells.1 _ _ (by simp <;> omega)).trans (by simp [go_sem])
  have ql_2 : w2.cell? ⟨w1.heap.size, 2, none⟩ = some (.int .i64 0) := (hb2.cells.1 _ _ (by simp <;> omega)).trans (by simp [go_sem])
  have ql_3 : w2.cell? ⟨w1.heap.size, 3, none⟩ = some (.int .i64 0) := (hb2.cells.1 _ _ (by simp <;> omega)).trans (by simp [go_sem])
  have ql_4 : w2.cell? ⟨w1.heap.size, 4, none⟩ = some (.int .u64 0) := (hb2.cells.1 _ _ (by simp <;> omega)).trans (by simp [go_sem])
  have ql_5 : w2.cell? ⟨w1.heap.size, 5, none⟩ = some (.slice none 0 0) := (hb2.cells.1 _ _ (by simp <;> omega)).trans (by simp [go_sem])
  have ql_6 : w2.cell? ⟨w1.heap.size, 6, none⟩ = some (.int .i64 0) := (hb2.cells.1 _ _ (by simp <;> omega)).trans (by simp [go_sem])
  have ql_7 : w2.cell? ⟨w1.heap.size, 7, none⟩ = some (.int .i64 0) := (hb2.cells.1 _ _ (by simp <;> omega)).trans (by simp [go_sem])
  have ql_8 : w2.cell? ⟨w1.heap.size, 8, none⟩ = some (.int .i64 0) := (hb2.cells.1 _ _ (by simp <;> omega)).trans (by simp [go_sem])
  have ql_9 : w2.cell? ⟨w1.heap.size, 9, none⟩ = some (.int .i64 0) := (hb2.cells.1 _ _ (by simp <;> omega)).trans (by simp [go_sem])
  have ql_10 : w2.cell? ⟨w1.heap.size, 10, none⟩ = some (.int .i64 0) := (hb2.cells.1 _ _ (by simp <;> omega)).trans (by simp [go_sem])
  have ql_11 : w2.cell? ⟨w1.heap.size, 11, none⟩ = some (.int .i64 0) := (hb2.cells.1 _ _ (by simp <;> omega)).trans (by simp [go_sem])
  have ql_12 : w2.cell? ⟨w1.heap.size, 12, none⟩ = some (.int .i64 0) := (hb2.cells.1 _ _ (by simp <;> omega)).trans (by simp [go_sem])
  have ql_13 : w2.cell? ⟨w1.heap.size, 13, none⟩ = some (.int .i64 0) := (hb2.cells.1 _ _ (by simp <;> omega)).trans (by simp [go_sem])
  have pl := World.block_lt_of_cell? _ ⟨w1.heap.size, 0, none⟩ ql_0
  have rl := Nat.lt_succ_of_lt pl
  go_wp2_with fail
  refine (tnHas _ _ _ _ _ _ _ _ _ _ _ _ _ _ _ _ _).mono ?_
  rintro e w3 ⟨rfl, hb3⟩
  have hx3 : Ext w2 w3 := by repeat (first | with_reducible exact Ext.refl _ | with_reducible assumption | with_reducible refine Ext.alloc ?_ _ | with_reducible refine Ext.drew ?_ | with_reducible refine Ext.drewN ?_ _ | with_reducible refine Ext.setCell ?_ (by simp <;> omega) _ | with_reducible refine Ext.trans ?_ (by assumption))
  replace ql_0 := hx3.cell ql_0
  replace ql_1 := hx3.cell ql_1
  replace ql_2 := hx3.cell ql_2
  replace ql_3 := hx3.cell ql_3
  replace ql_4 := hx3.cell ql_4
  replace ql_5 := hx3.cell ql_5
  replace ql_6 := hx3.cell ql_6
  replace ql_7 := hx3.cell ql_7
  replace ql_8 := hx3.cell ql_8
  replace ql_9 := hx3.cell ql_9
  replace ql_10 := hx3.cell ql_10
  replace ql_11 := hx3.cell ql_11
  replace ql_12 := hx3.cell ql_12
  replace ql_13 := hx3.cell ql_13
  replace pl := Nat.lt_of_lt_of_le pl hx3.size
  replace rl := Nat.lt_succ_of_lt pl
  clear hx3
  have XE : Ext w w3 := Ho.out.trans (Ext.trans ((Ext.refl w1).alloc _) (hb2.trans hb3))
  go_wp2
  go_ret
  exact ⟨rfl, XE⟩
end Go.Proofs.YtlnffbocclpnnaaGreatDoorR
/- The document's lock. -/
namespace Go.Proofs.YtlnffbocclpnnaaGreatDoorR
open Go.RowKit
set_option linter.unusedVariables false
set_option linter.unusedSimpArgs false
set_option maxHeartbeats 4000000
attribute [local go_sem] later_cell later_frozen later_const
/-- a write to a block that is no part of the document's board -/
theorem RB.mid {w : World} {b : Nat} {y : RY} {f : Nat → Int} {lv : Value} {log : List Acc} (h : RB w b y f lv log) {N M : Nat} (ho : ∀ k, Own b y.gh lv k → k < N ∨ M ≤ k) (hc : y.gc < N) {p : Addr} (h1 : N ≤ p.block) (h2 : p.block < M) (u : Value) : RB (w.setCell p u) b y f lv log :=
  h.but (but_setCell w p u) (fun k hk e => by have := ho k hk; omega) (by omega)
theorem wrapS {x : Int} (h0 : -9223372036854775808 ≤ x) (h1 : x ≤ 9223372036854775807) : IntKind.i64.wrap x = x := by
  rw [IntKind.wrap_i64]
  omega
theorem But.new {S : Nat → Prop} {w w' : World} (h : But S w w') {p : Addr} (hp : w.heap.size ≤ p.block) (u : Value) : But S w (w'.setCell p u) := by
  have h2 := but_setCell w' p u
  exact ⟨h2.os.trans h.os, h2.tape.trans h.tape, h2.output.trans h.output, Nat.le_trans h.size h2.size, fun k hk hs => (h2.block k (Nat.lt_of_lt_of_le hk h.size) (by omega)).trans (h.block k hk hs)⟩
theorem rtHas (b : Nat) (r : RY) (f : Nat → Int) (lv : Value) (log : List Acc) (w : World) (h : RB w b r f lv log) : Calls Tryz.prog 66 #[.pointer (some ⟨b, 0, none⟩)] w fun e w' => e = .returned (.bool (r.V == 5)) ∧ w = w' := by
  have q0 := h.q0
  clear h
  go_enter Tryz.func66, Tryz.ntmps66
  go_wp2
  go_ret
  exact ⟨rfl, rfl⟩
theorem rtTicket (b : Nat) (r : RY) (f : Nat → Int) (lv : Value) (log : List Acc) (w : World) (h : RB w b r f lv log) : Calls Tryz.prog 115 #[.pointer (some ⟨b, 0, none⟩)] w fun e w' => e = .returned (.int .i64 r.n) ∧ w = w' := by
  have q5 := h.q5
  clear h
  go_enter Tryz.func115, Tryz.ntmps115
  go_wp2
  go_ret
  exact ⟨rfl, rfl⟩
/-- a step of the document's Enter -/
def REnterDoes (b : Nat) (r : RY) (lv : Value) (f' : Nat → Int) (log' : List Acc) (d : Bool) (Pc Ow : Int) (w : World) (e : Ending) (w' : World) : Prop :=
  e = .returned (.tuple #[(.agg #[.int .i64 0, .int .i64 0, .int .i64 0, .int .i64 Pc, .int .i64 0, .int .i64 0, .int .u64 0, .int .u64 0, .int .u64 0, .int .u64 Ow, .slice none 0 0]), .bool d]) ∧ ∃ lv', RB w' b r f' lv' log' ∧ But (Own b r.gh lv) w w' ∧ (lv'.ownBlock = lv.ownBlock ∨ ∃ j, lv'.ownBlock = some j ∧ w.heap.size ≤ j)
/-- what the last step asks: the board behind the call, two blocks of the call's own -/
structure RMid (b : Nat) (r : RY) (lv : Value) (f' : Nat → Int) (log' : List Acc) (w w' : World) : Prop where
  N : But (Own b r.gh lv) w w'
  R : ∃ lv', RB w' b r f' lv' log' ∧ (∀ k, Own b r.gh lv' k → k < w.heap.size ∨ w.heap.size + 2 ≤ k) ∧ (lv'.ownBlock = lv.ownBlock ∨ ∃ j, lv'.ownBlock = some j ∧ w.heap.size ≤ j)
  c : r.gc < w.heap.size
theorem RMid.set {b : Nat} {r : RY} {lv : Value} {f' : Nat → Int} {log' : List Acc} {w w' : World} (h : RMid b r lv f' log' w w') {p : Addr} (h1 : w.heap.size ≤ p.block) (h2 : p.block < w.heap.size + 2) (u : Value) : RMid b r lv f' log' w (w'.setCell p u) := by
  obtain ⟨lv', hR, ho, hA⟩ := h.R
  exact ⟨h.N.new h1 u, ⟨lv', hR.mid ho h.c h1 h2 u, ho, hA⟩, h.c⟩
theorem RMid.ext {b : Nat} {r : RY} {lv : Value} {f' : Nat → Int} {log' : List Acc} {w w' w'' : World} (h : RMid b r lv f' log' w w') (hx : Ext w' w'') : RMid b r lv f' log' w w'' := by
  obtain ⟨lv', hR, ho, hA⟩ := h.R
  exact ⟨h.N.trans (hx.but _), ⟨lv', hR.ext hx, ho, hA⟩, h.c⟩
theorem RMid.does {b : Nat} {r : RY} {lv : Value} {f' : Nat → Int} {log' : List Acc} {w w' : World} (h : RMid b r lv f' log' w w') {v : Value} : ∃ lv', RB w' b r f' lv' log' ∧ But (Own b r.gh lv) w w' ∧ (lv'.ownBlock = lv.ownBlock ∨ ∃ j, lv'.ownBlock = some j ∧ w.heap.size ≤ j) := by
  obtain ⟨lv', hR, _, hA⟩ := h.R
  exact ⟨lv', hR, h.N, hA⟩
/-- behind an access, two blocks made ahead of it -/
theorem rmid_of {b : Nat} {r : RY} {f f' : Nat → Int} {lv lv' : Value} {log log' : List Acc} {w w1 w2 : World} (h : RB w b r f lv log) (hx : Ext w w1) (hs : w.heap.size + 2 ≤ w1.heap.size) (hR : RB w2 b r f' lv' log') (hN : But (Own b r.gh lv) w1 w2) (hA : lv'.ownBlock = lv.ownBlock ∨ ∃ j, lv'.ownBlock = some j ∧ w1.heap.size ≤ j) : RMid b r lv f' log' w w2 := by
  refine ⟨(hx.but _).trans hN, ⟨lv', hR, fun k hk => ?_, hA.imp id (fun ⟨j, e, hj⟩ => ⟨j, e, by omega⟩)⟩, tag_lt h.tc⟩
  rcases hk with e | e | e
  · exact .inl (by rw [e]; exact h.lt (.inl rfl))
  · exact .inl (by rw [e]; exact h.lt (.inr (.inl rfl)))
  · rcases hA with e' | ⟨j, e', hj⟩
    · exact .inl (h.lt (.inr (.inr (by rw [← e']; exact e))))
    · rw [e'] at e
      have := Option.some.inj e
      exact .inr (by omega)
theorem tick_kinds {r : RY} {y : LY} {W : Int} (R : Rel y r W) (h1 : kd y (y.n : Int) = 1) (h2 : kd y ((y.n + 1 : Nat) : Int) = 1) : isK r (y.n : Int) 1 = true ∧ isK r ((y.n + 1 : Nat) : Int) 1 = true := by
  rw [isK_kd R (by decide), isK_kd R (by decide), h1, h2]
  exact ⟨rfl, rfl⟩
set_option maxRecDepth 100000 in
theorem rtEnter_no (b : Nat) (r : RY) (f : Nat → Int) (lv : Value) (log : List Acc) (t Pc Ow : Int) (w : World) (h : RB w b r f lv log) (hV : ¬ r.V = 5) :
    Calls Tryz.prog 68 #[.pointer (some ⟨b, 0, none⟩), .int .i64 t, (.agg #[.int .i64 0, .int .i64 0, .int .i64 0, .int .i64 Pc, .int .i64 0, .int .i64 0, .int .u64 0, .int .u64 0, .int .u64 0, .int .u64 Ow, .slice none 0 0])] w fun e w' => e = .returned (.tuple #[(.agg #[.int .i64 0, .int .i64 0, .int .i64 0, .int .i64 Pc, .int .i64 0, .int .i64 0, .int .u64 0, .int .u64 0, .int .u64 0, .int .u64 Ow, .slice none 0 0]), .bool true]) ∧ Ext w w' := by
  have CH := Lib.hid (fun w' (hx : Ext w w') => rtHas b r f lv log w' (h.ext hx))
  rw [show (r.V == 5) = false by simpa using hV] at CH
  clear h hV
  go_enter Tryz.func68, Tryz.ntmps68
  go_wp2_with fail
  refine (CH.out _ (by repeat (first | with_reducible exact Ext.refl _ | with_reducible assumption | with_reducible refine Ext.alloc ?_ _ | with_reducible refine Ext.drew ?_ | with_reducible refine Ext.drewN ?_ _ | with_reducible refine Ext.setCell ?_ (by simp <;> omega) _ | with_reducible refine Ext.trans ?_ (by assumption)))).mono ?_
  rintro e w' ⟨rfl, rfl⟩
  go_wp2
  refine bodyPost_ret (v := .tuple #[(.agg #[.int .i64 0, .int .i64 0, .int .i64 0, .int .i64 Pc, .int .i64 0, .int .i64 0, .int .u64 0, .int .u64 0, .int .u64 0, .int .u64 Ow, .slice none 0 0]), .bool true]) (by simp [results, Tryz.results68, go_sem]) rfl ⟨rfl, ?_⟩
  repeat (first | with_reducible exact Ext.refl _ | with_reducible assumption | with_reducible refine Ext.alloc ?_ _ | with_reducible refine Ext.drew ?_ | with_reducible refine Ext.drewN ?_ _ | with_reducible refine Ext.setCell ?_ (by simp <;> omega) _ | with_reducible refine Ext.trans ?_ (by assumption))
set_option maxRecDepth 100000 in
theorem rtEnter_take (b : Nat) (r : RY) (f : Nat → Int) (lv : Value) (log : List Acc) (t Ow : Int) (w : World) (h : RB w b r f lv log) (hV : r.V = 5) (hk : isK r (r.n : Int) 1 = true) (hc : r.n < r.m) (hm : r.m ≤ 1000) (hn : r.n ≤ 500) (hl : log.length ≤ 1000) (hW : r.W = 32 ∨ r.W = 64) :
    Calls Tryz.prog 68 #[.pointer (some ⟨b, 0, none⟩), .int .i64 t, (.agg #[.int .i64 0, .int .i64 0, .int .i64 0, .int .i64 0, .int .i64 0, .int .i64 0, .int .u64 0, .int .u64 0, .int .u64 0, .int .u64 Ow, .slice none 0 0])] w (REnterDoes b r lv (upd f r.n (plusW r.W (f r.n) 1)) (log ++ [⟨t, 3, r.n, f r.n, plusW r.W (f r.n) 1⟩]) false 1 (f r.n) w) := by
  have CH := Lib.hid (fun w' (hx : Ext w w') => rtHas b r f lv log w' (h.ext hx))
  rw [show (r.V == 5) = true by simpa using hV] at CH
  have CT := Lib.hid (fun w' (hx : Ext w w') => rtTicket b r f lv log w' (h.ext hx))
  have CA := Lib.hid (fun w' (hx : Ext w w') => rAdd_yes b r f lv log t 1 r.n w' (h.ext hx) hk hc hl hW)
  have HR := Lib.hid h
  have HG : Hid (∀ w', RMid b r lv (upd f r.n (plusW r.W (f r.n) 1)) (log ++ [⟨t, 3, r.n, f r.n, plusW r.W (f r.n) 1⟩]) w w' → REnterDoes b r lv (upd f r.n (plusW r.W (f r.n) 1)) (log ++ [⟨t, 3, r.n, f r.n, plusW r.W (f r.n) 1⟩]) false 1 (f r.n) w (.returned (.tuple #[(.agg #[.int .i64 0, .int .i64 0, .int .i64 0, .int .i64 1, .int .i64 0, .int .i64 0, .int .u64 0, .int .u64 0, .int .u64 0, .int .u64 (f r.n), .slice none 0 0]), .bool false])) w') := Lib.hid (fun w' hm => ⟨rfl, hm.does (v := undef)⟩)
  have HM := Lib.hid (fun lv' w1 w2 (hx : Ext w w1) hs hR hN hA => rmid_of (f' := upd f r.n (plusW r.W (f r.n) 1)) (lv' := lv') (log' := log ++ [⟨t, 3, r.n, f r.n, plusW r.W (f r.n) 1⟩]) (w1 := w1) (w2 := w2) h hx hs hR hN hA)
  generalize REnterDoes b r lv (upd f r.n (plusW r.W (f r.n) 1)) (log ++ [⟨t, 3, r.n, f r.n, plusW r.W (f r.n) 1⟩]) false 1 (f r.n) w = G at *
  generalize plusW r.W (f r.n) 1 = z at *
  generalize f r.n = x at *
  have hlt := fun k (hk : Own b r.gh lv k) => h.lt hk
  have hn0 : (0 : Int) ≤ (r.n : Int) := by omega
  have hn3 : (r.n : Int) + 1 < 1000 := by omega
  have hn4 : (0 : Int) ≤ (r.n : Int) + 1 := by omega
  have hwr : IntKind.i64.wrap ((r.n : Int) + 1) = (r.n : Int) + 1 := wrapS (by omega) (by omega)
  clear h hV hk hc hl hW
  go_enter Tryz.func68, Tryz.ntmps68
  go_wp2_with fail
  refine (CH.out _ (by repeat (first | with_reducible exact Ext.refl _ | with_reducible assumption | with_reducible refine Ext.alloc ?_ _ | with_reducible refine Ext.drew ?_ | with_reducible refine Ext.drewN ?_ _ | with_reducible refine Ext.setCell ?_ (by simp <;> omega) _ | with_reducible refine Ext.trans ?_ (by assumption)))).mono ?_
  rintro e w' ⟨rfl, rfl⟩
  go_upto_region 4 with (fail)
  refine settle_wp ?_
  intro w1 hb1
  have qa_0 : w1.cell? ⟨w.heap.size, 0, none⟩ = some (.int .i64 0) := (hb1.cells.1 _ _ (by simp <;> omega)).trans (by simp [go_sem])
  have za_0 : w1.frozen? ⟨w.heap.size, 0, none⟩ = false := (hb1.cells.2 _ _ (by simp <;> omega)).trans (by simp [go_sem])
  have qa_1 : w1.cell? ⟨w.heap.size, 1, none⟩ = some (.int .i64 0) := (hb1.cells.1 _ _ (by simp <;> omega)).trans (by simp [go_sem])
  have za_1 : w1.frozen? ⟨w.heap.size, 1, none⟩ = false := (hb1.cells.2 _ _ (by simp <;> omega)).trans (by simp [go_sem])
  have qa_2 : w1.cell? ⟨w.heap.size, 2, none⟩ = some (.int .i64 0) := (hb1.cells.1 _ _ (by simp <;> omega)).trans (by simp [go_sem])
  have za_2 : w1.frozen? ⟨w.heap.size, 2, none⟩ = false := (hb1.cells.2 _ _ (by simp <;> omega)).trans (by simp [go_sem])
  have qa_3 : w1.cell? ⟨w.heap.size, 3, none⟩ = some (.int .i64 0) := (hb1.cells.1 _ _ (by simp <;> omega)).trans (by simp [go_sem])
  have za_3 : w1.frozen? ⟨w.heap.size, 3, none⟩ = false := (hb1.cells.2 _ _ (by simp <;> omega)).trans (by simp [go_sem])
  have qa_4 : w1.cell? ⟨w.heap.size, 4, none⟩ = some (.int .i64 0) := (hb1.cells.1 _ _ (by simp <;> omega)).trans (by simp [go_sem])
  have za_4 : w1.frozen? ⟨w.heap.size, 4, none⟩ = false := (hb1.cells.2 _ _ (by simp <;> omega)).trans (by simp [go_sem])
  have qa_5 : w1.cell? ⟨w.heap.size, 5, none⟩ = some (.int .i64 0) := (hb1.cells.1 _ _ (by simp <;> omega)).trans (by simp [go_sem])
  have za_5 : w1.frozen? ⟨w.heap.size, 5, none⟩ = false := (hb1.cells.2 _ _ (by simp <;> omega)).trans (by simp [go_sem])
  have qa_6 : w1.cell? ⟨w.heap.size, 6, none⟩ = some (.int .u64 0) := (hb1.cells.1 _ _ (by simp <;> omega)).trans (by simp [go_sem])
  have za_6 : w1.frozen? ⟨w.heap.size, 6, none⟩ = false := (hb1.cells.2 _ _ (by simp <;> omega)).trans (by simp [go_sem])
  have qa_7 : w1.cell? ⟨w.heap.size, 7, none⟩ = some (.int .u64 0) := (hb1.cells.1 _ _ (by simp <;> omega)).trans (by simp [go_sem])
  have za_7 : w1.frozen? ⟨w.heap.size, 7, none⟩ = false := (hb1.cells.2 _ _ (by simp <;> omega)).trans (by simp [go_sem])
  have qa_8 : w1.cell? ⟨w.heap.size, 8, none⟩ = some (.int .u64 0) := (hb1.cells.1 _ _ (by simp <;> omega)).trans (by simp [go_sem])
  have za_8 : w1.frozen? ⟨w.heap.size, 8, none⟩ = false := (hb1.cells.2 _ _ (by simp <;> omega)).trans (by simp [go_sem])
  have qa_9 : w1.cell? ⟨w.heap.size, 9, none⟩ = some (.int .u64 Ow) := (hb1.cells.1 _ _ (by simp <;> omega)).trans (by simp [go_sem])
  have za_9 : w1.frozen? ⟨w.heap.size, 9, none⟩ = false := (hb1.cells.2 _ _ (by simp <;> omega)).trans (by simp [go_sem])
  have qa_10 : w1.cell? ⟨w.heap.size, 10, none⟩ = some (.slice none 0 0) := (hb1.cells.1 _ _ (by simp <;> omega)).trans (by simp [go_sem])
  have za_10 : w1.frozen? ⟨w.heap.size, 10, none⟩ = false := (hb1.cells.2 _ _ (by simp <;> omega)).trans (by simp [go_sem])
  have pa := World.block_lt_of_cell? _ ⟨w.heap.size, 0, none⟩ qa_0
  have ra := Nat.lt_succ_of_lt pa
  have qr_0 : w1.cell? ⟨(w.heap.size + 1), 0, none⟩ = some (.int .i64 0) := (hb1.cells.1 _ _ (by simp <;> omega)).trans (by simp [go_sem])
  have zr_0 : w1.frozen? ⟨(w.heap.size + 1), 0, none⟩ = false := (hb1.cells.2 _ _ (by simp <;> omega)).trans (by simp [go_sem])
  have qr_1 : w1.cell? ⟨(w.heap.size + 1), 1, none⟩ = some (.int .i64 0) := (hb1.cells.1 _ _ (by simp <;> omega)).trans (by simp [go_sem])
  have zr_1 : w1.frozen? ⟨(w.heap.size + 1), 1, none⟩ = false := (hb1.cells.2 _ _ (by simp <;> omega)).trans (by simp [go_sem])
  have qr_2 : w1.cell? ⟨(w.heap.size + 1), 2, none⟩ = some (.int .i64 0) := (hb1.cells.1 _ _ (by simp <;> omega)).trans (by simp [go_sem])
  have zr_2 : w1.frozen? ⟨(w.heap.size + 1), 2, none⟩ = false := (hb1.cells.2 _ _ (by simp <;> omega)).trans (by simp [go_sem])
  have qr_3 : w1.cell? ⟨(w.heap.size + 1), 3, none⟩ = some (.int .i64 0) := (hb1.cells.1 _ _ (by simp <;> omega)).trans (by simp [go_sem])
  have zr_3 : w1.frozen? ⟨(w.heap.size + 1), 3, none⟩ = false := (hb1.cells.2 _ _ (by simp <;> omega)).trans (by simp [go_sem])
  have qr_4 : w1.cell? ⟨(w.heap.size + 1), 4, none⟩ = some (.int .i64 0) := (hb1.cells.1 _ _ (by simp <;> omega)).trans (by simp [go_sem])
  have zr_4 : w1.frozen? ⟨(w.heap.size + 1), 4, none⟩ = false := (hb1.cells.2 _ _ (by simp <;> omega)).trans (by simp [go_sem])
  have qr_5 : w1.cell? ⟨(w.heap.size + 1), 5, none⟩ = some (.int .i64 0) := (hb1.cells.1 _ _ (by simp <;> omega)).trans (by simp [go_sem])
  have zr_5 : w1.frozen? ⟨(w.heap.size + 1), 5, none⟩ = false := (hb1.cells.2 _ _ (by simp <;> omega)).trans (by simp [go_sem])
  have qr_6 : w1.cell? ⟨(w.heap.size + 1), 6, none⟩ = some (.int .u64 0) := (hb1.cells.1 _ _ (by simp <;> omega)).trans (by simp [go_sem])
  have zr_6 : w1.frozen? ⟨(w.heap.size + 1), 6, none⟩ = false := (hb1.cells.2 _ _ (by simp <;> omega)).trans (by simp [go_sem])
  have qr_7 : w1.cell? ⟨(w.heap.size + 1), 7, none⟩ = some (.int .u64 0) := (hb1.cells.1 _ _ (by simp <;> omega)).trans (by simp [go_sem])
  have zr_7 : w1.frozen? ⟨(w.heap.size + 1), 7, none⟩ = false := (hb1.cells.2 _ _ (by simp <;> omega)).trans (by simp [go_sem])
  have qr_8 : w1.cell? ⟨(w.heap.size + 1), 8, none⟩ = some (.int .u64 0) := (hb1.cells.1 _ _ (by simp <;> omega)).trans (by simp [go_sem])
  have zr_8 : w1.frozen? ⟨(w.heap.size + 1), 8, none⟩ = false := (hb1.cells.2 _ _ (by simp <;> omega)).trans (by simp [go_sem])
  have qr_9 : w1.cell? ⟨(w.heap.size + 1), 9, none⟩ = some (.int .u64 0) := (hb1.cells.1 _ _ (by simp <;> omega)).trans (by simp [go_sem])
  have zr_9 : w1.frozen? ⟨(w.heap.size + 1), 9, none⟩ = false := (hb1.cells.2 _ _ (by simp <;> omega)).trans (by simp [go_sem])
  have qr_10 : w1.cell? ⟨(w.heap.size + 1), 10, none⟩ = some (.slice none 0 0) := (hb1.cells.1 _ _ (by simp <;> omega)).trans (by simp [go_sem])
  have zr_10 : w1.frozen? ⟨(w.heap.size + 1), 10, none⟩ = false := (hb1.cells.2 _ _ (by simp <;> omega)).trans (by simp [go_sem])
  have pr := World.block_lt_of_cell? _ ⟨(w.heap.size + 1), 0, none⟩ qr_0
  have rr := Nat.lt_succ_of_lt pr
  have XE : Ext w w1 := Ext.trans (Ext.alloc (Ext.alloc (Ext.refl w) _) _) hb1
  have hs1 : w.heap.size + 2 ≤ w1.heap.size := by have h1 := hb1.size; simp at h1; omega
  have na : ¬ Own b r.gh lv w.heap.size := fun hk => by have := hlt _ hk; omega
  have nr : ¬ Own b r.gh lv (w.heap.size + 1) := fun hk => by have := hlt _ hk; omega
  clear hb1
  go_wp2_with fail
  refine (CT.out _ XE).mono ?_
  rintro e w' ⟨rfl, rfl⟩
  go_wp2_with fail
  refine (CA.out _ XE).mono ?_
  rintro e w2 ⟨rfl, lv2, R2, N2, A2⟩
  have HM2 := Lib.hid (HM.out lv2 _ w2 XE hs1 R2 N2 A2)
  replace za_0 := N2.frozen qa_0 za_0 na
  replace qa_0 := N2.cell qa_0 na
  replace za_1 := N2.frozen qa_1 za_1 na
  replace qa_1 := N2.cell qa_1 na
  replace za_2 := N2.frozen qa_2 za_2 na
  replace qa_2 := N2.cell qa_2 na
  replace za_3 := N2.frozen qa_3 za_3 na
  replace qa_3 := N2.cell qa_3 na
  replace za_4 := N2.frozen qa_4 za_4 na
  replace qa_4 := N2.cell qa_4 na
  replace za_5 := N2.frozen qa_5 za_5 na
  replace qa_5 := N2.cell qa_5 na
  replace za_6 := N2.frozen qa_6 za_6 na
  replace qa_6 := N2.cell qa_6 na
  replace za_7 := N2.frozen qa_7 za_7 na
  replace qa_7 := N2.cell qa_7 na
  replace za_8 := N2.frozen qa_8 za_8 na
  replace qa_8 := N2.cell qa_8 na
  replace za_9 := N2.frozen qa_9 za_9 na
  replace qa_9 := N2.cell qa_9 na
  replace za_10 := N2.frozen qa_10 za_10 na
  replace qa_10 := N2.cell qa_10 na
  replace zr_0 := N2.frozen qr_0 zr_0 nr
  replace qr_0 := N2.cell qr_0 nr
  replace zr_1 := N2.frozen qr_1 zr_1 nr
  replace qr_1 := N2.cell qr_1 nr
  replace zr_2 := N2.frozen qr_2 zr_2 nr
  replace qr_2 := N2.cell qr_2 nr
  replace zr_3 := N2.frozen qr_3 zr_3 nr
  replace qr_3 := N2.cell qr_3 nr
  replace zr_4 := N2.frozen qr_4 zr_4 nr
  replace qr_4 := N2.cell qr_4 nr
  replace zr_5 := N2.frozen qr_5 zr_5 nr
  replace qr_5 := N2.cell qr_5 nr
  replace zr_6 := N2.frozen qr_6 zr_6 nr
  replace qr_6 := N2.cell qr_6 nr
  replace zr_7 := N2.frozen qr_7 zr_7 nr
  replace qr_7 := N2.cell qr_7 nr
  replace zr_8 := N2.frozen qr_8 zr_8 nr
  replace qr_8 := N2.cell qr_8 nr
  replace zr_9 := N2.frozen qr_9 zr_9 nr
  replace qr_9 := N2.cell qr_9 nr
  replace zr_10 := N2.frozen qr_10 zr_10 nr
  replace qr_10 := N2.cell qr_10 nr
  clear R2 N2 A2 XE
  go_upto_region 6 with (fail)
  replace HM2 := Lib.hid (HM2.out.set (p := ⟨w.heap.size, 9, none⟩) (by simp) (by simp) (.int .u64 x))
  replace HM2 := Lib.hid (HM2.out.set (p := ⟨w.heap.size, 3, none⟩) (by simp) (by simp) (.int .i64 1))
  refine settle_wp ?_
  intro w5 hb5
  replace HM2 := Lib.hid (HM2.out.ext hb5)
  have pa_0 : w5.cell? ⟨w.heap.size, 0, none⟩ = some (.int .i64 0) := hb5.cell (by simp (maxDischargeDepth := 40) [go_sem, set_some, set_same, qa_0, qa_9, qa_3])
  have pa_1 : w5.cell? ⟨w.heap.size, 1, none⟩ = some (.int .i64 0) := hb5.cell (by simp (maxDischargeDepth := 40) [go_sem, set_some, set_same, qa_1, qa_9, qa_3])
  have pa_2 : w5.cell? ⟨w.heap.size, 2, none⟩ = some (.int .i64 0) := hb5.cell (by simp (maxDischargeDepth := 40) [go_sem, set_some, set_same, qa_2, qa_9, qa_3])
  have pa_3 : w5.cell? ⟨w.heap.size, 3, none⟩ = some (.int .i64 1) := hb5.cell (by simp (maxDischargeDepth := 40) [go_sem, set_some, set_same, qa_3, qa_9, qa_3])
  have pa_4 : w5.cell? ⟨w.heap.size, 4, none⟩ = some (.int .i64 0) := hb5.cell (by simp (maxDischargeDepth := 40) [go_sem, set_some, set_same, qa_4, qa_9, qa_3])
  have pa_5 : w5.cell? ⟨w.heap.size, 5, none⟩ = some (.int .i64 0) := hb5.cell (by simp (maxDischargeDepth := 40) [go_sem, set_some, set_same, qa_5, qa_9, qa_3])
  have pa_6 : w5.cell? ⟨w.heap.size, 6, none⟩ = some (.int .u64 0) := hb5.cell (by simp (maxDischargeDepth := 40) [go_sem, set_some, set_same, qa_6, qa_9, qa_3])
  have pa_7 : w5.cell? ⟨w.heap.size, 7, none⟩ = some (.int .u64 0) := hb5.cell (by simp (maxDischargeDepth := 40) [go_sem, set_some, set_same, qa_7, qa_9, qa_3])
  have pa_8 : w5.cell? ⟨w.heap.size, 8, none⟩ = some (.int .u64 0) := hb5.cell (by simp (maxDischargeDepth := 40) [go_sem, set_some, set_same, qa_8, qa_9, qa_3])
  have pa_9 : w5.cell? ⟨w.heap.size, 9, none⟩ = some (.int .u64 x) := hb5.cell (by simp (maxDischargeDepth := 40) [go_sem, set_some, set_same, qa_9, qa_9, qa_3])
  have pa_10 : w5.cell? ⟨w.heap.size, 10, none⟩ = some (.slice none 0 0) := hb5.cell (by simp (maxDischargeDepth := 40) [go_sem, set_some, set_same, qa_10, qa_9, qa_3])
  have pr_0 : w5.cell? ⟨w.heap.size + 1, 0, none⟩ = some (.int .i64 0) := hb5.cell (by simp [go_sem, qr_0])
  have vr_0 : w5.frozen? ⟨w.heap.size + 1, 0, none⟩ = false := hb5.frozen (v := .int .i64 0) (by simp [go_sem, qr_0]) (by simp [go_sem, zr_0])
  have pr_1 : w5.cell? ⟨w.heap.size + 1, 1, none⟩ = some (.int .i64 0) := hb5.cell (by simp [go_sem, qr_1])
  have vr_1 : w5.frozen? ⟨w.heap.size + 1, 1, none⟩ = false := hb5.frozen (v := .int .i64 0) (by simp [go_sem, qr_1]) (by simp [go_sem, zr_1])
  have pr_2 : w5.cell? ⟨w.heap.size + 1, 2, none⟩ = some (.int .i64 0) := hb5.cell (by simp [go_sem, qr_2])
  have vr_2 : w5.frozen? ⟨w.heap.size + 1, 2, none⟩ = false := hb5.frozen (v := .int .i64 0) (by simp [go_sem, qr_2]) (by simp [go_sem, zr_2])
  have pr_3 : w5.cell? ⟨w.heap.size + 1, 3, none⟩ = some (.int .i64 0) := hb5.cell (by simp [go_sem, qr_3])
  have vr_3 : w5.frozen? ⟨w.heap.size + 1, 3, none⟩ = false := hb5.frozen (v := .int .i64 0) (by simp [go_sem, qr_3]) (by simp [go_sem, zr_3])
  have pr_4 : w5.cell? ⟨w.heap.size + 1, 4, none⟩ = some (.int .i64 0) := hb5.cell (by simp [go_sem, qr_4])
  have vr_4 : w5.frozen? ⟨w.heap.size + 1, 4, none⟩ = false := hb5.frozen (v := .int .i64 0) (by simp [go_sem, qr_4]) (by simp [go_sem, zr_4])
  have pr_5 : w5.cell? ⟨w.heap.size + 1, 5, none⟩ = some (.int .i64 0) := hb5.cell (by simp [go_sem, qr_5])
  have vr_5 : w5.frozen? ⟨w.heap.size + 1, 5, none⟩ = false := hb5.frozen (v := .int .i64 0) (by simp [go_sem, qr_5]) (by simp [go_sem, zr_5])
  have pr_6 : w5.cell? ⟨w.heap.size + 1, 6, none⟩ = some (.int .u64 0) := hb5.cell (by simp [go_sem, qr_6])
  have vr_6 : w5.frozen? ⟨w.heap.size + 1, 6, none⟩ = false := hb5.frozen (v := .int .u64 0) (by simp [go_sem, qr_6]) (by simp [go_sem, zr_6])
  have pr_7 : w5.cell? ⟨w.heap.size + 1, 7, none⟩ = some (.int .u64 0) := hb5.cell (by simp [go_sem, qr_7])
  have vr_7 : w5.frozen? ⟨w.heap.size + 1, 7, none⟩ = false := hb5.frozen (v := .int .u64 0) (by simp [go_sem, qr_7]) (by simp [go_sem, zr_7])
  have pr_8 : w5.cell? ⟨w.heap.size + 1, 8, none⟩ = some (.int .u64 0) := hb5.cell (by simp [go_sem, qr_8])
  have vr_8 : w5.frozen? ⟨w.heap.size + 1, 8, none⟩ = false := hb5.frozen (v := .int .u64 0) (by simp [go_sem, qr_8]) (by simp [go_sem, zr_8])
  have pr_9 : w5.cell? ⟨w.heap.size + 1, 9, none⟩ = some (.int .u64 0) := hb5.cell (by simp [go_sem, qr_9])
  have vr_9 : w5.frozen? ⟨w.heap.size + 1, 9, none⟩ = false := hb5.frozen (v := .int .u64 0) (by simp [go_sem, qr_9]) (by simp [go_sem, zr_9])
  have pr_10 : w5.cell? ⟨w.heap.size + 1, 10, none⟩ = some (.slice none 0 0) := hb5.cell (by simp [go_sem, qr_10])
  have vr_10 : w5.frozen? ⟨w.heap.size + 1, 10, none⟩ = false := hb5.frozen (v := .slice none 0 0) (by simp [go_sem, qr_10]) (by simp [go_sem, zr_10])
  clear hb5 qa_0 za_0 qa_1 za_1 qa_2 za_2 qa_3 za_3 qa_4 za_4 qa_5 za_5 qa_6 za_6 qa_7 za_7 qa_8 za_8 qa_9 za_9 qa_10 za_10 qr_0 zr_0 qr_1 zr_1 qr_2 zr_2 qr_3 zr_3 qr_4 zr_4 qr_5 zr_5 qr_6 zr_6 qr_7 zr_7 qr_8 zr_8 qr_9 zr_9 qr_10 zr_10
  go_wp2
  refine bodyPost_ret (v := .tuple #[(.agg #[.int .i64 0, .int .i64 0, .int .i64 0, .int .i64 1, .int .i64 0, .int .i64 0, .int .u64 0, .int .u64 0, .int .u64 0, .int .u64 x, .slice none 0 0]), .bool false]) (by simp [results, Tryz.results68, go_sem, pr_0, pr_1, pr_2, pr_3, pr_4, pr_5, pr_6, pr_7, pr_8, pr_9, pr_10]) rfl (HG.out _ ?mid)
  case mid => repeat (first | with_reducible exact HM2.out | refine RMid.set ?_ (by simp) (by simp) _)
set_option maxRecDepth 100000 in
/-- it waits -/
theorem rtEnter_wait (b : Nat) (r : RY) (f : Nat → Int) (lv : Value) (log : List Acc) (t Pc Ow : Int) (w : World) (h : RB w b r f lv log) (hV : r.V = 5) (hk : isK r ((r.n + 1 : Nat) : Int) 1 = true) (hc : r.n + 1 < r.m) (hl : log.length ≤ 1000) (hm : r.m ≤ 1000) (hP : ¬ Pc = 0) (hS : ¬ f (r.n + 1) = Ow) :
    Calls Tryz.prog 68 #[.pointer (some ⟨b, 0, none⟩), .int .i64 t, (.agg #[.int .i64 0, .int .i64 0, .int .i64 0, .int .i64 Pc, .int .i64 0, .int .i64 0, .int .u64 0, .int .u64 0, .int .u64 0, .int .u64 Ow, .slice none 0 0])] w (REnterDoes b r lv f (log ++ [⟨t, 1, (r.n + 1 : Nat), f (r.n + 1), f (r.n + 1)⟩]) false Pc Ow w) := by
  have CH := Lib.hid (fun w' (hx : Ext w w') => rtHas b r f lv log w' (h.ext hx))
  rw [show (r.V == 5) = true by simpa using hV] at CH
  have CT := Lib.hid (fun w' (hx : Ext w w') => rtTicket b r f lv log w' (h.ext hx))
  have CA := Lib.hid (fun w' (hx : Ext w w') => rLoad_yes b r f lv log t (r.n + 1) w' (h.ext hx) hk hc hl)
  have HG : Hid (∀ w', RMid b r lv f (log ++ [⟨t, 1, (r.n + 1 : Nat), f (r.n + 1), f (r.n + 1)⟩]) w w' → REnterDoes b r lv f (log ++ [⟨t, 1, (r.n + 1 : Nat), f (r.n + 1), f (r.n + 1)⟩]) false Pc Ow w (.returned (.tuple #[(.agg #[.int .i64 0, .int .i64 0, .int .i64 0, .int .i64 Pc, .int .i64 0, .int .i64 0, .int .u64 0, .int .u64 0, .int .u64 0, .int .u64 Ow, .slice none 0 0]), .bool false])) w') := Lib.hid (fun w' hm => ⟨rfl, hm.does (v := undef)⟩)
  have HM := Lib.hid (fun lv' w1 w2 (hx : Ext w w1) hs hR hN hA => rmid_of (f' := f) (lv' := lv') (log' := log ++ [⟨t, 1, (r.n + 1 : Nat), f (r.n + 1), f (r.n + 1)⟩]) (w1 := w1) (w2 := w2) h hx hs hR hN hA)
  have hP0 : (Pc == 0) = false := by simpa using hP
  have hSB : (f (r.n + 1) == Ow) = false := by simpa using hS
  generalize REnterDoes b r lv f (log ++ [⟨t, 1, (r.n + 1 : Nat), f (r.n + 1), f (r.n + 1)⟩]) false Pc Ow w = G at *
  generalize f (r.n + 1) = x at *
  have hlt := fun k (hk : Own b r.gh lv k) => h.lt hk
  have hn0 : (0 : Int) ≤ (r.n : Int) := by omega
  have hn3 : (r.n : Int) + 1 < 1000 := by omega
  have hn4 : (0 : Int) ≤ (r.n : Int) + 1 := by omega
  have hwr : IntKind.i64.wrap ((r.n : Int) + 1) = (r.n : Int) + 1 := wrapS (by omega) (by omega)
  clear h hV hk hl hP hS
  go_enter Tryz.func68, Tryz.ntmps68
  go_wp2_with fail
  refine (CH.out _ (by repeat (first | with_reducible exact Ext.refl _ | with_reducible assumption | with_reducible refine Ext.alloc ?_ _ | with_reducible refine Ext.drew ?_ | with_reducible refine Ext.drewN ?_ _ | with_reducible refine Ext.setCell ?_ (by simp <;> omega) _ | with_reducible refine Ext.trans ?_ (by assumption)))).mono ?_
  rintro e w' ⟨rfl, rfl⟩
  go_upto_region 7 with (fail)
  refine settle_wp ?_
  intro w1 hb1
  have qa_0 : w1.cell? ⟨w.heap.size, 0, none⟩ = some (.int .i64 0) := (hb1.cells.1 _ _ (by simp <;> omega)).trans (by simp [go_sem])
  have za_0 : w1.frozen? ⟨w.heap.size, 0, none⟩ = false := (hb1.cells.2 _ _ (by simp <;> omega)).trans (by simp [go_sem])
  have qa_1 : w1.cell? ⟨w.heap.size, 1, none⟩ = some (.int .i64 0) := (hb1.cells.1 _ _ (by simp <;> omega)).trans (by simp [go_sem])
  have za_1 : w1.frozen? ⟨w.heap.size, 1, none⟩ = false := (hb1.cells.2 _ _ (by simp <;> omega)).trans (by simp [go_sem])
  have qa_2 : w1.cell? ⟨w.heap.size, 2, none⟩ = some (.int .i64 0) := (hb1.cells.1 _ _ (by simp <;> omega)).trans (by simp [go_sem])
  have za_2 : w1.frozen? ⟨w.heap.size, 2, none⟩ = false := (hb1.cells.2 _ _ (by simp <;> omega)).trans (by simp [go_sem])
  have qa_3 : w1.cell? ⟨w.heap.size, 3, none⟩ = some (.int .i64 Pc) := (hb1.cells.1 _ _ (by simp <;> omega)).trans (by simp [go_sem])
  have za_3 : w1.frozen? ⟨w.heap.size, 3, none⟩ = false := (hb1.cells.2 _ _ (by simp <;> omega)).trans (by simp [go_sem])
  have qa_4 : w1.cell? ⟨w.heap.size, 4, none⟩ = some (.int .i64 0) := (hb1.cells.1 _ _ (by simp <;> omega)).trans (by simp [go_sem])
  have za_4 : w1.frozen? ⟨w.heap.size, 4, none⟩ = false := (hb1.cells.2 _ _ (by simp <;> omega)).trans (by simp [go_sem])
  have qa_5 : w1.cell? ⟨w.heap.size, 5, none⟩ = some (.int .i64 0) := (hb1.cells.1 _ _ (by simp <;> omega)).trans (by simp [go_sem])
  have za_5 : w1.frozen? ⟨w.heap.size, 5, none⟩ = false := (hb1.cells.2 _ _ (by simp <;> omega)).trans (by simp [go_sem])
  have qa_6 : w1.cell? ⟨w.heap.size, 6, none⟩ = some (.int .u64 0) := (hb1.cells.1 _ _ (by simp <;> omega)).trans (by simp [go_sem])
  have za_6 : w1.frozen? ⟨w.heap.size, 6, none⟩ = false := (hb1.cells.2 _ _ (by simp <;> omega)).trans (by simp [go_sem])
  have qa_7 : w1.cell? ⟨w.heap.size, 7, none⟩ = some (.int .u64 0) := (hb1.cells.1 _ _ (by simp <;> omega)).trans (by simp [go_sem])
  have za_7 : w1.frozen? ⟨w.heap.size, 7, none⟩ = false := (hb1.cells.2 _ _ (by simp <;> omega)).trans (by simp [go_sem])
  have qa_8 : w1.cell? ⟨w.heap.size, 8, none⟩ = some (.int .u64 0) := (hb1.cells.1 _ _ (by simp <;> omega)).trans (by simp [go_sem])
  have za_8 : w1.frozen? ⟨w.heap.size, 8, none⟩ = false := (hb1.cells.2 _ _ (by simp <;> omega)).trans (by simp [go_sem])
  have qa_9 : w1.cell? ⟨w.heap.size, 9, none⟩ = some (.int .u64 Ow) := (hb1.cells.1 _ _ (by simp <;> omega)).trans (by simp [go_sem])
  have za_9 : w1.frozen? ⟨w.heap.size, 9, none⟩ = false := (hb1.cells.2 _ _ (by simp <;> omega)).trans (by simp [go_sem])
  have qa_10 : w1.cell? ⟨w.heap.size, 10, none⟩ = some (.slice none 0 0) := (hb1.cells.1 _ _ (by simp <;> omega)).trans (by simp [go_sem])
  have za_10 : w1.frozen? ⟨w.heap.size, 10, none⟩ = false := (hb1.cells.2 _ _ (by simp <;> omega)).trans (by simp [go_sem])
  have pa := World.block_lt_of_cell? _ ⟨w.heap.size, 0, none⟩ qa_0
  have ra := Nat.lt_succ_of_lt pa
  have qr_0 : w1.cell? ⟨(w.heap.size + 1), 0, none⟩ = some (.int .i64 0) := (hb1.cells.1 _ _ (by simp <;> omega)).trans (by simp [go_sem])
  have zr_0 : w1.frozen? ⟨(w.heap.size + 1), 0, none⟩ = false := (hb1.cells.2 _ _ (by simp <;> omega)).trans (by simp [go_sem])
  have qr_1 : w1.cell? ⟨(w.heap.size + 1), 1, none⟩ = some (.int .i64 0) := (hb1.cells.1 _ _ (by simp <;> omega)).trans (by simp [go_sem])
  have zr_1 : w1.frozen? ⟨(w.heap.size + 1), 1, none⟩ = false := (hb1.cells.2 _ _ (by simp <;> omega)).trans (by simp [go_sem])
  have qr_2 : w1.cell? ⟨(w.heap.size + 1), 2, none⟩ = some (.int .i64 0) := (hb1.cells.1 _ _ (by simp <;> omega)).trans (by simp [go_sem])
  have zr_2 : w1.frozen? ⟨(w.heap.size + 1), 2, none⟩ = false := (hb1.cells.2 _ _ (by simp <;> omega)).trans (by simp [go_sem])
  have qr_3 : w1.cell? ⟨(w.heap.size + 1), 3, none⟩ = some (.int .i64 0) := (hb1.cells.1 _ _ (by simp <;> omega)).trans (by simp [go_sem])
  have zr_3 : w1.frozen? ⟨(w.heap.size + 1), 3, none⟩ = false := (hb1.cells.2 _ _ (by simp <;> omega)).trans (by simp [go_sem])
  have qr_4 : w1.cell? ⟨(w.heap.size + 1), 4, none⟩ = some (.int .i64 0) := (hb1.cells.1 _ _ (by simp <;> omega)).trans (by simp [go_sem])
  have zr_4 : w1.frozen? ⟨(w.heap.size + 1), 4, none⟩ = false := (hb1.cells.2 _ _ (by simp <;> omega)).trans (by simp [go_sem])
  have qr_5 : w1.cell? ⟨(w.heap.size + 1), 5, none⟩ = some (.int .i64 0) := (hb1.cells.1 _ _ (by simp <;> omega)).trans (by simp [go_sem])
  have zr_5 : w1.frozen? ⟨(w.heap.size + 1), 5, none⟩ = false := (hb1.cells.2 _ _ (by simp <;> omega)).trans (by simp [go_sem])
  have qr_6 : w1.cell? ⟨(w.heap.size + 1), 6, none⟩ = some (.int .u64 0) := (hb1.cells.1 _ _ (by simp <;> omega)).trans (by simp [go_sem])
  have zr_6 : w1.frozen? ⟨(w.heap.size + 1), 6, none⟩ = false := (hb1.cells.2 _ _ (by simp <;> omega)).trans (by simp [go_sem])
  have qr_7 : w1.cell? ⟨(w.heap.size + 1), 7, none⟩ = some (.int .u64 0) := (hb1.cells.1 _ _ (by simp <;> omega)).trans (by simp [go_sem])
  have zr_7 : w1.frozen? ⟨(w.heap.size + 1), 7, none⟩ = false := (hb1.cells.2 _ _ (by simp <;> omega)).trans (by simp [go_sem])
  have qr_8 : w1.cell? ⟨(w.heap.size + 1), 8, none⟩ = some (.int .u64 0) := (hb1.cells.1 _ _ (by simp <;> omega)).trans (by simp [go_sem])
  have zr_8 : w1.frozen? ⟨(w.heap.size + 1), 8, none⟩ = false := (hb1.cells.2 _ _ (by simp <;> omega)).trans (by simp [go_sem])
  have qr_9 : w1.cell? ⟨(w.heap.size + 1), 9, none⟩ = some (.int .u64 0) := (hb1.cells.1 _ _ (by simp <;> omega)).trans (by simp [go_sem])
  have zr_9 : w1.frozen? ⟨(w.heap.size + 1), 9, none⟩ = false := (hb1.cells.2 _ _ (by simp <;> omega)).trans (by simp [go_sem])
  have qr_10 : w1.cell? ⟨(w.heap.size + 1), 10, none⟩ = some (.slice none 0 0) := (hb1.cells.1 _ _ (by simp <;> omega)).trans (by simp [go_sem])
  have zr_10 : w1.frozen? ⟨(w.heap.size + 1), 10, none⟩ = false := (hb1.cells.2 _ _ (by simp <;> omega)).trans (by simp [go_sem])
  have pr := World.block_lt_of_cell? _ ⟨(w.heap.size + 1), 0, none⟩ qr_0
  have rr := Nat.lt_succ_of_lt pr
  have XE : Ext w w1 := Ext.trans (Ext.alloc (Ext.alloc (Ext.refl w) _) _) hb1
  have hs1 : w.heap.size + 2 ≤ w1.heap.size := by have h1 := hb1.size; simp at h1; omega
  have na : ¬ Own b r.gh lv w.heap.size := fun hk => by have := hlt _ hk; omega
  have nr : ¬ Own b r.gh lv (w.heap.size + 1) := fun hk => by have := hlt _ hk; omega
  clear hb1
  refine wp_region_held_drew (S := (fun w' => But (Own b r.gh lv) w1 w')) (by kernel_rfl) ?hbeg (fun hHeld => ?_)
  case hbeg => exact ((Ext.refl w1).drew).but _
  have k9 := fun w' (hx : But (Own b r.gh lv) w1 w') => hx.cell qa_9 na
  first
    | (refine take_at (i := 0) (v := ?_) rfl rfl (by kernel_rfl) (by kernel_rfl) (by kernel_rfl) (fun _ _ _ h => h) (Or.inl ⟨by rfl, ?hy⟩) (by assumption) ?_
       case hy => (intro wz hSw; (try dsimp only at hSw); go_simp <;> with_reducible rfl)
       simp only [List.setIfInBounds_toArray, List.set_cons_zero, List.set_cons_succ])
    | (refine take_at (i := 0) (v := undef) rfl rfl (by kernel_rfl) (by kernel_rfl) (by kernel_rfl) (fun _ _ _ h => h) (Or.inr ⟨by rfl, rfl⟩) (by assumption) ?_
       simp only [List.setIfInBounds_toArray, List.set_cons_zero, List.set_cons_succ])
  first
    | (refine take_at (i := 1) (v := ?_) rfl rfl (by kernel_rfl) (by kernel_rfl) (by kernel_rfl) (fun _ _ _ h => h) (Or.inl ⟨by rfl, ?hy⟩) (by assumption) ?_
       case hy => (intro wz hSw; (try dsimp only at hSw); go_simp <;> with_reducible rfl)
       simp only [List.setIfInBounds_toArray, List.set_cons_zero, List.set_cons_succ])
    | (refine take_at (i := 1) (v := undef) rfl rfl (by kernel_rfl) (by kernel_rfl) (by kernel_rfl) (fun _ _ _ h => h) (Or.inr ⟨by rfl, rfl⟩) (by assumption) ?_
       simp only [List.setIfInBounds_toArray, List.set_cons_zero, List.set_cons_succ])
  first
    | (refine take_at (i := 2) (v := ?_) rfl rfl (by kernel_rfl) (by kernel_rfl) (by kernel_rfl) (fun _ _ _ h => h) (Or.inl ⟨by rfl, ?hy⟩) (by assumption) ?_
       case hy => (intro wz hSw; (try dsimp only at hSw); go_simp <;> with_reducible rfl)
       simp only [List.setIfInBounds_toArray, List.set_cons_zero, List.set_cons_succ])
    | (refine take_at (i := 2) (v := undef) rfl rfl (by kernel_rfl) (by kernel_rfl) (by kernel_rfl) (fun _ _ _ h => h) (Or.inr ⟨by rfl, rfl⟩) (by assumption) ?_
       simp only [List.setIfInBounds_toArray, List.set_cons_zero, List.set_cons_succ])
  first
    | (refine take_at (i := 6) (v := ?_) rfl rfl (by kernel_rfl) (by kernel_rfl) (by kernel_rfl) (fun _ _ _ h => h) (Or.inl ⟨by rfl, ?hy⟩) (by assumption) ?_
       case hy => (intro wz hSw; (try dsimp only at hSw); go_simp <;> with_reducible rfl)
       simp only [List.setIfInBounds_toArray, List.set_cons_zero, List.set_cons_succ])
    | (refine take_at (i := 6) (v := undef) rfl rfl (by kernel_rfl) (by kernel_rfl) (by kernel_rfl) (fun _ _ _ h => h) (Or.inr ⟨by rfl, rfl⟩) (by assumption) ?_
       simp only [List.setIfInBounds_toArray, List.set_cons_zero, List.set_cons_succ])
  first
    | (refine take_at (i := 7) (v := ?_) rfl rfl (by kernel_rfl) (by kernel_rfl) (by kernel_rfl) (fun _ _ _ h => h) (Or.inl ⟨by rfl, ?hy⟩) (by assumption) ?_
       case hy => (intro wz hSw; (try dsimp only at hSw); go_simp <;> with_reducible rfl)
       simp only [List.setIfInBounds_toArray, List.set_cons_zero, List.set_cons_succ])
    | (refine take_at (i := 7) (v := undef) rfl rfl (by kernel_rfl) (by kernel_rfl) (by kernel_rfl) (fun _ _ _ h => h) (Or.inr ⟨by rfl, rfl⟩) (by assumption) ?_
       simp only [List.setIfInBounds_toArray, List.set_cons_zero, List.set_cons_succ])
  refine call_at (i := 3) (F := 115) (CT.out _ (XE.trans (Ext.refl w1).drew)) rfl rfl (by kernel_rfl) (by rfl) (by first | rfl | (go_simp <;> rfl)) ?_
  rintro e w' ⟨rfl, rfl⟩
  refine ⟨_, rfl, by assumption, ?_⟩
  simp only [List.setIfInBounds_toArray, List.set_cons_zero, List.set_cons_succ]
  first
    | (refine take_at (i := 4) (v := ?_) rfl rfl (by kernel_rfl) (by kernel_rfl) (by kernel_rfl) (fun _ _ _ h => h) (Or.inl ⟨by rfl, ?hy⟩) (by assumption) ?_
       case hy => (intro wz hSw; (try dsimp only at hSw); go_simp <;> with_reducible rfl)
       simp only [List.setIfInBounds_toArray, List.set_cons_zero, List.set_cons_succ])
    | (refine take_at (i := 4) (v := undef) rfl rfl (by kernel_rfl) (by kernel_rfl) (by kernel_rfl) (fun _ _ _ h => h) (Or.inr ⟨by rfl, rfl⟩) (by assumption) ?_
       simp only [List.setIfInBounds_toArray, List.set_cons_zero, List.set_cons_succ])
  refine call_at (i := 5) (F := 91) (CA.out _ (XE.trans (Ext.refl w1).drew)) rfl rfl (by kernel_rfl) (by rfl) (by first | rfl | (go_simp <;> rfl)) ?_
  rintro e w2 ⟨rfl, lv2, R2, N2, A2⟩
  replace hHeld := hHeld.trans N2
  refine ⟨_, rfl, hHeld, ?_⟩
  simp only [List.setIfInBounds_toArray, List.set_cons_zero, List.set_cons_succ]
  first
    | (refine take_at (i := 8) (v := ?_) rfl rfl (by kernel_rfl) (by kernel_rfl) (by kernel_rfl) (fun _ _ _ h => h) (Or.inl ⟨by rfl, ?hy⟩) (by assumption) ?_
       case hy => (intro wz hSw; (try dsimp only at hSw); go_simp <;> with_reducible rfl)
       simp only [List.setIfInBounds_toArray, List.set_cons_zero, List.set_cons_succ])
    | (refine take_at (i := 8) (v := undef) rfl rfl (by kernel_rfl) (by kernel_rfl) (by kernel_rfl) (fun _ _ _ h => h) (Or.inr ⟨by rfl, rfl⟩) (by assumption) ?_
       simp only [List.setIfInBounds_toArray, List.set_cons_zero, List.set_cons_succ])
  refine wpAnyH_done (by kernel_rfl) ?_ _
  have HM2 := Lib.hid (HM.out lv2 _ w2 (XE.trans (Ext.refl w1).drew) hs1 R2 N2 A2)
  replace za_0 := hHeld.frozen qa_0 za_0 na
  replace qa_0 := hHeld.cell qa_0 na
  replace za_1 := hHeld.frozen qa_1 za_1 na
  replace qa_1 := hHeld.cell qa_1 na
  replace za_2 := hHeld.frozen qa_2 za_2 na
  replace qa_2 := hHeld.cell qa_2 na
  replace za_3 := hHeld.frozen qa_3 za_3 na
  replace qa_3 := hHeld.cell qa_3 na
  replace za_4 := hHeld.frozen qa_4 za_4 na
  replace qa_4 := hHeld.cell qa_4 na
  replace za_5 := hHeld.frozen qa_5 za_5 na
  replace qa_5 := hHeld.cell qa_5 na
  replace za_6 := hHeld.frozen qa_6 za_6 na
  replace qa_6 := hHeld.cell qa_6 na
  replace za_7 := hHeld.frozen qa_7 za_7 na
  replace qa_7 := hHeld.cell qa_7 na
  replace za_8 := hHeld.frozen qa_8 za_8 na
  replace qa_8 := hHeld.cell qa_8 na
  replace za_9 := hHeld.frozen qa_9 za_9 na
  replace qa_9 := hHeld.cell qa_9 na
  replace za_10 := hHeld.frozen qa_10 za_10 na
  replace qa_10 := hHeld.cell qa_10 na
  replace zr_0 := hHeld.frozen qr_0 zr_0 nr
  replace qr_0 := hHeld.cell qr_0 nr
  replace zr_1 := hHeld.frozen qr_1 zr_1 nr
  replace qr_1 := hHeld.cell qr_1 nr
  replace zr_2 := hHeld.frozen qr_2 zr_2 nr
  replace qr_2 := hHeld.cell qr_2 nr
  replace zr_3 := hHeld.frozen qr_3 zr_3 nr
  replace qr_3 := hHeld.cell qr_3 nr
  replace zr_4 := hHeld.frozen qr_4 zr_4 nr
  replace qr_4 := hHeld.cell qr_4 nr
  replace zr_5 := hHeld.frozen qr_5 zr_5 nr
  replace qr_5 := hHeld.cell qr_5 nr
  replace zr_6 := hHeld.frozen qr_6 zr_6 nr
  replace qr_6 := hHeld.cell qr_6 nr
  replace zr_7 := hHeld.frozen qr_7 zr_7 nr
  replace qr_7 := hHeld.cell qr_7 nr
  replace zr_8 := hHeld.frozen qr_8 zr_8 nr
  replace qr_8 := hHeld.cell qr_8 nr
  replace zr_9 := hHeld.frozen qr_9 zr_9 nr
  replace qr_9 := hHeld.cell qr_9 nr
  replace zr_10 := hHeld.frozen qr_10 zr_10 nr
  replace qr_10 := hHeld.cell qr_10 nr
  clear R2 N2 A2 XE k9 hHeld
  go_upto_region 10 with (fail)
  refine settle_wp ?_
  intro w5 hb5
  replace HM2 := Lib.hid (HM2.out.ext hb5)
  have pa_0 : w5.cell? ⟨w.heap.size, 0, none⟩ = some (.int .i64 0) := hb5.cell (by simp (maxDischargeDepth := 40) [go_sem, set_some, set_same, qa_0])
  have pa_1 : w5.cell? ⟨w.heap.size, 1, none⟩ = some (.int .i64 0) := hb5.cell (by simp (maxDischargeDepth := 40) [go_sem, set_some, set_same, qa_1])
  have pa_2 : w5.cell? ⟨w.heap.size, 2, none⟩ = some (.int .i64 0) := hb5.cell (by simp (maxDischargeDepth := 40) [go_sem, set_some, set_same, qa_2])
  have pa_3 : w5.cell? ⟨w.heap.size, 3, none⟩ = some (.int .i64 Pc) := hb5.cell (by simp (maxDischargeDepth := 40) [go_sem, set_some, set_same, qa_3])
  have pa_4 : w5.cell? ⟨w.heap.size, 4, none⟩ = some (.int .i64 0) := hb5.cell (by simp (maxDischargeDepth := 40) [go_sem, set_some, set_same, qa_4])
  have pa_5 : w5.cell? ⟨w.heap.size, 5, none⟩ = some (.int .i64 0) := hb5.cell (by simp (maxDischargeDepth := 40) [go_sem, set_some, set_same, qa_5])
  have pa_6 : w5.cell? ⟨w.heap.size, 6, none⟩ = some (.int .u64 0) := hb5.cell (by simp (maxDischargeDepth := 40) [go_sem, set_some, set_same, qa_6])
  have pa_7 : w5.cell? ⟨w.heap.size, 7, none⟩ = some (.int .u64 0) := hb5.cell (by simp (maxDischargeDepth := 40) [go_sem, set_some, set_same, qa_7])
  have pa_8 : w5.cell? ⟨w.heap.size, 8, none⟩ = some (.int .u64 0) := hb5.cell (by simp (maxDischargeDepth := 40) [go_sem, set_some, set_same, qa_8])
  have pa_9 : w5.cell? ⟨w.heap.size, 9, none⟩ = some (.int .u64 Ow) := hb5.cell (by simp (maxDischargeDepth := 40) [go_sem, set_some, set_same, qa_9])
  have pa_10 : w5.cell? ⟨w.heap.size, 10, none⟩ = some (.slice none 0 0) := hb5.cell (by simp (maxDischargeDepth := 40) [go_sem, set_some, set_same, qa_10])
  have pr_0 : w5.cell? ⟨w.heap.size + 1, 0, none⟩ = some (.int .i64 0) := hb5.cell (by simp [go_sem, qr_0])
  have vr_0 : w5.frozen? ⟨w.heap.size + 1, 0, none⟩ = false := hb5.frozen (v := .int .i64 0) (by simp [go_sem, qr_0]) (by simp [go_sem, zr_0])
  have pr_1 : w5.cell? ⟨w.heap.size + 1, 1, none⟩ = some (.int .i64 0) := hb5.cell (by simp [go_sem, qr_1])
  have vr_1 : w5.frozen? ⟨w.heap.size + 1, 1, none⟩ = false := hb5.frozen (v := .int .i64 0) (by simp [go_sem, qr_1]) (by simp [go_sem, zr_1])
  have pr_2 : w5.cell? ⟨w.heap.size + 1, 2, none⟩ = some (.int .i64 0) := hb5.cell (by simp [go_sem, qr_2])
  have vr_2 : w5.frozen? ⟨w.heap.size + 1, 2, none⟩ = false := hb5.frozen (v := .int .i64 0) (by simp [go_sem, qr_2]) (by simp [go_sem, zr_2])
  have pr_3 : w5.cell? ⟨w.heap.size + 1, 3, none⟩ = some (.int .i64 0) := hb5.cell (by simp [go_sem, qr_3])
  have vr_3 : w5.frozen? ⟨w.heap.size + 1, 3, none⟩ = false := hb5.frozen (v := .int .i64 0) (by simp [go_sem, qr_3]) (by simp [go_sem, zr_3])
  have pr_4 : w5.cell? ⟨w.heap.size + 1, 4, none⟩ = some (.int .i64 0) := hb5.cell (by simp [go_sem, qr_4])
  have vr_4 : w5.frozen? ⟨w.heap.size + 1, 4, none⟩ = false := hb5.frozen (v := .int .i64 0) (by simp [go_sem, qr_4]) (by simp [go_sem, zr_4])
  have pr_5 : w5.cell? ⟨w.heap.size + 1, 5, none⟩ = some (.int .i64 0) := hb5.cell (by simp [go_sem, qr_5])
  have vr_5 : w5.frozen? ⟨w.heap.size + 1, 5, none⟩ = false := hb5.frozen (v := .int .i64 0) (by simp [go_sem, qr_5]) (by simp [go_sem, zr_5])
  have pr_6 : w5.cell? ⟨w.heap.size + 1, 6, none⟩ = some (.int .u64 0) := hb5.cell (by simp [go_sem, qr_6])
  have vr_6 : w5.frozen? ⟨w.heap.size + 1, 6, none⟩ = false := hb5.frozen (v := .int .u64 0) (by simp [go_sem, qr_6]) (by simp [go_sem, zr_6])
  have pr_7 : w5.cell? ⟨w.heap.size + 1, 7, none⟩ = some (.int .u64 0) := hb5.cell (by simp [go_sem, qr_7])
  have vr_7 : w5.frozen? ⟨w.heap.size + 1, 7, none⟩ = false := hb5.frozen (v := .int .u64 0) (by simp [go_sem, qr_7]) (by simp [go_sem, zr_7])
  have pr_8 : w5.cell? ⟨w.heap.size + 1, 8, none⟩ = some (.int .u64 0) := hb5.cell (by simp [go_sem, qr_8])
  have vr_8 : w5.frozen? ⟨w.heap.size + 1, 8, none⟩ = false := hb5.frozen (v := .int .u64 0) (by simp [go_sem, qr_8]) (by simp [go_sem, zr_8])
  have pr_9 : w5.cell? ⟨w.heap.size + 1, 9, none⟩ = some (.int .u64 0) := hb5.cell (by simp [go_sem, qr_9])
  have vr_9 : w5.frozen? ⟨w.heap.size + 1, 9, none⟩ = false := hb5.frozen (v := .int .u64 0) (by simp [go_sem, qr_9]) (by simp [go_sem, zr_9])
  have pr_10 : w5.cell? ⟨w.heap.size + 1, 10, none⟩ = some (.slice none 0 0) := hb5.cell (by simp [go_sem, qr_10])
  have vr_10 : w5.frozen? ⟨w.heap.size + 1, 10, none⟩ = false := hb5.frozen (v := .slice none 0 0) (by simp [go_sem, qr_10]) (by simp [go_sem, zr_10])
  clear hb5 qa_0 za_0 qa_1 za_1 qa_2 za_2 qa_3 za_3 qa_4 za_4 qa_5 za_5 qa_6 za_6 qa_7 za_7 qa_8 za_8 qa_9 za_9 qa_10 za_10 qr_0 zr_0 qr_1 zr_1 qr_2 zr_2 qr_3 zr_3 qr_4 zr_4 qr_5 zr_5 qr_6 zr_6 qr_7 zr_7 qr_8 zr_8 qr_9 zr_9 qr_10 zr_10
  go_wp2
  refine bodyPost_ret (v := .tuple #[(.agg #[.int .i64 0, .int .i64 0, .int .i64 0, .int .i64 Pc, .int .i64 0, .int .i64 0, .int .u64 0, .int .u64 0, .int .u64 0, .int .u64 Ow, .slice none 0 0]), .bool false]) (by simp [results, Tryz.results68, go_sem, pr_0, pr_1, pr_2, pr_3, pr_4, pr_5, pr_6, pr_7, pr_8, pr_9, pr_10]) rfl (HG.out _ ?mid)
  case mid => repeat (first | with_reducible exact HM2.out | refine RMid.set ?_ (by simp) (by simp) _)
set_option maxRecDepth 100000 in
/-- it comes inside -/
theorem rtEnter_in (b : Nat) (r : RY) (f : Nat → Int) (lv : Value) (log : List Acc) (t Pc Ow : Int) (w : World) (h : RB w b r f lv log) (hV : r.V = 5) (hk : isK r ((r.n + 1 : Nat) : Int) 1 = true) (hc : r.n + 1 < r.m) (hl : log.length ≤ 1000) (hm : r.m ≤ 1000) (hP : ¬ Pc = 0) (hS : f (r.n + 1) = Ow) :
    Calls Tryz.prog 68 #[.pointer (some ⟨b, 0, none⟩), .int .i64 t, (.agg #[.int .i64 0, .int .i64 0, .int .i64 0, .int .i64 Pc, .int .i64 0, .int .i64 0, .int .u64 0, .int .u64 0, .int .u64 0, .int .u64 Ow, .slice none 0 0])] w (REnterDoes b r lv f (log ++ [⟨t, 1, (r.n + 1 : Nat), f (r.n + 1), f (r.n + 1)⟩]) true 2 Ow w) := by
  have CH := Lib.hid (fun w' (hx : Ext w w') => rtHas b r f lv log w' (h.ext hx))
  rw [show (r.V == 5) = true by simpa using hV] at CH
  have CT := Lib.hid (fun w' (hx : Ext w w') => rtTicket b r f lv log w' (h.ext hx))
  have CA := Lib.hid (fun w' (hx : Ext w w') => rLoad_yes b r f lv log t (r.n + 1) w' (h.ext hx) hk hc hl)
  have HG : Hid (∀ w', RMid b r lv f (log ++ [⟨t, 1, (r.n + 1 : Nat), f (r.n + 1), f (r.n + 1)⟩]) w w' → REnterDoes b r lv f (log ++ [⟨t, 1, (r.n + 1 : Nat), f (r.n + 1), f (r.n + 1)⟩]) true 2 Ow w (.returned (.tuple #[(.agg #[.int .i64 0, .int .i64 0, .int .i64 0, .int .i64 2, .int .i64 0, .int .i64 0, .int .u64 0, .int .u64 0, .int .u64 0, .int .u64 Ow, .slice none 0 0]), .bool true])) w') := Lib.hid (fun w' hm => ⟨rfl, hm.does (v := undef)⟩)
  have HM := Lib.hid (fun lv' w1 w2 (hx : Ext w w1) hs hR hN hA => rmid_of (f' := f) (lv' := lv') (log' := log ++ [⟨t, 1, (r.n + 1 : Nat), f (r.n + 1), f (r.n + 1)⟩]) (w1 := w1) (w2 := w2) h hx hs hR hN hA)
  have hP0 : (Pc == 0) = false := by simpa using hP
  have hSB : (f (r.n + 1) == Ow) = true := by simpa using hS
  generalize REnterDoes b r lv f (log ++ [⟨t, 1, (r.n + 1 : Nat), f (r.n + 1), f (r.n + 1)⟩]) true 2 Ow w = G at *
  generalize f (r.n + 1) = x at *
  have hlt := fun k (hk : Own b r.gh lv k) => h.lt hk
  have hn0 : (0 : Int) ≤ (r.n : Int) := by omega
  have hn3 : (r.n : Int) + 1 < 1000 := by omega
  have hn4 : (0 : Int) ≤ (r.n : Int) + 1 := by omega
  have hwr : IntKind.i64.wrap ((r.n : Int) + 1) = (r.n : Int) + 1 := wrapS (by omega) (by omega)
  clear h hV hk hl hP hS
  go_enter Tryz.func68, Tryz.ntmps68
  go_wp2_with fail
  refine (CH.out _ (by repeat (first | with_reducible exact Ext.refl _ | with_reducible assumption | with_reducible refine Ext.alloc ?_ _ | with_reducible refine Ext.drew ?_ | with_reducible refine Ext.drewN ?_ _ | with_reducible refine Ext.setCell ?_ (by simp <;> omega) _ | with_reducible refine Ext.trans ?_ (by assumption)))).mono ?_
  rintro e w' ⟨rfl, rfl⟩
  go_upto_region 7 with (fail)
  refine settle_wp ?_
  intro w1 hb1
  have qa_0 : w1.cell? ⟨w.heap.size, 0, none⟩ = some (.int .i64 0) := (hb1.cells.1 _ _ (by simp <;> omega)).trans (by simp [go_sem])
  have za_0 : w1.frozen? ⟨w.heap.size, 0, none⟩ = false := (hb1.cells.2 _ _ (by simp <;> omega)).trans (by simp [go_sem])
  have qa_1 : w1.cell? ⟨w.heap.size, 1, none⟩ = some (.int .i64 0) := (hb1.cells.1 _ _ (by simp <;> omega)).trans (by simp [go_sem])
  have za_1 : w1.frozen? ⟨w.heap.size, 1, none⟩ = false := (hb1.cells.2 _ _ (by simp <;> omega)).trans (by simp [go_sem])
  have qa_2 : w1.cell? ⟨w.heap.size, 2, none⟩ = some (.int .i64 0) := (hb1.cells.1 _ _ (by simp <;> omega)).trans (by simp [go_sem])
  have za_2 : w1.frozen? ⟨w.heap.size, 2, none⟩ = false := (hb1.cells.2 _ _ (by simp <;> omega)).trans (by simp [go_sem])
  have qa_3 : w1.cell? ⟨w.heap.size, 3, none⟩ = some (.int .i64 Pc) := (hb1.cells.1 _ _ (by simp <;> omega)).trans (by simp [go_sem])
  have za_3 : w1.frozen? ⟨w.heap.size, 3, none⟩ = false := (hb1.cells.2 _ _ (by simp <;> omega)).trans (by simp [go_sem])
  have qa_4 : w1.cell? ⟨w.heap.size, 4, none⟩ = some (.int .i64 0) := (hb1.cells.1 _ _ (by simp <;> omega)).trans (by simp [go_sem])
  have za_4 : w1.frozen? ⟨w.heap.size, 4, none⟩ = false := (hb1.cells.2 _ _ (by simp <;> omega)).trans (by simp [go_sem])
  have qa_5 : w1.cell? ⟨w.heap.size, 5, none⟩ = some (.int .i64 0) := (hb1.cells.1 _ _ (by simp <;> omega)).trans (by simp [go_sem])
  have za_5 : w1.frozen? ⟨w.heap.size, 5, none⟩ = false := (hb1.cells.2 _ _ (by simp <;> omega)).trans (by simp [go_sem])
  have qa_6 : w1.cell? ⟨w.heap.size, 6, none⟩ = some (.int .u64 0) := (hb1.cells.1 _ _ (by simp <;> omega)).trans (by simp [go_sem])
  have za_6 : w1.frozen? ⟨w.heap.size, 6, none⟩ = false := (hb1.cells.2 _ _ (by simp <;> omega)).trans (by simp [go_sem])
  have qa_7 : w1.cell? ⟨w.heap.size, 7, none⟩ = some (.int .u64 0) := (hb1.cells.1 _ _ (by simp <;> omega)).trans (by simp [go_sem])
  have za_7 : w1.frozen? ⟨w.heap.size, 7, none⟩ = false := (hb1.cells.2 _ _ (by simp <;> omega)).trans (by simp [go_sem])
  have qa_8 : w1.cell? ⟨w.heap.size, 8, none⟩ = some (.int .u64 0) := (hb1.cells.1 _ _ (by simp <;> omega)).trans (by simp [go_sem])
  have za_8 : w1.frozen? ⟨w.heap.size, 8, none⟩ = false := (hb1.cells.2 _ _ (by simp <;> omega)).trans (by simp [go_sem])
  have qa_9 : w1.cell? ⟨w.heap.size, 9, none⟩ = some (.int .u64 Ow) := (hb1.cells.1 _ _ (by simp <;> omega)).trans (by simp [go_sem])
  have za_9 : w1.frozen? ⟨w.heap.size, 9, none⟩ = false := (hb1.cells.2 _ _ (by simp <;> omega)).trans (by simp [go_sem])
  have qa_10 : w1.cell? ⟨w.heap.size, 10, none⟩ = some (.slice none 0 0) := (hb1.cells.1 _ _ (by simp <;> omega)).trans (by simp [go_sem])
  have za_10 : w1.frozen? ⟨w.heap.size, 10, none⟩ = false := (hb1.cells.2 _ _ (by simp <;> omega)).trans (by simp [go_sem])
  have pa := World.block_lt_of_cell? _ ⟨w.heap.size, 0, none⟩ qa_0
  have ra := Nat.lt_succ_of_lt pa
  have qr_0 : w1.cell? ⟨(w.heap.size + 1), 0, none⟩ = some (.int .i64 0) := (hb1.cells.1 _ _ (by simp <;> omega)).trans (by simp [go_sem])
  have zr_0 : w1.frozen? ⟨(w.heap.size + 1), 0, none⟩ = false := (hb1.cells.2 _ _ (by simp <;> omega)).trans (by simp [go_sem])
  have qr_1 : w1.cell? ⟨(w.heap.size + 1), 1, none⟩ = some (.int .i64 0) := (hb1.cells.1 _ _ (by simp <;> omega)).trans (by simp [go_sem])
  have zr_1 : w1.frozen? ⟨(w.heap.size + 1), 1, none⟩ = false := (hb1.cells.2 _ _ (by simp <;> omega)).trans (by simp [go_sem])
  have qr_2 : w1.cell? ⟨(w.heap.size + 1), 2, none⟩ = some (.int .i64 0) := (hb1.cells.1 _ _ (by simp <;> omega)).trans (by simp [go_sem])
  have zr_2 : w1.frozen? ⟨(w.heap.size + 1), 2, none⟩ = false := (hb1.cells.2 _ _ (by simp <;> omega)).trans (by simp [go_sem])
  have qr_3 : w1.cell? ⟨(w.heap.size + 1), 3, none⟩ = some (.int .i64 0) := (hb1.cells.1 _ _ (by simp <;> omega)).trans (by simp [go_sem])
  have zr_3 : w1.frozen? ⟨(w.heap.size + 1), 3, none⟩ = false := (hb1.cells.2 _ _ (by simp <;> omega)).trans (by simp [go_sem])
  have qr_4 : w1.cell? ⟨(w.heap.size + 1), 4, none⟩ = some (.int .i64 0) := (hb1.cells.1 _ _ (by simp <;> omega)).trans (by simp [go_sem])
  have zr_4 : w1.frozen? ⟨(w.heap.size + 1), 4, none⟩ = false := (hb1.cells.2 _ _ (by simp <;> omega)).trans (by simp [go_sem])
  have qr_5 : w1.cell? ⟨(w.heap.size + 1), 5, none⟩ = some (.int .i64 0) := (hb1.cells.1 _ _ (by simp <;> omega)).trans (by simp [go_sem])
  have zr_5 : w1.frozen? ⟨(w.heap.size + 1), 5, none⟩ = false := (hb1.cells.2 _ _ (by simp <;> omega)).trans (by simp [go_sem])
  have qr_6 : w1.cell? ⟨(w.heap.size + 1), 6, none⟩ = some (.int .u64 0) := (hb1.cells.1 _ _ (by simp <;> omega)).trans (by simp [go_sem])
  have zr_6 : w1.frozen? ⟨(w.heap.size + 1), 6, none⟩ = false := (hb1.cells.2 _ _ (by simp <;> omega)).trans (by simp [go_sem])
  have qr_7 : w1.cell? ⟨(w.heap.size + 1), 7, none⟩ = some (.int .u64 0) := (hb1.cells.1 _ _ (by simp <;> omega)).trans (by simp [go_sem])
  have zr_7 : w1.frozen? ⟨(w.heap.size + 1), 7, none⟩ = false := (hb1.cells.2 _ _ (by simp <;> omega)).trans (by simp [go_sem])
  have qr_8 : w1.cell? ⟨(w.heap.size + 1), 8, none⟩ = some (.int .u64 0) := (hb1.cells.1 _ _ (by simp <;> omega)).trans (by simp [go_sem])
  have zr_8 : w1.frozen? ⟨(w.heap.size + 1), 8, none⟩ = false := (hb1.cells.2 _ _ (by simp <;> omega)).trans (by simp [go_sem])
  have qr_9 : w1.cell? ⟨(w.heap.size + 1), 9, none⟩ = some (.int .u64 0) := (hb1.cells.1 _ _ (by simp <;> omega)).trans (by simp [go_sem])
  have zr_9 : w1.frozen? ⟨(w.heap.size + 1), 9, none⟩ = false := (hb1.cells.2 _ _ (by simp <;> omega)).trans (by simp [go_sem])
  have qr_10 : w1.cell? ⟨(w.heap.size + 1), 10, none⟩ = some (.slice none 0 0) := (hb1.cells.1 _ _ (by simp <;> omega)).trans (by simp [go_sem])
  have zr_10 : w1.frozen? ⟨(w.heap.size + 1), 10, none⟩ = false := (hb1.cells.2 _ _ (by simp <;> omega)).trans (by simp [go_sem])
  have pr := World.block_lt_of_cell? _ ⟨(w.heap.size + 1), 0, none⟩ qr_0
  have rr := Nat.lt_succ_of_lt pr
  have XE : Ext w w1 := Ext.trans (Ext.alloc (Ext.alloc (Ext.refl w) _) _) hb1
  have hs1 : w.heap.size + 2 ≤ w1.heap.size := by have h1 := hb1.size; simp at h1; omega
  have na : ¬ Own b r.gh lv w.heap.size := fun hk => by have := hlt _ hk; omega
  have nr : ¬ Own b r.gh lv (w.heap.size + 1) := fun hk => by have := hlt _ hk; omega
  clear hb1
  refine wp_region_held_drew (S := (fun w' => But (Own b r.gh lv) w1 w')) (by kernel_rfl) ?hbeg (fun hHeld => ?_)
  case hbeg => exact ((Ext.refl w1).drew).but _
  have k9 := fun w' (hx : But (Own b r.gh lv) w1 w') => hx.cell qa_9 na
  first
    | (refine take_at (i := 0) (v := ?_) rfl rfl (by kernel_rfl) (by kernel_rfl) (by kernel_rfl) (fun _ _ _ h => h) (Or.inl ⟨by rfl, ?hy⟩) (by assumption) ?_
       case hy => (intro wz hSw; (try dsimp only at hSw); go_simp <;> with_reducible rfl)
       simp only [List.setIfInBounds_toArray, List.set_cons_zero, List.set_cons_succ])
    | (refine take_at (i := 0) (v := undef) rfl rfl (by kernel_rfl) (by kernel_rfl) (by kernel_rfl) (fun _ _ _ h => h) (Or.inr ⟨by rfl, rfl⟩) (by assumption) ?_
       simp only [List.setIfInBounds_toArray, List.set_cons_zero, List.set_cons_succ])
  first
    | (refine take_at (i := 1) (v := ?_) rfl rfl (by kernel_rfl) (by kernel_rfl) (by kernel_rfl) (fun _ _ _ h => h) (Or.inl ⟨by rfl, ?hy⟩) (by assumption) ?_
       case hy => (intro wz hSw; (try dsimp only at hSw); go_simp <;> with_reducible rfl)
       simp only [List.setIfInBounds_toArray, List.set_cons_zero, List.set_cons_succ])
    | (refine take_at (i := 1) (v := undef) rfl rfl (by kernel_rfl) (by kernel_rfl) (by kernel_rfl) (fun _ _ _ h => h) (Or.inr ⟨by rfl, rfl⟩) (by assumption) ?_
       simp only [List.setIfInBounds_toArray, List.set_cons_zero, List.set_cons_succ])
  first
    | (refine take_at (i := 2) (v := ?_) rfl rfl (by kernel_rfl) (by kernel_rfl) (by kernel_rfl) (fun _ _ _ h => h) (Or.inl ⟨by rfl, ?hy⟩) (by assumption) ?_
       case hy => (intro wz hSw; (try dsimp only at hSw); go_simp <;> with_reducible rfl)
       simp only [List.setIfInBounds_toArray, List.set_cons_zero, List.set_cons_succ])
    | (refine take_at (i := 2) (v := undef) rfl rfl (by kernel_rfl) (by kernel_rfl) (by kernel_rfl) (fun _ _ _ h => h) (Or.inr ⟨by rfl, rfl⟩) (by assumption) ?_
       simp only [List.setIfInBounds_toArray, List.set_cons_zero, List.set_cons_succ])
  first
    | (refine take_at (i := 6) (v := ?_) rfl rfl (by kernel_rfl) (by kernel_rfl) (by kernel_rfl) (fun _ _ _ h => h) (Or.inl ⟨by rfl, ?hy⟩) (by assumption) ?_
       case hy => (intro wz hSw; (try dsimp only at hSw); go_simp <;> with_reducible rfl)
       simp only [List.setIfInBounds_toArray, List.set_cons_zero, List.set_cons_succ])
    | (refine take_at (i := 6) (v := undef) rfl rfl (by kernel_rfl) (by kernel_rfl) (by kernel_rfl) (fun _ _ _ h => h) (Or.inr ⟨by rfl, rfl⟩) (by assumption) ?_
       simp only [List.setIfInBounds_toArray, List.set_cons_zero, List.set_cons_succ])
  first
    | (refine take_at (i := 7) (v := ?_) rfl rfl (by kernel_rfl) (by kernel_rfl) (by kernel_rfl) (fun _ _ _ h => h) (Or.inl ⟨by rfl, ?hy⟩) (by assumption) ?_
       case hy => (intro wz hSw; (try dsimp only at hSw); go_simp <;> with_reducible rfl)
       simp only [List.setIfInBounds_toArray, List.set_cons_zero, List.set_cons_succ])
    | (refine take_at (i := 7) (v := undef) rfl rfl (by kernel_rfl) (by kernel_rfl) (by kernel_rfl) (fun _ _ _ h => h) (Or.inr ⟨by rfl, rfl⟩) (by assumption) ?_
       simp only [List.setIfInBounds_toArray, List.set_cons_zero, List.set_cons_succ])
  refine call_at (i := 3) (F := 115) (CT.out _ (XE.trans (Ext.refl w1).drew)) rfl rfl (by kernel_rfl) (by rfl) (by first | rfl | (go_simp <;> rfl)) ?_
  rintro e w' ⟨rfl, rfl⟩
  refine ⟨_, rfl, by assumption, ?_⟩
  simp only [List.setIfInBounds_toArray, List.set_cons_zero, List.set_cons_succ]
  first
    | (refine take_at (i := 4) (v := ?_) rfl rfl (by kernel_rfl) (by kernel_rfl) (by kernel_rfl) (fun _ _ _ h => h) (Or.inl ⟨by rfl, ?hy⟩) (by assumption) ?_
       case hy => (intro wz hSw; (try dsimp only at hSw); go_simp <;> with_reducible rfl)
       simp only [List.setIfInBounds_toArray, List.set_cons_zero, List.set_cons_succ])
    | (refine take_at (i := 4) (v := undef) rfl rfl (by kernel_rfl) (by kernel_rfl) (by kernel_rfl) (fun _ _ _ h => h) (Or.inr ⟨by rfl, rfl⟩) (by assumption) ?_
       simp only [List.setIfInBounds_toArray, List.set_cons_zero, List.set_cons_succ])
  refine call_at (i := 5) (F := 91) (CA.out _ (XE.trans (Ext.refl w1).drew)) rfl rfl (by kernel_rfl) (by rfl) (by first | rfl | (go_simp <;> rfl)) ?_
  rintro e w2 ⟨rfl, lv2, R2, N2, A2⟩
  replace hHeld := hHeld.trans N2
  refine ⟨_, rfl, hHeld, ?_⟩
  simp only [List.setIfInBounds_toArray, List.set_cons_zero, List.set_cons_succ]
  first
    | (refine take_at (i := 8) (v := ?_) rfl rfl (by kernel_rfl) (by kernel_rfl) (by kernel_rfl) (fun _ _ _ h => h) (Or.inl ⟨by rfl, ?hy⟩) (by assumption) ?_
       case hy => (intro wz hSw; (try dsimp only at hSw); go_simp <;> with_reducible rfl)
       simp only [List.setIfInBounds_toArray, List.set_cons_zero, List.set_cons_succ])
    | (refine take_at (i := 8) (v := undef) rfl rfl (by kernel_rfl) (by kernel_rfl) (by kernel_rfl) (fun _ _ _ h => h) (Or.inr ⟨by rfl, rfl⟩) (by assumption) ?_
       simp only [List.setIfInBounds_toArray, List.set_cons_zero, List.set_cons_succ])
  refine wpAnyH_done (by kernel_rfl) ?_ _
  have HM2 := Lib.hid (HM.out lv2 _ w2 (XE.trans (Ext.refl w1).drew) hs1 R2 N2 A2)
  replace za_0 := hHeld.frozen qa_0 za_0 na
  replace qa_0 := hHeld.cell qa_0 na
  replace za_1 := hHeld.frozen qa_1 za_1 na
  replace qa_1 := hHeld.cell qa_1 na
  replace za_2 := hHeld.frozen qa_2 za_2 na
  replace qa_2 := hHeld.cell qa_2 na
  replace za_3 := hHeld.frozen qa_3 za_3 na
  replace qa_3 := hHeld.cell qa_3 na
  replace za_4 := hHeld.frozen qa_4 za_4 na
  replace qa_4 := hHeld.cell qa_4 na
  replace za_5 := hHeld.frozen qa_5 za_5 na
  replace qa_5 := hHeld.cell qa_5 na
  replace za_6 := hHeld.frozen qa_6 za_6 na
  replace qa_6 := hHeld.cell qa_6 na
  replace za_7 := hHeld.frozen qa_7 za_7 na
  replace qa_7 := hHeld.cell qa_7 na
  replace za_8 := hHeld.frozen qa_8 za_8 na
  replace qa_8 := hHeld.cell qa_8 na
  replace za_9 := hHeld.frozen qa_9 za_9 na
  replace qa_9 := hHeld.cell qa_9 na
  replace za_10 := hHeld.frozen qa_10 za_10 na
  replace qa_10 := hHeld.cell qa_10 na
  replace zr_0 := hHeld.frozen qr_0 zr_0 nr
  replace qr_0 := hHeld.cell qr_0 nr
  replace zr_1 := hHeld.frozen qr_1 zr_1 nr
  replace qr_1 := hHeld.cell qr_1 nr
  replace zr_2 := hHeld.frozen qr_2 zr_2 nr
  replace qr_2 := hHeld.cell qr_2 nr
  replace zr_3 := hHeld.frozen qr_3 zr_3 nr
  replace qr_3 := hHeld.cell qr_3 nr
  replace zr_4 := hHeld.frozen qr_4 zr_4 nr
  replace qr_4 := hHeld.cell qr_4 nr
  replace zr_5 := hHeld.frozen qr_5 zr_5 nr
  replace qr_5 := hHeld.cell qr_5 nr
  replace zr_6 := hHeld.frozen qr_6 zr_6 nr
  replace qr_6 := hHeld.cell qr_6 nr
  replace zr_7 := hHeld.frozen qr_7 zr_7 nr
  replace qr_7 := hHeld.cell qr_7 nr
  replace zr_8 := hHeld.frozen qr_8 zr_8 nr
  replace qr_8 := hHeld.cell qr_8 nr
  replace zr_9 := hHeld.frozen qr_9 zr_9 nr
  replace qr_9 := hHeld.cell qr_9 nr
  replace zr_10 := hHeld.frozen qr_10 zr_10 nr
  replace qr_10 := hHeld.cell qr_10 nr
  clear R2 N2 A2 XE k9 hHeld
  go_upto_region 9 with (fail)
  replace HM2 := Lib.hid (HM2.out.set (p := ⟨w.heap.size, 3, none⟩) (by simp) (by simp) (.int .i64 2))
  refine settle_wp ?_
  intro w5 hb5
  replace HM2 := Lib.hid (HM2.out.ext hb5)
  have pa_0 : w5.cell? ⟨w.heap.size, 0, none⟩ = some (.int .i64 0) := hb5.cell (by simp (maxDischargeDepth := 40) [go_sem, set_some, set_same, qa_0, qa_3])
  have pa_1 : w5.cell? ⟨w.heap.size, 1, none⟩ = some (.int .i64 0) := hb5.cell (by simp (maxDischargeDepth := 40) [go_sem, set_some, set_same, qa_1, qa_3])
  have pa_2 : w5.cell? ⟨w.heap.size, 2, none⟩ = some (.int .i64 0) := hb5.cell (by simp (maxDischargeDepth := 40) [go_sem, set_some, set_same, qa_2, qa_3])
  have pa_3 : w5.cell? ⟨w.heap.size, 3, none⟩ = some (.int .i64 2) := hb5.cell (by simp (maxDischargeDepth := 40) [go_sem, set_some, set_same, qa_3, qa_3])
  have pa_4 : w5.cell? ⟨w.heap.size, 4, none⟩ = some (.int .i64 0) := hb5.cell (by simp (maxDischargeDepth := 40) [go_sem, set_some, set_same, qa_4, qa_3])
  have pa_5 : w5.cell? ⟨w.heap.size, 5, none⟩ = some (.int .i64 0) := hb5.cell (by simp (maxDischargeDepth := 40) [go_sem, set_some, set_same, qa_5, qa_3])
  have pa_6 : w5.cell? ⟨w.heap.size, 6, none⟩ = some (.int .u64 0) := hb5.cell (by simp (maxDischargeDepth := 40) [go_sem, set_some, set_same, qa_6, qa_3])
  have pa_7 : w5.cell? ⟨w.heap.size, 7, none⟩ = some (.int .u64 0) := hb5.cell (by simp (maxDischargeDepth := 40) [go_sem, set_some, set_same, qa_7, qa_3])
  have pa_8 : w5.cell? ⟨w.heap.size, 8, none⟩ = some (.int .u64 0) := hb5.cell (by simp (maxDischargeDepth := 40) [go_sem, set_some, set_same, qa_8, qa_3])
  have pa_9 : w5.cell? ⟨w.heap.size, 9, none⟩ = some (.int .u64 Ow) := hb5.cell (by simp (maxDischargeDepth := 40) [go_sem, set_some, set_same, qa_9, qa_3])
  have pa_10 : w5.cell? ⟨w.heap.size, 10, none⟩ = some (.slice none 0 0) := hb5.cell (by simp (maxDischargeDepth := 40) [go_sem, set_some, set_same, qa_10, qa_3])
  have pr_0 : w5.cell? ⟨w.heap.size + 1, 0, none⟩ = some (.int .i64 0) := hb5.cell (by simp [go_sem, qr_0])
  have vr_0 : w5.frozen? ⟨w.heap.size + 1, 0, none⟩ = false := hb5.frozen (v := .int .i64 0) (by simp [go_sem, qr_0]) (by simp [go_sem, zr_0])
  have pr_1 : w5.cell? ⟨w.heap.size + 1, 1, none⟩ = some (.int .i64 0) := hb5.cell (by simp [go_sem, qr_1])
  have vr_1 : w5.frozen? ⟨w.heap.size + 1, 1, none⟩ = false := hb5.frozen (v := .int .i64 0) (by simp [go_sem, qr_1]) (by simp [go_sem, zr_1])
  have pr_2 : w5.cell? ⟨w.heap.size + 1, 2, none⟩ = some (.int .i64 0) := hb5.cell (by simp [go_sem, qr_2])
  have vr_2 : w5.frozen? ⟨w.heap.size + 1, 2, none⟩ = false := hb5.frozen (v := .int .i64 0) (by simp [go_sem, qr_2]) (by simp [go_sem, zr_2])
  have pr_3 : w5.cell? ⟨w.heap.size + 1, 3, none⟩ = some (.int .i64 0) := hb5.cell (by simp [go_sem, qr_3])
  have vr_3 : w5.frozen? ⟨w.heap.size + 1, 3, none⟩ = false := hb5.frozen (v := .int .i64 0) (by simp [go_sem, qr_3]) (by simp [go_sem, zr_3])
  have pr_4 : w5.cell? ⟨w.heap.size + 1, 4, none⟩ = some (.int .i64 0) := hb5.cell (by simp [go_sem, qr_4])
  have vr_4 : w5.frozen? ⟨w.heap.size + 1, 4, none⟩ = false := hb5.frozen (v := .int .i64 0) (by simp [go_sem, qr_4]) (by simp [go_sem, zr_4])
  have pr_5 : w5.cell? ⟨w.heap.size + 1, 5, none⟩ = some (.int .i64 0) := hb5.cell (by simp [go_sem, qr_5])
  have vr_5 : w5.frozen? ⟨w.heap.size + 1, 5, none⟩ = false := hb5.frozen (v := .int .i64 0) (by simp [go_sem, qr_5]) (by simp [go_sem, zr_5])
  have pr_6 : w5.cell? ⟨w.heap.size + 1, 6, none⟩ = some (.int .u64 0) := hb5.cell (by simp [go_sem, qr_6])
  have vr_6 : w5.frozen? ⟨w.heap.size + 1, 6, none⟩ = false := hb5.frozen (v := .int .u64 0) (by simp [go_sem, qr_6]) (by simp [go_sem, zr_6])
  have pr_7 : w5.cell? ⟨w.heap.size + 1, 7, none⟩ = some (.int .u64 0) := hb5.cell (by simp [go_sem, qr_7])
  have vr_7 : w5.frozen? ⟨w.heap.size + 1, 7, none⟩ = false := hb5.frozen (v := .int .u64 0) (by simp [go_sem, qr_7]) (by simp [go_sem, zr_7])
  have pr_8 : w5.cell? ⟨w.heap.size + 1, 8, none⟩ = some (.int .u64 0) := hb5.cell (by simp [go_sem, qr_8])
  have vr_8 : w5.frozen? ⟨w.heap.size + 1, 8, none⟩ = false := hb5.frozen (v := .int .u64 0) (by simp [go_sem, qr_8]) (by simp [go_sem, zr_8])
  have pr_9 : w5.cell? ⟨w.heap.size + 1, 9, none⟩ = some (.int .u64 0) := hb5.cell (by simp [go_sem, qr_9])
  have vr_9 : w5.frozen? ⟨w.heap.size + 1, 9, none⟩ = false := hb5.frozen (v := .int .u64 0) (by simp [go_sem, qr_9]) (by simp [go_sem, zr_9])
  have pr_10 : w5.cell? ⟨w.heap.size + 1, 10, none⟩ = some (.slice none 0 0) := hb5.cell (by simp [go_sem, qr_10])
  have vr_10 : w5.frozen? ⟨w.heap.size + 1, 10, none⟩ = false := hb5.frozen (v := .slice none 0 0) (by simp [go_sem, qr_10]) (by simp [go_sem, zr_10])
  clear hb5 qa_0 za_0 qa_1 za_1 qa_2 za_2 qa_3 za_3 qa_4 za_4 qa_5 za_5 qa_6 za_6 qa_7 za_7 qa_8 za_8 qa_9 za_9 qa_10 za_10 qr_0 zr_0 qr_1 zr_1 qr_2 zr_2 qr_3 zr_3 qr_4 zr_4 qr_5 zr_5 qr_6 zr_6 qr_7 zr_7 qr_8 zr_8 qr_9 zr_9 qr_10 zr_10
  go_wp2
  refine bodyPost_ret (v := .tuple #[(.agg #[.int .i64 0, .int .i64 0, .int .i64 0, .int .i64 2, .int .i64 0, .int .i64 0, .int .u64 0, .int .u64 0, .int .u64 0, .int .u64 Ow, .slice none 0 0]), .bool true]) (by simp [results, Tryz.results68, go_sem, pr_0, pr_1, pr_2, pr_3, pr_4, pr_5, pr_6, pr_7, pr_8, pr_9, pr_10]) rfl (HG.out _ ?mid)
  case mid => repeat (first | with_reducible exact HM2.out | refine RMid.set ?_ (by simp) (by simp) _)
def RLeaveDoes (b : Nat) (r : RY) (lv : Value) (f' : Nat → Int) (log' : List Acc) (w : World) (e : Ending) (w' : World) : Prop :=
  e = .returned (.tuple #[]) ∧ ∃ lv', RB w' b r f' lv' log' ∧ But (Own b r.gh lv) w w' ∧ (lv'.ownBlock = lv.ownBlock ∨ ∃ j, lv'.ownBlock = some j ∧ w.heap.size ≤ j)
theorem rtLeave_no (b : Nat) (r : RY) (f : Nat → Int) (lv : Value) (log : List Acc) (t : Int) (w : World) (h : RB w b r f lv log) (hV : ¬ r.V = 5) : Calls Tryz.prog 67 #[.pointer (some ⟨b, 0, none⟩), .int .i64 t] w (VoidX w) := by
  have CH := Lib.hid (rtHas b r f lv log w h)
  rw [show (r.V == 5) = false by simpa using hV] at CH
  have HG : Hid (VoidX w (.returned (.tuple #[])) w) := Lib.hid ⟨rfl, Ext.refl w⟩
  generalize VoidX w = G at *
  clear h hV
  go_enter Tryz.func67, Tryz.ntmps67
  go_wp2_with fail
  refine (CH.out).mono ?_
  rintro e w' ⟨rfl, rfl⟩
  go_wp2
  refine bodyPost_ret (v := .tuple #[]) (by simp [results, Tryz.results67, go_sem]) rfl ?_
  exact HG.out
theorem rtLeave_yes (b : Nat) (r : RY) (f : Nat → Int) (lv : Value) (log : List Acc) (t : Int) (w : World) (h : RB w b r f lv log) (hV : r.V = 5) (hk : isK r ((r.n + 1 : Nat) : Int) 1 = true) (hc : r.n + 1 < r.m) (hl : log.length ≤ 1000) (hm : r.m ≤ 1000) (hW : r.W = 32 ∨ r.W = 64) : Calls Tryz.prog 67 #[.pointer (some ⟨b, 0, none⟩), .int .i64 t] w (RLeaveDoes b r lv (upd f (r.n + 1) (plusW r.W (f (r.n + 1)) 1)) (log ++ [⟨t, 3, (r.n + 1 : Nat), f (r.n + 1), plusW r.W (f (r.n + 1)) 1⟩]) w) := by
  have CH := Lib.hid (rtHas b r f lv log w h)
  rw [show (r.V == 5) = true by simpa using hV] at CH
  have CT := Lib.hid (rtTicket b r f lv log w h)
  have CA := Lib.hid (rAdd_yes b r f lv log t 1 (r.n + 1) w h hk hc hl hW)
  have HG : Hid (∀ lv' w', RB w' b r (upd f (r.n + 1) (plusW r.W (f (r.n + 1)) 1)) lv' (log ++ [⟨t, 3, (r.n + 1 : Nat), f (r.n + 1), plusW r.W (f (r.n + 1)) 1⟩]) → But (Own b r.gh lv) w w' → (lv'.ownBlock = lv.ownBlock ∨ ∃ j, lv'.ownBlock = some j ∧ w.heap.size ≤ j) → RLeaveDoes b r lv (upd f (r.n + 1) (plusW r.W (f (r.n + 1)) 1)) (log ++ [⟨t, 3, (r.n + 1 : Nat), f (r.n + 1), plusW r.W (f (r.n + 1)) 1⟩]) w (.returned (.tuple #[])) w') := Lib.hid (fun lv' w' h1 h2 h3 => ⟨rfl, lv', h1, h2, h3⟩)
  generalize RLeaveDoes b r lv (upd f (r.n + 1) (plusW r.W (f (r.n + 1)) 1)) (log ++ [⟨t, 3, (r.n + 1 : Nat), f (r.n + 1), plusW r.W (f (r.n + 1)) 1⟩]) w = G at *
  generalize plusW r.W (f (r.n + 1)) 1 = z at *
  have hn0 : (0 : Int) ≤ (r.n : Int) := by omega
  have hn3 : (r.n : Int) + 1 < 1000 := by omega
  have hn4 : (0 : Int) ≤ (r.n : Int) + 1 := by omega
  have hwr : IntKind.i64.wrap ((r.n : Int) + 1) = (r.n : Int) + 1 := wrapS (by omega) (by omega)
  clear h hV hk hl hW
  go_enter Tryz.func67, Tryz.ntmps67
  go_wp2_with fail
  refine (CH.out).mono ?_
  rintro e w' ⟨rfl, rfl⟩
  go_wp2_with fail
  refine (CT.out).mono ?_
  rintro e w' ⟨rfl, rfl⟩
  go_wp2_with fail
  refine CA.out.mono ?_
  rintro e w2 ⟨rfl, lv2, R2, N2, A2⟩
  have HR := Lib.hid (HG.out lv2 w2 R2 N2 A2)
  clear R2 N2 A2
  go_wp2
  refine bodyPost_ret (v := .tuple #[]) (by simp [results, Tryz.results67, go_sem]) rfl ?_
  exact HR.out
theorem rtWaiting_no (b : Nat) (r : RY) (f : Nat → Int) (lv : Value) (log : List Acc) (w : World) (h : RB w b r f lv log) (hV : ¬ r.V = 5) : Calls Tryz.prog 69 #[.pointer (some ⟨b, 0, none⟩)] w fun e w' => e = .returned (.int .i64 0) ∧ Ext w w' := by
  have CH := Lib.hid (rtHas b r f lv log w h)
  rw [show (r.V == 5) = false by simpa using hV] at CH
  clear h hV
  go_enter Tryz.func69, Tryz.ntmps69
  go_wp2_with fail
  refine (CH.out).mono ?_
  rintro e w' ⟨rfl, rfl⟩
  go_wp2
  go_ret
  exact ⟨rfl, Ext.refl _⟩
set_option maxRecDepth 100000 in
theorem rtWaiting_32 (b : Nat) (r : RY) (f : Nat → Int) (lv : Value) (log : List Acc) (w : World) (h : RB w b r f lv log) (hV : r.V = 5) (hc : r.n + 1 < r.m) (hm : r.m ≤ 1000) (hW : r.W = 32) (f0 : 0 ≤ f r.n) (f1 : 0 ≤ f (r.n + 1)) : Calls Tryz.prog 69 #[.pointer (some ⟨b, 0, none⟩)] w fun e w' => e = .returned (.int .i64 (D32 (f r.n - f (r.n + 1)))) ∧ Ext w w' := by
  have CH := Lib.hid (rtHas b r f lv log w h)
  rw [show (r.V == 5) = true by simpa using hV] at CH
  have CT := Lib.hid (rtTicket b r f lv log w h)
  have q1 := h.q1
  rw [hW] at q1
  have q7 := h.q7
  have c1 := h.va.c r.n (by omega)
  have c2 := h.va.c (r.n + 1) hc
  try dsimp only at c1 c2
  have CG : Hid (∀ w', Calls Tryz.prog 92 #[.int .i64 32, .int .u64 (f r.n), .int .u64 (f (r.n + 1))] w' fun e w'' => e = .returned (.int .i64 (D32 (f r.n - f (r.n + 1)))) ∧ w' = w'') := Lib.hid (fun w' => by first | exact rGap_32 _ _ w' f0 f1 | exact rGap_32 _ _ w')
  generalize f r.n = x1 at *
  generalize f (r.n + 1) = x2 at *
  have hn0 : (0 : Int) ≤ (r.n : Int) := by omega
  have hn1 : (r.n : Int) < (r.m : Int) := by omega
  have hn2 : (r.n : Int) + 1 < (r.m : Int) := by omega
  have hn3 : (r.n : Int) + 1 < 1000 := by omega
  have hn4 : (0 : Int) ≤ (r.n : Int) + 1 := by omega
  have hwr : IntKind.i64.wrap ((r.n : Int) + 1) = (r.n : Int) + 1 := wrapS (by omega) (by omega)
  generalize D32 (x1 - x2) = z at *
  clear h hV hW f0 f1
  go_enter Tryz.func69, Tryz.ntmps69
  go_wp2_with fail
  refine (CH.out).mono ?_
  rintro e w' ⟨rfl, rfl⟩
  go_wp2_with fail
  refine (CT.out).mono ?_
  rintro e w' ⟨rfl, rfl⟩
  go_upto_region 4 with (fail)
  refine wp_region_held_drew (S := fun w' => Ext w w') (by kernel_rfl) ?hbeg (fun hHeld => ?_)
  case hbeg => exact (Ext.refl w).drew
  have hHeld0 : Ext w w := by first | exact Ext.refl _ | assumption
  have k1 := fun w' (hx : Ext w w') => hx.cell q1
  have k7 := fun w' (hx : Ext w w') => hx.cell q7
  have kc1 := fun w' (hx : Ext w w') => hx.cell c1
  have kc2 := fun w' (hx : Ext w w') => hx.cell c2
  first
    | (refine take_at (i := 0) (v := ?_) rfl rfl (by kernel_rfl) (by kernel_rfl) (by kernel_rfl) (fun _ _ _ h => h) (Or.inl ⟨by rfl, ?hy⟩) (by assumption) ?_
       case hy => (intro wz hSw; (try dsimp only at hSw); go_simp <;> with_reducible rfl)
       simp only [List.setIfInBounds_toArray, List.set_cons_zero, List.set_cons_succ])
    | (refine take_at (i := 0) (v := undef) rfl rfl (by kernel_rfl) (by kernel_rfl) (by kernel_rfl) (fun _ _ _ h => h) (Or.inr ⟨by rfl, rfl⟩) (by assumption) ?_
       simp only [List.setIfInBounds_toArray, List.set_cons_zero, List.set_cons_succ])
  first
    | (refine take_at (i := 1) (v := ?_) rfl rfl (by kernel_rfl) (by kernel_rfl) (by kernel_rfl) (fun _ _ _ h => h) (Or.inl ⟨by rfl, ?hy⟩) (by assumption) ?_
       case hy => (intro wz hSw; (try dsimp only at hSw); go_simp <;> with_reducible rfl)
       simp only [List.setIfInBounds_toArray, List.set_cons_zero, List.set_cons_succ])
    | (refine take_at (i := 1) (v := undef) rfl rfl (by kernel_rfl) (by kernel_rfl) (by kernel_rfl) (fun _ _ _ h => h) (Or.inr ⟨by rfl, rfl⟩) (by assumption) ?_
       simp only [List.setIfInBounds_toArray, List.set_cons_zero, List.set_cons_succ])
  first
    | (refine take_at (i := 2) (v := ?_) rfl rfl (by kernel_rfl) (by kernel_rfl) (by kernel_rfl) (fun _ _ _ h => h) (Or.inl ⟨by rfl, ?hy⟩) (by assumption) ?_
       case hy => (intro wz hSw; (try dsimp only at hSw); go_simp <;> with_reducible rfl)
       simp only [List.setIfInBounds_toArray, List.set_cons_zero, List.set_cons_succ])
    | (refine take_at (i := 2) (v := undef) rfl rfl (by kernel_rfl) (by kernel_rfl) (by kernel_rfl) (fun _ _ _ h => h) (Or.inr ⟨by rfl, rfl⟩) (by assumption) ?_
       simp only [List.setIfInBounds_toArray, List.set_cons_zero, List.set_cons_succ])
  first
    | (refine take_at (i := 3) (v := ?_) rfl rfl (by kernel_rfl) (by kernel_rfl) (by kernel_rfl) (fun _ _ _ h => h) (Or.inl ⟨by rfl, ?hy⟩) (by assumption) ?_
       case hy => (intro wz hSw; (try dsimp only at hSw); go_simp <;> with_reducible rfl)
       simp only [List.setIfInBounds_toArray, List.set_cons_zero, List.set_cons_succ])
    | (refine take_at (i := 3) (v := undef) rfl rfl (by kernel_rfl) (by kernel_rfl) (by kernel_rfl) (fun _ _ _ h => h) (Or.inr ⟨by rfl, rfl⟩) (by assumption) ?_
       simp only [List.setIfInBounds_toArray, List.set_cons_zero, List.set_cons_succ])
  first
    | (refine take_at (i := 4) (v := ?_) rfl rfl (by kernel_rfl) (by kernel_rfl) (by kernel_rfl) (fun _ _ _ h => h) (Or.inl ⟨by rfl, ?hy⟩) (by assumption) ?_
       case hy => (intro wz hSw; (try dsimp only at hSw); go_simp <;> with_reducible rfl)
       simp only [List.setIfInBounds_toArray, List.set_cons_zero, List.set_cons_succ])
    | (refine take_at (i := 4) (v := undef) rfl rfl (by kernel_rfl) (by kernel_rfl) (by kernel_rfl) (fun _ _ _ h => h) (Or.inr ⟨by rfl, rfl⟩) (by assumption) ?_
       simp only [List.setIfInBounds_toArray, List.set_cons_zero, List.set_cons_succ])
  first
    | (refine take_at (i := 5) (v := ?_) rfl rfl (by kernel_rfl) (by kernel_rfl) (by kernel_rfl) (fun _ _ _ h => h) (Or.inl ⟨by rfl, ?hy⟩) (by assumption) ?_
       case hy => (intro wz hSw; (try dsimp only at hSw); go_simp <;> with_reducible rfl)
       simp only [List.setIfInBounds_toArray, List.set_cons_zero, List.set_cons_succ])
    | (refine take_at (i := 5) (v := undef) rfl rfl (by kernel_rfl) (by kernel_rfl) (by kernel_rfl) (fun _ _ _ h => h) (Or.inr ⟨by rfl, rfl⟩) (by assumption) ?_
       simp only [List.setIfInBounds_toArray, List.set_cons_zero, List.set_cons_succ])
  first
    | (refine take_at (i := 6) (v := ?_) rfl rfl (by kernel_rfl) (by kernel_rfl) (by kernel_rfl) (fun _ _ _ h => h) (Or.inl ⟨by rfl, ?hy⟩) (by assumption) ?_
       case hy => (intro wz hSw; (try dsimp only at hSw); go_simp <;> with_reducible rfl)
       simp only [List.setIfInBounds_toArray, List.set_cons_zero, List.set_cons_succ])
    | (refine take_at (i := 6) (v := undef) rfl rfl (by kernel_rfl) (by kernel_rfl) (by kernel_rfl) (fun _ _ _ h => h) (Or.inr ⟨by rfl, rfl⟩) (by assumption) ?_
       simp only [List.setIfInBounds_toArray, List.set_cons_zero, List.set_cons_succ])
  first
    | (refine take_at (i := 7) (v := ?_) rfl rfl (by kernel_rfl) (by kernel_rfl) (by kernel_rfl) (fun _ _ _ h => h) (Or.inl ⟨by rfl, ?hy⟩) (by assumption) ?_
       case hy => (intro wz hSw; (try dsimp only at hSw); go_simp <;> with_reducible rfl)
       simp only [List.setIfInBounds_toArray, List.set_cons_zero, List.set_cons_succ])
    | (refine take_at (i := 7) (v := undef) rfl rfl (by kernel_rfl) (by kernel_rfl) (by kernel_rfl) (fun _ _ _ h => h) (Or.inr ⟨by rfl, rfl⟩) (by assumption) ?_
       simp only [List.setIfInBounds_toArray, List.set_cons_zero, List.set_cons_succ])
  first
    | (refine take_at (i := 8) (v := ?_) rfl rfl (by kernel_rfl) (by kernel_rfl) (by kernel_rfl) (fun _ _ _ h => h) (Or.inl ⟨by rfl, ?hy⟩) (by assumption) ?_
       case hy => (intro wz hSw; (try dsimp only at hSw); go_simp <;> with_reducible rfl)
       simp only [List.setIfInBounds_toArray, List.set_cons_zero, List.set_cons_succ])
    | (refine take_at (i := 8) (v := undef) rfl rfl (by kernel_rfl) (by kernel_rfl) (by kernel_rfl) (fun _ _ _ h => h) (Or.inr ⟨by rfl, rfl⟩) (by assumption) ?_
       simp only [List.setIfInBounds_toArray, List.set_cons_zero, List.set_cons_succ])
  first
    | (refine take_at (i := 9) (v := ?_) rfl rfl (by kernel_rfl) (by kernel_rfl) (by kernel_rfl) (fun _ _ _ h => h) (Or.inl ⟨by rfl, ?hy⟩) (by assumption) ?_
       case hy => (intro wz hSw; (try dsimp only at hSw); go_simp <;> with_reducible rfl)
       simp only [List.setIfInBounds_toArray, List.set_cons_zero, List.set_cons_succ])
    | (refine take_at (i := 9) (v := undef) rfl rfl (by kernel_rfl) (by kernel_rfl) (by kernel_rfl) (fun _ _ _ h => h) (Or.inr ⟨by rfl, rfl⟩) (by assumption) ?_
       simp only [List.setIfInBounds_toArray, List.set_cons_zero, List.set_cons_succ])
  first
    | (refine take_at (i := 10) (v := ?_) rfl rfl (by kernel_rfl) (by kernel_rfl) (by kernel_rfl) (fun _ _ _ h => h) (Or.inl ⟨by rfl, ?hy⟩) (by assumption) ?_
       case hy => (intro wz hSw; (try dsimp only at hSw); go_simp <;> with_reducible rfl)
       simp only [List.setIfInBounds_toArray, List.set_cons_zero, List.set_cons_succ])
    | (refine take_at (i := 10) (v := undef) rfl rfl (by kernel_rfl) (by kernel_rfl) (by kernel_rfl) (fun _ _ _ h => h) (Or.inr ⟨by rfl, rfl⟩) (by assumption) ?_
       simp only [List.setIfInBounds_toArray, List.set_cons_zero, List.set_cons_succ])
  first
    | (refine take_at (i := 11) (v := ?_) rfl rfl (by kernel_rfl) (by kernel_rfl) (by kernel_rfl) (fun _ _ _ h => h) (Or.inl ⟨by rfl, ?hy⟩) (by assumption) ?_
       case hy => (intro wz hSw; (try dsimp only at hSw); go_simp <;> with_reducible rfl)
       simp only [List.setIfInBounds_toArray, List.set_cons_zero, List.set_cons_succ])
    | (refine take_at (i := 11) (v := undef) rfl rfl (by kernel_rfl) (by kernel_rfl) (by kernel_rfl) (fun _ _ _ h => h) (Or.inr ⟨by rfl, rfl⟩) (by assumption) ?_
       simp only [List.setIfInBounds_toArray, List.set_cons_zero, List.set_cons_succ])
  first
    | (refine take_at (i := 12) (v := ?_) rfl rfl (by kernel_rfl) (by kernel_rfl) (by kernel_rfl) (fun _ _ _ h => h) (Or.inl ⟨by rfl, ?hy⟩) (by assumption) ?_
       case hy => (intro wz hSw; (try dsimp only at hSw); go_simp <;> with_reducible rfl)
       simp only [List.setIfInBounds_toArray, List.set_cons_zero, List.set_cons_succ])
    | (refine take_at (i := 12) (v := undef) rfl rfl (by kernel_rfl) (by kernel_rfl) (by kernel_rfl) (fun _ _ _ h => h) (Or.inr ⟨by rfl, rfl⟩) (by assumption) ?_
       simp only [List.setIfInBounds_toArray, List.set_cons_zero, List.set_cons_succ])
  first
    | (refine take_at (i := 13) (v := ?_) rfl rfl (by kernel_rfl) (by kernel_rfl) (by kernel_rfl) (fun _ _ _ h => h) (Or.inl ⟨by rfl, ?hy⟩) (by assumption) ?_
       case hy => (intro wz hSw; (try dsimp only at hSw); go_simp <;> with_reducible rfl)
       simp only [List.setIfInBounds_toArray, List.set_cons_zero, List.set_cons_succ])
    | (refine take_at (i := 13) (v := undef) rfl rfl (by kernel_rfl) (by kernel_rfl) (by kernel_rfl) (fun _ _ _ h => h) (Or.inr ⟨by rfl, rfl⟩) (by assumption) ?_
       simp only [List.setIfInBounds_toArray, List.set_cons_zero, List.set_cons_succ])
  first
    | (refine take_at (i := 14) (v := ?_) rfl rfl (by kernel_rfl) (by kernel_rfl) (by kernel_rfl) (fun _ _ _ h => h) (Or.inl ⟨by rfl, ?hy⟩) (by assumption) ?_
       case hy => (intro wz hSw; (try dsimp only at hSw); go_simp <;> with_reducible rfl)
       simp only [List.setIfInBounds_toArray, List.set_cons_zero, List.set_cons_succ])
    | (refine take_at (i := 14) (v := undef) rfl rfl (by kernel_rfl) (by kernel_rfl) (by kernel_rfl) (fun _ _ _ h => h) (Or.inr ⟨by rfl, rfl⟩) (by assumption) ?_
       simp only [List.setIfInBounds_toArray, List.set_cons_zero, List.set_cons_succ])
  first
    | (refine take_at (i := 15) (v := ?_) rfl rfl (by kernel_rfl) (by kernel_rfl) (by kernel_rfl) (fun _ _ _ h => h) (Or.inl ⟨by rfl, ?hy⟩) (by assumption) ?_
       case hy => (intro wz hSw; (try dsimp only at hSw); go_simp <;> with_reducible rfl)
       simp only [List.setIfInBounds_toArray, List.set_cons_zero, List.set_cons_succ])
    | (refine take_at (i := 15) (v := undef) rfl rfl (by kernel_rfl) (by kernel_rfl) (by kernel_rfl) (fun _ _ _ h => h) (Or.inr ⟨by rfl, rfl⟩) (by assumption) ?_
       simp only [List.setIfInBounds_toArray, List.set_cons_zero, List.set_cons_succ])
  first
    | (refine take_at (i := 16) (v := ?_) rfl rfl (by kernel_rfl) (by kernel_rfl) (by kernel_rfl) (fun _ _ _ h => h) (Or.inl ⟨by rfl, ?hy⟩) (by assumption) ?_
       case hy => (intro wz hSw; (try dsimp only at hSw); go_simp <;> with_reducible rfl)
       simp only [List.setIfInBounds_toArray, List.set_cons_zero, List.set_cons_succ])
    | (refine take_at (i := 16) (v := undef) rfl rfl (by kernel_rfl) (by kernel_rfl) (by kernel_rfl) (fun _ _ _ h => h) (Or.inr ⟨by rfl, rfl⟩) (by assumption) ?_
       simp only [List.setIfInBounds_toArray, List.set_cons_zero, List.set_cons_succ])
  first
    | (refine take_at (i := 17) (v := ?_) rfl rfl (by kernel_rfl) (by kernel_rfl) (by kernel_rfl) (fun _ _ _ h => h) (Or.inl ⟨by rfl, ?hy⟩) (by assumption) ?_
       case hy => (intro wz hSw; (try dsimp only at hSw); go_simp <;> with_reducible rfl)
       simp only [List.setIfInBounds_toArray, List.set_cons_zero, List.set_cons_succ])
    | (refine take_at (i := 17) (v := undef) rfl rfl (by kernel_rfl) (by kernel_rfl) (by kernel_rfl) (fun _ _ _ h => h) (Or.inr ⟨by rfl, rfl⟩) (by assumption) ?_
       simp only [List.setIfInBounds_toArray, List.set_cons_zero, List.set_cons_succ])
  first
    | (refine take_at (i := 18) (v := ?_) rfl rfl (by kernel_rfl) (by kernel_rfl) (by kernel_rfl) (fun _ _ _ h => h) (Or.inl ⟨by rfl, ?hy⟩) (by assumption) ?_
       case hy => (intro wz hSw; (try dsimp only at hSw); go_simp <;> with_reducible rfl)
       simp only [List.setIfInBounds_toArray, List.set_cons_zero, List.set_cons_succ])
    | (refine take_at (i := 18) (v := undef) rfl rfl (by kernel_rfl) (by kernel_rfl) (by kernel_rfl) (fun _ _ _ h => h) (Or.inr ⟨by rfl, rfl⟩) (by assumption) ?_
       simp only [List.setIfInBounds_toArray, List.set_cons_zero, List.set_cons_succ])
  first
    | (refine take_at (i := 19) (v := ?_) rfl rfl (by kernel_rfl) (by kernel_rfl) (by kernel_rfl) (fun _ _ _ h => h) (Or.inl ⟨by rfl, ?hy⟩) (by assumption) ?_
       case hy => (intro wz hSw; (try dsimp only at hSw); go_simp <;> with_reducible rfl)
       simp only [List.setIfInBounds_toArray, List.set_cons_zero, List.set_cons_succ])
    | (refine take_at (i := 19) (v := undef) rfl rfl (by kernel_rfl) (by kernel_rfl) (by kernel_rfl) (fun _ _ _ h => h) (Or.inr ⟨by rfl, rfl⟩) (by assumption) ?_
       simp only [List.setIfInBounds_toArray, List.set_cons_zero, List.set_cons_succ])
  refine call_at (i := 20) (F := 92) (CG.out _) rfl rfl (by kernel_rfl) (by rfl) (by first | rfl | (go_simp <;> rfl)) ?_
  rintro e w' ⟨rfl, rfl⟩
  refine ⟨_, rfl, by assumption, ?_⟩
  simp only [List.setIfInBounds_toArray, List.set_cons_zero, List.set_cons_succ]
  first
    | (refine take_at (i := 21) (v := ?_) rfl rfl (by kernel_rfl) (by kernel_rfl) (by kernel_rfl) (fun _ _ _ h => h) (Or.inl ⟨by rfl, ?hy⟩) (by assumption) ?_
       case hy => (intro wz hSw; (try dsimp only at hSw); go_simp <;> with_reducible rfl)
       simp only [List.setIfInBounds_toArray, List.set_cons_zero, List.set_cons_succ])
    | (refine take_at (i := 21) (v := undef) rfl rfl (by kernel_rfl) (by kernel_rfl) (by kernel_rfl) (fun _ _ _ h => h) (Or.inr ⟨by rfl, rfl⟩) (by assumption) ?_
       simp only [List.setIfInBounds_toArray, List.set_cons_zero, List.set_cons_succ])
  refine wpAnyH_done (by kernel_rfl) ?_ _
  go_wp2
  go_ret
  exact ⟨rfl, (Ext.refl w).drew⟩
set_option maxRecDepth 100000 in
theorem rtWaiting_64 (b : Nat) (r : RY) (f : Nat → Int) (lv : Value) (log : List Acc) (w : World) (h : RB w b r f lv log) (hV : r.V = 5) (hc : r.n + 1 < r.m) (hm : r.m ≤ 1000) (hW : r.W = 64) (f0 : 0 ≤ f r.n) (f1 : 0 ≤ f (r.n + 1)) : Calls Tryz.prog 69 #[.pointer (some ⟨b, 0, none⟩)] w fun e w' => e = .returned (.int .i64 (D64 (f r.n - f (r.n + 1)))) ∧ Ext w w' := by
  have CH := Lib.hid (rtHas b r f lv log w h)
  rw [show (r.V == 5) = true by simpa using hV] at CH
  have CT := Lib.hid (rtTicket b r f lv log w h)
  have q1 := h.q1
  rw [hW] at q1
  have q7 := h.q7
  have c1 := h.va.c r.n (by omega)
  have c2 := h.va.c (r.n + 1) hc
  try dsimp only at c1 c2
  have CG : Hid (∀ w', Calls Tryz.prog 92 #[.int .i64 64, .int .u64 (f r.n), .int .u64 (f (r.n + 1))] w' fun e w'' => e = .returned (.int .i64 (D64 (f r.n - f (r.n + 1)))) ∧ w' = w'') := Lib.hid (fun w' => by first | exact rGap_64 _ _ w' f0 f1 | exact rGap_64 _ _ w')
  generalize f r.n = x1 at *
  generalize f (r.n + 1) = x2 at *
  have hn0 : (0 : Int) ≤ (r.n : Int) := by omega
  have hn1 : (r.n : Int) < (r.m : Int) := by omega
  have hn2 : (r.n : Int) + 1 < (r.m : Int) := by omega
  have hn3 : (r.n : Int) + 1 < 1000 := by omega
  have hn4 : (0 : Int) ≤ (r.n : Int) + 1 := by omega
  have hwr : IntKind.i64.wrap ((r.n : Int) + 1) = (r.n : Int) + 1 := wrapS (by omega) (by omega)
  generalize D64 (x1 - x2) = z at *
  clear h hV hW f0 f1
  go_enter Tryz.func69, Tryz.ntmps69
  go_wp2_with fail
  refine (CH.out).mono ?_
  rintro e w' ⟨rfl, rfl⟩
  go_wp2_with fail
  refine (CT.out).mono ?_
  rintro e w' ⟨rfl, rfl⟩
  go_upto_region 4 with (fail)
  refine wp_region_held_drew (S := fun w' => Ext w w') (by kernel_rfl) ?hbeg (fun hHeld => ?_)
  case hbeg => exact (Ext.refl w).drew
  have hHeld0 : Ext w w := by first | exact Ext.refl _ | assumption
  have k1 := fun w' (hx : Ext w w') => hx.cell q1
  have k7 := fun w' (hx : Ext w w') => hx.cell q7
  have kc1 := fun w' (hx : Ext w w') => hx.cell c1
  have kc2 := fun w' (hx : Ext w w') => hx.cell c2
  first
    | (refine take_at (i := 0) (v := ?_) rfl rfl (by kernel_rfl) (by kernel_rfl) (by kernel_rfl) (fun _ _ _ h => h) (Or.inl ⟨by rfl, ?hy⟩) (by assumption) ?_
       case hy => (intro wz hSw; (try dsimp only at hSw); go_simp <;> with_reducible rfl)
       simp only [List.setIfInBounds_toArray, List.set_cons_zero, List.set_cons_succ])
    | (refine take_at (i := 0) (v := undef) rfl rfl (by kernel_rfl) (by kernel_rfl) (by kernel_rfl) (fun _ _ _ h => h) (Or.inr ⟨by rfl, rfl⟩) (by assumption) ?_
       simp only [List.setIfInBounds_toArray, List.set_cons_zero, List.set_cons_succ])
  first
    | (refine take_at (i := 1) (v := ?_) rfl rfl (by kernel_rfl) (by kernel_rfl) (by kernel_rfl) (fun _ _ _ h => h) (Or.inl ⟨by rfl, ?hy⟩) (by assumption) ?_
       case hy => (intro wz hSw; (try dsimp only at hSw); go_simp <;> with_reducible rfl)
       simp only [List.setIfInBounds_toArray, List.set_cons_zero, List.set_cons_succ])
    | (refine take_at (i := 1) (v := undef) rfl rfl (by kernel_rfl) (by kernel_rfl) (by kernel_rfl) (fun _ _ _ h => h) (Or.inr ⟨by rfl, rfl⟩) (by assumption) ?_
       simp only [List.setIfInBounds_toArray, List.set_cons_zero, List.set_cons_succ])
  first
    | (refine take_at (i := 2) (v := ?_) rfl rfl (by kernel_rfl) (by kernel_rfl) (by kernel_rfl) (fun _ _ _ h => h) (Or.inl ⟨by rfl, ?hy⟩) (by assumption) ?_
       case hy => (intro wz hSw; (try dsimp only at hSw); go_simp <;> with_reducible rfl)
       simp only [List.setIfInBounds_toArray, List.set_cons_zero, List.set_cons_succ])
    | (refine take_at (i := 2) (v := undef) rfl rfl (by kernel_rfl) (by kernel_rfl) (by kernel_rfl) (fun _ _ _ h => h) (Or.inr ⟨by rfl, rfl⟩) (by assumption) ?_
       simp only [List.setIfInBounds_toArray, List.set_cons_zero, List.set_cons_succ])
  first
    | (refine take_at (i := 3) (v := ?_) rfl rfl (by kernel_rfl) (by kernel_rfl) (by kernel_rfl) (fun _ _ _ h => h) (Or.inl ⟨by rfl, ?hy⟩) (by assumption) ?_
       case hy => (intro wz hSw; (try dsimp only at hSw); go_simp <;> with_reducible rfl)
       simp only [List.setIfInBounds_toArray, List.set_cons_zero, List.set_cons_succ])
    | (refine take_at (i := 3) (v := undef) rfl rfl (by kernel_rfl) (by kernel_rfl) (by kernel_rfl) (fun _ _ _ h => h) (Or.inr ⟨by rfl, rfl⟩) (by assumption) ?_
       simp only [List.setIfInBounds_toArray, List.set_cons_zero, List.set_cons_succ])
  first
    | (refine take_at (i := 4) (v := ?_) rfl rfl (by kernel_rfl) (by kernel_rfl) (by kernel_rfl) (fun _ _ _ h => h) (Or.inl ⟨by rfl, ?hy⟩) (by assumption) ?_
       case hy => (intro wz hSw; (try dsimp only at hSw); go_simp <;> with_reducible rfl)
       simp only [List.setIfInBounds_toArray, List.set_cons_zero, List.set_cons_succ])
    | (refine take_at (i := 4) (v := undef) rfl rfl (by kernel_rfl) (by kernel_rfl) (by kernel_rfl) (fun _ _ _ h => h) (Or.inr ⟨by rfl, rfl⟩) (by assumption) ?_
       simp only [List.setIfInBounds_toArray, List.set_cons_zero, List.set_cons_succ])
  first
    | (refine take_at (i := 5) (v := ?_) rfl rfl (by kernel_rfl) (by kernel_rfl) (by kernel_rfl) (fun _ _ _ h => h) (Or.inl ⟨by rfl, ?hy⟩) (by assumption) ?_
       case hy => (intro wz hSw; (try dsimp only at hSw); go_simp <;> with_reducible rfl)
       simp only [List.setIfInBounds_toArray, List.set_cons_zero, List.set_cons_succ])
    | (refine take_at (i := 5) (v := undef) rfl rfl (by kernel_rfl) (by kernel_rfl) (by kernel_rfl) (fun _ _ _ h => h) (Or.inr ⟨by rfl, rfl⟩) (by assumption) ?_
       simp only [List.setIfInBounds_toArray, List.set_cons_zero, List.set_cons_succ])
  first
    | (refine take_at (i := 6) (v := ?_) rfl rfl (by kernel_rfl) (by kernel_rfl) (by kernel_rfl) (fun _ _ _ h => h) (Or.inl ⟨by rfl, ?hy⟩) (by assumption) ?_
       case hy => (intro wz hSw; (try dsimp only at hSw); go_simp <;> with_reducible rfl)
       simp only [List.setIfInBounds_toArray, List.set_cons_zero, List.set_cons_succ])
    | (refine take_at (i := 6) (v := undef) rfl rfl (by kernel_rfl) (by kernel_rfl) (by kernel_rfl) (fun _ _ _ h => h) (Or.inr ⟨by rfl, rfl⟩) (by assumption) ?_
       simp only [List.setIfInBounds_toArray, List.set_cons_zero, List.set_cons_succ])
  first
    | (refine take_at (i := 7) (v := ?_) rfl rfl (by kernel_rfl) (by kernel_rfl) (by kernel_rfl) (fun _ _ _ h => h) (Or.inl ⟨by rfl, ?hy⟩) (by assumption) ?_
       case hy => (intro wz hSw; (try dsimp only at hSw); go_simp <;> with_reducible rfl)
       simp only [List.setIfInBounds_toArray, List.set_cons_zero, List.set_cons_succ])
    | (refine take_at (i := 7) (v := undef) rfl rfl (by kernel_rfl) (by kernel_rfl) (by kernel_rfl) (fun _ _ _ h => h) (Or.inr ⟨by rfl, rfl⟩) (by assumption) ?_
       simp only [List.setIfInBounds_toArray, List.set_cons_zero, List.set_cons_succ])
  first
    | (refine take_at (i := 8) (v := ?_) rfl rfl (by kernel_rfl) (by kernel_rfl) (by kernel_rfl) (fun _ _ _ h => h) (Or.inl ⟨by rfl, ?hy⟩) (by assumption) ?_
       case hy => (intro wz hSw; (try dsimp only at hSw); go_simp <;> with_reducible rfl)
       simp only [List.setIfInBounds_toArray, List.set_cons_zero, List.set_cons_succ])
    | (refine take_at (i := 8) (v := undef) rfl rfl (by kernel_rfl) (by kernel_rfl) (by kernel_rfl) (fun _ _ _ h => h) (Or.inr ⟨by rfl, rfl⟩) (by assumption) ?_
       simp only [List.setIfInBounds_toArray, List.set_cons_zero, List.set_cons_succ])
  first
    | (refine take_at (i := 9) (v := ?_) rfl rfl (by kernel_rfl) (by kernel_rfl) (by kernel_rfl) (fun _ _ _ h => h) (Or.inl ⟨by rfl, ?hy⟩) (by assumption) ?_
       case hy => (intro wz hSw; (try dsimp only at hSw); go_simp <;> with_reducible rfl)
       simp only [List.setIfInBounds_toArray, List.set_cons_zero, List.set_cons_succ])
    | (refine take_at (i := 9) (v := undef) rfl rfl (by kernel_rfl) (by kernel_rfl) (by kernel_rfl) (fun _ _ _ h => h) (Or.inr ⟨by rfl, rfl⟩) (by assumption) ?_
       simp only [List.setIfInBounds_toArray, List.set_cons_zero, List.set_cons_succ])
  first
    | (refine take_at (i := 10) (v := ?_) rfl rfl (by kernel_rfl) (by kernel_rfl) (by kernel_rfl) (fun _ _ _ h => h) (Or.inl ⟨by rfl, ?hy⟩) (by assumption) ?_
       case hy => (intro wz hSw; (try dsimp only at hSw); go_simp <;> with_reducible rfl)
       simp only [List.setIfInBounds_toArray, List.set_cons_zero, List.set_cons_succ])
    | (refine take_at (i := 10) (v := undef) rfl rfl (by kernel_rfl) (by kernel_rfl) (by kernel_rfl) (fun _ _ _ h => h) (Or.inr ⟨by rfl, rfl⟩) (by assumption) ?_
       simp only [List.setIfInBounds_toArray, List.set_cons_zero, List.set_cons_succ])
  first
    | (refine take_at (i := 11) (v := ?_) rfl rfl (by kernel_rfl) (by kernel_rfl) (by kernel_rfl) (fun _ _ _ h => h) (Or.inl ⟨by rfl, ?hy⟩) (by assumption) ?_
       case hy => (intro wz hSw; (try dsimp only at hSw); go_simp <;> with_reducible rfl)
       simp only [List.setIfInBounds_toArray, List.set_cons_zero, List.set_cons_succ])
    | (refine take_at (i := 11) (v := undef) rfl rfl (by kernel_rfl) (by kernel_rfl) (by kernel_rfl) (fun _ _ _ h => h) (Or.inr ⟨by rfl, rfl⟩) (by assumption) ?_
       simp only [List.setIfInBounds_toArray, List.set_cons_zero, List.set_cons_succ])
  first
    | (refine take_at (i := 12) (v := ?_) rfl rfl (by kernel_rfl) (by kernel_rfl) (by kernel_rfl) (fun _ _ _ h => h) (Or.inl ⟨by rfl, ?hy⟩) (by assumption) ?_
       case hy => (intro wz hSw; (try dsimp only at hSw); go_simp <;> with_reducible rfl)
       simp only [List.setIfInBounds_toArray, List.set_cons_zero, List.set_cons_succ])
    | (refine take_at (i := 12) (v := undef) rfl rfl (by kernel_rfl) (by kernel_rfl) (by kernel_rfl) (fun _ _ _ h => h) (Or.inr ⟨by rfl, rfl⟩) (by assumption) ?_
       simp only [List.setIfInBounds_toArray, List.set_cons_zero, List.set_cons_succ])
  first
    | (refine take_at (i := 13) (v := ?_) rfl rfl (by kernel_rfl) (by kernel_rfl) (by kernel_rfl) (fun _ _ _ h => h) (Or.inl ⟨by rfl, ?hy⟩) (by assumption) ?_
       case hy => (intro wz hSw; (try dsimp only at hSw); go_simp <;> with_reducible rfl)
       simp only [List.setIfInBounds_toArray, List.set_cons_zero, List.set_cons_succ])
    | (refine take_at (i := 13) (v := undef) rfl rfl (by kernel_rfl) (by kernel_rfl) (by kernel_rfl) (fun _ _ _ h => h) (Or.inr ⟨by rfl, rfl⟩) (by assumption) ?_
       simp only [List.setIfInBounds_toArray, List.set_cons_zero, List.set_cons_succ])
  first
    | (refine take_at (i := 14) (v := ?_) rfl rfl (by kernel_rfl) (by kernel_rfl) (by kernel_rfl) (fun _ _ _ h => h) (Or.inl ⟨by rfl, ?hy⟩) (by assumption) ?_
       case hy => (intro wz hSw; (try dsimp only at hSw); go_simp <;> with_reducible rfl)
       simp only [List.setIfInBounds_toArray, List.set_cons_zero, List.set_cons_succ])
    | (refine take_at (i := 14) (v := undef) rfl rfl (by kernel_rfl) (by kernel_rfl) (by kernel_rfl) (fun _ _ _ h => h) (Or.inr ⟨by rfl, rfl⟩) (by assumption) ?_
       simp only [List.setIfInBounds_toArray, List.set_cons_zero, List.set_cons_succ])
  first
    | (refine take_at (i := 15) (v := ?_) rfl rfl (by kernel_rfl) (by kernel_rfl) (by kernel_rfl) (fun _ _ _ h => h) (Or.inl ⟨by rfl, ?hy⟩) (by assumption) ?_
       case hy => (intro wz hSw; (try dsimp only at hSw); go_simp <;> with_reducible rfl)
       simp only [List.setIfInBounds_toArray, List.set_cons_zero, List.set_cons_succ])
    | (refine take_at (i := 15) (v := undef) rfl rfl (by kernel_rfl) (by kernel_rfl) (by kernel_rfl) (fun _ _ _ h => h) (Or.inr ⟨by rfl, rfl⟩) (by assumption) ?_
       simp only [List.setIfInBounds_toArray, List.set_cons_zero, List.set_cons_succ])
  first
    | (refine take_at (i := 16) (v := ?_) rfl rfl (by kernel_rfl) (by kernel_rfl) (by kernel_rfl) (fun _ _ _ h => h) (Or.inl ⟨by rfl, ?hy⟩) (by assumption) ?_
       case hy => (intro wz hSw; (try dsimp only at hSw); go_simp <;> with_reducible rfl)
       simp only [List.setIfInBounds_toArray, List.set_cons_zero, List.set_cons_succ])
    | (refine take_at (i := 16) (v := undef) rfl rfl (by kernel_rfl) (by kernel_rfl) (by kernel_rfl) (fun _ _ _ h => h) (Or.inr ⟨by rfl, rfl⟩) (by assumption) ?_
       simp only [List.setIfInBounds_toArray, List.set_cons_zero, List.set_cons_succ])
  first
    | (refine take_at (i := 17) (v := ?_) rfl rfl (by kernel_rfl) (by kernel_rfl) (by kernel_rfl) (fun _ _ _ h => h) (Or.inl ⟨by rfl, ?hy⟩) (by assumption) ?_
       case hy => (intro wz hSw; (try dsimp only at hSw); go_simp <;> with_reducible rfl)
       simp only [List.setIfInBounds_toArray, List.set_cons_zero, List.set_cons_succ])
    | (refine take_at (i := 17) (v := undef) rfl rfl (by kernel_rfl) (by kernel_rfl) (by kernel_rfl) (fun _ _ _ h => h) (Or.inr ⟨by rfl, rfl⟩) (by assumption) ?_
       simp only [List.setIfInBounds_toArray, List.set_cons_zero, List.set_cons_succ])
  first
    | (refine take_at (i := 18) (v := ?_) rfl rfl (by kernel_rfl) (by kernel_rfl) (by kernel_rfl) (fun _ _ _ h => h) (Or.inl ⟨by rfl, ?hy⟩) (by assumption) ?_
       case hy => (intro wz hSw; (try dsimp only at hSw); go_simp <;> with_reducible rfl)
       simp only [List.setIfInBounds_toArray, List.set_cons_zero, List.set_cons_succ])
    | (refine take_at (i := 18) (v := undef) rfl rfl (by kernel_rfl) (by kernel_rfl) (by kernel_rfl) (fun _ _ _ h => h) (Or.inr ⟨by rfl, rfl⟩) (by assumption) ?_
       simp only [List.setIfInBounds_toArray, List.set_cons_zero, List.set_cons_succ])
  first
    | (refine take_at (i := 19) (v := ?_) rfl rfl (by kernel_rfl) (by kernel_rfl) (by kernel_rfl) (fun _ _ _ h => h) (Or.inl ⟨by rfl, ?hy⟩) (by assumption) ?_
       case hy => (intro wz hSw; (try dsimp only at hSw); go_simp <;> with_reducible rfl)
       simp only [List.setIfInBounds_toArray, List.set_cons_zero, List.set_cons_succ])
    | (refine take_at (i := 19) (v := undef) rfl rfl (by kernel_rfl) (by kernel_rfl) (by kernel_rfl) (fun _ _ _ h => h) (Or.inr ⟨by rfl, rfl⟩) (by assumption) ?_
       simp only [List.setIfInBounds_toArray, List.set_cons_zero, List.set_cons_succ])
  refine call_at (i := 20) (F := 92) (CG.out _) rfl rfl (by kernel_rfl) (by rfl) (by first | rfl | (go_simp <;> rfl)) ?_
  rintro e w' ⟨rfl, rfl⟩
  refine ⟨_, rfl, by assumption, ?_⟩
  simp only [List.setIfInBounds_toArray, List.set_cons_zero, List.set_cons_succ]
  first
    | (refine take_at (i := 21) (v := ?_) rfl rfl (by kernel_rfl) (by kernel_rfl) (by kernel_rfl) (fun _ _ _ h => h) (Or.inl ⟨by rfl, ?hy⟩) (by assumption) ?_
       case hy => (intro wz hSw; (try dsimp only at hSw); go_simp <;> with_reducible rfl)
       simp only [List.setIfInBounds_toArray, List.set_cons_zero, List.set_cons_succ])
    | (refine take_at (i := 21) (v := undef) rfl rfl (by kernel_rfl) (by kernel_rfl) (by kernel_rfl) (fun _ _ _ h => h) (Or.inr ⟨by rfl, rfl⟩) (by assumption) ?_
       simp only [List.setIfInBounds_toArray, List.set_cons_zero, List.set_cons_succ])
  refine wpAnyH_done (by kernel_rfl) ?_ _
  go_wp2
  go_ret
  exact ⟨rfl, (Ext.refl w).drew⟩
end Go.Proofs.YtlnffbocclpnnaaGreatDoorR
