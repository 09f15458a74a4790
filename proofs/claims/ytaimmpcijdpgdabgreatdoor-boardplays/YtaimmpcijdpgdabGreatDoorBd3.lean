/- A board's slots; Peek. -/
import Derived.Test.YtaimmpcijdpgdabGreatDoorBd2
namespace Go.Proofs.YtaimmpcijdpgdabGreatDoor
open Go.RowKit
set_option linter.unusedVariables false
set_option linter.unusedSimpArgs false
set_option maxHeartbeats 2000000
attribute [local go_sem] later_cell later_frozen later_const
theorem u64_wrap (v : Int) : IntKind.u64.wrap v = U64 v := by rw [IntKind.wrap_u64]; rfl
set_option maxRecDepth 100000 in
theorem slot32 (b g : Nat) (y : LY) (f : Nat → Int) (lv : Value) (log : List Acc) (s : Int) (w : World) (hB : BD w 74 b g y f lv log) (Y : YOk y) (E : Parts w) :
    Calls Tryz.prog 94 #[.pointer (some ⟨b, 0, none⟩), .int .i64 s] w fun e w' => e = .returned (.tuple #[.int .i64 (plc y.Sl y.C s), .bool (kd y (plc y.Sl y.C s) == 3)]) ∧ Ext w w' := by
  have CS := Lib.hid (fun w => lSlot y.V y.W y.C y.P y.S y.a y.n y.cap y.Cu y.Cl y.Ti y.Se y.Ne y.Ma y.Sl y.m s w Y.c1 (by have := Y.sl0; omega) Y.sl1)
  have CH := Lib.hid (fun w' (hx : Ext w w') => has32 b g y f lv log (plc y.Sl y.C s) 3 w' (hB.ext hx) Y (E.ext hx))
  obtain ⟨q0, q1, q2, q3, q4, q5, q6, q7, q8, q9, q10, q11, q12, q13, -, -, -, -, -, -, -, -⟩ := hB
  generalize (kd y (plc y.Sl y.C s) == 3) = bb at *
  generalize plc y.Sl y.C s = c at *
  clear Y E
  go_enter Tryz.func94, Tryz.ntmps94
  go_wp2_with fail
  refine (CS.out _).mono ?_
  rintro e w1 ⟨rfl, X1⟩
  have HX1 := Lib.hid X1
  clear X1 q0 q1 q2 q3 q4 q5 q6 q7 q8 q9 q10 q11 q12 q13
  go_wp2_with fail
  refine (CH.out _ HX1.out).mono ?_
  rintro e w2 ⟨rfl, X2⟩
  have HX2 := Lib.hid (HX1.out.trans X2)
  clear X2
  go_wp2
  go_ret2
  exact ⟨rfl, HX2.out⟩
theorem slot32_nil (s : Int) (w : World) : Calls Tryz.prog 94 #[.pointer none, .int .i64 s] w fun e w' => e = .returned (.tuple #[.int .i64 0, .bool false]) ∧ w = w' := by
  go_enter Tryz.func94, Tryz.ntmps94
  go_wp2
  go_ret2
  exact ⟨rfl, rfl⟩
set_option maxRecDepth 100000 in
theorem Get32_no (b g : Nat) (y : LY) (f : Nat → Int) (lv : Value) (log : List Acc) (t s : Int) (w : World) (hB : BD w 74 b g y f lv log) (Y : YOk y) (E : Parts w) (hk : kd y (plc y.Sl y.C s) ≠ 3) :
    Calls Tryz.prog 47 #[.pointer (some ⟨b, 0, none⟩), .int .i64 t, .int .i64 s] w (ODoes 74 b g y lv (.int .i64 0) f log w) := by
  have CH := slot32 b g y f lv log s w hB Y E
  rw [show (kd y (plc y.Sl y.C s) == 3) = false by simpa using hk] at CH
  have HC := Lib.hid CH
  have HG : Hid (∀ w', Ext w w' → (ODoes 74 b g y lv (.int .i64 0) f log w) (.returned (.int .i64 0)) w') := Lib.hid (fun w' hx => odoes_same hB hx)
  generalize (ODoes 74 b g y lv (.int .i64 0) f log w) = G at *
  generalize plc y.Sl y.C s = c at *
  clear CH hB Y E hk
  go_enter Tryz.func47, Tryz.ntmps47
  go_wp2_with fail
  refine HC.out.mono ?_
  rintro e w1 ⟨rfl, X1⟩
  have HG2 := Lib.hid (HG.out w1 X1)
  go_wp2
  exact HG2.out
set_option maxRecDepth 100000 in
theorem Get32_yes (b g : Nat) (y : LY) (f : Nat → Int) (lv : Value) (log : List Acc) (t s : Int) (c : Nat) (w : World) (hB : BD w 74 b g y f lv log) (Y : YOk y) (E : Parts w) (hs : plc y.Sl y.C s = c) (hk : kd y c = 3) (f0 : 0 ≤ f c) (f1 : f c < 18446744073709551616) (hl : log.length ≤ 1000) :
    Calls Tryz.prog 47 #[.pointer (some ⟨b, 0, none⟩), .int .i64 t, .int .i64 s] w (ODoes 74 b g y lv (.int .i64 (wrap64 (f c))) f (log ++ [⟨t, 6, c, f c, f c⟩]) w) := by
  have hc : c < y.m := by have := kd_in (y := y) (c := c) (by rw [hk]; decide); omega
  have CH := slot32 b g y f lv log s w hB Y E
  rw [hs, show (kd y c == 3) = true by simpa using hk] at CH
  have HC := Lib.hid CH
  have CT := Lib.hid (fun w' (hx : Ext w w') => touch32 b g y f lv log t 6 c (f c) w' (hB.ext hx) hc Y.m1 hl)
  have HG : Hid (∀ w1 w2 w3 lv', Ext w w1 → BD w2 74 b g y f lv' (log ++ [⟨t, 6, c, f c, f c⟩]) → But (Own b g lv) w1 w2 → (lv'.ownBlock = lv.ownBlock ∨ ∃ j, lv'.ownBlock = some j ∧ w1.heap.size ≤ j) → Ext w2 w3 → (ODoes 74 b g y lv (.int .i64 (wrap64 (f c))) f (log ++ [⟨t, 6, c, f c, f c⟩]) w) (.returned (.int .i64 (wrap64 (f c)))) w3) := Lib.hid (fun w1 w2 w3 lv' a1 a2 a3 a4 a5 => odoes_wrap a1 a2 a3 a4 a5)
  have HU := Lib.hid (upd_same f c)
  have q14 := hB.q14
  have qc := hB.va.c c hc
  have hcm : (c : Int) < (y.m : Int) := by omega
  have HF : Hid (∀ (w2 : World) lv' l', BD w2 74 b g y f lv' l' → w2.cell? ⟨b, 14, none⟩ = some (.slice (some ⟨g, 0, none⟩) y.m y.m) ∧ w2.cell? ⟨g, c, none⟩ = some (.int .u64 (f c))) := Lib.hid (fun w2 lv' l' h => ⟨h.q14, h.va.c c hc⟩)
  generalize (ODoes 74 b g y lv (.int .i64 (wrap64 (f c))) f (log ++ [⟨t, 6, c, f c, f c⟩]) w) = G at *
  clear CH hB Y E hk hs
  generalize hfo : f c = oo at *
  have HFO := Lib.hid hfo
  clear hfo
  go_enter Tryz.func47, Tryz.ntmps47
  go_wp2_with fail
  refine HC.out.mono ?_
  rintro e w1 ⟨rfl, X1⟩
  replace q14 := X1.cell q14
  replace qc := X1.cell qc
  go_wp2_with fail
  refine (CT.out _ X1).mono ?_
  rintro e w2 ⟨rfl, lv', B2, T2, A2⟩
  rw [HU.out, HFO.out] at B2
  obtain ⟨r14, rc⟩ := HF.out _ _ _ B2
  have HG2 := Lib.hid (HG.out w1 w2 w2 lv' X1 B2 T2 A2 (Ext.refl _))
  clear B2 T2 A2 q14 qc
  go_wp2
  exact HG2.out
set_option maxRecDepth 100000 in
theorem Set32_no (b g : Nat) (y : LY) (f : Nat → Int) (lv : Value) (log : List Acc) (t s v : Int) (w : World) (hB : BD w 74 b g y f lv log) (Y : YOk y) (E : Parts w) (hk : kd y (plc y.Sl y.C s) ≠ 3) :
    Calls Tryz.prog 48 #[.pointer (some ⟨b, 0, none⟩), .int .i64 t, .int .i64 s, .int .i64 v] w (ODoes 74 b g y lv (.tuple #[]) f log w) := by
  have CH := slot32 b g y f lv log s w hB Y E
  rw [show (kd y (plc y.Sl y.C s) == 3) = false by simpa using hk] at CH
  have HC := Lib.hid CH
  have HG : Hid (∀ w', Ext w w' → (ODoes 74 b g y lv (.tuple #[]) f log w) (.returned (.tuple #[])) w') := Lib.hid (fun w' hx => odoes_same hB hx)
  generalize (ODoes 74 b g y lv (.tuple #[]) f log w) = G at *
  generalize plc y.Sl y.C s = c at *
  clear CH hB Y E hk
  go_enter Tryz.func48, Tryz.ntmps48
  go_wp2_with fail
  refine HC.out.mono ?_
  rintro e w1 ⟨rfl, X1⟩
  have HG2 := Lib.hid (HG.out w1 X1)
  go_wp2
  refine bodyPost_ret (v := .tuple #[]) (by simp [results, Tryz.results48, go_sem]) rfl ?_
  exact HG2.out
set_option maxRecDepth 100000 in
theorem Set32_yes (b g : Nat) (y : LY) (f : Nat → Int) (lv : Value) (log : List Acc) (t s v : Int) (c : Nat) (w : World) (hB : BD w 74 b g y f lv log) (Y : YOk y) (E : Parts w) (hs : plc y.Sl y.C s = c) (hk : kd y c = 3) (f0 : 0 ≤ f c) (f1 : f c < 18446744073709551616) (hl : log.length ≤ 1000) :
    Calls Tryz.prog 48 #[.pointer (some ⟨b, 0, none⟩), .int .i64 t, .int .i64 s, .int .i64 v] w (ODoes 74 b g y lv (.tuple #[]) (upd f c (U64 v)) (log ++ [⟨t, 7, c, f c, U64 v⟩]) w) := by
  have hc : c < y.m := by have := kd_in (y := y) (c := c) (by rw [hk]; decide); omega
  have CH := slot32 b g y f lv log s w hB Y E
  rw [hs, show (kd y c == 3) = true by simpa using hk] at CH
  have HC := Lib.hid CH
  have CT := Lib.hid (fun w' (hx : Ext w w') => touch32 b g y f lv log t 7 c (U64 v) w' (hB.ext hx) hc Y.m1 hl)
  have HG : Hid (∀ w1 w2 w3 lv', Ext w w1 → BD w2 74 b g y (upd f c (U64 v)) lv' (log ++ [⟨t, 7, c, f c, U64 v⟩]) → But (Own b g lv) w1 w2 → (lv'.ownBlock = lv.ownBlock ∨ ∃ j, lv'.ownBlock = some j ∧ w1.heap.size ≤ j) → Ext w2 w3 → (ODoes 74 b g y lv (.tuple #[]) (upd f c (U64 v)) (log ++ [⟨t, 7, c, f c, U64 v⟩]) w) (.returned (.tuple #[])) w3) := Lib.hid (fun w1 w2 w3 lv' a1 a2 a3 a4 a5 => odoes_wrap a1 a2 a3 a4 a5)
  have hcv : IntKind.u64.wrap v = U64 v := u64_wrap v
  generalize (ODoes 74 b g y lv (.tuple #[]) (upd f c (U64 v)) (log ++ [⟨t, 7, c, f c, U64 v⟩]) w) = G at *
  generalize U64 v = z at *
  clear CH hB Y E hk hs
  go_enter Tryz.func48, Tryz.ntmps48
  go_wp2_with fail
  refine HC.out.mono ?_
  rintro e w1 ⟨rfl, X1⟩
  go_wp2_with fail
  refine (CT.out _ X1).mono ?_
  rintro e w2 ⟨rfl, lv', B2, T2, A2⟩
  have HG2 := Lib.hid (HG.out w1 w2 w2 lv' X1 B2 T2 A2 (Ext.refl _))
  clear B2 T2 A2
  go_wp2
  refine bodyPost_ret (v := .tuple #[]) (by simp [results, Tryz.results48, go_sem]) rfl ?_
  exact HG2.out
set_option maxRecDepth 100000 in
theorem Peek32 (b g : Nat) (y : LY) (f : Nat → Int) (lv : Value) (log : List Acc) (c : Nat) (w : World) (hB : BD w 74 b g y f lv log) (Y : YOk y) (E : Parts w) (hk : kd y c ≠ 0) :
    Calls Tryz.prog 16 #[.pointer (some ⟨b, 0, none⟩), .int .i64 c] w fun e w' => e = .returned (.int .u64 (f c)) ∧ Ext w w' := by
  have hc : c < y.m := by have := kd_in (y := y) (c := c) hk; omega
  have CH := has32 b g y f lv log c 0 w hB Y E
  rw [show (kd y c == 0) = false by simpa using hk] at CH
  have HC := Lib.hid CH
  have q14 := hB.q14
  have qc := hB.va.c c hc
  have hcm : (c : Int) < (y.m : Int) := by omega
  generalize f c = o at *
  clear CH hB Y E hk
  go_enter Tryz.func16, Tryz.ntmps16
  go_wp2_with fail
  refine HC.out.mono ?_
  rintro e w1 ⟨rfl, X1⟩
  replace q14 := X1.cell q14
  replace qc := X1.cell qc
  go_wp2
  go_ret
  exact ⟨rfl, X1⟩
set_option maxRecDepth 100000 in
theorem slot64 (b g : Nat) (y : LY) (f : Nat → Int) (lv : Value) (log : List Acc) (s : Int) (w : World) (hB : BD w 75 b g y f lv log) (Y : YOk y) (E : Parts w) :
    Calls Tryz.prog 72 #[.pointer (some ⟨b, 0, none⟩), .int .i64 s] w fun e w' => e = .returned (.tuple #[.int .i64 (plc y.Sl y.C s), .bool (kd y (plc y.Sl y.C s) == 3)]) ∧ Ext w w' := by
  have CS := Lib.hid (fun w => lSlot y.V y.W y.C y.P y.S y.a y.n y.cap y.Cu y.Cl y.Ti y.Se y.Ne y.Ma y.Sl y.m s w Y.c1 (by have := Y.sl0; omega) Y.sl1)
  have CH := Lib.hid (fun w' (hx : Ext w w') => has64 b g y f lv log (plc y.Sl y.C s) 3 w' (hB.ext hx) Y (E.ext hx))
  obtain ⟨q0, q1, q2, q3, q4, q5, q6, q7, q8, q9, q10, q11, q12, q13, -, -, -, -, -, -, -, -⟩ := hB
  generalize (kd y (plc y.Sl y.C s) == 3) = bb at *
  generalize plc y.Sl y.C s = c at *
  clear Y E
  go_enter Tryz.func72, Tryz.ntmps72
  go_wp2_with fail
  refine (CS.out _).mono ?_
  rintro e w1 ⟨rfl, X1⟩
  have HX1 := Lib.hid X1
  clear X1 q0 q1 q2 q3 q4 q5 q6 q7 q8 q9 q10 q11 q12 q13
  go_wp2_with fail
  refine (CH.out _ HX1.out).mono ?_
  rintro e w2 ⟨rfl, X2⟩
  have HX2 := Lib.hid (HX1.out.trans X2)
  clear X2
  go_wp2
  go_ret2
  exact ⟨rfl, HX2.out⟩
theorem slot64_nil (s : Int) (w : World) : Calls Tryz.prog 72 #[.pointer none, .int .i64 s] w fun e w' => e = .returned (.tuple #[.int .i64 0, .bool false]) ∧ w = w' := by
  go_enter Tryz.func72, Tryz.ntmps72
  go_wp2
  go_ret2
  exact ⟨rfl, rfl⟩
set_option maxRecDepth 100000 in
theorem Get64_no (b g : Nat) (y : LY) (f : Nat → Int) (lv : Value) (log : List Acc) (t s : Int) (w : World) (hB : BD w 75 b g y f lv log) (Y : YOk y) (E : Parts w) (hk : kd y (plc y.Sl y.C s) ≠ 3) :
    Calls Tryz.prog 55 #[.pointer (some ⟨b, 0, none⟩), .int .i64 t, .int .i64 s] w (ODoes 75 b g y lv (.int .i64 0) f log w) := by
  have CH := slot64 b g y f lv log s w hB Y E
  rw [show (kd y (plc y.Sl y.C s) == 3) = false by simpa using hk] at CH
  have HC := Lib.hid CH
  have HG : Hid (∀ w', Ext w w' → (ODoes 75 b g y lv (.int .i64 0) f log w) (.returned (.int .i64 0)) w') := Lib.hid (fun w' hx => odoes_same hB hx)
  generalize (ODoes 75 b g y lv (.int .i64 0) f log w) = G at *
  generalize plc y.Sl y.C s = c at *
  clear CH hB Y E hk
  go_enter Tryz.func55, Tryz.ntmps55
  go_wp2_with fail
  refine HC.out.mono ?_
  rintro e w1 ⟨rfl, X1⟩
  have HG2 := Lib.hid (HG.out w1 X1)
  go_wp2
  exact HG2.out
set_option maxRecDepth 100000 in
theorem Get64_yes (b g : Nat) (y : LY) (f : Nat → Int) (lv : Value) (log : List Acc) (t s : Int) (c : Nat) (w : World) (hB : BD w 75 b g y f lv log) (Y : YOk y) (E : Parts w) (hs : plc y.Sl y.C s = c) (hk : kd y c = 3) (f0 : 0 ≤ f c) (f1 : f c < 18446744073709551616) (hl : log.length ≤ 1000) :
    Calls Tryz.prog 55 #[.pointer (some ⟨b, 0, none⟩), .int .i64 t, .int .i64 s] w (ODoes 75 b g y lv (.int .i64 (wrap64 (f c))) f (log ++ [⟨t, 6, c, f c, f c⟩]) w) := by
  have hc : c < y.m := by have := kd_in (y := y) (c := c) (by rw [hk]; decide); omega
  have CH := slot64 b g y f lv log s w hB Y E
  rw [hs, show (kd y c == 3) = true by simpa using hk] at CH
  have HC := Lib.hid CH
  have CT := Lib.hid (fun w' (hx : Ext w w') => touch64 b g y f lv log t 6 c (f c) w' (hB.ext hx) hc Y.m1 hl)
  have HG : Hid (∀ w1 w2 w3 lv', Ext w w1 → BD w2 75 b g y f lv' (log ++ [⟨t, 6, c, f c, f c⟩]) → But (Own b g lv) w1 w2 → (lv'.ownBlock = lv.ownBlock ∨ ∃ j, lv'.ownBlock = some j ∧ w1.heap.size ≤ j) → Ext w2 w3 → (ODoes 75 b g y lv (.int .i64 (wrap64 (f c))) f (log ++ [⟨t, 6, c, f c, f c⟩]) w) (.returned (.int .i64 (wrap64 (f c)))) w3) := Lib.hid (fun w1 w2 w3 lv' a1 a2 a3 a4 a5 => odoes_wrap a1 a2 a3 a4 a5)
  have HU := Lib.hid (upd_same f c)
  have q14 := hB.q14
  have qc := hB.va.c c hc
  have hcm : (c : Int) < (y.m : Int) := by omega
  have HF : Hid (∀ (w2 : World) lv' l', BD w2 75 b g y f lv' l' → w2.cell? ⟨b, 14, none⟩ = some (.slice (some ⟨g, 0, none⟩) y.m y.m) ∧ w2.cell? ⟨g, c, none⟩ = some (.int .u64 (f c))) := Lib.hid (fun w2 lv' l' h => ⟨h.q14, h.va.c c hc⟩)
  generalize (ODoes 75 b g y lv (.int .i64 (wrap64 (f c))) f (log ++ [⟨t, 6, c, f c, f c⟩]) w) = G at *
  clear CH hB Y E hk hs
  generalize hfo : f c = oo at *
  have HFO := Lib.hid hfo
  clear hfo
  go_enter Tryz.func55, Tryz.ntmps55
  go_wp2_with fail
  refine HC.out.mono ?_
  rintro e w1 ⟨rfl, X1⟩
  replace q14 := X1.cell q14
  replace qc := X1.cell qc
  go_wp2_with fail
  refine (CT.out _ X1).mono ?_
  rintro e w2 ⟨rfl, lv', B2, T2, A2⟩
  rw [HU.out, HFO.out] at B2
  obtain ⟨r14, rc⟩ := HF.out _ _ _ B2
  have HG2 := Lib.hid (HG.out w1 w2 w2 lv' X1 B2 T2 A2 (Ext.refl _))
  clear B2 T2 A2 q14 qc
  go_wp2
  exact HG2.out
set_option maxRecDepth 100000 in
theorem Set64_no (b g : Nat) (y : LY) (f : Nat → Int) (lv : Value) (log : List Acc) (t s v : Int) (w : World) (hB : BD w 75 b g y f lv log) (Y : YOk y) (E : Parts w) (hk : kd y (plc y.Sl y.C s) ≠ 3) :
    Calls Tryz.prog 56 #[.pointer (some ⟨b, 0, none⟩), .int .i64 t, .int .i64 s, .int .i64 v] w (ODoes 75 b g y lv (.tuple #[]) f log w) := by
  have CH := slot64 b g y f lv log s w hB Y E
  rw [show (kd y (plc y.Sl y.C s) == 3) = false by simpa using hk] at CH
  have HC := Lib.hid CH
  have HG : Hid (∀ w', Ext w w' → (ODoes 75 b g y lv (.tuple #[]) f log w) (.returned (.tuple #[])) w') := Lib.hid (fun w' hx => odoes_same hB hx)
  generalize (ODoes 75 b g y lv (.tuple #[]) f log w) = G at *
  generalize plc y.Sl y.C s = c at *
  clear CH hB Y E hk
  go_enter Tryz.func56, Tryz.ntmps56
  go_wp2_with fail
  refine HC.out.mono ?_
  rintro e w1 ⟨rfl, X1⟩
  have HG2 := Lib.hid (HG.out w1 X1)
  go_wp2
  refine bodyPost_ret (v := .tuple #[]) (by simp [results, Tryz.results56, go_sem]) rfl ?_
  exact HG2.out
set_option maxRecDepth 100000 in
theorem Set64_yes (b g : Nat) (y : LY) (f : Nat → Int) (lv : Value) (log : List Acc) (t s v : Int) (c : Nat) (w : World) (hB : BD w 75 b g y f lv log) (Y : YOk y) (E : Parts w) (hs : plc y.Sl y.C s = c) (hk : kd y c = 3) (f0 : 0 ≤ f c) (f1 : f c < 18446744073709551616) (hl : log.length ≤ 1000) :
    Calls Tryz.prog 56 #[.pointer (some ⟨b, 0, none⟩), .int .i64 t, .int .i64 s, .int .i64 v] w (ODoes 75 b g y lv (.tuple #[]) (upd f c (U64 v)) (log ++ [⟨t, 7, c, f c, U64 v⟩]) w) := by
  have hc : c < y.m := by have := kd_in (y := y) (c := c) (by rw [hk]; decide); omega
  have CH := slot64 b g y f lv log s w hB Y E
  rw [hs, show (kd y c == 3) = true by simpa using hk] at CH
  have HC := Lib.hid CH
  have CT := Lib.hid (fun w' (hx : Ext w w') => touch64 b g y f lv log t 7 c (U64 v) w' (hB.ext hx) hc Y.m1 hl)
  have HG : Hid (∀ w1 w2 w3 lv', Ext w w1 → BD w2 75 b g y (upd f c (U64 v)) lv' (log ++ [⟨t, 7, c, f c, U64 v⟩]) → But (Own b g lv) w1 w2 → (lv'.ownBlock = lv.ownBlock ∨ ∃ j, lv'.ownBlock = some j ∧ w1.heap.size ≤ j) → Ext w2 w3 → (ODoes 75 b g y lv (.tuple #[]) (upd f c (U64 v)) (log ++ [⟨t, 7, c, f c, U64 v⟩]) w) (.returned (.tuple #[])) w3) := Lib.hid (fun w1 w2 w3 lv' a1 a2 a3 a4 a5 => odoes_wrap a1 a2 a3 a4 a5)
  have hcv : IntKind.u64.wrap v = U64 v := u64_wrap v
  generalize (ODoes 75 b g y lv (.tuple #[]) (upd f c (U64 v)) (log ++ [⟨t, 7, c, f c, U64 v⟩]) w) = G at *
  generalize U64 v = z at *
  clear CH hB Y E hk hs
  go_enter Tryz.func56, Tryz.ntmps56
  go_wp2_with fail
  refine HC.out.mono ?_
  rintro e w1 ⟨rfl, X1⟩
  go_wp2_with fail
  refine (CT.out _ X1).mono ?_
  rintro e w2 ⟨rfl, lv', B2, T2, A2⟩
  have HG2 := Lib.hid (HG.out w1 w2 w2 lv' X1 B2 T2 A2 (Ext.refl _))
  clear B2 T2 A2
  go_wp2
  refine bodyPost_ret (v := .tuple #[]) (by simp [results, Tryz.results56, go_sem]) rfl ?_
  exact HG2.out
set_option maxRecDepth 100000 in
theorem Peek64 (b g : Nat) (y : LY) (f : Nat → Int) (lv : Value) (log : List Acc) (c : Nat) (w : World) (hB : BD w 75 b g y f lv log) (Y : YOk y) (E : Parts w) (hk : kd y c ≠ 0) :
    Calls Tryz.prog 17 #[.pointer (some ⟨b, 0, none⟩), .int .i64 c] w fun e w' => e = .returned (.int .u64 (f c)) ∧ Ext w w' := by
  have hc : c < y.m := by have := kd_in (y := y) (c := c) hk; omega
  have CH := has64 b g y f lv log c 0 w hB Y E
  rw [show (kd y c == 0) = false by simpa using hk] at CH
  have HC := Lib.hid CH
  have q14 := hB.q14
  have qc := hB.va.c c hc
  have hcm : (c : Int) < (y.m : Int) := by omega
  generalize f c = o at *
  clear CH hB Y E hk
  go_enter Tryz.func17, Tryz.ntmps17
  go_wp2_with fail
  refine HC.out.mono ?_
  rintro e w1 ⟨rfl, X1⟩
  replace q14 := X1.cell q14
  replace qc := X1.cell qc
  go_wp2
  go_ret
  exact ⟨rfl, X1⟩
end Go.Proofs.YtaimmpcijdpgdabGreatDoor
