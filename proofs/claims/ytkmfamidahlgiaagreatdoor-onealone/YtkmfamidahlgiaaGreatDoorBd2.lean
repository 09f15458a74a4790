/- A board's accesses. -/
import Derived.Test.YtkmfamidahlgiaaGreatDoorBd
namespace Go.Proofs.YtkmfamidahlgiaaGreatDoor
open Go.RowKit
set_option linter.unusedVariables false
set_option linter.unusedSimpArgs false
set_option maxHeartbeats 2000000
attribute [local go_sem] later_cell later_frozen later_const
structure YOk (y : LY) : Prop where
  sl0 : 0 ≤ y.Sl
  sl1 : y.Sl ≤ 1000
  ma0 : -1 ≤ y.Ma
  ma1 : y.Ma ≤ 1000
  m1 : y.m ≤ 1000
  c1 : y.C ≤ 1000
/-- a cell's kind -/
def kd (y : LY) (c : Int) : Int := pKind (useL y.V y.n y.Cu y.Cl y.Ti y.Se y.Ne y.Ma y.Sl y.m c).1.toNat
theorem kd_in {y : LY} {c : Int} (h : kd y c ≠ 0) : 0 ≤ c ∧ c < y.m := by
  by_cases hc : c < 0 ∨ (y.m : Int) ≤ c
  · exact absurd (by unfold kd useL; rw [if_pos hc]; rfl) h
  · omega
/-- a board behind a call: what is told, and how it stands -/
def ODoes (bt b g : Nat) (y : LY) (lv : Value) (v : Value) (f' : Nat → Int) (log' : List Acc) (w : World) (e : Ending) (w' : World) : Prop :=
  e = .returned v ∧ ∃ lv', BD w' bt b g y f' lv' log' ∧ But (Own b g lv) w w' ∧ (lv'.ownBlock = lv.ownBlock ∨ ∃ j, lv'.ownBlock = some j ∧ w.heap.size ≤ j)
theorem odoes_same {bt b g : Nat} {y : LY} {f : Nat → Int} {lv : Value} {log : List Acc} {v : Value} {w w' : World} (h : BD w bt b g y f lv log) (hx : Ext w w') : ODoes bt b g y lv v f log w (.returned v) w' :=
  ⟨rfl, lv, h.ext hx, hx.but _, .inl rfl⟩
/-- some memory more ahead and behind; another answer -/
theorem odoes_wrap {bt b g : Nat} {y : LY} {f' : Nat → Int} {lv lv' : Value} {log' : List Acc} {v : Value} {w w1 w2 w3 : World} (h1 : Ext w w1) (hB : BD w2 bt b g y f' lv' log') (hb : But (Own b g lv) w1 w2) (hat : lv'.ownBlock = lv.ownBlock ∨ ∃ j, lv'.ownBlock = some j ∧ w1.heap.size ≤ j) (h3 : Ext w2 w3) : ODoes bt b g y lv v f' log' w (.returned v) w3 :=
  ⟨rfl, lv', hB.ext h3, ((h1.but _).trans hb).trans (h3.but _), hat.imp id (fun ⟨j, e, hj⟩ => ⟨j, e, Nat.le_trans h1.size hj⟩)⟩
theorem upd_same (f : Nat → Int) (c : Nat) : upd f c (f c) = f := by
  funext i
  unfold upd
  by_cases e : i = c
  · rw [if_pos e, e]
  · rw [if_neg e]
theorem u64_id {x : Int} (h0 : 0 ≤ x) (h1 : x < 18446744073709551616) : U64 x = x := by unfold U64; omega
theorem ofQ32 (a : Int) (w : World) (h0 : 0 ≤ a) (h1 : a < 18446744073709551616) : Calls Tryz.prog 22 #[.int .u64 a] w fun e w' => e = .returned (.int .u32 (a % 4294967296)) ∧ w = w' := ofU32 a w
theorem ofQ64 (a : Int) (w : World) (h0 : 0 ≤ a) (h1 : a < 18446744073709551616) : Calls Tryz.prog 64 #[.int .u64 a] w fun e w' => e = .returned (.int .u64 (U64 a)) ∧ w = w' := by
  rw [u64_id h0 h1]
  exact ofU64 a w h0 h1
theorem upQ32 (x : Int) (w : World) : Calls Tryz.prog 86 #[.int .u32 (x % 4294967296)] w fun e w' => e = .returned (.int .u64 (x % 4294967296)) ∧ w = w' := upU32 _ w (by omega) (by omega)
theorem upQ64 (x : Int) (w : World) : Calls Tryz.prog 140 #[.int .u64 (U64 x)] w fun e w' => e = .returned (.int .u64 (U64 x)) ∧ w = w' := upU64 _ w (U64_range x).1 (U64_range x).2
set_option maxRecDepth 100000 in
theorem has32 (b g : Nat) (y : LY) (f : Nat → Int) (lv : Value) (log : List Acc) (c kind : Int) (w : World) (hB : BD w 121 b g y f lv log) (Y : YOk y) (E : Parts w) :
    Calls Tryz.prog 75 #[.pointer (some ⟨b, 0, none⟩), .int .i64 c, .int .i64 kind] w fun e w' => e = .returned (.bool (kd y c == kind)) ∧ Ext w w' := by
  have CK := Lib.hid (fun w' (hx : Ext w w') => lKind y.V y.W y.C y.P y.S y.a y.n y.cap y.Cu y.Cl y.Ti y.Se y.Ne y.Ma y.Sl y.m c w' Y.sl0 Y.ma0 Y.ma1 (by have := Y.m1; omega) (E.ext hx))
  obtain ⟨q0, q1, q2, q3, q4, q5, q6, q7, q8, q9, q10, q11, q12, q13, -, -, -, -, -, -, -, -⟩ := hB
  unfold kd
  generalize pKind (useL y.V y.n y.Cu y.Cl y.Ti y.Se y.Ne y.Ma y.Sl y.m c).1.toNat = kk at *
  clear Y E
  go_enter Tryz.func75, Tryz.ntmps75
  go_wp2_with fail
  refine (CK.out _ (Ext.refl _)).mono ?_
  rintro e w1 ⟨rfl, X1⟩
  go_wp2
  go_ret
  exact ⟨rfl, X1⟩
theorem has32_nil (c kind : Int) (w : World) : Calls Tryz.prog 75 #[.pointer none, .int .i64 c, .int .i64 kind] w fun e w' => e = .returned (.bool false) ∧ w = w' := by
  go_enter Tryz.func75, Tryz.ntmps75
  go_wp2
  go_ret
  exact ⟨rfl, rfl⟩
theorem counter32 (b g : Nat) (y : LY) (f : Nat → Int) (lv : Value) (log : List Acc) (c : Nat) (w : World) (hB : BD w 121 b g y f lv log) (hc : c < y.m) (f0 : 0 ≤ f c) (f1 : f c < 18446744073709551616) :
    Calls Tryz.prog 166 #[.pointer (some ⟨b, 0, none⟩), .int .i64 c] w fun e w' => e = .returned (.int .u32 (((f c) % 4294967296))) ∧ w = w' := by
  have q14 := hB.q14
  have qc := hB.va.c c hc
  have hcm : (c : Int) < (y.m : Int) := by omega
  have CO : Hid (∀ w, Calls Tryz.prog 22 #[.int .u64 (f c)] w fun e w' => e = .returned (.int .u32 (((f c) % 4294967296))) ∧ w = w') := Lib.hid (fun w => by
    have h := ofQ32 (f c) w f0 f1
    exact h)
  generalize ((f c) % 4294967296) = r at *
  generalize f c = o at *
  clear hB
  go_enter Tryz.func166, Tryz.ntmps166
  go_wp2_with fail
  refine (CO.out _).mono ?_
  rintro e w' ⟨rfl, rfl⟩
  go_wp2
  go_ret
  exact ⟨rfl, rfl⟩
set_option maxRecDepth 100000 in
theorem look32_no (b g : Nat) (y : LY) (f : Nat → Int) (lv : Value) (log : List Acc) (t ak c kind : Int) (w : World) (hB : BD w 121 b g y f lv log) (Y : YOk y) (E : Parts w) (hk : kd y c ≠ kind) :
    Calls Tryz.prog 127 #[.pointer (some ⟨b, 0, none⟩), .int .i64 t, .int .i64 ak, .int .i64 c, .int .i64 kind] w (ODoes 121 b g y lv (.int .u32 0) f log w) := by
  have CH := has32 b g y f lv log c kind w hB Y E
  rw [show (kd y c == kind) = false by simpa using hk] at CH
  have HC := Lib.hid CH
  have HG : Hid (∀ w', Ext w w' → ODoes 121 b g y lv (.int .u32 0) f log w (.returned (.int .u32 0)) w') := Lib.hid (fun w' hx => odoes_same hB hx)
  generalize ODoes 121 b g y lv (.int .u32 0) f log w = G at *
  clear CH hB Y E hk
  go_enter Tryz.func127, Tryz.ntmps127
  go_wp2_with fail
  refine HC.out.mono ?_
  rintro e w1 ⟨rfl, X1⟩
  have HG2 := Lib.hid (HG.out w1 X1)
  go_wp2
  exact HG2.out
set_option maxRecDepth 100000 in
theorem look32_yes (b g : Nat) (y : LY) (f : Nat → Int) (lv : Value) (log : List Acc) (t ak kind : Int) (c : Nat) (w : World) (hB : BD w 121 b g y f lv log) (Y : YOk y) (E : Parts w) (hk : kd y c = kind) (h0 : kind ≠ 0) (f0 : 0 ≤ f c) (f1 : f c < 18446744073709551616) (hl : log.length ≤ 1000) :
    Calls Tryz.prog 127 #[.pointer (some ⟨b, 0, none⟩), .int .i64 t, .int .i64 ak, .int .i64 c, .int .i64 kind] w (ODoes 121 b g y lv (.int .u32 (((f c) % 4294967296))) f (log ++ [⟨t, ak, c, f c, f c⟩]) w) := by
  have hc : c < y.m := by have := kd_in (y := y) (c := c) (by rw [hk]; exact h0); omega
  have CH := has32 b g y f lv log c kind w hB Y E
  rw [show (kd y c == kind) = true by simpa using hk] at CH
  have HC := Lib.hid CH
  have HB := Lib.hid hB
  have CT := Lib.hid (fun w' (hx : Ext w w') => touch32 b g y f lv log t ak c (f c) w' (hB.ext hx) hc Y.m1 hl)
  have HG : Hid (∀ w1 w2 w3 lv', Ext w w1 → BD w2 121 b g y f lv' (log ++ [⟨t, ak, c, f c, f c⟩]) → But (Own b g lv) w1 w2 → (lv'.ownBlock = lv.ownBlock ∨ ∃ j, lv'.ownBlock = some j ∧ w1.heap.size ≤ j) → Ext w2 w3 → ODoes 121 b g y lv (.int .u32 (((f c) % 4294967296))) f (log ++ [⟨t, ak, c, f c, f c⟩]) w (.returned (.int .u32 (((f c) % 4294967296)))) w3) := Lib.hid (fun w1 w2 w3 lv' a1 a2 a3 a4 a5 => odoes_wrap a1 a2 a3 a4 a5)
  have CC := Lib.hid (fun lv' w' (hB' : BD w' 121 b g y f lv' (log ++ [⟨t, ak, c, f c, f c⟩])) => counter32 b g y f lv' (log ++ [⟨t, ak, c, f c, f c⟩]) c w' hB' hc f0 f1)
  have HU := Lib.hid (upd_same f c)
  generalize ODoes 121 b g y lv (.int .u32 (((f c) % 4294967296))) f (log ++ [⟨t, ak, c, f c, f c⟩]) w = G at *
  have q14 := hB.q14
  have qc := hB.va.c c hc
  have hcm : (c : Int) < (y.m : Int) := by omega
  generalize ((f c) % 4294967296) = r at *
  clear CH hB Y E hk
  generalize hfo : f c = o at *
  have HFO := Lib.hid hfo
  clear hfo
  go_enter Tryz.func127, Tryz.ntmps127
  go_wp2_with fail
  refine HC.out.mono ?_
  rintro e w1 ⟨rfl, X1⟩
  replace q14 := X1.cell q14
  replace qc := X1.cell qc
  go_wp2_with fail
  refine (CT.out _ X1).mono ?_
  rintro e w2 ⟨rfl, lv', B2, T2, A2⟩
  rw [HU.out, HFO.out] at B2
  have HB2 := Lib.hid B2
  have HG2 := Lib.hid (HG.out w1 w2 w2 lv' X1 B2 T2 A2 (Ext.refl _))
  clear B2 T2 A2 q14 qc
  go_wp2_with fail
  refine (CC.out _ _ HB2.out).mono ?_
  rintro e w' ⟨rfl, rfl⟩
  go_wp2
  exact HG2.out
/-! the accesses -/
set_option maxRecDepth 100000 in
theorem put32_no (b g : Nat) (y : LY) (f : Nat → Int) (lv : Value) (log : List Acc) (t ak c kind z : Int) (w : World) (hB : BD w 121 b g y f lv log) (Y : YOk y) (E : Parts w) (hk : kd y c ≠ kind) :
    Calls Tryz.prog 71 #[.pointer (some ⟨b, 0, none⟩), .int .i64 t, .int .i64 ak, .int .i64 c, .int .i64 kind, .int .u32 z] w (ODoes 121 b g y lv (.tuple #[]) f log w) := by
  have CH := has32 b g y f lv log c kind w hB Y E
  rw [show (kd y c == kind) = false by simpa using hk] at CH
  have HC := Lib.hid CH
  have HG : Hid (∀ w', Ext w w' → (ODoes 121 b g y lv (.tuple #[]) f log w) (.returned (.tuple #[])) w') := Lib.hid (fun w' hx => odoes_same hB hx)
  generalize (ODoes 121 b g y lv (.tuple #[]) f log w) = G at *
  clear CH hB Y E hk
  go_enter Tryz.func71, Tryz.ntmps71
  go_wp2_with fail
  refine HC.out.mono ?_
  rintro e w1 ⟨rfl, X1⟩
  have HG2 := Lib.hid (HG.out w1 X1)
  go_wp2
  refine bodyPost_ret (v := .tuple #[]) (by simp [results, Tryz.results71, go_sem]) rfl ?_
  exact HG2.out
set_option maxRecDepth 100000 in
theorem put32_yes (b g : Nat) (y : LY) (f : Nat → Int) (lv : Value) (log : List Acc) (t ak kind z : Int) (c : Nat) (w : World) (hB : BD w 121 b g y f lv log) (Y : YOk y) (E : Parts w) (hk : kd y c = kind) (h0 : kind ≠ 0) (z0 : 0 ≤ z) (z1 : z < 4294967296) (f0 : 0 ≤ f c) (f1 : f c < 18446744073709551616) (hl : log.length ≤ 1000) :
    Calls Tryz.prog 71 #[.pointer (some ⟨b, 0, none⟩), .int .i64 t, .int .i64 ak, .int .i64 c, .int .i64 kind, .int .u32 z] w (ODoes 121 b g y lv (.tuple #[]) (upd f c z) (log ++ [⟨t, ak, c, f c, z⟩]) w) := by
  have hc : c < y.m := by have := kd_in (y := y) (c := c) (by rw [hk]; first | assumption | decide); omega
  have CH := has32 b g y f lv log c kind w hB Y E
  rw [show (kd y c == kind) = true by simpa using hk] at CH
  have HC := Lib.hid CH
  have HG : Hid (∀ w1 w2 w3 lv', Ext w w1 → BD w2 121 b g y (upd f c z) lv' (log ++ [⟨t, ak, c, f c, z⟩]) → But (Own b g lv) w1 w2 → (lv'.ownBlock = lv.ownBlock ∨ ∃ j, lv'.ownBlock = some j ∧ w1.heap.size ≤ j) → Ext w2 w3 → (ODoes 121 b g y lv (.tuple #[]) (upd f c z) (log ++ [⟨t, ak, c, f c, z⟩]) w) (.returned (.tuple #[])) w3) := Lib.hid (fun w1 w2 w3 lv' a1 a2 a3 a4 a5 => odoes_wrap a1 a2 a3 a4 a5)
  have q14 := hB.q14
  have qc := hB.va.c c hc
  have hcm : (c : Int) < (y.m : Int) := by omega
  generalize hGd : (ODoes 121 b g y lv (.tuple #[]) (upd f c z) (log ++ [⟨t, ak, c, f c, z⟩]) w) = G at *
  clear hGd
  have CU := Lib.hid (fun w => upU32 z w z0 z1)
  have CT := Lib.hid (fun w' (hx : Ext w w') => touch32 b g y f lv log t ak c z w' (hB.ext hx) hc Y.m1 hl)
  clear CH hB Y E hk
  go_enter Tryz.func71, Tryz.ntmps71
  go_wp2_with fail
  refine HC.out.mono ?_
  rintro e w1 ⟨rfl, X1⟩
  go_wp2_with fail
  refine (CU.out _).mono ?_
  rintro e w' ⟨rfl, rfl⟩
  go_wp2_with fail
  refine (CT.out _ X1).mono ?_
  rintro e w2 ⟨rfl, lv', B2, T2, A2⟩
  have HG2 := Lib.hid (HG.out w1 w2 w2 lv' X1 B2 T2 A2 (Ext.refl _))
  clear B2 T2 A2 q14 qc
  go_wp2
  refine bodyPost_ret (v := .tuple #[]) (by simp [results, Tryz.results71, go_sem]) rfl ?_
  exact HG2.out
set_option maxRecDepth 100000 in
theorem Load32_no (b g : Nat) (y : LY) (f : Nat → Int) (lv : Value) (log : List Acc) (t c : Int) (w : World) (hB : BD w 121 b g y f lv log) (Y : YOk y) (E : Parts w) (hk : kd y c ≠ 1) :
    Calls Tryz.prog 76 #[.pointer (some ⟨b, 0, none⟩), .int .i64 t, .int .i64 c] w (ODoes 121 b g y lv (.int .u32 0) f log w) := by
  have C := Lib.hid (look32_no b g y f lv log t 1 c 1 w hB Y E hk)
  clear hB Y E hk
  go_enter Tryz.func76, Tryz.ntmps76
  go_wp2_with fail
  refine C.out.mono ?_
  rintro e w1 ⟨rfl, R1⟩
  have HR := Lib.hid R1
  clear R1
  go_wp2
  go_ret
  exact ⟨rfl, HR.out⟩
set_option maxRecDepth 100000 in
theorem Load32_yes (b g : Nat) (y : LY) (f : Nat → Int) (lv : Value) (log : List Acc) (t : Int) (c : Nat) (w : World) (hB : BD w 121 b g y f lv log) (Y : YOk y) (E : Parts w) (hk : kd y c = 1)  (f0 : 0 ≤ f c) (f1 : f c < 18446744073709551616) (hl : log.length ≤ 1000) :
    Calls Tryz.prog 76 #[.pointer (some ⟨b, 0, none⟩), .int .i64 t, .int .i64 c] w (ODoes 121 b g y lv (.int .u32 (((f c) % 4294967296))) f (log ++ [⟨t, 1, c, f c, f c⟩]) w) := by
  have C := Lib.hid (look32_yes b g y f lv log t 1 1 c w hB Y E hk (by decide) f0 f1 hl)
  clear hB Y E hk
  go_enter Tryz.func76, Tryz.ntmps76
  go_wp2_with fail
  refine C.out.mono ?_
  rintro e w1 ⟨rfl, R1⟩
  have HR := Lib.hid R1
  clear R1
  go_wp2
  go_ret
  exact ⟨rfl, HR.out⟩
set_option maxRecDepth 100000 in
theorem Store32_no (b g : Nat) (y : LY) (f : Nat → Int) (lv : Value) (log : List Acc) (t c z : Int) (w : World) (hB : BD w 121 b g y f lv log) (Y : YOk y) (E : Parts w) (hk : kd y c ≠ 1) :
    Calls Tryz.prog 21 #[.pointer (some ⟨b, 0, none⟩), .int .i64 t, .int .i64 c, .int .u32 z] w (ODoes 121 b g y lv (.tuple #[]) f log w) := by
  have C := Lib.hid (put32_no b g y f lv log t 2 c 1 z w hB Y E hk)
  clear hB Y E hk
  go_enter Tryz.func21, Tryz.ntmps21
  go_wp2_with fail
  refine C.out.mono ?_
  rintro e w1 ⟨rfl, R1⟩
  have HR := Lib.hid R1
  clear R1
  go_wp2
  refine bodyPost_ret (v := .tuple #[]) (by simp [results, Tryz.results21, go_sem]) rfl ⟨rfl, HR.out⟩
set_option maxRecDepth 100000 in
theorem Store32_yes (b g : Nat) (y : LY) (f : Nat → Int) (lv : Value) (log : List Acc) (t z : Int) (c : Nat) (w : World) (hB : BD w 121 b g y f lv log) (Y : YOk y) (E : Parts w) (hk : kd y c = 1) (z0 : 0 ≤ z) (z1 : z < 4294967296) (f0 : 0 ≤ f c) (f1 : f c < 18446744073709551616) (hl : log.length ≤ 1000) :
    Calls Tryz.prog 21 #[.pointer (some ⟨b, 0, none⟩), .int .i64 t, .int .i64 c, .int .u32 z] w (ODoes 121 b g y lv (.tuple #[]) (upd f c z) (log ++ [⟨t, 2, c, f c, z⟩]) w) := by
  have C := Lib.hid (put32_yes b g y f lv log t 2 1 z c w hB Y E hk (by decide) z0 z1 f0 f1 hl)
  clear hB Y E hk
  go_enter Tryz.func21, Tryz.ntmps21
  go_wp2_with fail
  refine C.out.mono ?_
  rintro e w1 ⟨rfl, R1⟩
  have HR := Lib.hid R1
  clear R1
  go_wp2
  refine bodyPost_ret (v := .tuple #[]) (by simp [results, Tryz.results21, go_sem]) rfl ⟨rfl, HR.out⟩
set_option maxRecDepth 100000 in
theorem has64 (b g : Nat) (y : LY) (f : Nat → Int) (lv : Value) (log : List Acc) (c kind : Int) (w : World) (hB : BD w 152 b g y f lv log) (Y : YOk y) (E : Parts w) :
    Calls Tryz.prog 116 #[.pointer (some ⟨b, 0, none⟩), .int .i64 c, .int .i64 kind] w fun e w' => e = .returned (.bool (kd y c == kind)) ∧ Ext w w' := by
  have CK := Lib.hid (fun w' (hx : Ext w w') => lKind y.V y.W y.C y.P y.S y.a y.n y.cap y.Cu y.Cl y.Ti y.Se y.Ne y.Ma y.Sl y.m c w' Y.sl0 Y.ma0 Y.ma1 (by have := Y.m1; omega) (E.ext hx))
  obtain ⟨q0, q1, q2, q3, q4, q5, q6, q7, q8, q9, q10, q11, q12, q13, -, -, -, -, -, -, -, -⟩ := hB
  unfold kd
  generalize pKind (useL y.V y.n y.Cu y.Cl y.Ti y.Se y.Ne y.Ma y.Sl y.m c).1.toNat = kk at *
  clear Y E
  go_enter Tryz.func116, Tryz.ntmps116
  go_wp2_with fail
  refine (CK.out _ (Ext.refl _)).mono ?_
  rintro e w1 ⟨rfl, X1⟩
  go_wp2
  go_ret
  exact ⟨rfl, X1⟩
theorem has64_nil (c kind : Int) (w : World) : Calls Tryz.prog 116 #[.pointer none, .int .i64 c, .int .i64 kind] w fun e w' => e = .returned (.bool false) ∧ w = w' := by
  go_enter Tryz.func116, Tryz.ntmps116
  go_wp2
  go_ret
  exact ⟨rfl, rfl⟩
theorem counter64 (b g : Nat) (y : LY) (f : Nat → Int) (lv : Value) (log : List Acc) (c : Nat) (w : World) (hB : BD w 152 b g y f lv log) (hc : c < y.m) (f0 : 0 ≤ f c) (f1 : f c < 18446744073709551616) :
    Calls Tryz.prog 169 #[.pointer (some ⟨b, 0, none⟩), .int .i64 c] w fun e w' => e = .returned (.int .u64 ((U64 (f c)))) ∧ w = w' := by
  have q14 := hB.q14
  have qc := hB.va.c c hc
  have hcm : (c : Int) < (y.m : Int) := by omega
  have CO : Hid (∀ w, Calls Tryz.prog 64 #[.int .u64 (f c)] w fun e w' => e = .returned (.int .u64 ((U64 (f c)))) ∧ w = w') := Lib.hid (fun w => by
    have h := ofQ64 (f c) w f0 f1
    exact h)
  generalize (U64 (f c)) = r at *
  generalize f c = o at *
  clear hB
  go_enter Tryz.func169, Tryz.ntmps169
  go_wp2_with fail
  refine (CO.out _).mono ?_
  rintro e w' ⟨rfl, rfl⟩
  go_wp2
  go_ret
  exact ⟨rfl, rfl⟩
set_option maxRecDepth 100000 in
theorem look64_no (b g : Nat) (y : LY) (f : Nat → Int) (lv : Value) (log : List Acc) (t ak c kind : Int) (w : World) (hB : BD w 152 b g y f lv log) (Y : YOk y) (E : Parts w) (hk : kd y c ≠ kind) :
    Calls Tryz.prog 142 #[.pointer (some ⟨b, 0, none⟩), .int .i64 t, .int .i64 ak, .int .i64 c, .int .i64 kind] w (ODoes 152 b g y lv (.int .u64 0) f log w) := by
  have CH := has64 b g y f lv log c kind w hB Y E
  rw [show (kd y c == kind) = false by simpa using hk] at CH
  have HC := Lib.hid CH
  have HG : Hid (∀ w', Ext w w' → ODoes 152 b g y lv (.int .u64 0) f log w (.returned (.int .u64 0)) w') := Lib.hid (fun w' hx => odoes_same hB hx)
  generalize ODoes 152 b g y lv (.int .u64 0) f log w = G at *
  clear CH hB Y E hk
  go_enter Tryz.func142, Tryz.ntmps142
  go_wp2_with fail
  refine HC.out.mono ?_
  rintro e w1 ⟨rfl, X1⟩
  have HG2 := Lib.hid (HG.out w1 X1)
  go_wp2
  exact HG2.out
set_option maxRecDepth 100000 in
theorem look64_yes (b g : Nat) (y : LY) (f : Nat → Int) (lv : Value) (log : List Acc) (t ak kind : Int) (c : Nat) (w : World) (hB : BD w 152 b g y f lv log) (Y : YOk y) (E : Parts w) (hk : kd y c = kind) (h0 : kind ≠ 0) (f0 : 0 ≤ f c) (f1 : f c < 18446744073709551616) (hl : log.length ≤ 1000) :
    Calls Tryz.prog 142 #[.pointer (some ⟨b, 0, none⟩), .int .i64 t, .int .i64 ak, .int .i64 c, .int .i64 kind] w (ODoes 152 b g y lv (.int .u64 ((U64 (f c)))) f (log ++ [⟨t, ak, c, f c, f c⟩]) w) := by
  have hc : c < y.m := by have := kd_in (y := y) (c := c) (by rw [hk]; exact h0); omega
  have CH := has64 b g y f lv log c kind w hB Y E
  rw [show (kd y c == kind) = true by simpa using hk] at CH
  have HC := Lib.hid CH
  have HB := Lib.hid hB
  have CT := Lib.hid (fun w' (hx : Ext w w') => touch64 b g y f lv log t ak c (f c) w' (hB.ext hx) hc Y.m1 hl)
  have HG : Hid (∀ w1 w2 w3 lv', Ext w w1 → BD w2 152 b g y f lv' (log ++ [⟨t, ak, c, f c, f c⟩]) → But (Own b g lv) w1 w2 → (lv'.ownBlock = lv.ownBlock ∨ ∃ j, lv'.ownBlock = some j ∧ w1.heap.size ≤ j) → Ext w2 w3 → ODoes 152 b g y lv (.int .u64 ((U64 (f c)))) f (log ++ [⟨t, ak, c, f c, f c⟩]) w (.returned (.int .u64 ((U64 (f c))))) w3) := Lib.hid (fun w1 w2 w3 lv' a1 a2 a3 a4 a5 => odoes_wrap a1 a2 a3 a4 a5)
  have CC := Lib.hid (fun lv' w' (hB' : BD w' 152 b g y f lv' (log ++ [⟨t, ak, c, f c, f c⟩])) => counter64 b g y f lv' (log ++ [⟨t, ak, c, f c, f c⟩]) c w' hB' hc f0 f1)
  have HU := Lib.hid (upd_same f c)
  generalize ODoes 152 b g y lv (.int .u64 ((U64 (f c)))) f (log ++ [⟨t, ak, c, f c, f c⟩]) w = G at *
  have q14 := hB.q14
  have qc := hB.va.c c hc
  have hcm : (c : Int) < (y.m : Int) := by omega
  generalize (U64 (f c)) = r at *
  clear CH hB Y E hk
  generalize hfo : f c = o at *
  have HFO := Lib.hid hfo
  clear hfo
  go_enter Tryz.func142, Tryz.ntmps142
  go_wp2_with fail
  refine HC.out.mono ?_
  rintro e w1 ⟨rfl, X1⟩
  replace q14 := X1.cell q14
  replace qc := X1.cell qc
  go_wp2_with fail
  refine (CT.out _ X1).mono ?_
  rintro e w2 ⟨rfl, lv', B2, T2, A2⟩
  rw [HU.out, HFO.out] at B2
  have HB2 := Lib.hid B2
  have HG2 := Lib.hid (HG.out w1 w2 w2 lv' X1 B2 T2 A2 (Ext.refl _))
  clear B2 T2 A2 q14 qc
  go_wp2_with fail
  refine (CC.out _ _ HB2.out).mono ?_
  rintro e w' ⟨rfl, rfl⟩
  go_wp2
  exact HG2.out
/-! the accesses -/
set_option maxRecDepth 100000 in
theorem put64_no (b g : Nat) (y : LY) (f : Nat → Int) (lv : Value) (log : List Acc) (t ak c kind z : Int) (w : World) (hB : BD w 152 b g y f lv log) (Y : YOk y) (E : Parts w) (hk : kd y c ≠ kind) :
    Calls Tryz.prog 98 #[.pointer (some ⟨b, 0, none⟩), .int .i64 t, .int .i64 ak, .int .i64 c, .int .i64 kind, .int .u64 z] w (ODoes 152 b g y lv (.tuple #[]) f log w) := by
  have CH := has64 b g y f lv log c kind w hB Y E
  rw [show (kd y c == kind) = false by simpa using hk] at CH
  have HC := Lib.hid CH
  have HG : Hid (∀ w', Ext w w' → (ODoes 152 b g y lv (.tuple #[]) f log w) (.returned (.tuple #[])) w') := Lib.hid (fun w' hx => odoes_same hB hx)
  generalize (ODoes 152 b g y lv (.tuple #[]) f log w) = G at *
  clear CH hB Y E hk
  go_enter Tryz.func98, Tryz.ntmps98
  go_wp2_with fail
  refine HC.out.mono ?_
  rintro e w1 ⟨rfl, X1⟩
  have HG2 := Lib.hid (HG.out w1 X1)
  go_wp2
  refine bodyPost_ret (v := .tuple #[]) (by simp [results, Tryz.results98, go_sem]) rfl ?_
  exact HG2.out
set_option maxRecDepth 100000 in
theorem put64_yes (b g : Nat) (y : LY) (f : Nat → Int) (lv : Value) (log : List Acc) (t ak kind z : Int) (c : Nat) (w : World) (hB : BD w 152 b g y f lv log) (Y : YOk y) (E : Parts w) (hk : kd y c = kind) (h0 : kind ≠ 0) (z0 : 0 ≤ z) (z1 : z < 18446744073709551616) (f0 : 0 ≤ f c) (f1 : f c < 18446744073709551616) (hl : log.length ≤ 1000) :
    Calls Tryz.prog 98 #[.pointer (some ⟨b, 0, none⟩), .int .i64 t, .int .i64 ak, .int .i64 c, .int .i64 kind, .int .u64 z] w (ODoes 152 b g y lv (.tuple #[]) (upd f c z) (log ++ [⟨t, ak, c, f c, z⟩]) w) := by
  have hc : c < y.m := by have := kd_in (y := y) (c := c) (by rw [hk]; first | assumption | decide); omega
  have CH := has64 b g y f lv log c kind w hB Y E
  rw [show (kd y c == kind) = true by simpa using hk] at CH
  have HC := Lib.hid CH
  have HG : Hid (∀ w1 w2 w3 lv', Ext w w1 → BD w2 152 b g y (upd f c z) lv' (log ++ [⟨t, ak, c, f c, z⟩]) → But (Own b g lv) w1 w2 → (lv'.ownBlock = lv.ownBlock ∨ ∃ j, lv'.ownBlock = some j ∧ w1.heap.size ≤ j) → Ext w2 w3 → (ODoes 152 b g y lv (.tuple #[]) (upd f c z) (log ++ [⟨t, ak, c, f c, z⟩]) w) (.returned (.tuple #[])) w3) := Lib.hid (fun w1 w2 w3 lv' a1 a2 a3 a4 a5 => odoes_wrap a1 a2 a3 a4 a5)
  have q14 := hB.q14
  have qc := hB.va.c c hc
  have hcm : (c : Int) < (y.m : Int) := by omega
  generalize hGd : (ODoes 152 b g y lv (.tuple #[]) (upd f c z) (log ++ [⟨t, ak, c, f c, z⟩]) w) = G at *
  clear hGd
  have CU := Lib.hid (fun w => upU64 z w z0 z1)
  have CT := Lib.hid (fun w' (hx : Ext w w') => touch64 b g y f lv log t ak c z w' (hB.ext hx) hc Y.m1 hl)
  clear CH hB Y E hk
  go_enter Tryz.func98, Tryz.ntmps98
  go_wp2_with fail
  refine HC.out.mono ?_
  rintro e w1 ⟨rfl, X1⟩
  go_wp2_with fail
  refine (CU.out _).mono ?_
  rintro e w' ⟨rfl, rfl⟩
  go_wp2_with fail
  refine (CT.out _ X1).mono ?_
  rintro e w2 ⟨rfl, lv', B2, T2, A2⟩
  have HG2 := Lib.hid (HG.out w1 w2 w2 lv' X1 B2 T2 A2 (Ext.refl _))
  clear B2 T2 A2 q14 qc
  go_wp2
  refine bodyPost_ret (v := .tuple #[]) (by simp [results, Tryz.results98, go_sem]) rfl ?_
  exact HG2.out
set_option maxRecDepth 100000 in
theorem Load64_no (b g : Nat) (y : LY) (f : Nat → Int) (lv : Value) (log : List Acc) (t c : Int) (w : World) (hB : BD w 152 b g y f lv log) (Y : YOk y) (E : Parts w) (hk : kd y c ≠ 1) :
    Calls Tryz.prog 97 #[.pointer (some ⟨b, 0, none⟩), .int .i64 t, .int .i64 c] w (ODoes 152 b g y lv (.int .u64 0) f log w) := by
  have C := Lib.hid (look64_no b g y f lv log t 1 c 1 w hB Y E hk)
  clear hB Y E hk
  go_enter Tryz.func97, Tryz.ntmps97
  go_wp2_with fail
  refine C.out.mono ?_
  rintro e w1 ⟨rfl, R1⟩
  have HR := Lib.hid R1
  clear R1
  go_wp2
  go_ret
  exact ⟨rfl, HR.out⟩
set_option maxRecDepth 100000 in
theorem Load64_yes (b g : Nat) (y : LY) (f : Nat → Int) (lv : Value) (log : List Acc) (t : Int) (c : Nat) (w : World) (hB : BD w 152 b g y f lv log) (Y : YOk y) (E : Parts w) (hk : kd y c = 1)  (f0 : 0 ≤ f c) (f1 : f c < 18446744073709551616) (hl : log.length ≤ 1000) :
    Calls Tryz.prog 97 #[.pointer (some ⟨b, 0, none⟩), .int .i64 t, .int .i64 c] w (ODoes 152 b g y lv (.int .u64 ((U64 (f c)))) f (log ++ [⟨t, 1, c, f c, f c⟩]) w) := by
  have C := Lib.hid (look64_yes b g y f lv log t 1 1 c w hB Y E hk (by decide) f0 f1 hl)
  clear hB Y E hk
  go_enter Tryz.func97, Tryz.ntmps97
  go_wp2_with fail
  refine C.out.mono ?_
  rintro e w1 ⟨rfl, R1⟩
  have HR := Lib.hid R1
  clear R1
  go_wp2
  go_ret
  exact ⟨rfl, HR.out⟩
set_option maxRecDepth 100000 in
theorem Store64_no (b g : Nat) (y : LY) (f : Nat → Int) (lv : Value) (log : List Acc) (t c z : Int) (w : World) (hB : BD w 152 b g y f lv log) (Y : YOk y) (E : Parts w) (hk : kd y c ≠ 1) :
    Calls Tryz.prog 48 #[.pointer (some ⟨b, 0, none⟩), .int .i64 t, .int .i64 c, .int .u64 z] w (ODoes 152 b g y lv (.tuple #[]) f log w) := by
  have C := Lib.hid (put64_no b g y f lv log t 2 c 1 z w hB Y E hk)
  clear hB Y E hk
  go_enter Tryz.func48, Tryz.ntmps48
  go_wp2_with fail
  refine C.out.mono ?_
  rintro e w1 ⟨rfl, R1⟩
  have HR := Lib.hid R1
  clear R1
  go_wp2
  refine bodyPost_ret (v := .tuple #[]) (by simp [results, Tryz.results48, go_sem]) rfl ⟨rfl, HR.out⟩
set_option maxRecDepth 100000 in
theorem Store64_yes (b g : Nat) (y : LY) (f : Nat → Int) (lv : Value) (log : List Acc) (t z : Int) (c : Nat) (w : World) (hB : BD w 152 b g y f lv log) (Y : YOk y) (E : Parts w) (hk : kd y c = 1) (z0 : 0 ≤ z) (z1 : z < 18446744073709551616) (f0 : 0 ≤ f c) (f1 : f c < 18446744073709551616) (hl : log.length ≤ 1000) :
    Calls Tryz.prog 48 #[.pointer (some ⟨b, 0, none⟩), .int .i64 t, .int .i64 c, .int .u64 z] w (ODoes 152 b g y lv (.tuple #[]) (upd f c z) (log ++ [⟨t, 2, c, f c, z⟩]) w) := by
  have C := Lib.hid (put64_yes b g y f lv log t 2 1 z c w hB Y E hk (by decide) z0 z1 f0 f1 hl)
  clear hB Y E hk
  go_enter Tryz.func48, Tryz.ntmps48
  go_wp2_with fail
  refine C.out.mono ?_
  rintro e w1 ⟨rfl, R1⟩
  have HR := Lib.hid R1
  clear R1
  go_wp2
  refine bodyPost_ret (v := .tuple #[]) (by simp [results, Tryz.results48, go_sem]) rfl ⟨rfl, HR.out⟩
end Go.Proofs.YtkmfamidahlgiaaGreatDoor
