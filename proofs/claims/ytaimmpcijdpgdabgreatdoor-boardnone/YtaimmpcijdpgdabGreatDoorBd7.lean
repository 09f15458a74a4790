/- What an access comes to, by the laws' small and great. -/
import Derived.Test.YtaimmpcijdpgdabGreatDoorBd6
namespace Go.Proofs.YtaimmpcijdpgdabGreatDoor
open Go.RowKit
set_option linter.unusedVariables false
set_option linter.unusedSimpArgs false
set_option maxHeartbeats 2000000
attribute [local go_sem] later_cell later_frozen later_const
/-- an access that is asked for -/
structure DoR where
  t : Int
  k : Int
  c : Int
  n : Int
  o : Int
  z : Int
/-- how a board stands: cells, accesses; what was told -/
structure ST where
  f : Nat → Int
  l : List Acc
  v : Int
  b : Bool
def plusW (W x n : Int) : Int := if W = 32 then (x + n) % 4294967296 else U64 (x + n)
def lookS (y : LY) (W : Int) (kind ak : Int) (d : DoR) (f : Nat → Int) (l : List Acc) : ST :=
  if kd y d.c = kind then ⟨f, l ++ [⟨d.t, ak, d.c, f d.c.toNat, f d.c.toNat⟩], cutS W (f d.c.toNat), false⟩ else ⟨f, l, 0, false⟩
def putS (y : LY) (W : Int) (kind ak : Int) (d : DoR) (f : Nat → Int) (l : List Acc) : ST :=
  if kd y d.c = kind then ⟨upd f d.c.toNat (cutS W d.z), l ++ [⟨d.t, ak, d.c, f d.c.toNat, cutS W d.z⟩], 0, false⟩ else ⟨f, l, 0, false⟩
def addS (y : LY) (W : Int) (d : DoR) (f : Nat → Int) (l : List Acc) : ST :=
  if kd y d.c = 1 then ⟨upd f d.c.toNat (plusW W (cutS W (f d.c.toNat)) d.n), l ++ [⟨d.t, 3, d.c, f d.c.toNat, plusW W (cutS W (f d.c.toNat)) d.n⟩], cutS W (f d.c.toNat), false⟩ else ⟨f, l, 0, false⟩
def swapS (y : LY) (W : Int) (d : DoR) (f : Nat → Int) (l : List Acc) : ST :=
  if kd y d.c = 1 then (if cutS W (f d.c.toNat) = cutS W d.o then ⟨upd f d.c.toNat (cutS W d.z), l ++ [⟨d.t, 4, d.c, f d.c.toNat, cutS W d.z⟩], 0, true⟩ else ⟨f, l ++ [⟨d.t, 5, d.c, f d.c.toNat, f d.c.toNat⟩], 0, false⟩) else ⟨f, l, 0, false⟩
def getS (y : LY) (d : DoR) (f : Nat → Int) (l : List Acc) : ST :=
  if kd y (plc y.Sl y.C d.c) = 3 then ⟨f, l ++ [⟨d.t, 6, plc y.Sl y.C d.c, f (plc y.Sl y.C d.c).toNat, f (plc y.Sl y.C d.c).toNat⟩], f (plc y.Sl y.C d.c).toNat, false⟩ else ⟨f, l, 0, false⟩
def setS (y : LY) (d : DoR) (f : Nat → Int) (l : List Acc) : ST :=
  if kd y (plc y.Sl y.C d.c) = 3 then ⟨upd f (plc y.Sl y.C d.c).toNat (U64 d.n), l ++ [⟨d.t, 7, plc y.Sl y.C d.c, f (plc y.Sl y.C d.c).toNat, U64 d.n⟩], 0, false⟩ else ⟨f, l, 0, false⟩
def stp (y : LY) (W : Int) (d : DoR) (f : Nat → Int) (l : List Acc) : ST :=
  if d.k = 1 then lookS y W 1 1 d f l else if d.k = 2 then putS y W 1 2 d f l else if d.k = 3 then addS y W d f l else if d.k = 4 then swapS y W d f l
  else if d.k = 6 then lookS y W 2 6 d f l else if d.k = 7 then putS y W 2 7 d f l else if d.k = 8 then getS y d f l else if d.k = 9 then setS y d f l else ⟨f, l, 0, false⟩
theorem plusW64 (x n : Int) : plusW 64 x n = U64 (x + n) := rfl
theorem cut32 (x : Int) : cutS 32 x = x % 4294967296 := rfl
theorem cut64 (x : Int) : cutS 64 x = x := rfl
theorem wrap_back {x : Int} (h0 : 0 ≤ x) (h1 : x < 18446744073709551616) : IntKind.u64.wrap (wrap64 x) = x := by rw [IntKind.wrap_u64]; unfold wrap64; omega
set_option maxRecDepth 100000 in
theorem small_Load_no (b g : Nat) (y : LY) (f : Nat → Int) (lv : Value) (log : List Acc) (d : DoR) (w : World) (hB : BD w 74 b g y f lv log) (Y : YOk y) (E : Parts w) (hl : log.length ≤ 1000) (fr : ∀ i, i < y.m → 0 ≤ f i ∧ f i < 18446744073709551616) (o0 : 0 ≤ d.o) (o1 : d.o < 18446744073709551616) (z0 : 0 ≤ d.z) (z1 : d.z < 18446744073709551616) (hd : d.k = 1) (hk : kd y d.c ≠ 1) :
    Calls Tryz.prog 13 #[.pointer (some ⟨b, 0, none⟩), .agg #[.int .i64 d.t, .int .i64 d.k, .int .i64 d.c, .int .i64 d.n, .int .u64 d.o, .int .u64 d.z]] w (ODoes 74 b g y lv (.tuple #[.int .u64 (0), .bool false]) f log w) := by
  rw [hd]
  have C := Lib.hid (fun w' (hx : Ext w w') => Load32_no b g y f lv log d.t d.c w' (hB.ext hx) Y (E.ext hx) hk)
  have HG : Hid (∀ w1 w2 lv', Ext w w1 → BD w2 74 b g y f lv' log → But (Own b g lv) w1 w2 → (lv'.ownBlock = lv.ownBlock ∨ ∃ j, lv'.ownBlock = some j ∧ w1.heap.size ≤ j) → ODoes 74 b g y lv (.tuple #[.int .u64 (0), .bool false]) f log w (.returned (.tuple #[.int .u64 (0), .bool false])) w2) := Lib.hid (fun w1 w2 lv' a1 a2 a3 a4 => odoes_wrap a1 a2 a3 a4 (Ext.refl _))
  clear hB Y E fr o0 o1 z0 z1 hd hl
  go_enter Tryz.func13, Tryz.ntmps13
  go_wp2_with fail
  refine (C.out _ ((Ext.refl w).alloc _)).mono ?_
  rintro e w2 ⟨rfl, lv', B2, T2, A2⟩
  have HG2 := Lib.hid (HG.out _ w2 lv' ((Ext.refl w).alloc _) B2 T2 A2)
  clear B2 T2 A2
  go_wp2
  go_ret2
  exact HG2.out
set_option maxRecDepth 100000 in
theorem small_Load_yes (b g : Nat) (y : LY) (f : Nat → Int) (lv : Value) (log : List Acc) (d : DoR) (w : World) (hB : BD w 74 b g y f lv log) (Y : YOk y) (E : Parts w) (hl : log.length ≤ 1000) (fr : ∀ i, i < y.m → 0 ≤ f i ∧ f i < 18446744073709551616) (o0 : 0 ≤ d.o) (o1 : d.o < 18446744073709551616) (z0 : 0 ≤ d.z) (z1 : d.z < 18446744073709551616) (hd : d.k = 1) (hk : kd y d.c = 1) :
    Calls Tryz.prog 13 #[.pointer (some ⟨b, 0, none⟩), .agg #[.int .i64 d.t, .int .i64 d.k, .int .i64 d.c, .int .i64 d.n, .int .u64 d.o, .int .u64 d.z]] w (ODoes 74 b g y lv (.tuple #[.int .u64 (cutS 32 (f d.c.toNat)), .bool false]) f (log ++ [⟨d.t, 1, d.c, f d.c.toNat, f d.c.toNat⟩]) w) := by
  rw [hd]
  obtain ⟨c, hc⟩ : ∃ c : Nat, d.c = c := ⟨d.c.toNat, by have := kd_in (y := y) (c := d.c) (by rw [hk]; decide); omega⟩
  have hcm : c < y.m := by have := kd_in (y := y) (c := d.c) (by rw [hk]; decide); omega
  obtain ⟨f0, f1⟩ := fr c hcm
  rw [hc] at hk ⊢
  rw [show ((c : Nat) : Int).toNat = c by omega]
  have C0 := fun w' (hx : Ext w w') => Load32_yes b g y f lv log d.t c w' (hB.ext hx) Y (E.ext hx) hk f0 f1 hl
  rw [cut32]
  have HG : Hid (∀ w1 w2 lv', Ext w w1 → BD w2 74 b g y f lv' (log ++ [⟨d.t, 1, (c : Int), f c, f c⟩]) → But (Own b g lv) w1 w2 → (lv'.ownBlock = lv.ownBlock ∨ ∃ j, lv'.ownBlock = some j ∧ w1.heap.size ≤ j) → ODoes 74 b g y lv (.tuple #[.int .u64 (f c % 4294967296), .bool false]) f (log ++ [⟨d.t, 1, (c : Int), f c, f c⟩]) w (.returned (.tuple #[.int .u64 (f c % 4294967296), .bool false])) w2) := Lib.hid (fun w1 w2 lv' a1 a2 a3 a4 => odoes_wrap a1 a2 a3 a4 (Ext.refl _))
  have r0 : 0 ≤ f c % 4294967296 := by omega
  have r1 : f c % 4294967296 < 4294967296 := by omega
  have C := Lib.hid C0
  clear hB Y E fr o0 o1 z0 z1 hd hl
  clear C0
  generalize f c % 4294967296 = r at *
  go_enter Tryz.func13, Tryz.ntmps13
  go_wp2_with fail
  refine (C.out _ ((Ext.refl w).alloc _)).mono ?_
  rintro e w2 ⟨rfl, lv', B2, T2, A2⟩
  have HG2 := Lib.hid (HG.out _ w2 lv' ((Ext.refl w).alloc _) B2 T2 A2)
  clear B2 T2 A2
  go_wp2
  go_ret2
  exact HG2.out
set_option maxRecDepth 100000 in
theorem small_Store_no (b g : Nat) (y : LY) (f : Nat → Int) (lv : Value) (log : List Acc) (d : DoR) (w : World) (hB : BD w 74 b g y f lv log) (Y : YOk y) (E : Parts w) (hl : log.length ≤ 1000) (fr : ∀ i, i < y.m → 0 ≤ f i ∧ f i < 18446744073709551616) (o0 : 0 ≤ d.o) (o1 : d.o < 18446744073709551616) (z0 : 0 ≤ d.z) (z1 : d.z < 18446744073709551616) (hd : d.k = 2) (hk : kd y d.c ≠ 1) :
    Calls Tryz.prog 13 #[.pointer (some ⟨b, 0, none⟩), .agg #[.int .i64 d.t, .int .i64 d.k, .int .i64 d.c, .int .i64 d.n, .int .u64 d.o, .int .u64 d.z]] w (ODoes 74 b g y lv (.tuple #[.int .u64 (0), .bool false]) f log w) := by
  rw [hd]
  have C := Lib.hid (fun w' (hx : Ext w w') => Store32_no b g y f lv log d.t d.c (d.z % 4294967296) w' (hB.ext hx) Y (E.ext hx) hk)
  have HG : Hid (∀ w1 w2 lv', Ext w w1 → BD w2 74 b g y f lv' log → But (Own b g lv) w1 w2 → (lv'.ownBlock = lv.ownBlock ∨ ∃ j, lv'.ownBlock = some j ∧ w1.heap.size ≤ j) → ODoes 74 b g y lv (.tuple #[.int .u64 (0), .bool false]) f log w (.returned (.tuple #[.int .u64 (0), .bool false])) w2) := Lib.hid (fun w1 w2 lv' a1 a2 a3 a4 => odoes_wrap a1 a2 a3 a4 (Ext.refl _))
  clear hB Y E fr o0 o1 z0 z1 hd hl
  go_enter Tryz.func13, Tryz.ntmps13
  go_wp2_with fail
  refine (C.out _ ((Ext.refl w).alloc _)).mono ?_
  rintro e w2 ⟨rfl, lv', B2, T2, A2⟩
  have HG2 := Lib.hid (HG.out _ w2 lv' ((Ext.refl w).alloc _) B2 T2 A2)
  clear B2 T2 A2
  go_wp2
  go_ret2
  exact HG2.out
set_option maxRecDepth 100000 in
theorem small_Store_yes (b g : Nat) (y : LY) (f : Nat → Int) (lv : Value) (log : List Acc) (d : DoR) (w : World) (hB : BD w 74 b g y f lv log) (Y : YOk y) (E : Parts w) (hl : log.length ≤ 1000) (fr : ∀ i, i < y.m → 0 ≤ f i ∧ f i < 18446744073709551616) (o0 : 0 ≤ d.o) (o1 : d.o < 18446744073709551616) (z0 : 0 ≤ d.z) (z1 : d.z < 18446744073709551616) (hd : d.k = 2) (hk : kd y d.c = 1) :
    Calls Tryz.prog 13 #[.pointer (some ⟨b, 0, none⟩), .agg #[.int .i64 d.t, .int .i64 d.k, .int .i64 d.c, .int .i64 d.n, .int .u64 d.o, .int .u64 d.z]] w (ODoes 74 b g y lv (.tuple #[.int .u64 (0), .bool false]) (upd f d.c.toNat (cutS 32 d.z)) (log ++ [⟨d.t, 2, d.c, f d.c.toNat, cutS 32 d.z⟩]) w) := by
  rw [hd]
  obtain ⟨c, hc⟩ : ∃ c : Nat, d.c = c := ⟨d.c.toNat, by have := kd_in (y := y) (c := d.c) (by rw [hk]; decide); omega⟩
  have hcm : c < y.m := by have := kd_in (y := y) (c := d.c) (by rw [hk]; decide); omega
  obtain ⟨f0, f1⟩ := fr c hcm
  rw [hc] at hk ⊢
  rw [show ((c : Nat) : Int).toNat = c by omega]
  have C0 := fun w' (hx : Ext w w') => Store32_yes b g y f lv log d.t (d.z % 4294967296) c w' (hB.ext hx) Y (E.ext hx) hk (by omega) (by omega) f0 f1 hl
  rw [cut32]
  have HG : Hid (∀ w1 w2 lv', Ext w w1 → BD w2 74 b g y (upd f c (d.z % 4294967296)) lv' (log ++ [⟨d.t, 2, (c : Int), f c, (d.z % 4294967296)⟩]) → But (Own b g lv) w1 w2 → (lv'.ownBlock = lv.ownBlock ∨ ∃ j, lv'.ownBlock = some j ∧ w1.heap.size ≤ j) → ODoes 74 b g y lv (.tuple #[.int .u64 (0), .bool false]) (upd f c (d.z % 4294967296)) (log ++ [⟨d.t, 2, (c : Int), f c, (d.z % 4294967296)⟩]) w (.returned (.tuple #[.int .u64 (0), .bool false])) w2) := Lib.hid (fun w1 w2 lv' a1 a2 a3 a4 => odoes_wrap a1 a2 a3 a4 (Ext.refl _))
  have C := Lib.hid C0
  clear hB Y E fr o0 o1 z0 z1 hd hl
  clear C0
  go_enter Tryz.func13, Tryz.ntmps13
  go_wp2_with fail
  refine (C.out _ ((Ext.refl w).alloc _)).mono ?_
  rintro e w2 ⟨rfl, lv', B2, T2, A2⟩
  have HG2 := Lib.hid (HG.out _ w2 lv' ((Ext.refl w).alloc _) B2 T2 A2)
  clear B2 T2 A2
  go_wp2
  go_ret2
  exact HG2.out
set_option maxRecDepth 100000 in
theorem small_Add_no (b g : Nat) (y : LY) (f : Nat → Int) (lv : Value) (log : List Acc) (d : DoR) (w : World) (hB : BD w 74 b g y f lv log) (Y : YOk y) (E : Parts w) (hl : log.length ≤ 1000) (fr : ∀ i, i < y.m → 0 ≤ f i ∧ f i < 18446744073709551616) (o0 : 0 ≤ d.o) (o1 : d.o < 18446744073709551616) (z0 : 0 ≤ d.z) (z1 : d.z < 18446744073709551616) (hd : d.k = 3) (hk : kd y d.c ≠ 1) :
    Calls Tryz.prog 13 #[.pointer (some ⟨b, 0, none⟩), .agg #[.int .i64 d.t, .int .i64 d.k, .int .i64 d.c, .int .i64 d.n, .int .u64 d.o, .int .u64 d.z]] w (ODoes 74 b g y lv (.tuple #[.int .u64 (0), .bool false]) f log w) := by
  rw [hd]
  have C := Lib.hid (fun w' (hx : Ext w w') => Add32_no b g y f lv log d.t d.c d.n w' (hB.ext hx) Y (E.ext hx) hk)
  have HG : Hid (∀ w1 w2 lv', Ext w w1 → BD w2 74 b g y f lv' log → But (Own b g lv) w1 w2 → (lv'.ownBlock = lv.ownBlock ∨ ∃ j, lv'.ownBlock = some j ∧ w1.heap.size ≤ j) → ODoes 74 b g y lv (.tuple #[.int .u64 (0), .bool false]) f log w (.returned (.tuple #[.int .u64 (0), .bool false])) w2) := Lib.hid (fun w1 w2 lv' a1 a2 a3 a4 => odoes_wrap a1 a2 a3 a4 (Ext.refl _))
  clear hB Y E fr o0 o1 z0 z1 hd hl
  go_enter Tryz.func13, Tryz.ntmps13
  go_wp2_with fail
  refine (C.out _ ((Ext.refl w).alloc _)).mono ?_
  rintro e w2 ⟨rfl, lv', B2, T2, A2⟩
  have HG2 := Lib.hid (HG.out _ w2 lv' ((Ext.refl w).alloc _) B2 T2 A2)
  clear B2 T2 A2
  go_wp2
  go_ret2
  exact HG2.out
set_option maxRecDepth 100000 in
theorem small_Add_yes (b g : Nat) (y : LY) (f : Nat → Int) (lv : Value) (log : List Acc) (d : DoR) (w : World) (hB : BD w 74 b g y f lv log) (Y : YOk y) (E : Parts w) (hl : log.length ≤ 1000) (fr : ∀ i, i < y.m → 0 ≤ f i ∧ f i < 18446744073709551616) (o0 : 0 ≤ d.o) (o1 : d.o < 18446744073709551616) (z0 : 0 ≤ d.z) (z1 : d.z < 18446744073709551616) (hd : d.k = 3) (hk : kd y d.c = 1) :
    Calls Tryz.prog 13 #[.pointer (some ⟨b, 0, none⟩), .agg #[.int .i64 d.t, .int .i64 d.k, .int .i64 d.c, .int .i64 d.n, .int .u64 d.o, .int .u64 d.z]] w (ODoes 74 b g y lv (.tuple #[.int .u64 (cutS 32 (f d.c.toNat)), .bool false]) (upd f d.c.toNat (plusW 32 (cutS 32 (f d.c.toNat)) d.n)) (log ++ [⟨d.t, 3, d.c, f d.c.toNat, plusW 32 (cutS 32 (f d.c.toNat)) d.n⟩]) w) := by
  rw [hd]
  obtain ⟨c, hc⟩ : ∃ c : Nat, d.c = c := ⟨d.c.toNat, by have := kd_in (y := y) (c := d.c) (by rw [hk]; decide); omega⟩
  have hcm : c < y.m := by have := kd_in (y := y) (c := d.c) (by rw [hk]; decide); omega
  obtain ⟨f0, f1⟩ := fr c hcm
  rw [hc] at hk ⊢
  rw [show ((c : Nat) : Int).toNat = c by omega]
  have C0 := fun w' (hx : Ext w w') => Add32_yes b g y f lv log d.t d.n c w' (hB.ext hx) Y (E.ext hx) hk f0 f1 hl
  rw [show plusW 32 (cutS 32 (f c)) d.n = (f c % 4294967296 + d.n) % 4294967296 from rfl, cut32]
  have HG : Hid (∀ w1 w2 lv', Ext w w1 → BD w2 74 b g y (upd f c ((f c % 4294967296 + d.n) % 4294967296)) lv' (log ++ [⟨d.t, 3, (c : Int), f c, ((f c % 4294967296 + d.n) % 4294967296)⟩]) → But (Own b g lv) w1 w2 → (lv'.ownBlock = lv.ownBlock ∨ ∃ j, lv'.ownBlock = some j ∧ w1.heap.size ≤ j) → ODoes 74 b g y lv (.tuple #[.int .u64 (f c % 4294967296), .bool false]) (upd f c ((f c % 4294967296 + d.n) % 4294967296)) (log ++ [⟨d.t, 3, (c : Int), f c, ((f c % 4294967296 + d.n) % 4294967296)⟩]) w (.returned (.tuple #[.int .u64 (f c % 4294967296), .bool false])) w2) := Lib.hid (fun w1 w2 lv' a1 a2 a3 a4 => odoes_wrap a1 a2 a3 a4 (Ext.refl _))
  have r0 : 0 ≤ f c % 4294967296 := by omega
  have r1 : f c % 4294967296 < 4294967296 := by omega
  have C := Lib.hid C0
  clear hB Y E fr o0 o1 z0 z1 hd hl
  clear C0
  generalize (f c % 4294967296 + d.n) % 4294967296 = zz at *
  generalize f c % 4294967296 = r at *
  go_enter Tryz.func13, Tryz.ntmps13
  go_wp2_with fail
  refine (C.out _ ((Ext.refl w).alloc _)).mono ?_
  rintro e w2 ⟨rfl, lv', B2, T2, A2⟩
  have HG2 := Lib.hid (HG.out _ w2 lv' ((Ext.refl w).alloc _) B2 T2 A2)
  clear B2 T2 A2
  go_wp2
  go_ret2
  exact HG2.out
set_option maxRecDepth 100000 in
theorem small_Swap_no (b g : Nat) (y : LY) (f : Nat → Int) (lv : Value) (log : List Acc) (d : DoR) (w : World) (hB : BD w 74 b g y f lv log) (Y : YOk y) (E : Parts w) (hl : log.length ≤ 1000) (fr : ∀ i, i < y.m → 0 ≤ f i ∧ f i < 18446744073709551616) (o0 : 0 ≤ d.o) (o1 : d.o < 18446744073709551616) (z0 : 0 ≤ d.z) (z1 : d.z < 18446744073709551616) (hd : d.k = 4) (hk : kd y d.c ≠ 1) :
    Calls Tryz.prog 13 #[.pointer (some ⟨b, 0, none⟩), .agg #[.int .i64 d.t, .int .i64 d.k, .int .i64 d.c, .int .i64 d.n, .int .u64 d.o, .int .u64 d.z]] w (ODoes 74 b g y lv (.tuple #[.int .u64 (0), .bool false]) f log w) := by
  rw [hd]
  have C := Lib.hid (fun w' (hx : Ext w w') => Swap32_no b g y f lv log d.t d.c (d.o % 4294967296) (d.z % 4294967296) w' (hB.ext hx) Y (E.ext hx) hk)
  have HG : Hid (∀ w1 w2 lv', Ext w w1 → BD w2 74 b g y f lv' log → But (Own b g lv) w1 w2 → (lv'.ownBlock = lv.ownBlock ∨ ∃ j, lv'.ownBlock = some j ∧ w1.heap.size ≤ j) → ODoes 74 b g y lv (.tuple #[.int .u64 (0), .bool false]) f log w (.returned (.tuple #[.int .u64 (0), .bool false])) w2) := Lib.hid (fun w1 w2 lv' a1 a2 a3 a4 => odoes_wrap a1 a2 a3 a4 (Ext.refl _))
  clear hB Y E fr o0 o1 z0 z1 hd hl
  go_enter Tryz.func13, Tryz.ntmps13
  go_wp2_with fail
  refine (C.out _ ((Ext.refl w).alloc _)).mono ?_
  rintro e w2 ⟨rfl, lv', B2, T2, A2⟩
  have HG2 := Lib.hid (HG.out _ w2 lv' ((Ext.refl w).alloc _) B2 T2 A2)
  clear B2 T2 A2
  go_wp2
  go_ret2
  exact HG2.out
set_option maxRecDepth 100000 in
theorem small_Swap_miss (b g : Nat) (y : LY) (f : Nat → Int) (lv : Value) (log : List Acc) (d : DoR) (w : World) (hB : BD w 74 b g y f lv log) (Y : YOk y) (E : Parts w) (hl : log.length ≤ 1000) (fr : ∀ i, i < y.m → 0 ≤ f i ∧ f i < 18446744073709551616) (o0 : 0 ≤ d.o) (o1 : d.o < 18446744073709551616) (z0 : 0 ≤ d.z) (z1 : d.z < 18446744073709551616) (hd : d.k = 4) (hk : kd y d.c = 1) (ho : ¬ cutS 32 (f d.c.toNat) = cutS 32 d.o) :
    Calls Tryz.prog 13 #[.pointer (some ⟨b, 0, none⟩), .agg #[.int .i64 d.t, .int .i64 d.k, .int .i64 d.c, .int .i64 d.n, .int .u64 d.o, .int .u64 d.z]] w (ODoes 74 b g y lv (.tuple #[.int .u64 (0), .bool false]) f (log ++ [⟨d.t, 5, d.c, f d.c.toNat, f d.c.toNat⟩]) w) := by
  rw [hd]
  obtain ⟨c, hc⟩ : ∃ c : Nat, d.c = c := ⟨d.c.toNat, by have := kd_in (y := y) (c := d.c) (by rw [hk]; decide); omega⟩
  have hcm : c < y.m := by have := kd_in (y := y) (c := d.c) (by rw [hk]; decide); omega
  obtain ⟨f0, f1⟩ := fr c hcm
  rw [hc] at hk ⊢
  rw [show ((c : Nat) : Int).toNat = c by omega]
  rw [hc, show ((c : Nat) : Int).toNat = c by omega, cut32, cut32] at ho
  have C := Lib.hid (fun w' (hx : Ext w w') => Swap32_miss b g y f lv log d.t (d.o % 4294967296) (d.z % 4294967296) c w' (hB.ext hx) Y (E.ext hx) hk (by simpa using ho) f0 f1 hl)
  have HG : Hid (∀ w1 w2 lv', Ext w w1 → BD w2 74 b g y f lv' (log ++ [⟨d.t, 5, (c : Int), f c, f c⟩]) → But (Own b g lv) w1 w2 → (lv'.ownBlock = lv.ownBlock ∨ ∃ j, lv'.ownBlock = some j ∧ w1.heap.size ≤ j) → ODoes 74 b g y lv (.tuple #[.int .u64 (0), .bool false]) f (log ++ [⟨d.t, 5, (c : Int), f c, f c⟩]) w (.returned (.tuple #[.int .u64 (0), .bool false])) w2) := Lib.hid (fun w1 w2 lv' a1 a2 a3 a4 => odoes_wrap a1 a2 a3 a4 (Ext.refl _))
  clear hB Y E fr o0 o1 z0 z1 hd hl
  clear ho
  go_enter Tryz.func13, Tryz.ntmps13
  go_wp2_with fail
  refine (C.out _ ((Ext.refl w).alloc _)).mono ?_
  rintro e w2 ⟨rfl, lv', B2, T2, A2⟩
  have HG2 := Lib.hid (HG.out _ w2 lv' ((Ext.refl w).alloc _) B2 T2 A2)
  clear B2 T2 A2
  go_wp2
  go_ret2
  exact HG2.out
set_option maxRecDepth 100000 in
theorem small_Swap_yes (b g : Nat) (y : LY) (f : Nat → Int) (lv : Value) (log : List Acc) (d : DoR) (w : World) (hB : BD w 74 b g y f lv log) (Y : YOk y) (E : Parts w) (hl : log.length ≤ 1000) (fr : ∀ i, i < y.m → 0 ≤ f i ∧ f i < 18446744073709551616) (o0 : 0 ≤ d.o) (o1 : d.o < 18446744073709551616) (z0 : 0 ≤ d.z) (z1 : d.z < 18446744073709551616) (hd : d.k = 4) (hk : kd y d.c = 1) (ho : cutS 32 (f d.c.toNat) = cutS 32 d.o) :
    Calls Tryz.prog 13 #[.pointer (some ⟨b, 0, none⟩), .agg #[.int .i64 d.t, .int .i64 d.k, .int .i64 d.c, .int .i64 d.n, .int .u64 d.o, .int .u64 d.z]] w (ODoes 74 b g y lv (.tuple #[.int .u64 (0), .bool true]) (upd f d.c.toNat (cutS 32 d.z)) (log ++ [⟨d.t, 4, d.c, f d.c.toNat, cutS 32 d.z⟩]) w) := by
  rw [hd]
  obtain ⟨c, hc⟩ : ∃ c : Nat, d.c = c := ⟨d.c.toNat, by have := kd_in (y := y) (c := d.c) (by rw [hk]; decide); omega⟩
  have hcm : c < y.m := by have := kd_in (y := y) (c := d.c) (by rw [hk]; decide); omega
  obtain ⟨f0, f1⟩ := fr c hcm
  rw [hc] at hk ⊢
  rw [show ((c : Nat) : Int).toNat = c by omega]
  rw [hc, show ((c : Nat) : Int).toNat = c by omega, cut32, cut32] at ho
  have C := Lib.hid (fun w' (hx : Ext w w') => Swap32_yes b g y f lv log d.t (d.o % 4294967296) (d.z % 4294967296) c w' (hB.ext hx) Y (E.ext hx) hk (by simpa using ho) (by omega) (by omega) f0 f1 hl)
  rw [cut32]
  have HG : Hid (∀ w1 w2 lv', Ext w w1 → BD w2 74 b g y (upd f c (d.z % 4294967296)) lv' (log ++ [⟨d.t, 4, (c : Int), f c, (d.z % 4294967296)⟩]) → But (Own b g lv) w1 w2 → (lv'.ownBlock = lv.ownBlock ∨ ∃ j, lv'.ownBlock = some j ∧ w1.heap.size ≤ j) → ODoes 74 b g y lv (.tuple #[.int .u64 (0), .bool true]) (upd f c (d.z % 4294967296)) (log ++ [⟨d.t, 4, (c : Int), f c, (d.z % 4294967296)⟩]) w (.returned (.tuple #[.int .u64 (0), .bool true])) w2) := Lib.hid (fun w1 w2 lv' a1 a2 a3 a4 => odoes_wrap a1 a2 a3 a4 (Ext.refl _))
  clear hB Y E fr o0 o1 z0 z1 hd hl
  clear ho
  go_enter Tryz.func13, Tryz.ntmps13
  go_wp2_with fail
  refine (C.out _ ((Ext.refl w).alloc _)).mono ?_
  rintro e w2 ⟨rfl, lv', B2, T2, A2⟩
  have HG2 := Lib.hid (HG.out _ w2 lv' ((Ext.refl w).alloc _) B2 T2 A2)
  clear B2 T2 A2
  go_wp2
  go_ret2
  exact HG2.out
set_option maxRecDepth 100000 in
theorem small_Read_no (b g : Nat) (y : LY) (f : Nat → Int) (lv : Value) (log : List Acc) (d : DoR) (w : World) (hB : BD w 74 b g y f lv log) (Y : YOk y) (E : Parts w) (hl : log.length ≤ 1000) (fr : ∀ i, i < y.m → 0 ≤ f i ∧ f i < 18446744073709551616) (o0 : 0 ≤ d.o) (o1 : d.o < 18446744073709551616) (z0 : 0 ≤ d.z) (z1 : d.z < 18446744073709551616) (hd : d.k = 6) (hk : kd y d.c ≠ 2) :
    Calls Tryz.prog 13 #[.pointer (some ⟨b, 0, none⟩), .agg #[.int .i64 d.t, .int .i64 d.k, .int .i64 d.c, .int .i64 d.n, .int .u64 d.o, .int .u64 d.z]] w (ODoes 74 b g y lv (.tuple #[.int .u64 (0), .bool false]) f log w) := by
  rw [hd]
  have C := Lib.hid (fun w' (hx : Ext w w') => Read32_no b g y f lv log d.t d.c w' (hB.ext hx) Y (E.ext hx) hk)
  have HG : Hid (∀ w1 w2 lv', Ext w w1 → BD w2 74 b g y f lv' log → But (Own b g lv) w1 w2 → (lv'.ownBlock = lv.ownBlock ∨ ∃ j, lv'.ownBlock = some j ∧ w1.heap.size ≤ j) → ODoes 74 b g y lv (.tuple #[.int .u64 (0), .bool false]) f log w (.returned (.tuple #[.int .u64 (0), .bool false])) w2) := Lib.hid (fun w1 w2 lv' a1 a2 a3 a4 => odoes_wrap a1 a2 a3 a4 (Ext.refl _))
  clear hB Y E fr o0 o1 z0 z1 hd hl
  go_enter Tryz.func13, Tryz.ntmps13
  go_wp2_with fail
  refine (C.out _ ((Ext.refl w).alloc _)).mono ?_
  rintro e w2 ⟨rfl, lv', B2, T2, A2⟩
  have HG2 := Lib.hid (HG.out _ w2 lv' ((Ext.refl w).alloc _) B2 T2 A2)
  clear B2 T2 A2
  go_wp2
  go_ret2
  exact HG2.out
set_option maxRecDepth 100000 in
theorem small_Read_yes (b g : Nat) (y : LY) (f : Nat → Int) (lv : Value) (log : List Acc) (d : DoR) (w : World) (hB : BD w 74 b g y f lv log) (Y : YOk y) (E : Parts w) (hl : log.length ≤ 1000) (fr : ∀ i, i < y.m → 0 ≤ f i ∧ f i < 18446744073709551616) (o0 : 0 ≤ d.o) (o1 : d.o < 18446744073709551616) (z0 : 0 ≤ d.z) (z1 : d.z < 18446744073709551616) (hd : d.k = 6) (hk : kd y d.c = 2) :
    Calls Tryz.prog 13 #[.pointer (some ⟨b, 0, none⟩), .agg #[.int .i64 d.t, .int .i64 d.k, .int .i64 d.c, .int .i64 d.n, .int .u64 d.o, .int .u64 d.z]] w (ODoes 74 b g y lv (.tuple #[.int .u64 (cutS 32 (f d.c.toNat)), .bool false]) f (log ++ [⟨d.t, 6, d.c, f d.c.toNat, f d.c.toNat⟩]) w) := by
  rw [hd]
  obtain ⟨c, hc⟩ : ∃ c : Nat, d.c = c := ⟨d.c.toNat, by have := kd_in (y := y) (c := d.c) (by rw [hk]; decide); omega⟩
  have hcm : c < y.m := by have := kd_in (y := y) (c := d.c) (by rw [hk]; decide); omega
  obtain ⟨f0, f1⟩ := fr c hcm
  rw [hc] at hk ⊢
  rw [show ((c : Nat) : Int).toNat = c by omega]
  have C0 := fun w' (hx : Ext w w') => Read32_yes b g y f lv log d.t c w' (hB.ext hx) Y (E.ext hx) hk f0 f1 hl
  rw [cut32]
  have HG : Hid (∀ w1 w2 lv', Ext w w1 → BD w2 74 b g y f lv' (log ++ [⟨d.t, 6, (c : Int), f c, f c⟩]) → But (Own b g lv) w1 w2 → (lv'.ownBlock = lv.ownBlock ∨ ∃ j, lv'.ownBlock = some j ∧ w1.heap.size ≤ j) → ODoes 74 b g y lv (.tuple #[.int .u64 (f c % 4294967296), .bool false]) f (log ++ [⟨d.t, 6, (c : Int), f c, f c⟩]) w (.returned (.tuple #[.int .u64 (f c % 4294967296), .bool false])) w2) := Lib.hid (fun w1 w2 lv' a1 a2 a3 a4 => odoes_wrap a1 a2 a3 a4 (Ext.refl _))
  have r0 : 0 ≤ f c % 4294967296 := by omega
  have r1 : f c % 4294967296 < 4294967296 := by omega
  have C := Lib.hid C0
  clear hB Y E fr o0 o1 z0 z1 hd hl
  clear C0
  generalize f c % 4294967296 = r at *
  go_enter Tryz.func13, Tryz.ntmps13
  go_wp2_with fail
  refine (C.out _ ((Ext.refl w).alloc _)).mono ?_
  rintro e w2 ⟨rfl, lv', B2, T2, A2⟩
  have HG2 := Lib.hid (HG.out _ w2 lv' ((Ext.refl w).alloc _) B2 T2 A2)
  clear B2 T2 A2
  go_wp2
  go_ret2
  exact HG2.out
set_option maxRecDepth 100000 in
theorem small_Write_no (b g : Nat) (y : LY) (f : Nat → Int) (lv : Value) (log : List Acc) (d : DoR) (w : World) (hB : BD w 74 b g y f lv log) (Y : YOk y) (E : Parts w) (hl : log.length ≤ 1000) (fr : ∀ i, i < y.m → 0 ≤ f i ∧ f i < 18446744073709551616) (o0 : 0 ≤ d.o) (o1 : d.o < 18446744073709551616) (z0 : 0 ≤ d.z) (z1 : d.z < 18446744073709551616) (hd : d.k = 7) (hk : kd y d.c ≠ 2) :
    Calls Tryz.prog 13 #[.pointer (some ⟨b, 0, none⟩), .agg #[.int .i64 d.t, .int .i64 d.k, .int .i64 d.c, .int .i64 d.n, .int .u64 d.o, .int .u64 d.z]] w (ODoes 74 b g y lv (.tuple #[.int .u64 (0), .bool false]) f log w) := by
  rw [hd]
  have C := Lib.hid (fun w' (hx : Ext w w') => Write32_no b g y f lv log d.t d.c (d.z % 4294967296) w' (hB.ext hx) Y (E.ext hx) hk)
  have HG : Hid (∀ w1 w2 lv', Ext w w1 → BD w2 74 b g y f lv' log → But (Own b g lv) w1 w2 → (lv'.ownBlock = lv.ownBlock ∨ ∃ j, lv'.ownBlock = some j ∧ w1.heap.size ≤ j) → ODoes 74 b g y lv (.tuple #[.int .u64 (0), .bool false]) f log w (.returned (.tuple #[.int .u64 (0), .bool false])) w2) := Lib.hid (fun w1 w2 lv' a1 a2 a3 a4 => odoes_wrap a1 a2 a3 a4 (Ext.refl _))
  clear hB Y E fr o0 o1 z0 z1 hd hl
  go_enter Tryz.func13, Tryz.ntmps13
  go_wp2_with fail
  refine (C.out _ ((Ext.refl w).alloc _)).mono ?_
  rintro e w2 ⟨rfl, lv', B2, T2, A2⟩
  have HG2 := Lib.hid (HG.out _ w2 lv' ((Ext.refl w).alloc _) B2 T2 A2)
  clear B2 T2 A2
  go_wp2
  go_ret2
  exact HG2.out
set_option maxRecDepth 100000 in
theorem small_Write_yes (b g : Nat) (y : LY) (f : Nat → Int) (lv : Value) (log : List Acc) (d : DoR) (w : World) (hB : BD w 74 b g y f lv log) (Y : YOk y) (E : Parts w) (hl : log.length ≤ 1000) (fr : ∀ i, i < y.m → 0 ≤ f i ∧ f i < 18446744073709551616) (o0 : 0 ≤ d.o) (o1 : d.o < 18446744073709551616) (z0 : 0 ≤ d.z) (z1 : d.z < 18446744073709551616) (hd : d.k = 7) (hk : kd y d.c = 2) :
    Calls Tryz.prog 13 #[.pointer (some ⟨b, 0, none⟩), .agg #[.int .i64 d.t, .int .i64 d.k, .int .i64 d.c, .int .i64 d.n, .int .u64 d.o, .int .u64 d.z]] w (ODoes 74 b g y lv (.tuple #[.int .u64 (0), .bool false]) (upd f d.c.toNat (cutS 32 d.z)) (log ++ [⟨d.t, 7, d.c, f d.c.toNat, cutS 32 d.z⟩]) w) := by
  rw [hd]
  obtain ⟨c, hc⟩ : ∃ c : Nat, d.c = c := ⟨d.c.toNat, by have := kd_in (y := y) (c := d.c) (by rw [hk]; decide); omega⟩
  have hcm : c < y.m := by have := kd_in (y := y) (c := d.c) (by rw [hk]; decide); omega
  obtain ⟨f0, f1⟩ := fr c hcm
  rw [hc] at hk ⊢
  rw [show ((c : Nat) : Int).toNat = c by omega]
  have C0 := fun w' (hx : Ext w w') => Write32_yes b g y f lv log d.t (d.z % 4294967296) c w' (hB.ext hx) Y (E.ext hx) hk (by omega) (by omega) f0 f1 hl
  rw [cut32]
  have HG : Hid (∀ w1 w2 lv', Ext w w1 → BD w2 74 b g y (upd f c (d.z % 4294967296)) lv' (log ++ [⟨d.t, 7, (c : Int), f c, (d.z % 4294967296)⟩]) → But (Own b g lv) w1 w2 → (lv'.ownBlock = lv.ownBlock ∨ ∃ j, lv'.ownBlock = some j ∧ w1.heap.size ≤ j) → ODoes 74 b g y lv (.tuple #[.int .u64 (0), .bool false]) (upd f c (d.z % 4294967296)) (log ++ [⟨d.t, 7, (c : Int), f c, (d.z % 4294967296)⟩]) w (.returned (.tuple #[.int .u64 (0), .bool false])) w2) := Lib.hid (fun w1 w2 lv' a1 a2 a3 a4 => odoes_wrap a1 a2 a3 a4 (Ext.refl _))
  have C := Lib.hid C0
  clear hB Y E fr o0 o1 z0 z1 hd hl
  clear C0
  go_enter Tryz.func13, Tryz.ntmps13
  go_wp2_with fail
  refine (C.out _ ((Ext.refl w).alloc _)).mono ?_
  rintro e w2 ⟨rfl, lv', B2, T2, A2⟩
  have HG2 := Lib.hid (HG.out _ w2 lv' ((Ext.refl w).alloc _) B2 T2 A2)
  clear B2 T2 A2
  go_wp2
  go_ret2
  exact HG2.out
set_option maxRecDepth 100000 in
theorem small_Get_no (b g : Nat) (y : LY) (f : Nat → Int) (lv : Value) (log : List Acc) (d : DoR) (w : World) (hB : BD w 74 b g y f lv log) (Y : YOk y) (E : Parts w) (hl : log.length ≤ 1000) (fr : ∀ i, i < y.m → 0 ≤ f i ∧ f i < 18446744073709551616) (o0 : 0 ≤ d.o) (o1 : d.o < 18446744073709551616) (z0 : 0 ≤ d.z) (z1 : d.z < 18446744073709551616) (hd : d.k = 8) (hk : kd y (plc y.Sl y.C d.c) ≠ 3) :
    Calls Tryz.prog 13 #[.pointer (some ⟨b, 0, none⟩), .agg #[.int .i64 d.t, .int .i64 d.k, .int .i64 d.c, .int .i64 d.n, .int .u64 d.o, .int .u64 d.z]] w (ODoes 74 b g y lv (.tuple #[.int .u64 (0), .bool false]) f log w) := by
  rw [hd]
  have C := Lib.hid (fun w' (hx : Ext w w') => Get32_no b g y f lv log d.t d.c w' (hB.ext hx) Y (E.ext hx) hk)
  have HG : Hid (∀ w1 w2 lv', Ext w w1 → BD w2 74 b g y f lv' log → But (Own b g lv) w1 w2 → (lv'.ownBlock = lv.ownBlock ∨ ∃ j, lv'.ownBlock = some j ∧ w1.heap.size ≤ j) → ODoes 74 b g y lv (.tuple #[.int .u64 (0), .bool false]) f log w (.returned (.tuple #[.int .u64 (0), .bool false])) w2) := Lib.hid (fun w1 w2 lv' a1 a2 a3 a4 => odoes_wrap a1 a2 a3 a4 (Ext.refl _))
  clear hB Y E fr o0 o1 z0 z1 hd hl
  go_enter Tryz.func13, Tryz.ntmps13
  go_wp2_with fail
  refine (C.out _ ((Ext.refl w).alloc _)).mono ?_
  rintro e w2 ⟨rfl, lv', B2, T2, A2⟩
  have HG2 := Lib.hid (HG.out _ w2 lv' ((Ext.refl w).alloc _) B2 T2 A2)
  clear B2 T2 A2
  go_wp2
  go_ret2
  exact HG2.out
set_option maxRecDepth 100000 in
theorem small_Get_yes (b g : Nat) (y : LY) (f : Nat → Int) (lv : Value) (log : List Acc) (d : DoR) (w : World) (hB : BD w 74 b g y f lv log) (Y : YOk y) (E : Parts w) (hl : log.length ≤ 1000) (fr : ∀ i, i < y.m → 0 ≤ f i ∧ f i < 18446744073709551616) (o0 : 0 ≤ d.o) (o1 : d.o < 18446744073709551616) (z0 : 0 ≤ d.z) (z1 : d.z < 18446744073709551616) (hd : d.k = 8) (hk : kd y (plc y.Sl y.C d.c) = 3) :
    Calls Tryz.prog 13 #[.pointer (some ⟨b, 0, none⟩), .agg #[.int .i64 d.t, .int .i64 d.k, .int .i64 d.c, .int .i64 d.n, .int .u64 d.o, .int .u64 d.z]] w (ODoes 74 b g y lv (.tuple #[.int .u64 (f (plc y.Sl y.C d.c).toNat), .bool false]) f (log ++ [⟨d.t, 6, plc y.Sl y.C d.c, f (plc y.Sl y.C d.c).toNat, f (plc y.Sl y.C d.c).toNat⟩]) w) := by
  rw [hd]
  obtain ⟨c, hc⟩ : ∃ c : Nat, plc y.Sl y.C d.c = c := ⟨(plc y.Sl y.C d.c).toNat, by have := kd_in (y := y) (c := plc y.Sl y.C d.c) (by rw [hk]; decide); omega⟩
  have hcm : c < y.m := by have := kd_in (y := y) (c := plc y.Sl y.C d.c) (by rw [hk]; decide); omega
  obtain ⟨f0, f1⟩ := fr c hcm
  rw [hc] at hk ⊢
  rw [show ((c : Nat) : Int).toNat = c by omega]
  have C := Lib.hid (fun w' (hx : Ext w w') => Get32_yes b g y f lv log d.t d.c c w' (hB.ext hx) Y (E.ext hx) hc hk f0 f1 hl)
  have HG : Hid (∀ w1 w2 lv', Ext w w1 → BD w2 74 b g y f lv' (log ++ [⟨d.t, 6, (c : Int), f c, f c⟩]) → But (Own b g lv) w1 w2 → (lv'.ownBlock = lv.ownBlock ∨ ∃ j, lv'.ownBlock = some j ∧ w1.heap.size ≤ j) → ODoes 74 b g y lv (.tuple #[.int .u64 (f c), .bool false]) f (log ++ [⟨d.t, 6, (c : Int), f c, f c⟩]) w (.returned (.tuple #[.int .u64 (f c), .bool false])) w2) := Lib.hid (fun w1 w2 lv' a1 a2 a3 a4 => odoes_wrap a1 a2 a3 a4 (Ext.refl _))
  have hwb := wrap_back f0 f1
  clear hB Y E fr o0 o1 z0 z1 hd hl
  clear hc
  generalize wrap64 (f c) = wv at *
  go_enter Tryz.func13, Tryz.ntmps13
  go_wp2_with fail
  refine (C.out _ ((Ext.refl w).alloc _)).mono ?_
  rintro e w2 ⟨rfl, lv', B2, T2, A2⟩
  have HG2 := Lib.hid (HG.out _ w2 lv' ((Ext.refl w).alloc _) B2 T2 A2)
  clear B2 T2 A2
  go_wp2
  go_ret2
  exact HG2.out
set_option maxRecDepth 100000 in
theorem small_Set_no (b g : Nat) (y : LY) (f : Nat → Int) (lv : Value) (log : List Acc) (d : DoR) (w : World) (hB : BD w 74 b g y f lv log) (Y : YOk y) (E : Parts w) (hl : log.length ≤ 1000) (fr : ∀ i, i < y.m → 0 ≤ f i ∧ f i < 18446744073709551616) (o0 : 0 ≤ d.o) (o1 : d.o < 18446744073709551616) (z0 : 0 ≤ d.z) (z1 : d.z < 18446744073709551616) (hd : d.k = 9) (hk : kd y (plc y.Sl y.C d.c) ≠ 3) :
    Calls Tryz.prog 13 #[.pointer (some ⟨b, 0, none⟩), .agg #[.int .i64 d.t, .int .i64 d.k, .int .i64 d.c, .int .i64 d.n, .int .u64 d.o, .int .u64 d.z]] w (ODoes 74 b g y lv (.tuple #[.int .u64 (0), .bool false]) f log w) := by
  rw [hd]
  have C := Lib.hid (fun w' (hx : Ext w w') => Set32_no b g y f lv log d.t d.c d.n w' (hB.ext hx) Y (E.ext hx) hk)
  have HG : Hid (∀ w1 w2 lv', Ext w w1 → BD w2 74 b g y f lv' log → But (Own b g lv) w1 w2 → (lv'.ownBlock = lv.ownBlock ∨ ∃ j, lv'.ownBlock = some j ∧ w1.heap.size ≤ j) → ODoes 74 b g y lv (.tuple #[.int .u64 (0), .bool false]) f log w (.returned (.tuple #[.int .u64 (0), .bool false])) w2) := Lib.hid (fun w1 w2 lv' a1 a2 a3 a4 => odoes_wrap a1 a2 a3 a4 (Ext.refl _))
  clear hB Y E fr o0 o1 z0 z1 hd hl
  go_enter Tryz.func13, Tryz.ntmps13
  go_wp2_with fail
  refine (C.out _ ((Ext.refl w).alloc _)).mono ?_
  rintro e w2 ⟨rfl, lv', B2, T2, A2⟩
  have HG2 := Lib.hid (HG.out _ w2 lv' ((Ext.refl w).alloc _) B2 T2 A2)
  clear B2 T2 A2
  go_wp2
  go_ret2
  exact HG2.out
set_option maxRecDepth 100000 in
theorem small_Set_yes (b g : Nat) (y : LY) (f : Nat → Int) (lv : Value) (log : List Acc) (d : DoR) (w : World) (hB : BD w 74 b g y f lv log) (Y : YOk y) (E : Parts w) (hl : log.length ≤ 1000) (fr : ∀ i, i < y.m → 0 ≤ f i ∧ f i < 18446744073709551616) (o0 : 0 ≤ d.o) (o1 : d.o < 18446744073709551616) (z0 : 0 ≤ d.z) (z1 : d.z < 18446744073709551616) (hd : d.k = 9) (hk : kd y (plc y.Sl y.C d.c) = 3) :
    Calls Tryz.prog 13 #[.pointer (some ⟨b, 0, none⟩), .agg #[.int .i64 d.t, .int .i64 d.k, .int .i64 d.c, .int .i64 d.n, .int .u64 d.o, .int .u64 d.z]] w (ODoes 74 b g y lv (.tuple #[.int .u64 (0), .bool false]) (upd f (plc y.Sl y.C d.c).toNat (U64 d.n)) (log ++ [⟨d.t, 7, plc y.Sl y.C d.c, f (plc y.Sl y.C d.c).toNat, U64 d.n⟩]) w) := by
  rw [hd]
  obtain ⟨c, hc⟩ : ∃ c : Nat, plc y.Sl y.C d.c = c := ⟨(plc y.Sl y.C d.c).toNat, by have := kd_in (y := y) (c := plc y.Sl y.C d.c) (by rw [hk]; decide); omega⟩
  have hcm : c < y.m := by have := kd_in (y := y) (c := plc y.Sl y.C d.c) (by rw [hk]; decide); omega
  obtain ⟨f0, f1⟩ := fr c hcm
  rw [hc] at hk ⊢
  rw [show ((c : Nat) : Int).toNat = c by omega]
  have C := Lib.hid (fun w' (hx : Ext w w') => Set32_yes b g y f lv log d.t d.c d.n c w' (hB.ext hx) Y (E.ext hx) hc hk f0 f1 hl)
  have HG : Hid (∀ w1 w2 lv', Ext w w1 → BD w2 74 b g y (upd f c (U64 d.n)) lv' (log ++ [⟨d.t, 7, (c : Int), f c, U64 d.n⟩]) → But (Own b g lv) w1 w2 → (lv'.ownBlock = lv.ownBlock ∨ ∃ j, lv'.ownBlock = some j ∧ w1.heap.size ≤ j) → ODoes 74 b g y lv (.tuple #[.int .u64 (0), .bool false]) (upd f c (U64 d.n)) (log ++ [⟨d.t, 7, (c : Int), f c, U64 d.n⟩]) w (.returned (.tuple #[.int .u64 (0), .bool false])) w2) := Lib.hid (fun w1 w2 lv' a1 a2 a3 a4 => odoes_wrap a1 a2 a3 a4 (Ext.refl _))
  clear hB Y E fr o0 o1 z0 z1 hd hl
  clear hc
  go_enter Tryz.func13, Tryz.ntmps13
  go_wp2_with fail
  refine (C.out _ ((Ext.refl w).alloc _)).mono ?_
  rintro e w2 ⟨rfl, lv', B2, T2, A2⟩
  have HG2 := Lib.hid (HG.out _ w2 lv' ((Ext.refl w).alloc _) B2 T2 A2)
  clear B2 T2 A2
  go_wp2
  go_ret2
  exact HG2.out
set_option maxRecDepth 100000 in
theorem small_none (b g : Nat) (y : LY) (f : Nat → Int) (lv : Value) (log : List Acc) (d : DoR) (w : World) (hB : BD w 74 b g y f lv log) (h1 : d.k ≠ 1) (h2 : d.k ≠ 2) (h3 : d.k ≠ 3) (h4 : d.k ≠ 4) (h6 : d.k ≠ 6) (h7 : d.k ≠ 7) (h8 : d.k ≠ 8) (h9 : d.k ≠ 9) :
    Calls Tryz.prog 13 #[.pointer (some ⟨b, 0, none⟩), .agg #[.int .i64 d.t, .int .i64 d.k, .int .i64 d.c, .int .i64 d.n, .int .u64 d.o, .int .u64 d.z]] w (ODoes 74 b g y lv (.tuple #[.int .u64 0, .bool false]) f log w) := by
  have HG : Hid (∀ w1, Ext w w1 → ODoes 74 b g y lv (.tuple #[.int .u64 0, .bool false]) f log w (.returned (.tuple #[.int .u64 0, .bool false])) w1) := Lib.hid (fun w1 a1 => odoes_same hB a1)
  have e1 : (d.k == 1) = false := by simpa using h1
  have e2 : (d.k == 2) = false := by simpa using h2
  have e3 : (d.k == 3) = false := by simpa using h3
  have e4 : (d.k == 4) = false := by simpa using h4
  have e6 : (d.k == 6) = false := by simpa using h6
  have e7 : (d.k == 7) = false := by simpa using h7
  have e8 : (d.k == 8) = false := by simpa using h8
  have e9 : (d.k == 9) = false := by simpa using h9
  clear hB h1 h2 h3 h4 h6 h7 h8 h9
  have HG2 := Lib.hid (HG.out _ ((Ext.refl w).alloc (.cells #[.int .i64 d.t, .int .i64 d.k, .int .i64 d.c, .int .i64 d.n, .int .u64 d.o, .int .u64 d.z] 45)))
  go_enter Tryz.func13, Tryz.ntmps13
  go_wp2
  go_ret2
  exact HG2.out
theorem small_step (b g : Nat) (y : LY) (f : Nat → Int) (lv : Value) (log : List Acc) (d : DoR) (w : World) (hB : BD w 74 b g y f lv log) (Y : YOk y) (E : Parts w) (hl : log.length ≤ 1000) (fr : ∀ i, i < y.m → 0 ≤ f i ∧ f i < 18446744073709551616) (o0 : 0 ≤ d.o) (o1 : d.o < 18446744073709551616) (z0 : 0 ≤ d.z) (z1 : d.z < 18446744073709551616) :
    Calls Tryz.prog 13 #[.pointer (some ⟨b, 0, none⟩), .agg #[.int .i64 d.t, .int .i64 d.k, .int .i64 d.c, .int .i64 d.n, .int .u64 d.o, .int .u64 d.z]] w (ODoes 74 b g y lv (.tuple #[.int .u64 (stp y 32 d f log).v, .bool (stp y 32 d f log).b]) (stp y 32 d f log).f (stp y 32 d f log).l w) := by
  unfold stp
  by_cases k1 : d.k = 1
  · rw [if_pos k1]
    unfold lookS
    by_cases hk : kd y d.c = 1
    · rw [if_pos hk]
      exact small_Load_yes b g y f lv log d w hB Y E hl fr o0 o1 z0 z1 k1 hk
    · rw [if_neg hk]
      exact small_Load_no b g y f lv log d w hB Y E hl fr o0 o1 z0 z1 k1 hk
  rw [if_neg k1]
  by_cases k2 : d.k = 2
  · rw [if_pos k2]
    unfold putS
    by_cases hk : kd y d.c = 1
    · rw [if_pos hk]
      exact small_Store_yes b g y f lv log d w hB Y E hl fr o0 o1 z0 z1 k2 hk
    · rw [if_neg hk]
      exact small_Store_no b g y f lv log d w hB Y E hl fr o0 o1 z0 z1 k2 hk
  rw [if_neg k2]
  by_cases k3 : d.k = 3
  · rw [if_pos k3]
    unfold addS
    by_cases hk : kd y d.c = 1
    · rw [if_pos hk]
      exact small_Add_yes b g y f lv log d w hB Y E hl fr o0 o1 z0 z1 k3 hk
    · rw [if_neg hk]
      exact small_Add_no b g y f lv log d w hB Y E hl fr o0 o1 z0 z1 k3 hk
  rw [if_neg k3]
  by_cases k4 : d.k = 4
  · rw [if_pos k4]
    unfold swapS
    by_cases hk : kd y d.c = 1
    · rw [if_pos hk]
      by_cases ho : cutS 32 (f d.c.toNat) = cutS 32 d.o
      · rw [if_pos ho]
        exact small_Swap_yes b g y f lv log d w hB Y E hl fr o0 o1 z0 z1 k4 hk ho
      · rw [if_neg ho]
        exact small_Swap_miss b g y f lv log d w hB Y E hl fr o0 o1 z0 z1 k4 hk ho
    · rw [if_neg hk]
      exact small_Swap_no b g y f lv log d w hB Y E hl fr o0 o1 z0 z1 k4 hk
  rw [if_neg k4]
  by_cases k6 : d.k = 6
  · rw [if_pos k6]
    unfold lookS
    by_cases hk : kd y d.c = 2
    · rw [if_pos hk]
      exact small_Read_yes b g y f lv log d w hB Y E hl fr o0 o1 z0 z1 k6 hk
    · rw [if_neg hk]
      exact small_Read_no b g y f lv log d w hB Y E hl fr o0 o1 z0 z1 k6 hk
  rw [if_neg k6]
  by_cases k7 : d.k = 7
  · rw [if_pos k7]
    unfold putS
    by_cases hk : kd y d.c = 2
    · rw [if_pos hk]
      exact small_Write_yes b g y f lv log d w hB Y E hl fr o0 o1 z0 z1 k7 hk
    · rw [if_neg hk]
      exact small_Write_no b g y f lv log d w hB Y E hl fr o0 o1 z0 z1 k7 hk
  rw [if_neg k7]
  by_cases k8 : d.k = 8
  · rw [if_pos k8]
    unfold getS
    by_cases hk : kd y (plc y.Sl y.C d.c) = 3
    · rw [if_pos hk]
      exact small_Get_yes b g y f lv log d w hB Y E hl fr o0 o1 z0 z1 k8 hk
    · rw [if_neg hk]
      exact small_Get_no b g y f lv log d w hB Y E hl fr o0 o1 z0 z1 k8 hk
  rw [if_neg k8]
  by_cases k9 : d.k = 9
  · rw [if_pos k9]
    unfold setS
    by_cases hk : kd y (plc y.Sl y.C d.c) = 3
    · rw [if_pos hk]
      exact small_Set_yes b g y f lv log d w hB Y E hl fr o0 o1 z0 z1 k9 hk
    · rw [if_neg hk]
      exact small_Set_no b g y f lv log d w hB Y E hl fr o0 o1 z0 z1 k9 hk
  rw [if_neg k9]
  exact small_none b g y f lv log d w hB k1 k2 k3 k4 k6 k7 k8 k9
set_option maxRecDepth 100000 in
theorem great_Load_no (b g : Nat) (y : LY) (f : Nat → Int) (lv : Value) (log : List Acc) (d : DoR) (w : World) (hB : BD w 75 b g y f lv log) (Y : YOk y) (E : Parts w) (hl : log.length ≤ 1000) (fr : ∀ i, i < y.m → 0 ≤ f i ∧ f i < 18446744073709551616) (o0 : 0 ≤ d.o) (o1 : d.o < 18446744073709551616) (z0 : 0 ≤ d.z) (z1 : d.z < 18446744073709551616) (hd : d.k = 1) (hk : kd y d.c ≠ 1) :
    Calls Tryz.prog 14 #[.pointer (some ⟨b, 0, none⟩), .agg #[.int .i64 d.t, .int .i64 d.k, .int .i64 d.c, .int .i64 d.n, .int .u64 d.o, .int .u64 d.z]] w (ODoes 75 b g y lv (.tuple #[.int .u64 (0), .bool false]) f log w) := by
  rw [hd]
  have C := Lib.hid (fun w' (hx : Ext w w') => Load64_no b g y f lv log d.t d.c w' (hB.ext hx) Y (E.ext hx) hk)
  have HG : Hid (∀ w1 w2 lv', Ext w w1 → BD w2 75 b g y f lv' log → But (Own b g lv) w1 w2 → (lv'.ownBlock = lv.ownBlock ∨ ∃ j, lv'.ownBlock = some j ∧ w1.heap.size ≤ j) → ODoes 75 b g y lv (.tuple #[.int .u64 (0), .bool false]) f log w (.returned (.tuple #[.int .u64 (0), .bool false])) w2) := Lib.hid (fun w1 w2 lv' a1 a2 a3 a4 => odoes_wrap a1 a2 a3 a4 (Ext.refl _))
  clear hB Y E fr o0 o1 z0 z1 hd hl
  go_enter Tryz.func14, Tryz.ntmps14
  go_wp2_with fail
  refine (C.out _ ((Ext.refl w).alloc _)).mono ?_
  rintro e w2 ⟨rfl, lv', B2, T2, A2⟩
  have HG2 := Lib.hid (HG.out _ w2 lv' ((Ext.refl w).alloc _) B2 T2 A2)
  clear B2 T2 A2
  go_wp2
  go_ret2
  exact HG2.out
set_option maxRecDepth 100000 in
theorem great_Load_yes (b g : Nat) (y : LY) (f : Nat → Int) (lv : Value) (log : List Acc) (d : DoR) (w : World) (hB : BD w 75 b g y f lv log) (Y : YOk y) (E : Parts w) (hl : log.length ≤ 1000) (fr : ∀ i, i < y.m → 0 ≤ f i ∧ f i < 18446744073709551616) (o0 : 0 ≤ d.o) (o1 : d.o < 18446744073709551616) (z0 : 0 ≤ d.z) (z1 : d.z < 18446744073709551616) (hd : d.k = 1) (hk : kd y d.c = 1) :
    Calls Tryz.prog 14 #[.pointer (some ⟨b, 0, none⟩), .agg #[.int .i64 d.t, .int .i64 d.k, .int .i64 d.c, .int .i64 d.n, .int .u64 d.o, .int .u64 d.z]] w (ODoes 75 b g y lv (.tuple #[.int .u64 (cutS 64 (f d.c.toNat)), .bool false]) f (log ++ [⟨d.t, 1, d.c, f d.c.toNat, f d.c.toNat⟩]) w) := by
  rw [hd]
  obtain ⟨c, hc⟩ : ∃ c : Nat, d.c = c := ⟨d.c.toNat, by have := kd_in (y := y) (c := d.c) (by rw [hk]; decide); omega⟩
  have hcm : c < y.m := by have := kd_in (y := y) (c := d.c) (by rw [hk]; decide); omega
  obtain ⟨f0, f1⟩ := fr c hcm
  rw [hc] at hk ⊢
  rw [show ((c : Nat) : Int).toNat = c by omega]
  have C0 := fun w' (hx : Ext w w') => Load64_yes b g y f lv log d.t c w' (hB.ext hx) Y (E.ext hx) hk f0 f1 hl
  rw [u64_id f0 f1] at C0
  rw [cut64]
  have HG : Hid (∀ w1 w2 lv', Ext w w1 → BD w2 75 b g y f lv' (log ++ [⟨d.t, 1, (c : Int), f c, f c⟩]) → But (Own b g lv) w1 w2 → (lv'.ownBlock = lv.ownBlock ∨ ∃ j, lv'.ownBlock = some j ∧ w1.heap.size ≤ j) → ODoes 75 b g y lv (.tuple #[.int .u64 (f c), .bool false]) f (log ++ [⟨d.t, 1, (c : Int), f c, f c⟩]) w (.returned (.tuple #[.int .u64 (f c), .bool false])) w2) := Lib.hid (fun w1 w2 lv' a1 a2 a3 a4 => odoes_wrap a1 a2 a3 a4 (Ext.refl _))
  have C := Lib.hid C0
  clear hB Y E fr o0 o1 z0 z1 hd hl
  clear C0
  go_enter Tryz.func14, Tryz.ntmps14
  go_wp2_with fail
  refine (C.out _ ((Ext.refl w).alloc _)).mono ?_
  rintro e w2 ⟨rfl, lv', B2, T2, A2⟩
  have HG2 := Lib.hid (HG.out _ w2 lv' ((Ext.refl w).alloc _) B2 T2 A2)
  clear B2 T2 A2
  go_wp2
  go_ret2
  exact HG2.out
set_option maxRecDepth 100000 in
theorem great_Store_no (b g : Nat) (y : LY) (f : Nat → Int) (lv : Value) (log : List Acc) (d : DoR) (w : World) (hB : BD w 75 b g y f lv log) (Y : YOk y) (E : Parts w) (hl : log.length ≤ 1000) (fr : ∀ i, i < y.m → 0 ≤ f i ∧ f i < 18446744073709551616) (o0 : 0 ≤ d.o) (o1 : d.o < 18446744073709551616) (z0 : 0 ≤ d.z) (z1 : d.z < 18446744073709551616) (hd : d.k = 2) (hk : kd y d.c ≠ 1) :
    Calls Tryz.prog 14 #[.pointer (some ⟨b, 0, none⟩), .agg #[.int .i64 d.t, .int .i64 d.k, .int .i64 d.c, .int .i64 d.n, .int .u64 d.o, .int .u64 d.z]] w (ODoes 75 b g y lv (.tuple #[.int .u64 (0), .bool false]) f log w) := by
  rw [hd]
  have C := Lib.hid (fun w' (hx : Ext w w') => Store64_no b g y f lv log d.t d.c d.z w' (hB.ext hx) Y (E.ext hx) hk)
  have HG : Hid (∀ w1 w2 lv', Ext w w1 → BD w2 75 b g y f lv' log → But (Own b g lv) w1 w2 → (lv'.ownBlock = lv.ownBlock ∨ ∃ j, lv'.ownBlock = some j ∧ w1.heap.size ≤ j) → ODoes 75 b g y lv (.tuple #[.int .u64 (0), .bool false]) f log w (.returned (.tuple #[.int .u64 (0), .bool false])) w2) := Lib.hid (fun w1 w2 lv' a1 a2 a3 a4 => odoes_wrap a1 a2 a3 a4 (Ext.refl _))
  clear hB Y E fr o0 o1 z0 z1 hd hl
  go_enter Tryz.func14, Tryz.ntmps14
  go_wp2_with fail
  refine (C.out _ ((Ext.refl w).alloc _)).mono ?_
  rintro e w2 ⟨rfl, lv', B2, T2, A2⟩
  have HG2 := Lib.hid (HG.out _ w2 lv' ((Ext.refl w).alloc _) B2 T2 A2)
  clear B2 T2 A2
  go_wp2
  go_ret2
  exact HG2.out
set_option maxRecDepth 100000 in
theorem great_Store_yes (b g : Nat) (y : LY) (f : Nat → Int) (lv : Value) (log : List Acc) (d : DoR) (w : World) (hB : BD w 75 b g y f lv log) (Y : YOk y) (E : Parts w) (hl : log.length ≤ 1000) (fr : ∀ i, i < y.m → 0 ≤ f i ∧ f i < 18446744073709551616) (o0 : 0 ≤ d.o) (o1 : d.o < 18446744073709551616) (z0 : 0 ≤ d.z) (z1 : d.z < 18446744073709551616) (hd : d.k = 2) (hk : kd y d.c = 1) :
    Calls Tryz.prog 14 #[.pointer (some ⟨b, 0, none⟩), .agg #[.int .i64 d.t, .int .i64 d.k, .int .i64 d.c, .int .i64 d.n, .int .u64 d.o, .int .u64 d.z]] w (ODoes 75 b g y lv (.tuple #[.int .u64 (0), .bool false]) (upd f d.c.toNat (cutS 64 d.z)) (log ++ [⟨d.t, 2, d.c, f d.c.toNat, cutS 64 d.z⟩]) w) := by
  rw [hd]
  obtain ⟨c, hc⟩ : ∃ c : Nat, d.c = c := ⟨d.c.toNat, by have := kd_in (y := y) (c := d.c) (by rw [hk]; decide); omega⟩
  have hcm : c < y.m := by have := kd_in (y := y) (c := d.c) (by rw [hk]; decide); omega
  obtain ⟨f0, f1⟩ := fr c hcm
  rw [hc] at hk ⊢
  rw [show ((c : Nat) : Int).toNat = c by omega]
  have C0 := fun w' (hx : Ext w w') => Store64_yes b g y f lv log d.t d.z c w' (hB.ext hx) Y (E.ext hx) hk (by omega) (by omega) f0 f1 hl
  rw [cut64]
  have HG : Hid (∀ w1 w2 lv', Ext w w1 → BD w2 75 b g y (upd f c d.z) lv' (log ++ [⟨d.t, 2, (c : Int), f c, d.z⟩]) → But (Own b g lv) w1 w2 → (lv'.ownBlock = lv.ownBlock ∨ ∃ j, lv'.ownBlock = some j ∧ w1.heap.size ≤ j) → ODoes 75 b g y lv (.tuple #[.int .u64 (0), .bool false]) (upd f c d.z) (log ++ [⟨d.t, 2, (c : Int), f c, d.z⟩]) w (.returned (.tuple #[.int .u64 (0), .bool false])) w2) := Lib.hid (fun w1 w2 lv' a1 a2 a3 a4 => odoes_wrap a1 a2 a3 a4 (Ext.refl _))
  have C := Lib.hid C0
  clear hB Y E fr o0 o1 z0 z1 hd hl
  clear C0
  go_enter Tryz.func14, Tryz.ntmps14
  go_wp2_with fail
  refine (C.out _ ((Ext.refl w).alloc _)).mono ?_
  rintro e w2 ⟨rfl, lv', B2, T2, A2⟩
  have HG2 := Lib.hid (HG.out _ w2 lv' ((Ext.refl w).alloc _) B2 T2 A2)
  clear B2 T2 A2
  go_wp2
  go_ret2
  exact HG2.out
set_option maxRecDepth 100000 in
theorem great_Add_no (b g : Nat) (y : LY) (f : Nat → Int) (lv : Value) (log : List Acc) (d : DoR) (w : World) (hB : BD w 75 b g y f lv log) (Y : YOk y) (E : Parts w) (hl : log.length ≤ 1000) (fr : ∀ i, i < y.m → 0 ≤ f i ∧ f i < 18446744073709551616) (o0 : 0 ≤ d.o) (o1 : d.o < 18446744073709551616) (z0 : 0 ≤ d.z) (z1 : d.z < 18446744073709551616) (hd : d.k = 3) (hk : kd y d.c ≠ 1) :
    Calls Tryz.prog 14 #[.pointer (some ⟨b, 0, none⟩), .agg #[.int .i64 d.t, .int .i64 d.k, .int .i64 d.c, .int .i64 d.n, .int .u64 d.o, .int .u64 d.z]] w (ODoes 75 b g y lv (.tuple #[.int .u64 (0), .bool false]) f log w) := by
  rw [hd]
  have C := Lib.hid (fun w' (hx : Ext w w') => Add64_no b g y f lv log d.t d.c d.n w' (hB.ext hx) Y (E.ext hx) hk)
  have HG : Hid (∀ w1 w2 lv', Ext w w1 → BD w2 75 b g y f lv' log → But (Own b g lv) w1 w2 → (lv'.ownBlock = lv.ownBlock ∨ ∃ j, lv'.ownBlock = some j ∧ w1.heap.size ≤ j) → ODoes 75 b g y lv (.tuple #[.int .u64 (0), .bool false]) f log w (.returned (.tuple #[.int .u64 (0), .bool false])) w2) := Lib.hid (fun w1 w2 lv' a1 a2 a3 a4 => odoes_wrap a1 a2 a3 a4 (Ext.refl _))
  clear hB Y E fr o0 o1 z0 z1 hd hl
  go_enter Tryz.func14, Tryz.ntmps14
  go_wp2_with fail
  refine (C.out _ ((Ext.refl w).alloc _)).mono ?_
  rintro e w2 ⟨rfl, lv', B2, T2, A2⟩
  have HG2 := Lib.hid (HG.out _ w2 lv' ((Ext.refl w).alloc _) B2 T2 A2)
  clear B2 T2 A2
  go_wp2
  go_ret2
  exact HG2.out
set_option maxRecDepth 100000 in
theorem great_Add_yes (b g : Nat) (y : LY) (f : Nat → Int) (lv : Value) (log : List Acc) (d : DoR) (w : World) (hB : BD w 75 b g y f lv log) (Y : YOk y) (E : Parts w) (hl : log.length ≤ 1000) (fr : ∀ i, i < y.m → 0 ≤ f i ∧ f i < 18446744073709551616) (o0 : 0 ≤ d.o) (o1 : d.o < 18446744073709551616) (z0 : 0 ≤ d.z) (z1 : d.z < 18446744073709551616) (hd : d.k = 3) (hk : kd y d.c = 1) :
    Calls Tryz.prog 14 #[.pointer (some ⟨b, 0, none⟩), .agg #[.int .i64 d.t, .int .i64 d.k, .int .i64 d.c, .int .i64 d.n, .int .u64 d.o, .int .u64 d.z]] w (ODoes 75 b g y lv (.tuple #[.int .u64 (cutS 64 (f d.c.toNat)), .bool false]) (upd f d.c.toNat (plusW 64 (cutS 64 (f d.c.toNat)) d.n)) (log ++ [⟨d.t, 3, d.c, f d.c.toNat, plusW 64 (cutS 64 (f d.c.toNat)) d.n⟩]) w) := by
  rw [hd]
  obtain ⟨c, hc⟩ : ∃ c : Nat, d.c = c := ⟨d.c.toNat, by have := kd_in (y := y) (c := d.c) (by rw [hk]; decide); omega⟩
  have hcm : c < y.m := by have := kd_in (y := y) (c := d.c) (by rw [hk]; decide); omega
  obtain ⟨f0, f1⟩ := fr c hcm
  rw [hc] at hk ⊢
  rw [show ((c : Nat) : Int).toNat = c by omega]
  have C0 := fun w' (hx : Ext w w') => Add64_yes b g y f lv log d.t d.n c w' (hB.ext hx) Y (E.ext hx) hk f0 f1 hl
  rw [u64_id f0 f1] at C0
  rw [show plusW 64 (cutS 64 (f c)) d.n = U64 (f c + d.n) from rfl, cut64]
  have HG : Hid (∀ w1 w2 lv', Ext w w1 → BD w2 75 b g y (upd f c (U64 (f c + d.n))) lv' (log ++ [⟨d.t, 3, (c : Int), f c, (U64 (f c + d.n))⟩]) → But (Own b g lv) w1 w2 → (lv'.ownBlock = lv.ownBlock ∨ ∃ j, lv'.ownBlock = some j ∧ w1.heap.size ≤ j) → ODoes 75 b g y lv (.tuple #[.int .u64 (f c), .bool false]) (upd f c (U64 (f c + d.n))) (log ++ [⟨d.t, 3, (c : Int), f c, (U64 (f c + d.n))⟩]) w (.returned (.tuple #[.int .u64 (f c), .bool false])) w2) := Lib.hid (fun w1 w2 lv' a1 a2 a3 a4 => odoes_wrap a1 a2 a3 a4 (Ext.refl _))
  have C := Lib.hid C0
  clear hB Y E fr o0 o1 z0 z1 hd hl
  clear C0
  go_enter Tryz.func14, Tryz.ntmps14
  go_wp2_with fail
  refine (C.out _ ((Ext.refl w).alloc _)).mono ?_
  rintro e w2 ⟨rfl, lv', B2, T2, A2⟩
  have HG2 := Lib.hid (HG.out _ w2 lv' ((Ext.refl w).alloc _) B2 T2 A2)
  clear B2 T2 A2
  go_wp2
  go_ret2
  exact HG2.out
set_option maxRecDepth 100000 in
theorem great_Swap_no (b g : Nat) (y : LY) (f : Nat → Int) (lv : Value) (log : List Acc) (d : DoR) (w : World) (hB : BD w 75 b g y f lv log) (Y : YOk y) (E : Parts w) (hl : log.length ≤ 1000) (fr : ∀ i, i < y.m → 0 ≤ f i ∧ f i < 18446744073709551616) (o0 : 0 ≤ d.o) (o1 : d.o < 18446744073709551616) (z0 : 0 ≤ d.z) (z1 : d.z < 18446744073709551616) (hd : d.k = 4) (hk : kd y d.c ≠ 1) :
    Calls Tryz.prog 14 #[.pointer (some ⟨b, 0, none⟩), .agg #[.int .i64 d.t, .int .i64 d.k, .int .i64 d.c, .int .i64 d.n, .int .u64 d.o, .int .u64 d.z]] w (ODoes 75 b g y lv (.tuple #[.int .u64 (0), .bool false]) f log w) := by
  rw [hd]
  have C := Lib.hid (fun w' (hx : Ext w w') => Swap64_no b g y f lv log d.t d.c d.o d.z w' (hB.ext hx) Y (E.ext hx) hk)
  have HG : Hid (∀ w1 w2 lv', Ext w w1 → BD w2 75 b g y f lv' log → But (Own b g lv) w1 w2 → (lv'.ownBlock = lv.ownBlock ∨ ∃ j, lv'.ownBlock = some j ∧ w1.heap.size ≤ j) → ODoes 75 b g y lv (.tuple #[.int .u64 (0), .bool false]) f log w (.returned (.tuple #[.int .u64 (0), .bool false])) w2) := Lib.hid (fun w1 w2 lv' a1 a2 a3 a4 => odoes_wrap a1 a2 a3 a4 (Ext.refl _))
  clear hB Y E fr o0 o1 z0 z1 hd hl
  go_enter Tryz.func14, Tryz.ntmps14
  go_wp2_with fail
  refine (C.out _ ((Ext.refl w).alloc _)).mono ?_
  rintro e w2 ⟨rfl, lv', B2, T2, A2⟩
  have HG2 := Lib.hid (HG.out _ w2 lv' ((Ext.refl w).alloc _) B2 T2 A2)
  clear B2 T2 A2
  go_wp2
  go_ret2
  exact HG2.out
set_option maxRecDepth 100000 in
theorem great_Swap_miss (b g : Nat) (y : LY) (f : Nat → Int) (lv : Value) (log : List Acc) (d : DoR) (w : World) (hB : BD w 75 b g y f lv log) (Y : YOk y) (E : Parts w) (hl : log.length ≤ 1000) (fr : ∀ i, i < y.m → 0 ≤ f i ∧ f i < 18446744073709551616) (o0 : 0 ≤ d.o) (o1 : d.o < 18446744073709551616) (z0 : 0 ≤ d.z) (z1 : d.z < 18446744073709551616) (hd : d.k = 4) (hk : kd y d.c = 1) (ho : ¬ cutS 64 (f d.c.toNat) = cutS 64 d.o) :
    Calls Tryz.prog 14 #[.pointer (some ⟨b, 0, none⟩), .agg #[.int .i64 d.t, .int .i64 d.k, .int .i64 d.c, .int .i64 d.n, .int .u64 d.o, .int .u64 d.z]] w (ODoes 75 b g y lv (.tuple #[.int .u64 (0), .bool false]) f (log ++ [⟨d.t, 5, d.c, f d.c.toNat, f d.c.toNat⟩]) w) := by
  rw [hd]
  obtain ⟨c, hc⟩ : ∃ c : Nat, d.c = c := ⟨d.c.toNat, by have := kd_in (y := y) (c := d.c) (by rw [hk]; decide); omega⟩
  have hcm : c < y.m := by have := kd_in (y := y) (c := d.c) (by rw [hk]; decide); omega
  obtain ⟨f0, f1⟩ := fr c hcm
  rw [hc] at hk ⊢
  rw [show ((c : Nat) : Int).toNat = c by omega]
  rw [hc, show ((c : Nat) : Int).toNat = c by omega, cut64, cut64] at ho
  have C := Lib.hid (fun w' (hx : Ext w w') => Swap64_miss b g y f lv log d.t d.o d.z c w' (hB.ext hx) Y (E.ext hx) hk (by rw [u64_id f0 f1]; simpa using ho) f0 f1 hl)
  have HG : Hid (∀ w1 w2 lv', Ext w w1 → BD w2 75 b g y f lv' (log ++ [⟨d.t, 5, (c : Int), f c, f c⟩]) → But (Own b g lv) w1 w2 → (lv'.ownBlock = lv.ownBlock ∨ ∃ j, lv'.ownBlock = some j ∧ w1.heap.size ≤ j) → ODoes 75 b g y lv (.tuple #[.int .u64 (0), .bool false]) f (log ++ [⟨d.t, 5, (c : Int), f c, f c⟩]) w (.returned (.tuple #[.int .u64 (0), .bool false])) w2) := Lib.hid (fun w1 w2 lv' a1 a2 a3 a4 => odoes_wrap a1 a2 a3 a4 (Ext.refl _))
  clear hB Y E fr o0 o1 z0 z1 hd hl
  clear ho
  go_enter Tryz.func14, Tryz.ntmps14
  go_wp2_with fail
  refine (C.out _ ((Ext.refl w).alloc _)).mono ?_
  rintro e w2 ⟨rfl, lv', B2, T2, A2⟩
  have HG2 := Lib.hid (HG.out _ w2 lv' ((Ext.refl w).alloc _) B2 T2 A2)
  clear B2 T2 A2
  go_wp2
  go_ret2
  exact HG2.out
set_option maxRecDepth 100000 in
theorem great_Swap_yes (b g : Nat) (y : LY) (f : Nat → Int) (lv : Value) (log : List Acc) (d : DoR) (w : World) (hB : BD w 75 b g y f lv log) (Y : YOk y) (E : Parts w) (hl : log.length ≤ 1000) (fr : ∀ i, i < y.m → 0 ≤ f i ∧ f i < 18446744073709551616) (o0 : 0 ≤ d.o) (o1 : d.o < 18446744073709551616) (z0 : 0 ≤ d.z) (z1 : d.z < 18446744073709551616) (hd : d.k = 4) (hk : kd y d.c = 1) (ho : cutS 64 (f d.c.toNat) = cutS 64 d.o) :
    Calls Tryz.prog 14 #[.pointer (some ⟨b, 0, none⟩), .agg #[.int .i64 d.t, .int .i64 d.k, .int .i64 d.c, .int .i64 d.n, .int .u64 d.o, .int .u64 d.z]] w (ODoes 75 b g y lv (.tuple #[.int .u64 (0), .bool true]) (upd f d.c.toNat (cutS 64 d.z)) (log ++ [⟨d.t, 4, d.c, f d.c.toNat, cutS 64 d.z⟩]) w) := by
  rw [hd]
  obtain ⟨c, hc⟩ : ∃ c : Nat, d.c = c := ⟨d.c.toNat, by have := kd_in (y := y) (c := d.c) (by rw [hk]; decide); omega⟩
  have hcm : c < y.m := by have := kd_in (y := y) (c := d.c) (by rw [hk]; decide); omega
  obtain ⟨f0, f1⟩ := fr c hcm
  rw [hc] at hk ⊢
  rw [show ((c : Nat) : Int).toNat = c by omega]
  rw [hc, show ((c : Nat) : Int).toNat = c by omega, cut64, cut64] at ho
  have C := Lib.hid (fun w' (hx : Ext w w') => Swap64_yes b g y f lv log d.t d.o d.z c w' (hB.ext hx) Y (E.ext hx) hk (by rw [u64_id f0 f1]; simpa using ho) (by omega) (by omega) f0 f1 hl)
  rw [cut64]
  have HG : Hid (∀ w1 w2 lv', Ext w w1 → BD w2 75 b g y (upd f c d.z) lv' (log ++ [⟨d.t, 4, (c : Int), f c, d.z⟩]) → But (Own b g lv) w1 w2 → (lv'.ownBlock = lv.ownBlock ∨ ∃ j, lv'.ownBlock = some j ∧ w1.heap.size ≤ j) → ODoes 75 b g y lv (.tuple #[.int .u64 (0), .bool true]) (upd f c d.z) (log ++ [⟨d.t, 4, (c : Int), f c, d.z⟩]) w (.returned (.tuple #[.int .u64 (0), .bool true])) w2) := Lib.hid (fun w1 w2 lv' a1 a2 a3 a4 => odoes_wrap a1 a2 a3 a4 (Ext.refl _))
  clear hB Y E fr o0 o1 z0 z1 hd hl
  clear ho
  go_enter Tryz.func14, Tryz.ntmps14
  go_wp2_with fail
  refine (C.out _ ((Ext.refl w).alloc _)).mono ?_
  rintro e w2 ⟨rfl, lv', B2, T2, A2⟩
  have HG2 := Lib.hid (HG.out _ w2 lv' ((Ext.refl w).alloc _) B2 T2 A2)
  clear B2 T2 A2
  go_wp2
  go_ret2
  exact HG2.out
set_option maxRecDepth 100000 in
theorem great_Read_no (b g : Nat) (y : LY) (f : Nat → Int) (lv : Value) (log : List Acc) (d : DoR) (w : World) (hB : BD w 75 b g y f lv log) (Y : YOk y) (E : Parts w) (hl : log.length ≤ 1000) (fr : ∀ i, i < y.m → 0 ≤ f i ∧ f i < 18446744073709551616) (o0 : 0 ≤ d.o) (o1 : d.o < 18446744073709551616) (z0 : 0 ≤ d.z) (z1 : d.z < 18446744073709551616) (hd : d.k = 6) (hk : kd y d.c ≠ 2) :
    Calls Tryz.prog 14 #[.pointer (some ⟨b, 0, none⟩), .agg #[.int .i64 d.t, .int .i64 d.k, .int .i64 d.c, .int .i64 d.n, .int .u64 d.o, .int .u64 d.z]] w (ODoes 75 b g y lv (.tuple #[.int .u64 (0), .bool false]) f log w) := by
  rw [hd]
  have C := Lib.hid (fun w' (hx : Ext w w') => Read64_no b g y f lv log d.t d.c w' (hB.ext hx) Y (E.ext hx) hk)
  have HG : Hid (∀ w1 w2 lv', Ext w w1 → BD w2 75 b g y f lv' log → But (Own b g lv) w1 w2 → (lv'.ownBlock = lv.ownBlock ∨ ∃ j, lv'.ownBlock = some j ∧ w1.heap.size ≤ j) → ODoes 75 b g y lv (.tuple #[.int .u64 (0), .bool false]) f log w (.returned (.tuple #[.int .u64 (0), .bool false])) w2) := Lib.hid (fun w1 w2 lv' a1 a2 a3 a4 => odoes_wrap a1 a2 a3 a4 (Ext.refl _))
  clear hB Y E fr o0 o1 z0 z1 hd hl
  go_enter Tryz.func14, Tryz.ntmps14
  go_wp2_with fail
  refine (C.out _ ((Ext.refl w).alloc _)).mono ?_
  rintro e w2 ⟨rfl, lv', B2, T2, A2⟩
  have HG2 := Lib.hid (HG.out _ w2 lv' ((Ext.refl w).alloc _) B2 T2 A2)
  clear B2 T2 A2
  go_wp2
  go_ret2
  exact HG2.out
set_option maxRecDepth 100000 in
theorem great_Read_yes (b g : Nat) (y : LY) (f : Nat → Int) (lv : Value) (log : List Acc) (d : DoR) (w : World) (hB : BD w 75 b g y f lv log) (Y : YOk y) (E : Parts w) (hl : log.length ≤ 1000) (fr : ∀ i, i < y.m → 0 ≤ f i ∧ f i < 18446744073709551616) (o0 : 0 ≤ d.o) (o1 : d.o < 18446744073709551616) (z0 : 0 ≤ d.z) (z1 : d.z < 18446744073709551616) (hd : d.k = 6) (hk : kd y d.c = 2) :
    Calls Tryz.prog 14 #[.pointer (some ⟨b, 0, none⟩), .agg #[.int .i64 d.t, .int .i64 d.k, .int .i64 d.c, .int .i64 d.n, .int .u64 d.o, .int .u64 d.z]] w (ODoes 75 b g y lv (.tuple #[.int .u64 (cutS 64 (f d.c.toNat)), .bool false]) f (log ++ [⟨d.t, 6, d.c, f d.c.toNat, f d.c.toNat⟩]) w) := by
  rw [hd]
  obtain ⟨c, hc⟩ : ∃ c : Nat, d.c = c := ⟨d.c.toNat, by have := kd_in (y := y) (c := d.c) (by rw [hk]; decide); omega⟩
  have hcm : c < y.m := by have := kd_in (y := y) (c := d.c) (by rw [hk]; decide); omega
  obtain ⟨f0, f1⟩ := fr c hcm
  rw [hc] at hk ⊢
  rw [show ((c : Nat) : Int).toNat = c by omega]
  have C0 := fun w' (hx : Ext w w') => Read64_yes b g y f lv log d.t c w' (hB.ext hx) Y (E.ext hx) hk f0 f1 hl
  rw [u64_id f0 f1] at C0
  rw [cut64]
  have HG : Hid (∀ w1 w2 lv', Ext w w1 → BD w2 75 b g y f lv' (log ++ [⟨d.t, 6, (c : Int), f c, f c⟩]) → But (Own b g lv) w1 w2 → (lv'.ownBlock = lv.ownBlock ∨ ∃ j, lv'.ownBlock = some j ∧ w1.heap.size ≤ j) → ODoes 75 b g y lv (.tuple #[.int .u64 (f c), .bool false]) f (log ++ [⟨d.t, 6, (c : Int), f c, f c⟩]) w (.returned (.tuple #[.int .u64 (f c), .bool false])) w2) := Lib.hid (fun w1 w2 lv' a1 a2 a3 a4 => odoes_wrap a1 a2 a3 a4 (Ext.refl _))
  have C := Lib.hid C0
  clear hB Y E fr o0 o1 z0 z1 hd hl
  clear C0
  go_enter Tryz.func14, Tryz.ntmps14
  go_wp2_with fail
  refine (C.out _ ((Ext.refl w).alloc _)).mono ?_
  rintro e w2 ⟨rfl, lv', B2, T2, A2⟩
  have HG2 := Lib.hid (HG.out _ w2 lv' ((Ext.refl w).alloc _) B2 T2 A2)
  clear B2 T2 A2
  go_wp2
  go_ret2
  exact HG2.out
set_option maxRecDepth 100000 in
theorem great_Write_no (b g : Nat) (y : LY) (f : Nat → Int) (lv : Value) (log : List Acc) (d : DoR) (w : World) (hB : BD w 75 b g y f lv log) (Y : YOk y) (E : Parts w) (hl : log.length ≤ 1000) (fr : ∀ i, i < y.m → 0 ≤ f i ∧ f i < 18446744073709551616) (o0 : 0 ≤ d.o) (o1 : d.o < 18446744073709551616) (z0 : 0 ≤ d.z) (z1 : d.z < 18446744073709551616) (hd : d.k = 7) (hk : kd y d.c ≠ 2) :
    Calls Tryz.prog 14 #[.pointer (some ⟨b, 0, none⟩), .agg #[.int .i64 d.t, .int .i64 d.k, .int .i64 d.c, .int .i64 d.n, .int .u64 d.o, .int .u64 d.z]] w (ODoes 75 b g y lv (.tuple #[.int .u64 (0), .bool false]) f log w) := by
  rw [hd]
  have C := Lib.hid (fun w' (hx : Ext w w') => Write64_no b g y f lv log d.t d.c d.z w' (hB.ext hx) Y (E.ext hx) hk)
  have HG : Hid (∀ w1 w2 lv', Ext w w1 → BD w2 75 b g y f lv' log → But (Own b g lv) w1 w2 → (lv'.ownBlock = lv.ownBlock ∨ ∃ j, lv'.ownBlock = some j ∧ w1.heap.size ≤ j) → ODoes 75 b g y lv (.tuple #[.int .u64 (0), .bool false]) f log w (.returned (.tuple #[.int .u64 (0), .bool false])) w2) := Lib.hid (fun w1 w2 lv' a1 a2 a3 a4 => odoes_wrap a1 a2 a3 a4 (Ext.refl _))
  clear hB Y E fr o0 o1 z0 z1 hd hl
  go_enter Tryz.func14, Tryz.ntmps14
  go_wp2_with fail
  refine (C.out _ ((Ext.refl w).alloc _)).mono ?_
  rintro e w2 ⟨rfl, lv', B2, T2, A2⟩
  have HG2 := Lib.hid (HG.out _ w2 lv' ((Ext.refl w).alloc _) B2 T2 A2)
  clear B2 T2 A2
  go_wp2
  go_ret2
  exact HG2.out
set_option maxRecDepth 100000 in
theorem great_Write_yes (b g : Nat) (y : LY) (f : Nat → Int) (lv : Value) (log : List Acc) (d : DoR) (w : World) (hB : BD w 75 b g y f lv log) (Y : YOk y) (E : Parts w) (hl : log.length ≤ 1000) (fr : ∀ i, i < y.m → 0 ≤ f i ∧ f i < 18446744073709551616) (o0 : 0 ≤ d.o) (o1 : d.o < 18446744073709551616) (z0 : 0 ≤ d.z) (z1 : d.z < 18446744073709551616) (hd : d.k = 7) (hk : kd y d.c = 2) :
    Calls Tryz.prog 14 #[.pointer (some ⟨b, 0, none⟩), .agg #[.int .i64 d.t, .int .i64 d.k, .int .i64 d.c, .int .i64 d.n, .int .u64 d.o, .int .u64 d.z]] w (ODoes 75 b g y lv (.tuple #[.int .u64 (0), .bool false]) (upd f d.c.toNat (cutS 64 d.z)) (log ++ [⟨d.t, 7, d.c, f d.c.toNat, cutS 64 d.z⟩]) w) := by
  rw [hd]
  obtain ⟨c, hc⟩ : ∃ c : Nat, d.c = c := ⟨d.c.toNat, by have := kd_in (y := y) (c := d.c) (by rw [hk]; decide); omega⟩
  have hcm : c < y.m := by have := kd_in (y := y) (c := d.c) (by rw [hk]; decide); omega
  obtain ⟨f0, f1⟩ := fr c hcm
  rw [hc] at hk ⊢
  rw [show ((c : Nat) : Int).toNat = c by omega]
  have C0 := fun w' (hx : Ext w w') => Write64_yes b g y f lv log d.t d.z c w' (hB.ext hx) Y (E.ext hx) hk (by omega) (by omega) f0 f1 hl
  rw [cut64]
  have HG : Hid (∀ w1 w2 lv', Ext w w1 → BD w2 75 b g y (upd f c d.z) lv' (log ++ [⟨d.t, 7, (c : Int), f c, d.z⟩]) → But (Own b g lv) w1 w2 → (lv'.ownBlock = lv.ownBlock ∨ ∃ j, lv'.ownBlock = some j ∧ w1.heap.size ≤ j) → ODoes 75 b g y lv (.tuple #[.int .u64 (0), .bool false]) (upd f c d.z) (log ++ [⟨d.t, 7, (c : Int), f c, d.z⟩]) w (.returned (.tuple #[.int .u64 (0), .bool false])) w2) := Lib.hid (fun w1 w2 lv' a1 a2 a3 a4 => odoes_wrap a1 a2 a3 a4 (Ext.refl _))
  have C := Lib.hid C0
  clear hB Y E fr o0 o1 z0 z1 hd hl
  clear C0
  go_enter Tryz.func14, Tryz.ntmps14
  go_wp2_with fail
  refine (C.out _ ((Ext.refl w).alloc _)).mono ?_
  rintro e w2 ⟨rfl, lv', B2, T2, A2⟩
  have HG2 := Lib.hid (HG.out _ w2 lv' ((Ext.refl w).alloc _) B2 T2 A2)
  clear B2 T2 A2
  go_wp2
  go_ret2
  exact HG2.out
set_option maxRecDepth 100000 in
theorem great_Get_no (b g : Nat) (y : LY) (f : Nat → Int) (lv : Value) (log : List Acc) (d : DoR) (w : World) (hB : BD w 75 b g y f lv log) (Y : YOk y) (E : Parts w) (hl : log.length ≤ 1000) (fr : ∀ i, i < y.m → 0 ≤ f i ∧ f i < 18446744073709551616) (o0 : 0 ≤ d.o) (o1 : d.o < 18446744073709551616) (z0 : 0 ≤ d.z) (z1 : d.z < 18446744073709551616) (hd : d.k = 8) (hk : kd y (plc y.Sl y.C d.c) ≠ 3) :
    Calls Tryz.prog 14 #[.pointer (some ⟨b, 0, none⟩), .agg #[.int .i64 d.t, .int .i64 d.k, .int .i64 d.c, .int .i64 d.n, .int .u64 d.o, .int .u64 d.z]] w (ODoes 75 b g y lv (.tuple #[.int .u64 (0), .bool false]) f log w) := by
  rw [hd]
  have C := Lib.hid (fun w' (hx : Ext w w') => Get64_no b g y f lv log d.t d.c w' (hB.ext hx) Y (E.ext hx) hk)
  have HG : Hid (∀ w1 w2 lv', Ext w w1 → BD w2 75 b g y f lv' log → But (Own b g lv) w1 w2 → (lv'.ownBlock = lv.ownBlock ∨ ∃ j, lv'.ownBlock = some j ∧ w1.heap.size ≤ j) → ODoes 75 b g y lv (.tuple #[.int .u64 (0), .bool false]) f log w (.returned (.tuple #[.int .u64 (0), .bool false])) w2) := Lib.hid (fun w1 w2 lv' a1 a2 a3 a4 => odoes_wrap a1 a2 a3 a4 (Ext.refl _))
  clear hB Y E fr o0 o1 z0 z1 hd hl
  go_enter Tryz.func14, Tryz.ntmps14
  go_wp2_with fail
  refine (C.out _ ((Ext.refl w).alloc _)).mono ?_
  rintro e w2 ⟨rfl, lv', B2, T2, A2⟩
  have HG2 := Lib.hid (HG.out _ w2 lv' ((Ext.refl w).alloc _) B2 T2 A2)
  clear B2 T2 A2
  go_wp2
  go_ret2
  exact HG2.out
set_option maxRecDepth 100000 in
theorem great_Get_yes (b g : Nat) (y : LY) (f : Nat → Int) (lv : Value) (log : List Acc) (d : DoR) (w : World) (hB : BD w 75 b g y f lv log) (Y : YOk y) (E : Parts w) (hl : log.length ≤ 1000) (fr : ∀ i, i < y.m → 0 ≤ f i ∧ f i < 18446744073709551616) (o0 : 0 ≤ d.o) (o1 : d.o < 18446744073709551616) (z0 : 0 ≤ d.z) (z1 : d.z < 18446744073709551616) (hd : d.k = 8) (hk : kd y (plc y.Sl y.C d.c) = 3) :
    Calls Tryz.prog 14 #[.pointer (some ⟨b, 0, none⟩), .agg #[.int .i64 d.t, .int .i64 d.k, .int .i64 d.c, .int .i64 d.n, .int .u64 d.o, .int .u64 d.z]] w (ODoes 75 b g y lv (.tuple #[.int .u64 (f (plc y.Sl y.C d.c).toNat), .bool false]) f (log ++ [⟨d.t, 6, plc y.Sl y.C d.c, f (plc y.Sl y.C d.c).toNat, f (plc y.Sl y.C d.c).toNat⟩]) w) := by
  rw [hd]
  obtain ⟨c, hc⟩ : ∃ c : Nat, plc y.Sl y.C d.c = c := ⟨(plc y.Sl y.C d.c).toNat, by have := kd_in (y := y) (c := plc y.Sl y.C d.c) (by rw [hk]; decide); omega⟩
  have hcm : c < y.m := by have := kd_in (y := y) (c := plc y.Sl y.C d.c) (by rw [hk]; decide); omega
  obtain ⟨f0, f1⟩ := fr c hcm
  rw [hc] at hk ⊢
  rw [show ((c : Nat) : Int).toNat = c by omega]
  have C := Lib.hid (fun w' (hx : Ext w w') => Get64_yes b g y f lv log d.t d.c c w' (hB.ext hx) Y (E.ext hx) hc hk f0 f1 hl)
  have HG : Hid (∀ w1 w2 lv', Ext w w1 → BD w2 75 b g y f lv' (log ++ [⟨d.t, 6, (c : Int), f c, f c⟩]) → But (Own b g lv) w1 w2 → (lv'.ownBlock = lv.ownBlock ∨ ∃ j, lv'.ownBlock = some j ∧ w1.heap.size ≤ j) → ODoes 75 b g y lv (.tuple #[.int .u64 (f c), .bool false]) f (log ++ [⟨d.t, 6, (c : Int), f c, f c⟩]) w (.returned (.tuple #[.int .u64 (f c), .bool false])) w2) := Lib.hid (fun w1 w2 lv' a1 a2 a3 a4 => odoes_wrap a1 a2 a3 a4 (Ext.refl _))
  have hwb := wrap_back f0 f1
  clear hB Y E fr o0 o1 z0 z1 hd hl
  clear hc
  generalize wrap64 (f c) = wv at *
  go_enter Tryz.func14, Tryz.ntmps14
  go_wp2_with fail
  refine (C.out _ ((Ext.refl w).alloc _)).mono ?_
  rintro e w2 ⟨rfl, lv', B2, T2, A2⟩
  have HG2 := Lib.hid (HG.out _ w2 lv' ((Ext.refl w).alloc _) B2 T2 A2)
  clear B2 T2 A2
  go_wp2
  go_ret2
  exact HG2.out
set_option maxRecDepth 100000 in
theorem great_Set_no (b g : Nat) (y : LY) (f : Nat → Int) (lv : Value) (log : List Acc) (d : DoR) (w : World) (hB : BD w 75 b g y f lv log) (Y : YOk y) (E : Parts w) (hl : log.length ≤ 1000) (fr : ∀ i, i < y.m → 0 ≤ f i ∧ f i < 18446744073709551616) (o0 : 0 ≤ d.o) (o1 : d.o < 18446744073709551616) (z0 : 0 ≤ d.z) (z1 : d.z < 18446744073709551616) (hd : d.k = 9) (hk : kd y (plc y.Sl y.C d.c) ≠ 3) :
    Calls Tryz.prog 14 #[.pointer (some ⟨b, 0, none⟩), .agg #[.int .i64 d.t, .int .i64 d.k, .int .i64 d.c, .int .i64 d.n, .int .u64 d.o, .int .u64 d.z]] w (ODoes 75 b g y lv (.tuple #[.int .u64 (0), .bool false]) f log w) := by
  rw [hd]
  have C := Lib.hid (fun w' (hx : Ext w w') => Set64_no b g y f lv log d.t d.c d.n w' (hB.ext hx) Y (E.ext hx) hk)
  have HG : Hid (∀ w1 w2 lv', Ext w w1 → BD w2 75 b g y f lv' log → But (Own b g lv) w1 w2 → (lv'.ownBlock = lv.ownBlock ∨ ∃ j, lv'.ownBlock = some j ∧ w1.heap.size ≤ j) → ODoes 75 b g y lv (.tuple #[.int .u64 (0), .bool false]) f log w (.returned (.tuple #[.int .u64 (0), .bool false])) w2) := Lib.hid (fun w1 w2 lv' a1 a2 a3 a4 => odoes_wrap a1 a2 a3 a4 (Ext.refl _))
  clear hB Y E fr o0 o1 z0 z1 hd hl
  go_enter Tryz.func14, Tryz.ntmps14
  go_wp2_with fail
  refine (C.out _ ((Ext.refl w).alloc _)).mono ?_
  rintro e w2 ⟨rfl, lv', B2, T2, A2⟩
  have HG2 := Lib.hid (HG.out _ w2 lv' ((Ext.refl w).alloc _) B2 T2 A2)
  clear B2 T2 A2
  go_wp2
  go_ret2
  exact HG2.out
set_option maxRecDepth 100000 in
theorem great_Set_yes (b g : Nat) (y : LY) (f : Nat → Int) (lv : Value) (log : List Acc) (d : DoR) (w : World) (hB : BD w 75 b g y f lv log) (Y : YOk y) (E : Parts w) (hl : log.length ≤ 1000) (fr : ∀ i, i < y.m → 0 ≤ f i ∧ f i < 18446744073709551616) (o0 : 0 ≤ d.o) (o1 : d.o < 18446744073709551616) (z0 : 0 ≤ d.z) (z1 : d.z < 18446744073709551616) (hd : d.k = 9) (hk : kd y (plc y.Sl y.C d.c) = 3) :
    Calls Tryz.prog 14 #[.pointer (some ⟨b, 0, none⟩), .agg #[.int .i64 d.t, .int .i64 d.k, .int .i64 d.c, .int .i64 d.n, .int .u64 d.o, .int .u64 d.z]] w (ODoes 75 b g y lv (.tuple #[.int .u64 (0), .bool false]) (upd f (plc y.Sl y.C d.c).toNat (U64 d.n)) (log ++ [⟨d.t, 7, plc y.Sl y.C d.c, f (plc y.Sl y.C d.c).toNat, U64 d.n⟩]) w) := by
  rw [hd]
  obtain ⟨c, hc⟩ : ∃ c : Nat, plc y.Sl y.C d.c = c := ⟨(plc y.Sl y.C d.c).toNat, by have := kd_in (y := y) (c := plc y.Sl y.C d.c) (by rw [hk]; decide); omega⟩
  have hcm : c < y.m := by have := kd_in (y := y) (c := plc y.Sl y.C d.c) (by rw [hk]; decide); omega
  obtain ⟨f0, f1⟩ := fr c hcm
  rw [hc] at hk ⊢
  rw [show ((c : Nat) : Int).toNat = c by omega]
  have C := Lib.hid (fun w' (hx : Ext w w') => Set64_yes b g y f lv log d.t d.c d.n c w' (hB.ext hx) Y (E.ext hx) hc hk f0 f1 hl)
  have HG : Hid (∀ w1 w2 lv', Ext w w1 → BD w2 75 b g y (upd f c (U64 d.n)) lv' (log ++ [⟨d.t, 7, (c : Int), f c, U64 d.n⟩]) → But (Own b g lv) w1 w2 → (lv'.ownBlock = lv.ownBlock ∨ ∃ j, lv'.ownBlock = some j ∧ w1.heap.size ≤ j) → ODoes 75 b g y lv (.tuple #[.int .u64 (0), .bool false]) (upd f c (U64 d.n)) (log ++ [⟨d.t, 7, (c : Int), f c, U64 d.n⟩]) w (.returned (.tuple #[.int .u64 (0), .bool false])) w2) := Lib.hid (fun w1 w2 lv' a1 a2 a3 a4 => odoes_wrap a1 a2 a3 a4 (Ext.refl _))
  clear hB Y E fr o0 o1 z0 z1 hd hl
  clear hc
  go_enter Tryz.func14, Tryz.ntmps14
  go_wp2_with fail
  refine (C.out _ ((Ext.refl w).alloc _)).mono ?_
  rintro e w2 ⟨rfl, lv', B2, T2, A2⟩
  have HG2 := Lib.hid (HG.out _ w2 lv' ((Ext.refl w).alloc _) B2 T2 A2)
  clear B2 T2 A2
  go_wp2
  go_ret2
  exact HG2.out
set_option maxRecDepth 100000 in
theorem great_none (b g : Nat) (y : LY) (f : Nat → Int) (lv : Value) (log : List Acc) (d : DoR) (w : World) (hB : BD w 75 b g y f lv log) (h1 : d.k ≠ 1) (h2 : d.k ≠ 2) (h3 : d.k ≠ 3) (h4 : d.k ≠ 4) (h6 : d.k ≠ 6) (h7 : d.k ≠ 7) (h8 : d.k ≠ 8) (h9 : d.k ≠ 9) :
    Calls Tryz.prog 14 #[.pointer (some ⟨b, 0, none⟩), .agg #[.int .i64 d.t, .int .i64 d.k, .int .i64 d.c, .int .i64 d.n, .int .u64 d.o, .int .u64 d.z]] w (ODoes 75 b g y lv (.tuple #[.int .u64 0, .bool false]) f log w) := by
  have HG : Hid (∀ w1, Ext w w1 → ODoes 75 b g y lv (.tuple #[.int .u64 0, .bool false]) f log w (.returned (.tuple #[.int .u64 0, .bool false])) w1) := Lib.hid (fun w1 a1 => odoes_same hB a1)
  have e1 : (d.k == 1) = false := by simpa using h1
  have e2 : (d.k == 2) = false := by simpa using h2
  have e3 : (d.k == 3) = false := by simpa using h3
  have e4 : (d.k == 4) = false := by simpa using h4
  have e6 : (d.k == 6) = false := by simpa using h6
  have e7 : (d.k == 7) = false := by simpa using h7
  have e8 : (d.k == 8) = false := by simpa using h8
  have e9 : (d.k == 9) = false := by simpa using h9
  clear hB h1 h2 h3 h4 h6 h7 h8 h9
  have HG2 := Lib.hid (HG.out _ ((Ext.refl w).alloc (.cells #[.int .i64 d.t, .int .i64 d.k, .int .i64 d.c, .int .i64 d.n, .int .u64 d.o, .int .u64 d.z] 45)))
  go_enter Tryz.func14, Tryz.ntmps14
  go_wp2
  go_ret2
  exact HG2.out
theorem great_step (b g : Nat) (y : LY) (f : Nat → Int) (lv : Value) (log : List Acc) (d : DoR) (w : World) (hB : BD w 75 b g y f lv log) (Y : YOk y) (E : Parts w) (hl : log.length ≤ 1000) (fr : ∀ i, i < y.m → 0 ≤ f i ∧ f i < 18446744073709551616) (o0 : 0 ≤ d.o) (o1 : d.o < 18446744073709551616) (z0 : 0 ≤ d.z) (z1 : d.z < 18446744073709551616) :
    Calls Tryz.prog 14 #[.pointer (some ⟨b, 0, none⟩), .agg #[.int .i64 d.t, .int .i64 d.k, .int .i64 d.c, .int .i64 d.n, .int .u64 d.o, .int .u64 d.z]] w (ODoes 75 b g y lv (.tuple #[.int .u64 (stp y 64 d f log).v, .bool (stp y 64 d f log).b]) (stp y 64 d f log).f (stp y 64 d f log).l w) := by
  unfold stp
  by_cases k1 : d.k = 1
  · rw [if_pos k1]
    unfold lookS
    by_cases hk : kd y d.c = 1
    · rw [if_pos hk]
      exact great_Load_yes b g y f lv log d w hB Y E hl fr o0 o1 z0 z1 k1 hk
    · rw [if_neg hk]
      exact great_Load_no b g y f lv log d w hB Y E hl fr o0 o1 z0 z1 k1 hk
  rw [if_neg k1]
  by_cases k2 : d.k = 2
  · rw [if_pos k2]
    unfold putS
    by_cases hk : kd y d.c = 1
    · rw [if_pos hk]
      exact great_Store_yes b g y f lv log d w hB Y E hl fr o0 o1 z0 z1 k2 hk
    · rw [if_neg hk]
      exact great_Store_no b g y f lv log d w hB Y E hl fr o0 o1 z0 z1 k2 hk
  rw [if_neg k2]
  by_cases k3 : d.k = 3
  · rw [if_pos k3]
    unfold addS
    by_cases hk : kd y d.c = 1
    · rw [if_pos hk]
      exact great_Add_yes b g y f lv log d w hB Y E hl fr o0 o1 z0 z1 k3 hk
    · rw [if_neg hk]
      exact great_Add_no b g y f lv log d w hB Y E hl fr o0 o1 z0 z1 k3 hk
  rw [if_neg k3]
  by_cases k4 : d.k = 4
  · rw [if_pos k4]
    unfold swapS
    by_cases hk : kd y d.c = 1
    · rw [if_pos hk]
      by_cases ho : cutS 64 (f d.c.toNat) = cutS 64 d.o
      · rw [if_pos ho]
        exact great_Swap_yes b g y f lv log d w hB Y E hl fr o0 o1 z0 z1 k4 hk ho
      · rw [if_neg ho]
        exact great_Swap_miss b g y f lv log d w hB Y E hl fr o0 o1 z0 z1 k4 hk ho
    · rw [if_neg hk]
      exact great_Swap_no b g y f lv log d w hB Y E hl fr o0 o1 z0 z1 k4 hk
  rw [if_neg k4]
  by_cases k6 : d.k = 6
  · rw [if_pos k6]
    unfold lookS
    by_cases hk : kd y d.c = 2
    · rw [if_pos hk]
      exact great_Read_yes b g y f lv log d w hB Y E hl fr o0 o1 z0 z1 k6 hk
    · rw [if_neg hk]
      exact great_Read_no b g y f lv log d w hB Y E hl fr o0 o1 z0 z1 k6 hk
  rw [if_neg k6]
  by_cases k7 : d.k = 7
  · rw [if_pos k7]
    unfold putS
    by_cases hk : kd y d.c = 2
    · rw [if_pos hk]
      exact great_Write_yes b g y f lv log d w hB Y E hl fr o0 o1 z0 z1 k7 hk
    · rw [if_neg hk]
      exact great_Write_no b g y f lv log d w hB Y E hl fr o0 o1 z0 z1 k7 hk
  rw [if_neg k7]
  by_cases k8 : d.k = 8
  · rw [if_pos k8]
    unfold getS
    by_cases hk : kd y (plc y.Sl y.C d.c) = 3
    · rw [if_pos hk]
      exact great_Get_yes b g y f lv log d w hB Y E hl fr o0 o1 z0 z1 k8 hk
    · rw [if_neg hk]
      exact great_Get_no b g y f lv log d w hB Y E hl fr o0 o1 z0 z1 k8 hk
  rw [if_neg k8]
  by_cases k9 : d.k = 9
  · rw [if_pos k9]
    unfold setS
    by_cases hk : kd y (plc y.Sl y.C d.c) = 3
    · rw [if_pos hk]
      exact great_Set_yes b g y f lv log d w hB Y E hl fr o0 o1 z0 z1 k9 hk
    · rw [if_neg hk]
      exact great_Set_no b g y f lv log d w hB Y E hl fr o0 o1 z0 z1 k9 hk
  rw [if_neg k9]
  exact great_none b g y f lv log d w hB k1 k2 k3 k4 k6 k7 k8 k9
end Go.Proofs.YtaimmpcijdpgdabGreatDoor
