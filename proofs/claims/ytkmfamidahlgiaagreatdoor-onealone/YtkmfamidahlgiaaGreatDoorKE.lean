import Derived.Test.YtkmfamidahlgiaaGreatDoorKG
import Derived.Test.YtkmfamidahlgiaaGreatDoorBd2
import Derived.Test.YtkmfamidahlgiaaGreatDoorInts
import Derived.Test.YtkmfamidahlgiaaGreatDoorLists
import Derived.Test.YtkmfamidahlgiaaGreatDoorSeq
import Derived.Maps.AppendAt
import Derived.Laws.AppendOwnNone
import Derived.Deep.AppendLies
import Derived.Lib.Hide
import Derived.Test.YtkmfamidahlgiaaGreatDoorWMath
import Derived.Laws.OwnMore
import Derived.Deep.DeepCutAuto
import Derived.Test.YtkmfamidahlgiaaGreatDoorEvT
import Derived.Test.YtkmfamidahlgiaaGreatDoorWide
import Derived.Test.YtkmfamidahlgiaaGreatDoorKA
import Derived.Test.YtkmfamidahlgiaaGreatDoorLyA
import Derived.Test.YtkmfamidahlgiaaGreatDoorRef01
/- One step of a scan, on a board. -/
namespace Go.Proofs.YtkmfamidahlgiaaGreatDoor
open Go.RowKit
set_option linter.unusedVariables false
set_option linter.unusedSimpArgs false
set_option maxHeartbeats 4000000
attribute [local go_sem] later_cell later_frozen later_const
/-- the frame's other cells stay -/
structure KeepS (w w' : World) (fb o : Nat) : Prop where
  c : ∀ j v, j ≠ o + 4 → j ≠ o + 7 → w.cell? ⟨fb, j, none⟩ = some v → w'.cell? ⟨fb, j, none⟩ = some v
  z : ∀ j v, w.cell? ⟨fb, j, none⟩ = some v → w.frozen? ⟨fb, j, none⟩ = false → w'.frozen? ⟨fb, j, none⟩ = false
theorem KeepS.set {w w' : World} {fb o : Nat} (h : KeepS w w' fb o) (k : Nat) (hk : k = o + 4 ∨ k = o + 7) (u : Value) : KeepS w (w'.setCell ⟨fb, k, none⟩ u) fb o :=
  ⟨fun j v h3 h9 hc => by
    rw [World.cell?_setCell_other _ _ _ _ (fun e => by have := congrArg Addr.off e; simp at this; omega)]
    exact h.c j v h3 h9 hc, fun j v hc hz => by rw [World.frozen?_setCell]; exact h.z j v hc hz⟩
theorem KeepS.of {S : Nat → Prop} {w w' : World} {fb o : Nat} (hb : But S w w') (hs : ¬ S fb) : KeepS w w' fb o := ⟨fun j v _ _ hc => hb.cell hc hs, fun j v hc hz => hb.frozen hc hz hs⟩
theorem KeepS.refl (w : World) (fb o : Nat) : KeepS w w fb o := ⟨fun _ _ _ _ h => h, fun _ _ _ h => h⟩
/-- a frame at place o of block fb: where a scan stands, the least so far -/
structure FR32 (w : World) (fb o : Nat) (I M : Int) : Prop where
  c4 : w.cell? ⟨fb, o + 4, none⟩ = some (.int .i64 I)
  z4 : w.frozen? ⟨fb, o + 4, none⟩ = false
  c7 : w.cell? ⟨fb, o + 7, none⟩ = some (.int .u32 M)
  z7 : w.frozen? ⟨fb, o + 7, none⟩ = false
  od : Odd w fb
theorem FR32.but {S : Nat → Prop} {w w' : World} {fb o : Nat} {I M : Int} (h : FR32 w fb o I M) (hb : But S w w') (hs : ¬ S fb) : FR32 w' fb o I M := ⟨hb.cell h.c4 hs, hb.frozen h.c4 h.z4 hs, hb.cell h.c7 hs, hb.frozen h.c7 h.z7 hs, h.od.but hb hs⟩
theorem FR32.ext {w w' : World} {fb o : Nat} {I M : Int} (h : FR32 w fb o I M) (hx : Ext w w') : FR32 w' fb o I M := h.but (hx.but (fun _ => False)) id
theorem FR32.setM {w : World} {fb o : Nat} {I M : Int} (h : FR32 w fb o I M) (M' : Int) : FR32 (w.setCell ⟨fb, o + 7, none⟩ (.int .u32 M')) fb o I M' :=
  ⟨by rw [World.cell?_setCell_other _ _ _ _ (fun e => by have := congrArg Addr.off e; simp at this)]; exact h.c4, by rw [World.frozen?_setCell]; exact h.z4, World.cell?_setCell_same _ _ _ h.c7, by rw [World.frozen?_setCell]; exact h.z7, h.od.set⟩
theorem FR32.setI {w : World} {fb o : Nat} {I M : Int} (h : FR32 w fb o I M) (I' : Int) : FR32 (w.setCell ⟨fb, o + 4, none⟩ (.int .i64 I')) fb o I' M :=
  ⟨World.cell?_setCell_same _ _ _ h.c4, by rw [World.frozen?_setCell]; exact h.z4, by rw [World.cell?_setCell_other _ _ _ _ (fun e => by have := congrArg Addr.off e; simp at this)]; exact h.c7, by rw [World.frozen?_setCell]; exact h.z7, h.od.set⟩
def nextM32 (I M z : Int) : Int := if I = 0 ∨ D32 (z - M) < 0 then z else M
def ScanDoes32 (b g fb o : Nat) (y : LY) (f : Nat → Int) (lv : Value) (log' : List Acc) (n : Nat) (I M z : Int) (w : World) (e : Ending) (w' : World) : Prop :=
  e = .returned (.bool (decide (I + 1 = n))) ∧ ∃ lv', BD w' 121 b g y f lv' log' ∧ FR32 w' fb o (if I + 1 = n then 0 else I + 1) (nextM32 I M z) ∧ KeepS w w' fb o ∧ But (fun k => Own b g lv k ∨ k = fb) w w' ∧ (lv'.ownBlock = lv.ownBlock ∨ ∃ j, lv'.ownBlock = some j ∧ w.heap.size ≤ j)
/-- the board and the frame, behind writes to the frame -/
theorem scan_fin32 {b g fb o : Nat} {y : LY} {f : Nat → Int} {lv lv1 : Value} {log' : List Acc} {n : Nat} {I M z I' M' : Int} {w w1 w2 : World} (X : Aside w b g lv fb) (hB : BD w1 121 b g y f lv1 log') (hN : But (Own b g lv) w w1) (hA : lv1.ownBlock = lv.ownBlock ∨ ∃ j, lv1.ownBlock = some j ∧ w.heap.size ≤ j) (hF : FR32 w2 fb o I' M') (hC : But (· = fb) w1 w2) (hK : KeepS w1 w2 fb o)
    (hI : I' = if I + 1 = n then 0 else I + 1) (hM : M' = nextM32 I M z) : ScanDoes32 b g fb o y f lv log' n I M z w (.returned (.bool (decide (I + 1 = n)))) w2 := by
  have X1 := X.step hN hA
  refine ⟨rfl, lv1, hB.but hC (fun k hk e => X1.out (by rw [show fb = k from e.symm]; exact hk)), by rw [← hI, ← hM]; exact hF, ⟨fun j v h3 h9 hc => hK.c j v h3 h9 (hN.cell hc X.out), fun j v hc hz => hK.z j v (hN.cell hc X.out) (hN.frozen hc hz X.out)⟩, ?_, hA⟩
  exact (hN.mono fun _ _ h => .inl h).trans (hC.mono fun _ _ h => .inr h)
set_option maxRecDepth 100000 in
theorem scan32_step (b g fb o : Nat) (y : LY) (f : Nat → Int) (lv : Value) (log : List Acc) (t : Int) (v : Value) (xs : List Int) (I c : Nat) (M : Int) (w : World) (hB : BD w 121 b g y f lv log) (Y : YOk y) (E : Parts w) (X : Aside w b g lv fb) (F : FR32 w fb o I M) (hv : IntsV w v xs) (hI : I < xs.length) (hc : xs.getD I 0 = c) (hk : kd y c = 1) (f0 : 0 ≤ f c) (f1 : f c < 18446744073709551616) (hl : log.length ≤ 1000) (hx : xs.length ≤ 1000) :
    Calls Tryz.prog 26 #[.pointer (some ⟨b, 0, none⟩), .int .i64 t, v, .pointer (some ⟨fb, o, none⟩)] w (ScanDoes32 b g fb o y f lv (log ++ [⟨t, 1, c, f c, f c⟩]) xs.length I M (((f c) % 4294967296)) w) := by
  have CL := Lib.hid (Load32_yes b g y f lv log t c w hB Y E hk f0 f1 hl)
  have hF1 := fun w1 (hN : But (Own b g lv) w w1) => F.but hN X.out
  have HF := Lib.hid hF1
  obtain ⟨va, vc, ev, hf⟩ := hv.form
  subst ev
  obtain ⟨vb, vo, ea, cv⟩ := hf I hI
  subst ea
  rw [hc] at cv
  have HFIN := Lib.hid (fun lv1 w1 w2 I' M' (h1 : BD w1 121 b g y f lv1 (log ++ [⟨t, 1, c, f c, f c⟩])) (hN : But (Own b g lv) w w1) (hA : lv1.ownBlock = lv.ownBlock ∨ ∃ j, lv1.ownBlock = some j ∧ w.heap.size ≤ j) (h2 : FR32 w2 fb o I' M') (hC : But (· = fb) w1 w2) (hK : KeepS w1 w2 fb o) hI hM => scan_fin32 (n := xs.length) (I := I) (M := M) (z := ((f c) % 4294967296)) X h1 hN hA h2 hC hK hI hM)
  have q4 := F.c4
  have hI1 : (I : Int) < (xs.length : Int) := by omega
  have hne : (⟨fb, o + 4, none⟩ : Addr) ≠ ⟨fb, o + 7, none⟩ := fun e => by have := congrArg Addr.off e; simp at this
  have hne2 : (⟨fb, o + 7, none⟩ : Addr) ≠ ⟨fb, o + 4, none⟩ := fun e => by have := congrArg Addr.off e; simp at this
  have hI0 : (0 : Int) ≤ (I : Int) := by omega
  generalize hG : ScanDoes32 b g fb o y f lv (log ++ [⟨t, 1, c, f c, f c⟩]) xs.length I M (((f c) % 4294967296)) w = G at *
  generalize hz : (((f c) % 4294967296)) = z at *
  generalize xs.length = n at *
  clear hF1 hB F X hv hf hc hG hz
  go_enter Tryz.func26, Tryz.ntmps26
  go_wp2_with fail
  refine CL.out.mono ?_
  rintro e w1 ⟨rfl, lv1, B1, N1, A1⟩
  have FR1 := HF.out w1 N1
  have HB1 := Lib.hid B1
  have HN1 := Lib.hid N1
  have HA1 := Lib.hid A1
  have HFR := Lib.hid FR1
  have r4 := FR1.c4
  have y4 := FR1.z4
  have r7 := FR1.c7
  have y7 := FR1.z7
  clear B1 N1 A1 FR1 q4 cv
  by_cases h0 : I = 0
  · have d0 : ((I : Int) == 0) = true := by simp [h0]
    have HM := Lib.hid (show nextM32 I M z = z from if_pos (Or.inl (by omega)))
    clear h0
    by_cases hl1 : I + 1 < n
    · have d1 : decide ((I : Int) + 1 < n) = true := by simp; omega
      go_wp2
      have hn : ¬ (I : Int) + 1 = n := by omega
      have h := HFIN.out lv1 w1 _ ((I : Int) + 1) z HB1.out HN1.out HA1.out ((HFR.out.setM z).setI ((I : Int) + 1)) ((but_setCell w1 ⟨fb, o + 7, none⟩ _).trans (but_setCell _ ⟨fb, o + 4, none⟩ _)) (((KeepS.refl w1 fb o).set (o + 7) (.inr rfl) _).set (o + 4) (.inl rfl) _) ((if_neg hn).symm) HM.out.symm
      rw [show decide ((I : Int) + 1 = n) = false from by simpa using hn] at h
      exact h
    · have d1 : decide ((I : Int) + 1 < n) = false := by simp; omega
      go_wp2
      have hn : (I : Int) + 1 = n := by omega
      have h := HFIN.out lv1 w1 _ 0 z HB1.out HN1.out HA1.out (((HFR.out.setM z).setI ((I : Int) + 1)).setI 0) (((but_setCell w1 ⟨fb, o + 7, none⟩ _).trans (but_setCell _ ⟨fb, o + 4, none⟩ _)).trans (but_setCell _ ⟨fb, o + 4, none⟩ _)) ((((KeepS.refl w1 fb o).set (o + 7) (.inr rfl) _).set (o + 4) (.inl rfl) _).set (o + 4) (.inl rfl) _) ((if_pos hn).symm) HM.out.symm
      rw [show decide ((I : Int) + 1 = n) = true from by simpa using hn] at h
      exact h
  · have d0 : ((I : Int) == 0) = false := by simp; omega
    have h0' := Lib.hid h0
    clear h0
    go_wp2_with fail
    refine (lessU32 _ _ _).mono ?_
    rintro e w' ⟨rfl, rfl⟩
    by_cases hd : D32 (z - M) < 0
    · have d2 : decide (D32 (z - M) < 0) = true := by simpa using hd
      have HM := Lib.hid (show nextM32 I M z = z from if_pos (Or.inr hd))
      clear hd
      by_cases hl1 : I + 1 < n
      · have d1 : decide ((I : Int) + 1 < n) = true := by simp; omega
        go_wp2
        have hn : ¬ (I : Int) + 1 = n := by omega
        have h := HFIN.out lv1 w1 _ ((I : Int) + 1) z HB1.out HN1.out HA1.out ((HFR.out.setM z).setI ((I : Int) + 1)) ((but_setCell w1 ⟨fb, o + 7, none⟩ _).trans (but_setCell _ ⟨fb, o + 4, none⟩ _)) (((KeepS.refl w1 fb o).set (o + 7) (.inr rfl) _).set (o + 4) (.inl rfl) _) ((if_neg hn).symm) HM.out.symm
        rw [show decide ((I : Int) + 1 = n) = false from by simpa using hn] at h
        exact h
      · have d1 : decide ((I : Int) + 1 < n) = false := by simp; omega
        go_wp2
        have hn : (I : Int) + 1 = n := by omega
        have h := HFIN.out lv1 w1 _ 0 z HB1.out HN1.out HA1.out (((HFR.out.setM z).setI ((I : Int) + 1)).setI 0) (((but_setCell w1 ⟨fb, o + 7, none⟩ _).trans (but_setCell _ ⟨fb, o + 4, none⟩ _)).trans (but_setCell _ ⟨fb, o + 4, none⟩ _)) ((((KeepS.refl w1 fb o).set (o + 7) (.inr rfl) _).set (o + 4) (.inl rfl) _).set (o + 4) (.inl rfl) _) ((if_pos hn).symm) HM.out.symm
        rw [show decide ((I : Int) + 1 = n) = true from by simpa using hn] at h
        exact h
    · have d2 : decide (D32 (z - M) < 0) = false := by simpa using hd
      have HM := Lib.hid (show nextM32 I M z = M from if_neg (by have := h0'.out; omega))
      clear hd
      by_cases hl1 : I + 1 < n
      · have d1 : decide ((I : Int) + 1 < n) = true := by simp; omega
        go_wp2
        have hn : ¬ (I : Int) + 1 = n := by omega
        have h := HFIN.out lv1 w1 _ ((I : Int) + 1) M HB1.out HN1.out HA1.out (HFR.out.setI ((I : Int) + 1)) (but_setCell w1 ⟨fb, o + 4, none⟩ _) ((KeepS.refl w1 fb o).set (o + 4) (.inl rfl) _) ((if_neg hn).symm) HM.out.symm
        rw [show decide ((I : Int) + 1 = n) = false from by simpa using hn] at h
        exact h
      · have d1 : decide ((I : Int) + 1 < n) = false := by simp; omega
        go_wp2
        have hn : (I : Int) + 1 = n := by omega
        have h := HFIN.out lv1 w1 _ 0 M HB1.out HN1.out HA1.out ((HFR.out.setI ((I : Int) + 1)).setI 0) ((but_setCell w1 ⟨fb, o + 4, none⟩ _).trans (but_setCell _ ⟨fb, o + 4, none⟩ _)) (((KeepS.refl w1 fb o).set (o + 4) (.inl rfl) _).set (o + 4) (.inl rfl) _) ((if_pos hn).symm) HM.out.symm
        rw [show decide ((I : Int) + 1 = n) = true from by simpa using hn] at h
        exact h
theorem scan32_zero (b fb o : Nat) (t i : Int) (a : Option Addr) (c : Nat) (w : World) (q : w.cell? ⟨fb, o + 4, none⟩ = some (.int .i64 i)) (z : w.frozen? ⟨fb, o + 4, none⟩ = false) (hi : 0 ≤ i) : Calls Tryz.prog 26 #[.pointer (some ⟨b, 0, none⟩), .int .i64 t, .slice a 0 c, .pointer (some ⟨fb, o, none⟩)] w fun e w' => e = .returned (.bool true) ∧ w' = w.setCell ⟨fb, o + 4, none⟩ (.int .i64 0) := by
  have h2 : ¬ i < 0 := by omega
  go_enter Tryz.func26, Tryz.ntmps26
  go_wp2
  go_ret
  exact ⟨rfl, rfl⟩
/-- a frame at place o of block fb: where a scan stands, the least so far -/
structure FR64 (w : World) (fb o : Nat) (I M : Int) : Prop where
  c4 : w.cell? ⟨fb, o + 4, none⟩ = some (.int .i64 I)
  z4 : w.frozen? ⟨fb, o + 4, none⟩ = false
  c7 : w.cell? ⟨fb, o + 7, none⟩ = some (.int .u64 M)
  z7 : w.frozen? ⟨fb, o + 7, none⟩ = false
  od : Odd w fb
theorem FR64.but {S : Nat → Prop} {w w' : World} {fb o : Nat} {I M : Int} (h : FR64 w fb o I M) (hb : But S w w') (hs : ¬ S fb) : FR64 w' fb o I M := ⟨hb.cell h.c4 hs, hb.frozen h.c4 h.z4 hs, hb.cell h.c7 hs, hb.frozen h.c7 h.z7 hs, h.od.but hb hs⟩
theorem FR64.ext {w w' : World} {fb o : Nat} {I M : Int} (h : FR64 w fb o I M) (hx : Ext w w') : FR64 w' fb o I M := h.but (hx.but (fun _ => False)) id
theorem FR64.setM {w : World} {fb o : Nat} {I M : Int} (h : FR64 w fb o I M) (M' : Int) : FR64 (w.setCell ⟨fb, o + 7, none⟩ (.int .u64 M')) fb o I M' :=
  ⟨by rw [World.cell?_setCell_other _ _ _ _ (fun e => by have := congrArg Addr.off e; simp at this)]; exact h.c4, by rw [World.frozen?_setCell]; exact h.z4, World.cell?_setCell_same _ _ _ h.c7, by rw [World.frozen?_setCell]; exact h.z7, h.od.set⟩
theorem FR64.setI {w : World} {fb o : Nat} {I M : Int} (h : FR64 w fb o I M) (I' : Int) : FR64 (w.setCell ⟨fb, o + 4, none⟩ (.int .i64 I')) fb o I' M :=
  ⟨World.cell?_setCell_same _ _ _ h.c4, by rw [World.frozen?_setCell]; exact h.z4, by rw [World.cell?_setCell_other _ _ _ _ (fun e => by have := congrArg Addr.off e; simp at this)]; exact h.c7, by rw [World.frozen?_setCell]; exact h.z7, h.od.set⟩
def nextM64 (I M z : Int) : Int := if I = 0 ∨ D64 (z - M) < 0 then z else M
def ScanDoes64 (b g fb o : Nat) (y : LY) (f : Nat → Int) (lv : Value) (log' : List Acc) (n : Nat) (I M z : Int) (w : World) (e : Ending) (w' : World) : Prop :=
  e = .returned (.bool (decide (I + 1 = n))) ∧ ∃ lv', BD w' 152 b g y f lv' log' ∧ FR64 w' fb o (if I + 1 = n then 0 else I + 1) (nextM64 I M z) ∧ KeepS w w' fb o ∧ But (fun k => Own b g lv k ∨ k = fb) w w' ∧ (lv'.ownBlock = lv.ownBlock ∨ ∃ j, lv'.ownBlock = some j ∧ w.heap.size ≤ j)
/-- the board and the frame, behind writes to the frame -/
theorem scan_fin64 {b g fb o : Nat} {y : LY} {f : Nat → Int} {lv lv1 : Value} {log' : List Acc} {n : Nat} {I M z I' M' : Int} {w w1 w2 : World} (X : Aside w b g lv fb) (hB : BD w1 152 b g y f lv1 log') (hN : But (Own b g lv) w w1) (hA : lv1.ownBlock = lv.ownBlock ∨ ∃ j, lv1.ownBlock = some j ∧ w.heap.size ≤ j) (hF : FR64 w2 fb o I' M') (hC : But (· = fb) w1 w2) (hK : KeepS w1 w2 fb o)
    (hI : I' = if I + 1 = n then 0 else I + 1) (hM : M' = nextM64 I M z) : ScanDoes64 b g fb o y f lv log' n I M z w (.returned (.bool (decide (I + 1 = n)))) w2 := by
  have X1 := X.step hN hA
  refine ⟨rfl, lv1, hB.but hC (fun k hk e => X1.out (by rw [show fb = k from e.symm]; exact hk)), by rw [← hI, ← hM]; exact hF, ⟨fun j v h3 h9 hc => hK.c j v h3 h9 (hN.cell hc X.out), fun j v hc hz => hK.z j v (hN.cell hc X.out) (hN.frozen hc hz X.out)⟩, ?_, hA⟩
  exact (hN.mono fun _ _ h => .inl h).trans (hC.mono fun _ _ h => .inr h)
set_option maxRecDepth 100000 in
theorem scan64_step (b g fb o : Nat) (y : LY) (f : Nat → Int) (lv : Value) (log : List Acc) (t : Int) (v : Value) (xs : List Int) (I c : Nat) (M : Int) (w : World) (hB : BD w 152 b g y f lv log) (Y : YOk y) (E : Parts w) (X : Aside w b g lv fb) (F : FR64 w fb o I M) (hv : IntsV w v xs) (hI : I < xs.length) (hc : xs.getD I 0 = c) (hk : kd y c = 1) (f0 : 0 ≤ f c) (f1 : f c < 18446744073709551616) (hl : log.length ≤ 1000) (hx : xs.length ≤ 1000) :
    Calls Tryz.prog 65 #[.pointer (some ⟨b, 0, none⟩), .int .i64 t, v, .pointer (some ⟨fb, o, none⟩)] w (ScanDoes64 b g fb o y f lv (log ++ [⟨t, 1, c, f c, f c⟩]) xs.length I M ((U64 (f c))) w) := by
  have CL := Lib.hid (Load64_yes b g y f lv log t c w hB Y E hk f0 f1 hl)
  have hF1 := fun w1 (hN : But (Own b g lv) w w1) => F.but hN X.out
  have HF := Lib.hid hF1
  obtain ⟨va, vc, ev, hf⟩ := hv.form
  subst ev
  obtain ⟨vb, vo, ea, cv⟩ := hf I hI
  subst ea
  rw [hc] at cv
  have HFIN := Lib.hid (fun lv1 w1 w2 I' M' (h1 : BD w1 152 b g y f lv1 (log ++ [⟨t, 1, c, f c, f c⟩])) (hN : But (Own b g lv) w w1) (hA : lv1.ownBlock = lv.ownBlock ∨ ∃ j, lv1.ownBlock = some j ∧ w.heap.size ≤ j) (h2 : FR64 w2 fb o I' M') (hC : But (· = fb) w1 w2) (hK : KeepS w1 w2 fb o) hI hM => scan_fin64 (n := xs.length) (I := I) (M := M) (z := (U64 (f c))) X h1 hN hA h2 hC hK hI hM)
  have q4 := F.c4
  have hI1 : (I : Int) < (xs.length : Int) := by omega
  have hne : (⟨fb, o + 4, none⟩ : Addr) ≠ ⟨fb, o + 7, none⟩ := fun e => by have := congrArg Addr.off e; simp at this
  have hne2 : (⟨fb, o + 7, none⟩ : Addr) ≠ ⟨fb, o + 4, none⟩ := fun e => by have := congrArg Addr.off e; simp at this
  have hI0 : (0 : Int) ≤ (I : Int) := by omega
  generalize hG : ScanDoes64 b g fb o y f lv (log ++ [⟨t, 1, c, f c, f c⟩]) xs.length I M ((U64 (f c))) w = G at *
  generalize hz : ((U64 (f c))) = z at *
  generalize xs.length = n at *
  clear hF1 hB F X hv hf hc hG hz
  go_enter Tryz.func65, Tryz.ntmps65
  go_wp2_with fail
  refine CL.out.mono ?_
  rintro e w1 ⟨rfl, lv1, B1, N1, A1⟩
  have FR1 := HF.out w1 N1
  have HB1 := Lib.hid B1
  have HN1 := Lib.hid N1
  have HA1 := Lib.hid A1
  have HFR := Lib.hid FR1
  have r4 := FR1.c4
  have y4 := FR1.z4
  have r7 := FR1.c7
  have y7 := FR1.z7
  clear B1 N1 A1 FR1 q4 cv
  by_cases h0 : I = 0
  · have d0 : ((I : Int) == 0) = true := by simp [h0]
    have HM := Lib.hid (show nextM64 I M z = z from if_pos (Or.inl (by omega)))
    clear h0
    by_cases hl1 : I + 1 < n
    · have d1 : decide ((I : Int) + 1 < n) = true := by simp; omega
      go_wp2
      have hn : ¬ (I : Int) + 1 = n := by omega
      have h := HFIN.out lv1 w1 _ ((I : Int) + 1) z HB1.out HN1.out HA1.out ((HFR.out.setM z).setI ((I : Int) + 1)) ((but_setCell w1 ⟨fb, o + 7, none⟩ _).trans (but_setCell _ ⟨fb, o + 4, none⟩ _)) (((KeepS.refl w1 fb o).set (o + 7) (.inr rfl) _).set (o + 4) (.inl rfl) _) ((if_neg hn).symm) HM.out.symm
      rw [show decide ((I : Int) + 1 = n) = false from by simpa using hn] at h
      exact h
    · have d1 : decide ((I : Int) + 1 < n) = false := by simp; omega
      go_wp2
      have hn : (I : Int) + 1 = n := by omega
      have h := HFIN.out lv1 w1 _ 0 z HB1.out HN1.out HA1.out (((HFR.out.setM z).setI ((I : Int) + 1)).setI 0) (((but_setCell w1 ⟨fb, o + 7, none⟩ _).trans (but_setCell _ ⟨fb, o + 4, none⟩ _)).trans (but_setCell _ ⟨fb, o + 4, none⟩ _)) ((((KeepS.refl w1 fb o).set (o + 7) (.inr rfl) _).set (o + 4) (.inl rfl) _).set (o + 4) (.inl rfl) _) ((if_pos hn).symm) HM.out.symm
      rw [show decide ((I : Int) + 1 = n) = true from by simpa using hn] at h
      exact h
  · have d0 : ((I : Int) == 0) = false := by simp; omega
    have h0' := Lib.hid h0
    clear h0
    go_wp2_with fail
    refine (lessU64 _ _ _).mono ?_
    rintro e w' ⟨rfl, rfl⟩
    by_cases hd : D64 (z - M) < 0
    · have d2 : decide (D64 (z - M) < 0) = true := by simpa using hd
      have HM := Lib.hid (show nextM64 I M z = z from if_pos (Or.inr hd))
      clear hd
      by_cases hl1 : I + 1 < n
      · have d1 : decide ((I : Int) + 1 < n) = true := by simp; omega
        go_wp2
        have hn : ¬ (I : Int) + 1 = n := by omega
        have h := HFIN.out lv1 w1 _ ((I : Int) + 1) z HB1.out HN1.out HA1.out ((HFR.out.setM z).setI ((I : Int) + 1)) ((but_setCell w1 ⟨fb, o + 7, none⟩ _).trans (but_setCell _ ⟨fb, o + 4, none⟩ _)) (((KeepS.refl w1 fb o).set (o + 7) (.inr rfl) _).set (o + 4) (.inl rfl) _) ((if_neg hn).symm) HM.out.symm
        rw [show decide ((I : Int) + 1 = n) = false from by simpa using hn] at h
        exact h
      · have d1 : decide ((I : Int) + 1 < n) = false := by simp; omega
        go_wp2
        have hn : (I : Int) + 1 = n := by omega
        have h := HFIN.out lv1 w1 _ 0 z HB1.out HN1.out HA1.out (((HFR.out.setM z).setI ((I : Int) + 1)).setI 0) (((but_setCell w1 ⟨fb, o + 7, none⟩ _).trans (but_setCell _ ⟨fb, o + 4, none⟩ _)).trans (but_setCell _ ⟨fb, o + 4, none⟩ _)) ((((KeepS.refl w1 fb o).set (o + 7) (.inr rfl) _).set (o + 4) (.inl rfl) _).set (o + 4) (.inl rfl) _) ((if_pos hn).symm) HM.out.symm
        rw [show decide ((I : Int) + 1 = n) = true from by simpa using hn] at h
        exact h
    · have d2 : decide (D64 (z - M) < 0) = false := by simpa using hd
      have HM := Lib.hid (show nextM64 I M z = M from if_neg (by have := h0'.out; omega))
      clear hd
      by_cases hl1 : I + 1 < n
      · have d1 : decide ((I : Int) + 1 < n) = true := by simp; omega
        go_wp2
        have hn : ¬ (I : Int) + 1 = n := by omega
        have h := HFIN.out lv1 w1 _ ((I : Int) + 1) M HB1.out HN1.out HA1.out (HFR.out.setI ((I : Int) + 1)) (but_setCell w1 ⟨fb, o + 4, none⟩ _) ((KeepS.refl w1 fb o).set (o + 4) (.inl rfl) _) ((if_neg hn).symm) HM.out.symm
        rw [show decide ((I : Int) + 1 = n) = false from by simpa using hn] at h
        exact h
      · have d1 : decide ((I : Int) + 1 < n) = false := by simp; omega
        go_wp2
        have hn : (I : Int) + 1 = n := by omega
        have h := HFIN.out lv1 w1 _ 0 M HB1.out HN1.out HA1.out ((HFR.out.setI ((I : Int) + 1)).setI 0) ((but_setCell w1 ⟨fb, o + 4, none⟩ _).trans (but_setCell _ ⟨fb, o + 4, none⟩ _)) (((KeepS.refl w1 fb o).set (o + 4) (.inl rfl) _).set (o + 4) (.inl rfl) _) ((if_pos hn).symm) HM.out.symm
        rw [show decide ((I : Int) + 1 = n) = true from by simpa using hn] at h
        exact h
theorem scan64_zero (b fb o : Nat) (t i : Int) (a : Option Addr) (c : Nat) (w : World) (q : w.cell? ⟨fb, o + 4, none⟩ = some (.int .i64 i)) (z : w.frozen? ⟨fb, o + 4, none⟩ = false) (hi : 0 ≤ i) : Calls Tryz.prog 65 #[.pointer (some ⟨b, 0, none⟩), .int .i64 t, .slice a 0 c, .pointer (some ⟨fb, o, none⟩)] w fun e w' => e = .returned (.bool true) ∧ w' = w.setCell ⟨fb, o + 4, none⟩ (.int .i64 0) := by
  have h2 : ¬ i < 0 := by omega
  go_enter Tryz.func65, Tryz.ntmps65
  go_wp2
  go_ret
  exact ⟨rfl, rfl⟩
end Go.Proofs.YtkmfamidahlgiaaGreatDoor
/- Registers of both sides, in blocks beside the boards. -/
namespace Go.Proofs.YtkmfamidahlgiaaGreatDoor
open Go.RowKit
set_option linter.unusedVariables false
set_option linter.unusedSimpArgs false
set_option maxHeartbeats 4000000
/-- both boards, of the same cells and accesses -/
structure Duo (bt : Nat) (w0 w : World) (b g : Nat) (y : LY) (f : Nat → Int) (lv : Value) (log : List Acc) (b' : Nat) (r : RY) (f' : Nat → Int) (lv' : Value) (log' : List Acc) (ups : List (List Int)) : Prop where
  T : Two w0 w bt b g y f lv log b' r f' lv' log'
  ol : OwnL w (.slice y.a y.n y.cap) ups
theorem Duo.ext {bt : Nat} {w0 w w' : World} {b g : Nat} {y : LY} {f : Nat → Int} {lv : Value} {log : List Acc} {b' : Nat} {r : RY} {f' : Nat → Int} {lv' : Value} {log' : List Acc} {ups : List (List Int)} (h : Duo bt w0 w b g y f lv log b' r f' lv' log' ups) (hx : Ext w w') : Duo bt w0 w' b g y f lv log b' r f' lv' log' ups := ⟨h.T.ext hx, h.ol.ext hx⟩
/-- a block beside both boards: n cells of its own -/
structure Sd (b g : Nat) (lv : Value) (b' : Nat) (r : RY) (lv' : Value) (w0 w : World) (k n : Nat) (φ : Nat → Value) : Prop where
  a : VA n w k φ
  o : Odd w k
  x : Far b g lv b' r lv' w0 w k
theorem Sd.ext {b g : Nat} {lv : Value} {b' : Nat} {r : RY} {lv' : Value} {w0 w w' : World} {k n : Nat} {φ : Nat → Value} (h : Sd b g lv b' r lv' w0 w k n φ) (hx : Ext w w') : Sd b g lv b' r lv' w0 w' k n φ :=
  ⟨h.a.ext hx, h.o.but (hx.but (fun _ => False)) id, h.x.up hx.size⟩
theorem Sd.congr {b g : Nat} {lv : Value} {b' : Nat} {r : RY} {lv' : Value} {w0 w : World} {k n : Nat} {φ ψ : Nat → Value} (h : Sd b g lv b' r lv' w0 w k n φ) (e : ∀ i, i < n → φ i = ψ i) : Sd b g lv b' r lv' w0 w k n ψ := ⟨h.a.congr e, h.o, h.x⟩
theorem Sd.aside {b g : Nat} {lv : Value} {b' : Nat} {r : RY} {lv' : Value} {w0 w : World} {k n : Nat} {φ : Nat → Value} (h : Sd b g lv b' r lv' w0 w k n φ) : Aside w b g lv k := ⟨h.x.out, h.x.hi⟩
/-- the first board has turned, or it and another block -/
theorem Sd.stepB {S : Nat → Prop} {b g : Nat} {lv lv2 : Value} {b' : Nat} {r : RY} {lv' : Value} {w0 w w' : World} {k n : Nat} {φ : Nat → Value} (h : Sd b g lv b' r lv' w0 w k n φ) (hN : But S w w') (hs : ∀ q, S q → Own b g lv q ∨ q ≠ k) (hA : lv2.ownBlock = lv.ownBlock ∨ ∃ j, lv2.ownBlock = some j ∧ w.heap.size ≤ j) : Sd b g lv2 b' r lv' w0 w' k n φ := by
  have nk : ¬ S k := fun e => (hs k e).elim h.x.out (fun e => e rfl)
  exact ⟨h.a.but hN nk, h.o.but hN nk, h.x.stepB hN.size hA⟩
theorem Sd.stepR {b g : Nat} {lv : Value} {b' : Nat} {r : RY} {lv' lv2 : Value} {w0 w w' : World} {k n : Nat} {φ : Nat → Value} (h : Sd b g lv b' r lv' w0 w k n φ) (hN : But (Own b' r.gh lv') w w') (hA : lv2.ownBlock = lv'.ownBlock ∨ ∃ j, lv2.ownBlock = some j ∧ w.heap.size ≤ j) : Sd b g lv b' r lv2 w0 w' k n φ :=
  ⟨h.a.but hN h.x.out', h.o.but hN h.x.out', h.x.stepR hN.size hA⟩
/-- another block has turned -/
theorem Sd.off {S : Nat → Prop} {b g : Nat} {lv : Value} {b' : Nat} {r : RY} {lv' : Value} {w0 w w' : World} {k n : Nat} {φ : Nat → Value} (h : Sd b g lv b' r lv' w0 w k n φ) (hN : But S w w') (hk : ¬ S k) : Sd b g lv b' r lv' w0 w' k n φ :=
  ⟨h.a.but hN hk, h.o.but hN hk, h.x.up hN.size⟩
theorem Sd.set {b g : Nat} {lv : Value} {b' : Nat} {r : RY} {lv' : Value} {w0 w : World} {k n : Nat} {φ : Nat → Value} (h : Sd b g lv b' r lv' w0 w k n φ) {i : Nat} (hi : i < n) (v : Value) : Sd b g lv b' r lv' w0 (w.setCell ⟨k, i, none⟩ v) k n (fun j => if j = i then v else φ j) :=
  ⟨va_set h.a v hi, h.o.set, h.x.up (but_setCell w ⟨k, i, none⟩ v).size⟩
theorem Sd.sets {b g : Nat} {lv : Value} {b' : Nat} {r : RY} {lv' : Value} {w0 w : World} {k n : Nat} {φ ψ : Nat → Value} (h : Sd b g lv b' r lv' w0 w k n φ) {o : Nat} (vs : List Value) (hm : o + vs.length ≤ n) (hin : ∀ j, (hj : j < vs.length) → ψ (o + j) = vs[j]) (hout : ∀ i, i < n → (i < o ∨ o + vs.length ≤ i) → ψ i = φ i) : Sd b g lv b' r lv' w0 (w.setCells k o vs) k n ψ :=
  ⟨va_part h.a vs hm hin hout, h.o.sets _ _, h.x.up (but_setCells k vs o w).size⟩
theorem Duo.off {bt : Nat} {w0 w w' : World} {b g : Nat} {y : LY} {f : Nat → Int} {lv : Value} {log : List Acc} {b' : Nat} {r : RY} {f' : Nat → Int} {lv' : Value} {log' : List Acc} {ups : List (List Int)} {k n : Nat} {φ : Nat → Value} (h : Duo bt w0 w b g y f lv log b' r f' lv' log' ups) (hk : Sd b g lv b' r lv' w0 w k n φ) (hN : But (· = k) w w') : Duo bt w0 w' b g y f lv log b' r f' lv' log' ups :=
  ⟨h.T.off hk.x hN, h.ol.odd hN (fun q hq _ => by rw [show q = k from hq]; exact hk.o)⟩
theorem Duo.stepR {bt : Nat} {w0 w w' : World} {b g : Nat} {y : LY} {f : Nat → Int} {lv : Value} {log : List Acc} {b' : Nat} {r : RY} {f' f2 : Nat → Int} {lv' lv2 : Value} {log' log2 : List Acc} {ups : List (List Int)} (h : Duo bt w0 w b g y f lv log b' r f' lv' log' ups) (hR : RB w' b' r f2 lv2 log2) (hN : But (Own b' r.gh lv') w w') (hA : lv2.ownBlock = lv'.ownBlock ∨ ∃ j, lv2.ownBlock = some j ∧ w.heap.size ≤ j) : Duo bt w0 w' b g y f lv log b' r f2 lv2 log2 ups :=
  ⟨h.T.stepR hR hN hA, h.ol.but hN h.T.R.own⟩
theorem Duo.stepB32 {w0 w w' : World} {b g : Nat} {y : LY} {f f2 : Nat → Int} {lv lv2 : Value} {log log2 : List Acc} {b' : Nat} {r : RY} {f' : Nat → Int} {lv' : Value} {log' : List Acc} {ups : List (List Int)} (h : Duo 121 w0 w b g y f lv log b' r f' lv' log' ups) (hB : BD w' 121 b g y f2 lv2 log2) (hN : But (Own b g lv) w w') (hA : lv2.ownBlock = lv.ownBlock ∨ ∃ j, lv2.ownBlock = some j ∧ w.heap.size ≤ j) : Duo 121 w0 w' b g y f2 lv2 log2 b' r f' lv' log' ups :=
  ⟨h.T.stepB (by decide) hB hN hA, h.ol.but hN (h.T.B.own (by decide) (by decide))⟩
theorem Duo.stepK32 {w0 w w' : World} {b g : Nat} {y : LY} {f f2 : Nat → Int} {lv lv2 : Value} {log log2 : List Acc} {b' : Nat} {r : RY} {f' : Nat → Int} {lv' : Value} {log' : List Acc} {ups : List (List Int)} {k n : Nat} {φ : Nat → Value} (h : Duo 121 w0 w b g y f lv log b' r f' lv' log' ups) (hk : Sd b g lv b' r lv' w0 w k n φ) (hB : BD w' 121 b g y f2 lv2 log2) (hN : But (fun q => Own b g lv q ∨ q = k) w w') (hA : lv2.ownBlock = lv.ownBlock ∨ ∃ j, lv2.ownBlock = some j ∧ w.heap.size ≤ j) : Duo 121 w0 w' b g y f2 lv2 log2 b' r f' lv' log' ups := by
  refine ⟨h.T.stepK (by decide) hk.x hB hN hA, h.ol.odd hN (fun q hq _ => ?_)⟩
  rcases hq with e | e
  · exact own_tag32 h.T.B e
  · rw [e]; exact hk.o
theorem Duo.stepB64 {w0 w w' : World} {b g : Nat} {y : LY} {f f2 : Nat → Int} {lv lv2 : Value} {log log2 : List Acc} {b' : Nat} {r : RY} {f' : Nat → Int} {lv' : Value} {log' : List Acc} {ups : List (List Int)} (h : Duo 152 w0 w b g y f lv log b' r f' lv' log' ups) (hB : BD w' 152 b g y f2 lv2 log2) (hN : But (Own b g lv) w w') (hA : lv2.ownBlock = lv.ownBlock ∨ ∃ j, lv2.ownBlock = some j ∧ w.heap.size ≤ j) : Duo 152 w0 w' b g y f2 lv2 log2 b' r f' lv' log' ups :=
  ⟨h.T.stepB (by decide) hB hN hA, h.ol.but hN (h.T.B.own (by decide) (by decide))⟩
theorem Duo.stepK64 {w0 w w' : World} {b g : Nat} {y : LY} {f f2 : Nat → Int} {lv lv2 : Value} {log log2 : List Acc} {b' : Nat} {r : RY} {f' : Nat → Int} {lv' : Value} {log' : List Acc} {ups : List (List Int)} {k n : Nat} {φ : Nat → Value} (h : Duo 152 w0 w b g y f lv log b' r f' lv' log' ups) (hk : Sd b g lv b' r lv' w0 w k n φ) (hB : BD w' 152 b g y f2 lv2 log2) (hN : But (fun q => Own b g lv q ∨ q = k) w w') (hA : lv2.ownBlock = lv.ownBlock ∨ ∃ j, lv2.ownBlock = some j ∧ w.heap.size ≤ j) : Duo 152 w0 w' b g y f2 lv2 log2 b' r f' lv' log' ups := by
  refine ⟨h.T.stepK (by decide) hk.x hB hN hA, h.ol.odd hN (fun q hq _ => ?_)⟩
  rcases hq with e | e
  · exact own_tag64 h.T.B e
  · rw [e]; exact hk.o
/-- registers: N, Pc, I, From, Min, Val; the others are 0 -/
structure Fm where
  N : Int
  Pc : Int
  I : Int
  Fr : Int
  Mn : Int
  Vl : Int
def Fm.nil : Fm := ⟨0, 0, 0, 0, 0, 0⟩
def updF (F : Nat → Fm) (t : Nat) (x : Fm) (i : Nat) : Fm := if i = t then x else F i
theorem dm11 (t k : Nat) (hk : k < 11) : (t * 11 + k) % 11 = k ∧ (t * 11 + k) / 11 = t := by omega
def fml32 (x : Fm) : List Value := [.int .i64 0, .int .i64 x.N, .int .i64 0, .int .i64 x.Pc, .int .i64 x.I, .int .i64 0, .int .u32 x.Fr, .int .u32 x.Mn, .int .u32 x.Vl, .int .u32 0, .slice none 0 0]
def fmc32 (x : Fm) (j : Nat) : Value := (fml32 x).getD j undef
/-- a row of registers -/
def fmV32 (F : Nat → Fm) (i : Nat) : Value := fmc32 (F (i / 11)) (i % 11)
theorem fmV32_at (F : Nat → Fm) (t k : Nat) (hk : k < 11) : fmV32 F (t * 11 + k) = fmc32 (F t) k := by
  unfold fmV32
  rw [(dm11 t k hk).1, (dm11 t k hk).2]
theorem fml32_at (F : Nat → Fm) (t j : Nat) (hj : j < (fml32 (F t)).length) : fmV32 F (t * 11 + j) = (fml32 (F t))[j] := by
  have hj' : j < 11 := hj
  rw [fmV32_at F t j hj']
  unfold fmc32
  rw [List.getD_eq_getElem?_getD, List.getElem?_eq_getElem hj]
  rfl
theorem fmV32_out (F : Nat → Fm) (t : Nat) (x : Fm) (i : Nat) (h : i < t * 11 ∨ t * 11 + 11 ≤ i) : fmV32 (updF F t x) i = fmV32 F i := by
  unfold fmV32 updF
  rw [if_neg (by omega)]
theorem Sd.frame32 {b g : Nat} {lv : Value} {b' : Nat} {r : RY} {lv' : Value} {w0 w : World} {k n t : Nat} {F : Nat → Fm} (h : Sd b g lv b' r lv' w0 w k n (fmV32 F)) (ht : t * 11 + 11 ≤ n) (x : Fm) : Sd b g lv b' r lv' w0 (w.setCells k (t * 11) (fml32 x)) k n (fmV32 (updF F t x)) := by
  refine h.sets (fml32 x) ht (fun j hj => ?_) (fun i hi ho => fmV32_out F t x i ho)
  have := fml32_at (updF F t x) t j
  have e : updF F t x t = x := if_pos rfl
  rw [e] at this
  exact this hj
theorem Sd.fr32 {b g : Nat} {lv : Value} {b' : Nat} {r : RY} {lv' : Value} {w0 w : World} {k n t : Nat} {F : Nat → Fm} (h : Sd b g lv b' r lv' w0 w k n (fmV32 F)) (ht : t * 11 + 11 ≤ n) : FR32 w k (t * 11) (F t).I (F t).Mn :=
  ⟨by rw [h.a.c (t * 11 + 4) (by omega), fmV32_at F t 4 (by decide)]; rfl, h.a.z (t * 11 + 4) (by omega), by rw [h.a.c (t * 11 + 7) (by omega), fmV32_at F t 7 (by decide)]; rfl, h.a.z (t * 11 + 7) (by omega), h.o⟩
/-- behind a step of a scan -/
theorem va_scan32 {w w' : World} {k n t : Nat} {F : Nat → Fm} {I M : Int} (h : VA n w k (fmV32 F)) (ht : t * 11 + 11 ≤ n) (hF : FR32 w' k (t * 11) I M) (hK : KeepS w w' k (t * 11)) : VA n w' k (fmV32 (updF F t { F t with I := I, Mn := M })) := by
  refine ⟨fun i hi => ?_, fun i hi => hK.z i _ (h.c i hi) (h.z i hi)⟩
  by_cases e4 : i = t * 11 + 4
  · subst e4
    rw [fmV32_at _ t 4 (by decide), hF.c4]
    simp [updF, fmc32, fml32]
  by_cases e7 : i = t * 11 + 7
  · subst e7
    rw [fmV32_at _ t 7 (by decide), hF.c7]
    simp [updF, fmc32, fml32]
  rw [hK.c i _ e4 e7 (h.c i hi)]
  by_cases e : i < t * 11 ∨ t * 11 + 11 ≤ i
  · rw [fmV32_out F t _ i e]
  · obtain ⟨j, hj, rfl⟩ : ∃ j, j < 11 ∧ i = t * 11 + j := ⟨i - t * 11, by omega, by omega⟩
    rw [fmV32_at _ t j hj, fmV32_at _ t j hj]
    have h11 : j = 0 ∨ j = 1 ∨ j = 2 ∨ j = 3 ∨ j = 5 ∨ j = 6 ∨ j = 8 ∨ j = 9 ∨ j = 10 := by omega
    rcases h11 with rfl | rfl | rfl | rfl | rfl | rfl | rfl | rfl | rfl <;> simp [updF, fmc32, fml32]
def fml64 (x : Fm) : List Value := [.int .i64 0, .int .i64 x.N, .int .i64 0, .int .i64 x.Pc, .int .i64 x.I, .int .i64 0, .int .u64 x.Fr, .int .u64 x.Mn, .int .u64 x.Vl, .int .u64 0, .slice none 0 0]
def fmc64 (x : Fm) (j : Nat) : Value := (fml64 x).getD j undef
/-- a row of registers -/
def fmV64 (F : Nat → Fm) (i : Nat) : Value := fmc64 (F (i / 11)) (i % 11)
theorem fmV64_at (F : Nat → Fm) (t k : Nat) (hk : k < 11) : fmV64 F (t * 11 + k) = fmc64 (F t) k := by
  unfold fmV64
  rw [(dm11 t k hk).1, (dm11 t k hk).2]
theorem fml64_at (F : Nat → Fm) (t j : Nat) (hj : j < (fml64 (F t)).length) : fmV64 F (t * 11 + j) = (fml64 (F t))[j] := by
  have hj' : j < 11 := hj
  rw [fmV64_at F t j hj']
  unfold fmc64
  rw [List.getD_eq_getElem?_getD, List.getElem?_eq_getElem hj]
  rfl
theorem fmV64_out (F : Nat → Fm) (t : Nat) (x : Fm) (i : Nat) (h : i < t * 11 ∨ t * 11 + 11 ≤ i) : fmV64 (updF F t x) i = fmV64 F i := by
  unfold fmV64 updF
  rw [if_neg (by omega)]
theorem Sd.frame64 {b g : Nat} {lv : Value} {b' : Nat} {r : RY} {lv' : Value} {w0 w : World} {k n t : Nat} {F : Nat → Fm} (h : Sd b g lv b' r lv' w0 w k n (fmV64 F)) (ht : t * 11 + 11 ≤ n) (x : Fm) : Sd b g lv b' r lv' w0 (w.setCells k (t * 11) (fml64 x)) k n (fmV64 (updF F t x)) := by
  refine h.sets (fml64 x) ht (fun j hj => ?_) (fun i hi ho => fmV64_out F t x i ho)
  have := fml64_at (updF F t x) t j
  have e : updF F t x t = x := if_pos rfl
  rw [e] at this
  exact this hj
theorem Sd.fr64 {b g : Nat} {lv : Value} {b' : Nat} {r : RY} {lv' : Value} {w0 w : World} {k n t : Nat} {F : Nat → Fm} (h : Sd b g lv b' r lv' w0 w k n (fmV64 F)) (ht : t * 11 + 11 ≤ n) : FR64 w k (t * 11) (F t).I (F t).Mn :=
  ⟨by rw [h.a.c (t * 11 + 4) (by omega), fmV64_at F t 4 (by decide)]; rfl, h.a.z (t * 11 + 4) (by omega), by rw [h.a.c (t * 11 + 7) (by omega), fmV64_at F t 7 (by decide)]; rfl, h.a.z (t * 11 + 7) (by omega), h.o⟩
/-- behind a step of a scan -/
theorem va_scan64 {w w' : World} {k n t : Nat} {F : Nat → Fm} {I M : Int} (h : VA n w k (fmV64 F)) (ht : t * 11 + 11 ≤ n) (hF : FR64 w' k (t * 11) I M) (hK : KeepS w w' k (t * 11)) : VA n w' k (fmV64 (updF F t { F t with I := I, Mn := M })) := by
  refine ⟨fun i hi => ?_, fun i hi => hK.z i _ (h.c i hi) (h.z i hi)⟩
  by_cases e4 : i = t * 11 + 4
  · subst e4
    rw [fmV64_at _ t 4 (by decide), hF.c4]
    simp [updF, fmc64, fml64]
  by_cases e7 : i = t * 11 + 7
  · subst e7
    rw [fmV64_at _ t 7 (by decide), hF.c7]
    simp [updF, fmc64, fml64]
  rw [hK.c i _ e4 e7 (h.c i hi)]
  by_cases e : i < t * 11 ∨ t * 11 + 11 ≤ i
  · rw [fmV64_out F t _ i e]
  · obtain ⟨j, hj, rfl⟩ : ∃ j, j < 11 ∧ i = t * 11 + j := ⟨i - t * 11, by omega, by omega⟩
    rw [fmV64_at _ t j hj, fmV64_at _ t j hj]
    have h11 : j = 0 ∨ j = 1 ∨ j = 2 ∨ j = 3 ∨ j = 5 ∨ j = 6 ∨ j = 8 ∨ j = 9 ∨ j = 10 := by omega
    rcases h11 with rfl | rfl | rfl | rfl | rfl | rfl | rfl | rfl | rfl <;> simp [updF, fmc64, fml64]
/-- the registers behind a step of a scan, the answer -/
def scnM (D : Int → Int) (I M z : Int) : Int := if I = 0 ∨ D (z - M) < 0 then z else M
def scnI (n : Nat) (I : Int) : Int := if I + 1 = n then 0 else I + 1
end Go.Proofs.YtkmfamidahlgiaaGreatDoor
/- Events in memory: slices that are read, rows of one's own; what append makes of them; event.with. -/
namespace Go.Proofs.YtkmfamidahlgiaaGreatDoor
open Go.RowKit
set_option linter.unusedVariables false
set_option linter.unusedSimpArgs false
set_option maxHeartbeats 1000000
attribute [local go_sem] later_cell later_frozen later_const
theorem info_int15 : (Tryz.prog.info? 3).map (fun i => (i.zero, i.size, i.bytes)) = some (some (.int .i64 0), 1, 8) := by kernel_rfl
theorem info_ev15 : (Tryz.prog.info? 92).map (fun i => (i.zero, i.size, i.bytes)) = some (some (.agg #[.int .i64 0, .int .i64 0, .int .i64 0, .int .i64 0, .int .u64 0, .int .i64 0, .slice none 0 0]), 7, 72) := by kernel_rfl
theorem row_ext {a b : World} (h : Ext a b) {base e sz : Nat} {v : Value} {n : Nat} {xs : List Value} (hr : a.ownsRow base e sz v n xs) : b.ownsRow base e sz v n xs := by
  refine ⟨hr.1, ?_⟩
  rcases hr.2 with hn | ⟨g, cap, cur, rfl, hb, hg, rest⟩
  · exact .inl hn
  · exact .inr ⟨g, cap, cur, rfl, hb, (h.block g (Array.getElem?_eq_some_iff.1 hg).1).trans hg, rest⟩
/-- a block's element type is known -/
def TagE (w : World) (b t : Nat) : Prop := ∃ cur, w.heap[b]? = some (.cells cur t (0, 0))
theorem TagE.ne {w : World} {a b s t : Nat} (h1 : TagE w a s) (h2 : TagE w b t) (h : s ≠ t) : a ≠ b := fun e => by
  subst e
  obtain ⟨c1, h1⟩ := h1
  obtain ⟨c2, h2⟩ := h2
  rw [h1] at h2
  cases h2
  exact h rfl
theorem TagE.but {S : Nat → Prop} {w w' : World} {b t : Nat} (h : TagE w b t) (hb : But S w w') (hs : ¬ S b) : TagE w' b t := by
  obtain ⟨cur, h⟩ := h
  exact ⟨cur, hb.heap h hs⟩
theorem TagE.ext {w w' : World} {b t : Nat} (h : TagE w b t) (hx : Ext w w') : TagE w' b t := h.but (hx.but fun _ => False) id
theorem TagE.lt {w : World} {b t : Nat} (h : TagE w b t) : b < w.heap.size := by
  obtain ⟨cur, h⟩ := h
  exact (Array.getElem?_eq_some_iff.1 h).1
theorem row_tagE {w : World} {base t s n : Nat} {v : Value} {xs : List Value} (h : w.ownsRow base t s v n xs) {k : Nat} (hk : v.ownBlock = some k) : TagE w k t := by
  rcases h.2 with ⟨e1, _⟩ | ⟨g', cap', cur, e1, _, hgo, _⟩
  · rw [e1] at hk; cases hk
  · rw [e1] at hk; cases hk; exact ⟨_, hgo⟩
/-- what is in an event: kind, thread, op, number, position, code, data -/
structure Ev where
  k : Int
  t : Int
  o : Int
  n : Int
  p : Int
  c : Int
  d : List Int
  deriving DecidableEq
/-- its cells, and itself as a value; the data lie at u -/
def evV (e : Ev) (u : Value) : List Value := [.int .i64 e.k, .int .i64 e.t, .int .i64 e.o, .int .i64 e.n, .int .u64 e.p, .int .i64 e.c, u]
def evA (e : Ev) (u : Value) : Value := .agg #[.int .i64 e.k, .int .i64 e.t, .int .i64 e.o, .int .i64 e.n, .int .u64 e.p, .int .i64 e.c, u]
/-- data that are read: in a block from ahead of B, or one of integers -/
def Dat (w : World) (B : Nat) (u : Value) (d : List Int) : Prop :=
  (∃ a cap, u = .slice a 0 cap ∧ d = [] ∧ (a = none → cap = 0)) ∨
  ∃ b off cap, u = .slice (some ⟨b, off, none⟩) d.length cap ∧ (∀ j, j < d.length → w.cell? ⟨b, off + j, none⟩ = some (.int .i64 (d.getD j 0))) ∧ (b < B ∨ TagE w b 3)
theorem Dat.ints {w : World} {B : Nat} {u : Value} {d : List Int} (h : Dat w B u d) : IntsV w u d := by
  rcases h with ⟨a, cap, h1, h2, _⟩ | ⟨b, off, cap, h1, h2, _⟩
  · exact .inl ⟨a, cap, h1, h2⟩
  · exact .inr ⟨b, off, cap, h1, h2⟩
theorem Dat.len {w : World} {B : Nat} {u : Value} {d : List Int} (h : Dat w B u d) : ∃ a cap, u = .slice a d.length cap := by
  rcases h with ⟨a, cap, h1, h2, _⟩ | ⟨b, off, cap, h1, h2, _⟩
  · subst h2; exact ⟨_, _, h1⟩
  · exact ⟨_, _, h1⟩
theorem Dat.one {w : World} {B : Nat} {u : Value} {d : List Int} (h : Dat w B u d) : u.oneCell' = true := by
  obtain ⟨a, cap, rfl⟩ := h.len
  rfl
theorem Dat.but {S : Nat → Prop} {w w' : World} {B : Nat} {u : Value} {d : List Int} (h : Dat w B u d) (hb : But S w w') (hs : ∀ k, S k → k < w.heap.size → B ≤ k ∧ TagE w k 92) : Dat w' B u d := by
  rcases h with h | ⟨b, off, cap, h1, h2, h3⟩
  · exact .inl h
  · by_cases h0 : d.length = 0
    · refine .inl ⟨_, cap, by rw [h1, h0], List.eq_nil_of_length_eq_zero h0, fun e => by cases e⟩
    have nb : ¬ S b := fun hs' => by
      obtain ⟨k1, k2⟩ := hs b hs' (World.block_lt_of_cell? w _ (h2 0 (by omega)))
      rcases h3 with h3 | h3
      · omega
      · exact h3.ne k2 (by decide) rfl
    exact .inr ⟨b, off, cap, h1, fun j hj => hb.cell (h2 j hj) nb, h3.imp id fun t => t.but hb nb⟩
theorem Dat.ext {w w' : World} {B : Nat} {u : Value} {d : List Int} (h : Dat w B u d) (hx : Ext w w') : Dat w' B u d := h.but (hx.but fun _ => False) (fun _ h => h.elim)
theorem Dat.up {w : World} {B B' : Nat} {u : Value} {d : List Int} (h : Dat w B u d) (hB : B ≤ B') : Dat w B' u d := by
  rcases h with h | ⟨b, off, cap, h1, h2, h3⟩
  · exact .inl h
  · exact .inr ⟨b, off, cap, h1, h2, h3.imp (fun h => by omega) id⟩
/-- a row of numbers of one's own -/
def RJ (w : World) (B : Nat) (u : Value) (d : List Int) : Prop := w.ownsRow B 3 1 u d.length (d.map (Value.int .i64))
theorem RJ.dat {w : World} {B B' : Nat} {u : Value} {d : List Int} (h : RJ w B u d) : Dat w B' u d := by
  have ht := fun k hk => row_tagE h (k := k) hk
  rcases h.2 with ⟨rfl, h0⟩ | ⟨g, cap, cur, rfl, hb, hg, hn, hm, hs, hc⟩
  · exact .inl ⟨none, 0, rfl, List.eq_nil_of_length_eq_zero h0, fun _ => rfl⟩
  · refine .inr ⟨g, 0, cap, rfl, fun j hj => ?_, .inr (ht g rfl)⟩
    rw [Nat.zero_add]
    have e : (d.map (Value.int .i64))[j]? = some (.int .i64 (d.getD j 0)) := by simp [hj]
    rw [← hc, List.getElem?_take] at e
    rw [if_pos (by omega)] at e
    simp only [World.cell?, hg]
    simpa using e
theorem RJ.ext {w w' : World} {B : Nat} {u : Value} {d : List Int} (h : RJ w B u d) (hx : Ext w w') : RJ w' B u d := row_ext hx h
theorem RJ.set {w : World} {B b j : Nat} {u x : Value} {d : List Int} (h : RJ w B u d) (hn : ∀ k, u.ownBlock = some k → k ≠ b) : RJ (w.setCell ⟨b, j, none⟩ x) B u d := (but_setCell w ⟨b, j, none⟩ x).row h hn
theorem RJ.nil (w : World) (B : Nat) : RJ w B (.slice none 0 0) [] := World.ownsRow_nil w B 3 1
section
variable {ops : Array Oper} {rest : List Oper} {o : Oper} {a : Act} {Q : Exit → Act → World → Prop}
/-- numbers put behind one's own -/
theorem appJ (w : World) (hgd : o.guard = none) (s x : Operand) (ho : o.op = .call { callee := .builtin .append, args := #[s, x], argTypes := #[35, 35] }) (B : Nat) (v : Value) (xs : List Int) (hs : a.eval s = v) (hown : RJ w B v xs) (hB : B ≤ w.heap.size)
    (y : Value) (zs : List Int) (hx : a.eval x = y) {B' : Nat} (hy : Dat w B' y zs) (hl : xs.length + zs.length ≤ 1000000)
    (h : ∀ v' w', RJ w' B v' (xs ++ zs) → w.grownBy w' v.ownBlock → (v'.ownBlock = v.ownBlock ∨ v'.ownBlock = some w.heap.size) → wpList Tryz.prog ops Q rest (a.put o.dst v') w') : wpList Tryz.prog ops Q (o :: rest) a w := by
  obtain ⟨i0, hi, hz0, hz1, hz2⟩ := info_parts info_int15
  have fin : ∀ (ad : Addr) (c : Nat), y = .slice (some ad) zs.length c → (∀ j u, (zs.map (Value.int .i64))[j]? = some u → w.cell? (ad.add j) = some u) → wpList Tryz.prog ops Q (o :: rest) a w := by
    intro ad c e hc
    refine wpList_append_own_at w hgd s x 35 ho B 3 i0 (.int .i64 0) 1 8 Tryz.underlying35 hi hz0 hz1 hz2 rfl (by decide) v xs.length (xs.map (Value.int .i64)) hs hown ad zs.length c (zs.map (Value.int .i64)) (hx.trans e) (by simp) hc (by intro u hu; obtain ⟨x, _, rfl⟩ := List.mem_map.1 hu; rfl) (by unfold maxLen; omega) (by omega) hB ?_
    intro v' w' h1 h2 h3 h4
    refine h v' w' ?_ h2 h4
    unfold RJ
    rw [List.length_append, List.map_append]
    exact h1
  rcases hy with ⟨p, cap, e, e2, e3⟩ | ⟨b, off, cap, e, hc, _⟩
  · subst e2
    cases p with
    | none =>
      obtain rfl := e3 rfl
      refine wpList_append_own_none hgd s x 35 ho B 3 i0 1 Tryz.underlying35 hi v xs.length (xs.map (Value.int .i64)) hs hown (hx.trans e) (h v w (by rw [List.append_nil]; exact hown) ⟨rfl, rfl, rfl, Nat.le_refl _, fun _ _ _ => rfl⟩ (.inl rfl))
    | some ad => exact fin ad cap e (fun j u hu => by simp at hu)
  · refine fin ⟨b, off, none⟩ cap e fun j u hu => ?_
    have hj : j < zs.length := by simpa using (List.getElem?_eq_some_iff.1 hu).1
    have e2 : u = .int .i64 (zs.getD j 0) := by
      rw [List.getElem?_map] at hu
      simp [hj] at hu
      rw [← hu]
      simp [hj]
    rw [e2]
    have := hc j hj
    simp only [Addr.add]
    split
    · rename_i e; subst e; exact this
    · simpa using this
end
/-! rows of events -/
def rowE (l : List (Ev × Value)) : List Value := l.flatMap fun p => evV p.1 p.2
theorem rowE_app (a b : List (Ev × Value)) : rowE (a ++ b) = rowE a ++ rowE b := List.flatMap_append
theorem rowE_len (l : List (Ev × Value)) : (rowE l).length = l.length * 7 := by
  induction l with
  | nil => rfl
  | cons d l ih => show (evV d.1 d.2 ++ rowE l).length = _; rw [List.length_append, ih]; simp [evV]; omega
theorem rowE_at (l : List (Ev × Value)) (i j : Nat) (hi : i < l.length) (hj : j < 7) : (rowE l)[i * 7 + j]? = (evV l[i].1 l[i].2)[j]? := by
  induction l generalizing i with
  | nil => simp at hi
  | cons d l ih =>
    show (evV d.1 d.2 ++ rowE l)[i * 7 + j]? = _
    have hd : (evV d.1 d.2).length = 7 := rfl
    cases i with
    | zero => rw [List.getElem?_append_left (by omega)]; simp
    | succ i =>
      rw [List.getElem?_append_right (by omega), hd, show (i + 1) * 7 + j - 7 = i * 7 + j by omega, ih i (by simpa using hi)]
      rfl
/-- a slice of events that is read -/
def EvsV (w : World) (B : Nat) (v : Value) (L : List Ev) : Prop :=
  ∃ a cap, v = .slice a L.length cap ∧ L.length ≤ cap ∧ cap ≤ maxLen ∧ (a = none → cap = 0) ∧ ∀ i, (hi : i < L.length) → ∃ b off u, a = some ⟨b, off, none⟩ ∧ (∀ j x, (evV L[i] u)[j]? = some x → w.cell? ⟨b, off + (i * 7 + j), none⟩ = some x) ∧ Dat w B u L[i].d
theorem EvsV.ext {w w' : World} {B : Nat} {v : Value} {L : List Ev} (h : EvsV w B v L) (hx : Ext w w') : EvsV w' B v L := by
  obtain ⟨a, cap, e, h1, h2, h4, h3⟩ := h
  refine ⟨a, cap, e, h1, h2, h4, fun i hi => ?_⟩
  obtain ⟨b, off, u, ea, hc, hd⟩ := h3 i hi
  exact ⟨b, off, u, ea, fun j u hu => hx.cell (hc j u hu), hd.ext hx⟩
theorem EvsV.up {w : World} {B B' : Nat} {v : Value} {L : List Ev} (h : EvsV w B v L) (hB : B ≤ B') : EvsV w B' v L := by
  obtain ⟨a, cap, e, h1, h2, h4, h3⟩ := h
  refine ⟨a, cap, e, h1, h2, h4, fun i hi => ?_⟩
  obtain ⟨b, off, u, ea, hc, hd⟩ := h3 i hi
  exact ⟨b, off, u, ea, hc, hd.up hB⟩
theorem EvsV.form {w : World} {B : Nat} {v : Value} {L : List Ev} (h : EvsV w B v L) : ∃ a cap, v = .slice a L.length cap ∧ L.length ≤ cap ∧ cap ≤ maxLen := by
  obtain ⟨a, cap, e, h1, h2, _⟩ := h
  exact ⟨a, cap, e, h1, h2⟩
/-- an event's cells in every later world -/
structure AtE (w : World) (B b o : Nat) (u : Value) (e : Ev) : Prop where
  c0 : w.cell? ⟨b, o, none⟩ = some (.int .i64 e.k)
  c1 : w.cell? ⟨b, o + 1, none⟩ = some (.int .i64 e.t)
  c2 : w.cell? ⟨b, o + 2, none⟩ = some (.int .i64 e.o)
  c3 : w.cell? ⟨b, o + 3, none⟩ = some (.int .i64 e.n)
  c4 : w.cell? ⟨b, o + 4, none⟩ = some (.int .u64 e.p)
  c5 : w.cell? ⟨b, o + 5, none⟩ = some (.int .i64 e.c)
  c6 : w.cell? ⟨b, o + 6, none⟩ = some u
  d : Dat w B u e.d
theorem AtE.ext {w w' : World} {B b o : Nat} {u : Value} {e : Ev} (h : AtE w B b o u e) (hx : Ext w w') : AtE w' B b o u e :=
  ⟨hx.cell h.c0, hx.cell h.c1, hx.cell h.c2, hx.cell h.c3, hx.cell h.c4, hx.cell h.c5, hx.cell h.c6, h.d.ext hx⟩
theorem EvsV.at {w : World} {B : Nat} {a : Option Addr} {m cap : Nat} {L : List Ev} (h : EvsV w B (.slice a m cap) L) {w' : World} (hx : Ext w w') {i : Nat} (hi : i < L.length) : ∃ b off u, a = some ⟨b, off, none⟩ ∧ AtE w' B b (off + i * 7) u L[i] := by
  obtain ⟨a', cap', e, _, _, _, h3⟩ := h
  cases e
  obtain ⟨b, off, u, ea, hc, hd⟩ := h3 i hi
  refine ⟨b, off, u, ea, ⟨hx.cell (hc 0 _ rfl), hx.cell (hc 1 _ rfl), hx.cell (hc 2 _ rfl), hx.cell (hc 3 _ rfl), hx.cell (hc 4 _ rfl), hx.cell (hc 5 _ rfl), hx.cell (hc 6 _ rfl), hd.ext hx⟩⟩
/-- events in memory of one's own -/
def RE (w : World) (B : Nat) (v : Value) (L : List Ev) : Prop := ∃ l : List (Ev × Value), l.map Prod.fst = L ∧ w.ownsRow B 92 7 v l.length (rowE l) ∧ ∀ p ∈ l, Dat w B p.2 p.1.d
theorem RE.nil (w : World) (B : Nat) : RE w B (.slice none 0 0) [] := ⟨[], rfl, World.ownsRow_nil w B 92 7, by simp⟩
theorem RE.lt {w : World} {B : Nat} {v : Value} {L : List Ev} (h : RE w B v L) {k : Nat} (hk : v.ownBlock = some k) : B ≤ k ∧ k < w.heap.size ∧ TagE w k 92 := by
  obtain ⟨l, _, hr, _⟩ := h
  have := World.ownsRow.lt hr k hk
  exact ⟨this.1, this.2, row_tagE hr hk⟩
theorem RE.but {S : Nat → Prop} {w w' : World} {B : Nat} {v : Value} {L : List Ev} (h : RE w B v L) (hb : But S w w') (hs : ∀ k, S k → k < w.heap.size → B ≤ k ∧ TagE w k 92) (hv : ∀ k, v.ownBlock = some k → ¬ S k) : RE w' B v L := by
  obtain ⟨l, e, hr, hd⟩ := h
  exact ⟨l, e, hb.row hr hv, fun p hp => (hd p hp).but hb hs⟩
theorem RE.ext {w w' : World} {B : Nat} {v : Value} {L : List Ev} (h : RE w B v L) (hx : Ext w w') : RE w' B v L := h.but (hx.but fun _ => False) (fun _ h => h.elim) (fun _ _ h => h)
theorem RE.evs {w : World} {B : Nat} {v : Value} {L : List Ev} (h : RE w B v L) : EvsV w B v L := by
  obtain ⟨l, e, hr, hd⟩ := h
  subst e
  rcases hr.2 with ⟨rfl, h0⟩ | ⟨g, cap, cur, rfl, hb, hg, hn, hm, hs, ht⟩
  · exact ⟨none, 0, by rw [List.length_map, h0], by rw [List.length_map]; omega, by unfold maxLen; omega, fun _ => rfl, fun i hi => by rw [List.length_map] at hi; omega⟩
  · refine ⟨_, cap, by rw [List.length_map], by simpa using hn, hm, fun e => (by cases e), fun i hi => ?_⟩
    have hi' : i < l.length := by simpa using hi
    refine ⟨g, 0, l[i].2, rfl, fun j u hu => ?_, ?_⟩
    · have hj : j < 7 := (List.getElem?_eq_some_iff.1 hu).1
      have h1 := rowE_at l i j hi' hj
      rw [List.getElem_map] at hu
      rw [hu, ← ht, List.getElem?_take, if_pos (by omega)] at h1
      rw [Nat.zero_add]
      simp only [World.cell?, hg]
      simpa using h1
    · rw [List.getElem_map]
      exact hd _ (List.getElem_mem hi')
theorem RE.len {w : World} {B : Nat} {v : Value} {L : List Ev} (h : RE w B v L) : ∃ a cap, v = .slice a L.length cap := by
  obtain ⟨a, cap, e, _⟩ := h.evs
  exact ⟨a, cap, e⟩
section
variable {ops : Array Oper} {rest : List Oper} {o : Oper} {a : Act} {Q : Exit → Act → World → Prop}
/-- events put behind one's own -/
theorem appEs (w : World) (hgd : o.guard = none) (s x : Operand) (ho : o.op = .call { callee := .builtin .append, args := #[s, x], argTypes := #[86, 86] }) (B : Nat) (v : Value) (L : List Ev) (hs : a.eval s = v) (hown : RE w B v L) (hB : B ≤ w.heap.size)
    (y : Value) (zs : List Ev) (hx : a.eval x = y) (hy : EvsV w B y zs) (hl : L.length + zs.length ≤ 1000000)
    (h : ∀ v' w', RE w' B v' (L ++ zs) → w.grownBy w' v.ownBlock → (v'.ownBlock = v.ownBlock ∨ v'.ownBlock = some w.heap.size) → wpList Tryz.prog ops Q rest (a.put o.dst v') w') : wpList Tryz.prog ops Q (o :: rest) a w := by
  obtain ⟨i0, hi, hz0, hz1, hz2⟩ := info_parts info_ev15
  obtain ⟨l, e, hr, hd⟩ := id hown
  obtain ⟨p, cap, ey, hc1, hc2, hnil, hcell⟩ := hy
  have hbk : ∀ k, v.ownBlock = some k → B ≤ k ∧ TagE w k 92 := fun k hk => ⟨(hown.lt hk).1, (hown.lt hk).2.2⟩
  have hel : L.length = l.length := by rw [← e, List.length_map]
  cases p with
  | none =>
    obtain rfl := hnil rfl
    have h0 : zs.length = 0 := by omega
    have hz : zs = [] := List.eq_nil_of_length_eq_zero h0
    subst hz
    refine wpList_append_own_none hgd s x 86 ho B 92 i0 7 Tryz.underlying86 hi v l.length (rowE l) hs hr (hx.trans ey) (h v w (by rw [List.append_nil]; exact hown) ⟨rfl, rfl, rfl, Nat.le_refl _, fun _ _ _ => rfl⟩ (.inl rfl))
  | some ad =>
    have hch : ∀ i, ∃ u, (hi : i < zs.length) → (∀ j q, (evV zs[i] u)[j]? = some q → w.cell? (ad.add (i * 7 + j)) = some q) ∧ Dat w B u zs[i].d := by
      intro i
      by_cases hi : i < zs.length
      · obtain ⟨b, off, u, ea, hc, hdd⟩ := hcell i hi
        refine ⟨u, fun _ => ⟨fun j q hq => ?_, hdd⟩⟩
        cases ea
        have := hc j q hq
        simp only [Addr.add]
        split
        · rename_i e; rw [e] at this; exact this
        · simpa using this
      · exact ⟨undef, fun h => absurd h hi⟩
    obtain ⟨U, hU⟩ := Classical.axiomOfChoice hch
    let m : List (Ev × Value) := zs.zipIdx.map fun q => (q.1, U q.2)
    have hml : m.length = zs.length := by simp [m]
    have hmf : m.map Prod.fst = zs := by
      simp only [m, List.map_map]
      apply List.ext_getElem (by simp)
      intro i h1 h2
      simp
    have hmi : ∀ i (hi : i < m.length), m[i] = (zs[i]'(by omega), U i) := by
      intro i hi
      simp [m]
    refine wpList_append_own_at w hgd s x 86 ho B 92 i0 (.agg #[.int .i64 0, .int .i64 0, .int .i64 0, .int .i64 0, .int .u64 0, .int .i64 0, .slice none 0 0]) 7 72 Tryz.underlying86 hi hz0 hz1 hz2 rfl (by decide) v l.length (rowE l) hs hr ad zs.length cap (rowE m) (hx.trans ey) (by rw [rowE_len, hml]) ?_ ?_ (by unfold maxLen; omega) (by omega) hB ?_
    · intro j q hq
      have hj : j < m.length * 7 := by have := (List.getElem?_eq_some_iff.1 hq).1; rwa [rowE_len] at this
      have h1 := rowE_at m (j / 7) (j % 7) (by omega) (by omega)
      rw [show j / 7 * 7 + j % 7 = j by omega, hq, hmi (j / 7) (by omega)] at h1
      have := (hU (j / 7) (by omega)).1 (j % 7) q h1.symm
      rwa [show j / 7 * 7 + j % 7 = j by omega] at this
    · intro u hu
      obtain ⟨i, hi2, hiu⟩ := List.getElem_of_mem hu
      rw [rowE_len] at hi2
      have h1 := rowE_at m (i / 7) (i % 7) (by omega) (by omega)
      rw [show i / 7 * 7 + i % 7 = i by omega, List.getElem?_eq_getElem (by rw [rowE_len]; omega), hiu, hmi (i / 7) (by omega)] at h1
      have hm2 := List.mem_of_getElem? h1.symm
      have h3 := (hU (i / 7) (by omega)).2.one
      simp only [evV, List.mem_cons, List.mem_nil_iff, or_false] at hm2
      rcases hm2 with rfl | rfl | rfl | rfl | rfl | rfl | rfl
      · rfl
      · rfl
      · rfl
      · rfl
      · rfl
      · rfl
      · exact h3
    · intro v' w' h1 h2 _ h4
      refine h v' w' ⟨l ++ m, by rw [List.map_append, e, hmf], ?_, ?_⟩ h2 h4
      · rw [List.length_append, rowE_app, hml]
        exact h1
      · have bt := but_grown h2
        intro q hq
        rcases List.mem_append.1 hq with hq | hq
        · exact (hd q hq).but bt fun k hk _ => hbk k hk
        · obtain ⟨i, hi2, rfl⟩ := List.getElem_of_mem hq
          rw [hmi i hi2]
          exact ((hU i (by omega)).2).but bt fun k hk _ => hbk k hk
/-- one event put behind one's own -/
theorem appE (w : World) (hgd : o.guard = none) (s x : Operand) (ho : o.op = .call { callee := .builtin .append, args := #[s, x], argTypes := #[86, 86] }) (B : Nat) (v : Value) (L : List Ev) (hs : a.eval s = v) (hown : RE w B v L) (hB : B ≤ w.heap.size)
    (g : Nat) (z : Ev) (u : Value) (hx : a.eval x = .slice (some ⟨g, 0, none⟩) 1 1) (hc : AtE w B g 0 u z) (hl : L.length ≤ 900000)
    (h : ∀ v' w', RE w' B v' (L ++ [z]) → w.grownBy w' v.ownBlock → (v'.ownBlock = v.ownBlock ∨ v'.ownBlock = some w.heap.size) → wpList Tryz.prog ops Q rest (a.put o.dst v') w') : wpList Tryz.prog ops Q (o :: rest) a w := by
  refine appEs w hgd s x ho B v L hs hown hB _ [z] hx ⟨_, 1, rfl, Nat.le_refl _, by unfold maxLen; omega, fun e => (by cases e), fun i hi => ?_⟩ (by simp; omega) h
  obtain rfl : i = 0 := by simpa using hi
  refine ⟨g, 0, u, rfl, fun j q hq => ?_, hc.d⟩
  match j, hq with
  | 0, hq => simp [evV] at hq; subst hq; exact hc.c0
  | 1, hq => simp [evV] at hq; subst hq; exact hc.c1
  | 2, hq => simp [evV] at hq; subst hq; exact hc.c2
  | 3, hq => simp [evV] at hq; subst hq; exact hc.c3
  | 4, hq => simp [evV] at hq; subst hq; exact hc.c4
  | 5, hq => simp [evV] at hq; subst hq; exact hc.c5
  | 6, hq => simp [evV] at hq; subst hq; exact hc.c6
  | j + 7, hq => simp [evV] at hq
end
theorem cellE {w : World} {b T : Nat} {cs : Array Value} {j : Nat} {v : Value} (h : w.heap[b]? = some (.cells cs T)) (hv : cs[j]? = some v) : w.cell? ⟨b, j, none⟩ = some v ∧ w.frozen? ⟨b, j, none⟩ = false := by
  constructor
  · simp [World.cell?, h, hv]
  · simp [World.frozen?, h]
/-- a box with an event, which may be written -/
structure BE (w : World) (b : Nat) (k t o n p c : Int) (u : Value) : Prop where
  c0 : w.cell? ⟨b, 0, none⟩ = some (.int .i64 k)
  c1 : w.cell? ⟨b, 1, none⟩ = some (.int .i64 t)
  c2 : w.cell? ⟨b, 2, none⟩ = some (.int .i64 o)
  c3 : w.cell? ⟨b, 3, none⟩ = some (.int .i64 n)
  c4 : w.cell? ⟨b, 4, none⟩ = some (.int .u64 p)
  c5 : w.cell? ⟨b, 5, none⟩ = some (.int .i64 c)
  c6 : w.cell? ⟨b, 6, none⟩ = some u
  z0 : w.frozen? ⟨b, 0, none⟩ = false
  z1 : w.frozen? ⟨b, 1, none⟩ = false
  z2 : w.frozen? ⟨b, 2, none⟩ = false
  z3 : w.frozen? ⟨b, 3, none⟩ = false
  z4 : w.frozen? ⟨b, 4, none⟩ = false
  z5 : w.frozen? ⟨b, 5, none⟩ = false
  z6 : w.frozen? ⟨b, 6, none⟩ = false
theorem BE.of {w : World} {b T : Nat} {k t o n p c : Int} {u : Value} (h : w.heap[b]? = some (.cells #[.int .i64 k, .int .i64 t, .int .i64 o, .int .i64 n, .int .u64 p, .int .i64 c, u] T)) : BE w b k t o n p c u :=
  ⟨(cellE h rfl).1, (cellE h rfl).1, (cellE h rfl).1, (cellE h rfl).1, (cellE h rfl).1, (cellE h rfl).1, (cellE h rfl).1, (cellE (j := 0) h rfl).2, (cellE (j := 1) h rfl).2, (cellE (j := 2) h rfl).2, (cellE (j := 3) h rfl).2, (cellE (j := 4) h rfl).2, (cellE (j := 5) h rfl).2, (cellE (j := 6) h rfl).2⟩
theorem BE.but {S : Nat → Prop} {w w' : World} {b : Nat} {k t o n p c : Int} {u : Value} (h : BE w b k t o n p c u) (hb : But S w w') (hs : ¬ S b) : BE w' b k t o n p c u :=
  ⟨hb.cell h.c0 hs, hb.cell h.c1 hs, hb.cell h.c2 hs, hb.cell h.c3 hs, hb.cell h.c4 hs, hb.cell h.c5 hs, hb.cell h.c6 hs, hb.frozen h.c0 h.z0 hs, hb.frozen h.c1 h.z1 hs, hb.frozen h.c2 h.z2 hs, hb.frozen h.c3 h.z3 hs, hb.frozen h.c4 h.z4 hs, hb.frozen h.c5 h.z5 hs, hb.frozen h.c6 h.z6 hs⟩
theorem BE.ext {w w' : World} {b : Nat} {k t o n p c : Int} {u : Value} (h : BE w b k t o n p c u) (hx : Ext w w') : BE w' b k t o n p c u := h.but (hx.but fun _ => False) id
theorem BE.at {w : World} {b B : Nat} {e : Ev} {u : Value} (h : BE w b e.k e.t e.o e.n e.p e.c u) (hd : Dat w B u e.d) : AtE w B b 0 u e := ⟨h.c0, h.c1, h.c2, h.c3, h.c4, h.c5, h.c6, hd⟩
/-- the cells of a block just made -/
theorem at_new {w : World} {B : Nat} {T : Nat} {z : Ev} {u : Value} (hd : Dat w B u z.d) : AtE (w.alloc (.cells (evV z u).toArray T)) B w.heap.size 0 u z := by
  have h0 : (w.alloc (.cells (evV z u).toArray T)).heap[w.heap.size]? = some (.cells (evV z u).toArray T) := World.alloc_heap_new w _
  exact ⟨(cellE h0 rfl).1, (cellE h0 rfl).1, (cellE h0 rfl).1, (cellE h0 rfl).1, (cellE h0 rfl).1, (cellE h0 rfl).1, (cellE h0 rfl).1, hd.ext ((Ext.refl w).alloc _)⟩
/-- an event with a copy of some data -/
def GivesE (w : World) (e : Ev) (end_ : Ending) (w' : World) : Prop := ∃ u, end_ = .returned (evA e u) ∧ RJ w' w.heap.size u e.d ∧ Ext w w'
theorem eWith (x : Ev) (u0 v : Value) (d : List Int) (w : World) {B : Nat} (hv : Dat w B v d) (hl : d.length ≤ 1000000) : Calls Tryz.prog 137 #[evA x u0, v] w (GivesE w { x with d := d }) := by
  have HV := Lib.hid hv
  have HL := Lib.hid hl
  clear hv hl
  have HG : Hid (∀ u w', RJ w' w.heap.size u d → Ext w w' → GivesE w { x with d := d } (.returned (.agg #[.int .i64 x.k, .int .i64 x.t, .int .i64 x.o, .int .i64 x.n, .int .u64 x.p, .int .i64 x.c, u])) w') := Lib.hid (fun u w' h1 h2 => ⟨u, rfl, h1, h2⟩)
  generalize GivesE w { x with d := d } = G at *
  unfold evA
  generalize x.k = k at *
  generalize x.t = t at *
  generalize x.o = o at *
  generalize x.n = n at *
  generalize x.p = p at *
  generalize x.c = c at *
  go_enter Tryz.func137, Tryz.ntmps137
  go_wp2_with (at_builtin; refine appJ _ rfl _ _ rfl w.heap.size (.slice none 0 0) [] rfl (RJ.nil _ _) (by simp; omega) v d rfl (HV.out.ext (((Ext.refl w).alloc _).alloc _)) (by have := HL.out; simpa using this) ?_)
  intro v' w' h1 h2 h4
  have h5 : ∀ k, v'.ownBlock = some k → k = w.heap.size + 1 + 1 := fun k hk => by
    rcases h4 with h4 | h4
    · rw [hk] at h4; cases h4
    · rw [hk] at h4; simpa using h4
  have H5 := Lib.hid h5
  clear h4 h5
  have X2 : Ext w w' := (((Ext.refl w).alloc _).alloc _).grown h2 (fun k hk => by cases hk)
  have X3 := (Ext.refl ((w.alloc (.cells #[.int .i64 k, .int .i64 t, .int .i64 o, .int .i64 n, .int .u64 p, .int .i64 c, u0] 92)).alloc (.cells #[.int .i64 0, .int .i64 0, .int .i64 0, .int .i64 0, .int .u64 0, .int .i64 0, .slice none 0 0] 92))).grown h2 (fun k hk => by cases hk)
  obtain ⟨p', c', rfl⟩ := (h1.dat (B' := 0)).len
  have H1 := Lib.hid h1
  clear h2 h1
  obtain ⟨q0, q1, q2, q3, q4, q5, q6, z0, z1, z2, z3, z4, z5, z6⟩ := (BE.of ((heap_alloc_old _ _ (by simp)).trans (World.alloc_heap_new w _)) : BE ((w.alloc (.cells #[.int .i64 k, .int .i64 t, .int .i64 o, .int .i64 n, .int .u64 p, .int .i64 c, u0] 92)).alloc (.cells #[.int .i64 0, .int .i64 0, .int .i64 0, .int .i64 0, .int .u64 0, .int .i64 0, .slice none 0 0] 92)) w.heap.size k t o n p c u0).ext X3
  have b1 := World.alloc_heap_new (w.alloc (.cells #[.int .i64 k, .int .i64 t, .int .i64 o, .int .i64 n, .int .u64 p, .int .i64 c, u0] 92)) (.cells #[.int .i64 0, .int .i64 0, .int .i64 0, .int .i64 0, .int .u64 0, .int .i64 0, .slice none 0 0] 92)
  rw [show (w.alloc (.cells #[.int .i64 k, .int .i64 t, .int .i64 o, .int .i64 n, .int .u64 p, .int .i64 c, u0] 92)).heap.size = w.heap.size + 1 by simp] at b1
  obtain ⟨r0, r1, r2, r3, r4, r5, r6, y0, y1, y2, y3, y4, y5, y6⟩ := (BE.of b1).ext X3
  clear b1 X3
  go_wp2
  refine bodyPost_ret (v := .agg #[.int .i64 k, .int .i64 t, .int .i64 o, .int .i64 n, .int .u64 p, .int .i64 c, .slice p' d.length c']) (by simp [results, Tryz.results137, go_sem, r0, r1, r2, r3, r4, r5, r6]) rfl (HG.out _ _ ?_ ?_)
  · repeat refine RJ.set ?_ (fun k hk => by have := H5.out k hk; omega)
    exact H1.out
  · repeat (first | with_reducible exact Ext.refl _ | with_reducible assumption | with_reducible refine Ext.alloc ?_ _ | with_reducible refine Ext.drew ?_ | with_reducible refine Ext.drewN ?_ _ | with_reducible refine Ext.setCell ?_ (by simp <;> omega) _ | with_reducible refine Ext.trans ?_ (by assumption))
end Go.Proofs.YtkmfamidahlgiaaGreatDoor
/- Puts that go on made one: on lists; rows of events whose data lie apart, in memory of one's own. -/
namespace Go.Proofs.YtkmfamidahlgiaaGreatDoor
open Go.RowKit
set_option linter.unusedVariables false
set_option linter.unusedSimpArgs false
set_option maxHeartbeats 1000000
def plusE (W p n : Int) : Int := if W = 32 then (p + n) % 4294967296 else U64 (p + n)
/-- is the second one a put that begins where the first one ends? -/
def goOn (W : Int) (x y : Ev) : Bool := decide (x.k = 5) && (decide (y.k = 5) && (decide (x.t = y.t) && decide (y.p = plusE W x.p x.n)))
def addE (x y : Ev) : Ev := { x with n := D64 (x.n + y.n), d := x.d ++ y.d }
def mst (W : Int) (s : List Ev × Option Ev) (e : Ev) : List Ev × Option Ev :=
  match s.2 with
  | none => (s.1, some e)
  | some l => if goOn W l e = true then (s.1, some (addE l e)) else (s.1 ++ [l], some e)
theorem mst_yes {W : Int} {D : List Ev} {l e : Ev} (h : goOn W l e = true) : mst W (D, some l) e = (D, some (addE l e)) := if_pos h
theorem mst_no {W : Int} {D : List Ev} {l e : Ev} (h : ¬ goOn W l e = true) : mst W (D, some l) e = (D ++ [l], some e) := if_neg h
def outM (s : List Ev × Option Ev) : List Ev := s.1 ++ s.2.toList
def mrun (W : Int) (L : List Ev) : List Ev × Option Ev := L.foldl (mst W) ([], none)
def merged (W : Int) (L : List Ev) : List Ev := outM (mrun W L)
theorem mrun_snoc (W : Int) {L : List Ev} {k : Nat} (hk : k < L.length) : mrun W (L.take (k + 1)) = mst W (mrun W (L.take k)) L[k] := by
  unfold mrun
  rw [List.take_succ_eq_append_getElem hk, List.foldl_append]
  rfl
def tot (L : List Ev) : Nat := (L.map fun e => e.d.length).sum
theorem tot_app (a b : List Ev) : tot (a ++ b) = tot a + tot b := by simp [tot]
theorem tot_one (e : Ev) : tot [e] = e.d.length := by simp [tot]
theorem tot_mem {L : List Ev} {e : Ev} (h : e ∈ L) : e.d.length ≤ tot L := by
  induction L with
  | nil => cases h
  | cons a l ih =>
    have : tot (a :: l) = a.d.length + tot l := by simp [tot]
    rcases List.mem_cons.1 h with rfl | h
    · omega
    · have := ih h; omega
theorem tot_take (L : List Ev) (k : Nat) : tot (L.take k) ≤ tot L := by
  have := tot_app (L.take k) (L.drop k)
  rw [List.take_append_drop] at this
  omega
theorem mst_tot (W : Int) (s : List Ev × Option Ev) (e : Ev) : tot (outM (mst W s e)) = tot (outM s) + e.d.length := by
  obtain ⟨D, c⟩ := s
  cases c with
  | none => show tot (D ++ [e]) = tot (D ++ []) + _; rw [tot_app, tot_one, List.append_nil]
  | some l =>
    by_cases h : goOn W l e = true
    · rw [mst_yes h]
      show tot (D ++ [addE l e]) = tot (D ++ [l]) + _
      rw [tot_app, tot_app, tot_one, tot_one]
      simp [addE]
      omega
    · rw [mst_no h]
      show tot (D ++ [l] ++ [e]) = tot (D ++ [l]) + _
      rw [tot_app (D ++ [l]), tot_one]
theorem mrun_tot (W : Int) (L : List Ev) : tot (merged W L) = tot L := by
  have : ∀ (l : List Ev) (s : List Ev × Option Ev), tot (outM (l.foldl (mst W) s)) = tot (outM s) + tot l := by
    intro l
    induction l with
    | nil => intro s; simp [tot]
    | cons a l ih =>
      intro s
      rw [List.foldl_cons, ih, mst_tot]
      have : tot (a :: l) = a.d.length + tot l := by simp [tot]
      omega
  unfold merged mrun
  rw [this]
  simp [outM, tot]
theorem mst_len (W : Int) (s : List Ev × Option Ev) (e : Ev) : (outM (mst W s e)).length ≤ (outM s).length + 1 := by
  obtain ⟨D, c⟩ := s
  cases c with
  | none => show (D ++ [e]).length ≤ (D ++ []).length + 1; simp
  | some l =>
    by_cases h : goOn W l e = true
    · rw [mst_yes h]; show (D ++ [addE l e]).length ≤ (D ++ [l]).length + 1; simp
    · rw [mst_no h]; show (D ++ [l] ++ [e]).length ≤ (D ++ [l]).length + 1; simp
theorem mrun_len (W : Int) (L : List Ev) : (merged W L).length ≤ L.length := by
  have : ∀ (l : List Ev) (s : List Ev × Option Ev), (outM (l.foldl (mst W) s)).length ≤ (outM s).length + l.length := by
    intro l
    induction l with
    | nil => intro s; simp
    | cons a l ih =>
      intro s
      rw [List.foldl_cons]
      have h1 := ih (mst W s a)
      have h2 := mst_len W s a
      simp
      omega
  have := this L ([], none)
  simpa [merged, mrun, outM] using this
/-- no two neighbours go on -/
def noGo (W : Int) : List Ev → Prop
  | [] => True
  | [_] => True
  | x :: y :: l => goOn W x y = false ∧ noGo W (y :: l)
theorem noGo_snoc {W : Int} {a b : Ev} : ∀ {D : List Ev}, noGo W (D ++ [a]) → goOn W a b = false → noGo W (D ++ [a] ++ [b])
  | [], _, h => ⟨h, trivial⟩
  | [x], h0, h => ⟨h0.1, h, trivial⟩
  | x :: y :: D, h0, h => ⟨h0.1, noGo_snoc (D := y :: D) h0.2 h⟩
theorem noGo_last {W : Int} {a b : Ev} (h : ∀ x, goOn W x b = goOn W x a) : ∀ {D : List Ev}, noGo W (D ++ [a]) → noGo W (D ++ [b])
  | [], _ => trivial
  | [x], h0 => ⟨(h x).trans h0.1, trivial⟩
  | x :: y :: D, h0 => ⟨h0.1, noGo_last h (D := y :: D) h0.2⟩
theorem mst_noGo {W : Int} {s : List Ev × Option Ev} {e : Ev} (h : noGo W (outM s)) (h0 : s.2 = none → s.1 = []) : noGo W (outM (mst W s e)) ∧ ((mst W s e).2 = none → (mst W s e).1 = []) := by
  obtain ⟨D, c⟩ := s
  cases c with
  | none =>
    have : D = [] := h0 rfl
    subst this
    exact ⟨trivial, fun h => by cases h⟩
  | some l =>
    by_cases hg : goOn W l e = true
    · rw [mst_yes hg]
      exact ⟨noGo_last (fun x => rfl) (D := D) (a := l) (b := addE l e) h, fun h => by cases h⟩
    · rw [mst_no hg]
      exact ⟨noGo_snoc (D := D) h (by simpa using hg), fun h => by cases h⟩
theorem merged_noGo (W : Int) (L : List Ev) : noGo W (merged W L) := by
  have : ∀ (l : List Ev) (s : List Ev × Option Ev), noGo W (outM s) → (s.2 = none → s.1 = []) → noGo W (outM (l.foldl (mst W) s)) := by
    intro l
    induction l with
    | nil => intro s h _; exact h
    | cons a l ih =>
      intro s h h0
      obtain ⟨h1, h2⟩ := mst_noGo (e := a) h h0
      exact ih _ h1 h2
  exact this L ([], none) trivial (fun _ => rfl)
theorem fold_noGo {W : Int} : ∀ (l : List Ev) (D : List Ev) (a : Ev), noGo W (a :: l) → outM (l.foldl (mst W) (D, some a)) = D ++ a :: l
  | [], D, a, _ => rfl
  | b :: l, D, a, h => by
    have e : mst W (D, some a) b = (D ++ [a], some b) := mst_no (by simp [h.1])
    rw [List.foldl_cons, e, fold_noGo l (D ++ [a]) b h.2]
    simp
/-- merged once more nothing changes -/
theorem merged_again (W : Int) (L : List Ev) : merged W (merged W L) = merged W L := by
  have h := merged_noGo W L
  generalize merged W L = M at *
  cases M with
  | nil => rfl
  | cons a l =>
    show outM (l.foldl (mst W) (mst W ([], none) a)) = _
    exact fold_noGo l [] a h
/-! in memory -/
def ApartE (l : List (Ev × Value)) : Prop := ∀ (i j : Nat) (p q : Ev × Value), i ≠ j → l[i]? = some p → l[j]? = some q → ∀ g, p.2.ownBlock = some g → q.2.ownBlock ≠ some g
/-- events in memory of one's own, each one's data too, apart -/
def RM (w : World) (B : Nat) (v : Value) (L : List Ev) : Prop := ∃ l : List (Ev × Value), l.map Prod.fst = L ∧ w.ownsRow B 92 7 v l.length (rowE l) ∧ (∀ p ∈ l, RJ w B p.2 p.1.d) ∧ ApartE l
theorem RM.nil (w : World) (B : Nat) : RM w B (.slice none 0 0) [] := ⟨[], rfl, World.ownsRow_nil w B 92 7, by simp, fun i j p q _ h => by simp at h⟩
theorem RM.re {w : World} {B : Nat} {v : Value} {L : List Ev} (h : RM w B v L) : RE w B v L := by
  obtain ⟨l, e, hr, hd, _⟩ := h
  exact ⟨l, e, hr, fun p hp => (hd p hp).dat⟩
theorem RJ.but {S : Nat → Prop} {w w' : World} {B : Nat} {u : Value} {d : List Int} (h : RJ w B u d) (hb : But S w w') (hs : ∀ g, u.ownBlock = some g → ¬ S g) : RJ w' B u d := hb.row h hs
theorem RM.ext {w w' : World} {B : Nat} {v : Value} {L : List Ev} (h : RM w B v L) (hx : Ext w w') : RM w' B v L := by
  obtain ⟨l, e, hr, hd, ha⟩ := h
  exact ⟨l, e, row_ext hx hr, fun p hp => (hd p hp).ext hx, ha⟩
theorem RJ.lower {w : World} {B B' : Nat} {u : Value} {d : List Int} (h : RJ w B u d) (hB : B' ≤ B) : RJ w B' u d := by
  refine ⟨h.1, ?_⟩
  rcases h.2 with hn | ⟨g, cap, cur, h1, h2, rest⟩
  · exact .inl hn
  · exact .inr ⟨g, cap, cur, h1, Nat.le_trans hB h2, rest⟩
theorem apart_snoc {l : List (Ev × Value)} {p : Ev × Value} (h : ApartE l) (hp : ∀ q ∈ l, ∀ g, q.2.ownBlock = some g → p.2.ownBlock ≠ some g) : ApartE (l ++ [p]) := by
  intro i j a b hij ha hb g hg hg'
  have key : ∀ (i : Nat) (a : Ev × Value), (l ++ [p])[i]? = some a → (i < l.length ∧ l[i]? = some a) ∨ (i = l.length ∧ a = p) := by
    intro i a h
    by_cases hi : i < l.length
    · rw [List.getElem?_append_left hi] at h
      exact .inl ⟨hi, h⟩
    · have hi2 : i < l.length + 1 := by have := (List.getElem?_eq_some_iff.1 h).1; simpa using this
      obtain rfl : i = l.length := by omega
      simp at h
      exact .inr ⟨rfl, h.symm⟩
  rcases key i a ha with ⟨_, h1⟩ | ⟨h1, h1'⟩ <;> rcases key j b hb with ⟨_, h2⟩ | ⟨h2, h2'⟩
  · exact h i j a b hij h1 h2 g hg hg'
  · subst h2'; exact hp a (List.mem_of_getElem? h1) g hg hg'
  · subst h1'; exact hp b (List.mem_of_getElem? h2) g hg' hg
  · omega
theorem apart_front {l : List (Ev × Value)} {p : Ev × Value} (h : ApartE (l ++ [p])) : ApartE l ∧ ∀ q ∈ l, ∀ g, q.2.ownBlock = some g → p.2.ownBlock ≠ some g := by
  refine ⟨fun i j a b hij ha hb => ?_, fun q hq g hg => ?_⟩
  · have hi := (List.getElem?_eq_some_iff.1 ha).1
    have hj := (List.getElem?_eq_some_iff.1 hb).1
    exact h i j a b hij (by rw [List.getElem?_append_left hi]; exact ha) (by rw [List.getElem?_append_left hj]; exact hb)
  · obtain ⟨i, hi, e⟩ := List.getElem_of_mem hq
    exact h i l.length q p (by omega) (by rw [List.getElem?_append_left hi, List.getElem?_eq_getElem hi, e]) (by simp) g hg
section
variable {ops : Array Oper} {rest : List Oper} {o : Oper} {a : Act} {Q : Exit → Act → World → Prop}
/-- one event with data of its own put behind one's own -/
theorem appM (w0 w : World) (hgd : o.guard = none) (s x : Operand) (ho : o.op = .call { callee := .builtin .append, args := #[s, x], argTypes := #[86, 86] }) (B : Nat) (v : Value) (L : List Ev) (hs : a.eval s = v) (hown : RM w0 B v L) (hB : B ≤ w0.heap.size) (hx0 : Ext w0 w)
    (g : Nat) (z : Ev) (u : Value) (hx : a.eval x = .slice (some ⟨g, 0, none⟩) 1 1) (hc : AtE w B g 0 u z) (hu : RJ w w0.heap.size u z.d) (hl : L.length ≤ 900000)
    (h : ∀ v' w', RM w' B v' (L ++ [z]) → w.grownBy w' v.ownBlock → wpList Tryz.prog ops Q rest (a.put o.dst v') w') : wpList Tryz.prog ops Q (o :: rest) a w := by
  obtain ⟨i0, hi, hz0, hz1, hz2⟩ := info_parts info_ev15
  have hre := (hown.ext hx0).re
  obtain ⟨l, e, hr0, hd0, ha⟩ := hown
  have hr := row_ext hx0 hr0
  have hd : ∀ p ∈ l, RJ w B p.2 p.1.d := fun p hp => (hd0 p hp).ext hx0
  have hel : L.length = l.length := by rw [← e, List.length_map]
  refine wpList_append_own_at w hgd s x 86 ho B 92 i0 (.agg #[.int .i64 0, .int .i64 0, .int .i64 0, .int .i64 0, .int .u64 0, .int .i64 0, .slice none 0 0]) 7 72 Tryz.underlying86 hi hz0 hz1 hz2 rfl (by decide) v l.length (rowE l) hs hr ⟨g, 0, none⟩ 1 1 (evV z u) hx rfl ?_ ?_ (by unfold maxLen; omega) (by omega) (Nat.le_trans hB hx0.size) ?_
  · intro j q hq
    have : w.cell? ⟨g, j, none⟩ = some q := by
      match j, hq with
      | 0, hq => simp [evV] at hq; subst hq; exact hc.c0
      | 1, hq => simp [evV] at hq; subst hq; exact hc.c1
      | 2, hq => simp [evV] at hq; subst hq; exact hc.c2
      | 3, hq => simp [evV] at hq; subst hq; exact hc.c3
      | 4, hq => simp [evV] at hq; subst hq; exact hc.c4
      | 5, hq => simp [evV] at hq; subst hq; exact hc.c5
      | 6, hq => simp [evV] at hq; subst hq; exact hc.c6
      | j + 7, hq => simp [evV] at hq
    simp only [Addr.add]
    split
    · rename_i e; subst e; exact this
    · simpa using this
  · intro q hq
    simp only [evV, List.mem_cons, List.mem_nil_iff, or_false] at hq
    rcases hq with rfl | rfl | rfl | rfl | rfl | rfl | rfl
    all_goals first | rfl | exact hc.d.one
  · intro v' w' h1 h2 _ h4
    have bt := but_grown h2
    have off : ∀ q d B', RJ w B' q d → ∀ k, q.ownBlock = some k → ¬ v.ownBlock = some k := fun q d B' hq k hk e => by
      exact (row_tagE hq hk).ne (hre.lt e).2.2 (by decide) rfl
    refine h v' w' ⟨l ++ [(z, u)], by rw [List.map_append, e]; rfl, ?_, ?_, ?_⟩ h2
    · rw [List.length_append, rowE_app]
      simpa [rowE] using h1
    · intro q hq
      rcases List.mem_append.1 hq with hq | hq
      · exact (hd q hq).but bt (off _ _ _ (hd q hq))
      · obtain rfl : q = (z, u) := by simpa using hq
        exact (hu.lower hB).but bt (off _ _ _ hu)
    · refine apart_snoc ha fun q hq k hk hk' => ?_
      have k1 := (World.ownsRow.lt hu k hk').1
      have k2 := (World.ownsRow.lt (hd0 q hq) k hk).2
      omega
end
theorem rowE_last_set (l0 : List (Ev × Value)) (x x' : Ev) (u u' q : Value) (j : Nat) (hj : j < 7) (h : (evV x u).set j q = evV x' u') : (rowE (l0 ++ [(x, u)])).set (l0.length * 7 + j) q = rowE (l0 ++ [(x', u')]) := by
  rw [rowE_app, rowE_app, List.set_append_right _ _ (by rw [rowE_len]; omega), rowE_len, Nat.add_sub_cancel_left]
  have e : ∀ y : Ev × Value, rowE [y] = evV y.1 y.2 := fun y => by simp [rowE]
  rw [e, e, h]
/-- the last one: where it lies, and what comes of writes to it -/
theorem RM.last {w : World} {B : Nat} {v : Value} {D : List Ev} {x : Ev} (h : RM w B v (D ++ [x])) : ∃ g cap u, v = .slice (some ⟨g, 0, none⟩) (D.length + 1) cap ∧ AtE w B g (D.length * 7) u x ∧ (∀ j, w.frozen? ⟨g, j, none⟩ = false) ∧ RJ w B u x.d ∧ B ≤ g ∧ TagE w g 92 ∧
    (∀ w', w.grownBy w' u.ownBlock → w'.cell? ⟨g, D.length * 7 + 6, none⟩ = some u ∧ w'.frozen? ⟨g, D.length * 7 + 6, none⟩ = false) ∧
    (∀ n', RM (w.setCell ⟨g, D.length * 7 + 3, none⟩ (.int .i64 n')) B v (D ++ [{ x with n := n' }])) ∧
    (∀ w' u' zs, RJ w' B u' (x.d ++ zs) → w.grownBy w' u.ownBlock → (u'.ownBlock = u.ownBlock ∨ u'.ownBlock = some w.heap.size) → RM (w'.setCell ⟨g, D.length * 7 + 6, none⟩ u') B v (D ++ [{ x with d := x.d ++ zs }])) := by
  obtain ⟨l, e, hr, hd, ha⟩ := h
  obtain ⟨l0, l1, rfl, e0, e1⟩ := List.map_eq_append_iff.1 e
  obtain ⟨⟨x', u⟩, rfl, ex⟩ : ∃ p : Ev × Value, l1 = [p] ∧ p.1 = x := by
    match l1, e1 with
    | [p], e1 => simp at e1; exact ⟨p, rfl, e1⟩
  simp only at ex
  subst ex
  have hl0 : D.length = l0.length := by rw [← e0, List.length_map]
  have hlen : (l0 ++ [(x', u)]).length = D.length + 1 := by simp [hl0]
  have hux : RJ w B u x'.d := hd (x', u) (by simp)
  rcases hr.2 with ⟨_, h0⟩ | ⟨g, cap, cur, ev, hB, hg, hn, hm, hs, ht⟩
  · rw [hlen] at h0; omega
  have tg : TagE w g 92 := ⟨_, hg⟩
  have hru : rowE (l0 ++ [(x', u)]) = rowE l0 ++ evV x' u := by rw [rowE_app]; simp [rowE]
  have cells : ∀ j q, (evV x' u)[j]? = some q → w.cell? ⟨g, D.length * 7 + j, none⟩ = some q := fun j q hq => by
    have hj : j < 7 := (List.getElem?_eq_some_iff.1 hq).1
    rw [ev] at hr
    rw [hr.cellAt (D.length * 7 + j) (by rw [hlen]; omega), hru, List.getElem?_append_right (by rw [rowE_len]; omega), rowE_len, hl0, Nat.add_sub_cancel_left]
    exact hq
  refine ⟨g, cap, u, by rw [ev, hlen], ⟨cells 0 _ rfl, cells 1 _ rfl, cells 2 _ rfl, cells 3 _ rfl, cells 4 _ rfl, cells 5 _ rfl, cells 6 _ rfl, hux.dat⟩, fun j => (by rw [ev] at hr; exact hr.frozenAt j), hux, hB, tg, fun w' hgr => ?_, fun n' => ?_, fun w' u' zs hu' hgr hat => ?_⟩
  · have bt := but_grown hgr
    have ngu : ¬ u.ownBlock = some g := fun e => (row_tagE hux e).ne tg (by decide) rfl
    have c6 := cells 6 _ rfl
    exact ⟨bt.cell c6 ngu, bt.frozen c6 (by rw [ev] at hr; exact hr.frozenAt _) ngu⟩
  · have hb := but_setCell w ⟨g, D.length * 7 + 3, none⟩ (.int .i64 n')
    refine ⟨l0 ++ [({ x' with n := n' }, u)], by rw [List.map_append, e0]; rfl, ?_, ?_, ?_⟩
    · have hr2 := hr
      rw [ev] at hr2 ⊢
      have := (hr2.stored (D.length * 7 + 3) (.int .i64 n')).1
      rw [hl0, rowE_last_set l0 x' { x' with n := n' } u u (.int .i64 n') 3 (by decide) rfl] at this
      rw [hl0]
      simpa using this
    · have key : ∀ q ∈ l0 ++ [(x', u)], RJ (w.setCell ⟨g, D.length * 7 + 3, none⟩ (.int .i64 n')) B q.2 q.1.d := fun q hq => (hd q hq).but hb fun k hk e => (row_tagE (hd q hq) hk).ne tg (by decide) (by simpa using e)
      intro q hq
      rcases List.mem_append.1 hq with hq | hq
      · exact key q (List.mem_append_left _ hq)
      · obtain rfl : q = ({ x' with n := n' }, u) := by simpa using hq
        exact key (x', u) (by simp)
    · obtain ⟨a1, a2⟩ := apart_front ha
      exact apart_snoc a1 a2
  · have bt := but_grown hgr
    have ngu : ¬ u.ownBlock = some g := fun e => (row_tagE hux e).ne tg (by decide) rfl
    have tg' : TagE w' g 92 := tg.but bt ngu
    have hb := but_setCell w' ⟨g, D.length * 7 + 6, none⟩ u'
    have hr' := bt.row hr (fun k hk => by rw [ev] at hk; simp [Value.ownBlock] at hk; subst hk; exact ngu)
    obtain ⟨a1, a2⟩ := apart_front ha
    refine ⟨l0 ++ [({ x' with d := x'.d ++ zs }, u')], by rw [List.map_append, e0]; rfl, ?_, ?_, ?_⟩
    · rw [ev] at hr' ⊢
      have := (hr'.stored (D.length * 7 + 6) u').1
      rw [hl0, rowE_last_set l0 x' { x' with d := x'.d ++ zs } u u' u' 6 (by decide) rfl] at this
      rw [hl0]
      simpa using this
    · intro q hq
      rcases List.mem_append.1 hq with hq | hq
      · have h1 := hd q (List.mem_append_left _ hq)
        have h2 : RJ w' B q.2 q.1.d := h1.but bt fun k hk e => a2 q hq k hk e
        exact h2.but hb fun k hk e => (row_tagE h2 hk).ne tg' (by decide) (by simpa using e)
      · obtain rfl : q = ({ x' with d := x'.d ++ zs }, u') := by simpa using hq
        exact hu'.but hb fun k hk e => (row_tagE hu' hk).ne tg' (by decide) (by simpa using e)
    · refine apart_snoc a1 fun q hq k hk hk' => ?_
      have k2 := (World.ownsRow.lt (hd q (List.mem_append_left _ hq)) k hk).2
      rcases hat with hat | hat
      · exact a2 q hq k hk (by rw [← hat]; exact hk')
      · rw [hat] at hk'; cases hk'; omega
theorem RM.lastM {m : Nat} {w : World} {B : Nat} {v : Value} {D : List Ev} {x : Ev} (h : RM w B v (D ++ [x])) (hm : m = D.length) : ∃ g cap u, v = .slice (some ⟨g, 0, none⟩) (m + 1) cap ∧ AtE w B g (m * 7) u x ∧ (∀ j, w.frozen? ⟨g, j, none⟩ = false) ∧ RJ w B u x.d ∧ B ≤ g ∧ TagE w g 92 ∧
    (∀ w', w.grownBy w' u.ownBlock → w'.cell? ⟨g, m * 7 + 6, none⟩ = some u ∧ w'.frozen? ⟨g, m * 7 + 6, none⟩ = false) ∧
    (∀ n', RM (w.setCell ⟨g, m * 7 + 3, none⟩ (.int .i64 n')) B v (D ++ [{ x with n := n' }])) ∧
    (∀ w' u' zs, RJ w' B u' (x.d ++ zs) → w.grownBy w' u.ownBlock → (u'.ownBlock = u.ownBlock ∨ u'.ownBlock = some w.heap.size) → RM (w'.setCell ⟨g, m * 7 + 6, none⟩ u') B v (D ++ [{ x with d := x.d ++ zs }])) := by
  subst hm
  exact h.last
end Go.Proofs.YtkmfamidahlgiaaGreatDoor
/- Copies of those events that are wanted; how long events are. -/
namespace Go.Proofs.YtkmfamidahlgiaaGreatDoor
open Go.RowKit
set_option linter.unusedVariables false
set_option linter.unusedSimpArgs false
set_option maxHeartbeats 2000000
attribute [local go_sem] later_cell later_frozen later_const
/-- where a slice of events lies, and what it has -/
theorem EvsV.get3 {w : World} {B : Nat} {v : Value} {L : List Ev} (h : EvsV w B v L) : ∃ a cap, v = .slice a L.length cap ∧ L.length ≤ 9223372036854775807 ∧ ∀ w', Ext w w' → ∀ i (hi : i < L.length), ∃ b off u, a = some ⟨b, off, none⟩ ∧ AtE w' B b (off + i * 7) u L[i] := by
  obtain ⟨a, cap, e, hc, hm⟩ := h.form
  subst e
  exact ⟨a, cap, rfl, by unfold maxLen at hm; omega, fun w' hx i hi => h.at hx hi⟩
/-- a call gives these events, in memory of its own -/
def GivesR (w : World) (L : List Ev) (e : Ending) (w' : World) : Prop := ∃ v, e = .returned v ∧ RE w' w.heap.size v L ∧ Ext w w'
theorem filter_snoc {α : Type} (p : α → Bool) {l : List α} {k : Nat} (hk : k < l.length) : (l.take (k + 1)).filter p = if p l[k] then (l.take k).filter p ++ [l[k]] else (l.take k).filter p := by
  rw [List.take_succ_eq_append_getElem hk, List.filter_append]
  by_cases h : p l[k] = true
  · rw [if_pos h]; simp [h]
  · rw [if_neg h]; simp [h]
theorem filter_len {α : Type} (p : α → Bool) (l : List α) (k : Nat) : ((l.take k).filter p).length ≤ l.length := by
  refine Nat.le_trans (List.length_filter_le _ _) ?_
  rw [List.length_take]
  exact Nat.min_le_right _ _
theorem ePick_eCopy1 {B : Nat} (v : Value) (L : List Ev) (p : Ev → Bool) (caps : Array Value) (w : World) (h : EvsV w B v L) (hl : L.length ≤ 900000) (hd : ∀ e ∈ L, e.d.length ≤ 1000000)
    (hF : ∀ e ∈ L, ∀ u w', Ext w w' → Calls Tryz.prog 139 (#[evA e u] ++ caps) w' fun r w'' => r = .returned (.bool (p e)) ∧ Ext w' w'') : Calls Tryz.prog 138 #[v, .func (.func 139) #[] caps] w (GivesR w (L.filter p)) := by
  obtain ⟨a, cap, e, hm, f⟩ := h.get3
  subst e
  have HA := Lib.hid f
  have HD := Lib.hid hd
  have HF := Lib.hid hF
  have HG : Hid (∀ v w', RE w' w.heap.size v ((L.take L.length).filter p) → Ext w w' → GivesR w (L.filter p) (.returned v) w') := Lib.hid (fun v w' h1 h2 => ⟨v, rfl, by rwa [List.take_length] at h1, h2⟩)
  have HS := Lib.hid (fun k hk => filter_snoc p (l := L) (k := k) hk)
  have HFL := Lib.hid (filter_len p L)
  generalize GivesR w (L.filter p) = G at *
  clear h f hd hF
  go_enter Tryz.func138, Tryz.ntmps138
  go_wp2
  go_loopw [5, 10] (fun v i wr => ∃ k : Nat, k ≤ L.length ∧ i = .int .i64 k ∧ RE wr w.heap.size v ((L.take k).filter p) ∧ Ext w wr) (fun _ i _ => L.length - (intOf i).toNat)
  case atStart => exact ⟨0, Nat.zero_le _, rfl, by rw [List.take_zero]; exact RE.nil _ _, Ext.refl _⟩
  case round =>
    obtain ⟨k, hk, rfl, hR, hx⟩ := hrel
    by_cases hlt : k < L.length
    case neg =>
      obtain rfl : k = L.length := by omega
      have HG2 := Lib.hid (HG.out _ wr hR hx)
      clear hR hx
      go_wp2
      exact HG2.out
    have hlt' : (k : Int) < (L.length : Int) := by omega
    obtain ⟨b, off, u, ea, A⟩ := HA.out wr hx k hlt
    subst ea
    obtain ⟨ua, uc, eu⟩ := A.d.len
    have hmem := List.getElem_mem hlt
    have hdl := HD.out L[k] hmem
    have CF := fun u w' hx => HF.out L[k] hmem u w' hx
    have hs := HS.out k hlt
    generalize L[k] = x at *
    generalize hul : x.d.length = ul at eu
    subst eu
    have HUL := Lib.hid hul
    clear hul
    have HSN := Lib.hid hs
    have HR := Lib.hid hR
    have HX := Lib.hid hx
    have HAD := Lib.hid A.d
    have HDL := Lib.hid hdl
    have HC := Lib.hid CF
    obtain ⟨c0, c1, c2, c3, c4, c5, c6, -⟩ := A
    clear hR hx hs hdl CF hmem
    go_upto_region 5 with (fail)
    refine settle_wp ?_
    intro wA hbA
    have XA : Ext wr wA := Ext.trans (by repeat (first | with_reducible exact Ext.refl _ | with_reducible assumption | with_reducible refine Ext.alloc ?_ _ | with_reducible refine Ext.drew ?_ | with_reducible refine Ext.drewN ?_ _ | with_reducible refine Ext.setCell ?_ (by simp <;> omega) _ | with_reducible refine Ext.trans ?_ (by assumption))) hbA
    have qa_0 : wA.cell? ⟨wr.heap.size, 0, none⟩ = some (.int .i64 x.k) := hbA.cell (by simp [go_sem])
    have qa_1 : wA.cell? ⟨wr.heap.size, 1, none⟩ = some (.int .i64 x.t) := hbA.cell (by simp [go_sem])
    have qa_2 : wA.cell? ⟨wr.heap.size, 2, none⟩ = some (.int .i64 x.o) := hbA.cell (by simp [go_sem])
    have qa_3 : wA.cell? ⟨wr.heap.size, 3, none⟩ = some (.int .i64 x.n) := hbA.cell (by simp [go_sem])
    have qa_4 : wA.cell? ⟨wr.heap.size, 4, none⟩ = some (.int .u64 x.p) := hbA.cell (by simp [go_sem])
    have qa_5 : wA.cell? ⟨wr.heap.size, 5, none⟩ = some (.int .i64 x.c) := hbA.cell (by simp [go_sem])
    have qa_6 : wA.cell? ⟨wr.heap.size, 6, none⟩ = some (.slice ua ul uc) := hbA.cell (by simp [go_sem])
    have HXA := Lib.hid (HX.out.trans XA)
    have HRA := Lib.hid (HR.out.ext XA)
    have HDA := Lib.hid (HAD.out.ext XA)
    clear hbA XA c0 c1 c2 c3 c4 c5 c6 HR HX HAD
    have CA := HC.out (.slice ua ul uc) wA HXA.out
    unfold evA at CA
    have HCA := Lib.hid CA
    clear CA HC
    by_cases hp : p x = true
    case neg =>
      have hp' : p x = false := by simpa using hp
      rw [hp'] at HCA HSN
      have hsn : (L.take (k + 1)).filter p = (L.take k).filter p := by simpa using HSN.out
      have HSN2 := Lib.hid hsn
      clear hsn HSN hp hp'
      go_wp2_with fail
      refine HCA.out.mono ?_
      rintro e w2 ⟨rfl, X2⟩
      have HX2 := Lib.hid (HXA.out.trans X2)
      have HR2 := Lib.hid (HRA.out.ext X2)
      clear X2
      go_wp2
      exact ⟨⟨k + 1, by omega, by go_num, by rw [HSN2.out]; exact HR2.out, HX2.out⟩, by simp [intOf]; omega⟩
    rw [hp] at HCA HSN
    have hsn : (L.take (k + 1)).filter p = (L.take k).filter p ++ [x] := by simpa using HSN.out
    have HSN2 := Lib.hid hsn
    clear hsn HSN hp
    go_wp2_with fail
    refine HCA.out.mono ?_
    rintro e w2 ⟨rfl, X2⟩
    have HX2 := Lib.hid (HXA.out.trans X2)
    have HR2 := Lib.hid (HRA.out.ext X2)
    have HD2 := Lib.hid (HDA.out.ext X2)
    replace qa_0 := X2.cell qa_0
    replace qa_1 := X2.cell qa_1
    replace qa_2 := X2.cell qa_2
    replace qa_3 := X2.cell qa_3
    replace qa_4 := X2.cell qa_4
    replace qa_5 := X2.cell qa_5
    replace qa_6 := X2.cell qa_6
    have CW := eWith x (.slice ua ul uc) (.slice ua ul uc) x.d w2 HD2.out HDL.out
    unfold evA at CW
    have HCW := Lib.hid CW
    clear X2 HXA HRA HDA HCA CW
    have hfl := HFL.out k
    go_wp2_with fail
    refine HCW.out.mono ?_
    rintro e w3 ⟨u3, rfl, R3, X3⟩
    unfold evA
    have HX3 := Lib.hid (HX2.out.trans X3)
    have HR3 := Lib.hid (HR2.out.ext X3)
    have HD3 := Lib.hid (R3.dat (B' := w.heap.size))
    clear R3 X3 HX2 HR2 HD2 HCW qa_0 qa_1 qa_2 qa_3 qa_4 qa_5 qa_6
    have hB3 := HX3.out.size
    go_wp2_with (at_builtin; refine appE _ rfl _ _ rfl w.heap.size _ ((L.take k).filter p) rfl (HR3.out.ext ((Ext.refl w3).alloc _)) (by simp; omega) w3.heap.size x u3 rfl (at_new HD3.out) (by omega) ?_)
    intro v4 w4 R4 G4 _
    have HX4 := Lib.hid ((HX3.out.alloc _).grown G4 (fun q hq => (HR3.out.lt hq).1))
    have HR4 := Lib.hid R4
    clear R4 G4 hB3
    go_wp2
    exact ⟨⟨k + 1, by omega, by go_num, by rw [HSN2.out]; exact HR4.out, HX4.out⟩, by simp [intOf]; omega⟩
end Go.Proofs.YtkmfamidahlgiaaGreatDoor
/- EvT, one operation more: the one that is ready alone, whatever it makes, as long as the class is kept. No program in sight. -/
namespace Go.Proofs.YtkmfamidahlgiaaGreatDoor
open Go.RowKit
set_option linter.unusedVariables false
section
variable {P : Program} {ops : Array Oper} {md : Region.Mode} {K : Act → World → Prop} {C : World → Prop} {D : Nat → Bool}
theorem step_D {o : Oper} {i fuel : Nat} {listed : Array Bool} {a : Act} {w : World} {rest : List Oper} (hi0 : ops.toList.drop i = o :: rest) (hr : Region.ready md ops listed = [i])
    (h : wpList P ops (Off fun a' w' => C w' ∧ anyD P md ops K C D fuel (listed.setIfInBounds i true) a' w') [o] a w) : anyD P md ops K C D (fuel + 1) listed a w := by
  refine ⟨fun h1 => (by rw [hr] at h1; cases h1), fun j hj => ?_⟩
  rw [hr] at hj
  obtain rfl : j = i := by simpa using hj
  have h0 := at_dropD hi0
  have hw : wpOp P ops (Off fun a' w' => C w' ∧ anyD P md ops K C D fuel (listed.setIfInBounds j true) a' w') j (fun a' w' => C w' ∧ anyD P md ops K C D fuel (listed.setIfInBounds j true) a' w') a w := by unfold wpOp; simp only [h0]; exact h
  exact op_on (fun a' w' h' => ⟨fun _ => h'.1, h'.2⟩) hw
end
end Go.Proofs.YtkmfamidahlgiaaGreatDoor
/- event.goesOn and Merge. -/
namespace Go.Proofs.YtkmfamidahlgiaaGreatDoor
open Go.RowKit
set_option linter.unusedVariables false
set_option linter.unusedSimpArgs false
set_option maxHeartbeats 4000000
attribute [local go_sem] later_cell later_frozen later_const
end Go.Proofs.YtkmfamidahlgiaaGreatDoor
/- EvT, one law more: the last operations, whatever they do, in their forced order. No program in sight. -/
namespace Go.Proofs.YtkmfamidahlgiaaGreatDoor
open Go.RowKit
set_option linter.unusedVariables false
section
variable {P : Program} {ops : Array Oper} {md : Region.Mode} {K : Act → World → Prop} {C : World → Prop} {D : Nat → Bool}
theorem rest_D {l2 : List Oper} {n fuel : Nat} {listed : Array Bool} {a : Act} {w : World} (hi0 : ops.toList.drop n = l2) (hf : fuel = l2.length) (hD : ∀ j, n ≤ j → D j = false) (hq : Region.seqB md ops l2.length n listed = true)
    (h : wpList P ops (Off K) l2 a w) : anyD P md ops K C D fuel listed a w := by
  subst hf
  have := seq_D (P := P) (md := md) (ops := ops) (K := K) (C := C) (D := D) l2 n 0 listed a w hD (fun j => by
    rw [← hi0, List.getElem?_drop]
    simp) hq h
  rwa [Nat.zero_add] at this
end
end Go.Proofs.YtkmfamidahlgiaaGreatDoor
/- event.Merge. -/
namespace Go.Proofs.YtkmfamidahlgiaaGreatDoor
open Go.RowKit
set_option linter.unusedVariables false
set_option linter.unusedSimpArgs false
set_option maxHeartbeats 4000000
attribute [local go_sem] later_cell later_frozen later_const
/-- a call gives these events, each one's data apart, in memory of its own -/
def GivesM (w : World) (L : List Ev) (e : Ending) (w' : World) : Prop := ∃ v, e = .returned v ∧ RM w' w.heap.size v L ∧ Ext w w'
theorem mrun_shape (W : Int) (L : List Ev) : ∀ k, k ≤ L.length → 0 < k → ∃ D x, mrun W (L.take k) = (D, some x) := by
  intro k hk h0
  obtain ⟨k, rfl⟩ : ∃ j, k = j + 1 := ⟨k - 1, by omega⟩
  rw [mrun_snoc W (by omega)]
  generalize mrun W (L.take k) = s
  obtain ⟨D, c⟩ := s
  cases c with
  | none => exact ⟨D, _, rfl⟩
  | some l =>
    by_cases h : goOn W l L[k] = true
    · exact ⟨D, _, mst_yes h⟩
    · exact ⟨_, _, mst_no h⟩
theorem merged_take_tot (W : Int) (L : List Ev) (k : Nat) : tot (merged W (L.take k)) ≤ tot L := by
  rw [mrun_tot]
  exact tot_take L k
theorem merged_take_len (W : Int) (L : List Ev) (k : Nat) : (merged W (L.take k)).length ≤ L.length := by
  refine Nat.le_trans (mrun_len W _) ?_
  rw [List.length_take]
  exact Nat.min_le_right _ _
end Go.Proofs.YtkmfamidahlgiaaGreatDoor
/- event.Copy, placed, Shift; writes to rows of events. -/
namespace Go.Proofs.YtkmfamidahlgiaaGreatDoor
open Go.RowKit
set_option linter.unusedVariables false
set_option linter.unusedSimpArgs false
set_option maxHeartbeats 4000000
attribute [local go_sem] later_cell later_frozen later_const
theorem rowE_set : ∀ (l : List (Ev × Value)) (k j : Nat) (x' : Ev) (u' q : Value) (hk : k < l.length), j < 7 → (evV l[k].1 l[k].2).set j q = evV x' u' → (rowE l).set (k * 7 + j) q = rowE (l.set k (x', u'))
  | [], k, j, x', u', q, hk, _, _ => by simp at hk
  | p :: l, 0, j, x', u', q, hk, hj, h => by
    show (evV p.1 p.2 ++ rowE l).set (0 * 7 + j) q = evV x' u' ++ rowE l
    rw [List.set_append_left _ _ (by simp [evV]; omega)]
    rw [show (evV p.1 p.2).set (0 * 7 + j) q = evV x' u' by rw [Nat.zero_mul, Nat.zero_add]; exact h]
  | p :: l, k + 1, j, x', u', q, hk, hj, h => by
    show (evV p.1 p.2 ++ rowE l).set ((k + 1) * 7 + j) q = evV p.1 p.2 ++ rowE (l.set k (x', u'))
    rw [List.set_append_right _ _ (by simp [evV]; omega)]
    rw [show (k + 1) * 7 + j - (evV p.1 p.2).length = k * 7 + j by simp [evV]; omega]
    rw [rowE_set l k j x' u' q (by simpa using hk) hj (by simpa using h)]
/-- the k-th of one's own: where it lies, and what comes of a write to it -/
theorem RE.nth {w : World} {B : Nat} {v : Value} {L : List Ev} (h : RE w B v L) {k : Nat} (hk : k < L.length) : ∃ g cap u, v = .slice (some ⟨g, 0, none⟩) L.length cap ∧ AtE w B g (k * 7) u L[k] ∧ (∀ j, w.frozen? ⟨g, j, none⟩ = false) ∧ B ≤ g ∧ TagE w g 92 ∧
    (∀ j q x' u', j < 7 → (evV L[k] u).set j q = evV x' u' → Dat w B u' x'.d → RE (w.setCell ⟨g, k * 7 + j, none⟩ q) B v (L.set k x')) := by
  obtain ⟨l, e, hr, hd⟩ := h
  have hll : l.length = L.length := by rw [← e, List.length_map]
  have hkl : k < l.length := by omega
  have hLk : L[k] = l[k].1 := by subst e; simp
  rcases hr.2 with ⟨_, h0⟩ | ⟨g, cap, cur, ev, hB, hg, hn, hm, hs, ht⟩
  · omega
  have tg : TagE w g 92 := ⟨_, hg⟩
  have cells : ∀ j q, (evV l[k].1 l[k].2)[j]? = some q → w.cell? ⟨g, k * 7 + j, none⟩ = some q := fun j q hq => by
    have hj : j < 7 := (List.getElem?_eq_some_iff.1 hq).1
    rw [ev] at hr
    rw [hr.cellAt (k * 7 + j) (by omega), rowE_at l k j hkl hj]
    exact hq
  refine ⟨g, cap, l[k].2, by rw [ev, hll], ?_, fun j => (by rw [ev] at hr; exact hr.frozenAt j), hB, tg, fun j q x' u' hj hset hdu => ?_⟩
  · rw [hLk]
    exact ⟨cells 0 _ rfl, cells 1 _ rfl, cells 2 _ rfl, cells 3 _ rfl, cells 4 _ rfl, cells 5 _ rfl, cells 6 _ rfl, hd _ (List.getElem_mem hkl)⟩
  · have hb := but_setCell w ⟨g, k * 7 + j, none⟩ q
    have hS : ∀ q, q = g → q < w.heap.size → B ≤ q ∧ TagE w q 92 := fun q hq _ => by subst hq; exact ⟨hB, tg⟩
    refine ⟨l.set k (x', u'), ?_, ?_, ?_⟩
    · rw [List.map_set, e]
    · rw [ev] at hr ⊢
      have := (hr.stored (k * 7 + j) q).1
      rw [rowE_set l k j x' u' q hkl hj (by rw [← hLk]; exact hset)] at this
      rw [List.length_set]
      exact this
    · intro p hp
      rcases List.mem_or_eq_of_mem_set hp with hp | rfl
      · exact (hd p hp).but hb hS
      · exact hdu.but hb hS
theorem eCopy1 (e : Ev) (u : Value) (w : World) : Calls Tryz.prog 139 (#[evA e u] ++ #[]) w fun r w' => r = .returned (.bool true) ∧ Ext w w' := by
  show Calls Tryz.prog 139 #[evA e u] w _
  unfold evA
  go_enter Tryz.func139, Tryz.ntmps139
  go_wp2
  go_ret
  refine ⟨rfl, ?_⟩
  repeat (first | with_reducible exact Ext.refl _ | with_reducible assumption | with_reducible refine Ext.alloc ?_ _ | with_reducible refine Ext.drew ?_ | with_reducible refine Ext.drewN ?_ _ | with_reducible refine Ext.setCell ?_ (by simp <;> omega) _ | with_reducible refine Ext.trans ?_ (by assumption))
theorem eCopy {B : Nat} (v : Value) (L : List Ev) (w : World) (h : EvsV w B v L) (hl : L.length ≤ 900000) (hd : ∀ e ∈ L, e.d.length ≤ 1000000) : Calls Tryz.prog 91 #[v] w (GivesR w L) := by
  have C := ePick_eCopy1 v L (fun _ => true) #[] w h hl hd (fun e _ u w' _ => eCopy1 e u w')
  rw [show L.filter (fun _ => true) = L by simp] at C
  have HC := Lib.hid C
  clear C h hd
  have HG : Hid (∀ v w', RE w' w.heap.size v L → Ext w w' → GivesR w L (.returned v) w') := Lib.hid (fun v w' h1 h2 => ⟨v, rfl, h1, h2⟩)
  go_enter Tryz.func91, Tryz.ntmps91
  go_wp2_with fail
  refine HC.out.mono ?_
  rintro e w2 ⟨v2, rfl, R2, X2⟩
  have HG2 := Lib.hid (HG.out _ _ R2 X2)
  generalize GivesR w L = G at *
  clear R2 X2
  go_wp2
  exact HG2.out
/-- is the event's Pos a position? -/
def plcd (e : Ev) : Bool := decide (e.k = 3) || (decide (5 ≤ e.k) && decide (e.k ≤ 7)) || (decide (e.k = 2) && (decide (e.o = 1) && decide (e.c = 0))) || (decide (e.k = 2) && (decide (e.o = 6) && decide (0 < e.n)))
def gapU (W p f : Int) : Int := if W = 32 then U64 (D32 (p - f)) else U64 (D64 (p - f))
def sh (W f : Int) (e : Ev) : Ev := if plcd e = true then { e with p := gapU W e.p f } else e
/-- the first k are shifted -/
def shK (W f : Int) (L : List Ev) (k : Nat) : List Ev := (L.take k).map (sh W f) ++ L.drop k
theorem shK_len (W f : Int) (L : List Ev) (k : Nat) (hk : k ≤ L.length) : (shK W f L k).length = L.length := by simp [shK]; omega
theorem shK_at (W f : Int) (L : List Ev) (k : Nat) (hk : k < L.length) : (shK W f L k)[k]'(by rw [shK_len _ _ _ _ (by omega)]; exact hk) = L[k] := by
  simp only [shK]
  rw [List.getElem_append_right (by simp; omega)]
  simp [Nat.min_eq_left (Nat.le_of_lt hk)]
theorem shK_step (W f : Int) (L : List Ev) (k : Nat) (hk : k < L.length) : shK W f L (k + 1) = (shK W f L k).set k (sh W f L[k]) := by
  unfold shK
  rw [List.take_succ_eq_append_getElem hk, List.map_append, List.set_append_right _ _ (by simp; omega)]
  rw [show k - ((L.take k).map (sh W f)).length = 0 by simp; omega, List.drop_eq_getElem_cons hk]
  rw [List.set_cons_zero]
  simp
theorem shK_same (W f : Int) (L : List Ev) (k : Nat) (hk : k < L.length) (h : ¬ plcd L[k] = true) : shK W f L (k + 1) = shK W f L k := by
  rw [shK_step W f L k hk, show sh W f L[k] = L[k] by unfold sh; rw [if_neg h]]
  rw [← shK_at W f L k hk, List.set_getElem_self]
end Go.Proofs.YtkmfamidahlgiaaGreatDoor
/- A log of events. -/
namespace Go.Proofs.YtkmfamidahlgiaaGreatDoor
open Go.RowKit
set_option linter.unusedVariables false
set_option linter.unusedSimpArgs false
set_option maxHeartbeats 4000000
attribute [local go_sem] later_cell later_frozen later_const
theorem Dat.but2 {S : Nat → Prop} {w w' : World} {B : Nat} {u : Value} {d : List Int} (h : Dat w B u d) (hb : But S w w') (hs : ∀ k, S k → k < w.heap.size → B ≤ k ∧ ¬ TagE w k 3) : Dat w' B u d := by
  rcases h with h | ⟨b, off, cap, h1, h2, h3⟩
  · exact .inl h
  · by_cases h0 : d.length = 0
    · refine .inl ⟨_, cap, by rw [h1, h0], List.eq_nil_of_length_eq_zero h0, fun e => by cases e⟩
    have nb : ¬ S b := fun hs' => by
      obtain ⟨k1, k2⟩ := hs b hs' (World.block_lt_of_cell? w _ (h2 0 (by omega)))
      rcases h3 with h3 | h3
      · omega
      · exact k2 h3
    exact .inr ⟨b, off, cap, h1, fun j hj => hb.cell (h2 j hj) nb, h3.imp id fun t => t.but hb nb⟩
theorem RE.but2 {S : Nat → Prop} {w w' : World} {B : Nat} {v : Value} {L : List Ev} (h : RE w B v L) (hb : But S w w') (hs : ∀ k, S k → k < w.heap.size → B ≤ k ∧ ¬ TagE w k 3) (hv : ∀ k, v.ownBlock = some k → ¬ S k) : RE w' B v L := by
  obtain ⟨l, e, hr, hd⟩ := h
  exact ⟨l, e, hb.row hr hv, fun p hp => (hd p hp).but2 hb hs⟩
theorem tag_not {w : World} {k s t : Nat} (h : TagE w k s) (hn : s ≠ t) : ¬ TagE w k t := fun h2 => h.ne h2 hn rfl
/-- a log in block lb, its events in memory from behind W -/
structure LG (W w : World) (lb : Nat) (v : Value) (L : List Ev) : Prop where
  c : w.cell? ⟨lb, 0, none⟩ = some v
  z : w.frozen? ⟨lb, 0, none⟩ = false
  t : TagE w lb 143
  b : W.heap.size ≤ lb
  r : RE w W.heap.size v L
theorem LG.ext {W w w' : World} {lb : Nat} {v : Value} {L : List Ev} (h : LG W w lb v L) (hx : Ext w w') : LG W w' lb v L := ⟨hx.cell h.c, hx.frozen h.c h.z, h.t.ext hx, h.b, h.r.ext hx⟩
/-- what comes of an append to its events and the store of the new slice -/
theorem LG.put {W w w' : World} {lb : Nat} {v v' : Value} {L L' : List Ev} (h : LG W w lb v L) (hr : RE w' W.heap.size v' L') (hg : w.grownBy w' v.ownBlock) : LG W (w'.setCell ⟨lb, 0, none⟩ v') lb v' L' ∧ w'.cell? ⟨lb, 0, none⟩ = some v ∧ w'.frozen? ⟨lb, 0, none⟩ = false := by
  have bt := but_grown hg
  have nb : ¬ (v.ownBlock = some lb) := fun e => (h.r.lt e).2.2.ne h.t (by decide) rfl
  have c := bt.cell h.c nb
  have z := bt.frozen h.c h.z nb
  have t := h.t.but bt nb
  refine ⟨⟨World.cell?_setCell_same _ _ _ c, by rw [World.frozen?_setCell]; exact z, ?_, h.b, ?_⟩, c, z⟩
  · obtain ⟨cur, ht⟩ := t
    exact ⟨_, heap_setCell_same w' lb 0 cur 143 v' ht⟩
  · refine hr.but2 (but_setCell w' ⟨lb, 0, none⟩ v') (fun k hk _ => ?_) (fun k hk e => ?_)
    · have : k = lb := hk
      subst this
      exact ⟨h.b, tag_not t (by decide)⟩
    · have : k = lb := e
      subst this
      exact (hr.lt hk).2.2.ne t (by decide) rfl
theorem eNew (w : World) : Calls Tryz.prog 32 #[] w fun e w' => e = .returned (.pointer (some ⟨w.heap.size, 0, none⟩)) ∧ w' = w.alloc (.cells #[.slice none 0 0] 143) := by
  go_enter Tryz.func32, Tryz.ntmps32
  go_wp2
  go_ret
  exact ⟨rfl, rfl⟩
theorem LG.new (W w : World) (hx : Ext W w) : LG W (w.alloc (.cells #[.slice none 0 0] 143)) w.heap.size (.slice none 0 0) [] := by
  have h0 : (w.alloc (.cells #[.slice none 0 0] 143)).heap[w.heap.size]? = some (.cells #[.slice none 0 0] 143) := World.alloc_heap_new w _
  exact ⟨(cellE h0 rfl).1, (cellE (j := 0) h0 rfl).2, ⟨_, h0⟩, hx.size, RE.nil _ _⟩
theorem eNote_nil (e : Ev) (u : Value) (w : World) : Calls Tryz.prog 90 #[.pointer none, evA e u] w fun r w' => r = .returned (.tuple #[]) ∧ Ext w w' := by
  unfold evA
  go_enter Tryz.func90, Tryz.ntmps90
  go_wp2
  refine bodyPost_end (v := .tuple #[]) (by simp [results, Tryz.results90, go_sem]) rfl ?_
  refine ⟨rfl, ?_⟩
  repeat (first | with_reducible exact Ext.refl _ | with_reducible assumption | with_reducible refine Ext.alloc ?_ _ | with_reducible refine Ext.drew ?_ | with_reducible refine Ext.drewN ?_ _ | with_reducible refine Ext.setCell ?_ (by simp <;> omega) _ | with_reducible refine Ext.trans ?_ (by assumption))
theorem eLen_nil (w : World) : Calls Tryz.prog 40 #[.pointer none] w fun r w' => r = .returned (.int .i64 0) ∧ w = w' := by
  go_enter Tryz.func40, Tryz.ntmps40
  go_wp2
  go_ret
  exact ⟨rfl, rfl⟩
theorem eFrom_nil (w : World) : Calls Tryz.prog 39 #[.pointer none, .int .i64 0] w fun r w' => r = .returned (.slice none 0 0) ∧ w = w' := by
  go_enter Tryz.func39, Tryz.ntmps39
  go_wp2_with fail
  refine (eLen_nil _).mono ?_
  rintro e w' ⟨rfl, rfl⟩
  go_wp2
  go_ret
  exact ⟨rfl, rfl⟩
theorem eLen (W w : World) (lb : Nat) (v : Value) (L : List Ev) (h : LG W w lb v L) : Calls Tryz.prog 40 #[.pointer (some ⟨lb, 0, none⟩)] w fun r w' => r = .returned (.int .i64 L.length) ∧ w = w' := by
  have c := h.c
  obtain ⟨a, cap, rfl⟩ := h.r.len
  clear h
  generalize L.length = n at *
  go_enter Tryz.func40, Tryz.ntmps40
  go_wp2
  go_ret
  exact ⟨rfl, rfl⟩
def NoteDoes (W : World) (lb : Nat) (L : List Ev) (e : Ending) (w' : World) : Prop := e = .returned (.tuple #[]) ∧ ∃ v', LG W w' lb v' L ∧ Ext W w'
set_option maxRecDepth 100000 in
theorem eNote {B : Nat} (W w : World) (lb : Nat) (v : Value) (L : List Ev) (x : Ev) (u : Value) (h : LG W w lb v L) (hx : Ext W w) (hu : Dat w B u x.d) (hl : L.length ≤ 900000) (hd : x.d.length ≤ 900000) : Calls Tryz.prog 90 #[.pointer (some ⟨lb, 0, none⟩), evA x u] w (NoteDoes W lb (L ++ [x])) := by
  obtain ⟨ua, uc, eu⟩ := hu.len
  subst eu
  have CW := Lib.hid (fun w' (hz : Ext w w') => eWith x (.slice ua x.d.length uc) (.slice ua x.d.length uc) x.d w' (hu.ext hz) (by omega))
  unfold evA at CW ⊢
  have HL := Lib.hid h
  have HX := Lib.hid hx
  have HG : Hid (∀ v' w', LG W w' lb v' (L ++ [x]) → Ext W w' → NoteDoes W lb (L ++ [x]) (.returned (.tuple #[])) w') := Lib.hid (fun v' w' h1 h2 => ⟨rfl, v', h1, h2⟩)
  generalize NoteDoes W lb (L ++ [x]) = G at *
  generalize hul : x.d.length = ul at *
  clear h hx hu
  go_enter Tryz.func90, Tryz.ntmps90
  go_upto_region 2 with (fail)
  refine settle_wp ?_
  intro wA hbA
  have XA : Ext w wA := Ext.trans (by repeat (first | with_reducible exact Ext.refl _ | with_reducible assumption | with_reducible refine Ext.alloc ?_ _ | with_reducible refine Ext.drew ?_ | with_reducible refine Ext.drewN ?_ _ | with_reducible refine Ext.setCell ?_ (by simp <;> omega) _ | with_reducible refine Ext.trans ?_ (by assumption))) hbA
  have BEA := (BE.of (World.alloc_heap_new w _)).ext hbA (k := x.k) (t := x.t) (o := x.o) (n := x.n) (p := x.p) (c := x.c) (u := .slice ua ul uc)
  obtain ⟨q0, q1, q2, q3, q4, q5, q6, -, -, -, -, -, -, -⟩ := BEA
  have HLA := Lib.hid (HL.out.ext XA)
  have HXA := Lib.hid (HX.out.trans XA)
  have FL := fun w' (hz : Ext wA w') => hz.cell HLA.out.c
  have F0 := fun w' (hz : Ext wA w') => hz.cell q0
  have F1 := fun w' (hz : Ext wA w') => hz.cell q1
  have F2 := fun w' (hz : Ext wA w') => hz.cell q2
  have F3 := fun w' (hz : Ext wA w') => hz.cell q3
  have F4 := fun w' (hz : Ext wA w') => hz.cell q4
  have F5 := fun w' (hz : Ext wA w') => hz.cell q5
  have F6 := fun w' (hz : Ext wA w') => hz.cell q6
  have CW2 := Lib.hid (CW.out wA.drew (XA.trans (Ext.refl wA).drew))
  clear hbA XA q0 q1 q2 q3 q4 q5 q6 CW HL HX
  refine wp_region_D (fun i => decide (1 ≤ i) && decide (i ≤ 9)) (by kernel_rfl) ?_
  refine pure_D (i := 0) (v := ?_) rfl rfl rfl (by kernel_rfl) (by kernel_rfl) (by kernel_rfl) rfl ?hyp ?_
  case hyp => intro wz; go_simp <;> with_reducible rfl
  simp only [List.setIfInBounds_toArray, List.set_cons_zero, List.set_cons_succ]
  refine take_D (i := 1) (v := ?_) rfl rfl rfl (by kernel_rfl) (by kernel_rfl) (by kernel_rfl) (by kernel_rfl) (by kernel_rfl) ((Ext.refl wA).drew) ?hyp ?_
  case hyp => intro wz hSw; (try dsimp only at hSw); go_simp <;> with_reducible rfl
  simp only [List.setIfInBounds_toArray, List.set_cons_zero, List.set_cons_succ]
  refine take_D (i := 2) (v := ?_) rfl rfl rfl (by kernel_rfl) (by kernel_rfl) (by kernel_rfl) (by kernel_rfl) (by kernel_rfl) ((Ext.refl wA).drew) ?hyp ?_
  case hyp => intro wz hSw; (try dsimp only at hSw); go_simp <;> with_reducible rfl
  simp only [List.setIfInBounds_toArray, List.set_cons_zero, List.set_cons_succ]
  refine take_D (i := 3) (v := ?_) rfl rfl rfl (by kernel_rfl) (by kernel_rfl) (by kernel_rfl) (by kernel_rfl) (by kernel_rfl) ((Ext.refl wA).drew) ?hyp ?_
  case hyp => intro wz hSw; (try dsimp only at hSw); go_simp <;> with_reducible rfl
  simp only [List.setIfInBounds_toArray, List.set_cons_zero, List.set_cons_succ]
  refine take_D (i := 4) (v := ?_) rfl rfl rfl (by kernel_rfl) (by kernel_rfl) (by kernel_rfl) (by kernel_rfl) (by kernel_rfl) ((Ext.refl wA).drew) ?hyp ?_
  case hyp => intro wz hSw; (try dsimp only at hSw); go_simp <;> with_reducible rfl
  simp only [List.setIfInBounds_toArray, List.set_cons_zero, List.set_cons_succ]
  refine take_D (i := 5) (v := ?_) rfl rfl rfl (by kernel_rfl) (by kernel_rfl) (by kernel_rfl) (by kernel_rfl) (by kernel_rfl) ((Ext.refl wA).drew) ?hyp ?_
  case hyp => intro wz hSw; (try dsimp only at hSw); go_simp <;> with_reducible rfl
  simp only [List.setIfInBounds_toArray, List.set_cons_zero, List.set_cons_succ]
  refine take_D (i := 6) (v := ?_) rfl rfl rfl (by kernel_rfl) (by kernel_rfl) (by kernel_rfl) (by kernel_rfl) (by kernel_rfl) ((Ext.refl wA).drew) ?hyp ?_
  case hyp => intro wz hSw; (try dsimp only at hSw); go_simp <;> with_reducible rfl
  simp only [List.setIfInBounds_toArray, List.set_cons_zero, List.set_cons_succ]
  refine take_D (i := 7) (v := ?_) rfl rfl rfl (by kernel_rfl) (by kernel_rfl) (by kernel_rfl) (by kernel_rfl) (by kernel_rfl) ((Ext.refl wA).drew) ?hyp ?_
  case hyp => intro wz hSw; (try dsimp only at hSw); go_simp <;> with_reducible rfl
  simp only [List.setIfInBounds_toArray, List.set_cons_zero, List.set_cons_succ]
  refine step_D (i := 8) rfl (by kernel_rfl) ?_
  go_wp2_with fail
  refine CW2.out.mono ?_
  rintro e w3 ⟨u3, rfl, R3, X3⟩
  unfold evA
  have Y3 : Ext wA w3 := (Ext.refl wA).drew.trans X3
  go_wp2
  refine ⟨Y3, ?_⟩
  try simp only [List.setIfInBounds_toArray, List.set_cons_zero, List.set_cons_succ]
  refine step_D (i := 9) rfl (by kernel_rfl) ?_
  go_wp2
  refine ⟨Y3.alloc _, ?_⟩
  try simp only [List.setIfInBounds_toArray, List.set_cons_zero, List.set_cons_succ]
  refine rest_D (n := 10) rfl rfl (fun j hj => by simp; omega) (by kernel_rfl) ?_
  have L4 := HLA.out.ext (Y3.alloc (.cells #[.int .i64 x.k, .int .i64 x.t, .int .i64 x.o, .int .i64 x.n, .int .u64 x.p, .int .i64 x.c, u3] 92))
  have hB4 := (HXA.out.trans Y3).size
  refine appE _ rfl _ _ rfl W.heap.size v L rfl L4.r (by simp; omega) w3.heap.size x u3 rfl (at_new (R3.dat (B' := W.heap.size))) hl ?_
  intro v5 w5 R5 G5 _
  obtain ⟨P5, c5, z5⟩ := L4.put R5 G5
  obtain ⟨a5, n5, e5⟩ := R5.len
  have X5 := ((HXA.out.trans Y3).alloc (.cells #[.int .i64 x.k, .int .i64 x.t, .int .i64 x.o, .int .i64 x.n, .int .u64 x.p, .int .i64 x.c, u3] 92)).grown G5 (fun q hq => (L4.r.lt hq).1)
  have HG2 := Lib.hid (HG.out v5 _ P5 (X5.setCell (p := ⟨lb, 0, none⟩) HLA.out.b v5))
  obtain ⟨av, cv, ev⟩ := L4.r.len
  subst e5
  clear R3 X3 Y3 L4 hB4 R5 G5 P5 X5 FL F0 F1 F2 F3 F4 F5 F6 CW2 HG HLA HXA
  generalize (L ++ [x]).length = N5 at *
  go_wp2
  refine off_normal ?_
  go_wp2
  refine bodyPost_ret (v := .tuple #[]) (by simp [results, Tryz.results90, go_sem]) rfl ?_
  exact HG2.out
theorem shV_drop {w : World} {B : Nat} {b off cap : Nat} {L : List Ev} (h : EvsV w B (.slice (some ⟨b, off, none⟩) L.length cap) L) {k : Nat} (hk : k ≤ L.length) : EvsV w B (.slice (some ⟨b, off + k * 7, none⟩) (L.length - k) (cap - k)) (L.drop k) := by
  obtain ⟨a', cap', e, h1, h2, _, h3⟩ := h
  cases e
  refine ⟨_, cap - k, by rw [List.length_drop], by rw [List.length_drop]; omega, by omega, fun e => (by cases e), fun i hi => ?_⟩
  have hi2 : k + i < L.length := by rw [List.length_drop] at hi; omega
  obtain ⟨b', off', u, ea, hc, hd⟩ := h3 (k + i) hi2
  cases ea
  refine ⟨b, off + k * 7, u, rfl, fun j q hq => ?_, ?_⟩
  · rw [List.getElem_drop] at hq
    have := hc j q hq
    rwa [show off + ((k + i) * 7 + j) = off + k * 7 + (i * 7 + j) by omega] at this
  · rw [List.getElem_drop]
    exact hd
def negN (n : Int) (k : Nat) : Prop := n < 0 ∧ k = 0
def posN (n : Int) (k : Nat) : Prop := n = k ∧ 0 ≤ k
def negF (n : Int) : Prop := n < 0 ∧ ¬ 0 < n ∧ ¬ 0 ≤ n ∧ n ≤ 0
def posF (n : Int) : Prop := 0 ≤ n ∧ ¬ n < 0
/-- the events from place k on; where the first place is told as some number m -/
theorem eFrom_at (W w : World) (lb : Nat) (v : Value) (L : List Ev) (k : Nat) (h : LG W w lb v L) (hl : L.length ≤ 900000) (hd : ∀ e ∈ L, e.d.length ≤ 1000000) (hk : k < L.length) : ∃ b off cap, v = .slice (some ⟨b, off, none⟩) L.length cap ∧ L.length ≤ cap ∧ Calls Tryz.prog 91 #[.slice (some ⟨b, off + k * 7, none⟩) (L.length - k) (cap - k)] w (GivesR w (L.drop k)) := by
  have he := h.r.evs
  obtain ⟨a, cap, e, hc, hm, hnil, hat⟩ := id he
  obtain ⟨b, off, u, ea, -, -⟩ := hat k hk
  subst ea
  subst e
  refine ⟨b, off, cap, rfl, hc, eCopy _ _ w (shV_drop he (by omega)) (by rw [List.length_drop]; omega) (fun e he => hd e (List.mem_of_mem_drop he))⟩
set_option maxRecDepth 100000 in
theorem eFrom_neg (W w : World) (lb : Nat) (v : Value) (L : List Ev) (n : Int) (k : Nat) (h : LG W w lb v L) (hl : L.length ≤ 900000) (hd : ∀ e ∈ L, e.d.length ≤ 1000000) (hn : negN n k) : Calls Tryz.prog 39 #[.pointer (some ⟨lb, 0, none⟩), .int .i64 n] w (GivesR w (L.drop k)) := by
  have CL := Lib.hid (eLen W w lb v L h)
  have c := h.c
  unfold negN at hn
  obtain ⟨hn, hk0⟩ := hn
  have hn2 : negF n := by unfold negF; omega
  unfold negF at hn2
  by_cases hkl : k < L.length
  case neg =>
    have HG : Hid (GivesR w (L.drop k) (.returned (.slice none 0 0)) w) := Lib.hid (by rw [List.drop_of_length_le (by omega)]; exact ⟨_, rfl, RE.nil _ _, Ext.refl _⟩)
    generalize GivesR w (L.drop k) = G at *
    have hz0 : L = [] := List.eq_nil_of_length_eq_zero (by omega)
    subst hz0
    clear h c hd
    go_enter Tryz.func39, Tryz.ntmps39
    go_wp2_with fail
    refine CL.out.mono ?_
    rintro e w' ⟨rfl, rfl⟩
    go_wp2
    exact HG.out
  obtain ⟨b, off, cap, ev, hcap, CC⟩ := eFrom_at W w lb v L k h hl hd hkl
  subst ev
  have hne : ¬ L = [] := by intro e; rw [e] at hkl; simp at hkl
  subst hk0
  simp only [Nat.zero_mul, Nat.add_zero, Nat.sub_zero] at CC
  have HC := Lib.hid CC
  have HG : Hid (∀ v w', RE w' w.heap.size v (L.drop 0) → Ext w w' → GivesR w (L.drop 0) (.returned v) w') := Lib.hid (fun v w' h1 h2 => ⟨v, rfl, h1, h2⟩)
  have hb := World.block_lt_of_cell? w ⟨lb, 0, none⟩ c
  clear h hd CC
  go_enter Tryz.func39, Tryz.ntmps39
  go_wp2_with fail
  refine CL.out.mono ?_
  rintro e w' ⟨rfl, rfl⟩
  go_wp2_with fail
  refine HC.out.mono ?_
  rintro e w2 ⟨v2, rfl, R2, X2⟩
  have HG2 := Lib.hid (HG.out _ _ R2 X2)
  generalize GivesR w (L.drop 0) = G at *
  clear R2 X2 HG
  go_wp2
  exact HG2.out
set_option maxRecDepth 100000 in
theorem eFrom_pos (W w : World) (lb : Nat) (v : Value) (L : List Ev) (n : Int) (k : Nat) (h : LG W w lb v L) (hl : L.length ≤ 900000) (hd : ∀ e ∈ L, e.d.length ≤ 1000000) (hn : posN n k) : Calls Tryz.prog 39 #[.pointer (some ⟨lb, 0, none⟩), .int .i64 n] w (GivesR w (L.drop k)) := by
  have CL := Lib.hid (eLen W w lb v L h)
  have c := h.c
  unfold posN at hn
  obtain ⟨hn, hk0⟩ := hn
  have hn2 : posF n := by unfold posF; omega
  unfold posF at hn2
  by_cases hkl : k < L.length
  case neg =>
    have HG : Hid (GivesR w (L.drop k) (.returned (.slice none 0 0)) w) := Lib.hid (by rw [List.drop_of_length_le (by omega)]; exact ⟨_, rfl, RE.nil _ _, Ext.refl _⟩)
    have hk1 : ¬ (k : Int) < (L.length : Int) := by omega
    have hk2 : (L.length : Int) ≤ (k : Int) := by omega
    generalize GivesR w (L.drop k) = G at *
    generalize L.length = z at *
    clear h c hd
    go_enter Tryz.func39, Tryz.ntmps39
    go_wp2_with fail
    refine CL.out.mono ?_
    rintro e w' ⟨rfl, rfl⟩
    go_wp2
    exact HG.out
  obtain ⟨b, off, cap, ev, hcap, CC⟩ := eFrom_at W w lb v L k h hl hd hkl
  subst ev
  have hne : ¬ L = [] := by intro e; rw [e] at hkl; simp at hkl
  have HC := Lib.hid CC
  have HG : Hid (∀ v w', RE w' w.heap.size v (L.drop k) → Ext w w' → GivesR w (L.drop k) (.returned v) w') := Lib.hid (fun v w' h1 h2 => ⟨v, rfl, h1, h2⟩)
  have hk1 : (k : Int) < (L.length : Int) := by omega
  have hk2 : ¬ (L.length : Int) ≤ (k : Int) := by omega
  have hk3 : (k : Int) ≤ (L.length : Int) := by omega
  have hb := World.block_lt_of_cell? w ⟨lb, 0, none⟩ c
  clear h hd CC
  go_enter Tryz.func39, Tryz.ntmps39
  go_wp2_with fail
  refine CL.out.mono ?_
  rintro e w' ⟨rfl, rfl⟩
  go_wp2_with fail
  refine HC.out.mono ?_
  rintro e w2 ⟨v2, rfl, R2, X2⟩
  have HG2 := Lib.hid (HG.out _ _ R2 X2)
  generalize GivesR w (L.drop k) = G at *
  clear R2 X2 HG
  go_wp2
  exact HG2.out
end Go.Proofs.YtkmfamidahlgiaaGreatDoor
/- A sequencer of one producer in memory: its board, its log, its own cells. -/
namespace Go.Proofs.YtkmfamidahlgiaaGreatDoor
open Go.RowKit
set_option linter.unusedVariables false
set_option linter.unusedSimpArgs false
set_option maxHeartbeats 4000000
attribute [local go_sem] later_cell later_frozen later_const
theorem RI.but {S : Nat → Prop} {w w' : World} {base : Nat} {v : Value} {xs : List Int} (h : RI w base v xs) (hb : But S w w') (hs : ∀ k, S k → k < w.heap.size → ¬ TagE w k 3) : RI w' base v xs :=
  hb.row h (fun k hk hS => hs k hS (row_tagE h hk).lt (row_tagE h hk))
theorem LG.but {S : Nat → Prop} {W w w' : World} {lb : Nat} {v : Value} {L : List Ev} (h : LG W w lb v L) (hb : But S w w') (h1 : ¬ S lb) (h2 : ∀ k, v.ownBlock = some k → ¬ S k) (h3 : ∀ k, S k → k < w.heap.size → W.heap.size ≤ k ∧ ¬ TagE w k 3) : LG W w' lb v L :=
  ⟨hb.cell h.c h1, hb.frozen h.c h.z h1, h.t.but hb h1, h.b, h.r.but2 hb h3 h2⟩
/-- what a note writes -/
def NoteB (W w : World) (lb : Nat) (v : Value) (L : List Ev) (e : Ending) (w' : World) : Prop := e = .returned (.tuple #[]) ∧ ∃ v', LG W w' lb v' L ∧ But (fun k => k = lb ∨ v.ownBlock = some k) w w' ∧ (v'.ownBlock = v.ownBlock ∨ ∃ j, v'.ownBlock = some j ∧ w.heap.size ≤ j)
set_option maxRecDepth 100000 in
theorem eNoteB {B : Nat} (W w : World) (lb : Nat) (v : Value) (L : List Ev) (x : Ev) (u : Value) (h : LG W w lb v L) (hx : Ext W w) (hu : Dat w B u x.d) (hl : L.length ≤ 900000) (hd : x.d.length ≤ 900000) : Calls Tryz.prog 90 #[.pointer (some ⟨lb, 0, none⟩), evA x u] w (NoteB W w lb v (L ++ [x])) := by
  obtain ⟨ua, uc, eu⟩ := hu.len
  subst eu
  have CW := Lib.hid (fun w' (hz : Ext w w') => eWith x (.slice ua x.d.length uc) (.slice ua x.d.length uc) x.d w' (hu.ext hz) (by omega))
  unfold evA at CW ⊢
  have HL := Lib.hid h
  have HX := Lib.hid hx
  have HG : Hid (∀ v' w' w5, LG W (w5.setCell ⟨lb, 0, none⟩ v') lb v' (L ++ [x]) → w' = w5.setCell ⟨lb, 0, none⟩ v' → (∃ w4, Ext w w4 ∧ w4.grownBy w5 v.ownBlock ∧ (v'.ownBlock = v.ownBlock ∨ v'.ownBlock = some w4.heap.size)) → NoteB W w lb v (L ++ [x]) (.returned (.tuple #[])) w') := Lib.hid (fun v' w' w5 h1 e h2 => by
    subst e
    obtain ⟨w4, h3, h4, h5⟩ := h2
    have hb : But (fun k => k = lb ∨ v.ownBlock = some k) w w5 := (h3.but _).trans ((but_grown h4).mono (fun _ _ e => .inr e))
    exact ⟨rfl, v', h1, hb.trans ((but_setCell w5 ⟨lb, 0, none⟩ v').mono (fun _ _ e => .inl e)), h5.imp id (fun e => ⟨_, e, h3.size⟩)⟩)
  generalize NoteB W w lb v (L ++ [x]) = G at *
  generalize hul : x.d.length = ul at *
  clear h hx hu
  go_enter Tryz.func90, Tryz.ntmps90
  go_upto_region 2 with (fail)
  refine settle_wp ?_
  intro wA hbA
  have XA : Ext w wA := Ext.trans (by repeat (first | with_reducible exact Ext.refl _ | with_reducible assumption | with_reducible refine Ext.alloc ?_ _ | with_reducible refine Ext.drew ?_ | with_reducible refine Ext.drewN ?_ _ | with_reducible refine Ext.setCell ?_ (by simp <;> omega) _ | with_reducible refine Ext.trans ?_ (by assumption))) hbA
  have BEA := (BE.of (World.alloc_heap_new w _)).ext hbA (k := x.k) (t := x.t) (o := x.o) (n := x.n) (p := x.p) (c := x.c) (u := .slice ua ul uc)
  obtain ⟨q0, q1, q2, q3, q4, q5, q6, -, -, -, -, -, -, -⟩ := BEA
  have HLA := Lib.hid (HL.out.ext XA)
  have HXA := Lib.hid (HX.out.trans XA)
  have HWA := Lib.hid XA
  have FL := fun w' (hz : Ext wA w') => hz.cell HLA.out.c
  have F0 := fun w' (hz : Ext wA w') => hz.cell q0
  have F1 := fun w' (hz : Ext wA w') => hz.cell q1
  have F2 := fun w' (hz : Ext wA w') => hz.cell q2
  have F3 := fun w' (hz : Ext wA w') => hz.cell q3
  have F4 := fun w' (hz : Ext wA w') => hz.cell q4
  have F5 := fun w' (hz : Ext wA w') => hz.cell q5
  have F6 := fun w' (hz : Ext wA w') => hz.cell q6
  have CW2 := Lib.hid (CW.out wA.drew (XA.trans (Ext.refl wA).drew))
  clear hbA XA q0 q1 q2 q3 q4 q5 q6 CW HL HX
  refine wp_region_D (fun i => decide (1 ≤ i) && decide (i ≤ 9)) (by kernel_rfl) ?_
  refine pure_D (i := 0) (v := ?_) rfl rfl rfl (by kernel_rfl) (by kernel_rfl) (by kernel_rfl) rfl ?hyp ?_
  case hyp => intro wz; go_simp <;> with_reducible rfl
  simp only [List.setIfInBounds_toArray, List.set_cons_zero, List.set_cons_succ]
  refine take_D (i := 1) (v := ?_) rfl rfl rfl (by kernel_rfl) (by kernel_rfl) (by kernel_rfl) (by kernel_rfl) (by kernel_rfl) ((Ext.refl wA).drew) ?hyp ?_
  case hyp => intro wz hSw; (try dsimp only at hSw); go_simp <;> with_reducible rfl
  simp only [List.setIfInBounds_toArray, List.set_cons_zero, List.set_cons_succ]
  refine take_D (i := 2) (v := ?_) rfl rfl rfl (by kernel_rfl) (by kernel_rfl) (by kernel_rfl) (by kernel_rfl) (by kernel_rfl) ((Ext.refl wA).drew) ?hyp ?_
  case hyp => intro wz hSw; (try dsimp only at hSw); go_simp <;> with_reducible rfl
  simp only [List.setIfInBounds_toArray, List.set_cons_zero, List.set_cons_succ]
  refine take_D (i := 3) (v := ?_) rfl rfl rfl (by kernel_rfl) (by kernel_rfl) (by kernel_rfl) (by kernel_rfl) (by kernel_rfl) ((Ext.refl wA).drew) ?hyp ?_
  case hyp => intro wz hSw; (try dsimp only at hSw); go_simp <;> with_reducible rfl
  simp only [List.setIfInBounds_toArray, List.set_cons_zero, List.set_cons_succ]
  refine take_D (i := 4) (v := ?_) rfl rfl rfl (by kernel_rfl) (by kernel_rfl) (by kernel_rfl) (by kernel_rfl) (by kernel_rfl) ((Ext.refl wA).drew) ?hyp ?_
  case hyp => intro wz hSw; (try dsimp only at hSw); go_simp <;> with_reducible rfl
  simp only [List.setIfInBounds_toArray, List.set_cons_zero, List.set_cons_succ]
  refine take_D (i := 5) (v := ?_) rfl rfl rfl (by kernel_rfl) (by kernel_rfl) (by kernel_rfl) (by kernel_rfl) (by kernel_rfl) ((Ext.refl wA).drew) ?hyp ?_
  case hyp => intro wz hSw; (try dsimp only at hSw); go_simp <;> with_reducible rfl
  simp only [List.setIfInBounds_toArray, List.set_cons_zero, List.set_cons_succ]
  refine take_D (i := 6) (v := ?_) rfl rfl rfl (by kernel_rfl) (by kernel_rfl) (by kernel_rfl) (by kernel_rfl) (by kernel_rfl) ((Ext.refl wA).drew) ?hyp ?_
  case hyp => intro wz hSw; (try dsimp only at hSw); go_simp <;> with_reducible rfl
  simp only [List.setIfInBounds_toArray, List.set_cons_zero, List.set_cons_succ]
  refine take_D (i := 7) (v := ?_) rfl rfl rfl (by kernel_rfl) (by kernel_rfl) (by kernel_rfl) (by kernel_rfl) (by kernel_rfl) ((Ext.refl wA).drew) ?hyp ?_
  case hyp => intro wz hSw; (try dsimp only at hSw); go_simp <;> with_reducible rfl
  simp only [List.setIfInBounds_toArray, List.set_cons_zero, List.set_cons_succ]
  refine step_D (i := 8) rfl (by kernel_rfl) ?_
  go_wp2_with fail
  refine CW2.out.mono ?_
  rintro e w3 ⟨u3, rfl, R3, X3⟩
  unfold evA
  have Y3 : Ext wA w3 := (Ext.refl wA).drew.trans X3
  go_wp2
  refine ⟨Y3, ?_⟩
  try simp only [List.setIfInBounds_toArray, List.set_cons_zero, List.set_cons_succ]
  refine step_D (i := 9) rfl (by kernel_rfl) ?_
  go_wp2
  refine ⟨Y3.alloc _, ?_⟩
  try simp only [List.setIfInBounds_toArray, List.set_cons_zero, List.set_cons_succ]
  refine rest_D (n := 10) rfl rfl (fun j hj => by simp; omega) (by kernel_rfl) ?_
  have L4 := HLA.out.ext (Y3.alloc (.cells #[.int .i64 x.k, .int .i64 x.t, .int .i64 x.o, .int .i64 x.n, .int .u64 x.p, .int .i64 x.c, u3] 92))
  have hB4 := (HXA.out.trans Y3).size
  refine appE _ rfl _ _ rfl W.heap.size v L rfl L4.r (by simp; omega) w3.heap.size x u3 rfl (at_new (R3.dat (B' := W.heap.size))) hl ?_
  intro v5 w5 R5 G5 A5
  obtain ⟨P5, c5, z5⟩ := L4.put R5 G5
  obtain ⟨a5, n5, e5⟩ := R5.len
  have HG2 := Lib.hid (HG.out v5 _ w5 P5 rfl ⟨_, HWA.out.trans (Y3.alloc (.cells #[.int .i64 x.k, .int .i64 x.t, .int .i64 x.o, .int .i64 x.n, .int .u64 x.p, .int .i64 x.c, u3] 92)), G5, A5⟩)
  obtain ⟨av, cv, ev⟩ := L4.r.len
  subst e5
  clear R3 X3 Y3 L4 hB4 R5 G5 P5 A5 FL F0 F1 F2 F3 F4 F5 F6 CW2 HG HLA HXA HWA
  generalize (L ++ [x]).length = N5 at *
  go_wp2
  refine off_normal ?_
  go_wp2
  refine bodyPost_ret (v := .tuple #[]) (by simp [results, Tryz.results90, go_sem]) rfl ?_
  exact HG2.out
/-- its blocks -/
def Mine (b g : Nat) (lv : Value) (sb lb : Nat) (vL : Value) (k : Nat) : Prop := Own b g lv k ∨ k = sb ∨ k = lb ∨ vL.ownBlock = some k
theorem own_blk {v v2 : Value} {k n : Nat} (h : ¬ v.ownBlock = some k) (hk : k < n) (hA : v2.ownBlock = v.ownBlock ∨ ∃ j, v2.ownBlock = some j ∧ n ≤ j) : ¬ v2.ownBlock = some k := fun e => by
  rcases hA with e' | ⟨j, e', hj⟩
  · exact h (by rw [← e']; exact e)
  · rw [e'] at e
    have := Option.some.inj e
    omega
theorem mine_out {b g sb lb k : Nat} {lv lv2 vL vL2 : Value} {w : World} (h : ¬ Mine b g lv sb lb vL k) (hk : k < w.heap.size) (hA : lv2.ownBlock = lv.ownBlock ∨ ∃ j, lv2.ownBlock = some j ∧ w.heap.size ≤ j) (hL : vL2.ownBlock = vL.ownBlock ∨ ∃ j, vL2.ownBlock = some j ∧ w.heap.size ≤ j) : ¬ Mine b g lv2 sb lb vL2 k := by
  rintro (e | e | e | e)
  · exact own_out (fun e => h (.inl e)) hk hA e
  · exact h (.inr (.inl e))
  · exact h (.inr (.inr (.inl e)))
  · exact own_blk (fun e => h (.inr (.inr (.inr e)))) hk hL e
/-- the sequencer's cells -/
structure SQ32 (w : World) (sb b lb : Nat) (y : LY) (su ev : Value) (N L : Int) : Prop where
  q0 : w.cell? ⟨sb, 0, none⟩ = some (.pointer (some ⟨b, 0, none⟩))
  q1 : w.cell? ⟨sb, 1, none⟩ = some (.pointer (some ⟨lb, 0, none⟩))
  q2 : w.cell? ⟨sb, 2, none⟩ = some (.int .i64 y.V)
  q3 : w.cell? ⟨sb, 3, none⟩ = some (.int .i64 y.W)
  q4 : w.cell? ⟨sb, 4, none⟩ = some (.int .i64 y.C)
  q5 : w.cell? ⟨sb, 5, none⟩ = some (.int .i64 y.P)
  q6 : w.cell? ⟨sb, 6, none⟩ = some (.int .u64 y.S)
  q7 : w.cell? ⟨sb, 7, none⟩ = some su
  q8 : w.cell? ⟨sb, 8, none⟩ = some (.int .i64 y.Cu)
  q9 : w.cell? ⟨sb, 9, none⟩ = some ev
  q10 : w.cell? ⟨sb, 10, none⟩ = some (.int .u32 N)
  q11 : w.cell? ⟨sb, 11, none⟩ = some (.int .u32 L)
  z10 : w.frozen? ⟨sb, 10, none⟩ = false
  z11 : w.frozen? ⟨sb, 11, none⟩ = false
  t : Tag w sb 146
theorem SQ32.but {S : Nat → Prop} {w w' : World} {sb b lb : Nat} {y : LY} {su ev : Value} {N L : Int} (h : SQ32 w sb b lb y su ev N L) (hb : But S w w') (hs : ¬ S sb) : SQ32 w' sb b lb y su ev N L :=
  ⟨hb.cell h.q0 hs, hb.cell h.q1 hs, hb.cell h.q2 hs, hb.cell h.q3 hs, hb.cell h.q4 hs, hb.cell h.q5 hs, hb.cell h.q6 hs, hb.cell h.q7 hs, hb.cell h.q8 hs, hb.cell h.q9 hs, hb.cell h.q10 hs, hb.cell h.q11 hs, hb.frozen h.q10 h.z10 hs, hb.frozen h.q11 h.z11 hs, h.t.but hb hs⟩
theorem SQ32.setN {w : World} {sb b lb : Nat} {y : LY} {su ev : Value} {N L : Int} (h : SQ32 w sb b lb y su ev N L) (N' : Int) : SQ32 (w.setCell ⟨sb, 10, none⟩ (.int .u32 N')) sb b lb y su ev N' L := by
  have o : ∀ j v, j ≠ 10 → w.cell? ⟨sb, j, none⟩ = some v → (w.setCell ⟨sb, 10, none⟩ (.int .u32 N')).cell? ⟨sb, j, none⟩ = some v := fun j v hj hc => by
    rw [World.cell?_setCell_other _ _ _ _ (fun e => by have := congrArg Addr.off e; simp at this; omega)]
    exact hc
  exact ⟨o 0 _ (by decide) h.q0, o 1 _ (by decide) h.q1, o 2 _ (by decide) h.q2, o 3 _ (by decide) h.q3, o 4 _ (by decide) h.q4, o 5 _ (by decide) h.q5, o 6 _ (by decide) h.q6, o 7 _ (by decide) h.q7, o 8 _ (by decide) h.q8, o 9 _ (by decide) h.q9, World.cell?_setCell_same _ _ _ h.q10, o 11 _ (by decide) h.q11, by rw [World.frozen?_setCell]; exact h.z10, by rw [World.frozen?_setCell]; exact h.z11, h.t.set⟩
theorem SQ32.setL {w : World} {sb b lb : Nat} {y : LY} {su ev : Value} {N L : Int} (h : SQ32 w sb b lb y su ev N L) (L' : Int) : SQ32 (w.setCell ⟨sb, 11, none⟩ (.int .u32 L')) sb b lb y su ev N L' := by
  have o : ∀ j v, j ≠ 11 → w.cell? ⟨sb, j, none⟩ = some v → (w.setCell ⟨sb, 11, none⟩ (.int .u32 L')).cell? ⟨sb, j, none⟩ = some v := fun j v hj hc => by
    rw [World.cell?_setCell_other _ _ _ _ (fun e => by have := congrArg Addr.off e; simp at this; omega)]
    exact hc
  exact ⟨o 0 _ (by decide) h.q0, o 1 _ (by decide) h.q1, o 2 _ (by decide) h.q2, o 3 _ (by decide) h.q3, o 4 _ (by decide) h.q4, o 5 _ (by decide) h.q5, o 6 _ (by decide) h.q6, o 7 _ (by decide) h.q7, o 8 _ (by decide) h.q8, o 9 _ (by decide) h.q9, o 10 _ (by decide) h.q10, World.cell?_setCell_same _ _ _ h.q11, by rw [World.frozen?_setCell]; exact h.z10, by rw [World.frozen?_setCell]; exact h.z11, h.t.set⟩
/-- all of it -/
structure ST32 (W0 w : World) (b g sb lb : Nat) (y : LY) (f : Nat → Int) (lv : Value) (log : List Acc) (ups : List (List Int)) (su ev : Value) (xs : List Int) (N L : Int) (vL : Value) (EL : List Ev) : Prop where
  B : BW w 121 b g y f lv log ups
  S : SQ32 w sb b lb y su ev N L
  G : LG W0 w lb vL EL
  X : Ext W0 w
  ob : ∀ k, Own b g lv k → W0.heap.size ≤ k
  os : W0.heap.size ≤ sb
  I : RI w 0 ev xs
  U : OwnL w su ups
theorem ST32.lt {W0 w : World} {b g sb lb : Nat} {y : LY} {f : Nat → Int} {lv : Value} {log : List Acc} {ups : List (List Int)} {su ev : Value} {xs : List Int} {N L : Int} {vL : Value} {EL : List Ev} (h : ST32 W0 w b g sb lb y f lv log ups su ev xs N L vL EL) {k : Nat} (hk : Mine b g lv sb lb vL k) : W0.heap.size ≤ k ∧ k < w.heap.size := by
  rcases hk with e | e | e | e
  · exact ⟨h.ob k e, h.B.B.lt e⟩
  · subst e; exact ⟨h.os, tag_lt h.S.t⟩
  · subst e; exact ⟨h.G.b, h.G.t.lt⟩
  · obtain ⟨h1, h2, -⟩ := h.G.r.lt e; exact ⟨h1, h2⟩
theorem ST32.tag {W0 w : World} {b g sb lb : Nat} {y : LY} {f : Nat → Int} {lv : Value} {log : List Acc} {ups : List (List Int)} {su ev : Value} {xs : List Int} {N L : Int} {vL : Value} {EL : List Ev} (h : ST32 W0 w b g sb lb y f lv log ups su ev xs N L vL EL) {k : Nat} (hk : Mine b g lv sb lb vL k) : Odd w k := by
  rcases hk with e | e | e | e
  · exact own_tag32 h.B.B e
  · subst e; exact ⟨_, h.S.t, by decide, by decide⟩
  · subst e; exact ⟨_, h.G.t, by decide, by decide⟩
  · exact ⟨_, (h.G.r.lt e).2.2, by decide, by decide⟩
/-- blocks that are none of it have turned -/
theorem ST32.but {S : Nat → Prop} {W0 w w' : World} {b g sb lb : Nat} {y : LY} {f : Nat → Int} {lv : Value} {log : List Acc} {ups : List (List Int)} {su ev : Value} {xs : List Int} {N L : Int} {vL : Value} {EL : List Ev} (h : ST32 W0 w b g sb lb y f lv log ups su ev xs N L vL EL) (hb : But S w w') (hs : ∀ k, S k → ¬ Mine b g lv sb lb vL k) (ho : ∀ k, S k → k < w.heap.size → W0.heap.size ≤ k ∧ Odd w k) : ST32 W0 w' b g sb lb y f lv log ups su ev xs N L vL EL := by
  have hi : ∀ k, S k → k < w.heap.size → ¬ TagE w k 3 := fun k hk hl ht => by
    obtain ⟨t, h1, h2, h3⟩ := (ho k hk hl).2
    exact tag_ne h1 ht h3 rfl
  refine ⟨h.B.but hb (fun k hk hS => hs k hS (.inl hk)) (fun k hk hl => (ho k hk hl).2), h.S.but hb (fun e => hs _ e (.inr (.inl rfl))), h.G.but hb (fun e => hs _ e (.inr (.inr (.inl rfl)))) (fun k hk e => hs k e (.inr (.inr (.inr hk)))) (fun k hk hl => ⟨(ho k hk hl).1, hi k hk hl⟩), But.ext h.X hb (fun k hk => ?_), h.ob, h.os, h.I.but hb hi, h.U.odd hb (fun k hk hl => (ho k hk hl).2)⟩
  by_cases hl : k < w.heap.size
  · exact (ho k hk hl).1
  · have := h.X.size; omega
theorem ST32.ext {W0 w w' : World} {b g sb lb : Nat} {y : LY} {f : Nat → Int} {lv : Value} {log : List Acc} {ups : List (List Int)} {su ev : Value} {xs : List Int} {N L : Int} {vL : Value} {EL : List Ev} (h : ST32 W0 w b g sb lb y f lv log ups su ev xs N L vL EL) (hx : Ext w w') : ST32 W0 w' b g sb lb y f lv log ups su ev xs N L vL EL :=
  h.but (hx.but (fun _ => False)) (fun _ e => e.elim) (fun _ e => e.elim)
/-- behind an access -/
theorem ST32.stepB {W0 w w' : World} {b g sb lb : Nat} {y : LY} {f f2 : Nat → Int} {lv lv2 : Value} {log log2 : List Acc} {ups : List (List Int)} {su ev : Value} {xs : List Int} {N L : Int} {vL : Value} {EL : List Ev} (h : ST32 W0 w b g sb lb y f lv log ups su ev xs N L vL EL) {fb : Nat} (hB : BD w' 121 b g y f2 lv2 log2) (hN : But (fun k => Own b g lv k ∨ k = fb) w w') (hf : ¬ Mine b g lv sb lb vL fb) (hfo : Odd w fb) (hfw : W0.heap.size ≤ fb) (hA : lv2.ownBlock = lv.ownBlock ∨ ∃ j, lv2.ownBlock = some j ∧ w.heap.size ≤ j) : ST32 W0 w' b g sb lb y f2 lv2 log2 ups su ev xs N L vL EL := by
  have hodd : ∀ k, (Own b g lv k ∨ k = fb) → k < w.heap.size → W0.heap.size ≤ k ∧ Odd w k := fun k hk _ => by
    rcases hk with e | e
    · exact ⟨h.ob k e, own_tag32 h.B.B e⟩
    · subst e; exact ⟨hfw, hfo⟩
  have hi : ∀ k, (Own b g lv k ∨ k = fb) → k < w.heap.size → ¬ TagE w k 3 := fun k hk hl ht => by
    obtain ⟨t, h1, h2, h3⟩ := (hodd k hk hl).2
    exact tag_ne h1 ht h3 rfl
  have ns : ¬ (Own b g lv sb ∨ sb = fb) := fun e => by
    rcases e with e | e
    · rcases e with e | e | e
      · exact tag_ne h.S.t h.B.B.tb (by decide) e
      · exact tag_ne h.S.t h.B.B.tg (by decide) e
      · exact tag_ne h.S.t (row_tagA h.B.B.row e) (by decide) rfl
    · exact hf (.inr (.inl e.symm))
  have nl : ¬ (Own b g lv lb ∨ lb = fb) := fun e => by
    have ht : Tag w lb 143 := h.G.t
    rcases e with e | e
    · rcases e with e | e | e
      · exact tag_ne ht h.B.B.tb (by decide) e
      · exact tag_ne ht h.B.B.tg (by decide) e
      · exact tag_ne ht (row_tagA h.B.B.row e) (by decide) rfl
    · exact hf (.inr (.inr (.inl e.symm)))
  have nv : ∀ k, vL.ownBlock = some k → ¬ (Own b g lv k ∨ k = fb) := fun k hk e => by
    have ht : Tag w k 92 := (h.G.r.lt hk).2.2
    rcases e with e | e
    · rcases e with e | e | e
      · exact tag_ne ht h.B.B.tb (by decide) e
      · exact tag_ne ht h.B.B.tg (by decide) e
      · exact tag_ne ht (row_tagA h.B.B.row e) (by decide) rfl
    · exact hf (.inr (.inr (.inr (by rw [← e]; exact hk))))
  refine ⟨⟨hB, h.B.O.odd hN (fun k hk hl => (hodd k hk hl).2)⟩, h.S.but hN ns, h.G.but hN nl nv (fun k hk hl => ⟨(hodd k hk hl).1, hi k hk hl⟩), But.ext h.X hN (fun k hk => ?_), own_new h.ob h.X.size hA, h.os, h.I.but hN hi, h.U.odd hN (fun k hk hl => (hodd k hk hl).2)⟩
  rcases hk with e | e
  · exact h.ob k e
  · subst e; exact hfw
/-- behind a note -/
theorem ST32.stepE {W0 w w' : World} {b g sb lb : Nat} {y : LY} {f : Nat → Int} {lv : Value} {log : List Acc} {ups : List (List Int)} {su ev : Value} {xs : List Int} {N L : Int} {vL vL2 : Value} {EL EL2 : List Ev} (h : ST32 W0 w b g sb lb y f lv log ups su ev xs N L vL EL) (hG : LG W0 w' lb vL2 EL2) (hN : But (fun k => k = lb ∨ vL.ownBlock = some k) w w') : ST32 W0 w' b g sb lb y f lv log ups su ev xs N L vL2 EL2 := by
  have hm : ∀ k, (k = lb ∨ vL.ownBlock = some k) → W0.heap.size ≤ k ∧ ∃ t, Tag w k t ∧ (t = 143 ∨ t = 92) := fun k hk => by
    rcases hk with e | e
    · subst e; exact ⟨h.G.b, _, h.G.t, .inl rfl⟩
    · exact ⟨(h.G.r.lt e).1, _, (h.G.r.lt e).2.2, .inr rfl⟩
  have ho : ∀ k, (k = lb ∨ vL.ownBlock = some k) → k < w.heap.size → Odd w k := fun k hk _ => by
    obtain ⟨-, t, h1, h2⟩ := hm k hk
    exact ⟨t, h1, by rcases h2 with rfl | rfl <;> decide, by rcases h2 with rfl | rfl <;> decide⟩
  have hi : ∀ k, (k = lb ∨ vL.ownBlock = some k) → k < w.heap.size → ¬ TagE w k 3 := fun k hk hl ht => by
    obtain ⟨t, h1, h2, h3⟩ := ho k hk hl
    exact tag_ne h1 ht h3 rfl
  have nb : ∀ k, Own b g lv k → ¬ (k = lb ∨ vL.ownBlock = some k) := fun k hk e => by
    obtain ⟨-, t, h1, h2⟩ := hm k e
    rcases hk with e | e | e
    · subst e; exact tag_ne h1 h.B.B.tb (by rcases h2 with rfl | rfl <;> decide) rfl
    · subst e; exact tag_ne h1 h.B.B.tg (by rcases h2 with rfl | rfl <;> decide) rfl
    · exact tag_ne h1 (row_tagA h.B.B.row e) (by rcases h2 with rfl | rfl <;> decide) rfl
  have ns : ¬ (sb = lb ∨ vL.ownBlock = some sb) := fun e => by
    obtain ⟨-, t, h1, h2⟩ := hm sb e
    exact tag_ne h1 h.S.t (by rcases h2 with rfl | rfl <;> decide) rfl
  exact ⟨h.B.but hN nb ho, h.S.but hN ns, hG, But.ext h.X hN (fun k hk => (hm k hk).1), h.ob, h.os, h.I.but hN hi, h.U.odd hN ho⟩
/-- its own cells are written -/
theorem ST32.stepS {W0 w w' : World} {b g sb lb : Nat} {y : LY} {f : Nat → Int} {lv : Value} {log : List Acc} {ups : List (List Int)} {su ev : Value} {xs : List Int} {N L N2 L2 : Int} {vL : Value} {EL : List Ev} (h : ST32 W0 w b g sb lb y f lv log ups su ev xs N L vL EL) (hS : SQ32 w' sb b lb y su ev N2 L2) (hN : But (· = sb) w w') : ST32 W0 w' b g sb lb y f lv log ups su ev xs N2 L2 vL EL := by
  have ho : ∀ k, k = sb → k < w.heap.size → Odd w k := fun k hk _ => by subst hk; exact ⟨_, h.S.t, by decide, by decide⟩
  have hi : ∀ k, k = sb → k < w.heap.size → ¬ TagE w k 3 := fun k hk hl ht => by
    obtain ⟨t, h1, h2, h3⟩ := ho k hk hl
    exact tag_ne h1 ht h3 rfl
  have nb : ∀ k, Own b g lv k → ¬ k = sb := fun k hk e => by
    subst e
    rcases hk with e | e | e
    · exact tag_ne h.S.t h.B.B.tb (by decide) e
    · exact tag_ne h.S.t h.B.B.tg (by decide) e
    · exact tag_ne h.S.t (row_tagA h.B.B.row e) (by decide) rfl
  have nl : ¬ lb = sb := fun e => tag_ne (show Tag w lb 143 from h.G.t) h.S.t (by decide) e
  have nv : ∀ k, vL.ownBlock = some k → ¬ k = sb := fun k hk e => tag_ne (show Tag w k 92 from (h.G.r.lt hk).2.2) h.S.t (by decide) e
  exact ⟨h.B.but hN nb ho, hS, h.G.but hN nl nv (fun k hk hl => ⟨by rw [show k = sb from hk]; exact h.os, hi k hk hl⟩), But.ext h.X hN (fun k hk => by rw [show k = sb from hk]; exact h.os), h.ob, h.os, h.I.but hN hi, h.U.odd hN ho⟩
/-- registers beside it -/
structure FB32 (W0 w : World) (b g sb lb : Nat) (lv vL : Value) (fb n : Nat) (F : Nat → Fm) : Prop where
  a : VA n w fb (fmV32 F)
  o : Odd w fb
  m : ¬ Mine b g lv sb lb vL fb
  w0 : W0.heap.size ≤ fb
  l : fb < w.heap.size
theorem FB32.step {S : Nat → Prop} {W0 w w' : World} {b g sb lb : Nat} {lv vL lv2 vL2 : Value} {fb n : Nat} {F : Nat → Fm} (h : FB32 W0 w b g sb lb lv vL fb n F) (hN : But S w w') (hs : ∀ k, S k → Mine b g lv sb lb vL k ∨ k ≠ fb) (hA : lv2.ownBlock = lv.ownBlock ∨ ∃ j, lv2.ownBlock = some j ∧ w.heap.size ≤ j) (hL : vL2.ownBlock = vL.ownBlock ∨ ∃ j, vL2.ownBlock = some j ∧ w.heap.size ≤ j) : FB32 W0 w' b g sb lb lv2 vL2 fb n F := by
  have nk : ¬ S fb := fun e => (hs fb e).elim h.m (fun e => e rfl)
  exact ⟨h.a.but hN nk, h.o.but hN nk, mine_out h.m h.l hA hL, h.w0, Nat.lt_of_lt_of_le h.l hN.size⟩
theorem FB32.ext {W0 w w' : World} {b g sb lb : Nat} {lv vL : Value} {fb n : Nat} {F : Nat → Fm} (h : FB32 W0 w b g sb lb lv vL fb n F) (hx : Ext w w') : FB32 W0 w' b g sb lb lv vL fb n F :=
  h.step (hx.but (fun _ => False)) (fun _ e => e.elim) (.inl rfl) (.inl rfl)
/-- the sequencer's cells -/
structure SQ64 (w : World) (sb b lb : Nat) (y : LY) (su ev : Value) (N L : Int) : Prop where
  q0 : w.cell? ⟨sb, 0, none⟩ = some (.pointer (some ⟨b, 0, none⟩))
  q1 : w.cell? ⟨sb, 1, none⟩ = some (.pointer (some ⟨lb, 0, none⟩))
  q2 : w.cell? ⟨sb, 2, none⟩ = some (.int .i64 y.V)
  q3 : w.cell? ⟨sb, 3, none⟩ = some (.int .i64 y.W)
  q4 : w.cell? ⟨sb, 4, none⟩ = some (.int .i64 y.C)
  q5 : w.cell? ⟨sb, 5, none⟩ = some (.int .i64 y.P)
  q6 : w.cell? ⟨sb, 6, none⟩ = some (.int .u64 y.S)
  q7 : w.cell? ⟨sb, 7, none⟩ = some su
  q8 : w.cell? ⟨sb, 8, none⟩ = some (.int .i64 y.Cu)
  q9 : w.cell? ⟨sb, 9, none⟩ = some ev
  q10 : w.cell? ⟨sb, 10, none⟩ = some (.int .u64 N)
  q11 : w.cell? ⟨sb, 11, none⟩ = some (.int .u64 L)
  z10 : w.frozen? ⟨sb, 10, none⟩ = false
  z11 : w.frozen? ⟨sb, 11, none⟩ = false
  t : Tag w sb 154
theorem SQ64.but {S : Nat → Prop} {w w' : World} {sb b lb : Nat} {y : LY} {su ev : Value} {N L : Int} (h : SQ64 w sb b lb y su ev N L) (hb : But S w w') (hs : ¬ S sb) : SQ64 w' sb b lb y su ev N L :=
  ⟨hb.cell h.q0 hs, hb.cell h.q1 hs, hb.cell h.q2 hs, hb.cell h.q3 hs, hb.cell h.q4 hs, hb.cell h.q5 hs, hb.cell h.q6 hs, hb.cell h.q7 hs, hb.cell h.q8 hs, hb.cell h.q9 hs, hb.cell h.q10 hs, hb.cell h.q11 hs, hb.frozen h.q10 h.z10 hs, hb.frozen h.q11 h.z11 hs, h.t.but hb hs⟩
theorem SQ64.setN {w : World} {sb b lb : Nat} {y : LY} {su ev : Value} {N L : Int} (h : SQ64 w sb b lb y su ev N L) (N' : Int) : SQ64 (w.setCell ⟨sb, 10, none⟩ (.int .u64 N')) sb b lb y su ev N' L := by
  have o : ∀ j v, j ≠ 10 → w.cell? ⟨sb, j, none⟩ = some v → (w.setCell ⟨sb, 10, none⟩ (.int .u64 N')).cell? ⟨sb, j, none⟩ = some v := fun j v hj hc => by
    rw [World.cell?_setCell_other _ _ _ _ (fun e => by have := congrArg Addr.off e; simp at this; omega)]
    exact hc
  exact ⟨o 0 _ (by decide) h.q0, o 1 _ (by decide) h.q1, o 2 _ (by decide) h.q2, o 3 _ (by decide) h.q3, o 4 _ (by decide) h.q4, o 5 _ (by decide) h.q5, o 6 _ (by decide) h.q6, o 7 _ (by decide) h.q7, o 8 _ (by decide) h.q8, o 9 _ (by decide) h.q9, World.cell?_setCell_same _ _ _ h.q10, o 11 _ (by decide) h.q11, by rw [World.frozen?_setCell]; exact h.z10, by rw [World.frozen?_setCell]; exact h.z11, h.t.set⟩
theorem SQ64.setL {w : World} {sb b lb : Nat} {y : LY} {su ev : Value} {N L : Int} (h : SQ64 w sb b lb y su ev N L) (L' : Int) : SQ64 (w.setCell ⟨sb, 11, none⟩ (.int .u64 L')) sb b lb y su ev N L' := by
  have o : ∀ j v, j ≠ 11 → w.cell? ⟨sb, j, none⟩ = some v → (w.setCell ⟨sb, 11, none⟩ (.int .u64 L')).cell? ⟨sb, j, none⟩ = some v := fun j v hj hc => by
    rw [World.cell?_setCell_other _ _ _ _ (fun e => by have := congrArg Addr.off e; simp at this; omega)]
    exact hc
  exact ⟨o 0 _ (by decide) h.q0, o 1 _ (by decide) h.q1, o 2 _ (by decide) h.q2, o 3 _ (by decide) h.q3, o 4 _ (by decide) h.q4, o 5 _ (by decide) h.q5, o 6 _ (by decide) h.q6, o 7 _ (by decide) h.q7, o 8 _ (by decide) h.q8, o 9 _ (by decide) h.q9, o 10 _ (by decide) h.q10, World.cell?_setCell_same _ _ _ h.q11, by rw [World.frozen?_setCell]; exact h.z10, by rw [World.frozen?_setCell]; exact h.z11, h.t.set⟩
/-- all of it -/
structure ST64 (W0 w : World) (b g sb lb : Nat) (y : LY) (f : Nat → Int) (lv : Value) (log : List Acc) (ups : List (List Int)) (su ev : Value) (xs : List Int) (N L : Int) (vL : Value) (EL : List Ev) : Prop where
  B : BW w 152 b g y f lv log ups
  S : SQ64 w sb b lb y su ev N L
  G : LG W0 w lb vL EL
  X : Ext W0 w
  ob : ∀ k, Own b g lv k → W0.heap.size ≤ k
  os : W0.heap.size ≤ sb
  I : RI w 0 ev xs
  U : OwnL w su ups
theorem ST64.lt {W0 w : World} {b g sb lb : Nat} {y : LY} {f : Nat → Int} {lv : Value} {log : List Acc} {ups : List (List Int)} {su ev : Value} {xs : List Int} {N L : Int} {vL : Value} {EL : List Ev} (h : ST64 W0 w b g sb lb y f lv log ups su ev xs N L vL EL) {k : Nat} (hk : Mine b g lv sb lb vL k) : W0.heap.size ≤ k ∧ k < w.heap.size := by
  rcases hk with e | e | e | e
  · exact ⟨h.ob k e, h.B.B.lt e⟩
  · subst e; exact ⟨h.os, tag_lt h.S.t⟩
  · subst e; exact ⟨h.G.b, h.G.t.lt⟩
  · obtain ⟨h1, h2, -⟩ := h.G.r.lt e; exact ⟨h1, h2⟩
theorem ST64.tag {W0 w : World} {b g sb lb : Nat} {y : LY} {f : Nat → Int} {lv : Value} {log : List Acc} {ups : List (List Int)} {su ev : Value} {xs : List Int} {N L : Int} {vL : Value} {EL : List Ev} (h : ST64 W0 w b g sb lb y f lv log ups su ev xs N L vL EL) {k : Nat} (hk : Mine b g lv sb lb vL k) : Odd w k := by
  rcases hk with e | e | e | e
  · exact own_tag64 h.B.B e
  · subst e; exact ⟨_, h.S.t, by decide, by decide⟩
  · subst e; exact ⟨_, h.G.t, by decide, by decide⟩
  · exact ⟨_, (h.G.r.lt e).2.2, by decide, by decide⟩
/-- blocks that are none of it have turned -/
theorem ST64.but {S : Nat → Prop} {W0 w w' : World} {b g sb lb : Nat} {y : LY} {f : Nat → Int} {lv : Value} {log : List Acc} {ups : List (List Int)} {su ev : Value} {xs : List Int} {N L : Int} {vL : Value} {EL : List Ev} (h : ST64 W0 w b g sb lb y f lv log ups su ev xs N L vL EL) (hb : But S w w') (hs : ∀ k, S k → ¬ Mine b g lv sb lb vL k) (ho : ∀ k, S k → k < w.heap.size → W0.heap.size ≤ k ∧ Odd w k) : ST64 W0 w' b g sb lb y f lv log ups su ev xs N L vL EL := by
  have hi : ∀ k, S k → k < w.heap.size → ¬ TagE w k 3 := fun k hk hl ht => by
    obtain ⟨t, h1, h2, h3⟩ := (ho k hk hl).2
    exact tag_ne h1 ht h3 rfl
  refine ⟨h.B.but hb (fun k hk hS => hs k hS (.inl hk)) (fun k hk hl => (ho k hk hl).2), h.S.but hb (fun e => hs _ e (.inr (.inl rfl))), h.G.but hb (fun e => hs _ e (.inr (.inr (.inl rfl)))) (fun k hk e => hs k e (.inr (.inr (.inr hk)))) (fun k hk hl => ⟨(ho k hk hl).1, hi k hk hl⟩), But.ext h.X hb (fun k hk => ?_), h.ob, h.os, h.I.but hb hi, h.U.odd hb (fun k hk hl => (ho k hk hl).2)⟩
  by_cases hl : k < w.heap.size
  · exact (ho k hk hl).1
  · have := h.X.size; omega
theorem ST64.ext {W0 w w' : World} {b g sb lb : Nat} {y : LY} {f : Nat → Int} {lv : Value} {log : List Acc} {ups : List (List Int)} {su ev : Value} {xs : List Int} {N L : Int} {vL : Value} {EL : List Ev} (h : ST64 W0 w b g sb lb y f lv log ups su ev xs N L vL EL) (hx : Ext w w') : ST64 W0 w' b g sb lb y f lv log ups su ev xs N L vL EL :=
  h.but (hx.but (fun _ => False)) (fun _ e => e.elim) (fun _ e => e.elim)
/-- behind an access -/
theorem ST64.stepB {W0 w w' : World} {b g sb lb : Nat} {y : LY} {f f2 : Nat → Int} {lv lv2 : Value} {log log2 : List Acc} {ups : List (List Int)} {su ev : Value} {xs : List Int} {N L : Int} {vL : Value} {EL : List Ev} (h : ST64 W0 w b g sb lb y f lv log ups su ev xs N L vL EL) {fb : Nat} (hB : BD w' 152 b g y f2 lv2 log2) (hN : But (fun k => Own b g lv k ∨ k = fb) w w') (hf : ¬ Mine b g lv sb lb vL fb) (hfo : Odd w fb) (hfw : W0.heap.size ≤ fb) (hA : lv2.ownBlock = lv.ownBlock ∨ ∃ j, lv2.ownBlock = some j ∧ w.heap.size ≤ j) : ST64 W0 w' b g sb lb y f2 lv2 log2 ups su ev xs N L vL EL := by
  have hodd : ∀ k, (Own b g lv k ∨ k = fb) → k < w.heap.size → W0.heap.size ≤ k ∧ Odd w k := fun k hk _ => by
    rcases hk with e | e
    · exact ⟨h.ob k e, own_tag64 h.B.B e⟩
    · subst e; exact ⟨hfw, hfo⟩
  have hi : ∀ k, (Own b g lv k ∨ k = fb) → k < w.heap.size → ¬ TagE w k 3 := fun k hk hl ht => by
    obtain ⟨t, h1, h2, h3⟩ := (hodd k hk hl).2
    exact tag_ne h1 ht h3 rfl
  have ns : ¬ (Own b g lv sb ∨ sb = fb) := fun e => by
    rcases e with e | e
    · rcases e with e | e | e
      · exact tag_ne h.S.t h.B.B.tb (by decide) e
      · exact tag_ne h.S.t h.B.B.tg (by decide) e
      · exact tag_ne h.S.t (row_tagA h.B.B.row e) (by decide) rfl
    · exact hf (.inr (.inl e.symm))
  have nl : ¬ (Own b g lv lb ∨ lb = fb) := fun e => by
    have ht : Tag w lb 143 := h.G.t
    rcases e with e | e
    · rcases e with e | e | e
      · exact tag_ne ht h.B.B.tb (by decide) e
      · exact tag_ne ht h.B.B.tg (by decide) e
      · exact tag_ne ht (row_tagA h.B.B.row e) (by decide) rfl
    · exact hf (.inr (.inr (.inl e.symm)))
  have nv : ∀ k, vL.ownBlock = some k → ¬ (Own b g lv k ∨ k = fb) := fun k hk e => by
    have ht : Tag w k 92 := (h.G.r.lt hk).2.2
    rcases e with e | e
    · rcases e with e | e | e
      · exact tag_ne ht h.B.B.tb (by decide) e
      · exact tag_ne ht h.B.B.tg (by decide) e
      · exact tag_ne ht (row_tagA h.B.B.row e) (by decide) rfl
    · exact hf (.inr (.inr (.inr (by rw [← e]; exact hk))))
  refine ⟨⟨hB, h.B.O.odd hN (fun k hk hl => (hodd k hk hl).2)⟩, h.S.but hN ns, h.G.but hN nl nv (fun k hk hl => ⟨(hodd k hk hl).1, hi k hk hl⟩), But.ext h.X hN (fun k hk => ?_), own_new h.ob h.X.size hA, h.os, h.I.but hN hi, h.U.odd hN (fun k hk hl => (hodd k hk hl).2)⟩
  rcases hk with e | e
  · exact h.ob k e
  · subst e; exact hfw
/-- behind a note -/
theorem ST64.stepE {W0 w w' : World} {b g sb lb : Nat} {y : LY} {f : Nat → Int} {lv : Value} {log : List Acc} {ups : List (List Int)} {su ev : Value} {xs : List Int} {N L : Int} {vL vL2 : Value} {EL EL2 : List Ev} (h : ST64 W0 w b g sb lb y f lv log ups su ev xs N L vL EL) (hG : LG W0 w' lb vL2 EL2) (hN : But (fun k => k = lb ∨ vL.ownBlock = some k) w w') : ST64 W0 w' b g sb lb y f lv log ups su ev xs N L vL2 EL2 := by
  have hm : ∀ k, (k = lb ∨ vL.ownBlock = some k) → W0.heap.size ≤ k ∧ ∃ t, Tag w k t ∧ (t = 143 ∨ t = 92) := fun k hk => by
    rcases hk with e | e
    · subst e; exact ⟨h.G.b, _, h.G.t, .inl rfl⟩
    · exact ⟨(h.G.r.lt e).1, _, (h.G.r.lt e).2.2, .inr rfl⟩
  have ho : ∀ k, (k = lb ∨ vL.ownBlock = some k) → k < w.heap.size → Odd w k := fun k hk _ => by
    obtain ⟨-, t, h1, h2⟩ := hm k hk
    exact ⟨t, h1, by rcases h2 with rfl | rfl <;> decide, by rcases h2 with rfl | rfl <;> decide⟩
  have hi : ∀ k, (k = lb ∨ vL.ownBlock = some k) → k < w.heap.size → ¬ TagE w k 3 := fun k hk hl ht => by
    obtain ⟨t, h1, h2, h3⟩ := ho k hk hl
    exact tag_ne h1 ht h3 rfl
  have nb : ∀ k, Own b g lv k → ¬ (k = lb ∨ vL.ownBlock = some k) := fun k hk e => by
    obtain ⟨-, t, h1, h2⟩ := hm k e
    rcases hk with e | e | e
    · subst e; exact tag_ne h1 h.B.B.tb (by rcases h2 with rfl | rfl <;> decide) rfl
    · subst e; exact tag_ne h1 h.B.B.tg (by rcases h2 with rfl | rfl <;> decide) rfl
    · exact tag_ne h1 (row_tagA h.B.B.row e) (by rcases h2 with rfl | rfl <;> decide) rfl
  have ns : ¬ (sb = lb ∨ vL.ownBlock = some sb) := fun e => by
    obtain ⟨-, t, h1, h2⟩ := hm sb e
    exact tag_ne h1 h.S.t (by rcases h2 with rfl | rfl <;> decide) rfl
  exact ⟨h.B.but hN nb ho, h.S.but hN ns, hG, But.ext h.X hN (fun k hk => (hm k hk).1), h.ob, h.os, h.I.but hN hi, h.U.odd hN ho⟩
/-- its own cells are written -/
theorem ST64.stepS {W0 w w' : World} {b g sb lb : Nat} {y : LY} {f : Nat → Int} {lv : Value} {log : List Acc} {ups : List (List Int)} {su ev : Value} {xs : List Int} {N L N2 L2 : Int} {vL : Value} {EL : List Ev} (h : ST64 W0 w b g sb lb y f lv log ups su ev xs N L vL EL) (hS : SQ64 w' sb b lb y su ev N2 L2) (hN : But (· = sb) w w') : ST64 W0 w' b g sb lb y f lv log ups su ev xs N2 L2 vL EL := by
  have ho : ∀ k, k = sb → k < w.heap.size → Odd w k := fun k hk _ => by subst hk; exact ⟨_, h.S.t, by decide, by decide⟩
  have hi : ∀ k, k = sb → k < w.heap.size → ¬ TagE w k 3 := fun k hk hl ht => by
    obtain ⟨t, h1, h2, h3⟩ := ho k hk hl
    exact tag_ne h1 ht h3 rfl
  have nb : ∀ k, Own b g lv k → ¬ k = sb := fun k hk e => by
    subst e
    rcases hk with e | e | e
    · exact tag_ne h.S.t h.B.B.tb (by decide) e
    · exact tag_ne h.S.t h.B.B.tg (by decide) e
    · exact tag_ne h.S.t (row_tagA h.B.B.row e) (by decide) rfl
  have nl : ¬ lb = sb := fun e => tag_ne (show Tag w lb 143 from h.G.t) h.S.t (by decide) e
  have nv : ∀ k, vL.ownBlock = some k → ¬ k = sb := fun k hk e => tag_ne (show Tag w k 92 from (h.G.r.lt hk).2.2) h.S.t (by decide) e
  exact ⟨h.B.but hN nb ho, hS, h.G.but hN nl nv (fun k hk hl => ⟨by rw [show k = sb from hk]; exact h.os, hi k hk hl⟩), But.ext h.X hN (fun k hk => by rw [show k = sb from hk]; exact h.os), h.ob, h.os, h.I.but hN hi, h.U.odd hN ho⟩
/-- registers beside it -/
structure FB64 (W0 w : World) (b g sb lb : Nat) (lv vL : Value) (fb n : Nat) (F : Nat → Fm) : Prop where
  a : VA n w fb (fmV64 F)
  o : Odd w fb
  m : ¬ Mine b g lv sb lb vL fb
  w0 : W0.heap.size ≤ fb
  l : fb < w.heap.size
theorem FB64.step {S : Nat → Prop} {W0 w w' : World} {b g sb lb : Nat} {lv vL lv2 vL2 : Value} {fb n : Nat} {F : Nat → Fm} (h : FB64 W0 w b g sb lb lv vL fb n F) (hN : But S w w') (hs : ∀ k, S k → Mine b g lv sb lb vL k ∨ k ≠ fb) (hA : lv2.ownBlock = lv.ownBlock ∨ ∃ j, lv2.ownBlock = some j ∧ w.heap.size ≤ j) (hL : vL2.ownBlock = vL.ownBlock ∨ ∃ j, vL2.ownBlock = some j ∧ w.heap.size ≤ j) : FB64 W0 w' b g sb lb lv2 vL2 fb n F := by
  have nk : ¬ S fb := fun e => (hs fb e).elim h.m (fun e => e rfl)
  exact ⟨h.a.but hN nk, h.o.but hN nk, mine_out h.m h.l hA hL, h.w0, Nat.lt_of_lt_of_le h.l hN.size⟩
theorem FB64.ext {W0 w w' : World} {b g sb lb : Nat} {lv vL : Value} {fb n : Nat} {F : Nat → Fm} (h : FB64 W0 w b g sb lb lv vL fb n F) (hx : Ext w w') : FB64 W0 w' b g sb lb lv vL fb n F :=
  h.step (hx.but (fun _ => False)) (fun _ e => e.elim) (.inl rfl) (.inl rfl)
end Go.Proofs.YtkmfamidahlgiaaGreatDoor
/- The document's Scan: one step. -/
namespace Go.Proofs.YtkmfamidahlgiaaGreatDoor
open Go.RowKit
set_option linter.unusedVariables false
set_option linter.unusedSimpArgs false
set_option maxHeartbeats 4000000
attribute [local go_sem] later_cell later_frozen later_const
def RScanDoes (b : Nat) (r : RY) (lv : Value) (f' : Nat → Int) (log' : List Acc) (d : Bool) (tn tp I tf M tv : Int) (w : World) (e : Ending) (w' : World) : Prop :=
  e = .returned (.tuple #[(.agg #[.int .i64 0, .int .i64 tn, .int .i64 0, .int .i64 tp, .int .i64 I, .int .i64 0, .int .u64 tf, .int .u64 M, .int .u64 tv, .int .u64 0, .slice none 0 0]), .bool d]) ∧ ∃ lv', RB w' b r f' lv' log' ∧ But (Own b r.gh lv) w w' ∧ (lv'.ownBlock = lv.ownBlock ∨ ∃ j, lv'.ownBlock = some j ∧ w.heap.size ≤ j)
theorem gapA32 (a b : Int) (w : World) (ha : 0 ≤ a) (hb : 0 ≤ b) : Calls Tryz.prog 79 #[.int .i64 32, .int .u64 a, .int .u64 b] w fun e w' => e = .returned (.int .i64 (D32 (a - b))) ∧ w = w' := rGap_32 a b w ha hb
theorem gapA64 (a b : Int) (w : World) (ha : 0 ≤ a) (hb : 0 ≤ b) : Calls Tryz.prog 79 #[.int .i64 64, .int .u64 a, .int .u64 b] w fun e w' => e = .returned (.int .i64 (D64 (a - b))) ∧ w = w' := rGap_64 a b w
set_option maxRecDepth 100000 in
theorem rScan32_ze (b : Nat) (r : RY) (f : Nat → Int) (lv : Value) (log : List Acc) (t : Int) (v : Value) (xs : List Int) (I c : Nat) (tn tp tf M tv : Int) (w : World) (h : RB w b r f lv log) (hW : r.W = 32) (hv : IntsV w v xs) (hI : I < xs.length) (hx : xs.getD I 0 = c) (hk : isK r (c : Int) 1 = true) (hc : c < r.m) (hl : log.length ≤ 1000) (hn : xs.length ≤ 1000) (f0 : 0 ≤ f c) (hM : 0 ≤ M) (h0 : I = 0) (h2 : I + 1 = xs.length) :
    Calls Tryz.prog 59 #[.pointer (some ⟨b, 0, none⟩), .int .i64 t, v, (.agg #[.int .i64 0, .int .i64 tn, .int .i64 0, .int .i64 tp, .int .i64 I, .int .i64 0, .int .u64 tf, .int .u64 M, .int .u64 tv, .int .u64 0, .slice none 0 0])] w (RScanDoes b r lv f (log ++ [⟨t, 1, c, f c, f c⟩]) true tn tp 0 tf (f c) tv w) := by
  have CA := Lib.hid (fun w' (hx : Ext w w') => rLoad_yes b r f lv log t c w' (h.ext hx) hk hc hl)
  have HG : Hid (∀ w', RMid b r lv f (log ++ [⟨t, 1, c, f c, f c⟩]) w w' → RScanDoes b r lv f (log ++ [⟨t, 1, c, f c, f c⟩]) true tn tp 0 tf (f c) tv w (.returned (.tuple #[(.agg #[.int .i64 0, .int .i64 tn, .int .i64 0, .int .i64 tp, .int .i64 0, .int .i64 0, .int .u64 tf, .int .u64 (f c), .int .u64 tv, .int .u64 0, .slice none 0 0]), .bool true])) w') := Lib.hid (fun w' hm => ⟨rfl, hm.does (v := .bool true)⟩)
  have HM := Lib.hid (fun lv' w1 w2 (hx : Ext w w1) hs hR hN hA => rmid_of (f' := f) (lv' := lv') (log' := (log ++ [⟨t, 1, c, f c, f c⟩])) (w1 := w1) (w2 := w2) h hx hs hR hN hA)
  generalize RScanDoes b r lv f (log ++ [⟨t, 1, c, f c, f c⟩]) true tn tp 0 tf (f c) tv w = G at *
  obtain ⟨va, vc, ev, hf⟩ := hv.form
  subst ev
  obtain ⟨vb, vo, ea, cv⟩ := hf I hI
  subst ea
  rw [hx] at cv
  generalize hxx : f c = x at *
  have hI1 : (I : Int) < (xs.length : Int) := by omega
  have hI0 : (0 : Int) ≤ (I : Int) := by omega
  have d0 : ((I : Int) == 0) = true := by simp [h0]
  have d2 : ((I : Int) + 1 == (xs.length : Int)) = true := by simp; omega
  have hwr : IntKind.i64.wrap ((I : Int) + 1) = (I : Int) + 1 := wrapS (by omega) (by omega)
  have hlt := fun k (hk : Own b r.gh lv k) => h.lt hk
  generalize xs.length = n at *
  clear h hv hf hI hx hk hl hn h0 h2
  go_enter Tryz.func59, Tryz.ntmps59
  go_upto_region 1 with (fail)
  refine settle_wp ?_
  intro w1 hb1
  have qa_0 : w1.cell? ⟨w.heap.size, 0, none⟩ = some (.int .i64 0) := (hb1.cells.1 _ _ (by simp <;> omega)).trans (by simp [go_sem])
  have za_0 : w1.frozen? ⟨w.heap.size, 0, none⟩ = false := (hb1.cells.2 _ _ (by simp <;> omega)).trans (by simp [go_sem])
  have qa_1 : w1.cell? ⟨w.heap.size, 1, none⟩ = some (.int .i64 tn) := (hb1.cells.1 _ _ (by simp <;> omega)).trans (by simp [go_sem])
  have za_1 : w1.frozen? ⟨w.heap.size, 1, none⟩ = false := (hb1.cells.2 _ _ (by simp <;> omega)).trans (by simp [go_sem])
  have qa_2 : w1.cell? ⟨w.heap.size, 2, none⟩ = some (.int .i64 0) := (hb1.cells.1 _ _ (by simp <;> omega)).trans (by simp [go_sem])
  have za_2 : w1.frozen? ⟨w.heap.size, 2, none⟩ = false := (hb1.cells.2 _ _ (by simp <;> omega)).trans (by simp [go_sem])
  have qa_3 : w1.cell? ⟨w.heap.size, 3, none⟩ = some (.int .i64 tp) := (hb1.cells.1 _ _ (by simp <;> omega)).trans (by simp [go_sem])
  have za_3 : w1.frozen? ⟨w.heap.size, 3, none⟩ = false := (hb1.cells.2 _ _ (by simp <;> omega)).trans (by simp [go_sem])
  have qa_4 : w1.cell? ⟨w.heap.size, 4, none⟩ = some (.int .i64 I) := (hb1.cells.1 _ _ (by simp <;> omega)).trans (by simp [go_sem])
  have za_4 : w1.frozen? ⟨w.heap.size, 4, none⟩ = false := (hb1.cells.2 _ _ (by simp <;> omega)).trans (by simp [go_sem])
  have qa_5 : w1.cell? ⟨w.heap.size, 5, none⟩ = some (.int .i64 0) := (hb1.cells.1 _ _ (by simp <;> omega)).trans (by simp [go_sem])
  have za_5 : w1.frozen? ⟨w.heap.size, 5, none⟩ = false := (hb1.cells.2 _ _ (by simp <;> omega)).trans (by simp [go_sem])
  have qa_6 : w1.cell? ⟨w.heap.size, 6, none⟩ = some (.int .u64 tf) := (hb1.cells.1 _ _ (by simp <;> omega)).trans (by simp [go_sem])
  have za_6 : w1.frozen? ⟨w.heap.size, 6, none⟩ = false := (hb1.cells.2 _ _ (by simp <;> omega)).trans (by simp [go_sem])
  have qa_7 : w1.cell? ⟨w.heap.size, 7, none⟩ = some (.int .u64 M) := (hb1.cells.1 _ _ (by simp <;> omega)).trans (by simp [go_sem])
  have za_7 : w1.frozen? ⟨w.heap.size, 7, none⟩ = false := (hb1.cells.2 _ _ (by simp <;> omega)).trans (by simp [go_sem])
  have qa_8 : w1.cell? ⟨w.heap.size, 8, none⟩ = some (.int .u64 tv) := (hb1.cells.1 _ _ (by simp <;> omega)).trans (by simp [go_sem])
  have za_8 : w1.frozen? ⟨w.heap.size, 8, none⟩ = false := (hb1.cells.2 _ _ (by simp <;> omega)).trans (by simp [go_sem])
  have qa_9 : w1.cell? ⟨w.heap.size, 9, none⟩ = some (.int .u64 0) := (hb1.cells.1 _ _ (by simp <;> omega)).trans (by simp [go_sem])
  have za_9 : w1.frozen? ⟨w.heap.size, 9, none⟩ = false := (hb1.cells.2 _ _ (by simp <;> omega)).trans (by simp [go_sem])
  have qa_10 : w1.cell? ⟨w.heap.size, 10, none⟩ = some (.slice none 0 0) := (hb1.cells.1 _ _ (by simp <;> omega)).trans (by simp [go_sem])
  have za_10 : w1.frozen? ⟨w.heap.size, 10, none⟩ = false := (hb1.cells.2 _ _ (by simp <;> omega)).trans (by simp [go_sem])
  have pa := World.block_lt_of_cell? _ ⟨w.heap.size, 0, none⟩ qa_0
  have ra := Nat.lt_succ_of_lt pa
  have qr_0 : w1.cell? ⟨(w.heap.size + 1), 0, none⟩ = some (.int .i64 0) := (hb1.cells.1 _ _ (by simp <;> omega)).trans (by simp [go_sem])
  have zr_0 : w1.frozen? ⟨(w.heap.size + 1), 0, none⟩ = false := (hb1.cells.2 _ _ (by simp <;> omega)).trans (by simp [go_sem])
  have qr_1 : w1.cell? ⟨(w.heap.size + 1), 1, none⟩ = some (.int .i64 0) := (hb1.cells.1 _ _ (by simp <;> omega)).trans (by simp [go_sem])
  have zr_1 : w1.frozen? ⟨(w.heap.size + 1), 1, none⟩ = false := (hb1.cells.2 _ _ (by simp <;> omega)).trans (by simp [go_sem])
  have qr_2 : w1.cell? ⟨(w.heap.size + 1), 2, none⟩ = some (.int .i64 0) := (hb1.cells.1 _ _ (by simp <;> omega)).trans (by simp [go_sem])
  have zr_2 : w1.frozen? ⟨(w.heap.size + 1), 2, none⟩ = false := (hb1.cells.2 _ _ (by simp <;> omega)).trans (by simp [go_sem])
  have qr_3 : w1.cell? ⟨(w.heap.size + 1), 3, none⟩ = some (.int .i64 0) := (hb1.cells.1 _ _ (by simp <;> omega)).trans (by simp [go_sem])
  have zr_3 : w1.frozen? ⟨(w.heap.size + 1), 3, none⟩ = false := (hb1.cells.2 _ _ (by simp <;> omega)).trans (by simp [go_sem])
  have qr_4 : w1.cell? ⟨(w.heap.size + 1), 4, none⟩ = some (.int .i64 0) := (hb1.cells.1 _ _ (by simp <;> omega)).trans (by simp [go_sem])
  have zr_4 : w1.frozen? ⟨(w.heap.size + 1), 4, none⟩ = false := (hb1.cells.2 _ _ (by simp <;> omega)).trans (by simp [go_sem])
  have qr_5 : w1.cell? ⟨(w.heap.size + 1), 5, none⟩ = some (.int .i64 0) := (hb1.cells.1 _ _ (by simp <;> omega)).trans (by simp [go_sem])
  have zr_5 : w1.frozen? ⟨(w.heap.size + 1), 5, none⟩ = false := (hb1.cells.2 _ _ (by simp <;> omega)).trans (by simp [go_sem])
  have qr_6 : w1.cell? ⟨(w.heap.size + 1), 6, none⟩ = some (.int .u64 0) := (hb1.cells.1 _ _ (by simp <;> omega)).trans (by simp [go_sem])
  have zr_6 : w1.frozen? ⟨(w.heap.size + 1), 6, none⟩ = false := (hb1.cells.2 _ _ (by simp <;> omega)).trans (by simp [go_sem])
  have qr_7 : w1.cell? ⟨(w.heap.size + 1), 7, none⟩ = some (.int .u64 0) := (hb1.cells.1 _ _ (by simp <;> omega)).trans (by simp [go_sem])
  have zr_7 : w1.frozen? ⟨(w.heap.size + 1), 7, none⟩ = false := (hb1.cells.2 _ _ (by simp <;> omega)).trans (by simp [go_sem])
  have qr_8 : w1.cell? ⟨(w.heap.size + 1), 8, none⟩ = some (.int .u64 0) := (hb1.cells.1 _ _ (by simp <;> omega)).trans (by simp [go_sem])
  have zr_8 : w1.frozen? ⟨(w.heap.size + 1), 8, none⟩ = false := (hb1.cells.2 _ _ (by simp <;> omega)).trans (by simp [go_sem])
  have qr_9 : w1.cell? ⟨(w.heap.size + 1), 9, none⟩ = some (.int .u64 0) := (hb1.cells.1 _ _ (by simp <;> omega)).trans (by simp [go_sem])
  have zr_9 : w1.frozen? ⟨(w.heap.size + 1), 9, none⟩ = false := (hb1.cells.2 _ _ (by simp <;> omega)).trans (by simp [go_sem])
  have qr_10 : w1.cell? ⟨(w.heap.size + 1), 10, none⟩ = some (.slice none 0 0) := (hb1.cells.1 _ _ (by simp <;> omega)).trans (by simp [go_sem])
  have zr_10 : w1.frozen? ⟨(w.heap.size + 1), 10, none⟩ = false := (hb1.cells.2 _ _ (by simp <;> omega)).trans (by simp [go_sem])
  have pr := World.block_lt_of_cell? _ ⟨(w.heap.size + 1), 0, none⟩ qr_0
  have rr := Nat.lt_succ_of_lt pr
  have XE : Ext w w1 := Ext.trans (Ext.alloc (Ext.alloc (Ext.refl w) _) _) hb1
  have hs1 : w.heap.size + 2 ≤ w1.heap.size := by have h1 := hb1.size; simp at h1; omega
  have na : ¬ Own b r.gh lv w.heap.size := fun hk => by have := hlt _ hk; omega
  have nr : ¬ Own b r.gh lv (w.heap.size + 1) := fun hk => by have := hlt _ hk; omega
  replace cv := XE.cell cv
  clear hb1
  go_wp2_with fail
  refine (CA.out _ XE).mono ?_
  rintro e w2 ⟨rfl, lv2, R2, N2, A2⟩
  have HM2 := Lib.hid (HM.out lv2 _ w2 XE hs1 R2 N2 A2)
  have qW := R2.q1
  rw [hW] at qW
  replace za_0 := N2.frozen qa_0 za_0 na
  replace qa_0 := N2.cell qa_0 na
  replace za_1 := N2.frozen qa_1 za_1 na
  replace qa_1 := N2.cell qa_1 na
  replace za_2 := N2.frozen qa_2 za_2 na
  replace qa_2 := N2.cell qa_2 na
  replace za_3 := N2.frozen qa_3 za_3 na
  replace qa_3 := N2.cell qa_3 na
  replace za_4 := N2.frozen qa_4 za_4 na
  replace qa_4 := N2.cell qa_4 na
  replace za_5 := N2.frozen qa_5 za_5 na
  replace qa_5 := N2.cell qa_5 na
  replace za_6 := N2.frozen qa_6 za_6 na
  replace qa_6 := N2.cell qa_6 na
  replace za_7 := N2.frozen qa_7 za_7 na
  replace qa_7 := N2.cell qa_7 na
  replace za_8 := N2.frozen qa_8 za_8 na
  replace qa_8 := N2.cell qa_8 na
  replace za_9 := N2.frozen qa_9 za_9 na
  replace qa_9 := N2.cell qa_9 na
  replace za_10 := N2.frozen qa_10 za_10 na
  replace qa_10 := N2.cell qa_10 na
  replace zr_0 := N2.frozen qr_0 zr_0 nr
  replace qr_0 := N2.cell qr_0 nr
  replace zr_1 := N2.frozen qr_1 zr_1 nr
  replace qr_1 := N2.cell qr_1 nr
  replace zr_2 := N2.frozen qr_2 zr_2 nr
  replace qr_2 := N2.cell qr_2 nr
  replace zr_3 := N2.frozen qr_3 zr_3 nr
  replace qr_3 := N2.cell qr_3 nr
  replace zr_4 := N2.frozen qr_4 zr_4 nr
  replace qr_4 := N2.cell qr_4 nr
  replace zr_5 := N2.frozen qr_5 zr_5 nr
  replace qr_5 := N2.cell qr_5 nr
  replace zr_6 := N2.frozen qr_6 zr_6 nr
  replace qr_6 := N2.cell qr_6 nr
  replace zr_7 := N2.frozen qr_7 zr_7 nr
  replace qr_7 := N2.cell qr_7 nr
  replace zr_8 := N2.frozen qr_8 zr_8 nr
  replace qr_8 := N2.cell qr_8 nr
  replace zr_9 := N2.frozen qr_9 zr_9 nr
  replace qr_9 := N2.cell qr_9 nr
  replace zr_10 := N2.frozen qr_10 zr_10 nr
  replace qr_10 := N2.cell qr_10 nr
  clear R2 N2 A2 XE cv
  go_upto_region 5 with (fail)
  have k4 := fun w' (hx : Ext w2 w') => hx.cell qa_4
  have k7 := fun w' (hx : Ext w2 w') => hx.cell qa_7
  have kW := fun w' (hx : Ext w2 w') => hx.cell qW
  refine wp_region_held_drew (S := fun w' => Ext w2 w') (by kernel_rfl) ?hbeg (fun hHeld => ?_)
  case hbeg => exact (Ext.refl w2).drew
  have hHeld0 : Ext w2 w2 := by first | exact Ext.refl _ | assumption
  first
    | (refine take_at (i := 0) (v := ?_) rfl rfl (by kernel_rfl) (by kernel_rfl) (by kernel_rfl) (fun _ _ _ h => h) (Or.inl ⟨by rfl, ?hy⟩) (by assumption) ?_
       case hy => (intro wz hSw; (try dsimp only at hSw); go_simp <;> with_reducible rfl)
       simp only [List.setIfInBounds_toArray, List.set_cons_zero, List.set_cons_succ])
    | (refine take_at (i := 0) (v := undef) rfl rfl (by kernel_rfl) (by kernel_rfl) (by kernel_rfl) (fun _ _ _ h => h) (Or.inr ⟨by rfl, rfl⟩) (by assumption) ?_
       simp only [List.setIfInBounds_toArray, List.set_cons_zero, List.set_cons_succ])
  first
    | (refine take_at (i := 1) (v := ?_) rfl rfl (by kernel_rfl) (by kernel_rfl) (by kernel_rfl) (fun _ _ _ h => h) (Or.inl ⟨by rfl, ?hy⟩) (by assumption) ?_
       case hy => (intro wz hSw; (try dsimp only at hSw); go_simp <;> with_reducible rfl)
       simp only [List.setIfInBounds_toArray, List.set_cons_zero, List.set_cons_succ])
    | (refine take_at (i := 1) (v := undef) rfl rfl (by kernel_rfl) (by kernel_rfl) (by kernel_rfl) (fun _ _ _ h => h) (Or.inr ⟨by rfl, rfl⟩) (by assumption) ?_
       simp only [List.setIfInBounds_toArray, List.set_cons_zero, List.set_cons_succ])
  first
    | (refine take_at (i := 2) (v := ?_) rfl rfl (by kernel_rfl) (by kernel_rfl) (by kernel_rfl) (fun _ _ _ h => h) (Or.inl ⟨by rfl, ?hy⟩) (by assumption) ?_
       case hy => (intro wz hSw; (try dsimp only at hSw); go_simp <;> with_reducible rfl)
       simp only [List.setIfInBounds_toArray, List.set_cons_zero, List.set_cons_succ])
    | (refine take_at (i := 2) (v := undef) rfl rfl (by kernel_rfl) (by kernel_rfl) (by kernel_rfl) (fun _ _ _ h => h) (Or.inr ⟨by rfl, rfl⟩) (by assumption) ?_
       simp only [List.setIfInBounds_toArray, List.set_cons_zero, List.set_cons_succ])
  first
    | (refine take_at (i := 3) (v := ?_) rfl rfl (by kernel_rfl) (by kernel_rfl) (by kernel_rfl) (fun _ _ _ h => h) (Or.inl ⟨by rfl, ?hy⟩) (by assumption) ?_
       case hy => (intro wz hSw; (try dsimp only at hSw); go_simp <;> with_reducible rfl)
       simp only [List.setIfInBounds_toArray, List.set_cons_zero, List.set_cons_succ])
    | (refine take_at (i := 3) (v := undef) rfl rfl (by kernel_rfl) (by kernel_rfl) (by kernel_rfl) (fun _ _ _ h => h) (Or.inr ⟨by rfl, rfl⟩) (by assumption) ?_
       simp only [List.setIfInBounds_toArray, List.set_cons_zero, List.set_cons_succ])
  first
    | (refine take_at (i := 4) (v := ?_) rfl rfl (by kernel_rfl) (by kernel_rfl) (by kernel_rfl) (fun _ _ _ h => h) (Or.inl ⟨by rfl, ?hy⟩) (by assumption) ?_
       case hy => (intro wz hSw; (try dsimp only at hSw); go_simp <;> with_reducible rfl)
       simp only [List.setIfInBounds_toArray, List.set_cons_zero, List.set_cons_succ])
    | (refine take_at (i := 4) (v := undef) rfl rfl (by kernel_rfl) (by kernel_rfl) (by kernel_rfl) (fun _ _ _ h => h) (Or.inr ⟨by rfl, rfl⟩) (by assumption) ?_
       simp only [List.setIfInBounds_toArray, List.set_cons_zero, List.set_cons_succ])
  first
    | (refine take_at (i := 5) (v := ?_) rfl rfl (by kernel_rfl) (by kernel_rfl) (by kernel_rfl) (fun _ _ _ h => h) (Or.inl ⟨by rfl, ?hy⟩) (by assumption) ?_
       case hy => (intro wz hSw; (try dsimp only at hSw); go_simp <;> with_reducible rfl)
       simp only [List.setIfInBounds_toArray, List.set_cons_zero, List.set_cons_succ])
    | (refine take_at (i := 5) (v := undef) rfl rfl (by kernel_rfl) (by kernel_rfl) (by kernel_rfl) (fun _ _ _ h => h) (Or.inr ⟨by rfl, rfl⟩) (by assumption) ?_
       simp only [List.setIfInBounds_toArray, List.set_cons_zero, List.set_cons_succ])
  first
    | (refine take_at (i := 6) (v := ?_) rfl rfl (by kernel_rfl) (by kernel_rfl) (by kernel_rfl) (fun _ _ _ h => h) (Or.inl ⟨by rfl, ?hy⟩) (by assumption) ?_
       case hy => (intro wz hSw; (try dsimp only at hSw); go_simp <;> with_reducible rfl)
       simp only [List.setIfInBounds_toArray, List.set_cons_zero, List.set_cons_succ])
    | (refine take_at (i := 6) (v := undef) rfl rfl (by kernel_rfl) (by kernel_rfl) (by kernel_rfl) (fun _ _ _ h => h) (Or.inr ⟨by rfl, rfl⟩) (by assumption) ?_
       simp only [List.setIfInBounds_toArray, List.set_cons_zero, List.set_cons_succ])
  first
    | (refine take_at (i := 7) (v := ?_) rfl rfl (by kernel_rfl) (by kernel_rfl) (by kernel_rfl) (fun _ _ _ h => h) (Or.inl ⟨by rfl, ?hy⟩) (by assumption) ?_
       case hy => (intro wz hSw; (try dsimp only at hSw); go_simp <;> with_reducible rfl)
       simp only [List.setIfInBounds_toArray, List.set_cons_zero, List.set_cons_succ])
    | (refine take_at (i := 7) (v := undef) rfl rfl (by kernel_rfl) (by kernel_rfl) (by kernel_rfl) (fun _ _ _ h => h) (Or.inr ⟨by rfl, rfl⟩) (by assumption) ?_
       simp only [List.setIfInBounds_toArray, List.set_cons_zero, List.set_cons_succ])
  first
    | (refine take_at (i := 8) (v := ?_) rfl rfl (by kernel_rfl) (by kernel_rfl) (by kernel_rfl) (fun _ _ _ h => h) (Or.inl ⟨by rfl, ?hy⟩) (by assumption) ?_
       case hy => (intro wz hSw; (try dsimp only at hSw); go_simp <;> with_reducible rfl)
       simp only [List.setIfInBounds_toArray, List.set_cons_zero, List.set_cons_succ])
    | (refine take_at (i := 8) (v := undef) rfl rfl (by kernel_rfl) (by kernel_rfl) (by kernel_rfl) (fun _ _ _ h => h) (Or.inr ⟨by rfl, rfl⟩) (by assumption) ?_
       simp only [List.setIfInBounds_toArray, List.set_cons_zero, List.set_cons_succ])
  first
    | (refine take_at (i := 9) (v := ?_) rfl rfl (by kernel_rfl) (by kernel_rfl) (by kernel_rfl) (fun _ _ _ h => h) (Or.inl ⟨by rfl, ?hy⟩) (by assumption) ?_
       case hy => (intro wz hSw; (try dsimp only at hSw); go_simp <;> with_reducible rfl)
       simp only [List.setIfInBounds_toArray, List.set_cons_zero, List.set_cons_succ])
    | (refine take_at (i := 9) (v := undef) rfl rfl (by kernel_rfl) (by kernel_rfl) (by kernel_rfl) (fun _ _ _ h => h) (Or.inr ⟨by rfl, rfl⟩) (by assumption) ?_
       simp only [List.setIfInBounds_toArray, List.set_cons_zero, List.set_cons_succ])
  first
    | (refine take_at (i := 10) (v := ?_) rfl rfl (by kernel_rfl) (by kernel_rfl) (by kernel_rfl) (fun _ _ _ h => h) (Or.inl ⟨by rfl, ?hy⟩) (by assumption) ?_
       case hy => (intro wz hSw; (try dsimp only at hSw); go_simp <;> with_reducible rfl)
       simp only [List.setIfInBounds_toArray, List.set_cons_zero, List.set_cons_succ])
    | (refine take_at (i := 10) (v := undef) rfl rfl (by kernel_rfl) (by kernel_rfl) (by kernel_rfl) (fun _ _ _ h => h) (Or.inr ⟨by rfl, rfl⟩) (by assumption) ?_
       simp only [List.setIfInBounds_toArray, List.set_cons_zero, List.set_cons_succ])
  first
    | (refine take_at (i := 11) (v := ?_) rfl rfl (by kernel_rfl) (by kernel_rfl) (by kernel_rfl) (fun _ _ _ h => h) (Or.inl ⟨by rfl, ?hy⟩) (by assumption) ?_
       case hy => (intro wz hSw; (try dsimp only at hSw); go_simp <;> with_reducible rfl)
       simp only [List.setIfInBounds_toArray, List.set_cons_zero, List.set_cons_succ])
    | (refine take_at (i := 11) (v := undef) rfl rfl (by kernel_rfl) (by kernel_rfl) (by kernel_rfl) (fun _ _ _ h => h) (Or.inr ⟨by rfl, rfl⟩) (by assumption) ?_
       simp only [List.setIfInBounds_toArray, List.set_cons_zero, List.set_cons_succ])
  first
    | (refine take_at (i := 12) (v := ?_) rfl rfl (by kernel_rfl) (by kernel_rfl) (by kernel_rfl) (fun _ _ _ h => h) (Or.inl ⟨by rfl, ?hy⟩) (by assumption) ?_
       case hy => (intro wz hSw; (try dsimp only at hSw); go_simp <;> with_reducible rfl)
       simp only [List.setIfInBounds_toArray, List.set_cons_zero, List.set_cons_succ])
    | (refine take_at (i := 12) (v := undef) rfl rfl (by kernel_rfl) (by kernel_rfl) (by kernel_rfl) (fun _ _ _ h => h) (Or.inr ⟨by rfl, rfl⟩) (by assumption) ?_
       simp only [List.setIfInBounds_toArray, List.set_cons_zero, List.set_cons_succ])
  first
    | (refine take_at (i := 13) (v := ?_) rfl rfl (by kernel_rfl) (by kernel_rfl) (by kernel_rfl) (fun _ _ _ h => h) (Or.inl ⟨by rfl, ?hy⟩) (by assumption) ?_
       case hy => (intro wz hSw; (try dsimp only at hSw); go_simp <;> with_reducible rfl)
       simp only [List.setIfInBounds_toArray, List.set_cons_zero, List.set_cons_succ])
    | (refine take_at (i := 13) (v := undef) rfl rfl (by kernel_rfl) (by kernel_rfl) (by kernel_rfl) (fun _ _ _ h => h) (Or.inr ⟨by rfl, rfl⟩) (by assumption) ?_
       simp only [List.setIfInBounds_toArray, List.set_cons_zero, List.set_cons_succ])
  first
    | (refine take_at (i := 14) (v := ?_) rfl rfl (by kernel_rfl) (by kernel_rfl) (by kernel_rfl) (fun _ _ _ h => h) (Or.inl ⟨by rfl, ?hy⟩) (by assumption) ?_
       case hy => (intro wz hSw; (try dsimp only at hSw); go_simp <;> with_reducible rfl)
       simp only [List.setIfInBounds_toArray, List.set_cons_zero, List.set_cons_succ])
    | (refine take_at (i := 14) (v := undef) rfl rfl (by kernel_rfl) (by kernel_rfl) (by kernel_rfl) (fun _ _ _ h => h) (Or.inr ⟨by rfl, rfl⟩) (by assumption) ?_
       simp only [List.setIfInBounds_toArray, List.set_cons_zero, List.set_cons_succ])
  refine wpAnyH_done (by kernel_rfl) ?_ _
  go_upto_region 6 with (fail)
  refine settle_wp ?_
  intro w3 hb3
  have hH := Ext.trans hHeld hb3
  replace HM2 := Lib.hid (HM2.out.ext hH)
  replace za_0 := hH.frozen qa_0 za_0
  replace qa_0 := hH.cell qa_0
  replace za_1 := hH.frozen qa_1 za_1
  replace qa_1 := hH.cell qa_1
  replace za_2 := hH.frozen qa_2 za_2
  replace qa_2 := hH.cell qa_2
  replace za_3 := hH.frozen qa_3 za_3
  replace qa_3 := hH.cell qa_3
  replace za_4 := hH.frozen qa_4 za_4
  replace qa_4 := hH.cell qa_4
  replace za_5 := hH.frozen qa_5 za_5
  replace qa_5 := hH.cell qa_5
  replace za_6 := hH.frozen qa_6 za_6
  replace qa_6 := hH.cell qa_6
  replace za_7 := hH.frozen qa_7 za_7
  replace qa_7 := hH.cell qa_7
  replace za_8 := hH.frozen qa_8 za_8
  replace qa_8 := hH.cell qa_8
  replace za_9 := hH.frozen qa_9 za_9
  replace qa_9 := hH.cell qa_9
  replace za_10 := hH.frozen qa_10 za_10
  replace qa_10 := hH.cell qa_10
  replace zr_0 := hH.frozen qr_0 zr_0
  replace qr_0 := hH.cell qr_0
  replace zr_1 := hH.frozen qr_1 zr_1
  replace qr_1 := hH.cell qr_1
  replace zr_2 := hH.frozen qr_2 zr_2
  replace qr_2 := hH.cell qr_2
  replace zr_3 := hH.frozen qr_3 zr_3
  replace qr_3 := hH.cell qr_3
  replace zr_4 := hH.frozen qr_4 zr_4
  replace qr_4 := hH.cell qr_4
  replace zr_5 := hH.frozen qr_5 zr_5
  replace qr_5 := hH.cell qr_5
  replace zr_6 := hH.frozen qr_6 zr_6
  replace qr_6 := hH.cell qr_6
  replace zr_7 := hH.frozen qr_7 zr_7
  replace qr_7 := hH.cell qr_7
  replace zr_8 := hH.frozen qr_8 zr_8
  replace qr_8 := hH.cell qr_8
  replace zr_9 := hH.frozen qr_9 zr_9
  replace qr_9 := hH.cell qr_9
  replace zr_10 := hH.frozen qr_10 zr_10
  replace qr_10 := hH.cell qr_10
  clear k4 k7 kW qW hHeld hH hb3
  go_upto_region 10 with (fail)
  refine settle_wp ?_
  intro w5 hb5
  replace HM2 := Lib.hid ((((HM2.out.set (p := ⟨w.heap.size, 7, none⟩) (by simp) (by simp) (.int .u64 x)).set (p := ⟨w.heap.size, 4, none⟩) (by simp) (by simp) (.int .i64 ((I : Int) + 1))).set (p := ⟨w.heap.size, 4, none⟩) (by simp) (by simp) (.int .i64 0)).ext hb5)
  have pa_0 : w5.cell? ⟨w.heap.size, 0, none⟩ = some (.int .i64 0) := hb5.cell (by simp (maxDischargeDepth := 40) [go_sem, set_some, set_same, qa_0])
  have pa_1 : w5.cell? ⟨w.heap.size, 1, none⟩ = some (.int .i64 tn) := hb5.cell (by simp (maxDischargeDepth := 40) [go_sem, set_some, set_same, qa_1])
  have pa_2 : w5.cell? ⟨w.heap.size, 2, none⟩ = some (.int .i64 0) := hb5.cell (by simp (maxDischargeDepth := 40) [go_sem, set_some, set_same, qa_2])
  have pa_3 : w5.cell? ⟨w.heap.size, 3, none⟩ = some (.int .i64 tp) := hb5.cell (by simp (maxDischargeDepth := 40) [go_sem, set_some, set_same, qa_3])
  have pa_4 : w5.cell? ⟨w.heap.size, 4, none⟩ = some (.int .i64 0) := hb5.cell (by simp (maxDischargeDepth := 40) [go_sem, set_some, set_same, qa_4])
  have pa_5 : w5.cell? ⟨w.heap.size, 5, none⟩ = some (.int .i64 0) := hb5.cell (by simp (maxDischargeDepth := 40) [go_sem, set_some, set_same, qa_5])
  have pa_6 : w5.cell? ⟨w.heap.size, 6, none⟩ = some (.int .u64 tf) := hb5.cell (by simp (maxDischargeDepth := 40) [go_sem, set_some, set_same, qa_6])
  have pa_7 : w5.cell? ⟨w.heap.size, 7, none⟩ = some (.int .u64 x) := hb5.cell (by simp (maxDischargeDepth := 40) [go_sem, set_some, set_same, qa_7])
  have pa_8 : w5.cell? ⟨w.heap.size, 8, none⟩ = some (.int .u64 tv) := hb5.cell (by simp (maxDischargeDepth := 40) [go_sem, set_some, set_same, qa_8])
  have pa_9 : w5.cell? ⟨w.heap.size, 9, none⟩ = some (.int .u64 0) := hb5.cell (by simp (maxDischargeDepth := 40) [go_sem, set_some, set_same, qa_9])
  have pa_10 : w5.cell? ⟨w.heap.size, 10, none⟩ = some (.slice none 0 0) := hb5.cell (by simp (maxDischargeDepth := 40) [go_sem, set_some, set_same, qa_10])
  have pr_0 : w5.cell? ⟨w.heap.size + 1, 0, none⟩ = some (.int .i64 0) := hb5.cell (by simp [go_sem, qr_0])
  have vr_0 : w5.frozen? ⟨w.heap.size + 1, 0, none⟩ = false := hb5.frozen (v := .int .i64 0) (by simp [go_sem, qr_0]) (by simp [go_sem, zr_0])
  have pr_1 : w5.cell? ⟨w.heap.size + 1, 1, none⟩ = some (.int .i64 0) := hb5.cell (by simp [go_sem, qr_1])
  have vr_1 : w5.frozen? ⟨w.heap.size + 1, 1, none⟩ = false := hb5.frozen (v := .int .i64 0) (by simp [go_sem, qr_1]) (by simp [go_sem, zr_1])
  have pr_2 : w5.cell? ⟨w.heap.size + 1, 2, none⟩ = some (.int .i64 0) := hb5.cell (by simp [go_sem, qr_2])
  have vr_2 : w5.frozen? ⟨w.heap.size + 1, 2, none⟩ = false := hb5.frozen (v := .int .i64 0) (by simp [go_sem, qr_2]) (by simp [go_sem, zr_2])
  have pr_3 : w5.cell? ⟨w.heap.size + 1, 3, none⟩ = some (.int .i64 0) := hb5.cell (by simp [go_sem, qr_3])
  have vr_3 : w5.frozen? ⟨w.heap.size + 1, 3, none⟩ = false := hb5.frozen (v := .int .i64 0) (by simp [go_sem, qr_3]) (by simp [go_sem, zr_3])
  have pr_4 : w5.cell? ⟨w.heap.size + 1, 4, none⟩ = some (.int .i64 0) := hb5.cell (by simp [go_sem, qr_4])
  have vr_4 : w5.frozen? ⟨w.heap.size + 1, 4, none⟩ = false := hb5.frozen (v := .int .i64 0) (by simp [go_sem, qr_4]) (by simp [go_sem, zr_4])
  have pr_5 : w5.cell? ⟨w.heap.size + 1, 5, none⟩ = some (.int .i64 0) := hb5.cell (by simp [go_sem, qr_5])
  have vr_5 : w5.frozen? ⟨w.heap.size + 1, 5, none⟩ = false := hb5.frozen (v := .int .i64 0) (by simp [go_sem, qr_5]) (by simp [go_sem, zr_5])
  have pr_6 : w5.cell? ⟨w.heap.size + 1, 6, none⟩ = some (.int .u64 0) := hb5.cell (by simp [go_sem, qr_6])
  have vr_6 : w5.frozen? ⟨w.heap.size + 1, 6, none⟩ = false := hb5.frozen (v := .int .u64 0) (by simp [go_sem, qr_6]) (by simp [go_sem, zr_6])
  have pr_7 : w5.cell? ⟨w.heap.size + 1, 7, none⟩ = some (.int .u64 0) := hb5.cell (by simp [go_sem, qr_7])
  have vr_7 : w5.frozen? ⟨w.heap.size + 1, 7, none⟩ = false := hb5.frozen (v := .int .u64 0) (by simp [go_sem, qr_7]) (by simp [go_sem, zr_7])
  have pr_8 : w5.cell? ⟨w.heap.size + 1, 8, none⟩ = some (.int .u64 0) := hb5.cell (by simp [go_sem, qr_8])
  have vr_8 : w5.frozen? ⟨w.heap.size + 1, 8, none⟩ = false := hb5.frozen (v := .int .u64 0) (by simp [go_sem, qr_8]) (by simp [go_sem, zr_8])
  have pr_9 : w5.cell? ⟨w.heap.size + 1, 9, none⟩ = some (.int .u64 0) := hb5.cell (by simp [go_sem, qr_9])
  have vr_9 : w5.frozen? ⟨w.heap.size + 1, 9, none⟩ = false := hb5.frozen (v := .int .u64 0) (by simp [go_sem, qr_9]) (by simp [go_sem, zr_9])
  have pr_10 : w5.cell? ⟨w.heap.size + 1, 10, none⟩ = some (.slice none 0 0) := hb5.cell (by simp [go_sem, qr_10])
  have vr_10 : w5.frozen? ⟨w.heap.size + 1, 10, none⟩ = false := hb5.frozen (v := .slice none 0 0) (by simp [go_sem, qr_10]) (by simp [go_sem, zr_10])
  clear hb5 qa_0 za_0 qa_1 za_1 qa_2 za_2 qa_3 za_3 qa_4 za_4 qa_5 za_5 qa_6 za_6 qa_7 za_7 qa_8 za_8 qa_9 za_9 qa_10 za_10 qr_0 zr_0 qr_1 zr_1 qr_2 zr_2 qr_3 zr_3 qr_4 zr_4 qr_5 zr_5 qr_6 zr_6 qr_7 zr_7 qr_8 zr_8 qr_9 zr_9 qr_10 zr_10
  go_wp2
  refine bodyPost_ret (v := .tuple #[(.agg #[.int .i64 0, .int .i64 tn, .int .i64 0, .int .i64 tp, .int .i64 0, .int .i64 0, .int .u64 tf, .int .u64 x, .int .u64 tv, .int .u64 0, .slice none 0 0]), .bool true]) (by simp [results, Tryz.results59, go_sem, pr_0, pr_1, pr_2, pr_3, pr_4, pr_5, pr_6, pr_7, pr_8, pr_9, pr_10, pa_0, pa_1, pa_2, pa_3, pa_4, pa_5, pa_6, pa_7, pa_8, pa_9, pa_10]) rfl (HG.out _ ?mid)
  case mid => repeat (first | with_reducible exact HM2.out | refine RMid.set ?_ (by simp) (by simp) _)
set_option maxRecDepth 100000 in
theorem rScan32_zc (b : Nat) (r : RY) (f : Nat → Int) (lv : Value) (log : List Acc) (t : Int) (v : Value) (xs : List Int) (I c : Nat) (tn tp tf M tv : Int) (w : World) (h : RB w b r f lv log) (hW : r.W = 32) (hv : IntsV w v xs) (hI : I < xs.length) (hx : xs.getD I 0 = c) (hk : isK r (c : Int) 1 = true) (hc : c < r.m) (hl : log.length ≤ 1000) (hn : xs.length ≤ 1000) (f0 : 0 ≤ f c) (hM : 0 ≤ M) (h0 : I = 0) (h2 : I + 1 < xs.length) :
    Calls Tryz.prog 59 #[.pointer (some ⟨b, 0, none⟩), .int .i64 t, v, (.agg #[.int .i64 0, .int .i64 tn, .int .i64 0, .int .i64 tp, .int .i64 I, .int .i64 0, .int .u64 tf, .int .u64 M, .int .u64 tv, .int .u64 0, .slice none 0 0])] w (RScanDoes b r lv f (log ++ [⟨t, 1, c, f c, f c⟩]) false tn tp ((I : Int) + 1) tf (f c) tv w) := by
  have CA := Lib.hid (fun w' (hx : Ext w w') => rLoad_yes b r f lv log t c w' (h.ext hx) hk hc hl)
  have HG : Hid (∀ w', RMid b r lv f (log ++ [⟨t, 1, c, f c, f c⟩]) w w' → RScanDoes b r lv f (log ++ [⟨t, 1, c, f c, f c⟩]) false tn tp ((I : Int) + 1) tf (f c) tv w (.returned (.tuple #[(.agg #[.int .i64 0, .int .i64 tn, .int .i64 0, .int .i64 tp, .int .i64 ((I : Int) + 1), .int .i64 0, .int .u64 tf, .int .u64 (f c), .int .u64 tv, .int .u64 0, .slice none 0 0]), .bool false])) w') := Lib.hid (fun w' hm => ⟨rfl, hm.does (v := .bool true)⟩)
  have HM := Lib.hid (fun lv' w1 w2 (hx : Ext w w1) hs hR hN hA => rmid_of (f' := f) (lv' := lv') (log' := (log ++ [⟨t, 1, c, f c, f c⟩])) (w1 := w1) (w2 := w2) h hx hs hR hN hA)
  generalize RScanDoes b r lv f (log ++ [⟨t, 1, c, f c, f c⟩]) false tn tp ((I : Int) + 1) tf (f c) tv w = G at *
  obtain ⟨va, vc, ev, hf⟩ := hv.form
  subst ev
  obtain ⟨vb, vo, ea, cv⟩ := hf I hI
  subst ea
  rw [hx] at cv
  generalize hxx : f c = x at *
  have hI1 : (I : Int) < (xs.length : Int) := by omega
  have hI0 : (0 : Int) ≤ (I : Int) := by omega
  have d0 : ((I : Int) == 0) = true := by simp [h0]
  have d2 : ((I : Int) + 1 == (xs.length : Int)) = false := by simp; omega
  have hwr : IntKind.i64.wrap ((I : Int) + 1) = (I : Int) + 1 := wrapS (by omega) (by omega)
  have hlt := fun k (hk : Own b r.gh lv k) => h.lt hk
  generalize xs.length = n at *
  clear h hv hf hI hx hk hl hn h0 h2
  go_enter Tryz.func59, Tryz.ntmps59
  go_upto_region 1 with (fail)
  refine settle_wp ?_
  intro w1 hb1
  have qa_0 : w1.cell? ⟨w.heap.size, 0, none⟩ = some (.int .i64 0) := (hb1.cells.1 _ _ (by simp <;> omega)).trans (by simp [go_sem])
  have za_0 : w1.frozen? ⟨w.heap.size, 0, none⟩ = false := (hb1.cells.2 _ _ (by simp <;> omega)).trans (by simp [go_sem])
  have qa_1 : w1.cell? ⟨w.heap.size, 1, none⟩ = some (.int .i64 tn) := (hb1.cells.1 _ _ (by simp <;> omega)).trans (by simp [go_sem])
  have za_1 : w1.frozen? ⟨w.heap.size, 1, none⟩ = false := (hb1.cells.2 _ _ (by simp <;> omega)).trans (by simp [go_sem])
  have qa_2 : w1.cell? ⟨w.heap.size, 2, none⟩ = some (.int .i64 0) := (hb1.cells.1 _ _ (by simp <;> omega)).trans (by simp [go_sem])
  have za_2 : w1.frozen? ⟨w.heap.size, 2, none⟩ = false := (hb1.cells.2 _ _ (by simp <;> omega)).trans (by simp [go_sem])
  have qa_3 : w1.cell? ⟨w.heap.size, 3, none⟩ = some (.int .i64 tp) := (hb1.cells.1 _ _ (by simp <;> omega)).trans (by simp [go_sem])
  have za_3 : w1.frozen? ⟨w.heap.size, 3, none⟩ = false := (hb1.cells.2 _ _ (by simp <;> omega)).trans (by simp [go_sem])
  have qa_4 : w1.cell? ⟨w.heap.size, 4, none⟩ = some (.int .i64 I) := (hb1.cells.1 _ _ (by simp <;> omega)).trans (by simp [go_sem])
  have za_4 : w1.frozen? ⟨w.heap.size, 4, none⟩ = false := (hb1.cells.2 _ _ (by simp <;> omega)).trans (by simp [go_sem])
  have qa_5 : w1.cell? ⟨w.heap.size, 5, none⟩ = some (.int .i64 0) := (hb1.cells.1 _ _ (by simp <;> omega)).trans (by simp [go_sem])
  have za_5 : w1.frozen? ⟨w.heap.size, 5, none⟩ = false := (hb1.cells.2 _ _ (by simp <;> omega)).trans (by simp [go_sem])
  have qa_6 : w1.cell? ⟨w.heap.size, 6, none⟩ = some (.int .u64 tf) := (hb1.cells.1 _ _ (by simp <;> omega)).trans (by simp [go_sem])
  have za_6 : w1.frozen? ⟨w.heap.size, 6, none⟩ = false := (hb1.cells.2 _ _ (by simp <;> omega)).trans (by simp [go_sem])
  have qa_7 : w1.cell? ⟨w.heap.size, 7, none⟩ = some (.int .u64 M) := (hb1.cells.1 _ _ (by simp <;> omega)).trans (by simp [go_sem])
  have za_7 : w1.frozen? ⟨w.heap.size, 7, none⟩ = false := (hb1.cells.2 _ _ (by simp <;> omega)).trans (by simp [go_sem])
  have qa_8 : w1.cell? ⟨w.heap.size, 8, none⟩ = some (.int .u64 tv) := (hb1.cells.1 _ _ (by simp <;> omega)).trans (by simp [go_sem])
  have za_8 : w1.frozen? ⟨w.heap.size, 8, none⟩ = false := (hb1.cells.2 _ _ (by simp <;> omega)).trans (by simp [go_sem])
  have qa_9 : w1.cell? ⟨w.heap.size, 9, none⟩ = some (.int .u64 0) := (hb1.cells.1 _ _ (by simp <;> omega)).trans (by simp [go_sem])
  have za_9 : w1.frozen? ⟨w.heap.size, 9, none⟩ = false := (hb1.cells.2 _ _ (by simp <;> omega)).trans (by simp [go_sem])
  have qa_10 : w1.cell? ⟨w.heap.size, 10, none⟩ = some (.slice none 0 0) := (hb1.cells.1 _ _ (by simp <;> omega)).trans (by simp [go_sem])
  have za_10 : w1.frozen? ⟨w.heap.size, 10, none⟩ = false := (hb1.cells.2 _ _ (by simp <;> omega)).trans (by simp [go_sem])
  have pa := World.block_lt_of_cell? _ ⟨w.heap.size, 0, none⟩ qa_0
  have ra := Nat.lt_succ_of_lt pa
  have qr_0 : w1.cell? ⟨(w.heap.size + 1), 0, none⟩ = some (.int .i64 0) := (hb1.cells.1 _ _ (by simp <;> omega)).trans (by simp [go_sem])
  have zr_0 : w1.frozen? ⟨(w.heap.size + 1), 0, none⟩ = false := (hb1.cells.2 _ _ (by simp <;> omega)).trans (by simp [go_sem])
  have qr_1 : w1.cell? ⟨(w.heap.size + 1), 1, none⟩ = some (.int .i64 0) := (hb1.cells.1 _ _ (by simp <;> omega)).trans (by simp [go_sem])
  have zr_1 : w1.frozen? ⟨(w.heap.size + 1), 1, none⟩ = false := (hb1.cells.2 _ _ (by simp <;> omega)).trans (by simp [go_sem])
  have qr_2 : w1.cell? ⟨(w.heap.size + 1), 2, none⟩ = some (.int .i64 0) := (hb1.cells.1 _ _ (by simp <;> omega)).trans (by simp [go_sem])
  have zr_2 : w1.frozen? ⟨(w.heap.size + 1), 2, none⟩ = false := (hb1.cells.2 _ _ (by simp <;> omega)).trans (by simp [go_sem])
  have qr_3 : w1.cell? ⟨(w.heap.size + 1), 3, none⟩ = some (.int .i64 0) := (hb1.cells.1 _ _ (by simp <;> omega)).trans (by simp [go_sem])
  have zr_3 : w1.frozen? ⟨(w.heap.size + 1), 3, none⟩ = false := (hb1.cells.2 _ _ (by simp <;> omega)).trans (by simp [go_sem])
  have qr_4 : w1.cell? ⟨(w.heap.size + 1), 4, none⟩ = some (.int .i64 0) := (hb1.cells.1 _ _ (by simp <;> omega)).trans (by simp [go_sem])
  have zr_4 : w1.frozen? ⟨(w.heap.size + 1), 4, none⟩ = false := (hb1.cells.2 _ _ (by simp <;> omega)).trans (by simp [go_sem])
  have qr_5 : w1.cell? ⟨(w.heap.size + 1), 5, none⟩ = some (.int .i64 0) := (hb1.cells.1 _ _ (by simp <;> omega)).trans (by simp [go_sem])
  have zr_5 : w1.frozen? ⟨(w.heap.size + 1), 5, none⟩ = false := (hb1.cells.2 _ _ (by simp <;> omega)).trans (by simp [go_sem])
  have qr_6 : w1.cell? ⟨(w.heap.size + 1), 6, none⟩ = some (.int .u64 0) := (hb1.cells.1 _ _ (by simp <;> omega)).trans (by simp [go_sem])
  have zr_6 : w1.frozen? ⟨(w.heap.size + 1), 6, none⟩ = false := (hb1.cells.2 _ _ (by simp <;> omega)).trans (by simp [go_sem])
  have qr_7 : w1.cell? ⟨(w.heap.size + 1), 7, none⟩ = some (.int .u64 0) := (hb1.cells.1 _ _ (by simp <;> omega)).trans (by simp [go_sem])
  have zr_7 : w1.frozen? ⟨(w.heap.size + 1), 7, none⟩ = false := (hb1.cells.2 _ _ (by simp <;> omega)).trans (by simp [go_sem])
  have qr_8 : w1.cell? ⟨(w.heap.size + 1), 8, none⟩ = some (.int .u64 0) := (hb1.cells.1 _ _ (by simp <;> omega)).trans (by simp [go_sem])
  have zr_8 : w1.frozen? ⟨(w.heap.size + 1), 8, none⟩ = false := (hb1.cells.2 _ _ (by simp <;> omega)).trans (by simp [go_sem])
  have qr_9 : w1.cell? ⟨(w.heap.size + 1), 9, none⟩ = some (.int .u64 0) := (hb1.cells.1 _ _ (by simp <;> omega)).trans (by simp [go_sem])
  have zr_9 : w1.frozen? ⟨(w.heap.size + 1), 9, none⟩ = false := (hb1.cells.2 _ _ (by simp <;> omega)).trans (by simp [go_sem])
  have qr_10 : w1.cell? ⟨(w.heap.size + 1), 10, none⟩ = some (.slice none 0 0) := (hb1.cells.1 _ _ (by simp <;> omega)).trans (by simp [go_sem])
  have zr_10 : w1.frozen? ⟨(w.heap.size + 1), 10, none⟩ = false := (hb1.cells.2 _ _ (by simp <;> omega)).trans (by simp [go_sem])
  have pr := World.block_lt_of_cell? _ ⟨(w.heap.size + 1), 0, none⟩ qr_0
  have rr := Nat.lt_succ_of_lt pr
  have XE : Ext w w1 := Ext.trans (Ext.alloc (Ext.alloc (Ext.refl w) _) _) hb1
  have hs1 : w.heap.size + 2 ≤ w1.heap.size := by have h1 := hb1.size; simp at h1; omega
  have na : ¬ Own b r.gh lv w.heap.size := fun hk => by have := hlt _ hk; omega
  have nr : ¬ Own b r.gh lv (w.heap.size + 1) := fun hk => by have := hlt _ hk; omega
  replace cv := XE.cell cv
  clear hb1
  go_wp2_with fail
  refine (CA.out _ XE).mono ?_
  rintro e w2 ⟨rfl, lv2, R2, N2, A2⟩
  have HM2 := Lib.hid (HM.out lv2 _ w2 XE hs1 R2 N2 A2)
  have qW := R2.q1
  rw [hW] at qW
  replace za_0 := N2.frozen qa_0 za_0 na
  replace qa_0 := N2.cell qa_0 na
  replace za_1 := N2.frozen qa_1 za_1 na
  replace qa_1 := N2.cell qa_1 na
  replace za_2 := N2.frozen qa_2 za_2 na
  replace qa_2 := N2.cell qa_2 na
  replace za_3 := N2.frozen qa_3 za_3 na
  replace qa_3 := N2.cell qa_3 na
  replace za_4 := N2.frozen qa_4 za_4 na
  replace qa_4 := N2.cell qa_4 na
  replace za_5 := N2.frozen qa_5 za_5 na
  replace qa_5 := N2.cell qa_5 na
  replace za_6 := N2.frozen qa_6 za_6 na
  replace qa_6 := N2.cell qa_6 na
  replace za_7 := N2.frozen qa_7 za_7 na
  replace qa_7 := N2.cell qa_7 na
  replace za_8 := N2.frozen qa_8 za_8 na
  replace qa_8 := N2.cell qa_8 na
  replace za_9 := N2.frozen qa_9 za_9 na
  replace qa_9 := N2.cell qa_9 na
  replace za_10 := N2.frozen qa_10 za_10 na
  replace qa_10 := N2.cell qa_10 na
  replace zr_0 := N2.frozen qr_0 zr_0 nr
  replace qr_0 := N2.cell qr_0 nr
  replace zr_1 := N2.frozen qr_1 zr_1 nr
  replace qr_1 := N2.cell qr_1 nr
  replace zr_2 := N2.frozen qr_2 zr_2 nr
  replace qr_2 := N2.cell qr_2 nr
  replace zr_3 := N2.frozen qr_3 zr_3 nr
  replace qr_3 := N2.cell qr_3 nr
  replace zr_4 := N2.frozen qr_4 zr_4 nr
  replace qr_4 := N2.cell qr_4 nr
  replace zr_5 := N2.frozen qr_5 zr_5 nr
  replace qr_5 := N2.cell qr_5 nr
  replace zr_6 := N2.frozen qr_6 zr_6 nr
  replace qr_6 := N2.cell qr_6 nr
  replace zr_7 := N2.frozen qr_7 zr_7 nr
  replace qr_7 := N2.cell qr_7 nr
  replace zr_8 := N2.frozen qr_8 zr_8 nr
  replace qr_8 := N2.cell qr_8 nr
  replace zr_9 := N2.frozen qr_9 zr_9 nr
  replace qr_9 := N2.cell qr_9 nr
  replace zr_10 := N2.frozen qr_10 zr_10 nr
  replace qr_10 := N2.cell qr_10 nr
  clear R2 N2 A2 XE cv
  go_upto_region 5 with (fail)
  have k4 := fun w' (hx : Ext w2 w') => hx.cell qa_4
  have k7 := fun w' (hx : Ext w2 w') => hx.cell qa_7
  have kW := fun w' (hx : Ext w2 w') => hx.cell qW
  refine wp_region_held_drew (S := fun w' => Ext w2 w') (by kernel_rfl) ?hbeg (fun hHeld => ?_)
  case hbeg => exact (Ext.refl w2).drew
  have hHeld0 : Ext w2 w2 := by first | exact Ext.refl _ | assumption
  first
    | (refine take_at (i := 0) (v := ?_) rfl rfl (by kernel_rfl) (by kernel_rfl) (by kernel_rfl) (fun _ _ _ h => h) (Or.inl ⟨by rfl, ?hy⟩) (by assumption) ?_
       case hy => (intro wz hSw; (try dsimp only at hSw); go_simp <;> with_reducible rfl)
       simp only [List.setIfInBounds_toArray, List.set_cons_zero, List.set_cons_succ])
    | (refine take_at (i := 0) (v := undef) rfl rfl (by kernel_rfl) (by kernel_rfl) (by kernel_rfl) (fun _ _ _ h => h) (Or.inr ⟨by rfl, rfl⟩) (by assumption) ?_
       simp only [List.setIfInBounds_toArray, List.set_cons_zero, List.set_cons_succ])
  first
    | (refine take_at (i := 1) (v := ?_) rfl rfl (by kernel_rfl) (by kernel_rfl) (by kernel_rfl) (fun _ _ _ h => h) (Or.inl ⟨by rfl, ?hy⟩) (by assumption) ?_
       case hy => (intro wz hSw; (try dsimp only at hSw); go_simp <;> with_reducible rfl)
       simp only [List.setIfInBounds_toArray, List.set_cons_zero, List.set_cons_succ])
    | (refine take_at (i := 1) (v := undef) rfl rfl (by kernel_rfl) (by kernel_rfl) (by kernel_rfl) (fun _ _ _ h => h) (Or.inr ⟨by rfl, rfl⟩) (by assumption) ?_
       simp only [List.setIfInBounds_toArray, List.set_cons_zero, List.set_cons_succ])
  first
    | (refine take_at (i := 2) (v := ?_) rfl rfl (by kernel_rfl) (by kernel_rfl) (by kernel_rfl) (fun _ _ _ h => h) (Or.inl ⟨by rfl, ?hy⟩) (by assumption) ?_
       case hy => (intro wz hSw; (try dsimp only at hSw); go_simp <;> with_reducible rfl)
       simp only [List.setIfInBounds_toArray, List.set_cons_zero, List.set_cons_succ])
    | (refine take_at (i := 2) (v := undef) rfl rfl (by kernel_rfl) (by kernel_rfl) (by kernel_rfl) (fun _ _ _ h => h) (Or.inr ⟨by rfl, rfl⟩) (by assumption) ?_
       simp only [List.setIfInBounds_toArray, List.set_cons_zero, List.set_cons_succ])
  first
    | (refine take_at (i := 3) (v := ?_) rfl rfl (by kernel_rfl) (by kernel_rfl) (by kernel_rfl) (fun _ _ _ h => h) (Or.inl ⟨by rfl, ?hy⟩) (by assumption) ?_
       case hy => (intro wz hSw; (try dsimp only at hSw); go_simp <;> with_reducible rfl)
       simp only [List.setIfInBounds_toArray, List.set_cons_zero, List.set_cons_succ])
    | (refine take_at (i := 3) (v := undef) rfl rfl (by kernel_rfl) (by kernel_rfl) (by kernel_rfl) (fun _ _ _ h => h) (Or.inr ⟨by rfl, rfl⟩) (by assumption) ?_
       simp only [List.setIfInBounds_toArray, List.set_cons_zero, List.set_cons_succ])
  first
    | (refine take_at (i := 4) (v := ?_) rfl rfl (by kernel_rfl) (by kernel_rfl) (by kernel_rfl) (fun _ _ _ h => h) (Or.inl ⟨by rfl, ?hy⟩) (by assumption) ?_
       case hy => (intro wz hSw; (try dsimp only at hSw); go_simp <;> with_reducible rfl)
       simp only [List.setIfInBounds_toArray, List.set_cons_zero, List.set_cons_succ])
    | (refine take_at (i := 4) (v := undef) rfl rfl (by kernel_rfl) (by kernel_rfl) (by kernel_rfl) (fun _ _ _ h => h) (Or.inr ⟨by rfl, rfl⟩) (by assumption) ?_
       simp only [List.setIfInBounds_toArray, List.set_cons_zero, List.set_cons_succ])
  first
    | (refine take_at (i := 5) (v := ?_) rfl rfl (by kernel_rfl) (by kernel_rfl) (by kernel_rfl) (fun _ _ _ h => h) (Or.inl ⟨by rfl, ?hy⟩) (by assumption) ?_
       case hy => (intro wz hSw; (try dsimp only at hSw); go_simp <;> with_reducible rfl)
       simp only [List.setIfInBounds_toArray, List.set_cons_zero, List.set_cons_succ])
    | (refine take_at (i := 5) (v := undef) rfl rfl (by kernel_rfl) (by kernel_rfl) (by kernel_rfl) (fun _ _ _ h => h) (Or.inr ⟨by rfl, rfl⟩) (by assumption) ?_
       simp only [List.setIfInBounds_toArray, List.set_cons_zero, List.set_cons_succ])
  first
    | (refine take_at (i := 6) (v := ?_) rfl rfl (by kernel_rfl) (by kernel_rfl) (by kernel_rfl) (fun _ _ _ h => h) (Or.inl ⟨by rfl, ?hy⟩) (by assumption) ?_
       case hy => (intro wz hSw; (try dsimp only at hSw); go_simp <;> with_reducible rfl)
       simp only [List.setIfInBounds_toArray, List.set_cons_zero, List.set_cons_succ])
    | (refine take_at (i := 6) (v := undef) rfl rfl (by kernel_rfl) (by kernel_rfl) (by kernel_rfl) (fun _ _ _ h => h) (Or.inr ⟨by rfl, rfl⟩) (by assumption) ?_
       simp only [List.setIfInBounds_toArray, List.set_cons_zero, List.set_cons_succ])
  first
    | (refine take_at (i := 7) (v := ?_) rfl rfl (by kernel_rfl) (by kernel_rfl) (by kernel_rfl) (fun _ _ _ h => h) (Or.inl ⟨by rfl, ?hy⟩) (by assumption) ?_
       case hy => (intro wz hSw; (try dsimp only at hSw); go_simp <;> with_reducible rfl)
       simp only [List.setIfInBounds_toArray, List.set_cons_zero, List.set_cons_succ])
    | (refine take_at (i := 7) (v := undef) rfl rfl (by kernel_rfl) (by kernel_rfl) (by kernel_rfl) (fun _ _ _ h => h) (Or.inr ⟨by rfl, rfl⟩) (by assumption) ?_
       simp only [List.setIfInBounds_toArray, List.set_cons_zero, List.set_cons_succ])
  first
    | (refine take_at (i := 8) (v := ?_) rfl rfl (by kernel_rfl) (by kernel_rfl) (by kernel_rfl) (fun _ _ _ h => h) (Or.inl ⟨by rfl, ?hy⟩) (by assumption) ?_
       case hy => (intro wz hSw; (try dsimp only at hSw); go_simp <;> with_reducible rfl)
       simp only [List.setIfInBounds_toArray, List.set_cons_zero, List.set_cons_succ])
    | (refine take_at (i := 8) (v := undef) rfl rfl (by kernel_rfl) (by kernel_rfl) (by kernel_rfl) (fun _ _ _ h => h) (Or.inr ⟨by rfl, rfl⟩) (by assumption) ?_
       simp only [List.setIfInBounds_toArray, List.set_cons_zero, List.set_cons_succ])
  first
    | (refine take_at (i := 9) (v := ?_) rfl rfl (by kernel_rfl) (by kernel_rfl) (by kernel_rfl) (fun _ _ _ h => h) (Or.inl ⟨by rfl, ?hy⟩) (by assumption) ?_
       case hy => (intro wz hSw; (try dsimp only at hSw); go_simp <;> with_reducible rfl)
       simp only [List.setIfInBounds_toArray, List.set_cons_zero, List.set_cons_succ])
    | (refine take_at (i := 9) (v := undef) rfl rfl (by kernel_rfl) (by kernel_rfl) (by kernel_rfl) (fun _ _ _ h => h) (Or.inr ⟨by rfl, rfl⟩) (by assumption) ?_
       simp only [List.setIfInBounds_toArray, List.set_cons_zero, List.set_cons_succ])
  first
    | (refine take_at (i := 10) (v := ?_) rfl rfl (by kernel_rfl) (by kernel_rfl) (by kernel_rfl) (fun _ _ _ h => h) (Or.inl ⟨by rfl, ?hy⟩) (by assumption) ?_
       case hy => (intro wz hSw; (try dsimp only at hSw); go_simp <;> with_reducible rfl)
       simp only [List.setIfInBounds_toArray, List.set_cons_zero, List.set_cons_succ])
    | (refine take_at (i := 10) (v := undef) rfl rfl (by kernel_rfl) (by kernel_rfl) (by kernel_rfl) (fun _ _ _ h => h) (Or.inr ⟨by rfl, rfl⟩) (by assumption) ?_
       simp only [List.setIfInBounds_toArray, List.set_cons_zero, List.set_cons_succ])
  first
    | (refine take_at (i := 11) (v := ?_) rfl rfl (by kernel_rfl) (by kernel_rfl) (by kernel_rfl) (fun _ _ _ h => h) (Or.inl ⟨by rfl, ?hy⟩) (by assumption) ?_
       case hy => (intro wz hSw; (try dsimp only at hSw); go_simp <;> with_reducible rfl)
       simp only [List.setIfInBounds_toArray, List.set_cons_zero, List.set_cons_succ])
    | (refine take_at (i := 11) (v := undef) rfl rfl (by kernel_rfl) (by kernel_rfl) (by kernel_rfl) (fun _ _ _ h => h) (Or.inr ⟨by rfl, rfl⟩) (by assumption) ?_
       simp only [List.setIfInBounds_toArray, List.set_cons_zero, List.set_cons_succ])
  first
    | (refine take_at (i := 12) (v := ?_) rfl rfl (by kernel_rfl) (by kernel_rfl) (by kernel_rfl) (fun _ _ _ h => h) (Or.inl ⟨by rfl, ?hy⟩) (by assumption) ?_
       case hy => (intro wz hSw; (try dsimp only at hSw); go_simp <;> with_reducible rfl)
       simp only [List.setIfInBounds_toArray, List.set_cons_zero, List.set_cons_succ])
    | (refine take_at (i := 12) (v := undef) rfl rfl (by kernel_rfl) (by kernel_rfl) (by kernel_rfl) (fun _ _ _ h => h) (Or.inr ⟨by rfl, rfl⟩) (by assumption) ?_
       simp only [List.setIfInBounds_toArray, List.set_cons_zero, List.set_cons_succ])
  first
    | (refine take_at (i := 13) (v := ?_) rfl rfl (by kernel_rfl) (by kernel_rfl) (by kernel_rfl) (fun _ _ _ h => h) (Or.inl ⟨by rfl, ?hy⟩) (by assumption) ?_
       case hy => (intro wz hSw; (try dsimp only at hSw); go_simp <;> with_reducible rfl)
       simp only [List.setIfInBounds_toArray, List.set_cons_zero, List.set_cons_succ])
    | (refine take_at (i := 13) (v := undef) rfl rfl (by kernel_rfl) (by kernel_rfl) (by kernel_rfl) (fun _ _ _ h => h) (Or.inr ⟨by rfl, rfl⟩) (by assumption) ?_
       simp only [List.setIfInBounds_toArray, List.set_cons_zero, List.set_cons_succ])
  first
    | (refine take_at (i := 14) (v := ?_) rfl rfl (by kernel_rfl) (by kernel_rfl) (by kernel_rfl) (fun _ _ _ h => h) (Or.inl ⟨by rfl, ?hy⟩) (by assumption) ?_
       case hy => (intro wz hSw; (try dsimp only at hSw); go_simp <;> with_reducible rfl)
       simp only [List.setIfInBounds_toArray, List.set_cons_zero, List.set_cons_succ])
    | (refine take_at (i := 14) (v := undef) rfl rfl (by kernel_rfl) (by kernel_rfl) (by kernel_rfl) (fun _ _ _ h => h) (Or.inr ⟨by rfl, rfl⟩) (by assumption) ?_
       simp only [List.setIfInBounds_toArray, List.set_cons_zero, List.set_cons_succ])
  refine wpAnyH_done (by kernel_rfl) ?_ _
  go_upto_region 6 with (fail)
  refine settle_wp ?_
  intro w3 hb3
  have hH := Ext.trans hHeld hb3
  replace HM2 := Lib.hid (HM2.out.ext hH)
  replace za_0 := hH.frozen qa_0 za_0
  replace qa_0 := hH.cell qa_0
  replace za_1 := hH.frozen qa_1 za_1
  replace qa_1 := hH.cell qa_1
  replace za_2 := hH.frozen qa_2 za_2
  replace qa_2 := hH.cell qa_2
  replace za_3 := hH.frozen qa_3 za_3
  replace qa_3 := hH.cell qa_3
  replace za_4 := hH.frozen qa_4 za_4
  replace qa_4 := hH.cell qa_4
  replace za_5 := hH.frozen qa_5 za_5
  replace qa_5 := hH.cell qa_5
  replace za_6 := hH.frozen qa_6 za_6
  replace qa_6 := hH.cell qa_6
  replace za_7 := hH.frozen qa_7 za_7
  replace qa_7 := hH.cell qa_7
  replace za_8 := hH.frozen qa_8 za_8
  replace qa_8 := hH.cell qa_8
  replace za_9 := hH.frozen qa_9 za_9
  replace qa_9 := hH.cell qa_9
  replace za_10 := hH.frozen qa_10 za_10
  replace qa_10 := hH.cell qa_10
  replace zr_0 := hH.frozen qr_0 zr_0
  replace qr_0 := hH.cell qr_0
  replace zr_1 := hH.frozen qr_1 zr_1
  replace qr_1 := hH.cell qr_1
  replace zr_2 := hH.frozen qr_2 zr_2
  replace qr_2 := hH.cell qr_2
  replace zr_3 := hH.frozen qr_3 zr_3
  replace qr_3 := hH.cell qr_3
  replace zr_4 := hH.frozen qr_4 zr_4
  replace qr_4 := hH.cell qr_4
  replace zr_5 := hH.frozen qr_5 zr_5
  replace qr_5 := hH.cell qr_5
  replace zr_6 := hH.frozen qr_6 zr_6
  replace qr_6 := hH.cell qr_6
  replace zr_7 := hH.frozen qr_7 zr_7
  replace qr_7 := hH.cell qr_7
  replace zr_8 := hH.frozen qr_8 zr_8
  replace qr_8 := hH.cell qr_8
  replace zr_9 := hH.frozen qr_9 zr_9
  replace qr_9 := hH.cell qr_9
  replace zr_10 := hH.frozen qr_10 zr_10
  replace qr_10 := hH.cell qr_10
  clear k4 k7 kW qW hHeld hH hb3
  go_upto_region 11 with (fail)
  refine settle_wp ?_
  intro w5 hb5
  replace HM2 := Lib.hid (((HM2.out.set (p := ⟨w.heap.size, 7, none⟩) (by simp) (by simp) (.int .u64 x)).set (p := ⟨w.heap.size, 4, none⟩) (by simp) (by simp) (.int .i64 ((I : Int) + 1))).ext hb5)
  have pa_0 : w5.cell? ⟨w.heap.size, 0, none⟩ = some (.int .i64 0) := hb5.cell (by simp (maxDischargeDepth := 40) [go_sem, set_some, set_same, qa_0])
  have pa_1 : w5.cell? ⟨w.heap.size, 1, none⟩ = some (.int .i64 tn) := hb5.cell (by simp (maxDischargeDepth := 40) [go_sem, set_some, set_same, qa_1])
  have pa_2 : w5.cell? ⟨w.heap.size, 2, none⟩ = some (.int .i64 0) := hb5.cell (by simp (maxDischargeDepth := 40) [go_sem, set_some, set_same, qa_2])
  have pa_3 : w5.cell? ⟨w.heap.size, 3, none⟩ = some (.int .i64 tp) := hb5.cell (by simp (maxDischargeDepth := 40) [go_sem, set_some, set_same, qa_3])
  have pa_4 : w5.cell? ⟨w.heap.size, 4, none⟩ = some (.int .i64 ((I : Int) + 1)) := hb5.cell (by simp (maxDischargeDepth := 40) [go_sem, set_some, set_same, qa_4])
  have pa_5 : w5.cell? ⟨w.heap.size, 5, none⟩ = some (.int .i64 0) := hb5.cell (by simp (maxDischargeDepth := 40) [go_sem, set_some, set_same, qa_5])
  have pa_6 : w5.cell? ⟨w.heap.size, 6, none⟩ = some (.int .u64 tf) := hb5.cell (by simp (maxDischargeDepth := 40) [go_sem, set_some, set_same, qa_6])
  have pa_7 : w5.cell? ⟨w.heap.size, 7, none⟩ = some (.int .u64 x) := hb5.cell (by simp (maxDischargeDepth := 40) [go_sem, set_some, set_same, qa_7])
  have pa_8 : w5.cell? ⟨w.heap.size, 8, none⟩ = some (.int .u64 tv) := hb5.cell (by simp (maxDischargeDepth := 40) [go_sem, set_some, set_same, qa_8])
  have pa_9 : w5.cell? ⟨w.heap.size, 9, none⟩ = some (.int .u64 0) := hb5.cell (by simp (maxDischargeDepth := 40) [go_sem, set_some, set_same, qa_9])
  have pa_10 : w5.cell? ⟨w.heap.size, 10, none⟩ = some (.slice none 0 0) := hb5.cell (by simp (maxDischargeDepth := 40) [go_sem, set_some, set_same, qa_10])
  have pr_0 : w5.cell? ⟨w.heap.size + 1, 0, none⟩ = some (.int .i64 0) := hb5.cell (by simp [go_sem, qr_0])
  have vr_0 : w5.frozen? ⟨w.heap.size + 1, 0, none⟩ = false := hb5.frozen (v := .int .i64 0) (by simp [go_sem, qr_0]) (by simp [go_sem, zr_0])
  have pr_1 : w5.cell? ⟨w.heap.size + 1, 1, none⟩ = some (.int .i64 0) := hb5.cell (by simp [go_sem, qr_1])
  have vr_1 : w5.frozen? ⟨w.heap.size + 1, 1, none⟩ = false := hb5.frozen (v := .int .i64 0) (by simp [go_sem, qr_1]) (by simp [go_sem, zr_1])
  have pr_2 : w5.cell? ⟨w.heap.size + 1, 2, none⟩ = some (.int .i64 0) := hb5.cell (by simp [go_sem, qr_2])
  have vr_2 : w5.frozen? ⟨w.heap.size + 1, 2, none⟩ = false := hb5.frozen (v := .int .i64 0) (by simp [go_sem, qr_2]) (by simp [go_sem, zr_2])
  have pr_3 : w5.cell? ⟨w.heap.size + 1, 3, none⟩ = some (.int .i64 0) := hb5.cell (by simp [go_sem, qr_3])
  have vr_3 : w5.frozen? ⟨w.heap.size + 1, 3, none⟩ = false := hb5.frozen (v := .int .i64 0) (by simp [go_sem, qr_3]) (by simp [go_sem, zr_3])
  have pr_4 : w5.cell? ⟨w.heap.size + 1, 4, none⟩ = some (.int .i64 0) := hb5.cell (by simp [go_sem, qr_4])
  have vr_4 : w5.frozen? ⟨w.heap.size + 1, 4, none⟩ = false := hb5.frozen (v := .int .i64 0) (by simp [go_sem, qr_4]) (by simp [go_sem, zr_4])
  have pr_5 : w5.cell? ⟨w.heap.size + 1, 5, none⟩ = some (.int .i64 0) := hb5.cell (by simp [go_sem, qr_5])
  have vr_5 : w5.frozen? ⟨w.heap.size + 1, 5, none⟩ = false := hb5.frozen (v := .int .i64 0) (by simp [go_sem, qr_5]) (by simp [go_sem, zr_5])
  have pr_6 : w5.cell? ⟨w.heap.size + 1, 6, none⟩ = some (.int .u64 0) := hb5.cell (by simp [go_sem, qr_6])
  have vr_6 : w5.frozen? ⟨w.heap.size + 1, 6, none⟩ = false := hb5.frozen (v := .int .u64 0) (by simp [go_sem, qr_6]) (by simp [go_sem, zr_6])
  have pr_7 : w5.cell? ⟨w.heap.size + 1, 7, none⟩ = some (.int .u64 0) := hb5.cell (by simp [go_sem, qr_7])
  have vr_7 : w5.frozen? ⟨w.heap.size + 1, 7, none⟩ = false := hb5.frozen (v := .int .u64 0) (by simp [go_sem, qr_7]) (by simp [go_sem, zr_7])
  have pr_8 : w5.cell? ⟨w.heap.size + 1, 8, none⟩ = some (.int .u64 0) := hb5.cell (by simp [go_sem, qr_8])
  have vr_8 : w5.frozen? ⟨w.heap.size + 1, 8, none⟩ = false := hb5.frozen (v := .int .u64 0) (by simp [go_sem, qr_8]) (by simp [go_sem, zr_8])
  have pr_9 : w5.cell? ⟨w.heap.size + 1, 9, none⟩ = some (.int .u64 0) := hb5.cell (by simp [go_sem, qr_9])
  have vr_9 : w5.frozen? ⟨w.heap.size + 1, 9, none⟩ = false := hb5.frozen (v := .int .u64 0) (by simp [go_sem, qr_9]) (by simp [go_sem, zr_9])
  have pr_10 : w5.cell? ⟨w.heap.size + 1, 10, none⟩ = some (.slice none 0 0) := hb5.cell (by simp [go_sem, qr_10])
  have vr_10 : w5.frozen? ⟨w.heap.size + 1, 10, none⟩ = false := hb5.frozen (v := .slice none 0 0) (by simp [go_sem, qr_10]) (by simp [go_sem, zr_10])
  clear hb5 qa_0 za_0 qa_1 za_1 qa_2 za_2 qa_3 za_3 qa_4 za_4 qa_5 za_5 qa_6 za_6 qa_7 za_7 qa_8 za_8 qa_9 za_9 qa_10 za_10 qr_0 zr_0 qr_1 zr_1 qr_2 zr_2 qr_3 zr_3 qr_4 zr_4 qr_5 zr_5 qr_6 zr_6 qr_7 zr_7 qr_8 zr_8 qr_9 zr_9 qr_10 zr_10
  go_wp2
  refine bodyPost_ret (v := .tuple #[(.agg #[.int .i64 0, .int .i64 tn, .int .i64 0, .int .i64 tp, .int .i64 ((I : Int) + 1), .int .i64 0, .int .u64 tf, .int .u64 x, .int .u64 tv, .int .u64 0, .slice none 0 0]), .bool false]) (by simp [results, Tryz.results59, go_sem, pr_0, pr_1, pr_2, pr_3, pr_4, pr_5, pr_6, pr_7, pr_8, pr_9, pr_10, pa_0, pa_1, pa_2, pa_3, pa_4, pa_5, pa_6, pa_7, pa_8, pa_9, pa_10]) rfl (HG.out _ ?mid)
  case mid => repeat (first | with_reducible exact HM2.out | refine RMid.set ?_ (by simp) (by simp) _)
set_option maxRecDepth 100000 in
theorem rScan32_le (b : Nat) (r : RY) (f : Nat → Int) (lv : Value) (log : List Acc) (t : Int) (v : Value) (xs : List Int) (I c : Nat) (tn tp tf M tv : Int) (w : World) (h : RB w b r f lv log) (hW : r.W = 32) (hv : IntsV w v xs) (hI : I < xs.length) (hx : xs.getD I 0 = c) (hk : isK r (c : Int) 1 = true) (hc : c < r.m) (hl : log.length ≤ 1000) (hn : xs.length ≤ 1000) (f0 : 0 ≤ f c) (hM : 0 ≤ M) (h0 : ¬ I = 0) (h1 : D32 (f c - M) < 0) (h2 : I + 1 = xs.length) :
    Calls Tryz.prog 59 #[.pointer (some ⟨b, 0, none⟩), .int .i64 t, v, (.agg #[.int .i64 0, .int .i64 tn, .int .i64 0, .int .i64 tp, .int .i64 I, .int .i64 0, .int .u64 tf, .int .u64 M, .int .u64 tv, .int .u64 0, .slice none 0 0])] w (RScanDoes b r lv f (log ++ [⟨t, 1, c, f c, f c⟩]) true tn tp 0 tf (f c) tv w) := by
  have CA := Lib.hid (fun w' (hx : Ext w w') => rLoad_yes b r f lv log t c w' (h.ext hx) hk hc hl)
  have HG : Hid (∀ w', RMid b r lv f (log ++ [⟨t, 1, c, f c, f c⟩]) w w' → RScanDoes b r lv f (log ++ [⟨t, 1, c, f c, f c⟩]) true tn tp 0 tf (f c) tv w (.returned (.tuple #[(.agg #[.int .i64 0, .int .i64 tn, .int .i64 0, .int .i64 tp, .int .i64 0, .int .i64 0, .int .u64 tf, .int .u64 (f c), .int .u64 tv, .int .u64 0, .slice none 0 0]), .bool true])) w') := Lib.hid (fun w' hm => ⟨rfl, hm.does (v := .bool true)⟩)
  have HM := Lib.hid (fun lv' w1 w2 (hx : Ext w w1) hs hR hN hA => rmid_of (f' := f) (lv' := lv') (log' := (log ++ [⟨t, 1, c, f c, f c⟩])) (w1 := w1) (w2 := w2) h hx hs hR hN hA)
  generalize RScanDoes b r lv f (log ++ [⟨t, 1, c, f c, f c⟩]) true tn tp 0 tf (f c) tv w = G at *
  obtain ⟨va, vc, ev, hf⟩ := hv.form
  subst ev
  obtain ⟨vb, vo, ea, cv⟩ := hf I hI
  subst ea
  rw [hx] at cv
  generalize hxx : f c = x at *
  have hI1 : (I : Int) < (xs.length : Int) := by omega
  have hI0 : (0 : Int) ≤ (I : Int) := by omega
  have d0 : ((I : Int) == 0) = false := by simp; omega
  have d1 : decide (D32 (x - M) < 0) = true := by simpa using h1
  have d2 : ((I : Int) + 1 == (xs.length : Int)) = true := by simp; omega
  have hwr : IntKind.i64.wrap ((I : Int) + 1) = (I : Int) + 1 := wrapS (by omega) (by omega)
  have hlt := fun k (hk : Own b r.gh lv k) => h.lt hk
  generalize xs.length = n at *
  clear h hv hf hI hx hk hl hn h0 h2 h1
  go_enter Tryz.func59, Tryz.ntmps59
  go_upto_region 1 with (fail)
  refine settle_wp ?_
  intro w1 hb1
  have qa_0 : w1.cell? ⟨w.heap.size, 0, none⟩ = some (.int .i64 0) := (hb1.cells.1 _ _ (by simp <;> omega)).trans (by simp [go_sem])
  have za_0 : w1.frozen? ⟨w.heap.size, 0, none⟩ = false := (hb1.cells.2 _ _ (by simp <;> omega)).trans (by simp [go_sem])
  have qa_1 : w1.cell? ⟨w.heap.size, 1, none⟩ = some (.int .i64 tn) := (hb1.cells.1 _ _ (by simp <;> omega)).trans (by simp [go_sem])
  have za_1 : w1.frozen? ⟨w.heap.size, 1, none⟩ = false := (hb1.cells.2 _ _ (by simp <;> omega)).trans (by simp [go_sem])
  have qa_2 : w1.cell? ⟨w.heap.size, 2, none⟩ = some (.int .i64 0) := (hb1.cells.1 _ _ (by simp <;> omega)).trans (by simp [go_sem])
  have za_2 : w1.frozen? ⟨w.heap.size, 2, none⟩ = false := (hb1.cells.2 _ _ (by simp <;> omega)).trans (by simp [go_sem])
  have qa_3 : w1.cell? ⟨w.heap.size, 3, none⟩ = some (.int .i64 tp) := (hb1.cells.1 _ _ (by simp <;> omega)).trans (by simp [go_sem])
  have za_3 : w1.frozen? ⟨w.heap.size, 3, none⟩ = false := (hb1.cells.2 _ _ (by simp <;> omega)).trans (by simp [go_sem])
  have qa_4 : w1.cell? ⟨w.heap.size, 4, none⟩ = some (.int .i64 I) := (hb1.cells.1 _ _ (by simp <;> omega)).trans (by simp [go_sem])
  have za_4 : w1.frozen? ⟨w.heap.size, 4, none⟩ = false := (hb1.cells.2 _ _ (by simp <;> omega)).trans (by simp [go_sem])
  have qa_5 : w1.cell? ⟨w.heap.size, 5, none⟩ = some (.int .i64 0) := (hb1.cells.1 _ _ (by simp <;> omega)).trans (by simp [go_sem])
  have za_5 : w1.frozen? ⟨w.heap.size, 5, none⟩ = false := (hb1.cells.2 _ _ (by simp <;> omega)).trans (by simp [go_sem])
  have qa_6 : w1.cell? ⟨w.heap.size, 6, none⟩ = some (.int .u64 tf) := (hb1.cells.1 _ _ (by simp <;> omega)).trans (by simp [go_sem])
  have za_6 : w1.frozen? ⟨w.heap.size, 6, none⟩ = false := (hb1.cells.2 _ _ (by simp <;> omega)).trans (by simp [go_sem])
  have qa_7 : w1.cell? ⟨w.heap.size, 7, none⟩ = some (.int .u64 M) := (hb1.cells.1 _ _ (by simp <;> omega)).trans (by simp [go_sem])
  have za_7 : w1.frozen? ⟨w.heap.size, 7, none⟩ = false := (hb1.cells.2 _ _ (by simp <;> omega)).trans (by simp [go_sem])
  have qa_8 : w1.cell? ⟨w.heap.size, 8, none⟩ = some (.int .u64 tv) := (hb1.cells.1 _ _ (by simp <;> omega)).trans (by simp [go_sem])
  have za_8 : w1.frozen? ⟨w.heap.size, 8, none⟩ = false := (hb1.cells.2 _ _ (by simp <;> omega)).trans (by simp [go_sem])
  have qa_9 : w1.cell? ⟨w.heap.size, 9, none⟩ = some (.int .u64 0) := (hb1.cells.1 _ _ (by simp <;> omega)).trans (by simp [go_sem])
  have za_9 : w1.frozen? ⟨w.heap.size, 9, none⟩ = false := (hb1.cells.2 _ _ (by simp <;> omega)).trans (by simp [go_sem])
  have qa_10 : w1.cell? ⟨w.heap.size, 10, none⟩ = some (.slice none 0 0) := (hb1.cells.1 _ _ (by simp <;> omega)).trans (by simp [go_sem])
  have za_10 : w1.frozen? ⟨w.heap.size, 10, none⟩ = false := (hb1.cells.2 _ _ (by simp <;> omega)).trans (by simp [go_sem])
  have pa := World.block_lt_of_cell? _ ⟨w.heap.size, 0, none⟩ qa_0
  have ra := Nat.lt_succ_of_lt pa
  have qr_0 : w1.cell? ⟨(w.heap.size + 1), 0, none⟩ = some (.int .i64 0) := (hb1.cells.1 _ _ (by simp <;> omega)).trans (by simp [go_sem])
  have zr_0 : w1.frozen? ⟨(w.heap.size + 1), 0, none⟩ = false := (hb1.cells.2 _ _ (by simp <;> omega)).trans (by simp [go_sem])
  have qr_1 : w1.cell? ⟨(w.heap.size + 1), 1, none⟩ = some (.int .i64 0) := (hb1.cells.1 _ _ (by simp <;> omega)).trans (by simp [go_sem])
  have zr_1 : w1.frozen? ⟨(w.heap.size + 1), 1, none⟩ = false := (hb1.cells.2 _ _ (by simp <;> omega)).trans (by simp [go_sem])
  have qr_2 : w1.cell? ⟨(w.heap.size + 1), 2, none⟩ = some (.int .i64 0) := (hb1.cells.1 _ _ (by simp <;> omega)).trans (by simp [go_sem])
  have zr_2 : w1.frozen? ⟨(w.heap.size + 1), 2, none⟩ = false := (hb1.cells.2 _ _ (by simp <;> omega)).trans (by simp [go_sem])
  have qr_3 : w1.cell? ⟨(w.heap.size + 1), 3, none⟩ = some (.int .i64 0) := (hb1.cells.1 _ _ (by simp <;> omega)).trans (by simp [go_sem])
  have zr_3 : w1.frozen? ⟨(w.heap.size + 1), 3, none⟩ = false := (hb1.cells.2 _ _ (by simp <;> omega)).trans (by simp [go_sem])
  have qr_4 : w1.cell? ⟨(w.heap.size + 1), 4, none⟩ = some (.int .i64 0) := (hb1.cells.1 _ _ (by simp <;> omega)).trans (by simp [go_sem])
  have zr_4 : w1.frozen? ⟨(w.heap.size + 1), 4, none⟩ = false := (hb1.cells.2 _ _ (by simp <;> omega)).trans (by simp [go_sem])
  have qr_5 : w1.cell? ⟨(w.heap.size + 1), 5, none⟩ = some (.int .i64 0) := (hb1.cells.1 _ _ (by simp <;> omega)).trans (by simp [go_sem])
  have zr_5 : w1.frozen? ⟨(w.heap.size + 1), 5, none⟩ = false := (hb1.cells.2 _ _ (by simp <;> omega)).trans (by simp [go_sem])
  have qr_6 : w1.cell? ⟨(w.heap.size + 1), 6, none⟩ = some (.int .u64 0) := (hb1.cells.1 _ _ (by simp <;> omega)).trans (by simp [go_sem])
  have zr_6 : w1.frozen? ⟨(w.heap.size + 1), 6, none⟩ = false := (hb1.cells.2 _ _ (by simp <;> omega)).trans (by simp [go_sem])
  have qr_7 : w1.cell? ⟨(w.heap.size + 1), 7, none⟩ = some (.int .u64 0) := (hb1.cells.1 _ _ (by simp <;> omega)).trans (by simp [go_sem])
  have zr_7 : w1.frozen? ⟨(w.heap.size + 1), 7, none⟩ = false := (hb1.cells.2 _ _ (by simp <;> omega)).trans (by simp [go_sem])
  have qr_8 : w1.cell? ⟨(w.heap.size + 1), 8, none⟩ = some (.int .u64 0) := (hb1.cells.1 _ _ (by simp <;> omega)).trans (by simp [go_sem])
  have zr_8 : w1.frozen? ⟨(w.heap.size + 1), 8, none⟩ = false := (hb1.cells.2 _ _ (by simp <;> omega)).trans (by simp [go_sem])
  have qr_9 : w1.cell? ⟨(w.heap.size + 1), 9, none⟩ = some (.int .u64 0) := (hb1.cells.1 _ _ (by simp <;> omega)).trans (by simp [go_sem])
  have zr_9 : w1.frozen? ⟨(w.heap.size + 1), 9, none⟩ = false := (hb1.cells.2 _ _ (by simp <;> omega)).trans (by simp [go_sem])
  have qr_10 : w1.cell? ⟨(w.heap.size + 1), 10, none⟩ = some (.slice none 0 0) := (hb1.cells.1 _ _ (by simp <;> omega)).trans (by simp [go_sem])
  have zr_10 : w1.frozen? ⟨(w.heap.size + 1), 10, none⟩ = false := (hb1.cells.2 _ _ (by simp <;> omega)).trans (by simp [go_sem])
  have pr := World.block_lt_of_cell? _ ⟨(w.heap.size + 1), 0, none⟩ qr_0
  have rr := Nat.lt_succ_of_lt pr
  have XE : Ext w w1 := Ext.trans (Ext.alloc (Ext.alloc (Ext.refl w) _) _) hb1
  have hs1 : w.heap.size + 2 ≤ w1.heap.size := by have h1 := hb1.size; simp at h1; omega
  have na : ¬ Own b r.gh lv w.heap.size := fun hk => by have := hlt _ hk; omega
  have nr : ¬ Own b r.gh lv (w.heap.size + 1) := fun hk => by have := hlt _ hk; omega
  replace cv := XE.cell cv
  clear hb1
  go_wp2_with fail
  refine (CA.out _ XE).mono ?_
  rintro e w2 ⟨rfl, lv2, R2, N2, A2⟩
  have HM2 := Lib.hid (HM.out lv2 _ w2 XE hs1 R2 N2 A2)
  have qW := R2.q1
  rw [hW] at qW
  replace za_0 := N2.frozen qa_0 za_0 na
  replace qa_0 := N2.cell qa_0 na
  replace za_1 := N2.frozen qa_1 za_1 na
  replace qa_1 := N2.cell qa_1 na
  replace za_2 := N2.frozen qa_2 za_2 na
  replace qa_2 := N2.cell qa_2 na
  replace za_3 := N2.frozen qa_3 za_3 na
  replace qa_3 := N2.cell qa_3 na
  replace za_4 := N2.frozen qa_4 za_4 na
  replace qa_4 := N2.cell qa_4 na
  replace za_5 := N2.frozen qa_5 za_5 na
  replace qa_5 := N2.cell qa_5 na
  replace za_6 := N2.frozen qa_6 za_6 na
  replace qa_6 := N2.cell qa_6 na
  replace za_7 := N2.frozen qa_7 za_7 na
  replace qa_7 := N2.cell qa_7 na
  replace za_8 := N2.frozen qa_8 za_8 na
  replace qa_8 := N2.cell qa_8 na
  replace za_9 := N2.frozen qa_9 za_9 na
  replace qa_9 := N2.cell qa_9 na
  replace za_10 := N2.frozen qa_10 za_10 na
  replace qa_10 := N2.cell qa_10 na
  replace zr_0 := N2.frozen qr_0 zr_0 nr
  replace qr_0 := N2.cell qr_0 nr
  replace zr_1 := N2.frozen qr_1 zr_1 nr
  replace qr_1 := N2.cell qr_1 nr
  replace zr_2 := N2.frozen qr_2 zr_2 nr
  replace qr_2 := N2.cell qr_2 nr
  replace zr_3 := N2.frozen qr_3 zr_3 nr
  replace qr_3 := N2.cell qr_3 nr
  replace zr_4 := N2.frozen qr_4 zr_4 nr
  replace qr_4 := N2.cell qr_4 nr
  replace zr_5 := N2.frozen qr_5 zr_5 nr
  replace qr_5 := N2.cell qr_5 nr
  replace zr_6 := N2.frozen qr_6 zr_6 nr
  replace qr_6 := N2.cell qr_6 nr
  replace zr_7 := N2.frozen qr_7 zr_7 nr
  replace qr_7 := N2.cell qr_7 nr
  replace zr_8 := N2.frozen qr_8 zr_8 nr
  replace qr_8 := N2.cell qr_8 nr
  replace zr_9 := N2.frozen qr_9 zr_9 nr
  replace qr_9 := N2.cell qr_9 nr
  replace zr_10 := N2.frozen qr_10 zr_10 nr
  replace qr_10 := N2.cell qr_10 nr
  clear R2 N2 A2 XE cv
  go_upto_region 5 with (fail)
  have k4 := fun w' (hx : Ext w2 w') => hx.cell qa_4
  have k7 := fun w' (hx : Ext w2 w') => hx.cell qa_7
  have kW := fun w' (hx : Ext w2 w') => hx.cell qW
  refine wp_region_held_drew (S := fun w' => Ext w2 w') (by kernel_rfl) ?hbeg (fun hHeld => ?_)
  case hbeg => exact (Ext.refl w2).drew
  have hHeld0 : Ext w2 w2 := by first | exact Ext.refl _ | assumption
  first
    | (refine take_at (i := 0) (v := ?_) rfl rfl (by kernel_rfl) (by kernel_rfl) (by kernel_rfl) (fun _ _ _ h => h) (Or.inl ⟨by rfl, ?hy⟩) (by assumption) ?_
       case hy => (intro wz hSw; (try dsimp only at hSw); go_simp <;> with_reducible rfl)
       simp only [List.setIfInBounds_toArray, List.set_cons_zero, List.set_cons_succ])
    | (refine take_at (i := 0) (v := undef) rfl rfl (by kernel_rfl) (by kernel_rfl) (by kernel_rfl) (fun _ _ _ h => h) (Or.inr ⟨by rfl, rfl⟩) (by assumption) ?_
       simp only [List.setIfInBounds_toArray, List.set_cons_zero, List.set_cons_succ])
  first
    | (refine take_at (i := 1) (v := ?_) rfl rfl (by kernel_rfl) (by kernel_rfl) (by kernel_rfl) (fun _ _ _ h => h) (Or.inl ⟨by rfl, ?hy⟩) (by assumption) ?_
       case hy => (intro wz hSw; (try dsimp only at hSw); go_simp <;> with_reducible rfl)
       simp only [List.setIfInBounds_toArray, List.set_cons_zero, List.set_cons_succ])
    | (refine take_at (i := 1) (v := undef) rfl rfl (by kernel_rfl) (by kernel_rfl) (by kernel_rfl) (fun _ _ _ h => h) (Or.inr ⟨by rfl, rfl⟩) (by assumption) ?_
       simp only [List.setIfInBounds_toArray, List.set_cons_zero, List.set_cons_succ])
  first
    | (refine take_at (i := 2) (v := ?_) rfl rfl (by kernel_rfl) (by kernel_rfl) (by kernel_rfl) (fun _ _ _ h => h) (Or.inl ⟨by rfl, ?hy⟩) (by assumption) ?_
       case hy => (intro wz hSw; (try dsimp only at hSw); go_simp <;> with_reducible rfl)
       simp only [List.setIfInBounds_toArray, List.set_cons_zero, List.set_cons_succ])
    | (refine take_at (i := 2) (v := undef) rfl rfl (by kernel_rfl) (by kernel_rfl) (by kernel_rfl) (fun _ _ _ h => h) (Or.inr ⟨by rfl, rfl⟩) (by assumption) ?_
       simp only [List.setIfInBounds_toArray, List.set_cons_zero, List.set_cons_succ])
  first
    | (refine take_at (i := 3) (v := ?_) rfl rfl (by kernel_rfl) (by kernel_rfl) (by kernel_rfl) (fun _ _ _ h => h) (Or.inl ⟨by rfl, ?hy⟩) (by assumption) ?_
       case hy => (intro wz hSw; (try dsimp only at hSw); go_simp <;> with_reducible rfl)
       simp only [List.setIfInBounds_toArray, List.set_cons_zero, List.set_cons_succ])
    | (refine take_at (i := 3) (v := undef) rfl rfl (by kernel_rfl) (by kernel_rfl) (by kernel_rfl) (fun _ _ _ h => h) (Or.inr ⟨by rfl, rfl⟩) (by assumption) ?_
       simp only [List.setIfInBounds_toArray, List.set_cons_zero, List.set_cons_succ])
  first
    | (refine take_at (i := 4) (v := ?_) rfl rfl (by kernel_rfl) (by kernel_rfl) (by kernel_rfl) (fun _ _ _ h => h) (Or.inl ⟨by rfl, ?hy⟩) (by assumption) ?_
       case hy => (intro wz hSw; (try dsimp only at hSw); go_simp <;> with_reducible rfl)
       simp only [List.setIfInBounds_toArray, List.set_cons_zero, List.set_cons_succ])
    | (refine take_at (i := 4) (v := undef) rfl rfl (by kernel_rfl) (by kernel_rfl) (by kernel_rfl) (fun _ _ _ h => h) (Or.inr ⟨by rfl, rfl⟩) (by assumption) ?_
       simp only [List.setIfInBounds_toArray, List.set_cons_zero, List.set_cons_succ])
  first
    | (refine take_at (i := 5) (v := ?_) rfl rfl (by kernel_rfl) (by kernel_rfl) (by kernel_rfl) (fun _ _ _ h => h) (Or.inl ⟨by rfl, ?hy⟩) (by assumption) ?_
       case hy => (intro wz hSw; (try dsimp only at hSw); go_simp <;> with_reducible rfl)
       simp only [List.setIfInBounds_toArray, List.set_cons_zero, List.set_cons_succ])
    | (refine take_at (i := 5) (v := undef) rfl rfl (by kernel_rfl) (by kernel_rfl) (by kernel_rfl) (fun _ _ _ h => h) (Or.inr ⟨by rfl, rfl⟩) (by assumption) ?_
       simp only [List.setIfInBounds_toArray, List.set_cons_zero, List.set_cons_succ])
  first
    | (refine take_at (i := 6) (v := ?_) rfl rfl (by kernel_rfl) (by kernel_rfl) (by kernel_rfl) (fun _ _ _ h => h) (Or.inl ⟨by rfl, ?hy⟩) (by assumption) ?_
       case hy => (intro wz hSw; (try dsimp only at hSw); go_simp <;> with_reducible rfl)
       simp only [List.setIfInBounds_toArray, List.set_cons_zero, List.set_cons_succ])
    | (refine take_at (i := 6) (v := undef) rfl rfl (by kernel_rfl) (by kernel_rfl) (by kernel_rfl) (fun _ _ _ h => h) (Or.inr ⟨by rfl, rfl⟩) (by assumption) ?_
       simp only [List.setIfInBounds_toArray, List.set_cons_zero, List.set_cons_succ])
  first
    | (refine take_at (i := 7) (v := ?_) rfl rfl (by kernel_rfl) (by kernel_rfl) (by kernel_rfl) (fun _ _ _ h => h) (Or.inl ⟨by rfl, ?hy⟩) (by assumption) ?_
       case hy => (intro wz hSw; (try dsimp only at hSw); go_simp <;> with_reducible rfl)
       simp only [List.setIfInBounds_toArray, List.set_cons_zero, List.set_cons_succ])
    | (refine take_at (i := 7) (v := undef) rfl rfl (by kernel_rfl) (by kernel_rfl) (by kernel_rfl) (fun _ _ _ h => h) (Or.inr ⟨by rfl, rfl⟩) (by assumption) ?_
       simp only [List.setIfInBounds_toArray, List.set_cons_zero, List.set_cons_succ])
  first
    | (refine take_at (i := 8) (v := ?_) rfl rfl (by kernel_rfl) (by kernel_rfl) (by kernel_rfl) (fun _ _ _ h => h) (Or.inl ⟨by rfl, ?hy⟩) (by assumption) ?_
       case hy => (intro wz hSw; (try dsimp only at hSw); go_simp <;> with_reducible rfl)
       simp only [List.setIfInBounds_toArray, List.set_cons_zero, List.set_cons_succ])
    | (refine take_at (i := 8) (v := undef) rfl rfl (by kernel_rfl) (by kernel_rfl) (by kernel_rfl) (fun _ _ _ h => h) (Or.inr ⟨by rfl, rfl⟩) (by assumption) ?_
       simp only [List.setIfInBounds_toArray, List.set_cons_zero, List.set_cons_succ])
  first
    | (refine take_at (i := 9) (v := ?_) rfl rfl (by kernel_rfl) (by kernel_rfl) (by kernel_rfl) (fun _ _ _ h => h) (Or.inl ⟨by rfl, ?hy⟩) (by assumption) ?_
       case hy => (intro wz hSw; (try dsimp only at hSw); go_simp <;> with_reducible rfl)
       simp only [List.setIfInBounds_toArray, List.set_cons_zero, List.set_cons_succ])
    | (refine take_at (i := 9) (v := undef) rfl rfl (by kernel_rfl) (by kernel_rfl) (by kernel_rfl) (fun _ _ _ h => h) (Or.inr ⟨by rfl, rfl⟩) (by assumption) ?_
       simp only [List.setIfInBounds_toArray, List.set_cons_zero, List.set_cons_succ])
  first
    | (refine take_at (i := 10) (v := ?_) rfl rfl (by kernel_rfl) (by kernel_rfl) (by kernel_rfl) (fun _ _ _ h => h) (Or.inl ⟨by rfl, ?hy⟩) (by assumption) ?_
       case hy => (intro wz hSw; (try dsimp only at hSw); go_simp <;> with_reducible rfl)
       simp only [List.setIfInBounds_toArray, List.set_cons_zero, List.set_cons_succ])
    | (refine take_at (i := 10) (v := undef) rfl rfl (by kernel_rfl) (by kernel_rfl) (by kernel_rfl) (fun _ _ _ h => h) (Or.inr ⟨by rfl, rfl⟩) (by assumption) ?_
       simp only [List.setIfInBounds_toArray, List.set_cons_zero, List.set_cons_succ])
  first
    | (refine take_at (i := 11) (v := ?_) rfl rfl (by kernel_rfl) (by kernel_rfl) (by kernel_rfl) (fun _ _ _ h => h) (Or.inl ⟨by rfl, ?hy⟩) (by assumption) ?_
       case hy => (intro wz hSw; (try dsimp only at hSw); go_simp <;> with_reducible rfl)
       simp only [List.setIfInBounds_toArray, List.set_cons_zero, List.set_cons_succ])
    | (refine take_at (i := 11) (v := undef) rfl rfl (by kernel_rfl) (by kernel_rfl) (by kernel_rfl) (fun _ _ _ h => h) (Or.inr ⟨by rfl, rfl⟩) (by assumption) ?_
       simp only [List.setIfInBounds_toArray, List.set_cons_zero, List.set_cons_succ])
  refine call_at (i := 12) (F := 79) (gapA32 x M _ (by omega) (by omega)) rfl rfl (by kernel_rfl) (by rfl) (by first | rfl | (go_simp <;> rfl)) ?_
  rintro e w' ⟨rfl, rfl⟩
  refine ⟨_, rfl, by assumption, ?_⟩
  simp only [List.setIfInBounds_toArray, List.set_cons_zero, List.set_cons_succ]
  first
    | (refine take_at (i := 13) (v := ?_) rfl rfl (by kernel_rfl) (by kernel_rfl) (by kernel_rfl) (fun _ _ _ h => h) (Or.inl ⟨by rfl, ?hy⟩) (by assumption) ?_
       case hy => (intro wz hSw; (try dsimp only at hSw); go_simp <;> with_reducible rfl)
       simp only [List.setIfInBounds_toArray, List.set_cons_zero, List.set_cons_succ])
    | (refine take_at (i := 13) (v := undef) rfl rfl (by kernel_rfl) (by kernel_rfl) (by kernel_rfl) (fun _ _ _ h => h) (Or.inr ⟨by rfl, rfl⟩) (by assumption) ?_
       simp only [List.setIfInBounds_toArray, List.set_cons_zero, List.set_cons_succ])
  first
    | (refine take_at (i := 14) (v := ?_) rfl rfl (by kernel_rfl) (by kernel_rfl) (by kernel_rfl) (fun _ _ _ h => h) (Or.inl ⟨by rfl, ?hy⟩) (by assumption) ?_
       case hy => (intro wz hSw; (try dsimp only at hSw); go_simp <;> with_reducible rfl)
       simp only [List.setIfInBounds_toArray, List.set_cons_zero, List.set_cons_succ])
    | (refine take_at (i := 14) (v := undef) rfl rfl (by kernel_rfl) (by kernel_rfl) (by kernel_rfl) (fun _ _ _ h => h) (Or.inr ⟨by rfl, rfl⟩) (by assumption) ?_
       simp only [List.setIfInBounds_toArray, List.set_cons_zero, List.set_cons_succ])
  refine wpAnyH_done (by kernel_rfl) ?_ _
  go_upto_region 6 with (fail)
  refine settle_wp ?_
  intro w3 hb3
  have hH := Ext.trans hHeld hb3
  replace HM2 := Lib.hid (HM2.out.ext hH)
  replace za_0 := hH.frozen qa_0 za_0
  replace qa_0 := hH.cell qa_0
  replace za_1 := hH.frozen qa_1 za_1
  replace qa_1 := hH.cell qa_1
  replace za_2 := hH.frozen qa_2 za_2
  replace qa_2 := hH.cell qa_2
  replace za_3 := hH.frozen qa_3 za_3
  replace qa_3 := hH.cell qa_3
  replace za_4 := hH.frozen qa_4 za_4
  replace qa_4 := hH.cell qa_4
  replace za_5 := hH.frozen qa_5 za_5
  replace qa_5 := hH.cell qa_5
  replace za_6 := hH.frozen qa_6 za_6
  replace qa_6 := hH.cell qa_6
  replace za_7 := hH.frozen qa_7 za_7
  replace qa_7 := hH.cell qa_7
  replace za_8 := hH.frozen qa_8 za_8
  replace qa_8 := hH.cell qa_8
  replace za_9 := hH.frozen qa_9 za_9
  replace qa_9 := hH.cell qa_9
  replace za_10 := hH.frozen qa_10 za_10
  replace qa_10 := hH.cell qa_10
  replace zr_0 := hH.frozen qr_0 zr_0
  replace qr_0 := hH.cell qr_0
  replace zr_1 := hH.frozen qr_1 zr_1
  replace qr_1 := hH.cell qr_1
  replace zr_2 := hH.frozen qr_2 zr_2
  replace qr_2 := hH.cell qr_2
  replace zr_3 := hH.frozen qr_3 zr_3
  replace qr_3 := hH.cell qr_3
  replace zr_4 := hH.frozen qr_4 zr_4
  replace qr_4 := hH.cell qr_4
  replace zr_5 := hH.frozen qr_5 zr_5
  replace qr_5 := hH.cell qr_5
  replace zr_6 := hH.frozen qr_6 zr_6
  replace qr_6 := hH.cell qr_6
  replace zr_7 := hH.frozen qr_7 zr_7
  replace qr_7 := hH.cell qr_7
  replace zr_8 := hH.frozen qr_8 zr_8
  replace qr_8 := hH.cell qr_8
  replace zr_9 := hH.frozen qr_9 zr_9
  replace qr_9 := hH.cell qr_9
  replace zr_10 := hH.frozen qr_10 zr_10
  replace qr_10 := hH.cell qr_10
  clear k4 k7 kW qW hHeld hH hb3
  go_upto_region 10 with (fail)
  refine settle_wp ?_
  intro w5 hb5
  replace HM2 := Lib.hid ((((HM2.out.set (p := ⟨w.heap.size, 7, none⟩) (by simp) (by simp) (.int .u64 x)).set (p := ⟨w.heap.size, 4, none⟩) (by simp) (by simp) (.int .i64 ((I : Int) + 1))).set (p := ⟨w.heap.size, 4, none⟩) (by simp) (by simp) (.int .i64 0)).ext hb5)
  have pa_0 : w5.cell? ⟨w.heap.size, 0, none⟩ = some (.int .i64 0) := hb5.cell (by simp (maxDischargeDepth := 40) [go_sem, set_some, set_same, qa_0])
  have pa_1 : w5.cell? ⟨w.heap.size, 1, none⟩ = some (.int .i64 tn) := hb5.cell (by simp (maxDischargeDepth := 40) [go_sem, set_some, set_same, qa_1])
  have pa_2 : w5.cell? ⟨w.heap.size, 2, none⟩ = some (.int .i64 0) := hb5.cell (by simp (maxDischargeDepth := 40) [go_sem, set_some, set_same, qa_2])
  have pa_3 : w5.cell? ⟨w.heap.size, 3, none⟩ = some (.int .i64 tp) := hb5.cell (by simp (maxDischargeDepth := 40) [go_sem, set_some, set_same, qa_3])
  have pa_4 : w5.cell? ⟨w.heap.size, 4, none⟩ = some (.int .i64 0) := hb5.cell (by simp (maxDischargeDepth := 40) [go_sem, set_some, set_same, qa_4])
  have pa_5 : w5.cell? ⟨w.heap.size, 5, none⟩ = some (.int .i64 0) := hb5.cell (by simp (maxDischargeDepth := 40) [go_sem, set_some, set_same, qa_5])
  have pa_6 : w5.cell? ⟨w.heap.size, 6, none⟩ = some (.int .u64 tf) := hb5.cell (by simp (maxDischargeDepth := 40) [go_sem, set_some, set_same, qa_6])
  have pa_7 : w5.cell? ⟨w.heap.size, 7, none⟩ = some (.int .u64 x) := hb5.cell (by simp (maxDischargeDepth := 40) [go_sem, set_some, set_same, qa_7])
  have pa_8 : w5.cell? ⟨w.heap.size, 8, none⟩ = some (.int .u64 tv) := hb5.cell (by simp (maxDischargeDepth := 40) [go_sem, set_some, set_same, qa_8])
  have pa_9 : w5.cell? ⟨w.heap.size, 9, none⟩ = some (.int .u64 0) := hb5.cell (by simp (maxDischargeDepth := 40) [go_sem, set_some, set_same, qa_9])
  have pa_10 : w5.cell? ⟨w.heap.size, 10, none⟩ = some (.slice none 0 0) := hb5.cell (by simp (maxDischargeDepth := 40) [go_sem, set_some, set_same, qa_10])
  have pr_0 : w5.cell? ⟨w.heap.size + 1, 0, none⟩ = some (.int .i64 0) := hb5.cell (by simp [go_sem, qr_0])
  have vr_0 : w5.frozen? ⟨w.heap.size + 1, 0, none⟩ = false := hb5.frozen (v := .int .i64 0) (by simp [go_sem, qr_0]) (by simp [go_sem, zr_0])
  have pr_1 : w5.cell? ⟨w.heap.size + 1, 1, none⟩ = some (.int .i64 0) := hb5.cell (by simp [go_sem, qr_1])
  have vr_1 : w5.frozen? ⟨w.heap.size + 1, 1, none⟩ = false := hb5.frozen (v := .int .i64 0) (by simp [go_sem, qr_1]) (by simp [go_sem, zr_1])
  have pr_2 : w5.cell? ⟨w.heap.size + 1, 2, none⟩ = some (.int .i64 0) := hb5.cell (by simp [go_sem, qr_2])
  have vr_2 : w5.frozen? ⟨w.heap.size + 1, 2, none⟩ = false := hb5.frozen (v := .int .i64 0) (by simp [go_sem, qr_2]) (by simp [go_sem, zr_2])
  have pr_3 : w5.cell? ⟨w.heap.size + 1, 3, none⟩ = some (.int .i64 0) := hb5.cell (by simp [go_sem, qr_3])
  have vr_3 : w5.frozen? ⟨w.heap.size + 1, 3, none⟩ = false := hb5.frozen (v := .int .i64 0) (by simp [go_sem, qr_3]) (by simp [go_sem, zr_3])
  have pr_4 : w5.cell? ⟨w.heap.size + 1, 4, none⟩ = some (.int .i64 0) := hb5.cell (by simp [go_sem, qr_4])
  have vr_4 : w5.frozen? ⟨w.heap.size + 1, 4, none⟩ = false := hb5.frozen (v := .int .i64 0) (by simp [go_sem, qr_4]) (by simp [go_sem, zr_4])
  have pr_5 : w5.cell? ⟨w.heap.size + 1, 5, none⟩ = some (.int .i64 0) := hb5.cell (by simp [go_sem, qr_5])
  have vr_5 : w5.frozen? ⟨w.heap.size + 1, 5, none⟩ = false := hb5.frozen (v := .int .i64 0) (by simp [go_sem, qr_5]) (by simp [go_sem, zr_5])
  have pr_6 : w5.cell? ⟨w.heap.size + 1, 6, none⟩ = some (.int .u64 0) := hb5.cell (by simp [go_sem, qr_6])
  have vr_6 : w5.frozen? ⟨w.heap.size + 1, 6, none⟩ = false := hb5.frozen (v := .int .u64 0) (by simp [go_sem, qr_6]) (by simp [go_sem, zr_6])
  have pr_7 : w5.cell? ⟨w.heap.size + 1, 7, none⟩ = some (.int .u64 0) := hb5.cell (by simp [go_sem, qr_7])
  have vr_7 : w5.frozen? ⟨w.heap.size + 1, 7, none⟩ = false := hb5.frozen (v := .int .u64 0) (by simp [go_sem, qr_7]) (by simp [go_sem, zr_7])
  have pr_8 : w5.cell? ⟨w.heap.size + 1, 8, none⟩ = some (.int .u64 0) := hb5.cell (by simp [go_sem, qr_8])
  have vr_8 : w5.frozen? ⟨w.heap.size + 1, 8, none⟩ = false := hb5.frozen (v := .int .u64 0) (by simp [go_sem, qr_8]) (by simp [go_sem, zr_8])
  have pr_9 : w5.cell? ⟨w.heap.size + 1, 9, none⟩ = some (.int .u64 0) := hb5.cell (by simp [go_sem, qr_9])
  have vr_9 : w5.frozen? ⟨w.heap.size + 1, 9, none⟩ = false := hb5.frozen (v := .int .u64 0) (by simp [go_sem, qr_9]) (by simp [go_sem, zr_9])
  have pr_10 : w5.cell? ⟨w.heap.size + 1, 10, none⟩ = some (.slice none 0 0) := hb5.cell (by simp [go_sem, qr_10])
  have vr_10 : w5.frozen? ⟨w.heap.size + 1, 10, none⟩ = false := hb5.frozen (v := .slice none 0 0) (by simp [go_sem, qr_10]) (by simp [go_sem, zr_10])
  clear hb5 qa_0 za_0 qa_1 za_1 qa_2 za_2 qa_3 za_3 qa_4 za_4 qa_5 za_5 qa_6 za_6 qa_7 za_7 qa_8 za_8 qa_9 za_9 qa_10 za_10 qr_0 zr_0 qr_1 zr_1 qr_2 zr_2 qr_3 zr_3 qr_4 zr_4 qr_5 zr_5 qr_6 zr_6 qr_7 zr_7 qr_8 zr_8 qr_9 zr_9 qr_10 zr_10
  go_wp2
  refine bodyPost_ret (v := .tuple #[(.agg #[.int .i64 0, .int .i64 tn, .int .i64 0, .int .i64 tp, .int .i64 0, .int .i64 0, .int .u64 tf, .int .u64 x, .int .u64 tv, .int .u64 0, .slice none 0 0]), .bool true]) (by simp [results, Tryz.results59, go_sem, pr_0, pr_1, pr_2, pr_3, pr_4, pr_5, pr_6, pr_7, pr_8, pr_9, pr_10, pa_0, pa_1, pa_2, pa_3, pa_4, pa_5, pa_6, pa_7, pa_8, pa_9, pa_10]) rfl (HG.out _ ?mid)
  case mid => repeat (first | with_reducible exact HM2.out | refine RMid.set ?_ (by simp) (by simp) _)
set_option maxRecDepth 100000 in
theorem rScan32_lc (b : Nat) (r : RY) (f : Nat → Int) (lv : Value) (log : List Acc) (t : Int) (v : Value) (xs : List Int) (I c : Nat) (tn tp tf M tv : Int) (w : World) (h : RB w b r f lv log) (hW : r.W = 32) (hv : IntsV w v xs) (hI : I < xs.length) (hx : xs.getD I 0 = c) (hk : isK r (c : Int) 1 = true) (hc : c < r.m) (hl : log.length ≤ 1000) (hn : xs.length ≤ 1000) (f0 : 0 ≤ f c) (hM : 0 ≤ M) (h0 : ¬ I = 0) (h1 : D32 (f c - M) < 0) (h2 : I + 1 < xs.length) :
    Calls Tryz.prog 59 #[.pointer (some ⟨b, 0, none⟩), .int .i64 t, v, (.agg #[.int .i64 0, .int .i64 tn, .int .i64 0, .int .i64 tp, .int .i64 I, .int .i64 0, .int .u64 tf, .int .u64 M, .int .u64 tv, .int .u64 0, .slice none 0 0])] w (RScanDoes b r lv f (log ++ [⟨t, 1, c, f c, f c⟩]) false tn tp ((I : Int) + 1) tf (f c) tv w) := by
  have CA := Lib.hid (fun w' (hx : Ext w w') => rLoad_yes b r f lv log t c w' (h.ext hx) hk hc hl)
  have HG : Hid (∀ w', RMid b r lv f (log ++ [⟨t, 1, c, f c, f c⟩]) w w' → RScanDoes b r lv f (log ++ [⟨t, 1, c, f c, f c⟩]) false tn tp ((I : Int) + 1) tf (f c) tv w (.returned (.tuple #[(.agg #[.int .i64 0, .int .i64 tn, .int .i64 0, .int .i64 tp, .int .i64 ((I : Int) + 1), .int .i64 0, .int .u64 tf, .int .u64 (f c), .int .u64 tv, .int .u64 0, .slice none 0 0]), .bool false])) w') := Lib.hid (fun w' hm => ⟨rfl, hm.does (v := .bool true)⟩)
  have HM := Lib.hid (fun lv' w1 w2 (hx : Ext w w1) hs hR hN hA => rmid_of (f' := f) (lv' := lv') (log' := (log ++ [⟨t, 1, c, f c, f c⟩])) (w1 := w1) (w2 := w2) h hx hs hR hN hA)
  generalize RScanDoes b r lv f (log ++ [⟨t, 1, c, f c, f c⟩]) false tn tp ((I : Int) + 1) tf (f c) tv w = G at *
  obtain ⟨va, vc, ev, hf⟩ := hv.form
  subst ev
  obtain ⟨vb, vo, ea, cv⟩ := hf I hI
  subst ea
  rw [hx] at cv
  generalize hxx : f c = x at *
  have hI1 : (I : Int) < (xs.length : Int) := by omega
  have hI0 : (0 : Int) ≤ (I : Int) := by omega
  have d0 : ((I : Int) == 0) = false := by simp; omega
  have d1 : decide (D32 (x - M) < 0) = true := by simpa using h1
  have d2 : ((I : Int) + 1 == (xs.length : Int)) = false := by simp; omega
  have hwr : IntKind.i64.wrap ((I : Int) + 1) = (I : Int) + 1 := wrapS (by omega) (by omega)
  have hlt := fun k (hk : Own b r.gh lv k) => h.lt hk
  generalize xs.length = n at *
  clear h hv hf hI hx hk hl hn h0 h2 h1
  go_enter Tryz.func59, Tryz.ntmps59
  go_upto_region 1 with (fail)
  refine settle_wp ?_
  intro w1 hb1
  have qa_0 : w1.cell? ⟨w.heap.size, 0, none⟩ = some (.int .i64 0) := (hb1.cells.1 _ _ (by simp <;> omega)).trans (by simp [go_sem])
  have za_0 : w1.frozen? ⟨w.heap.size, 0, none⟩ = false := (hb1.cells.2 _ _ (by simp <;> omega)).trans (by simp [go_sem])
  have qa_1 : w1.cell? ⟨w.heap.size, 1, none⟩ = some (.int .i64 tn) := (hb1.cells.1 _ _ (by simp <;> omega)).trans (by simp [go_sem])
  have za_1 : w1.frozen? ⟨w.heap.size, 1, none⟩ = false := (hb1.cells.2 _ _ (by simp <;> omega)).trans (by simp [go_sem])
  have qa_2 : w1.cell? ⟨w.heap.size, 2, none⟩ = some (.int .i64 0) := (hb1.cells.1 _ _ (by simp <;> omega)).trans (by simp [go_sem])
  have za_2 : w1.frozen? ⟨w.heap.size, 2, none⟩ = false := (hb1.cells.2 _ _ (by simp <;> omega)).trans (by simp [go_sem])
  have qa_3 : w1.cell? ⟨w.heap.size, 3, none⟩ = some (.int .i64 tp) := (hb1.cells.1 _ _ (by simp <;> omega)).trans (by simp [go_sem])
  have za_3 : w1.frozen? ⟨w.heap.size, 3, none⟩ = false := (hb1.cells.2 _ _ (by simp <;> omega)).trans (by simp [go_sem])
  have qa_4 : w1.cell? ⟨w.heap.size, 4, none⟩ = some (.int .i64 I) := (hb1.cells.1 _ _ (by simp <;> omega)).trans (by simp [go_sem])
  have za_4 : w1.frozen? ⟨w.heap.size, 4, none⟩ = false := (hb1.cells.2 _ _ (by simp <;> omega)).trans (by simp [go_sem])
  have qa_5 : w1.cell? ⟨w.heap.size, 5, none⟩ = some (.int .i64 0) := (hb1.cells.1 _ _ (by simp <;> omega)).trans (by simp [go_sem])
  have za_5 : w1.frozen? ⟨w.heap.size, 5, none⟩ = false := (hb1.cells.2 _ _ (by simp <;> omega)).trans (by simp [go_sem])
  have qa_6 : w1.cell? ⟨w.heap.size, 6, none⟩ = some (.int .u64 tf) := (hb1.cells.1 _ _ (by simp <;> omega)).trans (by simp [go_sem])
  have za_6 : w1.frozen? ⟨w.heap.size, 6, none⟩ = false := (hb1.cells.2 _ _ (by simp <;> omega)).trans (by simp [go_sem])
  have qa_7 : w1.cell? ⟨w.heap.size, 7, none⟩ = some (.int .u64 M) := (hb1.cells.1 _ _ (by simp <;> omega)).trans (by simp [go_sem])
  have za_7 : w1.frozen? ⟨w.heap.size, 7, none⟩ = false := (hb1.cells.2 _ _ (by simp <;> omega)).trans (by simp [go_sem])
  have qa_8 : w1.cell? ⟨w.heap.size, 8, none⟩ = some (.int .u64 tv) := (hb1.cells.1 _ _ (by simp <;> omega)).trans (by simp [go_sem])
  have za_8 : w1.frozen? ⟨w.heap.size, 8, none⟩ = false := (hb1.cells.2 _ _ (by simp <;> omega)).trans (by simp [go_sem])
  have qa_9 : w1.cell? ⟨w.heap.size, 9, none⟩ = some (.int .u64 0) := (hb1.cells.1 _ _ (by simp <;> omega)).trans (by simp [go_sem])
  have za_9 : w1.frozen? ⟨w.heap.size, 9, none⟩ = false := (hb1.cells.2 _ _ (by simp <;> omega)).trans (by simp [go_sem])
  have qa_10 : w1.cell? ⟨w.heap.size, 10, none⟩ = some (.slice none 0 0) := (hb1.cells.1 _ _ (by simp <;> omega)).trans (by simp [go_sem])
  have za_10 : w1.frozen? ⟨w.heap.size, 10, none⟩ = false := (hb1.cells.2 _ _ (by simp <;> omega)).trans (by simp [go_sem])
  have pa := World.block_lt_of_cell? _ ⟨w.heap.size, 0, none⟩ qa_0
  have ra := Nat.lt_succ_of_lt pa
  have qr_0 : w1.cell? ⟨(w.heap.size + 1), 0, none⟩ = some (.int .i64 0) := (hb1.cells.1 _ _ (by simp <;> omega)).trans (by simp [go_sem])
  have zr_0 : w1.frozen? ⟨(w.heap.size + 1), 0, none⟩ = false := (hb1.cells.2 _ _ (by simp <;> omega)).trans (by simp [go_sem])
  have qr_1 : w1.cell? ⟨(w.heap.size + 1), 1, none⟩ = some (.int .i64 0) := (hb1.cells.1 _ _ (by simp <;> omega)).trans (by simp [go_sem])
  have zr_1 : w1.frozen? ⟨(w.heap.size + 1), 1, none⟩ = false := (hb1.cells.2 _ _ (by simp <;> omega)).trans (by simp [go_sem])
  have qr_2 : w1.cell? ⟨(w.heap.size + 1), 2, none⟩ = some (.int .i64 0) := (hb1.cells.1 _ _ (by simp <;> omega)).trans (by simp [go_sem])
  have zr_2 : w1.frozen? ⟨(w.heap.size + 1), 2, none⟩ = false := (hb1.cells.2 _ _ (by simp <;> omega)).trans (by simp [go_sem])
  have qr_3 : w1.cell? ⟨(w.heap.size + 1), 3, none⟩ = some (.int .i64 0) := (hb1.cells.1 _ _ (by simp <;> omega)).trans (by simp [go_sem])
  have zr_3 : w1.frozen? ⟨(w.heap.size + 1), 3, none⟩ = false := (hb1.cells.2 _ _ (by simp <;> omega)).trans (by simp [go_sem])
  have qr_4 : w1.cell? ⟨(w.heap.size + 1), 4, none⟩ = some (.int .i64 0) := (hb1.cells.1 _ _ (by simp <;> omega)).trans (by simp [go_sem])
  have zr_4 : w1.frozen? ⟨(w.heap.size + 1), 4, none⟩ = false := (hb1.cells.2 _ _ (by simp <;> omega)).trans (by simp [go_sem])
  have qr_5 : w1.cell? ⟨(w.heap.size + 1), 5, none⟩ = some (.int .i64 0) := (hb1.cells.1 _ _ (by simp <;> omega)).trans (by simp [go_sem])
  have zr_5 : w1.frozen? ⟨(w.heap.size + 1), 5, none⟩ = false := (hb1.cells.2 _ _ (by simp <;> omega)).trans (by simp [go_sem])
  have qr_6 : w1.cell? ⟨(w.heap.size + 1), 6, none⟩ = some (.int .u64 0) := (hb1.cells.1 _ _ (by simp <;> omega)).trans (by simp [go_sem])
  have zr_6 : w1.frozen? ⟨(w.heap.size + 1), 6, none⟩ = false := (hb1.cells.2 _ _ (by simp <;> omega)).trans (by simp [go_sem])
  have qr_7 : w1.cell? ⟨(w.heap.size + 1), 7, none⟩ = some (.int .u64 0) := (hb1.cells.1 _ _ (by simp <;> omega)).trans (by simp [go_sem])
  have zr_7 : w1.frozen? ⟨(w.heap.size + 1), 7, none⟩ = false := (hb1.cells.2 _ _ (by simp <;> omega)).trans (by simp [go_sem])
  have qr_8 : w1.cell? ⟨(w.heap.size + 1), 8, none⟩ = some (.int .u64 0) := (hb1.cells.1 _ _ (by simp <;> omega)).trans (by simp [go_sem])
  have zr_8 : w1.frozen? ⟨(w.heap.size + 1), 8, none⟩ = false := (hb1.cells.2 _ _ (by simp <;> omega)).trans (by simp [go_sem])
  have qr_9 : w1.cell? ⟨(w.heap.size + 1), 9, none⟩ = some (.int .u64 0) := (hb1.cells.1 _ _ (by simp <;> omega)).trans (by simp [go_sem])
  have zr_9 : w1.frozen? ⟨(w.heap.size + 1), 9, none⟩ = false := (hb1.cells.2 _ _ (by simp <;> omega)).trans (by simp [go_sem])
  have qr_10 : w1.cell? ⟨(w.heap.size + 1), 10, none⟩ = some (.slice none 0 0) := (hb1.cells.1 _ _ (by simp <;> omega)).trans (by simp [go_sem])
  have zr_10 : w1.frozen? ⟨(w.heap.size + 1), 10, none⟩ = false := (hb1.cells.2 _ _ (by simp <;> omega)).trans (by simp [go_sem])
  have pr := World.block_lt_of_cell? _ ⟨(w.heap.size + 1), 0, none⟩ qr_0
  have rr := Nat.lt_succ_of_lt pr
  have XE : Ext w w1 := Ext.trans (Ext.alloc (Ext.alloc (Ext.refl w) _) _) hb1
  have hs1 : w.heap.size + 2 ≤ w1.heap.size := by have h1 := hb1.size; simp at h1; omega
  have na : ¬ Own b r.gh lv w.heap.size := fun hk => by have := hlt _ hk; omega
  have nr : ¬ Own b r.gh lv (w.heap.size + 1) := fun hk => by have := hlt _ hk; omega
  replace cv := XE.cell cv
  clear hb1
  go_wp2_with fail
  refine (CA.out _ XE).mono ?_
  rintro e w2 ⟨rfl, lv2, R2, N2, A2⟩
  have HM2 := Lib.hid (HM.out lv2 _ w2 XE hs1 R2 N2 A2)
  have qW := R2.q1
  rw [hW] at qW
  replace za_0 := N2.frozen qa_0 za_0 na
  replace qa_0 := N2.cell qa_0 na
  replace za_1 := N2.frozen qa_1 za_1 na
  replace qa_1 := N2.cell qa_1 na
  replace za_2 := N2.frozen qa_2 za_2 na
  replace qa_2 := N2.cell qa_2 na
  replace za_3 := N2.frozen qa_3 za_3 na
  replace qa_3 := N2.cell qa_3 na
  replace za_4 := N2.frozen qa_4 za_4 na
  replace qa_4 := N2.cell qa_4 na
  replace za_5 := N2.frozen qa_5 za_5 na
  replace qa_5 := N2.cell qa_5 na
  replace za_6 := N2.frozen qa_6 za_6 na
  replace qa_6 := N2.cell qa_6 na
  replace za_7 := N2.frozen qa_7 za_7 na
  replace qa_7 := N2.cell qa_7 na
  replace za_8 := N2.frozen qa_8 za_8 na
  replace qa_8 := N2.cell qa_8 na
  replace za_9 := N2.frozen qa_9 za_9 na
  replace qa_9 := N2.cell qa_9 na
  replace za_10 := N2.frozen qa_10 za_10 na
  replace qa_10 := N2.cell qa_10 na
  replace zr_0 := N2.frozen qr_0 zr_0 nr
  replace qr_0 := N2.cell qr_0 nr
  replace zr_1 := N2.frozen qr_1 zr_1 nr
  replace qr_1 := N2.cell qr_1 nr
  replace zr_2 := N2.frozen qr_2 zr_2 nr
  replace qr_2 := N2.cell qr_2 nr
  replace zr_3 := N2.frozen qr_3 zr_3 nr
  replace qr_3 := N2.cell qr_3 nr
  replace zr_4 := N2.frozen qr_4 zr_4 nr
  replace qr_4 := N2.cell qr_4 nr
  replace zr_5 := N2.frozen qr_5 zr_5 nr
  replace qr_5 := N2.cell qr_5 nr
  replace zr_6 := N2.frozen qr_6 zr_6 nr
  replace qr_6 := N2.cell qr_6 nr
  replace zr_7 := N2.frozen qr_7 zr_7 nr
  replace qr_7 := N2.cell qr_7 nr
  replace zr_8 := N2.frozen qr_8 zr_8 nr
  replace qr_8 := N2.cell qr_8 nr
  replace zr_9 := N2.frozen qr_9 zr_9 nr
  replace qr_9 := N2.cell qr_9 nr
  replace zr_10 := N2.frozen qr_10 zr_10 nr
  replace qr_10 := N2.cell qr_10 nr
  clear R2 N2 A2 XE cv
  go_upto_region 5 with (fail)
  have k4 := fun w' (hx : Ext w2 w') => hx.cell qa_4
  have k7 := fun w' (hx : Ext w2 w') => hx.cell qa_7
  have kW := fun w' (hx : Ext w2 w') => hx.cell qW
  refine wp_region_held_drew (S := fun w' => Ext w2 w') (by kernel_rfl) ?hbeg (fun hHeld => ?_)
  case hbeg => exact (Ext.refl w2).drew
  have hHeld0 : Ext w2 w2 := by first | exact Ext.refl _ | assumption
  first
    | (refine take_at (i := 0) (v := ?_) rfl rfl (by kernel_rfl) (by kernel_rfl) (by kernel_rfl) (fun _ _ _ h => h) (Or.inl ⟨by rfl, ?hy⟩) (by assumption) ?_
       case hy => (intro wz hSw; (try dsimp only at hSw); go_simp <;> with_reducible rfl)
       simp only [List.setIfInBounds_toArray, List.set_cons_zero, List.set_cons_succ])
    | (refine take_at (i := 0) (v := undef) rfl rfl (by kernel_rfl) (by kernel_rfl) (by kernel_rfl) (fun _ _ _ h => h) (Or.inr ⟨by rfl, rfl⟩) (by assumption) ?_
       simp only [List.setIfInBounds_toArray, List.set_cons_zero, List.set_cons_succ])
  first
    | (refine take_at (i := 1) (v := ?_) rfl rfl (by kernel_rfl) (by kernel_rfl) (by kernel_rfl) (fun _ _ _ h => h) (Or.inl ⟨by rfl, ?hy⟩) (by assumption) ?_
       case hy => (intro wz hSw; (try dsimp only at hSw); go_simp <;> with_reducible rfl)
       simp only [List.setIfInBounds_toArray, List.set_cons_zero, List.set_cons_succ])
    | (refine take_at (i := 1) (v := undef) rfl rfl (by kernel_rfl) (by kernel_rfl) (by kernel_rfl) (fun _ _ _ h => h) (Or.inr ⟨by rfl, rfl⟩) (by assumption) ?_
       simp only [List.setIfInBounds_toArray, List.set_cons_zero, List.set_cons_succ])
  first
    | (refine take_at (i := 2) (v := ?_) rfl rfl (by kernel_rfl) (by kernel_rfl) (by kernel_rfl) (fun _ _ _ h => h) (Or.inl ⟨by rfl, ?hy⟩) (by assumption) ?_
       case hy => (intro wz hSw; (try dsimp only at hSw); go_simp <;> with_reducible rfl)
       simp only [List.setIfInBounds_toArray, List.set_cons_zero, List.set_cons_succ])
    | (refine take_at (i := 2) (v := undef) rfl rfl (by kernel_rfl) (by kernel_rfl) (by kernel_rfl) (fun _ _ _ h => h) (Or.inr ⟨by rfl, rfl⟩) (by assumption) ?_
       simp only [List.setIfInBounds_toArray, List.set_cons_zero, List.set_cons_succ])
  first
    | (refine take_at (i := 3) (v := ?_) rfl rfl (by kernel_rfl) (by kernel_rfl) (by kernel_rfl) (fun _ _ _ h => h) (Or.inl ⟨by rfl, ?hy⟩) (by assumption) ?_
       case hy => (intro wz hSw; (try dsimp only at hSw); go_simp <;> with_reducible rfl)
       simp only [List.setIfInBounds_toArray, List.set_cons_zero, List.set_cons_succ])
    | (refine take_at (i := 3) (v := undef) rfl rfl (by kernel_rfl) (by kernel_rfl) (by kernel_rfl) (fun _ _ _ h => h) (Or.inr ⟨by rfl, rfl⟩) (by assumption) ?_
       simp only [List.setIfInBounds_toArray, List.set_cons_zero, List.set_cons_succ])
  first
    | (refine take_at (i := 4) (v := ?_) rfl rfl (by kernel_rfl) (by kernel_rfl) (by kernel_rfl) (fun _ _ _ h => h) (Or.inl ⟨by rfl, ?hy⟩) (by assumption) ?_
       case hy => (intro wz hSw; (try dsimp only at hSw); go_simp <;> with_reducible rfl)
       simp only [List.setIfInBounds_toArray, List.set_cons_zero, List.set_cons_succ])
    | (refine take_at (i := 4) (v := undef) rfl rfl (by kernel_rfl) (by kernel_rfl) (by kernel_rfl) (fun _ _ _ h => h) (Or.inr ⟨by rfl, rfl⟩) (by assumption) ?_
       simp only [List.setIfInBounds_toArray, List.set_cons_zero, List.set_cons_succ])
  first
    | (refine take_at (i := 5) (v := ?_) rfl rfl (by kernel_rfl) (by kernel_rfl) (by kernel_rfl) (fun _ _ _ h => h) (Or.inl ⟨by rfl, ?hy⟩) (by assumption) ?_
       case hy => (intro wz hSw; (try dsimp only at hSw); go_simp <;> with_reducible rfl)
       simp only [List.setIfInBounds_toArray, List.set_cons_zero, List.set_cons_succ])
    | (refine take_at (i := 5) (v := undef) rfl rfl (by kernel_rfl) (by kernel_rfl) (by kernel_rfl) (fun _ _ _ h => h) (Or.inr ⟨by rfl, rfl⟩) (by assumption) ?_
       simp only [List.setIfInBounds_toArray, List.set_cons_zero, List.set_cons_succ])
  first
    | (refine take_at (i := 6) (v := ?_) rfl rfl (by kernel_rfl) (by kernel_rfl) (by kernel_rfl) (fun _ _ _ h => h) (Or.inl ⟨by rfl, ?hy⟩) (by assumption) ?_
       case hy => (intro wz hSw; (try dsimp only at hSw); go_simp <;> with_reducible rfl)
       simp only [List.setIfInBounds_toArray, List.set_cons_zero, List.set_cons_succ])
    | (refine take_at (i := 6) (v := undef) rfl rfl (by kernel_rfl) (by kernel_rfl) (by kernel_rfl) (fun _ _ _ h => h) (Or.inr ⟨by rfl, rfl⟩) (by assumption) ?_
       simp only [List.setIfInBounds_toArray, List.set_cons_zero, List.set_cons_succ])
  first
    | (refine take_at (i := 7) (v := ?_) rfl rfl (by kernel_rfl) (by kernel_rfl) (by kernel_rfl) (fun _ _ _ h => h) (Or.inl ⟨by rfl, ?hy⟩) (by assumption) ?_
       case hy => (intro wz hSw; (try dsimp only at hSw); go_simp <;> with_reducible rfl)
       simp only [List.setIfInBounds_toArray, List.set_cons_zero, List.set_cons_succ])
    | (refine take_at (i := 7) (v := undef) rfl rfl (by kernel_rfl) (by kernel_rfl) (by kernel_rfl) (fun _ _ _ h => h) (Or.inr ⟨by rfl, rfl⟩) (by assumption) ?_
       simp only [List.setIfInBounds_toArray, List.set_cons_zero, List.set_cons_succ])
  first
    | (refine take_at (i := 8) (v := ?_) rfl rfl (by kernel_rfl) (by kernel_rfl) (by kernel_rfl) (fun _ _ _ h => h) (Or.inl ⟨by rfl, ?hy⟩) (by assumption) ?_
       case hy => (intro wz hSw; (try dsimp only at hSw); go_simp <;> with_reducible rfl)
       simp only [List.setIfInBounds_toArray, List.set_cons_zero, List.set_cons_succ])
    | (refine take_at (i := 8) (v := undef) rfl rfl (by kernel_rfl) (by kernel_rfl) (by kernel_rfl) (fun _ _ _ h => h) (Or.inr ⟨by rfl, rfl⟩) (by assumption) ?_
       simp only [List.setIfInBounds_toArray, List.set_cons_zero, List.set_cons_succ])
  first
    | (refine take_at (i := 9) (v := ?_) rfl rfl (by kernel_rfl) (by kernel_rfl) (by kernel_rfl) (fun _ _ _ h => h) (Or.inl ⟨by rfl, ?hy⟩) (by assumption) ?_
       case hy => (intro wz hSw; (try dsimp only at hSw); go_simp <;> with_reducible rfl)
       simp only [List.setIfInBounds_toArray, List.set_cons_zero, List.set_cons_succ])
    | (refine take_at (i := 9) (v := undef) rfl rfl (by kernel_rfl) (by kernel_rfl) (by kernel_rfl) (fun _ _ _ h => h) (Or.inr ⟨by rfl, rfl⟩) (by assumption) ?_
       simp only [List.setIfInBounds_toArray, List.set_cons_zero, List.set_cons_succ])
  first
    | (refine take_at (i := 10) (v := ?_) rfl rfl (by kernel_rfl) (by kernel_rfl) (by kernel_rfl) (fun _ _ _ h => h) (Or.inl ⟨by rfl, ?hy⟩) (by assumption) ?_
       case hy => (intro wz hSw; (try dsimp only at hSw); go_simp <;> with_reducible rfl)
       simp only [List.setIfInBounds_toArray, List.set_cons_zero, List.set_cons_succ])
    | (refine take_at (i := 10) (v := undef) rfl rfl (by kernel_rfl) (by kernel_rfl) (by kernel_rfl) (fun _ _ _ h => h) (Or.inr ⟨by rfl, rfl⟩) (by assumption) ?_
       simp only [List.setIfInBounds_toArray, List.set_cons_zero, List.set_cons_succ])
  first
    | (refine take_at (i := 11) (v := ?_) rfl rfl (by kernel_rfl) (by kernel_rfl) (by kernel_rfl) (fun _ _ _ h => h) (Or.inl ⟨by rfl, ?hy⟩) (by assumption) ?_
       case hy => (intro wz hSw; (try dsimp only at hSw); go_simp <;> with_reducible rfl)
       simp only [List.setIfInBounds_toArray, List.set_cons_zero, List.set_cons_succ])
    | (refine take_at (i := 11) (v := undef) rfl rfl (by kernel_rfl) (by kernel_rfl) (by kernel_rfl) (fun _ _ _ h => h) (Or.inr ⟨by rfl, rfl⟩) (by assumption) ?_
       simp only [List.setIfInBounds_toArray, List.set_cons_zero, List.set_cons_succ])
  refine call_at (i := 12) (F := 79) (gapA32 x M _ (by omega) (by omega)) rfl rfl (by kernel_rfl) (by rfl) (by first | rfl | (go_simp <;> rfl)) ?_
  rintro e w' ⟨rfl, rfl⟩
  refine ⟨_, rfl, by assumption, ?_⟩
  simp only [List.setIfInBounds_toArray, List.set_cons_zero, List.set_cons_succ]
  first
    | (refine take_at (i := 13) (v := ?_) rfl rfl (by kernel_rfl) (by kernel_rfl) (by kernel_rfl) (fun _ _ _ h => h) (Or.inl ⟨by rfl, ?hy⟩) (by assumption) ?_
       case hy => (intro wz hSw; (try dsimp only at hSw); go_simp <;> with_reducible rfl)
       simp only [List.setIfInBounds_toArray, List.set_cons_zero, List.set_cons_succ])
    | (refine take_at (i := 13) (v := undef) rfl rfl (by kernel_rfl) (by kernel_rfl) (by kernel_rfl) (fun _ _ _ h => h) (Or.inr ⟨by rfl, rfl⟩) (by assumption) ?_
       simp only [List.setIfInBounds_toArray, List.set_cons_zero, List.set_cons_succ])
  first
    | (refine take_at (i := 14) (v := ?_) rfl rfl (by kernel_rfl) (by kernel_rfl) (by kernel_rfl) (fun _ _ _ h => h) (Or.inl ⟨by rfl, ?hy⟩) (by assumption) ?_
       case hy => (intro wz hSw; (try dsimp only at hSw); go_simp <;> with_reducible rfl)
       simp only [List.setIfInBounds_toArray, List.set_cons_zero, List.set_cons_succ])
    | (refine take_at (i := 14) (v := undef) rfl rfl (by kernel_rfl) (by kernel_rfl) (by kernel_rfl) (fun _ _ _ h => h) (Or.inr ⟨by rfl, rfl⟩) (by assumption) ?_
       simp only [List.setIfInBounds_toArray, List.set_cons_zero, List.set_cons_succ])
  refine wpAnyH_done (by kernel_rfl) ?_ _
  go_upto_region 6 with (fail)
  refine settle_wp ?_
  intro w3 hb3
  have hH := Ext.trans hHeld hb3
  replace HM2 := Lib.hid (HM2.out.ext hH)
  replace za_0 := hH.frozen qa_0 za_0
  replace qa_0 := hH.cell qa_0
  replace za_1 := hH.frozen qa_1 za_1
  replace qa_1 := hH.cell qa_1
  replace za_2 := hH.frozen qa_2 za_2
  replace qa_2 := hH.cell qa_2
  replace za_3 := hH.frozen qa_3 za_3
  replace qa_3 := hH.cell qa_3
  replace za_4 := hH.frozen qa_4 za_4
  replace qa_4 := hH.cell qa_4
  replace za_5 := hH.frozen qa_5 za_5
  replace qa_5 := hH.cell qa_5
  replace za_6 := hH.frozen qa_6 za_6
  replace qa_6 := hH.cell qa_6
  replace za_7 := hH.frozen qa_7 za_7
  replace qa_7 := hH.cell qa_7
  replace za_8 := hH.frozen qa_8 za_8
  replace qa_8 := hH.cell qa_8
  replace za_9 := hH.frozen qa_9 za_9
  replace qa_9 := hH.cell qa_9
  replace za_10 := hH.frozen qa_10 za_10
  replace qa_10 := hH.cell qa_10
  replace zr_0 := hH.frozen qr_0 zr_0
  replace qr_0 := hH.cell qr_0
  replace zr_1 := hH.frozen qr_1 zr_1
  replace qr_1 := hH.cell qr_1
  replace zr_2 := hH.frozen qr_2 zr_2
  replace qr_2 := hH.cell qr_2
  replace zr_3 := hH.frozen qr_3 zr_3
  replace qr_3 := hH.cell qr_3
  replace zr_4 := hH.frozen qr_4 zr_4
  replace qr_4 := hH.cell qr_4
  replace zr_5 := hH.frozen qr_5 zr_5
  replace qr_5 := hH.cell qr_5
  replace zr_6 := hH.frozen qr_6 zr_6
  replace qr_6 := hH.cell qr_6
  replace zr_7 := hH.frozen qr_7 zr_7
  replace qr_7 := hH.cell qr_7
  replace zr_8 := hH.frozen qr_8 zr_8
  replace qr_8 := hH.cell qr_8
  replace zr_9 := hH.frozen qr_9 zr_9
  replace qr_9 := hH.cell qr_9
  replace zr_10 := hH.frozen qr_10 zr_10
  replace qr_10 := hH.cell qr_10
  clear k4 k7 kW qW hHeld hH hb3
  go_upto_region 11 with (fail)
  refine settle_wp ?_
  intro w5 hb5
  replace HM2 := Lib.hid (((HM2.out.set (p := ⟨w.heap.size, 7, none⟩) (by simp) (by simp) (.int .u64 x)).set (p := ⟨w.heap.size, 4, none⟩) (by simp) (by simp) (.int .i64 ((I : Int) + 1))).ext hb5)
  have pa_0 : w5.cell? ⟨w.heap.size, 0, none⟩ = some (.int .i64 0) := hb5.cell (by simp (maxDischargeDepth := 40) [go_sem, set_some, set_same, qa_0])
  have pa_1 : w5.cell? ⟨w.heap.size, 1, none⟩ = some (.int .i64 tn) := hb5.cell (by simp (maxDischargeDepth := 40) [go_sem, set_some, set_same, qa_1])
  have pa_2 : w5.cell? ⟨w.heap.size, 2, none⟩ = some (.int .i64 0) := hb5.cell (by simp (maxDischargeDepth := 40) [go_sem, set_some, set_same, qa_2])
  have pa_3 : w5.cell? ⟨w.heap.size, 3, none⟩ = some (.int .i64 tp) := hb5.cell (by simp (maxDischargeDepth := 40) [go_sem, set_some, set_same, qa_3])
  have pa_4 : w5.cell? ⟨w.heap.size, 4, none⟩ = some (.int .i64 ((I : Int) + 1)) := hb5.cell (by simp (maxDischargeDepth := 40) [go_sem, set_some, set_same, qa_4])
  have pa_5 : w5.cell? ⟨w.heap.size, 5, none⟩ = some (.int .i64 0) := hb5.cell (by simp (maxDischargeDepth := 40) [go_sem, set_some, set_same, qa_5])
  have pa_6 : w5.cell? ⟨w.heap.size, 6, none⟩ = some (.int .u64 tf) := hb5.cell (by simp (maxDischargeDepth := 40) [go_sem, set_some, set_same, qa_6])
  have pa_7 : w5.cell? ⟨w.heap.size, 7, none⟩ = some (.int .u64 x) := hb5.cell (by simp (maxDischargeDepth := 40) [go_sem, set_some, set_same, qa_7])
  have pa_8 : w5.cell? ⟨w.heap.size, 8, none⟩ = some (.int .u64 tv) := hb5.cell (by simp (maxDischargeDepth := 40) [go_sem, set_some, set_same, qa_8])
  have pa_9 : w5.cell? ⟨w.heap.size, 9, none⟩ = some (.int .u64 0) := hb5.cell (by simp (maxDischargeDepth := 40) [go_sem, set_some, set_same, qa_9])
  have pa_10 : w5.cell? ⟨w.heap.size, 10, none⟩ = some (.slice none 0 0) := hb5.cell (by simp (maxDischargeDepth := 40) [go_sem, set_some, set_same, qa_10])
  have pr_0 : w5.cell? ⟨w.heap.size + 1, 0, none⟩ = some (.int .i64 0) := hb5.cell (by simp [go_sem, qr_0])
  have vr_0 : w5.frozen? ⟨w.heap.size + 1, 0, none⟩ = false := hb5.frozen (v := .int .i64 0) (by simp [go_sem, qr_0]) (by simp [go_sem, zr_0])
  have pr_1 : w5.cell? ⟨w.heap.size + 1, 1, none⟩ = some (.int .i64 0) := hb5.cell (by simp [go_sem, qr_1])
  have vr_1 : w5.frozen? ⟨w.heap.size + 1, 1, none⟩ = false := hb5.frozen (v := .int .i64 0) (by simp [go_sem, qr_1]) (by simp [go_sem, zr_1])
  have pr_2 : w5.cell? ⟨w.heap.size + 1, 2, none⟩ = some (.int .i64 0) := hb5.cell (by simp [go_sem, qr_2])
  have vr_2 : w5.frozen? ⟨w.heap.size + 1, 2, none⟩ = false := hb5.frozen (v := .int .i64 0) (by simp [go_sem, qr_2]) (by simp [go_sem, zr_2])
  have pr_3 : w5.cell? ⟨w.heap.size + 1, 3, none⟩ = some (.int .i64 0) := hb5.cell (by simp [go_sem, qr_3])
  have vr_3 : w5.frozen? ⟨w.heap.size + 1, 3, none⟩ = false := hb5.frozen (v := .int .i64 0) (by simp [go_sem, qr_3]) (by simp [go_sem, zr_3])
  have pr_4 : w5.cell? ⟨w.heap.size + 1, 4, none⟩ = some (.int .i64 0) := hb5.cell (by simp [go_sem, qr_4])
  have vr_4 : w5.frozen? ⟨w.heap.size + 1, 4, none⟩ = false := hb5.frozen (v := .int .i64 0) (by simp [go_sem, qr_4]) (by simp [go_sem, zr_4])
  have pr_5 : w5.cell? ⟨w.heap.size + 1, 5, none⟩ = some (.int .i64 0) := hb5.cell (by simp [go_sem, qr_5])
  have vr_5 : w5.frozen? ⟨w.heap.size + 1, 5, none⟩ = false := hb5.frozen (v := .int .i64 0) (by simp [go_sem, qr_5]) (by simp [go_sem, zr_5])
  have pr_6 : w5.cell? ⟨w.heap.size + 1, 6, none⟩ = some (.int .u64 0) := hb5.cell (by simp [go_sem, qr_6])
  have vr_6 : w5.frozen? ⟨w.heap.size + 1, 6, none⟩ = false := hb5.frozen (v := .int .u64 0) (by simp [go_sem, qr_6]) (by simp [go_sem, zr_6])
  have pr_7 : w5.cell? ⟨w.heap.size + 1, 7, none⟩ = some (.int .u64 0) := hb5.cell (by simp [go_sem, qr_7])
  have vr_7 : w5.frozen? ⟨w.heap.size + 1, 7, none⟩ = false := hb5.frozen (v := .int .u64 0) (by simp [go_sem, qr_7]) (by simp [go_sem, zr_7])
  have pr_8 : w5.cell? ⟨w.heap.size + 1, 8, none⟩ = some (.int .u64 0) := hb5.cell (by simp [go_sem, qr_8])
  have vr_8 : w5.frozen? ⟨w.heap.size + 1, 8, none⟩ = false := hb5.frozen (v := .int .u64 0) (by simp [go_sem, qr_8]) (by simp [go_sem, zr_8])
  have pr_9 : w5.cell? ⟨w.heap.size + 1, 9, none⟩ = some (.int .u64 0) := hb5.cell (by simp [go_sem, qr_9])
  have vr_9 : w5.frozen? ⟨w.heap.size + 1, 9, none⟩ = false := hb5.frozen (v := .int .u64 0) (by simp [go_sem, qr_9]) (by simp [go_sem, zr_9])
  have pr_10 : w5.cell? ⟨w.heap.size + 1, 10, none⟩ = some (.slice none 0 0) := hb5.cell (by simp [go_sem, qr_10])
  have vr_10 : w5.frozen? ⟨w.heap.size + 1, 10, none⟩ = false := hb5.frozen (v := .slice none 0 0) (by simp [go_sem, qr_10]) (by simp [go_sem, zr_10])
  clear hb5 qa_0 za_0 qa_1 za_1 qa_2 za_2 qa_3 za_3 qa_4 za_4 qa_5 za_5 qa_6 za_6 qa_7 za_7 qa_8 za_8 qa_9 za_9 qa_10 za_10 qr_0 zr_0 qr_1 zr_1 qr_2 zr_2 qr_3 zr_3 qr_4 zr_4 qr_5 zr_5 qr_6 zr_6 qr_7 zr_7 qr_8 zr_8 qr_9 zr_9 qr_10 zr_10
  go_wp2
  refine bodyPost_ret (v := .tuple #[(.agg #[.int .i64 0, .int .i64 tn, .int .i64 0, .int .i64 tp, .int .i64 ((I : Int) + 1), .int .i64 0, .int .u64 tf, .int .u64 x, .int .u64 tv, .int .u64 0, .slice none 0 0]), .bool false]) (by simp [results, Tryz.results59, go_sem, pr_0, pr_1, pr_2, pr_3, pr_4, pr_5, pr_6, pr_7, pr_8, pr_9, pr_10, pa_0, pa_1, pa_2, pa_3, pa_4, pa_5, pa_6, pa_7, pa_8, pa_9, pa_10]) rfl (HG.out _ ?mid)
  case mid => repeat (first | with_reducible exact HM2.out | refine RMid.set ?_ (by simp) (by simp) _)
set_option maxRecDepth 100000 in
theorem rScan32_ge (b : Nat) (r : RY) (f : Nat → Int) (lv : Value) (log : List Acc) (t : Int) (v : Value) (xs : List Int) (I c : Nat) (tn tp tf M tv : Int) (w : World) (h : RB w b r f lv log) (hW : r.W = 32) (hv : IntsV w v xs) (hI : I < xs.length) (hx : xs.getD I 0 = c) (hk : isK r (c : Int) 1 = true) (hc : c < r.m) (hl : log.length ≤ 1000) (hn : xs.length ≤ 1000) (f0 : 0 ≤ f c) (hM : 0 ≤ M) (h0 : ¬ I = 0) (h1 : ¬ D32 (f c - M) < 0) (h2 : I + 1 = xs.length) :
    Calls Tryz.prog 59 #[.pointer (some ⟨b, 0, none⟩), .int .i64 t, v, (.agg #[.int .i64 0, .int .i64 tn, .int .i64 0, .int .i64 tp, .int .i64 I, .int .i64 0, .int .u64 tf, .int .u64 M, .int .u64 tv, .int .u64 0, .slice none 0 0])] w (RScanDoes b r lv f (log ++ [⟨t, 1, c, f c, f c⟩]) true tn tp 0 tf (M) tv w) := by
  have CA := Lib.hid (fun w' (hx : Ext w w') => rLoad_yes b r f lv log t c w' (h.ext hx) hk hc hl)
  have HG : Hid (∀ w', RMid b r lv f (log ++ [⟨t, 1, c, f c, f c⟩]) w w' → RScanDoes b r lv f (log ++ [⟨t, 1, c, f c, f c⟩]) true tn tp 0 tf (M) tv w (.returned (.tuple #[(.agg #[.int .i64 0, .int .i64 tn, .int .i64 0, .int .i64 tp, .int .i64 0, .int .i64 0, .int .u64 tf, .int .u64 M, .int .u64 tv, .int .u64 0, .slice none 0 0]), .bool true])) w') := Lib.hid (fun w' hm => ⟨rfl, hm.does (v := .bool true)⟩)
  have HM := Lib.hid (fun lv' w1 w2 (hx : Ext w w1) hs hR hN hA => rmid_of (f' := f) (lv' := lv') (log' := (log ++ [⟨t, 1, c, f c, f c⟩])) (w1 := w1) (w2 := w2) h hx hs hR hN hA)
  generalize RScanDoes b r lv f (log ++ [⟨t, 1, c, f c, f c⟩]) true tn tp 0 tf (M) tv w = G at *
  obtain ⟨va, vc, ev, hf⟩ := hv.form
  subst ev
  obtain ⟨vb, vo, ea, cv⟩ := hf I hI
  subst ea
  rw [hx] at cv
  generalize hxx : f c = x at *
  have hI1 : (I : Int) < (xs.length : Int) := by omega
  have hI0 : (0 : Int) ≤ (I : Int) := by omega
  have d0 : ((I : Int) == 0) = false := by simp; omega
  have d1 : decide (D32 (x - M) < 0) = false := by simpa using h1
  have d2 : ((I : Int) + 1 == (xs.length : Int)) = true := by simp; omega
  have hwr : IntKind.i64.wrap ((I : Int) + 1) = (I : Int) + 1 := wrapS (by omega) (by omega)
  have hlt := fun k (hk : Own b r.gh lv k) => h.lt hk
  generalize xs.length = n at *
  clear h hv hf hI hx hk hl hn h0 h2 h1
  go_enter Tryz.func59, Tryz.ntmps59
  go_upto_region 1 with (fail)
  refine settle_wp ?_
  intro w1 hb1
  have qa_0 : w1.cell? ⟨w.heap.size, 0, none⟩ = some (.int .i64 0) := (hb1.cells.1 _ _ (by simp <;> omega)).trans (by simp [go_sem])
  have za_0 : w1.frozen? ⟨w.heap.size, 0, none⟩ = false := (hb1.cells.2 _ _ (by simp <;> omega)).trans (by simp [go_sem])
  have qa_1 : w1.cell? ⟨w.heap.size, 1, none⟩ = some (.int .i64 tn) := (hb1.cells.1 _ _ (by simp <;> omega)).trans (by simp [go_sem])
  have za_1 : w1.frozen? ⟨w.heap.size, 1, none⟩ = false := (hb1.cells.2 _ _ (by simp <;> omega)).trans (by simp [go_sem])
  have qa_2 : w1.cell? ⟨w.heap.size, 2, none⟩ = some (.int .i64 0) := (hb1.cells.1 _ _ (by simp <;> omega)).trans (by simp [go_sem])
  have za_2 : w1.frozen? ⟨w.heap.size, 2, none⟩ = false := (hb1.cells.2 _ _ (by simp <;> omega)).trans (by simp [go_sem])
  have qa_3 : w1.cell? ⟨w.heap.size, 3, none⟩ = some (.int .i64 tp) := (hb1.cells.1 _ _ (by simp <;> omega)).trans (by simp [go_sem])
  have za_3 : w1.frozen? ⟨w.heap.size, 3, none⟩ = false := (hb1.cells.2 _ _ (by simp <;> omega)).trans (by simp [go_sem])
  have qa_4 : w1.cell? ⟨w.heap.size, 4, none⟩ = some (.int .i64 I) := (hb1.cells.1 _ _ (by simp <;> omega)).trans (by simp [go_sem])
  have za_4 : w1.frozen? ⟨w.heap.size, 4, none⟩ = false := (hb1.cells.2 _ _ (by simp <;> omega)).trans (by simp [go_sem])
  have qa_5 : w1.cell? ⟨w.heap.size, 5, none⟩ = some (.int .i64 0) := (hb1.cells.1 _ _ (by simp <;> omega)).trans (by simp [go_sem])
  have za_5 : w1.frozen? ⟨w.heap.size, 5, none⟩ = false := (hb1.cells.2 _ _ (by simp <;> omega)).trans (by simp [go_sem])
  have qa_6 : w1.cell? ⟨w.heap.size, 6, none⟩ = some (.int .u64 tf) := (hb1.cells.1 _ _ (by simp <;> omega)).trans (by simp [go_sem])
  have za_6 : w1.frozen? ⟨w.heap.size, 6, none⟩ = false := (hb1.cells.2 _ _ (by simp <;> omega)).trans (by simp [go_sem])
  have qa_7 : w1.cell? ⟨w.heap.size, 7, none⟩ = some (.int .u64 M) := (hb1.cells.1 _ _ (by simp <;> omega)).trans (by simp [go_sem])
  have za_7 : w1.frozen? ⟨w.heap.size, 7, none⟩ = false := (hb1.cells.2 _ _ (by simp <;> omega)).trans (by simp [go_sem])
  have qa_8 : w1.cell? ⟨w.heap.size, 8, none⟩ = some (.int .u64 tv) := (hb1.cells.1 _ _ (by simp <;> omega)).trans (by simp [go_sem])
  have za_8 : w1.frozen? ⟨w.heap.size, 8, none⟩ = false := (hb1.cells.2 _ _ (by simp <;> omega)).trans (by simp [go_sem])
  have qa_9 : w1.cell? ⟨w.heap.size, 9, none⟩ = some (.int .u64 0) := (hb1.cells.1 _ _ (by simp <;> omega)).trans (by simp [go_sem])
  have za_9 : w1.frozen? ⟨w.heap.size, 9, none⟩ = false := (hb1.cells.2 _ _ (by simp <;> omega)).trans (by simp [go_sem])
  have qa_10 : w1.cell? ⟨w.heap.size, 10, none⟩ = some (.slice none 0 0) := (hb1.cells.1 _ _ (by simp <;> omega)).trans (by simp [go_sem])
  have za_10 : w1.frozen? ⟨w.heap.size, 10, none⟩ = false := (hb1.cells.2 _ _ (by simp <;> omega)).trans (by simp [go_sem])
  have pa := World.block_lt_of_cell? _ ⟨w.heap.size, 0, none⟩ qa_0
  have ra := Nat.lt_succ_of_lt pa
  have qr_0 : w1.cell? ⟨(w.heap.size + 1), 0, none⟩ = some (.int .i64 0) := (hb1.cells.1 _ _ (by simp <;> omega)).trans (by simp [go_sem])
  have zr_0 : w1.frozen? ⟨(w.heap.size + 1), 0, none⟩ = false := (hb1.cells.2 _ _ (by simp <;> omega)).trans (by simp [go_sem])
  have qr_1 : w1.cell? ⟨(w.heap.size + 1), 1, none⟩ = some (.int .i64 0) := (hb1.cells.1 _ _ (by simp <;> omega)).trans (by simp [go_sem])
  have zr_1 : w1.frozen? ⟨(w.heap.size + 1), 1, none⟩ = false := (hb1.cells.2 _ _ (by simp <;> omega)).trans (by simp [go_sem])
  have qr_2 : w1.cell? ⟨(w.heap.size + 1), 2, none⟩ = some (.int .i64 0) := (hb1.cells.1 _ _ (by simp <;> omega)).trans (by simp [go_sem])
  have zr_2 : w1.frozen? ⟨(w.heap.size + 1), 2, none⟩ = false := (hb1.cells.2 _ _ (by simp <;> omega)).trans (by simp [go_sem])
  have qr_3 : w1.cell? ⟨(w.heap.size + 1), 3, none⟩ = some (.int .i64 0) := (hb1.cells.1 _ _ (by simp <;> omega)).trans (by simp [go_sem])
  have zr_3 : w1.frozen? ⟨(w.heap.size + 1), 3, none⟩ = false := (hb1.cells.2 _ _ (by simp <;> omega)).trans (by simp [go_sem])
  have qr_4 : w1.cell? ⟨(w.heap.size + 1), 4, none⟩ = some (.int .i64 0) := (hb1.cells.1 _ _ (by simp <;> omega)).trans (by simp [go_sem])
  have zr_4 : w1.frozen? ⟨(w.heap.size + 1), 4, none⟩ = false := (hb1.cells.2 _ _ (by simp <;> omega)).trans (by simp [go_sem])
  have qr_5 : w1.cell? ⟨(w.heap.size + 1), 5, none⟩ = some (.int .i64 0) := (hb1.cells.1 _ _ (by simp <;> omega)).trans (by simp [go_sem])
  have zr_5 : w1.frozen? ⟨(w.heap.size + 1), 5, none⟩ = false := (hb1.cells.2 _ _ (by simp <;> omega)).trans (by simp [go_sem])
  have qr_6 : w1.cell? ⟨(w.heap.size + 1), 6, none⟩ = some (.int .u64 0) := (hb1.cells.1 _ _ (by simp <;> omega)).trans (by simp [go_sem])
  have zr_6 : w1.frozen? ⟨(w.heap.size + 1), 6, none⟩ = false := (hb1.cells.2 _ _ (by simp <;> omega)).trans (by simp [go_sem])
  have qr_7 : w1.cell? ⟨(w.heap.size + 1), 7, none⟩ = some (.int .u64 0) := (hb1.cells.1 _ _ (by simp <;> omega)).trans (by simp [go_sem])
  have zr_7 : w1.frozen? ⟨(w.heap.size + 1), 7, none⟩ = false := (hb1.cells.2 _ _ (by simp <;> omega)).trans (by simp [go_sem])
  have qr_8 : w1.cell? ⟨(w.heap.size + 1), 8, none⟩ = some (.int .u64 0) := (hb1.cells.1 _ _ (by simp <;> omega)).trans (by simp [go_sem])
  have zr_8 : w1.frozen? ⟨(w.heap.size + 1), 8, none⟩ = false := (hb1.cells.2 _ _ (by simp <;> omega)).trans (by simp [go_sem])
  have qr_9 : w1.cell? ⟨(w.heap.size + 1), 9, none⟩ = some (.int .u64 0) := (hb1.cells.1 _ _ (by simp <;> omega)).trans (by simp [go_sem])
  have zr_9 : w1.frozen? ⟨(w.heap.size + 1), 9, none⟩ = false := (hb1.cells.2 _ _ (by simp <;> omega)).trans (by simp [go_sem])
  have qr_10 : w1.cell? ⟨(w.heap.size + 1), 10, none⟩ = some (.slice none 0 0) := (hb1.cells.1 _ _ (by simp <;> omega)).trans (by simp [go_sem])
  have zr_10 : w1.frozen? ⟨(w.heap.size + 1), 10, none⟩ = false := (hb1.cells.2 _ _ (by simp <;> omega)).trans (by simp [go_sem])
  have pr := World.block_lt_of_cell? _ ⟨(w.heap.size + 1), 0, none⟩ qr_0
  have rr := Nat.lt_succ_of_lt pr
  have XE : Ext w w1 := Ext.trans (Ext.alloc (Ext.alloc (Ext.refl w) _) _) hb1
  have hs1 : w.heap.size + 2 ≤ w1.heap.size := by have h1 := hb1.size; simp at h1; omega
  have na : ¬ Own b r.gh lv w.heap.size := fun hk => by have := hlt _ hk; omega
  have nr : ¬ Own b r.gh lv (w.heap.size + 1) := fun hk => by have := hlt _ hk; omega
  replace cv := XE.cell cv
  clear hb1
  go_wp2_with fail
  refine (CA.out _ XE).mono ?_
  rintro e w2 ⟨rfl, lv2, R2, N2, A2⟩
  have HM2 := Lib.hid (HM.out lv2 _ w2 XE hs1 R2 N2 A2)
  have qW := R2.q1
  rw [hW] at qW
  replace za_0 := N2.frozen qa_0 za_0 na
  replace qa_0 := N2.cell qa_0 na
  replace za_1 := N2.frozen qa_1 za_1 na
  replace qa_1 := N2.cell qa_1 na
  replace za_2 := N2.frozen qa_2 za_2 na
  replace qa_2 := N2.cell qa_2 na
  replace za_3 := N2.frozen qa_3 za_3 na
  replace qa_3 := N2.cell qa_3 na
  replace za_4 := N2.frozen qa_4 za_4 na
  replace qa_4 := N2.cell qa_4 na
  replace za_5 := N2.frozen qa_5 za_5 na
  replace qa_5 := N2.cell qa_5 na
  replace za_6 := N2.frozen qa_6 za_6 na
  replace qa_6 := N2.cell qa_6 na
  replace za_7 := N2.frozen qa_7 za_7 na
  replace qa_7 := N2.cell qa_7 na
  replace za_8 := N2.frozen qa_8 za_8 na
  replace qa_8 := N2.cell qa_8 na
  replace za_9 := N2.frozen qa_9 za_9 na
  replace qa_9 := N2.cell qa_9 na
  replace za_10 := N2.frozen qa_10 za_10 na
  replace qa_10 := N2.cell qa_10 na
  replace zr_0 := N2.frozen qr_0 zr_0 nr
  replace qr_0 := N2.cell qr_0 nr
  replace zr_1 := N2.frozen qr_1 zr_1 nr
  replace qr_1 := N2.cell qr_1 nr
  replace zr_2 := N2.frozen qr_2 zr_2 nr
  replace qr_2 := N2.cell qr_2 nr
  replace zr_3 := N2.frozen qr_3 zr_3 nr
  replace qr_3 := N2.cell qr_3 nr
  replace zr_4 := N2.frozen qr_4 zr_4 nr
  replace qr_4 := N2.cell qr_4 nr
  replace zr_5 := N2.frozen qr_5 zr_5 nr
  replace qr_5 := N2.cell qr_5 nr
  replace zr_6 := N2.frozen qr_6 zr_6 nr
  replace qr_6 := N2.cell qr_6 nr
  replace zr_7 := N2.frozen qr_7 zr_7 nr
  replace qr_7 := N2.cell qr_7 nr
  replace zr_8 := N2.frozen qr_8 zr_8 nr
  replace qr_8 := N2.cell qr_8 nr
  replace zr_9 := N2.frozen qr_9 zr_9 nr
  replace qr_9 := N2.cell qr_9 nr
  replace zr_10 := N2.frozen qr_10 zr_10 nr
  replace qr_10 := N2.cell qr_10 nr
  clear R2 N2 A2 XE cv
  go_upto_region 5 with (fail)
  have k4 := fun w' (hx : Ext w2 w') => hx.cell qa_4
  have k7 := fun w' (hx : Ext w2 w') => hx.cell qa_7
  have kW := fun w' (hx : Ext w2 w') => hx.cell qW
  refine wp_region_held_drew (S := fun w' => Ext w2 w') (by kernel_rfl) ?hbeg (fun hHeld => ?_)
  case hbeg => exact (Ext.refl w2).drew
  have hHeld0 : Ext w2 w2 := by first | exact Ext.refl _ | assumption
  first
    | (refine take_at (i := 0) (v := ?_) rfl rfl (by kernel_rfl) (by kernel_rfl) (by kernel_rfl) (fun _ _ _ h => h) (Or.inl ⟨by rfl, ?hy⟩) (by assumption) ?_
       case hy => (intro wz hSw; (try dsimp only at hSw); go_simp <;> with_reducible rfl)
       simp only [List.setIfInBounds_toArray, List.set_cons_zero, List.set_cons_succ])
    | (refine take_at (i := 0) (v := undef) rfl rfl (by kernel_rfl) (by kernel_rfl) (by kernel_rfl) (fun _ _ _ h => h) (Or.inr ⟨by rfl, rfl⟩) (by assumption) ?_
       simp only [List.setIfInBounds_toArray, List.set_cons_zero, List.set_cons_succ])
  first
    | (refine take_at (i := 1) (v := ?_) rfl rfl (by kernel_rfl) (by kernel_rfl) (by kernel_rfl) (fun _ _ _ h => h) (Or.inl ⟨by rfl, ?hy⟩) (by assumption) ?_
       case hy => (intro wz hSw; (try dsimp only at hSw); go_simp <;> with_reducible rfl)
       simp only [List.setIfInBounds_toArray, List.set_cons_zero, List.set_cons_succ])
    | (refine take_at (i := 1) (v := undef) rfl rfl (by kernel_rfl) (by kernel_rfl) (by kernel_rfl) (fun _ _ _ h => h) (Or.inr ⟨by rfl, rfl⟩) (by assumption) ?_
       simp only [List.setIfInBounds_toArray, List.set_cons_zero, List.set_cons_succ])
  first
    | (refine take_at (i := 2) (v := ?_) rfl rfl (by kernel_rfl) (by kernel_rfl) (by kernel_rfl) (fun _ _ _ h => h) (Or.inl ⟨by rfl, ?hy⟩) (by assumption) ?_
       case hy => (intro wz hSw; (try dsimp only at hSw); go_simp <;> with_reducible rfl)
       simp only [List.setIfInBounds_toArray, List.set_cons_zero, List.set_cons_succ])
    | (refine take_at (i := 2) (v := undef) rfl rfl (by kernel_rfl) (by kernel_rfl) (by kernel_rfl) (fun _ _ _ h => h) (Or.inr ⟨by rfl, rfl⟩) (by assumption) ?_
       simp only [List.setIfInBounds_toArray, List.set_cons_zero, List.set_cons_succ])
  first
    | (refine take_at (i := 3) (v := ?_) rfl rfl (by kernel_rfl) (by kernel_rfl) (by kernel_rfl) (fun _ _ _ h => h) (Or.inl ⟨by rfl, ?hy⟩) (by assumption) ?_
       case hy => (intro wz hSw; (try dsimp only at hSw); go_simp <;> with_reducible rfl)
       simp only [List.setIfInBounds_toArray, List.set_cons_zero, List.set_cons_succ])
    | (refine take_at (i := 3) (v := undef) rfl rfl (by kernel_rfl) (by kernel_rfl) (by kernel_rfl) (fun _ _ _ h => h) (Or.inr ⟨by rfl, rfl⟩) (by assumption) ?_
       simp only [List.setIfInBounds_toArray, List.set_cons_zero, List.set_cons_succ])
  first
    | (refine take_at (i := 4) (v := ?_) rfl rfl (by kernel_rfl) (by kernel_rfl) (by kernel_rfl) (fun _ _ _ h => h) (Or.inl ⟨by rfl, ?hy⟩) (by assumption) ?_
       case hy => (intro wz hSw; (try dsimp only at hSw); go_simp <;> with_reducible rfl)
       simp only [List.setIfInBounds_toArray, List.set_cons_zero, List.set_cons_succ])
    | (refine take_at (i := 4) (v := undef) rfl rfl (by kernel_rfl) (by kernel_rfl) (by kernel_rfl) (fun _ _ _ h => h) (Or.inr ⟨by rfl, rfl⟩) (by assumption) ?_
       simp only [List.setIfInBounds_toArray, List.set_cons_zero, List.set_cons_succ])
  first
    | (refine take_at (i := 5) (v := ?_) rfl rfl (by kernel_rfl) (by kernel_rfl) (by kernel_rfl) (fun _ _ _ h => h) (Or.inl ⟨by rfl, ?hy⟩) (by assumption) ?_
       case hy => (intro wz hSw; (try dsimp only at hSw); go_simp <;> with_reducible rfl)
       simp only [List.setIfInBounds_toArray, List.set_cons_zero, List.set_cons_succ])
    | (refine take_at (i := 5) (v := undef) rfl rfl (by kernel_rfl) (by kernel_rfl) (by kernel_rfl) (fun _ _ _ h => h) (Or.inr ⟨by rfl, rfl⟩) (by assumption) ?_
       simp only [List.setIfInBounds_toArray, List.set_cons_zero, List.set_cons_succ])
  first
    | (refine take_at (i := 6) (v := ?_) rfl rfl (by kernel_rfl) (by kernel_rfl) (by kernel_rfl) (fun _ _ _ h => h) (Or.inl ⟨by rfl, ?hy⟩) (by assumption) ?_
       case hy => (intro wz hSw; (try dsimp only at hSw); go_simp <;> with_reducible rfl)
       simp only [List.setIfInBounds_toArray, List.set_cons_zero, List.set_cons_succ])
    | (refine take_at (i := 6) (v := undef) rfl rfl (by kernel_rfl) (by kernel_rfl) (by kernel_rfl) (fun _ _ _ h => h) (Or.inr ⟨by rfl, rfl⟩) (by assumption) ?_
       simp only [List.setIfInBounds_toArray, List.set_cons_zero, List.set_cons_succ])
  first
    | (refine take_at (i := 7) (v := ?_) rfl rfl (by kernel_rfl) (by kernel_rfl) (by kernel_rfl) (fun _ _ _ h => h) (Or.inl ⟨by rfl, ?hy⟩) (by assumption) ?_
       case hy => (intro wz hSw; (try dsimp only at hSw); go_simp <;> with_reducible rfl)
       simp only [List.setIfInBounds_toArray, List.set_cons_zero, List.set_cons_succ])
    | (refine take_at (i := 7) (v := undef) rfl rfl (by kernel_rfl) (by kernel_rfl) (by kernel_rfl) (fun _ _ _ h => h) (Or.inr ⟨by rfl, rfl⟩) (by assumption) ?_
       simp only [List.setIfInBounds_toArray, List.set_cons_zero, List.set_cons_succ])
  first
    | (refine take_at (i := 8) (v := ?_) rfl rfl (by kernel_rfl) (by kernel_rfl) (by kernel_rfl) (fun _ _ _ h => h) (Or.inl ⟨by rfl, ?hy⟩) (by assumption) ?_
       case hy => (intro wz hSw; (try dsimp only at hSw); go_simp <;> with_reducible rfl)
       simp only [List.setIfInBounds_toArray, List.set_cons_zero, List.set_cons_succ])
    | (refine take_at (i := 8) (v := undef) rfl rfl (by kernel_rfl) (by kernel_rfl) (by kernel_rfl) (fun _ _ _ h => h) (Or.inr ⟨by rfl, rfl⟩) (by assumption) ?_
       simp only [List.setIfInBounds_toArray, List.set_cons_zero, List.set_cons_succ])
  first
    | (refine take_at (i := 9) (v := ?_) rfl rfl (by kernel_rfl) (by kernel_rfl) (by kernel_rfl) (fun _ _ _ h => h) (Or.inl ⟨by rfl, ?hy⟩) (by assumption) ?_
       case hy => (intro wz hSw; (try dsimp only at hSw); go_simp <;> with_reducible rfl)
       simp only [List.setIfInBounds_toArray, List.set_cons_zero, List.set_cons_succ])
    | (refine take_at (i := 9) (v := undef) rfl rfl (by kernel_rfl) (by kernel_rfl) (by kernel_rfl) (fun _ _ _ h => h) (Or.inr ⟨by rfl, rfl⟩) (by assumption) ?_
       simp only [List.setIfInBounds_toArray, List.set_cons_zero, List.set_cons_succ])
  first
    | (refine take_at (i := 10) (v := ?_) rfl rfl (by kernel_rfl) (by kernel_rfl) (by kernel_rfl) (fun _ _ _ h => h) (Or.inl ⟨by rfl, ?hy⟩) (by assumption) ?_
       case hy => (intro wz hSw; (try dsimp only at hSw); go_simp <;> with_reducible rfl)
       simp only [List.setIfInBounds_toArray, List.set_cons_zero, List.set_cons_succ])
    | (refine take_at (i := 10) (v := undef) rfl rfl (by kernel_rfl) (by kernel_rfl) (by kernel_rfl) (fun _ _ _ h => h) (Or.inr ⟨by rfl, rfl⟩) (by assumption) ?_
       simp only [List.setIfInBounds_toArray, List.set_cons_zero, List.set_cons_succ])
  first
    | (refine take_at (i := 11) (v := ?_) rfl rfl (by kernel_rfl) (by kernel_rfl) (by kernel_rfl) (fun _ _ _ h => h) (Or.inl ⟨by rfl, ?hy⟩) (by assumption) ?_
       case hy => (intro wz hSw; (try dsimp only at hSw); go_simp <;> with_reducible rfl)
       simp only [List.setIfInBounds_toArray, List.set_cons_zero, List.set_cons_succ])
    | (refine take_at (i := 11) (v := undef) rfl rfl (by kernel_rfl) (by kernel_rfl) (by kernel_rfl) (fun _ _ _ h => h) (Or.inr ⟨by rfl, rfl⟩) (by assumption) ?_
       simp only [List.setIfInBounds_toArray, List.set_cons_zero, List.set_cons_succ])
  refine call_at (i := 12) (F := 79) (gapA32 x M _ (by omega) (by omega)) rfl rfl (by kernel_rfl) (by rfl) (by first | rfl | (go_simp <;> rfl)) ?_
  rintro e w' ⟨rfl, rfl⟩
  refine ⟨_, rfl, by assumption, ?_⟩
  simp only [List.setIfInBounds_toArray, List.set_cons_zero, List.set_cons_succ]
  first
    | (refine take_at (i := 13) (v := ?_) rfl rfl (by kernel_rfl) (by kernel_rfl) (by kernel_rfl) (fun _ _ _ h => h) (Or.inl ⟨by rfl, ?hy⟩) (by assumption) ?_
       case hy => (intro wz hSw; (try dsimp only at hSw); go_simp <;> with_reducible rfl)
       simp only [List.setIfInBounds_toArray, List.set_cons_zero, List.set_cons_succ])
    | (refine take_at (i := 13) (v := undef) rfl rfl (by kernel_rfl) (by kernel_rfl) (by kernel_rfl) (fun _ _ _ h => h) (Or.inr ⟨by rfl, rfl⟩) (by assumption) ?_
       simp only [List.setIfInBounds_toArray, List.set_cons_zero, List.set_cons_succ])
  first
    | (refine take_at (i := 14) (v := ?_) rfl rfl (by kernel_rfl) (by kernel_rfl) (by kernel_rfl) (fun _ _ _ h => h) (Or.inl ⟨by rfl, ?hy⟩) (by assumption) ?_
       case hy => (intro wz hSw; (try dsimp only at hSw); go_simp <;> with_reducible rfl)
       simp only [List.setIfInBounds_toArray, List.set_cons_zero, List.set_cons_succ])
    | (refine take_at (i := 14) (v := undef) rfl rfl (by kernel_rfl) (by kernel_rfl) (by kernel_rfl) (fun _ _ _ h => h) (Or.inr ⟨by rfl, rfl⟩) (by assumption) ?_
       simp only [List.setIfInBounds_toArray, List.set_cons_zero, List.set_cons_succ])
  refine wpAnyH_done (by kernel_rfl) ?_ _
  go_upto_region 7 with (fail)
  refine settle_wp ?_
  intro w3 hb3
  have hH := Ext.trans hHeld hb3
  replace HM2 := Lib.hid (HM2.out.ext hH)
  replace za_0 := hH.frozen qa_0 za_0
  replace qa_0 := hH.cell qa_0
  replace za_1 := hH.frozen qa_1 za_1
  replace qa_1 := hH.cell qa_1
  replace za_2 := hH.frozen qa_2 za_2
  replace qa_2 := hH.cell qa_2
  replace za_3 := hH.frozen qa_3 za_3
  replace qa_3 := hH.cell qa_3
  replace za_4 := hH.frozen qa_4 za_4
  replace qa_4 := hH.cell qa_4
  replace za_5 := hH.frozen qa_5 za_5
  replace qa_5 := hH.cell qa_5
  replace za_6 := hH.frozen qa_6 za_6
  replace qa_6 := hH.cell qa_6
  replace za_7 := hH.frozen qa_7 za_7
  replace qa_7 := hH.cell qa_7
  replace za_8 := hH.frozen qa_8 za_8
  replace qa_8 := hH.cell qa_8
  replace za_9 := hH.frozen qa_9 za_9
  replace qa_9 := hH.cell qa_9
  replace za_10 := hH.frozen qa_10 za_10
  replace qa_10 := hH.cell qa_10
  replace zr_0 := hH.frozen qr_0 zr_0
  replace qr_0 := hH.cell qr_0
  replace zr_1 := hH.frozen qr_1 zr_1
  replace qr_1 := hH.cell qr_1
  replace zr_2 := hH.frozen qr_2 zr_2
  replace qr_2 := hH.cell qr_2
  replace zr_3 := hH.frozen qr_3 zr_3
  replace qr_3 := hH.cell qr_3
  replace zr_4 := hH.frozen qr_4 zr_4
  replace qr_4 := hH.cell qr_4
  replace zr_5 := hH.frozen qr_5 zr_5
  replace qr_5 := hH.cell qr_5
  replace zr_6 := hH.frozen qr_6 zr_6
  replace qr_6 := hH.cell qr_6
  replace zr_7 := hH.frozen qr_7 zr_7
  replace qr_7 := hH.cell qr_7
  replace zr_8 := hH.frozen qr_8 zr_8
  replace qr_8 := hH.cell qr_8
  replace zr_9 := hH.frozen qr_9 zr_9
  replace qr_9 := hH.cell qr_9
  replace zr_10 := hH.frozen qr_10 zr_10
  replace qr_10 := hH.cell qr_10
  clear k4 k7 kW qW hHeld hH hb3
  go_upto_region 10 with (fail)
  refine settle_wp ?_
  intro w5 hb5
  replace HM2 := Lib.hid (((HM2.out.set (p := ⟨w.heap.size, 4, none⟩) (by simp) (by simp) (.int .i64 ((I : Int) + 1))).set (p := ⟨w.heap.size, 4, none⟩) (by simp) (by simp) (.int .i64 0)).ext hb5)
  have pa_0 : w5.cell? ⟨w.heap.size, 0, none⟩ = some (.int .i64 0) := hb5.cell (by simp (maxDischargeDepth := 40) [go_sem, set_some, set_same, qa_0])
  have pa_1 : w5.cell? ⟨w.heap.size, 1, none⟩ = some (.int .i64 tn) := hb5.cell (by simp (maxDischargeDepth := 40) [go_sem, set_some, set_same, qa_1])
  have pa_2 : w5.cell? ⟨w.heap.size, 2, none⟩ = some (.int .i64 0) := hb5.cell (by simp (maxDischargeDepth := 40) [go_sem, set_some, set_same, qa_2])
  have pa_3 : w5.cell? ⟨w.heap.size, 3, none⟩ = some (.int .i64 tp) := hb5.cell (by simp (maxDischargeDepth := 40) [go_sem, set_some, set_same, qa_3])
  have pa_4 : w5.cell? ⟨w.heap.size, 4, none⟩ = some (.int .i64 0) := hb5.cell (by simp (maxDischargeDepth := 40) [go_sem, set_some, set_same, qa_4])
  have pa_5 : w5.cell? ⟨w.heap.size, 5, none⟩ = some (.int .i64 0) := hb5.cell (by simp (maxDischargeDepth := 40) [go_sem, set_some, set_same, qa_5])
  have pa_6 : w5.cell? ⟨w.heap.size, 6, none⟩ = some (.int .u64 tf) := hb5.cell (by simp (maxDischargeDepth := 40) [go_sem, set_some, set_same, qa_6])
  have pa_7 : w5.cell? ⟨w.heap.size, 7, none⟩ = some (.int .u64 M) := hb5.cell (by simp (maxDischargeDepth := 40) [go_sem, set_some, set_same, qa_7])
  have pa_8 : w5.cell? ⟨w.heap.size, 8, none⟩ = some (.int .u64 tv) := hb5.cell (by simp (maxDischargeDepth := 40) [go_sem, set_some, set_same, qa_8])
  have pa_9 : w5.cell? ⟨w.heap.size, 9, none⟩ = some (.int .u64 0) := hb5.cell (by simp (maxDischargeDepth := 40) [go_sem, set_some, set_same, qa_9])
  have pa_10 : w5.cell? ⟨w.heap.size, 10, none⟩ = some (.slice none 0 0) := hb5.cell (by simp (maxDischargeDepth := 40) [go_sem, set_some, set_same, qa_10])
  have pr_0 : w5.cell? ⟨w.heap.size + 1, 0, none⟩ = some (.int .i64 0) := hb5.cell (by simp [go_sem, qr_0])
  have vr_0 : w5.frozen? ⟨w.heap.size + 1, 0, none⟩ = false := hb5.frozen (v := .int .i64 0) (by simp [go_sem, qr_0]) (by simp [go_sem, zr_0])
  have pr_1 : w5.cell? ⟨w.heap.size + 1, 1, none⟩ = some (.int .i64 0) := hb5.cell (by simp [go_sem, qr_1])
  have vr_1 : w5.frozen? ⟨w.heap.size + 1, 1, none⟩ = false := hb5.frozen (v := .int .i64 0) (by simp [go_sem, qr_1]) (by simp [go_sem, zr_1])
  have pr_2 : w5.cell? ⟨w.heap.size + 1, 2, none⟩ = some (.int .i64 0) := hb5.cell (by simp [go_sem, qr_2])
  have vr_2 : w5.frozen? ⟨w.heap.size + 1, 2, none⟩ = false := hb5.frozen (v := .int .i64 0) (by simp [go_sem, qr_2]) (by simp [go_sem, zr_2])
  have pr_3 : w5.cell? ⟨w.heap.size + 1, 3, none⟩ = some (.int .i64 0) := hb5.cell (by simp [go_sem, qr_3])
  have vr_3 : w5.frozen? ⟨w.heap.size + 1, 3, none⟩ = false := hb5.frozen (v := .int .i64 0) (by simp [go_sem, qr_3]) (by simp [go_sem, zr_3])
  have pr_4 : w5.cell? ⟨w.heap.size + 1, 4, none⟩ = some (.int .i64 0) := hb5.cell (by simp [go_sem, qr_4])
  have vr_4 : w5.frozen? ⟨w.heap.size + 1, 4, none⟩ = false := hb5.frozen (v := .int .i64 0) (by simp [go_sem, qr_4]) (by simp [go_sem, zr_4])
  have pr_5 : w5.cell? ⟨w.heap.size + 1, 5, none⟩ = some (.int .i64 0) := hb5.cell (by simp [go_sem, qr_5])
  have vr_5 : w5.frozen? ⟨w.heap.size + 1, 5, none⟩ = false := hb5.frozen (v := .int .i64 0) (by simp [go_sem, qr_5]) (by simp [go_sem, zr_5])
  have pr_6 : w5.cell? ⟨w.heap.size + 1, 6, none⟩ = some (.int .u64 0) := hb5.cell (by simp [go_sem, qr_6])
  have vr_6 : w5.frozen? ⟨w.heap.size + 1, 6, none⟩ = false := hb5.frozen (v := .int .u64 0) (by simp [go_sem, qr_6]) (by simp [go_sem, zr_6])
  have pr_7 : w5.cell? ⟨w.heap.size + 1, 7, none⟩ = some (.int .u64 0) := hb5.cell (by simp [go_sem, qr_7])
  have vr_7 : w5.frozen? ⟨w.heap.size + 1, 7, none⟩ = false := hb5.frozen (v := .int .u64 0) (by simp [go_sem, qr_7]) (by simp [go_sem, zr_7])
  have pr_8 : w5.cell? ⟨w.heap.size + 1, 8, none⟩ = some (.int .u64 0) := hb5.cell (by simp [go_sem, qr_8])
  have vr_8 : w5.frozen? ⟨w.heap.size + 1, 8, none⟩ = false := hb5.frozen (v := .int .u64 0) (by simp [go_sem, qr_8]) (by simp [go_sem, zr_8])
  have pr_9 : w5.cell? ⟨w.heap.size + 1, 9, none⟩ = some (.int .u64 0) := hb5.cell (by simp [go_sem, qr_9])
  have vr_9 : w5.frozen? ⟨w.heap.size + 1, 9, none⟩ = false := hb5.frozen (v := .int .u64 0) (by simp [go_sem, qr_9]) (by simp [go_sem, zr_9])
  have pr_10 : w5.cell? ⟨w.heap.size + 1, 10, none⟩ = some (.slice none 0 0) := hb5.cell (by simp [go_sem, qr_10])
  have vr_10 : w5.frozen? ⟨w.heap.size + 1, 10, none⟩ = false := hb5.frozen (v := .slice none 0 0) (by simp [go_sem, qr_10]) (by simp [go_sem, zr_10])
  clear hb5 qa_0 za_0 qa_1 za_1 qa_2 za_2 qa_3 za_3 qa_4 za_4 qa_5 za_5 qa_6 za_6 qa_7 za_7 qa_8 za_8 qa_9 za_9 qa_10 za_10 qr_0 zr_0 qr_1 zr_1 qr_2 zr_2 qr_3 zr_3 qr_4 zr_4 qr_5 zr_5 qr_6 zr_6 qr_7 zr_7 qr_8 zr_8 qr_9 zr_9 qr_10 zr_10
  go_wp2
  refine bodyPost_ret (v := .tuple #[(.agg #[.int .i64 0, .int .i64 tn, .int .i64 0, .int .i64 tp, .int .i64 0, .int .i64 0, .int .u64 tf, .int .u64 M, .int .u64 tv, .int .u64 0, .slice none 0 0]), .bool true]) (by simp [results, Tryz.results59, go_sem, pr_0, pr_1, pr_2, pr_3, pr_4, pr_5, pr_6, pr_7, pr_8, pr_9, pr_10, pa_0, pa_1, pa_2, pa_3, pa_4, pa_5, pa_6, pa_7, pa_8, pa_9, pa_10]) rfl (HG.out _ ?mid)
  case mid => repeat (first | with_reducible exact HM2.out | refine RMid.set ?_ (by simp) (by simp) _)
set_option maxRecDepth 100000 in
theorem rScan32_gc (b : Nat) (r : RY) (f : Nat → Int) (lv : Value) (log : List Acc) (t : Int) (v : Value) (xs : List Int) (I c : Nat) (tn tp tf M tv : Int) (w : World) (h : RB w b r f lv log) (hW : r.W = 32) (hv : IntsV w v xs) (hI : I < xs.length) (hx : xs.getD I 0 = c) (hk : isK r (c : Int) 1 = true) (hc : c < r.m) (hl : log.length ≤ 1000) (hn : xs.length ≤ 1000) (f0 : 0 ≤ f c) (hM : 0 ≤ M) (h0 : ¬ I = 0) (h1 : ¬ D32 (f c - M) < 0) (h2 : I + 1 < xs.length) :
    Calls Tryz.prog 59 #[.pointer (some ⟨b, 0, none⟩), .int .i64 t, v, (.agg #[.int .i64 0, .int .i64 tn, .int .i64 0, .int .i64 tp, .int .i64 I, .int .i64 0, .int .u64 tf, .int .u64 M, .int .u64 tv, .int .u64 0, .slice none 0 0])] w (RScanDoes b r lv f (log ++ [⟨t, 1, c, f c, f c⟩]) false tn tp ((I : Int) + 1) tf (M) tv w) := by
  have CA := Lib.hid (fun w' (hx : Ext w w') => rLoad_yes b r f lv log t c w' (h.ext hx) hk hc hl)
  have HG : Hid (∀ w', RMid b r lv f (log ++ [⟨t, 1, c, f c, f c⟩]) w w' → RScanDoes b r lv f (log ++ [⟨t, 1, c, f c, f c⟩]) false tn tp ((I : Int) + 1) tf (M) tv w (.returned (.tuple #[(.agg #[.int .i64 0, .int .i64 tn, .int .i64 0, .int .i64 tp, .int .i64 ((I : Int) + 1), .int .i64 0, .int .u64 tf, .int .u64 M, .int .u64 tv, .int .u64 0, .slice none 0 0]), .bool false])) w') := Lib.hid (fun w' hm => ⟨rfl, hm.does (v := .bool true)⟩)
  have HM := Lib.hid (fun lv' w1 w2 (hx : Ext w w1) hs hR hN hA => rmid_of (f' := f) (lv' := lv') (log' := (log ++ [⟨t, 1, c, f c, f c⟩])) (w1 := w1) (w2 := w2) h hx hs hR hN hA)
  generalize RScanDoes b r lv f (log ++ [⟨t, 1, c, f c, f c⟩]) false tn tp ((I : Int) + 1) tf (M) tv w = G at *
  obtain ⟨va, vc, ev, hf⟩ := hv.form
  subst ev
  obtain ⟨vb, vo, ea, cv⟩ := hf I hI
  subst ea
  rw [hx] at cv
  generalize hxx : f c = x at *
  have hI1 : (I : Int) < (xs.length : Int) := by omega
  have hI0 : (0 : Int) ≤ (I : Int) := by omega
  have d0 : ((I : Int) == 0) = false := by simp; omega
  have d1 : decide (D32 (x - M) < 0) = false := by simpa using h1
  have d2 : ((I : Int) + 1 == (xs.length : Int)) = false := by simp; omega
  have hwr : IntKind.i64.wrap ((I : Int) + 1) = (I : Int) + 1 := wrapS (by omega) (by omega)
  have hlt := fun k (hk : Own b r.gh lv k) => h.lt hk
  generalize xs.length = n at *
  clear h hv hf hI hx hk hl hn h0 h2 h1
  go_enter Tryz.func59, Tryz.ntmps59
  go_upto_region 1 with (fail)
  refine settle_wp ?_
  intro w1 hb1
  have qa_0 : w1.cell? ⟨w.heap.size, 0, none⟩ = some (.int .i64 0) := (hb1.cells.1 _ _ (by simp <;> omega)).trans (by simp [go_sem])
  have za_0 : w1.frozen? ⟨w.heap.size, 0, none⟩ = false := (hb1.cells.2 _ _ (by simp <;> omega)).trans (by simp [go_sem])
  have qa_1 : w1.cell? ⟨w.heap.size, 1, none⟩ = some (.int .i64 tn) := (hb1.cells.1 _ _ (by simp <;> omega)).trans (by simp [go_sem])
  have za_1 : w1.frozen? ⟨w.heap.size, 1, none⟩ = false := (hb1.cells.2 _ _ (by simp <;> omega)).trans (by simp [go_sem])
  have qa_2 : w1.cell? ⟨w.heap.size, 2, none⟩ = some (.int .i64 0) := (hb1.cells.1 _ _ (by simp <;> omega)).trans (by simp [go_sem])
  have za_2 : w1.frozen? ⟨w.heap.size, 2, none⟩ = false := (hb1.cells.2 _ _ (by simp <;> omega)).trans (by simp [go_sem])
  have qa_3 : w1.cell? ⟨w.heap.size, 3, none⟩ = some (.int .i64 tp) := (hb1.cells.1 _ _ (by simp <;> omega)).trans (by simp [go_sem])
  have za_3 : w1.frozen? ⟨w.heap.size, 3, none⟩ = false := (hb1.cells.2 _ _ (by simp <;> omega)).trans (by simp [go_sem])
  have qa_4 : w1.cell? ⟨w.heap.size, 4, none⟩ = some (.int .i64 I) := (hb1.cells.1 _ _ (by simp <;> omega)).trans (by simp [go_sem])
  have za_4 : w1.frozen? ⟨w.heap.size, 4, none⟩ = false := (hb1.cells.2 _ _ (by simp <;> omega)).trans (by simp [go_sem])
  have qa_5 : w1.cell? ⟨w.heap.size, 5, none⟩ = some (.int .i64 0) := (hb1.cells.1 _ _ (by simp <;> omega)).trans (by simp [go_sem])
  have za_5 : w1.frozen? ⟨w.heap.size, 5, none⟩ = false := (hb1.cells.2 _ _ (by simp <;> omega)).trans (by simp [go_sem])
  have qa_6 : w1.cell? ⟨w.heap.size, 6, none⟩ = some (.int .u64 tf) := (hb1.cells.1 _ _ (by simp <;> omega)).trans (by simp [go_sem])
  have za_6 : w1.frozen? ⟨w.heap.size, 6, none⟩ = false := (hb1.cells.2 _ _ (by simp <;> omega)).trans (by simp [go_sem])
  have qa_7 : w1.cell? ⟨w.heap.size, 7, none⟩ = some (.int .u64 M) := (hb1.cells.1 _ _ (by simp <;> omega)).trans (by simp [go_sem])
  have za_7 : w1.frozen? ⟨w.heap.size, 7, none⟩ = false := (hb1.cells.2 _ _ (by simp <;> omega)).trans (by simp [go_sem])
  have qa_8 : w1.cell? ⟨w.heap.size, 8, none⟩ = some (.int .u64 tv) := (hb1.cells.1 _ _ (by simp <;> omega)).trans (by simp [go_sem])
  have za_8 : w1.frozen? ⟨w.heap.size, 8, none⟩ = false := (hb1.cells.2 _ _ (by simp <;> omega)).trans (by simp [go_sem])
  have qa_9 : w1.cell? ⟨w.heap.size, 9, none⟩ = some (.int .u64 0) := (hb1.cells.1 _ _ (by simp <;> omega)).trans (by simp [go_sem])
  have za_9 : w1.frozen? ⟨w.heap.size, 9, none⟩ = false := (hb1.cells.2 _ _ (by simp <;> omega)).trans (by simp [go_sem])
  have qa_10 : w1.cell? ⟨w.heap.size, 10, none⟩ = some (.slice none 0 0) := (hb1.cells.1 _ _ (by simp <;> omega)).trans (by simp [go_sem])
  have za_10 : w1.frozen? ⟨w.heap.size, 10, none⟩ = false := (hb1.cells.2 _ _ (by simp <;> omega)).trans (by simp [go_sem])
  have pa := World.block_lt_of_cell? _ ⟨w.heap.size, 0, none⟩ qa_0
  have ra := Nat.lt_succ_of_lt pa
  have qr_0 : w1.cell? ⟨(w.heap.size + 1), 0, none⟩ = some (.int .i64 0) := (hb1.cells.1 _ _ (by simp <;> omega)).trans (by simp [go_sem])
  have zr_0 : w1.frozen? ⟨(w.heap.size + 1), 0, none⟩ = false := (hb1.cells.2 _ _ (by simp <;> omega)).trans (by simp [go_sem])
  have qr_1 : w1.cell? ⟨(w.heap.size + 1), 1, none⟩ = some (.int .i64 0) := (hb1.cells.1 _ _ (by simp <;> omega)).trans (by simp [go_sem])
  have zr_1 : w1.frozen? ⟨(w.heap.size + 1), 1, none⟩ = false := (hb1.cells.2 _ _ (by simp <;> omega)).trans (by simp [go_sem])
  have qr_2 : w1.cell? ⟨(w.heap.size + 1), 2, none⟩ = some (.int .i64 0) := (hb1.cells.1 _ _ (by simp <;> omega)).trans (by simp [go_sem])
  have zr_2 : w1.frozen? ⟨(w.heap.size + 1), 2, none⟩ = false := (hb1.cells.2 _ _ (by simp <;> omega)).trans (by simp [go_sem])
  have qr_3 : w1.cell? ⟨(w.heap.size + 1), 3, none⟩ = some (.int .i64 0) := (hb1.cells.1 _ _ (by simp <;> omega)).trans (by simp [go_sem])
  have zr_3 : w1.frozen? ⟨(w.heap.size + 1), 3, none⟩ = false := (hb1.cells.2 _ _ (by simp <;> omega)).trans (by simp [go_sem])
  have qr_4 : w1.cell? ⟨(w.heap.size + 1), 4, none⟩ = some (.int .i64 0) := (hb1.cells.1 _ _ (by simp <;> omega)).trans (by simp [go_sem])
  have zr_4 : w1.frozen? ⟨(w.heap.size + 1), 4, none⟩ = false := (hb1.cells.2 _ _ (by simp <;> omega)).trans (by simp [go_sem])
  have qr_5 : w1.cell? ⟨(w.heap.size + 1), 5, none⟩ = some (.int .i64 0) := (hb1.cells.1 _ _ (by simp <;> omega)).trans (by simp [go_sem])
  have zr_5 : w1.frozen? ⟨(w.heap.size + 1), 5, none⟩ = false := (hb1.cells.2 _ _ (by simp <;> omega)).trans (by simp [go_sem])
  have qr_6 : w1.cell? ⟨(w.heap.size + 1), 6, none⟩ = some (.int .u64 0) := (hb1.cells.1 _ _ (by simp <;> omega)).trans (by simp [go_sem])
  have zr_6 : w1.frozen? ⟨(w.heap.size + 1), 6, none⟩ = false := (hb1.cells.2 _ _ (by simp <;> omega)).trans (by simp [go_sem])
  have qr_7 : w1.cell? ⟨(w.heap.size + 1), 7, none⟩ = some (.int .u64 0) := (hb1.cells.1 _ _ (by simp <;> omega)).trans (by simp [go_sem])
  have zr_7 : w1.frozen? ⟨(w.heap.size + 1), 7, none⟩ = false := (hb1.cells.2 _ _ (by simp <;> omega)).trans (by simp [go_sem])
  have qr_8 : w1.cell? ⟨(w.heap.size + 1), 8, none⟩ = some (.int .u64 0) := (hb1.cells.1 _ _ (by simp <;> omega)).trans (by simp [go_sem])
  have zr_8 : w1.frozen? ⟨(w.heap.size + 1), 8, none⟩ = false := (hb1.cells.2 _ _ (by simp <;> omega)).trans (by simp [go_sem])
  have qr_9 : w1.cell? ⟨(w.heap.size + 1), 9, none⟩ = some (.int .u64 0) := (hb1.cells.1 _ _ (by simp <;> omega)).trans (by simp [go_sem])
  have zr_9 : w1.frozen? ⟨(w.heap.size + 1), 9, none⟩ = false := (hb1.cells.2 _ _ (by simp <;> omega)).trans (by simp [go_sem])
  have qr_10 : w1.cell? ⟨(w.heap.size + 1), 10, none⟩ = some (.slice none 0 0) := (hb1.cells.1 _ _ (by simp <;> omega)).trans (by simp [go_sem])
  have zr_10 : w1.frozen? ⟨(w.heap.size + 1), 10, none⟩ = false := (hb1.cells.2 _ _ (by simp <;> omega)).trans (by simp [go_sem])
  have pr := World.block_lt_of_cell? _ ⟨(w.heap.size + 1), 0, none⟩ qr_0
  have rr := Nat.lt_succ_of_lt pr
  have XE : Ext w w1 := Ext.trans (Ext.alloc (Ext.alloc (Ext.refl w) _) _) hb1
  have hs1 : w.heap.size + 2 ≤ w1.heap.size := by have h1 := hb1.size; simp at h1; omega
  have na : ¬ Own b r.gh lv w.heap.size := fun hk => by have := hlt _ hk; omega
  have nr : ¬ Own b r.gh lv (w.heap.size + 1) := fun hk => by have := hlt _ hk; omega
  replace cv := XE.cell cv
  clear hb1
  go_wp2_with fail
  refine (CA.out _ XE).mono ?_
  rintro e w2 ⟨rfl, lv2, R2, N2, A2⟩
  have HM2 := Lib.hid (HM.out lv2 _ w2 XE hs1 R2 N2 A2)
  have qW := R2.q1
  rw [hW] at qW
  replace za_0 := N2.frozen qa_0 za_0 na
  replace qa_0 := N2.cell qa_0 na
  replace za_1 := N2.frozen qa_1 za_1 na
  replace qa_1 := N2.cell qa_1 na
  replace za_2 := N2.frozen qa_2 za_2 na
  replace qa_2 := N2.cell qa_2 na
  replace za_3 := N2.frozen qa_3 za_3 na
  replace qa_3 := N2.cell qa_3 na
  replace za_4 := N2.frozen qa_4 za_4 na
  replace qa_4 := N2.cell qa_4 na
  replace za_5 := N2.frozen qa_5 za_5 na
  replace qa_5 := N2.cell qa_5 na
  replace za_6 := N2.frozen qa_6 za_6 na
  replace qa_6 := N2.cell qa_6 na
  replace za_7 := N2.frozen qa_7 za_7 na
  replace qa_7 := N2.cell qa_7 na
  replace za_8 := N2.frozen qa_8 za_8 na
  replace qa_8 := N2.cell qa_8 na
  replace za_9 := N2.frozen qa_9 za_9 na
  replace qa_9 := N2.cell qa_9 na
  replace za_10 := N2.frozen qa_10 za_10 na
  replace qa_10 := N2.cell qa_10 na
  replace zr_0 := N2.frozen qr_0 zr_0 nr
  replace qr_0 := N2.cell qr_0 nr
  replace zr_1 := N2.frozen qr_1 zr_1 nr
  replace qr_1 := N2.cell qr_1 nr
  replace zr_2 := N2.frozen qr_2 zr_2 nr
  replace qr_2 := N2.cell qr_2 nr
  replace zr_3 := N2.frozen qr_3 zr_3 nr
  replace qr_3 := N2.cell qr_3 nr
  replace zr_4 := N2.frozen qr_4 zr_4 nr
  replace qr_4 := N2.cell qr_4 nr
  replace zr_5 := N2.frozen qr_5 zr_5 nr
  replace qr_5 := N2.cell qr_5 nr
  replace zr_6 := N2.frozen qr_6 zr_6 nr
  replace qr_6 := N2.cell qr_6 nr
  replace zr_7 := N2.frozen qr_7 zr_7 nr
  replace qr_7 := N2.cell qr_7 nr
  replace zr_8 := N2.frozen qr_8 zr_8 nr
  replace qr_8 := N2.cell qr_8 nr
  replace zr_9 := N2.frozen qr_9 zr_9 nr
  replace qr_9 := N2.cell qr_9 nr
  replace zr_10 := N2.frozen qr_10 zr_10 nr
  replace qr_10 := N2.cell qr_10 nr
  clear R2 N2 A2 XE cv
  go_upto_region 5 with (fail)
  have k4 := fun w' (hx : Ext w2 w') => hx.cell qa_4
  have k7 := fun w' (hx : Ext w2 w') => hx.cell qa_7
  have kW := fun w' (hx : Ext w2 w') => hx.cell qW
  refine wp_region_held_drew (S := fun w' => Ext w2 w') (by kernel_rfl) ?hbeg (fun hHeld => ?_)
  case hbeg => exact (Ext.refl w2).drew
  have hHeld0 : Ext w2 w2 := by first | exact Ext.refl _ | assumption
  first
    | (refine take_at (i := 0) (v := ?_) rfl rfl (by kernel_rfl) (by kernel_rfl) (by kernel_rfl) (fun _ _ _ h => h) (Or.inl ⟨by rfl, ?hy⟩) (by assumption) ?_
       case hy => (intro wz hSw; (try dsimp only at hSw); go_simp <;> with_reducible rfl)
       simp only [List.setIfInBounds_toArray, List.set_cons_zero, List.set_cons_succ])
    | (refine take_at (i := 0) (v := undef) rfl rfl (by kernel_rfl) (by kernel_rfl) (by kernel_rfl) (fun _ _ _ h => h) (Or.inr ⟨by rfl, rfl⟩) (by assumption) ?_
       simp only [List.setIfInBounds_toArray, List.set_cons_zero, List.set_cons_succ])
  first
    | (refine take_at (i := 1) (v := ?_) rfl rfl (by kernel_rfl) (by kernel_rfl) (by kernel_rfl) (fun _ _ _ h => h) (Or.inl ⟨by rfl, ?hy⟩) (by assumption) ?_
       case hy => (intro wz hSw; (try dsimp only at hSw); go_simp <;> with_reducible rfl)
       simp only [List.setIfInBounds_toArray, List.set_cons_zero, List.set_cons_succ])
    | (refine take_at (i := 1) (v := undef) rfl rfl (by kernel_rfl) (by kernel_rfl) (by kernel_rfl) (fun _ _ _ h => h) (Or.inr ⟨by rfl, rfl⟩) (by assumption) ?_
       simp only [List.setIfInBounds_toArray, List.set_cons_zero, List.set_cons_succ])
  first
    | (refine take_at (i := 2) (v := ?_) rfl rfl (by kernel_rfl) (by kernel_rfl) (by kernel_rfl) (fun _ _ _ h => h) (Or.inl ⟨by rfl, ?hy⟩) (by assumption) ?_
       case hy => (intro wz hSw; (try dsimp only at hSw); go_simp <;> with_reducible rfl)
       simp only [List.setIfInBounds_toArray, List.set_cons_zero, List.set_cons_succ])
    | (refine take_at (i := 2) (v := undef) rfl rfl (by kernel_rfl) (by kernel_rfl) (by kernel_rfl) (fun _ _ _ h => h) (Or.inr ⟨by rfl, rfl⟩) (by assumption) ?_
       simp only [List.setIfInBounds_toArray, List.set_cons_zero, List.set_cons_succ])
  first
    | (refine take_at (i := 3) (v := ?_) rfl rfl (by kernel_rfl) (by kernel_rfl) (by kernel_rfl) (fun _ _ _ h => h) (Or.inl ⟨by rfl, ?hy⟩) (by assumption) ?_
       case hy => (intro wz hSw; (try dsimp only at hSw); go_simp <;> with_reducible rfl)
       simp only [List.setIfInBounds_toArray, List.set_cons_zero, List.set_cons_succ])
    | (refine take_at (i := 3) (v := undef) rfl rfl (by kernel_rfl) (by kernel_rfl) (by kernel_rfl) (fun _ _ _ h => h) (Or.inr ⟨by rfl, rfl⟩) (by assumption) ?_
       simp only [List.setIfInBounds_toArray, List.set_cons_zero, List.set_cons_succ])
  first
    | (refine take_at (i := 4) (v := ?_) rfl rfl (by kernel_rfl) (by kernel_rfl) (by kernel_rfl) (fun _ _ _ h => h) (Or.inl ⟨by rfl, ?hy⟩) (by assumption) ?_
       case hy => (intro wz hSw; (try dsimp only at hSw); go_simp <;> with_reducible rfl)
       simp only [List.setIfInBounds_toArray, List.set_cons_zero, List.set_cons_succ])
    | (refine take_at (i := 4) (v := undef) rfl rfl (by kernel_rfl) (by kernel_rfl) (by kernel_rfl) (fun _ _ _ h => h) (Or.inr ⟨by rfl, rfl⟩) (by assumption) ?_
       simp only [List.setIfInBounds_toArray, List.set_cons_zero, List.set_cons_succ])
  first
    | (refine take_at (i := 5) (v := ?_) rfl rfl (by kernel_rfl) (by kernel_rfl) (by kernel_rfl) (fun _ _ _ h => h) (Or.inl ⟨by rfl, ?hy⟩) (by assumption) ?_
       case hy => (intro wz hSw; (try dsimp only at hSw); go_simp <;> with_reducible rfl)
       simp only [List.setIfInBounds_toArray, List.set_cons_zero, List.set_cons_succ])
    | (refine take_at (i := 5) (v := undef) rfl rfl (by kernel_rfl) (by kernel_rfl) (by kernel_rfl) (fun _ _ _ h => h) (Or.inr ⟨by rfl, rfl⟩) (by assumption) ?_
       simp only [List.setIfInBounds_toArray, List.set_cons_zero, List.set_cons_succ])
  first
    | (refine take_at (i := 6) (v := ?_) rfl rfl (by kernel_rfl) (by kernel_rfl) (by kernel_rfl) (fun _ _ _ h => h) (Or.inl ⟨by rfl, ?hy⟩) (by assumption) ?_
       case hy => (intro wz hSw; (try dsimp only at hSw); go_simp <;> with_reducible rfl)
       simp only [List.setIfInBounds_toArray, List.set_cons_zero, List.set_cons_succ])
    | (refine take_at (i := 6) (v := undef) rfl rfl (by kernel_rfl) (by kernel_rfl) (by kernel_rfl) (fun _ _ _ h => h) (Or.inr ⟨by rfl, rfl⟩) (by assumption) ?_
       simp only [List.setIfInBounds_toArray, List.set_cons_zero, List.set_cons_succ])
  first
    | (refine take_at (i := 7) (v := ?_) rfl rfl (by kernel_rfl) (by kernel_rfl) (by kernel_rfl) (fun _ _ _ h => h) (Or.inl ⟨by rfl, ?hy⟩) (by assumption) ?_
       case hy => (intro wz hSw; (try dsimp only at hSw); go_simp <;> with_reducible rfl)
       simp only [List.setIfInBounds_toArray, List.set_cons_zero, List.set_cons_succ])
    | (refine take_at (i := 7) (v := undef) rfl rfl (by kernel_rfl) (by kernel_rfl) (by kernel_rfl) (fun _ _ _ h => h) (Or.inr ⟨by rfl, rfl⟩) (by assumption) ?_
       simp only [List.setIfInBounds_toArray, List.set_cons_zero, List.set_cons_succ])
  first
    | (refine take_at (i := 8) (v := ?_) rfl rfl (by kernel_rfl) (by kernel_rfl) (by kernel_rfl) (fun _ _ _ h => h) (Or.inl ⟨by rfl, ?hy⟩) (by assumption) ?_
       case hy => (intro wz hSw; (try dsimp only at hSw); go_simp <;> with_reducible rfl)
       simp only [List.setIfInBounds_toArray, List.set_cons_zero, List.set_cons_succ])
    | (refine take_at (i := 8) (v := undef) rfl rfl (by kernel_rfl) (by kernel_rfl) (by kernel_rfl) (fun _ _ _ h => h) (Or.inr ⟨by rfl, rfl⟩) (by assumption) ?_
       simp only [List.setIfInBounds_toArray, List.set_cons_zero, List.set_cons_succ])
  first
    | (refine take_at (i := 9) (v := ?_) rfl rfl (by kernel_rfl) (by kernel_rfl) (by kernel_rfl) (fun _ _ _ h => h) (Or.inl ⟨by rfl, ?hy⟩) (by assumption) ?_
       case hy => (intro wz hSw; (try dsimp only at hSw); go_simp <;> with_reducible rfl)
       simp only [List.setIfInBounds_toArray, List.set_cons_zero, List.set_cons_succ])
    | (refine take_at (i := 9) (v := undef) rfl rfl (by kernel_rfl) (by kernel_rfl) (by kernel_rfl) (fun _ _ _ h => h) (Or.inr ⟨by rfl, rfl⟩) (by assumption) ?_
       simp only [List.setIfInBounds_toArray, List.set_cons_zero, List.set_cons_succ])
  first
    | (refine take_at (i := 10) (v := ?_) rfl rfl (by kernel_rfl) (by kernel_rfl) (by kernel_rfl) (fun _ _ _ h => h) (Or.inl ⟨by rfl, ?hy⟩) (by assumption) ?_
       case hy => (intro wz hSw; (try dsimp only at hSw); go_simp <;> with_reducible rfl)
       simp only [List.setIfInBounds_toArray, List.set_cons_zero, List.set_cons_succ])
    | (refine take_at (i := 10) (v := undef) rfl rfl (by kernel_rfl) (by kernel_rfl) (by kernel_rfl) (fun _ _ _ h => h) (Or.inr ⟨by rfl, rfl⟩) (by assumption) ?_
       simp only [List.setIfInBounds_toArray, List.set_cons_zero, List.set_cons_succ])
  first
    | (refine take_at (i := 11) (v := ?_) rfl rfl (by kernel_rfl) (by kernel_rfl) (by kernel_rfl) (fun _ _ _ h => h) (Or.inl ⟨by rfl, ?hy⟩) (by assumption) ?_
       case hy => (intro wz hSw; (try dsimp only at hSw); go_simp <;> with_reducible rfl)
       simp only [List.setIfInBounds_toArray, List.set_cons_zero, List.set_cons_succ])
    | (refine take_at (i := 11) (v := undef) rfl rfl (by kernel_rfl) (by kernel_rfl) (by kernel_rfl) (fun _ _ _ h => h) (Or.inr ⟨by rfl, rfl⟩) (by assumption) ?_
       simp only [List.setIfInBounds_toArray, List.set_cons_zero, List.set_cons_succ])
  refine call_at (i := 12) (F := 79) (gapA32 x M _ (by omega) (by omega)) rfl rfl (by kernel_rfl) (by rfl) (by first | rfl | (go_simp <;> rfl)) ?_
  rintro e w' ⟨rfl, rfl⟩
  refine ⟨_, rfl, by assumption, ?_⟩
  simp only [List.setIfInBounds_toArray, List.set_cons_zero, List.set_cons_succ]
  first
    | (refine take_at (i := 13) (v := ?_) rfl rfl (by kernel_rfl) (by kernel_rfl) (by kernel_rfl) (fun _ _ _ h => h) (Or.inl ⟨by rfl, ?hy⟩) (by assumption) ?_
       case hy => (intro wz hSw; (try dsimp only at hSw); go_simp <;> with_reducible rfl)
       simp only [List.setIfInBounds_toArray, List.set_cons_zero, List.set_cons_succ])
    | (refine take_at (i := 13) (v := undef) rfl rfl (by kernel_rfl) (by kernel_rfl) (by kernel_rfl) (fun _ _ _ h => h) (Or.inr ⟨by rfl, rfl⟩) (by assumption) ?_
       simp only [List.setIfInBounds_toArray, List.set_cons_zero, List.set_cons_succ])
  first
    | (refine take_at (i := 14) (v := ?_) rfl rfl (by kernel_rfl) (by kernel_rfl) (by kernel_rfl) (fun _ _ _ h => h) (Or.inl ⟨by rfl, ?hy⟩) (by assumption) ?_
       case hy => (intro wz hSw; (try dsimp only at hSw); go_simp <;> with_reducible rfl)
       simp only [List.setIfInBounds_toArray, List.set_cons_zero, List.set_cons_succ])
    | (refine take_at (i := 14) (v := undef) rfl rfl (by kernel_rfl) (by kernel_rfl) (by kernel_rfl) (fun _ _ _ h => h) (Or.inr ⟨by rfl, rfl⟩) (by assumption) ?_
       simp only [List.setIfInBounds_toArray, List.set_cons_zero, List.set_cons_succ])
  refine wpAnyH_done (by kernel_rfl) ?_ _
  go_upto_region 7 with (fail)
  refine settle_wp ?_
  intro w3 hb3
  have hH := Ext.trans hHeld hb3
  replace HM2 := Lib.hid (HM2.out.ext hH)
  replace za_0 := hH.frozen qa_0 za_0
  replace qa_0 := hH.cell qa_0
  replace za_1 := hH.frozen qa_1 za_1
  replace qa_1 := hH.cell qa_1
  replace za_2 := hH.frozen qa_2 za_2
  replace qa_2 := hH.cell qa_2
  replace za_3 := hH.frozen qa_3 za_3
  replace qa_3 := hH.cell qa_3
  replace za_4 := hH.frozen qa_4 za_4
  replace qa_4 := hH.cell qa_4
  replace za_5 := hH.frozen qa_5 za_5
  replace qa_5 := hH.cell qa_5
  replace za_6 := hH.frozen qa_6 za_6
  replace qa_6 := hH.cell qa_6
  replace za_7 := hH.frozen qa_7 za_7
  replace qa_7 := hH.cell qa_7
  replace za_8 := hH.frozen qa_8 za_8
  replace qa_8 := hH.cell qa_8
  replace za_9 := hH.frozen qa_9 za_9
  replace qa_9 := hH.cell qa_9
  replace za_10 := hH.frozen qa_10 za_10
  replace qa_10 := hH.cell qa_10
  replace zr_0 := hH.frozen qr_0 zr_0
  replace qr_0 := hH.cell qr_0
  replace zr_1 := hH.frozen qr_1 zr_1
  replace qr_1 := hH.cell qr_1
  replace zr_2 := hH.frozen qr_2 zr_2
  replace qr_2 := hH.cell qr_2
  replace zr_3 := hH.frozen qr_3 zr_3
  replace qr_3 := hH.cell qr_3
  replace zr_4 := hH.frozen qr_4 zr_4
  replace qr_4 := hH.cell qr_4
  replace zr_5 := hH.frozen qr_5 zr_5
  replace qr_5 := hH.cell qr_5
  replace zr_6 := hH.frozen qr_6 zr_6
  replace qr_6 := hH.cell qr_6
  replace zr_7 := hH.frozen qr_7 zr_7
  replace qr_7 := hH.cell qr_7
  replace zr_8 := hH.frozen qr_8 zr_8
  replace qr_8 := hH.cell qr_8
  replace zr_9 := hH.frozen qr_9 zr_9
  replace qr_9 := hH.cell qr_9
  replace zr_10 := hH.frozen qr_10 zr_10
  replace qr_10 := hH.cell qr_10
  clear k4 k7 kW qW hHeld hH hb3
  go_upto_region 11 with (fail)
  refine settle_wp ?_
  intro w5 hb5
  replace HM2 := Lib.hid ((HM2.out.set (p := ⟨w.heap.size, 4, none⟩) (by simp) (by simp) (.int .i64 ((I : Int) + 1))).ext hb5)
  have pa_0 : w5.cell? ⟨w.heap.size, 0, none⟩ = some (.int .i64 0) := hb5.cell (by simp (maxDischargeDepth := 40) [go_sem, set_some, set_same, qa_0])
  have pa_1 : w5.cell? ⟨w.heap.size, 1, none⟩ = some (.int .i64 tn) := hb5.cell (by simp (maxDischargeDepth := 40) [go_sem, set_some, set_same, qa_1])
  have pa_2 : w5.cell? ⟨w.heap.size, 2, none⟩ = some (.int .i64 0) := hb5.cell (by simp (maxDischargeDepth := 40) [go_sem, set_some, set_same, qa_2])
  have pa_3 : w5.cell? ⟨w.heap.size, 3, none⟩ = some (.int .i64 tp) := hb5.cell (by simp (maxDischargeDepth := 40) [go_sem, set_some, set_same, qa_3])
  have pa_4 : w5.cell? ⟨w.heap.size, 4, none⟩ = some (.int .i64 ((I : Int) + 1)) := hb5.cell (by simp (maxDischargeDepth := 40) [go_sem, set_some, set_same, qa_4])
  have pa_5 : w5.cell? ⟨w.heap.size, 5, none⟩ = some (.int .i64 0) := hb5.cell (by simp (maxDischargeDepth := 40) [go_sem, set_some, set_same, qa_5])
  have pa_6 : w5.cell? ⟨w.heap.size, 6, none⟩ = some (.int .u64 tf) := hb5.cell (by simp (maxDischargeDepth := 40) [go_sem, set_some, set_same, qa_6])
  have pa_7 : w5.cell? ⟨w.heap.size, 7, none⟩ = some (.int .u64 M) := hb5.cell (by simp (maxDischargeDepth := 40) [go_sem, set_some, set_same, qa_7])
  have pa_8 : w5.cell? ⟨w.heap.size, 8, none⟩ = some (.int .u64 tv) := hb5.cell (by simp (maxDischargeDepth := 40) [go_sem, set_some, set_same, qa_8])
  have pa_9 : w5.cell? ⟨w.heap.size, 9, none⟩ = some (.int .u64 0) := hb5.cell (by simp (maxDischargeDepth := 40) [go_sem, set_some, set_same, qa_9])
  have pa_10 : w5.cell? ⟨w.heap.size, 10, none⟩ = some (.slice none 0 0) := hb5.cell (by simp (maxDischargeDepth := 40) [go_sem, set_some, set_same, qa_10])
  have pr_0 : w5.cell? ⟨w.heap.size + 1, 0, none⟩ = some (.int .i64 0) := hb5.cell (by simp [go_sem, qr_0])
  have vr_0 : w5.frozen? ⟨w.heap.size + 1, 0, none⟩ = false := hb5.frozen (v := .int .i64 0) (by simp [go_sem, qr_0]) (by simp [go_sem, zr_0])
  have pr_1 : w5.cell? ⟨w.heap.size + 1, 1, none⟩ = some (.int .i64 0) := hb5.cell (by simp [go_sem, qr_1])
  have vr_1 : w5.frozen? ⟨w.heap.size + 1, 1, none⟩ = false := hb5.frozen (v := .int .i64 0) (by simp [go_sem, qr_1]) (by simp [go_sem, zr_1])
  have pr_2 : w5.cell? ⟨w.heap.size + 1, 2, none⟩ = some (.int .i64 0) := hb5.cell (by simp [go_sem, qr_2])
  have vr_2 : w5.frozen? ⟨w.heap.size + 1, 2, none⟩ = false := hb5.frozen (v := .int .i64 0) (by simp [go_sem, qr_2]) (by simp [go_sem, zr_2])
  have pr_3 : w5.cell? ⟨w.heap.size + 1, 3, none⟩ = some (.int .i64 0) := hb5.cell (by simp [go_sem, qr_3])
  have vr_3 : w5.frozen? ⟨w.heap.size + 1, 3, none⟩ = false := hb5.frozen (v := .int .i64 0) (by simp [go_sem, qr_3]) (by simp [go_sem, zr_3])
  have pr_4 : w5.cell? ⟨w.heap.size + 1, 4, none⟩ = some (.int .i64 0) := hb5.cell (by simp [go_sem, qr_4])
  have vr_4 : w5.frozen? ⟨w.heap.size + 1, 4, none⟩ = false := hb5.frozen (v := .int .i64 0) (by simp [go_sem, qr_4]) (by simp [go_sem, zr_4])
  have pr_5 : w5.cell? ⟨w.heap.size + 1, 5, none⟩ = some (.int .i64 0) := hb5.cell (by simp [go_sem, qr_5])
  have vr_5 : w5.frozen? ⟨w.heap.size + 1, 5, none⟩ = false := hb5.frozen (v := .int .i64 0) (by simp [go_sem, qr_5]) (by simp [go_sem, zr_5])
  have pr_6 : w5.cell? ⟨w.heap.size + 1, 6, none⟩ = some (.int .u64 0) := hb5.cell (by simp [go_sem, qr_6])
  have vr_6 : w5.frozen? ⟨w.heap.size + 1, 6, none⟩ = false := hb5.frozen (v := .int .u64 0) (by simp [go_sem, qr_6]) (by simp [go_sem, zr_6])
  have pr_7 : w5.cell? ⟨w.heap.size + 1, 7, none⟩ = some (.int .u64 0) := hb5.cell (by simp [go_sem, qr_7])
  have vr_7 : w5.frozen? ⟨w.heap.size + 1, 7, none⟩ = false := hb5.frozen (v := .int .u64 0) (by simp [go_sem, qr_7]) (by simp [go_sem, zr_7])
  have pr_8 : w5.cell? ⟨w.heap.size + 1, 8, none⟩ = some (.int .u64 0) := hb5.cell (by simp [go_sem, qr_8])
  have vr_8 : w5.frozen? ⟨w.heap.size + 1, 8, none⟩ = false := hb5.frozen (v := .int .u64 0) (by simp [go_sem, qr_8]) (by simp [go_sem, zr_8])
  have pr_9 : w5.cell? ⟨w.heap.size + 1, 9, none⟩ = some (.int .u64 0) := hb5.cell (by simp [go_sem, qr_9])
  have vr_9 : w5.frozen? ⟨w.heap.size + 1, 9, none⟩ = false := hb5.frozen (v := .int .u64 0) (by simp [go_sem, qr_9]) (by simp [go_sem, zr_9])
  have pr_10 : w5.cell? ⟨w.heap.size + 1, 10, none⟩ = some (.slice none 0 0) := hb5.cell (by simp [go_sem, qr_10])
  have vr_10 : w5.frozen? ⟨w.heap.size + 1, 10, none⟩ = false := hb5.frozen (v := .slice none 0 0) (by simp [go_sem, qr_10]) (by simp [go_sem, zr_10])
  clear hb5 qa_0 za_0 qa_1 za_1 qa_2 za_2 qa_3 za_3 qa_4 za_4 qa_5 za_5 qa_6 za_6 qa_7 za_7 qa_8 za_8 qa_9 za_9 qa_10 za_10 qr_0 zr_0 qr_1 zr_1 qr_2 zr_2 qr_3 zr_3 qr_4 zr_4 qr_5 zr_5 qr_6 zr_6 qr_7 zr_7 qr_8 zr_8 qr_9 zr_9 qr_10 zr_10
  go_wp2
  refine bodyPost_ret (v := .tuple #[(.agg #[.int .i64 0, .int .i64 tn, .int .i64 0, .int .i64 tp, .int .i64 ((I : Int) + 1), .int .i64 0, .int .u64 tf, .int .u64 M, .int .u64 tv, .int .u64 0, .slice none 0 0]), .bool false]) (by simp [results, Tryz.results59, go_sem, pr_0, pr_1, pr_2, pr_3, pr_4, pr_5, pr_6, pr_7, pr_8, pr_9, pr_10, pa_0, pa_1, pa_2, pa_3, pa_4, pa_5, pa_6, pa_7, pa_8, pa_9, pa_10]) rfl (HG.out _ ?mid)
  case mid => repeat (first | with_reducible exact HM2.out | refine RMid.set ?_ (by simp) (by simp) _)
set_option maxRecDepth 100000 in
theorem rScan64_ze (b : Nat) (r : RY) (f : Nat → Int) (lv : Value) (log : List Acc) (t : Int) (v : Value) (xs : List Int) (I c : Nat) (tn tp tf M tv : Int) (w : World) (h : RB w b r f lv log) (hW : r.W = 64) (hv : IntsV w v xs) (hI : I < xs.length) (hx : xs.getD I 0 = c) (hk : isK r (c : Int) 1 = true) (hc : c < r.m) (hl : log.length ≤ 1000) (hn : xs.length ≤ 1000) (f0 : 0 ≤ f c) (hM : 0 ≤ M) (h0 : I = 0) (h2 : I + 1 = xs.length) :
    Calls Tryz.prog 59 #[.pointer (some ⟨b, 0, none⟩), .int .i64 t, v, (.agg #[.int .i64 0, .int .i64 tn, .int .i64 0, .int .i64 tp, .int .i64 I, .int .i64 0, .int .u64 tf, .int .u64 M, .int .u64 tv, .int .u64 0, .slice none 0 0])] w (RScanDoes b r lv f (log ++ [⟨t, 1, c, f c, f c⟩]) true tn tp 0 tf (f c) tv w) := by
  have CA := Lib.hid (fun w' (hx : Ext w w') => rLoad_yes b r f lv log t c w' (h.ext hx) hk hc hl)
  have HG : Hid (∀ w', RMid b r lv f (log ++ [⟨t, 1, c, f c, f c⟩]) w w' → RScanDoes b r lv f (log ++ [⟨t, 1, c, f c, f c⟩]) true tn tp 0 tf (f c) tv w (.returned (.tuple #[(.agg #[.int .i64 0, .int .i64 tn, .int .i64 0, .int .i64 tp, .int .i64 0, .int .i64 0, .int .u64 tf, .int .u64 (f c), .int .u64 tv, .int .u64 0, .slice none 0 0]), .bool true])) w') := Lib.hid (fun w' hm => ⟨rfl, hm.does (v := .bool true)⟩)
  have HM := Lib.hid (fun lv' w1 w2 (hx : Ext w w1) hs hR hN hA => rmid_of (f' := f) (lv' := lv') (log' := (log ++ [⟨t, 1, c, f c, f c⟩])) (w1 := w1) (w2 := w2) h hx hs hR hN hA)
  generalize RScanDoes b r lv f (log ++ [⟨t, 1, c, f c, f c⟩]) true tn tp 0 tf (f c) tv w = G at *
  obtain ⟨va, vc, ev, hf⟩ := hv.form
  subst ev
  obtain ⟨vb, vo, ea, cv⟩ := hf I hI
  subst ea
  rw [hx] at cv
  generalize hxx : f c = x at *
  have hI1 : (I : Int) < (xs.length : Int) := by omega
  have hI0 : (0 : Int) ≤ (I : Int) := by omega
  have d0 : ((I : Int) == 0) = true := by simp [h0]
  have d2 : ((I : Int) + 1 == (xs.length : Int)) = true := by simp; omega
  have hwr : IntKind.i64.wrap ((I : Int) + 1) = (I : Int) + 1 := wrapS (by omega) (by omega)
  have hlt := fun k (hk : Own b r.gh lv k) => h.lt hk
  generalize xs.length = n at *
  clear h hv hf hI hx hk hl hn h0 h2
  go_enter Tryz.func59, Tryz.ntmps59
  go_upto_region 1 with (fail)
  refine settle_wp ?_
  intro w1 hb1
  have qa_0 : w1.cell? ⟨w.heap.size, 0, none⟩ = some (.int .i64 0) := (hb1.cells.1 _ _ (by simp <;> omega)).trans (by simp [go_sem])
  have za_0 : w1.frozen? ⟨w.heap.size, 0, none⟩ = false := (hb1.cells.2 _ _ (by simp <;> omega)).trans (by simp [go_sem])
  have qa_1 : w1.cell? ⟨w.heap.size, 1, none⟩ = some (.int .i64 tn) := (hb1.cells.1 _ _ (by simp <;> omega)).trans (by simp [go_sem])
  have za_1 : w1.frozen? ⟨w.heap.size, 1, none⟩ = false := (hb1.cells.2 _ _ (by simp <;> omega)).trans (by simp [go_sem])
  have qa_2 : w1.cell? ⟨w.heap.size, 2, none⟩ = some (.int .i64 0) := (hb1.cells.1 _ _ (by simp <;> omega)).trans (by simp [go_sem])
  have za_2 : w1.frozen? ⟨w.heap.size, 2, none⟩ = false := (hb1.cells.2 _ _ (by simp <;> omega)).trans (by simp [go_sem])
  have qa_3 : w1.cell? ⟨w.heap.size, 3, none⟩ = some (.int .i64 tp) := (hb1.cells.1 _ _ (by simp <;> omega)).trans (by simp [go_sem])
  have za_3 : w1.frozen? ⟨w.heap.size, 3, none⟩ = false := (hb1.cells.2 _ _ (by simp <;> omega)).trans (by simp [go_sem])
  have qa_4 : w1.cell? ⟨w.heap.size, 4, none⟩ = some (.int .i64 I) := (hb1.cells.1 _ _ (by simp <;> omega)).trans (by simp [go_sem])
  have za_4 : w1.frozen? ⟨w.heap.size, 4, none⟩ = false := (hb1.cells.2 _ _ (by simp <;> omega)).trans (by simp [go_sem])
  have qa_5 : w1.cell? ⟨w.heap.size, 5, none⟩ = some (.int .i64 0) := (hb1.cells.1 _ _ (by simp <;> omega)).trans (by simp [go_sem])
  have za_5 : w1.frozen? ⟨w.heap.size, 5, none⟩ = false := (hb1.cells.2 _ _ (by simp <;> omega)).trans (by simp [go_sem])
  have qa_6 : w1.cell? ⟨w.heap.size, 6, none⟩ = some (.int .u64 tf) := (hb1.cells.1 _ _ (by simp <;> omega)).trans (by simp [go_sem])
  have za_6 : w1.frozen? ⟨w.heap.size, 6, none⟩ = false := (hb1.cells.2 _ _ (by simp <;> omega)).trans (by simp [go_sem])
  have qa_7 : w1.cell? ⟨w.heap.size, 7, none⟩ = some (.int .u64 M) := (hb1.cells.1 _ _ (by simp <;> omega)).trans (by simp [go_sem])
  have za_7 : w1.frozen? ⟨w.heap.size, 7, none⟩ = false := (hb1.cells.2 _ _ (by simp <;> omega)).trans (by simp [go_sem])
  have qa_8 : w1.cell? ⟨w.heap.size, 8, none⟩ = some (.int .u64 tv) := (hb1.cells.1 _ _ (by simp <;> omega)).trans (by simp [go_sem])
  have za_8 : w1.frozen? ⟨w.heap.size, 8, none⟩ = false := (hb1.cells.2 _ _ (by simp <;> omega)).trans (by simp [go_sem])
  have qa_9 : w1.cell? ⟨w.heap.size, 9, none⟩ = some (.int .u64 0) := (hb1.cells.1 _ _ (by simp <;> omega)).trans (by simp [go_sem])
  have za_9 : w1.frozen? ⟨w.heap.size, 9, none⟩ = false := (hb1.cells.2 _ _ (by simp <;> omega)).trans (by simp [go_sem])
  have qa_10 : w1.cell? ⟨w.heap.size, 10, none⟩ = some (.slice none 0 0) := (hb1.cells.1 _ _ (by simp <;> omega)).trans (by simp [go_sem])
  have za_10 : w1.frozen? ⟨w.heap.size, 10, none⟩ = false := (hb1.cells.2 _ _ (by simp <;> omega)).trans (by simp [go_sem])
  have pa := World.block_lt_of_cell? _ ⟨w.heap.size, 0, none⟩ qa_0
  have ra := Nat.lt_succ_of_lt pa
  have qr_0 : w1.cell? ⟨(w.heap.size + 1), 0, none⟩ = some (.int .i64 0) := (hb1.cells.1 _ _ (by simp <;> omega)).trans (by simp [go_sem])
  have zr_0 : w1.frozen? ⟨(w.heap.size + 1), 0, none⟩ = false := (hb1.cells.2 _ _ (by simp <;> omega)).trans (by simp [go_sem])
  have qr_1 : w1.cell? ⟨(w.heap.size + 1), 1, none⟩ = some (.int .i64 0) := (hb1.cells.1 _ _ (by simp <;> omega)).trans (by simp [go_sem])
  have zr_1 : w1.frozen? ⟨(w.heap.size + 1), 1, none⟩ = false := (hb1.cells.2 _ _ (by simp <;> omega)).trans (by simp [go_sem])
  have qr_2 : w1.cell? ⟨(w.heap.size + 1), 2, none⟩ = some (.int .i64 0) := (hb1.cells.1 _ _ (by simp <;> omega)).trans (by simp [go_sem])
  have zr_2 : w1.frozen? ⟨(w.heap.size + 1), 2, none⟩ = false := (hb1.cells.2 _ _ (by simp <;> omega)).trans (by simp [go_sem])
  have qr_3 : w1.cell? ⟨(w.heap.size + 1), 3, none⟩ = some (.int .i64 0) := (hb1.cells.1 _ _ (by simp <;> omega)).trans (by simp [go_sem])
  have zr_3 : w1.frozen? ⟨(w.heap.size + 1), 3, none⟩ = false := (hb1.cells.2 _ _ (by simp <;> omega)).trans (by simp [go_sem])
  have qr_4 : w1.cell? ⟨(w.heap.size + 1), 4, none⟩ = some (.int .i64 0) := (hb1.cells.1 _ _ (by simp <;> omega)).trans (by simp [go_sem])
  have zr_4 : w1.frozen? ⟨(w.heap.size + 1), 4, none⟩ = false := (hb1.cells.2 _ _ (by simp <;> omega)).trans (by simp [go_sem])
  have qr_5 : w1.cell? ⟨(w.heap.size + 1), 5, none⟩ = some (.int .i64 0) := (hb1.cells.1 _ _ (by simp <;> omega)).trans (by simp [go_sem])
  have zr_5 : w1.frozen? ⟨(w.heap.size + 1), 5, none⟩ = false := (hb1.cells.2 _ _ (by simp <;> omega)).trans (by simp [go_sem])
  have qr_6 : w1.cell? ⟨(w.heap.size + 1), 6, none⟩ = some (.int .u64 0) := (hb1.cells.1 _ _ (by simp <;> omega)).trans (by simp [go_sem])
  have zr_6 : w1.frozen? ⟨(w.heap.size + 1), 6, none⟩ = false := (hb1.cells.2 _ _ (by simp <;> omega)).trans (by simp [go_sem])
  have qr_7 : w1.cell? ⟨(w.heap.size + 1), 7, none⟩ = some (.int .u64 0) := (hb1.cells.1 _ _ (by simp <;> omega)).trans (by simp [go_sem])
  have zr_7 : w1.frozen? ⟨(w.heap.size + 1), 7, none⟩ = false := (hb1.cells.2 _ _ (by simp <;> omega)).trans (by simp [go_sem])
  have qr_8 : w1.cell? ⟨(w.heap.size + 1), 8, none⟩ = some (.int .u64 0) := (hb1.cells.1 _ _ (by simp <;> omega)).trans (by simp [go_sem])
  have zr_8 : w1.frozen? ⟨(w.heap.size + 1), 8, none⟩ = false := (hb1.cells.2 _ _ (by simp <;> omega)).trans (by simp [go_sem])
  have qr_9 : w1.cell? ⟨(w.heap.size + 1), 9, none⟩ = some (.int .u64 0) := (hb1.cells.1 _ _ (by simp <;> omega)).trans (by simp [go_sem])
  have zr_9 : w1.frozen? ⟨(w.heap.size + 1), 9, none⟩ = false := (hb1.cells.2 _ _ (by simp <;> omega)).trans (by simp [go_sem])
  have qr_10 : w1.cell? ⟨(w.heap.size + 1), 10, none⟩ = some (.slice none 0 0) := (hb1.cells.1 _ _ (by simp <;> omega)).trans (by simp [go_sem])
  have zr_10 : w1.frozen? ⟨(w.heap.size + 1), 10, none⟩ = false := (hb1.cells.2 _ _ (by simp <;> omega)).trans (by simp [go_sem])
  have pr := World.block_lt_of_cell? _ ⟨(w.heap.size + 1), 0, none⟩ qr_0
  have rr := Nat.lt_succ_of_lt pr
  have XE : Ext w w1 := Ext.trans (Ext.alloc (Ext.alloc (Ext.refl w) _) _) hb1
  have hs1 : w.heap.size + 2 ≤ w1.heap.size := by have h1 := hb1.size; simp at h1; omega
  have na : ¬ Own b r.gh lv w.heap.size := fun hk => by have := hlt _ hk; omega
  have nr : ¬ Own b r.gh lv (w.heap.size + 1) := fun hk => by have := hlt _ hk; omega
  replace cv := XE.cell cv
  clear hb1
  go_wp2_with fail
  refine (CA.out _ XE).mono ?_
  rintro e w2 ⟨rfl, lv2, R2, N2, A2⟩
  have HM2 := Lib.hid (HM.out lv2 _ w2 XE hs1 R2 N2 A2)
  have qW := R2.q1
  rw [hW] at qW
  replace za_0 := N2.frozen qa_0 za_0 na
  replace qa_0 := N2.cell qa_0 na
  replace za_1 := N2.frozen qa_1 za_1 na
  replace qa_1 := N2.cell qa_1 na
  replace za_2 := N2.frozen qa_2 za_2 na
  replace qa_2 := N2.cell qa_2 na
  replace za_3 := N2.frozen qa_3 za_3 na
  replace qa_3 := N2.cell qa_3 na
  replace za_4 := N2.frozen qa_4 za_4 na
  replace qa_4 := N2.cell qa_4 na
  replace za_5 := N2.frozen qa_5 za_5 na
  replace qa_5 := N2.cell qa_5 na
  replace za_6 := N2.frozen qa_6 za_6 na
  replace qa_6 := N2.cell qa_6 na
  replace za_7 := N2.frozen qa_7 za_7 na
  replace qa_7 := N2.cell qa_7 na
  replace za_8 := N2.frozen qa_8 za_8 na
  replace qa_8 := N2.cell qa_8 na
  replace za_9 := N2.frozen qa_9 za_9 na
  replace qa_9 := N2.cell qa_9 na
  replace za_10 := N2.frozen qa_10 za_10 na
  replace qa_10 := N2.cell qa_10 na
  replace zr_0 := N2.frozen qr_0 zr_0 nr
  replace qr_0 := N2.cell qr_0 nr
  replace zr_1 := N2.frozen qr_1 zr_1 nr
  replace qr_1 := N2.cell qr_1 nr
  replace zr_2 := N2.frozen qr_2 zr_2 nr
  replace qr_2 := N2.cell qr_2 nr
  replace zr_3 := N2.frozen qr_3 zr_3 nr
  replace qr_3 := N2.cell qr_3 nr
  replace zr_4 := N2.frozen qr_4 zr_4 nr
  replace qr_4 := N2.cell qr_4 nr
  replace zr_5 := N2.frozen qr_5 zr_5 nr
  replace qr_5 := N2.cell qr_5 nr
  replace zr_6 := N2.frozen qr_6 zr_6 nr
  replace qr_6 := N2.cell qr_6 nr
  replace zr_7 := N2.frozen qr_7 zr_7 nr
  replace qr_7 := N2.cell qr_7 nr
  replace zr_8 := N2.frozen qr_8 zr_8 nr
  replace qr_8 := N2.cell qr_8 nr
  replace zr_9 := N2.frozen qr_9 zr_9 nr
  replace qr_9 := N2.cell qr_9 nr
  replace zr_10 := N2.frozen qr_10 zr_10 nr
  replace qr_10 := N2.cell qr_10 nr
  clear R2 N2 A2 XE cv
  go_upto_region 5 with (fail)
  have k4 := fun w' (hx : Ext w2 w') => hx.cell qa_4
  have k7 := fun w' (hx : Ext w2 w') => hx.cell qa_7
  have kW := fun w' (hx : Ext w2 w') => hx.cell qW
  refine wp_region_held_drew (S := fun w' => Ext w2 w') (by kernel_rfl) ?hbeg (fun hHeld => ?_)
  case hbeg => exact (Ext.refl w2).drew
  have hHeld0 : Ext w2 w2 := by first | exact Ext.refl _ | assumption
  first
    | (refine take_at (i := 0) (v := ?_) rfl rfl (by kernel_rfl) (by kernel_rfl) (by kernel_rfl) (fun _ _ _ h => h) (Or.inl ⟨by rfl, ?hy⟩) (by assumption) ?_
       case hy => (intro wz hSw; (try dsimp only at hSw); go_simp <;> with_reducible rfl)
       simp only [List.setIfInBounds_toArray, List.set_cons_zero, List.set_cons_succ])
    | (refine take_at (i := 0) (v := undef) rfl rfl (by kernel_rfl) (by kernel_rfl) (by kernel_rfl) (fun _ _ _ h => h) (Or.inr ⟨by rfl, rfl⟩) (by assumption) ?_
       simp only [List.setIfInBounds_toArray, List.set_cons_zero, List.set_cons_succ])
  first
    | (refine take_at (i := 1) (v := ?_) rfl rfl (by kernel_rfl) (by kernel_rfl) (by kernel_rfl) (fun _ _ _ h => h) (Or.inl ⟨by rfl, ?hy⟩) (by assumption) ?_
       case hy => (intro wz hSw; (try dsimp only at hSw); go_simp <;> with_reducible rfl)
       simp only [List.setIfInBounds_toArray, List.set_cons_zero, List.set_cons_succ])
    | (refine take_at (i := 1) (v := undef) rfl rfl (by kernel_rfl) (by kernel_rfl) (by kernel_rfl) (fun _ _ _ h => h) (Or.inr ⟨by rfl, rfl⟩) (by assumption) ?_
       simp only [List.setIfInBounds_toArray, List.set_cons_zero, List.set_cons_succ])
  first
    | (refine take_at (i := 2) (v := ?_) rfl rfl (by kernel_rfl) (by kernel_rfl) (by kernel_rfl) (fun _ _ _ h => h) (Or.inl ⟨by rfl, ?hy⟩) (by assumption) ?_
       case hy => (intro wz hSw; (try dsimp only at hSw); go_simp <;> with_reducible rfl)
       simp only [List.setIfInBounds_toArray, List.set_cons_zero, List.set_cons_succ])
    | (refine take_at (i := 2) (v := undef) rfl rfl (by kernel_rfl) (by kernel_rfl) (by kernel_rfl) (fun _ _ _ h => h) (Or.inr ⟨by rfl, rfl⟩) (by assumption) ?_
       simp only [List.setIfInBounds_toArray, List.set_cons_zero, List.set_cons_succ])
  first
    | (refine take_at (i := 3) (v := ?_) rfl rfl (by kernel_rfl) (by kernel_rfl) (by kernel_rfl) (fun _ _ _ h => h) (Or.inl ⟨by rfl, ?hy⟩) (by assumption) ?_
       case hy => (intro wz hSw; (try dsimp only at hSw); go_simp <;> with_reducible rfl)
       simp only [List.setIfInBounds_toArray, List.set_cons_zero, List.set_cons_succ])
    | (refine take_at (i := 3) (v := undef) rfl rfl (by kernel_rfl) (by kernel_rfl) (by kernel_rfl) (fun _ _ _ h => h) (Or.inr ⟨by rfl, rfl⟩) (by assumption) ?_
       simp only [List.setIfInBounds_toArray, List.set_cons_zero, List.set_cons_succ])
  first
    | (refine take_at (i := 4) (v := ?_) rfl rfl (by kernel_rfl) (by kernel_rfl) (by kernel_rfl) (fun _ _ _ h => h) (Or.inl ⟨by rfl, ?hy⟩) (by assumption) ?_
       case hy => (intro wz hSw; (try dsimp only at hSw); go_simp <;> with_reducible rfl)
       simp only [List.setIfInBounds_toArray, List.set_cons_zero, List.set_cons_succ])
    | (refine take_at (i := 4) (v := undef) rfl rfl (by kernel_rfl) (by kernel_rfl) (by kernel_rfl) (fun _ _ _ h => h) (Or.inr ⟨by rfl, rfl⟩) (by assumption) ?_
       simp only [List.setIfInBounds_toArray, List.set_cons_zero, List.set_cons_succ])
  first
    | (refine take_at (i := 5) (v := ?_) rfl rfl (by kernel_rfl) (by kernel_rfl) (by kernel_rfl) (fun _ _ _ h => h) (Or.inl ⟨by rfl, ?hy⟩) (by assumption) ?_
       case hy => (intro wz hSw; (try dsimp only at hSw); go_simp <;> with_reducible rfl)
       simp only [List.setIfInBounds_toArray, List.set_cons_zero, List.set_cons_succ])
    | (refine take_at (i := 5) (v := undef) rfl rfl (by kernel_rfl) (by kernel_rfl) (by kernel_rfl) (fun _ _ _ h => h) (Or.inr ⟨by rfl, rfl⟩) (by assumption) ?_
       simp only [List.setIfInBounds_toArray, List.set_cons_zero, List.set_cons_succ])
  first
    | (refine take_at (i := 6) (v := ?_) rfl rfl (by kernel_rfl) (by kernel_rfl) (by kernel_rfl) (fun _ _ _ h => h) (Or.inl ⟨by rfl, ?hy⟩) (by assumption) ?_
       case hy => (intro wz hSw; (try dsimp only at hSw); go_simp <;> with_reducible rfl)
       simp only [List.setIfInBounds_toArray, List.set_cons_zero, List.set_cons_succ])
    | (refine take_at (i := 6) (v := undef) rfl rfl (by kernel_rfl) (by kernel_rfl) (by kernel_rfl) (fun _ _ _ h => h) (Or.inr ⟨by rfl, rfl⟩) (by assumption) ?_
       simp only [List.setIfInBounds_toArray, List.set_cons_zero, List.set_cons_succ])
  first
    | (refine take_at (i := 7) (v := ?_) rfl rfl (by kernel_rfl) (by kernel_rfl) (by kernel_rfl) (fun _ _ _ h => h) (Or.inl ⟨by rfl, ?hy⟩) (by assumption) ?_
       case hy => (intro wz hSw; (try dsimp only at hSw); go_simp <;> with_reducible rfl)
       simp only [List.setIfInBounds_toArray, List.set_cons_zero, List.set_cons_succ])
    | (refine take_at (i := 7) (v := undef) rfl rfl (by kernel_rfl) (by kernel_rfl) (by kernel_rfl) (fun _ _ _ h => h) (Or.inr ⟨by rfl, rfl⟩) (by assumption) ?_
       simp only [List.setIfInBounds_toArray, List.set_cons_zero, List.set_cons_succ])
  first
    | (refine take_at (i := 8) (v := ?_) rfl rfl (by kernel_rfl) (by kernel_rfl) (by kernel_rfl) (fun _ _ _ h => h) (Or.inl ⟨by rfl, ?hy⟩) (by assumption) ?_
       case hy => (intro wz hSw; (try dsimp only at hSw); go_simp <;> with_reducible rfl)
       simp only [List.setIfInBounds_toArray, List.set_cons_zero, List.set_cons_succ])
    | (refine take_at (i := 8) (v := undef) rfl rfl (by kernel_rfl) (by kernel_rfl) (by kernel_rfl) (fun _ _ _ h => h) (Or.inr ⟨by rfl, rfl⟩) (by assumption) ?_
       simp only [List.setIfInBounds_toArray, List.set_cons_zero, List.set_cons_succ])
  first
    | (refine take_at (i := 9) (v := ?_) rfl rfl (by kernel_rfl) (by kernel_rfl) (by kernel_rfl) (fun _ _ _ h => h) (Or.inl ⟨by rfl, ?hy⟩) (by assumption) ?_
       case hy => (intro wz hSw; (try dsimp only at hSw); go_simp <;> with_reducible rfl)
       simp only [List.setIfInBounds_toArray, List.set_cons_zero, List.set_cons_succ])
    | (refine take_at (i := 9) (v := undef) rfl rfl (by kernel_rfl) (by kernel_rfl) (by kernel_rfl) (fun _ _ _ h => h) (Or.inr ⟨by rfl, rfl⟩) (by assumption) ?_
       simp only [List.setIfInBounds_toArray, List.set_cons_zero, List.set_cons_succ])
  first
    | (refine take_at (i := 10) (v := ?_) rfl rfl (by kernel_rfl) (by kernel_rfl) (by kernel_rfl) (fun _ _ _ h => h) (Or.inl ⟨by rfl, ?hy⟩) (by assumption) ?_
       case hy => (intro wz hSw; (try dsimp only at hSw); go_simp <;> with_reducible rfl)
       simp only [List.setIfInBounds_toArray, List.set_cons_zero, List.set_cons_succ])
    | (refine take_at (i := 10) (v := undef) rfl rfl (by kernel_rfl) (by kernel_rfl) (by kernel_rfl) (fun _ _ _ h => h) (Or.inr ⟨by rfl, rfl⟩) (by assumption) ?_
       simp only [List.setIfInBounds_toArray, List.set_cons_zero, List.set_cons_succ])
  first
    | (refine take_at (i := 11) (v := ?_) rfl rfl (by kernel_rfl) (by kernel_rfl) (by kernel_rfl) (fun _ _ _ h => h) (Or.inl ⟨by rfl, ?hy⟩) (by assumption) ?_
       case hy => (intro wz hSw; (try dsimp only at hSw); go_simp <;> with_reducible rfl)
       simp only [List.setIfInBounds_toArray, List.set_cons_zero, List.set_cons_succ])
    | (refine take_at (i := 11) (v := undef) rfl rfl (by kernel_rfl) (by kernel_rfl) (by kernel_rfl) (fun _ _ _ h => h) (Or.inr ⟨by rfl, rfl⟩) (by assumption) ?_
       simp only [List.setIfInBounds_toArray, List.set_cons_zero, List.set_cons_succ])
  first
    | (refine take_at (i := 12) (v := ?_) rfl rfl (by kernel_rfl) (by kernel_rfl) (by kernel_rfl) (fun _ _ _ h => h) (Or.inl ⟨by rfl, ?hy⟩) (by assumption) ?_
       case hy => (intro wz hSw; (try dsimp only at hSw); go_simp <;> with_reducible rfl)
       simp only [List.setIfInBounds_toArray, List.set_cons_zero, List.set_cons_succ])
    | (refine take_at (i := 12) (v := undef) rfl rfl (by kernel_rfl) (by kernel_rfl) (by kernel_rfl) (fun _ _ _ h => h) (Or.inr ⟨by rfl, rfl⟩) (by assumption) ?_
       simp only [List.setIfInBounds_toArray, List.set_cons_zero, List.set_cons_succ])
  first
    | (refine take_at (i := 13) (v := ?_) rfl rfl (by kernel_rfl) (by kernel_rfl) (by kernel_rfl) (fun _ _ _ h => h) (Or.inl ⟨by rfl, ?hy⟩) (by assumption) ?_
       case hy => (intro wz hSw; (try dsimp only at hSw); go_simp <;> with_reducible rfl)
       simp only [List.setIfInBounds_toArray, List.set_cons_zero, List.set_cons_succ])
    | (refine take_at (i := 13) (v := undef) rfl rfl (by kernel_rfl) (by kernel_rfl) (by kernel_rfl) (fun _ _ _ h => h) (Or.inr ⟨by rfl, rfl⟩) (by assumption) ?_
       simp only [List.setIfInBounds_toArray, List.set_cons_zero, List.set_cons_succ])
  first
    | (refine take_at (i := 14) (v := ?_) rfl rfl (by kernel_rfl) (by kernel_rfl) (by kernel_rfl) (fun _ _ _ h => h) (Or.inl ⟨by rfl, ?hy⟩) (by assumption) ?_
       case hy => (intro wz hSw; (try dsimp only at hSw); go_simp <;> with_reducible rfl)
       simp only [List.setIfInBounds_toArray, List.set_cons_zero, List.set_cons_succ])
    | (refine take_at (i := 14) (v := undef) rfl rfl (by kernel_rfl) (by kernel_rfl) (by kernel_rfl) (fun _ _ _ h => h) (Or.inr ⟨by rfl, rfl⟩) (by assumption) ?_
       simp only [List.setIfInBounds_toArray, List.set_cons_zero, List.set_cons_succ])
  refine wpAnyH_done (by kernel_rfl) ?_ _
  go_upto_region 6 with (fail)
  refine settle_wp ?_
  intro w3 hb3
  have hH := Ext.trans hHeld hb3
  replace HM2 := Lib.hid (HM2.out.ext hH)
  replace za_0 := hH.frozen qa_0 za_0
  replace qa_0 := hH.cell qa_0
  replace za_1 := hH.frozen qa_1 za_1
  replace qa_1 := hH.cell qa_1
  replace za_2 := hH.frozen qa_2 za_2
  replace qa_2 := hH.cell qa_2
  replace za_3 := hH.frozen qa_3 za_3
  replace qa_3 := hH.cell qa_3
  replace za_4 := hH.frozen qa_4 za_4
  replace qa_4 := hH.cell qa_4
  replace za_5 := hH.frozen qa_5 za_5
  replace qa_5 := hH.cell qa_5
  replace za_6 := hH.frozen qa_6 za_6
  replace qa_6 := hH.cell qa_6
  replace za_7 := hH.frozen qa_7 za_7
  replace qa_7 := hH.cell qa_7
  replace za_8 := hH.frozen qa_8 za_8
  replace qa_8 := hH.cell qa_8
  replace za_9 := hH.frozen qa_9 za_9
  replace qa_9 := hH.cell qa_9
  replace za_10 := hH.frozen qa_10 za_10
  replace qa_10 := hH.cell qa_10
  replace zr_0 := hH.frozen qr_0 zr_0
  replace qr_0 := hH.cell qr_0
  replace zr_1 := hH.frozen qr_1 zr_1
  replace qr_1 := hH.cell qr_1
  replace zr_2 := hH.frozen qr_2 zr_2
  replace qr_2 := hH.cell qr_2
  replace zr_3 := hH.frozen qr_3 zr_3
  replace qr_3 := hH.cell qr_3
  replace zr_4 := hH.frozen qr_4 zr_4
  replace qr_4 := hH.cell qr_4
  replace zr_5 := hH.frozen qr_5 zr_5
  replace qr_5 := hH.cell qr_5
  replace zr_6 := hH.frozen qr_6 zr_6
  replace qr_6 := hH.cell qr_6
  replace zr_7 := hH.frozen qr_7 zr_7
  replace qr_7 := hH.cell qr_7
  replace zr_8 := hH.frozen qr_8 zr_8
  replace qr_8 := hH.cell qr_8
  replace zr_9 := hH.frozen qr_9 zr_9
  replace qr_9 := hH.cell qr_9
  replace zr_10 := hH.frozen qr_10 zr_10
  replace qr_10 := hH.cell qr_10
  clear k4 k7 kW qW hHeld hH hb3
  go_upto_region 10 with (fail)
  refine settle_wp ?_
  intro w5 hb5
  replace HM2 := Lib.hid ((((HM2.out.set (p := ⟨w.heap.size, 7, none⟩) (by simp) (by simp) (.int .u64 x)).set (p := ⟨w.heap.size, 4, none⟩) (by simp) (by simp) (.int .i64 ((I : Int) + 1))).set (p := ⟨w.heap.size, 4, none⟩) (by simp) (by simp) (.int .i64 0)).ext hb5)
  have pa_0 : w5.cell? ⟨w.heap.size, 0, none⟩ = some (.int .i64 0) := hb5.cell (by simp (maxDischargeDepth := 40) [go_sem, set_some, set_same, qa_0])
  have pa_1 : w5.cell? ⟨w.heap.size, 1, none⟩ = some (.int .i64 tn) := hb5.cell (by simp (maxDischargeDepth := 40) [go_sem, set_some, set_same, qa_1])
  have pa_2 : w5.cell? ⟨w.heap.size, 2, none⟩ = some (.int .i64 0) := hb5.cell (by simp (maxDischargeDepth := 40) [go_sem, set_some, set_same, qa_2])
  have pa_3 : w5.cell? ⟨w.heap.size, 3, none⟩ = some (.int .i64 tp) := hb5.cell (by simp (maxDischargeDepth := 40) [go_sem, set_some, set_same, qa_3])
  have pa_4 : w5.cell? ⟨w.heap.size, 4, none⟩ = some (.int .i64 0) := hb5.cell (by simp (maxDischargeDepth := 40) [go_sem, set_some, set_same, qa_4])
  have pa_5 : w5.cell? ⟨w.heap.size, 5, none⟩ = some (.int .i64 0) := hb5.cell (by simp (maxDischargeDepth := 40) [go_sem, set_some, set_same, qa_5])
  have pa_6 : w5.cell? ⟨w.heap.size, 6, none⟩ = some (.int .u64 tf) := hb5.cell (by simp (maxDischargeDepth := 40) [go_sem, set_some, set_same, qa_6])
  have pa_7 : w5.cell? ⟨w.heap.size, 7, none⟩ = some (.int .u64 x) := hb5.cell (by simp (maxDischargeDepth := 40) [go_sem, set_some, set_same, qa_7])
  have pa_8 : w5.cell? ⟨w.heap.size, 8, none⟩ = some (.int .u64 tv) := hb5.cell (by simp (maxDischargeDepth := 40) [go_sem, set_some, set_same, qa_8])
  have pa_9 : w5.cell? ⟨w.heap.size, 9, none⟩ = some (.int .u64 0) := hb5.cell (by simp (maxDischargeDepth := 40) [go_sem, set_some, set_same, qa_9])
  have pa_10 : w5.cell? ⟨w.heap.size, 10, none⟩ = some (.slice none 0 0) := hb5.cell (by simp (maxDischargeDepth := 40) [go_sem, set_some, set_same, qa_10])
  have pr_0 : w5.cell? ⟨w.heap.size + 1, 0, none⟩ = some (.int .i64 0) := hb5.cell (by simp [go_sem, qr_0])
  have vr_0 : w5.frozen? ⟨w.heap.size + 1, 0, none⟩ = false := hb5.frozen (v := .int .i64 0) (by simp [go_sem, qr_0]) (by simp [go_sem, zr_0])
  have pr_1 : w5.cell? ⟨w.heap.size + 1, 1, none⟩ = some (.int .i64 0) := hb5.cell (by simp [go_sem, qr_1])
  have vr_1 : w5.frozen? ⟨w.heap.size + 1, 1, none⟩ = false := hb5.frozen (v := .int .i64 0) (by simp [go_sem, qr_1]) (by simp [go_sem, zr_1])
  have pr_2 : w5.cell? ⟨w.heap.size + 1, 2, none⟩ = some (.int .i64 0) := hb5.cell (by simp [go_sem, qr_2])
  have vr_2 : w5.frozen? ⟨w.heap.size + 1, 2, none⟩ = false := hb5.frozen (v := .int .i64 0) (by simp [go_sem, qr_2]) (by simp [go_sem, zr_2])
  have pr_3 : w5.cell? ⟨w.heap.size + 1, 3, none⟩ = some (.int .i64 0) := hb5.cell (by simp [go_sem, qr_3])
  have vr_3 : w5.frozen? ⟨w.heap.size + 1, 3, none⟩ = false := hb5.frozen (v := .int .i64 0) (by simp [go_sem, qr_3]) (by simp [go_sem, zr_3])
  have pr_4 : w5.cell? ⟨w.heap.size + 1, 4, none⟩ = some (.int .i64 0) := hb5.cell (by simp [go_sem, qr_4])
  have vr_4 : w5.frozen? ⟨w.heap.size + 1, 4, none⟩ = false := hb5.frozen (v := .int .i64 0) (by simp [go_sem, qr_4]) (by simp [go_sem, zr_4])
  have pr_5 : w5.cell? ⟨w.heap.size + 1, 5, none⟩ = some (.int .i64 0) := hb5.cell (by simp [go_sem, qr_5])
  have vr_5 : w5.frozen? ⟨w.heap.size + 1, 5, none⟩ = false := hb5.frozen (v := .int .i64 0) (by simp [go_sem, qr_5]) (by simp [go_sem, zr_5])
  have pr_6 : w5.cell? ⟨w.heap.size + 1, 6, none⟩ = some (.int .u64 0) := hb5.cell (by simp [go_sem, qr_6])
  have vr_6 : w5.frozen? ⟨w.heap.size + 1, 6, none⟩ = false := hb5.frozen (v := .int .u64 0) (by simp [go_sem, qr_6]) (by simp [go_sem, zr_6])
  have pr_7 : w5.cell? ⟨w.heap.size + 1, 7, none⟩ = some (.int .u64 0) := hb5.cell (by simp [go_sem, qr_7])
  have vr_7 : w5.frozen? ⟨w.heap.size + 1, 7, none⟩ = false := hb5.frozen (v := .int .u64 0) (by simp [go_sem, qr_7]) (by simp [go_sem, zr_7])
  have pr_8 : w5.cell? ⟨w.heap.size + 1, 8, none⟩ = some (.int .u64 0) := hb5.cell (by simp [go_sem, qr_8])
  have vr_8 : w5.frozen? ⟨w.heap.size + 1, 8, none⟩ = false := hb5.frozen (v := .int .u64 0) (by simp [go_sem, qr_8]) (by simp [go_sem, zr_8])
  have pr_9 : w5.cell? ⟨w.heap.size + 1, 9, none⟩ = some (.int .u64 0) := hb5.cell (by simp [go_sem, qr_9])
  have vr_9 : w5.frozen? ⟨w.heap.size + 1, 9, none⟩ = false := hb5.frozen (v := .int .u64 0) (by simp [go_sem, qr_9]) (by simp [go_sem, zr_9])
  have pr_10 : w5.cell? ⟨w.heap.size + 1, 10, none⟩ = some (.slice none 0 0) := hb5.cell (by simp [go_sem, qr_10])
  have vr_10 : w5.frozen? ⟨w.heap.size + 1, 10, none⟩ = false := hb5.frozen (v := .slice none 0 0) (by simp [go_sem, qr_10]) (by simp [go_sem, zr_10])
  clear hb5 qa_0 za_0 qa_1 za_1 qa_2 za_2 qa_3 za_3 qa_4 za_4 qa_5 za_5 qa_6 za_6 qa_7 za_7 qa_8 za_8 qa_9 za_9 qa_10 za_10 qr_0 zr_0 qr_1 zr_1 qr_2 zr_2 qr_3 zr_3 qr_4 zr_4 qr_5 zr_5 qr_6 zr_6 qr_7 zr_7 qr_8 zr_8 qr_9 zr_9 qr_10 zr_10
  go_wp2
  refine bodyPost_ret (v := .tuple #[(.agg #[.int .i64 0, .int .i64 tn, .int .i64 0, .int .i64 tp, .int .i64 0, .int .i64 0, .int .u64 tf, .int .u64 x, .int .u64 tv, .int .u64 0, .slice none 0 0]), .bool true]) (by simp [results, Tryz.results59, go_sem, pr_0, pr_1, pr_2, pr_3, pr_4, pr_5, pr_6, pr_7, pr_8, pr_9, pr_10, pa_0, pa_1, pa_2, pa_3, pa_4, pa_5, pa_6, pa_7, pa_8, pa_9, pa_10]) rfl (HG.out _ ?mid)
  case mid => repeat (first | with_reducible exact HM2.out | refine RMid.set ?_ (by simp) (by simp) _)
set_option maxRecDepth 100000 in
theorem rScan64_zc (b : Nat) (r : RY) (f : Nat → Int) (lv : Value) (log : List Acc) (t : Int) (v : Value) (xs : List Int) (I c : Nat) (tn tp tf M tv : Int) (w : World) (h : RB w b r f lv log) (hW : r.W = 64) (hv : IntsV w v xs) (hI : I < xs.length) (hx : xs.getD I 0 = c) (hk : isK r (c : Int) 1 = true) (hc : c < r.m) (hl : log.length ≤ 1000) (hn : xs.length ≤ 1000) (f0 : 0 ≤ f c) (hM : 0 ≤ M) (h0 : I = 0) (h2 : I + 1 < xs.length) :
    Calls Tryz.prog 59 #[.pointer (some ⟨b, 0, none⟩), .int .i64 t, v, (.agg #[.int .i64 0, .int .i64 tn, .int .i64 0, .int .i64 tp, .int .i64 I, .int .i64 0, .int .u64 tf, .int .u64 M, .int .u64 tv, .int .u64 0, .slice none 0 0])] w (RScanDoes b r lv f (log ++ [⟨t, 1, c, f c, f c⟩]) false tn tp ((I : Int) + 1) tf (f c) tv w) := by
  have CA := Lib.hid (fun w' (hx : Ext w w') => rLoad_yes b r f lv log t c w' (h.ext hx) hk hc hl)
  have HG : Hid (∀ w', RMid b r lv f (log ++ [⟨t, 1, c, f c, f c⟩]) w w' → RScanDoes b r lv f (log ++ [⟨t, 1, c, f c, f c⟩]) false tn tp ((I : Int) + 1) tf (f c) tv w (.returned (.tuple #[(.agg #[.int .i64 0, .int .i64 tn, .int .i64 0, .int .i64 tp, .int .i64 ((I : Int) + 1), .int .i64 0, .int .u64 tf, .int .u64 (f c), .int .u64 tv, .int .u64 0, .slice none 0 0]), .bool false])) w') := Lib.hid (fun w' hm => ⟨rfl, hm.does (v := .bool true)⟩)
  have HM := Lib.hid (fun lv' w1 w2 (hx : Ext w w1) hs hR hN hA => rmid_of (f' := f) (lv' := lv') (log' := (log ++ [⟨t, 1, c, f c, f c⟩])) (w1 := w1) (w2 := w2) h hx hs hR hN hA)
  generalize RScanDoes b r lv f (log ++ [⟨t, 1, c, f c, f c⟩]) false tn tp ((I : Int) + 1) tf (f c) tv w = G at *
  obtain ⟨va, vc, ev, hf⟩ := hv.form
  subst ev
  obtain ⟨vb, vo, ea, cv⟩ := hf I hI
  subst ea
  rw [hx] at cv
  generalize hxx : f c = x at *
  have hI1 : (I : Int) < (xs.length : Int) := by omega
  have hI0 : (0 : Int) ≤ (I : Int) := by omega
  have d0 : ((I : Int) == 0) = true := by simp [h0]
  have d2 : ((I : Int) + 1 == (xs.length : Int)) = false := by simp; omega
  have hwr : IntKind.i64.wrap ((I : Int) + 1) = (I : Int) + 1 := wrapS (by omega) (by omega)
  have hlt := fun k (hk : Own b r.gh lv k) => h.lt hk
  generalize xs.length = n at *
  clear h hv hf hI hx hk hl hn h0 h2
  go_enter Tryz.func59, Tryz.ntmps59
  go_upto_region 1 with (fail)
  refine settle_wp ?_
  intro w1 hb1
  have qa_0 : w1.cell? ⟨w.heap.size, 0, none⟩ = some (.int .i64 0) := (hb1.cells.1 _ _ (by simp <;> omega)).trans (by simp [go_sem])
  have za_0 : w1.frozen? ⟨w.heap.size, 0, none⟩ = false := (hb1.cells.2 _ _ (by simp <;> omega)).trans (by simp [go_sem])
  have qa_1 : w1.cell? ⟨w.heap.size, 1, none⟩ = some (.int .i64 tn) := (hb1.cells.1 _ _ (by simp <;> omega)).trans (by simp [go_sem])
  have za_1 : w1.frozen? ⟨w.heap.size, 1, none⟩ = false := (hb1.cells.2 _ _ (by simp <;> omega)).trans (by simp [go_sem])
  have qa_2 : w1.cell? ⟨w.heap.size, 2, none⟩ = some (.int .i64 0) := (hb1.cells.1 _ _ (by simp <;> omega)).trans (by simp [go_sem])
  have za_2 : w1.frozen? ⟨w.heap.size, 2, none⟩ = false := (hb1.cells.2 _ _ (by simp <;> omega)).trans (by simp [go_sem])
  have qa_3 : w1.cell? ⟨w.heap.size, 3, none⟩ = some (.int .i64 tp) := (hb1.cells.1 _ _ (by simp <;> omega)).trans (by simp [go_sem])
  have za_3 : w1.frozen? ⟨w.heap.size, 3, none⟩ = false := (hb1.cells.2 _ _ (by simp <;> omega)).trans (by simp [go_sem])
  have qa_4 : w1.cell? ⟨w.heap.size, 4, none⟩ = some (.int .i64 I) := (hb1.cells.1 _ _ (by simp <;> omega)).trans (by simp [go_sem])
  have za_4 : w1.frozen? ⟨w.heap.size, 4, none⟩ = false := (hb1.cells.2 _ _ (by simp <;> omega)).trans (by simp [go_sem])
  have qa_5 : w1.cell? ⟨w.heap.size, 5, none⟩ = some (.int .i64 0) := (hb1.cells.1 _ _ (by simp <;> omega)).trans (by simp [go_sem])
  have za_5 : w1.frozen? ⟨w.heap.size, 5, none⟩ = false := (hb1.cells.2 _ _ (by simp <;> omega)).trans (by simp [go_sem])
  have qa_6 : w1.cell? ⟨w.heap.size, 6, none⟩ = some (.int .u64 tf) := (hb1.cells.1 _ _ (by simp <;> omega)).trans (by simp [go_sem])
  have za_6 : w1.frozen? ⟨w.heap.size, 6, none⟩ = false := (hb1.cells.2 _ _ (by simp <;> omega)).trans (by simp [go_sem])
  have qa_7 : w1.cell? ⟨w.heap.size, 7, none⟩ = some (.int .u64 M) := (hb1.cells.1 _ _ (by simp <;> omega)).trans (by simp [go_sem])
  have za_7 : w1.frozen? ⟨w.heap.size, 7, none⟩ = false := (hb1.cells.2 _ _ (by simp <;> omega)).trans (by simp [go_sem])
  have qa_8 : w1.cell? ⟨w.heap.size, 8, none⟩ = some (.int .u64 tv) := (hb1.cells.1 _ _ (by simp <;> omega)).trans (by simp [go_sem])
  have za_8 : w1.frozen? ⟨w.heap.size, 8, none⟩ = false := (hb1.cells.2 _ _ (by simp <;> omega)).trans (by simp [go_sem])
  have qa_9 : w1.cell? ⟨w.heap.size, 9, none⟩ = some (.int .u64 0) := (hb1.cells.1 _ _ (by simp <;> omega)).trans (by simp [go_sem])
  have za_9 : w1.frozen? ⟨w.heap.size, 9, none⟩ = false := (hb1.cells.2 _ _ (by simp <;> omega)).trans (by simp [go_sem])
  have qa_10 : w1.cell? ⟨w.heap.size, 10, none⟩ = some (.slice none 0 0) := (hb1.cells.1 _ _ (by simp <;> omega)).trans (by simp [go_sem])
  have za_10 : w1.frozen? ⟨w.heap.size, 10, none⟩ = false := (hb1.cells.2 _ _ (by simp <;> omega)).trans (by simp [go_sem])
  have pa := World.block_lt_of_cell? _ ⟨w.heap.size, 0, none⟩ qa_0
  have ra := Nat.lt_succ_of_lt pa
  have qr_0 : w1.cell? ⟨(w.heap.size + 1), 0, none⟩ = some (.int .i64 0) := (hb1.cells.1 _ _ (by simp <;> omega)).trans (by simp [go_sem])
  have zr_0 : w1.frozen? ⟨(w.heap.size + 1), 0, none⟩ = false := (hb1.cells.2 _ _ (by simp <;> omega)).trans (by simp [go_sem])
  have qr_1 : w1.cell? ⟨(w.heap.size + 1), 1, none⟩ = some (.int .i64 0) := (hb1.cells.1 _ _ (by simp <;> omega)).trans (by simp [go_sem])
  have zr_1 : w1.frozen? ⟨(w.heap.size + 1), 1, none⟩ = false := (hb1.cells.2 _ _ (by simp <;> omega)).trans (by simp [go_sem])
  have qr_2 : w1.cell? ⟨(w.heap.size + 1), 2, none⟩ = some (.int .i64 0) := (hb1.cells.1 _ _ (by simp <;> omega)).trans (by simp [go_sem])
  have zr_2 : w1.frozen? ⟨(w.heap.size + 1), 2, none⟩ = false := (hb1.cells.2 _ _ (by simp <;> omega)).trans (by simp [go_sem])
  have qr_3 : w1.cell? ⟨(w.heap.size + 1), 3, none⟩ = some (.int .i64 0) := (hb1.cells.1 _ _ (by simp <;> omega)).trans (by simp [go_sem])
  have zr_3 : w1.frozen? ⟨(w.heap.size + 1), 3, none⟩ = false := (hb1.cells.2 _ _ (by simp <;> omega)).trans (by simp [go_sem])
  have qr_4 : w1.cell? ⟨(w.heap.size + 1), 4, none⟩ = some (.int .i64 0) := (hb1.cells.1 _ _ (by simp <;> omega)).trans (by simp [go_sem])
  have zr_4 : w1.frozen? ⟨(w.heap.size + 1), 4, none⟩ = false := (hb1.cells.2 _ _ (by simp <;> omega)).trans (by simp [go_sem])
  have qr_5 : w1.cell? ⟨(w.heap.size + 1), 5, none⟩ = some (.int .i64 0) := (hb1.cells.1 _ _ (by simp <;> omega)).trans (by simp [go_sem])
  have zr_5 : w1.frozen? ⟨(w.heap.size + 1), 5, none⟩ = false := (hb1.cells.2 _ _ (by simp <;> omega)).trans (by simp [go_sem])
  have qr_6 : w1.cell? ⟨(w.heap.size + 1), 6, none⟩ = some (.int .u64 0) := (hb1.cells.1 _ _ (by simp <;> omega)).trans (by simp [go_sem])
  have zr_6 : w1.frozen? ⟨(w.heap.size + 1), 6, none⟩ = false := (hb1.cells.2 _ _ (by simp <;> omega)).trans (by simp [go_sem])
  have qr_7 : w1.cell? ⟨(w.heap.size + 1), 7, none⟩ = some (.int .u64 0) := (hb1.cells.1 _ _ (by simp <;> omega)).trans (by simp [go_sem])
  have zr_7 : w1.frozen? ⟨(w.heap.size + 1), 7, none⟩ = false := (hb1.cells.2 _ _ (by simp <;> omega)).trans (by simp [go_sem])
  have qr_8 : w1.cell? ⟨(w.heap.size + 1), 8, none⟩ = some (.int .u64 0) := (hb1.cells.1 _ _ (by simp <;> omega)).trans (by simp [go_sem])
  have zr_8 : w1.frozen? ⟨(w.heap.size + 1), 8, none⟩ = false := (hb1.cells.2 _ _ (by simp <;> omega)).trans (by simp [go_sem])
  have qr_9 : w1.cell? ⟨(w.heap.size + 1), 9, none⟩ = some (.int .u64 0) := (hb1.cells.1 _ _ (by simp <;> omega)).trans (by simp [go_sem])
  have zr_9 : w1.frozen? ⟨(w.heap.size + 1), 9, none⟩ = false := (hb1.cells.2 _ _ (by simp <;> omega)).trans (by simp [go_sem])
  have qr_10 : w1.cell? ⟨(w.heap.size + 1), 10, none⟩ = some (.slice none 0 0) := (hb1.cells.1 _ _ (by simp <;> omega)).trans (by simp [go_sem])
  have zr_10 : w1.frozen? ⟨(w.heap.size + 1), 10, none⟩ = false := (hb1.cells.2 _ _ (by simp <;> omega)).trans (by simp [go_sem])
  have pr := World.block_lt_of_cell? _ ⟨(w.heap.size + 1), 0, none⟩ qr_0
  have rr := Nat.lt_succ_of_lt pr
  have XE : Ext w w1 := Ext.trans (Ext.alloc (Ext.alloc (Ext.refl w) _) _) hb1
  have hs1 : w.heap.size + 2 ≤ w1.heap.size := by have h1 := hb1.size; simp at h1; omega
  have na : ¬ Own b r.gh lv w.heap.size := fun hk => by have := hlt _ hk; omega
  have nr : ¬ Own b r.gh lv (w.heap.size + 1) := fun hk => by have := hlt _ hk; omega
  replace cv := XE.cell cv
  clear hb1
  go_wp2_with fail
  refine (CA.out _ XE).mono ?_
  rintro e w2 ⟨rfl, lv2, R2, N2, A2⟩
  have HM2 := Lib.hid (HM.out lv2 _ w2 XE hs1 R2 N2 A2)
  have qW := R2.q1
  rw [hW] at qW
  replace za_0 := N2.frozen qa_0 za_0 na
  replace qa_0 := N2.cell qa_0 na
  replace za_1 := N2.frozen qa_1 za_1 na
  replace qa_1 := N2.cell qa_1 na
  replace za_2 := N2.frozen qa_2 za_2 na
  replace qa_2 := N2.cell qa_2 na
  replace za_3 := N2.frozen qa_3 za_3 na
  replace qa_3 := N2.cell qa_3 na
  replace za_4 := N2.frozen qa_4 za_4 na
  replace qa_4 := N2.cell qa_4 na
  replace za_5 := N2.frozen qa_5 za_5 na
  replace qa_5 := N2.cell qa_5 na
  replace za_6 := N2.frozen qa_6 za_6 na
  replace qa_6 := N2.cell qa_6 na
  replace za_7 := N2.frozen qa_7 za_7 na
  replace qa_7 := N2.cell qa_7 na
  replace za_8 := N2.frozen qa_8 za_8 na
  replace qa_8 := N2.cell qa_8 na
  replace za_9 := N2.frozen qa_9 za_9 na
  replace qa_9 := N2.cell qa_9 na
  replace za_10 := N2.frozen qa_10 za_10 na
  replace qa_10 := N2.cell qa_10 na
  replace zr_0 := N2.frozen qr_0 zr_0 nr
  replace qr_0 := N2.cell qr_0 nr
  replace zr_1 := N2.frozen qr_1 zr_1 nr
  replace qr_1 := N2.cell qr_1 nr
  replace zr_2 := N2.frozen qr_2 zr_2 nr
  replace qr_2 := N2.cell qr_2 nr
  replace zr_3 := N2.frozen qr_3 zr_3 nr
  replace qr_3 := N2.cell qr_3 nr
  replace zr_4 := N2.frozen qr_4 zr_4 nr
  replace qr_4 := N2.cell qr_4 nr
  replace zr_5 := N2.frozen qr_5 zr_5 nr
  replace qr_5 := N2.cell qr_5 nr
  replace zr_6 := N2.frozen qr_6 zr_6 nr
  replace qr_6 := N2.cell qr_6 nr
  replace zr_7 := N2.frozen qr_7 zr_7 nr
  replace qr_7 := N2.cell qr_7 nr
  replace zr_8 := N2.frozen qr_8 zr_8 nr
  replace qr_8 := N2.cell qr_8 nr
  replace zr_9 := N2.frozen qr_9 zr_9 nr
  replace qr_9 := N2.cell qr_9 nr
  replace zr_10 := N2.frozen qr_10 zr_10 nr
  replace qr_10 := N2.cell qr_10 nr
  clear R2 N2 A2 XE cv
  go_upto_region 5 with (fail)
  have k4 := fun w' (hx : Ext w2 w') => hx.cell qa_4
  have k7 := fun w' (hx : Ext w2 w') => hx.cell qa_7
  have kW := fun w' (hx : Ext w2 w') => hx.cell qW
  refine wp_region_held_drew (S := fun w' => Ext w2 w') (by kernel_rfl) ?hbeg (fun hHeld => ?_)
  case hbeg => exact (Ext.refl w2).drew
  have hHeld0 : Ext w2 w2 := by first | exact Ext.refl _ | assumption
  first
    | (refine take_at (i := 0) (v := ?_) rfl rfl (by kernel_rfl) (by kernel_rfl) (by kernel_rfl) (fun _ _ _ h => h) (Or.inl ⟨by rfl, ?hy⟩) (by assumption) ?_
       case hy => (intro wz hSw; (try dsimp only at hSw); go_simp <;> with_reducible rfl)
       simp only [List.setIfInBounds_toArray, List.set_cons_zero, List.set_cons_succ])
    | (refine take_at (i := 0) (v := undef) rfl rfl (by kernel_rfl) (by kernel_rfl) (by kernel_rfl) (fun _ _ _ h => h) (Or.inr ⟨by rfl, rfl⟩) (by assumption) ?_
       simp only [List.setIfInBounds_toArray, List.set_cons_zero, List.set_cons_succ])
  first
    | (refine take_at (i := 1) (v := ?_) rfl rfl (by kernel_rfl) (by kernel_rfl) (by kernel_rfl) (fun _ _ _ h => h) (Or.inl ⟨by rfl, ?hy⟩) (by assumption) ?_
       case hy => (intro wz hSw; (try dsimp only at hSw); go_simp <;> with_reducible rfl)
       simp only [List.setIfInBounds_toArray, List.set_cons_zero, List.set_cons_succ])
    | (refine take_at (i := 1) (v := undef) rfl rfl (by kernel_rfl) (by kernel_rfl) (by kernel_rfl) (fun _ _ _ h => h) (Or.inr ⟨by rfl, rfl⟩) (by assumption) ?_
       simp only [List.setIfInBounds_toArray, List.set_cons_zero, List.set_cons_succ])
  first
    | (refine take_at (i := 2) (v := ?_) rfl rfl (by kernel_rfl) (by kernel_rfl) (by kernel_rfl) (fun _ _ _ h => h) (Or.inl ⟨by rfl, ?hy⟩) (by assumption) ?_
       case hy => (intro wz hSw; (try dsimp only at hSw); go_simp <;> with_reducible rfl)
       simp only [List.setIfInBounds_toArray, List.set_cons_zero, List.set_cons_succ])
    | (refine take_at (i := 2) (v := undef) rfl rfl (by kernel_rfl) (by kernel_rfl) (by kernel_rfl) (fun _ _ _ h => h) (Or.inr ⟨by rfl, rfl⟩) (by assumption) ?_
       simp only [List.setIfInBounds_toArray, List.set_cons_zero, List.set_cons_succ])
  first
    | (refine take_at (i := 3) (v := ?_) rfl rfl (by kernel_rfl) (by kernel_rfl) (by kernel_rfl) (fun _ _ _ h => h) (Or.inl ⟨by rfl, ?hy⟩) (by assumption) ?_
       case hy => (intro wz hSw; (try dsimp only at hSw); go_simp <;> with_reducible rfl)
       simp only [List.setIfInBounds_toArray, List.set_cons_zero, List.set_cons_succ])
    | (refine take_at (i := 3) (v := undef) rfl rfl (by kernel_rfl) (by kernel_rfl) (by kernel_rfl) (fun _ _ _ h => h) (Or.inr ⟨by rfl, rfl⟩) (by assumption) ?_
       simp only [List.setIfInBounds_toArray, List.set_cons_zero, List.set_cons_succ])
  first
    | (refine take_at (i := 4) (v := ?_) rfl rfl (by kernel_rfl) (by kernel_rfl) (by kernel_rfl) (fun _ _ _ h => h) (Or.inl ⟨by rfl, ?hy⟩) (by assumption) ?_
       case hy => (intro wz hSw; (try dsimp only at hSw); go_simp <;> with_reducible rfl)
       simp only [List.setIfInBounds_toArray, List.set_cons_zero, List.set_cons_succ])
    | (refine take_at (i := 4) (v := undef) rfl rfl (by kernel_rfl) (by kernel_rfl) (by kernel_rfl) (fun _ _ _ h => h) (Or.inr ⟨by rfl, rfl⟩) (by assumption) ?_
       simp only [List.setIfInBounds_toArray, List.set_cons_zero, List.set_cons_succ])
  first
    | (refine take_at (i := 5) (v := ?_) rfl rfl (by kernel_rfl) (by kernel_rfl) (by kernel_rfl) (fun _ _ _ h => h) (Or.inl ⟨by rfl, ?hy⟩) (by assumption) ?_
       case hy => (intro wz hSw; (try dsimp only at hSw); go_simp <;> with_reducible rfl)
       simp only [List.setIfInBounds_toArray, List.set_cons_zero, List.set_cons_succ])
    | (refine take_at (i := 5) (v := undef) rfl rfl (by kernel_rfl) (by kernel_rfl) (by kernel_rfl) (fun _ _ _ h => h) (Or.inr ⟨by rfl, rfl⟩) (by assumption) ?_
       simp only [List.setIfInBounds_toArray, List.set_cons_zero, List.set_cons_succ])
  first
    | (refine take_at (i := 6) (v := ?_) rfl rfl (by kernel_rfl) (by kernel_rfl) (by kernel_rfl) (fun _ _ _ h => h) (Or.inl ⟨by rfl, ?hy⟩) (by assumption) ?_
       case hy => (intro wz hSw; (try dsimp only at hSw); go_simp <;> with_reducible rfl)
       simp only [List.setIfInBounds_toArray, List.set_cons_zero, List.set_cons_succ])
    | (refine take_at (i := 6) (v := undef) rfl rfl (by kernel_rfl) (by kernel_rfl) (by kernel_rfl) (fun _ _ _ h => h) (Or.inr ⟨by rfl, rfl⟩) (by assumption) ?_
       simp only [List.setIfInBounds_toArray, List.set_cons_zero, List.set_cons_succ])
  first
    | (refine take_at (i := 7) (v := ?_) rfl rfl (by kernel_rfl) (by kernel_rfl) (by kernel_rfl) (fun _ _ _ h => h) (Or.inl ⟨by rfl, ?hy⟩) (by assumption) ?_
       case hy => (intro wz hSw; (try dsimp only at hSw); go_simp <;> with_reducible rfl)
       simp only [List.setIfInBounds_toArray, List.set_cons_zero, List.set_cons_succ])
    | (refine take_at (i := 7) (v := undef) rfl rfl (by kernel_rfl) (by kernel_rfl) (by kernel_rfl) (fun _ _ _ h => h) (Or.inr ⟨by rfl, rfl⟩) (by assumption) ?_
       simp only [List.setIfInBounds_toArray, List.set_cons_zero, List.set_cons_succ])
  first
    | (refine take_at (i := 8) (v := ?_) rfl rfl (by kernel_rfl) (by kernel_rfl) (by kernel_rfl) (fun _ _ _ h => h) (Or.inl ⟨by rfl, ?hy⟩) (by assumption) ?_
       case hy => (intro wz hSw; (try dsimp only at hSw); go_simp <;> with_reducible rfl)
       simp only [List.setIfInBounds_toArray, List.set_cons_zero, List.set_cons_succ])
    | (refine take_at (i := 8) (v := undef) rfl rfl (by kernel_rfl) (by kernel_rfl) (by kernel_rfl) (fun _ _ _ h => h) (Or.inr ⟨by rfl, rfl⟩) (by assumption) ?_
       simp only [List.setIfInBounds_toArray, List.set_cons_zero, List.set_cons_succ])
  first
    | (refine take_at (i := 9) (v := ?_) rfl rfl (by kernel_rfl) (by kernel_rfl) (by kernel_rfl) (fun _ _ _ h => h) (Or.inl ⟨by rfl, ?hy⟩) (by assumption) ?_
       case hy => (intro wz hSw; (try dsimp only at hSw); go_simp <;> with_reducible rfl)
       simp only [List.setIfInBounds_toArray, List.set_cons_zero, List.set_cons_succ])
    | (refine take_at (i := 9) (v := undef) rfl rfl (by kernel_rfl) (by kernel_rfl) (by kernel_rfl) (fun _ _ _ h => h) (Or.inr ⟨by rfl, rfl⟩) (by assumption) ?_
       simp only [List.setIfInBounds_toArray, List.set_cons_zero, List.set_cons_succ])
  first
    | (refine take_at (i := 10) (v := ?_) rfl rfl (by kernel_rfl) (by kernel_rfl) (by kernel_rfl) (fun _ _ _ h => h) (Or.inl ⟨by rfl, ?hy⟩) (by assumption) ?_
       case hy => (intro wz hSw; (try dsimp only at hSw); go_simp <;> with_reducible rfl)
       simp only [List.setIfInBounds_toArray, List.set_cons_zero, List.set_cons_succ])
    | (refine take_at (i := 10) (v := undef) rfl rfl (by kernel_rfl) (by kernel_rfl) (by kernel_rfl) (fun _ _ _ h => h) (Or.inr ⟨by rfl, rfl⟩) (by assumption) ?_
       simp only [List.setIfInBounds_toArray, List.set_cons_zero, List.set_cons_succ])
  first
    | (refine take_at (i := 11) (v := ?_) rfl rfl (by kernel_rfl) (by kernel_rfl) (by kernel_rfl) (fun _ _ _ h => h) (Or.inl ⟨by rfl, ?hy⟩) (by assumption) ?_
       case hy => (intro wz hSw; (try dsimp only at hSw); go_simp <;> with_reducible rfl)
       simp only [List.setIfInBounds_toArray, List.set_cons_zero, List.set_cons_succ])
    | (refine take_at (i := 11) (v := undef) rfl rfl (by kernel_rfl) (by kernel_rfl) (by kernel_rfl) (fun _ _ _ h => h) (Or.inr ⟨by rfl, rfl⟩) (by assumption) ?_
       simp only [List.setIfInBounds_toArray, List.set_cons_zero, List.set_cons_succ])
  first
    | (refine take_at (i := 12) (v := ?_) rfl rfl (by kernel_rfl) (by kernel_rfl) (by kernel_rfl) (fun _ _ _ h => h) (Or.inl ⟨by rfl, ?hy⟩) (by assumption) ?_
       case hy => (intro wz hSw; (try dsimp only at hSw); go_simp <;> with_reducible rfl)
       simp only [List.setIfInBounds_toArray, List.set_cons_zero, List.set_cons_succ])
    | (refine take_at (i := 12) (v := undef) rfl rfl (by kernel_rfl) (by kernel_rfl) (by kernel_rfl) (fun _ _ _ h => h) (Or.inr ⟨by rfl, rfl⟩) (by assumption) ?_
       simp only [List.setIfInBounds_toArray, List.set_cons_zero, List.set_cons_succ])
  first
    | (refine take_at (i := 13) (v := ?_) rfl rfl (by kernel_rfl) (by kernel_rfl) (by kernel_rfl) (fun _ _ _ h => h) (Or.inl ⟨by rfl, ?hy⟩) (by assumption) ?_
       case hy => (intro wz hSw; (try dsimp only at hSw); go_simp <;> with_reducible rfl)
       simp only [List.setIfInBounds_toArray, List.set_cons_zero, List.set_cons_succ])
    | (refine take_at (i := 13) (v := undef) rfl rfl (by kernel_rfl) (by kernel_rfl) (by kernel_rfl) (fun _ _ _ h => h) (Or.inr ⟨by rfl, rfl⟩) (by assumption) ?_
       simp only [List.setIfInBounds_toArray, List.set_cons_zero, List.set_cons_succ])
  first
    | (refine take_at (i := 14) (v := ?_) rfl rfl (by kernel_rfl) (by kernel_rfl) (by kernel_rfl) (fun _ _ _ h => h) (Or.inl ⟨by rfl, ?hy⟩) (by assumption) ?_
       case hy => (intro wz hSw; (try dsimp only at hSw); go_simp <;> with_reducible rfl)
       simp only [List.setIfInBounds_toArray, List.set_cons_zero, List.set_cons_succ])
    | (refine take_at (i := 14) (v := undef) rfl rfl (by kernel_rfl) (by kernel_rfl) (by kernel_rfl) (fun _ _ _ h => h) (Or.inr ⟨by rfl, rfl⟩) (by assumption) ?_
       simp only [List.setIfInBounds_toArray, List.set_cons_zero, List.set_cons_succ])
  refine wpAnyH_done (by kernel_rfl) ?_ _
  go_upto_region 6 with (fail)
  refine settle_wp ?_
  intro w3 hb3
  have hH := Ext.trans hHeld hb3
  replace HM2 := Lib.hid (HM2.out.ext hH)
  replace za_0 := hH.frozen qa_0 za_0
  replace qa_0 := hH.cell qa_0
  replace za_1 := hH.frozen qa_1 za_1
  replace qa_1 := hH.cell qa_1
  replace za_2 := hH.frozen qa_2 za_2
  replace qa_2 := hH.cell qa_2
  replace za_3 := hH.frozen qa_3 za_3
  replace qa_3 := hH.cell qa_3
  replace za_4 := hH.frozen qa_4 za_4
  replace qa_4 := hH.cell qa_4
  replace za_5 := hH.frozen qa_5 za_5
  replace qa_5 := hH.cell qa_5
  replace za_6 := hH.frozen qa_6 za_6
  replace qa_6 := hH.cell qa_6
  replace za_7 := hH.frozen qa_7 za_7
  replace qa_7 := hH.cell qa_7
  replace za_8 := hH.frozen qa_8 za_8
  replace qa_8 := hH.cell qa_8
  replace za_9 := hH.frozen qa_9 za_9
  replace qa_9 := hH.cell qa_9
  replace za_10 := hH.frozen qa_10 za_10
  replace qa_10 := hH.cell qa_10
  replace zr_0 := hH.frozen qr_0 zr_0
  replace qr_0 := hH.cell qr_0
  replace zr_1 := hH.frozen qr_1 zr_1
  replace qr_1 := hH.cell qr_1
  replace zr_2 := hH.frozen qr_2 zr_2
  replace qr_2 := hH.cell qr_2
  replace zr_3 := hH.frozen qr_3 zr_3
  replace qr_3 := hH.cell qr_3
  replace zr_4 := hH.frozen qr_4 zr_4
  replace qr_4 := hH.cell qr_4
  replace zr_5 := hH.frozen qr_5 zr_5
  replace qr_5 := hH.cell qr_5
  replace zr_6 := hH.frozen qr_6 zr_6
  replace qr_6 := hH.cell qr_6
  replace zr_7 := hH.frozen qr_7 zr_7
  replace qr_7 := hH.cell qr_7
  replace zr_8 := hH.frozen qr_8 zr_8
  replace qr_8 := hH.cell qr_8
  replace zr_9 := hH.frozen qr_9 zr_9
  replace qr_9 := hH.cell qr_9
  replace zr_10 := hH.frozen qr_10 zr_10
  replace qr_10 := hH.cell qr_10
  clear k4 k7 kW qW hHeld hH hb3
  go_upto_region 11 with (fail)
  refine settle_wp ?_
  intro w5 hb5
  replace HM2 := Lib.hid (((HM2.out.set (p := ⟨w.heap.size, 7, none⟩) (by simp) (by simp) (.int .u64 x)).set (p := ⟨w.heap.size, 4, none⟩) (by simp) (by simp) (.int .i64 ((I : Int) + 1))).ext hb5)
  have pa_0 : w5.cell? ⟨w.heap.size, 0, none⟩ = some (.int .i64 0) := hb5.cell (by simp (maxDischargeDepth := 40) [go_sem, set_some, set_same, qa_0])
  have pa_1 : w5.cell? ⟨w.heap.size, 1, none⟩ = some (.int .i64 tn) := hb5.cell (by simp (maxDischargeDepth := 40) [go_sem, set_some, set_same, qa_1])
  have pa_2 : w5.cell? ⟨w.heap.size, 2, none⟩ = some (.int .i64 0) := hb5.cell (by simp (maxDischargeDepth := 40) [go_sem, set_some, set_same, qa_2])
  have pa_3 : w5.cell? ⟨w.heap.size, 3, none⟩ = some (.int .i64 tp) := hb5.cell (by simp (maxDischargeDepth := 40) [go_sem, set_some, set_same, qa_3])
  have pa_4 : w5.cell? ⟨w.heap.size, 4, none⟩ = some (.int .i64 ((I : Int) + 1)) := hb5.cell (by simp (maxDischargeDepth := 40) [go_sem, set_some, set_same, qa_4])
  have pa_5 : w5.cell? ⟨w.heap.size, 5, none⟩ = some (.int .i64 0) := hb5.cell (by simp (maxDischargeDepth := 40) [go_sem, set_some, set_same, qa_5])
  have pa_6 : w5.cell? ⟨w.heap.size, 6, none⟩ = some (.int .u64 tf) := hb5.cell (by simp (maxDischargeDepth := 40) [go_sem, set_some, set_same, qa_6])
  have pa_7 : w5.cell? ⟨w.heap.size, 7, none⟩ = some (.int .u64 x) := hb5.cell (by simp (maxDischargeDepth := 40) [go_sem, set_some, set_same, qa_7])
  have pa_8 : w5.cell? ⟨w.heap.size, 8, none⟩ = some (.int .u64 tv) := hb5.cell (by simp (maxDischargeDepth := 40) [go_sem, set_some, set_same, qa_8])
  have pa_9 : w5.cell? ⟨w.heap.size, 9, none⟩ = some (.int .u64 0) := hb5.cell (by simp (maxDischargeDepth := 40) [go_sem, set_some, set_same, qa_9])
  have pa_10 : w5.cell? ⟨w.heap.size, 10, none⟩ = some (.slice none 0 0) := hb5.cell (by simp (maxDischargeDepth := 40) [go_sem, set_some, set_same, qa_10])
  have pr_0 : w5.cell? ⟨w.heap.size + 1, 0, none⟩ = some (.int .i64 0) := hb5.cell (by simp [go_sem, qr_0])
  have vr_0 : w5.frozen? ⟨w.heap.size + 1, 0, none⟩ = false := hb5.frozen (v := .int .i64 0) (by simp [go_sem, qr_0]) (by simp [go_sem, zr_0])
  have pr_1 : w5.cell? ⟨w.heap.size + 1, 1, none⟩ = some (.int .i64 0) := hb5.cell (by simp [go_sem, qr_1])
  have vr_1 : w5.frozen? ⟨w.heap.size + 1, 1, none⟩ = false := hb5.frozen (v := .int .i64 0) (by simp [go_sem, qr_1]) (by simp [go_sem, zr_1])
  have pr_2 : w5.cell? ⟨w.heap.size + 1, 2, none⟩ = some (.int .i64 0) := hb5.cell (by simp [go_sem, qr_2])
  have vr_2 : w5.frozen? ⟨w.heap.size + 1, 2, none⟩ = false := hb5.frozen (v := .int .i64 0) (by simp [go_sem, qr_2]) (by simp [go_sem, zr_2])
  have pr_3 : w5.cell? ⟨w.heap.size + 1, 3, none⟩ = some (.int .i64 0) := hb5.cell (by simp [go_sem, qr_3])
  have vr_3 : w5.frozen? ⟨w.heap.size + 1, 3, none⟩ = false := hb5.frozen (v := .int .i64 0) (by simp [go_sem, qr_3]) (by simp [go_sem, zr_3])
  have pr_4 : w5.cell? ⟨w.heap.size + 1, 4, none⟩ = some (.int .i64 0) := hb5.cell (by simp [go_sem, qr_4])
  have vr_4 : w5.frozen? ⟨w.heap.size + 1, 4, none⟩ = false := hb5.frozen (v := .int .i64 0) (by simp [go_sem, qr_4]) (by simp [go_sem, zr_4])
  have pr_5 : w5.cell? ⟨w.heap.size + 1, 5, none⟩ = some (.int .i64 0) := hb5.cell (by simp [go_sem, qr_5])
  have vr_5 : w5.frozen? ⟨w.heap.size + 1, 5, none⟩ = false := hb5.frozen (v := .int .i64 0) (by simp [go_sem, qr_5]) (by simp [go_sem, zr_5])
  have pr_6 : w5.cell? ⟨w.heap.size + 1, 6, none⟩ = some (.int .u64 0) := hb5.cell (by simp [go_sem, qr_6])
  have vr_6 : w5.frozen? ⟨w.heap.size + 1, 6, none⟩ = false := hb5.frozen (v := .int .u64 0) (by simp [go_sem, qr_6]) (by simp [go_sem, zr_6])
  have pr_7 : w5.cell? ⟨w.heap.size + 1, 7, none⟩ = some (.int .u64 0) := hb5.cell (by simp [go_sem, qr_7])
  have vr_7 : w5.frozen? ⟨w.heap.size + 1, 7, none⟩ = false := hb5.frozen (v := .int .u64 0) (by simp [go_sem, qr_7]) (by simp [go_sem, zr_7])
  have pr_8 : w5.cell? ⟨w.heap.size + 1, 8, none⟩ = some (.int .u64 0) := hb5.cell (by simp [go_sem, qr_8])
  have vr_8 : w5.frozen? ⟨w.heap.size + 1, 8, none⟩ = false := hb5.frozen (v := .int .u64 0) (by simp [go_sem, qr_8]) (by simp [go_sem, zr_8])
  have pr_9 : w5.cell? ⟨w.heap.size + 1, 9, none⟩ = some (.int .u64 0) := hb5.cell (by simp [go_sem, qr_9])
  have vr_9 : w5.frozen? ⟨w.heap.size + 1, 9, none⟩ = false := hb5.frozen (v := .int .u64 0) (by simp [go_sem, qr_9]) (by simp [go_sem, zr_9])
  have pr_10 : w5.cell? ⟨w.heap.size + 1, 10, none⟩ = some (.slice none 0 0) := hb5.cell (by simp [go_sem, qr_10])
  have vr_10 : w5.frozen? ⟨w.heap.size + 1, 10, none⟩ = false := hb5.frozen (v := .slice none 0 0) (by simp [go_sem, qr_10]) (by simp [go_sem, zr_10])
  clear hb5 qa_0 za_0 qa_1 za_1 qa_2 za_2 qa_3 za_3 qa_4 za_4 qa_5 za_5 qa_6 za_6 qa_7 za_7 qa_8 za_8 qa_9 za_9 qa_10 za_10 qr_0 zr_0 qr_1 zr_1 qr_2 zr_2 qr_3 zr_3 qr_4 zr_4 qr_5 zr_5 qr_6 zr_6 qr_7 zr_7 qr_8 zr_8 qr_9 zr_9 qr_10 zr_10
  go_wp2
  refine bodyPost_ret (v := .tuple #[(.agg #[.int .i64 0, .int .i64 tn, .int .i64 0, .int .i64 tp, .int .i64 ((I : Int) + 1), .int .i64 0, .int .u64 tf, .int .u64 x, .int .u64 tv, .int .u64 0, .slice none 0 0]), .bool false]) (by simp [results, Tryz.results59, go_sem, pr_0, pr_1, pr_2, pr_3, pr_4, pr_5, pr_6, pr_7, pr_8, pr_9, pr_10, pa_0, pa_1, pa_2, pa_3, pa_4, pa_5, pa_6, pa_7, pa_8, pa_9, pa_10]) rfl (HG.out _ ?mid)
  case mid => repeat (first | with_reducible exact HM2.out | refine RMid.set ?_ (by simp) (by simp) _)
set_option maxRecDepth 100000 in
theorem rScan64_le (b : Nat) (r : RY) (f : Nat → Int) (lv : Value) (log : List Acc) (t : Int) (v : Value) (xs : List Int) (I c : Nat) (tn tp tf M tv : Int) (w : World) (h : RB w b r f lv log) (hW : r.W = 64) (hv : IntsV w v xs) (hI : I < xs.length) (hx : xs.getD I 0 = c) (hk : isK r (c : Int) 1 = true) (hc : c < r.m) (hl : log.length ≤ 1000) (hn : xs.length ≤ 1000) (f0 : 0 ≤ f c) (hM : 0 ≤ M) (h0 : ¬ I = 0) (h1 : D64 (f c - M) < 0) (h2 : I + 1 = xs.length) :
    Calls Tryz.prog 59 #[.pointer (some ⟨b, 0, none⟩), .int .i64 t, v, (.agg #[.int .i64 0, .int .i64 tn, .int .i64 0, .int .i64 tp, .int .i64 I, .int .i64 0, .int .u64 tf, .int .u64 M, .int .u64 tv, .int .u64 0, .slice none 0 0])] w (RScanDoes b r lv f (log ++ [⟨t, 1, c, f c, f c⟩]) true tn tp 0 tf (f c) tv w) := by
  have CA := Lib.hid (fun w' (hx : Ext w w') => rLoad_yes b r f lv log t c w' (h.ext hx) hk hc hl)
  have HG : Hid (∀ w', RMid b r lv f (log ++ [⟨t, 1, c, f c, f c⟩]) w w' → RScanDoes b r lv f (log ++ [⟨t, 1, c, f c, f c⟩]) true tn tp 0 tf (f c) tv w (.returned (.tuple #[(.agg #[.int .i64 0, .int .i64 tn, .int .i64 0, .int .i64 tp, .int .i64 0, .int .i64 0, .int .u64 tf, .int .u64 (f c), .int .u64 tv, .int .u64 0, .slice none 0 0]), .bool true])) w') := Lib.hid (fun w' hm => ⟨rfl, hm.does (v := .bool true)⟩)
  have HM := Lib.hid (fun lv' w1 w2 (hx : Ext w w1) hs hR hN hA => rmid_of (f' := f) (lv' := lv') (log' := (log ++ [⟨t, 1, c, f c, f c⟩])) (w1 := w1) (w2 := w2) h hx hs hR hN hA)
  generalize RScanDoes b r lv f (log ++ [⟨t, 1, c, f c, f c⟩]) true tn tp 0 tf (f c) tv w = G at *
  obtain ⟨va, vc, ev, hf⟩ := hv.form
  subst ev
  obtain ⟨vb, vo, ea, cv⟩ := hf I hI
  subst ea
  rw [hx] at cv
  generalize hxx : f c = x at *
  have hI1 : (I : Int) < (xs.length : Int) := by omega
  have hI0 : (0 : Int) ≤ (I : Int) := by omega
  have d0 : ((I : Int) == 0) = false := by simp; omega
  have d1 : decide (D64 (x - M) < 0) = true := by simpa using h1
  have d2 : ((I : Int) + 1 == (xs.length : Int)) = true := by simp; omega
  have hwr : IntKind.i64.wrap ((I : Int) + 1) = (I : Int) + 1 := wrapS (by omega) (by omega)
  have hlt := fun k (hk : Own b r.gh lv k) => h.lt hk
  generalize xs.length = n at *
  clear h hv hf hI hx hk hl hn h0 h2 h1
  go_enter Tryz.func59, Tryz.ntmps59
  go_upto_region 1 with (fail)
  refine settle_wp ?_
  intro w1 hb1
  have qa_0 : w1.cell? ⟨w.heap.size, 0, none⟩ = some (.int .i64 0) := (hb1.cells.1 _ _ (by simp <;> omega)).trans (by simp [go_sem])
  have za_0 : w1.frozen? ⟨w.heap.size, 0, none⟩ = false := (hb1.cells.2 _ _ (by simp <;> omega)).trans (by simp [go_sem])
  have qa_1 : w1.cell? ⟨w.heap.size, 1, none⟩ = some (.int .i64 tn) := (hb1.cells.1 _ _ (by simp <;> omega)).trans (by simp [go_sem])
  have za_1 : w1.frozen? ⟨w.heap.size, 1, none⟩ = false := (hb1.cells.2 _ _ (by simp <;> omega)).trans (by simp [go_sem])
  have qa_2 : w1.cell? ⟨w.heap.size, 2, none⟩ = some (.int .i64 0) := (hb1.cells.1 _ _ (by simp <;> omega)).trans (by simp [go_sem])
  have za_2 : w1.frozen? ⟨w.heap.size, 2, none⟩ = false := (hb1.cells.2 _ _ (by simp <;> omega)).trans (by simp [go_sem])
  have qa_3 : w1.cell? ⟨w.heap.size, 3, none⟩ = some (.int .i64 tp) := (hb1.cells.1 _ _ (by simp <;> omega)).trans (by simp [go_sem])
  have za_3 : w1.frozen? ⟨w.heap.size, 3, none⟩ = false := (hb1.cells.2 _ _ (by simp <;> omega)).trans (by simp [go_sem])
  have qa_4 : w1.cell? ⟨w.heap.size, 4, none⟩ = some (.int .i64 I) := (hb1.cells.1 _ _ (by simp <;> omega)).trans (by simp [go_sem])
  have za_4 : w1.frozen? ⟨w.heap.size, 4, none⟩ = false := (hb1.cells.2 _ _ (by simp <;> omega)).trans (by simp [go_sem])
  have qa_5 : w1.cell? ⟨w.heap.size, 5, none⟩ = some (.int .i64 0) := (hb1.cells.1 _ _ (by simp <;> omega)).trans (by simp [go_sem])
  have za_5 : w1.frozen? ⟨w.heap.size, 5, none⟩ = false := (hb1.cells.2 _ _ (by simp <;> omega)).trans (by simp [go_sem])
  have qa_6 : w1.cell? ⟨w.heap.size, 6, none⟩ = some (.int .u64 tf) := (hb1.cells.1 _ _ (by simp <;> omega)).trans (by simp [go_sem])
  have za_6 : w1.frozen? ⟨w.heap.size, 6, none⟩ = false := (hb1.cells.2 _ _ (by simp <;> omega)).trans (by simp [go_sem])
  have qa_7 : w1.cell? ⟨w.heap.size, 7, none⟩ = some (.int .u64 M) := (hb1.cells.1 _ _ (by simp <;> omega)).trans (by simp [go_sem])
  have za_7 : w1.frozen? ⟨w.heap.size, 7, none⟩ = false := (hb1.cells.2 _ _ (by simp <;> omega)).trans (by simp [go_sem])
  have qa_8 : w1.cell? ⟨w.heap.size, 8, none⟩ = some (.int .u64 tv) := (hb1.cells.1 _ _ (by simp <;> omega)).trans (by simp [go_sem])
  have za_8 : w1.frozen? ⟨w.heap.size, 8, none⟩ = false := (hb1.cells.2 _ _ (by simp <;> omega)).trans (by simp [go_sem])
  have qa_9 : w1.cell? ⟨w.heap.size, 9, none⟩ = some (.int .u64 0) := (hb1.cells.1 _ _ (by simp <;> omega)).trans (by simp [go_sem])
  have za_9 : w1.frozen? ⟨w.heap.size, 9, none⟩ = false := (hb1.cells.2 _ _ (by simp <;> omega)).trans (by simp [go_sem])
  have qa_10 : w1.cell? ⟨w.heap.size, 10, none⟩ = some (.slice none 0 0) := (hb1.cells.1 _ _ (by simp <;> omega)).trans (by simp [go_sem])
  have za_10 : w1.frozen? ⟨w.heap.size, 10, none⟩ = false := (hb1.cells.2 _ _ (by simp <;> omega)).trans (by simp [go_sem])
  have pa := World.block_lt_of_cell? _ ⟨w.heap.size, 0, none⟩ qa_0
  have ra := Nat.lt_succ_of_lt pa
  have qr_0 : w1.cell? ⟨(w.heap.size + 1), 0, none⟩ = some (.int .i64 0) := (hb1.cells.1 _ _ (by simp <;> omega)).trans (by simp [go_sem])
  have zr_0 : w1.frozen? ⟨(w.heap.size + 1), 0, none⟩ = false := (hb1.cells.2 _ _ (by simp <;> omega)).trans (by simp [go_sem])
  have qr_1 : w1.cell? ⟨(w.heap.size + 1), 1, none⟩ = some (.int .i64 0) := (hb1.cells.1 _ _ (by simp <;> omega)).trans (by simp [go_sem])
  have zr_1 : w1.frozen? ⟨(w.heap.size + 1), 1, none⟩ = false := (hb1.cells.2 _ _ (by simp <;> omega)).trans (by simp [go_sem])
  have qr_2 : w1.cell? ⟨(w.heap.size + 1), 2, none⟩ = some (.int .i64 0) := (hb1.cells.1 _ _ (by simp <;> omega)).trans (by simp [go_sem])
  have zr_2 : w1.frozen? ⟨(w.heap.size + 1), 2, none⟩ = false := (hb1.cells.2 _ _ (by simp <;> omega)).trans (by simp [go_sem])
  have qr_3 : w1.cell? ⟨(w.heap.size + 1), 3, none⟩ = some (.int .i64 0) := (hb1.cells.1 _ _ (by simp <;> omega)).trans (by simp [go_sem])
  have zr_3 : w1.frozen? ⟨(w.heap.size + 1), 3, none⟩ = false := (hb1.cells.2 _ _ (by simp <;> omega)).trans (by simp [go_sem])
  have qr_4 : w1.cell? ⟨(w.heap.size + 1), 4, none⟩ = some (.int .i64 0) := (hb1.cells.1 _ _ (by simp <;> omega)).trans (by simp [go_sem])
  have zr_4 : w1.frozen? ⟨(w.heap.size + 1), 4, none⟩ = false := (hb1.cells.2 _ _ (by simp <;> omega)).trans (by simp [go_sem])
  have qr_5 : w1.cell? ⟨(w.heap.size + 1), 5, none⟩ = some (.int .i64 0) := (hb1.cells.1 _ _ (by simp <;> omega)).trans (by simp [go_sem])
  have zr_5 : w1.frozen? ⟨(w.heap.size + 1), 5, none⟩ = false := (hb1.cells.2 _ _ (by simp <;> omega)).trans (by simp [go_sem])
  have qr_6 : w1.cell? ⟨(w.heap.size + 1), 6, none⟩ = some (.int .u64 0) := (hb1.cells.1 _ _ (by simp <;> omega)).trans (by simp [go_sem])
  have zr_6 : w1.frozen? ⟨(w.heap.size + 1), 6, none⟩ = false := (hb1.cells.2 _ _ (by simp <;> omega)).trans (by simp [go_sem])
  have qr_7 : w1.cell? ⟨(w.heap.size + 1), 7, none⟩ = some (.int .u64 0) := (hb1.cells.1 _ _ (by simp <;> omega)).trans (by simp [go_sem])
  have zr_7 : w1.frozen? ⟨(w.heap.size + 1), 7, none⟩ = false := (hb1.cells.2 _ _ (by simp <;> omega)).trans (by simp [go_sem])
  have qr_8 : w1.cell? ⟨(w.heap.size + 1), 8, none⟩ = some (.int .u64 0) := (hb1.cells.1 _ _ (by simp <;> omega)).trans (by simp [go_sem])
  have zr_8 : w1.frozen? ⟨(w.heap.size + 1), 8, none⟩ = false := (hb1.cells.2 _ _ (by simp <;> omega)).trans (by simp [go_sem])
  have qr_9 : w1.cell? ⟨(w.heap.size + 1), 9, none⟩ = some (.int .u64 0) := (hb1.cells.1 _ _ (by simp <;> omega)).trans (by simp [go_sem])
  have zr_9 : w1.frozen? ⟨(w.heap.size + 1), 9, none⟩ = false := (hb1.cells.2 _ _ (by simp <;> omega)).trans (by simp [go_sem])
  have qr_10 : w1.cell? ⟨(w.heap.size + 1), 10, none⟩ = some (.slice none 0 0) := (hb1.cells.1 _ _ (by simp <;> omega)).trans (by simp [go_sem])
  have zr_10 : w1.frozen? ⟨(w.heap.size + 1), 10, none⟩ = false := (hb1.cells.2 _ _ (by simp <;> omega)).trans (by simp [go_sem])
  have pr := World.block_lt_of_cell? _ ⟨(w.heap.size + 1), 0, none⟩ qr_0
  have rr := Nat.lt_succ_of_lt pr
  have XE : Ext w w1 := Ext.trans (Ext.alloc (Ext.alloc (Ext.refl w) _) _) hb1
  have hs1 : w.heap.size + 2 ≤ w1.heap.size := by have h1 := hb1.size; simp at h1; omega
  have na : ¬ Own b r.gh lv w.heap.size := fun hk => by have := hlt _ hk; omega
  have nr : ¬ Own b r.gh lv (w.heap.size + 1) := fun hk => by have := hlt _ hk; omega
  replace cv := XE.cell cv
  clear hb1
  go_wp2_with fail
  refine (CA.out _ XE).mono ?_
  rintro e w2 ⟨rfl, lv2, R2, N2, A2⟩
  have HM2 := Lib.hid (HM.out lv2 _ w2 XE hs1 R2 N2 A2)
  have qW := R2.q1
  rw [hW] at qW
  replace za_0 := N2.frozen qa_0 za_0 na
  replace qa_0 := N2.cell qa_0 na
  replace za_1 := N2.frozen qa_1 za_1 na
  replace qa_1 := N2.cell qa_1 na
  replace za_2 := N2.frozen qa_2 za_2 na
  replace qa_2 := N2.cell qa_2 na
  replace za_3 := N2.frozen qa_3 za_3 na
  replace qa_3 := N2.cell qa_3 na
  replace za_4 := N2.frozen qa_4 za_4 na
  replace qa_4 := N2.cell qa_4 na
  replace za_5 := N2.frozen qa_5 za_5 na
  replace qa_5 := N2.cell qa_5 na
  replace za_6 := N2.frozen qa_6 za_6 na
  replace qa_6 := N2.cell qa_6 na
  replace za_7 := N2.frozen qa_7 za_7 na
  replace qa_7 := N2.cell qa_7 na
  replace za_8 := N2.frozen qa_8 za_8 na
  replace qa_8 := N2.cell qa_8 na
  replace za_9 := N2.frozen qa_9 za_9 na
  replace qa_9 := N2.cell qa_9 na
  replace za_10 := N2.frozen qa_10 za_10 na
  replace qa_10 := N2.cell qa_10 na
  replace zr_0 := N2.frozen qr_0 zr_0 nr
  replace qr_0 := N2.cell qr_0 nr
  replace zr_1 := N2.frozen qr_1 zr_1 nr
  replace qr_1 := N2.cell qr_1 nr
  replace zr_2 := N2.frozen qr_2 zr_2 nr
  replace qr_2 := N2.cell qr_2 nr
  replace zr_3 := N2.frozen qr_3 zr_3 nr
  replace qr_3 := N2.cell qr_3 nr
  replace zr_4 := N2.frozen qr_4 zr_4 nr
  replace qr_4 := N2.cell qr_4 nr
  replace zr_5 := N2.frozen qr_5 zr_5 nr
  replace qr_5 := N2.cell qr_5 nr
  replace zr_6 := N2.frozen qr_6 zr_6 nr
  replace qr_6 := N2.cell qr_6 nr
  replace zr_7 := N2.frozen qr_7 zr_7 nr
  replace qr_7 := N2.cell qr_7 nr
  replace zr_8 := N2.frozen qr_8 zr_8 nr
  replace qr_8 := N2.cell qr_8 nr
  replace zr_9 := N2.frozen qr_9 zr_9 nr
  replace qr_9 := N2.cell qr_9 nr
  replace zr_10 := N2.frozen qr_10 zr_10 nr
  replace qr_10 := N2.cell qr_10 nr
  clear R2 N2 A2 XE cv
  go_upto_region 5 with (fail)
  have k4 := fun w' (hx : Ext w2 w') => hx.cell qa_4
  have k7 := fun w' (hx : Ext w2 w') => hx.cell qa_7
  have kW := fun w' (hx : Ext w2 w') => hx.cell qW
  refine wp_region_held_drew (S := fun w' => Ext w2 w') (by kernel_rfl) ?hbeg (fun hHeld => ?_)
  case hbeg => exact (Ext.refl w2).drew
  have hHeld0 : Ext w2 w2 := by first | exact Ext.refl _ | assumption
  first
    | (refine take_at (i := 0) (v := ?_) rfl rfl (by kernel_rfl) (by kernel_rfl) (by kernel_rfl) (fun _ _ _ h => h) (Or.inl ⟨by rfl, ?hy⟩) (by assumption) ?_
       case hy => (intro wz hSw; (try dsimp only at hSw); go_simp <;> with_reducible rfl)
       simp only [List.setIfInBounds_toArray, List.set_cons_zero, List.set_cons_succ])
    | (refine take_at (i := 0) (v := undef) rfl rfl (by kernel_rfl) (by kernel_rfl) (by kernel_rfl) (fun _ _ _ h => h) (Or.inr ⟨by rfl, rfl⟩) (by assumption) ?_
       simp only [List.setIfInBounds_toArray, List.set_cons_zero, List.set_cons_succ])
  first
    | (refine take_at (i := 1) (v := ?_) rfl rfl (by kernel_rfl) (by kernel_rfl) (by kernel_rfl) (fun _ _ _ h => h) (Or.inl ⟨by rfl, ?hy⟩) (by assumption) ?_
       case hy => (intro wz hSw; (try dsimp only at hSw); go_simp <;> with_reducible rfl)
       simp only [List.setIfInBounds_toArray, List.set_cons_zero, List.set_cons_succ])
    | (refine take_at (i := 1) (v := undef) rfl rfl (by kernel_rfl) (by kernel_rfl) (by kernel_rfl) (fun _ _ _ h => h) (Or.inr ⟨by rfl, rfl⟩) (by assumption) ?_
       simp only [List.setIfInBounds_toArray, List.set_cons_zero, List.set_cons_succ])
  first
    | (refine take_at (i := 2) (v := ?_) rfl rfl (by kernel_rfl) (by kernel_rfl) (by kernel_rfl) (fun _ _ _ h => h) (Or.inl ⟨by rfl, ?hy⟩) (by assumption) ?_
       case hy => (intro wz hSw; (try dsimp only at hSw); go_simp <;> with_reducible rfl)
       simp only [List.setIfInBounds_toArray, List.set_cons_zero, List.set_cons_succ])
    | (refine take_at (i := 2) (v := undef) rfl rfl (by kernel_rfl) (by kernel_rfl) (by kernel_rfl) (fun _ _ _ h => h) (Or.inr ⟨by rfl, rfl⟩) (by assumption) ?_
       simp only [List.setIfInBounds_toArray, List.set_cons_zero, List.set_cons_succ])
  first
    | (refine take_at (i := 3) (v := ?_) rfl rfl (by kernel_rfl) (by kernel_rfl) (by kernel_rfl) (fun _ _ _ h => h) (Or.inl ⟨by rfl, ?hy⟩) (by assumption) ?_
       case hy => (intro wz hSw; (try dsimp only at hSw); go_simp <;> with_reducible rfl)
       simp only [List.setIfInBounds_toArray, List.set_cons_zero, List.set_cons_succ])
    | (refine take_at (i := 3) (v := undef) rfl rfl (by kernel_rfl) (by kernel_rfl) (by kernel_rfl) (fun _ _ _ h => h) (Or.inr ⟨by rfl, rfl⟩) (by assumption) ?_
       simp only [List.setIfInBounds_toArray, List.set_cons_zero, List.set_cons_succ])
  first
    | (refine take_at (i := 4) (v := ?_) rfl rfl (by kernel_rfl) (by kernel_rfl) (by kernel_rfl) (fun _ _ _ h => h) (Or.inl ⟨by rfl, ?hy⟩) (by assumption) ?_
       case hy => (intro wz hSw; (try dsimp only at hSw); go_simp <;> with_reducible rfl)
       simp only [List.setIfInBounds_toArray, List.set_cons_zero, List.set_cons_succ])
    | (refine take_at (i := 4) (v := undef) rfl rfl (by kernel_rfl) (by kernel_rfl) (by kernel_rfl) (fun _ _ _ h => h) (Or.inr ⟨by rfl, rfl⟩) (by assumption) ?_
       simp only [List.setIfInBounds_toArray, List.set_cons_zero, List.set_cons_succ])
  first
    | (refine take_at (i := 5) (v := ?_) rfl rfl (by kernel_rfl) (by kernel_rfl) (by kernel_rfl) (fun _ _ _ h => h) (Or.inl ⟨by rfl, ?hy⟩) (by assumption) ?_
       case hy => (intro wz hSw; (try dsimp only at hSw); go_simp <;> with_reducible rfl)
       simp only [List.setIfInBounds_toArray, List.set_cons_zero, List.set_cons_succ])
    | (refine take_at (i := 5) (v := undef) rfl rfl (by kernel_rfl) (by kernel_rfl) (by kernel_rfl) (fun _ _ _ h => h) (Or.inr ⟨by rfl, rfl⟩) (by assumption) ?_
       simp only [List.setIfInBounds_toArray, List.set_cons_zero, List.set_cons_succ])
  first
    | (refine take_at (i := 6) (v := ?_) rfl rfl (by kernel_rfl) (by kernel_rfl) (by kernel_rfl) (fun _ _ _ h => h) (Or.inl ⟨by rfl, ?hy⟩) (by assumption) ?_
       case hy => (intro wz hSw; (try dsimp only at hSw); go_simp <;> with_reducible rfl)
       simp only [List.setIfInBounds_toArray, List.set_cons_zero, List.set_cons_succ])
    | (refine take_at (i := 6) (v := undef) rfl rfl (by kernel_rfl) (by kernel_rfl) (by kernel_rfl) (fun _ _ _ h => h) (Or.inr ⟨by rfl, rfl⟩) (by assumption) ?_
       simp only [List.setIfInBounds_toArray, List.set_cons_zero, List.set_cons_succ])
  first
    | (refine take_at (i := 7) (v := ?_) rfl rfl (by kernel_rfl) (by kernel_rfl) (by kernel_rfl) (fun _ _ _ h => h) (Or.inl ⟨by rfl, ?hy⟩) (by assumption) ?_
       case hy => (intro wz hSw; (try dsimp only at hSw); go_simp <;> with_reducible rfl)
       simp only [List.setIfInBounds_toArray, List.set_cons_zero, List.set_cons_succ])
    | (refine take_at (i := 7) (v := undef) rfl rfl (by kernel_rfl) (by kernel_rfl) (by kernel_rfl) (fun _ _ _ h => h) (Or.inr ⟨by rfl, rfl⟩) (by assumption) ?_
       simp only [List.setIfInBounds_toArray, List.set_cons_zero, List.set_cons_succ])
  first
    | (refine take_at (i := 8) (v := ?_) rfl rfl (by kernel_rfl) (by kernel_rfl) (by kernel_rfl) (fun _ _ _ h => h) (Or.inl ⟨by rfl, ?hy⟩) (by assumption) ?_
       case hy => (intro wz hSw; (try dsimp only at hSw); go_simp <;> with_reducible rfl)
       simp only [List.setIfInBounds_toArray, List.set_cons_zero, List.set_cons_succ])
    | (refine take_at (i := 8) (v := undef) rfl rfl (by kernel_rfl) (by kernel_rfl) (by kernel_rfl) (fun _ _ _ h => h) (Or.inr ⟨by rfl, rfl⟩) (by assumption) ?_
       simp only [List.setIfInBounds_toArray, List.set_cons_zero, List.set_cons_succ])
  first
    | (refine take_at (i := 9) (v := ?_) rfl rfl (by kernel_rfl) (by kernel_rfl) (by kernel_rfl) (fun _ _ _ h => h) (Or.inl ⟨by rfl, ?hy⟩) (by assumption) ?_
       case hy => (intro wz hSw; (try dsimp only at hSw); go_simp <;> with_reducible rfl)
       simp only [List.setIfInBounds_toArray, List.set_cons_zero, List.set_cons_succ])
    | (refine take_at (i := 9) (v := undef) rfl rfl (by kernel_rfl) (by kernel_rfl) (by kernel_rfl) (fun _ _ _ h => h) (Or.inr ⟨by rfl, rfl⟩) (by assumption) ?_
       simp only [List.setIfInBounds_toArray, List.set_cons_zero, List.set_cons_succ])
  first
    | (refine take_at (i := 10) (v := ?_) rfl rfl (by kernel_rfl) (by kernel_rfl) (by kernel_rfl) (fun _ _ _ h => h) (Or.inl ⟨by rfl, ?hy⟩) (by assumption) ?_
       case hy => (intro wz hSw; (try dsimp only at hSw); go_simp <;> with_reducible rfl)
       simp only [List.setIfInBounds_toArray, List.set_cons_zero, List.set_cons_succ])
    | (refine take_at (i := 10) (v := undef) rfl rfl (by kernel_rfl) (by kernel_rfl) (by kernel_rfl) (fun _ _ _ h => h) (Or.inr ⟨by rfl, rfl⟩) (by assumption) ?_
       simp only [List.setIfInBounds_toArray, List.set_cons_zero, List.set_cons_succ])
  first
    | (refine take_at (i := 11) (v := ?_) rfl rfl (by kernel_rfl) (by kernel_rfl) (by kernel_rfl) (fun _ _ _ h => h) (Or.inl ⟨by rfl, ?hy⟩) (by assumption) ?_
       case hy => (intro wz hSw; (try dsimp only at hSw); go_simp <;> with_reducible rfl)
       simp only [List.setIfInBounds_toArray, List.set_cons_zero, List.set_cons_succ])
    | (refine take_at (i := 11) (v := undef) rfl rfl (by kernel_rfl) (by kernel_rfl) (by kernel_rfl) (fun _ _ _ h => h) (Or.inr ⟨by rfl, rfl⟩) (by assumption) ?_
       simp only [List.setIfInBounds_toArray, List.set_cons_zero, List.set_cons_succ])
  refine call_at (i := 12) (F := 79) (gapA64 x M _ (by omega) (by omega)) rfl rfl (by kernel_rfl) (by rfl) (by first | rfl | (go_simp <;> rfl)) ?_
  rintro e w' ⟨rfl, rfl⟩
  refine ⟨_, rfl, by assumption, ?_⟩
  simp only [List.setIfInBounds_toArray, List.set_cons_zero, List.set_cons_succ]
  first
    | (refine take_at (i := 13) (v := ?_) rfl rfl (by kernel_rfl) (by kernel_rfl) (by kernel_rfl) (fun _ _ _ h => h) (Or.inl ⟨by rfl, ?hy⟩) (by assumption) ?_
       case hy => (intro wz hSw; (try dsimp only at hSw); go_simp <;> with_reducible rfl)
       simp only [List.setIfInBounds_toArray, List.set_cons_zero, List.set_cons_succ])
    | (refine take_at (i := 13) (v := undef) rfl rfl (by kernel_rfl) (by kernel_rfl) (by kernel_rfl) (fun _ _ _ h => h) (Or.inr ⟨by rfl, rfl⟩) (by assumption) ?_
       simp only [List.setIfInBounds_toArray, List.set_cons_zero, List.set_cons_succ])
  first
    | (refine take_at (i := 14) (v := ?_) rfl rfl (by kernel_rfl) (by kernel_rfl) (by kernel_rfl) (fun _ _ _ h => h) (Or.inl ⟨by rfl, ?hy⟩) (by assumption) ?_
       case hy => (intro wz hSw; (try dsimp only at hSw); go_simp <;> with_reducible rfl)
       simp only [List.setIfInBounds_toArray, List.set_cons_zero, List.set_cons_succ])
    | (refine take_at (i := 14) (v := undef) rfl rfl (by kernel_rfl) (by kernel_rfl) (by kernel_rfl) (fun _ _ _ h => h) (Or.inr ⟨by rfl, rfl⟩) (by assumption) ?_
       simp only [List.setIfInBounds_toArray, List.set_cons_zero, List.set_cons_succ])
  refine wpAnyH_done (by kernel_rfl) ?_ _
  go_upto_region 6 with (fail)
  refine settle_wp ?_
  intro w3 hb3
  have hH := Ext.trans hHeld hb3
  replace HM2 := Lib.hid (HM2.out.ext hH)
  replace za_0 := hH.frozen qa_0 za_0
  replace qa_0 := hH.cell qa_0
  replace za_1 := hH.frozen qa_1 za_1
  replace qa_1 := hH.cell qa_1
  replace za_2 := hH.frozen qa_2 za_2
  replace qa_2 := hH.cell qa_2
  replace za_3 := hH.frozen qa_3 za_3
  replace qa_3 := hH.cell qa_3
  replace za_4 := hH.frozen qa_4 za_4
  replace qa_4 := hH.cell qa_4
  replace za_5 := hH.frozen qa_5 za_5
  replace qa_5 := hH.cell qa_5
  replace za_6 := hH.frozen qa_6 za_6
  replace qa_6 := hH.cell qa_6
  replace za_7 := hH.frozen qa_7 za_7
  replace qa_7 := hH.cell qa_7
  replace za_8 := hH.frozen qa_8 za_8
  replace qa_8 := hH.cell qa_8
  replace za_9 := hH.frozen qa_9 za_9
  replace qa_9 := hH.cell qa_9
  replace za_10 := hH.frozen qa_10 za_10
  replace qa_10 := hH.cell qa_10
  replace zr_0 := hH.frozen qr_0 zr_0
  replace qr_0 := hH.cell qr_0
  replace zr_1 := hH.frozen qr_1 zr_1
  replace qr_1 := hH.cell qr_1
  replace zr_2 := hH.frozen qr_2 zr_2
  replace qr_2 := hH.cell qr_2
  replace zr_3 := hH.frozen qr_3 zr_3
  replace qr_3 := hH.cell qr_3
  replace zr_4 := hH.frozen qr_4 zr_4
  replace qr_4 := hH.cell qr_4
  replace zr_5 := hH.frozen qr_5 zr_5
  replace qr_5 := hH.cell qr_5
  replace zr_6 := hH.frozen qr_6 zr_6
  replace qr_6 := hH.cell qr_6
  replace zr_7 := hH.frozen qr_7 zr_7
  replace qr_7 := hH.cell qr_7
  replace zr_8 := hH.frozen qr_8 zr_8
  replace qr_8 := hH.cell qr_8
  replace zr_9 := hH.frozen qr_9 zr_9
  replace qr_9 := hH.cell qr_9
  replace zr_10 := hH.frozen qr_10 zr_10
  replace qr_10 := hH.cell qr_10
  clear k4 k7 kW qW hHeld hH hb3
  go_upto_region 10 with (fail)
  refine settle_wp ?_
  intro w5 hb5
  replace HM2 := Lib.hid ((((HM2.out.set (p := ⟨w.heap.size, 7, none⟩) (by simp) (by simp) (.int .u64 x)).set (p := ⟨w.heap.size, 4, none⟩) (by simp) (by simp) (.int .i64 ((I : Int) + 1))).set (p := ⟨w.heap.size, 4, none⟩) (by simp) (by simp) (.int .i64 0)).ext hb5)
  have pa_0 : w5.cell? ⟨w.heap.size, 0, none⟩ = some (.int .i64 0) := hb5.cell (by simp (maxDischargeDepth := 40) [go_sem, set_some, set_same, qa_0])
  have pa_1 : w5.cell? ⟨w.heap.size, 1, none⟩ = some (.int .i64 tn) := hb5.cell (by simp (maxDischargeDepth := 40) [go_sem, set_some, set_same, qa_1])
  have pa_2 : w5.cell? ⟨w.heap.size, 2, none⟩ = some (.int .i64 0) := hb5.cell (by simp (maxDischargeDepth := 40) [go_sem, set_some, set_same, qa_2])
  have pa_3 : w5.cell? ⟨w.heap.size, 3, none⟩ = some (.int .i64 tp) := hb5.cell (by simp (maxDischargeDepth := 40) [go_sem, set_some, set_same, qa_3])
  have pa_4 : w5.cell? ⟨w.heap.size, 4, none⟩ = some (.int .i64 0) := hb5.cell (by simp (maxDischargeDepth := 40) [go_sem, set_some, set_same, qa_4])
  have pa_5 : w5.cell? ⟨w.heap.size, 5, none⟩ = some (.int .i64 0) := hb5.cell (by simp (maxDischargeDepth := 40) [go_sem, set_some, set_same, qa_5])
  have pa_6 : w5.cell? ⟨w.heap.size, 6, none⟩ = some (.int .u64 tf) := hb5.cell (by simp (maxDischargeDepth := 40) [go_sem, set_some, set_same, qa_6])
  have pa_7 : w5.cell? ⟨w.heap.size, 7, none⟩ = some (.int .u64 x) := hb5.cell (by simp (maxDischargeDepth := 40) [go_sem, set_some, set_same, qa_7])
  have pa_8 : w5.cell? ⟨w.heap.size, 8, none⟩ = some (.int .u64 tv) := hb5.cell (by simp (maxDischargeDepth := 40) [go_sem, set_some, set_same, qa_8])
  have pa_9 : w5.cell? ⟨w.heap.size, 9, none⟩ = some (.int .u64 0) := hb5.cell (by simp (maxDischargeDepth := 40) [go_sem, set_some, set_same, qa_9])
  have pa_10 : w5.cell? ⟨w.heap.size, 10, none⟩ = some (.slice none 0 0) := hb5.cell (by simp (maxDischargeDepth := 40) [go_sem, set_some, set_same, qa_10])
  have pr_0 : w5.cell? ⟨w.heap.size + 1, 0, none⟩ = some (.int .i64 0) := hb5.cell (by simp [go_sem, qr_0])
  have vr_0 : w5.frozen? ⟨w.heap.size + 1, 0, none⟩ = false := hb5.frozen (v := .int .i64 0) (by simp [go_sem, qr_0]) (by simp [go_sem, zr_0])
  have pr_1 : w5.cell? ⟨w.heap.size + 1, 1, none⟩ = some (.int .i64 0) := hb5.cell (by simp [go_sem, qr_1])
  have vr_1 : w5.frozen? ⟨w.heap.size + 1, 1, none⟩ = false := hb5.frozen (v := .int .i64 0) (by simp [go_sem, qr_1]) (by simp [go_sem, zr_1])
  have pr_2 : w5.cell? ⟨w.heap.size + 1, 2, none⟩ = some (.int .i64 0) := hb5.cell (by simp [go_sem, qr_2])
  have vr_2 : w5.frozen? ⟨w.heap.size + 1, 2, none⟩ = false := hb5.frozen (v := .int .i64 0) (by simp [go_sem, qr_2]) (by simp [go_sem, zr_2])
  have pr_3 : w5.cell? ⟨w.heap.size + 1, 3, none⟩ = some (.int .i64 0) := hb5.cell (by simp [go_sem, qr_3])
  have vr_3 : w5.frozen? ⟨w.heap.size + 1, 3, none⟩ = false := hb5.frozen (v := .int .i64 0) (by simp [go_sem, qr_3]) (by simp [go_sem, zr_3])
  have pr_4 : w5.cell? ⟨w.heap.size + 1, 4, none⟩ = some (.int .i64 0) := hb5.cell (by simp [go_sem, qr_4])
  have vr_4 : w5.frozen? ⟨w.heap.size + 1, 4, none⟩ = false := hb5.frozen (v := .int .i64 0) (by simp [go_sem, qr_4]) (by simp [go_sem, zr_4])
  have pr_5 : w5.cell? ⟨w.heap.size + 1, 5, none⟩ = some (.int .i64 0) := hb5.cell (by simp [go_sem, qr_5])
  have vr_5 : w5.frozen? ⟨w.heap.size + 1, 5, none⟩ = false := hb5.frozen (v := .int .i64 0) (by simp [go_sem, qr_5]) (by simp [go_sem, zr_5])
  have pr_6 : w5.cell? ⟨w.heap.size + 1, 6, none⟩ = some (.int .u64 0) := hb5.cell (by simp [go_sem, qr_6])
  have vr_6 : w5.frozen? ⟨w.heap.size + 1, 6, none⟩ = false := hb5.frozen (v := .int .u64 0) (by simp [go_sem, qr_6]) (by simp [go_sem, zr_6])
  have pr_7 : w5.cell? ⟨w.heap.size + 1, 7, none⟩ = some (.int .u64 0) := hb5.cell (by simp [go_sem, qr_7])
  have vr_7 : w5.frozen? ⟨w.heap.size + 1, 7, none⟩ = false := hb5.frozen (v := .int .u64 0) (by simp [go_sem, qr_7]) (by simp [go_sem, zr_7])
  have pr_8 : w5.cell? ⟨w.heap.size + 1, 8, none⟩ = some (.int .u64 0) := hb5.cell (by simp [go_sem, qr_8])
  have vr_8 : w5.frozen? ⟨w.heap.size + 1, 8, none⟩ = false := hb5.frozen (v := .int .u64 0) (by simp [go_sem, qr_8]) (by simp [go_sem, zr_8])
  have pr_9 : w5.cell? ⟨w.heap.size + 1, 9, none⟩ = some (.int .u64 0) := hb5.cell (by simp [go_sem, qr_9])
  have vr_9 : w5.frozen? ⟨w.heap.size + 1, 9, none⟩ = false := hb5.frozen (v := .int .u64 0) (by simp [go_sem, qr_9]) (by simp [go_sem, zr_9])
  have pr_10 : w5.cell? ⟨w.heap.size + 1, 10, none⟩ = some (.slice none 0 0) := hb5.cell (by simp [go_sem, qr_10])
  have vr_10 : w5.frozen? ⟨w.heap.size + 1, 10, none⟩ = false := hb5.frozen (v := .slice none 0 0) (by simp [go_sem, qr_10]) (by simp [go_sem, zr_10])
  clear hb5 qa_0 za_0 qa_1 za_1 qa_2 za_2 qa_3 za_3 qa_4 za_4 qa_5 za_5 qa_6 za_6 qa_7 za_7 qa_8 za_8 qa_9 za_9 qa_10 za_10 qr_0 zr_0 qr_1 zr_1 qr_2 zr_2 qr_3 zr_3 qr_4 zr_4 qr_5 zr_5 qr_6 zr_6 qr_7 zr_7 qr_8 zr_8 qr_9 zr_9 qr_10 zr_10
  go_wp2
  refine bodyPost_ret (v := .tuple #[(.agg #[.int .i64 0, .int .i64 tn, .int .i64 0, .int .i64 tp, .int .i64 0, .int .i64 0, .int .u64 tf, .int .u64 x, .int .u64 tv, .int .u64 0, .slice none 0 0]), .bool true]) (by simp [results, Tryz.results59, go_sem, pr_0, pr_1, pr_2, pr_3, pr_4, pr_5, pr_6, pr_7, pr_8, pr_9, pr_10, pa_0, pa_1, pa_2, pa_3, pa_4, pa_5, pa_6, pa_7, pa_8, pa_9, pa_10]) rfl (HG.out _ ?mid)
  case mid => repeat (first | with_reducible exact HM2.out | refine RMid.set ?_ (by simp) (by simp) _)
set_option maxRecDepth 100000 in
theorem rScan64_lc (b : Nat) (r : RY) (f : Nat → Int) (lv : Value) (log : List Acc) (t : Int) (v : Value) (xs : List Int) (I c : Nat) (tn tp tf M tv : Int) (w : World) (h : RB w b r f lv log) (hW : r.W = 64) (hv : IntsV w v xs) (hI : I < xs.length) (hx : xs.getD I 0 = c) (hk : isK r (c : Int) 1 = true) (hc : c < r.m) (hl : log.length ≤ 1000) (hn : xs.length ≤ 1000) (f0 : 0 ≤ f c) (hM : 0 ≤ M) (h0 : ¬ I = 0) (h1 : D64 (f c - M) < 0) (h2 : I + 1 < xs.length) :
    Calls Tryz.prog 59 #[.pointer (some ⟨b, 0, none⟩), .int .i64 t, v, (.agg #[.int .i64 0, .int .i64 tn, .int .i64 0, .int .i64 tp, .int .i64 I, .int .i64 0, .int .u64 tf, .int .u64 M, .int .u64 tv, .int .u64 0, .slice none 0 0])] w (RScanDoes b r lv f (log ++ [⟨t, 1, c, f c, f c⟩]) false tn tp ((I : Int) + 1) tf (f c) tv w) := by
  have CA := Lib.hid (fun w' (hx : Ext w w') => rLoad_yes b r f lv log t c w' (h.ext hx) hk hc hl)
  have HG : Hid (∀ w', RMid b r lv f (log ++ [⟨t, 1, c, f c, f c⟩]) w w' → RScanDoes b r lv f (log ++ [⟨t, 1, c, f c, f c⟩]) false tn tp ((I : Int) + 1) tf (f c) tv w (.returned (.tuple #[(.agg #[.int .i64 0, .int .i64 tn, .int .i64 0, .int .i64 tp, .int .i64 ((I : Int) + 1), .int .i64 0, .int .u64 tf, .int .u64 (f c), .int .u64 tv, .int .u64 0, .slice none 0 0]), .bool false])) w') := Lib.hid (fun w' hm => ⟨rfl, hm.does (v := .bool true)⟩)
  have HM := Lib.hid (fun lv' w1 w2 (hx : Ext w w1) hs hR hN hA => rmid_of (f' := f) (lv' := lv') (log' := (log ++ [⟨t, 1, c, f c, f c⟩])) (w1 := w1) (w2 := w2) h hx hs hR hN hA)
  generalize RScanDoes b r lv f (log ++ [⟨t, 1, c, f c, f c⟩]) false tn tp ((I : Int) + 1) tf (f c) tv w = G at *
  obtain ⟨va, vc, ev, hf⟩ := hv.form
  subst ev
  obtain ⟨vb, vo, ea, cv⟩ := hf I hI
  subst ea
  rw [hx] at cv
  generalize hxx : f c = x at *
  have hI1 : (I : Int) < (xs.length : Int) := by omega
  have hI0 : (0 : Int) ≤ (I : Int) := by omega
  have d0 : ((I : Int) == 0) = false := by simp; omega
  have d1 : decide (D64 (x - M) < 0) = true := by simpa using h1
  have d2 : ((I : Int) + 1 == (xs.length : Int)) = false := by simp; omega
  have hwr : IntKind.i64.wrap ((I : Int) + 1) = (I : Int) + 1 := wrapS (by omega) (by omega)
  have hlt := fun k (hk : Own b r.gh lv k) => h.lt hk
  generalize xs.length = n at *
  clear h hv hf hI hx hk hl hn h0 h2 h1
  go_enter Tryz.func59, Tryz.ntmps59
  go_upto_region 1 with (fail)
  refine settle_wp ?_
  intro w1 hb1
  have qa_0 : w1.cell? ⟨w.heap.size, 0, none⟩ = some (.int .i64 0) := (hb1.cells.1 _ _ (by simp <;> omega)).trans (by simp [go_sem])
  have za_0 : w1.frozen? ⟨w.heap.size, 0, none⟩ = false := (hb1.cells.2 _ _ (by simp <;> omega)).trans (by simp [go_sem])
  have qa_1 : w1.cell? ⟨w.heap.size, 1, none⟩ = some (.int .i64 tn) := (hb1.cells.1 _ _ (by simp <;> omega)).trans (by simp [go_sem])
  have za_1 : w1.frozen? ⟨w.heap.size, 1, none⟩ = false := (hb1.cells.2 _ _ (by simp <;> omega)).trans (by simp [go_sem])
  have qa_2 : w1.cell? ⟨w.heap.size, 2, none⟩ = some (.int .i64 0) := (hb1.cells.1 _ _ (by simp <;> omega)).trans (by simp [go_sem])
  have za_2 : w1.frozen? ⟨w.heap.size, 2, none⟩ = false := (hb1.cells.2 _ _ (by simp <;> omega)).trans (by simp [go_sem])
  have qa_3 : w1.cell? ⟨w.heap.size, 3, none⟩ = some (.int .i64 tp) := (hb1.cells.1 _ _ (by simp <;> omega)).trans (by simp [go_sem])
  have za_3 : w1.frozen? ⟨w.heap.size, 3, none⟩ = false := (hb1.cells.2 _ _ (by simp <;> omega)).trans (by simp [go_sem])
  have qa_4 : w1.cell? ⟨w.heap.size, 4, none⟩ = some (.int .i64 I) := (hb1.cells.1 _ _ (by simp <;> omega)).trans (by simp [go_sem])
  have za_4 : w1.frozen? ⟨w.heap.size, 4, none⟩ = false := (hb1.cells.2 _ _ (by simp <;> omega)).trans (by simp [go_sem])
  have qa_5 : w1.cell? ⟨w.heap.size, 5, none⟩ = some (.int .i64 0) := (hb1.cells.1 _ _ (by simp <;> omega)).trans (by simp [go_sem])
  have za_5 : w1.frozen? ⟨w.heap.size, 5, none⟩ = false := (hb1.cells.2 _ _ (by simp <;> omega)).trans (by simp [go_sem])
  have qa_6 : w1.cell? ⟨w.heap.size, 6, none⟩ = some (.int .u64 tf) := (hb1.cells.1 _ _ (by simp <;> omega)).trans (by simp [go_sem])
  have za_6 : w1.frozen? ⟨w.heap.size, 6, none⟩ = false := (hb1.cells.2 _ _ (by simp <;> omega)).trans (by simp [go_sem])
  have qa_7 : w1.cell? ⟨w.heap.size, 7, none⟩ = some (.int .u64 M) := (hb1.cells.1 _ _ (by simp <;> omega)).trans (by simp [go_sem])
  have za_7 : w1.frozen? ⟨w.heap.size, 7, none⟩ = false := (hb1.cells.2 _ _ (by simp <;> omega)).trans (by simp [go_sem])
  have qa_8 : w1.cell? ⟨w.heap.size, 8, none⟩ = some (.int .u64 tv) := (hb1.cells.1 _ _ (by simp <;> omega)).trans (by simp [go_sem])
  have za_8 : w1.frozen? ⟨w.heap.size, 8, none⟩ = false := (hb1.cells.2 _ _ (by simp <;> omega)).trans (by simp [go_sem])
  have qa_9 : w1.cell? ⟨w.heap.size, 9, none⟩ = some (.int .u64 0) := (hb1.cells.1 _ _ (by simp <;> omega)).trans (by simp [go_sem])
  have za_9 : w1.frozen? ⟨w.heap.size, 9, none⟩ = false := (hb1.cells.2 _ _ (by simp <;> omega)).trans (by simp [go_sem])
  have qa_10 : w1.cell? ⟨w.heap.size, 10, none⟩ = some (.slice none 0 0) := (hb1.cells.1 _ _ (by simp <;> omega)).trans (by simp [go_sem])
  have za_10 : w1.frozen? ⟨w.heap.size, 10, none⟩ = false := (hb1.cells.2 _ _ (by simp <;> omega)).trans (by simp [go_sem])
  have pa := World.block_lt_of_cell? _ ⟨w.heap.size, 0, none⟩ qa_0
  have ra := Nat.lt_succ_of_lt pa
  have qr_0 : w1.cell? ⟨(w.heap.size + 1), 0, none⟩ = some (.int .i64 0) := (hb1.cells.1 _ _ (by simp <;> omega)).trans (by simp [go_sem])
  have zr_0 : w1.frozen? ⟨(w.heap.size + 1), 0, none⟩ = false := (hb1.cells.2 _ _ (by simp <;> omega)).trans (by simp [go_sem])
  have qr_1 : w1.cell? ⟨(w.heap.size + 1), 1, none⟩ = some (.int .i64 0) := (hb1.cells.1 _ _ (by simp <;> omega)).trans (by simp [go_sem])
  have zr_1 : w1.frozen? ⟨(w.heap.size + 1), 1, none⟩ = false := (hb1.cells.2 _ _ (by simp <;> omega)).trans (by simp [go_sem])
  have qr_2 : w1.cell? ⟨(w.heap.size + 1), 2, none⟩ = some (.int .i64 0) := (hb1.cells.1 _ _ (by simp <;> omega)).trans (by simp [go_sem])
  have zr_2 : w1.frozen? ⟨(w.heap.size + 1), 2, none⟩ = false := (hb1.cells.2 _ _ (by simp <;> omega)).trans (by simp [go_sem])
  have qr_3 : w1.cell? ⟨(w.heap.size + 1), 3, none⟩ = some (.int .i64 0) := (hb1.cells.1 _ _ (by simp <;> omega)).trans (by simp [go_sem])
  have zr_3 : w1.frozen? ⟨(w.heap.size + 1), 3, none⟩ = false := (hb1.cells.2 _ _ (by simp <;> omega)).trans (by simp [go_sem])
  have qr_4 : w1.cell? ⟨(w.heap.size + 1), 4, none⟩ = some (.int .i64 0) := (hb1.cells.1 _ _ (by simp <;> omega)).trans (by simp [go_sem])
  have zr_4 : w1.frozen? ⟨(w.heap.size + 1), 4, none⟩ = false := (hb1.cells.2 _ _ (by simp <;> omega)).trans (by simp [go_sem])
  have qr_5 : w1.cell? ⟨(w.heap.size + 1), 5, none⟩ = some (.int .i64 0) := (hb1.cells.1 _ _ (by simp <;> omega)).trans (by simp [go_sem])
  have zr_5 : w1.frozen? ⟨(w.heap.size + 1), 5, none⟩ = false := (hb1.cells.2 _ _ (by simp <;> omega)).trans (by simp [go_sem])
  have qr_6 : w1.cell? ⟨(w.heap.size + 1), 6, none⟩ = some (.int .u64 0) := (hb1.cells.1 _ _ (by simp <;> omega)).trans (by simp [go_sem])
  have zr_6 : w1.frozen? ⟨(w.heap.size + 1), 6, none⟩ = false := (hb1.cells.2 _ _ (by simp <;> omega)).trans (by simp [go_sem])
  have qr_7 : w1.cell? ⟨(w.heap.size + 1), 7, none⟩ = some (.int .u64 0) := (hb1.cells.1 _ _ (by simp <;> omega)).trans (by simp [go_sem])
  have zr_7 : w1.frozen? ⟨(w.heap.size + 1), 7, none⟩ = false := (hb1.cells.2 _ _ (by simp <;> omega)).trans (by simp [go_sem])
  have qr_8 : w1.cell? ⟨(w.heap.size + 1), 8, none⟩ = some (.int .u64 0) := (hb1.cells.1 _ _ (by simp <;> omega)).trans (by simp [go_sem])
  have zr_8 : w1.frozen? ⟨(w.heap.size + 1), 8, none⟩ = false := (hb1.cells.2 _ _ (by simp <;> omega)).trans (by simp [go_sem])
  have qr_9 : w1.cell? ⟨(w.heap.size + 1), 9, none⟩ = some (.int .u64 0) := (hb1.cells.1 _ _ (by simp <;> omega)).trans (by simp [go_sem])
  have zr_9 : w1.frozen? ⟨(w.heap.size + 1), 9, none⟩ = false := (hb1.cells.2 _ _ (by simp <;> omega)).trans (by simp [go_sem])
  have qr_10 : w1.cell? ⟨(w.heap.size + 1), 10, none⟩ = some (.slice none 0 0) := (hb1.cells.1 _ _ (by simp <;> omega)).trans (by simp [go_sem])
  have zr_10 : w1.frozen? ⟨(w.heap.size + 1), 10, none⟩ = false := (hb1.cells.2 _ _ (by simp <;> omega)).trans (by simp [go_sem])
  have pr := World.block_lt_of_cell? _ ⟨(w.heap.size + 1), 0, none⟩ qr_0
  have rr := Nat.lt_succ_of_lt pr
  have XE : Ext w w1 := Ext.trans (Ext.alloc (Ext.alloc (Ext.refl w) _) _) hb1
  have hs1 : w.heap.size + 2 ≤ w1.heap.size := by have h1 := hb1.size; simp at h1; omega
  have na : ¬ Own b r.gh lv w.heap.size := fun hk => by have := hlt _ hk; omega
  have nr : ¬ Own b r.gh lv (w.heap.size + 1) := fun hk => by have := hlt _ hk; omega
  replace cv := XE.cell cv
  clear hb1
  go_wp2_with fail
  refine (CA.out _ XE).mono ?_
  rintro e w2 ⟨rfl, lv2, R2, N2, A2⟩
  have HM2 := Lib.hid (HM.out lv2 _ w2 XE hs1 R2 N2 A2)
  have qW := R2.q1
  rw [hW] at qW
  replace za_0 := N2.frozen qa_0 za_0 na
  replace qa_0 := N2.cell qa_0 na
  replace za_1 := N2.frozen qa_1 za_1 na
  replace qa_1 := N2.cell qa_1 na
  replace za_2 := N2.frozen qa_2 za_2 na
  replace qa_2 := N2.cell qa_2 na
  replace za_3 := N2.frozen qa_3 za_3 na
  replace qa_3 := N2.cell qa_3 na
  replace za_4 := N2.frozen qa_4 za_4 na
  replace qa_4 := N2.cell qa_4 na
  replace za_5 := N2.frozen qa_5 za_5 na
  replace qa_5 := N2.cell qa_5 na
  replace za_6 := N2.frozen qa_6 za_6 na
  replace qa_6 := N2.cell qa_6 na
  replace za_7 := N2.frozen qa_7 za_7 na
  replace qa_7 := N2.cell qa_7 na
  replace za_8 := N2.frozen qa_8 za_8 na
  replace qa_8 := N2.cell qa_8 na
  replace za_9 := N2.frozen qa_9 za_9 na
  replace qa_9 := N2.cell qa_9 na
  replace za_10 := N2.frozen qa_10 za_10 na
  replace qa_10 := N2.cell qa_10 na
  replace zr_0 := N2.frozen qr_0 zr_0 nr
  replace qr_0 := N2.cell qr_0 nr
  replace zr_1 := N2.frozen qr_1 zr_1 nr
  replace qr_1 := N2.cell qr_1 nr
  replace zr_2 := N2.frozen qr_2 zr_2 nr
  replace qr_2 := N2.cell qr_2 nr
  replace zr_3 := N2.frozen qr_3 zr_3 nr
  replace qr_3 := N2.cell qr_3 nr
  replace zr_4 := N2.frozen qr_4 zr_4 nr
  replace qr_4 := N2.cell qr_4 nr
  replace zr_5 := N2.frozen qr_5 zr_5 nr
  replace qr_5 := N2.cell qr_5 nr
  replace zr_6 := N2.frozen qr_6 zr_6 nr
  replace qr_6 := N2.cell qr_6 nr
  replace zr_7 := N2.frozen qr_7 zr_7 nr
  replace qr_7 := N2.cell qr_7 nr
  replace zr_8 := N2.frozen qr_8 zr_8 nr
  replace qr_8 := N2.cell qr_8 nr
  replace zr_9 := N2.frozen qr_9 zr_9 nr
  replace qr_9 := N2.cell qr_9 nr
  replace zr_10 := N2.frozen qr_10 zr_10 nr
  replace qr_10 := N2.cell qr_10 nr
  clear R2 N2 A2 XE cv
  go_upto_region 5 with (fail)
  have k4 := fun w' (hx : Ext w2 w') => hx.cell qa_4
  have k7 := fun w' (hx : Ext w2 w') => hx.cell qa_7
  have kW := fun w' (hx : Ext w2 w') => hx.cell qW
  refine wp_region_held_drew (S := fun w' => Ext w2 w') (by kernel_rfl) ?hbeg (fun hHeld => ?_)
  case hbeg => exact (Ext.refl w2).drew
  have hHeld0 : Ext w2 w2 := by first | exact Ext.refl _ | assumption
  first
    | (refine take_at (i := 0) (v := ?_) rfl rfl (by kernel_rfl) (by kernel_rfl) (by kernel_rfl) (fun _ _ _ h => h) (Or.inl ⟨by rfl, ?hy⟩) (by assumption) ?_
       case hy => (intro wz hSw; (try dsimp only at hSw); go_simp <;> with_reducible rfl)
       simp only [List.setIfInBounds_toArray, List.set_cons_zero, List.set_cons_succ])
    | (refine take_at (i := 0) (v := undef) rfl rfl (by kernel_rfl) (by kernel_rfl) (by kernel_rfl) (fun _ _ _ h => h) (Or.inr ⟨by rfl, rfl⟩) (by assumption) ?_
       simp only [List.setIfInBounds_toArray, List.set_cons_zero, List.set_cons_succ])
  first
    | (refine take_at (i := 1) (v := ?_) rfl rfl (by kernel_rfl) (by kernel_rfl) (by kernel_rfl) (fun _ _ _ h => h) (Or.inl ⟨by rfl, ?hy⟩) (by assumption) ?_
       case hy => (intro wz hSw; (try dsimp only at hSw); go_simp <;> with_reducible rfl)
       simp only [List.setIfInBounds_toArray, List.set_cons_zero, List.set_cons_succ])
    | (refine take_at (i := 1) (v := undef) rfl rfl (by kernel_rfl) (by kernel_rfl) (by kernel_rfl) (fun _ _ _ h => h) (Or.inr ⟨by rfl, rfl⟩) (by assumption) ?_
       simp only [List.setIfInBounds_toArray, List.set_cons_zero, List.set_cons_succ])
  first
    | (refine take_at (i := 2) (v := ?_) rfl rfl (by kernel_rfl) (by kernel_rfl) (by kernel_rfl) (fun _ _ _ h => h) (Or.inl ⟨by rfl, ?hy⟩) (by assumption) ?_
       case hy => (intro wz hSw; (try dsimp only at hSw); go_simp <;> with_reducible rfl)
       simp only [List.setIfInBounds_toArray, List.set_cons_zero, List.set_cons_succ])
    | (refine take_at (i := 2) (v := undef) rfl rfl (by kernel_rfl) (by kernel_rfl) (by kernel_rfl) (fun _ _ _ h => h) (Or.inr ⟨by rfl, rfl⟩) (by assumption) ?_
       simp only [List.setIfInBounds_toArray, List.set_cons_zero, List.set_cons_succ])
  first
    | (refine take_at (i := 3) (v := ?_) rfl rfl (by kernel_rfl) (by kernel_rfl) (by kernel_rfl) (fun _ _ _ h => h) (Or.inl ⟨by rfl, ?hy⟩) (by assumption) ?_
       case hy => (intro wz hSw; (try dsimp only at hSw); go_simp <;> with_reducible rfl)
       simp only [List.setIfInBounds_toArray, List.set_cons_zero, List.set_cons_succ])
    | (refine take_at (i := 3) (v := undef) rfl rfl (by kernel_rfl) (by kernel_rfl) (by kernel_rfl) (fun _ _ _ h => h) (Or.inr ⟨by rfl, rfl⟩) (by assumption) ?_
       simp only [List.setIfInBounds_toArray, List.set_cons_zero, List.set_cons_succ])
  first
    | (refine take_at (i := 4) (v := ?_) rfl rfl (by kernel_rfl) (by kernel_rfl) (by kernel_rfl) (fun _ _ _ h => h) (Or.inl ⟨by rfl, ?hy⟩) (by assumption) ?_
       case hy => (intro wz hSw; (try dsimp only at hSw); go_simp <;> with_reducible rfl)
       simp only [List.setIfInBounds_toArray, List.set_cons_zero, List.set_cons_succ])
    | (refine take_at (i := 4) (v := undef) rfl rfl (by kernel_rfl) (by kernel_rfl) (by kernel_rfl) (fun _ _ _ h => h) (Or.inr ⟨by rfl, rfl⟩) (by assumption) ?_
       simp only [List.setIfInBounds_toArray, List.set_cons_zero, List.set_cons_succ])
  first
    | (refine take_at (i := 5) (v := ?_) rfl rfl (by kernel_rfl) (by kernel_rfl) (by kernel_rfl) (fun _ _ _ h => h) (Or.inl ⟨by rfl, ?hy⟩) (by assumption) ?_
       case hy => (intro wz hSw; (try dsimp only at hSw); go_simp <;> with_reducible rfl)
       simp only [List.setIfInBounds_toArray, List.set_cons_zero, List.set_cons_succ])
    | (refine take_at (i := 5) (v := undef) rfl rfl (by kernel_rfl) (by kernel_rfl) (by kernel_rfl) (fun _ _ _ h => h) (Or.inr ⟨by rfl, rfl⟩) (by assumption) ?_
       simp only [List.setIfInBounds_toArray, List.set_cons_zero, List.set_cons_succ])
  first
    | (refine take_at (i := 6) (v := ?_) rfl rfl (by kernel_rfl) (by kernel_rfl) (by kernel_rfl) (fun _ _ _ h => h) (Or.inl ⟨by rfl, ?hy⟩) (by assumption) ?_
       case hy => (intro wz hSw; (try dsimp only at hSw); go_simp <;> with_reducible rfl)
       simp only [List.setIfInBounds_toArray, List.set_cons_zero, List.set_cons_succ])
    | (refine take_at (i := 6) (v := undef) rfl rfl (by kernel_rfl) (by kernel_rfl) (by kernel_rfl) (fun _ _ _ h => h) (Or.inr ⟨by rfl, rfl⟩) (by assumption) ?_
       simp only [List.setIfInBounds_toArray, List.set_cons_zero, List.set_cons_succ])
  first
    | (refine take_at (i := 7) (v := ?_) rfl rfl (by kernel_rfl) (by kernel_rfl) (by kernel_rfl) (fun _ _ _ h => h) (Or.inl ⟨by rfl, ?hy⟩) (by assumption) ?_
       case hy => (intro wz hSw; (try dsimp only at hSw); go_simp <;> with_reducible rfl)
       simp only [List.setIfInBounds_toArray, List.set_cons_zero, List.set_cons_succ])
    | (refine take_at (i := 7) (v := undef) rfl rfl (by kernel_rfl) (by kernel_rfl) (by kernel_rfl) (fun _ _ _ h => h) (Or.inr ⟨by rfl, rfl⟩) (by assumption) ?_
       simp only [List.setIfInBounds_toArray, List.set_cons_zero, List.set_cons_succ])
  first
    | (refine take_at (i := 8) (v := ?_) rfl rfl (by kernel_rfl) (by kernel_rfl) (by kernel_rfl) (fun _ _ _ h => h) (Or.inl ⟨by rfl, ?hy⟩) (by assumption) ?_
       case hy => (intro wz hSw; (try dsimp only at hSw); go_simp <;> with_reducible rfl)
       simp only [List.setIfInBounds_toArray, List.set_cons_zero, List.set_cons_succ])
    | (refine take_at (i := 8) (v := undef) rfl rfl (by kernel_rfl) (by kernel_rfl) (by kernel_rfl) (fun _ _ _ h => h) (Or.inr ⟨by rfl, rfl⟩) (by assumption) ?_
       simp only [List.setIfInBounds_toArray, List.set_cons_zero, List.set_cons_succ])
  first
    | (refine take_at (i := 9) (v := ?_) rfl rfl (by kernel_rfl) (by kernel_rfl) (by kernel_rfl) (fun _ _ _ h => h) (Or.inl ⟨by rfl, ?hy⟩) (by assumption) ?_
       case hy => (intro wz hSw; (try dsimp only at hSw); go_simp <;> with_reducible rfl)
       simp only [List.setIfInBounds_toArray, List.set_cons_zero, List.set_cons_succ])
    | (refine take_at (i := 9) (v := undef) rfl rfl (by kernel_rfl) (by kernel_rfl) (by kernel_rfl) (fun _ _ _ h => h) (Or.inr ⟨by rfl, rfl⟩) (by assumption) ?_
       simp only [List.setIfInBounds_toArray, List.set_cons_zero, List.set_cons_succ])
  first
    | (refine take_at (i := 10) (v := ?_) rfl rfl (by kernel_rfl) (by kernel_rfl) (by kernel_rfl) (fun _ _ _ h => h) (Or.inl ⟨by rfl, ?hy⟩) (by assumption) ?_
       case hy => (intro wz hSw; (try dsimp only at hSw); go_simp <;> with_reducible rfl)
       simp only [List.setIfInBounds_toArray, List.set_cons_zero, List.set_cons_succ])
    | (refine take_at (i := 10) (v := undef) rfl rfl (by kernel_rfl) (by kernel_rfl) (by kernel_rfl) (fun _ _ _ h => h) (Or.inr ⟨by rfl, rfl⟩) (by assumption) ?_
       simp only [List.setIfInBounds_toArray, List.set_cons_zero, List.set_cons_succ])
  first
    | (refine take_at (i := 11) (v := ?_) rfl rfl (by kernel_rfl) (by kernel_rfl) (by kernel_rfl) (fun _ _ _ h => h) (Or.inl ⟨by rfl, ?hy⟩) (by assumption) ?_
       case hy => (intro wz hSw; (try dsimp only at hSw); go_simp <;> with_reducible rfl)
       simp only [List.setIfInBounds_toArray, List.set_cons_zero, List.set_cons_succ])
    | (refine take_at (i := 11) (v := undef) rfl rfl (by kernel_rfl) (by kernel_rfl) (by kernel_rfl) (fun _ _ _ h => h) (Or.inr ⟨by rfl, rfl⟩) (by assumption) ?_
       simp only [List.setIfInBounds_toArray, List.set_cons_zero, List.set_cons_succ])
  refine call_at (i := 12) (F := 79) (gapA64 x M _ (by omega) (by omega)) rfl rfl (by kernel_rfl) (by rfl) (by first | rfl | (go_simp <;> rfl)) ?_
  rintro e w' ⟨rfl, rfl⟩
  refine ⟨_, rfl, by assumption, ?_⟩
  simp only [List.setIfInBounds_toArray, List.set_cons_zero, List.set_cons_succ]
  first
    | (refine take_at (i := 13) (v := ?_) rfl rfl (by kernel_rfl) (by kernel_rfl) (by kernel_rfl) (fun _ _ _ h => h) (Or.inl ⟨by rfl, ?hy⟩) (by assumption) ?_
       case hy => (intro wz hSw; (try dsimp only at hSw); go_simp <;> with_reducible rfl)
       simp only [List.setIfInBounds_toArray, List.set_cons_zero, List.set_cons_succ])
    | (refine take_at (i := 13) (v := undef) rfl rfl (by kernel_rfl) (by kernel_rfl) (by kernel_rfl) (fun _ _ _ h => h) (Or.inr ⟨by rfl, rfl⟩) (by assumption) ?_
       simp only [List.setIfInBounds_toArray, List.set_cons_zero, List.set_cons_succ])
  first
    | (refine take_at (i := 14) (v := ?_) rfl rfl (by kernel_rfl) (by kernel_rfl) (by kernel_rfl) (fun _ _ _ h => h) (Or.inl ⟨by rfl, ?hy⟩) (by assumption) ?_
       case hy => (intro wz hSw; (try dsimp only at hSw); go_simp <;> with_reducible rfl)
       simp only [List.setIfInBounds_toArray, List.set_cons_zero, List.set_cons_succ])
    | (refine take_at (i := 14) (v := undef) rfl rfl (by kernel_rfl) (by kernel_rfl) (by kernel_rfl) (fun _ _ _ h => h) (Or.inr ⟨by rfl, rfl⟩) (by assumption) ?_
       simp only [List.setIfInBounds_toArray, List.set_cons_zero, List.set_cons_succ])
  refine wpAnyH_done (by kernel_rfl) ?_ _
  go_upto_region 6 with (fail)
  refine settle_wp ?_
  intro w3 hb3
  have hH := Ext.trans hHeld hb3
  replace HM2 := Lib.hid (HM2.out.ext hH)
  replace za_0 := hH.frozen qa_0 za_0
  replace qa_0 := hH.cell qa_0
  replace za_1 := hH.frozen qa_1 za_1
  replace qa_1 := hH.cell qa_1
  replace za_2 := hH.frozen qa_2 za_2
  replace qa_2 := hH.cell qa_2
  replace za_3 := hH.frozen qa_3 za_3
  replace qa_3 := hH.cell qa_3
  replace za_4 := hH.frozen qa_4 za_4
  replace qa_4 := hH.cell qa_4
  replace za_5 := hH.frozen qa_5 za_5
  replace qa_5 := hH.cell qa_5
  replace za_6 := hH.frozen qa_6 za_6
  replace qa_6 := hH.cell qa_6
  replace za_7 := hH.frozen qa_7 za_7
  replace qa_7 := hH.cell qa_7
  replace za_8 := hH.frozen qa_8 za_8
  replace qa_8 := hH.cell qa_8
  replace za_9 := hH.frozen qa_9 za_9
  replace qa_9 := hH.cell qa_9
  replace za_10 := hH.frozen qa_10 za_10
  replace qa_10 := hH.cell qa_10
  replace zr_0 := hH.frozen qr_0 zr_0
  replace qr_0 := hH.cell qr_0
  replace zr_1 := hH.frozen qr_1 zr_1
  replace qr_1 := hH.cell qr_1
  replace zr_2 := hH.frozen qr_2 zr_2
  replace qr_2 := hH.cell qr_2
  replace zr_3 := hH.frozen qr_3 zr_3
  replace qr_3 := hH.cell qr_3
  replace zr_4 := hH.frozen qr_4 zr_4
  replace qr_4 := hH.cell qr_4
  replace zr_5 := hH.frozen qr_5 zr_5
  replace qr_5 := hH.cell qr_5
  replace zr_6 := hH.frozen qr_6 zr_6
  replace qr_6 := hH.cell qr_6
  replace zr_7 := hH.frozen qr_7 zr_7
  replace qr_7 := hH.cell qr_7
  replace zr_8 := hH.frozen qr_8 zr_8
  replace qr_8 := hH.cell qr_8
  replace zr_9 := hH.frozen qr_9 zr_9
  replace qr_9 := hH.cell qr_9
  replace zr_10 := hH.frozen qr_10 zr_10
  replace qr_10 := hH.cell qr_10
  clear k4 k7 kW qW hHeld hH hb3
  go_upto_region 11 with (fail)
  refine settle_wp ?_
  intro w5 hb5
  replace HM2 := Lib.hid (((HM2.out.set (p := ⟨w.heap.size, 7, none⟩) (by simp) (by simp) (.int .u64 x)).set (p := ⟨w.heap.size, 4, none⟩) (by simp) (by simp) (.int .i64 ((I : Int) + 1))).ext hb5)
  have pa_0 : w5.cell? ⟨w.heap.size, 0, none⟩ = some (.int .i64 0) := hb5.cell (by simp (maxDischargeDepth := 40) [go_sem, set_some, set_same, qa_0])
  have pa_1 : w5.cell? ⟨w.heap.size, 1, none⟩ = some (.int .i64 tn) := hb5.cell (by simp (maxDischargeDepth := 40) [go_sem, set_some, set_same, qa_1])
  have pa_2 : w5.cell? ⟨w.heap.size, 2, none⟩ = some (.int .i64 0) := hb5.cell (by simp (maxDischargeDepth := 40) [go_sem, set_some, set_same, qa_2])
  have pa_3 : w5.cell? ⟨w.heap.size, 3, none⟩ = some (.int .i64 tp) := hb5.cell (by simp (maxDischargeDepth := 40) [go_sem, set_some, set_same, qa_3])
  have pa_4 : w5.cell? ⟨w.heap.size, 4, none⟩ = some (.int .i64 ((I : Int) + 1)) := hb5.cell (by simp (maxDischargeDepth := 40) [go_sem, set_some, set_same, qa_4])
  have pa_5 : w5.cell? ⟨w.heap.size, 5, none⟩ = some (.int .i64 0) := hb5.cell (by simp (maxDischargeDepth := 40) [go_sem, set_some, set_same, qa_5])
  have pa_6 : w5.cell? ⟨w.heap.size, 6, none⟩ = some (.int .u64 tf) := hb5.cell (by simp (maxDischargeDepth := 40) [go_sem, set_some, set_same, qa_6])
  have pa_7 : w5.cell? ⟨w.heap.size, 7, none⟩ = some (.int .u64 x) := hb5.cell (by simp (maxDischargeDepth := 40) [go_sem, set_some, set_same, qa_7])
  have pa_8 : w5.cell? ⟨w.heap.size, 8, none⟩ = some (.int .u64 tv) := hb5.cell (by simp (maxDischargeDepth := 40) [go_sem, set_some, set_same, qa_8])
  have pa_9 : w5.cell? ⟨w.heap.size, 9, none⟩ = some (.int .u64 0) := hb5.cell (by simp (maxDischargeDepth := 40) [go_sem, set_some, set_same, qa_9])
  have pa_10 : w5.cell? ⟨w.heap.size, 10, none⟩ = some (.slice none 0 0) := hb5.cell (by simp (maxDischargeDepth := 40) [go_sem, set_some, set_same, qa_10])
  have pr_0 : w5.cell? ⟨w.heap.size + 1, 0, none⟩ = some (.int .i64 0) := hb5.cell (by simp [go_sem, qr_0])
  have vr_0 : w5.frozen? ⟨w.heap.size + 1, 0, none⟩ = false := hb5.frozen (v := .int .i64 0) (by simp [go_sem, qr_0]) (by simp [go_sem, zr_0])
  have pr_1 : w5.cell? ⟨w.heap.size + 1, 1, none⟩ = some (.int .i64 0) := hb5.cell (by simp [go_sem, qr_1])
  have vr_1 : w5.frozen? ⟨w.heap.size + 1, 1, none⟩ = false := hb5.frozen (v := .int .i64 0) (by simp [go_sem, qr_1]) (by simp [go_sem, zr_1])
  have pr_2 : w5.cell? ⟨w.heap.size + 1, 2, none⟩ = some (.int .i64 0) := hb5.cell (by simp [go_sem, qr_2])
  have vr_2 : w5.frozen? ⟨w.heap.size + 1, 2, none⟩ = false := hb5.frozen (v := .int .i64 0) (by simp [go_sem, qr_2]) (by simp [go_sem, zr_2])
  have pr_3 : w5.cell? ⟨w.heap.size + 1, 3, none⟩ = some (.int .i64 0) := hb5.cell (by simp [go_sem, qr_3])
  have vr_3 : w5.frozen? ⟨w.heap.size + 1, 3, none⟩ = false := hb5.frozen (v := .int .i64 0) (by simp [go_sem, qr_3]) (by simp [go_sem, zr_3])
  have pr_4 : w5.cell? ⟨w.heap.size + 1, 4, none⟩ = some (.int .i64 0) := hb5.cell (by simp [go_sem, qr_4])
  have vr_4 : w5.frozen? ⟨w.heap.size + 1, 4, none⟩ = false := hb5.frozen (v := .int .i64 0) (by simp [go_sem, qr_4]) (by simp [go_sem, zr_4])
  have pr_5 : w5.cell? ⟨w.heap.size + 1, 5, none⟩ = some (.int .i64 0) := hb5.cell (by simp [go_sem, qr_5])
  have vr_5 : w5.frozen? ⟨w.heap.size + 1, 5, none⟩ = false := hb5.frozen (v := .int .i64 0) (by simp [go_sem, qr_5]) (by simp [go_sem, zr_5])
  have pr_6 : w5.cell? ⟨w.heap.size + 1, 6, none⟩ = some (.int .u64 0) := hb5.cell (by simp [go_sem, qr_6])
  have vr_6 : w5.frozen? ⟨w.heap.size + 1, 6, none⟩ = false := hb5.frozen (v := .int .u64 0) (by simp [go_sem, qr_6]) (by simp [go_sem, zr_6])
  have pr_7 : w5.cell? ⟨w.heap.size + 1, 7, none⟩ = some (.int .u64 0) := hb5.cell (by simp [go_sem, qr_7])
  have vr_7 : w5.frozen? ⟨w.heap.size + 1, 7, none⟩ = false := hb5.frozen (v := .int .u64 0) (by simp [go_sem, qr_7]) (by simp [go_sem, zr_7])
  have pr_8 : w5.cell? ⟨w.heap.size + 1, 8, none⟩ = some (.int .u64 0) := hb5.cell (by simp [go_sem, qr_8])
  have vr_8 : w5.frozen? ⟨w.heap.size + 1, 8, none⟩ = false := hb5.frozen (v := .int .u64 0) (by simp [go_sem, qr_8]) (by simp [go_sem, zr_8])
  have pr_9 : w5.cell? ⟨w.heap.size + 1, 9, none⟩ = some (.int .u64 0) := hb5.cell (by simp [go_sem, qr_9])
  have vr_9 : w5.frozen? ⟨w.heap.size + 1, 9, none⟩ = false := hb5.frozen (v := .int .u64 0) (by simp [go_sem, qr_9]) (by simp [go_sem, zr_9])
  have pr_10 : w5.cell? ⟨w.heap.size + 1, 10, none⟩ = some (.slice none 0 0) := hb5.cell (by simp [go_sem, qr_10])
  have vr_10 : w5.frozen? ⟨w.heap.size + 1, 10, none⟩ = false := hb5.frozen (v := .slice none 0 0) (by simp [go_sem, qr_10]) (by simp [go_sem, zr_10])
  clear hb5 qa_0 za_0 qa_1 za_1 qa_2 za_2 qa_3 za_3 qa_4 za_4 qa_5 za_5 qa_6 za_6 qa_7 za_7 qa_8 za_8 qa_9 za_9 qa_10 za_10 qr_0 zr_0 qr_1 zr_1 qr_2 zr_2 qr_3 zr_3 qr_4 zr_4 qr_5 zr_5 qr_6 zr_6 qr_7 zr_7 qr_8 zr_8 qr_9 zr_9 qr_10 zr_10
  go_wp2
  refine bodyPost_ret (v := .tuple #[(.agg #[.int .i64 0, .int .i64 tn, .int .i64 0, .int .i64 tp, .int .i64 ((I : Int) + 1), .int .i64 0, .int .u64 tf, .int .u64 x, .int .u64 tv, .int .u64 0, .slice none 0 0]), .bool false]) (by simp [results, Tryz.results59, go_sem, pr_0, pr_1, pr_2, pr_3, pr_4, pr_5, pr_6, pr_7, pr_8, pr_9, pr_10, pa_0, pa_1, pa_2, pa_3, pa_4, pa_5, pa_6, pa_7, pa_8, pa_9, pa_10]) rfl (HG.out _ ?mid)
  case mid => repeat (first | with_reducible exact HM2.out | refine RMid.set ?_ (by simp) (by simp) _)
set_option maxRecDepth 100000 in
theorem rScan64_ge (b : Nat) (r : RY) (f : Nat → Int) (lv : Value) (log : List Acc) (t : Int) (v : Value) (xs : List Int) (I c : Nat) (tn tp tf M tv : Int) (w : World) (h : RB w b r f lv log) (hW : r.W = 64) (hv : IntsV w v xs) (hI : I < xs.length) (hx : xs.getD I 0 = c) (hk : isK r (c : Int) 1 = true) (hc : c < r.m) (hl : log.length ≤ 1000) (hn : xs.length ≤ 1000) (f0 : 0 ≤ f c) (hM : 0 ≤ M) (h0 : ¬ I = 0) (h1 : ¬ D64 (f c - M) < 0) (h2 : I + 1 = xs.length) :
    Calls Tryz.prog 59 #[.pointer (some ⟨b, 0, none⟩), .int .i64 t, v, (.agg #[.int .i64 0, .int .i64 tn, .int .i64 0, .int .i64 tp, .int .i64 I, .int .i64 0, .int .u64 tf, .int .u64 M, .int .u64 tv, .int .u64 0, .slice none 0 0])] w (RScanDoes b r lv f (log ++ [⟨t, 1, c, f c, f c⟩]) true tn tp 0 tf (M) tv w) := by
  have CA := Lib.hid (fun w' (hx : Ext w w') => rLoad_yes b r f lv log t c w' (h.ext hx) hk hc hl)
  have HG : Hid (∀ w', RMid b r lv f (log ++ [⟨t, 1, c, f c, f c⟩]) w w' → RScanDoes b r lv f (log ++ [⟨t, 1, c, f c, f c⟩]) true tn tp 0 tf (M) tv w (.returned (.tuple #[(.agg #[.int .i64 0, .int .i64 tn, .int .i64 0, .int .i64 tp, .int .i64 0, .int .i64 0, .int .u64 tf, .int .u64 M, .int .u64 tv, .int .u64 0, .slice none 0 0]), .bool true])) w') := Lib.hid (fun w' hm => ⟨rfl, hm.does (v := .bool true)⟩)
  have HM := Lib.hid (fun lv' w1 w2 (hx : Ext w w1) hs hR hN hA => rmid_of (f' := f) (lv' := lv') (log' := (log ++ [⟨t, 1, c, f c, f c⟩])) (w1 := w1) (w2 := w2) h hx hs hR hN hA)
  generalize RScanDoes b r lv f (log ++ [⟨t, 1, c, f c, f c⟩]) true tn tp 0 tf (M) tv w = G at *
  obtain ⟨va, vc, ev, hf⟩ := hv.form
  subst ev
  obtain ⟨vb, vo, ea, cv⟩ := hf I hI
  subst ea
  rw [hx] at cv
  generalize hxx : f c = x at *
  have hI1 : (I : Int) < (xs.length : Int) := by omega
  have hI0 : (0 : Int) ≤ (I : Int) := by omega
  have d0 : ((I : Int) == 0) = false := by simp; omega
  have d1 : decide (D64 (x - M) < 0) = false := by simpa using h1
  have d2 : ((I : Int) + 1 == (xs.length : Int)) = true := by simp; omega
  have hwr : IntKind.i64.wrap ((I : Int) + 1) = (I : Int) + 1 := wrapS (by omega) (by omega)
  have hlt := fun k (hk : Own b r.gh lv k) => h.lt hk
  generalize xs.length = n at *
  clear h hv hf hI hx hk hl hn h0 h2 h1
  go_enter Tryz.func59, Tryz.ntmps59
  go_upto_region 1 with (fail)
  refine settle_wp ?_
  intro w1 hb1
  have qa_0 : w1.cell? ⟨w.heap.size, 0, none⟩ = some (.int .i64 0) := (hb1.cells.1 _ _ (by simp <;> omega)).trans (by simp [go_sem])
  have za_0 : w1.frozen? ⟨w.heap.size, 0, none⟩ = false := (hb1.cells.2 _ _ (by simp <;> omega)).trans (by simp [go_sem])
  have qa_1 : w1.cell? ⟨w.heap.size, 1, none⟩ = some (.int .i64 tn) := (hb1.cells.1 _ _ (by simp <;> omega)).trans (by simp [go_sem])
  have za_1 : w1.frozen? ⟨w.heap.size, 1, none⟩ = false := (hb1.cells.2 _ _ (by simp <;> omega)).trans (by simp [go_sem])
  have qa_2 : w1.cell? ⟨w.heap.size, 2, none⟩ = some (.int .i64 0) := (hb1.cells.1 _ _ (by simp <;> omega)).trans (by simp [go_sem])
  have za_2 : w1.frozen? ⟨w.heap.size, 2, none⟩ = false := (hb1.cells.2 _ _ (by simp <;> omega)).trans (by simp [go_sem])
  have qa_3 : w1.cell? ⟨w.heap.size, 3, none⟩ = some (.int .i64 tp) := (hb1.cells.1 _ _ (by simp <;> omega)).trans (by simp [go_sem])
  have za_3 : w1.frozen? ⟨w.heap.size, 3, none⟩ = false := (hb1.cells.2 _ _ (by simp <;> omega)).trans (by simp [go_sem])
  have qa_4 : w1.cell? ⟨w.heap.size, 4, none⟩ = some (.int .i64 I) := (hb1.cells.1 _ _ (by simp <;> omega)).trans (by simp [go_sem])
  have za_4 : w1.frozen? ⟨w.heap.size, 4, none⟩ = false := (hb1.cells.2 _ _ (by simp <;> omega)).trans (by simp [go_sem])
  have qa_5 : w1.cell? ⟨w.heap.size, 5, none⟩ = some (.int .i64 0) := (hb1.cells.1 _ _ (by simp <;> omega)).trans (by simp [go_sem])
  have za_5 : w1.frozen? ⟨w.heap.size, 5, none⟩ = false := (hb1.cells.2 _ _ (by simp <;> omega)).trans (by simp [go_sem])
  have qa_6 : w1.cell? ⟨w.heap.size, 6, none⟩ = some (.int .u64 tf) := (hb1.cells.1 _ _ (by simp <;> omega)).trans (by simp [go_sem])
  have za_6 : w1.frozen? ⟨w.heap.size, 6, none⟩ = false := (hb1.cells.2 _ _ (by simp <;> omega)).trans (by simp [go_sem])
  have qa_7 : w1.cell? ⟨w.heap.size, 7, none⟩ = some (.int .u64 M) := (hb1.cells.1 _ _ (by simp <;> omega)).trans (by simp [go_sem])
  have za_7 : w1.frozen? ⟨w.heap.size, 7, none⟩ = false := (hb1.cells.2 _ _ (by simp <;> omega)).trans (by simp [go_sem])
  have qa_8 : w1.cell? ⟨w.heap.size, 8, none⟩ = some (.int .u64 tv) := (hb1.cells.1 _ _ (by simp <;> omega)).trans (by simp [go_sem])
  have za_8 : w1.frozen? ⟨w.heap.size, 8, none⟩ = false := (hb1.cells.2 _ _ (by simp <;> omega)).trans (by simp [go_sem])
  have qa_9 : w1.cell? ⟨w.heap.size, 9, none⟩ = some (.int .u64 0) := (hb1.cells.1 _ _ (by simp <;> omega)).trans (by simp [go_sem])
  have za_9 : w1.frozen? ⟨w.heap.size, 9, none⟩ = false := (hb1.cells.2 _ _ (by simp <;> omega)).trans (by simp [go_sem])
  have qa_10 : w1.cell? ⟨w.heap.size, 10, none⟩ = some (.slice none 0 0) := (hb1.cells.1 _ _ (by simp <;> omega)).trans (by simp [go_sem])
  have za_10 : w1.frozen? ⟨w.heap.size, 10, none⟩ = false := (hb1.cells.2 _ _ (by simp <;> omega)).trans (by simp [go_sem])
  have pa := World.block_lt_of_cell? _ ⟨w.heap.size, 0, none⟩ qa_0
  have ra := Nat.lt_succ_of_lt pa
  have qr_0 : w1.cell? ⟨(w.heap.size + 1), 0, none⟩ = some (.int .i64 0) := (hb1.cells.1 _ _ (by simp <;> omega)).trans (by simp [go_sem])
  have zr_0 : w1.frozen? ⟨(w.heap.size + 1), 0, none⟩ = false := (hb1.cells.2 _ _ (by simp <;> omega)).trans (by simp [go_sem])
  have qr_1 : w1.cell? ⟨(w.heap.size + 1), 1, none⟩ = some (.int .i64 0) := (hb1.cells.1 _ _ (by simp <;> omega)).trans (by simp [go_sem])
  have zr_1 : w1.frozen? ⟨(w.heap.size + 1), 1, none⟩ = false := (hb1.cells.2 _ _ (by simp <;> omega)).trans (by simp [go_sem])
  have qr_2 : w1.cell? ⟨(w.heap.size + 1), 2, none⟩ = some (.int .i64 0) := (hb1.cells.1 _ _ (by simp <;> omega)).trans (by simp [go_sem])
  have zr_2 : w1.frozen? ⟨(w.heap.size + 1), 2, none⟩ = false := (hb1.cells.2 _ _ (by simp <;> omega)).trans (by simp [go_sem])
  have qr_3 : w1.cell? ⟨(w.heap.size + 1), 3, none⟩ = some (.int .i64 0) := (hb1.cells.1 _ _ (by simp <;> omega)).trans (by simp [go_sem])
  have zr_3 : w1.frozen? ⟨(w.heap.size + 1), 3, none⟩ = false := (hb1.cells.2 _ _ (by simp <;> omega)).trans (by simp [go_sem])
  have qr_4 : w1.cell? ⟨(w.heap.size + 1), 4, none⟩ = some (.int .i64 0) := (hb1.cells.1 _ _ (by simp <;> omega)).trans (by simp [go_sem])
  have zr_4 : w1.frozen? ⟨(w.heap.size + 1), 4, none⟩ = false := (hb1.cells.2 _ _ (by simp <;> omega)).trans (by simp [go_sem])
  have qr_5 : w1.cell? ⟨(w.heap.size + 1), 5, none⟩ = some (.int .i64 0) := (hb1.cells.1 _ _ (by simp <;> omega)).trans (by simp [go_sem])
  have zr_5 : w1.frozen? ⟨(w.heap.size + 1), 5, none⟩ = false := (hb1.cells.2 _ _ (by simp <;> omega)).trans (by simp [go_sem])
  have qr_6 : w1.cell? ⟨(w.heap.size + 1), 6, none⟩ = some (.int .u64 0) := (hb1.cells.1 _ _ (by simp <;> omega)).trans (by simp [go_sem])
  have zr_6 : w1.frozen? ⟨(w.heap.size + 1), 6, none⟩ = false := (hb1.cells.2 _ _ (by simp <;> omega)).trans (by simp [go_sem])
  have qr_7 : w1.cell? ⟨(w.heap.size + 1), 7, none⟩ = some (.int .u64 0) := (hb1.cells.1 _ _ (by simp <;> omega)).trans (by simp [go_sem])
  have zr_7 : w1.frozen? ⟨(w.heap.size + 1), 7, none⟩ = false := (hb1.cells.2 _ _ (by simp <;> omega)).trans (by simp [go_sem])
  have qr_8 : w1.cell? ⟨(w.heap.size + 1), 8, none⟩ = some (.int .u64 0) := (hb1.cells.1 _ _ (by simp <;> omega)).trans (by simp [go_sem])
  have zr_8 : w1.frozen? ⟨(w.heap.size + 1), 8, none⟩ = false := (hb1.cells.2 _ _ (by simp <;> omega)).trans (by simp [go_sem])
  have qr_9 : w1.cell? ⟨(w.heap.size + 1), 9, none⟩ = some (.int .u64 0) := (hb1.cells.1 _ _ (by simp <;> omega)).trans (by simp [go_sem])
  have zr_9 : w1.frozen? ⟨(w.heap.size + 1), 9, none⟩ = false := (hb1.cells.2 _ _ (by simp <;> omega)).trans (by simp [go_sem])
  have qr_10 : w1.cell? ⟨(w.heap.size + 1), 10, none⟩ = some (.slice none 0 0) := (hb1.cells.1 _ _ (by simp <;> omega)).trans (by simp [go_sem])
  have zr_10 : w1.frozen? ⟨(w.heap.size + 1), 10, none⟩ = false := (hb1.cells.2 _ _ (by simp <;> omega)).trans (by simp [go_sem])
  have pr := World.block_lt_of_cell? _ ⟨(w.heap.size + 1), 0, none⟩ qr_0
  have rr := Nat.lt_succ_of_lt pr
  have XE : Ext w w1 := Ext.trans (Ext.alloc (Ext.alloc (Ext.refl w) _) _) hb1
  have hs1 : w.heap.size + 2 ≤ w1.heap.size := by have h1 := hb1.size; simp at h1; omega
  have na : ¬ Own b r.gh lv w.heap.size := fun hk => by have := hlt _ hk; omega
  have nr : ¬ Own b r.gh lv (w.heap.size + 1) := fun hk => by have := hlt _ hk; omega
  replace cv := XE.cell cv
  clear hb1
  go_wp2_with fail
  refine (CA.out _ XE).mono ?_
  rintro e w2 ⟨rfl, lv2, R2, N2, A2⟩
  have HM2 := Lib.hid (HM.out lv2 _ w2 XE hs1 R2 N2 A2)
  have qW := R2.q1
  rw [hW] at qW
  replace za_0 := N2.frozen qa_0 za_0 na
  replace qa_0 := N2.cell qa_0 na
  replace za_1 := N2.frozen qa_1 za_1 na
  replace qa_1 := N2.cell qa_1 na
  replace za_2 := N2.frozen qa_2 za_2 na
  replace qa_2 := N2.cell qa_2 na
  replace za_3 := N2.frozen qa_3 za_3 na
  replace qa_3 := N2.cell qa_3 na
  replace za_4 := N2.frozen qa_4 za_4 na
  replace qa_4 := N2.cell qa_4 na
  replace za_5 := N2.frozen qa_5 za_5 na
  replace qa_5 := N2.cell qa_5 na
  replace za_6 := N2.frozen qa_6 za_6 na
  replace qa_6 := N2.cell qa_6 na
  replace za_7 := N2.frozen qa_7 za_7 na
  replace qa_7 := N2.cell qa_7 na
  replace za_8 := N2.frozen qa_8 za_8 na
  replace qa_8 := N2.cell qa_8 na
  replace za_9 := N2.frozen qa_9 za_9 na
  replace qa_9 := N2.cell qa_9 na
  replace za_10 := N2.frozen qa_10 za_10 na
  replace qa_10 := N2.cell qa_10 na
  replace zr_0 := N2.frozen qr_0 zr_0 nr
  replace qr_0 := N2.cell qr_0 nr
  replace zr_1 := N2.frozen qr_1 zr_1 nr
  replace qr_1 := N2.cell qr_1 nr
  replace zr_2 := N2.frozen qr_2 zr_2 nr
  replace qr_2 := N2.cell qr_2 nr
  replace zr_3 := N2.frozen qr_3 zr_3 nr
  replace qr_3 := N2.cell qr_3 nr
  replace zr_4 := N2.frozen qr_4 zr_4 nr
  replace qr_4 := N2.cell qr_4 nr
  replace zr_5 := N2.frozen qr_5 zr_5 nr
  replace qr_5 := N2.cell qr_5 nr
  replace zr_6 := N2.frozen qr_6 zr_6 nr
  replace qr_6 := N2.cell qr_6 nr
  replace zr_7 := N2.frozen qr_7 zr_7 nr
  replace qr_7 := N2.cell qr_7 nr
  replace zr_8 := N2.frozen qr_8 zr_8 nr
  replace qr_8 := N2.cell qr_8 nr
  replace zr_9 := N2.frozen qr_9 zr_9 nr
  replace qr_9 := N2.cell qr_9 nr
  replace zr_10 := N2.frozen qr_10 zr_10 nr
  replace qr_10 := N2.cell qr_10 nr
  clear R2 N2 A2 XE cv
  go_upto_region 5 with (fail)
  have k4 := fun w' (hx : Ext w2 w') => hx.cell qa_4
  have k7 := fun w' (hx : Ext w2 w') => hx.cell qa_7
  have kW := fun w' (hx : Ext w2 w') => hx.cell qW
  refine wp_region_held_drew (S := fun w' => Ext w2 w') (by kernel_rfl) ?hbeg (fun hHeld => ?_)
  case hbeg => exact (Ext.refl w2).drew
  have hHeld0 : Ext w2 w2 := by first | exact Ext.refl _ | assumption
  first
    | (refine take_at (i := 0) (v := ?_) rfl rfl (by kernel_rfl) (by kernel_rfl) (by kernel_rfl) (fun _ _ _ h => h) (Or.inl ⟨by rfl, ?hy⟩) (by assumption) ?_
       case hy => (intro wz hSw; (try dsimp only at hSw); go_simp <;> with_reducible rfl)
       simp only [List.setIfInBounds_toArray, List.set_cons_zero, List.set_cons_succ])
    | (refine take_at (i := 0) (v := undef) rfl rfl (by kernel_rfl) (by kernel_rfl) (by kernel_rfl) (fun _ _ _ h => h) (Or.inr ⟨by rfl, rfl⟩) (by assumption) ?_
       simp only [List.setIfInBounds_toArray, List.set_cons_zero, List.set_cons_succ])
  first
    | (refine take_at (i := 1) (v := ?_) rfl rfl (by kernel_rfl) (by kernel_rfl) (by kernel_rfl) (fun _ _ _ h => h) (Or.inl ⟨by rfl, ?hy⟩) (by assumption) ?_
       case hy => (intro wz hSw; (try dsimp only at hSw); go_simp <;> with_reducible rfl)
       simp only [List.setIfInBounds_toArray, List.set_cons_zero, List.set_cons_succ])
    | (refine take_at (i := 1) (v := undef) rfl rfl (by kernel_rfl) (by kernel_rfl) (by kernel_rfl) (fun _ _ _ h => h) (Or.inr ⟨by rfl, rfl⟩) (by assumption) ?_
       simp only [List.setIfInBounds_toArray, List.set_cons_zero, List.set_cons_succ])
  first
    | (refine take_at (i := 2) (v := ?_) rfl rfl (by kernel_rfl) (by kernel_rfl) (by kernel_rfl) (fun _ _ _ h => h) (Or.inl ⟨by rfl, ?hy⟩) (by assumption) ?_
       case hy => (intro wz hSw; (try dsimp only at hSw); go_simp <;> with_reducible rfl)
       simp only [List.setIfInBounds_toArray, List.set_cons_zero, List.set_cons_succ])
    | (refine take_at (i := 2) (v := undef) rfl rfl (by kernel_rfl) (by kernel_rfl) (by kernel_rfl) (fun _ _ _ h => h) (Or.inr ⟨by rfl, rfl⟩) (by assumption) ?_
       simp only [List.setIfInBounds_toArray, List.set_cons_zero, List.set_cons_succ])
  first
    | (refine take_at (i := 3) (v := ?_) rfl rfl (by kernel_rfl) (by kernel_rfl) (by kernel_rfl) (fun _ _ _ h => h) (Or.inl ⟨by rfl, ?hy⟩) (by assumption) ?_
       case hy => (intro wz hSw; (try dsimp only at hSw); go_simp <;> with_reducible rfl)
       simp only [List.setIfInBounds_toArray, List.set_cons_zero, List.set_cons_succ])
    | (refine take_at (i := 3) (v := undef) rfl rfl (by kernel_rfl) (by kernel_rfl) (by kernel_rfl) (fun _ _ _ h => h) (Or.inr ⟨by rfl, rfl⟩) (by assumption) ?_
       simp only [List.setIfInBounds_toArray, List.set_cons_zero, List.set_cons_succ])
  first
    | (refine take_at (i := 4) (v := ?_) rfl rfl (by kernel_rfl) (by kernel_rfl) (by kernel_rfl) (fun _ _ _ h => h) (Or.inl ⟨by rfl, ?hy⟩) (by assumption) ?_
       case hy => (intro wz hSw; (try dsimp only at hSw); go_simp <;> with_reducible rfl)
       simp only [List.setIfInBounds_toArray, List.set_cons_zero, List.set_cons_succ])
    | (refine take_at (i := 4) (v := undef) rfl rfl (by kernel_rfl) (by kernel_rfl) (by kernel_rfl) (fun _ _ _ h => h) (Or.inr ⟨by rfl, rfl⟩) (by assumption) ?_
       simp only [List.setIfInBounds_toArray, List.set_cons_zero, List.set_cons_succ])
  first
    | (refine take_at (i := 5) (v := ?_) rfl rfl (by kernel_rfl) (by kernel_rfl) (by kernel_rfl) (fun _ _ _ h => h) (Or.inl ⟨by rfl, ?hy⟩) (by assumption) ?_
       case hy => (intro wz hSw; (try dsimp only at hSw); go_simp <;> with_reducible rfl)
       simp only [List.setIfInBounds_toArray, List.set_cons_zero, List.set_cons_succ])
    | (refine take_at (i := 5) (v := undef) rfl rfl (by kernel_rfl) (by kernel_rfl) (by kernel_rfl) (fun _ _ _ h => h) (Or.inr ⟨by rfl, rfl⟩) (by assumption) ?_
       simp only [List.setIfInBounds_toArray, List.set_cons_zero, List.set_cons_succ])
  first
    | (refine take_at (i := 6) (v := ?_) rfl rfl (by kernel_rfl) (by kernel_rfl) (by kernel_rfl) (fun _ _ _ h => h) (Or.inl ⟨by rfl, ?hy⟩) (by assumption) ?_
       case hy => (intro wz hSw; (try dsimp only at hSw); go_simp <;> with_reducible rfl)
       simp only [List.setIfInBounds_toArray, List.set_cons_zero, List.set_cons_succ])
    | (refine take_at (i := 6) (v := undef) rfl rfl (by kernel_rfl) (by kernel_rfl) (by kernel_rfl) (fun _ _ _ h => h) (Or.inr ⟨by rfl, rfl⟩) (by assumption) ?_
       simp only [List.setIfInBounds_toArray, List.set_cons_zero, List.set_cons_succ])
  first
    | (refine take_at (i := 7) (v := ?_) rfl rfl (by kernel_rfl) (by kernel_rfl) (by kernel_rfl) (fun _ _ _ h => h) (Or.inl ⟨by rfl, ?hy⟩) (by assumption) ?_
       case hy => (intro wz hSw; (try dsimp only at hSw); go_simp <;> with_reducible rfl)
       simp only [List.setIfInBounds_toArray, List.set_cons_zero, List.set_cons_succ])
    | (refine take_at (i := 7) (v := undef) rfl rfl (by kernel_rfl) (by kernel_rfl) (by kernel_rfl) (fun _ _ _ h => h) (Or.inr ⟨by rfl, rfl⟩) (by assumption) ?_
       simp only [List.setIfInBounds_toArray, List.set_cons_zero, List.set_cons_succ])
  first
    | (refine take_at (i := 8) (v := ?_) rfl rfl (by kernel_rfl) (by kernel_rfl) (by kernel_rfl) (fun _ _ _ h => h) (Or.inl ⟨by rfl, ?hy⟩) (by assumption) ?_
       case hy => (intro wz hSw; (try dsimp only at hSw); go_simp <;> with_reducible rfl)
       simp only [List.setIfInBounds_toArray, List.set_cons_zero, List.set_cons_succ])
    | (refine take_at (i := 8) (v := undef) rfl rfl (by kernel_rfl) (by kernel_rfl) (by kernel_rfl) (fun _ _ _ h => h) (Or.inr ⟨by rfl, rfl⟩) (by assumption) ?_
       simp only [List.setIfInBounds_toArray, List.set_cons_zero, List.set_cons_succ])
  first
    | (refine take_at (i := 9) (v := ?_) rfl rfl (by kernel_rfl) (by kernel_rfl) (by kernel_rfl) (fun _ _ _ h => h) (Or.inl ⟨by rfl, ?hy⟩) (by assumption) ?_
       case hy => (intro wz hSw; (try dsimp only at hSw); go_simp <;> with_reducible rfl)
       simp only [List.setIfInBounds_toArray, List.set_cons_zero, List.set_cons_succ])
    | (refine take_at (i := 9) (v := undef) rfl rfl (by kernel_rfl) (by kernel_rfl) (by kernel_rfl) (fun _ _ _ h => h) (Or.inr ⟨by rfl, rfl⟩) (by assumption) ?_
       simp only [List.setIfInBounds_toArray, List.set_cons_zero, List.set_cons_succ])
  first
    | (refine take_at (i := 10) (v := ?_) rfl rfl (by kernel_rfl) (by kernel_rfl) (by kernel_rfl) (fun _ _ _ h => h) (Or.inl ⟨by rfl, ?hy⟩) (by assumption) ?_
       case hy => (intro wz hSw; (try dsimp only at hSw); go_simp <;> with_reducible rfl)
       simp only [List.setIfInBounds_toArray, List.set_cons_zero, List.set_cons_succ])
    | (refine take_at (i := 10) (v := undef) rfl rfl (by kernel_rfl) (by kernel_rfl) (by kernel_rfl) (fun _ _ _ h => h) (Or.inr ⟨by rfl, rfl⟩) (by assumption) ?_
       simp only [List.setIfInBounds_toArray, List.set_cons_zero, List.set_cons_succ])
  first
    | (refine take_at (i := 11) (v := ?_) rfl rfl (by kernel_rfl) (by kernel_rfl) (by kernel_rfl) (fun _ _ _ h => h) (Or.inl ⟨by rfl, ?hy⟩) (by assumption) ?_
       case hy => (intro wz hSw; (try dsimp only at hSw); go_simp <;> with_reducible rfl)
       simp only [List.setIfInBounds_toArray, List.set_cons_zero, List.set_cons_succ])
    | (refine take_at (i := 11) (v := undef) rfl rfl (by kernel_rfl) (by kernel_rfl) (by kernel_rfl) (fun _ _ _ h => h) (Or.inr ⟨by rfl, rfl⟩) (by assumption) ?_
       simp only [List.setIfInBounds_toArray, List.set_cons_zero, List.set_cons_succ])
  refine call_at (i := 12) (F := 79) (gapA64 x M _ (by omega) (by omega)) rfl rfl (by kernel_rfl) (by rfl) (by first | rfl | (go_simp <;> rfl)) ?_
  rintro e w' ⟨rfl, rfl⟩
  refine ⟨_, rfl, by assumption, ?_⟩
  simp only [List.setIfInBounds_toArray, List.set_cons_zero, List.set_cons_succ]
  first
    | (refine take_at (i := 13) (v := ?_) rfl rfl (by kernel_rfl) (by kernel_rfl) (by kernel_rfl) (fun _ _ _ h => h) (Or.inl ⟨by rfl, ?hy⟩) (by assumption) ?_
       case hy => (intro wz hSw; (try dsimp only at hSw); go_simp <;> with_reducible rfl)
       simp only [List.setIfInBounds_toArray, List.set_cons_zero, List.set_cons_succ])
    | (refine take_at (i := 13) (v := undef) rfl rfl (by kernel_rfl) (by kernel_rfl) (by kernel_rfl) (fun _ _ _ h => h) (Or.inr ⟨by rfl, rfl⟩) (by assumption) ?_
       simp only [List.setIfInBounds_toArray, List.set_cons_zero, List.set_cons_succ])
  first
    | (refine take_at (i := 14) (v := ?_) rfl rfl (by kernel_rfl) (by kernel_rfl) (by kernel_rfl) (fun _ _ _ h => h) (Or.inl ⟨by rfl, ?hy⟩) (by assumption) ?_
       case hy => (intro wz hSw; (try dsimp only at hSw); go_simp <;> with_reducible rfl)
       simp only [List.setIfInBounds_toArray, List.set_cons_zero, List.set_cons_succ])
    | (refine take_at (i := 14) (v := undef) rfl rfl (by kernel_rfl) (by kernel_rfl) (by kernel_rfl) (fun _ _ _ h => h) (Or.inr ⟨by rfl, rfl⟩) (by assumption) ?_
       simp only [List.setIfInBounds_toArray, List.set_cons_zero, List.set_cons_succ])
  refine wpAnyH_done (by kernel_rfl) ?_ _
  go_upto_region 7 with (fail)
  refine settle_wp ?_
  intro w3 hb3
  have hH := Ext.trans hHeld hb3
  replace HM2 := Lib.hid (HM2.out.ext hH)
  replace za_0 := hH.frozen qa_0 za_0
  replace qa_0 := hH.cell qa_0
  replace za_1 := hH.frozen qa_1 za_1
  replace qa_1 := hH.cell qa_1
  replace za_2 := hH.frozen qa_2 za_2
  replace qa_2 := hH.cell qa_2
  replace za_3 := hH.frozen qa_3 za_3
  replace qa_3 := hH.cell qa_3
  replace za_4 := hH.frozen qa_4 za_4
  replace qa_4 := hH.cell qa_4
  replace za_5 := hH.frozen qa_5 za_5
  replace qa_5 := hH.cell qa_5
  replace za_6 := hH.frozen qa_6 za_6
  replace qa_6 := hH.cell qa_6
  replace za_7 := hH.frozen qa_7 za_7
  replace qa_7 := hH.cell qa_7
  replace za_8 := hH.frozen qa_8 za_8
  replace qa_8 := hH.cell qa_8
  replace za_9 := hH.frozen qa_9 za_9
  replace qa_9 := hH.cell qa_9
  replace za_10 := hH.frozen qa_10 za_10
  replace qa_10 := hH.cell qa_10
  replace zr_0 := hH.frozen qr_0 zr_0
  replace qr_0 := hH.cell qr_0
  replace zr_1 := hH.frozen qr_1 zr_1
  replace qr_1 := hH.cell qr_1
  replace zr_2 := hH.frozen qr_2 zr_2
  replace qr_2 := hH.cell qr_2
  replace zr_3 := hH.frozen qr_3 zr_3
  replace qr_3 := hH.cell qr_3
  replace zr_4 := hH.frozen qr_4 zr_4
  replace qr_4 := hH.cell qr_4
  replace zr_5 := hH.frozen qr_5 zr_5
  replace qr_5 := hH.cell qr_5
  replace zr_6 := hH.frozen qr_6 zr_6
  replace qr_6 := hH.cell qr_6
  replace zr_7 := hH.frozen qr_7 zr_7
  replace qr_7 := hH.cell qr_7
  replace zr_8 := hH.frozen qr_8 zr_8
  replace qr_8 := hH.cell qr_8
  replace zr_9 := hH.frozen qr_9 zr_9
  replace qr_9 := hH.cell qr_9
  replace zr_10 := hH.frozen qr_10 zr_10
  replace qr_10 := hH.cell qr_10
  clear k4 k7 kW qW hHeld hH hb3
  go_upto_region 10 with (fail)
  refine settle_wp ?_
  intro w5 hb5
  replace HM2 := Lib.hid (((HM2.out.set (p := ⟨w.heap.size, 4, none⟩) (by simp) (by simp) (.int .i64 ((I : Int) + 1))).set (p := ⟨w.heap.size, 4, none⟩) (by simp) (by simp) (.int .i64 0)).ext hb5)
  have pa_0 : w5.cell? ⟨w.heap.size, 0, none⟩ = some (.int .i64 0) := hb5.cell (by simp (maxDischargeDepth := 40) [go_sem, set_some, set_same, qa_0])
  have pa_1 : w5.cell? ⟨w.heap.size, 1, none⟩ = some (.int .i64 tn) := hb5.cell (by simp (maxDischargeDepth := 40) [go_sem, set_some, set_same, qa_1])
  have pa_2 : w5.cell? ⟨w.heap.size, 2, none⟩ = some (.int .i64 0) := hb5.cell (by simp (maxDischargeDepth := 40) [go_sem, set_some, set_same, qa_2])
  have pa_3 : w5.cell? ⟨w.heap.size, 3, none⟩ = some (.int .i64 tp) := hb5.cell (by simp (maxDischargeDepth := 40) [go_sem, set_some, set_same, qa_3])
  have pa_4 : w5.cell? ⟨w.heap.size, 4, none⟩ = some (.int .i64 0) := hb5.cell (by simp (maxDischargeDepth := 40) [go_sem, set_some, set_same, qa_4])
  have pa_5 : w5.cell? ⟨w.heap.size, 5, none⟩ = some (.int .i64 0) := hb5.cell (by simp (maxDischargeDepth := 40) [go_sem, set_some, set_same, qa_5])
  have pa_6 : w5.cell? ⟨w.heap.size, 6, none⟩ = some (.int .u64 tf) := hb5.cell (by simp (maxDischargeDepth := 40) [go_sem, set_some, set_same, qa_6])
  have pa_7 : w5.cell? ⟨w.heap.size, 7, none⟩ = some (.int .u64 M) := hb5.cell (by simp (maxDischargeDepth := 40) [go_sem, set_some, set_same, qa_7])
  have pa_8 : w5.cell? ⟨w.heap.size, 8, none⟩ = some (.int .u64 tv) := hb5.cell (by simp (maxDischargeDepth := 40) [go_sem, set_some, set_same, qa_8])
  have pa_9 : w5.cell? ⟨w.heap.size, 9, none⟩ = some (.int .u64 0) := hb5.cell (by simp (maxDischargeDepth := 40) [go_sem, set_some, set_same, qa_9])
  have pa_10 : w5.cell? ⟨w.heap.size, 10, none⟩ = some (.slice none 0 0) := hb5.cell (by simp (maxDischargeDepth := 40) [go_sem, set_some, set_same, qa_10])
  have pr_0 : w5.cell? ⟨w.heap.size + 1, 0, none⟩ = some (.int .i64 0) := hb5.cell (by simp [go_sem, qr_0])
  have vr_0 : w5.frozen? ⟨w.heap.size + 1, 0, none⟩ = false := hb5.frozen (v := .int .i64 0) (by simp [go_sem, qr_0]) (by simp [go_sem, zr_0])
  have pr_1 : w5.cell? ⟨w.heap.size + 1, 1, none⟩ = some (.int .i64 0) := hb5.cell (by simp [go_sem, qr_1])
  have vr_1 : w5.frozen? ⟨w.heap.size + 1, 1, none⟩ = false := hb5.frozen (v := .int .i64 0) (by simp [go_sem, qr_1]) (by simp [go_sem, zr_1])
  have pr_2 : w5.cell? ⟨w.heap.size + 1, 2, none⟩ = some (.int .i64 0) := hb5.cell (by simp [go_sem, qr_2])
  have vr_2 : w5.frozen? ⟨w.heap.size + 1, 2, none⟩ = false := hb5.frozen (v := .int .i64 0) (by simp [go_sem, qr_2]) (by simp [go_sem, zr_2])
  have pr_3 : w5.cell? ⟨w.heap.size + 1, 3, none⟩ = some (.int .i64 0) := hb5.cell (by simp [go_sem, qr_3])
  have vr_3 : w5.frozen? ⟨w.heap.size + 1, 3, none⟩ = false := hb5.frozen (v := .int .i64 0) (by simp [go_sem, qr_3]) (by simp [go_sem, zr_3])
  have pr_4 : w5.cell? ⟨w.heap.size + 1, 4, none⟩ = some (.int .i64 0) := hb5.cell (by simp [go_sem, qr_4])
  have vr_4 : w5.frozen? ⟨w.heap.size + 1, 4, none⟩ = false := hb5.frozen (v := .int .i64 0) (by simp [go_sem, qr_4]) (by simp [go_sem, zr_4])
  have pr_5 : w5.cell? ⟨w.heap.size + 1, 5, none⟩ = some (.int .i64 0) := hb5.cell (by simp [go_sem, qr_5])
  have vr_5 : w5.frozen? ⟨w.heap.size + 1, 5, none⟩ = false := hb5.frozen (v := .int .i64 0) (by simp [go_sem, qr_5]) (by simp [go_sem, zr_5])
  have pr_6 : w5.cell? ⟨w.heap.size + 1, 6, none⟩ = some (.int .u64 0) := hb5.cell (by simp [go_sem, qr_6])
  have vr_6 : w5.frozen? ⟨w.heap.size + 1, 6, none⟩ = false := hb5.frozen (v := .int .u64 0) (by simp [go_sem, qr_6]) (by simp [go_sem, zr_6])
  have pr_7 : w5.cell? ⟨w.heap.size + 1, 7, none⟩ = some (.int .u64 0) := hb5.cell (by simp [go_sem, qr_7])
  have vr_7 : w5.frozen? ⟨w.heap.size + 1, 7, none⟩ = false := hb5.frozen (v := .int .u64 0) (by simp [go_sem, qr_7]) (by simp [go_sem, zr_7])
  have pr_8 : w5.cell? ⟨w.heap.size + 1, 8, none⟩ = some (.int .u64 0) := hb5.cell (by simp [go_sem, qr_8])
  have vr_8 : w5.frozen? ⟨w.heap.size + 1, 8, none⟩ = false := hb5.frozen (v := .int .u64 0) (by simp [go_sem, qr_8]) (by simp [go_sem, zr_8])
  have pr_9 : w5.cell? ⟨w.heap.size + 1, 9, none⟩ = some (.int .u64 0) := hb5.cell (by simp [go_sem, qr_9])
  have vr_9 : w5.frozen? ⟨w.heap.size + 1, 9, none⟩ = false := hb5.frozen (v := .int .u64 0) (by simp [go_sem, qr_9]) (by simp [go_sem, zr_9])
  have pr_10 : w5.cell? ⟨w.heap.size + 1, 10, none⟩ = some (.slice none 0 0) := hb5.cell (by simp [go_sem, qr_10])
  have vr_10 : w5.frozen? ⟨w.heap.size + 1, 10, none⟩ = false := hb5.frozen (v := .slice none 0 0) (by simp [go_sem, qr_10]) (by simp [go_sem, zr_10])
  clear hb5 qa_0 za_0 qa_1 za_1 qa_2 za_2 qa_3 za_3 qa_4 za_4 qa_5 za_5 qa_6 za_6 qa_7 za_7 qa_8 za_8 qa_9 za_9 qa_10 za_10 qr_0 zr_0 qr_1 zr_1 qr_2 zr_2 qr_3 zr_3 qr_4 zr_4 qr_5 zr_5 qr_6 zr_6 qr_7 zr_7 qr_8 zr_8 qr_9 zr_9 qr_10 zr_10
  go_wp2
  refine bodyPost_ret (v := .tuple #[(.agg #[.int .i64 0, .int .i64 tn, .int .i64 0, .int .i64 tp, .int .i64 0, .int .i64 0, .int .u64 tf, .int .u64 M, .int .u64 tv, .int .u64 0, .slice none 0 0]), .bool true]) (by simp [results, Tryz.results59, go_sem, pr_0, pr_1, pr_2, pr_3, pr_4, pr_5, pr_6, pr_7, pr_8, pr_9, pr_10, pa_0, pa_1, pa_2, pa_3, pa_4, pa_5, pa_6, pa_7, pa_8, pa_9, pa_10]) rfl (HG.out _ ?mid)
  case mid => repeat (first | with_reducible exact HM2.out | refine RMid.set ?_ (by simp) (by simp) _)
set_option maxRecDepth 100000 in
theorem rScan64_gc (b : Nat) (r : RY) (f : Nat → Int) (lv : Value) (log : List Acc) (t : Int) (v : Value) (xs : List Int) (I c : Nat) (tn tp tf M tv : Int) (w : World) (h : RB w b r f lv log) (hW : r.W = 64) (hv : IntsV w v xs) (hI : I < xs.length) (hx : xs.getD I 0 = c) (hk : isK r (c : Int) 1 = true) (hc : c < r.m) (hl : log.length ≤ 1000) (hn : xs.length ≤ 1000) (f0 : 0 ≤ f c) (hM : 0 ≤ M) (h0 : ¬ I = 0) (h1 : ¬ D64 (f c - M) < 0) (h2 : I + 1 < xs.length) :
    Calls Tryz.prog 59 #[.pointer (some ⟨b, 0, none⟩), .int .i64 t, v, (.agg #[.int .i64 0, .int .i64 tn, .int .i64 0, .int .i64 tp, .int .i64 I, .int .i64 0, .int .u64 tf, .int .u64 M, .int .u64 tv, .int .u64 0, .slice none 0 0])] w (RScanDoes b r lv f (log ++ [⟨t, 1, c, f c, f c⟩]) false tn tp ((I : Int) + 1) tf (M) tv w) := by
  have CA := Lib.hid (fun w' (hx : Ext w w') => rLoad_yes b r f lv log t c w' (h.ext hx) hk hc hl)
  have HG : Hid (∀ w', RMid b r lv f (log ++ [⟨t, 1, c, f c, f c⟩]) w w' → RScanDoes b r lv f (log ++ [⟨t, 1, c, f c, f c⟩]) false tn tp ((I : Int) + 1) tf (M) tv w (.returned (.tuple #[(.agg #[.int .i64 0, .int .i64 tn, .int .i64 0, .int .i64 tp, .int .i64 ((I : Int) + 1), .int .i64 0, .int .u64 tf, .int .u64 M, .int .u64 tv, .int .u64 0, .slice none 0 0]), .bool false])) w') := Lib.hid (fun w' hm => ⟨rfl, hm.does (v := .bool true)⟩)
  have HM := Lib.hid (fun lv' w1 w2 (hx : Ext w w1) hs hR hN hA => rmid_of (f' := f) (lv' := lv') (log' := (log ++ [⟨t, 1, c, f c, f c⟩])) (w1 := w1) (w2 := w2) h hx hs hR hN hA)
  generalize RScanDoes b r lv f (log ++ [⟨t, 1, c, f c, f c⟩]) false tn tp ((I : Int) + 1) tf (M) tv w = G at *
  obtain ⟨va, vc, ev, hf⟩ := hv.form
  subst ev
  obtain ⟨vb, vo, ea, cv⟩ := hf I hI
  subst ea
  rw [hx] at cv
  generalize hxx : f c = x at *
  have hI1 : (I : Int) < (xs.length : Int) := by omega
  have hI0 : (0 : Int) ≤ (I : Int) := by omega
  have d0 : ((I : Int) == 0) = false := by simp; omega
  have d1 : decide (D64 (x - M) < 0) = false := by simpa using h1
  have d2 : ((I : Int) + 1 == (xs.length : Int)) = false := by simp; omega
  have hwr : IntKind.i64.wrap ((I : Int) + 1) = (I : Int) + 1 := wrapS (by omega) (by omega)
  have hlt := fun k (hk : Own b r.gh lv k) => h.lt hk
  generalize xs.length = n at *
  clear h hv hf hI hx hk hl hn h0 h2 h1
  go_enter Tryz.func59, Tryz.ntmps59
  go_upto_region 1 with (fail)
  refine settle_wp ?_
  intro w1 hb1
  have qa_0 : w1.cell? ⟨w.heap.size, 0, none⟩ = some (.int .i64 0) := (hb1.cells.1 _ _ (by simp <;> omega)).trans (by simp [go_sem])
  have za_0 : w1.frozen? ⟨w.heap.size, 0, none⟩ = false := (hb1.cells.2 _ _ (by simp <;> omega)).trans (by simp [go_sem])
  have qa_1 : w1.cell? ⟨w.heap.size, 1, none⟩ = some (.int .i64 tn) := (hb1.cells.1 _ _ (by simp <;> omega)).trans (by simp [go_sem])
  have za_1 : w1.frozen? ⟨w.heap.size, 1, none⟩ = false := (hb1.cells.2 _ _ (by simp <;> omega)).trans (by simp [go_sem])
  have qa_2 : w1.cell? ⟨w.heap.size, 2, none⟩ = some (.int .i64 0) := (hb1.cells.1 _ _ (by simp <;> omega)).trans (by simp [go_sem])
  have za_2 : w1.frozen? ⟨w.heap.size, 2, none⟩ = false := (hb1.cells.2 _ _ (by simp <;> omega)).trans (by simp [go_sem])
  have qa_3 : w1.cell? ⟨w.heap.size, 3, none⟩ = some (.int .i64 tp) := (hb1.cells.1 _ _ (by simp <;> omega)).trans (by simp [go_sem])
  have za_3 : w1.frozen? ⟨w.heap.size, 3, none⟩ = false := (hb1.cells.2 _ _ (by simp <;> omega)).trans (by simp [go_sem])
  have qa_4 : w1.cell? ⟨w.heap.size, 4, none⟩ = some (.int .i64 I) := (hb1.cells.1 _ _ (by simp <;> omega)).trans (by simp [go_sem])
  have za_4 : w1.frozen? ⟨w.heap.size, 4, none⟩ = false := (hb1.cells.2 _ _ (by simp <;> omega)).trans (by simp [go_sem])
  have qa_5 : w1.cell? ⟨w.heap.size, 5, none⟩ = some (.int .i64 0) := (hb1.cells.1 _ _ (by simp <;> omega)).trans (by simp [go_sem])
  have za_5 : w1.frozen? ⟨w.heap.size, 5, none⟩ = false := (hb1.cells.2 _ _ (by simp <;> omega)).trans (by simp [go_sem])
  have qa_6 : w1.cell? ⟨w.heap.size, 6, none⟩ = some (.int .u64 tf) := (hb1.cells.1 _ _ (by simp <;> omega)).trans (by simp [go_sem])
  have za_6 : w1.frozen? ⟨w.heap.size, 6, none⟩ = false := (hb1.cells.2 _ _ (by simp <;> omega)).trans (by simp [go_sem])
  have qa_7 : w1.cell? ⟨w.heap.size, 7, none⟩ = some (.int .u64 M) := (hb1.cells.1 _ _ (by simp <;> omega)).trans (by simp [go_sem])
  have za_7 : w1.frozen? ⟨w.heap.size, 7, none⟩ = false := (hb1.cells.2 _ _ (by simp <;> omega)).trans (by simp [go_sem])
  have qa_8 : w1.cell? ⟨w.heap.size, 8, none⟩ = some (.int .u64 tv) := (hb1.cells.1 _ _ (by simp <;> omega)).trans (by simp [go_sem])
  have za_8 : w1.frozen? ⟨w.heap.size, 8, none⟩ = false := (hb1.cells.2 _ _ (by simp <;> omega)).trans (by simp [go_sem])
  have qa_9 : w1.cell? ⟨w.heap.size, 9, none⟩ = some (.int .u64 0) := (hb1.cells.1 _ _ (by simp <;> omega)).trans (by simp [go_sem])
  have za_9 : w1.frozen? ⟨w.heap.size, 9, none⟩ = false := (hb1.cells.2 _ _ (by simp <;> omega)).trans (by simp [go_sem])
  have qa_10 : w1.cell? ⟨w.heap.size, 10, none⟩ = some (.slice none 0 0) := (hb1.cells.1 _ _ (by simp <;> omega)).trans (by simp [go_sem])
  have za_10 : w1.frozen? ⟨w.heap.size, 10, none⟩ = false := (hb1.cells.2 _ _ (by simp <;> omega)).trans (by simp [go_sem])
  have pa := World.block_lt_of_cell? _ ⟨w.heap.size, 0, none⟩ qa_0
  have ra := Nat.lt_succ_of_lt pa
  have qr_0 : w1.cell? ⟨(w.heap.size + 1), 0, none⟩ = some (.int .i64 0) := (hb1.cells.1 _ _ (by simp <;> omega)).trans (by simp [go_sem])
  have zr_0 : w1.frozen? ⟨(w.heap.size + 1), 0, none⟩ = false := (hb1.cells.2 _ _ (by simp <;> omega)).trans (by simp [go_sem])
  have qr_1 : w1.cell? ⟨(w.heap.size + 1), 1, none⟩ = some (.int .i64 0) := (hb1.cells.1 _ _ (by simp <;> omega)).trans (by simp [go_sem])
  have zr_1 : w1.frozen? ⟨(w.heap.size + 1), 1, none⟩ = false := (hb1.cells.2 _ _ (by simp <;> omega)).trans (by simp [go_sem])
  have qr_2 : w1.cell? ⟨(w.heap.size + 1), 2, none⟩ = some (.int .i64 0) := (hb1.cells.1 _ _ (by simp <;> omega)).trans (by simp [go_sem])
  have zr_2 : w1.frozen? ⟨(w.heap.size + 1), 2, none⟩ = false := (hb1.cells.2 _ _ (by simp <;> omega)).trans (by simp [go_sem])
  have qr_3 : w1.cell? ⟨(w.heap.size + 1), 3, none⟩ = some (.int .i64 0) := (hb1.cells.1 _ _ (by simp <;> omega)).trans (by simp [go_sem])
  have zr_3 : w1.frozen? ⟨(w.heap.size + 1), 3, none⟩ = false := (hb1.cells.2 _ _ (by simp <;> omega)).trans (by simp [go_sem])
  have qr_4 : w1.cell? ⟨(w.heap.size + 1), 4, none⟩ = some (.int .i64 0) := (hb1.cells.1 _ _ (by simp <;> omega)).trans (by simp [go_sem])
  have zr_4 : w1.frozen? ⟨(w.heap.size + 1), 4, none⟩ = false := (hb1.cells.2 _ _ (by simp <;> omega)).trans (by simp [go_sem])
  have qr_5 : w1.cell? ⟨(w.heap.size + 1), 5, none⟩ = some (.int .i64 0) := (hb1.cells.1 _ _ (by simp <;> omega)).trans (by simp [go_sem])
  have zr_5 : w1.frozen? ⟨(w.heap.size + 1), 5, none⟩ = false := (hb1.cells.2 _ _ (by simp <;> omega)).trans (by simp [go_sem])
  have qr_6 : w1.cell? ⟨(w.heap.size + 1), 6, none⟩ = some (.int .u64 0) := (hb1.cells.1 _ _ (by simp <;> omega)).trans (by simp [go_sem])
  have zr_6 : w1.frozen? ⟨(w.heap.size + 1), 6, none⟩ = false := (hb1.cells.2 _ _ (by simp <;> omega)).trans (by simp [go_sem])
  have qr_7 : w1.cell? ⟨(w.heap.size + 1), 7, none⟩ = some (.int .u64 0) := (hb1.cells.1 _ _ (by simp <;> omega)).trans (by simp [go_sem])
  have zr_7 : w1.frozen? ⟨(w.heap.size + 1), 7, none⟩ = false := (hb1.cells.2 _ _ (by simp <;> omega)).trans (by simp [go_sem])
  have qr_8 : w1.cell? ⟨(w.heap.size + 1), 8, none⟩ = some (.int .u64 0) := (hb1.cells.1 _ _ (by simp <;> omega)).trans (by simp [go_sem])
  have zr_8 : w1.frozen? ⟨(w.heap.size + 1), 8, none⟩ = false := (hb1.cells.2 _ _ (by simp <;> omega)).trans (by simp [go_sem])
  have qr_9 : w1.cell? ⟨(w.heap.size + 1), 9, none⟩ = some (.int .u64 0) := (hb1.cells.1 _ _ (by simp <;> omega)).trans (by simp [go_sem])
  have zr_9 : w1.frozen? ⟨(w.heap.size + 1), 9, none⟩ = false := (hb1.cells.2 _ _ (by simp <;> omega)).trans (by simp [go_sem])
  have qr_10 : w1.cell? ⟨(w.heap.size + 1), 10, none⟩ = some (.slice none 0 0) := (hb1.cells.1 _ _ (by simp <;> omega)).trans (by simp [go_sem])
  have zr_10 : w1.frozen? ⟨(w.heap.size + 1), 10, none⟩ = false := (hb1.cells.2 _ _ (by simp <;> omega)).trans (by simp [go_sem])
  have pr := World.block_lt_of_cell? _ ⟨(w.heap.size + 1), 0, none⟩ qr_0
  have rr := Nat.lt_succ_of_lt pr
  have XE : Ext w w1 := Ext.trans (Ext.alloc (Ext.alloc (Ext.refl w) _) _) hb1
  have hs1 : w.heap.size + 2 ≤ w1.heap.size := by have h1 := hb1.size; simp at h1; omega
  have na : ¬ Own b r.gh lv w.heap.size := fun hk => by have := hlt _ hk; omega
  have nr : ¬ Own b r.gh lv (w.heap.size + 1) := fun hk => by have := hlt _ hk; omega
  replace cv := XE.cell cv
  clear hb1
  go_wp2_with fail
  refine (CA.out _ XE).mono ?_
  rintro e w2 ⟨rfl, lv2, R2, N2, A2⟩
  have HM2 := Lib.hid (HM.out lv2 _ w2 XE hs1 R2 N2 A2)
  have qW := R2.q1
  rw [hW] at qW
  replace za_0 := N2.frozen qa_0 za_0 na
  replace qa_0 := N2.cell qa_0 na
  replace za_1 := N2.frozen qa_1 za_1 na
  replace qa_1 := N2.cell qa_1 na
  replace za_2 := N2.frozen qa_2 za_2 na
  replace qa_2 := N2.cell qa_2 na
  replace za_3 := N2.frozen qa_3 za_3 na
  replace qa_3 := N2.cell qa_3 na
  replace za_4 := N2.frozen qa_4 za_4 na
  replace qa_4 := N2.cell qa_4 na
  replace za_5 := N2.frozen qa_5 za_5 na
  replace qa_5 := N2.cell qa_5 na
  replace za_6 := N2.frozen qa_6 za_6 na
  replace qa_6 := N2.cell qa_6 na
  replace za_7 := N2.frozen qa_7 za_7 na
  replace qa_7 := N2.cell qa_7 na
  replace za_8 := N2.frozen qa_8 za_8 na
  replace qa_8 := N2.cell qa_8 na
  replace za_9 := N2.frozen qa_9 za_9 na
  replace qa_9 := N2.cell qa_9 na
  replace za_10 := N2.frozen qa_10 za_10 na
  replace qa_10 := N2.cell qa_10 na
  replace zr_0 := N2.frozen qr_0 zr_0 nr
  replace qr_0 := N2.cell qr_0 nr
  replace zr_1 := N2.frozen qr_1 zr_1 nr
  replace qr_1 := N2.cell qr_1 nr
  replace zr_2 := N2.frozen qr_2 zr_2 nr
  replace qr_2 := N2.cell qr_2 nr
  replace zr_3 := N2.frozen qr_3 zr_3 nr
  replace qr_3 := N2.cell qr_3 nr
  replace zr_4 := N2.frozen qr_4 zr_4 nr
  replace qr_4 := N2.cell qr_4 nr
  replace zr_5 := N2.frozen qr_5 zr_5 nr
  replace qr_5 := N2.cell qr_5 nr
  replace zr_6 := N2.frozen qr_6 zr_6 nr
  replace qr_6 := N2.cell qr_6 nr
  replace zr_7 := N2.frozen qr_7 zr_7 nr
  replace qr_7 := N2.cell qr_7 nr
  replace zr_8 := N2.frozen qr_8 zr_8 nr
  replace qr_8 := N2.cell qr_8 nr
  replace zr_9 := N2.frozen qr_9 zr_9 nr
  replace qr_9 := N2.cell qr_9 nr
  replace zr_10 := N2.frozen qr_10 zr_10 nr
  replace qr_10 := N2.cell qr_10 nr
  clear R2 N2 A2 XE cv
  go_upto_region 5 with (fail)
  have k4 := fun w' (hx : Ext w2 w') => hx.cell qa_4
  have k7 := fun w' (hx : Ext w2 w') => hx.cell qa_7
  have kW := fun w' (hx : Ext w2 w') => hx.cell qW
  refine wp_region_held_drew (S := fun w' => Ext w2 w') (by kernel_rfl) ?hbeg (fun hHeld => ?_)
  case hbeg => exact (Ext.refl w2).drew
  have hHeld0 : Ext w2 w2 := by first | exact Ext.refl _ | assumption
  first
    | (refine take_at (i := 0) (v := ?_) rfl rfl (by kernel_rfl) (by kernel_rfl) (by kernel_rfl) (fun _ _ _ h => h) (Or.inl ⟨by rfl, ?hy⟩) (by assumption) ?_
       case hy => (intro wz hSw; (try dsimp only at hSw); go_simp <;> with_reducible rfl)
       simp only [List.setIfInBounds_toArray, List.set_cons_zero, List.set_cons_succ])
    | (refine take_at (i := 0) (v := undef) rfl rfl (by kernel_rfl) (by kernel_rfl) (by kernel_rfl) (fun _ _ _ h => h) (Or.inr ⟨by rfl, rfl⟩) (by assumption) ?_
       simp only [List.setIfInBounds_toArray, List.set_cons_zero, List.set_cons_succ])
  first
    | (refine take_at (i := 1) (v := ?_) rfl rfl (by kernel_rfl) (by kernel_rfl) (by kernel_rfl) (fun _ _ _ h => h) (Or.inl ⟨by rfl, ?hy⟩) (by assumption) ?_
       case hy => (intro wz hSw; (try dsimp only at hSw); go_simp <;> with_reducible rfl)
       simp only [List.setIfInBounds_toArray, List.set_cons_zero, List.set_cons_succ])
    | (refine take_at (i := 1) (v := undef) rfl rfl (by kernel_rfl) (by kernel_rfl) (by kernel_rfl) (fun _ _ _ h => h) (Or.inr ⟨by rfl, rfl⟩) (by assumption) ?_
       simp only [List.setIfInBounds_toArray, List.set_cons_zero, List.set_cons_succ])
  first
    | (refine take_at (i := 2) (v := ?_) rfl rfl (by kernel_rfl) (by kernel_rfl) (by kernel_rfl) (fun _ _ _ h => h) (Or.inl ⟨by rfl, ?hy⟩) (by assumption) ?_
       case hy => (intro wz hSw; (try dsimp only at hSw); go_simp <;> with_reducible rfl)
       simp only [List.setIfInBounds_toArray, List.set_cons_zero, List.set_cons_succ])
    | (refine take_at (i := 2) (v := undef) rfl rfl (by kernel_rfl) (by kernel_rfl) (by kernel_rfl) (fun _ _ _ h => h) (Or.inr ⟨by rfl, rfl⟩) (by assumption) ?_
       simp only [List.setIfInBounds_toArray, List.set_cons_zero, List.set_cons_succ])
  first
    | (refine take_at (i := 3) (v := ?_) rfl rfl (by kernel_rfl) (by kernel_rfl) (by kernel_rfl) (fun _ _ _ h => h) (Or.inl ⟨by rfl, ?hy⟩) (by assumption) ?_
       case hy => (intro wz hSw; (try dsimp only at hSw); go_simp <;> with_reducible rfl)
       simp only [List.setIfInBounds_toArray, List.set_cons_zero, List.set_cons_succ])
    | (refine take_at (i := 3) (v := undef) rfl rfl (by kernel_rfl) (by kernel_rfl) (by kernel_rfl) (fun _ _ _ h => h) (Or.inr ⟨by rfl, rfl⟩) (by assumption) ?_
       simp only [List.setIfInBounds_toArray, List.set_cons_zero, List.set_cons_succ])
  first
    | (refine take_at (i := 4) (v := ?_) rfl rfl (by kernel_rfl) (by kernel_rfl) (by kernel_rfl) (fun _ _ _ h => h) (Or.inl ⟨by rfl, ?hy⟩) (by assumption) ?_
       case hy => (intro wz hSw; (try dsimp only at hSw); go_simp <;> with_reducible rfl)
       simp only [List.setIfInBounds_toArray, List.set_cons_zero, List.set_cons_succ])
    | (refine take_at (i := 4) (v := undef) rfl rfl (by kernel_rfl) (by kernel_rfl) (by kernel_rfl) (fun _ _ _ h => h) (Or.inr ⟨by rfl, rfl⟩) (by assumption) ?_
       simp only [List.setIfInBounds_toArray, List.set_cons_zero, List.set_cons_succ])
  first
    | (refine take_at (i := 5) (v := ?_) rfl rfl (by kernel_rfl) (by kernel_rfl) (by kernel_rfl) (fun _ _ _ h => h) (Or.inl ⟨by rfl, ?hy⟩) (by assumption) ?_
       case hy => (intro wz hSw; (try dsimp only at hSw); go_simp <;> with_reducible rfl)
       simp only [List.setIfInBounds_toArray, List.set_cons_zero, List.set_cons_succ])
    | (refine take_at (i := 5) (v := undef) rfl rfl (by kernel_rfl) (by kernel_rfl) (by kernel_rfl) (fun _ _ _ h => h) (Or.inr ⟨by rfl, rfl⟩) (by assumption) ?_
       simp only [List.setIfInBounds_toArray, List.set_cons_zero, List.set_cons_succ])
  first
    | (refine take_at (i := 6) (v := ?_) rfl rfl (by kernel_rfl) (by kernel_rfl) (by kernel_rfl) (fun _ _ _ h => h) (Or.inl ⟨by rfl, ?hy⟩) (by assumption) ?_
       case hy => (intro wz hSw; (try dsimp only at hSw); go_simp <;> with_reducible rfl)
       simp only [List.setIfInBounds_toArray, List.set_cons_zero, List.set_cons_succ])
    | (refine take_at (i := 6) (v := undef) rfl rfl (by kernel_rfl) (by kernel_rfl) (by kernel_rfl) (fun _ _ _ h => h) (Or.inr ⟨by rfl, rfl⟩) (by assumption) ?_
       simp only [List.setIfInBounds_toArray, List.set_cons_zero, List.set_cons_succ])
  first
    | (refine take_at (i := 7) (v := ?_) rfl rfl (by kernel_rfl) (by kernel_rfl) (by kernel_rfl) (fun _ _ _ h => h) (Or.inl ⟨by rfl, ?hy⟩) (by assumption) ?_
       case hy => (intro wz hSw; (try dsimp only at hSw); go_simp <;> with_reducible rfl)
       simp only [List.setIfInBounds_toArray, List.set_cons_zero, List.set_cons_succ])
    | (refine take_at (i := 7) (v := undef) rfl rfl (by kernel_rfl) (by kernel_rfl) (by kernel_rfl) (fun _ _ _ h => h) (Or.inr ⟨by rfl, rfl⟩) (by assumption) ?_
       simp only [List.setIfInBounds_toArray, List.set_cons_zero, List.set_cons_succ])
  first
    | (refine take_at (i := 8) (v := ?_) rfl rfl (by kernel_rfl) (by kernel_rfl) (by kernel_rfl) (fun _ _ _ h => h) (Or.inl ⟨by rfl, ?hy⟩) (by assumption) ?_
       case hy => (intro wz hSw; (try dsimp only at hSw); go_simp <;> with_reducible rfl)
       simp only [List.setIfInBounds_toArray, List.set_cons_zero, List.set_cons_succ])
    | (refine take_at (i := 8) (v := undef) rfl rfl (by kernel_rfl) (by kernel_rfl) (by kernel_rfl) (fun _ _ _ h => h) (Or.inr ⟨by rfl, rfl⟩) (by assumption) ?_
       simp only [List.setIfInBounds_toArray, List.set_cons_zero, List.set_cons_succ])
  first
    | (refine take_at (i := 9) (v := ?_) rfl rfl (by kernel_rfl) (by kernel_rfl) (by kernel_rfl) (fun _ _ _ h => h) (Or.inl ⟨by rfl, ?hy⟩) (by assumption) ?_
       case hy => (intro wz hSw; (try dsimp only at hSw); go_simp <;> with_reducible rfl)
       simp only [List.setIfInBounds_toArray, List.set_cons_zero, List.set_cons_succ])
    | (refine take_at (i := 9) (v := undef) rfl rfl (by kernel_rfl) (by kernel_rfl) (by kernel_rfl) (fun _ _ _ h => h) (Or.inr ⟨by rfl, rfl⟩) (by assumption) ?_
       simp only [List.setIfInBounds_toArray, List.set_cons_zero, List.set_cons_succ])
  first
    | (refine take_at (i := 10) (v := ?_) rfl rfl (by kernel_rfl) (by kernel_rfl) (by kernel_rfl) (fun _ _ _ h => h) (Or.inl ⟨by rfl, ?hy⟩) (by assumption) ?_
       case hy => (intro wz hSw; (try dsimp only at hSw); go_simp <;> with_reducible rfl)
       simp only [List.setIfInBounds_toArray, List.set_cons_zero, List.set_cons_succ])
    | (refine take_at (i := 10) (v := undef) rfl rfl (by kernel_rfl) (by kernel_rfl) (by kernel_rfl) (fun _ _ _ h => h) (Or.inr ⟨by rfl, rfl⟩) (by assumption) ?_
       simp only [List.setIfInBounds_toArray, List.set_cons_zero, List.set_cons_succ])
  first
    | (refine take_at (i := 11) (v := ?_) rfl rfl (by kernel_rfl) (by kernel_rfl) (by kernel_rfl) (fun _ _ _ h => h) (Or.inl ⟨by rfl, ?hy⟩) (by assumption) ?_
       case hy => (intro wz hSw; (try dsimp only at hSw); go_simp <;> with_reducible rfl)
       simp only [List.setIfInBounds_toArray, List.set_cons_zero, List.set_cons_succ])
    | (refine take_at (i := 11) (v := undef) rfl rfl (by kernel_rfl) (by kernel_rfl) (by kernel_rfl) (fun _ _ _ h => h) (Or.inr ⟨by rfl, rfl⟩) (by assumption) ?_
       simp only [List.setIfInBounds_toArray, List.set_cons_zero, List.set_cons_succ])
  refine call_at (i := 12) (F := 79) (gapA64 x M _ (by omega) (by omega)) rfl rfl (by kernel_rfl) (by rfl) (by first | rfl | (go_simp <;> rfl)) ?_
  rintro e w' ⟨rfl, rfl⟩
  refine ⟨_, rfl, by assumption, ?_⟩
  simp only [List.setIfInBounds_toArray, List.set_cons_zero, List.set_cons_succ]
  first
    | (refine take_at (i := 13) (v := ?_) rfl rfl (by kernel_rfl) (by kernel_rfl) (by kernel_rfl) (fun _ _ _ h => h) (Or.inl ⟨by rfl, ?hy⟩) (by assumption) ?_
       case hy => (intro wz hSw; (try dsimp only at hSw); go_simp <;> with_reducible rfl)
       simp only [List.setIfInBounds_toArray, List.set_cons_zero, List.set_cons_succ])
    | (refine take_at (i := 13) (v := undef) rfl rfl (by kernel_rfl) (by kernel_rfl) (by kernel_rfl) (fun _ _ _ h => h) (Or.inr ⟨by rfl, rfl⟩) (by assumption) ?_
       simp only [List.setIfInBounds_toArray, List.set_cons_zero, List.set_cons_succ])
  first
    | (refine take_at (i := 14) (v := ?_) rfl rfl (by kernel_rfl) (by kernel_rfl) (by kernel_rfl) (fun _ _ _ h => h) (Or.inl ⟨by rfl, ?hy⟩) (by assumption) ?_
       case hy => (intro wz hSw; (try dsimp only at hSw); go_simp <;> with_reducible rfl)
       simp only [List.setIfInBounds_toArray, List.set_cons_zero, List.set_cons_succ])
    | (refine take_at (i := 14) (v := undef) rfl rfl (by kernel_rfl) (by kernel_rfl) (by kernel_rfl) (fun _ _ _ h => h) (Or.inr ⟨by rfl, rfl⟩) (by assumption) ?_
       simp only [List.setIfInBounds_toArray, List.set_cons_zero, List.set_cons_succ])
  refine wpAnyH_done (by kernel_rfl) ?_ _
  go_upto_region 7 with (fail)
  refine settle_wp ?_
  intro w3 hb3
  have hH := Ext.trans hHeld hb3
  replace HM2 := Lib.hid (HM2.out.ext hH)
  replace za_0 := hH.frozen qa_0 za_0
  replace qa_0 := hH.cell qa_0
  replace za_1 := hH.frozen qa_1 za_1
  replace qa_1 := hH.cell qa_1
  replace za_2 := hH.frozen qa_2 za_2
  replace qa_2 := hH.cell qa_2
  replace za_3 := hH.frozen qa_3 za_3
  replace qa_3 := hH.cell qa_3
  replace za_4 := hH.frozen qa_4 za_4
  replace qa_4 := hH.cell qa_4
  replace za_5 := hH.frozen qa_5 za_5
  replace qa_5 := hH.cell qa_5
  replace za_6 := hH.frozen qa_6 za_6
  replace qa_6 := hH.cell qa_6
  replace za_7 := hH.frozen qa_7 za_7
  replace qa_7 := hH.cell qa_7
  replace za_8 := hH.frozen qa_8 za_8
  replace qa_8 := hH.cell qa_8
  replace za_9 := hH.frozen qa_9 za_9
  replace qa_9 := hH.cell qa_9
  replace za_10 := hH.frozen qa_10 za_10
  replace qa_10 := hH.cell qa_10
  replace zr_0 := hH.frozen qr_0 zr_0
  replace qr_0 := hH.cell qr_0
  replace zr_1 := hH.frozen qr_1 zr_1
  replace qr_1 := hH.cell qr_1
  replace zr_2 := hH.frozen qr_2 zr_2
  replace qr_2 := hH.cell qr_2
  replace zr_3 := hH.frozen qr_3 zr_3
  replace qr_3 := hH.cell qr_3
  replace zr_4 := hH.frozen qr_4 zr_4
  replace qr_4 := hH.cell qr_4
  replace zr_5 := hH.frozen qr_5 zr_5
  replace qr_5 := hH.cell qr_5
  replace zr_6 := hH.frozen qr_6 zr_6
  replace qr_6 := hH.cell qr_6
  replace zr_7 := hH.frozen qr_7 zr_7
  replace qr_7 := hH.cell qr_7
  replace zr_8 := hH.frozen qr_8 zr_8
  replace qr_8 := hH.cell qr_8
  replace zr_9 := hH.frozen qr_9 zr_9
  replace qr_9 := hH.cell qr_9
  replace zr_10 := hH.frozen qr_10 zr_10
  replace qr_10 := hH.cell qr_10
  clear k4 k7 kW qW hHeld hH hb3
  go_upto_region 11 with (fail)
  refine settle_wp ?_
  intro w5 hb5
  replace HM2 := Lib.hid ((HM2.out.set (p := ⟨w.heap.size, 4, none⟩) (by simp) (by simp) (.int .i64 ((I : Int) + 1))).ext hb5)
  have pa_0 : w5.cell? ⟨w.heap.size, 0, none⟩ = some (.int .i64 0) := hb5.cell (by simp (maxDischargeDepth := 40) [go_sem, set_some, set_same, qa_0])
  have pa_1 : w5.cell? ⟨w.heap.size, 1, none⟩ = some (.int .i64 tn) := hb5.cell (by simp (maxDischargeDepth := 40) [go_sem, set_some, set_same, qa_1])
  have pa_2 : w5.cell? ⟨w.heap.size, 2, none⟩ = some (.int .i64 0) := hb5.cell (by simp (maxDischargeDepth := 40) [go_sem, set_some, set_same, qa_2])
  have pa_3 : w5.cell? ⟨w.heap.size, 3, none⟩ = some (.int .i64 tp) := hb5.cell (by simp (maxDischargeDepth := 40) [go_sem, set_some, set_same, qa_3])
  have pa_4 : w5.cell? ⟨w.heap.size, 4, none⟩ = some (.int .i64 ((I : Int) + 1)) := hb5.cell (by simp (maxDischargeDepth := 40) [go_sem, set_some, set_same, qa_4])
  have pa_5 : w5.cell? ⟨w.heap.size, 5, none⟩ = some (.int .i64 0) := hb5.cell (by simp (maxDischargeDepth := 40) [go_sem, set_some, set_same, qa_5])
  have pa_6 : w5.cell? ⟨w.heap.size, 6, none⟩ = some (.int .u64 tf) := hb5.cell (by simp (maxDischargeDepth := 40) [go_sem, set_some, set_same, qa_6])
  have pa_7 : w5.cell? ⟨w.heap.size, 7, none⟩ = some (.int .u64 M) := hb5.cell (by simp (maxDischargeDepth := 40) [go_sem, set_some, set_same, qa_7])
  have pa_8 : w5.cell? ⟨w.heap.size, 8, none⟩ = some (.int .u64 tv) := hb5.cell (by simp (maxDischargeDepth := 40) [go_sem, set_some, set_same, qa_8])
  have pa_9 : w5.cell? ⟨w.heap.size, 9, none⟩ = some (.int .u64 0) := hb5.cell (by simp (maxDischargeDepth := 40) [go_sem, set_some, set_same, qa_9])
  have pa_10 : w5.cell? ⟨w.heap.size, 10, none⟩ = some (.slice none 0 0) := hb5.cell (by simp (maxDischargeDepth := 40) [go_sem, set_some, set_same, qa_10])
  have pr_0 : w5.cell? ⟨w.heap.size + 1, 0, none⟩ = some (.int .i64 0) := hb5.cell (by simp [go_sem, qr_0])
  have vr_0 : w5.frozen? ⟨w.heap.size + 1, 0, none⟩ = false := hb5.frozen (v := .int .i64 0) (by simp [go_sem, qr_0]) (by simp [go_sem, zr_0])
  have pr_1 : w5.cell? ⟨w.heap.size + 1, 1, none⟩ = some (.int .i64 0) := hb5.cell (by simp [go_sem, qr_1])
  have vr_1 : w5.frozen? ⟨w.heap.size + 1, 1, none⟩ = false := hb5.frozen (v := .int .i64 0) (by simp [go_sem, qr_1]) (by simp [go_sem, zr_1])
  have pr_2 : w5.cell? ⟨w.heap.size + 1, 2, none⟩ = some (.int .i64 0) := hb5.cell (by simp [go_sem, qr_2])
  have vr_2 : w5.frozen? ⟨w.heap.size + 1, 2, none⟩ = false := hb5.frozen (v := .int .i64 0) (by simp [go_sem, qr_2]) (by simp [go_sem, zr_2])
  have pr_3 : w5.cell? ⟨w.heap.size + 1, 3, none⟩ = some (.int .i64 0) := hb5.cell (by simp [go_sem, qr_3])
  have vr_3 : w5.frozen? ⟨w.heap.size + 1, 3, none⟩ = false := hb5.frozen (v := .int .i64 0) (by simp [go_sem, qr_3]) (by simp [go_sem, zr_3])
  have pr_4 : w5.cell? ⟨w.heap.size + 1, 4, none⟩ = some (.int .i64 0) := hb5.cell (by simp [go_sem, qr_4])
  have vr_4 : w5.frozen? ⟨w.heap.size + 1, 4, none⟩ = false := hb5.frozen (v := .int .i64 0) (by simp [go_sem, qr_4]) (by simp [go_sem, zr_4])
  have pr_5 : w5.cell? ⟨w.heap.size + 1, 5, none⟩ = some (.int .i64 0) := hb5.cell (by simp [go_sem, qr_5])
  have vr_5 : w5.frozen? ⟨w.heap.size + 1, 5, none⟩ = false := hb5.frozen (v := .int .i64 0) (by simp [go_sem, qr_5]) (by simp [go_sem, zr_5])
  have pr_6 : w5.cell? ⟨w.heap.size + 1, 6, none⟩ = some (.int .u64 0) := hb5.cell (by simp [go_sem, qr_6])
  have vr_6 : w5.frozen? ⟨w.heap.size + 1, 6, none⟩ = false := hb5.frozen (v := .int .u64 0) (by simp [go_sem, qr_6]) (by simp [go_sem, zr_6])
  have pr_7 : w5.cell? ⟨w.heap.size + 1, 7, none⟩ = some (.int .u64 0) := hb5.cell (by simp [go_sem, qr_7])
  have vr_7 : w5.frozen? ⟨w.heap.size + 1, 7, none⟩ = false := hb5.frozen (v := .int .u64 0) (by simp [go_sem, qr_7]) (by simp [go_sem, zr_7])
  have pr_8 : w5.cell? ⟨w.heap.size + 1, 8, none⟩ = some (.int .u64 0) := hb5.cell (by simp [go_sem, qr_8])
  have vr_8 : w5.frozen? ⟨w.heap.size + 1, 8, none⟩ = false := hb5.frozen (v := .int .u64 0) (by simp [go_sem, qr_8]) (by simp [go_sem, zr_8])
  have pr_9 : w5.cell? ⟨w.heap.size + 1, 9, none⟩ = some (.int .u64 0) := hb5.cell (by simp [go_sem, qr_9])
  have vr_9 : w5.frozen? ⟨w.heap.size + 1, 9, none⟩ = false := hb5.frozen (v := .int .u64 0) (by simp [go_sem, qr_9]) (by simp [go_sem, zr_9])
  have pr_10 : w5.cell? ⟨w.heap.size + 1, 10, none⟩ = some (.slice none 0 0) := hb5.cell (by simp [go_sem, qr_10])
  have vr_10 : w5.frozen? ⟨w.heap.size + 1, 10, none⟩ = false := hb5.frozen (v := .slice none 0 0) (by simp [go_sem, qr_10]) (by simp [go_sem, zr_10])
  clear hb5 qa_0 za_0 qa_1 za_1 qa_2 za_2 qa_3 za_3 qa_4 za_4 qa_5 za_5 qa_6 za_6 qa_7 za_7 qa_8 za_8 qa_9 za_9 qa_10 za_10 qr_0 zr_0 qr_1 zr_1 qr_2 zr_2 qr_3 zr_3 qr_4 zr_4 qr_5 zr_5 qr_6 zr_6 qr_7 zr_7 qr_8 zr_8 qr_9 zr_9 qr_10 zr_10
  go_wp2
  refine bodyPost_ret (v := .tuple #[(.agg #[.int .i64 0, .int .i64 tn, .int .i64 0, .int .i64 tp, .int .i64 ((I : Int) + 1), .int .i64 0, .int .u64 tf, .int .u64 M, .int .u64 tv, .int .u64 0, .slice none 0 0]), .bool false]) (by simp [results, Tryz.results59, go_sem, pr_0, pr_1, pr_2, pr_3, pr_4, pr_5, pr_6, pr_7, pr_8, pr_9, pr_10, pa_0, pa_1, pa_2, pa_3, pa_4, pa_5, pa_6, pa_7, pa_8, pa_9, pa_10]) rfl (HG.out _ ?mid)
  case mid => repeat (first | with_reducible exact HM2.out | refine RMid.set ?_ (by simp) (by simp) _)
set_option maxRecDepth 100000 in
theorem rScan_none (b : Nat) (r : RY) (f : Nat → Int) (lv : Value) (log : List Acc) (t : Int) (v : Value) (xs : List Int) (tn tp I tf M tv : Int) (w : World) (h : RB w b r f lv log) (hv : IntsV w v xs) (h0 : xs.length = 0) (hI : I = 0) :
    Calls Tryz.prog 59 #[.pointer (some ⟨b, 0, none⟩), .int .i64 t, v, (.agg #[.int .i64 0, .int .i64 tn, .int .i64 0, .int .i64 tp, .int .i64 I, .int .i64 0, .int .u64 tf, .int .u64 M, .int .u64 tv, .int .u64 0, .slice none 0 0])] w fun e w' => e = .returned (.tuple #[(.agg #[.int .i64 0, .int .i64 tn, .int .i64 0, .int .i64 tp, .int .i64 0, .int .i64 0, .int .u64 tf, .int .u64 M, .int .u64 tv, .int .u64 0, .slice none 0 0]), .bool true]) ∧ Ext w w' := by
  obtain ⟨va, vc, ev, hf⟩ := hv.form
  subst ev
  subst hI
  rw [h0]
  clear h hv hf h0
  go_enter Tryz.func59, Tryz.ntmps59
  go_wp2
  refine bodyPost_ret (v := .tuple #[(.agg #[.int .i64 0, .int .i64 tn, .int .i64 0, .int .i64 tp, .int .i64 0, .int .i64 0, .int .u64 tf, .int .u64 M, .int .u64 tv, .int .u64 0, .slice none 0 0]), .bool true]) (by simp [results, Tryz.results59, go_sem]) rfl ⟨rfl, ?_⟩
  repeat (first | with_reducible exact Ext.refl _ | with_reducible assumption | with_reducible refine Ext.alloc ?_ _ | with_reducible refine Ext.drew ?_ | with_reducible refine Ext.drewN ?_ _ | with_reducible refine Ext.setCell ?_ (by simp <;> omega) _ | with_reducible refine Ext.trans ?_ (by assumption))
end Go.Proofs.YtkmfamidahlgiaaGreatDoor
/- The document's least of some cells of its board. -/
namespace Go.Proofs.YtkmfamidahlgiaaGreatDoor
open Go.RowKit
set_option linter.unusedVariables false
set_option linter.unusedSimpArgs false
set_option maxHeartbeats 4000000
attribute [local go_sem] later_cell later_frozen later_const
/-- the least of g 0 .. g (k - 1), as a scan looks at them: the first, then what is behind -/
def leastP (D : Int → Int) (g : Nat → Int) : Nat → Int
  | 0 => 0
  | k + 1 => if k = 0 ∨ D (g k - leastP D g k) < 0 then g k else leastP D g k
theorem leastP_0 (D : Int → Int) (g : Nat → Int) : leastP D g (0 + 1) = g 0 := by simp [leastP]
theorem leastP_lt (D : Int → Int) (g : Nat → Int) (k : Nat) (h : D (g k - leastP D g k) < 0) : leastP D g (k + 1) = g k := by simp [leastP, h]
theorem leastP_ge (D : Int → Int) (g : Nat → Int) (k : Nat) (h0 : k ≠ 0) (h : ¬ D (g k - leastP D g k) < 0) : leastP D g (k + 1) = leastP D g k := by
  simp only [leastP]
  exact if_neg (by rintro (e | e); exact h0 e; exact h e)
theorem leastP_nn (D : Int → Int) (g : Nat → Int) (h : ∀ i, 0 ≤ g i) : ∀ k, 0 ≤ leastP D g k
  | 0 => Int.le_refl _
  | k + 1 => by
    unfold leastP
    split
    · exact h k
    · exact leastP_nn D g h k
set_option maxRecDepth 100000 in
theorem rGtLeast0 (D : Int → Int) (b : Nat) (r : RY) (f : Nat → Int) (lv : Value) (log : List Acc) (v : Value) (xs : List Int) (w : World) (h : RB w b r f lv log) (hv : IntsV w v xs) (hx : ∀ i, i < xs.length → ∃ c : Nat, xs.getD i 0 = c ∧ c < r.m) (hf0 : ∀ i, 0 ≤ f i) (hn : xs.length ≤ 1000)
    (CG : ∀ (a b : Int) (w : World), 0 ≤ a → 0 ≤ b → Calls Tryz.prog 79 #[.int .i64 r.W, .int .u64 a, .int .u64 b] w fun e w' => e = .returned (.int .i64 (D (a - b))) ∧ w = w') :
    Calls Tryz.prog 62 #[.pointer (some ⟨b, 0, none⟩), v] w fun e w' => e = .returned (.int .u64 (leastP D (fun i => f (xs.getD i 0).toNat) xs.length)) ∧ Ext w w' := by
  obtain ⟨va, vc, ev, hf⟩ := hv.form
  subst ev
  have HF := Lib.hid hf
  have HX := Lib.hid hx
  have HN := Lib.hid (fun k => leastP_nn D (fun i => f (xs.getD i 0).toNat) (fun i => hf0 _) k)
  have H0 := Lib.hid (leastP_0 D (fun i => f (xs.getD i 0).toNat))
  have HL := Lib.hid (leastP_lt D (fun i => f (xs.getD i 0).toNat))
  have HE := Lib.hid (leastP_ge D (fun i => f (xs.getD i 0).toNat))
  have HF0 := Lib.hid hf0
  have HCG := Lib.hid CG
  have HVA := Lib.hid h.va
  have q1 := h.q1
  have q7 := h.q7
  clear h hv hf hx hf0 CG
  generalize hP : leastP D (fun i => f (xs.getD i 0).toNat) = P at *
  go_enter Tryz.func62, Tryz.ntmps62
  go_wp2
  go_loopw [5, 6] (fun m i wr => ∃ k : Nat, k ≤ xs.length ∧ i = .int .i64 k ∧ m = .int .u64 (P k) ∧ Ext w wr) (fun _ i _ => xs.length - (intOf i).toNat)
  case atStart => exact ⟨0, Nat.zero_le _, rfl, by rw [← hP]; rfl, Ext.refl _⟩
  case round =>
    obtain ⟨k, hk, rfl, rfl, hx⟩ := hrel
    by_cases hlt : k < xs.length
    case neg =>
      obtain rfl : k = xs.length := by omega
      go_wp2
      go_ret
      exact ⟨rfl, hx⟩
    have hlt' : (k : Int) < (xs.length : Int) := by omega
    obtain ⟨vb, off, ea, c0⟩ := HF.out k hlt
    subst ea
    obtain ⟨c, ec, hc⟩ := HX.out k hlt
    have c1 : w.cell? ⟨r.gh, c, none⟩ = some (.int .u64 (f c)) := HVA.out.c c hc
    have hg : f (xs.getD k 0).toNat = f c := by rw [ec]; rfl
    have l1 := HL.out k
    have e1 := HE.out k
    have n1 := HN.out k
    have f1 := HF0.out c
    have hc' : (c : Int) < (r.m : Int) := by omega
    have hc0 : (0 : Int) ≤ (c : Int) := by omega
    have h01 := H0.out
    have hk0 : k = 0 → P (k + 1) = f c := by rintro rfl; rw [h01]; exact hg
    rw [hg] at l1 e1
    rw [ec] at c0
    clear hg h01 ec
    have HK0 := Lib.hid hk0
    have L1 := Lib.hid l1
    have E1 := Lib.hid e1
    clear hk0 l1 e1
    generalize f c = z at *
    clear HF HX HN H0 HL HE HF0 HVA
    have q1' := hx.cell q1
    have HX := Lib.hid hx
    have F7 := fun w' (hz : Ext wr w') => hz.cell (HX.out.cell q7)
    have G0 := fun w' (hz : Ext wr w') => hz.cell (HX.out.cell c0)
    have G1 := fun w' (hz : Ext wr w') => hz.cell (HX.out.cell c1)
    clear hx q1 q7 c0 c1
    go_upto_region 5 with (fail)
    refine wp_region_held_drew (S := fun w' => Ext wr w') (by kernel_rfl) ?hbeg (fun hHeld => ?_)
    case hbeg => exact (Ext.refl wr).drew
    have hHeld0 : Ext wr wr := by first | exact Ext.refl _ | assumption
    first
      | (refine take_at (i := 0) (v := ?_) rfl rfl (by kernel_rfl) (by kernel_rfl) (by kernel_rfl) (fun _ _ _ h => h) (Or.inl ⟨by rfl, ?hy⟩) (by assumption) ?_
         case hy => (intro wz hSw; (try dsimp only at hSw); go_simp <;> with_reducible rfl)
         simp only [List.setIfInBounds_toArray, List.set_cons_zero, List.set_cons_succ])
      | (refine take_at (i := 0) (v := undef) rfl rfl (by kernel_rfl) (by kernel_rfl) (by kernel_rfl) (fun _ _ _ h => h) (Or.inr ⟨by rfl, rfl⟩) (by assumption) ?_
         simp only [List.setIfInBounds_toArray, List.set_cons_zero, List.set_cons_succ])
    first
      | (refine take_at (i := 1) (v := ?_) rfl rfl (by kernel_rfl) (by kernel_rfl) (by kernel_rfl) (fun _ _ _ h => h) (Or.inl ⟨by rfl, ?hy⟩) (by assumption) ?_
         case hy => (intro wz hSw; (try dsimp only at hSw); go_simp <;> with_reducible rfl)
         simp only [List.setIfInBounds_toArray, List.set_cons_zero, List.set_cons_succ])
      | (refine take_at (i := 1) (v := undef) rfl rfl (by kernel_rfl) (by kernel_rfl) (by kernel_rfl) (fun _ _ _ h => h) (Or.inr ⟨by rfl, rfl⟩) (by assumption) ?_
         simp only [List.setIfInBounds_toArray, List.set_cons_zero, List.set_cons_succ])
    first
      | (refine take_at (i := 2) (v := ?_) rfl rfl (by kernel_rfl) (by kernel_rfl) (by kernel_rfl) (fun _ _ _ h => h) (Or.inl ⟨by rfl, ?hy⟩) (by assumption) ?_
         case hy => (intro wz hSw; (try dsimp only at hSw); go_simp <;> with_reducible rfl)
         simp only [List.setIfInBounds_toArray, List.set_cons_zero, List.set_cons_succ])
      | (refine take_at (i := 2) (v := undef) rfl rfl (by kernel_rfl) (by kernel_rfl) (by kernel_rfl) (fun _ _ _ h => h) (Or.inr ⟨by rfl, rfl⟩) (by assumption) ?_
         simp only [List.setIfInBounds_toArray, List.set_cons_zero, List.set_cons_succ])
    first
      | (refine take_at (i := 3) (v := ?_) rfl rfl (by kernel_rfl) (by kernel_rfl) (by kernel_rfl) (fun _ _ _ h => h) (Or.inl ⟨by rfl, ?hy⟩) (by assumption) ?_
         case hy => (intro wz hSw; (try dsimp only at hSw); go_simp <;> with_reducible rfl)
         simp only [List.setIfInBounds_toArray, List.set_cons_zero, List.set_cons_succ])
      | (refine take_at (i := 3) (v := undef) rfl rfl (by kernel_rfl) (by kernel_rfl) (by kernel_rfl) (fun _ _ _ h => h) (Or.inr ⟨by rfl, rfl⟩) (by assumption) ?_
         simp only [List.setIfInBounds_toArray, List.set_cons_zero, List.set_cons_succ])
    first
      | (refine take_at (i := 4) (v := ?_) rfl rfl (by kernel_rfl) (by kernel_rfl) (by kernel_rfl) (fun _ _ _ h => h) (Or.inl ⟨by rfl, ?hy⟩) (by assumption) ?_
         case hy => (intro wz hSw; (try dsimp only at hSw); go_simp <;> with_reducible rfl)
         simp only [List.setIfInBounds_toArray, List.set_cons_zero, List.set_cons_succ])
      | (refine take_at (i := 4) (v := undef) rfl rfl (by kernel_rfl) (by kernel_rfl) (by kernel_rfl) (fun _ _ _ h => h) (Or.inr ⟨by rfl, rfl⟩) (by assumption) ?_
         simp only [List.setIfInBounds_toArray, List.set_cons_zero, List.set_cons_succ])
    first
      | (refine take_at (i := 5) (v := ?_) rfl rfl (by kernel_rfl) (by kernel_rfl) (by kernel_rfl) (fun _ _ _ h => h) (Or.inl ⟨by rfl, ?hy⟩) (by assumption) ?_
         case hy => (intro wz hSw; (try dsimp only at hSw); go_simp <;> with_reducible rfl)
         simp only [List.setIfInBounds_toArray, List.set_cons_zero, List.set_cons_succ])
      | (refine take_at (i := 5) (v := undef) rfl rfl (by kernel_rfl) (by kernel_rfl) (by kernel_rfl) (fun _ _ _ h => h) (Or.inr ⟨by rfl, rfl⟩) (by assumption) ?_
         simp only [List.setIfInBounds_toArray, List.set_cons_zero, List.set_cons_succ])
    first
      | (refine take_at (i := 6) (v := ?_) rfl rfl (by kernel_rfl) (by kernel_rfl) (by kernel_rfl) (fun _ _ _ h => h) (Or.inl ⟨by rfl, ?hy⟩) (by assumption) ?_
         case hy => (intro wz hSw; (try dsimp only at hSw); go_simp <;> with_reducible rfl)
         simp only [List.setIfInBounds_toArray, List.set_cons_zero, List.set_cons_succ])
      | (refine take_at (i := 6) (v := undef) rfl rfl (by kernel_rfl) (by kernel_rfl) (by kernel_rfl) (fun _ _ _ h => h) (Or.inr ⟨by rfl, rfl⟩) (by assumption) ?_
         simp only [List.setIfInBounds_toArray, List.set_cons_zero, List.set_cons_succ])
    first
      | (refine take_at (i := 7) (v := ?_) rfl rfl (by kernel_rfl) (by kernel_rfl) (by kernel_rfl) (fun _ _ _ h => h) (Or.inl ⟨by rfl, ?hy⟩) (by assumption) ?_
         case hy => (intro wz hSw; (try dsimp only at hSw); go_simp <;> with_reducible rfl)
         simp only [List.setIfInBounds_toArray, List.set_cons_zero, List.set_cons_succ])
      | (refine take_at (i := 7) (v := undef) rfl rfl (by kernel_rfl) (by kernel_rfl) (by kernel_rfl) (fun _ _ _ h => h) (Or.inr ⟨by rfl, rfl⟩) (by assumption) ?_
         simp only [List.setIfInBounds_toArray, List.set_cons_zero, List.set_cons_succ])
    first
      | (refine take_at (i := 8) (v := ?_) rfl rfl (by kernel_rfl) (by kernel_rfl) (by kernel_rfl) (fun _ _ _ h => h) (Or.inl ⟨by rfl, ?hy⟩) (by assumption) ?_
         case hy => (intro wz hSw; (try dsimp only at hSw); go_simp <;> with_reducible rfl)
         simp only [List.setIfInBounds_toArray, List.set_cons_zero, List.set_cons_succ])
      | (refine take_at (i := 8) (v := undef) rfl rfl (by kernel_rfl) (by kernel_rfl) (by kernel_rfl) (fun _ _ _ h => h) (Or.inr ⟨by rfl, rfl⟩) (by assumption) ?_
         simp only [List.setIfInBounds_toArray, List.set_cons_zero, List.set_cons_succ])
    first
      | (refine take_at (i := 9) (v := ?_) rfl rfl (by kernel_rfl) (by kernel_rfl) (by kernel_rfl) (fun _ _ _ h => h) (Or.inl ⟨by rfl, ?hy⟩) (by assumption) ?_
         case hy => (intro wz hSw; (try dsimp only at hSw); go_simp <;> with_reducible rfl)
         simp only [List.setIfInBounds_toArray, List.set_cons_zero, List.set_cons_succ])
      | (refine take_at (i := 9) (v := undef) rfl rfl (by kernel_rfl) (by kernel_rfl) (by kernel_rfl) (fun _ _ _ h => h) (Or.inr ⟨by rfl, rfl⟩) (by assumption) ?_
         simp only [List.setIfInBounds_toArray, List.set_cons_zero, List.set_cons_succ])
    first
      | (refine take_at (i := 10) (v := ?_) rfl rfl (by kernel_rfl) (by kernel_rfl) (by kernel_rfl) (fun _ _ _ h => h) (Or.inl ⟨by rfl, ?hy⟩) (by assumption) ?_
         case hy => (intro wz hSw; (try dsimp only at hSw); go_simp <;> with_reducible rfl)
         simp only [List.setIfInBounds_toArray, List.set_cons_zero, List.set_cons_succ])
      | (refine take_at (i := 10) (v := undef) rfl rfl (by kernel_rfl) (by kernel_rfl) (by kernel_rfl) (fun _ _ _ h => h) (Or.inr ⟨by rfl, rfl⟩) (by assumption) ?_
         simp only [List.setIfInBounds_toArray, List.set_cons_zero, List.set_cons_succ])
    refine wpAnyH_done (by kernel_rfl) ?_ _
    clear F7 G0 G1
    have r1 := Ext.drew (Ext.refl wr) |>.cell q1'
    have HXD : Hid (Ext w wr.drew) := Lib.hid (Ext.drew HX.out)
    clear q1' HX
    by_cases h0 : k = 0
    · have d0 : ((k : Int) == 0) = true := by simp [h0]
      have HP := Lib.hid (HK0.out h0)
      clear h0
      go_wp2
      exact ⟨⟨k + 1, by omega, by go_num, by rw [HP.out], HXD.out⟩, by simp [intOf]; omega⟩
    have d0 : ((k : Int) == 0) = false := by simp; omega
    have C := Lib.hid (HCG.out z (P k) wr.drew f1 n1)
    generalize hM : P k = M at *
    go_wp2_with fail
    refine C.out.mono ?_
    rintro e w' ⟨rfl, rfl⟩
    by_cases hd : D (z - M) < 0
    · have HP := Lib.hid (L1.out hd)
      go_wp2
      exact ⟨⟨k + 1, by omega, by go_num, by rw [HP.out], HXD.out⟩, by simp [intOf]; omega⟩
    · have HP := Lib.hid (E1.out h0 (by omega))
      go_wp2
      exact ⟨⟨k + 1, by omega, by go_num, by rw [HP.out], HXD.out⟩, by simp [intOf]; omega⟩
/-- the document's least of some cells, at a width -/
theorem rGtLeast_32 (b : Nat) (r : RY) (f : Nat → Int) (lv : Value) (log : List Acc) (v : Value) (xs : List Int) (w : World) (h : RB w b r f lv log) (hv : IntsV w v xs) (hx : ∀ i, i < xs.length → ∃ c : Nat, xs.getD i 0 = c ∧ c < r.m) (hf0 : ∀ i, 0 ≤ f i) (hn : xs.length ≤ 1000) (hW : r.W = 32) :
    Calls Tryz.prog 62 #[.pointer (some ⟨b, 0, none⟩), v] w fun e w' => e = .returned (.int .u64 (leastP D32 (fun i => f (xs.getD i 0).toNat) xs.length)) ∧ Ext w w' :=
  rGtLeast0 D32 b r f lv log v xs w h hv hx hf0 hn (fun a b w h0 h1 => by
    rw [hW]
    first | exact rGap_32 a b w h0 h1 | exact rGap_32 a b w)
/-- the document's least of some cells, at a width -/
theorem rGtLeast_64 (b : Nat) (r : RY) (f : Nat → Int) (lv : Value) (log : List Acc) (v : Value) (xs : List Int) (w : World) (h : RB w b r f lv log) (hv : IntsV w v xs) (hx : ∀ i, i < xs.length → ∃ c : Nat, xs.getD i 0 = c ∧ c < r.m) (hf0 : ∀ i, 0 ≤ f i) (hn : xs.length ≤ 1000) (hW : r.W = 64) :
    Calls Tryz.prog 62 #[.pointer (some ⟨b, 0, none⟩), v] w fun e w' => e = .returned (.int .u64 (leastP D64 (fun i => f (xs.getD i 0).toNat) xs.length)) ∧ Ext w w' :=
  rGtLeast0 D64 b r f lv log v xs w h hv hx hf0 hn (fun a b w h0 h1 => by
    rw [hW]
    first | exact rGap_64 a b w h0 h1 | exact rGap_64 a b w)
end Go.Proofs.YtkmfamidahlgiaaGreatDoor
