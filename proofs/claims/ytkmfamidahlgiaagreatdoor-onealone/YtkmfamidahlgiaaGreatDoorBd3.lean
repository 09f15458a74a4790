/- A board's slots; Peek. -/
import Derived.Test.YtkmfamidahlgiaaGreatDoorBd2
namespace Go.Proofs.YtkmfamidahlgiaaGreatDoor
open Go.RowKit
set_option linter.unusedVariables false
set_option linter.unusedSimpArgs false
set_option maxHeartbeats 2000000
attribute [local go_sem] later_cell later_frozen later_const
theorem u64_wrap (v : Int) : IntKind.u64.wrap v = U64 v := by rw [IntKind.wrap_u64]; rfl
set_option maxRecDepth 100000 in
theorem Peek32 (b g : Nat) (y : LY) (f : Nat → Int) (lv : Value) (log : List Acc) (c : Nat) (w : World) (hB : BD w 121 b g y f lv log) (Y : YOk y) (E : Parts w) (hk : kd y c ≠ 0) :
    Calls Tryz.prog 25 #[.pointer (some ⟨b, 0, none⟩), .int .i64 c] w fun e w' => e = .returned (.int .u64 (f c)) ∧ Ext w w' := by
  have hc : c < y.m := by have := kd_in (y := y) (c := c) hk; omega
  have CH := has32 b g y f lv log c 0 w hB Y E
  rw [show (kd y c == 0) = false by simpa using hk] at CH
  have HC := Lib.hid CH
  have q14 := hB.q14
  have qc := hB.va.c c hc
  have hcm : (c : Int) < (y.m : Int) := by omega
  generalize f c = o at *
  clear CH hB Y E hk
  go_enter Tryz.func25, Tryz.ntmps25
  go_wp2_with fail
  refine HC.out.mono ?_
  rintro e w1 ⟨rfl, X1⟩
  replace q14 := X1.cell q14
  replace qc := X1.cell qc
  go_wp2
  go_ret
  exact ⟨rfl, X1⟩
set_option maxRecDepth 100000 in
theorem Peek64 (b g : Nat) (y : LY) (f : Nat → Int) (lv : Value) (log : List Acc) (c : Nat) (w : World) (hB : BD w 152 b g y f lv log) (Y : YOk y) (E : Parts w) (hk : kd y c ≠ 0) :
    Calls Tryz.prog 63 #[.pointer (some ⟨b, 0, none⟩), .int .i64 c] w fun e w' => e = .returned (.int .u64 (f c)) ∧ Ext w w' := by
  have hc : c < y.m := by have := kd_in (y := y) (c := c) hk; omega
  have CH := has64 b g y f lv log c 0 w hB Y E
  rw [show (kd y c == 0) = false by simpa using hk] at CH
  have HC := Lib.hid CH
  have q14 := hB.q14
  have qc := hB.va.c c hc
  have hcm : (c : Int) < (y.m : Int) := by omega
  generalize f c = o at *
  clear CH hB Y E hk
  go_enter Tryz.func63, Tryz.ntmps63
  go_wp2_with fail
  refine HC.out.mono ?_
  rintro e w1 ⟨rfl, X1⟩
  replace q14 := X1.cell q14
  replace qc := X1.cell qc
  go_wp2
  go_ret
  exact ⟨rfl, X1⟩
end Go.Proofs.YtkmfamidahlgiaaGreatDoor
