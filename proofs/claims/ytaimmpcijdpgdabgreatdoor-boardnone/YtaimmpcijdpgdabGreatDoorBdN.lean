/- No board; the walk of BoardNone. -/
import Derived.Test.YtaimmpcijdpgdabGreatDoorBd7
import Derived.Test.YtaimmpcijdpgdabGreatDoorOpenD
namespace Go.Proofs.YtaimmpcijdpgdabGreatDoor
open Go.RowKit
set_option linter.unusedVariables false
set_option linter.unusedSimpArgs false
set_option maxHeartbeats 2000000
attribute [local go_sem] later_cell later_frozen later_const
def VoidSame (w : World) (e : Ending) (w' : World) : Prop := e = .returned (.tuple #[]) ∧ w = w'
theorem look32_nil (t ak c kind : Int) (w : World) : Calls Tryz.prog 92 #[.pointer none, .int .i64 t, .int .i64 ak, .int .i64 c, .int .i64 kind] w fun e w' => e = .returned (.int .u32 0) ∧ w = w' := by
  go_enter Tryz.func92, Tryz.ntmps92
  go_wp2_with fail
  refine (has32_nil c kind _).mono ?_
  rintro e w' ⟨rfl, rfl⟩
  go_wp2
  go_ret
  exact ⟨rfl, rfl⟩
theorem put32_nil (t ak c kind z : Int) (w : World) : Calls Tryz.prog 93 #[.pointer none, .int .i64 t, .int .i64 ak, .int .i64 c, .int .i64 kind, .int .u32 z] w (VoidSame w) := by
  go_enter Tryz.func93, Tryz.ntmps93
  go_wp2_with fail
  refine (has32_nil c kind _).mono ?_
  rintro e w' ⟨rfl, rfl⟩
  go_wp2
  refine bodyPost_ret (v := .tuple #[]) (by simp [results, Tryz.results93, go_sem]) rfl ?_
  exact ⟨rfl, rfl⟩
theorem Load32_nil (t c : Int) (w : World) : Calls Tryz.prog 42 #[.pointer none, .int .i64 t, .int .i64 c] w fun e w' => e = .returned (.int .u32 0) ∧ w = w' := by
  go_enter Tryz.func42, Tryz.ntmps42
  go_wp2_with fail
  refine (look32_nil t 1 c 1 _).mono ?_
  rintro e w' ⟨rfl, rfl⟩
  go_wp2
  go_ret
  exact ⟨rfl, rfl⟩
theorem Read32_nil (t c : Int) (w : World) : Calls Tryz.prog 45 #[.pointer none, .int .i64 t, .int .i64 c] w fun e w' => e = .returned (.int .u32 0) ∧ w = w' := by
  go_enter Tryz.func45, Tryz.ntmps45
  go_wp2_with fail
  refine (look32_nil t 6 c 2 _).mono ?_
  rintro e w' ⟨rfl, rfl⟩
  go_wp2
  go_ret
  exact ⟨rfl, rfl⟩
theorem Store32_nil (t c z : Int) (w : World) : Calls Tryz.prog 43 #[.pointer none, .int .i64 t, .int .i64 c, .int .u32 z] w (VoidSame w) := by
  go_enter Tryz.func43, Tryz.ntmps43
  go_wp2_with fail
  refine (put32_nil t 2 c 1 z _).mono ?_
  rintro e w' ⟨rfl, rfl⟩
  go_wp2
  refine bodyPost_ret (v := .tuple #[]) (by simp [results, Tryz.results43, go_sem]) rfl ?_
  exact ⟨rfl, rfl⟩
theorem Write32_nil (t c z : Int) (w : World) : Calls Tryz.prog 46 #[.pointer none, .int .i64 t, .int .i64 c, .int .u32 z] w (VoidSame w) := by
  go_enter Tryz.func46, Tryz.ntmps46
  go_wp2_with fail
  refine (put32_nil t 7 c 2 z _).mono ?_
  rintro e w' ⟨rfl, rfl⟩
  go_wp2
  refine bodyPost_ret (v := .tuple #[]) (by simp [results, Tryz.results46, go_sem]) rfl ?_
  exact ⟨rfl, rfl⟩
theorem Add32_nil (t c n : Int) (w : World) : Calls Tryz.prog 34 #[.pointer none, .int .i64 t, .int .i64 c, .int .i64 n] w fun e w' => e = .returned (.int .u32 0) ∧ w = w' := by
  go_enter Tryz.func34, Tryz.ntmps34
  go_wp2_with fail
  refine (has32_nil c 1 _).mono ?_
  rintro e w' ⟨rfl, rfl⟩
  go_wp2
  go_ret
  exact ⟨rfl, rfl⟩
theorem Swap32_nil (t c o z : Int) (w : World) : Calls Tryz.prog 44 #[.pointer none, .int .i64 t, .int .i64 c, .int .u32 o, .int .u32 z] w fun e w' => e = .returned (.bool false) ∧ w = w' := by
  go_enter Tryz.func44, Tryz.ntmps44
  go_wp2_with fail
  refine (has32_nil c 1 _).mono ?_
  rintro e w' ⟨rfl, rfl⟩
  go_wp2
  go_ret
  exact ⟨rfl, rfl⟩
theorem Get32_nil (t s : Int) (w : World) : Calls Tryz.prog 47 #[.pointer none, .int .i64 t, .int .i64 s] w fun e w' => e = .returned (.int .i64 0) ∧ w = w' := by
  go_enter Tryz.func47, Tryz.ntmps47
  go_wp2_with fail
  refine (slot32_nil s _).mono ?_
  rintro e w' ⟨rfl, rfl⟩
  go_wp2
  go_ret
  exact ⟨rfl, rfl⟩
theorem Set32_nil (t s v : Int) (w : World) : Calls Tryz.prog 48 #[.pointer none, .int .i64 t, .int .i64 s, .int .i64 v] w (VoidSame w) := by
  go_enter Tryz.func48, Tryz.ntmps48
  go_wp2_with fail
  refine (slot32_nil s _).mono ?_
  rintro e w' ⟨rfl, rfl⟩
  go_wp2
  refine bodyPost_ret (v := .tuple #[]) (by simp [results, Tryz.results48, go_sem]) rfl ?_
  exact ⟨rfl, rfl⟩
theorem look64_nil (t ak c kind : Int) (w : World) : Calls Tryz.prog 95 #[.pointer none, .int .i64 t, .int .i64 ak, .int .i64 c, .int .i64 kind] w fun e w' => e = .returned (.int .u64 0) ∧ w = w' := by
  go_enter Tryz.func95, Tryz.ntmps95
  go_wp2_with fail
  refine (has64_nil c kind _).mono ?_
  rintro e w' ⟨rfl, rfl⟩
  go_wp2
  go_ret
  exact ⟨rfl, rfl⟩
theorem put64_nil (t ak c kind z : Int) (w : World) : Calls Tryz.prog 96 #[.pointer none, .int .i64 t, .int .i64 ak, .int .i64 c, .int .i64 kind, .int .u64 z] w (VoidSame w) := by
  go_enter Tryz.func96, Tryz.ntmps96
  go_wp2_with fail
  refine (has64_nil c kind _).mono ?_
  rintro e w' ⟨rfl, rfl⟩
  go_wp2
  refine bodyPost_ret (v := .tuple #[]) (by simp [results, Tryz.results96, go_sem]) rfl ?_
  exact ⟨rfl, rfl⟩
theorem Load64_nil (t c : Int) (w : World) : Calls Tryz.prog 49 #[.pointer none, .int .i64 t, .int .i64 c] w fun e w' => e = .returned (.int .u64 0) ∧ w = w' := by
  go_enter Tryz.func49, Tryz.ntmps49
  go_wp2_with fail
  refine (look64_nil t 1 c 1 _).mono ?_
  rintro e w' ⟨rfl, rfl⟩
  go_wp2
  go_ret
  exact ⟨rfl, rfl⟩
theorem Read64_nil (t c : Int) (w : World) : Calls Tryz.prog 53 #[.pointer none, .int .i64 t, .int .i64 c] w fun e w' => e = .returned (.int .u64 0) ∧ w = w' := by
  go_enter Tryz.func53, Tryz.ntmps53
  go_wp2_with fail
  refine (look64_nil t 6 c 2 _).mono ?_
  rintro e w' ⟨rfl, rfl⟩
  go_wp2
  go_ret
  exact ⟨rfl, rfl⟩
theorem Store64_nil (t c z : Int) (w : World) : Calls Tryz.prog 50 #[.pointer none, .int .i64 t, .int .i64 c, .int .u64 z] w (VoidSame w) := by
  go_enter Tryz.func50, Tryz.ntmps50
  go_wp2_with fail
  refine (put64_nil t 2 c 1 z _).mono ?_
  rintro e w' ⟨rfl, rfl⟩
  go_wp2
  refine bodyPost_ret (v := .tuple #[]) (by simp [results, Tryz.results50, go_sem]) rfl ?_
  exact ⟨rfl, rfl⟩
theorem Write64_nil (t c z : Int) (w : World) : Calls Tryz.prog 54 #[.pointer none, .int .i64 t, .int .i64 c, .int .u64 z] w (VoidSame w) := by
  go_enter Tryz.func54, Tryz.ntmps54
  go_wp2_with fail
  refine (put64_nil t 7 c 2 z _).mono ?_
  rintro e w' ⟨rfl, rfl⟩
  go_wp2
  refine bodyPost_ret (v := .tuple #[]) (by simp [results, Tryz.results54, go_sem]) rfl ?_
  exact ⟨rfl, rfl⟩
theorem Add64_nil (t c n : Int) (w : World) : Calls Tryz.prog 51 #[.pointer none, .int .i64 t, .int .i64 c, .int .i64 n] w fun e w' => e = .returned (.int .u64 0) ∧ w = w' := by
  go_enter Tryz.func51, Tryz.ntmps51
  go_wp2_with fail
  refine (has64_nil c 1 _).mono ?_
  rintro e w' ⟨rfl, rfl⟩
  go_wp2
  go_ret
  exact ⟨rfl, rfl⟩
theorem Swap64_nil (t c o z : Int) (w : World) : Calls Tryz.prog 52 #[.pointer none, .int .i64 t, .int .i64 c, .int .u64 o, .int .u64 z] w fun e w' => e = .returned (.bool false) ∧ w = w' := by
  go_enter Tryz.func52, Tryz.ntmps52
  go_wp2_with fail
  refine (has64_nil c 1 _).mono ?_
  rintro e w' ⟨rfl, rfl⟩
  go_wp2
  go_ret
  exact ⟨rfl, rfl⟩
theorem Get64_nil (t s : Int) (w : World) : Calls Tryz.prog 55 #[.pointer none, .int .i64 t, .int .i64 s] w fun e w' => e = .returned (.int .i64 0) ∧ w = w' := by
  go_enter Tryz.func55, Tryz.ntmps55
  go_wp2_with fail
  refine (slot64_nil s _).mono ?_
  rintro e w' ⟨rfl, rfl⟩
  go_wp2
  go_ret
  exact ⟨rfl, rfl⟩
theorem Set64_nil (t s v : Int) (w : World) : Calls Tryz.prog 56 #[.pointer none, .int .i64 t, .int .i64 s, .int .i64 v] w (VoidSame w) := by
  go_enter Tryz.func56, Tryz.ntmps56
  go_wp2_with fail
  refine (slot64_nil s _).mono ?_
  rintro e w' ⟨rfl, rfl⟩
  go_wp2
  refine bodyPost_ret (v := .tuple #[]) (by simp [results, Tryz.results56, go_sem]) rfl ?_
  exact ⟨rfl, rfl⟩
set_option maxRecDepth 100000 in
theorem small_nil (d : DoR) (w : World) (hok : DoOk d) : Calls Tryz.prog 13 #[.pointer none, .agg #[.int .i64 d.t, .int .i64 d.k, .int .i64 d.c, .int .i64 d.n, .int .u64 d.o, .int .u64 d.z]] w fun e w' => e = .returned (.tuple #[.int .u64 0, .bool false]) ∧ Ext w w' := by
  obtain ⟨-, -, -, -, wo, wz⟩ := hok
  obtain ⟨o0, o1⟩ := wf_u64 wo
  obtain ⟨z0, z1⟩ := wf_u64 wz
  clear wo wz
  by_cases k1 : d.k = 1
  · rw [k1]
    clear k1
    go_enter Tryz.func13, Tryz.ntmps13
    go_wp2_with fail
    refine (Load32_nil d.t d.c _).mono ?_
    rintro e w' ⟨rfl, rfl⟩
    go_wp2
    go_ret2
    exact ⟨rfl, (Ext.refl w).alloc _⟩
  have e1 : (d.k == 1) = false := by simpa using k1
  by_cases k2 : d.k = 2
  · rw [k2]
    clear k2
    go_enter Tryz.func13, Tryz.ntmps13
    go_wp2_with fail
    refine (Store32_nil d.t d.c (d.z % 4294967296) _).mono ?_
    rintro e w' ⟨rfl, rfl⟩
    go_wp2
    go_ret2
    exact ⟨rfl, (Ext.refl w).alloc _⟩
  have e2 : (d.k == 2) = false := by simpa using k2
  by_cases k3 : d.k = 3
  · rw [k3]
    clear k3
    go_enter Tryz.func13, Tryz.ntmps13
    go_wp2_with fail
    refine (Add32_nil d.t d.c d.n _).mono ?_
    rintro e w' ⟨rfl, rfl⟩
    go_wp2
    go_ret2
    exact ⟨rfl, (Ext.refl w).alloc _⟩
  have e3 : (d.k == 3) = false := by simpa using k3
  by_cases k4 : d.k = 4
  · rw [k4]
    clear k4
    go_enter Tryz.func13, Tryz.ntmps13
    go_wp2_with fail
    refine (Swap32_nil d.t d.c (d.o % 4294967296) (d.z % 4294967296) _).mono ?_
    rintro e w' ⟨rfl, rfl⟩
    go_wp2
    go_ret2
    exact ⟨rfl, (Ext.refl w).alloc _⟩
  have e4 : (d.k == 4) = false := by simpa using k4
  by_cases k6 : d.k = 6
  · rw [k6]
    clear k6
    go_enter Tryz.func13, Tryz.ntmps13
    go_wp2_with fail
    refine (Read32_nil d.t d.c _).mono ?_
    rintro e w' ⟨rfl, rfl⟩
    go_wp2
    go_ret2
    exact ⟨rfl, (Ext.refl w).alloc _⟩
  have e6 : (d.k == 6) = false := by simpa using k6
  by_cases k7 : d.k = 7
  · rw [k7]
    clear k7
    go_enter Tryz.func13, Tryz.ntmps13
    go_wp2_with fail
    refine (Write32_nil d.t d.c (d.z % 4294967296) _).mono ?_
    rintro e w' ⟨rfl, rfl⟩
    go_wp2
    go_ret2
    exact ⟨rfl, (Ext.refl w).alloc _⟩
  have e7 : (d.k == 7) = false := by simpa using k7
  by_cases k8 : d.k = 8
  · rw [k8]
    clear k8
    go_enter Tryz.func13, Tryz.ntmps13
    go_wp2_with fail
    refine (Get32_nil d.t d.c _).mono ?_
    rintro e w' ⟨rfl, rfl⟩
    go_wp2
    go_ret2
    exact ⟨rfl, (Ext.refl w).alloc _⟩
  have e8 : (d.k == 8) = false := by simpa using k8
  by_cases k9 : d.k = 9
  · rw [k9]
    clear k9
    go_enter Tryz.func13, Tryz.ntmps13
    go_wp2_with fail
    refine (Set32_nil d.t d.c d.n _).mono ?_
    rintro e w' ⟨rfl, rfl⟩
    go_wp2
    go_ret2
    exact ⟨rfl, (Ext.refl w).alloc _⟩
  have e9 : (d.k == 9) = false := by simpa using k9
  clear k1 k2 k3 k4 k6 k7 k8 k9
  go_enter Tryz.func13, Tryz.ntmps13
  go_wp2
  go_ret2
  exact ⟨rfl, (Ext.refl w).alloc _⟩
set_option maxRecDepth 100000 in
theorem great_nil (d : DoR) (w : World) (hok : DoOk d) : Calls Tryz.prog 14 #[.pointer none, .agg #[.int .i64 d.t, .int .i64 d.k, .int .i64 d.c, .int .i64 d.n, .int .u64 d.o, .int .u64 d.z]] w fun e w' => e = .returned (.tuple #[.int .u64 0, .bool false]) ∧ Ext w w' := by
  obtain ⟨-, -, -, -, wo, wz⟩ := hok
  obtain ⟨o0, o1⟩ := wf_u64 wo
  obtain ⟨z0, z1⟩ := wf_u64 wz
  clear wo wz
  by_cases k1 : d.k = 1
  · rw [k1]
    clear k1
    go_enter Tryz.func14, Tryz.ntmps14
    go_wp2_with fail
    refine (Load64_nil d.t d.c _).mono ?_
    rintro e w' ⟨rfl, rfl⟩
    go_wp2
    go_ret2
    exact ⟨rfl, (Ext.refl w).alloc _⟩
  have e1 : (d.k == 1) = false := by simpa using k1
  by_cases k2 : d.k = 2
  · rw [k2]
    clear k2
    go_enter Tryz.func14, Tryz.ntmps14
    go_wp2_with fail
    refine (Store64_nil d.t d.c d.z _).mono ?_
    rintro e w' ⟨rfl, rfl⟩
    go_wp2
    go_ret2
    exact ⟨rfl, (Ext.refl w).alloc _⟩
  have e2 : (d.k == 2) = false := by simpa using k2
  by_cases k3 : d.k = 3
  · rw [k3]
    clear k3
    go_enter Tryz.func14, Tryz.ntmps14
    go_wp2_with fail
    refine (Add64_nil d.t d.c d.n _).mono ?_
    rintro e w' ⟨rfl, rfl⟩
    go_wp2
    go_ret2
    exact ⟨rfl, (Ext.refl w).alloc _⟩
  have e3 : (d.k == 3) = false := by simpa using k3
  by_cases k4 : d.k = 4
  · rw [k4]
    clear k4
    go_enter Tryz.func14, Tryz.ntmps14
    go_wp2_with fail
    refine (Swap64_nil d.t d.c d.o d.z _).mono ?_
    rintro e w' ⟨rfl, rfl⟩
    go_wp2
    go_ret2
    exact ⟨rfl, (Ext.refl w).alloc _⟩
  have e4 : (d.k == 4) = false := by simpa using k4
  by_cases k6 : d.k = 6
  · rw [k6]
    clear k6
    go_enter Tryz.func14, Tryz.ntmps14
    go_wp2_with fail
    refine (Read64_nil d.t d.c _).mono ?_
    rintro e w' ⟨rfl, rfl⟩
    go_wp2
    go_ret2
    exact ⟨rfl, (Ext.refl w).alloc _⟩
  have e6 : (d.k == 6) = false := by simpa using k6
  by_cases k7 : d.k = 7
  · rw [k7]
    clear k7
    go_enter Tryz.func14, Tryz.ntmps14
    go_wp2_with fail
    refine (Write64_nil d.t d.c d.z _).mono ?_
    rintro e w' ⟨rfl, rfl⟩
    go_wp2
    go_ret2
    exact ⟨rfl, (Ext.refl w).alloc _⟩
  have e7 : (d.k == 7) = false := by simpa using k7
  by_cases k8 : d.k = 8
  · rw [k8]
    clear k8
    go_enter Tryz.func14, Tryz.ntmps14
    go_wp2_with fail
    refine (Get64_nil d.t d.c _).mono ?_
    rintro e w' ⟨rfl, rfl⟩
    go_wp2
    go_ret2
    exact ⟨rfl, (Ext.refl w).alloc _⟩
  have e8 : (d.k == 8) = false := by simpa using k8
  by_cases k9 : d.k = 9
  · rw [k9]
    clear k9
    go_enter Tryz.func14, Tryz.ntmps14
    go_wp2_with fail
    refine (Set64_nil d.t d.c d.n _).mono ?_
    rintro e w' ⟨rfl, rfl⟩
    go_wp2
    go_ret2
    exact ⟨rfl, (Ext.refl w).alloc _⟩
  have e9 : (d.k == 9) = false := by simpa using k9
  clear k1 k2 k3 k4 k6 k7 k8 k9
  go_enter Tryz.func14, Tryz.ntmps14
  go_wp2
  go_ret2
  exact ⟨rfl, (Ext.refl w).alloc _⟩
theorem lists_nil (w : World) : ListsV w (.slice none 0 0) [] := ⟨none, 0, rfl, fun j hj => by simp at hj⟩
theorem ckZ : ckC 0 0 0 0 [] = 2 := by decide
set_option maxRecDepth 100000 in
theorem New32_zero (w : World) : Calls Tryz.prog 10 #[(.agg #[.int .i64 0, .int .i64 0, .int .i64 0, .int .i64 0, .int .u64 0, .slice none 0 0, .int .i64 0, .int .i64 0, .int .i64 0, .int .i64 0, .int .i64 0, .int .i64 0, .int .i64 0, .int .i64 0])] w fun e w' => e = .returned (.pointer none) ∧ Ext w w' := by
  have c1 := fun w => lOf_no 0 0 0 0 0 _ [] w (lists_nil w) (by simp) (by simp) (by rw [ckZ]; decide)
  rw [ckZ] at c1
  have C1 := Lib.hid c1
  clear c1
  go_enter Tryz.func10, Tryz.ntmps10
  go_wp2_with fail
  refine (C1.out _).mono ?_
  rintro e w1 ⟨rfl, hb1⟩
  obtain ⟨hc1, hf1⟩ := hb1.cells
  go_upto_region 2 with (fail)
  clear hc1 hf1
  refine settle_wp ?_
  intro w2 hb2
  refine wp_region_later (by kernel_rfl) (by kernel_rfl) ?_
  repeat (go_big_quiet_step ((fail)))
  refine wpQuiet_nil ?_
  intro w3 hl3
  have hb3 := laters_ext hl3
  clear hl3
  go_wp2
  go_ret
  refine ⟨rfl, ?_⟩
  repeat (first | with_reducible exact Ext.refl _ | with_reducible assumption | with_reducible refine Ext.alloc ?_ _ | with_reducible refine Ext.drew ?_ | with_reducible refine Ext.drewN ?_ _ | with_reducible refine Ext.setCell ?_ (by simp <;> omega) _ | with_reducible refine Ext.trans ?_ (by assumption))
theorem Len32_nil (w : World) : Calls Tryz.prog 20 #[.pointer none] w fun e w' => e = .returned (.int .i64 0) ∧ w = w' := by
  go_enter Tryz.func20, Tryz.ntmps20
  go_wp2
  go_ret
  exact ⟨rfl, rfl⟩
theorem Log64_nil (w : World) : Calls Tryz.prog 23 #[.pointer none] w fun e w' => e = .returned (.slice none 0 0) ∧ w = w' := by
  go_enter Tryz.func23, Tryz.ntmps23
  go_wp2
  go_ret
  exact ⟨rfl, rfl⟩
theorem Peek32_nil (c : Int) (w : World) : Calls Tryz.prog 16 #[.pointer none, .int .i64 c] w fun e w' => e = .returned (.int .u64 0) ∧ w = w' := by
  go_enter Tryz.func16, Tryz.ntmps16
  go_wp2
  go_ret
  exact ⟨rfl, rfl⟩
theorem Data64_nil (c : Int) (w : World) : Calls Tryz.prog 30 #[.pointer none, .int .i64 c] w fun e w' => e = .returned (.int .i64 0) ∧ w = w' := by
  go_enter Tryz.func30, Tryz.ntmps30
  go_wp2_with fail
  refine (slot64_nil c _).mono ?_
  rintro e w' ⟨rfl, rfl⟩
  go_wp2
  go_ret
  exact ⟨rfl, rfl⟩
theorem Cost32_nil (t : Int) (w : World) : Calls Tryz.prog 31 #[.pointer none, .int .i64 t] w fun e w' => e = .returned (.complex .f64 0 0) ∧ w = w' := by
  go_enter Tryz.func31, Tryz.ntmps31
  go_wp2
  go_ret
  exact ⟨rfl, rfl⟩
set_option maxRecDepth 100000 in
theorem Layout64_nil (w : World) : Calls Tryz.prog 25 #[.pointer none] w fun e w' => e = .returned (.agg #[.int .i64 0, .int .i64 0, .int .i64 0, .int .i64 0, .int .u64 0, .slice none 0 0, .int .i64 0, .int .i64 0, .int .i64 0, .int .i64 0, .int .i64 0, .int .i64 0, .int .i64 0, .int .i64 0]) ∧ Ext w w' := by
  go_enter Tryz.func25, Tryz.ntmps25
  go_wp2
  refine bodyPost_ret (v := (.agg #[.int .i64 0, .int .i64 0, .int .i64 0, .int .i64 0, .int .u64 0, .slice none 0 0, .int .i64 0, .int .i64 0, .int .i64 0, .int .i64 0, .int .i64 0, .int .i64 0, .int .i64 0, .int .i64 0])) (by simp [results, Tryz.results25, go_sem]) rfl ⟨rfl, ?_⟩
  repeat (first | with_reducible exact Ext.refl _ | with_reducible assumption | with_reducible refine Ext.alloc ?_ _ | with_reducible refine Ext.drew ?_ | with_reducible refine Ext.drewN ?_ _ | with_reducible refine Ext.setCell ?_ (by simp <;> omega) _ | with_reducible refine Ext.trans ?_ (by assumption))
set_option maxRecDepth 100000 in
theorem boardNone_walk (d : DoR) (w : World) (hok : DoOk d) (E : Parts w) : Calls Tryz.prog 5 #[.agg #[.int .i64 d.t, .int .i64 d.k, .int .i64 d.c, .int .i64 d.n, .int .u64 d.o, .int .u64 d.z]] w fun e w' => e = .returned (.bool true) ∧ Below w.heap.size w w' := by
  have C1 := Lib.hid (fun w => small_nil d w hok)
  have C2 := Lib.hid (fun w => great_nil d w hok)
  have C3 := Lib.hid (fun w' (hx : Ext w w') => live12 w' (E.ext hx))
  have hfld : ∀ w : World, (Instr.field 31 (.agg #[.int .i64 0, .int .i64 0, .int .i64 0, .int .i64 0, .int .u64 0, .slice none 0 0, .int .i64 0, .int .i64 0, .int .i64 0, .int .i64 0, .int .i64 0, .int .i64 0, .int .i64 0, .int .i64 0]) 8).run Tryz.prog w = .ok (.int .i64 0) w := fun w => by kernel_rfl
  clear E hok
  go_enter Tryz.func5, Tryz.ntmps5
  go_wp2_with fail
  refine (C1.out _).mono ?_
  rintro e w1 ⟨rfl, hb1⟩
  obtain ⟨hc1, hf1⟩ := hb1.cells
  clear hc1 hf1
  have qc_0 : w1.cell? ⟨w.heap.size, 0, none⟩ = some (.int .i64 d.t) := (hb1.cells.1 _ _ (by simp <;> omega)).trans (by simp [go_sem])
  have qc_1 : w1.cell? ⟨w.heap.size, 1, none⟩ = some (.int .i64 d.k) := (hb1.cells.1 _ _ (by simp <;> omega)).trans (by simp [go_sem])
  have qc_2 : w1.cell? ⟨w.heap.size, 2, none⟩ = some (.int .i64 d.c) := (hb1.cells.1 _ _ (by simp <;> omega)).trans (by simp [go_sem])
  have qc_3 : w1.cell? ⟨w.heap.size, 3, none⟩ = some (.int .i64 d.n) := (hb1.cells.1 _ _ (by simp <;> omega)).trans (by simp [go_sem])
  have qc_4 : w1.cell? ⟨w.heap.size, 4, none⟩ = some (.int .u64 d.o) := (hb1.cells.1 _ _ (by simp <;> omega)).trans (by simp [go_sem])
  have qc_5 : w1.cell? ⟨w.heap.size, 5, none⟩ = some (.int .u64 d.z) := (hb1.cells.1 _ _ (by simp <;> omega)).trans (by simp [go_sem])
  have pc := World.block_lt_of_cell? _ ⟨w.heap.size, 0, none⟩ qc_0
  have rc := Nat.lt_succ_of_lt pc
  go_wp2_with fail
  refine (C2.out _).mono ?_
  rintro e w2 ⟨rfl, hb2⟩
  have hx2 : Ext w1 w2 := by repeat (first | with_reducible exact Ext.refl _ | with_reducible assumption | with_reducible refine Ext.alloc ?_ _ | with_reducible refine Ext.drew ?_ | with_reducible refine Ext.drewN ?_ _ | with_reducible refine Ext.setCell ?_ (by simp <;> omega) _ | with_reducible refine Ext.trans ?_ (by assumption))
  replace qc_0 := hx2.cell qc_0
  replace qc_1 := hx2.cell qc_1
  replace qc_2 := hx2.cell qc_2
  replace qc_3 := hx2.cell qc_3
  replace qc_4 := hx2.cell qc_4
  replace qc_5 := hx2.cell qc_5
  replace pc := Nat.lt_of_lt_of_le pc hx2.size
  replace rc := Nat.lt_succ_of_lt pc
  clear hx2
  go_wp2_with fail
  refine (New32_zero _).mono ?_
  rintro e w3 ⟨rfl, hb3⟩
  have hx3 : Ext w2 w3 := by repeat (first | with_reducible exact Ext.refl _ | with_reducible assumption | with_reducible refine Ext.alloc ?_ _ | with_reducible refine Ext.drew ?_ | with_reducible refine Ext.drewN ?_ _ | with_reducible refine Ext.setCell ?_ (by simp <;> omega) _ | with_reducible refine Ext.trans ?_ (by assumption))
  replace qc_0 := hx3.cell qc_0
  replace qc_1 := hx3.cell qc_1
  replace qc_2 := hx3.cell qc_2
  replace qc_3 := hx3.cell qc_3
  replace qc_4 := hx3.cell qc_4
  replace qc_5 := hx3.cell qc_5
  replace pc := Nat.lt_of_lt_of_le pc hx3.size
  replace rc := Nat.lt_succ_of_lt pc
  clear hx3
  go_wp2_with fail
  refine (Len32_nil _).mono ?_
  rintro e w' ⟨rfl, rfl⟩
  go_wp2_with fail
  refine (Log64_nil _).mono ?_
  rintro e w' ⟨rfl, rfl⟩
  go_wp2_with fail
  refine (Peek32_nil d.c _).mono ?_
  rintro e w' ⟨rfl, rfl⟩
  go_wp2_with fail
  refine (Data64_nil d.c _).mono ?_
  rintro e w' ⟨rfl, rfl⟩
  go_wp2_with fail
  refine (Cost32_nil 0 _).mono ?_
  rintro e w' ⟨rfl, rfl⟩
  go_wp2_with fail
  refine (Layout64_nil _).mono ?_
  rintro e w4 ⟨rfl, hb4⟩
  have hx4 : Ext w3 w4 := by repeat (first | with_reducible exact Ext.refl _ | with_reducible assumption | with_reducible refine Ext.alloc ?_ _ | with_reducible refine Ext.drew ?_ | with_reducible refine Ext.drewN ?_ _ | with_reducible refine Ext.setCell ?_ (by simp <;> omega) _ | with_reducible refine Ext.trans ?_ (by assumption))
  replace qc_0 := hx4.cell qc_0
  replace qc_1 := hx4.cell qc_1
  replace qc_2 := hx4.cell qc_2
  replace qc_3 := hx4.cell qc_3
  replace qc_4 := hx4.cell qc_4
  replace qc_5 := hx4.cell qc_5
  replace pc := Nat.lt_of_lt_of_le pc hx4.size
  replace rc := Nat.lt_succ_of_lt pc
  clear hx4
  go_wp2_with fail
  refine (C3.out _ (by repeat (first | with_reducible exact Ext.refl _ | with_reducible assumption | with_reducible refine Ext.alloc ?_ _ | with_reducible refine Ext.drew ?_ | with_reducible refine Ext.drewN ?_ _ | with_reducible refine Ext.setCell ?_ (by simp <;> omega) _ | with_reducible refine Ext.trans ?_ (by assumption)))).mono ?_
  rintro e w5 ⟨rfl, hb5⟩
  have hx5 : Ext w4 w5 := by repeat (first | with_reducible exact Ext.refl _ | with_reducible assumption | with_reducible refine Ext.alloc ?_ _ | with_reducible refine Ext.drew ?_ | with_reducible refine Ext.drewN ?_ _ | with_reducible refine Ext.setCell ?_ (by simp <;> omega) _ | with_reducible refine Ext.trans ?_ (by assumption))
  replace qc_0 := hx5.cell qc_0
  replace qc_1 := hx5.cell qc_1
  replace qc_2 := hx5.cell qc_2
  replace qc_3 := hx5.cell qc_3
  replace qc_4 := hx5.cell qc_4
  replace qc_5 := hx5.cell qc_5
  replace pc := Nat.lt_of_lt_of_le pc hx5.size
  replace rc := Nat.lt_succ_of_lt pc
  clear hx5
  go_wp2
  go_ret
  refine ⟨rfl, Ext.below ?_⟩
  repeat (first | with_reducible exact Ext.refl _ | with_reducible assumption | with_reducible refine Ext.alloc ?_ _ | with_reducible refine Ext.drew ?_ | with_reducible refine Ext.drewN ?_ _ | with_reducible refine Ext.setCell ?_ (by simp <;> omega) _ | with_reducible refine Ext.trans ?_ (by assumption))
end Go.Proofs.YtaimmpcijdpgdabGreatDoor
