/- The walks of GroupParts and GroupWalks. -/
import Derived.Test.YthdokmhbdjajaabDoorGrp3
import Derived.Test.YthdokmhbdjajaabDoorWMath
namespace Go.Proofs.YthdokmhbdjajaabDoor
open Go.RowKit
set_option linter.unusedVariables false
set_option maxHeartbeats 2000000
theorem parts (x y : Nat) (w : World) (hx : x < 18446744073709551616) (hy : y < 18446744073709551616) (hT : Tab w) :
    Calls Tryd.prog 5 #[.int .u64 x, .int .u64 y] w fun e w' => e = .returned (.bool true) ∧ Ext w w' := by
  have HT := Lib.hid hT
  clear hT
  have hb := and_lt (y := y) hx
  have hl := less_lt (y := y) hx
  have ho := or_lt hx hy
  have c1 := fun w => gBoth (x &&& y) (lessN x y) w hb hl
  rw [and_less x y hx hy] at c1
  have c2 := fun w => gEither (x &&& y) (lessN x y) w hb hl
  rw [or_less x y hx hy] at c2
  have c3 := fun w => gLen (x ||| y) w ho
  rw [len_or x y hy] at c3
  have c4 := fun w => gLen (lessN x y) w hl
  have c5 := fun w => gLen y w hy
  have c6 := fun w => gInside (x &&& y) y w hb hy
  rw [less_and x y hx hy] at c6
  have c7 := fun w => gInside x (x ||| y) w hx ho
  rw [less_or x y hx hy] at c7
  have c8 := fun w => gLen (x &&& y) w hb
  have c9 := fun w => gLen x w hx
  rw [len_and x y hy] at c9
  have l1 := bits_len (lessN x y)
  have l2 := bits_len y
  have l3 := bits_len (x &&& y)
  generalize (bitsOf (lessN x y)).length = n1 at *
  generalize (bitsOf y).length = n2 at *
  generalize (bitsOf (x &&& y)).length = n3 at *
  have C1 := Lib.hid c1
  have C2 := Lib.hid c2
  have C3 := Lib.hid c3
  have C4 := Lib.hid c4
  have C5 := Lib.hid c5
  have C6 := Lib.hid c6
  have C7 := Lib.hid c7
  have C8 := Lib.hid c8
  have C9 := Lib.hid c9
  have CI := Lib.hid fun w => gInside x y w hx hy
  have CB := Lib.hid fun w => gBoth x y w hx hy
  have CL := Lib.hid fun w => gLess x y w hx hy
  have CE := Lib.hid fun w => gEither x y w hx hy
  clear c1 c2 c3 c4 c5 c6 c7 c8 c9
  generalize lessN x y = u at *
  generalize x &&& y = v at *
  generalize x ||| y = o at *
  have t1 : (((n1 + n2 : Nat) : Int) != ((n1 : Int) + (n2 : Int))) = false := by simp
  have t2 : ((((n3 : Int) + (n1 : Int))) == ((n3 + n1 : Nat) : Int)) = true := by simp
  go_enter Tryd.func5, Tryd.ntmps5
  go_wp2_with fail
  refine (CB.out _).mono ?_
  rintro e w' ⟨rfl, rfl⟩
  go_wp2_with fail
  refine (CL.out _).mono ?_
  rintro e w' ⟨rfl, rfl⟩
  go_wp2_with fail
  refine (C1.out _).mono ?_
  rintro e w' ⟨rfl, rfl⟩
  go_wp2_with fail
  refine (C2.out _).mono ?_
  rintro e w' ⟨rfl, rfl⟩
  go_wp2_with fail
  refine (CE.out _).mono ?_
  rintro e w' ⟨rfl, rfl⟩
  go_wp2_with fail
  refine (C3.out _).mono ?_
  rintro e w' ⟨rfl, rfl⟩
  go_wp2_with fail
  refine (C4.out _).mono ?_
  rintro e w' ⟨rfl, rfl⟩
  go_wp2_with fail
  refine (C5.out _).mono ?_
  rintro e w' ⟨rfl, rfl⟩
  go_wp2_with fail
  refine (CI.out _).mono ?_
  rintro e w' ⟨rfl, rfl⟩
  go_wp2_with fail
  refine (C6.out _).mono ?_
  rintro e w' ⟨rfl, rfl⟩
  go_wp2_with fail
  refine (CE.out _).mono ?_
  rintro e w' ⟨rfl, rfl⟩
  go_wp2_with fail
  refine (C7.out _).mono ?_
  rintro e w' ⟨rfl, rfl⟩
  go_wp2_with fail
  refine (C8.out _).mono ?_
  rintro e w' ⟨rfl, rfl⟩
  go_wp2_with fail
  refine (C4.out _).mono ?_
  rintro e w' ⟨rfl, rfl⟩
  go_wp2_with fail
  refine (C9.out _).mono ?_
  rintro e w' ⟨rfl, rfl⟩
  go_wp2_with fail
  refine (live05 _ HT.out).mono ?_
  rintro e w1 ⟨rfl, X1⟩
  go_wp2
  go_ret
  exact ⟨rfl, X1⟩
theorem groupParts_walk (x y : Int) (w : World) (w0 : (Lit.int .u64 x).wf = true) (w1 : (Lit.int .u64 y).wf = true) (hT : Tab w) :
    Calls Tryd.prog 5 #[.int .u64 x, .int .u64 y] w fun e w' => e = .returned (.bool true) ∧ Below w.heap.size w w' := by
  have h0 := wf_u64 w0
  have h1 := wf_u64 w1
  obtain ⟨a, rfl⟩ := Int.eq_ofNat_of_zero_le h0.1
  obtain ⟨b, rfl⟩ := Int.eq_ofNat_of_zero_le h1.1
  exact (parts a b w (by omega) (by omega) hT).mono fun e w' ⟨h, hx⟩ => ⟨h, hx.below⟩
end Go.Proofs.YthdokmhbdjajaabDoor
