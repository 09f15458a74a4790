/- The law's live. -/
import Derived.Test.YtoaifbengichbabGd3
namespace Go.Proofs.Ytoaifbengichbab
open Go.RowKit
set_option linter.unusedVariables false
set_option linter.unusedSimpArgs false
set_option maxHeartbeats 2000000
attribute [local go_sem] later_cell later_frozen later_const
theorem live14 (w : World) : Calls Try.prog 12 #[] w fun e w' => e = .returned (.bool true) ∧ Ext w w' := by
  have C1 := Lib.hid (fun b (w : World) h => saw32 b ⟨4, true, 0, 0, 7, 7⟩ 10 w h)
  rw [show sawS32 ⟨4, true, 0, 0, 7, 7⟩ 10 = ⟨⟨4, true, 0, 0, 7, 10⟩, true⟩ by unfold sawS32; rw [if_neg (by decide)]] at C1
  have C2 := Lib.hid (fun b (w : World) h => may32_ok b ⟨4, true, 0, 0, 7, 10⟩ 4 4 none 0 0 w (by omega) h)
  rw [show may32 ⟨4, true, 0, 0, 7, 10⟩ 4 4 ((0 : Nat) : Int) = 13 by decide] at C2
  have C3 := Lib.hid (fun b (w : World) h => may32_ok b ⟨4, true, 0, 0, 7, 10⟩ 4 3 none 0 0 w (by omega) h)
  rw [show may32 ⟨4, true, 0, 0, 7, 10⟩ 4 3 ((0 : Nat) : Int) = 0 by decide] at C3
  have C4 := Lib.hid (fun b (w : World) h => released32 b ⟨4, true, 0, 0, 7, 10⟩ 3 w h)
  rw [show releasedS32 ⟨4, true, 0, 0, 7, 10⟩ 3 = ⟨⟨4, true, 0, 0, 10, 10⟩, true⟩ by unfold releasedS32; rw [if_neg (by decide)]; rfl] at C4
  have C5 := Lib.hid (fun b (w : World) h => gate32 b ⟨4, true, 0, 0, 10, 10⟩ w h)
  have C6 := Lib.hid (fun b (w : World) h => ready32 b ⟨4, true, 0, 0, 10, 10⟩ w h)
  rw [show D32 ((⟨4, true, 0, 0, 10, 10⟩ : HS).U - (⟨4, true, 0, 0, 10, 10⟩ : HS).G) = 0 by decide] at C6
  go_enter Try.func12, Try.ntmps12
  go_wp2_with fail
  refine (consumer32_yes 4 7 _ (by decide)).mono ?_
  rintro e w1 ⟨b, rfl, H1, hb, X1⟩
  have HB := Lib.hid hb
  clear hb
  have K1 := Lib.hid H1
  clear H1
  go_wp2_with fail
  refine (C1.out b _ K1.out).mono ?_
  rintro e w2 ⟨rfl, H2, T2⟩
  have X2 := But.ext X1 T2 (fun i hi => by rw [hi]; exact HB.out)
  have K2 := Lib.hid H2
  clear H2 T2 X1 K1
  go_wp2_with fail
  refine (C2.out b _ K2.out).mono ?_
  rintro e w3 ⟨rfl, X3⟩
  have K3 := Lib.hid (K2.out.ext X3)
  replace X3 := X2.trans X3
  clear X2 K2
  go_wp2_with fail
  refine (C3.out b _ K3.out).mono ?_
  rintro e w4 ⟨rfl, X4⟩
  have K4 := Lib.hid (K3.out.ext X4)
  replace X4 := X3.trans X4
  clear X3 K3
  go_wp2_with fail
  refine (C4.out b _ K4.out).mono ?_
  rintro e w5 ⟨rfl, H5, T5⟩
  have X5 := But.ext X4 T5 (fun i hi => by rw [hi]; exact HB.out)
  have K5 := Lib.hid H5
  clear H5 T5 X4 K4
  go_wp2_with fail
  refine (C5.out b _ K5.out).mono ?_
  rintro e w' ⟨rfl, rfl⟩
  go_wp2_with fail
  refine (C6.out b _ K5.out).mono ?_
  rintro e w' ⟨rfl, rfl⟩
  go_wp2
  go_ret
  exact ⟨rfl, X5⟩
end Go.Proofs.Ytoaifbengichbab
