/- WordsNumbers. -/
import Derived.Test.YthdokmhbdjajaacDoorWLive
import Derived.Test.YthdokmhbdjajaacDoorWMath
namespace Go.Proofs.YthdokmhbdjajaacDoor
open Go.RowKit
set_option linter.unusedVariables false
set_option maxHeartbeats 2000000
attribute [local go_sem] later_cell later_frozen later_const
set_option maxRecDepth 100000 in
theorem numbers_long (n : Int) (x : Nat) (a : Option Addr) (len cap : Nat) (w : World) (hl : 300 < len) (E : Env w) :
    Calls Tryd.prog 4 #[.int .i64 n, .int .u64 x, .slice a len cap] w fun e w' => e = .returned (.bool true) ∧ Ext w w' := by
  have hd : decide ((300 : Int) < (len : Int)) = true := by simp; omega
  have hd2 : decide (300 < len) = true := by simp; omega
  go_enter Tryd.func4, Tryd.ntmps4
  go_wp2_with fail
  refine (live06 _ E).mono ?_
  rintro e w1 ⟨rfl, X1⟩
  go_wp2
  go_ret
  exact ⟨rfl, X1⟩
set_option maxRecDepth 100000 in
theorem numbers_short (n : Int) (x : Nat) (a : Option Addr) (len cap : Nat) (xs : List Int) (w : World) (hl : len ≤ 300) (h0 : -9223372036854775808 ≤ n) (h1 : n ≤ 9223372036854775807) (hx : x < 18446744073709551616)
    (h : IntsV w (.slice a len cap) xs) (hlen : xs.length = len) (hf : Fit xs) (E : Env w) :
    Calls Tryd.prog 4 #[.int .i64 n, .int .u64 x, .slice a len cap] w fun e w' => e = .returned (.bool true) ∧ Ext w w' := by
  have hd : decide ((300 : Int) < (len : Int)) = false := by simp; omega
  have hd2 : decide (300 < len) = false := by simp; omega
  have c1 := Lib.hid (fun w (E : Env w) => cShow n w h0 h1 E)
  have c2 := Lib.hid (fun w => rNum6 n w h0 h1)
  have c3 := Lib.hid (fun w (E : Env w) => cShowBig x w hx E)
  have c4 := Lib.hid (fun w => rBig x w hx)
  have c5 : Hid (∀ w', Ext w w' → Calls Tryd.prog 18 #[.slice a len cap] w' fun e w'' => e = .returned (.string (tx (listW xs))) ∧ Ext w' w'') := Lib.hid (fun w' X => cShowList _ xs w' (h.ext X) (by omega) hf (E.later X))
  have c6 : Hid (∀ w', Ext w w' → Calls Tryd.prog 19 #[.slice a len cap] w' fun e w'' => e = .returned (.string (tx (listW xs))) ∧ Ext w' w'') := Lib.hid (fun w' X => rList _ xs w' (h.ext X) (by omega) hf)
  generalize tx (Lib.itoa n) = s1 at *
  generalize tx (Lib.decDigits x) = s2 at *
  generalize tx (listW xs) = s3 at *
  clear h hlen hf
  go_enter Tryd.func4, Tryd.ntmps4
  go_wp2_with fail
  refine (c1.out _ E).mono ?_
  rintro e w1 ⟨rfl, X1⟩
  go_wp2_with fail
  refine (c2.out _).mono ?_
  rintro e w2 ⟨rfl, X2⟩
  have Y2 := X1.trans X2
  clear X1 X2
  go_wp2_with fail
  refine (c3.out _ (E.later Y2)).mono ?_
  rintro e w3 ⟨rfl, X3⟩
  have Y3 := Y2.trans X3
  clear Y2 X3
  go_wp2_with fail
  refine (c4.out _).mono ?_
  rintro e w4 ⟨rfl, X4⟩
  have Y4 := Y3.trans X4
  clear Y3 X4
  go_wp2_with fail
  refine (c5.out _ Y4).mono ?_
  rintro e w5 ⟨rfl, X5⟩
  have Y5 := Y4.trans X5
  clear Y4 X5
  go_wp2_with fail
  refine (c6.out _ Y5).mono ?_
  rintro e w6 ⟨rfl, X6⟩
  have Y6 := Y5.trans X6
  clear Y5 X6
  go_wp2_with fail
  refine (live06 _ (E.later Y6)).mono ?_
  rintro e w7 ⟨rfl, X7⟩
  have Y7 := Y6.trans X7
  clear Y6 X7
  go_wp2
  go_ret
  exact ⟨rfl, Y7⟩
theorem wordsNumbers_walk (n x : Int) (a : Option Addr) (len cap : Nat) (zs : List Int) (w : World) (w0 : (Lit.int .i64 n).wf = true) (w1 : (Lit.int .u64 x).wf = true) (h : IsRow .i64 w a len cap zs) (E : Env w) :
    Calls Tryd.prog 4 #[.int .i64 n, .int .u64 x, .slice a len cap] w fun e w' => e = .returned (.bool true) ∧ Below w.heap.size w w' := by
  have hn := wf_i64 w0
  have hx := wf_u64 w1
  obtain ⟨u, rfl⟩ : ∃ u : Nat, x = (u : Int) := ⟨x.toNat, by omega⟩
  rcases Nat.lt_or_ge 300 len with hl | hl
  · exact numbers_long n u a len cap w hl E
  · obtain ⟨h1, h2, h3⟩ := intsV_of_row h
    exact numbers_short n u a len cap (zs.take len) w hl (by omega) (by omega) (by omega) h1 h2 (fun z hz => by have := wf_i64 (h3 z hz); omega) E
end Go.Proofs.YthdokmhbdjajaacDoor
