/- WordsBack (written by mkback.py). -/
import Derived.Test.YthdokmhbdjajaacDoorSplitW
import Derived.Test.YthdokmhbdjajaacDoorBack6
import Derived.Test.YthdokmhbdjajaacDoorWMath
namespace Go.Proofs.YthdokmhbdjajaacDoor
open Go.RowKit
set_option linter.unusedVariables false
set_option maxHeartbeats 4000000
set_option maxRecDepth 100000 in
theorem back_long1 (a : Option Addr) (len cap : Nat) (x : Int) (s : ByteArray) (w : World) (hl : 300 < len) (E : Env w) : Calls Tryd.prog 6 #[.slice a len cap, .int .u64 x, .string s] w fun e w' => e = .returned (.bool true) ∧ Ext w w' := by
  have hd : decide ((300 : Int) < (len : Int)) = true := by simp; omega
  have hd2 : decide (300 < len) = true := by simp; omega
  go_enter Tryd.func6, Tryd.ntmps6
  go_wp2_with fail
  refine (live06 _ E).mono ?_
  rintro e w1 ⟨rfl, X1⟩
  go_wp2
  go_ret
  exact ⟨rfl, X1⟩
set_option maxRecDepth 100000 in
theorem back_long2 (a : Option Addr) (len cap : Nat) (x : Int) (s : ByteArray) (w : World) (hl : len ≤ 300) (hs : 5000 < s.size) (E : Env w) : Calls Tryd.prog 6 #[.slice a len cap, .int .u64 x, .string s] w fun e w' => e = .returned (.bool true) ∧ Ext w w' := by
  have hd : decide ((300 : Int) < (len : Int)) = false := by simp; omega
  have hd2 : decide (300 < len) = false := by simp; omega
  have hd3 : decide ((5000 : Int) < (s.size : Int)) = true := by simp; omega
  go_enter Tryd.func6, Tryd.ntmps6
  go_wp2_with fail
  refine (live06 _ E).mono ?_
  rintro e w1 ⟨rfl, X1⟩
  go_wp2
  go_ret
  exact ⟨rfl, X1⟩
set_option maxRecDepth 100000 in
theorem back_TT (b0 off n cap : Nat) (z : Int) (hn : 0 < n) (hn3 : n ≤ 300) (x : Int) (s t1 t2 t3 : ByteArray) (xs : List Int) (ls : List (List UInt8)) (w : World) (hs : s.size ≤ 5000) (E : Env w)
    (hz : w.cell? ⟨b0, off, none⟩ = some (.int .i64 z))
    (C1 : ∀ w', Ext w w' → Calls Tryd.prog 18 #[.slice (some ⟨b0, off, none⟩) n cap] w' fun e w'' => e = .returned (.string t1) ∧ Ext w' w'')
    (C2 : ∀ w', Env w' → Calls Tryd.prog 22 #[.string t1] w' fun e w'' => (∃ v, e = .returned (.tuple #[v, .bool true]) ∧ IntsV w'' v xs) ∧ Ext w' w'')
    (C3 : ∀ w', Env w' → Calls Tryd.prog 16 #[.int .u64 x] w' fun e w'' => e = .returned (.string t2) ∧ Ext w' w'')
    (C4 : ∀ w', Env w' → Calls Tryd.prog 21 #[.string t2] w' fun e w'' => e = .returned (.tuple #[.int .u64 x, .bool true]) ∧ Ext w' w'')
    (C5 : ∀ v w', Ext w w' → IntsV w' v xs → Calls Tryd.prog 23 #[v, .slice (some ⟨b0, off, none⟩) n cap] w' fun e w'' => e = .returned (.bool true) ∧ Ext w' w'')
    (C6 : ∀ w', Env w' → Calls Tryd.prog 14 #[.int .i64 z] w' fun e w'' => e = .returned (.string t3) ∧ Ext w' w'')
    (C7 : ∀ w', Env w' → Calls Tryd.prog 20 #[.string t3] w' fun e w'' => e = .returned (.tuple #[.int .i64 z, .bool true]) ∧ Ext w' w'')
    (C8 : ∀ w', Env w' → Calls Tryd.prog 8 #[.string s] w' fun e w'' => (∃ a n cap, e = .returned (.tuple #[.slice a n cap, .int .i64 0]) ∧ Texts w'' a n ls) ∧ Ext w' w'')
    (C9 : ∀ w' a n cap, Texts w' a n ls → Calls Tryd.prog 24 #[.slice a n cap] w' fun e w'' => e = .returned (.string s) ∧ Ext w' w'') :
    Calls Tryd.prog 6 #[.slice (some ⟨b0, off, none⟩) n cap, .int .u64 x, .string s] w fun e w' => e = .returned (.bool true) ∧ Ext w w' := by
  have hd : decide ((300 : Int) < (n : Int)) = false := by simp; omega
  have hd2 : decide (300 < n) = false := by simp; omega
  have hp : decide ((0 : Int) < (n : Int)) = true := by simp; omega
  have hp2 : decide (0 < n) = true := by simpa using hn
  have hp3 : (0 : Int) < (n : Int) := by omega
  have HZ := Lib.hid hz
  clear hz
  have hd3 : decide ((5000 : Int) < (s.size : Int)) = false := by simp; omega
  have c1 := Lib.hid C1
  clear C1
  have c2 := Lib.hid C2
  clear C2
  have c3 := Lib.hid C3
  clear C3
  have c4 := Lib.hid C4
  clear C4
  have c5 := Lib.hid C5
  clear C5
  have c6 := Lib.hid C6
  clear C6
  have c7 := Lib.hid C7
  clear C7
  have c8 := Lib.hid C8
  clear C8
  have c9 := Lib.hid C9
  clear C9
  go_enter Tryd.func6, Tryd.ntmps6
  go_wp2_with fail
  refine (c1.out _ (Ext.refl w)).mono ?_
  rintro e w1 ⟨rfl, X1⟩
  have Y1 := X1
  go_wp2_with fail
  refine (c2.out _ (E.later Y1)).mono ?_
  rintro e w2 ⟨⟨v, rfl, hI⟩, X2⟩
  have Y2 := Y1.trans X2
  have HI := Lib.hid hI
  clear hI X1 X2 Y1
  go_wp2_with fail
  refine (c3.out _ (E.later Y2)).mono ?_
  rintro e w3 ⟨rfl, X3⟩
  have Y3 := Y2.trans X3
  replace HI := Lib.hid (HI.out.ext X3)
  clear X3 Y2
  go_wp2_with fail
  refine (c4.out _ (E.later Y3)).mono ?_
  rintro e w4 ⟨rfl, X4⟩
  have Y4 := Y3.trans X4
  replace HI := Lib.hid (HI.out.ext X4)
  clear X4 Y3
  go_wp2_with fail
  refine (c5.out _ _ Y4 HI.out).mono ?_
  rintro e w5 ⟨rfl, X5⟩
  have Y5 := Y4.trans X5
  clear HI X5 Y4
  have hz5 := Y5.cell HZ.out
  go_wp2_with fail
  refine (c6.out _ (E.later Y5)).mono ?_
  rintro e w6 ⟨rfl, X6⟩
  have Y6 := Y5.trans X6
  clear hz5 X6 Y5
  go_wp2_with fail
  refine (c7.out _ (E.later Y6)).mono ?_
  rintro e w7 ⟨rfl, X7⟩
  have Y7 := Y6.trans X7
  clear X7 Y6
  have hz7 := Y7.cell HZ.out
  go_wp2_with fail
  refine (c8.out _ (E.later Y7)).mono ?_
  rintro e w8 ⟨⟨a1, n1, cap1, rfl, hT⟩, X8⟩
  have Y8 := Y7.trans X8
  have HT := Lib.hid hT
  clear hT
  go_wp2_with fail
  refine (c9.out _ _ _ _ HT.out).mono ?_
  rintro e w9 ⟨rfl, X9⟩
  have Y9 := Y8.trans X9
  go_wp2_with fail
  refine (live06 _ (E.later Y9)).mono ?_
  rintro e w10 ⟨rfl, X10⟩
  have Y10 := Y9.trans X10
  go_wp2
  go_ret
  exact ⟨rfl, Y10⟩
set_option maxRecDepth 100000 in
theorem back_TF (b0 off n cap : Nat) (z : Int) (hn : 0 < n) (hn3 : n ≤ 300) (x : Int) (s t1 t2 t3 : ByteArray) (xs : List Int) (ls : List (List UInt8)) (w : World) (hs : s.size ≤ 5000) (E : Env w)
    (hz : w.cell? ⟨b0, off, none⟩ = some (.int .i64 z))
    (C1 : ∀ w', Ext w w' → Calls Tryd.prog 18 #[.slice (some ⟨b0, off, none⟩) n cap] w' fun e w'' => e = .returned (.string t1) ∧ Ext w' w'')
    (C2 : ∀ w', Env w' → Calls Tryd.prog 22 #[.string t1] w' fun e w'' => (∃ v, e = .returned (.tuple #[v, .bool true]) ∧ IntsV w'' v xs) ∧ Ext w' w'')
    (C3 : ∀ w', Env w' → Calls Tryd.prog 16 #[.int .u64 x] w' fun e w'' => e = .returned (.string t2) ∧ Ext w' w'')
    (C4 : ∀ w', Env w' → Calls Tryd.prog 21 #[.string t2] w' fun e w'' => e = .returned (.tuple #[.int .u64 x, .bool true]) ∧ Ext w' w'')
    (C5 : ∀ v w', Ext w w' → IntsV w' v xs → Calls Tryd.prog 23 #[v, .slice (some ⟨b0, off, none⟩) n cap] w' fun e w'' => e = .returned (.bool true) ∧ Ext w' w'')
    (C6 : ∀ w', Env w' → Calls Tryd.prog 14 #[.int .i64 z] w' fun e w'' => e = .returned (.string t3) ∧ Ext w' w'')
    (C7 : ∀ w', Env w' → Calls Tryd.prog 20 #[.string t3] w' fun e w'' => e = .returned (.tuple #[.int .i64 z, .bool true]) ∧ Ext w' w'')
    (C8 : ∀ w', Env w' → Calls Tryd.prog 8 #[.string s] w' fun e w'' => e = .returned (.tuple #[.slice none 0 0, .int .i64 20]) ∧ Ext w' w'') :
    Calls Tryd.prog 6 #[.slice (some ⟨b0, off, none⟩) n cap, .int .u64 x, .string s] w fun e w' => e = .returned (.bool true) ∧ Ext w w' := by
  have hd : decide ((300 : Int) < (n : Int)) = false := by simp; omega
  have hd2 : decide (300 < n) = false := by simp; omega
  have hp : decide ((0 : Int) < (n : Int)) = true := by simp; omega
  have hp2 : decide (0 < n) = true := by simpa using hn
  have hp3 : (0 : Int) < (n : Int) := by omega
  have HZ := Lib.hid hz
  clear hz
  have hd3 : decide ((5000 : Int) < (s.size : Int)) = false := by simp; omega
  have c1 := Lib.hid C1
  clear C1
  have c2 := Lib.hid C2
  clear C2
  have c3 := Lib.hid C3
  clear C3
  have c4 := Lib.hid C4
  clear C4
  have c5 := Lib.hid C5
  clear C5
  have c6 := Lib.hid C6
  clear C6
  have c7 := Lib.hid C7
  clear C7
  have c8 := Lib.hid C8
  clear C8
  go_enter Tryd.func6, Tryd.ntmps6
  go_wp2_with fail
  refine (c1.out _ (Ext.refl w)).mono ?_
  rintro e w1 ⟨rfl, X1⟩
  have Y1 := X1
  go_wp2_with fail
  refine (c2.out _ (E.later Y1)).mono ?_
  rintro e w2 ⟨⟨v, rfl, hI⟩, X2⟩
  have Y2 := Y1.trans X2
  have HI := Lib.hid hI
  clear hI X1 X2 Y1
  go_wp2_with fail
  refine (c3.out _ (E.later Y2)).mono ?_
  rintro e w3 ⟨rfl, X3⟩
  have Y3 := Y2.trans X3
  replace HI := Lib.hid (HI.out.ext X3)
  clear X3 Y2
  go_wp2_with fail
  refine (c4.out _ (E.later Y3)).mono ?_
  rintro e w4 ⟨rfl, X4⟩
  have Y4 := Y3.trans X4
  replace HI := Lib.hid (HI.out.ext X4)
  clear X4 Y3
  go_wp2_with fail
  refine (c5.out _ _ Y4 HI.out).mono ?_
  rintro e w5 ⟨rfl, X5⟩
  have Y5 := Y4.trans X5
  clear HI X5 Y4
  have hz5 := Y5.cell HZ.out
  go_wp2_with fail
  refine (c6.out _ (E.later Y5)).mono ?_
  rintro e w6 ⟨rfl, X6⟩
  have Y6 := Y5.trans X6
  clear hz5 X6 Y5
  go_wp2_with fail
  refine (c7.out _ (E.later Y6)).mono ?_
  rintro e w7 ⟨rfl, X7⟩
  have Y7 := Y6.trans X7
  clear X7 Y6
  have hz7 := Y7.cell HZ.out
  go_wp2_with fail
  refine (c8.out _ (E.later Y7)).mono ?_
  rintro e w8 ⟨rfl, X8⟩
  have Y8 := Y7.trans X8
  go_wp2_with fail
  refine (live06 _ (E.later Y8)).mono ?_
  rintro e w9 ⟨rfl, X9⟩
  have Y9 := Y8.trans X9
  go_wp2
  go_ret
  exact ⟨rfl, Y9⟩
set_option maxRecDepth 100000 in
theorem back_FT (a : Option Addr) (cap : Nat) (x : Int) (s t1 t2 t3 : ByteArray) (xs : List Int) (ls : List (List UInt8)) (w : World) (hs : s.size ≤ 5000) (E : Env w)
    (C1 : ∀ w', Ext w w' → Calls Tryd.prog 18 #[.slice a 0 cap] w' fun e w'' => e = .returned (.string t1) ∧ Ext w' w'')
    (C2 : ∀ w', Env w' → Calls Tryd.prog 22 #[.string t1] w' fun e w'' => (∃ v, e = .returned (.tuple #[v, .bool true]) ∧ IntsV w'' v xs) ∧ Ext w' w'')
    (C3 : ∀ w', Env w' → Calls Tryd.prog 16 #[.int .u64 x] w' fun e w'' => e = .returned (.string t2) ∧ Ext w' w'')
    (C4 : ∀ w', Env w' → Calls Tryd.prog 21 #[.string t2] w' fun e w'' => e = .returned (.tuple #[.int .u64 x, .bool true]) ∧ Ext w' w'')
    (C5 : ∀ v w', Ext w w' → IntsV w' v xs → Calls Tryd.prog 23 #[v, .slice a 0 cap] w' fun e w'' => e = .returned (.bool true) ∧ Ext w' w'')
    (C8 : ∀ w', Env w' → Calls Tryd.prog 8 #[.string s] w' fun e w'' => (∃ a n cap, e = .returned (.tuple #[.slice a n cap, .int .i64 0]) ∧ Texts w'' a n ls) ∧ Ext w' w'')
    (C9 : ∀ w' a n cap, Texts w' a n ls → Calls Tryd.prog 24 #[.slice a n cap] w' fun e w'' => e = .returned (.string s) ∧ Ext w' w'') :
    Calls Tryd.prog 6 #[.slice a 0 cap, .int .u64 x, .string s] w fun e w' => e = .returned (.bool true) ∧ Ext w w' := by
  have hd3 : decide ((5000 : Int) < (s.size : Int)) = false := by simp; omega
  have c1 := Lib.hid C1
  clear C1
  have c2 := Lib.hid C2
  clear C2
  have c3 := Lib.hid C3
  clear C3
  have c4 := Lib.hid C4
  clear C4
  have c5 := Lib.hid C5
  clear C5
  have c8 := Lib.hid C8
  clear C8
  have c9 := Lib.hid C9
  clear C9
  go_enter Tryd.func6, Tryd.ntmps6
  go_wp2_with fail
  refine (c1.out _ (Ext.refl w)).mono ?_
  rintro e w1 ⟨rfl, X1⟩
  have Y1 := X1
  go_wp2_with fail
  refine (c2.out _ (E.later Y1)).mono ?_
  rintro e w2 ⟨⟨v, rfl, hI⟩, X2⟩
  have Y2 := Y1.trans X2
  have HI := Lib.hid hI
  clear hI X1 X2 Y1
  go_wp2_with fail
  refine (c3.out _ (E.later Y2)).mono ?_
  rintro e w3 ⟨rfl, X3⟩
  have Y3 := Y2.trans X3
  replace HI := Lib.hid (HI.out.ext X3)
  clear X3 Y2
  go_wp2_with fail
  refine (c4.out _ (E.later Y3)).mono ?_
  rintro e w4 ⟨rfl, X4⟩
  have Y4 := Y3.trans X4
  replace HI := Lib.hid (HI.out.ext X4)
  clear X4 Y3
  go_wp2_with fail
  refine (c5.out _ _ Y4 HI.out).mono ?_
  rintro e w5 ⟨rfl, X5⟩
  have Y5 := Y4.trans X5
  clear HI X5 Y4
  go_wp2_with fail
  refine (c8.out _ (E.later Y5)).mono ?_
  rintro e w6 ⟨⟨a1, n1, cap1, rfl, hT⟩, X6⟩
  have Y6 := Y5.trans X6
  have HT := Lib.hid hT
  clear hT
  go_wp2_with fail
  refine (c9.out _ _ _ _ HT.out).mono ?_
  rintro e w7 ⟨rfl, X7⟩
  have Y7 := Y6.trans X7
  go_wp2_with fail
  refine (live06 _ (E.later Y7)).mono ?_
  rintro e w8 ⟨rfl, X8⟩
  have Y8 := Y7.trans X8
  go_wp2
  go_ret
  exact ⟨rfl, Y8⟩
set_option maxRecDepth 100000 in
theorem back_FF (a : Option Addr) (cap : Nat) (x : Int) (s t1 t2 t3 : ByteArray) (xs : List Int) (ls : List (List UInt8)) (w : World) (hs : s.size ≤ 5000) (E : Env w)
    (C1 : ∀ w', Ext w w' → Calls Tryd.prog 18 #[.slice a 0 cap] w' fun e w'' => e = .returned (.string t1) ∧ Ext w' w'')
    (C2 : ∀ w', Env w' → Calls Tryd.prog 22 #[.string t1] w' fun e w'' => (∃ v, e = .returned (.tuple #[v, .bool true]) ∧ IntsV w'' v xs) ∧ Ext w' w'')
    (C3 : ∀ w', Env w' → Calls Tryd.prog 16 #[.int .u64 x] w' fun e w'' => e = .returned (.string t2) ∧ Ext w' w'')
    (C4 : ∀ w', Env w' → Calls Tryd.prog 21 #[.string t2] w' fun e w'' => e = .returned (.tuple #[.int .u64 x, .bool true]) ∧ Ext w' w'')
    (C5 : ∀ v w', Ext w w' → IntsV w' v xs → Calls Tryd.prog 23 #[v, .slice a 0 cap] w' fun e w'' => e = .returned (.bool true) ∧ Ext w' w'')
    (C8 : ∀ w', Env w' → Calls Tryd.prog 8 #[.string s] w' fun e w'' => e = .returned (.tuple #[.slice none 0 0, .int .i64 20]) ∧ Ext w' w'') :
    Calls Tryd.prog 6 #[.slice a 0 cap, .int .u64 x, .string s] w fun e w' => e = .returned (.bool true) ∧ Ext w w' := by
  have hd3 : decide ((5000 : Int) < (s.size : Int)) = false := by simp; omega
  have c1 := Lib.hid C1
  clear C1
  have c2 := Lib.hid C2
  clear C2
  have c3 := Lib.hid C3
  clear C3
  have c4 := Lib.hid C4
  clear C4
  have c5 := Lib.hid C5
  clear C5
  have c8 := Lib.hid C8
  clear C8
  go_enter Tryd.func6, Tryd.ntmps6
  go_wp2_with fail
  refine (c1.out _ (Ext.refl w)).mono ?_
  rintro e w1 ⟨rfl, X1⟩
  have Y1 := X1
  go_wp2_with fail
  refine (c2.out _ (E.later Y1)).mono ?_
  rintro e w2 ⟨⟨v, rfl, hI⟩, X2⟩
  have Y2 := Y1.trans X2
  have HI := Lib.hid hI
  clear hI X1 X2 Y1
  go_wp2_with fail
  refine (c3.out _ (E.later Y2)).mono ?_
  rintro e w3 ⟨rfl, X3⟩
  have Y3 := Y2.trans X3
  replace HI := Lib.hid (HI.out.ext X3)
  clear X3 Y2
  go_wp2_with fail
  refine (c4.out _ (E.later Y3)).mono ?_
  rintro e w4 ⟨rfl, X4⟩
  have Y4 := Y3.trans X4
  replace HI := Lib.hid (HI.out.ext X4)
  clear X4 Y3
  go_wp2_with fail
  refine (c5.out _ _ Y4 HI.out).mono ?_
  rintro e w5 ⟨rfl, X5⟩
  have Y5 := Y4.trans X5
  clear HI X5 Y4
  go_wp2_with fail
  refine (c8.out _ (E.later Y5)).mono ?_
  rintro e w6 ⟨rfl, X6⟩
  have Y6 := Y5.trans X6
  go_wp2_with fail
  refine (live06 _ (E.later Y6)).mono ?_
  rintro e w7 ⟨rfl, X7⟩
  have Y7 := Y6.trans X7
  go_wp2
  go_ret
  exact ⟨rfl, Y7⟩
theorem list_back (xs : List Int) (hf : Fit xs) (hl : xs.length ≤ 300) (w : World) (E : Env w) :
    Calls Tryd.prog 22 #[.string (tx (listW xs))] w fun e w'' => (∃ v, e = .returned (.tuple #[v, .bool true]) ∧ IntsV w'' v xs) ∧ Ext w w'' := by
  cases xs with
  | nil => exact (cList_dot w).mono fun e w' ⟨he, hx⟩ => ⟨⟨_, he, .inl ⟨none, 0, rfl, rfl⟩⟩, hx⟩
  | cons z r =>
    have hp := parts_list z r
    have hb := back_map (z :: r) hf
    have hlen : (listW (z :: r)).length ≤ 6600 := by
      have := hf.len
      have e : listW (z :: r) = cat [44] ((z :: r).map Lib.itoa) := by unfold listW; rw [if_neg (by simp)]
      rw [e]
      omega
    refine (cList (listW (z :: r)) (parts 44 (listW (z :: r))) w (by omega) (list_ne_dot z r) (split_tx _).1 (split_tx _).2 (by have := parts_len 44 (listW (z :: r)); omega) (fun x hx => by have := part_le 44 _ x hx; omega) E).mono ?_
    rintro e w2 ⟨X2, ⟨_, v, rfl, hI⟩ | ⟨hno, _⟩⟩
    · rw [hp, hb.1] at hI
      exact ⟨⟨v, rfl, hI⟩, X2⟩
    · rw [hp] at hno
      exact absurd hb.2 hno
theorem split_ways (l : List UInt8) (hl : l.length ≤ 5000) :
    (∃ ls, (∀ w', Env w' → Calls Tryd.prog 8 #[.string (tx l)] w' fun e w'' => (∃ a n cap, e = .returned (.tuple #[.slice a n cap, .int .i64 0]) ∧ Texts w'' a n ls) ∧ Ext w' w'') ∧
      ∀ w' a n cap, Texts w' a n ls → Calls Tryd.prog 24 #[.slice a n cap] w' fun e w'' => e = .returned (.string (tx l)) ∧ Ext w' w'') ∨
    ∀ w', Env w' → Calls Tryd.prog 8 #[.string (tx l)] w' fun e w'' => e = .returned (.tuple #[.slice none 0 0, .int .i64 20]) ∧ Ext w' w'' := by
  cases h : isLineB l with
  | false => exact .inr fun w' _ => cSplit_no l w' (by omega) h
  | true =>
    left
    by_cases h0 : l = []
    · subst h0
      refine ⟨[], fun w' _ => (cSplit_nil w').mono fun e w'' ⟨he, hx⟩ => ⟨⟨none, 0, 0, he, rfl, .inl rfl⟩, hx⟩, fun w' a n cap hT => ?_⟩
      have hn : n = 0 := hT.1.symm
      exact cJoin a n cap [] w' hT (by simp [cat]) (by omega)
    · refine ⟨parts 32 l, fun w' E => (cSplit_yes l w' (by omega) h0 h E).mono ?_, fun w' a n cap hT => ?_⟩
      · rintro e w'' ⟨⟨a, cap, he, hT⟩, hx⟩
        exact ⟨⟨a, _, cap, he, hT⟩, hx⟩
      · have hn : n = (parts 32 l).length := hT.1.symm
        have := cJoin a n cap (parts 32 l) w' hT (by rw [cat_parts]; omega) (by have := parts_len 32 l; omega)
        rwa [cat_parts] at this
theorem back_short (a : Option Addr) (len cap : Nat) (xs : List Int) (x : Nat) (l : List UInt8) (w : World) (hl : len ≤ 300) (hs : l.length ≤ 5000) (hx : x < 18446744073709551616) (h : IntsV w (.slice a len cap) xs) (hlen : xs.length = len) (hf : Fit xs) (E : Env w) :
    Calls Tryd.prog 6 #[.slice a len cap, .int .u64 x, .string (tx l)] w fun e w' => e = .returned (.bool true) ∧ Ext w w' := by
  have C1 : ∀ w', Ext w w' → Calls Tryd.prog 18 #[.slice a len cap] w' fun e w'' => e = .returned (.string (tx (listW xs))) ∧ Ext w' w'' := fun w' X => cShowList _ xs w' (h.ext X) (by omega) hf (E.later X)
  have C2 := fun w' (E : Env w') => list_back xs hf (by omega) w' E
  have C3 := fun w' (E : Env w') => cShowBig x w' hx E
  have C4 := fun w' (E : Env w') => cBig (Lib.decDigits x) w' (by have := dec_len20 hx; omega) E
  rw [big_back x hx] at C4
  have C5 : ∀ v w', Ext w w' → IntsV w' v xs → Calls Tryd.prog 23 #[v, .slice a len cap] w' fun e w'' => e = .returned (.bool true) ∧ Ext w' w'' := fun v w' X hv => same5 v _ xs w' hv (h.ext X) (by omega)
  rcases h with ⟨a', cap', h1, h2⟩ | ⟨b0, off, cap', h1, h2⟩
  · subst h2
    have : len = 0 := by simpa using hlen.symm
    subst this
    rcases split_ways l hs with ⟨ls, C8, C9⟩ | C8
    · exact back_FT a cap x (tx l) _ _ (tx l) [] ls w hs E C1 C2 C3 C4 C5 C8 C9
    · exact back_FF a cap x (tx l) _ _ (tx l) [] [] w hs E C1 C2 C3 C4 C5 C8
  · rw [hlen] at h1
    simp only [Value.slice.injEq] at h1
    obtain ⟨rfl, _, rfl⟩ := h1
    by_cases h0 : len = 0
    · subst h0
      rcases split_ways l hs with ⟨ls, C8, C9⟩ | C8
      · exact back_FT _ cap x (tx l) _ _ (tx l) xs ls w hs E C1 C2 C3 C4 C5 C8 C9
      · exact back_FF _ cap x (tx l) _ _ (tx l) xs [] w hs E C1 C2 C3 C4 C5 C8
    · have hz := h2 0 (by omega)
      rw [Nat.add_zero] at hz
      have hr := hf.at 0 (by omega)
      have C6 := fun w' (E : Env w') => cShow (xs.getD 0 0) w' hr.1 hr.2 E
      have C7 := fun w' (E : Env w') => cNum (Lib.itoa (xs.getD 0 0)) w' (by have := itoa_len hr.1 hr.2; omega) E
      rw [num_back _ hr.1 hr.2] at C7
      rcases split_ways l hs with ⟨ls, C8, C9⟩ | C8
      · exact back_TT b0 off len cap (xs.getD 0 0) (by omega) hl x (tx l) _ _ _ xs ls w hs E hz C1 C2 C3 C4 C5 C6 C7 C8 C9
      · exact back_TF b0 off len cap (xs.getD 0 0) (by omega) hl x (tx l) _ _ _ xs [] w hs E hz C1 C2 C3 C4 C5 C6 C7 C8
theorem wordsBack_walk (a : Option Addr) (len cap : Nat) (zs : List Int) (x : Int) (s : ByteArray) (w : World) (h : IsRow .i64 w a len cap zs) (w1 : (Lit.int .u64 x).wf = true) {p : Prop} (w2 : p) (E : Env w) :
    Calls Tryd.prog 6 #[.slice a len cap, .int .u64 x, .string s] w fun e w' => e = .returned (.bool true) ∧ Below w.heap.size w w' := by
  have hx := wf_u64 w1
  obtain ⟨u, rfl⟩ : ∃ u : Nat, x = (u : Int) := ⟨x.toNat, by omega⟩
  rcases Nat.lt_or_ge 300 len with hl | hl
  · exact back_long1 a len cap _ s w hl E
  · rcases Nat.lt_or_ge 5000 s.size with hs | hs
    · exact back_long2 a len cap _ s w hl hs E
    · obtain ⟨h1, h2, h3⟩ := intsV_of_row h
      have := back_short a len cap (zs.take len) u s.data.toList w hl (by rw [Array.length_toList]; exact hs) (by omega) h1 h2 (fun z hz => by have := wf_i64 (h3 z hz); omega) E
      rwa [tx_eq] at this
end Go.Proofs.YthdokmhbdjajaacDoor
