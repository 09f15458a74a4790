/- WordsReads (written by mkreads.py). -/
import Derived.Test.YthdokmhbdjajaacDoorWLive
import Derived.Test.YthdokmhbdjajaacDoorWMath
import Derived.Test.YthdokmhbdjajaacDoorParts
namespace Go.Proofs.YthdokmhbdjajaacDoor
open Go.RowKit
set_option linter.unusedVariables false
set_option maxHeartbeats 4000000
set_option maxRecDepth 100000 in
theorem reads_long (s : ByteArray) (w : World) (hl : 5000 < s.size) (E : Env w) : Calls Tryd.prog 5 #[.string s] w fun e w' => e = .returned (.bool true) ∧ Ext w w' := by
  have hd : decide ((5000 : Int) < (s.size : Int)) = true := by simp; omega
  go_enter Tryd.func5, Tryd.ntmps5
  go_wp2_with fail
  refine (live06 _ E).mono ?_
  rintro e w1 ⟨rfl, X1⟩
  go_wp2
  go_ret
  exact ⟨rfl, X1⟩
set_option maxRecDepth 100000 in
theorem reads_TTT (s : ByteArray) (w : World) (hl : s.size ≤ 5000) (E : Env w) (x : Nat) (hx : x < 18446744073709551616)
    (C1 : ∀ w', Env w' → Calls Tryd.prog 20 #[.string s] w' fun e w'' => e = .returned (.tuple #[.int .i64 (x : Nat), .bool true]) ∧ Ext w' w'')
    (C2 : ∀ w', Env w' → Calls Tryd.prog 21 #[.string s] w' fun e w'' => e = .returned (.tuple #[.int .u64 (x : Nat), .bool true]) ∧ Ext w' w'')
    (C3 : ∀ w', Env w' → Calls Tryd.prog 22 #[.string s] w' fun e w'' => (∃ v, e = .returned (.tuple #[v, .bool true]) ∧ IntsV w'' v [(((x : Nat) : Int))]) ∧ Ext w' w'')
    (C4 : ∀ w', Calls Tryd.prog 15 #[.int .i64 (x : Nat)] w' fun e w'' => e = .returned (.string s) ∧ Ext w' w'')
    (C5 : ∀ w', Calls Tryd.prog 17 #[.int .u64 (x : Nat)] w' fun e w'' => e = .returned (.string s) ∧ Ext w' w'')
    (C6 : ∀ v w', IntsV w' v [(((x : Nat) : Int))] → Calls Tryd.prog 19 #[v] w' fun e w'' => e = .returned (.string s) ∧ Ext w' w'') :
    Calls Tryd.prog 5 #[.string s] w fun e w' => e = .returned (.bool true) ∧ Ext w w' := by
  have hd : decide ((5000 : Int) < (s.size : Int)) = false := by simp; omega
  have c1 := Lib.hid C1
  clear C1
  have c2 := Lib.hid C2
  clear C2
  have c3 := Lib.hid C3
  clear C3
  have c4 := Lib.hid C4
  clear C4
  have c5 := Lib.hid C5
  clear C5
  have c6 := Lib.hid C6
  clear C6
  have hwr : IntKind.u64.wrap (x : Int) = (x : Int) := by rw [IntKind.wrap_u64]; omega
  go_enter Tryd.func5, Tryd.ntmps5
  go_wp2_with fail
  refine (c1.out _ E).mono ?_
  rintro e w1 ⟨rfl, X1⟩
  have Y1 := X1
  clear X1
  go_wp2_with fail
  refine (c2.out _ (E.later Y1)).mono ?_
  rintro e w2 ⟨rfl, X2⟩
  have Y2 := Y1.trans X2
  clear X2 Y1
  go_wp2_with fail
  refine (c3.out _ (E.later Y2)).mono ?_
  rintro e w3 ⟨⟨v, rfl, hI⟩, X3⟩
  have Y3 := Y2.trans X3
  clear X3 Y2
  obtain ⟨b0, off, cap, hv, hcell⟩ : ∃ b0 off cap, v = .slice (some ⟨b0, off, none⟩) 1 cap ∧ w3.cell? ⟨b0, off, none⟩ = some (.int .i64 (x : Nat)) := by
    rcases hI with ⟨_, _, _, h⟩ | ⟨b0, off, cap, h1, h2⟩
    · cases h
    · exact ⟨b0, off, cap, h1, h2 0 (by simp)⟩
  have HI := Lib.hid hI
  clear hI
  subst hv
  go_wp2_with fail
  refine (c4.out _ ).mono ?_
  rintro e w4 ⟨rfl, X4⟩
  have Y4 := Y3.trans X4
  replace hcell := X4.cell hcell
  replace HI := Lib.hid (HI.out.ext X4)
  clear X4 Y3
  go_wp2_with fail
  refine (c5.out _ ).mono ?_
  rintro e w5 ⟨rfl, X5⟩
  have Y5 := Y4.trans X5
  replace hcell := X5.cell hcell
  replace HI := Lib.hid (HI.out.ext X5)
  clear X5 Y4
  go_wp2_with fail
  refine (c6.out _ _ HI.out ).mono ?_
  rintro e w6 ⟨rfl, X6⟩
  have Y6 := Y5.trans X6
  replace hcell := X6.cell hcell
  replace HI := Lib.hid (HI.out.ext X6)
  clear X6 Y5
  go_wp2_with fail
  refine (live06 _ (E.later Y6)).mono ?_
  rintro e w7 ⟨rfl, X7⟩
  have Y7 := Y6.trans X7
  clear X7 Y6
  go_wp2
  go_ret
  exact ⟨rfl, Y7⟩
set_option maxRecDepth 100000 in
theorem reads_TFT (s : ByteArray) (w : World) (hl : s.size ≤ 5000) (E : Env w) (z : Int) (hz : z < 0)
    (C1 : ∀ w', Env w' → Calls Tryd.prog 20 #[.string s] w' fun e w'' => e = .returned (.tuple #[.int .i64 z, .bool true]) ∧ Ext w' w'')
    (C2 : ∀ w', Env w' → Calls Tryd.prog 21 #[.string s] w' fun e w'' => e = .returned (.tuple #[.int .u64 0, .bool false]) ∧ Ext w' w'')
    (C3 : ∀ w', Env w' → Calls Tryd.prog 22 #[.string s] w' fun e w'' => (∃ v, e = .returned (.tuple #[v, .bool true]) ∧ IntsV w'' v [((z : Int))]) ∧ Ext w' w'')
    (C4 : ∀ w', Calls Tryd.prog 15 #[.int .i64 z] w' fun e w'' => e = .returned (.string s) ∧ Ext w' w'')
    (C6 : ∀ v w', IntsV w' v [((z : Int))] → Calls Tryd.prog 19 #[v] w' fun e w'' => e = .returned (.string s) ∧ Ext w' w'') :
    Calls Tryd.prog 5 #[.string s] w fun e w' => e = .returned (.bool true) ∧ Ext w w' := by
  have hd : decide ((5000 : Int) < (s.size : Int)) = false := by simp; omega
  have c1 := Lib.hid C1
  clear C1
  have c2 := Lib.hid C2
  clear C2
  have c3 := Lib.hid C3
  clear C3
  have c4 := Lib.hid C4
  clear C4
  have c6 := Lib.hid C6
  clear C6
  go_enter Tryd.func5, Tryd.ntmps5
  go_wp2_with fail
  refine (c1.out _ E).mono ?_
  rintro e w1 ⟨rfl, X1⟩
  have Y1 := X1
  clear X1
  go_wp2_with fail
  refine (c2.out _ (E.later Y1)).mono ?_
  rintro e w2 ⟨rfl, X2⟩
  have Y2 := Y1.trans X2
  clear X2 Y1
  go_wp2_with fail
  refine (c3.out _ (E.later Y2)).mono ?_
  rintro e w3 ⟨⟨v, rfl, hI⟩, X3⟩
  have Y3 := Y2.trans X3
  clear X3 Y2
  obtain ⟨b0, off, cap, hv, hcell⟩ : ∃ b0 off cap, v = .slice (some ⟨b0, off, none⟩) 1 cap ∧ w3.cell? ⟨b0, off, none⟩ = some (.int .i64 z) := by
    rcases hI with ⟨_, _, _, h⟩ | ⟨b0, off, cap, h1, h2⟩
    · cases h
    · exact ⟨b0, off, cap, h1, h2 0 (by simp)⟩
  have HI := Lib.hid hI
  clear hI
  subst hv
  go_wp2_with fail
  refine (c4.out _ ).mono ?_
  rintro e w4 ⟨rfl, X4⟩
  have Y4 := Y3.trans X4
  replace hcell := X4.cell hcell
  replace HI := Lib.hid (HI.out.ext X4)
  clear X4 Y3
  go_wp2_with fail
  refine (c6.out _ _ HI.out ).mono ?_
  rintro e w5 ⟨rfl, X5⟩
  have Y5 := Y4.trans X5
  replace hcell := X5.cell hcell
  replace HI := Lib.hid (HI.out.ext X5)
  clear X5 Y4
  have hz0 : decide (z < 0) = true := by simpa using hz
  go_wp2_with fail
  refine (live06 _ (E.later Y5)).mono ?_
  rintro e w6 ⟨rfl, X6⟩
  have Y6 := Y5.trans X6
  clear X6 Y5
  go_wp2
  go_ret
  exact ⟨rfl, Y6⟩
set_option maxRecDepth 100000 in
theorem reads_FTT (s : ByteArray) (w : World) (hl : s.size ≤ 5000) (E : Env w) (x : Nat) (hx : x < 18446744073709551616) (xs : List Int) (hxs : xs.length ≤ 1000000)
    (C1 : ∀ w', Env w' → Calls Tryd.prog 20 #[.string s] w' fun e w'' => e = .returned (.tuple #[.int .i64 0, .bool false]) ∧ Ext w' w'')
    (C2 : ∀ w', Env w' → Calls Tryd.prog 21 #[.string s] w' fun e w'' => e = .returned (.tuple #[.int .u64 (x : Nat), .bool true]) ∧ Ext w' w'')
    (C3 : ∀ w', Env w' → Calls Tryd.prog 22 #[.string s] w' fun e w'' => (∃ v, e = .returned (.tuple #[v, .bool true]) ∧ IntsV w'' v xs) ∧ Ext w' w'')
    (C5 : ∀ w', Calls Tryd.prog 17 #[.int .u64 (x : Nat)] w' fun e w'' => e = .returned (.string s) ∧ Ext w' w'')
    (C6 : ∀ v w', IntsV w' v xs → Calls Tryd.prog 19 #[v] w' fun e w'' => e = .returned (.string s) ∧ Ext w' w'') :
    Calls Tryd.prog 5 #[.string s] w fun e w' => e = .returned (.bool true) ∧ Ext w w' := by
  have hd : decide ((5000 : Int) < (s.size : Int)) = false := by simp; omega
  have c1 := Lib.hid C1
  clear C1
  have c2 := Lib.hid C2
  clear C2
  have c3 := Lib.hid C3
  clear C3
  have c5 := Lib.hid C5
  clear C5
  have c6 := Lib.hid C6
  clear C6
  go_enter Tryd.func5, Tryd.ntmps5
  go_wp2_with fail
  refine (c1.out _ E).mono ?_
  rintro e w1 ⟨rfl, X1⟩
  have Y1 := X1
  clear X1
  go_wp2_with fail
  refine (c2.out _ (E.later Y1)).mono ?_
  rintro e w2 ⟨rfl, X2⟩
  have Y2 := Y1.trans X2
  clear X2 Y1
  go_wp2_with fail
  refine (c3.out _ (E.later Y2)).mono ?_
  rintro e w3 ⟨⟨v, rfl, hI⟩, X3⟩
  have Y3 := Y2.trans X3
  clear X3 Y2
  obtain ⟨aa, cap, hv⟩ : ∃ aa cap, v = .slice aa xs.length cap := by
    rcases hI with ⟨aa, cap, h1, h⟩ | ⟨b0, off, cap, h1, h2⟩
    · exact ⟨aa, cap, by rw [h1, h]; rfl⟩
    · exact ⟨_, cap, h1⟩
  have HI := Lib.hid hI
  clear hI
  subst hv
  go_wp2_with fail
  refine (c5.out _ ).mono ?_
  rintro e w4 ⟨rfl, X4⟩
  have Y4 := Y3.trans X4
  replace HI := Lib.hid (HI.out.ext X4)
  clear X4 Y3
  go_wp2_with fail
  refine (c6.out _ _ HI.out ).mono ?_
  rintro e w5 ⟨rfl, X5⟩
  have Y5 := Y4.trans X5
  replace HI := Lib.hid (HI.out.ext X5)
  clear X5 Y4
  go_wp2_with fail
  refine (live06 _ (E.later Y5)).mono ?_
  rintro e w6 ⟨rfl, X6⟩
  have Y6 := Y5.trans X6
  clear X6 Y5
  go_wp2
  go_ret
  exact ⟨rfl, Y6⟩
set_option maxRecDepth 100000 in
theorem reads_FFT (s : ByteArray) (w : World) (hl : s.size ≤ 5000) (E : Env w) (xs : List Int) (hxs : xs.length ≤ 1000000)
    (C1 : ∀ w', Env w' → Calls Tryd.prog 20 #[.string s] w' fun e w'' => e = .returned (.tuple #[.int .i64 0, .bool false]) ∧ Ext w' w'')
    (C2 : ∀ w', Env w' → Calls Tryd.prog 21 #[.string s] w' fun e w'' => e = .returned (.tuple #[.int .u64 0, .bool false]) ∧ Ext w' w'')
    (C3 : ∀ w', Env w' → Calls Tryd.prog 22 #[.string s] w' fun e w'' => (∃ v, e = .returned (.tuple #[v, .bool true]) ∧ IntsV w'' v xs) ∧ Ext w' w'')
    (C6 : ∀ v w', IntsV w' v xs → Calls Tryd.prog 19 #[v] w' fun e w'' => e = .returned (.string s) ∧ Ext w' w'') :
    Calls Tryd.prog 5 #[.string s] w fun e w' => e = .returned (.bool true) ∧ Ext w w' := by
  have hd : decide ((5000 : Int) < (s.size : Int)) = false := by simp; omega
  have c1 := Lib.hid C1
  clear C1
  have c2 := Lib.hid C2
  clear C2
  have c3 := Lib.hid C3
  clear C3
  have c6 := Lib.hid C6
  clear C6
  go_enter Tryd.func5, Tryd.ntmps5
  go_wp2_with fail
  refine (c1.out _ E).mono ?_
  rintro e w1 ⟨rfl, X1⟩
  have Y1 := X1
  clear X1
  go_wp2_with fail
  refine (c2.out _ (E.later Y1)).mono ?_
  rintro e w2 ⟨rfl, X2⟩
  have Y2 := Y1.trans X2
  clear X2 Y1
  go_wp2_with fail
  refine (c3.out _ (E.later Y2)).mono ?_
  rintro e w3 ⟨⟨v, rfl, hI⟩, X3⟩
  have Y3 := Y2.trans X3
  clear X3 Y2
  obtain ⟨aa, cap, hv⟩ : ∃ aa cap, v = .slice aa xs.length cap := by
    rcases hI with ⟨aa, cap, h1, h⟩ | ⟨b0, off, cap, h1, h2⟩
    · exact ⟨aa, cap, by rw [h1, h]; rfl⟩
    · exact ⟨_, cap, h1⟩
  have HI := Lib.hid hI
  clear hI
  subst hv
  go_wp2_with fail
  refine (c6.out _ _ HI.out ).mono ?_
  rintro e w4 ⟨rfl, X4⟩
  have Y4 := Y3.trans X4
  replace HI := Lib.hid (HI.out.ext X4)
  clear X4 Y3
  go_wp2_with fail
  refine (live06 _ (E.later Y4)).mono ?_
  rintro e w5 ⟨rfl, X5⟩
  have Y5 := Y4.trans X5
  clear X5 Y4
  go_wp2
  go_ret
  exact ⟨rfl, Y5⟩
set_option maxRecDepth 100000 in
theorem reads_FTF (s : ByteArray) (w : World) (hl : s.size ≤ 5000) (E : Env w) (x : Nat) (hx : x < 18446744073709551616)
    (C1 : ∀ w', Env w' → Calls Tryd.prog 20 #[.string s] w' fun e w'' => e = .returned (.tuple #[.int .i64 0, .bool false]) ∧ Ext w' w'')
    (C2 : ∀ w', Env w' → Calls Tryd.prog 21 #[.string s] w' fun e w'' => e = .returned (.tuple #[.int .u64 (x : Nat), .bool true]) ∧ Ext w' w'')
    (C3 : ∀ w', Env w' → Calls Tryd.prog 22 #[.string s] w' fun e w'' => e = .returned (.tuple #[.slice none 0 0, .bool false]) ∧ Ext w' w'')
    (C5 : ∀ w', Calls Tryd.prog 17 #[.int .u64 (x : Nat)] w' fun e w'' => e = .returned (.string s) ∧ Ext w' w'') :
    Calls Tryd.prog 5 #[.string s] w fun e w' => e = .returned (.bool true) ∧ Ext w w' := by
  have hd : decide ((5000 : Int) < (s.size : Int)) = false := by simp; omega
  have c1 := Lib.hid C1
  clear C1
  have c2 := Lib.hid C2
  clear C2
  have c3 := Lib.hid C3
  clear C3
  have c5 := Lib.hid C5
  clear C5
  go_enter Tryd.func5, Tryd.ntmps5
  go_wp2_with fail
  refine (c1.out _ E).mono ?_
  rintro e w1 ⟨rfl, X1⟩
  have Y1 := X1
  clear X1
  go_wp2_with fail
  refine (c2.out _ (E.later Y1)).mono ?_
  rintro e w2 ⟨rfl, X2⟩
  have Y2 := Y1.trans X2
  clear X2 Y1
  go_wp2_with fail
  refine (c3.out _ (E.later Y2)).mono ?_
  rintro e w3 ⟨rfl, X3⟩
  have Y3 := Y2.trans X3
  clear X3 Y2
  go_wp2_with fail
  refine (c5.out _ ).mono ?_
  rintro e w4 ⟨rfl, X4⟩
  have Y4 := Y3.trans X4
  clear X4 Y3
  go_wp2_with fail
  refine (live06 _ (E.later Y4)).mono ?_
  rintro e w5 ⟨rfl, X5⟩
  have Y5 := Y4.trans X5
  clear X5 Y4
  go_wp2
  go_ret
  exact ⟨rfl, Y5⟩
set_option maxRecDepth 100000 in
theorem reads_FFF (s : ByteArray) (w : World) (hl : s.size ≤ 5000) (E : Env w)
    (C1 : ∀ w', Env w' → Calls Tryd.prog 20 #[.string s] w' fun e w'' => e = .returned (.tuple #[.int .i64 0, .bool false]) ∧ Ext w' w'')
    (C2 : ∀ w', Env w' → Calls Tryd.prog 21 #[.string s] w' fun e w'' => e = .returned (.tuple #[.int .u64 0, .bool false]) ∧ Ext w' w'')
    (C3 : ∀ w', Env w' → Calls Tryd.prog 22 #[.string s] w' fun e w'' => e = .returned (.tuple #[.slice none 0 0, .bool false]) ∧ Ext w' w'') :
    Calls Tryd.prog 5 #[.string s] w fun e w' => e = .returned (.bool true) ∧ Ext w w' := by
  have hd : decide ((5000 : Int) < (s.size : Int)) = false := by simp; omega
  have c1 := Lib.hid C1
  clear C1
  have c2 := Lib.hid C2
  clear C2
  have c3 := Lib.hid C3
  clear C3
  go_enter Tryd.func5, Tryd.ntmps5
  go_wp2_with fail
  refine (c1.out _ E).mono ?_
  rintro e w1 ⟨rfl, X1⟩
  have Y1 := X1
  clear X1
  go_wp2_with fail
  refine (c2.out _ (E.later Y1)).mono ?_
  rintro e w2 ⟨rfl, X2⟩
  have Y2 := Y1.trans X2
  clear X2 Y1
  go_wp2_with fail
  refine (c3.out _ (E.later Y2)).mono ?_
  rintro e w3 ⟨rfl, X3⟩
  have Y3 := Y2.trans X3
  clear X3 Y2
  go_wp2_with fail
  refine (live06 _ (E.later Y3)).mono ?_
  rintro e w4 ⟨rfl, X4⟩
  have Y4 := Y3.trans X4
  clear X4 Y3
  go_wp2
  go_ret
  exact ⟨rfl, Y4⟩
theorem itoa_numV {x : List UInt8} (h : isNum x = true) : Lib.itoa (numV x) = x := by
  unfold isNum at h
  unfold numV
  cases hn : numOf x with
  | none => rw [hn] at h; cases h
  | some v => exact (num_word hn).1
theorem fit_parts (ls : List (List UInt8)) (h : ∀ x ∈ ls, isNum x = true) : Fit (ls.map numV) := by
  intro z hz
  obtain ⟨x, hx, rfl⟩ := List.mem_map.1 hz
  have := h x hx
  unfold isNum at this
  unfold numV
  cases hn : numOf x with
  | none => rw [hn] at this; cases this
  | some v => exact numOf_range hn
theorem listW_parts (l : List UInt8) (h : ∀ x ∈ parts 44 l, isNum x = true) : listW ((parts 44 l).map numV) = l := by
  obtain ⟨p, q, hp⟩ := parts_some 44 l
  unfold listW
  rw [if_neg (by rw [hp]; simp), List.map_map]
  have e : (parts 44 l).map (Lib.itoa ∘ numV) = parts 44 l := by
    conv => rhs; rw [← List.map_id (parts 44 l)]
    exact List.map_congr_left fun x hx => itoa_numV (h x hx)
  rw [e, cat_parts]
theorem list_any (l : List UInt8) (w : World) (hl : l.length ≤ 5000) (hd : l ≠ [46]) (E : Env w) : Calls Tryd.prog 22 #[.string (tx l)] w (ListDoes w (parts 44 l)) :=
  cList l (parts 44 l) w (by omega) hd (split_tx l).1 (split_tx l).2 (by have := parts_len 44 l; omega) (fun x hx => by have := part_le 44 l x hx; omega) E
theorem list_yes (l : List UInt8) (w : World) (hl : l.length ≤ 5000) (hd : l ≠ [46]) (h : ∀ x ∈ parts 44 l, isNum x = true) (E : Env w) :
    Calls Tryd.prog 22 #[.string (tx l)] w fun e w'' => (∃ v, e = .returned (.tuple #[v, .bool true]) ∧ IntsV w'' v ((parts 44 l).map numV)) ∧ Ext w w'' := by
  refine (list_any l w hl hd E).mono ?_
  rintro e w2 ⟨X2, ⟨_, v, rfl, hI⟩ | ⟨hno, _⟩⟩
  · exact ⟨⟨v, rfl, hI⟩, X2⟩
  · exact absurd h hno
theorem list_no (l : List UInt8) (w : World) (hl : l.length ≤ 5000) (hd : l ≠ [46]) (h : ¬ ∀ x ∈ parts 44 l, isNum x = true) (E : Env w) :
    Calls Tryd.prog 22 #[.string (tx l)] w fun e w'' => e = .returned (.tuple #[.slice none 0 0, .bool false]) ∧ Ext w w'' := by
  refine (list_any l w hl hd E).mono ?_
  rintro e w2 ⟨X2, ⟨hy, _⟩ | ⟨_, rfl⟩⟩
  · exact absurd hy h
  · exact ⟨rfl, X2⟩
theorem list_dot (w : World) : Calls Tryd.prog 22 #[.string (tx [46])] w fun e w'' => (∃ v, e = .returned (.tuple #[v, .bool true]) ∧ IntsV w'' v []) ∧ Ext w w'' :=
  (cList_dot w).mono fun e w' ⟨he, hx⟩ => ⟨⟨_, he, .inl ⟨none, 0, rfl, rfl⟩⟩, hx⟩
/-- which lists a text is -/
theorem list_ways (l : List UInt8) (hl : l.length ≤ 5000) :
    (∃ xs : List Int, xs.length ≤ 1000000 ∧ Fit xs ∧ listW xs = l ∧ ∀ w', Env w' → Calls Tryd.prog 22 #[.string (tx l)] w' fun e w'' => (∃ v, e = .returned (.tuple #[v, .bool true]) ∧ IntsV w'' v xs) ∧ Ext w' w'') ∨
    (∀ w', Env w' → Calls Tryd.prog 22 #[.string (tx l)] w' fun e w'' => e = .returned (.tuple #[.slice none 0 0, .bool false]) ∧ Ext w' w'') := by
  by_cases hd : l = [46]
  · subst hd
    exact .inl ⟨[], by simp, (fun z hz => by cases hz), rfl, fun w' _ => list_dot w'⟩
  · by_cases h : ∀ x ∈ parts 44 l, isNum x = true
    · refine .inl ⟨(parts 44 l).map numV, ?_, fit_parts _ h, listW_parts l h, fun w' E => list_yes l w' hl hd h E⟩
      rw [List.length_map]
      have := parts_len 44 l
      omega
    · exact .inr fun w' E => list_no l w' hl hd h E
theorem reads_short (l : List UInt8) (w : World) (hl : l.length ≤ 5000) (E : Env w) : Calls Tryd.prog 5 #[.string (tx l)] w fun e w' => e = .returned (.bool true) ∧ Ext w w' := by
  have hs : (tx l).size ≤ 5000 := hl
  have C1 := fun w' (E : Env w') => cNum l w' (by omega) E
  have C2 := fun w' (E : Env w') => cBig l w' (by omega) E
  cases hN : numOf l with
  | some z =>
    obtain ⟨hw, _⟩ := num_word hN
    have hr := numOf_range hN
    have h44 : (44 : UInt8) ∉ l := by rw [← hw]; exact itoa_no44 z
    have hd : l ≠ [46] := by rw [← hw]; exact itoa_dot z
    have hp := parts_none 44 l h44
    have hall : ∀ x ∈ parts 44 l, isNum x = true := by rw [hp]; intro x hx; rw [List.mem_singleton] at hx; subst hx; unfold isNum; rw [hN]; rfl
    have C3 := fun w' (E : Env w') => list_yes l w' hl hd hall E
    have e3 : (parts 44 l).map numV = [z] := by rw [hp]; simp [numV, hN]
    have eW := listW_parts l hall
    rw [e3] at C3 eW
    have C4 := fun w' => rNum6 z w' hr.1 hr.2
    rw [hw] at C4
    have C6 : ∀ v w', IntsV w' v [z] → Calls Tryd.prog 19 #[v] w' fun e w'' => e = .returned (.string (tx l)) ∧ Ext w' w'' := fun v w' h => by
      have := rList v [z] w' h (by simp) (fun y hy => by rw [List.mem_singleton] at hy; subst hy; exact hr)
      rwa [eW] at this
    rw [hN] at C1
    cases hB : bigOf l with
    | some x =>
      obtain ⟨hbw, hbp⟩ := big_word hB
      have hx := pu_range hbp
      have hz : z = (x : Int) := by
        rcases Int.lt_or_le z 0 with h | h
        · exfalso
          obtain ⟨u, hu⟩ : ∃ u : Nat, z = -(u : Int) := ⟨z.natAbs, by omega⟩
          subst hu
          rw [Lib.itoa_neg u (by omega)] at hw
          have := dec_digit (x + 1) x (by omega) 45 (by rw [hbw, ← hw]; exact List.mem_cons_self)
          have e : (45 : UInt8).toNat = 45 := rfl
          omega
        · have := big_of_num hN h
          rw [hB] at this
          have := Option.some.inj this
          omega
      subst hz
      rw [hB] at C2
      have C5 := fun w' => rBig x w' hx
      rw [hbw] at C5
      exact reads_TTT (tx l) w hs E x hx C1 C2 C3 C4 C5 C6
    | none =>
      have hz : z < 0 := by
        rcases Int.lt_or_le z 0 with h | h
        · exact h
        · have := big_of_num hN h
          rw [hB] at this
          cases this
      rw [hB] at C2
      exact reads_TFT (tx l) w hs E z hz C1 C2 C3 C4 C6
  | none =>
    rw [hN] at C1
    rcases list_ways l hl with ⟨xs, hxs, hf, eW, C3⟩ | C3
    · have C6 : ∀ v w', IntsV w' v xs → Calls Tryd.prog 19 #[v] w' fun e w'' => e = .returned (.string (tx l)) ∧ Ext w' w'' := fun v w' h => by
        have := rList v xs w' h hxs hf
        rwa [eW] at this
      cases hB : bigOf l with
      | some x =>
        obtain ⟨hbw, hbp⟩ := big_word hB
        have hx := pu_range hbp
        rw [hB] at C2
        have C5 := fun w' => rBig x w' hx
        rw [hbw] at C5
        exact reads_FTT (tx l) w hs E x hx xs hxs C1 C2 C3 C5 C6
      | none =>
        rw [hB] at C2
        exact reads_FFT (tx l) w hs E xs hxs C1 C2 C3 C6
    · cases hB : bigOf l with
      | some x =>
        obtain ⟨hbw, hbp⟩ := big_word hB
        have hx := pu_range hbp
        rw [hB] at C2
        have C5 := fun w' => rBig x w' hx
        rw [hbw] at C5
        exact reads_FTF (tx l) w hs E x hx C1 C2 C3 C5
      | none =>
        rw [hB] at C2
        exact reads_FFF (tx l) w hs E C1 C2 C3
theorem wordsReads_walk (s : ByteArray) (w : World) {p : Prop} (w0 : p) (E : Env w) :
    Calls Tryd.prog 5 #[.string s] w fun e w' => e = .returned (.bool true) ∧ Below w.heap.size w w' := by
  rcases Nat.lt_or_ge 5000 s.size with hl | hl
  · exact reads_long s w hl E
  · have := reads_short s.data.toList w (by rw [Array.length_toList]; exact hl) E
    rwa [tx_eq] at this
end Go.Proofs.YthdokmhbdjajaacDoor
