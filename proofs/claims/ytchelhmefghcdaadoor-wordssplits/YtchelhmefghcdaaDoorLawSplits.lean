/- The walk of WordsSplits. -/
import Derived.Test.YtchelhmefghcdaaDoorWLin6
import Derived.Test.YtchelhmefghcdaaDoorSame6
namespace Go.Proofs.YtchelhmefghcdaaDoor
open Go.RowKit
set_option linter.unusedVariables false
set_option maxHeartbeats 2000000
set_option maxRecDepth 100000 in
theorem cSplit_long (l : List UInt8) (w : World) (hl : 65536 < l.length) : Calls Tryd.prog 8 #[.string (tx l)] w fun e w' => e = .returned (.tuple #[.slice none 0 0, .int .i64 21]) ∧ Ext w w' := by
  have hsz : decide ((65536 : Int) < ((tx l).size : Int)) = true := by rw [tx_size]; simp; omega
  generalize tx l = s at *
  go_enter Tryd.func8, Tryd.ntmps8
  go_wp2
  go_ret2
  exact ⟨rfl, Ext.refl _⟩
theorem specP_len : ∀ (ps done : List (List UInt8)), (specP done ps).1.length ≤ done.length + ps.length
  | [], done => by simp [specP]
  | p :: q, done => by
    rw [specP]
    split
    · split <;> simp
    · split
      · have := specP_len q (done ++ [p])
        simp at this ⊢
        omega
      · simp
theorem lines_len (l : List UInt8) : (linesOf l).1.length ≤ l.length + 1 := by
  have h1 := specP_len (parts 10 l) []
  have h2 := parts_len 10 l
  unfold linesOf
  simp at h1
  omega
set_option maxRecDepth 100000 in
theorem splits_long (s : ByteArray) (r : List (List UInt8) × Nat × Nat) (ws : List (List UInt8)) (w : World) (E : Env w) (hr : r.1.length ≤ 1000000) (hws : ws.length ≤ 1000000) (h7 : s.size ≤ 70000)
    (hlong : ("long" = "long" ∧ 65536 < s.size) ∨ ("long" ≠ "long" ∧ s.size ≤ 65536))
    (C1 : ∀ w', Ext w w' → Calls Tryd.prog 8 #[.string s] w' fun e w'' => (∃ a cap, e = .returned (.tuple #[.slice a 0 cap, .int .i64 21]) ∧ True) ∧ Ext w' w'')
    (C2 : ∀ w', Ext w w' → Calls Tryd.prog 9 #[.string s] w' (LinesDoes w' r))
    (C3 : ∀ w', Ext w w' → Calls Tryd.prog 10 #[.string s] w' (LinesDoes w' r))
    (C4 : ∀ w', Ext w w' → Calls Tryd.prog 12 #[.string s] w' fun e w'' => e = .returned (.bool (isLineB s.data.toList)) ∧ w' = w'')
    (C5 : ∀ w', Ext w w' → Calls Tryd.prog 13 #[.string s] w' (GivesS w' ws)) :
    Calls Tryd.prog 3 #[.string s] w fun e w' => e = .returned (.bool true) ∧ Ext w w' := by
  have d1 : decide ((70000 : Int) < (s.size : Int)) = false := by simp; omega
  have d2 : decide ((65536 : Int) < (s.size : Int)) = true := by
    rcases hlong with ⟨h1, h2⟩ | ⟨h1, h2⟩
    · first | (simp; omega) | (exact absurd h1 (by decide))
    · first | (simp; omega) | (exact absurd rfl h1)
  have K1 := Lib.hid C1; have K2 := Lib.hid C2; have K3 := Lib.hid C3; have K4 := Lib.hid C4; have K5 := Lib.hid C5
  have S1 := Lib.hid (fun a b ca cb w h1 h2 => same6 a b r.1.length ca cb r.1 w h1 h2 hr)
  have S2 := Lib.hid (fun a b ca cb w h1 h2 => same6 a b ws.length ca cb ws w h1 h2 hws)
  unfold LinesDoes at K2 K3
  unfold GivesS at K5
  obtain ⟨m, hm⟩ : ∃ m, m = r.1.length := ⟨_, rfl⟩
  obtain ⟨g, hg⟩ : ∃ g, g = ws.length := ⟨_, rfl⟩
  rw [← hm] at K2 K3 S1
  rw [← hg] at S2 K5 
  generalize r.2.1 = at1 at *
  generalize r.2.2 = code at *
  clear C1 C2 C3 C4 C5 hr hws h7 hlong hm hg
  go_enter Tryd.func3, Tryd.ntmps3
  go_wp2_with fail
  refine (K1.out _ (Ext.refl _)).mono ?_
  rintro e w1 ⟨⟨a1, c1, rfl, T1⟩, X1⟩
  have HT1 := Lib.hid T1
  clear T1
  go_wp2_with fail
  refine (K2.out _ X1).mono ?_
  rintro e w2 ⟨⟨a2, c2, rfl, T2⟩, X2⟩
  have HT2 := Lib.hid T2
  have Y2 := X1.trans X2
  clear T2
  go_wp2_with fail
  refine (K3.out _ Y2).mono ?_
  rintro e w3 ⟨⟨a3, c3, rfl, T3⟩, X3⟩
  have HT3 := Lib.hid T3
  have HT2b := Lib.hid (HT2.out.later X3)
  have Y3 := Y2.trans X3
  have Z3 := Lib.hid (X2.trans X3)
  clear T3 X1 X2 X3 Y2 HT2
  go_wp2_with fail
  refine (S1.out _ _ _ _ _ HT2b.out HT3.out).mono ?_
  rintro e w4 ⟨rfl, X4⟩
  have Y4 := Y3.trans X4
  clear HT2b HT3 Y3
  go_wp2_with fail
  refine (live06 _ (E.later Y4)).mono ?_
  rintro e w9 ⟨rfl, X9⟩
  have Y9 := Ext.trans Y4 X9
  go_wp2
  go_ret
  exact ⟨rfl, Y9⟩
set_option maxRecDepth 100000 in
theorem splits_no (s : ByteArray) (r : List (List UInt8) × Nat × Nat) (ws : List (List UInt8)) (w : World) (E : Env w) (hr : r.1.length ≤ 1000000) (hws : ws.length ≤ 1000000) (h7 : s.size ≤ 70000)
    (hno : ("no" = "long" ∧ 65536 < s.size) ∨ ("no" ≠ "long" ∧ s.size ≤ 65536))
    (C1 : ∀ w', Ext w w' → Calls Tryd.prog 8 #[.string s] w' fun e w'' => (∃ a cap, e = .returned (.tuple #[.slice a 0 cap, .int .i64 20]) ∧ True) ∧ Ext w' w'')
    (C2 : ∀ w', Ext w w' → Calls Tryd.prog 9 #[.string s] w' (LinesDoes w' r))
    (C3 : ∀ w', Ext w w' → Calls Tryd.prog 10 #[.string s] w' (LinesDoes w' r))
    (C4 : ∀ w', Ext w w' → Calls Tryd.prog 12 #[.string s] w' fun e w'' => e = .returned (.bool false) ∧ w' = w'')
    (C5 : ∀ w', Ext w w' → Calls Tryd.prog 13 #[.string s] w' (GivesS w' ws)) :
    Calls Tryd.prog 3 #[.string s] w fun e w' => e = .returned (.bool true) ∧ Ext w w' := by
  have d1 : decide ((70000 : Int) < (s.size : Int)) = false := by simp; omega
  have d2 : decide ((65536 : Int) < (s.size : Int)) = false := by
    rcases hno with ⟨h1, h2⟩ | ⟨h1, h2⟩
    · first | (simp; omega) | (exact absurd h1 (by decide))
    · first | (simp; omega) | (exact absurd rfl h1)
  have K1 := Lib.hid C1; have K2 := Lib.hid C2; have K3 := Lib.hid C3; have K4 := Lib.hid C4; have K5 := Lib.hid C5
  have S1 := Lib.hid (fun a b ca cb w h1 h2 => same6 a b r.1.length ca cb r.1 w h1 h2 hr)
  have S2 := Lib.hid (fun a b ca cb w h1 h2 => same6 a b ws.length ca cb ws w h1 h2 hws)
  unfold LinesDoes at K2 K3
  unfold GivesS at K5
  obtain ⟨m, hm⟩ : ∃ m, m = r.1.length := ⟨_, rfl⟩
  obtain ⟨g, hg⟩ : ∃ g, g = ws.length := ⟨_, rfl⟩
  rw [← hm] at K2 K3 S1
  rw [← hg] at S2 K5 
  generalize r.2.1 = at1 at *
  generalize r.2.2 = code at *
  clear C1 C2 C3 C4 C5 hr hws h7 hno hm hg
  go_enter Tryd.func3, Tryd.ntmps3
  go_wp2_with fail
  refine (K1.out _ (Ext.refl _)).mono ?_
  rintro e w1 ⟨⟨a1, c1, rfl, T1⟩, X1⟩
  have HT1 := Lib.hid T1
  clear T1
  go_wp2_with fail
  refine (K2.out _ X1).mono ?_
  rintro e w2 ⟨⟨a2, c2, rfl, T2⟩, X2⟩
  have HT2 := Lib.hid T2
  have Y2 := X1.trans X2
  clear T2
  go_wp2_with fail
  refine (K3.out _ Y2).mono ?_
  rintro e w3 ⟨⟨a3, c3, rfl, T3⟩, X3⟩
  have HT3 := Lib.hid T3
  have HT2b := Lib.hid (HT2.out.later X3)
  have Y3 := Y2.trans X3
  have Z3 := Lib.hid (X2.trans X3)
  clear T3 X1 X2 X3 Y2 HT2
  go_wp2_with fail
  refine (S1.out _ _ _ _ _ HT2b.out HT3.out).mono ?_
  rintro e w4 ⟨rfl, X4⟩
  have Y4 := Y3.trans X4
  clear HT2b HT3 Y3
  go_wp2_with fail
  refine (K4.out _ Y4).mono ?_
  rintro e w' ⟨rfl, rfl⟩
  go_wp2_with fail
  refine (live06 _ (E.later Y4)).mono ?_
  rintro e w9 ⟨rfl, X9⟩
  have Y9 := Ext.trans Y4 X9
  go_wp2
  go_ret
  exact ⟨rfl, Y9⟩
set_option maxRecDepth 100000 in
theorem splits_yes (s : ByteArray) (r : List (List UInt8) × Nat × Nat) (ws : List (List UInt8)) (w : World) (E : Env w) (hr : r.1.length ≤ 1000000) (hws : ws.length ≤ 1000000) (h7 : s.size ≤ 70000)
    (hyes : ("yes" = "long" ∧ 65536 < s.size) ∨ ("yes" ≠ "long" ∧ s.size ≤ 65536))
    (C1 : ∀ w', Ext w w' → Calls Tryd.prog 8 #[.string s] w' fun e w'' => (∃ a cap, e = .returned (.tuple #[.slice a ws.length cap, .int .i64 0]) ∧ Texts w'' a ws.length ws) ∧ Ext w' w'')
    (C2 : ∀ w', Ext w w' → Calls Tryd.prog 9 #[.string s] w' (LinesDoes w' r))
    (C3 : ∀ w', Ext w w' → Calls Tryd.prog 10 #[.string s] w' (LinesDoes w' r))
    (C4 : ∀ w', Ext w w' → Calls Tryd.prog 12 #[.string s] w' fun e w'' => e = .returned (.bool true) ∧ w' = w'')
    (C5 : ∀ w', Ext w w' → Calls Tryd.prog 13 #[.string s] w' (GivesS w' ws)) :
    Calls Tryd.prog 3 #[.string s] w fun e w' => e = .returned (.bool true) ∧ Ext w w' := by
  have d1 : decide ((70000 : Int) < (s.size : Int)) = false := by simp; omega
  have d2 : decide ((65536 : Int) < (s.size : Int)) = false := by
    rcases hyes with ⟨h1, h2⟩ | ⟨h1, h2⟩
    · first | (simp; omega) | (exact absurd h1 (by decide))
    · first | (simp; omega) | (exact absurd rfl h1)
  have K1 := Lib.hid C1; have K2 := Lib.hid C2; have K3 := Lib.hid C3; have K4 := Lib.hid C4; have K5 := Lib.hid C5
  have S1 := Lib.hid (fun a b ca cb w h1 h2 => same6 a b r.1.length ca cb r.1 w h1 h2 hr)
  have S2 := Lib.hid (fun a b ca cb w h1 h2 => same6 a b ws.length ca cb ws w h1 h2 hws)
  unfold LinesDoes at K2 K3
  unfold GivesS at K5
  obtain ⟨m, hm⟩ : ∃ m, m = r.1.length := ⟨_, rfl⟩
  obtain ⟨g, hg⟩ : ∃ g, g = ws.length := ⟨_, rfl⟩
  rw [← hm] at K2 K3 S1
  rw [← hg] at S2 K5 K1
  generalize r.2.1 = at1 at *
  generalize r.2.2 = code at *
  clear C1 C2 C3 C4 C5 hr hws h7 hyes hm hg
  go_enter Tryd.func3, Tryd.ntmps3
  go_wp2_with fail
  refine (K1.out _ (Ext.refl _)).mono ?_
  rintro e w1 ⟨⟨a1, c1, rfl, T1⟩, X1⟩
  have HT1 := Lib.hid T1
  clear T1
  go_wp2_with fail
  refine (K2.out _ X1).mono ?_
  rintro e w2 ⟨⟨a2, c2, rfl, T2⟩, X2⟩
  have HT2 := Lib.hid T2
  have Y2 := X1.trans X2
  clear T2
  go_wp2_with fail
  refine (K3.out _ Y2).mono ?_
  rintro e w3 ⟨⟨a3, c3, rfl, T3⟩, X3⟩
  have HT3 := Lib.hid T3
  have HT2b := Lib.hid (HT2.out.later X3)
  have Y3 := Y2.trans X3
  have Z3 := Lib.hid (X2.trans X3)
  clear T3 X1 X2 X3 Y2 HT2
  go_wp2_with fail
  refine (S1.out _ _ _ _ _ HT2b.out HT3.out).mono ?_
  rintro e w4 ⟨rfl, X4⟩
  have Y4 := Y3.trans X4
  clear HT2b HT3 Y3
  go_wp2_with fail
  refine (K4.out _ Y4).mono ?_
  rintro e w' ⟨rfl, rfl⟩
  have HT1b := Lib.hid (HT1.out.later (Z3.out.trans X4))
  go_wp2_with fail
  refine (K5.out _ Y4).mono ?_
  rintro e w5 ⟨⟨a5, c5, rfl, T5⟩, X5⟩
  have HT5 := Lib.hid T5
  have HT1c := Lib.hid (HT1b.out.later X5)
  have Y5 := Y4.trans X5
  clear T5 HT1b HT1
  go_wp2_with fail
  refine (S2.out _ _ _ _ _ HT1c.out HT5.out).mono ?_
  rintro e w6 ⟨rfl, X6⟩
  have Y6 := Y5.trans X6
  clear X6 Y5 HT1c HT5
  go_wp2_with fail
  refine (live06 _ (E.later Y6)).mono ?_
  rintro e w9 ⟨rfl, X9⟩
  have Y9 := Ext.trans Y6 X9
  go_wp2
  go_ret
  exact ⟨rfl, Y9⟩
theorem wordsSplits_walk (s : ByteArray) (w : World) {p : Prop} (w0 : p) (E : Env w) : Calls Tryd.prog 3 #[.string s] w fun e w' => e = .returned (.bool true) ∧ Below w.heap.size w w' := by
  suffices HS : Calls Tryd.prog 3 #[.string s] w fun e w' => e = .returned (.bool true) ∧ Ext w w' from HS.mono fun e w' ⟨h1, h2⟩ => ⟨h1, h2.below⟩
  by_cases h7 : 70000 < s.size
  · have d1 : decide ((70000 : Int) < (s.size : Int)) = true := by simp; omega
    clear w0 h7
    go_enter Tryd.func3, Tryd.ntmps3
    go_wp2_with fail
    refine (live06 _ E).mono ?_
    rintro e w1 ⟨rfl, X1⟩
    go_wp2
    go_ret
    exact ⟨rfl, X1⟩
  · obtain ⟨l, rfl⟩ : ∃ l, s = tx l := ⟨s.data.toList, (tx_eq s).symm⟩
    rw [tx_size] at h7
    by_cases h6 : 65536 < l.length
    · exact splits_long (tx l) ([], 0, 21) (if l = [] then [] else parts 32 l) w E (by simp) (by have := parts_len 32 l; split <;> first | omega | simp) (by rw [tx_size]; omega) (.inl ⟨rfl, by rw [tx_size]; exact h6⟩)
        (fun w' X => (cSplit_long l w' h6).mono fun e w'' ⟨h1, h2⟩ => ⟨⟨none, 0, h1, trivial⟩, h2⟩) (fun w' X => wLines_long l w' h6) (fun w' X => rLines_long l w' h6) (fun w' X => by have := rLine l w' (by omega); rw [tx_list]; exact this) (fun w' X => rSplit l w' (by omega))
    · have hlen := lines_len l
      have hpl := parts_len 32 l
      cases hI : isLineB l with
      | false =>
        exact splits_no (tx l) (linesOf l) (if l = [] then [] else parts 32 l) w E (by omega) (by split <;> first | omega | simp) (by rw [tx_size]; omega) (.inr ⟨by decide, by rw [tx_size]; omega⟩)
          (fun w' X => (cSplit_no l w' (by omega) hI).mono fun e w'' ⟨h1, h2⟩ => ⟨⟨none, 0, h1, trivial⟩, h2⟩) (fun w' X => wLines l w' (by omega) (E.later X)) (fun w' X => rLines l w' (by omega)) (fun w' X => by have := rLine l w' (by omega); rwa [hI] at this) (fun w' X => rSplit l w' (by omega))
      | true =>
        refine splits_yes (tx l) (linesOf l) (if l = [] then [] else parts 32 l) w E (by omega) (by split <;> first | omega | simp) (by rw [tx_size]; omega) (.inr ⟨by decide, by rw [tx_size]; omega⟩)
          ?_ (fun w' X => wLines l w' (by omega) (E.later X)) (fun w' X => rLines l w' (by omega)) (fun w' X => by have := rLine l w' (by omega); rwa [hI] at this) (fun w' X => rSplit l w' (by omega))
        intro w' X
        by_cases h0 : l = []
        · rw [if_pos h0]
          subst h0
          exact (cSplit_nil w').mono fun e w'' ⟨h1, h2⟩ => ⟨⟨none, 0, h1, rfl, .inl rfl⟩, h2⟩
        · rw [if_neg h0]
          exact (cSplit_yes l w' (by omega) h0 hI (E.later X))
end Go.Proofs.YtchelhmefghcdaaDoor
