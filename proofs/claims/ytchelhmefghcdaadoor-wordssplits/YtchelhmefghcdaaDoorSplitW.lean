/- words.Split where the text is a line; words.Join. -/
import Derived.Test.YtchelhmefghcdaaDoorParts
import Derived.Test.YtchelhmefghcdaaDoorWLive
namespace Go.Proofs.YtchelhmefghcdaaDoor
open Go.RowKit
set_option linter.unusedVariables false
set_option maxHeartbeats 2000000
def blankB : ByteArray := ⟨#[32]⟩
theorem split_bl (l : List UInt8) : Lib.splitB blankB 0 (Lib.countB (tx l) blankB) (tx l) = (parts 32 l).map tx ∧ (parts 32 l).length = Lib.countB (tx l) blankB + 1 := by
  have hc : Lib.countB (tx l) blankB = l.count 32 := by
    show Lib.count (tx l).data.toList [32] = _
    rw [tx_list, Lib.count_one]
  have h := Lib.splitB_data blankB 0 (Lib.countB (tx l) blankB) (tx l)
  rw [tx_list] at h
  have h2 : Lib.splitK blankB.data.toList 0 (Lib.countB (tx l) blankB) l = parts 32 l := by rw [hc]; exact split_parts 32 l
  rw [h2] at h
  refine ⟨?_, ?_⟩
  · rw [← h, List.map_map]
    conv => lhs; rw [← List.map_id (Lib.splitB blankB 0 (Lib.countB (tx l) blankB) (tx l))]
    exact List.map_congr_left fun s _ => (tx_eq s).symm
  · rw [← h, List.length_map]
    exact Lib.splitB_all blankB (by decide) 0 _ _ rfl
theorem cClone (s : ByteArray) (w : World) (h : s.size ≤ 281474976710656) : Calls Tryd.prog 27 #[.string s] w fun e w' => e = .returned (.string s) ∧ Ext w w' := by
  have c := Lib.hid (Tryd.stringslite_Clone s w h)
  go_enter Tryd.func27, Tryd.ntmps27
  go_wp2_with fail
  refine c.out.mono ?_
  rintro e w1 ⟨rfl, X1⟩
  go_wp2
  go_ret
  exact ⟨rfl, X1⟩
set_option maxRecDepth 100000 in
theorem cSplit_nil (w : World) : Calls Tryd.prog 8 #[.string (tx [])] w fun e w' => e = .returned (.tuple #[.slice none 0 0, .int .i64 0]) ∧ Ext w w' := by
  have c := Lib.hid (cIsLine [] w (by decide))
  have hI : isLineB [] = true := rfl
  rw [hI] at c
  have hsz : decide ((65536 : Int) < ((tx []).size : Int)) = false := by decide
  have he : ((tx []).toList == []) = true := by rw [tx_tl]; rfl
  generalize tx [] = s at *
  clear hI
  go_enter Tryd.func8, Tryd.ntmps8
  go_wp2_with fail
  refine c.out.mono ?_
  rintro e w1 ⟨rfl, hw1⟩
  go_wp2
  go_ret2
  exact ⟨rfl, hw1⟩
set_option maxRecDepth 100000 in
theorem cSplit_yes (l : List UInt8) (w : World) (hl : l.length ≤ 65536) (h0 : l ≠ []) (h : isLineB l = true) (E : Env w) :
    Calls Tryd.prog 8 #[.string (tx l)] w fun e w' => (∃ a cap, e = .returned (.tuple #[.slice a (parts 32 l).length cap, .int .i64 0]) ∧ Texts w' a (parts 32 l).length (parts 32 l)) ∧ Ext w w' := by
  have c := Lib.hid (cIsLine l w (by omega))
  rw [h] at c
  have hsz : decide ((65536 : Int) < ((tx l).size : Int)) = false := by rw [tx_size]; simp; omega
  have he : ((tx l).toList == []) = false := by rw [tx_tl]; simpa using h0
  have c2 := Lib.hid (fun w => cClone (tx l) w (by rw [tx_size]; omega))
  have c3 : Hid (∀ w, Env w → Calls Tryd.prog 26 #[.string (tx l), .string { data := #[32] }] w fun e w' => e = .returned (.slice (some ⟨w.heap.size, 0, none⟩) (parts 32 l).length (parts 32 l).length) ∧ w' = w.alloc (.cells (((parts 32 l).map tx).map Value.string).toArray 9)) := Lib.hid (fun w E => by
    obtain ⟨m, hm⟩ := E.max
    have c := Tryd.strings_Split (tx l) blankB m w (by rw [tx_size]; omega) hm (by decide)
    rw [(split_bl l).1, ← (split_bl l).2] at c
    exact c)
  generalize tx l = s at *
  clear h
  go_enter Tryd.func8, Tryd.ntmps8
  go_wp2_with fail
  refine c.out.mono ?_
  rintro e w1 ⟨rfl, X1⟩
  go_wp2_with fail
  refine (c2.out _).mono ?_
  rintro e w2 ⟨rfl, X2⟩
  have Y2 := X1.trans X2
  clear X1 X2
  go_wp2_with fail
  refine (c3.out _ (E.later Y2)).mono ?_
  rintro e w3 ⟨rfl, hw3⟩
  have Y3 : Ext w w3 := hw3 ▸ Y2.alloc _
  have hT : Texts w3 (some ⟨w2.heap.size, 0, none⟩) (parts 32 l).length (parts 32 l) := by
    refine ⟨rfl, .inr ⟨w2.heap.size, 0, rfl, fun i hi => ?_⟩⟩
    rw [hw3, Nat.zero_add, World.cell?_alloc_new]
    simp [hi]
  have HT := Lib.hid hT
  clear hw3 hT Y2
  go_wp2
  go_ret2
  exact ⟨⟨_, _, rfl, HT.out⟩, Y3⟩
set_option maxRecDepth 100000 in
theorem cJoin (a : Option Addr) (len cap : Nat) (ls : List (List UInt8)) (w : World) (h : Texts w a len ls) (hl : (cat [32] ls).length ≤ 100000000000000) (hn : len < 4611686018427387904) :
    Calls Tryd.prog 24 #[.slice a len cap] w fun e w' => e = .returned (.string (tx (cat [32] ls))) ∧ Ext w w' := by
  have c : Hid (Calls Tryd.prog 32 #[.string { data := #[32] }, .slice a len cap] w fun e w' => e = .returned (.string (tx (cat [32] ls))) ∧ Ext w w') := Lib.hid (cBetween [32] a len cap ls w h hl hn)
  clear h
  generalize tx (cat [32] ls) = s at *
  go_enter Tryd.func24, Tryd.ntmps24
  go_wp2_with fail
  refine c.out.mono ?_
  rintro e w1 ⟨rfl, X1⟩
  go_wp2
  go_ret
  exact ⟨rfl, X1⟩
end Go.Proofs.YtchelhmefghcdaaDoor
