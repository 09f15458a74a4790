/- words.isLine: is a text a line? -/
import Derived.Test.YtchelhmefghcdaaDoorNumW
import Derived.Laws.RangeString
import Derived.Laws.RangeAny
import Derived.LoopTactic
namespace Go.Proofs.YtchelhmefghcdaaDoor
open Go.RowKit
set_option linter.unusedVariables false
set_option maxHeartbeats 2000000
/-- a line's rest, behind this byte -/
def lineFrom (before : Nat) : List UInt8 → Bool
  | [] => decide (before ≠ 32)
  | c :: r => if c.toNat < 32 ∨ 126 < c.toNat ∨ (c.toNat = 32 ∧ before = 32) then false else lineFrom c.toNat r
def isLineB (l : List UInt8) : Bool := decide (l = []) || lineFrom 32 l
theorem dec_hi (s : ByteArray) (k : Nat) (h : k < s.size) (hc : 128 ≤ (s[k]'h).toNat) : 128 ≤ (Utf8.decode s k).1 := (decode_high s k h hc).1
theorem tx_getE (l : List UInt8) (k : Nat) (h : k < (tx l).size) : (tx l)[k]'h = l[k]'(by rw [tx_size] at h; exact h) := by
  simp [tx, ByteArray.getElem_eq_getElem_data]
theorem line_drop (l : List UInt8) (k : Nat) (h : k < l.length) (b : Nat) : lineFrom b (l.drop k) = if (l[k]).toNat < 32 ∨ 126 < (l[k]).toNat ∨ ((l[k]).toNat = 32 ∧ b = 32) then false else lineFrom (l[k]).toNat (l.drop (k + 1)) := by
  rw [List.drop_eq_getElem_cons h]
  rfl
set_option maxRecDepth 100000 in
theorem cIsLine (l : List UInt8) (w : World) (hl : l.length ≤ 4611686018427387903) :
    Calls Tryd.prog 25 #[.string (tx l)] w fun e w' => e = .returned (.bool (isLineB l)) ∧ Ext w w' := by
  obtain ⟨s, hs⟩ : ∃ s, s = tx l := ⟨_, rfl⟩
  rw [← hs]
  have HS := Lib.hid hs
  have hsz : s.size = l.length := by rw [hs]; rfl
  have HZ := Lib.hid hsz
  have hemp : (s.toList == []) = decide (l = []) := by
    rw [hs]
    have : (tx l).toList = l := by rw [ByteArray.toList_eq]; simp [tx]
    rw [this]
    cases l <;> simp
  have HE := Lib.hid hemp
  clear hs hsz hemp
  go_enter Tryd.func25, Tryd.ntmps25
  go_wp2
  go_loopw [3] (fun v w' => ∃ (k b : Nat), w' = w.iter s k ∧ v = .int .i32 b ∧ k ≤ l.length ∧ lineFrom b (l.drop k) = lineFrom 32 l) (fun _ w' => s.size - w'.iterPos w.heap.size)
  case atStart => exact ⟨0, 32, rfl, rfl, Nat.zero_le _, rfl⟩
  case round =>
    obtain ⟨k, b, rfl, rfl, hk, hf⟩ := hrel
    have HF := Lib.hid hf
    clear hf
    by_cases hp : k < s.size
    · have hkl : k < l.length := by have := HZ.out; omega
      have hL := line_drop l k hkl b
      have hge : (s[k]'hp) = l[k] := by
        have := HS.out
        subst this
        exact tx_getE l k hp
      obtain ⟨r, d, hrd⟩ : ∃ r d : Nat, Utf8.decode s k = (r, d) := ⟨_, _, rfl⟩
      have hnx : ∀ ty, (Instr.next (.pointer (some ⟨w.heap.size, 0, none⟩)) true ty).run Tryd.prog (w.iter s k) = .ok (.tuple #[.bool true, .int .i64 k, .int .i32 r]) (w.iter s (k + d)) := fun ty => by
        have := run_next_any (P := Tryd.prog) w s k ty hp
        rw [hrd] at this
        exact this
      have hcase : (128 ≤ (l[k]).toNat ∧ 128 ≤ r) ∨ ((l[k]).toNat < 128 ∧ r = (l[k]).toNat ∧ d = 1) := by
        rcases Nat.lt_or_ge (l[k]).toNat 128 with h | h
        · right
          have := decode_ascii s k hp (by rw [hge]; exact h)
          rw [hrd, hge] at this
          exact ⟨h, (Prod.mk.injEq ..).mp this |>.1, (Prod.mk.injEq ..).mp this |>.2⟩
        · left
          have := dec_hi s k hp (by rw [hge]; exact h)
          rw [hrd] at this
          exact ⟨h, this⟩
      generalize (l[k]).toNat = c at *
      have HL := Lib.hid hL
      have HP := Lib.hid hp
      clear hL hge hrd
      -- no line
      have hno : Hid ((r < 32 ∨ 126 < r ∨ (r = 32 ∧ b = 32)) → isLineB l = false) := Lib.hid (fun h => by
        have h1 := HL.out
        rw [if_pos (by omega), HF.out] at h1
        unfold isLineB
        rw [h1]
        have : l ≠ [] := by intro e; rw [e] at hkl; simp at hkl
        simp [this])
      by_cases h1 : r < 32
      · have hI : isLineB l = false := hno.out (.inl h1)
        have HI := Lib.hid hI
        clear hno hcase hI hkl hk
        have h1' : decide (r < 32) = true := by simpa using h1
        go_wp2
        go_ret
        exact ⟨by rw [HI.out]; rfl, (Ext.refl w).alloc _⟩
      · have h1' : decide (r < 32) = false := by simpa using h1
        by_cases h2 : 126 < r
        · have hI : isLineB l = false := hno.out (.inr (.inl h2))
          have HI := Lib.hid hI
          clear hno hcase hI hkl hk
          have h2' : decide (126 < r) = true := by simpa using h2
          go_wp2
          go_ret
          exact ⟨by rw [HI.out]; rfl, (Ext.refl w).alloc _⟩
        · have h2' : decide (126 < r) = false := by simpa using h2
          obtain ⟨hc1, hrc, hd1⟩ : c < 128 ∧ r = c ∧ d = 1 := by omega
          subst hd1
          by_cases h3 : r = 32
          · by_cases h4 : b = 32
            · have hI : isLineB l = false := hno.out (.inr (.inr ⟨h3, h4⟩))
              have HI := Lib.hid hI
              clear hno hcase hI hkl hk hrc
              subst h3
              subst h4
              go_wp2
              go_ret
              exact ⟨by rw [HI.out]; rfl, (Ext.refl w).alloc _⟩
            · have HG : Hid (lineFrom r (l.drop (k + 1)) = lineFrom 32 l) := Lib.hid (by
                have := HL.out
                rw [if_neg (by omega), HF.out] at this
                rw [this, hrc])
              clear hno hcase hrc
              subst h3
              have h4' : ((b : Int) == 32) = false := by simp; omega
              go_wp2
              go_roundw
              case rel => exact ⟨k + 1, 32, rfl, rfl, hkl, HG.out⟩
              case measure => simp; have := HP.out; omega
          · have HG : Hid (lineFrom r (l.drop (k + 1)) = lineFrom 32 l) := Lib.hid (by
              have := HL.out
              rw [if_neg (by omega), HF.out] at this
              rw [this, hrc])
            clear hno hcase hrc
            have h3' : ((r : Int) == 32) = false := by simp; omega
            go_wp2
            go_roundw
            case rel => exact ⟨k + 1, r, rfl, rfl, hkl, HG.out⟩
            case measure => simp; have := HP.out; omega
    · have hnx : ∀ ty, (Instr.next (.pointer (some ⟨w.heap.size, 0, none⟩)) true ty).run Tryd.prog (w.iter s k) = _ := fun ty => run_next_end w s k ty hp
      have hkk : k = l.length := by have := HZ.out; omega
      have hfin := HF.out
      rw [hkk, List.drop_length] at hfin
      have hfin2 : lineFrom 32 l = decide (b ≠ 32) := by rw [← hfin]; rfl
      have he := HE.out
      by_cases h0 : l = []
      · have hI : isLineB l = true := by simp [isLineB, h0]
        have HI := Lib.hid hI
        have he' : (s.toList == []) = true := by rw [he]; simpa using h0
        clear he hfin hfin2 hI hkk h0
        go_wp2
        go_ret
        exact ⟨by rw [HI.out]; rfl, (Ext.refl w).alloc _⟩
      · have hI : isLineB l = decide (b ≠ 32) := by simp [isLineB, h0, hfin2]
        have he' : (s.toList == []) = false := by rw [he]; simpa using h0
        clear he hfin hfin2 hkk h0
        by_cases h4 : b = 32
        · have HI : Hid (isLineB l = false) := Lib.hid (by rw [hI]; simpa using h4)
          clear hI
          subst h4
          go_wp2
          go_ret
          exact ⟨by rw [HI.out]; rfl, (Ext.refl w).alloc _⟩
        · have h4' : ((b : Int) == 32) = false := by simp; omega
          have HI : Hid (isLineB l = true) := Lib.hid (by rw [hI]; simpa using h4)
          clear hI
          go_wp2
          go_ret
          have e : ((b : Int) != 32) = true := by simp; omega
          refine ⟨?_, (Ext.refl w).alloc _⟩
          rw [HI.out, ← e]
          rfl
end Go.Proofs.YtchelhmefghcdaaDoor
