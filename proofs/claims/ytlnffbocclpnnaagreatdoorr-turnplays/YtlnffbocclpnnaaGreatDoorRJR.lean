import Derived.Test.YtlnffbocclpnnaaGreatDoorRJB
import Derived.Test.YtlnffbocclpnnaaGreatDoorRJT
import Derived.Test.YtlnffbocclpnnaaGreatDoorROpenC
import Derived.Test.YtlnffbocclpnnaaGreatDoorRLong
import Derived.Test.YtlnffbocclpnnaaGreatDoorRCf2
/- Frames in a row of their own: where each Enter has come to, its ticket. -/
namespace Go.Proofs.YtlnffbocclpnnaaGreatDoorR
open Go.RowKit
set_option linter.unusedVariables false
set_option linter.unusedSimpArgs false
theorem row_u8 {w : World} {a : Option Addr} {len cap : Nat} {zs : List Int} (h : IsRow .u8 w a len cap zs) {i : Nat} (hi : i < len) : ∃ (b off z : Nat), z < 256 ∧ a = some ⟨b, off, none⟩ ∧ w.cell? ⟨b, off + i, none⟩ = some (.int .u8 z) := by
  rcases h with ⟨rfl, rfl, rfl, rfl⟩ | ⟨x, rfl, hl, hm, hz, hc, hw⟩
  · omega
  · have h1 := hc 0 (by omega)
    have hx := spot_none h1
    simp [Addr.add] at hx
    have h2 := hc i (by omega)
    have hwz := hw (zs.getD i 0) (by simp [show i < zs.length by omega])
    obtain ⟨z0, z1⟩ : 0 ≤ zs.getD i 0 ∧ zs.getD i 0 < 256 := by
      generalize zs.getD i 0 = z at *
      simp [Lit.wf, IntKind.min, IntKind.max, IntKind.signed, IntKind.bits] at hwz
      omega
    rw [hx] at h2
    refine ⟨x.block, x.off, (zs.getD i 0).toNat, by omega, by rw [← hx], ?_⟩
    rw [show (((zs.getD i 0).toNat : Nat) : Int) = zs.getD i 0 by omega]
    by_cases hj0 : i = 0
    · subst hj0; simpa [Addr.add] using h2
    · simpa [Addr.add, hj0] using h2
theorem there_of {n : Nat} {w : World} {b : Nat} {f : Nat → Value} (h : VA n w b f) {o m : Nat} (hm : o + m ≤ n) : w.there b o m := fun j hj => by
  have hc := h.c (o + j) (by omega)
  exact ⟨by rw [hc]; rfl, h.z (o + j) (by omega)⟩
/-- some cells of a block are written anew -/
theorem va_part {n : Nat} {w : World} {b : Nat} {f g : Nat → Value} (h : VA n w b f) {o : Nat} (vs : List Value) (hm : o + vs.length ≤ n) (hin : ∀ j, (hj : j < vs.length) → g (o + j) = vs[j]) (hout : ∀ i, i < n → (i < o ∨ o + vs.length ≤ i) → g i = f i) : VA n (w.setCells b o vs) b g := by
  refine ⟨fun i hi => ?_, fun i hi => by rw [World.frozen?_setCells]; exact h.z i hi⟩
  by_cases hio : i < o ∨ o + vs.length ≤ i
  · rw [World.cell?_setCells_out b vs o w ⟨b, i, none⟩ (fun _ _ => hio), hout i hi hio]
    exact h.c i hi
  · have hj : i - o < vs.length := by omega
    have := World.rangeAt_setCells_same w b o vs (there_of h hm) (i - o) vs[i - o] (List.getElem?_eq_getElem hj)
    rw [show o + (i - o) = i by omega] at this
    rw [this, ← hin (i - o) hj, show o + (i - o) = i by omega]
theorem but_setCells (b : Nat) : ∀ (cs : List Value) (o : Nat) (w : World), But (· = b) w (w.setCells b o cs)
  | [], _, w => But.refl _ w
  | v :: r, o, w => (but_setCell w ⟨b, o, none⟩ v).trans (but_setCells b r (o + 1) _)
theorem Odd.sets {w : World} {k b : Nat} (h : Odd w k) : ∀ (cs : List Value) (o : Nat), Odd (w.setCells b o cs) k := by
  intro cs
  induction cs generalizing w with
  | nil => intro o; exact h
  | cons v r ih => intro o; exact ih (h.set (b := b) (o := o) (v := v)) (o + 1)
/-- a part of a block, as a range -/
theorem range_part {n : Nat} {w : World} {b : Nat} {f : Nat → Value} (h : VA n w b f) {o : Nat} (vs : List Value) (hm : o + vs.length ≤ n) (hin : ∀ j, (hj : j < vs.length) → f (o + j) = vs[j]) : w.rangeAt b o vs := fun j v hv => by
  obtain ⟨hj, e⟩ := List.getElem?_eq_some_iff.1 hv
  rw [← e, ← hin j hj]
  exact h.c (o + j) (by omega)
def frV32 (P O : Nat → Int) (i : Nat) : Value :=
  if i % 11 = 3 then .int .i64 (P (i / 11)) else if i % 11 = 9 then .int .u32 (O (i / 11)) else if i % 11 < 6 then .int .i64 0 else if i % 11 < 9 then .int .u32 0 else .slice none 0 0
theorem frV32_3 (P O : Nat → Int) (t : Nat) : frV32 P O (t * 11 + 3) = .int .i64 (P t) := by
  unfold frV32
  rw [if_pos (by omega), show (t * 11 + 3) / 11 = t by omega]
theorem frV32_9 (P O : Nat → Int) (t : Nat) : frV32 P O (t * 11 + 9) = .int .u32 (O t) := by
  unfold frV32
  rw [if_neg (by omega), if_pos (by omega), show (t * 11 + 9) / 11 = t by omega]
theorem frV32_off (P O : Nat → Int) (t : Nat) (a b : Int) (i : Nat) (h3 : i ≠ t * 11 + 3) (h9 : i ≠ t * 11 + 9) : frV32 (upd P t a) (upd O t b) i = frV32 P O i := by
  unfold frV32 upd
  by_cases e3 : i % 11 = 3
  · rw [if_pos e3, if_pos e3, if_neg (by omega)]
  · rw [if_neg e3, if_neg e3]
    by_cases e9 : i % 11 = 9
    · rw [if_pos e9, if_pos e9, if_neg (by omega)]
    · rw [if_neg e9, if_neg e9]
def frZ32 (a b : Int) : List Value := [.int .i64 0, .int .i64 0, .int .i64 0, .int .i64 a, .int .i64 0, .int .i64 0, .int .u32 0, .int .u32 0, .int .u32 0, .int .u32 b, .slice none 0 0]
theorem frZ32_at (P O : Nat → Int) (t : Nat) (j : Nat) (hj : j < (frZ32 (P t) (O t)).length) : frV32 P O (t * 11 + j) = (frZ32 (P t) (O t))[j] := by
  have hj' : j < 11 := hj
  have h11 : j = 0 ∨ j = 1 ∨ j = 2 ∨ j = 3 ∨ j = 4 ∨ j = 5 ∨ j = 6 ∨ j = 7 ∨ j = 8 ∨ j = 9 ∨ j = 10 := by omega
  rcases h11 with rfl | rfl | rfl | rfl | rfl | rfl | rfl | rfl | rfl | rfl | rfl
  all_goals
    unfold frV32
    simp only [show ∀ k, (t * 11 + k) % 11 = k % 11 from fun k => by omega, show (t * 11 + 3) / 11 = t by omega, show (t * 11 + 9) / 11 = t by omega]
    rfl
theorem ft_of32 {n w t fb} {P O : Nat → Int} (h : VA n w fb (frV32 P O)) (ht : t * 11 + 11 ≤ n) (ho : Odd w fb) : FT32 w fb (t * 11) (P t) (O t) :=
  ⟨by have := h.c (t * 11 + 3) (by omega); rwa [frV32_3] at this, h.z (t * 11 + 3) (by omega), by have := h.c (t * 11 + 9) (by omega); rwa [frV32_9] at this, h.z (t * 11 + 9) (by omega), ho⟩
theorem va_keep32 {n t fb : Nat} {w w' : World} {P O : Nat → Int} {a b : Int} (h : VA n w fb (frV32 P O)) (hk : Keep32 w w' fb (t * 11)) (hF : FT32 w' fb (t * 11) a b) : VA n w' fb (frV32 (upd P t a) (upd O t b)) := by
  refine ⟨fun i hi => ?_, fun i hi => hk.z i _ (h.c i hi) (h.z i hi)⟩
  by_cases e3 : i = t * 11 + 3
  · subst e3
    rw [frV32_3]
    have := hF.c3
    rw [this]
    simp [upd]
  · by_cases e9 : i = t * 11 + 9
    · subst e9
      rw [frV32_9]
      have := hF.c9
      rw [this]
      simp [upd]
    · rw [frV32_off P O t a b i e3 e9]
      exact hk.c i _ e3 e9 (h.c i hi)
theorem va_reset32 {n t fb : Nat} {w : World} {P O : Nat → Int} (h : VA n w fb (frV32 P O)) (ht : t * 11 + 11 ≤ n) (a b : Int) : VA n (w.setCells fb (t * 11) (frZ32 a b)) fb (frV32 (upd P t a) (upd O t b)) := by
  refine va_part h (frZ32 a b) ht (fun j hj => ?_) (fun i hi ho => ?_)
  · have := frZ32_at (upd P t a) (upd O t b) t j
    have e1 : upd P t a t = a := if_pos rfl
    have e2 : upd O t b t = b := if_pos rfl
    rw [e1, e2] at this
    exact this hj
  · have ho' : i < t * 11 ∨ t * 11 + 11 ≤ i := ho
    exact frV32_off P O t a b i (by omega) (by omega)
/-- a frame's eleven cells -/
structure C1132 (w : World) (fb o : Nat) (a b : Int) : Prop where
  c0 : w.cell? ⟨fb, o, none⟩ = some (.int .i64 0)
  c1 : w.cell? ⟨fb, o + 1, none⟩ = some (.int .i64 0)
  c2 : w.cell? ⟨fb, o + 2, none⟩ = some (.int .i64 0)
  c3 : w.cell? ⟨fb, o + 3, none⟩ = some (.int .i64 a)
  c4 : w.cell? ⟨fb, o + 4, none⟩ = some (.int .i64 0)
  c5 : w.cell? ⟨fb, o + 5, none⟩ = some (.int .i64 0)
  c6 : w.cell? ⟨fb, o + 6, none⟩ = some (.int .u32 0)
  c7 : w.cell? ⟨fb, o + 7, none⟩ = some (.int .u32 0)
  c8 : w.cell? ⟨fb, o + 8, none⟩ = some (.int .u32 0)
  c9 : w.cell? ⟨fb, o + 9, none⟩ = some (.int .u32 b)
  c10 : w.cell? ⟨fb, o + 10, none⟩ = some (.slice none 0 0)
  z0 : w.frozen? ⟨fb, o, none⟩ = false
  z1 : w.frozen? ⟨fb, o + 1, none⟩ = false
  z2 : w.frozen? ⟨fb, o + 2, none⟩ = false
  z3 : w.frozen? ⟨fb, o + 3, none⟩ = false
  z4 : w.frozen? ⟨fb, o + 4, none⟩ = false
  z5 : w.frozen? ⟨fb, o + 5, none⟩ = false
  z6 : w.frozen? ⟨fb, o + 6, none⟩ = false
  z7 : w.frozen? ⟨fb, o + 7, none⟩ = false
  z8 : w.frozen? ⟨fb, o + 8, none⟩ = false
  z9 : w.frozen? ⟨fb, o + 9, none⟩ = false
  z10 : w.frozen? ⟨fb, o + 10, none⟩ = false
theorem c11_of32 {n t fb : Nat} {w : World} {P O : Nat → Int} (h : VA n w fb (frV32 P O)) (ht : t * 11 + 11 ≤ n) : C1132 w fb (t * 11) (P t) (O t) :=
  have hc : ∀ j, (hj : j < (frZ32 (P t) (O t)).length) → w.cell? ⟨fb, t * 11 + j, none⟩ = some (frZ32 (P t) (O t))[j] := fun j hj => by
    have hj' : j < 11 := hj
    rw [← frZ32_at P O t j hj]
    exact h.c (t * 11 + j) (by omega)
  ⟨hc 0 (show 0 < 11 by decide), hc 1 (show 1 < 11 by decide), hc 2 (show 2 < 11 by decide), hc 3 (show 3 < 11 by decide), hc 4 (show 4 < 11 by decide), hc 5 (show 5 < 11 by decide), hc 6 (show 6 < 11 by decide), hc 7 (show 7 < 11 by decide), hc 8 (show 8 < 11 by decide), hc 9 (show 9 < 11 by decide), hc 10 (show 10 < 11 by decide), h.z (t * 11 + 0) (by omega), h.z (t * 11 + 1) (by omega), h.z (t * 11 + 2) (by omega), h.z (t * 11 + 3) (by omega), h.z (t * 11 + 4) (by omega), h.z (t * 11 + 5) (by omega), h.z (t * 11 + 6) (by omega), h.z (t * 11 + 7) (by omega), h.z (t * 11 + 8) (by omega), h.z (t * 11 + 9) (by omega), h.z (t * 11 + 10) (by omega)⟩
theorem frV32_new (n : Nat) : ∀ i, i < n → frV32 (fun _ => 0) (fun _ => 0) i = frV32 (fun _ => 0) (fun _ => 0) i := fun _ _ => rfl
def frV64 (P O : Nat → Int) (i : Nat) : Value :=
  if i % 11 = 3 then .int .i64 (P (i / 11)) else if i % 11 = 9 then .int .u64 (O (i / 11)) else if i % 11 < 6 then .int .i64 0 else if i % 11 < 9 then .int .u64 0 else .slice none 0 0
theorem frV64_3 (P O : Nat → Int) (t : Nat) : frV64 P O (t * 11 + 3) = .int .i64 (P t) := by
  unfold frV64
  rw [if_pos (by omega), show (t * 11 + 3) / 11 = t by omega]
theorem frV64_9 (P O : Nat → Int) (t : Nat) : frV64 P O (t * 11 + 9) = .int .u64 (O t) := by
  unfold frV64
  rw [if_neg (by omega), if_pos (by omega), show (t * 11 + 9) / 11 = t by omega]
theorem frV64_off (P O : Nat → Int) (t : Nat) (a b : Int) (i : Nat) (h3 : i ≠ t * 11 + 3) (h9 : i ≠ t * 11 + 9) : frV64 (upd P t a) (upd O t b) i = frV64 P O i := by
  unfold frV64 upd
  by_cases e3 : i % 11 = 3
  · rw [if_pos e3, if_pos e3, if_neg (by omega)]
  · rw [if_neg e3, if_neg e3]
    by_cases e9 : i % 11 = 9
    · rw [if_pos e9, if_pos e9, if_neg (by omega)]
    · rw [if_neg e9, if_neg e9]
def frZ64 (a b : Int) : List Value := [.int .i64 0, .int .i64 0, .int .i64 0, .int .i64 a, .int .i64 0, .int .i64 0, .int .u64 0, .int .u64 0, .int .u64 0, .int .u64 b, .slice none 0 0]
theorem frZ64_at (P O : Nat → Int) (t : Nat) (j : Nat) (hj : j < (frZ64 (P t) (O t)).length) : frV64 P O (t * 11 + j) = (frZ64 (P t) (O t))[j] := by
  have hj' : j < 11 := hj
  have h11 : j = 0 ∨ j = 1 ∨ j = 2 ∨ j = 3 ∨ j = 4 ∨ j = 5 ∨ j = 6 ∨ j = 7 ∨ j = 8 ∨ j = 9 ∨ j = 10 := by omega
  rcases h11 with rfl | rfl | rfl | rfl | rfl | rfl | rfl | rfl | rfl | rfl | rfl
  all_goals
    unfold frV64
    simp only [show ∀ k, (t * 11 + k) % 11 = k % 11 from fun k => by omega, show (t * 11 + 3) / 11 = t by omega, show (t * 11 + 9) / 11 = t by omega]
    rfl
theorem ft_of64 {n w t fb} {P O : Nat → Int} (h : VA n w fb (frV64 P O)) (ht : t * 11 + 11 ≤ n) (ho : Odd w fb) : FT64 w fb (t * 11) (P t) (O t) :=
  ⟨by have := h.c (t * 11 + 3) (by omega); rwa [frV64_3] at this, h.z (t * 11 + 3) (by omega), by have := h.c (t * 11 + 9) (by omega); rwa [frV64_9] at this, h.z (t * 11 + 9) (by omega), ho⟩
theorem va_keep64 {n t fb : Nat} {w w' : World} {P O : Nat → Int} {a b : Int} (h : VA n w fb (frV64 P O)) (hk : Keep64 w w' fb (t * 11)) (hF : FT64 w' fb (t * 11) a b) : VA n w' fb (frV64 (upd P t a) (upd O t b)) := by
  refine ⟨fun i hi => ?_, fun i hi => hk.z i _ (h.c i hi) (h.z i hi)⟩
  by_cases e3 : i = t * 11 + 3
  · subst e3
    rw [frV64_3]
    have := hF.c3
    rw [this]
    simp [upd]
  · by_cases e9 : i = t * 11 + 9
    · subst e9
      rw [frV64_9]
      have := hF.c9
      rw [this]
      simp [upd]
    · rw [frV64_off P O t a b i e3 e9]
      exact hk.c i _ e3 e9 (h.c i hi)
theorem va_reset64 {n t fb : Nat} {w : World} {P O : Nat → Int} (h : VA n w fb (frV64 P O)) (ht : t * 11 + 11 ≤ n) (a b : Int) : VA n (w.setCells fb (t * 11) (frZ64 a b)) fb (frV64 (upd P t a) (upd O t b)) := by
  refine va_part h (frZ64 a b) ht (fun j hj => ?_) (fun i hi ho => ?_)
  · have := frZ64_at (upd P t a) (upd O t b) t j
    have e1 : upd P t a t = a := if_pos rfl
    have e2 : upd O t b t = b := if_pos rfl
    rw [e1, e2] at this
    exact this hj
  · have ho' : i < t * 11 ∨ t * 11 + 11 ≤ i := ho
    exact frV64_off P O t a b i (by omega) (by omega)
/-- a frame's eleven cells -/
structure C1164 (w : World) (fb o : Nat) (a b : Int) : Prop where
  c0 : w.cell? ⟨fb, o, none⟩ = some (.int .i64 0)
  c1 : w.cell? ⟨fb, o + 1, none⟩ = some (.int .i64 0)
  c2 : w.cell? ⟨fb, o + 2, none⟩ = some (.int .i64 0)
  c3 : w.cell? ⟨fb, o + 3, none⟩ = some (.int .i64 a)
  c4 : w.cell? ⟨fb, o + 4, none⟩ = some (.int .i64 0)
  c5 : w.cell? ⟨fb, o + 5, none⟩ = some (.int .i64 0)
  c6 : w.cell? ⟨fb, o + 6, none⟩ = some (.int .u64 0)
  c7 : w.cell? ⟨fb, o + 7, none⟩ = some (.int .u64 0)
  c8 : w.cell? ⟨fb, o + 8, none⟩ = some (.int .u64 0)
  c9 : w.cell? ⟨fb, o + 9, none⟩ = some (.int .u64 b)
  c10 : w.cell? ⟨fb, o + 10, none⟩ = some (.slice none 0 0)
  z0 : w.frozen? ⟨fb, o, none⟩ = false
  z1 : w.frozen? ⟨fb, o + 1, none⟩ = false
  z2 : w.frozen? ⟨fb, o + 2, none⟩ = false
  z3 : w.frozen? ⟨fb, o + 3, none⟩ = false
  z4 : w.frozen? ⟨fb, o + 4, none⟩ = false
  z5 : w.frozen? ⟨fb, o + 5, none⟩ = false
  z6 : w.frozen? ⟨fb, o + 6, none⟩ = false
  z7 : w.frozen? ⟨fb, o + 7, none⟩ = false
  z8 : w.frozen? ⟨fb, o + 8, none⟩ = false
  z9 : w.frozen? ⟨fb, o + 9, none⟩ = false
  z10 : w.frozen? ⟨fb, o + 10, none⟩ = false
theorem c11_of64 {n t fb : Nat} {w : World} {P O : Nat → Int} (h : VA n w fb (frV64 P O)) (ht : t * 11 + 11 ≤ n) : C1164 w fb (t * 11) (P t) (O t) :=
  have hc : ∀ j, (hj : j < (frZ64 (P t) (O t)).length) → w.cell? ⟨fb, t * 11 + j, none⟩ = some (frZ64 (P t) (O t))[j] := fun j hj => by
    have hj' : j < 11 := hj
    rw [← frZ64_at P O t j hj]
    exact h.c (t * 11 + j) (by omega)
  ⟨hc 0 (show 0 < 11 by decide), hc 1 (show 1 < 11 by decide), hc 2 (show 2 < 11 by decide), hc 3 (show 3 < 11 by decide), hc 4 (show 4 < 11 by decide), hc 5 (show 5 < 11 by decide), hc 6 (show 6 < 11 by decide), hc 7 (show 7 < 11 by decide), hc 8 (show 8 < 11 by decide), hc 9 (show 9 < 11 by decide), hc 10 (show 10 < 11 by decide), h.z (t * 11 + 0) (by omega), h.z (t * 11 + 1) (by omega), h.z (t * 11 + 2) (by omega), h.z (t * 11 + 3) (by omega), h.z (t * 11 + 4) (by omega), h.z (t * 11 + 5) (by omega), h.z (t * 11 + 6) (by omega), h.z (t * 11 + 7) (by omega), h.z (t * 11 + 8) (by omega), h.z (t * 11 + 9) (by omega), h.z (t * 11 + 10) (by omega)⟩
theorem frV64_new (n : Nat) : ∀ i, i < n → frV64 (fun _ => 0) (fun _ => 0) i = frV64 (fun _ => 0) (fun _ => 0) i := fun _ _ => rfl
end Go.Proofs.YtlnffbocclpnnaaGreatDoorR
/- The program's board and the document's beside rows of frames; a step of each. -/
namespace Go.Proofs.YtlnffbocclpnnaaGreatDoorR
open Go.RowKit
set_option linter.unusedVariables false
set_option linter.unusedSimpArgs false
set_option maxHeartbeats 4000000
/-- a block that is no part of either board -/
structure Far (b g : Nat) (lv : Value) (b' : Nat) (r : RY) (lv' : Value) (w0 w : World) (k : Nat) : Prop where
  out : ¬ Own b g lv k
  out' : ¬ Own b' r.gh lv' k
  gc : r.gc ≠ k
  lo : w0.heap.size ≤ k
  hi : k < w.heap.size
theorem Far.up {b g : Nat} {lv : Value} {b' : Nat} {r : RY} {lv' : Value} {w0 w w' : World} {k : Nat} (h : Far b g lv b' r lv' w0 w k) (hs : w.heap.size ≤ w'.heap.size) : Far b g lv b' r lv' w0 w' k := ⟨h.out, h.out', h.gc, h.lo, Nat.lt_of_lt_of_le h.hi hs⟩
theorem own_out {b g k : Nat} {lv lv2 : Value} {w : World} (h : ¬ Own b g lv k) (hk : k < w.heap.size) (hA : lv2.ownBlock = lv.ownBlock ∨ ∃ j, lv2.ownBlock = some j ∧ w.heap.size ≤ j) : ¬ Own b g lv2 k := by
  rintro (e | e | e)
  · exact h (.inl e)
  · exact h (.inr (.inl e))
  · rcases hA with e' | ⟨j, e', hj⟩
    · exact h (.inr (.inr (by rw [← e']; exact e)))
    · rw [e'] at e
      have := Option.some.inj e
      omega
theorem Far.stepB {b g : Nat} {lv lv2 : Value} {b' : Nat} {r : RY} {lv' : Value} {w0 w w' : World} {k : Nat} (h : Far b g lv b' r lv' w0 w k) (hs : w.heap.size ≤ w'.heap.size) (hA : lv2.ownBlock = lv.ownBlock ∨ ∃ j, lv2.ownBlock = some j ∧ w.heap.size ≤ j) : Far b g lv2 b' r lv' w0 w' k := ⟨own_out h.out h.hi hA, h.out', h.gc, h.lo, Nat.lt_of_lt_of_le h.hi hs⟩
theorem Far.stepR {b g : Nat} {lv : Value} {b' : Nat} {r : RY} {lv' lv2 : Value} {w0 w w' : World} {k : Nat} (h : Far b g lv b' r lv' w0 w k) (hs : w.heap.size ≤ w'.heap.size) (hA : lv2.ownBlock = lv'.ownBlock ∨ ∃ j, lv2.ownBlock = some j ∧ w.heap.size ≤ j) : Far b g lv b' r lv2 w0 w' k := ⟨h.out, own_out h.out' h.hi hA, h.gc, h.lo, Nat.lt_of_lt_of_le h.hi hs⟩
/-- the first board and one more block have turned -/
theorem Two.stepK {w0 w w5 : World} {bt b g : Nat} {y : LY} {f f2 : Nat → Int} {lv lv5 : Value} {log log2 : List Acc} {b' : Nat} {r : RY} {f' : Nat → Int} {lv' : Value} {log' : List Acc} {k : Nat} (h : Two w0 w bt b g y f lv log b' r f' lv' log') (hbt : bt ≠ 96) (hk : Far b g lv b' r lv' w0 w k)
    (B5 : BD w5 bt b g y f2 lv5 log2) (hb : But (fun q => Own b g lv q ∨ q = k) w w5) (hat : lv5.ownBlock = lv.ownBlock ∨ ∃ j, lv5.ownBlock = some j ∧ w.heap.size ≤ j) : Two w0 w5 bt b g y f2 lv5 log2 b' r f' lv' log' := by
  refine ⟨B5, h.R.but hb (fun q hq hq2 => hq2.elim (fun e => h.ap q e hq) (fun e => hk.out' (by rw [← e]; exact hq))) (fun e => e.elim (h.gc hbt) hk.gc), fun q hq hq2 => ?_, But.ext h.ex hb (fun q hq => hq.elim (h.ob q) (fun e => by rw [e]; exact hk.lo)), own_new h.ob h.ex.size hat, h.od⟩
  rcases hq with e | e | e
  · exact h.ap q (.inl e) hq2
  · exact h.ap q (.inr (.inl e)) hq2
  · rcases hat with e' | ⟨j, e', hj⟩
    · exact h.ap q (.inr (.inr (by rw [← e']; exact e))) hq2
    · rw [e'] at e
      cases e
      have := h.R.lt hq2
      omega
/-- a block beside both has turned -/
theorem Two.off {w0 w w5 : World} {bt b g : Nat} {y : LY} {f : Nat → Int} {lv : Value} {log : List Acc} {b' : Nat} {r : RY} {f' : Nat → Int} {lv' : Value} {log' : List Acc} {k : Nat} (h : Two w0 w bt b g y f lv log b' r f' lv' log') (hk : Far b g lv b' r lv' w0 w k) (hb : But (· = k) w w5) : Two w0 w5 bt b g y f lv log b' r f' lv' log' :=
  ⟨h.B.but hb (fun q hq e => hk.out (by rw [← show q = k from e]; exact hq)), h.R.but hb (fun q hq e => hk.out' (by rw [← show q = k from e]; exact hq)) hk.gc, h.ap, But.ext h.ex hb (fun q e => by rw [show q = k from e]; exact hk.lo), h.ob, h.od⟩
theorem OwnL.odd {S : Nat → Prop} {w w' : World} {u : Value} {ups : List (List Int)} (h : OwnL w u ups) (hb : But S w w') (ho : ∀ k, S k → k < w.heap.size → Odd w k) : OwnL w' u ups := h.but hb (fun k hk hl => by
  obtain ⟨t, ⟨cur, ht⟩, h1, h2⟩ := ho k hk hl
  exact ⟨cur, t, _, ht, h1, h2⟩)
/-- one step of Enter -/
def EnRel (V W : Int) (n : Nat) (Pc Ow : Int) (f : Nat → Int) (log : List Acc) (t : Int) (d : Bool) (Pc' Ow' : Int) (f2 : Nat → Int) (log2 : List Acc) : Prop :=
  (¬ V = 5 ∧ d = true ∧ Pc' = Pc ∧ Ow' = Ow ∧ f2 = f ∧ log2 = log) ∨
  (V = 5 ∧ Pc = 0 ∧ d = false ∧ Pc' = 1 ∧ Ow' = f n ∧ f2 = upd f n (plusW W (f n) 1) ∧ log2 = log ++ [⟨t, 3, n, f n, plusW W (f n) 1⟩]) ∨
  (V = 5 ∧ ¬ Pc = 0 ∧ ¬ f (n + 1) = Ow ∧ d = false ∧ Pc' = Pc ∧ Ow' = Ow ∧ f2 = f ∧ log2 = log ++ [⟨t, 1, (n + 1 : Nat), f (n + 1), f (n + 1)⟩]) ∨
  (V = 5 ∧ ¬ Pc = 0 ∧ f (n + 1) = Ow ∧ d = true ∧ Pc' = 2 ∧ Ow' = Ow ∧ f2 = f ∧ log2 = log ++ [⟨t, 1, (n + 1 : Nat), f (n + 1), f (n + 1)⟩])
def LeRel (V W : Int) (n : Nat) (f : Nat → Int) (log : List Acc) (t : Int) (f2 : Nat → Int) (log2 : List Acc) : Prop :=
  (¬ V = 5 ∧ f2 = f ∧ log2 = log) ∨ (V = 5 ∧ f2 = upd f (n + 1) (plusW W (f (n + 1)) 1) ∧ log2 = log ++ [⟨t, 3, (n + 1 : Nat), f (n + 1), plusW W (f (n + 1)) 1⟩])
theorem EnRel.len {V W : Int} {n : Nat} {Pc Ow : Int} {f : Nat → Int} {log : List Acc} {t : Int} {d : Bool} {Pc' Ow' : Int} {f2 : Nat → Int} {log2 : List Acc} (h : EnRel V W n Pc Ow f log t d Pc' Ow' f2 log2) : log2.length ≤ log.length + 1 := by
  rcases h with ⟨_, _, _, _, _, e⟩ | ⟨_, _, _, _, _, _, e⟩ | ⟨_, _, _, _, _, _, _, e⟩ | ⟨_, _, _, _, _, _, _, e⟩ <;> rw [e] <;> simp
theorem LeRel.len {V W : Int} {n : Nat} {f : Nat → Int} {log : List Acc} {t : Int} {f2 : Nat → Int} {log2 : List Acc} (h : LeRel V W n f log t f2 log2) : log2.length ≤ log.length + 1 := by
  rcases h with ⟨_, _, e⟩ | ⟨_, _, e⟩ <;> rw [e] <;> simp
/-- both counters of a lock are of the width -/
def Rg32 (n : Nat) (f : Nat → Int) : Prop := (0 ≤ f n ∧ f n < 4294967296) ∧ (0 ≤ f (n + 1) ∧ f (n + 1) < 4294967296)
theorem plus_rg32 (x : Int) : 0 ≤ plusW 32 x 1 ∧ plusW 32 x 1 < 4294967296 := by
  unfold plusW
  first
    | (rw [if_pos rfl]; omega)
    | (rw [if_neg (by decide)]; exact U64_range _)
theorem EnRel.rg32 {V : Int} {n : Nat} {Pc Ow : Int} {f : Nat → Int} {log : List Acc} {t : Int} {d : Bool} {Pc' Ow' : Int} {f2 : Nat → Int} {log2 : List Acc} (h : EnRel V 32 n Pc Ow f log t d Pc' Ow' f2 log2) (hr : Rg32 n f) : Rg32 n f2 := by
  rcases h with ⟨_, _, _, _, e, _⟩ | ⟨_, _, _, _, _, e, _⟩ | ⟨_, _, _, _, _, _, e, _⟩ | ⟨_, _, _, _, _, _, e, _⟩ <;> rw [e]
  · exact hr
  · refine ⟨?_, ?_⟩
    · rw [show upd f n (plusW 32 (f n) 1) n = plusW 32 (f n) 1 from if_pos rfl]
      exact plus_rg32 _
    · rw [show upd f n (plusW 32 (f n) 1) (n + 1) = f (n + 1) from if_neg (by omega)]
      exact hr.2
  · exact hr
  · exact hr
theorem LeRel.rg32 {V : Int} {n : Nat} {f : Nat → Int} {log : List Acc} {t : Int} {f2 : Nat → Int} {log2 : List Acc} (h : LeRel V 32 n f log t f2 log2) (hr : Rg32 n f) : Rg32 n f2 := by
  rcases h with ⟨_, e, _⟩ | ⟨_, e, _⟩ <;> rw [e]
  · exact hr
  · refine ⟨?_, ?_⟩
    · rw [show upd f (n + 1) (plusW 32 (f (n + 1)) 1) n = f n from if_neg (by omega)]
      exact hr.1
    · rw [show upd f (n + 1) (plusW 32 (f (n + 1)) 1) (n + 1) = plusW 32 (f (n + 1)) 1 from if_pos rfl]
      exact plus_rg32 _
theorem plus_is32 (x : Int) : (((((x) % 4294967296) + 1) % 4294967296)) = plusW 32 x 1 := by
  unfold plusW
  first
    | (rw [if_pos rfl]; omega)
    | (rw [if_neg (by decide)]; unfold U64; omega)
theorem in_rg32 {x : Int} (h : 0 ≤ x ∧ x < 4294967296) : (((x) % 4294967296)) = x := by
  first
    | (unfold U64; omega)
    | omega
/-- both boards, the program's frames, the document's registers, who is inside -/
structure PW32 (w0 w : World) (b g : Nat) (y : LY) (f : Nat → Int) (lv : Value) (log : List Acc) (b' : Nat) (r : RY) (f' : Nat → Int) (lv' : Value) (log' : List Acc) (ups : List (List Int)) (fb gb ib : Nat) (P O P' O' : Nat → Int) (inb : Nat → Bool) : Prop where
  T : Two w0 w 93 b g y f lv log b' r f' lv' log'
  ol : OwnL w (.slice y.a y.n y.cap) ups
  fa : VA 44 w fb (frV32 P O)
  ga : VA 44 w gb (frV64 P' O')
  ia : VA 4 w ib (fun i => .bool (inb i))
  fo : Odd w fb
  go : Odd w gb
  io : Odd w ib
  fx : Far b g lv b' r lv' w0 w fb
  gx : Far b g lv b' r lv' w0 w gb
  ix : Far b g lv b' r lv' w0 w ib
  n1 : fb ≠ gb
  n2 : fb ≠ ib
  n3 : gb ≠ ib
theorem PW32.ext {w0 w w' : World} {b g : Nat} {y : LY} {f : Nat → Int} {lv : Value} {log : List Acc} {b' : Nat} {r : RY} {f' : Nat → Int} {lv' : Value} {log' : List Acc} {ups : List (List Int)} {fb gb ib : Nat} {P O P' O' : Nat → Int} {inb : Nat → Bool} (h : PW32 w0 w b g y f lv log b' r f' lv' log' ups fb gb ib P O P' O' inb) (hx : Ext w w') : PW32 w0 w' b g y f lv log b' r f' lv' log' ups fb gb ib P O P' O' inb :=
  ⟨h.T.ext hx, h.ol.ext hx, h.fa.ext hx, h.ga.ext hx, h.ia.ext hx, h.fo.but (hx.but (fun _ => False)) id, h.go.but (hx.but (fun _ => False)) id, h.io.but (hx.but (fun _ => False)) id, h.fx.up hx.size, h.gx.up hx.size, h.ix.up hx.size, h.n1, h.n2, h.n3⟩
theorem PW32.bw {w0 w : World} {b g : Nat} {y : LY} {f : Nat → Int} {lv : Value} {log : List Acc} {b' : Nat} {r : RY} {f' : Nat → Int} {lv' : Value} {log' : List Acc} {ups : List (List Int)} {fb gb ib : Nat} {P O P' O' : Nat → Int} {inb : Nat → Bool} (h : PW32 w0 w b g y f lv log b' r f' lv' log' ups fb gb ib P O P' O' inb) : BW w 93 b g y f lv log ups := ⟨h.T.B, h.ol⟩
theorem PW32.enterB {w0 w w' : World} {b g : Nat} {y : LY} {f f2 : Nat → Int} {lv : Value} {log log2 : List Acc} {b' : Nat} {r : RY} {f' : Nat → Int} {lv' : Value} {log' : List Acc} {ups : List (List Int)} {fb gb ib t : Nat} {P O P' O' : Nat → Int} {inb : Nat → Bool} {d : Bool} {Pc Ow : Int} {e : Ending} (h : PW32 w0 w b g y f lv log b' r f' lv' log' ups fb gb ib P O P' O' inb) (hD : EnterDoes32 b g fb (t * 11) y ups lv f2 log2 d Pc Ow w e w') :
    e = .returned (.bool d) ∧ ∃ lv2, PW32 w0 w' b g y f2 lv2 log2 b' r f' lv' log' ups fb gb ib (upd P t Pc) (upd O t Ow) P' O' inb := by
  obtain ⟨he, lv2, hB, hF, hX, hK, hN, hA⟩ := hD
  have ng : ¬ (Own b g lv gb ∨ gb = fb) := fun e => e.elim h.gx.out (fun e => h.n1 e.symm)
  have ni : ¬ (Own b g lv ib ∨ ib = fb) := fun e => e.elim h.ix.out (fun e => h.n2 e.symm)
  exact ⟨he, lv2, h.T.stepK (by decide) h.fx hB.B hN hA, hB.O, va_keep32 h.fa hK hF, h.ga.but hN ng, h.ia.but hN ni, hF.od, h.go.but hN ng, h.io.but hN ni, h.fx.stepB hN.size hA, h.gx.stepB hN.size hA, h.ix.stepB hN.size hA, h.n1, h.n2, h.n3⟩
theorem PW32.leaveB {w0 w w' : World} {b g : Nat} {y : LY} {f f2 : Nat → Int} {lv : Value} {log log2 : List Acc} {b' : Nat} {r : RY} {f' : Nat → Int} {lv' : Value} {log' : List Acc} {ups : List (List Int)} {fb gb ib : Nat} {P O P' O' : Nat → Int} {inb : Nat → Bool} {e : Ending} (h : PW32 w0 w b g y f lv log b' r f' lv' log' ups fb gb ib P O P' O' inb) (hD : LeaveDoes32 b g y ups lv f2 log2 w e w') :
    e = .returned (.tuple #[]) ∧ ∃ lv2, PW32 w0 w' b g y f2 lv2 log2 b' r f' lv' log' ups fb gb ib P O P' O' inb := by
  obtain ⟨he, lv2, hB, hN, hA⟩ := hD
  exact ⟨he, lv2, h.T.stepB (by decide) hB.B hN hA, hB.O, h.fa.but hN h.fx.out, h.ga.but hN h.gx.out, h.ia.but hN h.ix.out, h.fo.but hN h.fx.out, h.go.but hN h.gx.out, h.io.but hN h.ix.out, h.fx.stepB hN.size hA, h.gx.stepB hN.size hA, h.ix.stepB hN.size hA, h.n1, h.n2, h.n3⟩
theorem PW32.stepR {w0 w w' : World} {b g : Nat} {y : LY} {f : Nat → Int} {lv : Value} {log : List Acc} {b' : Nat} {r : RY} {f' f2 : Nat → Int} {lv' lv2 : Value} {log' log2 : List Acc} {ups : List (List Int)} {fb gb ib : Nat} {P O P' O' : Nat → Int} {inb : Nat → Bool} (h : PW32 w0 w b g y f lv log b' r f' lv' log' ups fb gb ib P O P' O' inb) (hR : RB w' b' r f2 lv2 log2) (hN : But (Own b' r.gh lv') w w') (hA : lv2.ownBlock = lv'.ownBlock ∨ ∃ j, lv2.ownBlock = some j ∧ w.heap.size ≤ j) :
    PW32 w0 w' b g y f lv log b' r f2 lv2 log2 ups fb gb ib P O P' O' inb :=
  ⟨h.T.stepR hR hN hA, h.ol.but hN h.T.R.own, h.fa.but hN h.fx.out', h.ga.but hN h.gx.out', h.ia.but hN h.ix.out', h.fo.but hN h.fx.out', h.go.but hN h.gx.out', h.io.but hN h.ix.out', h.fx.stepR hN.size hA, h.gx.stepR hN.size hA, h.ix.stepR hN.size hA, h.n1, h.n2, h.n3⟩
theorem PW32.setI {w0 w : World} {b g : Nat} {y : LY} {f : Nat → Int} {lv : Value} {log : List Acc} {b' : Nat} {r : RY} {f' : Nat → Int} {lv' : Value} {log' : List Acc} {ups : List (List Int)} {fb gb ib t : Nat} {P O P' O' : Nat → Int} {inb : Nat → Bool} (h : PW32 w0 w b g y f lv log b' r f' lv' log' ups fb gb ib P O P' O' inb) (ht : t < 4) (v : Bool) :
    PW32 w0 (w.setCell ⟨ib, t, none⟩ (.bool v)) b g y f lv log b' r f' lv' log' ups fb gb ib P O P' O' (fun u => if u = t then v else inb u) := by
  have hN := but_setCell w ⟨ib, t, none⟩ (.bool v)
  refine ⟨h.T.off h.ix hN, h.ol.odd hN (fun k hk _ => by rw [show k = ib from hk]; exact h.io), h.fa.but hN h.n2, h.ga.but hN h.n3, (va_set h.ia (.bool v) ht).congr (fun i _ => ?_), h.fo.set, h.go.set, h.io.set, h.fx.up hN.size, h.gx.up hN.size, h.ix.up hN.size, h.n1, h.n2, h.n3⟩
  by_cases e : i = t
  · simp [e]
  · simp [e]
theorem PW32.setsF {w0 w : World} {b g : Nat} {y : LY} {f : Nat → Int} {lv : Value} {log : List Acc} {b' : Nat} {r : RY} {f' : Nat → Int} {lv' : Value} {log' : List Acc} {ups : List (List Int)} {fb gb ib t : Nat} {P O P' O' : Nat → Int} {inb : Nat → Bool} (h : PW32 w0 w b g y f lv log b' r f' lv' log' ups fb gb ib P O P' O' inb) (ht : t < 4) (x z : Int) :
    PW32 w0 (w.setCells fb (t * 11) (frZ32 x z)) b g y f lv log b' r f' lv' log' ups fb gb ib (upd P t x) (upd O t z) P' O' inb := by
  have hN := but_setCells fb (frZ32 x z) (t * 11) w
  have ng : ¬ gb = fb := fun e => h.n1 e.symm
  have ni : ¬ ib = fb := fun e => h.n2 e.symm
  exact ⟨h.T.off h.fx hN, h.ol.odd hN (fun k hk _ => by rw [show k = fb from hk]; exact h.fo), va_reset32 h.fa (by omega) x z, h.ga.but hN ng, h.ia.but hN ni, h.fo.sets _ _, h.go.but hN ng, h.io.but hN ni, h.fx.up hN.size, h.gx.up hN.size, h.ix.up hN.size, h.n1, h.n2, h.n3⟩
theorem PW32.setsG {w0 w : World} {b g : Nat} {y : LY} {f : Nat → Int} {lv : Value} {log : List Acc} {b' : Nat} {r : RY} {f' : Nat → Int} {lv' : Value} {log' : List Acc} {ups : List (List Int)} {fb gb ib t : Nat} {P O P' O' : Nat → Int} {inb : Nat → Bool} (h : PW32 w0 w b g y f lv log b' r f' lv' log' ups fb gb ib P O P' O' inb) (ht : t < 4) (x z : Int) :
    PW32 w0 (w.setCells gb (t * 11) (frZ64 x z)) b g y f lv log b' r f' lv' log' ups fb gb ib P O (upd P' t x) (upd O' t z) inb := by
  have hN := but_setCells gb (frZ64 x z) (t * 11) w
  have ni : ¬ ib = gb := fun e => h.n3 e.symm
  exact ⟨h.T.off h.gx hN, h.ol.odd hN (fun k hk _ => by rw [show k = gb from hk]; exact h.go), h.fa.but hN h.n1, va_reset64 h.ga (by omega) x z, h.ia.but hN ni, h.fo.but hN h.n1, h.go.sets _ _, h.io.but hN ni, h.fx.up hN.size, h.gx.up hN.size, h.ix.up hN.size, h.n1, h.n2, h.n3⟩
/-- the program's Enter -/
theorem pEnter32 {w0 w : World} {b g : Nat} {y : LY} {f : Nat → Int} {lv : Value} {log : List Acc} {b' : Nat} {r : RY} {f' : Nat → Int} {lv' : Value} {log' : List Acc} {ups : List (List Int)} {fb gb ib t : Nat} {P O P' O' : Nat → Int} {inb : Nat → Bool} (K : BK y ups) (h : PW32 w0 w b g y f lv log b' r f' lv' log' ups fb gb ib P O P' O' inb) (E : Parts w) (ht : t < 4) (hr : Rg32 y.n f) (hl : log.length ≤ 1000) (th : Int) :
    Calls Tryz.prog 62 #[.pointer (some ⟨b, 0, none⟩), .int .i64 th, .pointer (some ⟨fb, t * 11, none⟩)] w fun e w' => ∃ d Pc Ow f2 log2, EnRel y.V 32 y.n (P t) (O t) f log th d Pc Ow f2 log2 ∧ e = .returned (.bool d) ∧ ∃ lv2, PW32 w0 w' b g y f2 lv2 log2 b' r f' lv' log' ups fb gb ib (upd P t Pc) (upd O t Ow) P' O' inb := by
  have F := ft_of32 (t := t) h.fa (by omega) h.fo
  have X : Aside w b g lv fb := ⟨h.fx.out, h.fx.hi⟩
  by_cases hV : y.V = 5
  · by_cases hP : P t = 0
    · rw [hP] at F
      refine (Enter32_take b g fb (t * 11) y f lv log ups th (O t) w K h.bw E F X hV hr.1.1 (by have := hr.1.2; omega) hl).mono ?_
      intro e w' hD
      rw [plus_is32, in_rg32 hr.1] at hD
      obtain ⟨h1, h2⟩ := h.enterB hD
      exact ⟨_, _, _, _, _, .inr (.inl ⟨hV, hP, rfl, rfl, rfl, rfl, rfl⟩), h1, h2⟩
    · by_cases hS : f (y.n + 1) = O t
      · refine (Enter32_in b g fb (t * 11) y f lv log ups th (P t) (O t) w K h.bw E F X hV hP (by rw [in_rg32 hr.2]; exact hS) hr.2.1 (by have := hr.2.2; omega) hl).mono ?_
        intro e w' hD
        obtain ⟨h1, h2⟩ := h.enterB hD
        exact ⟨_, _, _, _, _, .inr (.inr (.inr ⟨hV, hP, hS, rfl, rfl, rfl, rfl, rfl⟩)), h1, h2⟩
      · refine (Enter32_wait b g fb (t * 11) y f lv log ups th (P t) (O t) w K h.bw E F X hV hP (by rw [in_rg32 hr.2]; exact hS) hr.2.1 (by have := hr.2.2; omega) hl).mono ?_
        intro e w' hD
        obtain ⟨h1, h2⟩ := h.enterB hD
        exact ⟨_, _, _, _, _, .inr (.inr (.inl ⟨hV, hP, hS, rfl, rfl, rfl, rfl, rfl⟩)), h1, h2⟩
  · refine (Enter32_no b g y f lv log ups th (.pointer (some ⟨fb, t * 11, none⟩)) w K h.bw hV (.inl ⟨_, rfl⟩)).mono ?_
    rintro e w' ⟨rfl, hx⟩
    have h2 := h.ext hx
    rw [← upd_same P t, ← upd_same O t] at h2
    refine ⟨true, P t, O t, f, log, .inl ⟨hV, rfl, rfl, rfl, rfl, rfl⟩, rfl, lv, ?_⟩
    have e1 := upd_same P t
    have e2 := upd_same O t
    rw [e1, e2]
    rw [e1, e2] at h2
    exact h2
theorem pLeave32 {w0 w : World} {b g : Nat} {y : LY} {f : Nat → Int} {lv : Value} {log : List Acc} {b' : Nat} {r : RY} {f' : Nat → Int} {lv' : Value} {log' : List Acc} {ups : List (List Int)} {fb gb ib : Nat} {P O P' O' : Nat → Int} {inb : Nat → Bool} (K : BK y ups) (h : PW32 w0 w b g y f lv log b' r f' lv' log' ups fb gb ib P O P' O' inb) (E : Parts w) (hr : Rg32 y.n f) (hl : log.length ≤ 1000) (th : Int) :
    Calls Tryz.prog 64 #[.pointer (some ⟨b, 0, none⟩), .int .i64 th] w fun e w' => ∃ f2 log2, LeRel y.V 32 y.n f log th f2 log2 ∧ e = .returned (.tuple #[]) ∧ ∃ lv2, PW32 w0 w' b g y f2 lv2 log2 b' r f' lv' log' ups fb gb ib P O P' O' inb := by
  by_cases hV : y.V = 5
  · refine (Leave32_yes b g y f lv log ups th w K h.bw E hV hr.2.1 (by have := hr.2.2; omega) hl).mono ?_
    intro e w' hD
    rw [plus_is32] at hD
    obtain ⟨h1, h2⟩ := h.leaveB hD
    exact ⟨_, _, .inr ⟨hV, rfl, rfl⟩, h1, h2⟩
  · refine (Leave32_no b g y f lv log ups th w K h.bw hV).mono ?_
    rintro e w' ⟨rfl, hx⟩
    exact ⟨f, log, .inl ⟨hV, rfl, rfl⟩, rfl, lv, h.ext hx⟩
/-- by how much -/
def wtV32 (V : Int) (n : Nat) (f : Nat → Int) : Int := if V = 5 then D32 (f n - f (n + 1)) else 0
theorem pWaiting32 {w0 w : World} {b g : Nat} {y : LY} {f : Nat → Int} {lv : Value} {log : List Acc} {b' : Nat} {r : RY} {f' : Nat → Int} {lv' : Value} {log' : List Acc} {ups : List (List Int)} {fb gb ib : Nat} {P O P' O' : Nat → Int} {inb : Nat → Bool} (K : BK y ups) (h : PW32 w0 w b g y f lv log b' r f' lv' log' ups fb gb ib P O P' O' inb) (E : Parts w) (hW : y.W = 32) :
    Calls Tryz.prog 63 #[.pointer (some ⟨b, 0, none⟩)] w fun e w' => e = .returned (.int .i64 (wtV32 y.V y.n f)) ∧ Ext w w' := by
  by_cases hV : y.V = 5
  · have h1 := Waiting32_yes b g y f lv log ups w K h.bw E hV hW
    rwa [show D32 (f y.n - f (y.n + 1)) = wtV32 y.V y.n f from (if_pos hV).symm] at h1
  · have h1 := Waiting32_no b g y f lv log ups w K h.bw hV
    rwa [show (0 : Int) = wtV32 y.V y.n f from (if_neg hV).symm] at h1
/-- the document's, told the same -/
theorem dEnter32 {w0 w : World} {b g : Nat} {y : LY} {f f1 : Nat → Int} {lv : Value} {log log1 : List Acc} {b' : Nat} {r : RY} {lv' : Value} {ups : List (List Int)} {fb gb ib : Nat} {P O P' O' : Nat → Int} {inb : Nat → Bool} (K : BK y ups) (R : Rel y r 32) (rV : r.V = y.V) (rn : r.n = y.n) (h : PW32 w0 w b g y f1 lv log1 b' r f lv' log ups fb gb ib P O P' O' inb) (hl : log.length ≤ 1000) (th Pc Ow : Int) {d : Bool} {Pc' Ow' : Int} {f2 : Nat → Int} {log2 : List Acc} (hE : EnRel y.V 32 y.n Pc Ow f log th d Pc' Ow' f2 log2) :
    Calls Tryz.prog 68 #[.pointer (some ⟨b', 0, none⟩), .int .i64 th, (.agg #[.int .i64 0, .int .i64 0, .int .i64 0, .int .i64 Pc, .int .i64 0, .int .i64 0, .int .u64 0, .int .u64 0, .int .u64 0, .int .u64 Ow, .slice none 0 0])] w fun e w' => e = .returned (.tuple #[(.agg #[.int .i64 0, .int .i64 0, .int .i64 0, .int .i64 (Pc'), .int .i64 0, .int .i64 0, .int .u64 0, .int .u64 0, .int .u64 0, .int .u64 (Ow'), .slice none 0 0]), .bool d]) ∧ ∃ lv2, PW32 w0 w' b g y f1 lv log1 b' r f2 lv2 log2 ups fb gb ib P O P' O' inb := by
  have hm := R.m
  have hn6 := K.num.n6
  have hW : r.W = 32 := R.w
  have hm1 := K.yok.m1
  have hy6 : y.n ≤ 6 := by omega
  rcases hE with ⟨hV, rfl, rfl, rfl, rfl, rfl⟩ | ⟨hV, rfl, rfl, rfl, rfl, rfl, rfl⟩ | ⟨hV, hP, hS, rfl, rfl, rfl, rfl, rfl⟩ | ⟨hV, hP, hS, rfl, rfl, rfl, rfl, rfl⟩
  · refine (rtEnter_no b' r f2 lv' log2 th Pc' Ow' w h.T.R (by rw [rV]; exact hV)).mono ?_
    rintro e w' ⟨rfl, hx⟩
    exact ⟨rfl, lv', h.ext hx⟩
  · obtain ⟨-, -, k1, k2, klt⟩ := K.lock hV
    obtain ⟨i1, i2⟩ := tick_kinds R k1 k2
    have hc := rtEnter_take b' r f lv' log th Ow w h.T.R (by rw [rV]; exact hV) (by rw [rn]; exact i1) (by omega) (by omega) (by omega) hl (by rw [hW]; decide)
    rw [rn, hW] at hc
    refine hc.mono ?_
    rintro e w' ⟨he, lv2, hR, hN, hA⟩
    exact ⟨he, lv2, h.stepR hR hN hA⟩
  · obtain ⟨-, -, k1, k2, klt⟩ := K.lock hV
    obtain ⟨i1, i2⟩ := tick_kinds R k1 k2
    have hc := rtEnter_wait b' r f2 lv' log th Pc' Ow' w h.T.R (by rw [rV]; exact hV) (by rw [rn]; exact i2) (by omega) hl (by omega) hP (by rw [rn]; exact hS)
    rw [rn] at hc
    refine hc.mono ?_
    rintro e w' ⟨he, lv2, hR, hN, hA⟩
    exact ⟨he, lv2, h.stepR hR hN hA⟩
  · obtain ⟨-, -, k1, k2, klt⟩ := K.lock hV
    obtain ⟨i1, i2⟩ := tick_kinds R k1 k2
    have hc := rtEnter_in b' r f2 lv' log th Pc Ow' w h.T.R (by rw [rV]; exact hV) (by rw [rn]; exact i2) (by omega) hl (by omega) hP (by rw [rn]; exact hS)
    rw [rn] at hc
    refine hc.mono ?_
    rintro e w' ⟨he, lv2, hR, hN, hA⟩
    exact ⟨he, lv2, h.stepR hR hN hA⟩
theorem dLeave32 {w0 w : World} {b g : Nat} {y : LY} {f f1 : Nat → Int} {lv : Value} {log log1 : List Acc} {b' : Nat} {r : RY} {lv' : Value} {ups : List (List Int)} {fb gb ib : Nat} {P O P' O' : Nat → Int} {inb : Nat → Bool} (K : BK y ups) (R : Rel y r 32) (rV : r.V = y.V) (rn : r.n = y.n) (h : PW32 w0 w b g y f1 lv log1 b' r f lv' log ups fb gb ib P O P' O' inb) (hl : log.length ≤ 1000) (th : Int) {f2 : Nat → Int} {log2 : List Acc} (hE : LeRel y.V 32 y.n f log th f2 log2) :
    Calls Tryz.prog 67 #[.pointer (some ⟨b', 0, none⟩), .int .i64 th] w fun e w' => e = .returned (.tuple #[]) ∧ ∃ lv2, PW32 w0 w' b g y f1 lv log1 b' r f2 lv2 log2 ups fb gb ib P O P' O' inb := by
  have hm := R.m
  have hW : r.W = 32 := R.w
  have hm1 := K.yok.m1
  rcases hE with ⟨hV, rfl, rfl⟩ | ⟨hV, rfl, rfl⟩
  · refine (rtLeave_no b' r f2 lv' log2 th w h.T.R (by rw [rV]; exact hV)).mono ?_
    rintro e w' ⟨rfl, hx⟩
    exact ⟨rfl, lv', h.ext hx⟩
  · obtain ⟨-, -, k1, k2, klt⟩ := K.lock hV
    obtain ⟨i1, i2⟩ := tick_kinds R k1 k2
    have hc := rtLeave_yes b' r f lv' log th w h.T.R (by rw [rV]; exact hV) (by rw [rn]; exact i2) (by omega) hl (by omega) (by rw [hW]; decide)
    rw [rn, hW] at hc
    refine hc.mono ?_
    rintro e w' ⟨he, lv2, hR, hN, hA⟩
    exact ⟨he, lv2, h.stepR hR hN hA⟩
theorem dWaiting32 {w0 w : World} {b g : Nat} {y : LY} {f f1 : Nat → Int} {lv : Value} {log log1 : List Acc} {b' : Nat} {r : RY} {lv' : Value} {ups : List (List Int)} {fb gb ib : Nat} {P O P' O' : Nat → Int} {inb : Nat → Bool} (K : BK y ups) (R : Rel y r 32) (rV : r.V = y.V) (rn : r.n = y.n) (h : PW32 w0 w b g y f1 lv log1 b' r f lv' log ups fb gb ib P O P' O' inb) (hr : Rg32 y.n f) :
    Calls Tryz.prog 69 #[.pointer (some ⟨b', 0, none⟩)] w fun e w' => e = .returned (.int .i64 (wtV32 y.V y.n f)) ∧ Ext w w' := by
  have hm := R.m
  have hm1 := K.yok.m1
  by_cases hV : y.V = 5
  · obtain ⟨-, -, k1, k2, klt⟩ := K.lock hV
    have h1 := rtWaiting_32 b' r f lv' log w h.T.R (by rw [rV]; exact hV) (by omega) (by omega) R.w (by rw [rn]; exact hr.1.1) (by rw [rn]; exact hr.2.1)
    rw [rn] at h1
    rwa [show D32 (f y.n - f (y.n + 1)) = wtV32 y.V y.n f from (if_pos hV).symm] at h1
  · have h1 := rtWaiting_no b' r f lv' log w h.T.R (by rw [rV]; exact hV)
    rwa [show (0 : Int) = wtV32 y.V y.n f from (if_neg hV).symm] at h1
/-- both counters of a lock are of the width -/
def Rg64 (n : Nat) (f : Nat → Int) : Prop := (0 ≤ f n ∧ f n < 18446744073709551616) ∧ (0 ≤ f (n + 1) ∧ f (n + 1) < 18446744073709551616)
theorem plus_rg64 (x : Int) : 0 ≤ plusW 64 x 1 ∧ plusW 64 x 1 < 18446744073709551616 := by
  unfold plusW
  first
    | (rw [if_pos rfl]; omega)
    | (rw [if_neg (by decide)]; exact U64_range _)
theorem EnRel.rg64 {V : Int} {n : Nat} {Pc Ow : Int} {f : Nat → Int} {log : List Acc} {t : Int} {d : Bool} {Pc' Ow' : Int} {f2 : Nat → Int} {log2 : List Acc} (h : EnRel V 64 n Pc Ow f log t d Pc' Ow' f2 log2) (hr : Rg64 n f) : Rg64 n f2 := by
  rcases h with ⟨_, _, _, _, e, _⟩ | ⟨_, _, _, _, _, e, _⟩ | ⟨_, _, _, _, _, _, e, _⟩ | ⟨_, _, _, _, _, _, e, _⟩ <;> rw [e]
  · exact hr
  · refine ⟨?_, ?_⟩
    · rw [show upd f n (plusW 64 (f n) 1) n = plusW 64 (f n) 1 from if_pos rfl]
      exact plus_rg64 _
    · rw [show upd f n (plusW 64 (f n) 1) (n + 1) = f (n + 1) from if_neg (by omega)]
      exact hr.2
  · exact hr
  · exact hr
theorem LeRel.rg64 {V : Int} {n : Nat} {f : Nat → Int} {log : List Acc} {t : Int} {f2 : Nat → Int} {log2 : List Acc} (h : LeRel V 64 n f log t f2 log2) (hr : Rg64 n f) : Rg64 n f2 := by
  rcases h with ⟨_, e, _⟩ | ⟨_, e, _⟩ <;> rw [e]
  · exact hr
  · refine ⟨?_, ?_⟩
    · rw [show upd f (n + 1) (plusW 64 (f (n + 1)) 1) n = f n from if_neg (by omega)]
      exact hr.1
    · rw [show upd f (n + 1) (plusW 64 (f (n + 1)) 1) (n + 1) = plusW 64 (f (n + 1)) 1 from if_pos rfl]
      exact plus_rg64 _
theorem plus_is64 (x : Int) : ((U64 ((U64 (x)) + 1))) = plusW 64 x 1 := by
  unfold plusW
  first
    | (rw [if_pos rfl]; omega)
    | (rw [if_neg (by decide)]; unfold U64; omega)
theorem in_rg64 {x : Int} (h : 0 ≤ x ∧ x < 18446744073709551616) : ((U64 (x))) = x := by
  first
    | (unfold U64; omega)
    | omega
/-- both boards, the program's frames, the document's registers, who is inside -/
structure PW64 (w0 w : World) (b g : Nat) (y : LY) (f : Nat → Int) (lv : Value) (log : List Acc) (b' : Nat) (r : RY) (f' : Nat → Int) (lv' : Value) (log' : List Acc) (ups : List (List Int)) (fb gb ib : Nat) (P O P' O' : Nat → Int) (inb : Nat → Bool) : Prop where
  T : Two w0 w 141 b g y f lv log b' r f' lv' log'
  ol : OwnL w (.slice y.a y.n y.cap) ups
  fa : VA 44 w fb (frV64 P O)
  ga : VA 44 w gb (frV64 P' O')
  ia : VA 4 w ib (fun i => .bool (inb i))
  fo : Odd w fb
  go : Odd w gb
  io : Odd w ib
  fx : Far b g lv b' r lv' w0 w fb
  gx : Far b g lv b' r lv' w0 w gb
  ix : Far b g lv b' r lv' w0 w ib
  n1 : fb ≠ gb
  n2 : fb ≠ ib
  n3 : gb ≠ ib
theorem PW64.ext {w0 w w' : World} {b g : Nat} {y : LY} {f : Nat → Int} {lv : Value} {log : List Acc} {b' : Nat} {r : RY} {f' : Nat → Int} {lv' : Value} {log' : List Acc} {ups : List (List Int)} {fb gb ib : Nat} {P O P' O' : Nat → Int} {inb : Nat → Bool} (h : PW64 w0 w b g y f lv log b' r f' lv' log' ups fb gb ib P O P' O' inb) (hx : Ext w w') : PW64 w0 w' b g y f lv log b' r f' lv' log' ups fb gb ib P O P' O' inb :=
  ⟨h.T.ext hx, h.ol.ext hx, h.fa.ext hx, h.ga.ext hx, h.ia.ext hx, h.fo.but (hx.but (fun _ => False)) id, h.go.but (hx.but (fun _ => False)) id, h.io.but (hx.but (fun _ => False)) id, h.fx.up hx.size, h.gx.up hx.size, h.ix.up hx.size, h.n1, h.n2, h.n3⟩
theorem PW64.bw {w0 w : World} {b g : Nat} {y : LY} {f : Nat → Int} {lv : Value} {log : List Acc} {b' : Nat} {r : RY} {f' : Nat → Int} {lv' : Value} {log' : List Acc} {ups : List (List Int)} {fb gb ib : Nat} {P O P' O' : Nat → Int} {inb : Nat → Bool} (h : PW64 w0 w b g y f lv log b' r f' lv' log' ups fb gb ib P O P' O' inb) : BW w 141 b g y f lv log ups := ⟨h.T.B, h.ol⟩
theorem PW64.enterB {w0 w w' : World} {b g : Nat} {y : LY} {f f2 : Nat → Int} {lv : Value} {log log2 : List Acc} {b' : Nat} {r : RY} {f' : Nat → Int} {lv' : Value} {log' : List Acc} {ups : List (List Int)} {fb gb ib t : Nat} {P O P' O' : Nat → Int} {inb : Nat → Bool} {d : Bool} {Pc Ow : Int} {e : Ending} (h : PW64 w0 w b g y f lv log b' r f' lv' log' ups fb gb ib P O P' O' inb) (hD : EnterDoes64 b g fb (t * 11) y ups lv f2 log2 d Pc Ow w e w') :
    e = .returned (.bool d) ∧ ∃ lv2, PW64 w0 w' b g y f2 lv2 log2 b' r f' lv' log' ups fb gb ib (upd P t Pc) (upd O t Ow) P' O' inb := by
  obtain ⟨he, lv2, hB, hF, hX, hK, hN, hA⟩ := hD
  have ng : ¬ (Own b g lv gb ∨ gb = fb) := fun e => e.elim h.gx.out (fun e => h.n1 e.symm)
  have ni : ¬ (Own b g lv ib ∨ ib = fb) := fun e => e.elim h.ix.out (fun e => h.n2 e.symm)
  exact ⟨he, lv2, h.T.stepK (by decide) h.fx hB.B hN hA, hB.O, va_keep64 h.fa hK hF, h.ga.but hN ng, h.ia.but hN ni, hF.od, h.go.but hN ng, h.io.but hN ni, h.fx.stepB hN.size hA, h.gx.stepB hN.size hA, h.ix.stepB hN.size hA, h.n1, h.n2, h.n3⟩
theorem PW64.leaveB {w0 w w' : World} {b g : Nat} {y : LY} {f f2 : Nat → Int} {lv : Value} {log log2 : List Acc} {b' : Nat} {r : RY} {f' : Nat → Int} {lv' : Value} {log' : List Acc} {ups : List (List Int)} {fb gb ib : Nat} {P O P' O' : Nat → Int} {inb : Nat → Bool} {e : Ending} (h : PW64 w0 w b g y f lv log b' r f' lv' log' ups fb gb ib P O P' O' inb) (hD : LeaveDoes64 b g y ups lv f2 log2 w e w') :
    e = .returned (.tuple #[]) ∧ ∃ lv2, PW64 w0 w' b g y f2 lv2 log2 b' r f' lv' log' ups fb gb ib P O P' O' inb := by
  obtain ⟨he, lv2, hB, hN, hA⟩ := hD
  exact ⟨he, lv2, h.T.stepB (by decide) hB.B hN hA, hB.O, h.fa.but hN h.fx.out, h.ga.but hN h.gx.out, h.ia.but hN h.ix.out, h.fo.but hN h.fx.out, h.go.but hN h.gx.out, h.io.but hN h.ix.out, h.fx.stepB hN.size hA, h.gx.stepB hN.size hA, h.ix.stepB hN.size hA, h.n1, h.n2, h.n3⟩
theorem PW64.stepR {w0 w w' : World} {b g : Nat} {y : LY} {f : Nat → Int} {lv : Value} {log : List Acc} {b' : Nat} {r : RY} {f' f2 : Nat → Int} {lv' lv2 : Value} {log' log2 : List Acc} {ups : List (List Int)} {fb gb ib : Nat} {P O P' O' : Nat → Int} {inb : Nat → Bool} (h : PW64 w0 w b g y f lv log b' r f' lv' log' ups fb gb ib P O P' O' inb) (hR : RB w' b' r f2 lv2 log2) (hN : But (Own b' r.gh lv') w w') (hA : lv2.ownBlock = lv'.ownBlock ∨ ∃ j, lv2.ownBlock = some j ∧ w.heap.size ≤ j) :
    PW64 w0 w' b g y f lv log b' r f2 lv2 log2 ups fb gb ib P O P' O' inb :=
  ⟨h.T.stepR hR hN hA, h.ol.but hN h.T.R.own, h.fa.but hN h.fx.out', h.ga.but hN h.gx.out', h.ia.but hN h.ix.out', h.fo.but hN h.fx.out', h.go.but hN h.gx.out', h.io.but hN h.ix.out', h.fx.stepR hN.size hA, h.gx.stepR hN.size hA, h.ix.stepR hN.size hA, h.n1, h.n2, h.n3⟩
theorem PW64.setI {w0 w : World} {b g : Nat} {y : LY} {f : Nat → Int} {lv : Value} {log : List Acc} {b' : Nat} {r : RY} {f' : Nat → Int} {lv' : Value} {log' : List Acc} {ups : List (List Int)} {fb gb ib t : Nat} {P O P' O' : Nat → Int} {inb : Nat → Bool} (h : PW64 w0 w b g y f lv log b' r f' lv' log' ups fb gb ib P O P' O' inb) (ht : t < 4) (v : Bool) :
    PW64 w0 (w.setCell ⟨ib, t, none⟩ (.bool v)) b g y f lv log b' r f' lv' log' ups fb gb ib P O P' O' (fun u => if u = t then v else inb u) := by
  have hN := but_setCell w ⟨ib, t, none⟩ (.bool v)
  refine ⟨h.T.off h.ix hN, h.ol.odd hN (fun k hk _ => by rw [show k = ib from hk]; exact h.io), h.fa.but hN h.n2, h.ga.but hN h.n3, (va_set h.ia (.bool v) ht).congr (fun i _ => ?_), h.fo.set, h.go.set, h.io.set, h.fx.up hN.size, h.gx.up hN.size, h.ix.up hN.size, h.n1, h.n2, h.n3⟩
  by_cases e : i = t
  · simp [e]
  · simp [e]
theorem PW64.setsF {w0 w : World} {b g : Nat} {y : LY} {f : Nat → Int} {lv : Value} {log : List Acc} {b' : Nat} {r : RY} {f' : Nat → Int} {lv' : Value} {log' : List Acc} {ups : List (List Int)} {fb gb ib t : Nat} {P O P' O' : Nat → Int} {inb : Nat → Bool} (h : PW64 w0 w b g y f lv log b' r f' lv' log' ups fb gb ib P O P' O' inb) (ht : t < 4) (x z : Int) :
    PW64 w0 (w.setCells fb (t * 11) (frZ64 x z)) b g y f lv log b' r f' lv' log' ups fb gb ib (upd P t x) (upd O t z) P' O' inb := by
  have hN := but_setCells fb (frZ64 x z) (t * 11) w
  have ng : ¬ gb = fb := fun e => h.n1 e.symm
  have ni : ¬ ib = fb := fun e => h.n2 e.symm
  exact ⟨h.T.off h.fx hN, h.ol.odd hN (fun k hk _ => by rw [show k = fb from hk]; exact h.fo), va_reset64 h.fa (by omega) x z, h.ga.but hN ng, h.ia.but hN ni, h.fo.sets _ _, h.go.but hN ng, h.io.but hN ni, h.fx.up hN.size, h.gx.up hN.size, h.ix.up hN.size, h.n1, h.n2, h.n3⟩
theorem PW64.setsG {w0 w : World} {b g : Nat} {y : LY} {f : Nat → Int} {lv : Value} {log : List Acc} {b' : Nat} {r : RY} {f' : Nat → Int} {lv' : Value} {log' : List Acc} {ups : List (List Int)} {fb gb ib t : Nat} {P O P' O' : Nat → Int} {inb : Nat → Bool} (h : PW64 w0 w b g y f lv log b' r f' lv' log' ups fb gb ib P O P' O' inb) (ht : t < 4) (x z : Int) :
    PW64 w0 (w.setCells gb (t * 11) (frZ64 x z)) b g y f lv log b' r f' lv' log' ups fb gb ib P O (upd P' t x) (upd O' t z) inb := by
  have hN := but_setCells gb (frZ64 x z) (t * 11) w
  have ni : ¬ ib = gb := fun e => h.n3 e.symm
  exact ⟨h.T.off h.gx hN, h.ol.odd hN (fun k hk _ => by rw [show k = gb from hk]; exact h.go), h.fa.but hN h.n1, va_reset64 h.ga (by omega) x z, h.ia.but hN ni, h.fo.but hN h.n1, h.go.sets _ _, h.io.but hN ni, h.fx.up hN.size, h.gx.up hN.size, h.ix.up hN.size, h.n1, h.n2, h.n3⟩
/-- the program's Enter -/
theorem pEnter64 {w0 w : World} {b g : Nat} {y : LY} {f : Nat → Int} {lv : Value} {log : List Acc} {b' : Nat} {r : RY} {f' : Nat → Int} {lv' : Value} {log' : List Acc} {ups : List (List Int)} {fb gb ib t : Nat} {P O P' O' : Nat → Int} {inb : Nat → Bool} (K : BK y ups) (h : PW64 w0 w b g y f lv log b' r f' lv' log' ups fb gb ib P O P' O' inb) (E : Parts w) (ht : t < 4) (hr : Rg64 y.n f) (hl : log.length ≤ 1000) (th : Int) :
    Calls Tryz.prog 72 #[.pointer (some ⟨b, 0, none⟩), .int .i64 th, .pointer (some ⟨fb, t * 11, none⟩)] w fun e w' => ∃ d Pc Ow f2 log2, EnRel y.V 64 y.n (P t) (O t) f log th d Pc Ow f2 log2 ∧ e = .returned (.bool d) ∧ ∃ lv2, PW64 w0 w' b g y f2 lv2 log2 b' r f' lv' log' ups fb gb ib (upd P t Pc) (upd O t Ow) P' O' inb := by
  have F := ft_of64 (t := t) h.fa (by omega) h.fo
  have X : Aside w b g lv fb := ⟨h.fx.out, h.fx.hi⟩
  by_cases hV : y.V = 5
  · by_cases hP : P t = 0
    · rw [hP] at F
      refine (Enter64_take b g fb (t * 11) y f lv log ups th (O t) w K h.bw E F X hV hr.1.1 (by have := hr.1.2; omega) hl).mono ?_
      intro e w' hD
      rw [plus_is64, in_rg64 hr.1] at hD
      obtain ⟨h1, h2⟩ := h.enterB hD
      exact ⟨_, _, _, _, _, .inr (.inl ⟨hV, hP, rfl, rfl, rfl, rfl, rfl⟩), h1, h2⟩
    · by_cases hS : f (y.n + 1) = O t
      · refine (Enter64_in b g fb (t * 11) y f lv log ups th (P t) (O t) w K h.bw E F X hV hP (by rw [in_rg64 hr.2]; exact hS) hr.2.1 (by have := hr.2.2; omega) hl).mono ?_
        intro e w' hD
        obtain ⟨h1, h2⟩ := h.enterB hD
        exact ⟨_, _, _, _, _, .inr (.inr (.inr ⟨hV, hP, hS, rfl, rfl, rfl, rfl, rfl⟩)), h1, h2⟩
      · refine (Enter64_wait b g fb (t * 11) y f lv log ups th (P t) (O t) w K h.bw E F X hV hP (by rw [in_rg64 hr.2]; exact hS) hr.2.1 (by have := hr.2.2; omega) hl).mono ?_
        intro e w' hD
        obtain ⟨h1, h2⟩ := h.enterB hD
        exact ⟨_, _, _, _, _, .inr (.inr (.inl ⟨hV, hP, hS, rfl, rfl, rfl, rfl, rfl⟩)), h1, h2⟩
  · refine (Enter64_no b g y f lv log ups th (.pointer (some ⟨fb, t * 11, none⟩)) w K h.bw hV (.inl ⟨_, rfl⟩)).mono ?_
    rintro e w' ⟨rfl, hx⟩
    have h2 := h.ext hx
    rw [← upd_same P t, ← upd_same O t] at h2
    refine ⟨true, P t, O t, f, log, .inl ⟨hV, rfl, rfl, rfl, rfl, rfl⟩, rfl, lv, ?_⟩
    have e1 := upd_same P t
    have e2 := upd_same O t
    rw [e1, e2]
    rw [e1, e2] at h2
    exact h2
theorem pLeave64 {w0 w : World} {b g : Nat} {y : LY} {f : Nat → Int} {lv : Value} {log : List Acc} {b' : Nat} {r : RY} {f' : Nat → Int} {lv' : Value} {log' : List Acc} {ups : List (List Int)} {fb gb ib : Nat} {P O P' O' : Nat → Int} {inb : Nat → Bool} (K : BK y ups) (h : PW64 w0 w b g y f lv log b' r f' lv' log' ups fb gb ib P O P' O' inb) (E : Parts w) (hr : Rg64 y.n f) (hl : log.length ≤ 1000) (th : Int) :
    Calls Tryz.prog 71 #[.pointer (some ⟨b, 0, none⟩), .int .i64 th] w fun e w' => ∃ f2 log2, LeRel y.V 64 y.n f log th f2 log2 ∧ e = .returned (.tuple #[]) ∧ ∃ lv2, PW64 w0 w' b g y f2 lv2 log2 b' r f' lv' log' ups fb gb ib P O P' O' inb := by
  by_cases hV : y.V = 5
  · refine (Leave64_yes b g y f lv log ups th w K h.bw E hV hr.2.1 (by have := hr.2.2; omega) hl).mono ?_
    intro e w' hD
    rw [plus_is64] at hD
    obtain ⟨h1, h2⟩ := h.leaveB hD
    exact ⟨_, _, .inr ⟨hV, rfl, rfl⟩, h1, h2⟩
  · refine (Leave64_no b g y f lv log ups th w K h.bw hV).mono ?_
    rintro e w' ⟨rfl, hx⟩
    exact ⟨f, log, .inl ⟨hV, rfl, rfl⟩, rfl, lv, h.ext hx⟩
/-- by how much -/
def wtV64 (V : Int) (n : Nat) (f : Nat → Int) : Int := if V = 5 then D64 (f n - f (n + 1)) else 0
theorem pWaiting64 {w0 w : World} {b g : Nat} {y : LY} {f : Nat → Int} {lv : Value} {log : List Acc} {b' : Nat} {r : RY} {f' : Nat → Int} {lv' : Value} {log' : List Acc} {ups : List (List Int)} {fb gb ib : Nat} {P O P' O' : Nat → Int} {inb : Nat → Bool} (K : BK y ups) (h : PW64 w0 w b g y f lv log b' r f' lv' log' ups fb gb ib P O P' O' inb) (E : Parts w) (hW : y.W = 64) :
    Calls Tryz.prog 73 #[.pointer (some ⟨b, 0, none⟩)] w fun e w' => e = .returned (.int .i64 (wtV64 y.V y.n f)) ∧ Ext w w' := by
  by_cases hV : y.V = 5
  · have h1 := Waiting64_yes b g y f lv log ups w K h.bw E hV hW
    rwa [show D64 (f y.n - f (y.n + 1)) = wtV64 y.V y.n f from (if_pos hV).symm] at h1
  · have h1 := Waiting64_no b g y f lv log ups w K h.bw hV
    rwa [show (0 : Int) = wtV64 y.V y.n f from (if_neg hV).symm] at h1
/-- the document's, told the same -/
theorem dEnter64 {w0 w : World} {b g : Nat} {y : LY} {f f1 : Nat → Int} {lv : Value} {log log1 : List Acc} {b' : Nat} {r : RY} {lv' : Value} {ups : List (List Int)} {fb gb ib : Nat} {P O P' O' : Nat → Int} {inb : Nat → Bool} (K : BK y ups) (R : Rel y r 64) (rV : r.V = y.V) (rn : r.n = y.n) (h : PW64 w0 w b g y f1 lv log1 b' r f lv' log ups fb gb ib P O P' O' inb) (hl : log.length ≤ 1000) (th Pc Ow : Int) {d : Bool} {Pc' Ow' : Int} {f2 : Nat → Int} {log2 : List Acc} (hE : EnRel y.V 64 y.n Pc Ow f log th d Pc' Ow' f2 log2) :
    Calls Tryz.prog 68 #[.pointer (some ⟨b', 0, none⟩), .int .i64 th, (.agg #[.int .i64 0, .int .i64 0, .int .i64 0, .int .i64 Pc, .int .i64 0, .int .i64 0, .int .u64 0, .int .u64 0, .int .u64 0, .int .u64 Ow, .slice none 0 0])] w fun e w' => e = .returned (.tuple #[(.agg #[.int .i64 0, .int .i64 0, .int .i64 0, .int .i64 (Pc'), .int .i64 0, .int .i64 0, .int .u64 0, .int .u64 0, .int .u64 0, .int .u64 (Ow'), .slice none 0 0]), .bool d]) ∧ ∃ lv2, PW64 w0 w' b g y f1 lv log1 b' r f2 lv2 log2 ups fb gb ib P O P' O' inb := by
  have hm := R.m
  have hn6 := K.num.n6
  have hW : r.W = 64 := R.w
  have hm1 := K.yok.m1
  have hy6 : y.n ≤ 6 := by omega
  rcases hE with ⟨hV, rfl, rfl, rfl, rfl, rfl⟩ | ⟨hV, rfl, rfl, rfl, rfl, rfl, rfl⟩ | ⟨hV, hP, hS, rfl, rfl, rfl, rfl, rfl⟩ | ⟨hV, hP, hS, rfl, rfl, rfl, rfl, rfl⟩
  · refine (rtEnter_no b' r f2 lv' log2 th Pc' Ow' w h.T.R (by rw [rV]; exact hV)).mono ?_
    rintro e w' ⟨rfl, hx⟩
    exact ⟨rfl, lv', h.ext hx⟩
  · obtain ⟨-, -, k1, k2, klt⟩ := K.lock hV
    obtain ⟨i1, i2⟩ := tick_kinds R k1 k2
    have hc := rtEnter_take b' r f lv' log th Ow w h.T.R (by rw [rV]; exact hV) (by rw [rn]; exact i1) (by omega) (by omega) (by omega) hl (by rw [hW]; decide)
    rw [rn, hW] at hc
    refine hc.mono ?_
    rintro e w' ⟨he, lv2, hR, hN, hA⟩
    exact ⟨he, lv2, h.stepR hR hN hA⟩
  · obtain ⟨-, -, k1, k2, klt⟩ := K.lock hV
    obtain ⟨i1, i2⟩ := tick_kinds R k1 k2
    have hc := rtEnter_wait b' r f2 lv' log th Pc' Ow' w h.T.R (by rw [rV]; exact hV) (by rw [rn]; exact i2) (by omega) hl (by omega) hP (by rw [rn]; exact hS)
    rw [rn] at hc
    refine hc.mono ?_
    rintro e w' ⟨he, lv2, hR, hN, hA⟩
    exact ⟨he, lv2, h.stepR hR hN hA⟩
  · obtain ⟨-, -, k1, k2, klt⟩ := K.lock hV
    obtain ⟨i1, i2⟩ := tick_kinds R k1 k2
    have hc := rtEnter_in b' r f2 lv' log th Pc Ow' w h.T.R (by rw [rV]; exact hV) (by rw [rn]; exact i2) (by omega) hl (by omega) hP (by rw [rn]; exact hS)
    rw [rn] at hc
    refine hc.mono ?_
    rintro e w' ⟨he, lv2, hR, hN, hA⟩
    exact ⟨he, lv2, h.stepR hR hN hA⟩
theorem dLeave64 {w0 w : World} {b g : Nat} {y : LY} {f f1 : Nat → Int} {lv : Value} {log log1 : List Acc} {b' : Nat} {r : RY} {lv' : Value} {ups : List (List Int)} {fb gb ib : Nat} {P O P' O' : Nat → Int} {inb : Nat → Bool} (K : BK y ups) (R : Rel y r 64) (rV : r.V = y.V) (rn : r.n = y.n) (h : PW64 w0 w b g y f1 lv log1 b' r f lv' log ups fb gb ib P O P' O' inb) (hl : log.length ≤ 1000) (th : Int) {f2 : Nat → Int} {log2 : List Acc} (hE : LeRel y.V 64 y.n f log th f2 log2) :
    Calls Tryz.prog 67 #[.pointer (some ⟨b', 0, none⟩), .int .i64 th] w fun e w' => e = .returned (.tuple #[]) ∧ ∃ lv2, PW64 w0 w' b g y f1 lv log1 b' r f2 lv2 log2 ups fb gb ib P O P' O' inb := by
  have hm := R.m
  have hW : r.W = 64 := R.w
  have hm1 := K.yok.m1
  rcases hE with ⟨hV, rfl, rfl⟩ | ⟨hV, rfl, rfl⟩
  · refine (rtLeave_no b' r f2 lv' log2 th w h.T.R (by rw [rV]; exact hV)).mono ?_
    rintro e w' ⟨rfl, hx⟩
    exact ⟨rfl, lv', h.ext hx⟩
  · obtain ⟨-, -, k1, k2, klt⟩ := K.lock hV
    obtain ⟨i1, i2⟩ := tick_kinds R k1 k2
    have hc := rtLeave_yes b' r f lv' log th w h.T.R (by rw [rV]; exact hV) (by rw [rn]; exact i2) (by omega) hl (by omega) (by rw [hW]; decide)
    rw [rn, hW] at hc
    refine hc.mono ?_
    rintro e w' ⟨he, lv2, hR, hN, hA⟩
    exact ⟨he, lv2, h.stepR hR hN hA⟩
theorem dWaiting64 {w0 w : World} {b g : Nat} {y : LY} {f f1 : Nat → Int} {lv : Value} {log log1 : List Acc} {b' : Nat} {r : RY} {lv' : Value} {ups : List (List Int)} {fb gb ib : Nat} {P O P' O' : Nat → Int} {inb : Nat → Bool} (K : BK y ups) (R : Rel y r 64) (rV : r.V = y.V) (rn : r.n = y.n) (h : PW64 w0 w b g y f1 lv log1 b' r f lv' log ups fb gb ib P O P' O' inb) (hr : Rg64 y.n f) :
    Calls Tryz.prog 69 #[.pointer (some ⟨b', 0, none⟩)] w fun e w' => e = .returned (.int .i64 (wtV64 y.V y.n f)) ∧ Ext w w' := by
  have hm := R.m
  have hm1 := K.yok.m1
  by_cases hV : y.V = 5
  · obtain ⟨-, -, k1, k2, klt⟩ := K.lock hV
    have h1 := rtWaiting_64 b' r f lv' log w h.T.R (by rw [rV]; exact hV) (by omega) (by omega) R.w (by rw [rn]; exact hr.1.1) (by rw [rn]; exact hr.2.1)
    rw [rn] at h1
    rwa [show D64 (f y.n - f (y.n + 1)) = wtV64 y.V y.n f from (if_pos hV).symm] at h1
  · have h1 := rtWaiting_no b' r f lv' log w h.T.R (by rw [rV]; exact hV)
    rwa [show (0 : Int) = wtV64 y.V y.n f from (if_neg hV).symm] at h1
end Go.Proofs.YtlnffbocclpnnaaGreatDoorR
/- TurnPlays: what is played at one width. -/
namespace Go.Proofs.YtlnffbocclpnnaaGreatDoorR
open Go.RowKit
set_option linter.unusedVariables false
set_option linter.unusedSimpArgs false
set_option maxHeartbeats 4000000
attribute [local go_sem] later_cell later_frozen later_const
theorem Tag.sets {w : World} {b t k : Nat} (h : Tag w b t) : ∀ (cs : List Value) (o : Nat), Tag (w.setCells k o cs) b t := by
  intro cs
  induction cs generalizing w with
  | nil => intro o; exact h
  | cons v r ih => intro o; exact ih h.set (o + 1)
/-- a row that is made and filled with its zeros -/
theorem arr_fact {n T : Nat} {C : Array Value} {f : Nat → Value} {w w' : World} (hb : Ext ((w.alloc (.cells C T)).setCells w.heap.size 0 C.toList) w') (e : C = (vl n f).toArray) : VA n w' w.heap.size f ∧ Tag w' w.heap.size T ∧ Ext w w' :=
  ⟨(va_setCells (va_new (n := n) w T C f e) f C.toList (by rw [e])).ext hb, ((Tag.new w C T).sets _ _).ext hb, Ext.trans (ext_setCells w.heap.size (Nat.le_refl _) _ 0 _ ((Ext.refl w).alloc _)) hb⟩
theorem name_list {P : Program} {ops : Array Oper} {Q : Exit → Act → World → Prop} {l : List Oper} {a : Act} {W : World} (h : ∀ w', W = w' → wpList P ops Q l a w') : wpList P ops Q l a W := h W rfl
theorem name_wp {P : Program} {c : Code} {Q : Exit → Act → World → Prop} {a : Act} {W : World} (h : ∀ w', W = w' → c.wp P Q a w') : c.wp P Q a W := h W rfl
theorem wrap_own (x : Int) (h0 : 0 ≤ x) (h1 : x < 18446744073709551616) : IntKind.u64.wrap x = x := by
  simp [IntKind.wrap, IntKind.signed, IntKind.bits]
  omega
theorem EnRel.own32 {V : Int} {n : Nat} {Pc Ow : Int} {f : Nat → Int} {log : List Acc} {t : Int} {d : Bool} {Pc' Ow' : Int} {f2 : Nat → Int} {log2 : List Acc} (h : EnRel V 32 n Pc Ow f log t d Pc' Ow' f2 log2) (hr : Rg32 n f) (ho : 0 ≤ Ow ∧ Ow < 4294967296) : 0 ≤ Ow' ∧ Ow' < 4294967296 := by
  rcases h with ⟨_, _, _, e, _, _⟩ | ⟨_, _, _, _, e, _, _⟩ | ⟨_, _, _, _, _, e, _, _⟩ | ⟨_, _, _, _, _, e, _, _⟩ <;> rw [e]
  · exact ho
  · exact hr.1
  · exact ho
  · exact ho
theorem first_rg32 {y : LY} {ups : List (List Int)} (K : BK y ups) (hW : y.W = 32) (h0 : 0 ≤ y.S) (h1 : y.S < 18446744073709551616) : Rg32 y.n (fsC y.V y.W y.C y.S y.n) := by
  have h : ∀ i : Nat, 0 ≤ fsC y.V y.W y.C y.S y.n i ∧ fsC y.V y.W y.C y.S y.n i < 4294967296 := fun i => by
    have hc := K.ok.rc
    unfold fsC
    rw [hW]
    first
      | exact fst_rng32 hc _ _
      | exact fst_rng (.inr rfl) hc h0 h1 _ _
  exact ⟨h _, h _⟩
set_option maxRecDepth 100000 in
theorem tnPlayed32 (V C P S : Int) (a : Option Addr) (cap : Nat) (ups : List (List Int)) (a2 : Option Addr) (len2 cap2 : Nat) (zs : List Int) (w : World) (h : ListsV w (.slice a ups.length cap) ups) (hR : ∀ i, i < len2 → ∃ (b off z : Nat), z < 256 ∧ a2 = some ⟨b, off, none⟩ ∧ w.cell? ⟨b, off + i, none⟩ = some (.int .u8 z)) (E : Parts w) (hll : ∀ l ∈ ups, l.length ≤ 1000000) (hn : ups.length ≤ 1000000) (hg : ckC V 32 C P ups = 0) (h300 : len2 ≤ 300) (hS0 : 0 ≤ S) (hS1 : S < 18446744073709551616) :
    Calls Tryz.prog 27 #[(.agg #[.int .i64 V, .int .i64 32, .int .i64 C, .int .i64 P, .int .u64 (S), .slice a ups.length cap]), .slice a2 len2 cap2] w fun e w' => e = .returned (.bool true) ∧ Ext w w' := by
  have CO := Lib.hid (fun w' (hx : Ext w w') => of_board V 32 C P S _ ups w' (h.ext hx) hll hn hg)
  have CN := Lib.hid (fun (y : LY) w' (K : BK y ups) hw hL h0 h1 => new_board32 y ups w' K hw hL h0 h1)
  have CR := Lib.hid (fun (y : LY) w' (K : BK y ups) hy => rnew_board V 32 C P S a cap y ups w' K hy hS0)
  have HROW := Lib.hid hR
  have HE := Lib.hid (fun w' (hx : Ext w w') => E.ext hx)
  have HS := Lib.hid (And.intro hS0 hS1)
  obtain ⟨n, hn0⟩ : ∃ n, n = ups.length := ⟨_, rfl⟩
  have HN0 := Lib.hid hn0
  rw [← hn0] at CO CR ⊢
  clear h hR E hll hn hg hn0 hS0 hS1
  go_enter Tryz.func27, Tryz.ntmps27
  go_wp2_with fail
  refine (CO.out _ (by repeat (first | with_reducible exact Ext.refl _ | with_reducible assumption | with_reducible refine Ext.alloc ?_ _ | with_reducible refine Ext.drew ?_ | with_reducible refine Ext.drewN ?_ _ | with_reducible refine Ext.setCell ?_ (by simp <;> omega) _ | with_reducible refine Ext.trans ?_ (by assumption)))).mono ?_
  rintro e wo ⟨y0, K0, o0, rfl, O0, Xo⟩
  have XO : Ext w wo := Ext.trans ((Ext.refl w).alloc _) Xo
  have qc_0 : wo.cell? ⟨w.heap.size, 0, none⟩ = some (.int .i64 V) := Xo.cell (by simp [go_sem])
  have qc_1 : wo.cell? ⟨w.heap.size, 1, none⟩ = some (.int .i64 32) := Xo.cell (by simp [go_sem])
  have qc_2 : wo.cell? ⟨w.heap.size, 2, none⟩ = some (.int .i64 C) := Xo.cell (by simp [go_sem])
  have qc_3 : wo.cell? ⟨w.heap.size, 3, none⟩ = some (.int .i64 P) := Xo.cell (by simp [go_sem])
  have qc_4 : wo.cell? ⟨w.heap.size, 4, none⟩ = some (.int .u64 S) := Xo.cell (by simp [go_sem])
  have qc_5 : wo.cell? ⟨w.heap.size, 5, none⟩ = some (.slice a n cap) := Xo.cell (by simp [go_sem])
  have HK0 := Lib.hid K0
  have Ho0 := Lib.hid o0
  have HO0 := Lib.hid O0
  have HXO := Lib.hid XO
  clear K0 o0 O0 XO Xo
  go_upto_region 2 with (fail)
  refine settle_wp ?_
  intro wA hbA
  have ql_0 : wA.cell? ⟨wo.heap.size, 0, none⟩ = some (.int .i64 y0.V) := hbA.cell (by simp [go_sem])
  have ql_1 : wA.cell? ⟨wo.heap.size, 1, none⟩ = some (.int .i64 y0.W) := hbA.cell (by simp [go_sem])
  have ql_2 : wA.cell? ⟨wo.heap.size, 2, none⟩ = some (.int .i64 y0.C) := hbA.cell (by simp [go_sem])
  have ql_3 : wA.cell? ⟨wo.heap.size, 3, none⟩ = some (.int .i64 y0.P) := hbA.cell (by simp [go_sem])
  have ql_4 : wA.cell? ⟨wo.heap.size, 4, none⟩ = some (.int .u64 y0.S) := hbA.cell (by simp [go_sem])
  have ql_5 : wA.cell? ⟨wo.heap.size, 5, none⟩ = some (.slice y0.a y0.n y0.cap) := hbA.cell (by simp [go_sem])
  have ql_6 : wA.cell? ⟨wo.heap.size, 6, none⟩ = some (.int .i64 y0.Cu) := hbA.cell (by simp [go_sem])
  have ql_7 : wA.cell? ⟨wo.heap.size, 7, none⟩ = some (.int .i64 y0.Cl) := hbA.cell (by simp [go_sem])
  have ql_8 : wA.cell? ⟨wo.heap.size, 8, none⟩ = some (.int .i64 y0.Ti) := hbA.cell (by simp [go_sem])
  have ql_9 : wA.cell? ⟨wo.heap.size, 9, none⟩ = some (.int .i64 y0.Se) := hbA.cell (by simp [go_sem])
  have ql_10 : wA.cell? ⟨wo.heap.size, 10, none⟩ = some (.int .i64 y0.Ne) := hbA.cell (by simp [go_sem])
  have ql_11 : wA.cell? ⟨wo.heap.size, 11, none⟩ = some (.int .i64 y0.Ma) := hbA.cell (by simp [go_sem])
  have ql_12 : wA.cell? ⟨wo.heap.size, 12, none⟩ = some (.int .i64 y0.Sl) := hbA.cell (by simp [go_sem])
  have ql_13 : wA.cell? ⟨wo.heap.size, 13, none⟩ = some (.int .i64 y0.m) := hbA.cell (by simp [go_sem])
  have XA : Ext wo wA := Ext.trans ((Ext.refl wo).alloc _) hbA
  replace qc_0 := XA.cell qc_0
  replace qc_1 := XA.cell qc_1
  replace qc_2 := XA.cell qc_2
  replace qc_3 := XA.cell qc_3
  replace qc_4 := XA.cell qc_4
  replace qc_5 := XA.cell qc_5
  have HXA := Lib.hid (HXO.out.trans XA)
  have HOA := Lib.hid (HO0.out.ext XA)
  clear hbA XA HXO HO0 CO
  have l_0 := fun w' (hx : Ext wA w') => hx.cell ql_0
  have l_1 := fun w' (hx : Ext wA w') => hx.cell ql_1
  have l_2 := fun w' (hx : Ext wA w') => hx.cell ql_2
  have l_3 := fun w' (hx : Ext wA w') => hx.cell ql_3
  have l_4 := fun w' (hx : Ext wA w') => hx.cell ql_4
  have l_5 := fun w' (hx : Ext wA w') => hx.cell ql_5
  have l_6 := fun w' (hx : Ext wA w') => hx.cell ql_6
  have l_7 := fun w' (hx : Ext wA w') => hx.cell ql_7
  have l_8 := fun w' (hx : Ext wA w') => hx.cell ql_8
  have l_9 := fun w' (hx : Ext wA w') => hx.cell ql_9
  have l_10 := fun w' (hx : Ext wA w') => hx.cell ql_10
  have l_11 := fun w' (hx : Ext wA w') => hx.cell ql_11
  have l_12 := fun w' (hx : Ext wA w') => hx.cell ql_12
  have l_13 := fun w' (hx : Ext wA w') => hx.cell ql_13
  have c_0 := fun w' (hx : Ext wA w') => hx.cell qc_0
  have c_1 := fun w' (hx : Ext wA w') => hx.cell qc_1
  have c_2 := fun w' (hx : Ext wA w') => hx.cell qc_2
  have c_3 := fun w' (hx : Ext wA w') => hx.cell qc_3
  have c_4 := fun w' (hx : Ext wA w') => hx.cell qc_4
  have c_5 := fun w' (hx : Ext wA w') => hx.cell qc_5
  refine wp_region_held_drew (S := fun w' => Ext wA w') (by kernel_rfl) ?hbeg (fun hHeld => ?_)
  case hbeg => exact (Ext.refl wA).drew
  have hHeld0 : Ext wA wA := by first | exact Ext.refl _ | assumption
  first
    | (refine take_at (i := 0) (v := ?_) rfl rfl (by kernel_rfl) (by kernel_rfl) (by kernel_rfl) (fun _ _ _ h => h) (Or.inl ⟨by rfl, ?hy⟩) (by assumption) ?_
       case hy => (intro wz hSw; (try dsimp only at hSw); go_simp <;> with_reducible rfl)
       simp only [List.setIfInBounds_toArray, List.set_cons_zero, List.set_cons_succ])
    | (refine take_at (i := 0) (v := undef) rfl rfl (by kernel_rfl) (by kernel_rfl) (by kernel_rfl) (fun _ _ _ h => h) (Or.inr ⟨by rfl, rfl⟩) (by assumption) ?_
       simp only [List.setIfInBounds_toArray, List.set_cons_zero, List.set_cons_succ])
  first
    | (refine take_at (i := 2) (v := ?_) rfl rfl (by kernel_rfl) (by kernel_rfl) (by kernel_rfl) (fun _ _ _ h => h) (Or.inl ⟨by rfl, ?hy⟩) (by assumption) ?_
       case hy => (intro wz hSw; (try dsimp only at hSw); go_simp <;> with_reducible rfl)
       simp only [List.setIfInBounds_toArray, List.set_cons_zero, List.set_cons_succ])
    | (refine take_at (i := 2) (v := undef) rfl rfl (by kernel_rfl) (by kernel_rfl) (by kernel_rfl) (fun _ _ _ h => h) (Or.inr ⟨by rfl, rfl⟩) (by assumption) ?_
       simp only [List.setIfInBounds_toArray, List.set_cons_zero, List.set_cons_succ])
  clear l_0 l_1 l_2 l_3 l_4 l_5 l_6 l_7 l_8 l_9 l_10 l_11 l_12 l_13 c_0 c_1 c_2 c_3 c_4 c_5 ql_0 ql_1 ql_2 ql_3 ql_4 ql_5 ql_6 ql_7 ql_8 ql_9 ql_10 ql_11 ql_12 ql_13 qc_0 qc_1 qc_2 qc_3 qc_4 qc_5
  refine call_at (i := 1) (F := 16) (CN.out y0 _ HK0.out Ho0.out.w (HOA.out.ext hHeld) (by rw [Ho0.out.s]; exact HS.out.1) (by rw [Ho0.out.s]; exact HS.out.2)) rfl rfl (by kernel_rfl) (by rfl) (by first | rfl | (go_simp <;> rfl)) ?_
  rintro e w3 ⟨b, g, y, rfl, K, o, B, X3, hb3, hg3⟩
  replace hHeld := hHeld.trans X3
  refine ⟨_, rfl, hHeld, ?_⟩
  simp only [List.setIfInBounds_toArray, List.set_cons_zero, List.set_cons_succ]
  have oy : OfC y V 32 C P S n := ⟨o.v.trans Ho0.out.v, o.w.trans Ho0.out.w, o.c.trans Ho0.out.c, o.p.trans Ho0.out.p, o.s.trans Ho0.out.s, o.n.trans (Ho0.out.n.trans HN0.out.symm)⟩
  refine call_at (i := 3) (F := 17) (CR.out y _ K oy) rfl rfl (by kernel_rfl) (by rfl) (by first | rfl | (go_simp <;> rfl)) ?_
  rintro e w4 ⟨b', r, rfl, R4, rel, rV, rn, -, -, X4, hb4, hg4⟩
  replace hHeld := hHeld.trans X4
  refine ⟨_, rfl, hHeld, ?_⟩
  simp only [List.setIfInBounds_toArray, List.set_cons_zero, List.set_cons_succ]
  first
    | (refine take_at (i := 4) (v := ?_) rfl rfl (by kernel_rfl) (by kernel_rfl) (by kernel_rfl) (fun _ _ _ h => h) (Or.inl ⟨by rfl, ?hy⟩) (by assumption) ?_
       case hy => (intro wz hSw; (try dsimp only at hSw); go_simp <;> with_reducible rfl)
       simp only [List.setIfInBounds_toArray, List.set_cons_zero, List.set_cons_succ])
    | (refine take_at (i := 4) (v := undef) rfl rfl (by kernel_rfl) (by kernel_rfl) (by kernel_rfl) (fun _ _ _ h => h) (Or.inr ⟨by rfl, rfl⟩) (by assumption) ?_
       simp only [List.setIfInBounds_toArray, List.set_cons_zero, List.set_cons_succ])
  first
    | (refine take_at (i := 5) (v := ?_) rfl rfl (by kernel_rfl) (by kernel_rfl) (by kernel_rfl) (fun _ _ _ h => h) (Or.inl ⟨by rfl, ?hy⟩) (by assumption) ?_
       case hy => (intro wz hSw; (try dsimp only at hSw); go_simp <;> with_reducible rfl)
       simp only [List.setIfInBounds_toArray, List.set_cons_zero, List.set_cons_succ])
    | (refine take_at (i := 5) (v := undef) rfl rfl (by kernel_rfl) (by kernel_rfl) (by kernel_rfl) (fun _ _ _ h => h) (Or.inr ⟨by rfl, rfl⟩) (by assumption) ?_
       simp only [List.setIfInBounds_toArray, List.set_cons_zero, List.set_cons_succ])
  refine wpAnyH_done (by kernel_rfl) ?_ _
  have hsA : wA.heap.size ≤ wA.drew.heap.size := ((Ext.refl wA).drew).size
  have HT := Lib.hid (two_new B.B (Ext.trans (Ext.refl wA).drew X3) (Nat.le_trans hsA hb3) (Nat.le_trans hsA hg3) R4 X4 hb4 hg4)
  have HO4 := Lib.hid (B.O.ext X4)
  have HK := Lib.hid K
  have Hoy := Lib.hid oy
  have HREL : Hid (Rel y r 32) := Lib.hid (by rw [← oy.w]; exact rel)
  have HRV := Lib.hid rV
  have HRN := Lib.hid rn
  have HRG := Lib.hid (first_rg32 K oy.w (by rw [oy.s]; exact HS.out.1) (by rw [oy.s]; exact HS.out.2))
  generalize fsC y.V y.W y.C y.S y.n = F at *
  clear hsA B X3 hb3 hg3 R4 X4 hb4 hg4 K o oy rel rV rn hHeld HK0 Ho0 HOA CN CR HS
  go_wp2_with fail
  refine (tnHas32 b g y F _ _ ups _ HK.out ⟨HT.out.B, HO4.out⟩).mono ?_
  rintro e w5 ⟨rfl, X5⟩
  have HT5 := Lib.hid (HT.out.ext X5)
  have HO5 := Lib.hid (HO4.out.ext X5)
  clear X5 HT HO4
  go_wp2_with fail
  refine (rtHas b' r F _ _ _ HT5.out.R).mono ?_
  rintro e w' ⟨rfl, rfl⟩
  rw [HRV.out]
  generalize hvv : (y.V == 5) = vv
  clear hvv
  go_upto_region 6 with (with_reducible refine wpList_store_mid rfl _ (.tmp 9) (.tmp 35) rfl w5.heap.size 0 _ rfl rfl ?hs1 ?hs2 ?hs3 ?_)
  case hs1 => exact (va_new (n := 44) w5 110 _ (frV32 (fun _ => 0) (fun _ => 0)) (by kernel_rfl)).there
  case hs2 => kernel_rfl
  case hs3 => kernel_rfl
  refine settle_wp ?_
  intro w6 hb6
  obtain ⟨V1, T1, X56⟩ := arr_fact (n := 44) (f := frV32 (fun _ => 0) (fun _ => 0)) hb6 (by kernel_rfl)
  clear hb6
  go_upto_region 7 with (with_reducible refine wpList_store_mid rfl _ (.tmp 10) (.tmp 36) rfl w6.heap.size 0 _ rfl rfl ?hr1 ?hr2 ?hr3 ?_)
  case hr1 => exact (va_new (n := 44) w6 111 _ (frV64 (fun _ => 0) (fun _ => 0)) (by kernel_rfl)).there
  case hr2 => first | kernel_rfl | simpa using (show (Tryz.prog.info? 111).map (·.size) = some 44 by kernel_rfl)
  case hr3 => first | kernel_rfl | decide | simp
  refine settle_wp ?_
  intro w7 hb7
  obtain ⟨V2, T2, X67⟩ := arr_fact (n := 44) (f := frV64 (fun _ => 0) (fun _ => 0)) hb7 (by kernel_rfl)
  clear hb7
  go_upto_region 8 with (fail)
  refine settle_wp ?_
  intro w8 hb8
  obtain ⟨C3, hb9, e3⟩ : ∃ C3, Ext (w7.alloc (.cells C3 112)) w8 ∧ C3 = (vl 4 (fun i => .bool ((fun _ => false : Nat → Bool) i))).toArray := ⟨_, hb8, by kernel_rfl⟩
  clear hb8
  have X78 : Ext w7 w8 := Ext.trans ((Ext.refl w7).alloc _) hb9
  have V3 := (va_new (n := 4) w7 112 C3 _ e3).ext hb9
  have T3 := (Tag.new w7 C3 112).ext hb9
  have hs5 := HT5.out.ex.size
  have hs6 := X56.size
  have hs7 := X67.size
  have hs8 := X78.size
  have hl1 := tag_lt T1
  have hl2 := tag_lt T2
  have hl3 := tag_lt T3
  have far : ∀ k, w5.heap.size ≤ k → k < w8.heap.size → Far b g (.slice none 0 0) b' r (.slice none 0 0) wA w8 k := fun k hk hk2 =>
    ⟨fun e => by have := HT5.out.B.lt e; omega, fun e => by have := HT5.out.R.lt e; omega, fun e => by have := tag_lt HT5.out.R.tc; omega, by omega, hk2⟩
  have HP : Hid (PW32 wA w8 b g y F (.slice none 0 0) [] b' r F (.slice none 0 0) [] ups w5.heap.size w6.heap.size w7.heap.size (fun _ => 0) (fun _ => 0) (fun _ => 0) (fun _ => 0) (fun _ => false)) := Lib.hid
    ⟨((HT5.out.ext X56).ext X67).ext X78, ((HO5.out.ext X56).ext X67).ext X78, (V1.ext X67).ext X78, V2.ext X78, V3, ⟨_, (T1.ext X67).ext X78, by decide, by decide⟩, ⟨_, T2.ext X78, by decide, by decide⟩, ⟨_, T3, by decide, by decide⟩, far _ (by omega) (by omega), far _ (by omega) (by omega), far _ (by omega) hl3, by omega, by omega, by omega⟩
  clear hb9 e3 X56 X67 X78 V1 T1 V2 T2 V3 T3 hs5 hs6 hs7 hs8 hl1 hl2 hl3 far HT5 HO5
  generalize w7.heap.size = ib at *
  generalize w6.heap.size = gb at *
  generalize w5.heap.size = fb at *
  go_wp2
  go_loopw [12] (fun i wr => ∃ k : Nat, k ≤ len2 ∧ i = .int .i64 k ∧ ∃ f lv log lv' P O inb, PW32 wA wr b g y f lv log b' r f lv' log ups fb gb ib P O P O inb ∧ Rg32 y.n f ∧ (∀ u, u < 4 → 0 ≤ O u ∧ O u < 4294967296) ∧ log.length ≤ k) (fun i _ => len2 - (intOf i).toNat)
  case atStart => exact ⟨0, Nat.zero_le _, rfl, _, _, _, _, _, _, _, HP.out, HRG.out, fun _ _ => ⟨Int.le_refl _, by omega⟩, Nat.le_refl _⟩
  case round =>
    obtain ⟨k, hk, rfl, f, lv, log, lv', P, O, inb, hP, hrg, hOr, hlg⟩ := hrel
    have HP2 := Lib.hid hP
    have HOR := Lib.hid hOr
    clear hP HP HRG hOr
    by_cases hlt : k < len2
    case neg =>
      obtain rfl : k = len2 := by omega
      obtain ⟨al, cal, el, -⟩ := rowA_form HP2.out.T.R.row
      subst el
      have q8 := HP2.out.T.R.q8
      have hl1000 : log.length ≤ 1000 := by omega
      go_upto_region 24 with (fail)
      have k8 := fun w' (hx : Ext wr w') => hx.cell q8
      refine wp_region_held_drew (S := fun w' => Ext wr w') (by kernel_rfl) ?hbeg (fun hHeld => ?_)
      case hbeg => exact (Ext.refl wr).drew
      have hHeld0 : Ext wr wr := by first | exact Ext.refl _ | assumption
      first
        | (refine take_at (i := 0) (v := ?_) rfl rfl (by kernel_rfl) (by kernel_rfl) (by kernel_rfl) (fun _ _ _ h => h) (Or.inl ⟨by rfl, ?hy⟩) (by assumption) ?_
           case hy => (intro wz hSw; (try dsimp only at hSw); go_simp <;> with_reducible rfl)
           simp only [List.setIfInBounds_toArray, List.set_cons_zero, List.set_cons_succ])
        | (refine take_at (i := 0) (v := undef) rfl rfl (by kernel_rfl) (by kernel_rfl) (by kernel_rfl) (fun _ _ _ h => h) (Or.inr ⟨by rfl, rfl⟩) (by assumption) ?_
           simp only [List.setIfInBounds_toArray, List.set_cons_zero, List.set_cons_succ])
      first
        | (refine take_at (i := 2) (v := ?_) rfl rfl (by kernel_rfl) (by kernel_rfl) (by kernel_rfl) (fun _ _ _ h => h) (Or.inl ⟨by rfl, ?hy⟩) (by assumption) ?_
           case hy => (intro wz hSw; (try dsimp only at hSw); go_simp <;> with_reducible rfl)
           simp only [List.setIfInBounds_toArray, List.set_cons_zero, List.set_cons_succ])
        | (refine take_at (i := 2) (v := undef) rfl rfl (by kernel_rfl) (by kernel_rfl) (by kernel_rfl) (fun _ _ _ h => h) (Or.inr ⟨by rfl, rfl⟩) (by assumption) ?_
           simp only [List.setIfInBounds_toArray, List.set_cons_zero, List.set_cons_succ])
      first
        | (refine take_at (i := 3) (v := ?_) rfl rfl (by kernel_rfl) (by kernel_rfl) (by kernel_rfl) (fun _ _ _ h => h) (Or.inl ⟨by rfl, ?hy⟩) (by assumption) ?_
           case hy => (intro wz hSw; (try dsimp only at hSw); go_simp <;> with_reducible rfl)
           simp only [List.setIfInBounds_toArray, List.set_cons_zero, List.set_cons_succ])
        | (refine take_at (i := 3) (v := undef) rfl rfl (by kernel_rfl) (by kernel_rfl) (by kernel_rfl) (fun _ _ _ h => h) (Or.inr ⟨by rfl, rfl⟩) (by assumption) ?_
           simp only [List.setIfInBounds_toArray, List.set_cons_zero, List.set_cons_succ])
      first
        | (refine take_at (i := 4) (v := ?_) rfl rfl (by kernel_rfl) (by kernel_rfl) (by kernel_rfl) (fun _ _ _ h => h) (Or.inl ⟨by rfl, ?hy⟩) (by assumption) ?_
           case hy => (intro wz hSw; (try dsimp only at hSw); go_simp <;> with_reducible rfl)
           simp only [List.setIfInBounds_toArray, List.set_cons_zero, List.set_cons_succ])
        | (refine take_at (i := 4) (v := undef) rfl rfl (by kernel_rfl) (by kernel_rfl) (by kernel_rfl) (fun _ _ _ h => h) (Or.inr ⟨by rfl, rfl⟩) (by assumption) ?_
           simp only [List.setIfInBounds_toArray, List.set_cons_zero, List.set_cons_succ])
      first
        | (refine take_at (i := 5) (v := ?_) rfl rfl (by kernel_rfl) (by kernel_rfl) (by kernel_rfl) (fun _ _ _ h => h) (Or.inl ⟨by rfl, ?hy⟩) (by assumption) ?_
           case hy => (intro wz hSw; (try dsimp only at hSw); go_simp <;> with_reducible rfl)
           simp only [List.setIfInBounds_toArray, List.set_cons_zero, List.set_cons_succ])
        | (refine take_at (i := 5) (v := undef) rfl rfl (by kernel_rfl) (by kernel_rfl) (by kernel_rfl) (fun _ _ _ h => h) (Or.inr ⟨by rfl, rfl⟩) (by assumption) ?_
           simp only [List.setIfInBounds_toArray, List.set_cons_zero, List.set_cons_succ])
      refine call_at (i := 1) (F := 42) (Log32 b g y f lv log _ (HP2.out.T.ext hHeld).B hl1000) rfl rfl (by kernel_rfl) (by rfl) (by first | rfl | (go_simp <;> rfl)) ?_
      rintro e wq11 ⟨vq11, rfl, Rq11, Xq11⟩
      have Yq11 := Ext.trans hHeld Xq11
      refine ⟨_, rfl, Yq11, wpAnyH_strong (S' := fun w' => Ext wq11 w') (fun w' h => Ext.trans Yq11 h) _ _ _ _ ?_⟩
      simp only [List.setIfInBounds_toArray, List.set_cons_zero, List.set_cons_succ]
      have Zq11 : Ext wr wq11 := Ext.trans (by assumption) Yq11
      clear hHeld Xq11 Yq11
      have hHeld := Ext.refl wq11
      refine call_at (i := 6) (F := 41) (rSame12 _ 0 vq11 _ log _ Rq11 (HP2.out.T.ext Zq11).R.row hl1000) rfl rfl (by kernel_rfl) (by rfl) (by first | rfl | (go_simp <;> rfl)) ?_
      rintro e wq12 ⟨rfl, Xq12⟩
      have Yq12 := Ext.trans hHeld Xq12
      refine ⟨_, rfl, Yq12, wpAnyH_strong (S' := fun w' => Ext wq12 w') (fun w' h => Ext.trans Yq12 h) _ _ _ _ ?_⟩
      simp only [List.setIfInBounds_toArray, List.set_cons_zero, List.set_cons_succ]
      have Zq12 : Ext wr wq12 := Ext.trans (by assumption) Yq12
      clear hHeld Xq12 Yq12
      have hHeld := Ext.refl wq12
      first
        | (refine take_at (i := 7) (v := ?_) rfl rfl (by kernel_rfl) (by kernel_rfl) (by kernel_rfl) (fun _ _ _ h => h) (Or.inl ⟨by rfl, ?hy⟩) (by assumption) ?_
           case hy => (intro wz hSw; (try dsimp only at hSw); go_simp <;> with_reducible rfl)
           simp only [List.setIfInBounds_toArray, List.set_cons_zero, List.set_cons_succ])
        | (refine take_at (i := 7) (v := undef) rfl rfl (by kernel_rfl) (by kernel_rfl) (by kernel_rfl) (fun _ _ _ h => h) (Or.inr ⟨by rfl, rfl⟩) (by assumption) ?_
           simp only [List.setIfInBounds_toArray, List.set_cons_zero, List.set_cons_succ])
      refine wpAnyH_done (by kernel_rfl) ?_ _
      have HX := Lib.hid ((HXA.out.trans HP2.out.T.ex).trans Zq12)
      clear k8
      go_wp2
      go_ret
      exact ⟨rfl, HX.out⟩
    have hkl : (k : Int) < (len2 : Int) := by omega
    obtain ⟨rb, ro, z, hz, ea, cz⟩ := HROW.out k hlt
    subst ea
    replace cz := (HXA.out.trans HP2.out.T.ex).cell cz
    obtain ⟨t, ht, hzt⟩ : ∃ t : Nat, t < 4 ∧ ((z : Nat) : Int) % 4 = (t : Int) := ⟨z % 4, by omega, by omega⟩
    have hz0 : (0 : Int) ≤ (z : Int) := by omega
    have hz1 : (z : Int) < 256 := by omega
    have ht0 : (0 : Int) ≤ (t : Int) := by omega
    have ht4 : (t : Int) < 4 := by omega
    go_upto_region 12 with (fail)
    rw [hzt]
    have ci := HP2.out.ia.c t ht
    clear cz hz0 hz1 hzt
    cases hin : inb t
    case true =>
      rw [hin] at ci
      go_wp2_with fail
      refine (pLeave32 HK.out HP2.out (HE.out _ (HXA.out.trans HP2.out.T.ex)) hrg (by omega) _).mono ?_
      rintro e w3 ⟨f2, log2, hLe, rfl, lv2, hP3⟩
      have HP3 := Lib.hid hP3
      clear hP3 ci
      go_wp2_with fail
      refine (dLeave32 HK.out HREL.out HRV.out HRN.out HP3.out (by omega) _ hLe).mono ?_
      rintro e w4 ⟨rfl, lv3, hP4⟩
      have HP4 := Lib.hid hP4
      have c4 := hP4.ia.c t ht
      have z4 := hP4.ia.z t ht
      have HLE := Lib.hid hLe
      have HRGK := Lib.hid hrg
      clear hP4 HP3 hLe hrg
      have HP5 := Lib.hid (HP4.out.setI ht false)
      clear HP4
      go_wp2_with (first | (with_reducible refine wpList_store_mid rfl _ (.tmp 65) (.tmp 62) rfl fb (t * 11) (frZ32 0 0).toArray rfl rfl ?hf1 ?hf2 ?hf3 ?_) | (with_reducible refine wpList_store_mid rfl _ (.tmp 66) (.tmp 63) rfl gb (t * 11) (frZ64 0 0).toArray rfl rfl ?hi1 ?hi2 ?hi3 ?_))
      case hf1 => exact there_of (m := 11) HP5.out.fa (by omega)
      case hf2 => kernel_rfl
      case hf3 => kernel_rfl
      case hi1 => exact there_of (m := 11) (HP5.out.setsF ht 0 0).ga (by omega)
      case hi2 => kernel_rfl
      case hi3 => kernel_rfl
      have HP7 := Lib.hid ((HP5.out.setsF ht 0 0).setsG ht 0 0)
      clear HP5 c4 z4
      refine (pWaiting32 HK.out HP7.out (HE.out _ (HXA.out.trans HP7.out.T.ex)) Hoy.out.w).mono ?_
      rintro e w8 ⟨rfl, X8⟩
      have HP8 := Lib.hid (HP7.out.ext X8)
      clear X8 HP7
      have HRG2 := Lib.hid (HLE.out.rg32 HRGK.out)
      go_wp2_with fail
      refine (dWaiting32 HK.out HREL.out HRV.out HRN.out HP8.out HRG2.out).mono ?_
      rintro e w9 ⟨rfl, X9⟩
      have HP9 := Lib.hid (HP8.out.ext X9)
      clear X9 HP8
      generalize wtV32 y.V y.n f2 = wt at *
      go_wp2
      refine ⟨⟨k + 1, by omega, by go_num, f2, lv2, log2, lv3, _, _, _, HP9.out, HRG2.out, fun u hu => ?_, by have := HLE.out.len; omega⟩, by simp [intOf]; omega⟩
      by_cases e : u = t
      · subst e
        rw [show upd O u 0 u = 0 from if_pos rfl]
        omega
      · rw [show upd O t 0 u = O u from if_neg e]
        exact HOR.out u hu
    case false =>
      rw [hin] at ci
      go_wp2_with fail
      refine (pEnter32 HK.out HP2.out (HE.out _ (HXA.out.trans HP2.out.T.ex)) ht hrg (by omega) _).mono ?_
      rintro e w3 ⟨d, Pc, Ow, f2, log2, hEn, rfl, lv2, hP3⟩
      have HP3 := Lib.hid hP3
      have HEN := Lib.hid hEn
      have HRGK := Lib.hid hrg
      clear ci hP3 hEn hrg
      obtain ⟨dT, hdT, hdR⟩ : ∃ d, Tryz.prog.underlying 76 = some d ∧ d.isRow = true := ⟨_, rfl, rfl⟩
      go_wp2_with (with_reducible refine wpList_load_mid rfl _ (.tmp 76) rfl gb (t * 11) rfl (frZ64 (P t) (O t)) dT ?hg1 hdT hdR ?hg2 ?_)
      case hg1 => exact range_part HP3.out.ga _ (by show t * 11 + 11 ≤ 44; omega) (fun j hj => frZ64_at P O t j hj)
      case hg2 => kernel_rfl
      clear hdT hdR
      refine (dEnter32 HK.out HREL.out HRV.out HRN.out HP3.out (by omega) _ _ _ HEN.out).mono ?_
      rintro e w4 ⟨rfl, lv3, hP4⟩
      have HP4 := Lib.hid hP4
      clear hP4 HP3
      go_upto_region 18 with (fail)
      refine settle_wp ?_
      intro w5 hb5
      have y_0 : w5.cell? ⟨w4.heap.size, 0, none⟩ = some (.int .i64 0) := hb5.cell (by simp [go_sem])
      have y_1 : w5.cell? ⟨w4.heap.size, 1, none⟩ = some (.int .i64 0) := hb5.cell (by simp [go_sem])
      have y_2 : w5.cell? ⟨w4.heap.size, 2, none⟩ = some (.int .i64 0) := hb5.cell (by simp [go_sem])
      have y_3 : w5.cell? ⟨w4.heap.size, 3, none⟩ = some (.int .i64 Pc) := hb5.cell (by simp [go_sem])
      have y_4 : w5.cell? ⟨w4.heap.size, 4, none⟩ = some (.int .i64 0) := hb5.cell (by simp [go_sem])
      have y_5 : w5.cell? ⟨w4.heap.size, 5, none⟩ = some (.int .i64 0) := hb5.cell (by simp [go_sem])
      have y_6 : w5.cell? ⟨w4.heap.size, 6, none⟩ = some (.int .u64 0) := hb5.cell (by simp [go_sem])
      have y_7 : w5.cell? ⟨w4.heap.size, 7, none⟩ = some (.int .u64 0) := hb5.cell (by simp [go_sem])
      have y_8 : w5.cell? ⟨w4.heap.size, 8, none⟩ = some (.int .u64 0) := hb5.cell (by simp [go_sem])
      have y_9 : w5.cell? ⟨w4.heap.size, 9, none⟩ = some (.int .u64 Ow) := hb5.cell (by simp [go_sem])
      have y_10 : w5.cell? ⟨w4.heap.size, 10, none⟩ = some (.slice none 0 0) := hb5.cell (by simp [go_sem])
      have X45 : Ext w4 w5 := Ext.trans ((Ext.refl w4).alloc _) hb5
      have HP5 := Lib.hid (HP4.out.ext X45)
      have hgy : gb ≠ w4.heap.size := fun e => by have := HP4.out.gx.hi; omega
      have hiy : ib ≠ w4.heap.size := fun e => by have := HP4.out.ix.hi; omega
      clear X45 hb5 HP4
      generalize w4.heap.size = yb at *
      go_wp2_with (with_reducible refine wpList_store_mid rfl _ (.tmp 83) (.tmp 82) rfl gb (t * 11) (frZ64 Pc Ow).toArray rfl rfl ?hj1 ?hj2 ?hj3 ?_)
      case hj1 => exact there_of (m := 11) HP5.out.ga (by omega)
      case hj2 => kernel_rfl
      case hj3 => kernel_rfl
      first | refine name_list ?_ | refine name_wp ?_
      intro w6 e6
      have hP6 := HP5.out.setsG ht Pc Ow
      have e6' : w5.setCells gb (t * 11) (frZ64 Pc Ow) = w6 := e6
      rw [e6'] at hP6
      have hN := but_setCells gb (frZ64 Pc Ow) (t * 11) w5
      rw [e6'] at hN
      have y6_3 : w6.cell? ⟨yb, 3, none⟩ = some (.int .i64 Pc) := hN.cell y_3 (fun e => hgy e.symm)
      have y6_9 : w6.cell? ⟨yb, 9, none⟩ = some (.int .u64 Ow) := hN.cell y_9 (fun e => hgy e.symm)
      have HP6 := Lib.hid hP6
      clear HP5 hP6 e6 e6' hN y_0 y_1 y_2 y_3 y_4 y_5 y_6 y_7 y_8 y_9 y_10
      have HOw : Hid (0 ≤ Ow ∧ Ow < 4294967296) := Lib.hid (HEN.out.own32 HRGK.out (HOR.out t ht))
      have cf3 := HP6.out.fa.c (t * 11 + 3) (by omega)
      have cf9 := HP6.out.fa.c (t * 11 + 9) (by omega)
      rw [frV32_3, show upd P t Pc t = Pc from if_pos rfl] at cf3
      rw [frV32_9, show upd O t Ow t = Ow from if_pos rfl] at cf9
      have k1 := fun w' (hx : Ext w6 w') => hx.cell cf3
      have k2 := fun w' (hx : Ext w6 w') => hx.cell cf9
      have k3 := fun w' (hx : Ext w6 w') => hx.cell y6_3
      have k4 := fun w' (hx : Ext w6 w') => hx.cell y6_9
      obtain ⟨o0, o1⟩ := HOw.out
      refine wp_region_held_drew (S := fun w' => Ext w6 w') (by kernel_rfl) ?hbeg (fun hHeld => ?_)
      case hbeg => exact (Ext.refl w6).drew
      have hHeld0 : Ext w6 w6 := by first | exact Ext.refl _ | assumption
      first
        | (refine take_at (i := 0) (v := ?_) rfl rfl (by kernel_rfl) (by kernel_rfl) (by kernel_rfl) (fun _ _ _ h => h) (Or.inl ⟨by rfl, ?hy⟩) (by assumption) ?_
           case hy => (intro wz hSw; (try dsimp only at hSw); go_simp <;> with_reducible rfl)
           simp only [List.setIfInBounds_toArray, List.set_cons_zero, List.set_cons_succ])
        | (refine take_at (i := 0) (v := undef) rfl rfl (by kernel_rfl) (by kernel_rfl) (by kernel_rfl) (fun _ _ _ h => h) (Or.inr ⟨by rfl, rfl⟩) (by assumption) ?_
           simp only [List.setIfInBounds_toArray, List.set_cons_zero, List.set_cons_succ])
      first
        | (refine take_at (i := 1) (v := ?_) rfl rfl (by kernel_rfl) (by kernel_rfl) (by kernel_rfl) (fun _ _ _ h => h) (Or.inl ⟨by rfl, ?hy⟩) (by assumption) ?_
           case hy => (intro wz hSw; (try dsimp only at hSw); go_simp <;> with_reducible rfl)
           simp only [List.setIfInBounds_toArray, List.set_cons_zero, List.set_cons_succ])
        | (refine take_at (i := 1) (v := undef) rfl rfl (by kernel_rfl) (by kernel_rfl) (by kernel_rfl) (fun _ _ _ h => h) (Or.inr ⟨by rfl, rfl⟩) (by assumption) ?_
           simp only [List.setIfInBounds_toArray, List.set_cons_zero, List.set_cons_succ])
      first
        | (refine take_at (i := 2) (v := ?_) rfl rfl (by kernel_rfl) (by kernel_rfl) (by kernel_rfl) (fun _ _ _ h => h) (Or.inl ⟨by rfl, ?hy⟩) (by assumption) ?_
           case hy => (intro wz hSw; (try dsimp only at hSw); go_simp <;> with_reducible rfl)
           simp only [List.setIfInBounds_toArray, List.set_cons_zero, List.set_cons_succ])
        | (refine take_at (i := 2) (v := undef) rfl rfl (by kernel_rfl) (by kernel_rfl) (by kernel_rfl) (fun _ _ _ h => h) (Or.inr ⟨by rfl, rfl⟩) (by assumption) ?_
           simp only [List.setIfInBounds_toArray, List.set_cons_zero, List.set_cons_succ])
      first
        | (refine take_at (i := 3) (v := ?_) rfl rfl (by kernel_rfl) (by kernel_rfl) (by kernel_rfl) (fun _ _ _ h => h) (Or.inl ⟨by rfl, ?hy⟩) (by assumption) ?_
           case hy => (intro wz hSw; (try dsimp only at hSw); go_simp <;> with_reducible rfl)
           simp only [List.setIfInBounds_toArray, List.set_cons_zero, List.set_cons_succ])
        | (refine take_at (i := 3) (v := undef) rfl rfl (by kernel_rfl) (by kernel_rfl) (by kernel_rfl) (fun _ _ _ h => h) (Or.inr ⟨by rfl, rfl⟩) (by assumption) ?_
           simp only [List.setIfInBounds_toArray, List.set_cons_zero, List.set_cons_succ])
      first
        | (refine take_at (i := 4) (v := ?_) rfl rfl (by kernel_rfl) (by kernel_rfl) (by kernel_rfl) (fun _ _ _ h => h) (Or.inl ⟨by rfl, ?hy⟩) (by assumption) ?_
           case hy => (intro wz hSw; (try dsimp only at hSw); go_simp <;> with_reducible rfl)
           simp only [List.setIfInBounds_toArray, List.set_cons_zero, List.set_cons_succ])
        | (refine take_at (i := 4) (v := undef) rfl rfl (by kernel_rfl) (by kernel_rfl) (by kernel_rfl) (fun _ _ _ h => h) (Or.inr ⟨by rfl, rfl⟩) (by assumption) ?_
           simp only [List.setIfInBounds_toArray, List.set_cons_zero, List.set_cons_succ])
      first
        | (refine take_at (i := 5) (v := ?_) rfl rfl (by kernel_rfl) (by kernel_rfl) (by kernel_rfl) (fun _ _ _ h => h) (Or.inl ⟨by rfl, ?hy⟩) (by assumption) ?_
           case hy => (intro wz hSw; (try dsimp only at hSw); go_simp <;> with_reducible rfl)
           simp only [List.setIfInBounds_toArray, List.set_cons_zero, List.set_cons_succ])
        | (refine take_at (i := 5) (v := undef) rfl rfl (by kernel_rfl) (by kernel_rfl) (by kernel_rfl) (fun _ _ _ h => h) (Or.inr ⟨by rfl, rfl⟩) (by assumption) ?_
           simp only [List.setIfInBounds_toArray, List.set_cons_zero, List.set_cons_succ])
      first
        | (refine take_at (i := 6) (v := ?_) rfl rfl (by kernel_rfl) (by kernel_rfl) (by kernel_rfl) (fun _ _ _ h => h) (Or.inl ⟨by rfl, ?hy⟩) (by assumption) ?_
           case hy => (intro wz hSw; (try dsimp only at hSw); go_simp <;> with_reducible rfl)
           simp only [List.setIfInBounds_toArray, List.set_cons_zero, List.set_cons_succ])
        | (refine take_at (i := 6) (v := undef) rfl rfl (by kernel_rfl) (by kernel_rfl) (by kernel_rfl) (fun _ _ _ h => h) (Or.inr ⟨by rfl, rfl⟩) (by assumption) ?_
           simp only [List.setIfInBounds_toArray, List.set_cons_zero, List.set_cons_succ])
      first
        | (refine take_at (i := 7) (v := ?_) rfl rfl (by kernel_rfl) (by kernel_rfl) (by kernel_rfl) (fun _ _ _ h => h) (Or.inl ⟨by rfl, ?hy⟩) (by assumption) ?_
           case hy => (intro wz hSw; (try dsimp only at hSw); go_simp <;> with_reducible rfl)
           simp only [List.setIfInBounds_toArray, List.set_cons_zero, List.set_cons_succ])
        | (refine take_at (i := 7) (v := undef) rfl rfl (by kernel_rfl) (by kernel_rfl) (by kernel_rfl) (fun _ _ _ h => h) (Or.inr ⟨by rfl, rfl⟩) (by assumption) ?_
           simp only [List.setIfInBounds_toArray, List.set_cons_zero, List.set_cons_succ])
      first
        | (refine take_at (i := 8) (v := ?_) rfl rfl (by kernel_rfl) (by kernel_rfl) (by kernel_rfl) (fun _ _ _ h => h) (Or.inl ⟨by rfl, ?hy⟩) (by assumption) ?_
           case hy => (intro wz hSw; (try dsimp only at hSw); go_simp <;> with_reducible rfl)
           simp only [List.setIfInBounds_toArray, List.set_cons_zero, List.set_cons_succ])
        | (refine take_at (i := 8) (v := undef) rfl rfl (by kernel_rfl) (by kernel_rfl) (by kernel_rfl) (fun _ _ _ h => h) (Or.inr ⟨by rfl, rfl⟩) (by assumption) ?_
           simp only [List.setIfInBounds_toArray, List.set_cons_zero, List.set_cons_succ])
      first
        | (refine take_at (i := 9) (v := ?_) rfl rfl (by kernel_rfl) (by kernel_rfl) (by kernel_rfl) (fun _ _ _ h => h) (Or.inl ⟨by rfl, ?hy⟩) (by assumption) ?_
           case hy => (intro wz hSw; (try dsimp only at hSw); go_simp <;> with_reducible rfl)
           simp only [List.setIfInBounds_toArray, List.set_cons_zero, List.set_cons_succ])
        | (refine take_at (i := 9) (v := undef) rfl rfl (by kernel_rfl) (by kernel_rfl) (by kernel_rfl) (fun _ _ _ h => h) (Or.inr ⟨by rfl, rfl⟩) (by assumption) ?_
           simp only [List.setIfInBounds_toArray, List.set_cons_zero, List.set_cons_succ])
      first
        | (refine take_at (i := 10) (v := ?_) rfl rfl (by kernel_rfl) (by kernel_rfl) (by kernel_rfl) (fun _ _ _ h => h) (Or.inl ⟨by rfl, ?hy⟩) (by assumption) ?_
           case hy => (intro wz hSw; (try dsimp only at hSw); go_simp <;> with_reducible rfl)
           simp only [List.setIfInBounds_toArray, List.set_cons_zero, List.set_cons_succ])
        | (refine take_at (i := 10) (v := undef) rfl rfl (by kernel_rfl) (by kernel_rfl) (by kernel_rfl) (fun _ _ _ h => h) (Or.inr ⟨by rfl, rfl⟩) (by assumption) ?_
           simp only [List.setIfInBounds_toArray, List.set_cons_zero, List.set_cons_succ])
      first
        | (refine take_at (i := 11) (v := ?_) rfl rfl (by kernel_rfl) (by kernel_rfl) (by kernel_rfl) (fun _ _ _ h => h) (Or.inl ⟨by rfl, ?hy⟩) (by assumption) ?_
           case hy => (intro wz hSw; (try dsimp only at hSw); go_simp <;> with_reducible rfl)
           simp only [List.setIfInBounds_toArray, List.set_cons_zero, List.set_cons_succ])
        | (refine take_at (i := 11) (v := undef) rfl rfl (by kernel_rfl) (by kernel_rfl) (by kernel_rfl) (fun _ _ _ h => h) (Or.inr ⟨by rfl, rfl⟩) (by assumption) ?_
           simp only [List.setIfInBounds_toArray, List.set_cons_zero, List.set_cons_succ])
      first
        | (refine take_at (i := 12) (v := ?_) rfl rfl (by kernel_rfl) (by kernel_rfl) (by kernel_rfl) (fun _ _ _ h => h) (Or.inl ⟨by rfl, ?hy⟩) (by assumption) ?_
           case hy => (intro wz hSw; (try dsimp only at hSw); go_simp <;> with_reducible rfl)
           simp only [List.setIfInBounds_toArray, List.set_cons_zero, List.set_cons_succ])
        | (refine take_at (i := 12) (v := undef) rfl rfl (by kernel_rfl) (by kernel_rfl) (by kernel_rfl) (fun _ _ _ h => h) (Or.inr ⟨by rfl, rfl⟩) (by assumption) ?_
           simp only [List.setIfInBounds_toArray, List.set_cons_zero, List.set_cons_succ])
      first
        | (refine take_at (i := 13) (v := ?_) rfl rfl (by kernel_rfl) (by kernel_rfl) (by kernel_rfl) (fun _ _ _ h => h) (Or.inl ⟨by rfl, ?hy⟩) (by assumption) ?_
           case hy => (intro wz hSw; (try dsimp only at hSw); go_simp <;> with_reducible rfl)
           simp only [List.setIfInBounds_toArray, List.set_cons_zero, List.set_cons_succ])
        | (refine take_at (i := 13) (v := undef) rfl rfl (by kernel_rfl) (by kernel_rfl) (by kernel_rfl) (fun _ _ _ h => h) (Or.inr ⟨by rfl, rfl⟩) (by assumption) ?_
           simp only [List.setIfInBounds_toArray, List.set_cons_zero, List.set_cons_succ])
      first
        | (refine take_at (i := 14) (v := ?_) rfl rfl (by kernel_rfl) (by kernel_rfl) (by kernel_rfl) (fun _ _ _ h => h) (Or.inl ⟨by rfl, ?hy⟩) (by assumption) ?_
           case hy => (intro wz hSw; (try dsimp only at hSw); go_simp <;> with_reducible rfl)
           simp only [List.setIfInBounds_toArray, List.set_cons_zero, List.set_cons_succ])
        | (refine take_at (i := 14) (v := undef) rfl rfl (by kernel_rfl) (by kernel_rfl) (by kernel_rfl) (fun _ _ _ h => h) (Or.inr ⟨by rfl, rfl⟩) (by assumption) ?_
           simp only [List.setIfInBounds_toArray, List.set_cons_zero, List.set_cons_succ])
      first
        | (refine take_at (i := 15) (v := ?_) rfl rfl (by kernel_rfl) (by kernel_rfl) (by kernel_rfl) (fun _ _ _ h => h) (Or.inl ⟨by rfl, ?hy⟩) (by assumption) ?_
           case hy => (intro wz hSw; (try dsimp only at hSw); go_simp <;> with_reducible rfl)
           simp only [List.setIfInBounds_toArray, List.set_cons_zero, List.set_cons_succ])
        | (refine take_at (i := 15) (v := undef) rfl rfl (by kernel_rfl) (by kernel_rfl) (by kernel_rfl) (fun _ _ _ h => h) (Or.inr ⟨by rfl, rfl⟩) (by assumption) ?_
           simp only [List.setIfInBounds_toArray, List.set_cons_zero, List.set_cons_succ])
      first
        | (refine take_at (i := 16) (v := ?_) rfl rfl (by kernel_rfl) (by kernel_rfl) (by kernel_rfl) (fun _ _ _ h => h) (Or.inl ⟨by rfl, ?hy⟩) (by assumption) ?_
           case hy => (intro wz hSw; (try dsimp only at hSw); go_simp <;> with_reducible rfl)
           simp only [List.setIfInBounds_toArray, List.set_cons_zero, List.set_cons_succ])
        | (refine take_at (i := 16) (v := undef) rfl rfl (by kernel_rfl) (by kernel_rfl) (by kernel_rfl) (fun _ _ _ h => h) (Or.inr ⟨by rfl, rfl⟩) (by assumption) ?_
           simp only [List.setIfInBounds_toArray, List.set_cons_zero, List.set_cons_succ])
      first
        | (refine take_at (i := 17) (v := ?_) rfl rfl (by kernel_rfl) (by kernel_rfl) (by kernel_rfl) (fun _ _ _ h => h) (Or.inl ⟨by rfl, ?hy⟩) (by assumption) ?_
           case hy => (intro wz hSw; (try dsimp only at hSw); go_simp <;> with_reducible rfl)
           simp only [List.setIfInBounds_toArray, List.set_cons_zero, List.set_cons_succ])
        | (refine take_at (i := 17) (v := undef) rfl rfl (by kernel_rfl) (by kernel_rfl) (by kernel_rfl) (fun _ _ _ h => h) (Or.inr ⟨by rfl, rfl⟩) (by assumption) ?_
           simp only [List.setIfInBounds_toArray, List.set_cons_zero, List.set_cons_succ])
      first
        | (refine take_at (i := 18) (v := ?_) rfl rfl (by kernel_rfl) (by kernel_rfl) (by kernel_rfl) (fun _ _ _ h => h) (Or.inl ⟨by rfl, ?hy⟩) (by assumption) ?_
           case hy => (intro wz hSw; (try dsimp only at hSw); go_simp <;> with_reducible rfl)
           simp only [List.setIfInBounds_toArray, List.set_cons_zero, List.set_cons_succ])
        | (refine take_at (i := 18) (v := undef) rfl rfl (by kernel_rfl) (by kernel_rfl) (by kernel_rfl) (fun _ _ _ h => h) (Or.inr ⟨by rfl, rfl⟩) (by assumption) ?_
           simp only [List.setIfInBounds_toArray, List.set_cons_zero, List.set_cons_succ])
      first
        | (refine take_at (i := 19) (v := ?_) rfl rfl (by kernel_rfl) (by kernel_rfl) (by kernel_rfl) (fun _ _ _ h => h) (Or.inl ⟨by rfl, ?hy⟩) (by assumption) ?_
           case hy => (intro wz hSw; (try dsimp only at hSw); go_simp <;> with_reducible rfl)
           simp only [List.setIfInBounds_toArray, List.set_cons_zero, List.set_cons_succ])
        | (refine take_at (i := 19) (v := undef) rfl rfl (by kernel_rfl) (by kernel_rfl) (by kernel_rfl) (fun _ _ _ h => h) (Or.inr ⟨by rfl, rfl⟩) (by assumption) ?_
           simp only [List.setIfInBounds_toArray, List.set_cons_zero, List.set_cons_succ])
      first
        | (refine take_at (i := 20) (v := ?_) rfl rfl (by kernel_rfl) (by kernel_rfl) (by kernel_rfl) (fun _ _ _ h => h) (Or.inl ⟨by rfl, ?hy⟩) (by assumption) ?_
           case hy => (intro wz hSw; (try dsimp only at hSw); go_simp <;> with_reducible rfl)
           simp only [List.setIfInBounds_toArray, List.set_cons_zero, List.set_cons_succ])
        | (refine take_at (i := 20) (v := undef) rfl rfl (by kernel_rfl) (by kernel_rfl) (by kernel_rfl) (fun _ _ _ h => h) (Or.inr ⟨by rfl, rfl⟩) (by assumption) ?_
           simp only [List.setIfInBounds_toArray, List.set_cons_zero, List.set_cons_succ])
      first
        | (refine take_at (i := 21) (v := ?_) rfl rfl (by kernel_rfl) (by kernel_rfl) (by kernel_rfl) (fun _ _ _ h => h) (Or.inl ⟨by rfl, ?hy⟩) (by assumption) ?_
           case hy => (intro wz hSw; (try dsimp only at hSw); go_simp <;> with_reducible rfl)
           simp only [List.setIfInBounds_toArray, List.set_cons_zero, List.set_cons_succ])
        | (refine take_at (i := 21) (v := undef) rfl rfl (by kernel_rfl) (by kernel_rfl) (by kernel_rfl) (fun _ _ _ h => h) (Or.inr ⟨by rfl, rfl⟩) (by assumption) ?_
           simp only [List.setIfInBounds_toArray, List.set_cons_zero, List.set_cons_succ])
      refine wpAnyH_done (by kernel_rfl) ?_ _
      try
        rw [show (IntKind.u64.wrap Ow != Ow) = false by rw [wrap_own Ow o0 (by omega)]; exact bne_self_eq_false Ow]
      clear k1 k2 k3 k4 cf3 cf9 y6_3 y6_9 o0 o1
      have HP7 := Lib.hid (HP6.out.ext hHeld)
      go_upto_region 21 with (fail)
      have ci7 := HP7.out.ia.c t ht
      have zi7 := HP7.out.ia.z t ht
      have HP8 := Lib.hid ((HP6.out.setI ht d).ext ((Ext.refl _).drew))
      clear HP7 HP6
      go_upto_region 22 with (fail)
      refine name_wp ?_
      intro w8 e8
      rw [e8] at HP8
      clear e8 ci7 zi7
      have HRG2 := Lib.hid (HEN.out.rg32 HRGK.out)
      go_wp2_with fail
      refine (pWaiting32 HK.out HP8.out (HE.out _ (HXA.out.trans HP8.out.T.ex)) Hoy.out.w).mono ?_
      rintro e w9 ⟨rfl, X9⟩
      have HP9 := Lib.hid (HP8.out.ext X9)
      clear X9 HP8
      go_wp2_with fail
      refine (dWaiting32 HK.out HREL.out HRV.out HRN.out HP9.out HRG2.out).mono ?_
      rintro e w10 ⟨rfl, X10⟩
      have HP10 := Lib.hid (HP9.out.ext X10)
      clear X10 HP9
      generalize wtV32 y.V y.n f2 = wt at *
      go_wp2
      refine ⟨⟨k + 1, by omega, by go_num, f2, lv2, log2, lv3, _, _, _, HP10.out, HRG2.out, fun u hu => ?_, by have := HEN.out.len; omega⟩, by simp [intOf]; omega⟩
      by_cases e : u = t
      · subst e
        rw [show upd O u Ow u = Ow from if_pos rfl]
        exact HOw.out
      · rw [show upd O t Ow u = O u from if_neg e]
        exact HOR.out u hu
end Go.Proofs.YtlnffbocclpnnaaGreatDoorR
/- TurnPlays: what is played at one width. -/
namespace Go.Proofs.YtlnffbocclpnnaaGreatDoorR
open Go.RowKit
set_option linter.unusedVariables false
set_option linter.unusedSimpArgs false
set_option maxHeartbeats 4000000
attribute [local go_sem] later_cell later_frozen later_const
theorem EnRel.own64 {V : Int} {n : Nat} {Pc Ow : Int} {f : Nat → Int} {log : List Acc} {t : Int} {d : Bool} {Pc' Ow' : Int} {f2 : Nat → Int} {log2 : List Acc} (h : EnRel V 64 n Pc Ow f log t d Pc' Ow' f2 log2) (hr : Rg64 n f) (ho : 0 ≤ Ow ∧ Ow < 18446744073709551616) : 0 ≤ Ow' ∧ Ow' < 18446744073709551616 := by
  rcases h with ⟨_, _, _, e, _, _⟩ | ⟨_, _, _, _, e, _, _⟩ | ⟨_, _, _, _, _, e, _, _⟩ | ⟨_, _, _, _, _, e, _, _⟩ <;> rw [e]
  · exact ho
  · exact hr.1
  · exact ho
  · exact ho
theorem first_rg64 {y : LY} {ups : List (List Int)} (K : BK y ups) (hW : y.W = 64) (h0 : 0 ≤ y.S) (h1 : y.S < 18446744073709551616) : Rg64 y.n (fsC y.V y.W y.C y.S y.n) := by
  have h : ∀ i : Nat, 0 ≤ fsC y.V y.W y.C y.S y.n i ∧ fsC y.V y.W y.C y.S y.n i < 18446744073709551616 := fun i => by
    have hc := K.ok.rc
    unfold fsC
    rw [hW]
    first
      | exact fst_rng32 hc _ _
      | exact fst_rng (.inr rfl) hc h0 h1 _ _
  exact ⟨h _, h _⟩
set_option maxRecDepth 100000 in
theorem tnPlayed64 (V C P S : Int) (a : Option Addr) (cap : Nat) (ups : List (List Int)) (a2 : Option Addr) (len2 cap2 : Nat) (zs : List Int) (w : World) (h : ListsV w (.slice a ups.length cap) ups) (hR : ∀ i, i < len2 → ∃ (b off z : Nat), z < 256 ∧ a2 = some ⟨b, off, none⟩ ∧ w.cell? ⟨b, off + i, none⟩ = some (.int .u8 z)) (E : Parts w) (hll : ∀ l ∈ ups, l.length ≤ 1000000) (hn : ups.length ≤ 1000000) (hg : ckC V 64 C P ups = 0) (h300 : len2 ≤ 300) (hS0 : 0 ≤ S) (hS1 : S < 18446744073709551616) :
    Calls Tryz.prog 28 #[(.agg #[.int .i64 V, .int .i64 64, .int .i64 C, .int .i64 P, .int .u64 (S), .slice a ups.length cap]), .slice a2 len2 cap2] w fun e w' => e = .returned (.bool true) ∧ Ext w w' := by
  have CO := Lib.hid (fun w' (hx : Ext w w') => of_board V 64 C P S _ ups w' (h.ext hx) hll hn hg)
  have CN := Lib.hid (fun (y : LY) w' (K : BK y ups) hw hL h0 h1 => new_board64 y ups w' K hw hL h0 h1)
  have CR := Lib.hid (fun (y : LY) w' (K : BK y ups) hy => rnew_board V 64 C P S a cap y ups w' K hy hS0)
  have HROW := Lib.hid hR
  have HE := Lib.hid (fun w' (hx : Ext w w') => E.ext hx)
  have HS := Lib.hid (And.intro hS0 hS1)
  obtain ⟨n, hn0⟩ : ∃ n, n = ups.length := ⟨_, rfl⟩
  have HN0 := Lib.hid hn0
  rw [← hn0] at CO CR ⊢
  clear h hR E hll hn hg hn0 hS0 hS1
  go_enter Tryz.func28, Tryz.ntmps28
  go_wp2_with fail
  refine (CO.out _ (by repeat (first | with_reducible exact Ext.refl _ | with_reducible assumption | with_reducible refine Ext.alloc ?_ _ | with_reducible refine Ext.drew ?_ | with_reducible refine Ext.drewN ?_ _ | with_reducible refine Ext.setCell ?_ (by simp <;> omega) _ | with_reducible refine Ext.trans ?_ (by assumption)))).mono ?_
  rintro e wo ⟨y0, K0, o0, rfl, O0, Xo⟩
  have XO : Ext w wo := Ext.trans ((Ext.refl w).alloc _) Xo
  have qc_0 : wo.cell? ⟨w.heap.size, 0, none⟩ = some (.int .i64 V) := Xo.cell (by simp [go_sem])
  have qc_1 : wo.cell? ⟨w.heap.size, 1, none⟩ = some (.int .i64 64) := Xo.cell (by simp [go_sem])
  have qc_2 : wo.cell? ⟨w.heap.size, 2, none⟩ = some (.int .i64 C) := Xo.cell (by simp [go_sem])
  have qc_3 : wo.cell? ⟨w.heap.size, 3, none⟩ = some (.int .i64 P) := Xo.cell (by simp [go_sem])
  have qc_4 : wo.cell? ⟨w.heap.size, 4, none⟩ = some (.int .u64 S) := Xo.cell (by simp [go_sem])
  have qc_5 : wo.cell? ⟨w.heap.size, 5, none⟩ = some (.slice a n cap) := Xo.cell (by simp [go_sem])
  have HK0 := Lib.hid K0
  have Ho0 := Lib.hid o0
  have HO0 := Lib.hid O0
  have HXO := Lib.hid XO
  clear K0 o0 O0 XO Xo
  go_upto_region 2 with (fail)
  refine settle_wp ?_
  intro wA hbA
  have ql_0 : wA.cell? ⟨wo.heap.size, 0, none⟩ = some (.int .i64 y0.V) := hbA.cell (by simp [go_sem])
  have ql_1 : wA.cell? ⟨wo.heap.size, 1, none⟩ = some (.int .i64 y0.W) := hbA.cell (by simp [go_sem])
  have ql_2 : wA.cell? ⟨wo.heap.size, 2, none⟩ = some (.int .i64 y0.C) := hbA.cell (by simp [go_sem])
  have ql_3 : wA.cell? ⟨wo.heap.size, 3, none⟩ = some (.int .i64 y0.P) := hbA.cell (by simp [go_sem])
  have ql_4 : wA.cell? ⟨wo.heap.size, 4, none⟩ = some (.int .u64 y0.S) := hbA.cell (by simp [go_sem])
  have ql_5 : wA.cell? ⟨wo.heap.size, 5, none⟩ = some (.slice y0.a y0.n y0.cap) := hbA.cell (by simp [go_sem])
  have ql_6 : wA.cell? ⟨wo.heap.size, 6, none⟩ = some (.int .i64 y0.Cu) := hbA.cell (by simp [go_sem])
  have ql_7 : wA.cell? ⟨wo.heap.size, 7, none⟩ = some (.int .i64 y0.Cl) := hbA.cell (by simp [go_sem])
  have ql_8 : wA.cell? ⟨wo.heap.size, 8, none⟩ = some (.int .i64 y0.Ti) := hbA.cell (by simp [go_sem])
  have ql_9 : wA.cell? ⟨wo.heap.size, 9, none⟩ = some (.int .i64 y0.Se) := hbA.cell (by simp [go_sem])
  have ql_10 : wA.cell? ⟨wo.heap.size, 10, none⟩ = some (.int .i64 y0.Ne) := hbA.cell (by simp [go_sem])
  have ql_11 : wA.cell? ⟨wo.heap.size, 11, none⟩ = some (.int .i64 y0.Ma) := hbA.cell (by simp [go_sem])
  have ql_12 : wA.cell? ⟨wo.heap.size, 12, none⟩ = some (.int .i64 y0.Sl) := hbA.cell (by simp [go_sem])
  have ql_13 : wA.cell? ⟨wo.heap.size, 13, none⟩ = some (.int .i64 y0.m) := hbA.cell (by simp [go_sem])
  have XA : Ext wo wA := Ext.trans ((Ext.refl wo).alloc _) hbA
  replace qc_0 := XA.cell qc_0
  replace qc_1 := XA.cell qc_1
  replace qc_2 := XA.cell qc_2
  replace qc_3 := XA.cell qc_3
  replace qc_4 := XA.cell qc_4
  replace qc_5 := XA.cell qc_5
  have HXA := Lib.hid (HXO.out.trans XA)
  have HOA := Lib.hid (HO0.out.ext XA)
  clear hbA XA HXO HO0 CO
  have l_0 := fun w' (hx : Ext wA w') => hx.cell ql_0
  have l_1 := fun w' (hx : Ext wA w') => hx.cell ql_1
  have l_2 := fun w' (hx : Ext wA w') => hx.cell ql_2
  have l_3 := fun w' (hx : Ext wA w') => hx.cell ql_3
  have l_4 := fun w' (hx : Ext wA w') => hx.cell ql_4
  have l_5 := fun w' (hx : Ext wA w') => hx.cell ql_5
  have l_6 := fun w' (hx : Ext wA w') => hx.cell ql_6
  have l_7 := fun w' (hx : Ext wA w') => hx.cell ql_7
  have l_8 := fun w' (hx : Ext wA w') => hx.cell ql_8
  have l_9 := fun w' (hx : Ext wA w') => hx.cell ql_9
  have l_10 := fun w' (hx : Ext wA w') => hx.cell ql_10
  have l_11 := fun w' (hx : Ext wA w') => hx.cell ql_11
  have l_12 := fun w' (hx : Ext wA w') => hx.cell ql_12
  have l_13 := fun w' (hx : Ext wA w') => hx.cell ql_13
  have c_0 := fun w' (hx : Ext wA w') => hx.cell qc_0
  have c_1 := fun w' (hx : Ext wA w') => hx.cell qc_1
  have c_2 := fun w' (hx : Ext wA w') => hx.cell qc_2
  have c_3 := fun w' (hx : Ext wA w') => hx.cell qc_3
  have c_4 := fun w' (hx : Ext wA w') => hx.cell qc_4
  have c_5 := fun w' (hx : Ext wA w') => hx.cell qc_5
  refine wp_region_held_drew (S := fun w' => Ext wA w') (by kernel_rfl) ?hbeg (fun hHeld => ?_)
  case hbeg => exact (Ext.refl wA).drew
  have hHeld0 : Ext wA wA := by first | exact Ext.refl _ | assumption
  first
    | (refine take_at (i := 0) (v := ?_) rfl rfl (by kernel_rfl) (by kernel_rfl) (by kernel_rfl) (fun _ _ _ h => h) (Or.inl ⟨by rfl, ?hy⟩) (by assumption) ?_
       case hy => (intro wz hSw; (try dsimp only at hSw); go_simp <;> with_reducible rfl)
       simp only [List.setIfInBounds_toArray, List.set_cons_zero, List.set_cons_succ])
    | (refine take_at (i := 0) (v := undef) rfl rfl (by kernel_rfl) (by kernel_rfl) (by kernel_rfl) (fun _ _ _ h => h) (Or.inr ⟨by rfl, rfl⟩) (by assumption) ?_
       simp only [List.setIfInBounds_toArray, List.set_cons_zero, List.set_cons_succ])
  first
    | (refine take_at (i := 2) (v := ?_) rfl rfl (by kernel_rfl) (by kernel_rfl) (by kernel_rfl) (fun _ _ _ h => h) (Or.inl ⟨by rfl, ?hy⟩) (by assumption) ?_
       case hy => (intro wz hSw; (try dsimp only at hSw); go_simp <;> with_reducible rfl)
       simp only [List.setIfInBounds_toArray, List.set_cons_zero, List.set_cons_succ])
    | (refine take_at (i := 2) (v := undef) rfl rfl (by kernel_rfl) (by kernel_rfl) (by kernel_rfl) (fun _ _ _ h => h) (Or.inr ⟨by rfl, rfl⟩) (by assumption) ?_
       simp only [List.setIfInBounds_toArray, List.set_cons_zero, List.set_cons_succ])
  clear l_0 l_1 l_2 l_3 l_4 l_5 l_6 l_7 l_8 l_9 l_10 l_11 l_12 l_13 c_0 c_1 c_2 c_3 c_4 c_5 ql_0 ql_1 ql_2 ql_3 ql_4 ql_5 ql_6 ql_7 ql_8 ql_9 ql_10 ql_11 ql_12 ql_13 qc_0 qc_1 qc_2 qc_3 qc_4 qc_5
  refine call_at (i := 1) (F := 44) (CN.out y0 _ HK0.out Ho0.out.w (HOA.out.ext hHeld) (by rw [Ho0.out.s]; exact HS.out.1) (by rw [Ho0.out.s]; exact HS.out.2)) rfl rfl (by kernel_rfl) (by rfl) (by first | rfl | (go_simp <;> rfl)) ?_
  rintro e w3 ⟨b, g, y, rfl, K, o, B, X3, hb3, hg3⟩
  replace hHeld := hHeld.trans X3
  refine ⟨_, rfl, hHeld, ?_⟩
  simp only [List.setIfInBounds_toArray, List.set_cons_zero, List.set_cons_succ]
  have oy : OfC y V 64 C P S n := ⟨o.v.trans Ho0.out.v, o.w.trans Ho0.out.w, o.c.trans Ho0.out.c, o.p.trans Ho0.out.p, o.s.trans Ho0.out.s, o.n.trans (Ho0.out.n.trans HN0.out.symm)⟩
  refine call_at (i := 3) (F := 17) (CR.out y _ K oy) rfl rfl (by kernel_rfl) (by rfl) (by first | rfl | (go_simp <;> rfl)) ?_
  rintro e w4 ⟨b', r, rfl, R4, rel, rV, rn, -, -, X4, hb4, hg4⟩
  replace hHeld := hHeld.trans X4
  refine ⟨_, rfl, hHeld, ?_⟩
  simp only [List.setIfInBounds_toArray, List.set_cons_zero, List.set_cons_succ]
  first
    | (refine take_at (i := 4) (v := ?_) rfl rfl (by kernel_rfl) (by kernel_rfl) (by kernel_rfl) (fun _ _ _ h => h) (Or.inl ⟨by rfl, ?hy⟩) (by assumption) ?_
       case hy => (intro wz hSw; (try dsimp only at hSw); go_simp <;> with_reducible rfl)
       simp only [List.setIfInBounds_toArray, List.set_cons_zero, List.set_cons_succ])
    | (refine take_at (i := 4) (v := undef) rfl rfl (by kernel_rfl) (by kernel_rfl) (by kernel_rfl) (fun _ _ _ h => h) (Or.inr ⟨by rfl, rfl⟩) (by assumption) ?_
       simp only [List.setIfInBounds_toArray, List.set_cons_zero, List.set_cons_succ])
  first
    | (refine take_at (i := 5) (v := ?_) rfl rfl (by kernel_rfl) (by kernel_rfl) (by kernel_rfl) (fun _ _ _ h => h) (Or.inl ⟨by rfl, ?hy⟩) (by assumption) ?_
       case hy => (intro wz hSw; (try dsimp only at hSw); go_simp <;> with_reducible rfl)
       simp only [List.setIfInBounds_toArray, List.set_cons_zero, List.set_cons_succ])
    | (refine take_at (i := 5) (v := undef) rfl rfl (by kernel_rfl) (by kernel_rfl) (by kernel_rfl) (fun _ _ _ h => h) (Or.inr ⟨by rfl, rfl⟩) (by assumption) ?_
       simp only [List.setIfInBounds_toArray, List.set_cons_zero, List.set_cons_succ])
  refine wpAnyH_done (by kernel_rfl) ?_ _
  have hsA : wA.heap.size ≤ wA.drew.heap.size := ((Ext.refl wA).drew).size
  have HT := Lib.hid (two_new B.B (Ext.trans (Ext.refl wA).drew X3) (Nat.le_trans hsA hb3) (Nat.le_trans hsA hg3) R4 X4 hb4 hg4)
  have HO4 := Lib.hid (B.O.ext X4)
  have HK := Lib.hid K
  have Hoy := Lib.hid oy
  have HREL : Hid (Rel y r 64) := Lib.hid (by rw [← oy.w]; exact rel)
  have HRV := Lib.hid rV
  have HRN := Lib.hid rn
  have HRG := Lib.hid (first_rg64 K oy.w (by rw [oy.s]; exact HS.out.1) (by rw [oy.s]; exact HS.out.2))
  generalize fsC y.V y.W y.C y.S y.n = F at *
  clear hsA B X3 hb3 hg3 R4 X4 hb4 hg4 K o oy rel rV rn hHeld HK0 Ho0 HOA CN CR HS
  go_wp2_with fail
  refine (tnHas64 b g y F _ _ ups _ HK.out ⟨HT.out.B, HO4.out⟩).mono ?_
  rintro e w5 ⟨rfl, X5⟩
  have HT5 := Lib.hid (HT.out.ext X5)
  have HO5 := Lib.hid (HO4.out.ext X5)
  clear X5 HT HO4
  go_wp2_with fail
  refine (rtHas b' r F _ _ _ HT5.out.R).mono ?_
  rintro e w' ⟨rfl, rfl⟩
  rw [HRV.out]
  generalize hvv : (y.V == 5) = vv
  clear hvv
  go_upto_region 6 with (with_reducible refine wpList_store_mid rfl _ (.tmp 9) (.tmp 35) rfl w5.heap.size 0 _ rfl rfl ?hs1 ?hs2 ?hs3 ?_)
  case hs1 => exact (va_new (n := 44) w5 117 _ (frV64 (fun _ => 0) (fun _ => 0)) (by kernel_rfl)).there
  case hs2 => kernel_rfl
  case hs3 => kernel_rfl
  refine settle_wp ?_
  intro w6 hb6
  obtain ⟨V1, T1, X56⟩ := arr_fact (n := 44) (f := frV64 (fun _ => 0) (fun _ => 0)) hb6 (by kernel_rfl)
  clear hb6
  go_upto_region 7 with (with_reducible refine wpList_store_mid rfl _ (.tmp 10) (.tmp 36) rfl w6.heap.size 0 _ rfl rfl ?hr1 ?hr2 ?hr3 ?_)
  case hr1 => exact (va_new (n := 44) w6 111 _ (frV64 (fun _ => 0) (fun _ => 0)) (by kernel_rfl)).there
  case hr2 => first | kernel_rfl | simpa using (show (Tryz.prog.info? 111).map (·.size) = some 44 by kernel_rfl)
  case hr3 => first | kernel_rfl | decide | simp
  refine settle_wp ?_
  intro w7 hb7
  obtain ⟨V2, T2, X67⟩ := arr_fact (n := 44) (f := frV64 (fun _ => 0) (fun _ => 0)) hb7 (by kernel_rfl)
  clear hb7
  go_upto_region 8 with (fail)
  refine settle_wp ?_
  intro w8 hb8
  obtain ⟨C3, hb9, e3⟩ : ∃ C3, Ext (w7.alloc (.cells C3 112)) w8 ∧ C3 = (vl 4 (fun i => .bool ((fun _ => false : Nat → Bool) i))).toArray := ⟨_, hb8, by kernel_rfl⟩
  clear hb8
  have X78 : Ext w7 w8 := Ext.trans ((Ext.refl w7).alloc _) hb9
  have V3 := (va_new (n := 4) w7 112 C3 _ e3).ext hb9
  have T3 := (Tag.new w7 C3 112).ext hb9
  have hs5 := HT5.out.ex.size
  have hs6 := X56.size
  have hs7 := X67.size
  have hs8 := X78.size
  have hl1 := tag_lt T1
  have hl2 := tag_lt T2
  have hl3 := tag_lt T3
  have far : ∀ k, w5.heap.size ≤ k → k < w8.heap.size → Far b g (.slice none 0 0) b' r (.slice none 0 0) wA w8 k := fun k hk hk2 =>
    ⟨fun e => by have := HT5.out.B.lt e; omega, fun e => by have := HT5.out.R.lt e; omega, fun e => by have := tag_lt HT5.out.R.tc; omega, by omega, hk2⟩
  have HP : Hid (PW64 wA w8 b g y F (.slice none 0 0) [] b' r F (.slice none 0 0) [] ups w5.heap.size w6.heap.size w7.heap.size (fun _ => 0) (fun _ => 0) (fun _ => 0) (fun _ => 0) (fun _ => false)) := Lib.hid
    ⟨((HT5.out.ext X56).ext X67).ext X78, ((HO5.out.ext X56).ext X67).ext X78, (V1.ext X67).ext X78, V2.ext X78, V3, ⟨_, (T1.ext X67).ext X78, by decide, by decide⟩, ⟨_, T2.ext X78, by decide, by decide⟩, ⟨_, T3, by decide, by decide⟩, far _ (by omega) (by omega), far _ (by omega) (by omega), far _ (by omega) hl3, by omega, by omega, by omega⟩
  clear hb9 e3 X56 X67 X78 V1 T1 V2 T2 V3 T3 hs5 hs6 hs7 hs8 hl1 hl2 hl3 far HT5 HO5
  generalize w7.heap.size = ib at *
  generalize w6.heap.size = gb at *
  generalize w5.heap.size = fb at *
  go_wp2
  go_loopw [12] (fun i wr => ∃ k : Nat, k ≤ len2 ∧ i = .int .i64 k ∧ ∃ f lv log lv' P O inb, PW64 wA wr b g y f lv log b' r f lv' log ups fb gb ib P O P O inb ∧ Rg64 y.n f ∧ (∀ u, u < 4 → 0 ≤ O u ∧ O u < 18446744073709551616) ∧ log.length ≤ k) (fun i _ => len2 - (intOf i).toNat)
  case atStart => exact ⟨0, Nat.zero_le _, rfl, _, _, _, _, _, _, _, HP.out, HRG.out, fun _ _ => ⟨Int.le_refl _, by omega⟩, Nat.le_refl _⟩
  case round =>
    obtain ⟨k, hk, rfl, f, lv, log, lv', P, O, inb, hP, hrg, hOr, hlg⟩ := hrel
    have HP2 := Lib.hid hP
    have HOR := Lib.hid hOr
    clear hP HP HRG hOr
    by_cases hlt : k < len2
    case neg =>
      obtain rfl : k = len2 := by omega
      obtain ⟨al, cal, el, -⟩ := rowA_form HP2.out.T.R.row
      subst el
      have q8 := HP2.out.T.R.q8
      have hl1000 : log.length ≤ 1000 := by omega
      go_upto_region 24 with (fail)
      have k8 := fun w' (hx : Ext wr w') => hx.cell q8
      refine wp_region_held_drew (S := fun w' => Ext wr w') (by kernel_rfl) ?hbeg (fun hHeld => ?_)
      case hbeg => exact (Ext.refl wr).drew
      have hHeld0 : Ext wr wr := by first | exact Ext.refl _ | assumption
      first
        | (refine take_at (i := 0) (v := ?_) rfl rfl (by kernel_rfl) (by kernel_rfl) (by kernel_rfl) (fun _ _ _ h => h) (Or.inl ⟨by rfl, ?hy⟩) (by assumption) ?_
           case hy => (intro wz hSw; (try dsimp only at hSw); go_simp <;> with_reducible rfl)
           simp only [List.setIfInBounds_toArray, List.set_cons_zero, List.set_cons_succ])
        | (refine take_at (i := 0) (v := undef) rfl rfl (by kernel_rfl) (by kernel_rfl) (by kernel_rfl) (fun _ _ _ h => h) (Or.inr ⟨by rfl, rfl⟩) (by assumption) ?_
           simp only [List.setIfInBounds_toArray, List.set_cons_zero, List.set_cons_succ])
      first
        | (refine take_at (i := 2) (v := ?_) rfl rfl (by kernel_rfl) (by kernel_rfl) (by kernel_rfl) (fun _ _ _ h => h) (Or.inl ⟨by rfl, ?hy⟩) (by assumption) ?_
           case hy => (intro wz hSw; (try dsimp only at hSw); go_simp <;> with_reducible rfl)
           simp only [List.setIfInBounds_toArray, List.set_cons_zero, List.set_cons_succ])
        | (refine take_at (i := 2) (v := undef) rfl rfl (by kernel_rfl) (by kernel_rfl) (by kernel_rfl) (fun _ _ _ h => h) (Or.inr ⟨by rfl, rfl⟩) (by assumption) ?_
           simp only [List.setIfInBounds_toArray, List.set_cons_zero, List.set_cons_succ])
      first
        | (refine take_at (i := 3) (v := ?_) rfl rfl (by kernel_rfl) (by kernel_rfl) (by kernel_rfl) (fun _ _ _ h => h) (Or.inl ⟨by rfl, ?hy⟩) (by assumption) ?_
           case hy => (intro wz hSw; (try dsimp only at hSw); go_simp <;> with_reducible rfl)
           simp only [List.setIfInBounds_toArray, List.set_cons_zero, List.set_cons_succ])
        | (refine take_at (i := 3) (v := undef) rfl rfl (by kernel_rfl) (by kernel_rfl) (by kernel_rfl) (fun _ _ _ h => h) (Or.inr ⟨by rfl, rfl⟩) (by assumption) ?_
           simp only [List.setIfInBounds_toArray, List.set_cons_zero, List.set_cons_succ])
      first
        | (refine take_at (i := 4) (v := ?_) rfl rfl (by kernel_rfl) (by kernel_rfl) (by kernel_rfl) (fun _ _ _ h => h) (Or.inl ⟨by rfl, ?hy⟩) (by assumption) ?_
           case hy => (intro wz hSw; (try dsimp only at hSw); go_simp <;> with_reducible rfl)
           simp only [List.setIfInBounds_toArray, List.set_cons_zero, List.set_cons_succ])
        | (refine take_at (i := 4) (v := undef) rfl rfl (by kernel_rfl) (by kernel_rfl) (by kernel_rfl) (fun _ _ _ h => h) (Or.inr ⟨by rfl, rfl⟩) (by assumption) ?_
           simp only [List.setIfInBounds_toArray, List.set_cons_zero, List.set_cons_succ])
      first
        | (refine take_at (i := 5) (v := ?_) rfl rfl (by kernel_rfl) (by kernel_rfl) (by kernel_rfl) (fun _ _ _ h => h) (Or.inl ⟨by rfl, ?hy⟩) (by assumption) ?_
           case hy => (intro wz hSw; (try dsimp only at hSw); go_simp <;> with_reducible rfl)
           simp only [List.setIfInBounds_toArray, List.set_cons_zero, List.set_cons_succ])
        | (refine take_at (i := 5) (v := undef) rfl rfl (by kernel_rfl) (by kernel_rfl) (by kernel_rfl) (fun _ _ _ h => h) (Or.inr ⟨by rfl, rfl⟩) (by assumption) ?_
           simp only [List.setIfInBounds_toArray, List.set_cons_zero, List.set_cons_succ])
      refine call_at (i := 1) (F := 49) (Log64 b g y f lv log _ (HP2.out.T.ext hHeld).B hl1000) rfl rfl (by kernel_rfl) (by rfl) (by first | rfl | (go_simp <;> rfl)) ?_
      rintro e wq11 ⟨vq11, rfl, Rq11, Xq11⟩
      have Yq11 := Ext.trans hHeld Xq11
      refine ⟨_, rfl, Yq11, wpAnyH_strong (S' := fun w' => Ext wq11 w') (fun w' h => Ext.trans Yq11 h) _ _ _ _ ?_⟩
      simp only [List.setIfInBounds_toArray, List.set_cons_zero, List.set_cons_succ]
      have Zq11 : Ext wr wq11 := Ext.trans (by assumption) Yq11
      clear hHeld Xq11 Yq11
      have hHeld := Ext.refl wq11
      refine call_at (i := 6) (F := 41) (rSame12 _ 0 vq11 _ log _ Rq11 (HP2.out.T.ext Zq11).R.row hl1000) rfl rfl (by kernel_rfl) (by rfl) (by first | rfl | (go_simp <;> rfl)) ?_
      rintro e wq12 ⟨rfl, Xq12⟩
      have Yq12 := Ext.trans hHeld Xq12
      refine ⟨_, rfl, Yq12, wpAnyH_strong (S' := fun w' => Ext wq12 w') (fun w' h => Ext.trans Yq12 h) _ _ _ _ ?_⟩
      simp only [List.setIfInBounds_toArray, List.set_cons_zero, List.set_cons_succ]
      have Zq12 : Ext wr wq12 := Ext.trans (by assumption) Yq12
      clear hHeld Xq12 Yq12
      have hHeld := Ext.refl wq12
      first
        | (refine take_at (i := 7) (v := ?_) rfl rfl (by kernel_rfl) (by kernel_rfl) (by kernel_rfl) (fun _ _ _ h => h) (Or.inl ⟨by rfl, ?hy⟩) (by assumption) ?_
           case hy => (intro wz hSw; (try dsimp only at hSw); go_simp <;> with_reducible rfl)
           simp only [List.setIfInBounds_toArray, List.set_cons_zero, List.set_cons_succ])
        | (refine take_at (i := 7) (v := undef) rfl rfl (by kernel_rfl) (by kernel_rfl) (by kernel_rfl) (fun _ _ _ h => h) (Or.inr ⟨by rfl, rfl⟩) (by assumption) ?_
           simp only [List.setIfInBounds_toArray, List.set_cons_zero, List.set_cons_succ])
      refine wpAnyH_done (by kernel_rfl) ?_ _
      have HX := Lib.hid ((HXA.out.trans HP2.out.T.ex).trans Zq12)
      clear k8
      go_wp2
      go_ret
      exact ⟨rfl, HX.out⟩
    have hkl : (k : Int) < (len2 : Int) := by omega
    obtain ⟨rb, ro, z, hz, ea, cz⟩ := HROW.out k hlt
    subst ea
    replace cz := (HXA.out.trans HP2.out.T.ex).cell cz
    obtain ⟨t, ht, hzt⟩ : ∃ t : Nat, t < 4 ∧ ((z : Nat) : Int) % 4 = (t : Int) := ⟨z % 4, by omega, by omega⟩
    have hz0 : (0 : Int) ≤ (z : Int) := by omega
    have hz1 : (z : Int) < 256 := by omega
    have ht0 : (0 : Int) ≤ (t : Int) := by omega
    have ht4 : (t : Int) < 4 := by omega
    go_upto_region 12 with (fail)
    rw [hzt]
    have ci := HP2.out.ia.c t ht
    clear cz hz0 hz1 hzt
    cases hin : inb t
    case true =>
      rw [hin] at ci
      go_wp2_with fail
      refine (pLeave64 HK.out HP2.out (HE.out _ (HXA.out.trans HP2.out.T.ex)) hrg (by omega) _).mono ?_
      rintro e w3 ⟨f2, log2, hLe, rfl, lv2, hP3⟩
      have HP3 := Lib.hid hP3
      clear hP3 ci
      go_wp2_with fail
      refine (dLeave64 HK.out HREL.out HRV.out HRN.out HP3.out (by omega) _ hLe).mono ?_
      rintro e w4 ⟨rfl, lv3, hP4⟩
      have HP4 := Lib.hid hP4
      have c4 := hP4.ia.c t ht
      have z4 := hP4.ia.z t ht
      have HLE := Lib.hid hLe
      have HRGK := Lib.hid hrg
      clear hP4 HP3 hLe hrg
      have HP5 := Lib.hid (HP4.out.setI ht false)
      clear HP4
      go_wp2_with (first | (with_reducible refine wpList_store_mid rfl _ (.tmp 65) (.tmp 62) rfl fb (t * 11) (frZ64 0 0).toArray rfl rfl ?hf1 ?hf2 ?hf3 ?_) | (with_reducible refine wpList_store_mid rfl _ (.tmp 66) (.tmp 63) rfl gb (t * 11) (frZ64 0 0).toArray rfl rfl ?hi1 ?hi2 ?hi3 ?_))
      case hf1 => exact there_of (m := 11) HP5.out.fa (by omega)
      case hf2 => kernel_rfl
      case hf3 => kernel_rfl
      case hi1 => exact there_of (m := 11) (HP5.out.setsF ht 0 0).ga (by omega)
      case hi2 => kernel_rfl
      case hi3 => kernel_rfl
      have HP7 := Lib.hid ((HP5.out.setsF ht 0 0).setsG ht 0 0)
      clear HP5 c4 z4
      refine (pWaiting64 HK.out HP7.out (HE.out _ (HXA.out.trans HP7.out.T.ex)) Hoy.out.w).mono ?_
      rintro e w8 ⟨rfl, X8⟩
      have HP8 := Lib.hid (HP7.out.ext X8)
      clear X8 HP7
      have HRG2 := Lib.hid (HLE.out.rg64 HRGK.out)
      go_wp2_with fail
      refine (dWaiting64 HK.out HREL.out HRV.out HRN.out HP8.out HRG2.out).mono ?_
      rintro e w9 ⟨rfl, X9⟩
      have HP9 := Lib.hid (HP8.out.ext X9)
      clear X9 HP8
      generalize wtV64 y.V y.n f2 = wt at *
      go_wp2
      refine ⟨⟨k + 1, by omega, by go_num, f2, lv2, log2, lv3, _, _, _, HP9.out, HRG2.out, fun u hu => ?_, by have := HLE.out.len; omega⟩, by simp [intOf]; omega⟩
      by_cases e : u = t
      · subst e
        rw [show upd O u 0 u = 0 from if_pos rfl]
        omega
      · rw [show upd O t 0 u = O u from if_neg e]
        exact HOR.out u hu
    case false =>
      rw [hin] at ci
      go_wp2_with fail
      refine (pEnter64 HK.out HP2.out (HE.out _ (HXA.out.trans HP2.out.T.ex)) ht hrg (by omega) _).mono ?_
      rintro e w3 ⟨d, Pc, Ow, f2, log2, hEn, rfl, lv2, hP3⟩
      have HP3 := Lib.hid hP3
      have HEN := Lib.hid hEn
      have HRGK := Lib.hid hrg
      clear ci hP3 hEn hrg
      obtain ⟨dT, hdT, hdR⟩ : ∃ d, Tryz.prog.underlying 76 = some d ∧ d.isRow = true := ⟨_, rfl, rfl⟩
      go_wp2_with (with_reducible refine wpList_load_mid rfl _ (.tmp 76) rfl gb (t * 11) rfl (frZ64 (P t) (O t)) dT ?hg1 hdT hdR ?hg2 ?_)
      case hg1 => exact range_part HP3.out.ga _ (by show t * 11 + 11 ≤ 44; omega) (fun j hj => frZ64_at P O t j hj)
      case hg2 => kernel_rfl
      clear hdT hdR
      refine (dEnter64 HK.out HREL.out HRV.out HRN.out HP3.out (by omega) _ _ _ HEN.out).mono ?_
      rintro e w4 ⟨rfl, lv3, hP4⟩
      have HP4 := Lib.hid hP4
      clear hP4 HP3
      go_upto_region 18 with (fail)
      refine settle_wp ?_
      intro w5 hb5
      have y_0 : w5.cell? ⟨w4.heap.size, 0, none⟩ = some (.int .i64 0) := hb5.cell (by simp [go_sem])
      have y_1 : w5.cell? ⟨w4.heap.size, 1, none⟩ = some (.int .i64 0) := hb5.cell (by simp [go_sem])
      have y_2 : w5.cell? ⟨w4.heap.size, 2, none⟩ = some (.int .i64 0) := hb5.cell (by simp [go_sem])
      have y_3 : w5.cell? ⟨w4.heap.size, 3, none⟩ = some (.int .i64 Pc) := hb5.cell (by simp [go_sem])
      have y_4 : w5.cell? ⟨w4.heap.size, 4, none⟩ = some (.int .i64 0) := hb5.cell (by simp [go_sem])
      have y_5 : w5.cell? ⟨w4.heap.size, 5, none⟩ = some (.int .i64 0) := hb5.cell (by simp [go_sem])
      have y_6 : w5.cell? ⟨w4.heap.size, 6, none⟩ = some (.int .u64 0) := hb5.cell (by simp [go_sem])
      have y_7 : w5.cell? ⟨w4.heap.size, 7, none⟩ = some (.int .u64 0) := hb5.cell (by simp [go_sem])
      have y_8 : w5.cell? ⟨w4.heap.size, 8, none⟩ = some (.int .u64 0) := hb5.cell (by simp [go_sem])
      have y_9 : w5.cell? ⟨w4.heap.size, 9, none⟩ = some (.int .u64 Ow) := hb5.cell (by simp [go_sem])
      have y_10 : w5.cell? ⟨w4.heap.size, 10, none⟩ = some (.slice none 0 0) := hb5.cell (by simp [go_sem])
      have X45 : Ext w4 w5 := Ext.trans ((Ext.refl w4).alloc _) hb5
      have HP5 := Lib.hid (HP4.out.ext X45)
      have hgy : gb ≠ w4.heap.size := fun e => by have := HP4.out.gx.hi; omega
      have hiy : ib ≠ w4.heap.size := fun e => by have := HP4.out.ix.hi; omega
      clear X45 hb5 HP4
      generalize w4.heap.size = yb at *
      go_wp2_with (with_reducible refine wpList_store_mid rfl _ (.tmp 83) (.tmp 82) rfl gb (t * 11) (frZ64 Pc Ow).toArray rfl rfl ?hj1 ?hj2 ?hj3 ?_)
      case hj1 => exact there_of (m := 11) HP5.out.ga (by omega)
      case hj2 => kernel_rfl
      case hj3 => kernel_rfl
      first | refine name_list ?_ | refine name_wp ?_
      intro w6 e6
      have hP6 := HP5.out.setsG ht Pc Ow
      have e6' : w5.setCells gb (t * 11) (frZ64 Pc Ow) = w6 := e6
      rw [e6'] at hP6
      have hN := but_setCells gb (frZ64 Pc Ow) (t * 11) w5
      rw [e6'] at hN
      have y6_3 : w6.cell? ⟨yb, 3, none⟩ = some (.int .i64 Pc) := hN.cell y_3 (fun e => hgy e.symm)
      have y6_9 : w6.cell? ⟨yb, 9, none⟩ = some (.int .u64 Ow) := hN.cell y_9 (fun e => hgy e.symm)
      have HP6 := Lib.hid hP6
      clear HP5 hP6 e6 e6' hN y_0 y_1 y_2 y_3 y_4 y_5 y_6 y_7 y_8 y_9 y_10
      have HOw : Hid (0 ≤ Ow ∧ Ow < 18446744073709551616) := Lib.hid (HEN.out.own64 HRGK.out (HOR.out t ht))
      have cf3 := HP6.out.fa.c (t * 11 + 3) (by omega)
      have cf9 := HP6.out.fa.c (t * 11 + 9) (by omega)
      rw [frV64_3, show upd P t Pc t = Pc from if_pos rfl] at cf3
      rw [frV64_9, show upd O t Ow t = Ow from if_pos rfl] at cf9
      have k1 := fun w' (hx : Ext w6 w') => hx.cell cf3
      have k2 := fun w' (hx : Ext w6 w') => hx.cell cf9
      have k3 := fun w' (hx : Ext w6 w') => hx.cell y6_3
      have k4 := fun w' (hx : Ext w6 w') => hx.cell y6_9
      obtain ⟨o0, o1⟩ := HOw.out
      refine wp_region_held_drew (S := fun w' => Ext w6 w') (by kernel_rfl) ?hbeg (fun hHeld => ?_)
      case hbeg => exact (Ext.refl w6).drew
      have hHeld0 : Ext w6 w6 := by first | exact Ext.refl _ | assumption
      first
        | (refine take_at (i := 0) (v := ?_) rfl rfl (by kernel_rfl) (by kernel_rfl) (by kernel_rfl) (fun _ _ _ h => h) (Or.inl ⟨by rfl, ?hy⟩) (by assumption) ?_
           case hy => (intro wz hSw; (try dsimp only at hSw); go_simp <;> with_reducible rfl)
           simp only [List.setIfInBounds_toArray, List.set_cons_zero, List.set_cons_succ])
        | (refine take_at (i := 0) (v := undef) rfl rfl (by kernel_rfl) (by kernel_rfl) (by kernel_rfl) (fun _ _ _ h => h) (Or.inr ⟨by rfl, rfl⟩) (by assumption) ?_
           simp only [List.setIfInBounds_toArray, List.set_cons_zero, List.set_cons_succ])
      first
        | (refine take_at (i := 1) (v := ?_) rfl rfl (by kernel_rfl) (by kernel_rfl) (by kernel_rfl) (fun _ _ _ h => h) (Or.inl ⟨by rfl, ?hy⟩) (by assumption) ?_
           case hy => (intro wz hSw; (try dsimp only at hSw); go_simp <;> with_reducible rfl)
           simp only [List.setIfInBounds_toArray, List.set_cons_zero, List.set_cons_succ])
        | (refine take_at (i := 1) (v := undef) rfl rfl (by kernel_rfl) (by kernel_rfl) (by kernel_rfl) (fun _ _ _ h => h) (Or.inr ⟨by rfl, rfl⟩) (by assumption) ?_
           simp only [List.setIfInBounds_toArray, List.set_cons_zero, List.set_cons_succ])
      first
        | (refine take_at (i := 2) (v := ?_) rfl rfl (by kernel_rfl) (by kernel_rfl) (by kernel_rfl) (fun _ _ _ h => h) (Or.inl ⟨by rfl, ?hy⟩) (by assumption) ?_
           case hy => (intro wz hSw; (try dsimp only at hSw); go_simp <;> with_reducible rfl)
           simp only [List.setIfInBounds_toArray, List.set_cons_zero, List.set_cons_succ])
        | (refine take_at (i := 2) (v := undef) rfl rfl (by kernel_rfl) (by kernel_rfl) (by kernel_rfl) (fun _ _ _ h => h) (Or.inr ⟨by rfl, rfl⟩) (by assumption) ?_
           simp only [List.setIfInBounds_toArray, List.set_cons_zero, List.set_cons_succ])
      first
        | (refine take_at (i := 3) (v := ?_) rfl rfl (by kernel_rfl) (by kernel_rfl) (by kernel_rfl) (fun _ _ _ h => h) (Or.inl ⟨by rfl, ?hy⟩) (by assumption) ?_
           case hy => (intro wz hSw; (try dsimp only at hSw); go_simp <;> with_reducible rfl)
           simp only [List.setIfInBounds_toArray, List.set_cons_zero, List.set_cons_succ])
        | (refine take_at (i := 3) (v := undef) rfl rfl (by kernel_rfl) (by kernel_rfl) (by kernel_rfl) (fun _ _ _ h => h) (Or.inr ⟨by rfl, rfl⟩) (by assumption) ?_
           simp only [List.setIfInBounds_toArray, List.set_cons_zero, List.set_cons_succ])
      first
        | (refine take_at (i := 4) (v := ?_) rfl rfl (by kernel_rfl) (by kernel_rfl) (by kernel_rfl) (fun _ _ _ h => h) (Or.inl ⟨by rfl, ?hy⟩) (by assumption) ?_
           case hy => (intro wz hSw; (try dsimp only at hSw); go_simp <;> with_reducible rfl)
           simp only [List.setIfInBounds_toArray, List.set_cons_zero, List.set_cons_succ])
        | (refine take_at (i := 4) (v := undef) rfl rfl (by kernel_rfl) (by kernel_rfl) (by kernel_rfl) (fun _ _ _ h => h) (Or.inr ⟨by rfl, rfl⟩) (by assumption) ?_
           simp only [List.setIfInBounds_toArray, List.set_cons_zero, List.set_cons_succ])
      first
        | (refine take_at (i := 5) (v := ?_) rfl rfl (by kernel_rfl) (by kernel_rfl) (by kernel_rfl) (fun _ _ _ h => h) (Or.inl ⟨by rfl, ?hy⟩) (by assumption) ?_
           case hy => (intro wz hSw; (try dsimp only at hSw); go_simp <;> with_reducible rfl)
           simp only [List.setIfInBounds_toArray, List.set_cons_zero, List.set_cons_succ])
        | (refine take_at (i := 5) (v := undef) rfl rfl (by kernel_rfl) (by kernel_rfl) (by kernel_rfl) (fun _ _ _ h => h) (Or.inr ⟨by rfl, rfl⟩) (by assumption) ?_
           simp only [List.setIfInBounds_toArray, List.set_cons_zero, List.set_cons_succ])
      first
        | (refine take_at (i := 6) (v := ?_) rfl rfl (by kernel_rfl) (by kernel_rfl) (by kernel_rfl) (fun _ _ _ h => h) (Or.inl ⟨by rfl, ?hy⟩) (by assumption) ?_
           case hy => (intro wz hSw; (try dsimp only at hSw); go_simp <;> with_reducible rfl)
           simp only [List.setIfInBounds_toArray, List.set_cons_zero, List.set_cons_succ])
        | (refine take_at (i := 6) (v := undef) rfl rfl (by kernel_rfl) (by kernel_rfl) (by kernel_rfl) (fun _ _ _ h => h) (Or.inr ⟨by rfl, rfl⟩) (by assumption) ?_
           simp only [List.setIfInBounds_toArray, List.set_cons_zero, List.set_cons_succ])
      first
        | (refine take_at (i := 7) (v := ?_) rfl rfl (by kernel_rfl) (by kernel_rfl) (by kernel_rfl) (fun _ _ _ h => h) (Or.inl ⟨by rfl, ?hy⟩) (by assumption) ?_
           case hy => (intro wz hSw; (try dsimp only at hSw); go_simp <;> with_reducible rfl)
           simp only [List.setIfInBounds_toArray, List.set_cons_zero, List.set_cons_succ])
        | (refine take_at (i := 7) (v := undef) rfl rfl (by kernel_rfl) (by kernel_rfl) (by kernel_rfl) (fun _ _ _ h => h) (Or.inr ⟨by rfl, rfl⟩) (by assumption) ?_
           simp only [List.setIfInBounds_toArray, List.set_cons_zero, List.set_cons_succ])
      first
        | (refine take_at (i := 8) (v := ?_) rfl rfl (by kernel_rfl) (by kernel_rfl) (by kernel_rfl) (fun _ _ _ h => h) (Or.inl ⟨by rfl, ?hy⟩) (by assumption) ?_
           case hy => (intro wz hSw; (try dsimp only at hSw); go_simp <;> with_reducible rfl)
           simp only [List.setIfInBounds_toArray, List.set_cons_zero, List.set_cons_succ])
        | (refine take_at (i := 8) (v := undef) rfl rfl (by kernel_rfl) (by kernel_rfl) (by kernel_rfl) (fun _ _ _ h => h) (Or.inr ⟨by rfl, rfl⟩) (by assumption) ?_
           simp only [List.setIfInBounds_toArray, List.set_cons_zero, List.set_cons_succ])
      first
        | (refine take_at (i := 9) (v := ?_) rfl rfl (by kernel_rfl) (by kernel_rfl) (by kernel_rfl) (fun _ _ _ h => h) (Or.inl ⟨by rfl, ?hy⟩) (by assumption) ?_
           case hy => (intro wz hSw; (try dsimp only at hSw); go_simp <;> with_reducible rfl)
           simp only [List.setIfInBounds_toArray, List.set_cons_zero, List.set_cons_succ])
        | (refine take_at (i := 9) (v := undef) rfl rfl (by kernel_rfl) (by kernel_rfl) (by kernel_rfl) (fun _ _ _ h => h) (Or.inr ⟨by rfl, rfl⟩) (by assumption) ?_
           simp only [List.setIfInBounds_toArray, List.set_cons_zero, List.set_cons_succ])
      first
        | (refine take_at (i := 10) (v := ?_) rfl rfl (by kernel_rfl) (by kernel_rfl) (by kernel_rfl) (fun _ _ _ h => h) (Or.inl ⟨by rfl, ?hy⟩) (by assumption) ?_
           case hy => (intro wz hSw; (try dsimp only at hSw); go_simp <;> with_reducible rfl)
           simp only [List.setIfInBounds_toArray, List.set_cons_zero, List.set_cons_succ])
        | (refine take_at (i := 10) (v := undef) rfl rfl (by kernel_rfl) (by kernel_rfl) (by kernel_rfl) (fun _ _ _ h => h) (Or.inr ⟨by rfl, rfl⟩) (by assumption) ?_
           simp only [List.setIfInBounds_toArray, List.set_cons_zero, List.set_cons_succ])
      first
        | (refine take_at (i := 11) (v := ?_) rfl rfl (by kernel_rfl) (by kernel_rfl) (by kernel_rfl) (fun _ _ _ h => h) (Or.inl ⟨by rfl, ?hy⟩) (by assumption) ?_
           case hy => (intro wz hSw; (try dsimp only at hSw); go_simp <;> with_reducible rfl)
           simp only [List.setIfInBounds_toArray, List.set_cons_zero, List.set_cons_succ])
        | (refine take_at (i := 11) (v := undef) rfl rfl (by kernel_rfl) (by kernel_rfl) (by kernel_rfl) (fun _ _ _ h => h) (Or.inr ⟨by rfl, rfl⟩) (by assumption) ?_
           simp only [List.setIfInBounds_toArray, List.set_cons_zero, List.set_cons_succ])
      first
        | (refine take_at (i := 12) (v := ?_) rfl rfl (by kernel_rfl) (by kernel_rfl) (by kernel_rfl) (fun _ _ _ h => h) (Or.inl ⟨by rfl, ?hy⟩) (by assumption) ?_
           case hy => (intro wz hSw; (try dsimp only at hSw); go_simp <;> with_reducible rfl)
           simp only [List.setIfInBounds_toArray, List.set_cons_zero, List.set_cons_succ])
        | (refine take_at (i := 12) (v := undef) rfl rfl (by kernel_rfl) (by kernel_rfl) (by kernel_rfl) (fun _ _ _ h => h) (Or.inr ⟨by rfl, rfl⟩) (by assumption) ?_
           simp only [List.setIfInBounds_toArray, List.set_cons_zero, List.set_cons_succ])
      first
        | (refine take_at (i := 13) (v := ?_) rfl rfl (by kernel_rfl) (by kernel_rfl) (by kernel_rfl) (fun _ _ _ h => h) (Or.inl ⟨by rfl, ?hy⟩) (by assumption) ?_
           case hy => (intro wz hSw; (try dsimp only at hSw); go_simp <;> with_reducible rfl)
           simp only [List.setIfInBounds_toArray, List.set_cons_zero, List.set_cons_succ])
        | (refine take_at (i := 13) (v := undef) rfl rfl (by kernel_rfl) (by kernel_rfl) (by kernel_rfl) (fun _ _ _ h => h) (Or.inr ⟨by rfl, rfl⟩) (by assumption) ?_
           simp only [List.setIfInBounds_toArray, List.set_cons_zero, List.set_cons_succ])
      first
        | (refine take_at (i := 14) (v := ?_) rfl rfl (by kernel_rfl) (by kernel_rfl) (by kernel_rfl) (fun _ _ _ h => h) (Or.inl ⟨by rfl, ?hy⟩) (by assumption) ?_
           case hy => (intro wz hSw; (try dsimp only at hSw); go_simp <;> with_reducible rfl)
           simp only [List.setIfInBounds_toArray, List.set_cons_zero, List.set_cons_succ])
        | (refine take_at (i := 14) (v := undef) rfl rfl (by kernel_rfl) (by kernel_rfl) (by kernel_rfl) (fun _ _ _ h => h) (Or.inr ⟨by rfl, rfl⟩) (by assumption) ?_
           simp only [List.setIfInBounds_toArray, List.set_cons_zero, List.set_cons_succ])
      first
        | (refine take_at (i := 15) (v := ?_) rfl rfl (by kernel_rfl) (by kernel_rfl) (by kernel_rfl) (fun _ _ _ h => h) (Or.inl ⟨by rfl, ?hy⟩) (by assumption) ?_
           case hy => (intro wz hSw; (try dsimp only at hSw); go_simp <;> with_reducible rfl)
           simp only [List.setIfInBounds_toArray, List.set_cons_zero, List.set_cons_succ])
        | (refine take_at (i := 15) (v := undef) rfl rfl (by kernel_rfl) (by kernel_rfl) (by kernel_rfl) (fun _ _ _ h => h) (Or.inr ⟨by rfl, rfl⟩) (by assumption) ?_
           simp only [List.setIfInBounds_toArray, List.set_cons_zero, List.set_cons_succ])
      first
        | (refine take_at (i := 16) (v := ?_) rfl rfl (by kernel_rfl) (by kernel_rfl) (by kernel_rfl) (fun _ _ _ h => h) (Or.inl ⟨by rfl, ?hy⟩) (by assumption) ?_
           case hy => (intro wz hSw; (try dsimp only at hSw); go_simp <;> with_reducible rfl)
           simp only [List.setIfInBounds_toArray, List.set_cons_zero, List.set_cons_succ])
        | (refine take_at (i := 16) (v := undef) rfl rfl (by kernel_rfl) (by kernel_rfl) (by kernel_rfl) (fun _ _ _ h => h) (Or.inr ⟨by rfl, rfl⟩) (by assumption) ?_
           simp only [List.setIfInBounds_toArray, List.set_cons_zero, List.set_cons_succ])
      first
        | (refine take_at (i := 17) (v := ?_) rfl rfl (by kernel_rfl) (by kernel_rfl) (by kernel_rfl) (fun _ _ _ h => h) (Or.inl ⟨by rfl, ?hy⟩) (by assumption) ?_
           case hy => (intro wz hSw; (try dsimp only at hSw); go_simp <;> with_reducible rfl)
           simp only [List.setIfInBounds_toArray, List.set_cons_zero, List.set_cons_succ])
        | (refine take_at (i := 17) (v := undef) rfl rfl (by kernel_rfl) (by kernel_rfl) (by kernel_rfl) (fun _ _ _ h => h) (Or.inr ⟨by rfl, rfl⟩) (by assumption) ?_
           simp only [List.setIfInBounds_toArray, List.set_cons_zero, List.set_cons_succ])
      first
        | (refine take_at (i := 18) (v := ?_) rfl rfl (by kernel_rfl) (by kernel_rfl) (by kernel_rfl) (fun _ _ _ h => h) (Or.inl ⟨by rfl, ?hy⟩) (by assumption) ?_
           case hy => (intro wz hSw; (try dsimp only at hSw); go_simp <;> with_reducible rfl)
           simp only [List.setIfInBounds_toArray, List.set_cons_zero, List.set_cons_succ])
        | (refine take_at (i := 18) (v := undef) rfl rfl (by kernel_rfl) (by kernel_rfl) (by kernel_rfl) (fun _ _ _ h => h) (Or.inr ⟨by rfl, rfl⟩) (by assumption) ?_
           simp only [List.setIfInBounds_toArray, List.set_cons_zero, List.set_cons_succ])
      first
        | (refine take_at (i := 19) (v := ?_) rfl rfl (by kernel_rfl) (by kernel_rfl) (by kernel_rfl) (fun _ _ _ h => h) (Or.inl ⟨by rfl, ?hy⟩) (by assumption) ?_
           case hy => (intro wz hSw; (try dsimp only at hSw); go_simp <;> with_reducible rfl)
           simp only [List.setIfInBounds_toArray, List.set_cons_zero, List.set_cons_succ])
        | (refine take_at (i := 19) (v := undef) rfl rfl (by kernel_rfl) (by kernel_rfl) (by kernel_rfl) (fun _ _ _ h => h) (Or.inr ⟨by rfl, rfl⟩) (by assumption) ?_
           simp only [List.setIfInBounds_toArray, List.set_cons_zero, List.set_cons_succ])
      first
        | (refine take_at (i := 20) (v := ?_) rfl rfl (by kernel_rfl) (by kernel_rfl) (by kernel_rfl) (fun _ _ _ h => h) (Or.inl ⟨by rfl, ?hy⟩) (by assumption) ?_
           case hy => (intro wz hSw; (try dsimp only at hSw); go_simp <;> with_reducible rfl)
           simp only [List.setIfInBounds_toArray, List.set_cons_zero, List.set_cons_succ])
        | (refine take_at (i := 20) (v := undef) rfl rfl (by kernel_rfl) (by kernel_rfl) (by kernel_rfl) (fun _ _ _ h => h) (Or.inr ⟨by rfl, rfl⟩) (by assumption) ?_
           simp only [List.setIfInBounds_toArray, List.set_cons_zero, List.set_cons_succ])
      refine wpAnyH_done (by kernel_rfl) ?_ _
      try
        rw [show (IntKind.u64.wrap Ow != Ow) = false by rw [wrap_own Ow o0 (by omega)]; exact bne_self_eq_false Ow]
      clear k1 k2 k3 k4 cf3 cf9 y6_3 y6_9 o0 o1
      have HP7 := Lib.hid (HP6.out.ext hHeld)
      go_upto_region 21 with (fail)
      have ci7 := HP7.out.ia.c t ht
      have zi7 := HP7.out.ia.z t ht
      have HP8 := Lib.hid ((HP6.out.setI ht d).ext ((Ext.refl _).drew))
      clear HP7 HP6
      go_upto_region 22 with (fail)
      refine name_wp ?_
      intro w8 e8
      rw [e8] at HP8
      clear e8 ci7 zi7
      have HRG2 := Lib.hid (HEN.out.rg64 HRGK.out)
      go_wp2_with fail
      refine (pWaiting64 HK.out HP8.out (HE.out _ (HXA.out.trans HP8.out.T.ex)) Hoy.out.w).mono ?_
      rintro e w9 ⟨rfl, X9⟩
      have HP9 := Lib.hid (HP8.out.ext X9)
      clear X9 HP8
      go_wp2_with fail
      refine (dWaiting64 HK.out HREL.out HRV.out HRN.out HP9.out HRG2.out).mono ?_
      rintro e w10 ⟨rfl, X10⟩
      have HP10 := Lib.hid (HP9.out.ext X10)
      clear X10 HP9
      generalize wtV64 y.V y.n f2 = wt at *
      go_wp2
      refine ⟨⟨k + 1, by omega, by go_num, f2, lv2, log2, lv3, _, _, _, HP10.out, HRG2.out, fun u hu => ?_, by have := HEN.out.len; omega⟩, by simp [intOf]; omega⟩
      by_cases e : u = t
      · subst e
        rw [show upd O u Ow u = Ow from if_pos rfl]
        exact HOw.out
      · rw [show upd O t Ow u = O u from if_neg e]
        exact HOR.out u hu
end Go.Proofs.YtlnffbocclpnnaaGreatDoorR
/- The walk of TurnPlays. -/
namespace Go.Proofs.YtlnffbocclpnnaaGreatDoorR
open Go.RowKit
set_option linter.unusedVariables false
set_option linter.unusedSimpArgs false
set_option maxHeartbeats 4000000
attribute [local go_sem] later_cell later_frozen later_const
theorem turnPlays32 (V C P S : Int) (a : Option Addr) (cap : Nat) (ups : List (List Int)) (a2 : Option Addr) (len2 cap2 : Nat) (zs : List Int) (w : World) (hS0 : 0 ≤ S) (hS1 : S < 18446744073709551616) (h : Came w a ups.length cap ups) (hR : IsRow .u8 w a2 len2 cap2 zs) (E : Parts w) (hb : longB ups = false) (h300 : len2 ≤ 300) (hg : ckC V 32 C P ups = 0) :
    Calls Tryz.prog 5 #[(.agg #[.int .i64 V, .int .i64 32, .int .i64 C, .int .i64 P, .int .u64 (S), .slice a ups.length cap]), .slice a2 len2 cap2] w fun e w' => e = .returned (.bool true) ∧ Below w.heap.size w w' := by
  have CL := fun w' (hx : Ext w w') => long _ ups w' (h.l.ext hx) (by rw [h.n]; exact h.m) (fun l hl => (h.each l hl).1)
  have CV := Lib.hid (fun w' (hx : Ext w w') => live18 w' (E.ext hx))
  have d300 : decide ((300 : Int) < (len2 : Int)) = false := by simp; omega
  rw [hb] at CL
  have HCL := Lib.hid CL
  obtain ⟨hll, hn⟩ := came_small h hb
  have CR := fun w' (hx : Ext w w') => r10Right V 32 C P S _ ups w' (h.l.ext hx) hll hn
  rw [show (ckC V 32 C P ups == 0) = true by simpa using hg] at CR
  have HCR := Lib.hid CR
  have CP := Lib.hid (fun w' (hx : Ext w w') => tnPlayed32 V C P S a cap ups a2 len2 cap2 zs w' (h.l.ext hx) (fun i hi => by obtain ⟨b, o, z, h1, h2, h3⟩ := row_u8 hR hi; exact ⟨b, o, z, h1, h2, hx.cell h3⟩) (E.ext hx) hll hn hg h300 hS0 hS1)
  clear CL CR h hb E hR hll hn hg h300
  generalize ups.length = n at *
  go_enter Tryz.func5, Tryz.ntmps5
  go_wp2_with fail
  refine (HCL.out _ (by repeat (first | with_reducible exact Ext.refl _ | with_reducible assumption | with_reducible refine Ext.alloc ?_ _ | with_reducible refine Ext.drew ?_ | with_reducible refine Ext.drewN ?_ _ | with_reducible refine Ext.setCell ?_ (by simp <;> omega) _ | with_reducible refine Ext.trans ?_ (by assumption)))).mono ?_
  rintro e w' ⟨rfl, rfl⟩
  go_wp2_with fail
  refine (HCR.out _ (by repeat (first | with_reducible exact Ext.refl _ | with_reducible assumption | with_reducible refine Ext.alloc ?_ _ | with_reducible refine Ext.drew ?_ | with_reducible refine Ext.drewN ?_ _ | with_reducible refine Ext.setCell ?_ (by simp <;> omega) _ | with_reducible refine Ext.trans ?_ (by assumption)))).mono ?_
  rintro e w1 ⟨rfl, hb1⟩
  obtain ⟨hc1, hf1⟩ := hb1.cells
  clear hc1 hf1
  have qc_0 : w1.cell? ⟨w.heap.size, 0, none⟩ = some (.int .i64 V) := (hb1.cells.1 _ _ (by simp <;> omega)).trans (by simp [go_sem])
  have qc_1 : w1.cell? ⟨w.heap.size, 1, none⟩ = some (.int .i64 32) := (hb1.cells.1 _ _ (by simp <;> omega)).trans (by simp [go_sem])
  have qc_2 : w1.cell? ⟨w.heap.size, 2, none⟩ = some (.int .i64 C) := (hb1.cells.1 _ _ (by simp <;> omega)).trans (by simp [go_sem])
  have qc_3 : w1.cell? ⟨w.heap.size, 3, none⟩ = some (.int .i64 P) := (hb1.cells.1 _ _ (by simp <;> omega)).trans (by simp [go_sem])
  have qc_4 : w1.cell? ⟨w.heap.size, 4, none⟩ = some (.int .u64 (S)) := (hb1.cells.1 _ _ (by simp <;> omega)).trans (by simp [go_sem])
  have qc_5 : w1.cell? ⟨w.heap.size, 5, none⟩ = some (.slice a n cap) := (hb1.cells.1 _ _ (by simp <;> omega)).trans (by simp [go_sem])
  have pc := World.block_lt_of_cell? _ ⟨w.heap.size, 0, none⟩ qc_0
  have rc := Nat.lt_succ_of_lt pc
  go_wp2_with fail
  refine (CP.out _ (by repeat (first | with_reducible exact Ext.refl _ | with_reducible assumption | with_reducible refine Ext.alloc ?_ _ | with_reducible refine Ext.drew ?_ | with_reducible refine Ext.drewN ?_ _ | with_reducible refine Ext.setCell ?_ (by simp <;> omega) _ | with_reducible refine Ext.trans ?_ (by assumption)))).mono ?_
  rintro e w2 ⟨rfl, hb2⟩
  have hx2 : Ext w1 w2 := by repeat (first | with_reducible exact Ext.refl _ | with_reducible assumption | with_reducible refine Ext.alloc ?_ _ | with_reducible refine Ext.drew ?_ | with_reducible refine Ext.drewN ?_ _ | with_reducible refine Ext.setCell ?_ (by simp <;> omega) _ | with_reducible refine Ext.trans ?_ (by assumption))
  replace qc_0 := hx2.cell qc_0
  replace qc_1 := hx2.cell qc_1
  replace qc_2 := hx2.cell qc_2
  replace qc_3 := hx2.cell qc_3
  replace qc_4 := hx2.cell qc_4
  replace qc_5 := hx2.cell qc_5
  replace pc := Nat.lt_of_lt_of_le pc hx2.size
  replace rc := Nat.lt_succ_of_lt pc
  clear hx2
  go_wp2_with fail
  refine (CV.out _ (by repeat (first | with_reducible exact Ext.refl _ | with_reducible assumption | with_reducible refine Ext.alloc ?_ _ | with_reducible refine Ext.drew ?_ | with_reducible refine Ext.drewN ?_ _ | with_reducible refine Ext.setCell ?_ (by simp <;> omega) _ | with_reducible refine Ext.trans ?_ (by assumption)))).mono ?_
  rintro e w3 ⟨rfl, hb3⟩
  have hx3 : Ext w2 w3 := by repeat (first | with_reducible exact Ext.refl _ | with_reducible assumption | with_reducible refine Ext.alloc ?_ _ | with_reducible refine Ext.drew ?_ | with_reducible refine Ext.drewN ?_ _ | with_reducible refine Ext.setCell ?_ (by simp <;> omega) _ | with_reducible refine Ext.trans ?_ (by assumption))
  replace qc_0 := hx3.cell qc_0
  replace qc_1 := hx3.cell qc_1
  replace qc_2 := hx3.cell qc_2
  replace qc_3 := hx3.cell qc_3
  replace qc_4 := hx3.cell qc_4
  replace qc_5 := hx3.cell qc_5
  replace pc := Nat.lt_of_lt_of_le pc hx3.size
  replace rc := Nat.lt_succ_of_lt pc
  clear hx3
  go_wp2
  go_ret
  refine ⟨rfl, Ext.below ?_⟩
  repeat (first | with_reducible exact Ext.refl _ | with_reducible assumption | with_reducible refine Ext.alloc ?_ _ | with_reducible refine Ext.drew ?_ | with_reducible refine Ext.drewN ?_ _ | with_reducible refine Ext.setCell ?_ (by simp <;> omega) _ | with_reducible refine Ext.trans ?_ (by assumption))
theorem turnPlays64 (V C P S : Int) (a : Option Addr) (cap : Nat) (ups : List (List Int)) (a2 : Option Addr) (len2 cap2 : Nat) (zs : List Int) (w : World) (hS0 : 0 ≤ S) (hS1 : S < 18446744073709551616) (h : Came w a ups.length cap ups) (hR : IsRow .u8 w a2 len2 cap2 zs) (E : Parts w) (hb : longB ups = false) (h300 : len2 ≤ 300) (hg : ckC V 64 C P ups = 0) :
    Calls Tryz.prog 5 #[(.agg #[.int .i64 V, .int .i64 64, .int .i64 C, .int .i64 P, .int .u64 (S), .slice a ups.length cap]), .slice a2 len2 cap2] w fun e w' => e = .returned (.bool true) ∧ Below w.heap.size w w' := by
  have CL := fun w' (hx : Ext w w') => long _ ups w' (h.l.ext hx) (by rw [h.n]; exact h.m) (fun l hl => (h.each l hl).1)
  have CV := Lib.hid (fun w' (hx : Ext w w') => live18 w' (E.ext hx))
  have d300 : decide ((300 : Int) < (len2 : Int)) = false := by simp; omega
  rw [hb] at CL
  have HCL := Lib.hid CL
  obtain ⟨hll, hn⟩ := came_small h hb
  have CR := fun w' (hx : Ext w w') => r10Right V 64 C P S _ ups w' (h.l.ext hx) hll hn
  rw [show (ckC V 64 C P ups == 0) = true by simpa using hg] at CR
  have HCR := Lib.hid CR
  have CP := Lib.hid (fun w' (hx : Ext w w') => tnPlayed64 V C P S a cap ups a2 len2 cap2 zs w' (h.l.ext hx) (fun i hi => by obtain ⟨b, o, z, h1, h2, h3⟩ := row_u8 hR hi; exact ⟨b, o, z, h1, h2, hx.cell h3⟩) (E.ext hx) hll hn hg h300 hS0 hS1)
  clear CL CR h hb E hR hll hn hg h300
  generalize ups.length = n at *
  go_enter Tryz.func5, Tryz.ntmps5
  go_wp2_with fail
  refine (HCL.out _ (by repeat (first | with_reducible exact Ext.refl _ | with_reducible assumption | with_reducible refine Ext.alloc ?_ _ | with_reducible refine Ext.drew ?_ | with_reducible refine Ext.drewN ?_ _ | with_reducible refine Ext.setCell ?_ (by simp <;> omega) _ | with_reducible refine Ext.trans ?_ (by assumption)))).mono ?_
  rintro e w' ⟨rfl, rfl⟩
  go_wp2_with fail
  refine (HCR.out _ (by repeat (first | with_reducible exact Ext.refl _ | with_reducible assumption | with_reducible refine Ext.alloc ?_ _ | with_reducible refine Ext.drew ?_ | with_reducible refine Ext.drewN ?_ _ | with_reducible refine Ext.setCell ?_ (by simp <;> omega) _ | with_reducible refine Ext.trans ?_ (by assumption)))).mono ?_
  rintro e w1 ⟨rfl, hb1⟩
  obtain ⟨hc1, hf1⟩ := hb1.cells
  clear hc1 hf1
  have qc_0 : w1.cell? ⟨w.heap.size, 0, none⟩ = some (.int .i64 V) := (hb1.cells.1 _ _ (by simp <;> omega)).trans (by simp [go_sem])
  have qc_1 : w1.cell? ⟨w.heap.size, 1, none⟩ = some (.int .i64 64) := (hb1.cells.1 _ _ (by simp <;> omega)).trans (by simp [go_sem])
  have qc_2 : w1.cell? ⟨w.heap.size, 2, none⟩ = some (.int .i64 C) := (hb1.cells.1 _ _ (by simp <;> omega)).trans (by simp [go_sem])
  have qc_3 : w1.cell? ⟨w.heap.size, 3, none⟩ = some (.int .i64 P) := (hb1.cells.1 _ _ (by simp <;> omega)).trans (by simp [go_sem])
  have qc_4 : w1.cell? ⟨w.heap.size, 4, none⟩ = some (.int .u64 (S)) := (hb1.cells.1 _ _ (by simp <;> omega)).trans (by simp [go_sem])
  have qc_5 : w1.cell? ⟨w.heap.size, 5, none⟩ = some (.slice a n cap) := (hb1.cells.1 _ _ (by simp <;> omega)).trans (by simp [go_sem])
  have pc := World.block_lt_of_cell? _ ⟨w.heap.size, 0, none⟩ qc_0
  have rc := Nat.lt_succ_of_lt pc
  go_wp2_with fail
  refine (CP.out _ (by repeat (first | with_reducible exact Ext.refl _ | with_reducible assumption | with_reducible refine Ext.alloc ?_ _ | with_reducible refine Ext.drew ?_ | with_reducible refine Ext.drewN ?_ _ | with_reducible refine Ext.setCell ?_ (by simp <;> omega) _ | with_reducible refine Ext.trans ?_ (by assumption)))).mono ?_
  rintro e w2 ⟨rfl, hb2⟩
  have hx2 : Ext w1 w2 := by repeat (first | with_reducible exact Ext.refl _ | with_reducible assumption | with_reducible refine Ext.alloc ?_ _ | with_reducible refine Ext.drew ?_ | with_reducible refine Ext.drewN ?_ _ | with_reducible refine Ext.setCell ?_ (by simp <;> omega) _ | with_reducible refine Ext.trans ?_ (by assumption))
  replace qc_0 := hx2.cell qc_0
  replace qc_1 := hx2.cell qc_1
  replace qc_2 := hx2.cell qc_2
  replace qc_3 := hx2.cell qc_3
  replace qc_4 := hx2.cell qc_4
  replace qc_5 := hx2.cell qc_5
  replace pc := Nat.lt_of_lt_of_le pc hx2.size
  replace rc := Nat.lt_succ_of_lt pc
  clear hx2
  go_wp2_with fail
  refine (CV.out _ (by repeat (first | with_reducible exact Ext.refl _ | with_reducible assumption | with_reducible refine Ext.alloc ?_ _ | with_reducible refine Ext.drew ?_ | with_reducible refine Ext.drewN ?_ _ | with_reducible refine Ext.setCell ?_ (by simp <;> omega) _ | with_reducible refine Ext.trans ?_ (by assumption)))).mono ?_
  rintro e w3 ⟨rfl, hb3⟩
  have hx3 : Ext w2 w3 := by repeat (first | with_reducible exact Ext.refl _ | with_reducible assumption | with_reducible refine Ext.alloc ?_ _ | with_reducible refine Ext.drew ?_ | with_reducible refine Ext.drewN ?_ _ | with_reducible refine Ext.setCell ?_ (by simp <;> omega) _ | with_reducible refine Ext.trans ?_ (by assumption))
  replace qc_0 := hx3.cell qc_0
  replace qc_1 := hx3.cell qc_1
  replace qc_2 := hx3.cell qc_2
  replace qc_3 := hx3.cell qc_3
  replace qc_4 := hx3.cell qc_4
  replace qc_5 := hx3.cell qc_5
  replace pc := Nat.lt_of_lt_of_le pc hx3.size
  replace rc := Nat.lt_succ_of_lt pc
  clear hx3
  go_wp2
  go_ret
  refine ⟨rfl, Ext.below ?_⟩
  repeat (first | with_reducible exact Ext.refl _ | with_reducible assumption | with_reducible refine Ext.alloc ?_ _ | with_reducible refine Ext.drew ?_ | with_reducible refine Ext.drewN ?_ _ | with_reducible refine Ext.setCell ?_ (by simp <;> omega) _ | with_reducible refine Ext.trans ?_ (by assumption))
theorem turnPlays_walk (V W C P S : Int) (a : Option Addr) (len cap : Nat) (ups : List (List Int)) (a2 : Option Addr) (len2 cap2 : Nat) (zs : List Int) (w : World) (wf : (Lit.int .i64 V).wf = true ∧ (Lit.int .i64 W).wf = true ∧ (Lit.int .i64 C).wf = true ∧ (Lit.int .i64 P).wf = true ∧ (Lit.int .u64 S).wf = true) (h : Came w a len cap ups) (hR : IsRow .u8 w a2 len2 cap2 zs) (E : Parts w) :
    Calls Tryz.prog 5 #[(.agg #[.int .i64 V, .int .i64 W, .int .i64 C, .int .i64 P, .int .u64 (S), .slice a len cap]), .slice a2 len2 cap2] w fun e w' => e = .returned (.bool true) ∧ Below w.heap.size w w' := by
  have hS := wf_u64 wf.2.2.2.2
  obtain ⟨hS0, hS1⟩ := hS
  clear wf
  have CL := fun w' (hx : Ext w w') => long _ ups w' (h.l.ext hx) (by rw [h.n]; exact h.m) (fun l hl => (h.each l hl).1)
  have CV := Lib.hid (fun w' (hx : Ext w w') => live18 w' (E.ext hx))
  cases hb : longB ups
  case true =>
    rw [hb] at CL
    have HCL := Lib.hid CL
    clear CL h hb E hR
    go_enter Tryz.func5, Tryz.ntmps5
    go_wp2_with fail
    refine (HCL.out _ (by repeat (first | with_reducible exact Ext.refl _ | with_reducible assumption | with_reducible refine Ext.alloc ?_ _ | with_reducible refine Ext.drew ?_ | with_reducible refine Ext.drewN ?_ _ | with_reducible refine Ext.setCell ?_ (by simp <;> omega) _ | with_reducible refine Ext.trans ?_ (by assumption)))).mono ?_
    rintro e w' ⟨rfl, rfl⟩
    go_wp2_with fail
    refine (CV.out _ (by repeat (first | with_reducible exact Ext.refl _ | with_reducible assumption | with_reducible refine Ext.alloc ?_ _ | with_reducible refine Ext.drew ?_ | with_reducible refine Ext.drewN ?_ _ | with_reducible refine Ext.setCell ?_ (by simp <;> omega) _ | with_reducible refine Ext.trans ?_ (by assumption)))).mono ?_
    rintro e w1 ⟨rfl, hb1⟩
    obtain ⟨hc1, hf1⟩ := hb1.cells
    go_wp2
    go_ret
    refine ⟨rfl, Ext.below ?_⟩
    repeat (first | with_reducible exact Ext.refl _ | with_reducible assumption | with_reducible refine Ext.alloc ?_ _ | with_reducible refine Ext.drew ?_ | with_reducible refine Ext.drewN ?_ _ | with_reducible refine Ext.setCell ?_ (by simp <;> omega) _ | with_reducible refine Ext.trans ?_ (by assumption))
  rw [hb] at CL
  have HCL := Lib.hid CL
  obtain ⟨hll, hn⟩ := came_small h hb
  obtain rfl := h.n
  by_cases h300 : 300 < len2
  · have d300 : decide ((300 : Int) < (len2 : Int)) = true := by simp; omega
    clear CL h hb E hR hll hn
    generalize ups.length = n at *
    go_enter Tryz.func5, Tryz.ntmps5
    go_wp2_with fail
    refine (HCL.out _ (by repeat (first | with_reducible exact Ext.refl _ | with_reducible assumption | with_reducible refine Ext.alloc ?_ _ | with_reducible refine Ext.drew ?_ | with_reducible refine Ext.drewN ?_ _ | with_reducible refine Ext.setCell ?_ (by simp <;> omega) _ | with_reducible refine Ext.trans ?_ (by assumption)))).mono ?_
    rintro e w' ⟨rfl, rfl⟩
    go_wp2_with fail
    refine (CV.out _ (by repeat (first | with_reducible exact Ext.refl _ | with_reducible assumption | with_reducible refine Ext.alloc ?_ _ | with_reducible refine Ext.drew ?_ | with_reducible refine Ext.drewN ?_ _ | with_reducible refine Ext.setCell ?_ (by simp <;> omega) _ | with_reducible refine Ext.trans ?_ (by assumption)))).mono ?_
    rintro e w2 ⟨rfl, hb2⟩
    obtain ⟨hc2, hf2⟩ := hb2.cells
    go_wp2
    go_ret
    refine ⟨rfl, Ext.below ?_⟩
    repeat (first | with_reducible exact Ext.refl _ | with_reducible assumption | with_reducible refine Ext.alloc ?_ _ | with_reducible refine Ext.drew ?_ | with_reducible refine Ext.drewN ?_ _ | with_reducible refine Ext.setCell ?_ (by simp <;> omega) _ | with_reducible refine Ext.trans ?_ (by assumption))
  have d300 : decide ((300 : Int) < (len2 : Int)) = false := by simp; omega
  have CR := fun w' (hx : Ext w w') => r10Right V W C P S _ ups w' (h.l.ext hx) hll hn
  by_cases hg : ckC V W C P ups = 0
  case neg =>
    rw [show (ckC V W C P ups == 0) = false by simpa using hg] at CR
    have HCR := Lib.hid CR
    clear CL CR h hb E hR hll hg hn
    generalize ups.length = n at *
    go_enter Tryz.func5, Tryz.ntmps5
    go_wp2_with fail
    refine (HCL.out _ (by repeat (first | with_reducible exact Ext.refl _ | with_reducible assumption | with_reducible refine Ext.alloc ?_ _ | with_reducible refine Ext.drew ?_ | with_reducible refine Ext.drewN ?_ _ | with_reducible refine Ext.setCell ?_ (by simp <;> omega) _ | with_reducible refine Ext.trans ?_ (by assumption)))).mono ?_
    rintro e w' ⟨rfl, rfl⟩
    go_wp2_with fail
    refine (HCR.out _ (by repeat (first | with_reducible exact Ext.refl _ | with_reducible assumption | with_reducible refine Ext.alloc ?_ _ | with_reducible refine Ext.drew ?_ | with_reducible refine Ext.drewN ?_ _ | with_reducible refine Ext.setCell ?_ (by simp <;> omega) _ | with_reducible refine Ext.trans ?_ (by assumption)))).mono ?_
    rintro e w3 ⟨rfl, hb3⟩
    obtain ⟨hc3, hf3⟩ := hb3.cells
    go_wp2_with fail
    refine (CV.out _ (by repeat (first | with_reducible exact Ext.refl _ | with_reducible assumption | with_reducible refine Ext.alloc ?_ _ | with_reducible refine Ext.drew ?_ | with_reducible refine Ext.drewN ?_ _ | with_reducible refine Ext.setCell ?_ (by simp <;> omega) _ | with_reducible refine Ext.trans ?_ (by assumption)))).mono ?_
    rintro e w4 ⟨rfl, hb4⟩
    obtain ⟨hc4, hf4⟩ := hb4.cells
    go_wp2
    go_ret
    refine ⟨rfl, Ext.below ?_⟩
    repeat (first | with_reducible exact Ext.refl _ | with_reducible assumption | with_reducible refine Ext.alloc ?_ _ | with_reducible refine Ext.drew ?_ | with_reducible refine Ext.drewN ?_ _ | with_reducible refine Ext.setCell ?_ (by simp <;> omega) _ | with_reducible refine Ext.trans ?_ (by assumption))
  have h3l : len2 ≤ 300 := by omega
  rcases (ok_iff.1 hg).wd with rfl | rfl
  · exact turnPlays32 V C P S a cap ups a2 len2 cap2 zs w hS0 hS1 h hR E hb h3l hg
  · exact turnPlays64 V C P S a cap ups a2 len2 cap2 zs w hS0 hS1 h hR E hb h3l hg
end Go.Proofs.YtlnffbocclpnnaaGreatDoorR
