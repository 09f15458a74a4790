import Derived.Test.YtnghecgmbkggmaaDoorJB
import Derived.Test.YtnghecgmbkggmaaDoorJT
/- Frames in a row of their own: where each Enter has come to, its ticket. -/
namespace Go.Proofs.YtnghecgmbkggmaaDoor
open Go.RowKit
set_option linter.unusedVariables false
set_option linter.unusedSimpArgs false
theorem row_u8 {w : World} {a : Option Addr} {len cap : Nat} {zs : List Int} (h : IsRow .u8 w a len cap zs) {i : Nat} (hi : i < len) : ∃ (b off z : Nat), z < 256 ∧ a = some ⟨b, off, none⟩ ∧ w.cell? ⟨b, off + i, none⟩ = some (.int .u8 z) := by
  rcases h with ⟨rfl, rfl, rfl, rfl⟩ | ⟨x, rfl, hl, hm, hz, hc, hw⟩
  · omega
  · have h1 := hc 0 (by omega)
    have hx := spot_none h1
    simp [Addr.add] at hx
    have h2 := hc i (by omega)
    have hwz := hw (zs.getD i 0) (by simp [show i < zs.length by omega])
    obtain ⟨z0, z1⟩ : 0 ≤ zs.getD i 0 ∧ zs.getD i 0 < 256 := by
      generalize zs.getD i 0 = z at *
      simp [Lit.wf, IntKind.min, IntKind.max, IntKind.signed, IntKind.bits] at hwz
      omega
    rw [hx] at h2
    refine ⟨x.block, x.off, (zs.getD i 0).toNat, by omega, by rw [← hx], ?_⟩
    rw [show (((zs.getD i 0).toNat : Nat) : Int) = zs.getD i 0 by omega]
    by_cases hj0 : i = 0
    · subst hj0; simpa [Addr.add] using h2
    · simpa [Addr.add, hj0] using h2
theorem there_of {n : Nat} {w : World} {b : Nat} {f : Nat → Value} (h : VA n w b f) {o m : Nat} (hm : o + m ≤ n) : w.there b o m := fun j hj => by
  have hc := h.c (o + j) (by omega)
  exact ⟨by rw [hc]; rfl, h.z (o + j) (by omega)⟩
/-- some cells of a block are written anew -/
theorem va_part {n : Nat} {w : World} {b : Nat} {f g : Nat → Value} (h : VA n w b f) {o : Nat} (vs : List Value) (hm : o + vs.length ≤ n) (hin : ∀ j, (hj : j < vs.length) → g (o + j) = vs[j]) (hout : ∀ i, i < n → (i < o ∨ o + vs.length ≤ i) → g i = f i) : VA n (w.setCells b o vs) b g := by
  refine ⟨fun i hi => ?_, fun i hi => by rw [World.frozen?_setCells]; exact h.z i hi⟩
  by_cases hio : i < o ∨ o + vs.length ≤ i
  · rw [World.cell?_setCells_out b vs o w ⟨b, i, none⟩ (fun _ _ => hio), hout i hi hio]
    exact h.c i hi
  · have hj : i - o < vs.length := by omega
    have := World.rangeAt_setCells_same w b o vs (there_of h hm) (i - o) vs[i - o] (List.getElem?_eq_getElem hj)
    rw [show o + (i - o) = i by omega] at this
    rw [this, ← hin (i - o) hj, show o + (i - o) = i by omega]
theorem but_setCells (b : Nat) : ∀ (cs : List Value) (o : Nat) (w : World), But (· = b) w (w.setCells b o cs)
  | [], _, w => But.refl _ w
  | v :: r, o, w => (but_setCell w ⟨b, o, none⟩ v).trans (but_setCells b r (o + 1) _)
theorem Odd.sets {w : World} {k b : Nat} (h : Odd w k) : ∀ (cs : List Value) (o : Nat), Odd (w.setCells b o cs) k := by
  intro cs
  induction cs generalizing w with
  | nil => intro o; exact h
  | cons v r ih => intro o; exact ih (h.set (b := b) (o := o) (v := v)) (o + 1)
/-- a part of a block, as a range -/
theorem range_part {n : Nat} {w : World} {b : Nat} {f : Nat → Value} (h : VA n w b f) {o : Nat} (vs : List Value) (hm : o + vs.length ≤ n) (hin : ∀ j, (hj : j < vs.length) → f (o + j) = vs[j]) : w.rangeAt b o vs := fun j v hv => by
  obtain ⟨hj, e⟩ := List.getElem?_eq_some_iff.1 hv
  rw [← e, ← hin j hj]
  exact h.c (o + j) (by omega)
def frV32 (P O : Nat → Int) (i : Nat) : Value :=
  if i % 11 = 3 then .int .i64 (P (i / 11)) else if i % 11 = 9 then .int .u32 (O (i / 11)) else if i % 11 < 6 then .int .i64 0 else if i % 11 < 9 then .int .u32 0 else .slice none 0 0
theorem frV32_3 (P O : Nat → Int) (t : Nat) : frV32 P O (t * 11 + 3) = .int .i64 (P t) := by
  unfold frV32
  rw [if_pos (by omega), show (t * 11 + 3) / 11 = t by omega]
theorem frV32_9 (P O : Nat → Int) (t : Nat) : frV32 P O (t * 11 + 9) = .int .u32 (O t) := by
  unfold frV32
  rw [if_neg (by omega), if_pos (by omega), show (t * 11 + 9) / 11 = t by omega]
theorem frV32_off (P O : Nat → Int) (t : Nat) (a b : Int) (i : Nat) (h3 : i ≠ t * 11 + 3) (h9 : i ≠ t * 11 + 9) : frV32 (upd P t a) (upd O t b) i = frV32 P O i := by
  unfold frV32 upd
  by_cases e3 : i % 11 = 3
  · rw [if_pos e3, if_pos e3, if_neg (by omega)]
  · rw [if_neg e3, if_neg e3]
    by_cases e9 : i % 11 = 9
    · rw [if_pos e9, if_pos e9, if_neg (by omega)]
    · rw [if_neg e9, if_neg e9]
def frZ32 (a b : Int) : List Value := [.int .i64 0, .int .i64 0, .int .i64 0, .int .i64 a, .int .i64 0, .int .i64 0, .int .u32 0, .int .u32 0, .int .u32 0, .int .u32 b, .slice none 0 0]
theorem frZ32_at (P O : Nat → Int) (t : Nat) (j : Nat) (hj : j < (frZ32 (P t) (O t)).length) : frV32 P O (t * 11 + j) = (frZ32 (P t) (O t))[j] := by
  have hj' : j < 11 := hj
  have h11 : j = 0 ∨ j = 1 ∨ j = 2 ∨ j = 3 ∨ j = 4 ∨ j = 5 ∨ j = 6 ∨ j = 7 ∨ j = 8 ∨ j = 9 ∨ j = 10 := by omega
  rcases h11 with rfl | rfl | rfl | rfl | rfl | rfl | rfl | rfl | rfl | rfl | rfl
  all_goals
    unfold frV32
    simp only [show ∀ k, (t * 11 + k) % 11 = k % 11 from fun k => by omega, show (t * 11 + 3) / 11 = t by omega, show (t * 11 + 9) / 11 = t by omega]
    rfl
theorem ft_of32 {n w t fb} {P O : Nat → Int} (h : VA n w fb (frV32 P O)) (ht : t * 11 + 11 ≤ n) (ho : Odd w fb) : FT32 w fb (t * 11) (P t) (O t) :=
  ⟨by have := h.c (t * 11 + 3) (by omega); rwa [frV32_3] at this, h.z (t * 11 + 3) (by omega), by have := h.c (t * 11 + 9) (by omega); rwa [frV32_9] at this, h.z (t * 11 + 9) (by omega), ho⟩
theorem va_keep32 {n t fb : Nat} {w w' : World} {P O : Nat → Int} {a b : Int} (h : VA n w fb (frV32 P O)) (hk : Keep32 w w' fb (t * 11)) (hF : FT32 w' fb (t * 11) a b) : VA n w' fb (frV32 (upd P t a) (upd O t b)) := by
  refine ⟨fun i hi => ?_, fun i hi => hk.z i _ (h.c i hi) (h.z i hi)⟩
  by_cases e3 : i = t * 11 + 3
  · subst e3
    rw [frV32_3]
    have := hF.c3
    rw [this]
    simp [upd]
  · by_cases e9 : i = t * 11 + 9
    · subst e9
      rw [frV32_9]
      have := hF.c9
      rw [this]
      simp [upd]
    · rw [frV32_off P O t a b i e3 e9]
      exact hk.c i _ e3 e9 (h.c i hi)
theorem va_reset32 {n t fb : Nat} {w : World} {P O : Nat → Int} (h : VA n w fb (frV32 P O)) (ht : t * 11 + 11 ≤ n) (a b : Int) : VA n (w.setCells fb (t * 11) (frZ32 a b)) fb (frV32 (upd P t a) (upd O t b)) := by
  refine va_part h (frZ32 a b) ht (fun j hj => ?_) (fun i hi ho => ?_)
  · have := frZ32_at (upd P t a) (upd O t b) t j
    have e1 : upd P t a t = a := if_pos rfl
    have e2 : upd O t b t = b := if_pos rfl
    rw [e1, e2] at this
    exact this hj
  · have ho' : i < t * 11 ∨ t * 11 + 11 ≤ i := ho
    exact frV32_off P O t a b i (by omega) (by omega)
theorem frV32_new (n : Nat) : ∀ i, i < n → frV32 (fun _ => 0) (fun _ => 0) i = frV32 (fun _ => 0) (fun _ => 0) i := fun _ _ => rfl
def frV64 (P O : Nat → Int) (i : Nat) : Value :=
  if i % 11 = 3 then .int .i64 (P (i / 11)) else if i % 11 = 9 then .int .u64 (O (i / 11)) else if i % 11 < 6 then .int .i64 0 else if i % 11 < 9 then .int .u64 0 else .slice none 0 0
theorem frV64_3 (P O : Nat → Int) (t : Nat) : frV64 P O (t * 11 + 3) = .int .i64 (P t) := by
  unfold frV64
  rw [if_pos (by omega), show (t * 11 + 3) / 11 = t by omega]
theorem frV64_9 (P O : Nat → Int) (t : Nat) : frV64 P O (t * 11 + 9) = .int .u64 (O t) := by
  unfold frV64
  rw [if_neg (by omega), if_pos (by omega), show (t * 11 + 9) / 11 = t by omega]
theorem frV64_off (P O : Nat → Int) (t : Nat) (a b : Int) (i : Nat) (h3 : i ≠ t * 11 + 3) (h9 : i ≠ t * 11 + 9) : frV64 (upd P t a) (upd O t b) i = frV64 P O i := by
  unfold frV64 upd
  by_cases e3 : i % 11 = 3
  · rw [if_pos e3, if_pos e3, if_neg (by omega)]
  · rw [if_neg e3, if_neg e3]
    by_cases e9 : i % 11 = 9
    · rw [if_pos e9, if_pos e9, if_neg (by omega)]
    · rw [if_neg e9, if_neg e9]
def frZ64 (a b : Int) : List Value := [.int .i64 0, .int .i64 0, .int .i64 0, .int .i64 a, .int .i64 0, .int .i64 0, .int .u64 0, .int .u64 0, .int .u64 0, .int .u64 b, .slice none 0 0]
theorem frZ64_at (P O : Nat → Int) (t : Nat) (j : Nat) (hj : j < (frZ64 (P t) (O t)).length) : frV64 P O (t * 11 + j) = (frZ64 (P t) (O t))[j] := by
  have hj' : j < 11 := hj
  have h11 : j = 0 ∨ j = 1 ∨ j = 2 ∨ j = 3 ∨ j = 4 ∨ j = 5 ∨ j = 6 ∨ j = 7 ∨ j = 8 ∨ j = 9 ∨ j = 10 := by omega
  rcases h11 with rfl | rfl | rfl | rfl | rfl | rfl | rfl | rfl | rfl | rfl | rfl
  all_goals
    unfold frV64
    simp only [show ∀ k, (t * 11 + k) % 11 = k % 11 from fun k => by omega, show (t * 11 + 3) / 11 = t by omega, show (t * 11 + 9) / 11 = t by omega]
    rfl
theorem ft_of64 {n w t fb} {P O : Nat → Int} (h : VA n w fb (frV64 P O)) (ht : t * 11 + 11 ≤ n) (ho : Odd w fb) : FT64 w fb (t * 11) (P t) (O t) :=
  ⟨by have := h.c (t * 11 + 3) (by omega); rwa [frV64_3] at this, h.z (t * 11 + 3) (by omega), by have := h.c (t * 11 + 9) (by omega); rwa [frV64_9] at this, h.z (t * 11 + 9) (by omega), ho⟩
theorem va_keep64 {n t fb : Nat} {w w' : World} {P O : Nat → Int} {a b : Int} (h : VA n w fb (frV64 P O)) (hk : Keep64 w w' fb (t * 11)) (hF : FT64 w' fb (t * 11) a b) : VA n w' fb (frV64 (upd P t a) (upd O t b)) := by
  refine ⟨fun i hi => ?_, fun i hi => hk.z i _ (h.c i hi) (h.z i hi)⟩
  by_cases e3 : i = t * 11 + 3
  · subst e3
    rw [frV64_3]
    have := hF.c3
    rw [this]
    simp [upd]
  · by_cases e9 : i = t * 11 + 9
    · subst e9
      rw [frV64_9]
      have := hF.c9
      rw [this]
      simp [upd]
    · rw [frV64_off P O t a b i e3 e9]
      exact hk.c i _ e3 e9 (h.c i hi)
theorem va_reset64 {n t fb : Nat} {w : World} {P O : Nat → Int} (h : VA n w fb (frV64 P O)) (ht : t * 11 + 11 ≤ n) (a b : Int) : VA n (w.setCells fb (t * 11) (frZ64 a b)) fb (frV64 (upd P t a) (upd O t b)) := by
  refine va_part h (frZ64 a b) ht (fun j hj => ?_) (fun i hi ho => ?_)
  · have := frZ64_at (upd P t a) (upd O t b) t j
    have e1 : upd P t a t = a := if_pos rfl
    have e2 : upd O t b t = b := if_pos rfl
    rw [e1, e2] at this
    exact this hj
  · have ho' : i < t * 11 ∨ t * 11 + 11 ≤ i := ho
    exact frV64_off P O t a b i (by omega) (by omega)
theorem frV64_new (n : Nat) : ∀ i, i < n → frV64 (fun _ => 0) (fun _ => 0) i = frV64 (fun _ => 0) (fun _ => 0) i := fun _ _ => rfl
end Go.Proofs.YtnghecgmbkggmaaDoor
/- The walk of TurnAlone. -/
namespace Go.Proofs.YtnghecgmbkggmaaDoor
open Go.RowKit
set_option linter.unusedVariables false
set_option linter.unusedSimpArgs false
set_option maxHeartbeats 4000000
attribute [local go_sem] later_cell later_frozen later_const
/-- who is where: tickets from S to T are held by at most one each; who is inside holds S -/
structure AL (P O : Nat → Int) (inb : Nat → Bool) (T S ins : Nat) : Prop where
  pc : ∀ t, t < 8 → P t = 0 ∨ P t = 1 ∨ P t = 2
  inp : ∀ t, t < 8 → (inb t = true ↔ P t = 2)
  own : ∀ t, t < 8 → P t ≠ 0 → ∃ o : Nat, O t = o ∧ S ≤ o ∧ o < T
  inj : ∀ t u, t < 8 → u < 8 → P t ≠ 0 → P u ≠ 0 → O t = O u → t = u
  ino : ∀ t, t < 8 → P t = 2 → O t = S
  ins : (ins = 0 ∧ ∀ t, t < 8 → P t ≠ 2) ∨ (ins = 1 ∧ ∃ t, t < 8 ∧ P t = 2)
  le : S ≤ T
theorem upd_eq (f : Nat → Int) (c : Nat) (z : Int) : upd f c z c = z := if_pos rfl
theorem upd_ne (f : Nat → Int) {c i : Nat} (z : Int) (h : i ≠ c) : upd f c z i = f i := if_neg h
theorem AL.take {P O : Nat → Int} {inb : Nat → Bool} {T S ins t : Nat} (h : AL P O inb T S ins) (ht : t < 8) (h0 : P t = 0) : AL (upd P t 1) (upd O t T) inb (T + 1) S ins := by
  have hx : ∀ u, u < 8 → (upd P t 1 u = 2 ↔ P u = 2) := fun u hu => by
    by_cases e : u = t
    · subst e; rw [upd_eq, h0]; omega
    · rw [upd_ne _ _ e]
  refine ⟨fun u hu => ?_, fun u hu => by rw [hx u hu]; exact h.inp u hu, fun u hu hp => ?_, fun u v hu hv hp hq e => ?_, fun u hu hp => ?_, ?_, Nat.le_succ_of_le h.le⟩
  · by_cases e : u = t
    · subst e; rw [upd_eq]; exact .inr (.inl rfl)
    · rw [upd_ne _ _ e]; exact h.pc u hu
  · by_cases e : u = t
    · subst e; rw [upd_eq]; exact ⟨T, rfl, h.le, Nat.lt_succ_self _⟩
    · rw [upd_ne _ _ e] at hp ⊢
      obtain ⟨o, h1, h2, h3⟩ := h.own u hu hp
      exact ⟨o, h1, h2, by omega⟩
  · by_cases e1 : u = t
    · by_cases e2 : v = t
      · rw [e1, e2]
      · subst e1
        rw [upd_eq, upd_ne _ _ e2] at e
        rw [upd_ne _ _ e2] at hq
        obtain ⟨o, h1, h2, h3⟩ := h.own v hv hq
        omega
    · by_cases e2 : v = t
      · subst e2
        rw [upd_eq, upd_ne _ _ e1] at e
        rw [upd_ne _ _ e1] at hp
        obtain ⟨o, h1, h2, h3⟩ := h.own u hu hp
        omega
      · rw [upd_ne _ _ e1, upd_ne _ _ e2] at e
        rw [upd_ne _ _ e1] at hp
        rw [upd_ne _ _ e2] at hq
        exact h.inj u v hu hv hp hq e
  · have hp2 := (hx u hu).1 hp
    have e : u ≠ t := fun e => by rw [e, h0] at hp2; omega
    rw [upd_ne _ _ e]
    exact h.ino u hu hp2
  · rcases h.ins with ⟨e, hn⟩ | ⟨e, u, hu, hp⟩
    · exact .inl ⟨e, fun u hu hp => hn u hu ((hx u hu).1 hp)⟩
    · exact .inr ⟨e, u, hu, (hx u hu).2 hp⟩
theorem AL.wait {P O : Nat → Int} {inb : Nat → Bool} {T S ins t : Nat} (h : AL P O inb T S ins) : AL (upd P t (P t)) (upd O t (O t)) inb T S ins := by
  have e1 : upd P t (P t) = P := upd_same P t
  have e2 : upd O t (O t) = O := upd_same O t
  rw [e1, e2]
  exact h
/-- who comes inside is alone -/
theorem AL.enter {P O : Nat → Int} {inb : Nat → Bool} {T S ins t : Nat} (h : AL P O inb T S ins) (ht : t < 8) (h1 : P t = 1) (hO : O t = S) : ins = 0 ∧ AL (upd P t 2) (upd O t (O t)) (fun u => if u = t then true else inb u) T S 1 := by
  have hno : ∀ u, u < 8 → P u ≠ 2 := fun u hu hp => by
    have e := h.inj u t hu ht (by omega) (by omega) (by rw [h.ino u hu hp, hO])
    rw [e, h1] at hp
    omega
  have e2 : upd O t (O t) = O := upd_same O t
  rw [e2]
  refine ⟨?_, fun u hu => ?_, fun u hu => ?_, fun u hu hp => ?_, fun u v hu hv hp hq e => ?_, fun u hu hp => ?_, .inr ⟨rfl, t, ht, upd_eq _ _ _⟩, h.le⟩
  · rcases h.ins with ⟨e, _⟩ | ⟨_, u, hu, hp⟩
    · exact e
    · exact absurd hp (hno u hu)
  · by_cases e : u = t
    · subst e; rw [upd_eq]; exact .inr (.inr rfl)
    · rw [upd_ne _ _ e]; exact h.pc u hu
  · by_cases e : u = t
    · subst e; rw [upd_eq]; simp
    · rw [upd_ne _ _ e]; simp only [if_neg e]; exact h.inp u hu
  · by_cases e : u = t
    · subst e; exact h.own u hu (by omega)
    · rw [upd_ne _ _ e] at hp; exact h.own u hu hp
  · refine h.inj u v hu hv ?_ ?_ e
    · by_cases e1 : u = t
      · subst e1; omega
      · rwa [upd_ne _ _ e1] at hp
    · by_cases e2 : v = t
      · subst e2; omega
      · rwa [upd_ne _ _ e2] at hq
  · by_cases e : u = t
    · subst e; exact hO
    · rw [upd_ne _ _ e] at hp; exact h.ino u hu hp
/-- who is inside leaves -/
theorem AL.leave {P O : Nat → Int} {inb : Nat → Bool} {T S ins t : Nat} (h : AL P O inb T S ins) (ht : t < 8) (h2 : P t = 2) : ins = 1 ∧ AL (upd P t 0) (upd O t 0) (fun u => if u = t then false else inb u) T (S + 1) 0 := by
  have hO := h.ino t ht h2
  have hno : ∀ u, u < 8 → u ≠ t → P u ≠ 2 := fun u hu hne hp => hne (h.inj u t hu ht (by omega) (by omega) (by rw [h.ino u hu hp, hO]))
  obtain ⟨o, ho1, ho2, ho3⟩ := h.own t ht (by omega)
  refine ⟨?_, fun u hu => ?_, fun u hu => ?_, fun u hu hp => ?_, fun u v hu hv hp hq e => ?_, fun u hu hp => ?_, .inl ⟨rfl, fun u hu hp => ?_⟩, by omega⟩
  · rcases h.ins with ⟨_, hn⟩ | ⟨e, _⟩
    · exact absurd h2 (hn t ht)
    · exact e
  · by_cases e : u = t
    · subst e; rw [upd_eq]; exact .inl rfl
    · rw [upd_ne _ _ e]; exact h.pc u hu
  · by_cases e : u = t
    · subst e; rw [upd_eq]; simp
    · rw [upd_ne _ _ e]; simp only [if_neg e]; exact h.inp u hu
  · by_cases e : u = t
    · subst e; rw [upd_eq] at hp; exact absurd rfl hp
    · rw [upd_ne _ _ e] at hp ⊢
      obtain ⟨q, q1, q2, q3⟩ := h.own u hu hp
      have : q ≠ S := fun e' => e (h.inj u t hu ht hp (by omega) (by rw [q1, hO, e']))
      exact ⟨q, q1, by omega, q3⟩
  · have e1 : u ≠ t := fun e1 => by rw [e1, upd_eq] at hp; exact hp rfl
    have e2 : v ≠ t := fun e2 => by rw [e2, upd_eq] at hq; exact hq rfl
    rw [upd_ne _ _ e1, upd_ne _ _ e2] at e
    rw [upd_ne _ _ e1] at hp
    rw [upd_ne _ _ e2] at hq
    exact h.inj u v hu hv hp hq e
  · have e1 : u ≠ t := fun e1 => by rw [e1, upd_eq] at hp; omega
    rw [upd_ne _ _ e1] at hp
    exact absurd hp (hno u hu e1)
  · have e1 : u ≠ t := fun e1 => by rw [e1, upd_eq] at hp; omega
    rw [upd_ne _ _ e1] at hp
    exact hno u hu e1 hp
theorem al_new : AL (fun _ => 0) (fun _ => 0) (fun _ => false) 0 0 0 :=
  ⟨fun _ _ => .inl rfl, fun _ _ => by simp, fun _ _ h => absurd rfl h, fun _ _ _ _ h => absurd rfl h, fun _ _ h => by omega, .inl ⟨rfl, fun _ _ h => by omega⟩, Nat.le_refl _⟩
/-- a lock's board, eight frames, who is inside -/
structure AW (w0 w : World) (b g : Nat) (y : LY) (lv : Value) (fb ib : Nat) (P O : Nat → Int) (inb : Nat → Bool) (T S L : Nat) : Prop where
  lk : Lk w b g y lv T S L
  fa : VA 88 w fb (frV32 P O)
  fo : Odd w fb
  fx : Aside w b g lv fb
  ia : VA 8 w ib (fun i => .bool (inb i))
  io : Odd w ib
  ix : Aside w b g lv ib
  ne : fb ≠ ib
  ex : Ext w0 w
  ob : ∀ k, Own b g lv k → w0.heap.size ≤ k
  f0 : w0.heap.size ≤ fb
  i0 : w0.heap.size ≤ ib
theorem AW.ext {w0 w w' : World} {b g : Nat} {y : LY} {lv : Value} {fb ib : Nat} {P O : Nat → Int} {inb : Nat → Bool} {T S L : Nat} (h : AW w0 w b g y lv fb ib P O inb T S L) (hx : Ext w w') : AW w0 w' b g y lv fb ib P O inb T S L :=
  ⟨h.lk.ext hx, h.fa.ext hx, h.fo.but (hx.but (fun _ => False)) id, h.fx.ext hx, h.ia.ext hx, h.io.but (hx.but (fun _ => False)) id, h.ix.ext hx, h.ne, h.ex.trans hx, h.ob, h.f0, h.i0⟩
theorem VA.odd {n : Nat} {w w' : World} {b : Nat} {f : Nat → Value} {S : Nat → Prop} (h : VA n w b f) (hb : But S w w') (hs : ¬ S b) : VA n w' b f := h.but hb hs
theorem AW.entered {w0 w w' : World} {b g : Nat} {y : LY} {lv : Value} {fb ib t : Nat} {P O : Nat → Int} {inb : Nat → Bool} {T S L T' S' L' : Nat} {r : Bool} {Pc Ow : Int} {e : Ending} (h : AW w0 w b g y lv fb ib P O inb T S L) (hD : LkDoes b g fb (t * 11) y lv r T' S' L' Pc Ow w e w') :
    e = .returned (.bool r) ∧ ∃ lv', AW w0 w' b g y lv' fb ib (upd P t Pc) (upd O t Ow) inb T' S' L' := by
  obtain ⟨he, lv', hL, hF, hX, hK, hN, hA⟩ := hD
  have hni : ¬ (Own b g lv ib ∨ ib = fb) := fun e => e.elim h.ix.out (fun e => h.ne e.symm)
  exact ⟨he, lv', hL, va_keep32 h.fa hK hF, hF.od, hX, h.ia.but hN hni, h.io.but hN hni, h.ix.step hN hA, h.ne, But.ext h.ex hN (fun q hq => hq.elim (h.ob q) (fun e => by rw [e]; exact h.f0)), own_new h.ob h.ex.size hA, h.f0, h.i0⟩
theorem AW.left {w0 w w' : World} {b g : Nat} {y : LY} {lv : Value} {fb ib : Nat} {P O : Nat → Int} {inb : Nat → Bool} {T S L T' S' L' : Nat} {e : Ending} (h : AW w0 w b g y lv fb ib P O inb T S L) (hD : LkLeft b g y lv T' S' L' w e w') :
    e = .returned (.tuple #[]) ∧ ∃ lv', AW w0 w' b g y lv' fb ib P O inb T' S' L' := by
  obtain ⟨he, lv', hL, hN, hA⟩ := hD
  exact ⟨he, lv', hL, h.fa.but hN h.fx.out, h.fo.but hN h.fx.out, h.fx.step hN hA, h.ia.but hN h.ix.out, h.io.but hN h.ix.out, h.ix.step hN hA, h.ne, But.ext h.ex hN h.ob, own_new h.ob h.ex.size hA, h.f0, h.i0⟩
theorem AW.mark {w0 w : World} {b g : Nat} {y : LY} {lv : Value} {fb ib t : Nat} {P O : Nat → Int} {inb : Nat → Bool} {T S L : Nat} (h : AW w0 w b g y lv fb ib P O inb T S L) (ht : t < 8) (v : Bool) : AW w0 (w.setCell ⟨ib, t, none⟩ (.bool v)) b g y lv fb ib P O (fun u => if u = t then v else inb u) T S L := by
  have hN := but_setCell w ⟨ib, t, none⟩ (.bool v)
  have hf : ¬ fb = ib := h.ne
  refine ⟨h.lk.but hN (fun k hk e => h.ix.out (by rw [show ib = k from e.symm]; exact hk)) (fun k hk _ => by rw [show k = ib from hk]; exact h.io), h.fa.but hN hf, h.fo.set, ⟨h.fx.out, Nat.lt_of_lt_of_le h.fx.lt hN.size⟩, (va_set h.ia (.bool v) ht).congr (fun i _ => ?_), h.io.set, ⟨h.ix.out, Nat.lt_of_lt_of_le h.ix.lt hN.size⟩, h.ne, h.ex.setCell h.i0 _, h.ob, h.f0, h.i0⟩
  by_cases e : i = t
  · simp [e]
  · simp [e]
theorem AW.reset {w0 w : World} {b g : Nat} {y : LY} {lv : Value} {fb ib t : Nat} {P O : Nat → Int} {inb : Nat → Bool} {T S L : Nat} (h : AW w0 w b g y lv fb ib P O inb T S L) (ht : t < 8) : AW w0 (w.setCells fb (t * 11) (frZ32 0 0)) b g y lv fb ib (upd P t 0) (upd O t 0) inb T S L := by
  have hN := but_setCells fb (frZ32 0 0) (t * 11) w
  have hi : ¬ ib = fb := fun e => h.ne e.symm
  exact ⟨h.lk.but hN (fun k hk e => h.fx.out (by rw [show fb = k from e.symm]; exact hk)) (fun k hk _ => by rw [show k = fb from hk]; exact h.fo), va_reset32 h.fa (by omega) 0 0, h.fo.sets _ _, ⟨h.fx.out, Nat.lt_of_lt_of_le h.fx.lt hN.size⟩, h.ia.but hN hi, h.io.but hN hi, ⟨h.ix.out, Nat.lt_of_lt_of_le h.ix.lt hN.size⟩, h.ne, But.ext h.ex hN (fun k e => by rw [show k = fb from e]; exact h.f0), h.ob, h.f0, h.i0⟩
end Go.Proofs.YtnghecgmbkggmaaDoor
/- The walk of TurnAlone. -/
namespace Go.Proofs.YtnghecgmbkggmaaDoor
open Go.RowKit
set_option linter.unusedVariables false
set_option linter.unusedSimpArgs false
set_option maxHeartbeats 4000000
attribute [local go_sem] later_cell later_frozen later_const
theorem int_eq {a b : Int} (h : a = b) : Value.int .i64 a = .int .i64 b := by rw [h]
set_option maxRecDepth 100000 in
theorem turnAlone_walk (a : Option Addr) (len cap : Nat) (zs : List Int) (w : World) (h : IsRow .u8 w a len cap zs) (E : Parts w) :
    Calls Tryd.prog 4 #[.slice a len cap] w fun e w' => e = .returned (.bool true) ∧ Below w.heap.size w w' := by
  have HE := Lib.hid (fun w' (hx : Ext w w') => E.ext hx)
  have CV := Lib.hid (fun w' (hx : Ext w w') => live18 w' (E.ext hx))
  clear E
  by_cases hl : 300 < len
  · have d1 : decide ((300 : Int) < (len : Int)) = true := by simp; omega
    clear h hl
    go_enter Tryd.func4, Tryd.ntmps4
    go_wp2_with fail
    refine (CV.out _ (Ext.refl _)).mono ?_
    rintro e w1 ⟨rfl, hb1⟩
    obtain ⟨hc1, hf1⟩ := hb1.cells
    go_wp2
    go_ret
    exact ⟨rfl, Ext.below hb1⟩
  have d1 : decide ((300 : Int) < (len : Int)) = false := by simp; omega
  have HR := Lib.hid (fun i (hi : i < len) => row_u8 h hi)
  have hl3 : len ≤ 300 := by omega
  clear h hl
  go_enter Tryd.func4, Tryd.ntmps4
  go_wp2_with fail
  refine (locked _).mono ?_
  rintro e w1 ⟨b, g, y, rfl, Y, L1, X1, hb1, hg1⟩
  have HY := Lib.hid Y
  have HL1 := Lib.hid L1
  have HX1 := Lib.hid X1
  have HO1 := Lib.hid (ownGe hb1 hg1)
  have HF0 := Lib.hid X1.size
  clear Y L1 X1 hb1 hg1
  have HZC := Lib.hid (show Tryd.zeroCells52 = (vl 88 (frV32 (fun _ => 0) (fun _ => 0))).toArray by kernel_rfl)
  have HZS := Lib.hid (show Tryd.zeroCells52.size = 88 by rw [HZC.out]; simp [vl_len])
  go_upto_region 5 with (with_reducible refine wpList_store_mid rfl _ (.tmp 4) (.tmp 15) rfl w1.heap.size 0 Tryd.zeroCells52 rfl rfl ?hs1 ?hs2 ?hs3 ?_)
  case hs1 => rw [HZS.out]; exact (va_new (n := 88) w1 52 _ _ HZC.out).there
  case hs2 => rw [HZS.out]; kernel_rfl
  case hs3 => kernel_rfl
  refine settle_wp ?_
  intro w2 hb2
  have VF := (va_setCells (va_new (n := 88) w1 52 _ _ HZC.out) (frV32 (fun _ => 0) (fun _ => 0)) Tryd.zeroCells52.toList (by rw [HZC.out])).ext hb2
  have X12 : Ext w1 w2 := Ext.trans (ext_setCells w1.heap.size (Nat.le_refl _) _ 0 _ ((Ext.refl w1).alloc _)) hb2
  have OF : Odd w2 w1.heap.size := Odd.but (Odd.sets ⟨_, Tag.new w1 Tryd.zeroCells52 52, by decide, by decide⟩ Tryd.zeroCells52.toList 0) (hb2.but (fun _ => False)) id
  have hls : w1.heap.size < w2.heap.size := World.block_lt_of_cell? w2 _ (VF.c 0 (by decide))
  have TF : Aside w2 b g (.slice none 0 0) w1.heap.size := by
    refine ⟨fun hk => ?_, hls⟩
    obtain ⟨f, log, hB, -⟩ := HL1.out
    have := hB.B.lt hk
    omega
  have HVF := Lib.hid VF
  have HX12 := Lib.hid X12
  have HOF := Lib.hid OF
  have HTF := Lib.hid TF
  generalize w1.heap.size = fb at *
  clear hb2 VF X12 OF TF HZC HZS
  go_upto_region 6 with (fail)
  refine settle_wp ?_
  intro w3 hb3
  obtain ⟨C2, hb4, e2⟩ : ∃ C2, Ext (w2.alloc (.cells C2 53)) w3 ∧ C2 = (vl 8 (fun i => .bool ((fun _ => false : Nat → Bool) i))).toArray := ⟨_, hb3, by kernel_rfl⟩
  clear hb3
  have X23 : Ext w2 w3 := Ext.trans ((Ext.refl w2).alloc _) hb4
  have VB := (va_new (n := 8) w2 53 C2 _ e2).ext hb4
  have TB := (Tag.new w2 C2 53).ext hb4
  have L3 := (HL1.out.ext HX12.out).ext X23
  have hs2 := (HX1.out.trans HX12.out).size
  have hf0 : w.heap.size ≤ fb := HF0.out
  have HA : Hid (AW w w3 b g y (.slice none 0 0) fb w2.heap.size (fun _ => 0) (fun _ => 0) (fun _ => false) 0 0 0) := Lib.hid
    ⟨L3, HVF.out.ext X23, HOF.out.but (X23.but (fun _ => False)) id, HTF.out.ext X23, VB, ⟨_, TB, by decide, by decide⟩, L3.aside TB (by decide) (by decide) (by decide), by omega, (HX1.out.trans HX12.out).trans X23, HO1.out, hf0, hs2⟩
  clear hb4 e2 X23 VB TB L3 hs2 HL1 HX1 HO1 HVF HX12 HOF HTF hls hf0 HF0
  generalize w2.heap.size = ib at *
  go_wp2
  go_loopw [6, 7, 8] (fun u v i wr => ∃ k : Nat, k ≤ len ∧ i = .int .i64 k ∧ ∃ lv P O inb T S L, ∃ ins : Nat, AW w wr b g y lv fb ib P O inb T S L ∧ AL P O inb T S ins ∧ u = .int .i64 ins ∧ v = .int .i64 ((S : Int) - 1 + ins) ∧ T ≤ k ∧ L ≤ k) (fun _ _ i _ => len - (intOf i).toNat)
  case atStart => exact ⟨0, Nat.zero_le _, rfl, _, _, _, _, 0, 0, 0, 0, HA.out, al_new, rfl, rfl, Nat.le_refl _, Nat.le_refl _⟩
  case round =>
    obtain ⟨k, hk, rfl, lv, P, O, inb, T, S, L, ins, hA, hL, rfl, rfl, hT, hLk⟩ := hrel
    have HA2 := Lib.hid hA
    have HL2 := Lib.hid hL
    clear hA hL HA
    by_cases hlt : k < len
    case neg =>
      obtain rfl : k = len := by omega
      go_wp2_with fail
      refine (CV.out _ HA2.out.ex).mono ?_
      rintro e w3 ⟨rfl, X3⟩
      have HX3 := Lib.hid (HA2.out.ex.trans X3)
      clear X3
      go_wp2
      go_ret
      exact ⟨rfl, Ext.below HX3.out⟩
    have hkl : (k : Int) < (len : Int) := by omega
    obtain ⟨rb, ro, z, hz, ea, cz⟩ := HR.out k hlt
    subst ea
    replace cz := HA2.out.ex.cell cz
    obtain ⟨t, ht, hzt⟩ : ∃ t : Nat, t < 8 ∧ ((z : Nat) : Int) % 8 = (t : Int) := ⟨z % 8, by omega, by omega⟩
    have hz0 : (0 : Int) ≤ (z : Int) := by omega
    have hz1 : (z : Int) < 256 := by omega
    have ht0 : (0 : Int) ≤ (t : Int) := by omega
    have ht8 : (t : Int) < 8 := by omega
    have hS1 : S ≤ 300 := by have := HL2.out.le; omega
    have hins : ins ≤ 1 := by rcases HL2.out.ins with ⟨e, _⟩ | ⟨e, _⟩ <;> omega
    go_upto_region 12 with (fail)
    rw [hzt]
    have ci := HA2.out.ia.c t ht
    clear cz hz0 hz1 hzt
    cases hin : inb t
    case true =>
      rw [hin] at ci
      have hP2 := (HL2.out.inp t ht).1 hin
      obtain ⟨hi1, hAL⟩ := HL2.out.leave ht hP2
      have HAL := Lib.hid hAL
      clear hAL hin
      subst hi1
      go_wp2_with fail
      refine (lk_leave b g y lv _ T S L _ HY.out HA2.out.lk (HE.out _ HA2.out.ex) (by omega) (by omega)).mono ?_
      intro e w3 hD
      obtain ⟨rfl, lv3, hA3⟩ := HA2.out.left hD
      have HA3 := Lib.hid hA3
      have c3 := hA3.ia.c t ht
      have z3 := hA3.ia.z t ht
      clear hD hA3 ci
      go_upto_region 15 with (with_reducible refine wpList_store_mid rfl _ (.tmp 39) (.tmp 37) rfl fb (t * 11) (frZ32 0 0).toArray rfl rfl ?ht1 ?ht2 ?ht3 ?_)
      case ht1 => exact there_of (HA3.out.mark ht false).fa (by show t * 11 + 11 ≤ 88; omega)
      case ht2 => kernel_rfl
      case ht3 => kernel_rfl
      have HA4 : Hid (AW w ((w3.setCell ⟨ib, t, none⟩ (.bool false)).setCells fb (t * 11) (frZ32 0 0).toArray.toList) b g y lv3 fb ib (upd P t 0) (upd O t 0) (fun u => if u = t then false else inb u) T (S + 1) (L + 1)) := Lib.hid ((HA3.out.mark ht false).reset ht)
      generalize (w3.setCell ⟨ib, t, none⟩ (.bool false)).setCells fb (t * 11) (frZ32 0 0).toArray.toList = w4 at *
      clear HA3 c3 z3 HA2 HL2
      go_wp2
      refine ⟨⟨k + 1, by omega, by go_num, lv3, _, _, _, T, S + 1, L + 1, 0, HA4.out, HAL.out, ?_, ?_, by omega, by omega⟩, by simp [intOf]; omega⟩
      · first | rfl | (apply int_eq; omega)
      · apply int_eq; omega
    case false =>
      rw [hin] at ci
      have hP2 : P t ≠ 2 := fun e => by have := (HL2.out.inp t ht).2 e; rw [hin] at this; cases this
      have hF := ft_of32 (t := t) HA2.out.fa (by omega) HA2.out.fo
      by_cases hP0 : P t = 0
      · rw [hP0] at hF
        have HF := Lib.hid hF
        have HAL := Lib.hid (HL2.out.take ht hP0)
        have hig : ¬ (1 : Int) < (ins : Int) := by omega
        clear hF hP2
        go_wp2_with fail
        refine (lk_take b g fb (t * 11) y lv _ _ T S L _ HY.out HA2.out.lk (HE.out _ HA2.out.ex) HF.out HA2.out.fx (by omega) (by omega)).mono ?_
        intro e w3 hD
        obtain ⟨rfl, lv3, hA3⟩ := HA2.out.entered hD
        have HA3 := Lib.hid hA3
        clear hD hA3 ci HA2 HL2 HF
        go_wp2
        refine ⟨⟨k + 1, by omega, by go_num, lv3, _, _, _, T + 1, S, L + 1, ins, HA3.out, HAL.out, rfl, rfl, by omega, by omega⟩, by simp [intOf]; omega⟩
      · have hP1 : P t = 1 := by rcases HL2.out.pc t ht with e | e | e <;> omega
        obtain ⟨o, ho, ho1, ho2⟩ := HL2.out.own t ht hP0
        by_cases hoS : o = S
        · subst hoS
          obtain ⟨hi0, hAL⟩ := HL2.out.enter ht hP1 ho
          rw [hP1, ho] at hF
          have HF := Lib.hid hF
          have HAL := Lib.hid hAL
          subst hi0
          obtain ⟨lst, hlst⟩ : ∃ z : Int, z = (o : Int) - 1 + ((0 : Nat) : Int) := ⟨_, rfl⟩
          rw [← hlst]
          have hcmp : ¬ (o : Int) ≤ lst := by omega
          clear hF hP2 hAL hP0 hlst
          go_wp2_with fail
          refine (lk_in b g fb (t * 11) y lv _ 1 T o L _ HY.out HA2.out.lk (HE.out _ HA2.out.ex) HF.out HA2.out.fx (by decide) (by omega) (by omega)).mono ?_
          intro e w3 hD
          obtain ⟨rfl, lv3, hA3⟩ := HA2.out.entered hD
          have HA3 := Lib.hid hA3
          have c3 := hA3.ia.c t ht
          have z3 := hA3.ia.z t ht
          have hu : upd O t (o : Int) t = o := upd_eq _ _ _
          have c9 := hA3.fa.c (t * 11 + 9) (by omega)
          rw [frV32_9, hu] at c9
          have hnb : ib ≠ fb := fun e => hA3.ne e.symm
          have hnb' : fb ≠ ib := hA3.ne
          have o0 : (0 : Int) ≤ (o : Int) := by omega
          have o1 : (o : Int) < 4294967296 := by omega
          have HHO := Lib.hid ho
          clear hD hA3 ci HA2 HL2 HF hP1 hu ho ho1 ho2
          have HA4 := Lib.hid (HA3.out.mark ht true)
          clear HA3 c9
          go_upto_region 19 with (fail)
          generalize hw4 : w3.setCell ⟨ib, t, none⟩ (.bool true) = w4 at *
          have hu : upd O t (o : Int) t = o := upd_eq _ _ _
          have c9 := HA4.out.fa.c (t * 11 + 9) (by omega)
          rw [frV32_9, hu] at c9
          clear hw4 hu c3 z3 hnb hnb'
          obtain ⟨x, hx⟩ : ∃ x : Int, x = o := ⟨_, rfl⟩
          rw [← hx] at c9 hcmp o0 o1
          have HXX := Lib.hid hx
          clear hx
          go_wp2
          refine ⟨⟨k + 1, by omega, by go_num, lv3, _, _, _, T, o, L + 1, 1, HA4.out, ?_, ?_, ?_, by omega, by omega⟩, by simp [intOf]; omega⟩
          · have h2 := HAL.out
            rwa [HHO.out] at h2
          · first | rfl | (apply int_eq; omega)
          · have := HXX.out
            apply int_eq; omega
        · rw [hP1, ho] at hF
          have HF := Lib.hid hF
          have HAL := Lib.hid (HL2.out.wait (t := t))
          have hig : ¬ (1 : Int) < (ins : Int) := by omega
          clear hF hP2 hP0
          go_wp2_with fail
          refine (lk_wait b g fb (t * 11) y lv _ 1 T S L o _ HY.out HA2.out.lk (HE.out _ HA2.out.ex) HF.out HA2.out.fx (by decide) (by omega) (fun e => hoS e.symm) (by omega)).mono ?_
          intro e w3 hD
          obtain ⟨rfl, lv3, hA3⟩ := HA2.out.entered hD
          rw [hP1, ho] at HAL
          have HA3 := Lib.hid hA3
          clear hD hA3 ci HA2 HL2 HF hP1 ho
          go_wp2
          refine ⟨⟨k + 1, by omega, by go_num, lv3, _, _, _, T, S, L + 1, ins, HA3.out, HAL.out, rfl, rfl, by omega, by omega⟩, by simp [intOf]; omega⟩
end Go.Proofs.YtnghecgmbkggmaaDoor
