/- Layer 7: the document's Same, live, the walk of OctetReads. -/
import Derived.Test.YtkikiehgkggfmaaOctG
namespace Go.Proofs.Ytkikiehgkggfmaa
open Go.RowKit
set_option linter.unusedVariables false
set_option maxHeartbeats 2000000
theorem same7 (a b : Value) (xs : List UInt8) (w : World) (h1 : BytesV w a xs) (h2 : BytesV w b xs) : Calls Try.prog 24 #[a, b] w fun e w' => e = .returned (.bool true) ∧ w = w' := by
  have c1 := conv_bytes h1
  have c2 := conv_bytes h2
  obtain ⟨p1, k1, rfl⟩ := h1.form
  obtain ⟨p2, k2, rfl⟩ := h2.form
  clear h1 h2
  go_enter Try.func24, Try.ntmps24
  go_wp2
  go_ret
  exact ⟨rfl, rfl⟩
theorem bytes_three {w : World} {b : Nat} {x y z : UInt8} (h0 : w.cell? ⟨b, 0, none⟩ = some (.int .u8 (x.toNat : Int))) (h1 : w.cell? ⟨b, 1, none⟩ = some (.int .u8 (y.toNat : Int))) (h2 : w.cell? ⟨b, 2, none⟩ = some (.int .u8 (z.toNat : Int))) : BytesV w (.slice (some ⟨b, 0, none⟩) 3 3) [x, y, z] := by
  refine .inr ⟨b, 0, 3, rfl, by simp, fun j hj => ?_⟩
  match j, hj with
  | 0, _ => simpa using h0
  | 1, _ => simpa using h1
  | 2, _ => simpa using h2
theorem ints_two7 {w : World} {b : Nat} {x y : Int} (h0 : w.cell? ⟨b, 0, none⟩ = some (.int .i64 x)) (h1 : w.cell? ⟨b, 1, none⟩ = some (.int .i64 y)) : IntsV w (.slice (some ⟨b, 0, none⟩) 2 2) [x, y] := by
  refine .inr ⟨b, 0, 2, rfl, fun j hj => ?_⟩
  match j, hj with
  | 0, _ => simpa using h0
  | 1, _ => simpa using h1
theorem nilB (w : World) : BytesV w (.slice none 0 0) [] := .inl ⟨none, 0, rfl, rfl⟩
theorem live7 (w : World) : Calls Try.prog 7 #[] w fun e w' => e = .returned (.bool true) ∧ Ext w w' := by
  have e1 : enc (zig (-1)) = [1] := by rw [show zig (-1) = 1 by decide, enc_small (by decide)]; rfl
  have e2 : encL [1, 2] = [2, 2, 4] := by
    unfold encL
    rw [encs_cons, encs_cons, show encs [] = [] from rfl, show zig 1 = 2 by decide, show zig 2 = 4 by decide, show ([1, 2] : List Int).length = 2 from rfl, enc_small (by decide), enc_small (by decide)]
    rfl
  have g1 : getX [172, 2, 9] = 300 ∧ getN [172, 2, 9] = 2 ∧ getE [172, 2, 9] = 0 := by decide
  have C1 := Lib.hid fun v w h => oGet v [172, 2, 9] w h (by decide)
  unfold GetDoes at C1
  rw [g1.1, g1.2.1, g1.2.2] at C1
  have C2 := Lib.hid fun w => oPutInt (.slice none 0 0) [] (-1) w (nilB w) (by decide) (by decide) (by decide)
  rw [e1, List.nil_append] at C2
  have C3 := Lib.hid fun u w h => oPutList (.slice none 0 0) u [] [1, 2] w (nilB w) h (by decide) (by decide) (by intro n hn; simp at hn; rcases hn with rfl | rfl <;> (unfold okI64; omega))
  rw [e2, List.nil_append] at C3
  clear e1 e2 g1
  go_enter Try.func7, Try.ntmps7
  go_wp2_with fail
  refine (C1.out _ _ (bytes_three (by simp [go_sem]) (by simp [go_sem]) (by simp [go_sem]))).mono ?_
  rintro e w1 ⟨rfl, X1⟩
  have Y1 : Ext w w1 := by
    have : Ext w (w.alloc (.cells #[.int .u8 172, .int .u8 2, .int .u8 9] 5)) := (Ext.refl w).alloc _
    exact this.trans X1
  clear X1 C1
  go_wp2_with fail
  refine (C2.out _).mono ?_
  rintro e w2 ⟨v2, rfl, R2, X2⟩
  have B2 := Lib.hid R2.bytes
  have Y2 := Y1.trans X2
  clear R2 X2 Y1
  go_wp2_with fail
  refine (same7 _ _ [1] _ (B2.out.ext ((Ext.refl w2).alloc _)) (bytes_one (by simp [go_sem]) rfl)).mono ?_
  rintro e w' ⟨rfl, rfl⟩
  go_wp2_with fail
  refine (C3.out _ _ (ints_two7 (by simp [go_sem]) (by simp [go_sem]))).mono ?_
  rintro e w3 ⟨v3, rfl, R3, X3⟩
  have B3 := Lib.hid R3.bytes
  have Y3 : Ext w w3 := ((Y2.alloc _).alloc _).trans X3
  clear R3 X3 Y2
  go_wp2_with fail
  refine (same7 _ _ [2, 2, 4] _ (B3.out.ext ((Ext.refl w3).alloc _)) (bytes_three (by simp [go_sem]) (by simp [go_sem]) (by simp [go_sem]))).mono ?_
  rintro e w' ⟨rfl, rfl⟩
  go_wp2
  go_ret
  exact ⟨rfl, Y3.alloc _⟩
theorem encs_count (zs : List Int) : zs.length ≤ (encs zs).length := by
  induction zs with
  | nil => simp
  | cons n l ih =>
    rw [encs_cons, List.length_append, List.length_cons]
    have := enc_pos (zig n)
    omega
theorem decL_facts {l : List UInt8} {most : Int} {zs : List Int} {m E : Nat} (h : decL l most = (some (zs, m), E)) : E = 0 ∧ l.take m = encL zs ∧ m = (encL zs).length ∧ m ≤ l.length ∧ 1 ≤ m ∧ zs.length ≤ l.length := by
  unfold decL at h
  cases hd : dec l with
  | none => rw [hd] at h; cases h
  | some p =>
    obtain ⟨x, n⟩ := p
    rw [hd] at h
    simp only at h
    obtain ⟨d1, d2, d3, d4, d5, d6⟩ := dec_is l x n hd
    by_cases hm : most < 0 ∨ most < x
    · rw [if_pos hm] at h; cases h
    · rw [if_neg hm] at h
      cases hn : decN x (l.drop n) with
      | none => rw [hn] at h; cases h
      | some q =>
        obtain ⟨zs', m'⟩ := q
        rw [hn] at h
        simp only [Prod.mk.injEq, Option.some.injEq] at h
        obtain ⟨⟨rfl, rfl⟩, rfl⟩ := h
        obtain ⟨e1, e2, e3, e4⟩ := decN_is x (l.drop n) zs' m' hn
        rw [List.length_drop] at e3
        have hc := encs_count zs'
        refine ⟨rfl, ?_, ?_, by omega, by omega, by omega⟩
        · unfold encL; rw [List.take_add, d1, e1, e4]
        · unfold encL; rw [List.length_append, e4, ← d2, ← e2]
theorem gl_len (l : List UInt8) (most : Int) : (glL l most).length ≤ l.length := by
  unfold glL
  cases h : decL l most with
  | mk o E =>
    cases o with
    | none => simp
    | some q =>
      obtain ⟨zs, m⟩ := q
      have := decL_facts h
      simp only [Option.elim]
      omega
theorem row_cap {k : IntKind} {w : World} {a : Option Addr} {len cap : Nat} {zs : List Int} (h : IsRow k w a len cap zs) : cap ≤ maxLen := by
  rcases h with ⟨_, _, rfl, _⟩ | ⟨x, _, hl, hm, _⟩
  · exact Nat.zero_le _
  · exact hm
theorem reads_way (a : Option Addr) (n cap : Nat) (most : Int) (x m g gN gE : Nat) (z : Int) (ps : List Int) (w : World) (hn : n ≤ 2000) (hps : ps.length ≤ 1000000)
    (C1 : ∀ w', Ext w w' → Calls Try.prog 18 #[.slice a n cap] w' fun e w'' => e = .returned (.tuple #[.int .u64 (x : Nat), .int .i64 (m : Nat), .int .i64 (g : Nat)]) ∧ Ext w' w'')
    (C2 : ∀ w', Ext w w' → Calls Try.prog 19 #[.slice a n cap] w' fun e w'' => e = .returned (.tuple #[.int .u64 (x : Nat), .int .i64 (m : Nat), .int .i64 (g : Nat)]) ∧ Ext w' w'')
    (C3 : ∀ w', Ext w w' → Calls Try.prog 20 #[.slice a n cap] w' fun e w'' => e = .returned (.tuple #[.int .i64 z, .int .i64 (m : Nat), .int .i64 (g : Nat)]) ∧ Ext w' w'')
    (C4 : ∀ w', Ext w w' → Calls Try.prog 14 #[.int .u64 (x : Nat)] w' fun e w'' => e = .returned (.int .i64 z) ∧ w' = w'')
    (C5 : ∀ w', Ext w w' → Calls Try.prog 21 #[.slice a n cap, .int .i64 most] w' fun e w'' => ∃ v, e = .returned (.tuple #[v, .int .i64 (gN : Nat), .int .i64 (gE : Nat)]) ∧ IntsV w'' v ps ∧ Ext w' w'')
    (C6 : ∀ w', Ext w w' → Calls Try.prog 22 #[.slice a n cap, .int .i64 most] w' fun e w'' => ∃ v, e = .returned (.tuple #[v, .int .i64 (gN : Nat), .int .i64 (gE : Nat)]) ∧ IntsV w'' v ps ∧ Ext w' w'') :
    Calls Try.prog 4 #[.slice a n cap, .int .i64 most] w fun e w' => e = .returned (.bool true) ∧ Ext w w' := by
  have d1 : decide (2000 < (n : Int)) = false := by simp; omega
  have K1 := Lib.hid C1; have K2 := Lib.hid C2; have K3 := Lib.hid C3; have K4 := Lib.hid C4; have K5 := Lib.hid C5; have K6 := Lib.hid C6
  have S1 := Lib.hid fun v u w h h2 => same5 v u ps w h h2 (by omega)
  clear C1 C2 C3 C4 C5 C6 hps
  go_enter Try.func4, Try.ntmps4
  go_wp2_with fail
  refine (K1.out _ (Ext.refl _)).mono ?_
  rintro e w1 ⟨rfl, X1⟩
  go_wp2_with fail
  refine (K2.out _ X1).mono ?_
  rintro e w2 ⟨rfl, X2⟩
  have Y2 := X1.trans X2
  clear X1 X2
  go_wp2_with fail
  refine (K3.out _ Y2).mono ?_
  rintro e w3 ⟨rfl, X3⟩
  have Y3 := Y2.trans X3
  clear Y2 X3
  go_wp2_with fail
  refine (K4.out _ Y3).mono ?_
  rintro e w' ⟨rfl, rfl⟩
  go_wp2_with fail
  refine (K5.out _ Y3).mono ?_
  rintro e w4 ⟨v4, rfl, I4, X4⟩
  have HI4 := Lib.hid I4
  have Y4 := Y3.trans X4
  clear Y3 X4 I4
  go_wp2_with fail
  refine (K6.out _ Y4).mono ?_
  rintro e w5 ⟨v5, rfl, I5, X5⟩
  have HI5 := Lib.hid I5
  have HI4' := Lib.hid (HI4.out.ext X5)
  have Y5 := Y4.trans X5
  clear Y4 X5 I5 HI4
  go_wp2_with fail
  refine (S1.out _ _ _ HI4'.out HI5.out).mono ?_
  rintro e w6 ⟨rfl, X6⟩
  have Y6 := Y5.trans X6
  clear X6 Y5 HI4' HI5
  go_wp2_with fail
  refine (live7 _).mono ?_
  rintro e w7 ⟨rfl, X7⟩
  go_wp2
  go_ret
  exact ⟨rfl, Y6.trans X7⟩
theorem octetReads_walk (a : Option Addr) (len cap : Nat) (zs : List Int) (most : Int) (w : World) (h : IsRow .u8 w a len cap zs) (w1 : (Lit.int .i64 most).wf = true) :
    Calls Try.prog 4 #[.slice a len cap, .int .i64 most] w fun e w' => e = .returned (.bool true) ∧ Below w.heap.size w w' := by
  by_cases hl : 2000 < len
  · have d1 : decide (2000 < (len : Int)) = true := by simp; omega
    clear h w1 hl
    go_enter Try.func4, Try.ntmps4
    go_wp2_with fail
    refine (live7 _).mono ?_
    rintro e w1 ⟨rfl, X1⟩
    go_wp2
    go_ret
    exact ⟨rfl, X1.below⟩
  · obtain ⟨l, hv, hlen⟩ := bytesV_of_row h
    have hcap := row_cap h
    obtain ⟨m0, m1⟩ : -9223372036854775808 ≤ most ∧ most ≤ 9223372036854775807 := by simpa [Lit.wf, IntKind.min, IntKind.max, IntKind.signed, IntKind.bits] using w1
    have gl := gl_len l most
    have hc2 : ∀ (w' : World) a' n c, Value.slice a len cap = .slice a' n c → c ≤ maxLen := fun _ a' n c e => by injection e with _ _ e; omega
    refine (reads_way a len cap most (getX l) (getN l) (getE l) (glN l most) (glE l most) (zag (getX l)) (glL l most) w (by omega) (by omega)
      (fun w' X => oGet _ l w' (hv.ext X) (by omega)) (fun w' X => rGet _ l w' (hv.ext X) (by omega)) (fun w' X => oGetInt _ l w' (hv.ext X) (by omega)) (fun w' X => rZag _ w' (get_bound l).1)
      (fun w' X => oGetList _ l most w' (hv.ext X) (by omega) (hc2 w') m0 m1) (fun w' X => rGetList _ l most w' (hv.ext X) (by omega) (hc2 w') m0 m1)).mono ?_
    rintro e w' ⟨h1, h2⟩
    exact ⟨h1, h2.below⟩
end Go.Proofs.Ytkikiehgkggfmaa
