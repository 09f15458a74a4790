/- words.Lines. -/
import Derived.Test.YtchelhmefghcdaaDoorSplt6
namespace Go.Proofs.YtchelhmefghcdaaDoor
open Go.RowKit
set_option linter.unusedVariables false
set_option maxHeartbeats 2000000
def txtLen : Value → Nat
  | .string s => s.size
  | _ => 0
theorem ext_drewN {w w' : World} (h : ∃ n, w' = w.drewN n) : Ext w w' := by
  obtain ⟨n, rfl⟩ := h
  exact (Ext.refl w).drewN n
theorem cCut (l : List UInt8) (w : World) (hl : l.length ≤ 1000000) (E : Env w) : Calls Tryd.prog 28 #[.string (tx l), .string { data := #[10] }] w fun e w' => e = .returned (.tuple #[.string (tx (Lib.cut l [10]).1), .string (tx (Lib.cut l [10]).2.1), .bool (Lib.cut l [10]).2.2]) ∧ Ext w w' := by
  obtain ⟨m, hm⟩ := E.max
  have c := Tryd.strings_Cut (tx l) ⟨#[10]⟩ m w (by rw [tx_size]; omega) hm
  rw [tx_list] at c
  exact c.mono fun e w' ⟨h1, h2⟩ => ⟨h1, ext_drewN h2⟩
set_option maxRecDepth 100000 in
theorem wLines (l : List UInt8) (w : World) (hl : l.length ≤ 65536) (E : Env w) : Calls Tryd.prog 9 #[.string (tx l)] w (LinesDoes w (linesOf l)) := by
  have C1 := Lib.hid (cClone (tx l) w (by rw [tx_size]; omega))
  have hsz : decide ((65536 : Int) < ((tx l).size : Int)) = false := by rw [tx_size]; simp; omega
  have CC := Lib.hid (fun (r : List UInt8) (w' : World) (hx : Ext w w') (h : r.length ≤ 65536) => cCut r w' (by omega) (E.later hx))
  have CI := Lib.hid (fun (r : List UInt8) (w' : World) (h : r.length ≤ 65536) => cIsLine r w' (by omega))
  have HL0 : Hid (specP [] (parts 10 l) = linesOf l) := Lib.hid rfl
  have HL := Lib.hid hl
  generalize linesOf l = res at *
  obtain ⟨s, hs⟩ : ∃ s, s = tx l := ⟨_, rfl⟩
  rw [← hs] at C1 hsz ⊢
  have HS0 := Lib.hid hs
  clear E hl hs
  go_enter Tryd.func9, Tryd.ntmps9
  go_wp2_with fail
  refine C1.out.mono ?_
  rintro e w1 ⟨rfl, X1⟩
  go_wp2
  go_loopw [5, 6] (fun o r wr => ∃ (q : List UInt8) (out : List (List UInt8)), r = .string (tx q) ∧ q.length + out.length ≤ 65536 ∧ Hid (specP out (parts 10 q) = res) ∧ RS wr w.heap.size o out ∧ Ext w wr) (fun _ r _ => txtLen r)
  case atStart => exact ⟨l, [], by rw [HS0.out], by have := HL.out; simp; omega, HL0, World.ownsRow_nil _ _ _ _, X1⟩
  case round =>
    obtain ⟨q, out, rfl, hq, HS, R, hX⟩ := hrel
    have HR := Lib.hid R
    clear R HL0
    have hql : q.length ≤ 65536 := by omega
    by_cases h0 : q = []
    · have e1 : ((tx q).toList == []) = true := by rw [tx_tl]; simpa using h0
      have HG : Hid (LinesDoes w res (.returned (.tuple #[_, .int .i64 0, .int .i64 0])) wr) := Lib.hid (by rw [← HS.out, h0, specP_last]; exact lines_good HR.out hX)
      clear HS HR CC CI
      generalize tx q = t at *
      go_wp2
      go_ret3
      exact HG.out
    · have e1 : ((tx q).toList == []) = false := by rw [tx_tl]; simpa using h0
      have CQ := Lib.hid (CC.out q wr hX hql)
      by_cases hm : (10 : UInt8) ∈ q
      · obtain ⟨p, r, hc, hp, hr, hpl⟩ := cut_hit q hm
        rw [hc] at CQ
        have CP := Lib.hid (fun w' => CI.out p w' (by omega))
        cases hI : isLineB p with
        | true =>
          have HS2 : Hid (specP (out ++ [p]) (parts 10 r) = res) := Lib.hid (by rw [← HS.out, specP_on out _ p _ hp hI])
          rw [hI] at CP
          have hol2 : out.length ≤ 1000000 := by omega
          have hmz : (tx r).size < (tx q).size := by rw [tx_size, tx_size]; exact hr
          clear HS hp hI hc CC CI hm h0
          generalize tx q = t at *
          go_wp2_with fail
          refine CQ.out.mono ?_
          rintro e w2 ⟨rfl, X2⟩
          have Y2 := hX.trans X2
          go_wp2_with fail
          refine (CP.out _).mono ?_
          rintro e w3 ⟨rfl, X3⟩
          have Y3 := Y2.trans X3
          have HR4 : Hid (RS w3 w.heap.size _ out) := Lib.hid ((X2.trans X3).row HR.out)
          clear HR X2 X3 Y2
          go_wp2_with (at_builtin; refine appS _ rfl _ _ rfl w _ out rfl (((Ext.refl w3).alloc _).row HR4.out) (Y3.alloc _) w3.heap.size p rfl (by simp [go_sem]) hol2 ?_)
          intro v4 w4 R4 X4
          have HR5 := Lib.hid R4
          clear R4 HR4
          go_wp2
          exact ⟨⟨r, out ++ [p], rfl, by simp; omega, HS2, HR5.out, X4⟩, by simpa [txtLen] using hmz⟩
        | false =>
          have HG : Hid (∀ w', Ext w w' → LinesDoes w res (.returned (.tuple #[.slice none 0 0, .int .i64 ((out.length : Int) + 1), .int .i64 20])) w') := Lib.hid (fun w' h => by rw [← HS.out, specP_bad out _ p _ hp hI]; exact lines_bad out.length h)
          rw [hI] at CP
          obtain ⟨ar, cr, hv, _⟩ := HR.out.texts
          subst hv
          clear HS hp hI HR hc CC CI hm h0
          generalize tx q = t at *
          go_wp2_with fail
          refine CQ.out.mono ?_
          rintro e w2 ⟨rfl, X2⟩
          have Y2 := hX.trans X2
          go_wp2_with fail
          refine (CP.out _).mono ?_
          rintro e w3 ⟨rfl, X3⟩
          have Y3 := Y2.trans X3
          clear X2 X3 Y2
          go_wp2
          go_ret3
          exact HG.out _ Y3
      · rw [cut_miss q hm] at CQ
        have HG : Hid (∀ w', Ext w w' → LinesDoes w res (.returned (.tuple #[.slice none 0 0, .int .i64 ((out.length : Int) + 1), .int .i64 20])) w') := Lib.hid (fun w' h => by rw [← HS.out, specP_short out _ hm h0]; exact lines_bad out.length h)
        obtain ⟨ar, cr, hv, _⟩ := HR.out.texts
        subst hv
        clear HS HR CC CI hm h0
        generalize tx q = t at *
        go_wp2_with fail
        refine CQ.out.mono ?_
        rintro e w2 ⟨rfl, X2⟩
        have Y2 := hX.trans X2
        clear X2
        go_wp2
        go_ret3
        exact HG.out _ Y2
end Go.Proofs.YtchelhmefghcdaaDoor
