/- Layer 7: OctetWrites. -/
import Derived.Test.YtkikiehgkggfmaaLawOctW
namespace Go.Proofs.Ytkikiehgkggfmaa
open Go.RowKit
set_option linter.unusedVariables false
set_option maxHeartbeats 2000000
theorem early7w (x : Int) (a a2 : Option Addr) (n n2 cap cap2 : Nat) (w : World) (h : 300 < n ∨ 1000 < n2) : Calls Try.prog 3 #[.int .u64 x, .slice a n cap, .slice a2 n2 cap2] w fun e w' => e = .returned (.bool true) ∧ Ext w w' := by
  by_cases h1 : 300 < n
  · have d1 : decide (300 < (n : Int)) = true := by simp; omega
    clear h h1
    go_enter Try.func3, Try.ntmps3
    go_wp2_with fail
    refine (live7 _).mono ?_
    rintro e w1 ⟨rfl, X1⟩
    go_wp2
    go_ret
    exact ⟨rfl, X1⟩
  · have d1 : decide (300 < (n : Int)) = false := by simp; omega
    have d2 : decide (1000 < (n2 : Int)) = true := by simp; omega
    clear h h1
    go_enter Try.func3, Try.ntmps3
    go_wp2_with fail
    refine (live7 _).mono ?_
    rintro e w1 ⟨rfl, X1⟩
    go_wp2
    go_ret
    exact ⟨rfl, X1⟩
theorem octetWrites_walk (x : Int) (a : Option Addr) (len cap : Nat) (zs : List Int) (a2 : Option Addr) (len2 cap2 : Nat) (zs2 : List Int) (w : World) (w0 : (Lit.int .u64 x).wf = true) (h : IsRow .i64 w a len cap zs) (h2 : IsRow .u8 w a2 len2 cap2 zs2) :
    Calls Try.prog 3 #[.int .u64 x, .slice a len cap, .slice a2 len2 cap2] w fun e w' => e = .returned (.bool true) ∧ Below w.heap.size w w' := by
  by_cases hl : 300 < len ∨ 1000 < len2
  · exact (early7w x a a2 len len2 cap cap2 w hl).mono fun e w' ⟨h1, h2⟩ => ⟨h1, h2.below⟩
  · obtain ⟨hv, hlen, hwf⟩ := intsV_of_row h
    obtain ⟨bs, hv2, hlen2⟩ := bytesV_of_row h2
    generalize zs.take len = l at *
    obtain ⟨x0, x1⟩ : 0 ≤ x ∧ x ≤ 18446744073709551615 := by simpa [Lit.wf, IntKind.min, IntKind.max, IntKind.signed, IntKind.bits] using w0
    obtain ⟨y, rfl⟩ : ∃ y : Nat, x = y := ⟨x.toNat, by omega⟩
    have hy : y < 18446744073709551616 := by omega
    have hb : ∀ n ∈ l, okI64 n := fun n hn => by simpa [Lit.wf, IntKind.min, IntKind.max, IntKind.signed, IntKind.bits, okI64] using hwf n hn
    have hel := enc_len y hy
    have hls := encs_len l hb
    have hll : (encL l).length ≤ 10 + 10 * l.length := by unfold encL; rw [List.length_append]; have := enc_len l.length (by omega); omega
    obtain ⟨z, hz, hz2⟩ : ∃ z, okI64 z ∧ ((len = 0 ∧ z = 0) ∨ (0 < len ∧ ∃ b off, a = some ⟨b, off, none⟩ ∧ w.cell? ⟨b, off, none⟩ = some (.int .i64 z))) := by
      by_cases h0 : 0 < len
      · obtain ⟨b, off, cap', e, hc⟩ := intsV_full hv (by omega)
        injection e with e1 e2 e3
        refine ⟨l.getD 0 0, hb _ ?_, .inr ⟨h0, b, off, e1, by have := hc 0 (by omega); simpa using this⟩⟩
        have : 0 < l.length := by omega
        simp [this]
      · exact ⟨0, ⟨by omega, by omega⟩, .inl ⟨by omega, rfl⟩⟩
    have hzl := zig_lt z hz.1 hz.2
    have hq1 := enc_pos (zig z)
    have hq2 := enc_len (zig z) hzl
    rw [← hlen2] at hv2 ⊢
    refine (writes_rest y a len cap a2 cap2 z bs (enc y) (enc (zig z)) (encL l) (zig z) (zag y) w (by omega) (by omega) (by omega) (by omega) (by omega) (by omega) hz2 (fun w' X => hv2.ext X)
      (fun w' X => oPut _ bs y w' (hv2.ext X) (by omega) hy)
      (fun w' X => rPut y w' hy)
      (fun w' X => oLen y w' hy)
      (fun w' X => oZig z w' hz.1 hz.2) (fun w' X => rZig z w' hz.1 hz.2)
      (fun w' X => oZag y w' hy) (fun w' X => rZag y w' hy)
      (fun w' X => oPutInt _ bs z w' (hv2.ext X) (by omega) hz.1 hz.2)
      (fun w' X => rPut (zig z) w' hzl)
      (fun w' X => oPutList _ _ bs l w' (hv2.ext X) (hv.ext X) (by omega) (by omega) hb)
      (fun w' X => rList _ l w' (hv.ext X) (by omega) hb)).mono ?_
    rintro e w' ⟨h1, h2⟩
    exact ⟨h1, h2.below⟩
end Go.Proofs.Ytkikiehgkggfmaa
