/- GroupTells, all ways. -/
import Derived.Test.YthdokmhbdjajaabDoorLawTells5A
import Derived.Test.YthdokmhbdjajaabDoorLawTells5B
import Derived.Test.YthdokmhbdjajaabDoorLawTells5C
import Derived.Test.YthdokmhbdjajaabDoorLawTells5D
namespace Go.Proofs.YthdokmhbdjajaabDoor
open Go.RowKit
set_option linter.unusedVariables false
theorem tells5 (x : Nat) (i : Int) (w : World) (hx : x < 18446744073709551616) (h1 : -9223372036854775808 ≤ i) (h2 : i ≤ 9223372036854775807) (hT : Tab w) :
    Calls Tryd.prog 4 #[.int .u64 x, .int .i64 i] w fun e w' => e = .returned (.bool true) ∧ Ext w w' := by
  cases hi : okI i
  · cases hL : bitsOf x with
    | nil => exact tells_out_nil_none x i hi h1 h2 hL (by unfold nxt; rw [hL]; rfl) w hx hT
    | cons z l =>
      cases hN : nxt x i with
      | none => exact tells_out_cons_none x i hi h1 h2 z l hL hN w hx hT
      | some j => exact tells_out_cons_some x i hi h1 h2 z l hL j hN w hx hT
  · have hh := (okI_iff i).1 hi
    obtain ⟨m, rfl⟩ := Int.eq_ofNat_of_zero_le hh.1
    have hm : m < 64 := by omega
    cases hL : bitsOf x with
    | nil => exact tells_in_nil_none x m hm hL (by unfold nxt; rw [hL]; rfl) w hx hT
    | cons z l =>
      cases hN : nxt x (m : Int) with
      | none => exact tells_in_cons_none x m hm z l hL hN w hx hT
      | some j => exact tells_in_cons_some x m hm z l hL j hN w hx hT
theorem groupTells_walk (x i : Int) (w : World) (w0 : (Lit.int .u64 x).wf = true) (w1 : (Lit.int .i64 i).wf = true) (hT : Tab w) :
    Calls Tryd.prog 4 #[.int .u64 x, .int .i64 i] w fun e w' => e = .returned (.bool true) ∧ Below w.heap.size w w' := by
  have h0 := wf_u64 w0
  have h1 := wf_i64 w1
  obtain ⟨a, rfl⟩ := Int.eq_ofNat_of_zero_le h0.1
  exact (tells5 a i w (by omega) h1.1 h1.2 hT).mono fun e w' ⟨h, hx⟩ => ⟨h, hx.below⟩
end Go.Proofs.YthdokmhbdjajaabDoor
