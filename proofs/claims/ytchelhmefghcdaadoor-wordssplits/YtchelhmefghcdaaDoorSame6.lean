/- The reference's Same of texts. -/
import Derived.Test.YtchelhmefghcdaaDoorBtw
namespace Go.Proofs.YtchelhmefghcdaaDoor
open Go.RowKit
set_option linter.unusedVariables false
set_option maxHeartbeats 1000000
attribute [local go_sem] later_cell later_frozen later_const
theorem same6_nil (a b : Option Addr) (ca cb : Nat) (w : World) : Calls Tryd.prog 11 #[.slice a 0 ca, .slice b 0 cb] w fun e w' => e = .returned (.bool true) ∧ Ext w w' := by
  go_enter Tryd.func11, Tryd.ntmps11
  go_wp2
  refine wp_loop_rounds 1 ?_
  rw [rounds_succ]
  go_wp2
  go_ret
  exact ⟨rfl, Ext.refl _⟩
set_option maxRecDepth 100000 in
theorem same6_yes (b1 o1 c1 b2 o2 c2 n : Nat) (ls : List (List UInt8)) (w : World) (hn : n = ls.length) (hl : n ≤ 1000000) (hc1 : ∀ i, i < ls.length → w.cell? ⟨b1, o1 + i, none⟩ = some (.string (tx (ls.getD i [])))) (hc2 : ∀ i, i < ls.length → w.cell? ⟨b2, o2 + i, none⟩ = some (.string (tx (ls.getD i [])))) :
    Calls Tryd.prog 11 #[.slice (some ⟨b1, o1, none⟩) n c1, .slice (some ⟨b2, o2, none⟩) n c2] w fun e w' => e = .returned (.bool true) ∧ Ext w w' := by
  have H1 := Lib.hid hc1
  have H2 := Lib.hid hc2
  have HN := Lib.hid hn
  clear hn hc1 hc2
  go_enter Tryd.func11, Tryd.ntmps11
  go_wp2
  go_loopw [5] (fun i wr => ∃ k : Nat, k ≤ n ∧ i = .int .i64 k ∧ Ext w wr) (fun i _ => n - (intOf i).toNat)
  case atStart => exact ⟨0, Nat.zero_le _, rfl, Ext.refl _⟩
  case round =>
    obtain ⟨k, hk, rfl, hx⟩ := hrel
    by_cases hlt : k < n
    · have hkx : k < ls.length := by have := HN.out; omega
      have d1 := hx.cell (H1.out k hkx)
      have d2 := hx.cell (H2.out k hkx)
      generalize tx (ls.getD k []) = z at *
      have hkn : (k : Int) < (n : Int) := by omega
      go_wp2
      refine wp_region_later (by kernel_rfl) (by kernel_rfl) ?_
      have l1 := fun (g : Later wr) => g.ok.cell d1
      have l2 := fun (g : Later wr) => g.ok.cell d2
      repeat (go_big_quiet_step ((fail)))
      refine wpQuiet_nil ?_
      intro w6 hl6
      have X6 := laters_ext hl6
      clear hl6 l1 l2
      go_wp2
      exact ⟨⟨k + 1, by omega, by go_num, hx.trans X6⟩, by simp [intOf]; omega⟩
    · go_wp2
      go_ret
      exact ⟨rfl, hx⟩
theorem same6 (a b : Option Addr) (n ca cb : Nat) (ls : List (List UInt8)) (w : World) (h1 : Texts w a n ls) (h2 : Texts w b n ls) (hl : n ≤ 1000000) : Calls Tryd.prog 11 #[.slice a n ca, .slice b n cb] w fun e w' => e = .returned (.bool true) ∧ Ext w w' := by
  obtain ⟨e1, h1⟩ := h1
  obtain ⟨_, h2⟩ := h2
  rcases h1 with rfl | ⟨b1, o1, rfl, hc1⟩
  · exact same6_nil a b ca cb w
  · rcases h2 with rfl | ⟨b2, o2, rfl, hc2⟩
    · exact same6_nil _ b ca cb w
    · exact same6_yes b1 o1 ca b2 o2 cb n ls w e1.symm hl hc1 hc2
end Go.Proofs.YtchelhmefghcdaaDoor
