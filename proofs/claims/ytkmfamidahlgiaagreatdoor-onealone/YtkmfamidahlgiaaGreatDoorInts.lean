/- Slices of numbers that are read; the reference's Same. (Out of Grp3.t and LawMakes5.t.) -/
import Derived.Test.YtkmfamidahlgiaaGreatDoorRows
import Derived.Test.YtkmfamidahlgiaaGreatDoorExt
import Derived.Test.YtkmfamidahlgiaaGreatDoorMem
import Derived.Test.YtkmfamidahlgiaaGreatDoorOpen
import Derived.Test.YtkmfamidahlgiaaGreatDoorOpen2
import Derived.WalkKit
import Derived.ProofKit
import Derived.OwnWalk
import Derived.Deep.AppendLies
namespace Go.Proofs.YtkmfamidahlgiaaGreatDoor
open Go.RowKit
set_option linter.unusedVariables false
set_option maxHeartbeats 1000000
attribute [local go_sem] later_cell later_frozen later_const
/-- a slice reads as these numbers -/
def IntsV (w : World) (v : Value) (xs : List Int) : Prop :=
  (∃ a cap, v = .slice a 0 cap ∧ xs = []) ∨ ∃ b off cap, v = .slice (some ⟨b, off, none⟩) xs.length cap ∧ ∀ j, j < xs.length → w.cell? ⟨b, off + j, none⟩ = some (.int .i64 (xs.getD j 0))
theorem IntsV.ext {w w' : World} {v : Value} {xs : List Int} (h : IntsV w v xs) (hx : Ext w w') : IntsV w' v xs := by
  rcases h with h | ⟨b, off, cap, hv, hc⟩
  · exact .inl h
  · exact .inr ⟨b, off, cap, hv, fun j hj => hx.cell (hc j hj)⟩
theorem intsV_row {w : World} {base e : Nat} {v : Value} {n : Nat} {xs : List Int} (h : w.ownsRow base e 1 v n (xs.map (Value.int .i64))) : IntsV w v xs := by
  rcases ints_of_row h with ⟨h1, h2⟩ | ⟨b, off, cap, h1, h2⟩
  · exact .inl ⟨none, 0, h1, h2⟩
  · exact .inr ⟨b, off, cap, h1, h2⟩
/-- a slice that came in reads as its numbers -/
theorem intsV_of_row {w : World} {a : Option Addr} {len cap : Nat} {zs : List Int} (h : IsRow .i64 w a len cap zs) : IntsV w (.slice a len cap) (zs.take len) ∧ (zs.take len).length = len ∧ ∀ i ∈ zs.take len, (Lit.int .i64 i).wf = true := by
  rcases h with ⟨rfl, rfl, rfl, rfl⟩ | ⟨x, rfl, hl, hm, hz, hc, hw⟩
  · exact ⟨.inl ⟨none, 0, rfl, rfl⟩, rfl, by simp⟩
  · have hlen : (zs.take len).length = len := by rw [List.length_take]; omega
    refine ⟨?_, hlen, fun i hi => hw i (List.mem_of_mem_take hi)⟩
    by_cases h0 : len = 0
    · subst h0
      exact .inl ⟨some x, cap, rfl, by simp⟩
    · right
      have h1 := hc 0 (by omega)
      have hx := spot_none h1
      simp [Addr.add] at hx
      refine ⟨x.block, x.off, cap, by rw [hlen, ← hx], fun j hj => ?_⟩
      rw [hlen] at hj
      have h2 := hc j (by omega)
      rw [hx] at h2
      have e : (zs.take len).getD j 0 = zs.getD j 0 := by simp [hj]
      rw [e]
      by_cases hj0 : j = 0
      · subst hj0; simpa [Addr.add] using h2
      · simpa [Addr.add, hj0] using h2
theorem same5 (a b : Value) (xs : List Int) (w : World) (h1 : IntsV w a xs) (h2 : IntsV w b xs) (hl : xs.length ≤ 1000000) : Calls Tryz.prog 14 #[a, b] w fun e w' => e = .returned (.bool true) ∧ Ext w w' := by
  by_cases h0 : xs.length = 0
  · have ea : ∃ p c, a = .slice p 0 c := by
      rcases h1 with ⟨p, c, h, _⟩ | ⟨b, off, c, h, _⟩
      · exact ⟨p, c, h⟩
      · rw [h0] at h; exact ⟨_, c, h⟩
    have eb : ∃ p c, b = .slice p 0 c := by
      rcases h2 with ⟨p, c, h, _⟩ | ⟨b, off, c, h, _⟩
      · exact ⟨p, c, h⟩
      · rw [h0] at h; exact ⟨_, c, h⟩
    obtain ⟨p1, c1, rfl⟩ := ea
    obtain ⟨p2, c2, rfl⟩ := eb
    clear h1 h2
    go_enter Tryz.func14, Tryz.ntmps14
    go_wp2
    refine wp_loop_rounds 1 ?_
    rw [rounds_succ]
    go_wp2
    go_ret
    exact ⟨rfl, Ext.refl _⟩
  · rcases h1 with ⟨p, c, h, hx⟩ | ⟨b1, o1, c1, rfl, hc1⟩
    · subst hx; exact absurd rfl h0
    rcases h2 with ⟨p, c, h, hx⟩ | ⟨b2, o2, c2, rfl, hc2⟩
    · subst hx; exact absurd rfl h0
    have H1 := Lib.hid hc1
    have H2 := Lib.hid hc2
    obtain ⟨n, hn⟩ : ∃ n, n = xs.length := ⟨_, rfl⟩
    rw [← hn]
    have HN := Lib.hid hn
    have hl2 : n ≤ 1000000 := by omega
    clear hn hl hc1 hc2 h0
    go_enter Tryz.func14, Tryz.ntmps14
    go_wp2
    go_loopw [5] (fun i wr => ∃ k : Nat, k ≤ n ∧ i = .int .i64 k ∧ Ext w wr) (fun i _ => n - (intOf i).toNat)
    case atStart => exact ⟨0, Nat.zero_le _, rfl, Ext.refl _⟩
    case round =>
      obtain ⟨k, hk, rfl, hx⟩ := hrel
      by_cases hlt : k < n
      · have hkx : k < xs.length := by have := HN.out; omega
        have d1 := hx.cell (H1.out k hkx)
        have d2 := hx.cell (H2.out k hkx)
        generalize xs.getD k 0 = z at *
        have hkn : (k : Int) < (n : Int) := by omega
        go_wp2
        refine wp_region_later (by kernel_rfl) (by kernel_rfl) ?_
        have l1 := fun (g : Later wr) => g.ok.cell d1
        have l2 := fun (g : Later wr) => g.ok.cell d2
        repeat (go_big_quiet_step ((fail)))
        refine wpQuiet_nil ?_
        intro w6 hl6
        have X6 := laters_ext hl6
        clear hl6 l1 l2
        go_wp2
        exact ⟨⟨k + 1, by omega, by go_num, hx.trans X6⟩, by simp [intOf]; omega⟩
      · go_wp2
        go_ret
        exact ⟨rfl, hx⟩
end Go.Proofs.YtkmfamidahlgiaaGreatDoor
