import Derived.Test.YtkmfamidahlgiaaGreatDoorCf3
import Derived.Test.YtkmfamidahlgiaaGreatDoorGrCopy
import Derived.Test.YtkmfamidahlgiaaGreatDoorKG
import Derived.Laws.AppendOwnNone
import Derived.Test.YtkmfamidahlgiaaGreatDoorKF
import Derived.Test.YtkmfamidahlgiaaGreatDoorKH
import Derived.Test.YtkmfamidahlgiaaGreatDoorOpen2
/- The configuration of a case. -/
namespace Go.Proofs.YtkmfamidahlgiaaGreatDoor
open Go.RowKit
set_option linter.unusedVariables false
set_option linter.unusedSimpArgs false
set_option maxHeartbeats 4000000
attribute [local go_sem] later_cell later_frozen later_const
/-- a case's capacity -/
def capS (l : Nat) : Int := wrap64 (2 * 2 ^ (l % 4))
theorem capS_is (l : Nat) : capS l = 2 ∨ capS l = 4 ∨ capS l = 8 ∨ capS l = 16 := by
  unfold capS
  have h : l % 4 = 0 ∨ l % 4 = 1 ∨ l % 4 = 2 ∨ l % 4 = 3 := by omega
  rcases h with h | h | h | h <;> rw [h] <;> simp [wrap64]
/-- k lists without elements -/
def nils (k : Nat) : List Value := List.replicate k (.slice none 0 0)
theorem nils_succ (k : Nat) : nils k ++ [.slice none 0 0] = nils (k + 1) := by
  unfold nils
  rw [List.replicate_succ']
theorem nils_lists {w : World} {B k : Nat} {v : Value} (h : w.ownsRow B 35 1 v k (nils k)) : ∃ a cap, v = .slice a k cap ∧ ListsV w (.slice a k cap) (List.replicate k []) := by
  rcases h.2 with ⟨e1, e2⟩ | ⟨g, cap, cur, e1, e2, e3, e4⟩
  · subst e2
    exact ⟨none, 0, e1, none, 0, by simp, fun j hj => by simp at hj⟩
  · refine ⟨_, cap, e1, some ⟨g, 0, none⟩, cap, by simp, fun j hj => ?_⟩
    have hj' : j < k := by simpa using hj
    subst e1
    refine ⟨g, 0, .slice none 0 0, rfl, ?_, .inl ⟨none, 0, rfl, by simp [hj']⟩, Nat.le_refl _⟩
    rw [Nat.zero_add, h.cellAt j (by omega)]
    simp [nils, hj']
def cfz (a b c d e : Int) (u : Value) (j : Nat) : Value := ([.int .i64 a, .int .i64 b, .int .i64 c, .int .i64 d, .int .u64 e, u] : List Value).getD j undef
structure CFm (w : World) (pb rb cb : Nat) (r : Nat) (W C S : Int) (v : Value) : Prop where
  p : w.cell? ⟨pb, 3, none⟩ = some (.int .u8 r)
  R : VA 6 w rb (cfz 0 0 0 0 0 (.slice none 0 0))
  C : VA 6 w cb (cfz 1 W C 1 S v)
theorem CFm.but {Z : Nat → Prop} {w w' : World} {pb rb cb : Nat} {r : Nat} {W C S : Int} {v : Value} (h : CFm w pb rb cb r W C S v) (hb : But Z w w') (h1 : ¬ Z pb) (h2 : ¬ Z rb) (h3 : ¬ Z cb) : CFm w' pb rb cb r W C S v := ⟨hb.cell h.p h1, h.R.but hb h2, h.C.but hb h3⟩
theorem CFm.ext {w w' : World} {pb rb cb : Nat} {r : Nat} {W C S : Int} {v : Value} (h : CFm w pb rb cb r W C S v) (hx : Ext w w') : CFm w' pb rb cb r W C S v := h.but (hx.but (fun _ => False)) id id id
theorem CFm.set {w : World} {pb rb cb : Nat} {r : Nat} {W C S : Int} {v : Value} (h : CFm w pb rb cb r W C S v) (h1 : pb ≠ cb) (h2 : rb ≠ cb) (v' : Value) : CFm (w.setCell ⟨cb, 5, none⟩ v') pb rb cb r W C S v' := by
  have hN := but_setCell w ⟨cb, 5, none⟩ v'
  refine ⟨hN.cell h.p h1, h.R.but hN h2, (va_set h.C v' (show 5 < 6 by decide)).congr fun i hi => ?_⟩
  have h6 : i = 0 ∨ i = 1 ∨ i = 2 ∨ i = 3 ∨ i = 4 ∨ i = 5 := by omega
  rcases h6 with rfl | rfl | rfl | rfl | rfl | rfl <;> rfl
theorem rt_nils {k : Nat} (h1 : 1 ≤ k) (h6 : k ≤ 6) : Rt (List.replicate k []) := by
  have hg : ∀ c, (List.replicate k ([] : List Int)).getD c [] = [] := fun c => by
    by_cases hc : c < k
    · simp [hc]
    · simp [List.getElem?_eq_none, hc]
  have nr : ∀ c a, ¬ R (List.replicate k []) c a := fun c a h => by
    unfold R at h
    rw [hg] at h
    cases h
  refine ⟨by simpa using h1, by simpa using h6, fun l hl => ?_, fun c h => ?_⟩
  · have := List.eq_of_mem_replicate hl
    subst this
    exact ⟨fun x hx => (by cases hx), List.nodup_nil⟩
  · obtain ⟨d, h1, -⟩ := Ab.head h
    exact nr _ _ h1
theorem right_capS (l : Nat) : rightB (capS l) = true := by
  rcases capS_is l with e | e | e | e <;> rw [e] <;> decide
theorem case_ok {V W P : Int} (l k : Nat) (hV : 1 ≤ V ∧ V ≤ 5) (hW : W = 32 ∨ W = 64) (hP : 1 ≤ P ∧ P ≤ mostOf V) (h1 : 1 ≤ k) (h6 : k ≤ 6) : ckC V W (capS l) P (List.replicate k []) = 0 := by
  have hm : mostOf V ≤ 4 := by unfold mostOf; split <;> omega
  have hc := capS_is l
  exact ok_iff.2 ⟨hV.1, hV.2, hW, right_capS l, by omega, by omega, hP.1, by omega, hP.2, rt_nils h1 h6⟩
def ConfDoes (W C S : Int) (k : Nat) (w : World) (e : Ending) (w' : World) : Prop := ∃ a cap, e = .returned (.agg #[.int .i64 1, .int .i64 W, .int .i64 C, .int .i64 1, .int .u64 (S), .slice a k cap]) ∧ ListsV w' (.slice a k cap) (List.replicate k []) ∧ Ext w w'
theorem name_body {P : Program} {f : Func} {Q : Ending → World → Prop} {a : Act} {W : World} (h : ∀ w', W = w' → bodyPost P f Q .ret a w') : bodyPost P f Q .ret a W := h W rfl
set_option maxRecDepth 100000 in
theorem conf19_32 (l p r : Nat) (S : Int) (w : World) (hl : l < 256) (hr : r < 256) : Calls Tryz.prog 30 #[.agg #[.bool false, .int .u8 l, .int .u8 p, .int .u8 r, .int .u64 S]] w (ConfDoes 32 (capS l) S (r % 3 + 1) w) := by
  have h0 : (0 : Int) ≤ (l : Int) := by omega
  have h1 : (l : Int) < 256 := by omega
  have r0 : (0 : Int) ≤ (r : Int) := by omega
  have r1 : (r : Int) < 256 := by omega
  have m0 : (0 : Int) ≤ (r : Int) % 3 := by omega
  have m1 : (r : Int) % 3 < 3 := by omega
  obtain ⟨i0, hi, hz0, hz1, hz2⟩ := info_parts info_ints9
  have HI := Lib.hid (And.intro hi (And.intro hz0 (And.intro hz1 hz2)))
  have HG : Hid (∀ (a : Option Addr) (cap : Nat) w', ListsV w' (.slice a ((r % 3 + 1 : Nat)) cap) (List.replicate (r % 3 + 1) []) → Ext w w' → ConfDoes 32 (capS l) S (r % 3 + 1) w (.returned (.agg #[.int .i64 1, .int .i64 32, .int .i64 (capS l), .int .i64 1, .int .u64 (S), .slice a ((r % 3 + 1 : Nat)) cap])) w') := Lib.hid (fun a cap w' h1 h2 => ⟨a, cap, rfl, h1, h2⟩)
  generalize ConfDoes 32 (capS l) S (r % 3 + 1) w = G at *
  clear hi hz0 hz1 hz2
  go_enter Tryz.func30, Tryz.ntmps30
  go_upto_region 2 with (fail)
  rw [show wrap64 (2 * 2 ^ (l % 4)) = capS l from rfl]
  generalize capS l = C at *
  clear h0 h1 hl
  go_upto_region 4 with (fail)
  refine settle_wp ?_
  intro w1 hb1
  have XE : Ext w w1 := Ext.trans (by repeat (first | with_reducible exact Ext.refl _ | with_reducible assumption | with_reducible refine Ext.alloc ?_ _ | with_reducible refine Ext.drew ?_ | with_reducible refine Ext.drewN ?_ _ | with_reducible refine Ext.setCell ?_ (by simp <;> omega) _ | with_reducible refine Ext.trans ?_ (by assumption))) hb1
  have hs1 : w.heap.size + 3 ≤ w1.heap.size := by have := hb1.size; simp at this; omega
  have HC : Hid (CFm w1 w.heap.size (w.heap.size + 1) (w.heap.size + 2) r 32 C S (.slice none 0 0)) := Lib.hid ⟨hb1.cell (by simp [go_sem]), ⟨fun i hi => by
      have h6 : i = 0 ∨ i = 1 ∨ i = 2 ∨ i = 3 ∨ i = 4 ∨ i = 5 := by omega
      rcases h6 with rfl | rfl | rfl | rfl | rfl | rfl <;> exact hb1.cell (by simp [go_sem]; rfl), fun i hi => by
      have h6 : i = 0 ∨ i = 1 ∨ i = 2 ∨ i = 3 ∨ i = 4 ∨ i = 5 := by omega
      rcases h6 with rfl | rfl | rfl | rfl | rfl | rfl <;> exact hb1.frozen (by simp [go_sem]; rfl) (by simp [go_sem])⟩, ⟨fun i hi => by
      have h6 : i = 0 ∨ i = 1 ∨ i = 2 ∨ i = 3 ∨ i = 4 ∨ i = 5 := by omega
      rcases h6 with rfl | rfl | rfl | rfl | rfl | rfl <;> exact hb1.cell (by simp [go_sem]; rfl), fun i hi => by
      have h6 : i = 0 ∨ i = 1 ∨ i = 2 ∨ i = 3 ∨ i = 4 ∨ i = 5 := by omega
      rcases h6 with rfl | rfl | rfl | rfl | rfl | rfl <;> exact hb1.frozen (by simp [go_sem]; rfl) (by simp [go_sem])⟩⟩
  obtain ⟨pb, hpb⟩ : ∃ pb, pb = w.heap.size := ⟨_, rfl⟩
  obtain ⟨rb, hrb⟩ : ∃ rb, rb = w.heap.size + 1 := ⟨_, rfl⟩
  obtain ⟨cb, hcb⟩ : ∃ cb, cb = rb + 1 := ⟨_, rfl⟩
  rw [show w.heap.size + 2 = cb by omega, ← hrb, ← hpb] at HC
  rw [← hrb, ← hcb, ← hpb]
  have HP : Hid (w.heap.size = pb ∧ pb < w1.heap.size ∧ rb < w1.heap.size ∧ cb < w1.heap.size ∧ pb ≠ cb ∧ rb ≠ cb ∧ w.heap.size ≤ cb ∧ w.heap.size ≤ rb) := Lib.hid (by omega)
  have HX := Lib.hid XE
  clear hb1 XE hpb hrb hcb hs1
  go_wp2
  go_loopw [4] (fun i wr => ∃ k : Nat, k ≤ r % 3 + 1 ∧ i = .int .i64 k ∧ ∃ v, wr.ownsRow w1.heap.size 35 1 v k (nils k) ∧ CFm wr pb rb cb r 32 C S v ∧ Ext w wr ∧ w1.heap.size ≤ wr.heap.size) (fun i _ => r % 3 + 1 - (intOf i).toNat)
  case atStart => exact ⟨0, Nat.zero_le _, rfl, _, World.ownsRow_nil _ _ _ _, HC.out, HX.out, Nat.le_refl _⟩
  case round =>
    obtain ⟨k, hk, rfl, v, hrow, hC, hx, hsz⟩ := hrel
    have HROW := Lib.hid hrow
    have HCC := Lib.hid hC
    have HXX := Lib.hid hx
    have pp := hC.p
    have c0 : wr.cell? ⟨cb, 0, none⟩ = some (.int .i64 1) := hC.C.c 0 (by decide)
    have c1 : wr.cell? ⟨cb, 1, none⟩ = some (.int .i64 32) := hC.C.c 1 (by decide)
    have c2 : wr.cell? ⟨cb, 2, none⟩ = some (.int .i64 C) := hC.C.c 2 (by decide)
    have c3 : wr.cell? ⟨cb, 3, none⟩ = some (.int .i64 1) := hC.C.c 3 (by decide)
    have c4 : wr.cell? ⟨cb, 4, none⟩ = some (.int .u64 S) := hC.C.c 4 (by decide)
    have c5 : wr.cell? ⟨cb, 5, none⟩ = some v := hC.C.c 5 (by decide)
    have z5 := hC.C.z 5 (by decide)
    have HSZ := Lib.hid hsz
    clear HC HX hrow hC hx hsz
    by_cases hlt : k < r % 3 + 1
    case neg =>
      obtain ⟨va, vcap, ev, hLV⟩ := nils_lists HROW.out
      have HLV := Lib.hid hLV
      subst ev
      clear hLV
      have hke : k = r % 3 + 1 := by omega
      have HKE := Lib.hid hke
      have n1 : ¬ (k : Int) ≤ (r : Int) % 3 := by omega
      have n2 : ¬ k ≤ r % 3 := by omega
      have n3 : (r : Int) % 3 < (k : Int) := by omega
      have n4 : r % 3 < k := by omega
      have n5 : decide ((k : Int) ≤ (r : Int) % 3) = false := by simp; omega
      clear hke hlt hk
      have a0 : wr.cell? ⟨rb, 0, none⟩ = some (.int .i64 0) := HCC.out.R.c 0 (by decide)
      have a1 : wr.cell? ⟨rb, 1, none⟩ = some (.int .i64 0) := HCC.out.R.c 1 (by decide)
      have a2 : wr.cell? ⟨rb, 2, none⟩ = some (.int .i64 0) := HCC.out.R.c 2 (by decide)
      have a3 : wr.cell? ⟨rb, 3, none⟩ = some (.int .i64 0) := HCC.out.R.c 3 (by decide)
      have a4 : wr.cell? ⟨rb, 4, none⟩ = some (.int .u64 0) := HCC.out.R.c 4 (by decide)
      have a5 : wr.cell? ⟨rb, 5, none⟩ = some (.slice none 0 0) := HCC.out.R.c 5 (by decide)
      have y0 := HCC.out.R.z 0 (by decide)
      have y1 := HCC.out.R.z 1 (by decide)
      have y2 := HCC.out.R.z 2 (by decide)
      have y3 := HCC.out.R.z 3 (by decide)
      have y4 := HCC.out.R.z 4 (by decide)
      have y5 := HCC.out.R.z 5 (by decide)
      have HE : Hid (∀ w', ListsV w' (.slice va k vcap) (List.replicate k []) → Ext w w' → G (.returned (.agg #[.int .i64 1, .int .i64 32, .int .i64 C, .int .i64 1, .int .u64 (S), .slice va k vcap])) w') := Lib.hid (by rw [HKE.out]; exact HG.out va vcap)
      have HFL : Hid (∀ w', But (· = rb) wr w' → ListsV w' (.slice va k vcap) (List.replicate k []) ∧ Ext w w') := Lib.hid (fun w' hN => ⟨by
        obtain ⟨a7, c7, e7, h7⟩ := nils_lists (hN.row HROW.out (fun q hq e => by have := (World.ownsRow.lt HROW.out q hq).1; have e' : q = rb := e; have := HP.out; omega))
        cases e7
        exact h7, But.ext HXX.out hN (fun q hq => by have e' : q = rb := hq; have := HP.out; omega)⟩)
      have HCC2 := Lib.hid HCC.out.R
      clear HCC HROW HLV HXX HG HI
      have hVR := HCC2.out
      go_upto_region 8 with (fail)
      clear n1 n2 n3 n4 n5 m0 m1 r0 r1 hr pp z5
      go_wp2_with (with_reducible refine wpList_store_mid rfl _ (.tmp 2) (.tmp 28) rfl rb 0 #[.int .i64 1, .int .i64 32, .int .i64 C, .int .i64 1, .int .u64 S, .slice va k vcap] rfl rfl ?hj1 ?hj2 ?hj3 ?_)
      case hj1 => exact there_of (m := 6) hVR (by omega)
      case hj2 => first | kernel_rfl | simpa using (show (Tryz.prog.info? 25).map (·.size) = some 6 by kernel_rfl)
      case hj3 => first | kernel_rfl | (simp; done) | (simp; repeat (first | rfl | refine ⟨rfl, ?_⟩))
      refine name_body ?_
      intro w7 e7
      have e7' : wr.setCells rb 0 [.int .i64 1, .int .i64 32, .int .i64 C, .int .i64 1, .int .u64 S, .slice va k vcap] = w7 := e7
      have hV7 := va_setCells hVR (cfz 1 32 C 1 S (.slice va k vcap)) [.int .i64 1, .int .i64 32, .int .i64 C, .int .i64 1, .int .u64 S, .slice va k vcap] rfl
      have hN7 := but_setCells rb [.int .i64 1, .int .i64 32, .int .i64 C, .int .i64 1, .int .u64 S, .slice va k vcap] 0 wr
      rw [e7'] at hV7 hN7
      have b0 : w7.cell? ⟨rb, 0, none⟩ = some (.int .i64 1) := hV7.c 0 (by decide)
      have b1 : w7.cell? ⟨rb, 1, none⟩ = some (.int .i64 32) := hV7.c 1 (by decide)
      have b2 : w7.cell? ⟨rb, 2, none⟩ = some (.int .i64 C) := hV7.c 2 (by decide)
      have b3 : w7.cell? ⟨rb, 3, none⟩ = some (.int .i64 1) := hV7.c 3 (by decide)
      have b4 : w7.cell? ⟨rb, 4, none⟩ = some (.int .u64 S) := hV7.c 4 (by decide)
      have b5 : w7.cell? ⟨rb, 5, none⟩ = some (.slice va k vcap) := hV7.c 5 (by decide)
      have HFF := Lib.hid (HFL.out _ hN7)
      clear e7 e7' hV7 hN7 hVR HFL HCC2 a0 a1 a2 a3 a4 a5 y0 y1 y2 y3 y4 y5 c0 c1 c2 c3 c4 c5
      go_wp2
      refine bodyPost_ret (v := (.agg #[.int .i64 1, .int .i64 32, .int .i64 C, .int .i64 1, .int .u64 (S), .slice va k vcap])) (by simp [results, Tryz.results30, go_sem, b0, b1, b2, b3, b4, b5]) rfl ?_
      exact HE.out _ HFF.out.1 HFF.out.2
    have hle : (k : Int) ≤ (r : Int) % 3 := by omega
    have hle2 : k ≤ r % 3 := by omega
    have hle3 : decide ((k : Int) ≤ (r : Int) % 3) = true := by simp; omega
    have hk3 : k ≤ 2 := by omega
    have HK := Lib.hid hlt
    clear hlt hk c0 c1 c2 c3 c4
    have hl2 : k + 1 ≤ maxLen := by unfold maxLen; omega
    have hl3 : (k + 1) * 24 ≤ 140737488355328 := by omega
    have hs3 : w1.heap.size ≤ (wr.alloc (.cells #[.slice none 0 0] 35)).heap.size := Nat.le_trans HSZ.out ((Ext.refl wr).alloc _).size
    go_wp2_with (at_builtin; refine wpList_append_own _ rfl _ _ 23 rfl w1.heap.size 35 i0 (.slice none 0 0) 1 24 Tryz.underlying23 HI.out.1 HI.out.2.1 HI.out.2.2.1 HI.out.2.2.2 rfl (by decide) v k (nils k) rfl (Ext.row ((Ext.refl wr).alloc _) HROW.out) ⟨wr.heap.size, 0, none⟩ 1 1 [.slice none 0 0] rfl rfl (cell_one_new _ _ _) (by intro u hu; simp at hu; subst hu; rfl) hl2 hl3 hs3 ?_)
    intro v4 w4 R4 G4 _
    rw [nils_succ] at R4
    have hg1 : ∀ q, v.ownBlock = some q → w1.heap.size ≤ q := fun q hq => (World.ownsRow.lt HROW.out q hq).1
    have hN4 := but_grown G4
    have HC4 : Hid (CFm w4 pb rb cb r 32 C S v) := Lib.hid ((HCC.out.ext ((Ext.refl wr).alloc _)).but hN4 (fun e => by have := hg1 _ e; have := HP.out; omega) (fun e => by have := hg1 _ e; have := HP.out; omega) (fun e => by have := hg1 _ e; have := HP.out; omega))
    have HX4 : Hid (Ext w w4) := Lib.hid ((HXX.out.alloc _).grown G4 (fun q hq => by have := hg1 q hq; have := HP.out; omega))
    have hs4 : w1.heap.size ≤ w4.heap.size := Nat.le_trans hs3 hN4.size
    have k5 : w4.cell? ⟨cb, 5, none⟩ = some v := HC4.out.C.c 5 (by decide)
    have y5 := HC4.out.C.z 5 (by decide)
    have HR4 := Lib.hid R4
    have HS := Lib.hid (HC4.out.set HP.out.2.2.2.2.1 HP.out.2.2.2.2.2.1 v4)
    have HRS : Hid ((w4.setCell ⟨cb, 5, none⟩ v4).ownsRow w1.heap.size 35 1 v4 (k + 1) (nils (k + 1))) := Lib.hid ((but_setCell w4 ⟨cb, 5, none⟩ v4).row R4 (fun q hq e => by have := (World.ownsRow.lt R4 q hq).1; have e' : q = cb := e; have := HP.out; omega))
    have HXS := Lib.hid (HX4.out.setCell (p := ⟨cb, 5, none⟩) HP.out.2.2.2.2.2.2.1 v4)
    have hss : w1.heap.size ≤ (w4.setCell ⟨cb, 5, none⟩ v4).heap.size := Nat.le_trans hs4 (but_setCell w4 ⟨cb, 5, none⟩ v4).size
    obtain ⟨a4, cap4, e4, -⟩ := nils_lists R4
    subst e4
    clear R4 G4 hN4 hg1 HC4 HX4 hs4 HR4 HROW HCC HXX z5 pp c5
    go_wp2
    exact ⟨⟨k + 1, by have := HK.out; omega, by go_num, _, HRS.out, HS.out, HXS.out, hss⟩, by have := HK.out; simp [intOf]; omega⟩
set_option maxRecDepth 100000 in
theorem conf19_64 (l p r : Nat) (S : Int) (w : World) (hl : l < 256) (hr : r < 256) : Calls Tryz.prog 30 #[.agg #[.bool true, .int .u8 l, .int .u8 p, .int .u8 r, .int .u64 S]] w (ConfDoes 64 (capS l) S (r % 3 + 1) w) := by
  have h0 : (0 : Int) ≤ (l : Int) := by omega
  have h1 : (l : Int) < 256 := by omega
  have r0 : (0 : Int) ≤ (r : Int) := by omega
  have r1 : (r : Int) < 256 := by omega
  have m0 : (0 : Int) ≤ (r : Int) % 3 := by omega
  have m1 : (r : Int) % 3 < 3 := by omega
  obtain ⟨i0, hi, hz0, hz1, hz2⟩ := info_parts info_ints9
  have HI := Lib.hid (And.intro hi (And.intro hz0 (And.intro hz1 hz2)))
  have HG : Hid (∀ (a : Option Addr) (cap : Nat) w', ListsV w' (.slice a ((r % 3 + 1 : Nat)) cap) (List.replicate (r % 3 + 1) []) → Ext w w' → ConfDoes 64 (capS l) S (r % 3 + 1) w (.returned (.agg #[.int .i64 1, .int .i64 64, .int .i64 (capS l), .int .i64 1, .int .u64 (S), .slice a ((r % 3 + 1 : Nat)) cap])) w') := Lib.hid (fun a cap w' h1 h2 => ⟨a, cap, rfl, h1, h2⟩)
  generalize ConfDoes 64 (capS l) S (r % 3 + 1) w = G at *
  clear hi hz0 hz1 hz2
  go_enter Tryz.func30, Tryz.ntmps30
  go_upto_region 2 with (fail)
  rw [show wrap64 (2 * 2 ^ (l % 4)) = capS l from rfl]
  generalize capS l = C at *
  clear h0 h1 hl
  go_upto_region 4 with (fail)
  refine settle_wp ?_
  intro w1 hb1
  have XE : Ext w w1 := Ext.trans (by repeat (first | with_reducible exact Ext.refl _ | with_reducible assumption | with_reducible refine Ext.alloc ?_ _ | with_reducible refine Ext.drew ?_ | with_reducible refine Ext.drewN ?_ _ | with_reducible refine Ext.setCell ?_ (by simp <;> omega) _ | with_reducible refine Ext.trans ?_ (by assumption))) hb1
  have hs1 : w.heap.size + 3 ≤ w1.heap.size := by have := hb1.size; simp at this; omega
  have HC : Hid (CFm w1 w.heap.size (w.heap.size + 1) (w.heap.size + 2) r 64 C S (.slice none 0 0)) := Lib.hid ⟨hb1.cell (by simp [go_sem]), ⟨fun i hi => by
      have h6 : i = 0 ∨ i = 1 ∨ i = 2 ∨ i = 3 ∨ i = 4 ∨ i = 5 := by omega
      rcases h6 with rfl | rfl | rfl | rfl | rfl | rfl <;> exact hb1.cell (by simp [go_sem]; rfl), fun i hi => by
      have h6 : i = 0 ∨ i = 1 ∨ i = 2 ∨ i = 3 ∨ i = 4 ∨ i = 5 := by omega
      rcases h6 with rfl | rfl | rfl | rfl | rfl | rfl <;> exact hb1.frozen (by simp [go_sem]; rfl) (by simp [go_sem])⟩, ⟨fun i hi => by
      have h6 : i = 0 ∨ i = 1 ∨ i = 2 ∨ i = 3 ∨ i = 4 ∨ i = 5 := by omega
      rcases h6 with rfl | rfl | rfl | rfl | rfl | rfl <;> exact hb1.cell (by simp [go_sem]; rfl), fun i hi => by
      have h6 : i = 0 ∨ i = 1 ∨ i = 2 ∨ i = 3 ∨ i = 4 ∨ i = 5 := by omega
      rcases h6 with rfl | rfl | rfl | rfl | rfl | rfl <;> exact hb1.frozen (by simp [go_sem]; rfl) (by simp [go_sem])⟩⟩
  obtain ⟨pb, hpb⟩ : ∃ pb, pb = w.heap.size := ⟨_, rfl⟩
  obtain ⟨rb, hrb⟩ : ∃ rb, rb = w.heap.size + 1 := ⟨_, rfl⟩
  obtain ⟨cb, hcb⟩ : ∃ cb, cb = rb + 1 := ⟨_, rfl⟩
  rw [show w.heap.size + 2 = cb by omega, ← hrb, ← hpb] at HC
  rw [← hrb, ← hcb, ← hpb]
  have HP : Hid (w.heap.size = pb ∧ pb < w1.heap.size ∧ rb < w1.heap.size ∧ cb < w1.heap.size ∧ pb ≠ cb ∧ rb ≠ cb ∧ w.heap.size ≤ cb ∧ w.heap.size ≤ rb) := Lib.hid (by omega)
  have HX := Lib.hid XE
  clear hb1 XE hpb hrb hcb hs1
  go_wp2
  go_loopw [4] (fun i wr => ∃ k : Nat, k ≤ r % 3 + 1 ∧ i = .int .i64 k ∧ ∃ v, wr.ownsRow w1.heap.size 35 1 v k (nils k) ∧ CFm wr pb rb cb r 64 C S v ∧ Ext w wr ∧ w1.heap.size ≤ wr.heap.size) (fun i _ => r % 3 + 1 - (intOf i).toNat)
  case atStart => exact ⟨0, Nat.zero_le _, rfl, _, World.ownsRow_nil _ _ _ _, HC.out, HX.out, Nat.le_refl _⟩
  case round =>
    obtain ⟨k, hk, rfl, v, hrow, hC, hx, hsz⟩ := hrel
    have HROW := Lib.hid hrow
    have HCC := Lib.hid hC
    have HXX := Lib.hid hx
    have pp := hC.p
    have c0 : wr.cell? ⟨cb, 0, none⟩ = some (.int .i64 1) := hC.C.c 0 (by decide)
    have c1 : wr.cell? ⟨cb, 1, none⟩ = some (.int .i64 64) := hC.C.c 1 (by decide)
    have c2 : wr.cell? ⟨cb, 2, none⟩ = some (.int .i64 C) := hC.C.c 2 (by decide)
    have c3 : wr.cell? ⟨cb, 3, none⟩ = some (.int .i64 1) := hC.C.c 3 (by decide)
    have c4 : wr.cell? ⟨cb, 4, none⟩ = some (.int .u64 S) := hC.C.c 4 (by decide)
    have c5 : wr.cell? ⟨cb, 5, none⟩ = some v := hC.C.c 5 (by decide)
    have z5 := hC.C.z 5 (by decide)
    have HSZ := Lib.hid hsz
    clear HC HX hrow hC hx hsz
    by_cases hlt : k < r % 3 + 1
    case neg =>
      obtain ⟨va, vcap, ev, hLV⟩ := nils_lists HROW.out
      have HLV := Lib.hid hLV
      subst ev
      clear hLV
      have hke : k = r % 3 + 1 := by omega
      have HKE := Lib.hid hke
      have n1 : ¬ (k : Int) ≤ (r : Int) % 3 := by omega
      have n2 : ¬ k ≤ r % 3 := by omega
      have n3 : (r : Int) % 3 < (k : Int) := by omega
      have n4 : r % 3 < k := by omega
      have n5 : decide ((k : Int) ≤ (r : Int) % 3) = false := by simp; omega
      clear hke hlt hk
      have a0 : wr.cell? ⟨rb, 0, none⟩ = some (.int .i64 0) := HCC.out.R.c 0 (by decide)
      have a1 : wr.cell? ⟨rb, 1, none⟩ = some (.int .i64 0) := HCC.out.R.c 1 (by decide)
      have a2 : wr.cell? ⟨rb, 2, none⟩ = some (.int .i64 0) := HCC.out.R.c 2 (by decide)
      have a3 : wr.cell? ⟨rb, 3, none⟩ = some (.int .i64 0) := HCC.out.R.c 3 (by decide)
      have a4 : wr.cell? ⟨rb, 4, none⟩ = some (.int .u64 0) := HCC.out.R.c 4 (by decide)
      have a5 : wr.cell? ⟨rb, 5, none⟩ = some (.slice none 0 0) := HCC.out.R.c 5 (by decide)
      have y0 := HCC.out.R.z 0 (by decide)
      have y1 := HCC.out.R.z 1 (by decide)
      have y2 := HCC.out.R.z 2 (by decide)
      have y3 := HCC.out.R.z 3 (by decide)
      have y4 := HCC.out.R.z 4 (by decide)
      have y5 := HCC.out.R.z 5 (by decide)
      have HE : Hid (∀ w', ListsV w' (.slice va k vcap) (List.replicate k []) → Ext w w' → G (.returned (.agg #[.int .i64 1, .int .i64 64, .int .i64 C, .int .i64 1, .int .u64 (S), .slice va k vcap])) w') := Lib.hid (by rw [HKE.out]; exact HG.out va vcap)
      have HFL : Hid (∀ w', But (· = rb) wr w' → ListsV w' (.slice va k vcap) (List.replicate k []) ∧ Ext w w') := Lib.hid (fun w' hN => ⟨by
        obtain ⟨a7, c7, e7, h7⟩ := nils_lists (hN.row HROW.out (fun q hq e => by have := (World.ownsRow.lt HROW.out q hq).1; have e' : q = rb := e; have := HP.out; omega))
        cases e7
        exact h7, But.ext HXX.out hN (fun q hq => by have e' : q = rb := hq; have := HP.out; omega)⟩)
      have HCC2 := Lib.hid HCC.out.R
      clear HCC HROW HLV HXX HG HI
      have hVR := HCC2.out
      go_upto_region 8 with (fail)
      clear n1 n2 n3 n4 n5 m0 m1 r0 r1 hr pp z5
      go_wp2_with (with_reducible refine wpList_store_mid rfl _ (.tmp 2) (.tmp 28) rfl rb 0 #[.int .i64 1, .int .i64 64, .int .i64 C, .int .i64 1, .int .u64 S, .slice va k vcap] rfl rfl ?hj1 ?hj2 ?hj3 ?_)
      case hj1 => exact there_of (m := 6) hVR (by omega)
      case hj2 => first | kernel_rfl | simpa using (show (Tryz.prog.info? 25).map (·.size) = some 6 by kernel_rfl)
      case hj3 => first | kernel_rfl | (simp; done) | (simp; repeat (first | rfl | refine ⟨rfl, ?_⟩))
      refine name_body ?_
      intro w7 e7
      have e7' : wr.setCells rb 0 [.int .i64 1, .int .i64 64, .int .i64 C, .int .i64 1, .int .u64 S, .slice va k vcap] = w7 := e7
      have hV7 := va_setCells hVR (cfz 1 64 C 1 S (.slice va k vcap)) [.int .i64 1, .int .i64 64, .int .i64 C, .int .i64 1, .int .u64 S, .slice va k vcap] rfl
      have hN7 := but_setCells rb [.int .i64 1, .int .i64 64, .int .i64 C, .int .i64 1, .int .u64 S, .slice va k vcap] 0 wr
      rw [e7'] at hV7 hN7
      have b0 : w7.cell? ⟨rb, 0, none⟩ = some (.int .i64 1) := hV7.c 0 (by decide)
      have b1 : w7.cell? ⟨rb, 1, none⟩ = some (.int .i64 64) := hV7.c 1 (by decide)
      have b2 : w7.cell? ⟨rb, 2, none⟩ = some (.int .i64 C) := hV7.c 2 (by decide)
      have b3 : w7.cell? ⟨rb, 3, none⟩ = some (.int .i64 1) := hV7.c 3 (by decide)
      have b4 : w7.cell? ⟨rb, 4, none⟩ = some (.int .u64 S) := hV7.c 4 (by decide)
      have b5 : w7.cell? ⟨rb, 5, none⟩ = some (.slice va k vcap) := hV7.c 5 (by decide)
      have HFF := Lib.hid (HFL.out _ hN7)
      clear e7 e7' hV7 hN7 hVR HFL HCC2 a0 a1 a2 a3 a4 a5 y0 y1 y2 y3 y4 y5 c0 c1 c2 c3 c4 c5
      go_wp2
      refine bodyPost_ret (v := (.agg #[.int .i64 1, .int .i64 64, .int .i64 C, .int .i64 1, .int .u64 (S), .slice va k vcap])) (by simp [results, Tryz.results30, go_sem, b0, b1, b2, b3, b4, b5]) rfl ?_
      exact HE.out _ HFF.out.1 HFF.out.2
    have hle : (k : Int) ≤ (r : Int) % 3 := by omega
    have hle2 : k ≤ r % 3 := by omega
    have hle3 : decide ((k : Int) ≤ (r : Int) % 3) = true := by simp; omega
    have hk3 : k ≤ 2 := by omega
    have HK := Lib.hid hlt
    clear hlt hk c0 c1 c2 c3 c4
    have hl2 : k + 1 ≤ maxLen := by unfold maxLen; omega
    have hl3 : (k + 1) * 24 ≤ 140737488355328 := by omega
    have hs3 : w1.heap.size ≤ (wr.alloc (.cells #[.slice none 0 0] 35)).heap.size := Nat.le_trans HSZ.out ((Ext.refl wr).alloc _).size
    go_wp2_with (at_builtin; refine wpList_append_own _ rfl _ _ 23 rfl w1.heap.size 35 i0 (.slice none 0 0) 1 24 Tryz.underlying23 HI.out.1 HI.out.2.1 HI.out.2.2.1 HI.out.2.2.2 rfl (by decide) v k (nils k) rfl (Ext.row ((Ext.refl wr).alloc _) HROW.out) ⟨wr.heap.size, 0, none⟩ 1 1 [.slice none 0 0] rfl rfl (cell_one_new _ _ _) (by intro u hu; simp at hu; subst hu; rfl) hl2 hl3 hs3 ?_)
    intro v4 w4 R4 G4 _
    rw [nils_succ] at R4
    have hg1 : ∀ q, v.ownBlock = some q → w1.heap.size ≤ q := fun q hq => (World.ownsRow.lt HROW.out q hq).1
    have hN4 := but_grown G4
    have HC4 : Hid (CFm w4 pb rb cb r 64 C S v) := Lib.hid ((HCC.out.ext ((Ext.refl wr).alloc _)).but hN4 (fun e => by have := hg1 _ e; have := HP.out; omega) (fun e => by have := hg1 _ e; have := HP.out; omega) (fun e => by have := hg1 _ e; have := HP.out; omega))
    have HX4 : Hid (Ext w w4) := Lib.hid ((HXX.out.alloc _).grown G4 (fun q hq => by have := hg1 q hq; have := HP.out; omega))
    have hs4 : w1.heap.size ≤ w4.heap.size := Nat.le_trans hs3 hN4.size
    have k5 : w4.cell? ⟨cb, 5, none⟩ = some v := HC4.out.C.c 5 (by decide)
    have y5 := HC4.out.C.z 5 (by decide)
    have HR4 := Lib.hid R4
    have HS := Lib.hid (HC4.out.set HP.out.2.2.2.2.1 HP.out.2.2.2.2.2.1 v4)
    have HRS : Hid ((w4.setCell ⟨cb, 5, none⟩ v4).ownsRow w1.heap.size 35 1 v4 (k + 1) (nils (k + 1))) := Lib.hid ((but_setCell w4 ⟨cb, 5, none⟩ v4).row R4 (fun q hq e => by have := (World.ownsRow.lt R4 q hq).1; have e' : q = cb := e; have := HP.out; omega))
    have HXS := Lib.hid (HX4.out.setCell (p := ⟨cb, 5, none⟩) HP.out.2.2.2.2.2.2.1 v4)
    have hss : w1.heap.size ≤ (w4.setCell ⟨cb, 5, none⟩ v4).heap.size := Nat.le_trans hs4 (but_setCell w4 ⟨cb, 5, none⟩ v4).size
    obtain ⟨a4, cap4, e4, -⟩ := nils_lists R4
    subst e4
    clear R4 G4 hN4 hg1 HC4 HX4 hs4 HR4 HROW HCC HXX z5 pp c5
    go_wp2
    exact ⟨⟨k + 1, by have := HK.out; omega, by go_num, _, HRS.out, HS.out, HXS.out, hss⟩, by have := HK.out; simp [intOf]; omega⟩
end Go.Proofs.YtkmfamidahlgiaaGreatDoor
/- A claim of two positions, published, is found. -/
namespace Go.Proofs.YtkmfamidahlgiaaGreatDoor
open Go.RowKit
set_option linter.unusedVariables false
set_option linter.unusedSimpArgs false
set_option maxHeartbeats 4000000
attribute [local go_sem] later_cell later_frozen later_const
/-- new registers beside a sequencer -/
theorem fb_new32 {W0 w w' : World} {b g sb lb : Nat} {y : LY} {f : Nat → Int} {lv : Value} {log : List Acc} {ups : List (List Int)} {su ev : Value} {xs : List Int} {N L : Int} {vL : Value} {EL : List Ev} (h : ST32 W0 w b g sb lb y f lv log ups su ev xs N L vL EL) (x : Fm) (hb : Ext (w.alloc (.cells (fml32 x).toArray 58)) w') : FB32 W0 w' b g sb lb lv vL w.heap.size 11 (fun _ => x) := by
  have hT : Tag w' w.heap.size 58 := (Tag.new w _ _).ext hb
  refine ⟨(va_new (n := 11) w 58 (fml32 x).toArray (fmV32 (fun _ => x)) rfl).ext hb, ⟨_, hT, by decide, by decide⟩, fun e => by have := (h.lt e).2; omega, h.X.size, tag_lt hT⟩
/-- a claim that has room at once -/
theorem cl_now32 {C : Int} {f : Nat → Int} {xs : List Int} {th : Int} {x x' : Fm} {N L N' L' : Int} {log log' : List Acc} {EL EL' : List Ev} {d : Bool} (h : ClRel32 C f xs th x N L log EL d x' N' L' log' EL') (hP : ¬ x.Pc = 1) (hfit : D32 (((N + x.N) % 4294967296) - L) ≤ C) : d = true ∧ x' = { x with Fr := N, Pc := 0 } ∧ N' = (((N + x.N) % 4294967296)) ∧ L' = L ∧ log' = log ∧ EL' = EL ++ [evT th x.N N] ++ [evG th] := by
  rcases h with ⟨-, -, h⟩ | ⟨x1, sd, I', M', hf, -⟩
  · exact h
  · rcases hf with ⟨e, -⟩ | ⟨-, e, -⟩
    · exact absurd e hP
    · exact absurd hfit e
/-- new registers beside a sequencer -/
theorem fb_new64 {W0 w w' : World} {b g sb lb : Nat} {y : LY} {f : Nat → Int} {lv : Value} {log : List Acc} {ups : List (List Int)} {su ev : Value} {xs : List Int} {N L : Int} {vL : Value} {EL : List Ev} (h : ST64 W0 w b g sb lb y f lv log ups su ev xs N L vL EL) (x : Fm) (hb : Ext (w.alloc (.cells (fml64 x).toArray 99)) w') : FB64 W0 w' b g sb lb lv vL w.heap.size 11 (fun _ => x) := by
  have hT : Tag w' w.heap.size 99 := (Tag.new w _ _).ext hb
  refine ⟨(va_new (n := 11) w 99 (fml64 x).toArray (fmV64 (fun _ => x)) rfl).ext hb, ⟨_, hT, by decide, by decide⟩, fun e => by have := (h.lt e).2; omega, h.X.size, tag_lt hT⟩
/-- a claim that has room at once -/
theorem cl_now64 {C : Int} {f : Nat → Int} {xs : List Int} {th : Int} {x x' : Fm} {N L N' L' : Int} {log log' : List Acc} {EL EL' : List Ev} {d : Bool} (h : ClRel64 C f xs th x N L log EL d x' N' L' log' EL') (hP : ¬ x.Pc = 1) (hfit : D64 ((U64 (N + x.N)) - L) ≤ C) : d = true ∧ x' = { x with Fr := N, Pc := 0 } ∧ N' = ((U64 (N + x.N))) ∧ L' = L ∧ log' = log ∧ EL' = EL ++ [evT th x.N N] ++ [evG th] := by
  rcases h with ⟨-, -, h⟩ | ⟨x1, sd, I', M', hf, -⟩
  · exact h
  · rcases hf with ⟨e, -⟩ | ⟨-, e, -⟩
    · exact absurd e hP
    · exact absurd hfit e
set_option maxRecDepth 100000 in
theorem live19 (w : World) (E : Parts w) (T : Tab w) : Calls Tryz.prog 28 #[] w fun e w' => e = .returned (.bool true) ∧ Ext w w' := by
  have HE := Lib.hid (fun w' (hx : Ext w w') => E.ext hx)
  have HT := Lib.hid (fun w' (hx : Ext w w') => T.ext hx)
  have CC := Lib.hid (conf19_32 0 0 0 0 w (by decide) (by decide))
  have hck : ckC 1 32 (capS 0) 1 [[]] = 0 := case_ok 0 1 (by decide) (.inl rfl) (by decide) (by decide) (by decide)
  have CO := Lib.hid (fun w' u (hL : ListsV w' u [[]]) => of_board 1 32 (capS 0) 1 0 u [[]] w' hL (by simp) (by simp) hck)
  have CN := Lib.hid (fun (y : LY) w' (K : BK y [[]]) hw hL h0 h1 => new_board32 y [[]] w' K hw hL h0 h1)
  clear E T hck
  go_enter Tryz.func28, Tryz.ntmps28
  go_wp2_with fail
  refine CC.out.mono ?_
  rintro e w1 ⟨a, cap, rfl, hL, X1⟩
  have HL := Lib.hid hL
  have HX1 := Lib.hid X1
  clear hL X1 CC
  go_wp2_with fail
  refine (CO.out w1 _ HL.out).mono ?_
  rintro e wo ⟨y0, K0, o0, rfl, O0, Xo⟩
  have HK0 := Lib.hid K0
  have Ho0 := Lib.hid o0
  have HO0 := Lib.hid O0
  have HXo := Lib.hid (HX1.out.trans Xo)
  clear K0 o0 O0 Xo HL HX1 CO
  go_upto_region 2 with (fail)
  refine settle_wp ?_
  intro w2 hb2
  have ql_0 : w2.cell? ⟨wo.heap.size, 0, none⟩ = some (.int .i64 y0.V) := hb2.cell (by simp [go_sem])
  have ql_1 : w2.cell? ⟨wo.heap.size, 1, none⟩ = some (.int .i64 y0.W) := hb2.cell (by simp [go_sem])
  have ql_2 : w2.cell? ⟨wo.heap.size, 2, none⟩ = some (.int .i64 y0.C) := hb2.cell (by simp [go_sem])
  have ql_3 : w2.cell? ⟨wo.heap.size, 3, none⟩ = some (.int .i64 y0.P) := hb2.cell (by simp [go_sem])
  have ql_4 : w2.cell? ⟨wo.heap.size, 4, none⟩ = some (.int .u64 y0.S) := hb2.cell (by simp [go_sem])
  have ql_5 : w2.cell? ⟨wo.heap.size, 5, none⟩ = some (.slice y0.a y0.n y0.cap) := hb2.cell (by simp [go_sem])
  have ql_6 : w2.cell? ⟨wo.heap.size, 6, none⟩ = some (.int .i64 y0.Cu) := hb2.cell (by simp [go_sem])
  have ql_7 : w2.cell? ⟨wo.heap.size, 7, none⟩ = some (.int .i64 y0.Cl) := hb2.cell (by simp [go_sem])
  have ql_8 : w2.cell? ⟨wo.heap.size, 8, none⟩ = some (.int .i64 y0.Ti) := hb2.cell (by simp [go_sem])
  have ql_9 : w2.cell? ⟨wo.heap.size, 9, none⟩ = some (.int .i64 y0.Se) := hb2.cell (by simp [go_sem])
  have ql_10 : w2.cell? ⟨wo.heap.size, 10, none⟩ = some (.int .i64 y0.Ne) := hb2.cell (by simp [go_sem])
  have ql_11 : w2.cell? ⟨wo.heap.size, 11, none⟩ = some (.int .i64 y0.Ma) := hb2.cell (by simp [go_sem])
  have ql_12 : w2.cell? ⟨wo.heap.size, 12, none⟩ = some (.int .i64 y0.Sl) := hb2.cell (by simp [go_sem])
  have ql_13 : w2.cell? ⟨wo.heap.size, 13, none⟩ = some (.int .i64 y0.m) := hb2.cell (by simp [go_sem])
  have X2 : Ext wo w2 := Ext.trans ((Ext.refl wo).alloc _) hb2
  have HX2 := Lib.hid (HXo.out.trans X2)
  have HO2 := Lib.hid (HO0.out.ext X2)
  clear hb2 X2 HXo HO0
  go_wp2_with fail
  refine (CN.out y0 _ HK0.out Ho0.out.w HO2.out (by rw [Ho0.out.s]; decide) (by rw [Ho0.out.s]; decide)).mono ?_
  rintro e w3 ⟨b, g, y, rfl, K, o, B, X3, hb3, hg3⟩
  have HK := Lib.hid K
  have oy : OfC y 1 32 (capS 0) 1 0 1 := ⟨o.v.trans Ho0.out.v, o.w.trans Ho0.out.w, o.c.trans Ho0.out.c, o.p.trans Ho0.out.p, o.s.trans Ho0.out.s, o.n.trans Ho0.out.n⟩
  have Hoy := Lib.hid oy
  have HB := Lib.hid B
  have HX3 := Lib.hid (HX2.out.trans X3)
  have HOB : Hid (∀ k, Own b g (.slice none 0 0) k → w.heap.size ≤ k) := Lib.hid (fun k hk => by
    have := HX2.out.size
    rcases hk with e | e | e
    · omega
    · omega
    · cases e)
  have HRG := Lib.hid (rgs_first32 K oy.w (by rw [oy.s]; decide) (by rw [oy.s]; decide))
  generalize fsC y.V y.W y.C y.S y.n = F0 at *
  clear K o B X3 hb3 hg3 oy HK0 Ho0 HO2 HX2 CN ql_0 ql_1 ql_2 ql_3 ql_4 ql_5 ql_6 ql_7 ql_8 ql_9 ql_10 ql_11 ql_12 ql_13
  go_wp2_with fail
  refine (eNew _).mono ?_
  rintro e w4 ⟨rfl, hw4⟩
  have X34 : Ext w3 w4 := by rw [hw4]; exact (Ext.refl w3).alloc _
  have HLG : Hid (LG w w4 w3.heap.size (.slice none 0 0) []) := Lib.hid (by rw [hw4]; exact LG.new w w3 HX3.out)
  have HX4 := Lib.hid (HX3.out.trans X34)
  have HB4 := Lib.hid (HB.out.ext X34)
  clear hw4 X34 HB HX3
  generalize w3.heap.size = lb at *
  go_wp2_with fail
  refine (soNew32_yes w b g lb y F0 _ _ [] [] [[]] w4 HK.out Hoy.out.w HB4.out Hoy.out.v HLG.out HX4.out HOB.out (HT.out _ HX4.out) (by rw [Hoy.out.s]; decide) (by rw [Hoy.out.s]; decide)).mono ?_
  rintro e w5 ⟨sb, su, ev, rfl, hST, X5, hsb⟩
  have HST : Hid (ST32 w w5 b g sb lb y F0 (.slice none 0 0) [] [[]] su ev (endsG [[]]) 0 0 (.slice none 0 0) []) := Lib.hid (by
    rw [Hoy.out.s] at hST
    exact hST)
  clear hST X5 hsb HLG HX4 HB4 HOB
  go_upto_region 5 with (fail)
  refine settle_wp ?_
  intro w6 hb6
  have HFB := Lib.hid (fb_new32 HST.out ⟨2, 0, 0, 0, 0, 0⟩ hb6)
  have HST6 := Lib.hid (HST.out.ext (Ext.trans ((Ext.refl w5).alloc _) hb6))
  clear hb6 HST
  generalize w5.heap.size = fb at *
  have hy2 : y.C = 2 := by rw [Hoy.out.c]; unfold capS; simp [wrap64]
  have HY2 := Lib.hid hy2
  have HS7 : Hid (∀ d x' N' L' log' EL', ClRel32 y.C F0 (endsG [[]]) 0 ⟨2, 0, 0, 0, 0, 0⟩ 0 0 [] [] d x' N' L' log' EL' → d = true ∧ x' = ⟨2, 0, 0, 0, 0, 0⟩ ∧ N' = 2 ∧ L' = 0 ∧ log' = [] ∧ EL' = [evT 0 2 0, evG 0]) := Lib.hid (fun d x' N' L' log' EL' h => by
    obtain ⟨h1, h2, h3, h4, h5, h6⟩ := cl_now32 h (by decide) (by rw [HY2.out]; decide)
    exact ⟨h1, h2, h3, h4, h5, h6⟩)
  clear hy2
  go_wp2
  go_loopw [7, 8] (fun d i wr => (d = .bool false ∧ i = .int .i64 0 ∧ ST32 w wr b g sb lb y F0 (.slice none 0 0) [] [[]] su ev (endsG [[]]) 0 0 (.slice none 0 0) [] ∧ FB32 w wr b g sb lb (.slice none 0 0) (.slice none 0 0) fb 11 (fun _ => ⟨2, 0, 0, 0, 0, 0⟩)) ∨ (d = .bool true ∧ i = .int .i64 1 ∧ ∃ lv vL, ST32 w wr b g sb lb y F0 lv [] [[]] su ev (endsG [[]]) 2 0 vL [evT 0 2 0, evG 0] ∧ ∃ F, F 0 = ⟨2, 0, 0, 0, 0, 0⟩ ∧ FB32 w wr b g sb lb lv vL fb 11 F)) (fun _ i _ => 1 - (intOf i).toNat)
  case atStart => exact .inl ⟨rfl, rfl, HST6.out, HFB.out⟩
  case round =>
    clear HST6 HFB
    rcases hrel with ⟨rfl, rfl, hS, hF⟩ | ⟨rfl, rfl, lv, vL, hS, F, hF0, hF⟩
    · have CL := Lib.hid (soClaim32 HK.out Hoy.out.v (HE.out _ (Ext.refl _)) hS hF (t := 0) (by decide) (ends_gts HK.out) (ScAt.zero _) HRG.out (by simp) (by simp) (by decide) (by rw [HY2.out]; decide) (by decide) (by decide))
      clear hS hF
      go_wp2_with fail
      refine CL.out.mono ?_
      rintro e w7 ⟨d, x', N', L', log', EL', hcl, rfl, lv', vL', hrun⟩
      obtain ⟨rfl, rfl, rfl, rfl, rfl, rfl⟩ := HS7.out _ _ _ _ _ _ hcl
      have HR := Lib.hid hrun
      clear hrun hcl CL
      go_wp2
      exact ⟨.inr ⟨rfl, rfl, lv', vL', HR.out.T, _, rfl, HR.out.F⟩, by simp [intOf]⟩
    · have HS := Lib.hid hS
      have HF := Lib.hid hF
      have HF0 := Lib.hid hF0
      clear hS hF hF0
      have c6 : wr.cell? ⟨fb, 6, none⟩ = some (.int .u32 0) := by have := (HF.out.at_ (t := 0) (by decide) 6 (by decide)).1; rw [HF0.out] at this; exact this
      go_upto_region 11 with (fail)
      refine settle_wp ?_
      intro w7 hb7
      have HFG := Lib.hid (fb_new32 HS.out ⟨2, 0, 0, 0, 0, 0⟩ hb7)
      have X7 : Ext wr w7 := Ext.trans ((Ext.refl wr).alloc _) hb7
      have HS7b := Lib.hid (HS.out.ext X7)
      have HF7 := Lib.hid (HF.out.ext X7)
      have hgf : wr.heap.size ≠ fb := fun e => by have := HF.out.l; omega
      clear hb7 X7 HS HF c6
      generalize wr.heap.size = gb at *
      go_wp2
      go_loopw [7, 10] (fun d i wr => d = .bool true ∧ i = .int .i64 0 ∧ ST32 w wr b g sb lb y F0 lv [] [[]] su ev (endsG [[]]) 2 0 vL [evT 0 2 0, evG 0] ∧ FB32 w wr b g sb lb lv vL gb 11 (fun _ => ⟨2, 0, 0, 0, 0, 0⟩) ∧ FB32 w wr b g sb lb lv vL fb 11 F) (fun _ _ _ => 0)
      case atStart => exact ⟨rfl, rfl, HS7b.out, HFG.out, HF7.out⟩
      case round =>
        clear HS7b HFG HF7
        obtain ⟨rfl, rfl, hS, hG, hF⟩ := hrel
        have CP := Lib.hid (soPublish32 HK.out Hoy.out.v (HE.out _ hS.X) hS hG (t := 0) (by decide) HRG.out (by simp) (by simp) (by decide) (by rw [HY2.out]; decide) (by decide))
        have HF := Lib.hid hF
        clear hS hG hF
        go_wp2_with fail
        refine CP.out.mono ?_
        rintro e w8 ⟨rfl, lv8, vL8, R8⟩
        have HF8 := Lib.hid (HF.out.step R8.N (fun k hk => hk.imp id (fun e => by rw [e]; exact hgf)) R8.A R8.AL)
        have HS8 := Lib.hid R8.T
        clear R8 CP HF
        go_upto_region 16 with (fail)
        refine settle_wp ?_
        intro w9 hb9
        have HFH := Lib.hid (fb_new32 HS8.out ⟨0, 0, 0, 0, 0, 0⟩ hb9)
        have X9 : Ext w8 w9 := Ext.trans ((Ext.refl w8).alloc _) hb9
        have HS9 := Lib.hid (HS8.out.ext X9)
        have HF9 := Lib.hid (HF8.out.ext X9)
        have hhf : w8.heap.size ≠ fb := fun e => by have := HF8.out.l; omega
        have hrg : Rgs32 (Go.Proofs.YtkmfamidahlgiaaGreatDoor.upd F0 y.n 2) := HRG.out.upd y.n 2 (by decide)
        have HRG2 := Lib.hid hrg
        clear hb9 X9 HS8 HF8 hrg
        generalize w8.heap.size = hb at *
        go_wp2
        go_loopw [7, 12] (fun d i wr => d = .bool true ∧ i = .int .i64 0 ∧ ST32 w wr b g sb lb y (Go.Proofs.YtkmfamidahlgiaaGreatDoor.upd F0 y.n 2) lv8 ([] ++ [⟨0, 2, y.n, F0 y.n, 2⟩]) [[]] su ev (endsG [[]]) 2 0 vL8 ([evT 0 2 0, evG 0] ++ [evP 0 2 0]) ∧ FB32 w wr b g sb lb lv8 vL8 hb 11 (fun _ => ⟨0, 0, 0, 0, 0, 0⟩) ∧ FB32 w wr b g sb lb lv8 vL8 fb 11 F) (fun _ _ _ => 0)
        case atStart => exact ⟨rfl, rfl, HS9.out, HFH.out, HF9.out⟩
        case round =>
          clear HS9 HFH HF9
          obtain ⟨rfl, rfl, hS, hG, hF⟩ := hrel
          have CT := Lib.hid (soTip32 HK.out Hoy.out.v (HE.out _ hS.X) hS hG (t := 0) (by decide) HRG2.out (by simp) 1)
          have HF := Lib.hid hF
          clear hS hG hF
          go_wp2_with fail
          refine CT.out.mono ?_
          rintro e w10 ⟨rfl, lv10, R10⟩
          have HF10 := Lib.hid (HF.out.step R10.N (fun k hk => hk.imp id (fun e => by rw [e]; exact hhf)) R10.A R10.AL)
          have HS10 := Lib.hid R10.T
          have c8 : w10.cell? ⟨hb, 8, none⟩ = some (.int .u32 2) := by
            have := (R10.F.at_ (t := 0) (by decide) 8 (by decide)).1
            rw [updF_at] at this
            have e2 : Go.Proofs.YtkmfamidahlgiaaGreatDoor.upd F0 y.n 2 y.n = 2 := if_pos rfl
            have h3 : fmc32 { (⟨0, 0, 0, 0, 0, 0⟩ : Fm) with Vl := Go.Proofs.YtkmfamidahlgiaaGreatDoor.upd F0 y.n 2 y.n } 8 = .int .u32 2 := by rw [e2]; rfl
            rw [h3] at this
            exact this
          have c6 : w10.cell? ⟨fb, 6, none⟩ = some (.int .u32 0) := by have := (HF10.out.at_ (t := 0) (by decide) 6 (by decide)).1; rw [HF0.out] at this; exact this
          have CLN := Lib.hid (eLen w w10 lb _ _ HS10.out.G)
          have HXX := Lib.hid HS10.out.X
          clear R10 CT HF HF10 HS10
          go_wp2_with fail
          refine CLN.out.mono ?_
          rintro e w' ⟨rfl, rfl⟩
          go_wp2
          go_ret
          exact ⟨rfl, HXX.out⟩
end Go.Proofs.YtkmfamidahlgiaaGreatDoor
/- A case of a configuration as the row hands it in, opened: a truth, three bytes, a word. No program in sight. -/
namespace Go.Proofs.YtkmfamidahlgiaaGreatDoor
open Go.Joins Go.ChangeShapes Go.WideShapes Go.ChangeAt Go.RowKit Go.Deep
set_option linter.unusedVariables false
theorem wf_byte {x : Int} (h : (Lit.int .u8 x).wf = true) : ∃ k : Nat, k < 256 ∧ x = k := by
  simp [Lit.wf, IntKind.min, IntKind.max, IntKind.signed, IntKind.bits] at h
  exact ⟨x.toNat, by omega, by omega⟩
theorem wf_word {x : Int} (h : (Lit.int .u64 x).wf = true) : 0 ≤ x ∧ x < 18446744073709551616 := by
  simp [Lit.wf, IntKind.min, IntKind.max, IntKind.signed, IntKind.bits] at h
  omega
section
variable {H : Type} {enc : TypeId × Value → H} {P : Program} {W : World} {held : Bool}
theorem open_case {r : Reach} {b0 : Nat} {t : TypeId} {f0 f1 f2 f3 f4 : Field} {v : Value} {d : DataW H} {p : List MemPlace} (ht : P.underlying t = some (.struct #[f0, f1, f2, f3, f4]))
    (e0 : P.underlying f0.type = some .bool) (e1 : P.underlying f1.type = some (.int .u8)) (e2 : P.underlying f2.type = some (.int .u8)) (e3 : P.underlying f3.type = some (.int .u8)) (e4 : P.underlying f4.type = some (.int .u64))
    (hone : oneCellFields P #[f0, f1, f2, f3, f4] = true) (hC : P.cellsOf t = 5)
    (hv : Value.okWide P W r b0 t v) (h : DataW.Trod enc P W 0 (fun _ => true) held t v d p) : ∃ (wd : Bool) (l q k : Nat) (S : Int), v = .agg #[.bool wd, .int .u8 l, .int .u8 q, .int .u8 k, .int .u64 S] ∧ (l < 256 ∧ q < 256 ∧ k < 256 ∧ 0 ≤ S ∧ S < 18446744073709551616) := by
  obtain ⟨cs, rfl, hsz⟩ := okWide_struct ht hv
  obtain ⟨fuel, hf⟩ := h
  obtain ⟨xs, n, _, _, hl, hlen, hh⟩ := DataW.trod_struct ht hf
  have g0 := hh 0 f0 rfl
  have g1 := hh 1 f1 rfl
  have g2 := hh 2 f2 rfl
  have g3 := hh 3 f3 rfl
  have g4 := hh 4 f4 rfl
  clear hh hf
  have hlen' : xs.length = 5 := by simpa using hlen
  obtain ⟨o0, k0⟩ := hone_of hone 0 f0 rfl
  obtain ⟨o1, k1⟩ := hone_of hone 1 f1 rfl
  obtain ⟨o2, k2⟩ := hone_of hone 2 f2 rfl
  obtain ⟨o3, k3⟩ := hone_of hone 3 f3 rfl
  obtain ⟨o4, k4⟩ := hone_of hone 4 f4 rfl
  rw [List.getElem?_eq_getElem (by omega)] at g0 g1 g2 g3 g4
  have hs5 : cs.size = 5 := hsz.trans hC
  obtain ⟨l⟩ := cs
  match l, hs5 with
  | [c0, c1, c2, c3, c4], _ =>
    simp [Value.cells, o0, k0] at g0
    simp [Value.cells, o1, k1] at g1
    simp [Value.cells, o2, k2] at g2
    simp [Value.cells, o3, k3] at g3
    simp [Value.cells, o4, k4] at g4
    obtain ⟨x0, q0, _⟩ := DataW.trod_bool e0 g0
    obtain ⟨x1, q1, _, w1⟩ := DataW.trod_int e1 g1
    obtain ⟨x2, q2, _, w2⟩ := DataW.trod_int e2 g2
    obtain ⟨x3, q3, _, w3⟩ := DataW.trod_int e3 g3
    obtain ⟨x4, q4, _, w4⟩ := DataW.trod_int e4 g4
    simp at q0 q1 q2 q3 q4
    subst q0 q1 q2 q3 q4
    obtain ⟨n1, h1, rfl⟩ := wf_byte w1
    obtain ⟨n2, h2, rfl⟩ := wf_byte w2
    obtain ⟨n3, h3, rfl⟩ := wf_byte w3
    obtain ⟨h4, h5⟩ := wf_word w4
    exact ⟨x0, n1, n2, n3, x4, rfl, h1, h2, h3, h4, h5⟩
end
end Go.Proofs.YtkmfamidahlgiaaGreatDoor
