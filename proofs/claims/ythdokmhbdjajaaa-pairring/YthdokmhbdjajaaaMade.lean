/- 'made' of layer 4: pairs, and the document's. -/
import Derived.Test.YthdokmhbdjajaaaLawTells4
import Derived.Test.YthdokmhbdjajaaaLate
import Derived.Test.YthdokmhbdjajaaaOpen2
import Derived.Test.YthdokmhbdjajaaaMem
import Derived.OwnWalk
import Derived.Deep.AppendLies
namespace Go.Proofs.Ythdokmhbdjajaaa
open Go.RowKit
set_option linter.unusedVariables false
set_option maxHeartbeats 2000000
attribute [local go_sem] later_cell later_frozen later_const
theorem info_cplx : (Try.prog.info? 24).map (fun i => (i.zero, i.size, i.bytes)) = some (some (.complex .f64 0 0), 1, 16) := by kernel_rfl
theorem info_P4 : (Try.prog.info? 27).map (fun i => (i.zero, i.size, i.bytes)) = some (some (.agg #[.int .i64 0, .int .i64 0, .bool false]), 3, 24) := by kernel_rfl
theorem Ext.row {a b : World} (h : Ext a b) {base e sz : Nat} {v : Value} {n : Nat} {xs : List Value} (hr : a.ownsRow base e sz v n xs) : b.ownsRow base e sz v n xs := by
  refine ⟨hr.1, ?_⟩
  rcases hr.2 with hn | ⟨g, cap, cur, rfl, hb, hg, rest⟩
  · exact .inl hn
  · exact .inr ⟨g, cap, cur, rfl, hb, (h.block g (Array.getElem?_eq_some_iff.1 hg).1).trans hg, rest⟩
/-- what becomes of two numbers -/
def cl (p : Int × Int) : Int × Int := if inB p.1 = true ∧ inB p.2 = true then p else (0, 0)
def cV (p : Int × Int) : Value := .complex .f64 (F p.1) (F p.2)
def pV (p : Int × Int) : List Value := [.int .i64 p.1, .int .i64 p.2, .bool false]
theorem cl_in (p : Int × Int) : inB (cl p).1 = true ∧ inB (cl p).2 = true := by
  unfold cl
  split
  · assumption
  · exact ⟨rfl, rfl⟩
theorem of_cl (p : Int × Int) (w : World) : Calls Try.prog 7 #[.int .i64 p.1, .int .i64 p.2] w fun e w' => e = .returned (.complex .f64 (F (cl p).1) (F (cl p).2)) ∧ w = w' := by
  unfold cl
  split
  · rename_i h
    have h1 := (inB_iff _).1 h.1
    have h2 := (inB_iff _).1 h.2
    exact of_yes _ _ w h1.1 h1.2 h2.1 h2.2
  · rename_i h
    exact of_no _ _ w (fun g => h ⟨(inB_iff _).2 ⟨g.1, g.2.1⟩, (inB_iff _).2 g.2.2⟩)
theorem rOf_cl (p : Int × Int) (w : World) : Calls Try.prog 8 #[.int .i64 p.1, .int .i64 p.2] w fun e w' => e = .returned (.agg #[.int .i64 (cl p).1, .int .i64 (cl p).2, .bool false]) ∧ Ext w w' := by
  unfold cl
  split
  · rename_i h
    exact rOf_yes _ _ w h.1 h.2
  · rename_i h
    refine rOf_no _ _ w ?_
    cases h1 : inB p.1
    · exact .inl rfl
    · cases h2 : inB p.2
      · exact .inr rfl
      · exact absurd ⟨h1, h2⟩ h
/-- the cells of the first k -/
def rowC (zs : List (Int × Int)) (k : Nat) : List Value := ((zs.take k).map cl).flatMap fun p => [cV p]
def rowP (zs : List (Int × Int)) (k : Nat) : List Value := ((zs.take k).map cl).flatMap pV
theorem rowC_snoc (zs : List (Int × Int)) (k : Nat) (h : k < zs.length) : rowC zs (k + 1) = rowC zs k ++ [cV (cl (zs.getD k (0, 0)))] := by
  unfold rowC
  rw [List.take_succ_eq_append_getElem h, List.map_append, List.flatMap_append]
  simp [h]
theorem rowP_snoc (zs : List (Int × Int)) (k : Nat) (h : k < zs.length) : rowP zs (k + 1) = rowP zs k ++ pV (cl (zs.getD k (0, 0))) := by
  unfold rowP
  rw [List.take_succ_eq_append_getElem h, List.map_append, List.flatMap_append]
  simp [h]
def MadeDoes (w : World) (zs : List (Int × Int)) (e : Ending) (w' : World) : Prop :=
  ∃ v u, e = .returned (.tuple #[v, u]) ∧ w'.ownsRow w.heap.size 24 1 v zs.length (rowC zs zs.length) ∧ w'.ownsRow w.heap.size 27 3 u zs.length (rowP zs zs.length) ∧ Ext w w'
theorem made_yes (b off cap : Nat) (zs : List (Int × Int)) (w : World) (hl : zs.length ≤ 1000)
    (hz : ∀ i, i < zs.length → w.cell? ⟨b, off + i * 2, none⟩ = some (.int .i64 (zs.getD i (0, 0)).1) ∧ w.cell? ⟨b, off + i * 2 + 1, none⟩ = some (.int .i64 (zs.getD i (0, 0)).2)) :
    Calls Try.prog 18 #[.slice (some ⟨b, off, none⟩) zs.length cap] w (MadeDoes w zs) := by
  obtain ⟨i0, hi, hz0, hz1, hz2⟩ := info_parts info_cplx
  obtain ⟨j0, hj, hy0, hy1, hy2⟩ := info_parts info_P4
  have HZ := Lib.hid hz
  obtain ⟨n, hn⟩ : ∃ n, n = zs.length := ⟨_, rfl⟩
  unfold MadeDoes
  rw [← hn]
  have HN := Lib.hid hn
  have hl2 : n ≤ 1000 := by omega
  clear hn hl hz
  go_enter Try.func18, Try.ntmps18
  go_wp2
  go_loopw [4, 5, 6] (fun v u i wr => ∃ k : Nat, k ≤ n ∧ i = .int .i64 k ∧ wr.ownsRow w.heap.size 24 1 v k (rowC zs k) ∧ wr.ownsRow w.heap.size 27 3 u k (rowP zs k) ∧ Ext w wr) (fun _ _ i _ => n - (intOf i).toNat)
  case atStart => exact ⟨0, Nat.zero_le _, rfl, World.ownsRow_nil _ _ _ _, World.ownsRow_nil _ _ _ _, Ext.refl _⟩
  case round =>
    obtain ⟨k, hk, rfl, ho, hp, hx⟩ := hrel
    have HO := Lib.hid ho
    have HP := Lib.hid hp
    clear ho hp
    by_cases hlt : k < n
    · have hkz : k < zs.length := by have := HN.out; omega
      have S1 := Lib.hid (rowC_snoc zs k hkz)
      have S2 := Lib.hid (rowP_snoc zs k hkz)
      have z0 := (HZ.out k hkz).1
      have z1 := (HZ.out k hkz).2
      have c0 := hx.cell z0
      have c1 := hx.cell z1
      have hzw := Lib.hid (And.intro z0 z1)
      clear z0 z1
      generalize zs.getD k (0, 0) = q at *
      have hkn : (k : Int) < (n : Int) := by omega
      go_wp2
      refine wp_region_late 12 u4 (by kernel_rfl) (by kernel_rfl) rfl rfl rfl ?ha1 ?_
      case ha1 => intro w' hl; simp [go_sem]
      simp only [List.take_succ_cons, List.take_zero, List.drop_succ_cons, List.drop_zero, Act.put, List.setIfInBounds_toArray, List.set_cons_succ, List.set_cons_zero]
      have l0 := fun (g : Later wr) => g.ok.cell c0
      have l1 := fun (g : Later wr) => g.ok.cell c1
      repeat (go_big_quiet_step ((fail)))
      go_big_quiet_step ((go_at_call 7; exact laterS (of_cl q _)))
      repeat (go_big_quiet_step ((fail)))
      refine wpQuiet_nil ?_
      intro w6 hl6
      have X6 := laters_ext hl6
      clear hl6 l0 l1
      go_wp2
      show laters wr _ ∧ _
      refine ⟨⟨⟨_, X6.alloc _⟩, rfl⟩, ?_⟩
      have X7 : Ext wr (w6.alloc (.cells #[.complex .f64 (F (cl q).1) (F (cl q).2)] 24)) := X6.alloc _
      have C7 : ∀ j u, ([cV (cl q)] : List Value)[j]? = some u → (w6.alloc (.cells #[.complex .f64 (F (cl q).1) (F (cl q).2)] 24)).cell? ((⟨w6.heap.size, 0, none⟩ : Addr).add j) = some u := World.news_of_block (World.alloc_heap_new w6 _)
      have HC7 := Lib.hid C7
      have HX7 := Lib.hid X7
      have hs7 := Nat.le_trans hx.size X7.size
      clear C7 X7 X6
      generalize hg7 : w6.alloc (.cells #[.complex .f64 (F (cl q).1) (F (cl q).2)] 24) = W7 at *
      have HG7 := Lib.hid hg7
      clear hg7
      go_wp2_with (at_builtin; refine wpList_append_own _ rfl _ _ 39 rfl w.heap.size 24 i0 (.complex .f64 0 0) 1 16 Try.underlying39 hi hz0 hz1 hz2 rfl (by decide) _ _ _ rfl (HX7.out.row HO.out) ⟨w6.heap.size, 0, none⟩ 1 1 [cV (cl q)] rfl rfl HC7.out ?c2 ?c3 ?c4 ?c5 ?_)
      case c2 => intro u hu; simp at hu; subst hu; rfl
      case c3 => unfold maxLen; omega
      case c4 => omega
      case c5 => exact hs7
      intro v1 w8 hv1 hg8 _
      rw [← S1.out] at hv1
      have HV := Lib.hid hv1
      have HP8 := Lib.hid ((HX7.out.row HP.out).kept hg8 (rows_apart (HX7.out.row HP.out) (HX7.out.row HO.out) (by decide)))
      have X8 : Ext w w8 := (hx.trans HX7.out).grown hg8 (fun j h => (HO.out.lt j h).1)
      have d0 := X8.cell hzw.out.1
      have d1 := X8.cell hzw.out.2
      clear c0 c1 hg8 HC7 HG7 hv1
      go_wp2
      refine off_normal ?_
      go_wp2
      clear HP HO HX7 hs7
      have s8 := X8.size
      refine wp_region_late 12 u5 (by kernel_rfl) (by kernel_rfl) rfl rfl rfl ?hb1 ?_
      case hb1 => intro w' hl; simp [go_sem]
      simp only [List.take_succ_cons, List.take_zero, List.drop_succ_cons, List.drop_zero, Act.put, List.setIfInBounds_toArray, List.set_cons_succ, List.set_cons_zero]
      have l0 := fun (g : Later w8) => g.ok.cell d0
      have l1 := fun (g : Later w8) => g.ok.cell d1
      repeat (go_big_quiet_step ((fail)))
      go_big_quiet_step ((go_at_call 8; exact laterC (rOf_cl q _)))
      repeat (go_big_quiet_step ((fail)))
      refine wpQuiet_nil ?_
      intro w9 hl9
      have X9 := laters_ext hl9
      clear hl9 l0 l1
      go_wp2
      show laters w8 _ ∧ _
      refine ⟨⟨⟨_, X9.alloc _⟩, rfl⟩, ?_⟩
      have X10 : Ext w8 (w9.alloc (.cells #[.int .i64 (cl q).1, .int .i64 (cl q).2, .bool false] 27)) := X9.alloc _
      have C10 : ∀ j u, (pV (cl q) : List Value)[j]? = some u → (w9.alloc (.cells #[.int .i64 (cl q).1, .int .i64 (cl q).2, .bool false] 27)).cell? ((⟨w9.heap.size, 0, none⟩ : Addr).add j) = some u := World.news_of_block (World.alloc_heap_new w9 _)
      have HC10 := Lib.hid C10
      have HX10 := Lib.hid X10
      have hs10 := Nat.le_trans s8 X10.size
      clear C10 X10 X9
      generalize hg10 : w9.alloc (.cells #[.int .i64 (cl q).1, .int .i64 (cl q).2, .bool false] 27) = W10 at *
      have HG10 := Lib.hid hg10
      clear hg10
      go_wp2_with (at_builtin; refine wpList_append_own _ rfl _ _ 40 rfl w.heap.size 27 j0 (.agg #[.int .i64 0, .int .i64 0, .bool false]) 3 24 Try.underlying40 hj hy0 hy1 hy2 rfl (by decide) _ _ _ rfl (HX10.out.row HP8.out) ⟨w9.heap.size, 0, none⟩ 1 1 (pV (cl q)) rfl rfl HC10.out ?c6 ?c7 ?c8 ?c9 ?_)
      case c6 => intro u hu; simp [pV] at hu; rcases hu with rfl | rfl | rfl <;> rfl
      case c7 => unfold maxLen; omega
      case c8 => omega
      case c9 => exact hs10
      intro v2 w11 hv2 hg11 _
      rw [← S2.out] at hv2
      have HV2 := Lib.hid hv2
      have HV11 := Lib.hid ((HX10.out.row HV.out).kept hg11 (rows_apart (HX10.out.row HV.out) (HX10.out.row HP8.out) (by decide)))
      have X11 : Ext w w11 := (X8.trans HX10.out).grown hg11 (fun j h => (HP8.out.lt j h).1)
      clear hg11 HC10 HG10 hv2 HX10 d0 d1
      go_wp2
      refine off_normal ?_
      go_wp2
      exact ⟨⟨k + 1, by omega, by go_num, HV11.out, HV2.out, X11⟩, by simp [intOf]; omega⟩
    · obtain rfl : k = n := by omega
      have HN2 := HN.out
      clear HN
      go_wp2
      go_ret2
      exact ⟨_, _, rfl, HO.out, HP.out, hx⟩
theorem made_nil (a : Option Addr) (cap : Nat) (w : World) : Calls Try.prog 18 #[.slice a 0 cap] w (MadeDoes w []) := by
  go_enter Try.func18, Try.ntmps18
  go_wp2
  refine wp_loop_rounds 1 ?_
  rw [rounds_succ]
  go_wp2
  go_ret2
  exact ⟨_, _, rfl, World.ownsRow_nil _ _ _ _, World.ownsRow_nil _ _ _ _, Ext.refl _⟩
theorem made4 (a : Option Addr) (len cap : Nat) (zs : List (Int × Int)) (w : World) (h : IsTwos .i64 w a len cap zs) (hl : len ≤ 1000) : Calls Try.prog 18 #[.slice a len cap] w (MadeDoes w zs) := by
  obtain ⟨h1, _, _, _, h2⟩ := h
  rcases h2 with rfl | ⟨b, off, rfl, hz⟩
  · have : len = 0 := by simpa using h1.symm
    subst this
    exact made_nil a cap w
  · subst h1
    exact made_yes b off cap zs w hl hz
end Go.Proofs.Ythdokmhbdjajaaa
