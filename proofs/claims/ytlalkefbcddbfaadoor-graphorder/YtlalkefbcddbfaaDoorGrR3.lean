/- The document's Depth and Order of layer 9. -/
import Derived.Test.YtlalkefbcddbfaaDoorGrR2
import Derived.Test.YtlalkefbcddbfaaDoorGrS2
namespace Go.Proofs.YtlalkefbcddbfaaDoor
open Go.RowKit
set_option linter.unusedVariables false
set_option maxHeartbeats 1000000
attribute [local go_sem] later_cell later_frozen later_const
theorem S_size : (Tryd.prog.info? 53).map (·.size) = some 6 := by kernel_rfl
def vi (f : Nat → Nat) (i : Nat) : Value := .int .i64 ((f i : Nat) : Int)
theorem vi_one (f : Nat → Nat) : (vl 6 (vi f)).toArray.all (·.oneCell') = true := vl_one fun _ _ => rfl
/-- how far depths have come: k turns, and the next one as far as j of i's list -/
structure DK (ups : List (List Int)) (k i j : Nat) (f : Nat → Nat) : Prop where
  le : ∀ x, x < ups.length → f x ≤ dep ups x
  old : ∀ x, x < ups.length → min (dep ups x) k ≤ f x
  new : ∀ x, x < i → x < ups.length → min (dep ups x) (k + 1) ≤ f x
  now : ∀ a ∈ (ups.getD i []).take j, min (dep ups a.toNat) k + 1 ≤ f i
theorem DK.start (ups : List (List Int)) : DK ups 0 0 0 (fun _ => 0) :=
  ⟨fun x _ => Nat.zero_le _, fun x _ => by omega, fun x h => by omega, fun a ha => by simp at ha⟩
theorem DK.step {ups : List (List Int)} (rt : Rt ups) {k i j a : Nat} {f : Nat → Nat} (h : DK ups k i j f) (hi : i < ups.length) (hj : j < (ups.getD i []).length) (ha : (ups.getD i []).getD j 0 = (a : Int)) :
    DK ups k i (j + 1) (fun x => if x = i then max (f i) (f a + 1) else f x) := by
  have hmem : (a : Int) ∈ ups.getD i [] := by rw [← ha, getD_at _ _ _ hj]; exact List.getElem_mem hj
  have hr : R ups i a := hmem
  have hal := rt.nms.lt hr
  have hup := dep_up rt hr
  have h1 := h.le a hal
  have h2 := h.old a hal
  refine ⟨fun x hx => ?_, fun x hx => ?_, fun x hx hx' => ?_, fun b hb => ?_⟩
  · by_cases e : x = i
    · subst e; rw [if_pos rfl]; have := h.le x hx; omega
    · rw [if_neg e]; exact h.le x hx
  · by_cases e : x = i
    · subst e; rw [if_pos rfl]; have := h.old x hx; omega
    · rw [if_neg e]; exact h.old x hx
  · rw [if_neg (by omega)]; exact h.new x hx hx'
  · rw [if_pos rfl]
    rw [List.take_succ_eq_append_getElem hj] at hb
    rcases List.mem_append.1 hb with hb | hb
    · have := h.now b hb; omega
    · have e : b = (a : Int) := by rw [← ha, getD_at _ _ _ hj]; simpa using hb
      subst e
      rw [Int.toNat_natCast]
      omega
theorem DK.next {ups : List (List Int)} (rt : Rt ups) {k i : Nat} {f : Nat → Nat} (hi : i < ups.length) (h : DK ups k i (ups.getD i []).length f) : DK ups k (i + 1) 0 f := by
  refine ⟨h.le, h.old, fun x hx hx' => ?_, fun a ha => by simp at ha⟩
  by_cases e : x = i
  · subst e
    by_cases h0 : dep ups x = 0
    · rw [h0]; omega
    · have hd := dep_eq rt (c := x) (by have := rt.six; omega)
      obtain ⟨a, ha, he⟩ := mx_hit (f := dep ups) (l := ups.getD x []) (by omega)
      have := h.now a (by rw [List.take_length]; exact ha)
      omega
  · exact h.new x (by omega) hx'
theorem DK.turn {ups : List (List Int)} {k : Nat} {f : Nat → Nat} (h : DK ups k ups.length 0 f) : DK ups (k + 1) 0 0 f :=
  ⟨h.le, fun x hx => h.new x hx hx, fun x hx => by omega, fun a ha => by simp at ha⟩
theorem DK.done {ups : List (List Int)} (rt : Rt ups) {f : Nat → Nat} (h : DK ups 6 0 0 f) {c : Nat} (hc : c < ups.length) : f c = dep ups c := by
  have h1 := h.le c hc
  have h2 := h.old c hc
  have h3 := dep_five rt (c := c) (by have := rt.six; omega)
  omega
theorem DK.small {ups : List (List Int)} (rt : Rt ups) {k i j : Nat} {f : Nat → Nat} (h : DK ups k i j f) {c : Nat} (hc : c < ups.length) : f c ≤ 5 := by
  have h1 := h.le c hc
  have h3 := dep_five rt (c := c) (by have := rt.six; omega)
  omega
set_option maxRecDepth 100000 in
theorem rDepth (v : Value) (ups : List (List Int)) (c : Nat) (w : World) (rt : Rt ups) (hL : ListsV w v ups) (hll : ∀ l ∈ ups, l.length ≤ 1000000) (hc : c < ups.length) :
    Calls Tryd.prog 25 #[v, .int .i64 c] w fun e w' => e = .returned (.int .i64 (dep ups c : Nat)) ∧ Ext w w' := by
  have HL := Lib.hid hL
  have h6 := rt.six
  have hll5 : ∀ k, k < ups.length → (ups.getD k []).length ≤ 1000000 := fun k hk => hll _ (by rw [getD_at _ _ _ hk]; exact List.getElem_mem hk)
  have HLL := Lib.hid hll5
  have HRT := Lib.hid rt
  have HDN : Hid (∀ f, DK ups 6 0 0 f → f c = dep ups c) := Lib.hid (fun f h => h.done rt hc)
  obtain ⟨a, cap, e, -⟩ := id hL
  subst e
  clear hL hll hll5 rt
  obtain ⟨n, hN⟩ : ∃ n, n = ups.length := ⟨_, rfl⟩
  rw [← hN]
  have hcn : c < n := by omega
  have hn6 : n ≤ 6 := by omega
  have HE := Lib.hid hN
  clear hN hc h6
  generalize dep ups c = dc at *
  go_enter Tryd.func25, Tryd.ntmps25
  go_wp2
  have hV0 := va_new (n := 6) w 53 #[.int .i64 0, .int .i64 0, .int .i64 0, .int .i64 0, .int .i64 0, .int .i64 0] (vi fun _ => 0) rfl
  have X0 : Ext w (w.alloc (.cells #[.int .i64 0, .int .i64 0, .int .i64 0, .int .i64 0, .int .i64 0, .int .i64 0] 53)) := (Ext.refl w).alloc _
  generalize w.alloc (.cells #[.int .i64 0, .int .i64 0, .int .i64 0, .int .i64 0, .int .i64 0, .int .i64 0] 53) = w1 at *
  have HV0 := Lib.hid hV0
  have HX0 := Lib.hid X0
  clear hV0 X0
  go_loopw [6] (fun i wr => ∃ k : Nat, k ≤ 6 ∧ i = .int .i64 k ∧ ∃ f, DK ups k 0 0 f ∧ VA 6 wr w.heap.size (vi f) ∧ Ext w wr) (fun i _ => 6 - (intOf i).toNat)
  case atStart => exact ⟨0, Nat.zero_le _, rfl, _, DK.start ups, HV0.out, HX0.out⟩
  case round =>
    obtain ⟨k, hk, rfl, f, hD, hV, hX⟩ := hrel
    clear HV0 HX0
    by_cases hlt : k < 6
    · have hk6 : (k : Int) < 6 := by omega
      have HD := Lib.hid hD
      have HV := Lib.hid hV
      have HX := Lib.hid hX
      clear hD hV hX
      go_wp2
      go_loopw [7] (fun i wr => ∃ j : Nat, j ≤ n ∧ i = .int .i64 j ∧ ∃ f, DK ups k j 0 f ∧ VA 6 wr w.heap.size (vi f) ∧ Ext w wr) (fun i _ => n - (intOf i).toNat)
      case atStart => exact ⟨0, Nat.zero_le _, rfl, _, HD.out, HV.out, HX.out⟩
      case round =>
        obtain ⟨i, hi, rfl, f, hD, hV, hX⟩ := hrel
        clear HD HV HX
        by_cases hlt2 : i < n
        · have hin : (i : Int) < (n : Int) := by omega
          have hi6 : (i : Int) < 6 := by omega
          have hiu : i < ups.length := by have := HE.out; omega
          obtain ⟨b, off, u, cu, ha, hcell0, hI⟩ := HL.out.at (Ext.refl w) hiu
          subst ha
          obtain ⟨u', cu', eu, hform⟩ := hI.form
          cases eu
          have hlen := HLL.out i hiu
          have HF := Lib.hid hform
          obtain ⟨m, hm⟩ : ∃ m, m = (ups.getD i []).length := ⟨_, rfl⟩
          rw [← hm] at hcell0 hlen
          have HM := Lib.hid hm
          have HD := Lib.hid hD
          have HV := Lib.hid hV
          have HX := Lib.hid hX
          clear hD hV hX hI hform hm
          go_wp2
          go_loopw [8] (fun jj wr => ∃ j : Nat, j ≤ m ∧ jj = .int .i64 j ∧ ∃ f, DK ups k i j f ∧ VA 6 wr w.heap.size (vi f) ∧ Ext w wr) (fun i _ => m - (intOf i).toNat)
          case atStart => exact ⟨0, Nat.zero_le _, rfl, _, HD.out, HV.out, HX.out⟩
          case round =>
            obtain ⟨j, hj, rfl, f, hD, hV, hX⟩ := hrel
            clear HD HV HX
            have hcell := hX.cell hcell0
            by_cases hlt3 : j < m
            · have hjl : j < (ups.getD i []).length := by have := HM.out; omega
              obtain ⟨b1, o1, hu, hcl⟩ := HF.out j hjl
              subst hu
              have hjm : (j : Int) < (m : Int) := by omega
              have hmem : (ups.getD i [])[j] ∈ ups.getD i [] := List.getElem_mem hjl
              have hr := mem_R HRT.out hmem
              have hge := ((HRT.out.nms.at i).1 _ hmem).1
              have hal := HRT.out.nms.lt hr
              obtain ⟨a1, ha1⟩ := Int.eq_ofNat_of_zero_le hge
              have hget : (ups.getD i []).getD j 0 = (a1 : Int) := by rw [getD_at _ _ _ hjl, ha1]
              rw [ha1, Int.toNat_natCast] at hal
              rw [hget] at hcl
              have ha6 : a1 < 6 := by have := HE.out; omega
              have ha6' : (a1 : Int) < 6 := by omega
              have q1 := hX.cell hcl
              have q2 := hV.c i (by omega)
              have q3 := hV.c a1 (by omega)
              have z2 := hV.z i (by omega)
              simp only [vi] at q2 q3
              have HD2 := Lib.hid (hD.step HRT.out hiu hjl hget)
              have s1 := hD.small HRT.out hiu
              have s2 := hD.small HRT.out hal
              have HV := Lib.hid hV
              have HX := Lib.hid hX
              clear hget hmem hr hge ha1 hcl hjl hD hal hX hV
              generalize hfi : f i = fi at *
              generalize hfa : f a1 = fa at *
              have HFI := Lib.hid hfi
              have HFA := Lib.hid hfa
              clear hfi hfa
              have hmax : (if (fi : Int) < (fa : Int) + 1 then (fa : Int) + 1 else (fi : Int)) = ((max fi (fa + 1) : Nat) : Int) := by split <;> omega
              have HMX := Lib.hid hmax
              have HV2 := Lib.hid (((va_set HV.out (.int .i64 ((max fi (fa + 1) : Nat) : Int)) (i := i) (by omega)).congr (g := vi fun x => if x = i then max fi (fa + 1) else f x) (by
                intro x hx
                simp only [vi]
                by_cases e : x = i
                · rw [if_pos e, if_pos e]
                · rw [if_neg e, if_neg e])).ext ((Ext.refl _).drew))
              have HX2 := Lib.hid ((HX.out.setCell (p := ⟨w.heap.size, i, none⟩) (Nat.le_refl _) (.int .i64 ((max fi (fa + 1) : Nat) : Int))).drew)
              clear hmax HV HX
              go_wp2
              go_region
              rw [HMX.out]
              clear q1 q2 q3 z2 hcell
              generalize hz : max fi (fa + 1) = mz at *
              go_wp2
              exact ⟨⟨j + 1, by omega, by go_num, _, HD2.out, HV2.out, HX2.out⟩, by simp [intOf]; omega⟩
            · have HD2 := Lib.hid (DK.next HRT.out hiu (by rw [show (ups.getD i []).length = j by have := HM.out; omega]; exact hD))
              have HV := Lib.hid hV
              have HX := Lib.hid hX
              clear hD hV hX
              go_wp2
              exact ⟨⟨i + 1, by omega, by go_num, _, HD2.out, HV.out, HX.out⟩, by simp [intOf]; omega⟩
        · have HD2 := Lib.hid (DK.turn (by rw [show ups.length = i by have := HE.out; omega]; exact hD))
          have HV := Lib.hid hV
          have HX := Lib.hid hX
          clear hD hV hX
          go_wp2
          exact ⟨⟨k + 1, by omega, by go_num, _, HD2.out, HV.out, HX.out⟩, by simp [intOf]; omega⟩
    · obtain rfl : k = 6 := by omega
      have hc6 : (c : Int) < 6 := by omega
      have q := hV.c c (by omega)
      simp only [vi] at q
      rw [HDN.out f hD] at q
      have HX := Lib.hid hX
      clear hD hV hX
      go_wp2
      go_ret
      exact ⟨rfl, HX.out⟩
def ordK (d : Nat → Nat) (n k i : Nat) : List Nat := ((List.range k).flatMap fun k => (List.range n).filter fun i => decide (d i = k)) ++ (List.range i).filter fun i => decide (d i = k)
theorem ordK_step (d : Nat → Nat) (n k i : Nat) : ordK d n k (i + 1) = if d i = k then ordK d n k i ++ [i] else ordK d n k i := by
  unfold ordK
  rw [List.range_succ, List.filter_append]
  by_cases h : d i = k
  · rw [if_pos h]; simp [h]
  · rw [if_neg h]; simp [h]
theorem ordK_next (d : Nat → Nat) (n k : Nat) : ordK d n k n = ordK d n (k + 1) 0 := by
  unfold ordK
  rw [List.range_succ, List.flatMap_append]
  simp
theorem ordK_len (d : Nat → Nat) (n k i : Nat) (hk : k ≤ 6) (hi : i ≤ n) (hn : n ≤ 6) : (ordK d n k i).length ≤ 42 := by
  unfold ordK
  rw [List.length_append, List.length_flatMap]
  have h1 : ((List.range k).map fun k => ((List.range n).filter fun i => decide (d i = k)).length).sum ≤ k * n := by
    have key : ∀ l : List Nat, (l.map fun k => ((List.range n).filter fun i => decide (d i = k)).length).sum ≤ l.length * n := by
      intro l
      induction l with
      | nil => simp
      | cons a l ih =>
        have := List.length_filter_le (fun i => decide (d i = a)) (List.range n)
        simp only [List.map_cons, List.sum_cons, List.length_cons, List.length_range] at *
        rw [Nat.add_mul]
        omega
    simpa using key (List.range k)
  have h2 := List.length_filter_le (fun i => decide (d i = k)) (List.range i)
  have h3 : k * n ≤ 6 * 6 := Nat.mul_le_mul hk hn
  simp only [List.length_range] at h2
  omega
theorem rOrder (v : Value) (ups : List (List Int)) (w : World) (rt : Rt ups) (hL : ListsV w v ups) (hll : ∀ l ∈ ups, l.length ≤ 1000000) :
    Calls Tryd.prog 21 #[v] w (GivesI w (listI (ordN (dep ups) ups.length))) := by
  have CD := Lib.hid (fun (c : Nat) (hc : c < ups.length) w' (hx : Ext w w') => rDepth v ups c w' rt (hL.ext hx) hll hc)
  have h6 := rt.six
  have H5 : Hid (∀ c, c < ups.length → dep ups c ≤ 5) := Lib.hid (fun c hc => dep_five rt (by omega))
  obtain ⟨a, cap, e, -⟩ := id hL
  subst e
  clear hL hll rt
  generalize dep ups = d at *
  obtain ⟨n, hN⟩ : ∃ n, n = ups.length := ⟨_, rfl⟩
  rw [← hN] at h6 CD H5 ⊢
  clear hN
  generalize hG : GivesI w (listI (ordN d n)) = G
  have HG := Lib.hid hG
  clear hG
  go_enter Tryd.func21, Tryd.ntmps21
  go_wp2
  go_loopw [3, 4] (fun v i wr => ∃ k : Nat, k ≤ 6 ∧ i = .int .i64 k ∧ RI wr w.heap.size v (listI (ordK d n k 0)) ∧ Ext w wr) (fun _ i _ => 6 - (intOf i).toNat)
  case atStart => exact ⟨0, Nat.zero_le _, rfl, RI.nil _ _, Ext.refl _⟩
  case round =>
    obtain ⟨k, hk, rfl, hR, hx⟩ := hrel
    by_cases hlt : k < 6
    · have hk6 : (k : Int) < 6 := by omega
      have HR := Lib.hid hR
      have HX := Lib.hid hx
      clear hR hx
      go_wp2
      go_loopw [3, 5] (fun v i wr => ∃ j : Nat, j ≤ n ∧ i = .int .i64 j ∧ RI wr w.heap.size v (listI (ordK d n k j)) ∧ Ext w wr) (fun _ i _ => n - (intOf i).toNat)
      case atStart => exact ⟨0, Nat.zero_le _, rfl, HR.out, HX.out⟩
      case round =>
        obtain ⟨j, hj, rfl, hR, hx⟩ := hrel
        clear HR HX
        by_cases hlt2 : j < n
        · have hjn : (j : Int) < (n : Int) := by omega
          have C := Lib.hid (CD.out j hlt2 wr hx)
          have hS := ordK_step d n k j
          have hl := ordK_len d n k j hk hj h6
          rw [← listI_len] at hl
          have h5 := H5.out j hlt2
          have HR := Lib.hid hR
          have HX := Lib.hid hx
          clear hR hx
          generalize hdj : d j = dj at *
          clear hdj
          by_cases he : dj = k
          · rw [if_pos he] at hS
            have HS : Hid (listI (ordK d n k (j + 1)) = listI (ordK d n k j) ++ [(j : Int)]) := Lib.hid (by rw [hS]; unfold listI; rw [List.map_append]; rfl)
            have de : ((dj : Int) == (k : Int)) = true := by simp; omega
            clear hS he
            generalize listI (ordK d n k j) = s1 at *
            go_wp2_with fail
            refine C.out.mono ?_
            rintro e w2 ⟨rfl, X2⟩
            have HR2 := Lib.hid (HR.out.ext X2)
            have HX2 := Lib.hid (HX.out.trans X2)
            clear X2 HR HX
            go_wp2_with (at_builtin; refine app9 _ rfl _ _ rfl w _ s1 rfl (HR2.out.ext ((Ext.refl w2).alloc _)) (HX2.out.alloc _) w2.heap.size (j : Int) rfl (by simp [go_sem]) (by omega) ?_)
            intro v' w' hR' hX' _
            have HR3 := Lib.hid hR'
            have HX3 := Lib.hid hX'
            clear hR' hX'
            go_wp2
            exact ⟨⟨j + 1, by omega, by go_num, by rw [HS.out]; exact HR3.out, HX3.out⟩, by simp [intOf]; omega⟩
          · rw [if_neg he] at hS
            have HS := Lib.hid hS
            have de : ((dj : Int) == (k : Int)) = false := by simp; omega
            clear hS he
            go_wp2_with fail
            refine C.out.mono ?_
            rintro e w2 ⟨rfl, X2⟩
            have HR2 := Lib.hid (HR.out.ext X2)
            have HX2 := Lib.hid (HX.out.trans X2)
            clear X2 HR HX
            go_wp2
            exact ⟨⟨j + 1, by omega, by go_num, by rw [HS.out]; exact HR2.out, HX2.out⟩, by simp [intOf]; omega⟩
        · obtain rfl : j = n := by omega
          rw [ordK_next] at hR
          have HR := Lib.hid hR
          have HX := Lib.hid hx
          clear hR hx
          go_wp2
          exact ⟨⟨k + 1, by omega, by go_num, HR.out, HX.out⟩, by simp [intOf]; omega⟩
    · obtain rfl : k = 6 := by omega
      have e : ordK d n 6 0 = ordN d n := by unfold ordK ordN; simp
      rw [e] at hR
      have HG2 : Hid (G (.returned _) wr) := Lib.hid (by rw [← HG.out]; exact ⟨_, rfl, hR, hx⟩)
      clear hR hx e
      go_wp2
      exact HG2.out
end Go.Proofs.YtlalkefbcddbfaaDoor
