/- The walk of WideLeast. -/
import Derived.Test.YtkilonccbnohnaaLeastMath
import Derived.Test.YtkilonccbnohnaaLaw01
import Derived.Test.YtkilonccbnohnaaOpen
namespace Go.Proofs.Ytkilonccbnohnaa
open Go.RowKit
set_option linter.unusedVariables false
set_option maxHeartbeats 400000
theorem info_u32 : (Try.prog.info? 31).map (fun i => (i.zero, i.size, i.bytes)) = some (some (.int .u32 0), 1, 4) := by kernel_rfl
theorem info_u64 : (Try.prog.info? 22).map (fun i => (i.zero, i.size, i.bytes)) = some (some (.int .u64 0), 1, 8) := by kernel_rfl
theorem map_snoc (f : Int → Value) (ns : List Int) (k : Nat) (h : k < ns.length) : (ns.take (k + 1)).map f = (ns.take k).map f ++ [f (ns.getD k 0)] := by
  rw [List.take_succ_eq_append_getElem h, List.map_append]; simp [h]
theorem l32_snoc (a : Int) (ns : List Int) (k : Nat) (h : k < ns.length) : (l32 a (ns.take (k + 1))).map (Value.int .u32) = (l32 a (ns.take k)).map (Value.int .u32) ++ [.int .u32 ((a + ns.getD k 0) % 4294967296)] := by
  unfold l32; rw [List.map_map, List.map_map]; exact map_snoc _ ns k h
theorem l64_snoc (a : Int) (ns : List Int) (k : Nat) (h : k < ns.length) : (l64 a (ns.take (k + 1))).map (Value.int .u64) = (l64 a (ns.take k)).map (Value.int .u64) ++ [.int .u64 (U64 (a + ns.getD k 0))] := by
  unfold l64; rw [List.map_map, List.map_map]; exact map_snoc _ ns k h
set_option maxRecDepth 100000 in
theorem wideLeast_some (a : Int) (b off len cap : Nat) (zs : List Int) (w : World) (h0 : 0 ≤ a) (h1 : a < 18446744073709551616) (hl : len ≤ 40) (hpos : 0 < len) (hlc : len ≤ zs.length) (hb : b < w.heap.size)
    (hc : ∀ j, j < len → w.cell? ⟨b, off + j, none⟩ = some (.int .i32 (zs.getD j 0))) (hw : ∀ n ∈ zs, (Lit.int .i32 n).wf = true) :
    Calls Try.prog 6 #[.int .u64 a, .slice (some ⟨b, off, none⟩) len cap] w fun e w' => e = .returned (.bool true) ∧ Below w.heap.size w w' := by
  obtain ⟨i0, hi, hz0, hz1, hz2⟩ := info_parts info_u32
  obtain ⟨j0, hj, hy0, hy1, hy2⟩ := info_parts info_u64
  obtain ⟨ns, hns⟩ : ∃ ns, ns = (zs.take len).map (fun z => z.tmod 536870912) := ⟨_, rfl⟩
  have hnl : ns.length = len := by rw [hns]; simp; omega
  have HNL := Lib.hid hnl
  have HG : Hid (∀ j, j < len → ns.getD j 0 = (zs.getD j 0).tmod 536870912) := Lib.hid (fun j hj => by
    rw [hns]; simp [hj, show j < zs.length by omega])
  have HR : Hid (∀ j, j < len → -2147483648 ≤ zs.getD j 0 ∧ zs.getD j 0 ≤ 2147483647) := Lib.hid (fun j hj => by
    have hz : j < zs.length := by omega
    have := hw (zs.getD j 0) (by simp [hz])
    exact wf_i32 this)
  have HNear : Hid (∀ n ∈ ns, Near n) := Lib.hid (fun n hn => by
    rw [hns] at hn
    obtain ⟨z, _, rfl⟩ := List.mem_map.1 hn
    exact near_tmod z)
  have HC := Lib.hid hc
  clear hc hw hnl hns
  have hd40 : decide (40 < (len : Int)) = false := by simp; omega
  go_enter Try.func6, Try.ntmps6
  go_wp2_with fail
  refine (ofU32 _ _).mono ?_
  rintro e w' ⟨rfl, rfl⟩
  go_wp2
  go_loopw [6, 7, 8] (fun l m i wr => ∃ k : Nat, k ≤ len ∧ i = .int .i64 k ∧ wr.ownsRow w.heap.size 31 1 l k ((l32 a (ns.take k)).map (Value.int .u32)) ∧ wr.ownsRow w.heap.size 22 1 m k ((l64 a (ns.take k)).map (Value.int .u64)) ∧ Below w.heap.size w wr)
    (fun _ _ i _ => len - (intOf i).toNat)
  case atStart => exact ⟨0, Nat.zero_le _, rfl, World.ownsRow_nil _ _ _ _, World.ownsRow_nil _ _ _ _, Below.refl _ _⟩
  case round =>
    obtain ⟨k, hk, rfl, ho1, ho2, hbel⟩ := hrel
    by_cases hlt : k < len
    · have hcx := (hbel.cell (p := ⟨b, off + k, none⟩) hb).trans (HC.out k hlt)
      have hr := HR.out k hlt
      have HN := Lib.hid (HG.out k hlt)
      have hkl : (k : Int) < (len : Int) := by omega
      have hkn : k < ns.length := by have := HNL.out; omega
      have S1 := Lib.hid (l32_snoc a ns k hkn)
      have S2 := Lib.hid (l64_snoc a ns k hkn)
      have HW : Hid (wrap64 ((zs.getD k 0).tmod 536870912) = ns.getD k 0) := Lib.hid (by
        rw [HN.out]
        have h := near_tmod (zs.getD k 0)
        unfold Near at h
        unfold wrap64; omega)
      clear hkn HN
      generalize zs.getD k 0 = z at *
      generalize ns.getD k 0 = n at *
      go_wp2_with fail
      rw [HW.out]
      refine (addU32 _ _ _).mono ?_
      rintro e w' ⟨rfl, rfl⟩
      go_wp2_with (at_builtin; refine wpList_append_own _ rfl _ _ 41 rfl w.heap.size 31 i0 (.int .u32 0) 1 4 Try.underlying41 hi hz0 hz1 hz2 rfl (by decide) _ _ _ rfl (ho1.alloc _) ⟨wr.heap.size, 0, none⟩ 1 1 [.int .u32 ((a + n) % 4294967296)] rfl rfl ?c1 ?c2 ?c3 ?c4 ?c5 ?_)
      case c1 =>
        intro j u hj
        match j, hj with
        | 0, hj => simp at hj; subst hj; simp [Addr.add]
      case c2 => intro u hu; simp at hu; subst hu; rfl
      case c3 => unfold maxLen; omega
      case c4 => omega
      case c5 => have := hbel.size; simp; omega
      intro v1 w1 hv1 hg1 _
      rw [← S1.out] at hv1
      have hb1 : Below w.heap.size w w1 := (hbel.alloc hbel.size _).grown hg1 (by have := hbel.size; simp; omega) (fun j h => (ho1.lt j h).1)
      have ho3 : w1.ownsRow w.heap.size 22 1 u7 k ((l64 a (ns.take k)).map (Value.int .u64)) := (ho2.alloc _).kept hg1 (rows_apart ho2 ho1 (by decide))
      clear ho1 ho2 hbel hg1 hcx
      go_wp2_with fail
      refine (addU64 _ _ _).mono ?_
      rintro e w' ⟨rfl, rfl⟩
      go_wp2_with (at_builtin; refine wpList_append_own _ rfl _ _ 42 rfl w.heap.size 22 j0 (.int .u64 0) 1 8 Try.underlying42 hj hy0 hy1 hy2 rfl (by decide) _ _ _ rfl (ho3.alloc _) ⟨w1.heap.size, 0, none⟩ 1 1 [.int .u64 (U64 (a + n))] rfl rfl ?d1 ?d2 ?d3 ?d4 ?d5 ?_)
      case d1 =>
        intro j u hj
        match j, hj with
        | 0, hj => simp at hj; subst hj; simp [Addr.add]
      case d2 => intro u hu; simp at hu; subst hu; rfl
      case d3 => unfold maxLen; omega
      case d4 => omega
      case d5 => have := hb1.size; simp; omega
      intro v2 w2 hv2 hg2 _
      rw [← S2.out] at hv2
      have hb2 : Below w.heap.size w w2 := (hb1.alloc hb1.size _).grown hg2 (by have := hb1.size; simp; omega) (fun j h => (ho3.lt j h).1)
      have hv3 : w2.ownsRow w.heap.size 31 1 v1 (k + 1) ((l32 a (ns.take (k + 1))).map (Value.int .u32)) := (hv1.alloc _).kept hg2 (rows_apart hv1 ho3 (by decide))
      clear hv1 ho3 hb1 hg2
      go_wp2
      exact ⟨⟨k + 1, by omega, by go_num, hv3, hv2, hb2⟩, by simp [intOf]; omega⟩
    · obtain rfl : k = len := by omega
      have I1 := Lib.hid (ints_of_row ho1)
      have I2 := Lib.hid (ints_of_row ho2)
      have HT : ns.take k = ns := List.take_of_length_le (by have := HNL.out; omega)
      rw [HT] at I1 I2
      have HB := Lib.hid hbel
      clear ho1 ho2 hbel HT hlt HG HR HC hd40
      have hlen : (l32 a ns).length = k := by rw [l32, List.length_map]; exact HNL.out
      have hlen2 : (l64 a ns).length = k := by rw [l64, List.length_map]; exact HNL.out
      obtain ⟨b1, o1, c1, e1, hc1⟩ : ∃ b1 o1 c1, u6 = .slice (some ⟨b1, o1, none⟩) k c1 ∧ Hid (∀ j, j < k → wr.cell? ⟨b1, o1 + j, none⟩ = some (.int .u32 ((a + ns.getD j 0) % 4294967296))) := by
        rcases I1.out with ⟨_, h⟩ | ⟨b1, o1, c1, h1, h2⟩
        · rw [h] at hlen; simp at hlen; omega
        · refine ⟨b1, o1, c1, by rw [h1, hlen], Lib.hid (fun j hj => ?_)⟩
          rw [h2 j (by omega), l32_get a ns j (by have := HNL.out; omega)]
      obtain ⟨b2, o2, c2, e2, hc2⟩ : ∃ b2 o2 c2, u7 = .slice (some ⟨b2, o2, none⟩) k c2 ∧ Hid (∀ j, j < k → wr.cell? ⟨b2, o2 + j, none⟩ = some (.int .u64 (U64 (a + ns.getD j 0)))) := by
        rcases I2.out with ⟨_, h⟩ | ⟨b2, o2, c2, h1, h2⟩
        · rw [h] at hlen2; simp at hlen2; omega
        · refine ⟨b2, o2, c2, by rw [h1, hlen2], Lib.hid (fun j hj => ?_)⟩
          rw [h2 j (by omega), l64_get a ns j (by have := HNL.out; omega)]
      rw [e1, e2]
      rw [e1] at I1
      rw [e2] at I2
      clear e1 e2
      have hz : Near 0 := by unfold Near; omega
      have hnear := minL_near ns 0 hz HNear.out
      have HL1 : Hid (least32 (a % 4294967296) (l32 a ns) = (a + minL 0 ns) % 4294967296) := Lib.hid (by
        have h := least32_near a ns 0 hz HNear.out
        rwa [Int.add_zero] at h)
      have HL2 : Hid (least64 a (l64 a ns) = U64 (a + minL 0 ns)) := Lib.hid (by
        have h := least64_near a ns 0 hz HNear.out
        rwa [Int.add_zero, U64_of h0 h1] at h)
      have HLE := Lib.hid (minL_le ns 0).2
      have HE := Lib.hid (fnd_end ns)
      generalize minL 0 ns = mu at *
      have F1 := fnd0_32 a mu ns hnear
      have F2 := fnd0_64 a mu ns hnear h0 h1
      have D1 := Lib.hid (lead32 a mu hnear)
      have D2 := Lib.hid (lead64 a mu hnear)
      have HB1 : (l32 a ns).length ≤ 1000000 := by omega
      have HB2 : (l64 a ns).length ≤ 1000000 := by omega
      clear hlen hlen2
      go_wp2_with fail
      refine (leastU32 _ _ _ _ I1.out HB1).mono ?_
      rintro e w' ⟨rfl, rfl⟩
      rw [HL1.out]
      go_wp2_with fail
      refine (leastU64 _ _ _ _ I2.out HB2).mono ?_
      rintro e w' ⟨rfl, rfl⟩
      rw [HL2.out]
      clear I1 I2 HB1 HB2
      go_wp2
      go_loop [12, 13, 14] (fun f g i => ∃ j : Nat, j ≤ k ∧ i = .int .i64 j ∧ f = .bool (fnd ns mu j) ∧ g = .bool (fnd ns mu j)) (fun _ _ i => k - (intOf i).toNat)
      case atStart => exact ⟨0, Nat.zero_le _, rfl, rfl, rfl⟩
      case round =>
        obtain ⟨j, hj, rfl, rfl, rfl⟩ := hrel
        clear F1 F2
        by_cases hjk : j < k
        · have hjn : j < ns.length := by have := HNL.out; omega
          have ce1 := hc1.out j hjk
          have ce2 := hc2.out j hjk
          have hnj := HNear.out _ (getD_mem ns j hjn)
          have hle := HLE.out _ (getD_mem ns j hjn)
          have N1 := Lib.hid (near32 a mu (ns.getD j 0) hnear hnj)
          have N2 := Lib.hid (near64 a mu (ns.getD j 0) hnear hnj)
          have E1 := eq32 a mu (ns.getD j 0) hnear hnj
          have E2 := eq64 a mu (ns.getD j 0) hnear hnj
          have HS := Lib.hid (fnd_succ ns mu j hjn)
          clear hjn
          generalize ns.getD j 0 = n at *
          have dn : decide (n - mu < 0) = false := by simp; omega
          have hjk' : (j : Int) < (k : Int) := by omega
          go_wp2_with fail
          refine (lessU32 _ _ _).mono ?_
          rintro e w' ⟨rfl, rfl⟩
          rw [N1.out, dn]
          go_wp2_with fail
          refine (lessU64 _ _ _).mono ?_
          rintro e w' ⟨rfl, rfl⟩
          rw [N2.out, dn]
          cases hb0 : fnd ns mu j
          · go_wp2
            refine ⟨⟨j + 1, by omega, by go_num, ?_, ?_⟩, by simp [intOf]; omega⟩
            · rw [HS.out, hb0]; rfl
            · rw [HS.out, hb0]; rfl
          · go_wp2
            refine ⟨⟨j + 1, by omega, by go_num, ?_, ?_⟩, by simp [intOf]; omega⟩
            · rw [HS.out, hb0]; rfl
            · rw [HS.out, hb0]; rfl
        · obtain rfl : j = k := by omega
          have HE' : fnd ns mu j = true := by have h := HE.out; rwa [HNL.out] at h
          go_wp2_with fail
          refine (diffU64 _ _ _).mono ?_
          rintro e w' ⟨rfl, rfl⟩
          rw [D2.out]
          go_wp2_with fail
          refine (diffU32 _ _ _).mono ?_
          rintro e w' ⟨rfl, rfl⟩
          rw [D1.out]
          go_wp2_with fail
          refine (live01 _).mono ?_
          rintro e w' ⟨rfl, rfl⟩
          go_wp2
          go_ret
          exact ⟨rfl, HB.out⟩
theorem wideLeast_zero (a : Int) (ad : Option Addr) (cap : Nat) (w : World) (h0 : 0 ≤ a) (h1 : a < 18446744073709551616) :
    Calls Try.prog 6 #[.int .u64 a, .slice ad 0 cap] w fun e w' => e = .returned (.bool true) ∧ Below w.heap.size w w' := by
  have z1 : D32 (a % 4294967296 - a % 4294967296) = 0 := by rw [Int.sub_self]; decide
  have z2 : D64 (a - a) = 0 := by rw [Int.sub_self]; decide
  have Z1 := Lib.hid z1
  have Z2 := Lib.hid z2
  clear z1 z2
  go_enter Try.func6, Try.ntmps6
  go_wp2_with fail
  refine (ofU32 _ _).mono ?_
  rintro e w' ⟨rfl, rfl⟩
  go_wp2
  refine wp_loop_rounds 1 ?_
  rw [rounds_succ]
  go_wp2_with fail
  refine (leastU32 _ _ [] _ (.inl ⟨rfl, rfl⟩) (by simp)).mono ?_
  rintro e w' ⟨rfl, rfl⟩
  rw [show least32 (a % 4294967296) [] = a % 4294967296 from rfl]
  go_wp2_with fail
  refine (leastU64 _ _ [] _ (.inl ⟨rfl, rfl⟩) (by simp)).mono ?_
  rintro e w' ⟨rfl, rfl⟩
  rw [show least64 a [] = a from rfl]
  go_wp2
  refine wp_loop_rounds 1 ?_
  rw [rounds_succ]
  go_wp2_with fail
  refine (diffU64 _ _ _).mono ?_
  rintro e w' ⟨rfl, rfl⟩
  rw [Z2.out]
  go_wp2_with fail
  refine (diffU32 _ _ _).mono ?_
  rintro e w' ⟨rfl, rfl⟩
  rw [Z1.out]
  go_wp2_with fail
  refine (live01 _).mono ?_
  rintro e w' ⟨rfl, rfl⟩
  go_wp2
  go_ret
  exact ⟨rfl, Below.refl _ _⟩
theorem wideLeast_many (a : Int) (ad : Option Addr) (len cap : Nat) (w : World) (hl : 40 < len) :
    Calls Try.prog 6 #[.int .u64 a, .slice ad len cap] w fun e w' => e = .returned (.bool true) ∧ Below w.heap.size w w' := by
  have hd40 : decide (40 < (len : Int)) = true := by simp; omega
  go_enter Try.func6, Try.ntmps6
  go_wp2_with fail
  refine (live01 _).mono ?_
  rintro e w' ⟨rfl, rfl⟩
  go_wp2
  go_ret
  exact ⟨rfl, Below.refl _ _⟩
theorem wideLeast_walk (a : Int) (ad : Option Addr) (len cap : Nat) (zs : List Int) (w : World) (w0 : (Lit.int .u64 a).wf = true) (w1 : IsRow .i32 w ad len cap zs) :
    Calls Try.prog 6 #[.int .u64 a, .slice ad len cap] w fun e w' => e = .returned (.bool true) ∧ Below w.heap.size w w' := by
  have ha := wf_u64 w0
  by_cases h0 : len = 0
  · subst h0; exact wideLeast_zero a ad cap w ha.1 ha.2
  by_cases h40 : 40 < len
  · exact wideLeast_many a ad len cap w h40
  rcases w1 with ⟨_, h, _⟩ | ⟨x, rfl, hlc, hm, hz, hcell, hwf⟩
  · exact absurd h h0
  · obtain ⟨b, off, rfl, hc⟩ := ints_at hcell (by omega)
    have hb : b < w.heap.size := World.block_lt_of_cell? w ⟨b, off + 0, none⟩ (hc 0 (by omega))
    exact wideLeast_some a b off len cap zs w ha.1 ha.2 (by omega) (by omega) (by omega) hb (fun j hj => hc j (by omega)) hwf
end Go.Proofs.Ytkilonccbnohnaa
