/- octet: fresh, put, Put, PutInt, PutList; the reference's Put, List. -/
import Derived.Test.YtkikiehgkggfmaaOctA
import Derived.Test.YtkikiehgkggfmaaInts
namespace Go.Proofs.Ytkikiehgkggfmaa
open Go.RowKit
set_option linter.unusedVariables false
set_option maxHeartbeats 1000000
/-- a call goes on in a row of the caller's: what was there, and these -/
def PutsB (W : World) (bs : List UInt8) (e : Ending) (w' : World) : Prop := ∃ v, e = .returned v ∧ RB w' W.heap.size v bs ∧ Ext W w'
theorem oFresh (v : Value) (bs : List UInt8) (room : Nat) (w : World) (h : BytesV w v bs) (hl : bs.length ≤ 100000) (hr : room ≤ 100000) : Calls Try.prog 26 #[v, .int .i64 room] w (PutsB w bs) := by
  obtain ⟨i0, hi, hz0, hz1, hz2⟩ := info_parts info_byte
  have hmk := fun W => run_makeSlice_owned (P := Try.prog) W w.heap.size 24 5 i0 (.int .u8 0) 1 Try.underlying24 hi hz0 hz1 .i64 .i64 (bs.length + room) (by omega) (by rw [hz2]; omega) (by unfold maxLen; omega)
  obtain ⟨w1, hr1, ho1, hg1⟩ := hmk w (Nat.le_refl _)
  have X1 : Ext w w1 := (Ext.refl w).grown hg1 (fun j h => by cases h)
  have HO : Hid (RB w1 w.heap.size (.slice (some ⟨w.heap.size, 0, none⟩) 0 (bs.length + room)) []) := Lib.hid ho1
  have hb1 : BytesV w1 v bs := h.ext X1
  have HB := Lib.hid hb1
  have HX := Lib.hid X1
  obtain ⟨a, cap, rfl⟩ := h.form
  obtain ⟨n, hn⟩ : ∃ n, n = bs.length := ⟨_, rfl⟩
  rw [← hn] at hr1 HO HB hl ⊢
  have HN := Lib.hid hn
  have hc : ((n + room : Nat) : Int) = (n : Int) + (room : Int) := by omega
  rw [hc] at hr1
  clear hmk ho1 hg1 hb1 X1 h hc hn
  go_enter Try.func26, Try.ntmps26
  go_wp2_with (at_builtin; refine appBx _ rfl _ _ rfl w _ [] rfl HO.out HX.out _ bs rfl HB.out (by simp) ?c1 ?_)
  case c1 => have := HN.out; omega
  intro v2 w2 R2 X2
  have HR := Lib.hid R2
  clear R2
  go_wp2
  go_ret
  exact ⟨_, rfl, HR.out, X2⟩
theorem enc_lit (x : Nat) (w : World) (c : UInt8) (z : Int) (h : z = (c.toNat : Int)) : BytesV (w.alloc (.cells #[.int .u8 z] 5)) (.slice (some ⟨w.heap.size, 0, none⟩) 1 1) [c] := bytes_one (by simp [go_sem]) h
theorem or_u8 (r : Nat) (h : r < 128) : bits .or .u8 128 (r : Int) = 128 + (r : Int) := by
  have : ∀ r : Fin 128, bits .or .u8 128 ((r.val : Nat) : Int) = 128 + ((r.val : Nat) : Int) := by decide +kernel
  exact this ⟨r, h⟩
/-- put: the words' bytes behind a row of the caller's -/
theorem oput (W : World) (v : Value) (bs : List UInt8) (x : Nat) (w : World) (hW : Ext W w) (hR : RB w W.heap.size v bs) (hl : bs.length ≤ 900000) (hx : x < 18446744073709551616) :
    Calls Try.prog 25 #[v, .int .u64 x] w (PutsB W (bs ++ enc x)) := by
  have HR := Lib.hid hR
  have hel := enc_len x hx
  have HG : Hid (∀ v' w', RB w' W.heap.size v' (bs ++ enc x) → Ext W w' → PutsB W (bs ++ enc x) (.returned v') w') := Lib.hid (fun v' w' h1 h2 => ⟨v', rfl, h1, h2⟩)
  clear hR
  go_enter Try.func25, Try.ntmps25
  go_wp2
  go_loopw [0, 1] (fun b y wr => ∃ (es : List UInt8) (q : Nat), y = .int .u64 (q : Nat) ∧ q < 18446744073709551616 ∧ Hid (es ++ enc q = bs ++ enc x) ∧ RB wr W.heap.size b es ∧ Ext W wr) (fun _ y _ => (intOf y).toNat)
  case atStart => exact ⟨bs, x, rfl, hx, Lib.hid rfl, HR.out, hW⟩
  case round =>
    obtain ⟨es, q, rfl, hq, HE, R, hX⟩ := hrel
    have HR2 := Lib.hid R
    clear R HR
    have hes : es.length ≤ 1000000 := by have := congrArg List.length HE.out; simp at this; omega
    by_cases hs : q < 128
    · have hlt : ¬ (128 ≤ (q : Int)) := by omega
      obtain ⟨c, hc⟩ : ∃ c, c = UInt8.ofNat q := ⟨_, rfl⟩
      have HQ : Hid (bs ++ enc x = es ++ [c]) := Lib.hid (by rw [← HE.out, enc_small hs, hc])
      have hm : (q : Int) % 256 = (q : Int) := by omega
      have HC : Hid ((q : Int) = (c.toNat : Int)) := Lib.hid (by rw [hc, byte_of (by omega)])
      clear hc
      go_wp2_with (at_builtin; refine appBx _ rfl _ _ rfl W _ es rfl (((Ext.refl wr).alloc _).row HR2.out) (hX.alloc _) _ [c] rfl (enc_lit q wr _ _ HC.out) hes (by simp) ?_)
      intro v1 w1 R1 X1
      have HD := Lib.hid (HG.out v1 w1 (by rw [HQ.out]; exact R1) X1)
      clear R1 HR2 HG HE
      go_wp2
      first | exact HD.out | (go_ret; exact HD.out)
    · have hlt : 128 ≤ (q : Int) := by omega
      obtain ⟨r, hr⟩ : ∃ r, r = q % 128 := ⟨_, rfl⟩
      obtain ⟨d, hd⟩ : ∃ d, d = q / 128 := ⟨_, rfl⟩
      have e1 : (q : Int) % 128 = (r : Int) := by omega
      have e2 : (q : Int) / 128 = (d : Int) := by omega
      have e3 := or_u8 r (by omega)
      have hr2 : r < 128 := by omega
      have hd2 : d < q := by omega
      obtain ⟨c, hc⟩ : ∃ c, c = UInt8.ofNat (128 + r) := ⟨_, rfl⟩
      have HE2 : Hid ((es ++ [c]) ++ enc d = bs ++ enc x) := Lib.hid (by rw [← HE.out, enc_big hs, ← hr, ← hd, List.append_assoc, hc]; rfl)
      have HC : Hid (128 + (r : Int) = (c.toNat : Int)) := Lib.hid (by rw [hc, byte_of (by omega)]; omega)
      clear hr hd hc
      go_wp2_with (at_builtin; refine appBx _ rfl _ _ rfl W _ es rfl (((Ext.refl wr).alloc _).row HR2.out) (hX.alloc _) _ [c] rfl (enc_lit q wr _ _ HC.out) hes (by simp) ?_)
      intro v1 w1 R1 X1
      have HR3 := Lib.hid R1
      clear R1 HR2
      go_wp2
      exact ⟨⟨es ++ [c], d, by first | rfl | go_num, by omega, HE2, HR3.out, X1⟩, by simp [intOf]; omega⟩
/-- the reference's Put -/
theorem rPut (x : Nat) (w : World) (hx : x < 18446744073709551616) : Calls Try.prog 9 #[.int .u64 x] w (PutsB w (enc x)) := by
  have hel := enc_len x hx
  have HG : Hid (∀ v' w', RB w' w.heap.size v' (enc x) → Ext w w' → PutsB w (enc x) (.returned v') w') := Lib.hid (fun v' w' h1 h2 => ⟨v', rfl, h1, h2⟩)
  go_enter Try.func9, Try.ntmps9
  go_wp2
  go_loopw [0, 3] (fun y b wr => ∃ (es : List UInt8) (q : Nat), y = .int .u64 (q : Nat) ∧ q < 18446744073709551616 ∧ Hid (es ++ enc q = enc x) ∧ RB wr w.heap.size b es ∧ Ext w wr) (fun y _ _ => (intOf y).toNat)
  case atStart => exact ⟨[], x, rfl, hx, Lib.hid rfl, World.ownsRow_nil _ _ _ _, Ext.refl _⟩
  case round =>
    obtain ⟨es, q, rfl, hq, HE, R, hX⟩ := hrel
    have HR2 := Lib.hid R
    clear R
    have hes : es.length ≤ 1000000 := by have := congrArg List.length HE.out; simp at this; omega
    by_cases hs : q < 128
    · have hlt : ¬ (127 < (q : Int)) := by omega
      obtain ⟨c, hc⟩ : ∃ c, c = UInt8.ofNat q := ⟨_, rfl⟩
      have HQ : Hid (enc x = es ++ [c]) := Lib.hid (by rw [← HE.out, enc_small hs, hc])
      have hm : (q : Int) % 256 = (q : Int) := by omega
      have HC : Hid ((q : Int) = (c.toNat : Int)) := Lib.hid (by rw [hc, byte_of (by omega)])
      clear hc
      go_wp2_with (at_builtin; refine appBx _ rfl _ _ rfl w _ es rfl (((Ext.refl wr).alloc _).row HR2.out) (hX.alloc _) _ [c] rfl (enc_lit q wr _ _ HC.out) hes (by simp) ?_)
      intro v1 w1 R1 X1
      have HD := Lib.hid (HG.out v1 w1 (by rw [HQ.out]; exact R1) X1)
      clear R1 HR2 HG HE
      go_wp2
      first | exact HD.out | (go_ret; exact HD.out)
    · have hlt : 127 < (q : Int) := by omega
      obtain ⟨r, hr⟩ : ∃ r, r = q % 128 := ⟨_, rfl⟩
      obtain ⟨d, hd⟩ : ∃ d, d = q / 128 := ⟨_, rfl⟩
      have e1 : (q : Int) % 128 = (r : Int) := by omega
      have e2 : (q : Int) / 128 = (d : Int) := by omega
      have e3 : (128 + (r : Int)) % 256 = 128 + (r : Int) := by omega
      have hr2 : r < 128 := by omega
      have hd2 : d < q := by omega
      obtain ⟨c, hc⟩ : ∃ c, c = UInt8.ofNat (128 + r) := ⟨_, rfl⟩
      have HE2 : Hid ((es ++ [c]) ++ enc d = enc x) := Lib.hid (by rw [← HE.out, enc_big hs, ← hr, ← hd, List.append_assoc, hc]; rfl)
      have HC : Hid (128 + (r : Int) = (c.toNat : Int)) := Lib.hid (by rw [hc, byte_of (by omega)]; omega)
      clear hr hd hc
      go_wp2_with (at_builtin; refine appBx _ rfl _ _ rfl w _ es rfl (((Ext.refl wr).alloc _).row HR2.out) (hX.alloc _) _ [c] rfl (enc_lit q wr _ _ HC.out) hes (by simp) ?_)
      intro v1 w1 R1 X1
      have HR3 := Lib.hid R1
      clear R1 HR2
      go_wp2
      exact ⟨⟨es ++ [c], d, by first | rfl | go_num, by omega, HE2, HR3.out, X1⟩, by simp [intOf]; omega⟩
theorem oPut (v : Value) (bs : List UInt8) (x : Nat) (w : World) (h : BytesV w v bs) (hl : bs.length ≤ 100000) (hx : x < 18446744073709551616) : Calls Try.prog 8 #[v, .int .u64 x] w (PutsB w (bs ++ enc x)) := by
  have hel := enc_len x hx
  have C1 := Lib.hid fun w => oLen x w hx
  have C2 := Lib.hid (oFresh v bs (enc x).length w h hl (by omega))
  have C3 := Lib.hid fun v1 w1 hX R => oput w v1 bs x w1 hX R (by omega) hx
  generalize bs ++ enc x = es at *
  clear h
  go_enter Try.func8, Try.ntmps8
  go_wp2_with fail
  refine (C1.out _).mono ?_
  rintro e w' ⟨rfl, rfl⟩
  go_wp2_with fail
  refine C2.out.mono ?_
  rintro e w1 ⟨v1, rfl, R1, X1⟩
  have HR := Lib.hid R1
  clear R1
  go_wp2_with fail
  refine (C3.out v1 w1 X1 HR.out).mono ?_
  rintro e w2 ⟨v2, rfl, R2, X2⟩
  have HR2 := Lib.hid R2
  clear R2
  go_wp2
  go_ret
  exact ⟨_, rfl, HR2.out, X2⟩
theorem oPutInt (v : Value) (bs : List UInt8) (n : Int) (w : World) (h : BytesV w v bs) (hl : bs.length ≤ 100000) (h0 : -9223372036854775808 ≤ n) (h1 : n ≤ 9223372036854775807) : Calls Try.prog 15 #[v, .int .i64 n] w (PutsB w (bs ++ enc (zig n))) := by
  have C1 := Lib.hid fun w => oZig n w h0 h1
  have C2 := Lib.hid (oPut v bs (zig n) w h hl (zig_lt n h0 h1))
  generalize bs ++ enc (zig n) = es at *
  generalize zig n = z at *
  clear h
  go_enter Try.func15, Try.ntmps15
  go_wp2_with fail
  refine (C1.out _).mono ?_
  rintro e w' ⟨rfl, rfl⟩
  go_wp2_with fail
  refine C2.out.mono ?_
  rintro e w2 ⟨v2, rfl, R2, X2⟩
  have HR2 := Lib.hid R2
  clear R2
  go_wp2
  go_ret
  exact ⟨_, rfl, HR2.out, X2⟩
theorem intsV_form {w : World} {v : Value} {xs : List Int} (h : IntsV w v xs) : ∃ a cap, v = .slice a xs.length cap := by
  rcases h with ⟨a, cap, rfl, rfl⟩ | ⟨b, off, cap, rfl, _⟩
  · exact ⟨a, cap, rfl⟩
  · exact ⟨_, cap, rfl⟩
theorem intsV_full {w : World} {v : Value} {xs : List Int} (h : IntsV w v xs) (h0 : 0 < xs.length) : ∃ b off cap, v = .slice (some ⟨b, off, none⟩) xs.length cap ∧ ∀ j, j < xs.length → w.cell? ⟨b, off + j, none⟩ = some (.int .i64 (xs.getD j 0)) := by
  rcases h with ⟨a, cap, rfl, rfl⟩ | h
  · simp at h0
  · exact h
theorem encs_take (l : List Int) (k : Nat) (h : k < l.length) : encs (l.take (k + 1)) = encs (l.take k) ++ enc (zig (l.getD k 0)) := by
  rw [List.take_succ_eq_append_getElem h, encs_snoc]
  simp [h]
theorem encs_len (l : List Int) (hb : ∀ n ∈ l, okI64 n) : (encs l).length ≤ 10 * l.length := by
  induction l with
  | nil => simp [encs]
  | cons n l ih =>
    rw [encs_cons, List.length_append, List.length_cons]
    have := ih fun m hm => hb m (by simp [hm])
    obtain ⟨h0, h1⟩ := hb n (by simp)
    have := enc_len _ (zig_lt n h0 h1)
    omega
theorem oPutList (v u : Value) (bs : List UInt8) (l : List Int) (w : World) (h : BytesV w v bs) (h2 : IntsV w u l) (hl : bs.length ≤ 5000) (hl2 : l.length ≤ 5000) (hb : ∀ n ∈ l, okI64 n) : Calls Try.prog 16 #[v, u] w (PutsB w (bs ++ encL l)) := by
  have hlx : l.length < 18446744073709551616 := by omega
  have hel := enc_len l.length hlx
  have C1 := Lib.hid fun w => oLen l.length w hlx
  have C2 := Lib.hid (oFresh v bs ((enc l.length).length + l.length) w h (by omega) (by omega))
  have C3 := Lib.hid fun v1 w1 hX R => oput w v1 bs l.length w1 hX R (by omega) hlx
  have HT : Hid (∀ k, k ≤ l.length → ((bs ++ enc l.length) ++ encs (l.take k)).length ≤ 900000) := Lib.hid (fun k hk => by
    have := encs_len (l.take k) fun n hn => hb n (List.mem_of_mem_take hn)
    rw [List.length_take] at this
    simp
    omega)
  have HE : Hid ((bs ++ enc l.length) ++ encs (l.take l.length) = bs ++ encL l) := Lib.hid (by rw [List.take_length, encL, List.append_assoc])
  have HZ0 : Hid ((bs ++ enc l.length) ++ encs (l.take 0) = bs ++ enc l.length) := Lib.hid (by simp [encs])
  have HS : Hid (∀ k, k < l.length → (bs ++ enc l.length) ++ encs (l.take (k + 1)) = ((bs ++ enc l.length) ++ encs (l.take k)) ++ enc (zig (l.getD k 0))) := Lib.hid (fun k hk => by rw [encs_take l k hk]; simp)
  have HB : Hid (∀ k, k < l.length → okI64 (l.getD k 0)) := Lib.hid (fun k hk => hb _ (by simp [hk]))
  have HI : Hid (∀ k, k < l.length → ∃ b off cap, u = .slice (some ⟨b, off, none⟩) l.length cap ∧ w.cell? ⟨b, off + k, none⟩ = some (.int .i64 (l.getD k 0))) := Lib.hid (fun k hk => by
    obtain ⟨b, off, cap, e, hc⟩ := intsV_full h2 (by omega)
    exact ⟨b, off, cap, e, hc k hk⟩)
  obtain ⟨a2, cap2, rfl⟩ := intsV_form h2
  obtain ⟨n, hn⟩ : ∃ n, n = l.length := ⟨_, rfl⟩
  rw [← hn] at C1 C2 C3 HE HZ0 HS HB HI HT hl2 hel ⊢
  generalize bs ++ encL l = rs at *
  have hc : (((enc n).length + n : Nat) : Int) = ((enc n).length : Int) + (n : Int) := by omega
  rw [hc] at C2
  generalize (enc n).length = m at *
  generalize bs ++ enc n = es at *
  clear hn h h2 hb hc hlx
  go_enter Try.func16, Try.ntmps16
  go_wp2_with fail
  refine (C1.out _).mono ?_
  rintro e w' ⟨rfl, rfl⟩
  go_wp2_with fail
  refine C2.out.mono ?_
  rintro e w1 ⟨v1, rfl, R1, X1⟩
  have HR := Lib.hid R1
  clear R1
  go_wp2_with fail
  refine (C3.out v1 w1 X1 HR.out).mono ?_
  rintro e w2 ⟨v2, rfl, R2, X2⟩
  rw [← HZ0.out] at R2
  have HR2 := Lib.hid R2
  clear R2 HR X1
  go_wp2
  go_loopw [6, 23] (fun o i wr => ∃ k : Nat, k ≤ n ∧ i = .int .i64 k ∧ RB wr w.heap.size o (es ++ encs (l.take k)) ∧ Ext w wr) (fun _ i _ => n - (intOf i).toNat)
  case atStart => exact ⟨0, Nat.zero_le _, rfl, HR2.out, X2⟩
  case round =>
    obtain ⟨k, hk, rfl, R, hX⟩ := hrel
    have HRk := Lib.hid R
    clear R HR2 X2
    by_cases hlt : k < n
    · obtain ⟨b, off, cap, ev, hcell⟩ := HI.out k hlt
      injection ev with e1 e2 e3
      subst e1
      have d1 := hX.cell hcell
      obtain ⟨b0, b1⟩ := HB.out k hlt
      have hS := HS.out k hlt
      have hT := HT.out k (by omega)
      generalize l.getD k 0 = z at *
      have Z1 := Lib.hid fun w => oZig z w b0 b1
      have Z2 := Lib.hid fun v1 w1 hX R => oput w v1 (es ++ encs (l.take k)) (zig z) w1 hX R hT (zig_lt z b0 b1)
      rw [← hS] at Z2
      generalize zig z = q at *
      have hkn : (k : Int) < (n : Int) := by omega
      clear hS hcell e2 e3 HI hT
      go_wp2_with fail
      refine (Z1.out _).mono ?_
      rintro e w' ⟨rfl, rfl⟩
      go_wp2_with fail
      refine (Z2.out _ _ hX HRk.out).mono ?_
      rintro e w5 ⟨v5, rfl, R5, X5⟩
      have HR5 := Lib.hid R5
      clear R5 HRk hX
      go_wp2
      exact ⟨⟨k + 1, by omega, by go_num, HR5.out, X5⟩, by simp [intOf]; omega⟩
    · obtain rfl : k = n := by omega
      have hE := HE.out
      rw [hE] at HRk
      clear hE HE
      go_wp2
      go_ret
      exact ⟨_, rfl, HRk.out, hX⟩
theorem rList (u : Value) (l : List Int) (w : World) (h2 : IntsV w u l) (hl2 : l.length ≤ 5000) (hb : ∀ n ∈ l, okI64 n) : Calls Try.prog 17 #[u] w (PutsB w (encL l)) := by
  have hlx : l.length < 18446744073709551616 := by omega
  have hel := enc_len l.length hlx
  have C1 := Lib.hid fun w => rPut l.length w hlx
  have HT : Hid (∀ k, k ≤ l.length → ((enc l.length) ++ encs (l.take k)).length ≤ 900000) := Lib.hid (fun k hk => by
    have := encs_len (l.take k) fun n hn => hb n (List.mem_of_mem_take hn)
    rw [List.length_take] at this
    simp
    omega)
  have HE : Hid ((enc l.length) ++ encs (l.take l.length) = encL l) := Lib.hid (by rw [List.take_length, encL])
  have HZ0 : Hid ((enc l.length) ++ encs (l.take 0) = enc l.length) := Lib.hid (by simp [encs])
  have HS : Hid (∀ k, k < l.length → (enc l.length) ++ encs (l.take (k + 1)) = ((enc l.length) ++ encs (l.take k)) ++ enc (zig (l.getD k 0))) := Lib.hid (fun k hk => by rw [encs_take l k hk]; simp)
  have HB : Hid (∀ k, k < l.length → okI64 (l.getD k 0)) := Lib.hid (fun k hk => hb _ (by simp [hk]))
  have HI : Hid (∀ k, k < l.length → ∃ b off cap, u = .slice (some ⟨b, off, none⟩) l.length cap ∧ w.cell? ⟨b, off + k, none⟩ = some (.int .i64 (l.getD k 0))) := Lib.hid (fun k hk => by
    obtain ⟨b, off, cap, e, hc⟩ := intsV_full h2 (by omega)
    exact ⟨b, off, cap, e, hc k hk⟩)
  obtain ⟨a2, cap2, rfl⟩ := intsV_form h2
  obtain ⟨n, hn⟩ : ∃ n, n = l.length := ⟨_, rfl⟩
  rw [← hn] at C1 HE HZ0 HS HB HI HT hl2 hel ⊢
  generalize encL l = rs at *
  generalize enc n = es at *
  clear hn h2 hb hlx hel
  go_enter Try.func17, Try.ntmps17
  go_wp2_with fail
  refine (C1.out _).mono ?_
  rintro e w1 ⟨v1, rfl, R1, X1⟩
  rw [← HZ0.out] at R1
  have HR := Lib.hid R1
  clear R1
  go_wp2
  go_loopw [3, 4] (fun o i wr => ∃ k : Nat, k ≤ n ∧ i = .int .i64 k ∧ RB wr w.heap.size o (es ++ encs (l.take k)) ∧ Ext w wr) (fun _ i _ => n - (intOf i).toNat)
  case atStart => exact ⟨0, Nat.zero_le _, rfl, HR.out, X1⟩
  case round =>
    obtain ⟨k, hk, rfl, R, hX⟩ := hrel
    have HRk := Lib.hid R
    clear R HR X1
    by_cases hlt : k < n
    · obtain ⟨b, off, cap, ev, hcell⟩ := HI.out k hlt
      injection ev with e1 e2 e3
      subst e1
      have d1 := hX.cell hcell
      obtain ⟨b0, b1⟩ := HB.out k hlt
      have HSk := Lib.hid (HS.out k hlt)
      have hT := HT.out k (by omega)
      generalize l.getD k 0 = z at *
      have Z1 := Lib.hid fun w => rZig z w b0 b1
      have Z2 := Lib.hid fun w => rPut (zig z) w (zig_lt z b0 b1)
      have hzl := enc_len _ (zig_lt z b0 b1)
      have HZL : Hid ((enc (zig z)).length ≤ 1000000) := Lib.hid (by omega)
      generalize enc (zig z) = q2 at *
      generalize zig z = q at *
      have hkn : (k : Int) < (n : Int) := by omega
      generalize es ++ encs (l.take k) = es1 at *
      have HTk : Hid (es1.length ≤ 1000000) := Lib.hid (by omega)
      clear hcell e2 e3 HI hT hzl
      go_wp2_with fail
      refine (Z1.out _).mono ?_
      rintro e w' ⟨rfl, rfl⟩
      go_wp2_with fail
      refine (Z2.out _).mono ?_
      rintro e w5 ⟨v5, rfl, R5, X5⟩
      have HR5 := Lib.hid R5.bytes
      have HRk' := Lib.hid (HRk.out.ext X5)
      have Y5 := hX.trans X5
      clear R5 HRk hX X5
      go_wp2_with (at_builtin; refine appBx _ rfl _ _ rfl w _ es1 rfl HRk'.out Y5 _ q2 rfl HR5.out HTk.out HZL.out ?_)
      intro v6 w6 R6 X6
      rw [← HSk.out] at R6
      have HR6 := Lib.hid R6
      clear R6 HRk' HR5 Y5
      go_wp2
      exact ⟨⟨k + 1, by omega, by go_num, HR6.out, X6⟩, by simp [intOf]; omega⟩
    · obtain rfl : k = n := by omega
      have hE := HE.out
      rw [hE] at HRk
      clear hE HE
      go_wp2
      go_ret
      exact ⟨_, rfl, HRk.out, hX⟩
end Go.Proofs.Ytkikiehgkggfmaa
