import Derived.Test.YtbdpkfgllnbheaaGreatDoorZQ11
import Derived.Deep.RegionHeld3
set_option linter.unusedVariables false
set_option maxRecDepth 100000
namespace Go.Proofs.YtbdpkfgllnbheaaGreatDoor.Be
open Go.RowKit
theorem own_two (w : World) (x y : Int) : (w.alloc (.cells #[.int .u8 x, .int .u8 y] 5)).ownsRow w.heap.size 5 1 (.slice (some ⟨w.heap.size, 0, none⟩) 2 2) 2 ([x, y].map (Value.int .u8)) :=
 ⟨rfl, Or.inr ⟨w.heap.size, 2, #[.int .u8 x, .int .u8 y], rfl, Nat.le_refl _, heap_alloc_new w _, Nat.le_refl _, by unfold maxLen; omega, rfl, rfl⟩⟩
set_option maxHeartbeats 1000000 in
theorem whead_0 (t : Nat) (n : Int) (w : World) (ht : t ≤ 255) (h0 : 0 ≤ n) (h1 : n < 128) :
  Calls Tryz.prog 79 #[.int .u8 t, .int .i64 n] w fun r w'=>r = .returned (.string ⟨(encHead t n.toNat).toArray⟩) ∧ Below w.heap.size w w':=by
 have hm:=Lib.hid (show more n.toNat = 0 by unfold more; rw [if_pos (by omega)])
 have hc:=Lib.hid (conv_own _ _ _ _ _ (own_two w t n) rfl)
 have hr:=Lib.hid (show encHead t n.toNat = [t.toUInt8, n.toNat.toUInt8] by unfold encHead; rw [if_pos (by omega)])
 go_enter Tryz.func79, Tryz.ntmps79
 go_wp2_with (go_at_call 112; refine (more_any _ _ h0).mono ?_; rintro e w2 ⟨rfl, rfl⟩; rw [hm.out])
 rw [hc.out]
 simp only [Result.andThen]
 rw [Oper.upon_value]
 go_wp2
 go_ret
 rw [hr.out]
 exact ⟨rfl, (Below.refl _ _).alloc (Nat.le_refl _) _⟩
set_option maxHeartbeats 1000000 in
theorem whead_1 (t : Nat) (n : Int) (w : World) (ht : t ≤ 255) (h0 : 128 ≤ n) (h1 : n < 256) :
  Calls Tryz.prog 79 #[.int .u8 t, .int .i64 n] w fun r w'=>r = .returned (.string ⟨(encHead t n.toNat).toArray⟩) ∧ Below w.heap.size w w':=by
 obtain ⟨i0, hi, hz0, hz1, hz2⟩:=info_parts bByte
 have hm:=Lib.hid (show more n.toNat = 1 by unfold more; rw [if_neg (by omega), if_pos (by omega)])
 have hr:=Lib.hid (show encHead t n.toNat = [t.toUInt8, 129, n.toNat.toUInt8] by unfold encHead; rw [if_neg (by omega), if_pos (by omega)])
 have own:=own_two w t 129
 go_enter Tryz.func79, Tryz.ntmps79
 go_wp2_with (first | (go_at_call 112; refine (more_any _ _ (by omega)).mono ?_; rintro e w2 ⟨rfl, rfl⟩; rw [hm.out]) | (at_builtin; go_loud (refine wpList_append_own _ rfl _ _ 36 rfl w.heap.size 5 i0 (.int .u8 0) 1 1 Tryz.underlying36 hi hz0 hz1 hz2 rfl (by decide) _ _ _ rfl (own.alloc _) ⟨w.heap.size + 1, 0, none⟩ 1 1 [.int .u8 n] rfl rfl (one_new _ _ _ _ (by simp)) ?c2 ?c3 ?c4 ?c5 ?_)))
 case c2=>intro u hu; simp at hu; subst hu; rfl
 case c3=>unfold maxLen; omega
 case c4=>omega
 case c5=>simp; omega
 intro v1 w1 hown1 hg1 _
 have hc:=Lib.hid (conv_own w1 _ v1 3 [t, 129, n] hown1 rfl)
 have hb:=(((Below.refl w.heap.size w).alloc (Nat.le_refl _) (.cells #[.int .u8 t, .int .u8 129] 5)).alloc (by simp) (.cells #[.int .u8 n] 5)).grown hg1 (by simp; omega) (fun k hk=>by simp [Value.ownBlock] at hk; omega)
 clear hown1 hg1 own
 go_wp2
 rw [hc.out]
 simp only [Result.andThen]
 rw [Oper.upon_value]
 go_wp2
 go_ret
 rw [hr.out]
 exact ⟨rfl, hb⟩
set_option maxHeartbeats 1000000 in
theorem whead_2 (t : Nat) (n : Int) (w : World) (ht : t ≤ 255) (h0 : 256 ≤ n) (h1 : n < 65536) :
  Calls Tryz.prog 79 #[.int .u8 t, .int .i64 n] w fun r w'=>r = .returned (.string ⟨(encHead t n.toNat).toArray⟩) ∧ Below w.heap.size w w':=by
 obtain ⟨i0, hi, hz0, hz1, hz2⟩:=info_parts bByte
 have hm:=Lib.hid (show more n.toNat = 2 by unfold more; rw [if_neg (by omega), if_neg (by omega)])
 have hr:=Lib.hid (show encHead t n.toNat = [t.toUInt8, 130, (n.toNat / 256).toUInt8, n.toNat.toUInt8] by unfold encHead; rw [if_neg (by omega), if_neg (by omega)])
 have own:=own_two w t 130
 go_enter Tryz.func79, Tryz.ntmps79
 go_wp2_with (first | (go_at_call 112; refine (more_any _ _ (by omega)).mono ?_; rintro e w2 ⟨rfl, rfl⟩; rw [hm.out]) | (at_builtin; go_loud (refine wpList_append_own _ rfl (.tmp 26) (.tmp 30) 36 rfl w.heap.size 5 i0 (.int .u8 0) 1 1 Tryz.underlying36 hi hz0 hz1 hz2 rfl (by decide) _ _ _ rfl (own.alloc _) ⟨w.heap.size + 1, 0, none⟩ 1 1 [.int .u8 (n / 256)] rfl rfl (one_new _ _ _ _ (by simp)) ?c2 ?c3 ?c4 ?c5 ?_)))
 case c2=>intro u hu; simp at hu; subst hu; rfl
 case c3=>unfold maxLen; omega
 case c4=>omega
 case c5=>simp; omega
 intro v1 w1 hown1 hg1 _
 have hb:=Lib.hid ((((Below.refl w.heap.size w).alloc (Nat.le_refl _) (.cells #[.int .u8 t, .int .u8 130] 5)).alloc (by simp) (.cells #[.int .u8 (n / 256)] 5)).grown hg1 (by simp; omega) (fun k hk=>by simp [Value.ownBlock] at hk; omega))
 have hsz:=hb.out.size
 clear hg1 own
 go_wp2_with (at_builtin; go_loud (refine wpList_append_own _ rfl (.tmp 32) (.tmp 35) 36 rfl w.heap.size 5 i0 (.int .u8 0) 1 1 Tryz.underlying36 hi hz0 hz1 hz2 rfl (by decide) v1 3 _ rfl (hown1.alloc _) ⟨w1.heap.size, 0, none⟩ 1 1 [.int .u8 (n % 256)] rfl rfl (one_new _ _ _ _ rfl) ?d2 ?d3 ?d4 ?d5 ?_))
 case d2=>intro u hu; simp at hu; subst hu; rfl
 case d3=>unfold maxLen; omega
 case d4=>omega
 case d5=>simp; omega
 intro v2 w2 hown2 hg2 _
 have hc:=Lib.hid (conv_own w2 _ v2 4 [t, 130, n / 256, n % 256] hown2 rfl)
 have hb2:=(hb.out.alloc hsz (.cells #[.int .u8 (n % 256)] 5)).grown hg2 (by simp; omega) (fun k hk=>(hown1.lt k hk).1)
 have h5 : (n / 256).toNat = n.toNat / 256:=by omega
 have h6 : (n % 256).toNat.toUInt8 = n.toNat.toUInt8:=by
  apply UInt8.toNat_inj.1
  show (n % 256).toNat % 256 = n.toNat % 256
  omega
 have H5:=Lib.hid h5
 have H6:=Lib.hid h6
 clear hown2 hg2 hown1 h5 h6
 go_wp2
 rw [hc.out]
 simp only [Result.andThen]
 rw [Oper.upon_value]
 go_wp2
 go_ret
 rw [hr.out]
 refine ⟨?_, hb2⟩
 show Ending.returned (.string ⟨[t.toUInt8, 130, (n / 256).toNat.toUInt8, (n % 256).toNat.toUInt8].toArray⟩) = _
 rw [H5.out, H6.out]
theorem whead_any (t : Nat) (n : Int) (w : World) (ht : t ≤ 255) (h0 : 0 ≤ n) (h1 : n < 65536) :
  Calls Tryz.prog 79 #[.int .u8 t, .int .i64 n] w fun r w'=>r = .returned (.string ⟨(encHead t n.toNat).toArray⟩) ∧ Below w.heap.size w w':=by
 by_cases h2 : n < 128
 ·exact whead_0 t n w ht h0 h2
 by_cases h3 : n < 256
 ·exact whead_1 t n w ht (by omega) h3
 ·exact whead_2 t n w ht (by omega) h1
def SaidEnc (e : El) : Prop:=∀ (x y z : Value) (w : World), bodyLen e ≤ 4000 → Lies w (· < w.heap.size) e [x, y, z] →
  Calls Tryz.prog 42 #[.agg #[x, y, z]] w fun r w'=>r = .returned (.string ⟨(enc e).toArray⟩) ∧ Below w.heap.size w w'
set_option maxHeartbeats 1000000 in
theorem encode_any (e : El) : SaidEnc e:=by
 refine El.ind ?_ e
 intro t b ks ih x y z w hB hL
 obtain ⟨A, c, ds, hcs, ht, hb, hl, hK⟩:=hL.open_
 simp only [List.cons.injEq, and_true] at hcs
 obtain ⟨rfl, rfl, rfl⟩:=hcs
 unfold maxLen at hl hb
 have hBl : b.size + (encs ks).length ≤ 4000:=hB
 have Ih:=Lib.hid ih
 have hbw0:=Bld.fresh (w.alloc (.cells #[.int .u8 t, .string b, .slice A ks.length c] 53))
 have hsz0 : (w.alloc (.cells #[.int .u8 t, .string b, .slice A ks.length c] 53)).heap.size = w.heap.size + 1:=by simp
 rw [hsz0] at hbw0
 have hbel0 : Below w.heap.size w ((w.alloc (.cells #[.int .u8 t, .string b, .slice A ks.length c] 53)).alloc (.cells #[.pointer none, .slice none 0 0] 106)) :=
  ((Below.refl _ _).alloc (Nat.le_refl _) _).alloc (by simp) _
 clear ih hL hB hsz0
 go_enter Tryz.func42, Tryz.ntmps42
 go_wp2_with fail
 refine (bwrite_any (w.heap.size + 1) (w.heap.size + 1) [] b _ hbw0 (by simp; omega) (by simp)).mono ?_
 rintro e w1 ⟨rfl, hbw1, hb1⟩
 have hcell0 : w1.cell? ⟨w.heap.size, 0, none⟩ = some (.int .u8 t):=bat hb1 (by omega) (by simp)
 have hcell2 : w1.cell? ⟨w.heap.size, 2, none⟩ = some (.slice A ks.length c):=bat hb1 (by omega) (by simp)
 have hbel1:=hbel0.trans (hb1.mono (by omega))
 have hbw1' : Bld (w.heap.size + 1) (w.heap.size + 1) (b.data.toList ++ encs (ks.take 0)) w1:=by simpa [encs] using hbw1
 have hsz1 : w.heap.size + 2 ≤ w1.heap.size:=by have:=hb1.size; simp at this; omega
 clear hbw0 hbel0 hbw1 hb1
 go_wp2_with fail
 go_loopw [12] (fun i wr=>∃ k : Nat, k ≤ ks.length ∧ i = .int .i64 k ∧ Bld (w.heap.size + 1) (w.heap.size + 1) (b.data.toList ++ encs (ks.take k)) wr ∧ wr.cell? ⟨w.heap.size, 0, none⟩ = some (.int .u8 t) ∧ Below w.heap.size w wr ∧ w.heap.size + 2 ≤ wr.heap.size) (fun i wr=>ks.length - (intOf i).toNat)
 case atStart=>exact ⟨0, Nat.zero_le _, rfl, hbw1', hcell0, hbel1, hsz1⟩
 case round =>
  obtain ⟨k, hk, rfl, hbw, hc0, hb, hsz⟩:=hrel
  by_cases hlt : k < ks.length
  ·obtain ⟨ad, t', b', A', n', c', rfl, hp, f0, f1, f2, hL⟩:=hK.kid5 hb hlt
   have hs:=hb.size
   have hb0 : Below w.heap.size w (wr.alloc (.cells #[.int .u8 t', .string b', .slice A' n' c'] 53)):=hb.alloc hs _
   have hT:=encs_take hlt
   have hTl:=encs_take_le ks (k + 1)
   have hEl:=enc_len ks[k]
   rw [hT, List.length_append] at hTl
   have H:=Ih.out _ (List.getElem_mem hlt) _ _ _ _ (by omega) (hL.alloc (.cells #[.int .u8 t', .string b', .slice A' n' c'] 53))
   have hbwA:=hbw.alloc (.cells #[.int .u8 t', .string b', .slice A' n' c'] 53)
   have HT:=Lib.hid hT
   clear hT
   go_wp2_with fail
   refine H.mono ?_
   rintro e w1 ⟨rfl, hb1⟩
   clear H
   have hb2:=hb0.trans (hb1.mono (by simp; omega))
   have hbw2:=hbwA.past hb1
   have hsz2 : w.heap.size + 3 ≤ w1.heap.size:=by have:=hb1.size; simp at this; omega
   have hc1 : w1.cell? ⟨w.heap.size, 0, none⟩ = some (.int .u8 t):=bat hb1 (by simp; omega) (by rw [World.cell?_alloc_lt _ _ _ (by show w.heap.size < wr.heap.size; omega)]; exact hc0)
   have hlen : (b.data.toList ++ encs (ks.take k)).length + (⟨(enc ks[k]).toArray⟩ : ByteArray).size ≤ 140737488355328:=by
    rw [List.length_append]
    have e1 : b.data.toList.length = b.size:=rfl
    have e2 : (⟨(enc ks[k]).toArray⟩ : ByteArray).size = (enc ks[k]).length:=by simp [ByteArray.size]
    omega
   clear hb1 hbwA hb0
   go_wp2_with fail
   refine (bwrite_any (w.heap.size + 1) (w.heap.size + 1) _ _ _ hbw2 hlen (by omega)).mono ?_
   rintro e w2 ⟨rfl, hbw3, hb3⟩
   have hb4:=hb2.trans (hb3.mono (by omega))
   have hsz3:=hb3.size
   have hc2:=bat hb3 (by omega) hc1
   clear hb3 hbw2 hlen
   go_wp2_with fail
   go_roundw
   case rel =>
    refine ⟨k + 1, by omega, by go_num, ?_, hc2, hb4, by omega⟩
    rw [HT.out, ← List.append_assoc]
    exact hbw3
   case measure=>simp [intOf]; omega
  ·have hke : k = ks.length:=by omega
   subst hke
   rw [List.take_length] at hbw
   have hs:=hb.size
   have e1 : b.data.toList.length = b.size:=rfl
   have hlen : ((b.data.toList ++ encs ks).length : Int) < 65536:=by rw [List.length_append]; omega
   have hlen0 : (0 : Int) ≤ (b.data.toList ++ encs ks).length:=by omega
   have hfin : Hid (encHead t (b.data.toList ++ encs ks).length ++ (b.data.toList ++ encs ks) = enc (.mk t b ks)):=by
    show _ = _
    rw [enc, List.length_append, e1]
   obtain ⟨L, hL⟩ : ∃ L, L = b.data.toList ++ encs ks:=⟨_, rfl⟩
   rw [← hL] at hbw hlen hlen0 hfin
   have hq : ¬ (9223372036854775807 < (encHead t L.length).length + L.length):=by
    have h1:=encHead_len t L.length
    have h2:=more_le L.length
    omega
   clear hL Ih hK hcell0 hcell2 hbel1 hbw1'
   go_wp2_with fail
   go_region_held3 (fun w'=>w'.cell? ⟨w.heap.size, 0, none⟩ = some (.int .u8 t)) (first | go_keep | exact bat hbY (by omega) (bat hbX (by simp; omega) hc0) | exact bat hbX (by simp; omega) hc0) (first | (go_at_call 80; refine (blen_any _ _ _ _ hbw.drew).mono ?_; rintro e w1 ⟨rfl, rfl⟩) | (go_at_call 79; refine (whead_any _ _ _ (by omega) (by omega) (by omega)).mono ?_; rintro e w1 ⟨rfl, hbX⟩; have hbw9:=hbw.drew.past hbX) | (go_at_call 81; refine (bstring_any _ _ _ _ hbw9 (by have:=hbX.size; simp at this; omega)).mono ?_; rintro e w2 ⟨rfl, hbY⟩))
   go_wp2_with fail
   go_ret
   refine ⟨?_, hb.trans ((Below.mono (B:=wr.heap.size) ((Below.refl _ _).drew.trans hbX) hs).trans (hbY.mono (by omega)))⟩
   show Ending.returned (.string ((⟨(encHead t L.length).toArray⟩ : ByteArray) ++ ⟨L.toArray⟩)) = _
   rw [ByteArray.mk_append_mk, hfin.out]
set_option maxHeartbeats 1000000 in
theorem fault_any (K L d : Nat) (e : El) (x y z : Value) (w : World) (hL1 : L ≤ 10000) (hd : d ≤ 10000) (hF : fitS K L d e = true) (hL : Lies w (· < w.heap.size) e [x, y, z]) :
  Calls Tryz.prog 41 #[.agg #[x, y, z]] w fun r w'=>r = .returned (.int .i64 (errV e)) ∧ Below w.heap.size w w':=by
 obtain ⟨t, b, A, n, c, hcs⟩:=hL.form
 simp only [List.cons.injEq, and_true] at hcs
 obtain ⟨rfl, rfl, rfl⟩:=hcs
 have hb0 : Below w.heap.size w (w.alloc (.cells #[.int .u8 t, .string b, .slice A n c] 53)):=(Below.refl _ _).alloc (Nat.le_refl _) _
 have hL0:=hL.past hb0
 have C1:=formed_any e _ _ _ _ hL0
 have hT:=tsz_body e
 by_cases h1 : formed e = false
 ·have hr:=Lib.hid (show errV e = 14 by simp [errV, h1])
  rw [h1] at C1
  clear hT h1
  go_enter Tryz.func41, Tryz.ntmps41
  go_wp2_with fail
  refine C1.mono ?_
  rintro r w1 ⟨rfl, hb1⟩
  go_wp2_with fail
  go_ret
  rw [hr.out]
  exact ⟨rfl, hb0.trans (hb1.mono (by simp))⟩
 have h1' : formed e = true:=by simpa using h1
 rw [h1'] at C1
 have box : ∀ w1 : World, Below (w.alloc (.cells #[.int .u8 t, .string b, .slice A n c] 53)).heap.size (w.alloc (.cells #[.int .u8 t, .string b, .slice A n c] 53)) w1 →
   w1.cell? ⟨w.heap.size, 0, none⟩ = some (.int .u8 t) ∧ w1.cell? ⟨w.heap.size, 1, none⟩ = some (.string b) ∧ w1.cell? ⟨w.heap.size, 2, none⟩ = some (.slice A n c):=fun w1 hb =>
  ⟨bat hb (by simp) (by simp), bat hb (by simp) (by simp), bat hb (by simp) (by simp)⟩
 have Box:=Lib.hid box
 by_cases h2 : 20 < dep e
 ·have hr:=Lib.hid (show errV e = 12 by simp [errV, h1', h2])
  have h2' : deepB 20 e = true:=by unfold deepB; simp; omega
  have C2:=fun w1 h=>deeper_any e 20 (.int .u8 t) (.string b) (.slice A n c) w1 (by omega) (by omega) h
  rw [h2'] at C2
  have HC2:=Lib.hid C2
  clear hT h1 h1' h2 h2' C2 box
  go_enter Tryz.func41, Tryz.ntmps41
  go_wp2_with fail
  refine C1.mono ?_
  rintro r w1 ⟨rfl, hb1⟩
  obtain ⟨f0, f1, f2⟩:=Box.out w1 hb1
  have hL1:=hL0.past hb1
  have hs:=hb1.size
  clear C1 Box
  go_wp2_with fail
  refine (HC2.out _ hL1).mono ?_
  rintro r w2 ⟨rfl, hb2⟩
  go_wp2_with fail
  go_ret
  rw [hr.out]
  exact ⟨rfl, hb0.trans ((hb1.mono (by simp)).trans (hb2.mono (by simp at hs; omega)))⟩
 ·have h2' : deepB 20 e = false:=by unfold deepB; simp; omega
  have C2:=fun w1 h=>deeper_any e 20 (.int .u8 t) (.string b) (.slice A n c) w1 (by omega) (by omega) h
  rw [h2'] at C2
  have HC2:=Lib.hid C2
  have HC3:=Lib.hid (fun w1 h=>size_any e K L d (.int .u8 t) (.string b) (.slice A n c) w1 hL1 hd hF h)
  have hTb:=tsz_bound hF
  obtain ⟨v, hv⟩ : ∃ v, v = tsz e:=⟨_, rfl⟩
  rw [← hv] at hTb HC3 hT
  by_cases h3 : 4000 < v
  ·have hr:=Lib.hid (show errV e = 13 by
    have : 4000 < bodyLen e:=by
     rcases Nat.lt_or_ge 4000 (bodyLen e) with h | h
     ·exact h
     ·have:=hT.1 h; omega
    simp [errV, h1', h2, this])
   have h3' : (4000 : Int) < (v : Int):=by omega
   clear hT h1 h1' h2 h2' C2 box h3 hv hF
   go_enter Tryz.func41, Tryz.ntmps41
   go_wp2_with fail
   refine C1.mono ?_
   rintro r w1 ⟨rfl, hb1⟩
   obtain ⟨f0, f1, f2⟩:=Box.out w1 hb1
   have hL1:=hL0.past hb1
   have hs:=hb1.size
   clear C1
   go_wp2_with fail
   refine (HC2.out _ hL1).mono ?_
   rintro r w2 ⟨rfl, hb2⟩
   obtain ⟨g0, g1, g2⟩:=Box.out w2 (hb1.trans (hb2.mono hs))
   have hL2:=hL1.past hb2
   have hs2:=hb2.size
   clear HC2 f0 f1 f2 Box
   go_wp2_with fail
   refine (HC3.out _ hL2).mono ?_
   rintro r w3 ⟨rfl, hb3⟩
   clear HC3
   go_wp2_with fail
   go_ret
   rw [hr.out]
   exact ⟨rfl, hb0.trans ((hb1.mono (by simp)).trans ((hb2.mono (by simp at hs; omega)).trans (hb3.mono (by simp at hs; omega))))⟩
  ·have hr:=Lib.hid (show errV e = 0 by
    have : ¬ 4000 < bodyLen e:=by
     intro h
     exact h3 (hT.2 h)
    simp [errV, h1', h2, this])
   have h3' : (v : Int) ≤ 4000:=by omega
   clear hT h1 h1' h2 h2' C2 box h3 hv hF
   go_enter Tryz.func41, Tryz.ntmps41
   go_wp2_with fail
   refine C1.mono ?_
   rintro r w1 ⟨rfl, hb1⟩
   obtain ⟨f0, f1, f2⟩:=Box.out w1 hb1
   have hL1:=hL0.past hb1
   have hs:=hb1.size
   clear C1
   go_wp2_with fail
   refine (HC2.out _ hL1).mono ?_
   rintro r w2 ⟨rfl, hb2⟩
   obtain ⟨g0, g1, g2⟩:=Box.out w2 (hb1.trans (hb2.mono hs))
   have hL2:=hL1.past hb2
   have hs2:=hb2.size
   clear HC2 f0 f1 f2 Box
   go_wp2_with fail
   refine (HC3.out _ hL2).mono ?_
   rintro r w3 ⟨rfl, hb3⟩
   clear HC3
   go_wp2_with fail
   go_ret
   rw [hr.out]
   exact ⟨rfl, hb0.trans ((hb1.mono (by simp)).trans ((hb2.mono (by simp at hs; omega)).trans (hb3.mono (by simp at hs; omega))))⟩
set_option maxHeartbeats 1000000 in
theorem Write_any (K L d : Nat) (e : El) (x y z : Value) (w : World) (hL1 : L ≤ 10000) (hd : d ≤ 10000) (hF : fitS K L d e = true) (hL : Lies w (· < w.heap.size) e [x, y, z]) :
  Calls Tryz.prog 19 #[.agg #[x, y, z]] w fun r w'=>r = .returned (wrV e) ∧ Below w.heap.size w w':=by
 obtain ⟨t, b, A, n, c, hcs⟩:=hL.form
 simp only [List.cons.injEq, and_true] at hcs
 obtain ⟨rfl, rfl, rfl⟩:=hcs
 have hb0 : Below w.heap.size w (w.alloc (.cells #[.int .u8 t, .string b, .slice A n c] 53)):=(Below.refl _ _).alloc (Nat.le_refl _) _
 have hL0:=hL.past hb0
 have C1:=fault_any K L d e _ _ _ _ hL1 hd hF hL0
 have hrE:=wr_err e
 have hrB:=wr_bytes e
 by_cases h1 : errV e = 0
 ·have hB : bodyLen e ≤ 4000:=by
   unfold errV at h1
   split at h1
   ·omega
   ·split at h1
    ·omega
    ·split at h1
     ·omega
     ·omega
  rw [h1] at C1
  have hr:=Lib.hid (show wrV e = .tuple #[.string ⟨(enc e).toArray⟩, .int .i64 0] by unfold wrV; rw [hrE, hrB, h1]; simp)
  have C2:=Lib.hid (fun w1 h=>encode_any e (.int .u8 t) (.string b) (.slice A n c) w1 hB h)
  clear hrE hrB h1 hB hF
  go_enter Tryz.func19, Tryz.ntmps19
  go_wp2_with fail
  refine C1.mono ?_
  rintro r w1 ⟨rfl, hb1⟩
  have f0 : w1.cell? ⟨w.heap.size, 0, none⟩ = some (.int .u8 t):=bat hb1 (by simp) (by simp)
  have f1 : w1.cell? ⟨w.heap.size, 1, none⟩ = some (.string b):=bat hb1 (by simp) (by simp)
  have f2 : w1.cell? ⟨w.heap.size, 2, none⟩ = some (.slice A n c):=bat hb1 (by simp) (by simp)
  have hL1:=hL0.past hb1
  have hs:=hb1.size
  clear C1
  go_wp2_with fail
  refine (C2.out _ hL1).mono ?_
  rintro r w2 ⟨rfl, hb2⟩
  go_wp2_with fail
  go_ret2
  rw [hr.out]
  exact ⟨rfl, hb0.trans ((hb1.mono (by simp)).trans (hb2.mono (by simp at hs; omega)))⟩
 ·obtain ⟨v, hv⟩ : ∃ v, v = errV e:=⟨_, rfl⟩
  have hr:=Lib.hid (show wrV e = .tuple #[.string ⟨#[]⟩, .int .i64 v] by unfold wrV; rw [hrE, hrB, if_neg h1, hv])
  rw [← hv] at C1 h1
  have h2 : ((v : Int) != 0) = true:=by rw [bne_iff_ne]; omega
  clear hrE hrB h1 hF hv
  go_enter Tryz.func19, Tryz.ntmps19
  go_wp2_with fail
  refine C1.mono ?_
  rintro r w1 ⟨rfl, hb1⟩
  go_wp2_with fail
  go_ret2
  rw [hr.out]
  exact ⟨rfl, hb0.trans (hb1.mono (by simp))⟩
end Go.Proofs.YtbdpkfgllnbheaaGreatDoor.Be
