import Derived.Test.YtconghaebebncaaGreatDoorZR42
import Derived.Test.YtconghaebebncaaGreatDoorZR47
import Derived.Test.YtconghaebebncaaGreatDoorZR48
set_option linter.unusedVariables false
set_option maxRecDepth 100000
namespace Go.Proofs.YtconghaebebncaaGreatDoor.Ms
open Go.RowKit
attribute [local go_sem ↓] loadAtMsg
theorem dec_cases (s : List UInt8) : (∃ e n M, Be.rd 20 s 0 = .ok e n ∧ decM s = (M, 0) ∧ encM M = (s, 0)) ∨ (∃ e n, Be.rd 20 s 0 = .ok e n ∧ decM s = (zero, 14)) ∨ (∃ p x, Be.rd 20 s 0 = .bad p x ∧ x ≠ 0 ∧ decM s = (zero, x)):=by
 cases hr : Be.rd 20 s 0 with
 | bad p x=>exact .inr (.inr ⟨p, x, rfl, Be.rd_bad hr, by unfold decM; rw [hr]⟩)
 | ok e n =>
  by_cases h : (encM (rdM e)).1 = s
  ·refine .inl ⟨e, n, rdM e, rfl, by unfold decM; rw [hr]; exact if_pos h, ?_⟩
   have h2 : (encM (rdM e)).2 = 0:=by
    by_cases h2 : (encM (rdM e)).2 = 0
    ·exact h2
    ·have h3:=encM_bad h2
     rw [h] at h3
     subst h3
     rw [show Be.rd 20 [] 0 = .bad 0 10 by kernel_rfl] at hr
     cases hr
   exact Prod.ext h h2
  ·exact .inr (.inl ⟨e, n, rfl, by unfold decM; rw [hr]; exact if_neg h⟩)
set_option maxHeartbeats 8000000 in
theorem reads_good (s : ByteArray) (w : World) (hG : Glob w) (hs : s.size ≤ 1099511627776) (M : Mg) (hd : decM s.data.toList = (M, 0)) (hE : encM M = (s.data.toList, 0)) :
  Calls Tryz.prog 18 #[.string s] w fun r w'=>r = .returned (.bool true) ∧ Below w.heap.size w w':=by
 have HG:=Lib.hid hG
 have Hb0:=Lib.hid (Below.refl w.heap.size w)
 have CD:=Lib.hid (fun w hG=>Decode_at hd w hG hs)
 have hS : (⟨s.data.toList.toArray⟩ : ByteArray) = s:=by simp
 have CQ0:=fun cs w h=>rEncode_any M cs w h
 simp only [hE, hS] at CQ0
 have CQ:=Lib.hid CQ0
 have z3 : (s.toList == s.toList) = true:=beq_self_eq_true _
 clear hG CQ0 hE hd hS
 go_enter Tryz.func18, Tryz.ntmps18
 go_wp2_with fail
 refine (CD.out _ (HG.out.past Hb0.out)).mono ?_
 rintro r w1 ⟨c3, rfl, hk1, hM3⟩
 have Hb1:=Lib.hid (Hb0.out.trans (hk1.mono Hb0.out.size))
 clear Hb0
 clear hk1
 have hM3q:=Lib.hid hM3
 have HB3_2:=Lib.hid (Box.new hM3)
 have hbA3:=(Below.refl (w1).heap.size (w1)).alloc (Nat.le_refl _) (.cells c3 28)
 have Hb4:=Lib.hid (Hb1.out.trans (hbA3.mono Hb1.out.size))
 clear Hb1
 clear hbA3
 clear hM3
 go_wp2_with (first | (refine wpList_mark (.store 28 (.tmp 3) (.tmp 15)) rfl ?_; refine wpList_store_row rfl 28 _ _ rfl (w1).heap.size c3 rfl rfl 28 _ (heap_alloc_new (w1) _) (by rw [infoM, hM3q.out.size]) ?_ hM3q.out.one ?_; exact Eq.trans rfl hM3q.out.size.symm; rw [World.setRow_alloc_new]) | (refine wpList_mark (.load 28 (.tmp 3)) rfl ?_; refine wpList_loadG (by rfl) _ rfl ((w1).heap.size) rfl c3 HB3_2.out.1 HB3_2.out.2.size ?_))
 refine (CQ.out c3 _ HB3_2.out.2).mono ?_
 rintro r w2 ⟨rfl, hk2⟩
 have HB3_5:=Lib.hid (HB3_2.out.past hk2)
 clear HB3_2
 have Hb6:=Lib.hid (Hb4.out.trans (hk2.mono Hb4.out.size))
 clear Hb4
 clear hk2
 go_wp2_with fail
 go_ret
 exact ⟨rfl, Hb6.out⟩
set_option maxHeartbeats 8000000 in
theorem reads_form (s : ByteArray) (w : World) (hG : Glob w) (hs : s.size ≤ 1099511627776) (e : Be.El) (n : Nat) (hr : Be.rd 20 s.data.toList 0 = .ok e n) (hd : decM s.data.toList = (zero, 14)) :
  Calls Tryz.prog 18 #[.string s] w fun r w'=>r = .returned (.bool true) ∧ Below w.heap.size w w':=by
 have HG:=Lib.hid hG
 have Hb0:=Lib.hid (Below.refl w.heap.size w)
 have CD:=Lib.hid (fun w hG=>Decode_at hd w hG hs)
 have CF0:=fun w=>Be.rRead_any s w hs
 rw [hr] at CF0
 have CF:=Lib.hid CF0
 obtain ⟨ic, zs, hz, hMi, hM0, ez, ei⟩:=id_cells 0
 have HEz:=Lib.hid ez
 have HM0:=Lib.hid hM0
 have CS0:=fun ca cb w ha hb=>rSame_any zero zero ca cb w ha hb
 simp only [eqM_self] at CS0
 have CS:=Lib.hid CS0
 clear hG CF0 CS0 ez ei hMi hM0 hd hr
 go_enter Tryz.func18, Tryz.ntmps18
 go_wp2_with fail
 refine (CD.out _ (HG.out.past Hb0.out)).mono ?_
 rintro r w1 ⟨c3, rfl, hk1, hM3⟩
 have Hb1:=Lib.hid (Hb0.out.trans (hk1.mono Hb0.out.size))
 clear Hb0
 clear hk1
 have hM3q:=Lib.hid hM3
 have HB3_2:=Lib.hid (Box.new hM3)
 have hbA3:=(Below.refl (w1).heap.size (w1)).alloc (Nat.le_refl _) (.cells c3 28)
 have Hb4:=Lib.hid (Hb1.out.trans (hbA3.mono Hb1.out.size))
 clear Hb1
 clear hbA3
 clear hM3
 go_wp2_with (first | (refine wpList_mark (.store 28 (.tmp 3) (.tmp 15)) rfl ?_; refine wpList_store_row rfl 28 _ _ rfl (w1).heap.size c3 rfl rfl 28 _ (heap_alloc_new (w1) _) (by rw [infoM, hM3q.out.size]) ?_ hM3q.out.one ?_; exact Eq.trans rfl hM3q.out.size.symm; rw [World.setRow_alloc_new]) | (refine wpList_mark (.load 28 (.tmp 3)) rfl ?_; refine wpList_loadG (by rfl) _ rfl ((w1).heap.size) rfl c3 HB3_2.out.1 HB3_2.out.2.size ?_))
 refine (CF.out _).mono ?_
 rintro r w2 ⟨y0, y1, y2, rfl, hk2, hL2⟩
 have HB3_5:=Lib.hid (HB3_2.out.past hk2)
 clear HB3_2
 have Hb6:=Lib.hid (Hb4.out.trans (hk2.mono Hb4.out.size))
 clear Hb4
 obtain ⟨t2, b2, A2, n2, c2, hx⟩ : ∃ (t : Nat) (b : ByteArray) (A : Option Addr) (m c : Nat), [y0, y1, y2] = [.int .u8 t, .string b, .slice A m c]:=by
  obtain ⟨t, b, ks⟩:=e
  obtain ⟨A, c, ds, hcs, _⟩:=hL2.open_
  exact ⟨t, b, A, ks.length, c, hcs⟩
 simp only [List.cons.injEq, and_true] at hx
 obtain ⟨rfl, rfl, rfl⟩:=hx
 clear hk2 hL2
 have hbA7:=(Below.refl (w2).heap.size (w2)).alloc (Nat.le_refl _) (.cells #[.int .u8 (t2 : Nat), .string b2, .slice A2 n2 c2] 57)
 have HB3_8:=Lib.hid (HB3_5.out.past hbA7)
 clear HB3_5
 have Hb9:=Lib.hid (Hb6.out.trans (hbA7.mono Hb6.out.size))
 clear Hb6
 clear hbA7
 go_wp2_with (first | (refine wpList_mark (.build 28 #[]) rfl ?_; refine Pl.take (.agg zs) (by rfl) (by rw [HEz.out]; kernel_rfl) ?_) | (refine wpList_mark (.load 28 (.tmp 3)) rfl ?_; refine wpList_loadG (by rfl) _ rfl ((w1).heap.size) rfl c3 HB3_8.out.1 HB3_8.out.2.size ?_))
 refine (CS.out _ _ _ HB3_8.out.2 (HM0.out _ _)).mono ?_
 rintro r w4 ⟨rfl, hk4⟩
 have HB3_10:=Lib.hid (HB3_8.out.past hk4)
 clear HB3_8
 have Hb11:=Lib.hid (Hb9.out.trans (hk4.mono Hb9.out.size))
 clear Hb9
 clear hk4
 go_wp2_with fail
 go_ret
 exact ⟨rfl, Hb11.out⟩
set_option maxHeartbeats 8000000 in
theorem reads_bad (s : ByteArray) (w : World) (hG : Glob w) (hs : s.size ≤ 1099511627776) (p x : Nat) (hr : Be.rd 20 s.data.toList 0 = .bad p x) (hx : x ≠ 0) (hd : decM s.data.toList = (zero, x)) :
  Calls Tryz.prog 18 #[.string s] w fun r w'=>r = .returned (.bool true) ∧ Below w.heap.size w w':=by
 have HG:=Lib.hid hG
 have Hb0:=Lib.hid (Below.refl w.heap.size w)
 have CD:=Lib.hid (fun w hG=>Decode_at hd w hG hs)
 have x1 : (((x : Nat) : Int) == 0) = false:=by rw [beq_eq_false_iff_ne]; omega
 have x2 : (((x : Nat) : Int) == ((x : Nat) : Int)) = true:=beq_self_eq_true _
 have CF0:=fun w=>Be.rRead_any s w hs
 rw [hr] at CF0
 have CF:=Lib.hid CF0
 obtain ⟨ic, zs, hz, hMi, hM0, ez, ei⟩:=id_cells 0
 have HEz:=Lib.hid ez
 have HM0:=Lib.hid hM0
 have CS0:=fun ca cb w ha hb=>rSame_any zero zero ca cb w ha hb
 simp only [eqM_self] at CS0
 have CS:=Lib.hid CS0
 clear hG CF0 CS0 ez ei hMi hM0 hd hr
 go_enter Tryz.func18, Tryz.ntmps18
 go_wp2_with fail
 refine (CD.out _ (HG.out.past Hb0.out)).mono ?_
 rintro r w1 ⟨c3, rfl, hk1, hM3⟩
 have Hb1:=Lib.hid (Hb0.out.trans (hk1.mono Hb0.out.size))
 clear Hb0
 clear hk1
 have hM3q:=Lib.hid hM3
 have HB3_2:=Lib.hid (Box.new hM3)
 have hbA3:=(Below.refl (w1).heap.size (w1)).alloc (Nat.le_refl _) (.cells c3 28)
 have Hb4:=Lib.hid (Hb1.out.trans (hbA3.mono Hb1.out.size))
 clear Hb1
 clear hbA3
 clear hM3
 go_wp2_with (first | (refine wpList_mark (.store 28 (.tmp 3) (.tmp 15)) rfl ?_; refine wpList_store_row rfl 28 _ _ rfl (w1).heap.size c3 rfl rfl 28 _ (heap_alloc_new (w1) _) (by rw [infoM, hM3q.out.size]) ?_ hM3q.out.one ?_; exact Eq.trans rfl hM3q.out.size.symm; rw [World.setRow_alloc_new]) | (refine wpList_mark (.load 28 (.tmp 3)) rfl ?_; refine wpList_loadG (by rfl) _ rfl ((w1).heap.size) rfl c3 HB3_2.out.1 HB3_2.out.2.size ?_))
 refine (CF.out _).mono ?_
 rintro r w2 ⟨rfl, hk2⟩
 have HB3_5:=Lib.hid (HB3_2.out.past hk2)
 clear HB3_2
 have Hb6:=Lib.hid (Hb4.out.trans (hk2.mono Hb4.out.size))
 clear Hb4
 clear hk2
 have hbA7:=(Below.refl (w2).heap.size (w2)).alloc (Nat.le_refl _) (.cells #[.int .u8 0, .string ⟨#[]⟩, .slice none 0 0] 57)
 have HB3_8:=Lib.hid (HB3_5.out.past hbA7)
 clear HB3_5
 have Hb9:=Lib.hid (Hb6.out.trans (hbA7.mono Hb6.out.size))
 clear Hb6
 clear hbA7
 go_wp2_with (first | (refine wpList_mark (.build 28 #[]) rfl ?_; refine Pl.take (.agg zs) (by rfl) (by rw [HEz.out]; kernel_rfl) ?_) | (refine wpList_mark (.load 28 (.tmp 3)) rfl ?_; refine wpList_loadG (by rfl) _ rfl ((w1).heap.size) rfl c3 HB3_8.out.1 HB3_8.out.2.size ?_))
 refine (CS.out _ _ _ HB3_8.out.2 (HM0.out _ _)).mono ?_
 rintro r w4 ⟨rfl, hk4⟩
 have HB3_10:=Lib.hid (HB3_8.out.past hk4)
 clear HB3_8
 have Hb11:=Lib.hid (Hb9.out.trans (hk4.mono Hb9.out.size))
 clear Hb9
 clear hk4
 go_wp2_with fail
 go_ret
 exact ⟨rfl, Hb11.out⟩
theorem reads_any (s : ByteArray) (w : World) (hG : Glob w) (hs : s.size ≤ 1099511627776) :
  Calls Tryz.prog 18 #[.string s] w fun r w'=>r = .returned (.bool true) ∧ Below w.heap.size w w':=by
 rcases dec_cases s.data.toList with ⟨e, n, M, h1, h2, h3⟩ | ⟨e, n, h1, h2⟩ | ⟨p, x, h1, h2, h3⟩
 ·exact reads_good s w hG hs M h2 h3
 ·exact reads_form s w hG hs e n h1 h2
 ·exact reads_bad s w hG hs p x h1 h2 h3
theorem xor_u8 (a b : UInt8) : ∃ c : UInt8, bits .xor .u8 (a.toNat : Int) (b.toNat : Int) = (c.toNat : Int):=by
 have h:=(BitVec.ofInt 8 (a.toNat : Int) ^^^ BitVec.ofInt 8 (b.toNat : Int)).isLt
 refine ⟨((BitVec.ofInt 8 (a.toNat : Int) ^^^ BitVec.ofInt 8 (b.toNat : Int)).toNat).toUInt8, ?_⟩
 show IntKind.u8.wrap ((BitVec.ofInt 8 (a.toNat : Int) ^^^ BitVec.ofInt 8 (b.toNat : Int)).toNat : Int) = _
 rw [UInt8.toNat_ofNat', IntKind.wrap_u8]
 omega
set_option maxHeartbeats 8000000 in
theorem mreads_go (w : World) (m : Mg) (cm : Array Value) (ha : MAt w (· < w.heap.size) m cm) (at_ cut : Nat) (hat : at_ < 65536) (hcut : cut < 65536) (by_ : UInt8) (s : ByteArray) (hG : Glob w) :
  Calls Tryz.prog 5 #[.agg cm, .int .u16 at_, .int .u16 cut, .int .u8 by_.toNat, .string s] w fun r w'=>r = .returned (.bool true) ∧ Below w.heap.size w w':=by
 have HB5:=Lib.hid (Box.new ha)
 have Hb0:=Lib.hid ((Below.refl w.heap.size w).alloc (Nat.le_refl _) (.cells cm 28))
 have HG:=Lib.hid hG
 clear hG ha
 have HK:=Lib.hid (fun w hG=>known_any w hG)
 have HF:=Lib.hid (fun m cs w h=>fewMsg_any m cs w h)
 cases hE : encM m with
 | mk S e =>
 have CQ0:=fun w h=>rEncode_any m cm w h
 rw [hE] at CQ0
 have CQ:=Lib.hid CQ0
 have hlen : e = 0 → (⟨S.toArray⟩ : ByteArray).size ≤ 4000:=by
  rintro rfl
  have:=encM_len hE
  simpa [ByteArray.size] using this
 generalize (⟨S.toArray⟩ : ByteArray) = P at CQ hlen
 clear CQ0 hE
 go_enter Tryz.func5, Tryz.ntmps5
 go_wp2_with fail
 refine (HK.out _ (HG.out.past Hb0.out)).mono ?_
 rintro r w1 ⟨rfl, hk1⟩
 have HB5_1:=Lib.hid (HB5.out.past hk1)
 clear HB5
 have Hb2:=Lib.hid (Hb0.out.trans (hk1.mono Hb0.out.size))
 clear Hb0
 clear hk1
 go_wp2_with (first | (refine wpList_mark (.load 28 (.tmp 5)) rfl ?_; refine wpList_loadG (by rfl) _ rfl (w.heap.size) rfl cm HB5_1.out.1 HB5_1.out.2.size ?_))
 refine (HF.out m cm _ HB5_1.out.2).mono ?_
 rintro r w2 ⟨⟨f1, rfl⟩, hk2⟩
 have HB5_3:=Lib.hid (HB5_1.out.past hk2)
 clear HB5_1
 have Hb4:=Lib.hid (Hb2.out.trans (hk2.mono Hb2.out.size))
 clear Hb2
 clear hk2
 cases f1 with
 | false =>
  go_wp2_with fail
  go_ret
  exact ⟨rfl, Hb4.out⟩
 | true =>
  by_cases h6 : 600 < (s.size : Int)
  ·go_wp2_with fail
   go_ret
   exact ⟨rfl, Hb4.out⟩
  have h6' : (s.size : Int) ≤ 600:=by omega
  clear h6
  have RS:=Lib.hid (fun w hG=>reads_any s w hG (by omega))
  go_wp2_with (first | (refine wpList_mark (.load 28 (.tmp 5)) rfl ?_; refine wpList_loadG (by rfl) _ rfl (w.heap.size) rfl cm HB5_3.out.1 HB5_3.out.2.size ?_))
  refine (CQ.out _ HB5_3.out.2).mono ?_
  rintro r w3 ⟨rfl, hk3⟩
  have HB5_5:=Lib.hid (HB5_3.out.past hk3)
  clear HB5_3
  have Hb6:=Lib.hid (Hb4.out.trans (hk3.mono Hb4.out.size))
  clear Hb4
  clear hk3
  by_cases he : e = 0
  case neg =>
   have e1 : (((e : Nat) : Int) == 0) = false:=by rw [beq_eq_false_iff_ne]; omega
   go_wp2_with fail
   refine (RS.out _ (HG.out.past Hb6.out)).mono ?_
   rintro r wl ⟨rfl, hkl⟩
   have hbl:=Hb6.out.trans (hkl.mono Hb6.out.size)
   go_wp2_with fail
   go_ret
   exact ⟨rfl, hbl⟩
  subst he
  have hP4:=hlen rfl
  by_cases hP0 : (P.size : Int) ≤ 0
  ·have hP1 : ¬ (0 < (P.size : Int)):=by omega
   go_wp2_with fail
   refine (RS.out _ (HG.out.past Hb6.out)).mono ?_
   rintro r wl ⟨rfl, hkl⟩
   have hbl:=Hb6.out.trans (hkl.mono Hb6.out.size)
   go_wp2_with fail
   go_ret
   exact ⟨rfl, hbl⟩
  have hP1 : 0 < (P.size : Int):=by omega
  clear hP0 hlen
  obtain ⟨cap, w8, hc, hR, hb8, hsz⟩:=row_of_string P w3
  obtain ⟨q, hq⟩ : ∃ q : Nat, (at_ : Int) % P.size = q:=⟨at_ % P.size, by omega⟩
  obtain ⟨q2, hq2⟩ : ∃ q : Nat, (cut : Int) % P.size = q:=⟨cut % P.size, by omega⟩
  have hqP : q < P.size:=by
   have : (at_ : Int) % P.size < P.size:=Int.emod_lt_of_pos _ (by omega)
   omega
  have hqP2 : q2 < P.size:=by
   have : (cut : Int) % P.size < P.size:=Int.emod_lt_of_pos _ (by omega)
   omega
  have hP2 : ((P.size : Int) == 0) = false:=by rw [beq_eq_false_iff_ne]; omega
  have hln : (Nm.bs P).length = P.size:=rfl
  have f0 : w8.frozen? ⟨w3.heap.size, q, none⟩ = false:=hR.frozen hqP
  have c0:=hR.cell (i:=q) (List.getElem?_eq_getElem hqP)
  generalize hb0 : (Nm.bs P)[q] = b0 at c0
  obtain ⟨ch, hch⟩ : ∃ ch : UInt8, bits .xor .u8 (b0.toNat : Int) (by_.toNat : Int) = (ch.toNat : Int):=xor_u8 b0 by_
  have H8:=Lib.hid (Hb6.out.trans (hb8.mono Hb6.out.size))
  have hR2:=hR.set_ q ch
  have hb9:=(H8.out.setCell (p:=⟨w3.heap.size, q, none⟩) (Hb6.out.size) (.int .u8 (ch.toNat : Int))).drew
  have E:=row_string (cap:=cap) (show Row (w8.setCell ⟨w3.heap.size, q, none⟩ (.int .u8 (ch.toNat : Int))).drew w3.heap.size _ from hR2.drew)
  rw [List.length_set, hln] at E
  clear hR hR2 hb8 hln
  have hsz1 : (Nm.mk ((Nm.bs P).set q ch)).size = P.size:=by show ((Nm.bs P).set q ch).length = _; rw [List.length_set]; rfl
  have R1:=Lib.hid (fun w hG=>reads_any (Nm.mk ((Nm.bs P).set q ch)) w hG (by omega))
  have R2:=Lib.hid (fun w hG=>reads_any (P ++ Nm.mk [by_]) w hG (by rw [ByteArray.size_append]; show P.size + 1 ≤ _; omega))
  have R3:=Lib.hid (fun w hG=>reads_any (P.extract 0 q2) w hG (by rw [ByteArray.size_extract]; omega))
  have hno1 : ¬ (9223372036854775807 < P.size + 1):=by omega
  clear hsz1 hb0
  go_wp2_with fail
  go_region
  go_wp2_with fail
  refine (R1.out _ (HG.out.past hb9)).mono ?_
  rintro r w9 ⟨rfl, hb⟩
  have H9:=Lib.hid (hb9.trans (hb.mono hb9.size))
  clear hb hb9 c0 f0 E hc hch
  go_wp2_with fail
  refine (R3.out _ (HG.out.past H9.out)).mono ?_
  rintro r w10 ⟨rfl, hb⟩
  have H10:=Lib.hid (H9.out.trans (hb.mono H9.out.size))
  have H11:=Lib.hid (H10.out.alloc H10.out.size (.cells #[.int .u8 (by_.toNat : Int)] 5))
  have hc2:=conv_blk (w10.alloc (.cells #[.int .u8 (by_.toNat : Int)] 5)) w10.heap.size 1 [by_] rfl (Blk.new _ _ _)
  clear hb
  go_wp2_with fail
  refine (R2.out _ (HG.out.past H11.out)).mono ?_
  rintro r w11 ⟨rfl, hb⟩
  have H12:=Lib.hid (H11.out.trans (hb.mono H11.out.size))
  clear hb hc2
  go_wp2_with fail
  refine (RS.out _ (HG.out.past H12.out)).mono ?_
  rintro r wl ⟨rfl, hkl⟩
  have hbl:=H12.out.trans (hkl.mono H12.out.size)
  go_wp2_with fail
  go_ret
  exact ⟨rfl, hbl⟩
theorem walk_MsgReads (w : World) (m : Mg) (cm : Array Value) (ha : MAt w (· < w.heap.size) m cm) (a : Int) (h1 : (Lit.int .u16 a).wf = true) (b : Int) (h2 : (Lit.int .u16 b).wf = true) (c : Int) (h3 : (Lit.int .u8 c).wf = true) (s : ByteArray) (hs : s.size ≤ maxLen) (hG : Glob w) :
  Calls Tryz.prog 5 #[.agg cm, .int .u16 a, .int .u16 b, .int .u8 c, .string s] w fun r w'=>r = .returned (.bool true) ∧ Below w.heap.size w w':=by
 have g1 : 0 ≤ a ∧ a ≤ 65535:=by simpa [Lit.wf, IntKind.min, IntKind.max, IntKind.signed, IntKind.bits] using h1
 have g2 : 0 ≤ b ∧ b ≤ 65535:=by simpa [Lit.wf, IntKind.min, IntKind.max, IntKind.signed, IntKind.bits] using h2
 have g3 : 0 ≤ c ∧ c ≤ 255:=by simpa [Lit.wf, IntKind.min, IntKind.max, IntKind.signed, IntKind.bits] using h3
 obtain ⟨x, rfl⟩:=Int.eq_ofNat_of_zero_le g1.1
 obtain ⟨y, rfl⟩:=Int.eq_ofNat_of_zero_le g2.1
 obtain ⟨z, rfl⟩ : ∃ z : UInt8, c = z.toNat:=⟨c.toNat.toUInt8, by rw [UInt8.toNat_ofNat']; omega⟩
 exact mreads_go w m cm ha x y (by omega) (by omega) z s hG
end Go.Proofs.YtconghaebebncaaGreatDoor.Ms
