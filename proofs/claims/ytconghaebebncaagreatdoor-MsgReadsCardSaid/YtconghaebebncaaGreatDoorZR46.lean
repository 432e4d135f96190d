import Derived.Test.YtconghaebebncaaGreatDoorZR14
import Derived.Deep.RegionWith
set_option linter.unusedVariables false
set_option maxRecDepth 100000
namespace Go.Proofs.YtconghaebebncaaGreatDoor.Be
open Go.RowKit
theorem ret_str {x y : ByteArray} (h : x = y) : Ending.returned (.string x) = .returned (.string y):=by rw [h]
def lenB (n : Nat) : List UInt8:=if n < 128 then [n.toUInt8] else if n < 256 then [129, n.toUInt8] else [130, (n / 256).toUInt8, n.toUInt8]
theorem encHead_lenB (t n : Nat) : encHead t n = t.toUInt8 :: lenB n:=by
 unfold encHead lenB
 split
 ·rfl
 ·split <;> rfl
set_option maxHeartbeats 1000000 in
theorem rlen_0 (n : Int) (w : World) (h0 : 0 ≤ n) (h1 : n < 128) :
  Calls Tryz.prog 59 #[.int .i64 n] w fun r w'=>r = .returned (.string ⟨(lenB n.toNat).toArray⟩) ∧ Below w.heap.size w w':=by
 have hr:=Lib.hid (show lenB n.toNat = [n.toNat.toUInt8] by unfold lenB; rw [if_pos (by omega)])
 have hV : Hid (∀ (w : World) (x : Int), (convert 40 9 (.slice (some ⟨w.heap.size, 0, none⟩) 1 1)).run Tryz.prog (w.alloc (.cells #[.int .u8 x] 5)) = .ok (.string (strOfNums [x])) (w.alloc (.cells #[.int .u8 x] 5))):=fun w x=>conv_lit w [x] (by simp)
 go_enter Tryz.func59, Tryz.ntmps59
 go_wp2_with fail
 rw [hV.out w]
 simp only [Result.andThen]
 rw [Oper.upon_value]
 go_wp2_with fail
 go_ret
 rw [hr.out]
 exact ⟨rfl, (Below.refl _ _).alloc (Nat.le_refl _) _⟩
def lenSt (n k : Int) (l : List UInt8) : Prop:=(k = n ∧ l = []) ∨ (k = n / 256 ∧ l = [n.toNat.toUInt8]) ∨ (k = 0 ∧ 256 ≤ n ∧ l = [(n.toNat / 256).toUInt8, n.toNat.toUInt8])
theorem toU8_mod (n : Nat) : (n % 256).toUInt8 = n.toUInt8:=by
 apply UInt8.toNat_inj.1
 show (n % 256) % 256 = n % 256
 omega
theorem lenSt_step {n k : Int} {l : List UInt8} (h0 : 128 ≤ n) (h1 : n ≤ 4000) (hk : 0 < k) (h : lenSt n k l) : lenSt n (k / 256) ((k % 256).toNat.toUInt8 :: l):=by
 rcases h with ⟨rfl, rfl⟩ | ⟨rfl, rfl⟩ | ⟨rfl, _, _⟩
 ·right; left
  refine ⟨rfl, ?_⟩
  have : (k % 256).toNat = k.toNat % 256:=by omega
  rw [this, toU8_mod]
 ·right; right
  refine ⟨by omega, by omega, ?_⟩
  have : (n / 256 % 256).toNat = n.toNat / 256:=by omega
  rw [this]
 ·omega
theorem lenSt_end {n k : Int} {l : List UInt8} (h0 : 128 ≤ n) (h1 : n ≤ 4000) (hk : ¬ 0 < k) (h : lenSt n k l) : l.length ≤ 2 ∧ lenB n.toNat = (128 + l.length).toUInt8 :: l:=by
 rcases h with ⟨rfl, rfl⟩ | ⟨rfl, rfl⟩ | ⟨rfl, h2, rfl⟩
 ·omega
 ·refine ⟨by simp, ?_⟩
  unfold lenB; rw [if_neg (by omega), if_pos (by omega)]; rfl
 ·refine ⟨by simp, ?_⟩
  unfold lenB; rw [if_neg (by omega), if_neg (by omega)]; rfl
theorem lenSt_len {n k : Int} {l : List UInt8} (h : lenSt n k l) : l.length ≤ 2:=by
 rcases h with ⟨_, rfl⟩ | ⟨_, rfl⟩ | ⟨_, _, rfl⟩ <;> simp
theorem lenSt_small {n k : Int} {l : List UInt8} (h0 : 128 ≤ n) (h1 : n ≤ 4000) (h : lenSt n k l) : 0 ≤ k ∧ k ≤ 4000:=by
 rcases h with ⟨rfl, rfl⟩ | ⟨rfl, rfl⟩ | ⟨rfl, h2, rfl⟩ <;> omega
set_option maxHeartbeats 1000000 in
theorem rlen_1 (n : Int) (w : World) (h0 : 128 ≤ n) (h1 : n ≤ 4000) :
  Calls Tryz.prog 59 #[.int .i64 n] w fun r w'=>r = .returned (.string ⟨(lenB n.toNat).toArray⟩) ∧ Below w.heap.size w w':=by
 have hV : Hid (∀ (w : World) (x : Int), (convert 40 9 (.slice (some ⟨w.heap.size, 0, none⟩) 1 1)).run Tryz.prog (w.alloc (.cells #[.int .u8 x] 5)) = .ok (.string (strOfNums [x])) (w.alloc (.cells #[.int .u8 x] 5))):=fun w x=>conv_lit w [x] (by simp)
 have hso : ∀ x : Int, (strOfNums [x]).size = 1:=fun x=>strOfNums_size _
 go_enter Tryz.func59, Tryz.ntmps59
 go_wp2_with fail
 go_loopw [3, 4] (fun s k wr=>∃ (b : ByteArray) (j : Int), s = .string b ∧ k = .int .i64 j ∧ Hid (lenSt n j b.data.toList) ∧ Below w.heap.size w wr) (fun s k wr=>(intOf k).toNat)
 case atStart=>exact ⟨⟨#[]⟩, n, rfl, rfl, Or.inl ⟨rfl, rfl⟩, Below.refl _ _⟩
 case round =>
  obtain ⟨b, j, rfl, rfl, hE, hb⟩:=hrel
  have hj:=lenSt_small h0 h1 hE.out
  obtain ⟨hj0, hj1⟩:=hj
  have hb2 : b.size ≤ 2:=lenSt_len hE.out
  by_cases hlt : 0 < j
  ·have hE2:=Lib.hid (lenSt_step h0 h1 hlt hE.out)
   go_wp2_with fail
   rw [hV.out wr]
   simp only [Result.andThen]
   rw [Oper.upon_value]
   go_wp2_with fail
   go_roundw
   case rel =>
    refine ⟨_, _, rfl, rfl, ?_, hb.alloc hb.size _⟩
    show lenSt _ _ _
    rw [ByteArray.data_append, Array.toList_append, strOfNums_data]
    exact hE2.out
   case measure=>simp [intOf]; omega
  ·have hE2:=Lib.hid (lenSt_end h0 h1 hlt hE.out)
   go_wp2_with fail
   rw [hV.out wr]
   simp only [Result.andThen]
   rw [Oper.upon_value]
   go_wp2_with fail
   go_ret
   refine ⟨ret_str ?_, hb.alloc hb.size _⟩
   apply ByteArray.ext
   apply Array.toList_inj.1
   rw [ByteArray.data_append, Array.toList_append, strOfNums_data, hE2.out.2]
   have h5 : ((128 : Int) + b.size).toNat = 128 + b.data.toList.length:=by
    show ((128 : Int) + b.size).toNat = 128 + b.size
    omega
   simp only [List.map, h5]
   rfl
theorem rlen_any (n : Int) (w : World) (h0 : 0 ≤ n) (h1 : n ≤ 4000) :
  Calls Tryz.prog 59 #[.int .i64 n] w fun r w'=>r = .returned (.string ⟨(lenB n.toNat).toArray⟩) ∧ Below w.heap.size w w':=by
 by_cases h : n < 128
 ·exact rlen_0 n w h0 h
 ·exact rlen_1 n w (by omega) h1
theorem lenB_le (n : Nat) : (⟨(lenB n).toArray⟩ : ByteArray).size ≤ 3:=by
 show (lenB n).toArray.size ≤ 3
 unfold lenB
 split
 ·simp
 ·split <;> simp
theorem conv_one (w : World) (g : Nat) (x : Int) (h : Blk w g 5 #[.int .u8 x]) :
  (convert 40 9 (.slice (some ⟨g, 0, none⟩) 1 1)).run Tryz.prog w = .ok (.string (strOfNums [x])) w :=
 conv_own w g _ 1 [x] ⟨rfl, Or.inr ⟨g, 1, #[.int .u8 x], rfl, Nat.le_refl _, h, Nat.le_refl _, by unfold maxLen; omega, rfl, rfl⟩⟩ rfl
def rbV (e : El) : Value:=.tuple #[.string ⟨(if bodyLen e ≤ 4000 then enc e else []).toArray⟩, .bool (decide (bodyLen e ≤ 4000))]
def SaidRBytes (e : El) : Prop:=∀ (K L d : Nat) (x y z : Value) (w : World), fitS K L d e = true → K ≤ 10000 → L ≤ 10000 → Lies w (· < w.heap.size) e [x, y, z] →
  Calls Tryz.prog 25 #[.agg #[x, y, z]] w fun r w'=>r = .returned (rbV e) ∧ Below w.heap.size w w'
theorem rbV_ok {e : El} (h : bodyLen e ≤ 4000) : rbV e = .tuple #[.string ⟨(enc e).toArray⟩, .bool true]:=by simp [rbV, h]
theorem rbV_bad {e : El} (h : 4000 < bodyLen e) : rbV e = .tuple #[.string ⟨#[]⟩, .bool false]:=by
 have : ¬ bodyLen e ≤ 4000:=by omega
 simp [rbV, this]
theorem body_kid {t : Nat} {b : ByteArray} {ks : List El} {i : Nat} (hi : i < ks.length) : bodyLen ks[i] < bodyLen (.mk t b ks):=by
 have h1:=encs_take_le ks (i + 1)
 rw [encs_take hi, List.length_append] at h1
 have h2:=enc_len ks[i]
 rw [bodyLen]
 omega
set_option maxHeartbeats 1000000 in
theorem rbytes_any (e : El) : SaidRBytes e:=by
 refine El.ind ?_ e
 intro t b ks ih K L d x y z w hF hK1 hL1 hL
 obtain ⟨A, c, ds, hcs, ht, hb, hl, hK⟩:=hL.open_
 simp only [List.cons.injEq, and_true] at hcs
 obtain ⟨rfl, rfl, rfl⟩:=hcs
 unfold maxLen at hl
 obtain ⟨d, rfl⟩ : ∃ d', d = d' + 1:=by
  cases d with
  | zero=>exact (fitS_zero hF).elim
  | succ d=>exact ⟨d, rfl⟩
 obtain ⟨hkK, hbL, hkF⟩:=fitS_open hF
 have hkl : ks.length ≤ 10000:=by omega
 have hbl : b.size ≤ 10000:=by omega
 have Ih:=Lib.hid ih
 have HF:=Lib.hid hkF
 clear ih hL hkF hF hb
 go_enter Tryz.func25, Tryz.ntmps25
 go_wp2_with fail
 go_loopw [4, 5] (fun s i wr=>∃ (k : Nat) (q : ByteArray), k ≤ ks.length ∧ i = .int .i64 k ∧ s = .string q ∧ Hid (q.data.toList = b.data.toList ++ encs (ks.take k)) ∧ q.size ≤ 10000 + 4010 * k ∧ Blk wr w.heap.size 57 #[.int .u8 t, .string b, .slice A ks.length c] ∧ Below w.heap.size w wr) (fun s i wr=>ks.length - (intOf i).toNat)
 case atStart=>exact ⟨0, b, Nat.zero_le _, rfl, rfl, by show _ = _; simp [encs], by omega, Blk.new w _ _, (Below.refl _ _).alloc (Nat.le_refl _) _⟩
 case round =>
  obtain ⟨k, q, hk, rfl, rfl, hE, hq, B, hb⟩:=hrel
  have c0 : wr.cell? ⟨w.heap.size, 0, none⟩ = some (.int .u8 t):=B.cell 0
  have c2 : wr.cell? ⟨w.heap.size, 2, none⟩ = some (.slice A ks.length c):=B.cell 2
  have hs:=hb.size
  by_cases hlt : k < ks.length
  ·obtain ⟨ad, t', b', A', n', c', rfl, hp, f0, f1, f2, hL⟩:=hK.kid5 hb hlt
   have hD:=Lib.hid (encs_take hlt)
   have H:=Ih.out _ (List.getElem_mem hlt) K L d _ _ _ _ (HF.out k hlt) hK1 hL1 hL
   by_cases hbk : bodyLen ks[k] ≤ 4000
   ·rw [rbV_ok hbk] at H
    obtain ⟨p, hp2⟩ : ∃ p : ByteArray, p = ⟨(enc ks[k]).toArray⟩:=⟨_, rfl⟩
    have hpl : p.size ≤ 4004:=by
     have h1:=enc_len ks[k]
     have h2:=more_le (bodyLen ks[k])
     rw [hp2]
     show (enc ks[k]).toArray.size ≤ 4004
     simp; omega
    have Hp:=Lib.hid (show p.data.toList = enc ks[k] by rw [hp2])
    rw [← hp2] at H
    clear hp2
    go_wp2_with fail
    refine H.mono ?_
    rintro e w1 ⟨rfl, hb1⟩
    clear H
    have hb2:=hb.trans (hb1.mono hs)
    have B2:=B.past hb1
    go_wp2_with fail
    go_roundw
    case rel =>
     refine ⟨k + 1, q ++ p, by omega, by go_num, rfl, ?_, ?_, B2, hb2⟩
     ·show _ = _
      rw [ByteArray.data_append, Array.toList_append, hE.out, Hp.out, hD.out, List.append_assoc]
     ·rw [ByteArray.size_append]; omega
    case measure=>simp [intOf]; omega
   ·have hbig:=body_kid (t:=t) (b:=b) hlt
    rw [rbV_bad (by omega)] at H
    have HR:=Lib.hid (rbV_bad (e:=.mk t b ks) (by omega))
    go_wp2_with fail
    refine H.mono ?_
    rintro e w1 ⟨rfl, hb1⟩
    clear H
    have hb2:=hb.trans (hb1.mono hs)
    go_wp2_with fail
    go_ret2
    rw [HR.out]
    exact ⟨rfl, hb2⟩
  ·have hk2 : k = ks.length:=by omega
   have h2:=hE.out
   rw [hk2, List.take_length] at h2
   have hqs : q.size = bodyLen (.mk t b ks):=by
    rw [size_list q _ h2, List.length_append, bodyLen]; rfl
   have H2:=Lib.hid h2
   clear h2
   by_cases hbk : bodyLen (.mk t b ks) ≤ 4000
   ·have HR:=Lib.hid (rbV_ok hbk)
    have hq4 : (q.size : Int) ≤ 4000:=by omega
    have HL:=Lib.hid (fun w=>rlen_any q.size w (by omega) hq4)
    have C1:=fun w g=>conv_one w g t
    have hp1 : (strOfNums [t]).size ≤ 1:=Nat.le_of_eq (strOfNums_size _)
    have hp2 : (⟨(lenB (q.size : Int).toNat).toArray⟩ : ByteArray).size ≤ 3:=lenB_le _
    have hfin : (strOfNums [t] ++ ⟨(lenB (q.size : Int).toNat).toArray⟩ ++ q : ByteArray) = ⟨(enc (.mk t b ks)).toArray⟩:=by
     apply ByteArray.ext
     apply Array.toList_inj.1
     have e1 : (q.size : Int).toNat = bodyLen (.mk t b ks):=by omega
     rw [ByteArray.data_append, Array.toList_append, ByteArray.data_append, Array.toList_append, strOfNums_data, H2.out, e1]
     rw [enc, encHead_lenB]
     rfl
    rw [← hfin] at HR
    clear hfin
    generalize strOfNums [t] = p1 at C1 hp1 HR
    generalize (⟨(lenB (q.size : Int).toNat).toArray⟩ : ByteArray) = p2 at HL hp2 HR
    have C1:=Lib.hid C1
    clear hqs hbk
    go_wp2_with fail
    have N0 : Blk (wr.alloc (.cells #[.int .u8 t] 5)).drew wr.heap.size 5 #[.int .u8 t]:=Blk.new wr 5 #[.int .u8 t]
    have E1:=C1.out _ _ N0
    go_region_with (first | (go_at_call 59; refine (HL.out (wr.alloc (.cells #[.int .u8 t] 5)).drew).mono ?_; rintro e w1 ⟨rfl, hbX⟩; have E3:=C1.out _ _ (N0.past hbX)) | (go_at_call 59; refine (HL.out wr.drew).mono ?_; rintro e w1 ⟨rfl, hbX⟩; have c0X : w1.cell? ⟨w.heap.size, 0, none⟩ = some (.int .u8 t):=(B.drew.past hbX).cell 0; have E2:=C1.out _ _ (Blk.new w1 5 #[.int .u8 t])))
    all_goals (go_wp2_with fail; go_ret2; rw [HR.out])
    all_goals first
     | exact ⟨rfl, hb.trans (Below.mono (B:=wr.heap.size) ((((Below.refl wr.heap.size wr).alloc (Nat.le_refl _) _).drew).trans (hbX.mono (by simp))) hs)⟩
     | exact ⟨rfl, hb.trans (Below.mono (B:=wr.heap.size) (((Below.refl wr.heap.size wr).drew.trans hbX).alloc hbX.size _) hs)⟩
   ·have HR:=Lib.hid (rbV_bad (e:=.mk t b ks) (by omega))
    have hq4 : 4000 < (q.size : Int):=by omega
    clear hqs hbk
    go_wp2_with fail
    go_ret2
    rw [HR.out]
    exact ⟨rfl, hb⟩
end Go.Proofs.YtconghaebebncaaGreatDoor.Be
