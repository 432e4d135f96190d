import Derived.Test.YtconghaebebncaaGreatDoorZR14
import Derived.Deep.RegionHeld3
import Derived.Deep.RegionWith
import Derived.Laws.MakeOwn
import Derived.Laws.Entries
import Derived.Deep.Slices
set_option linter.unusedVariables false
set_option maxRecDepth 100000
namespace Go.Proofs.YtconghaebebncaaGreatDoor.Be
open Go.RowKit
set_option maxHeartbeats 400000 in
theorem isCons_any (t : Int) (w : World) (h0 : 0 ≤ t) (h1 : t ≤ 255) :
  Calls Tryz.prog 124 #[.int .u8 t] w fun e w'=>e = .returned (.bool (bits .and .u8 t 32 != 0)) ∧ w = w':=by
 go_enter Tryz.func124, Tryz.ntmps124
 go_wp2
 go_ret
 exact ⟨rfl, rfl⟩
theorem isCons_true (t : Nat) (w : World) (h1 : t ≤ 255) (hc : t / 32 % 2 = 1) :
  Calls Tryz.prog 124 #[.int .u8 t] w fun e w'=>e = .returned (.bool true) ∧ w = w':=by
 refine (isCons_any t w (by omega) (by omega)).mono ?_
 rintro e w' ⟨rfl, rfl⟩
 exact ⟨by rw [isCons_eq t h1]; simp [hc], rfl⟩
theorem isCons_false (t : Nat) (w : World) (h1 : t ≤ 255) (hc : t / 32 % 2 = 0) :
  Calls Tryz.prog 124 #[.int .u8 t] w fun e w'=>e = .returned (.bool false) ∧ w = w':=by
 refine (isCons_any t w (by omega) (by omega)).mono ?_
 rintro e w' ⟨rfl, rfl⟩
 exact ⟨by rw [isCons_eq t h1]; simp [hc], rfl⟩
theorem isTag_true (t : Nat) (w : World) (h1 : t ≤ 255) (hc : t % 32 ≠ 31) :
  Calls Tryz.prog 141 #[.int .u8 t] w fun e w'=>e = .returned (.bool true) ∧ w = w':=by
 refine (isTag_any t w (by omega) (by omega)).mono ?_
 rintro e w' ⟨rfl, rfl⟩
 exact ⟨ret_bool (by rw [bne_iff_ne]; omega), rfl⟩
theorem isTag_false (t : Nat) (w : World) (h1 : t ≤ 255) (hc : t % 32 = 31) :
  Calls Tryz.prog 141 #[.int .u8 t] w fun e w'=>e = .returned (.bool false) ∧ w = w':=by
 refine (isTag_any t w (by omega) (by omega)).mono ?_
 rintro e w' ⟨rfl, rfl⟩
 exact ⟨ret_bool (by rw [bne_eq_false_iff_eq]; omega), rfl⟩
def SaidFormed (e : El) : Prop:=∀ (x y z : Value) (w : World), Lies w (· < w.heap.size) e [x, y, z] →
  Calls Tryz.prog 108 #[.agg #[x, y, z]] w fun r w'=>r = .returned (.bool (formed e)) ∧ Below w.heap.size w w'
set_option maxHeartbeats 1000000 in
theorem formed_step (t : Nat) (ht : t ≤ 255) (b : ByteArray) (ks : List El) (ih : ∀ k ∈ ks, SaidFormed k) (A : Option Addr) (c : Nat) (ds : Nat → List Value) (w : World)
  (hK : KidsAt w (· < w.heap.size) A ks ds) (hl : ks.length ≤ maxLen) (h1 : t % 32 ≠ 31) (h2 : t / 32 % 2 = 1) (h3 : b.size = 0) :
  Calls Tryz.prog 108 #[.agg #[.int .u8 t, .string b, .slice A ks.length c]] w
   fun r w'=>r = .returned (.bool (formeds ks)) ∧ Below w.heap.size w w':=by
 unfold maxLen at hl
 have Ih:=Lib.hid ih
 have H1:=Lib.hid h1
 have H2:=Lib.hid h2
 have h4 : b.toList = []:=by
  have : b.data.toList = []:=List.eq_nil_of_length_eq_zero h3
  simpa [ByteArray.toList_eq] using this
 clear ih h1 h2 h3
 go_enter Tryz.func108, Tryz.ntmps108
 go_wp2_with (first | (go_at_call 141; refine (isTag_true t _ ht H1.out).mono ?_; rintro e w' ⟨rfl, rfl⟩) | (go_at_call 124; refine (isCons_true t _ ht H2.out).mono ?_; rintro e w' ⟨rfl, rfl⟩))
 go_loopw [23] (fun i wr=>∃ k : Nat, k ≤ ks.length ∧ i = .int .i64 k ∧ Hid (formeds ks = formeds (ks.drop k)) ∧ Below w.heap.size w wr) (fun i wr=>ks.length - (intOf i).toNat)
 case atStart=>exact ⟨0, Nat.zero_le _, rfl, rfl, (Below.refl _ _).alloc (Nat.le_refl _) _⟩
 case round =>
  obtain ⟨k, hk, rfl, hE, hb⟩:=hrel
  by_cases hlt : k < ks.length
  ·obtain ⟨ad, t', b', A', n', c', rfl, hp, f0, f1, f2, hL⟩:=hK.kid5 hb hlt
   have hs:=hb.size
   have hD:=Lib.hid (formeds_drop hlt)
   have hb0 : Below w.heap.size w (wr.alloc (.cells #[.int .u8 t', .string b', .slice A' n' c'] 57)):=hb.alloc hs _
   have H:=Ih.out _ (List.getElem_mem hlt) _ _ _ _ (hL.alloc (.cells #[.int .u8 t', .string b', .slice A' n' c'] 57))
   go_wp2_with fail
   refine H.mono ?_
   rintro e w1 ⟨rfl, hb1⟩
   clear H
   have hb2:=hb0.trans (hb1.mono (by simp; omega))
   go_wp2_with fail
   ·have hx : formed ks[k] = false:=by
     have h0 : (!formed ks[k]) = true:=by assumption
     simpa using h0
    go_ret
    refine ⟨ret_bool ?_, hb2⟩
    rw [hE.out, hD.out, hx]; rfl
   ·have hx : formed ks[k] = true:=by
     have h0 : (!formed ks[k]) = false:=by assumption
     simpa using h0
    go_roundw
    case rel =>
     refine ⟨k + 1, by omega, by go_num, ?_, hb2⟩
     show _ = _
     rw [hE.out, hD.out, hx]; rfl
    case measure=>simp [intOf]; omega
  ·go_wp2_with fail
   go_ret
   refine ⟨ret_bool ?_, hb⟩
   have : k = ks.length:=by omega
   rw [hE.out, this, List.drop_length]; rfl
set_option maxHeartbeats 1000000 in
theorem formed_any (e : El) : SaidFormed e:=by
 refine El.ind ?_ e
 intro t b ks ih x y z w hL
 obtain ⟨A, c, ds, hcs, ht, hb, hl, hK⟩:=hL.open_
 simp only [List.cons.injEq, and_true] at hcs
 obtain ⟨rfl, rfl, rfl⟩:=hcs
 by_cases h1 : t % 32 = 31
 ·have hr:=Lib.hid (show formed (.mk t b ks) = false by simp [formed, h1])
  have H1:=Lib.hid h1
  clear h1 ih
  go_enter Tryz.func108, Tryz.ntmps108
  go_wp2_with (go_at_call 141; refine (isTag_false t _ ht H1.out).mono ?_; rintro e w' ⟨rfl, rfl⟩)
  go_ret
  rw [hr.out]
  exact ⟨rfl, (Below.refl _ _).alloc (Nat.le_refl _) _⟩
 by_cases h2 : t / 32 % 2 = 0
 ·have hr:=Lib.hid (show formed (.mk t b ks) = decide (ks.length = 0) by simp [formed, h1, h2])
  have H1:=Lib.hid h1
  have H2:=Lib.hid h2
  unfold maxLen at hl
  clear h1 h2 ih
  go_enter Tryz.func108, Tryz.ntmps108
  go_wp2_with (first | (go_at_call 141; refine (isTag_true t _ ht H1.out).mono ?_; rintro e w' ⟨rfl, rfl⟩) | (go_at_call 124; refine (isCons_false t _ ht H2.out).mono ?_; rintro e w' ⟨rfl, rfl⟩))
  go_ret
  rw [hr.out]
  refine ⟨ret_bool ?_, (Below.refl _ _).alloc (Nat.le_refl _) _⟩
  rw [Bool.eq_iff_iff]; simp
 have h2' : t / 32 % 2 = 1:=by omega
 by_cases h3 : b.size = 0
 ·refine (formed_step t ht b ks ih A c ds w hK hl h1 h2' h3).mono ?_
  rintro e w' ⟨rfl, h⟩
  exact ⟨by simp [formed, h1, h2, h3], h⟩
 ·have hr:=Lib.hid (show formed (.mk t b ks) = false by simp [formed, h1, h2, h3])
  have H1:=Lib.hid h1
  have H2:=Lib.hid h2'
  have h4 : b.toList.isEmpty = false:=by
   rw [List.isEmpty_eq_false_iff]
   intro h
   apply h3
   have h5 : b.data.toList = []:=by simpa [ByteArray.toList_eq] using h
   have : b.data.toList.length = b.size:=rfl
   rw [h5] at this
   simpa using this.symm
  have h5 : (b.toList != []) = true:=by rw [bne_iff_ne]; intro h; rw [h] at h4; simp at h4
  clear h1 h2 h2' h3 ih
  go_enter Tryz.func108, Tryz.ntmps108
  go_wp2_with (first | (go_at_call 141; refine (isTag_true t _ ht H1.out).mono ?_; rintro e w' ⟨rfl, rfl⟩) | (go_at_call 124; refine (isCons_true t _ ht H2.out).mono ?_; rintro e w' ⟨rfl, rfl⟩))
  go_ret
  rw [hr.out]
  exact ⟨rfl, (Below.refl _ _).alloc (Nat.le_refl _) _⟩
end Go.Proofs.YtconghaebebncaaGreatDoor.Be
namespace Go.Proofs.YtconghaebebncaaGreatDoor.Be
open Go.RowKit
theorem infoElV : (Tryz.prog.info? 57).map (fun i=>(i.zero, i.size, i.bytes)) = some (some (.agg #[.int .u8 0, .string ⟨#[]⟩, .slice none 0 0]), 3, 48):=by kernel_rfl
theorem make_els (n : Nat) (hn : n ≤ 1000000) (w : World) :
  (Instr.makeSlice 55 (.int .i64 (n : Int)) (.int .i64 (n : Int))).run Tryz.prog w = .ok (.slice (some ⟨w.heap.size, 0, none⟩) n n) (w.alloc (.cells (madeCells #[.int .u8 0, .string ⟨#[]⟩, .slice none 0 0] (n * 3)) 57)):=by
 obtain ⟨i0, hi, hz0, hz1, hz2⟩:=info_parts infoElV
 have hr:=run_make (P:=Tryz.prog) w 55 57 i0 _ Tryz.underlying55 hi hz0 .i64 .i64 n n (by omega) (by omega) (by rw [hz2]; omega) (by omega)
 simp only [Int.toNat_natCast, hz1] at hr
 exact hr
def Copied (w : World) (F : Nat) (cur : Array Value) (done : List El) : Prop :=
 ∀ i (h : i < done.length), ∃ x y z, cur[i * 3]? = some x ∧ cur[i * 3 + 1]? = some y ∧ cur[i * 3 + 2]? = some z ∧ Lies w (fun b=>F < b ∧ b < w.heap.size) done[i] [x, y, z]
theorem Copied.past {w w' : World} {F : Nat} {cur : Array Value} {done : List El} (h : Copied w F cur done) (hb : Below w.heap.size w w') : Copied w' F cur done:=by
 intro i hi
 obtain ⟨x, y, z, h0, h1, h2, hl⟩:=h i hi
 exact ⟨x, y, z, h0, h1, h2, hl.imp (fun b hb'=>⟨hb'.1, Nat.lt_of_lt_of_le hb'.2 hb.size⟩) (fun p hp=>hb.cell hp.2)⟩
theorem size_setCell (w : World) (p : Addr) (u : Value) : (w.setCell p u).heap.size = w.heap.size:=by simp [World.setCell]
theorem Copied.set_ {w : World} {F : Nat} {cur : Array Value} {done : List El} (h : Copied w F cur done) {p : Addr} (hp : p.block = F) (u : Value) : Copied (w.setCell p u) F cur done:=by
 intro i hi
 obtain ⟨x, y, z, h0, h1, h2, hl⟩:=h i hi
 refine ⟨x, y, z, h0, h1, h2, hl.imp (fun b hb'=>⟨hb'.1, by rw [size_setCell]; exact hb'.2⟩) (fun q hq=>?_)⟩
 exact World.cell?_setCell_other w p q u (fun e=>by subst e; have:=hq.1; omega)
theorem Copied.step {w : World} {F : Nat} {cur : Array Value} {done : List El} {e : El} {x y z : Value} (h : Copied w F cur done) (hs : done.length * 3 + 2 < cur.size) (hl : Lies w (fun b=>F < b ∧ b < w.heap.size) e [x, y, z]) :
  Copied w F (((cur.setIfInBounds (done.length * 3) x).setIfInBounds (done.length * 3 + 1) y).setIfInBounds (done.length * 3 + 2) z) (done ++ [e]):=by
 intro i hi
 by_cases hlt : i < done.length
 ·obtain ⟨x', y', z', h0, h1, h2, hl'⟩:=h i hlt
  refine ⟨x', y', z', ?_, ?_, ?_, ?_⟩
  ·rw [Array.getElem?_setIfInBounds_ne (by omega), Array.getElem?_setIfInBounds_ne (by omega), Array.getElem?_setIfInBounds_ne (by omega)]; exact h0
  ·rw [Array.getElem?_setIfInBounds_ne (by omega), Array.getElem?_setIfInBounds_ne (by omega), Array.getElem?_setIfInBounds_ne (by omega)]; exact h1
  ·rw [Array.getElem?_setIfInBounds_ne (by omega), Array.getElem?_setIfInBounds_ne (by omega), Array.getElem?_setIfInBounds_ne (by omega)]; exact h2
  ·rw [List.getElem_append_left hlt]; exact hl'
 ·have hi2 : i = done.length:=by simp at hi; omega
  subst hi2
  refine ⟨x, y, z, ?_, ?_, ?_, ?_⟩
  ·rw [Array.getElem?_setIfInBounds_ne (by omega), Array.getElem?_setIfInBounds_ne (by omega), Array.getElem?_setIfInBounds_self_of_lt (by omega)]
  ·rw [Array.getElem?_setIfInBounds_ne (by omega), Array.getElem?_setIfInBounds_self_of_lt (by simp; omega)]
  ·rw [Array.getElem?_setIfInBounds_self_of_lt (by simp; omega)]
  ·simpa using hl
theorem Copied.kids {w : World} {F : Nat} {cur : Array Value} {ks : List El} (h : Copied w F cur ks) (hB : Blk w F 57 cur) (base : Nat) (hb : base ≤ F) :
  ∃ ds, KidsAt w (fun b=>base ≤ b ∧ b < w.heap.size) (some ⟨F, 0, none⟩) ks ds:=by
 have one : ∀ i, i < ks.length → ∃ q : List Value, q.length = 3 ∧ (∀ j u, q[j]? = some u → w.cell? ((⟨F, 0, none⟩ : Addr).add (i * 3 + j)) = some u) ∧ ∀ h : i < ks.length, Lies w (fun b=>base ≤ b ∧ b < w.heap.size) ks[i] q:=by
  intro i hi
  obtain ⟨x, y, z, h0, h1, h2, hl⟩:=h i hi
  refine ⟨[x, y, z], rfl, fun j u hu=>?_, fun _=>hl.imp (fun b hb'=>⟨by omega, hb'.2⟩) (fun _ _=>rfl)⟩
  have e : (⟨F, 0, none⟩ : Addr).add (i * 3 + j) = ⟨F, i * 3 + j, none⟩:=by
   unfold Addr.add
   split
   ·rename_i h; rw [h]
   ·simp
  rw [e, hB.cell]
  match j, hu with
  | 0, hu=>simp at hu; subst hu; exact h0
  | 1, hu=>simp at hu; subst hu; exact h1
  | 2, hu=>simp at hu; subst hu; exact h2
  | j + 3, hu=>simp at hu
 obtain ⟨q, hq⟩:=Go.Deep.choose_lt one
 exact ⟨q, fun i hi=>(hq i hi).1, fun h0=>⟨_, rfl, ⟨hb, hB.lt⟩, fun i hi=>(hq i hi).2.1⟩, fun i hi=>(hq i hi).2.2 hi⟩
def SaidAnew (d : Nat) : Prop:=∀ (ks : List El) (K L : Nat) (A : Option Addr) (c : Nat) (ds : Nat → List Value) (w : World), ks.length ≤ K → K ≤ 1000000 → L ≤ 281474976710656 → (∀ i (h : i < ks.length), fitS K L d ks[i] = true) →
  KidsAt w (· < w.heap.size) A ks ds →
  Calls Tryz.prog 131 #[.slice A ks.length c] w fun r w'=>∃ (A' : Option Addr) (c' : Nat) (ds' : Nat → List Value), r = .returned (.slice A' ks.length c') ∧ Below w.heap.size w w' ∧ KidsAt w' (fun b=>w.heap.size ≤ b ∧ b < w'.heap.size) A' ks ds'
set_option maxHeartbeats 1000000 in
theorem anew_nil (c : Nat) (A : Option Addr) (w : World) :
  Calls Tryz.prog 131 #[.slice A 0 c] w fun r w'=>r = .returned (.slice none 0 0) ∧ Below w.heap.size w w':=by
 go_enter Tryz.func131, Tryz.ntmps131
 go_wp2_with fail
 go_ret
 exact ⟨rfl, Below.refl _ _⟩
set_option maxHeartbeats 1000000 in
theorem anew_step (d : Nat) (ih : SaidAnew d) (ks : List El) (K L : Nat) (A : Option Addr) (c : Nat) (ds : Nat → List Value) (w : World) (hl : ks.length ≤ K) (hK6 : K ≤ 1000000) (hL6 : L ≤ 281474976710656) (hF : ∀ i (h : i < ks.length), fitS K L (d + 1) ks[i] = true)
  (hK : KidsAt w (· < w.heap.size) A ks ds) (h0 : 0 < ks.length) :
  Calls Tryz.prog 131 #[.slice A ks.length c] w fun r w'=>∃ (A' : Option Addr) (c' : Nat) (ds' : Nat → List Value), r = .returned (.slice A' ks.length c') ∧ Below w.heap.size w w' ∧ KidsAt w' (fun b=>w.heap.size ≤ b ∧ b < w'.heap.size) A' ks ds':=by
 have hz : ((ks.length : Int) == 0) = false:=beq_eq_false_iff_ne.2 (by omega)
 have hmk:=fun w=>make_els ks.length (by omega) w
 have Ih:=Lib.hid ih
 clear ih
 go_enter Tryz.func131, Tryz.ntmps131
 go_wp2_with fail
 go_loopw [14] (fun i wr=>∃ (k : Nat) (cur : Array Value), k ≤ ks.length ∧ i = .int .i64 k ∧ Blk wr w.heap.size 57 cur ∧ cur.size = ks.length * 3 ∧ Hid (Copied wr w.heap.size cur (ks.take k)) ∧ Below w.heap.size w wr) (fun i wr=>ks.length - (intOf i).toNat)
 case atStart=>exact ⟨0, _, Nat.zero_le _, rfl, Blk.new w _ _, by rw [size_madeCells], fun i hi=>by simp at hi, (Below.refl _ _).alloc (Nat.le_refl _) _⟩
 case round =>
  obtain ⟨k, cur, hk, rfl, B, hcs, hC, hb⟩:=hrel
  have hs:=hb.size
  have hBl:=B.lt
  by_cases hlt : k < ks.length
  ·obtain ⟨ad, t', b', A', n', c', rfl, hp, f0, f1, f2, hL⟩:=hK.kid5 hb hlt
   have hFk:=hF k hlt
   obtain ⟨t0, b0, kk, hek⟩ : ∃ t0 b0 kk, ks[k] = .mk t0 b0 kk:=by
    cases h : ks[k] with
    | mk t0 b0 kk=>exact ⟨t0, b0, kk, rfl⟩
   rw [hek] at hL hFk
   obtain ⟨A2, c2, ds2, hcs2, ht2, hb2, hl2, hK2⟩:=hL.open_
   simp only [List.cons.injEq, and_true, Value.int.injEq, Value.string.injEq, Value.slice.injEq] at hcs2
   obtain ⟨⟨_, ht'⟩, rfl, rfl, rfl, rfl⟩:=hcs2
   have ht' : t' = t0:=by omega
   subst ht'
   obtain ⟨hkK, hbL, hkF⟩:=fitS_open hFk
   obtain ⟨u0, u1, u2, hu0, hu1, hu2⟩ : ∃ u0 u1 u2, cur[k * 3]? = some u0 ∧ cur[k * 3 + 1]? = some u1 ∧ cur[k * 3 + 2]? = some u2 :=
    ⟨_, _, _, Array.getElem?_eq_getElem (by omega), Array.getElem?_eq_getElem (by omega), Array.getElem?_eq_getElem (by omega)⟩
   have BE:=Blk.new wr 57 #[.int .u8 t', .string b', .slice A' kk.length c']
   have BF:=B.alloc (.cells #[.int .u8 t', .string b', .slice A' kk.length c'] 57)
   have HkF:=Lib.hid hkF
   have HBF : Hid (∀ w1 w2, Below (wr.alloc (.cells #[.int .u8 t', .string b', .slice A' kk.length c'] 57)).heap.size (wr.alloc (.cells #[.int .u8 t', .string b', .slice A' kk.length c'] 57)).drew w1 → Below w1.heap.size w1 w2 →
     Blk w2 w.heap.size 57 cur ∧ w2.cell? ⟨w.heap.size, k * 3, none⟩ = some u0 ∧ w2.cell? ⟨w.heap.size, k * 3 + 1, none⟩ = some u1 ∧ w2.cell? ⟨w.heap.size, k * 3 + 2, none⟩ = some u2 ∧
     w2.frozen? ⟨w.heap.size, k * 3, none⟩ = false ∧ w2.frozen? ⟨w.heap.size, k * 3 + 1, none⟩ = false ∧ w2.frozen? ⟨w.heap.size, k * 3 + 2, none⟩ = false):=fun w1 w2 h1 h2=>by
    have hX : Blk w2 w.heap.size 57 cur:=(BF.drew.past h1).past h2
    exact ⟨hX, (hX.cell _).trans hu0, (hX.cell _).trans hu1, (hX.cell _).trans hu2, hX.frozen _, hX.frozen _, hX.frozen _⟩
   have HKK : Hid (∀ w1, Below (wr.alloc (.cells #[.int .u8 t', .string b', .slice A' kk.length c'] 57)).heap.size (wr.alloc (.cells #[.int .u8 t', .string b', .slice A' kk.length c'] 57)).drew w1 → KidsAt w1 (· < w1.heap.size) A' kk ds2):=fun w1 h =>
    hK2.past ((((Below.refl wr.heap.size wr).alloc (Nat.le_refl _) _).drew).trans (h.mono (by simp)))
   have hne : wr.heap.size ≠ w.heap.size:=by omega
   clear hkF hFk hL hF
   go_wp2_with fail
   go_region_held3 (fun w'=>w'.cell? ⟨wr.heap.size, 0, none⟩ = some (.int .u8 t') ∧ w'.cell? ⟨wr.heap.size, 1, none⟩ = some (.string b') ∧ w'.cell? ⟨wr.heap.size, 2, none⟩ = some (.slice A' kk.length c')) (first | go_keep | exact ⟨BE.cell 0, BE.cell 1, BE.cell 2⟩ | exact ⟨(BE.drew.past hb1).cell 0, (BE.drew.past hb1).cell 1, (BE.drew.past hb1).cell 2⟩ | exact ⟨((BE.drew.past hb1).past hb2').cell 0, ((BE.drew.past hb1).past hb2').cell 1, ((BE.drew.past hb1).past hb2').cell 2⟩ | exact ⟨((((BE2.far hne _).far hne _).far hne _)).cell 0, ((((BE2.far hne _).far hne _).far hne _)).cell 1, ((((BE2.far hne _).far hne _).far hne _)).cell 2⟩) (first | (go_at_call 125; refine (clone_any _ _ (by omega)).mono ?_; rintro e w1 ⟨rfl, hb1⟩) | (go_at_call 131; refine (Ih.out kk K L _ _ ds2 _ hkK hK6 hL6 HkF.out (HKK.out _ hb1)).mono ?_; rintro e w2 ⟨A3, c3, ds3, rfl, hb2', hK3⟩; have hBX:=HBF.out _ _ hb1 hb2'; have BE2:=(BE.drew.past hb1).past hb2'; have q0:=hBX.2.1; have q1:=hBX.2.2.1; have q2:=hBX.2.2.2.1; have z0:=hBX.2.2.2.2.1; have z1:=hBX.2.2.2.2.2.1; have z2:=hBX.2.2.2.2.2.2))
   have hX1 : Below wr.heap.size wr w2:=((((Below.refl wr.heap.size wr).alloc (Nat.le_refl _) _).drew).trans (hb1.mono (by simp))).trans (hb2'.mono (by have:=hb1.size; simp at this; omega))
   have hs1 : wr.heap.size < w1.heap.size:=by have:=hb1.size; simp at this; omega
   have hs2:=hb2'.size
   have hCk:=Copied.step ((hC.out).past hX1) (e:=.mk t' b' kk) (x:=.int .u8 t') (y:=.string b') (z:=.slice A3 kk.length c3) (by rw [List.length_take]; omega)
    (Lies.shut (c:=c3) ht2 hb2 hl2 (hK3.imp (fun b hb=>⟨by omega, hb.2⟩) (fun _ _=>rfl)))
   have hlen : (ks.take k).length = k:=by rw [List.length_take]; omega
   rw [hlen, ← hek, ← List.take_succ_eq_append_getElem hlt] at hCk
   have HCk:=Lib.hid (((hCk.set_ (p:=⟨w.heap.size, k * 3, none⟩) rfl (.int .u8 t')).set_ (p:=⟨w.heap.size, k * 3 + 1, none⟩) rfl (.string b')).set_ (p:=⟨w.heap.size, k * 3 + 2, none⟩) rfl (.slice A3 kk.length c3))
   have B3:=((hBX.1.set_ (k * 3) (.int .u8 t')).set_ (k * 3 + 1) (.string b')).set_ (k * 3 + 2) (.slice A3 kk.length c3)
   have hb3:=(((hb.trans (hX1.mono hs)).setCell (p:=⟨w.heap.size, k * 3, none⟩) (Nat.le_refl _) (.int .u8 t')).setCell (p:=⟨w.heap.size, k * 3 + 1, none⟩) (Nat.le_refl _) (.string b')).setCell (p:=⟨w.heap.size, k * 3 + 2, none⟩) (Nat.le_refl _) (.slice A3 kk.length c3)
   clear hCk hBX BE BF BE2 HBF HKK hK2 hK3 hX1 q0 q1 q2 z0 z1 z2
   go_wp2_with fail
   go_roundw
   case rel=>exact ⟨k + 1, _, by omega, by go_num, B3, by simp [hcs], HCk.out, hb3⟩
   case measure=>simp [intOf]; omega
  ·have hke : k = ks.length:=by omega
   subst hke
   rw [List.take_length] at hC
   go_wp2_with fail
   go_ret
   obtain ⟨ds', hds⟩:=hC.out.kids B w.heap.size (Nat.le_refl _)
   exact ⟨_, _, ds', rfl, hb, hds⟩
theorem anew_any : ∀ d : Nat, SaidAnew d
 | 0=>by
  intro ks K L A c ds w hl hK6 hL6 hF hK
  have h0 : ks = []:=by
   cases ks with
   | nil=>rfl
   | cons k ks=>exact (fitS_zero (hF 0 (by simp))).elim
  subst h0
  refine (anew_nil c A w).mono ?_
  rintro r w' ⟨rfl, hb⟩
  exact ⟨none, 0, fun _=>[], rfl, hb, fun i h=>absurd h (by simp), fun h=>absurd h (by simp), fun i h=>absurd h (by simp)⟩
 | d + 1=>by
  intro ks K L A c ds w hl hK6 hL6 hF hK
  by_cases h0 : 0 < ks.length
  ·exact anew_step d (anew_any d) ks K L A c ds w hl hK6 hL6 hF hK h0
  ·have h0 : ks = []:=List.eq_nil_of_length_eq_zero (by omega)
   subst h0
   refine (anew_nil c A w).mono ?_
   rintro r w' ⟨rfl, hb⟩
   exact ⟨none, 0, fun _=>[], rfl, hb, fun i h=>absurd h (by simp), fun h=>absurd h (by simp), fun i h=>absurd h (by simp)⟩
end Go.Proofs.YtconghaebebncaaGreatDoor.Be
namespace Go.Proofs.YtconghaebebncaaGreatDoor.Be
open Go.RowKit
def deepB (d : Int) (e : El) : Bool:=decide (d < dep e)
def anyB (d : Int) : List El → Bool
 | []=>false
 | k :: ks=>deepB d k || anyB d ks
theorem anyB_drop {d : Int} {l : List El} {i : Nat} (h : i < l.length) : anyB d (l.drop i) = (deepB d l[i] || anyB d (l.drop (i + 1))):=by
 rw [List.drop_eq_getElem_cons h, anyB]
theorem anyB_deps (d : Int) (h : 0 ≤ d) : ∀ l : List El, anyB d l = decide (d < deps l)
 | []=>by
  rw [anyB, deps, Bool.eq_iff_iff]; simp; omega
 | k :: l=>by
  rw [anyB, anyB_deps d h l, deps, deepB]
  rw [Bool.eq_iff_iff]; simp; omega
def SaidDeeper (e : El) : Prop:=∀ (d : Int) (x y z : Value) (w : World), 0 ≤ d → d ≤ 1000 → Lies w (· < w.heap.size) e [x, y, z] →
  Calls Tryz.prog 109 #[.agg #[x, y, z], .int .i64 d] w fun r w'=>r = .returned (.bool (deepB d e)) ∧ Below w.heap.size w w'
set_option maxHeartbeats 1000000 in
theorem deeper_any (e : El) : SaidDeeper e:=by
 refine El.ind ?_ e
 intro t b ks ih d x y z w hd0 hd hL
 obtain ⟨A, c, ds, hcs, ht, hb, hl, hK⟩:=hL.open_
 simp only [List.cons.injEq, and_true] at hcs
 obtain ⟨rfl, rfl, rfl⟩:=hcs
 unfold maxLen at hl
 by_cases h0 : d = 0
 ·have hr:=Lib.hid (show deepB d (.mk t b ks) = true by simp [deepB, dep, h0])
  have h1 : (d == 0) = true:=by simp [h0]
  clear h0 ih
  go_enter Tryz.func109, Tryz.ntmps109
  go_wp2_with fail
  go_ret
  rw [hr.out]
  exact ⟨rfl, (Below.refl _ _).alloc (Nat.le_refl _) _⟩
 ·have hr:=Lib.hid (show deepB d (.mk t b ks) = anyB (d - 1) ks by rw [anyB_deps _ (by omega), deepB, dep, Bool.eq_iff_iff]; simp; omega)
  have h1 : (d == 0) = false:=beq_eq_false_iff_ne.2 h0
  have h2 : 1 ≤ d:=by omega
  have Ih:=Lib.hid ih
  clear h0 ih hL hd0
  go_enter Tryz.func109, Tryz.ntmps109
  go_wp2_with fail
  go_loopw [12] (fun i wr=>∃ k : Nat, k ≤ ks.length ∧ i = .int .i64 k ∧ Hid (anyB (d - 1) ks = anyB (d - 1) (ks.drop k)) ∧ Below w.heap.size w wr) (fun i wr=>ks.length - (intOf i).toNat)
  case atStart=>exact ⟨0, Nat.zero_le _, rfl, rfl, (Below.refl _ _).alloc (Nat.le_refl _) _⟩
  case round =>
   obtain ⟨k, hk, rfl, hE, hb⟩:=hrel
   by_cases hlt : k < ks.length
   ·obtain ⟨ad, t', b', A', n', c', rfl, hp, f0, f1, f2, hL⟩:=hK.kid5 hb hlt
    have hs:=hb.size
    have hD:=Lib.hid (anyB_drop (d:=d - 1) hlt)
    have hb0 : Below w.heap.size w (wr.alloc (.cells #[.int .u8 t', .string b', .slice A' n' c'] 57)):=hb.alloc hs _
    have H:=Ih.out _ (List.getElem_mem hlt) (d - 1) _ _ _ _ (by omega) (by omega) (hL.alloc (.cells #[.int .u8 t', .string b', .slice A' n' c'] 57))
    go_wp2_with fail
    refine H.mono ?_
    rintro e w1 ⟨rfl, hb1⟩
    clear H
    have hb2:=hb0.trans (hb1.mono (by simp; omega))
    go_wp2_with fail
    ·have hx : deepB (d - 1) ks[k] = true:=by assumption
     go_ret
     refine ⟨ret_bool ?_, hb2⟩
     rw [hr.out, hE.out, hD.out, hx]; rfl
    ·have hx : deepB (d - 1) ks[k] = false:=by assumption
     go_roundw
     case rel =>
      refine ⟨k + 1, by omega, by go_num, ?_, hb2⟩
      show _ = _
      rw [hE.out, hD.out, hx]; rfl
     case measure=>simp [intOf]; omega
   ·go_wp2_with fail
    go_ret
    refine ⟨ret_bool ?_, hb⟩
    have : k = ks.length:=by omega
    rw [hr.out, hE.out, this, List.drop_length]; rfl
set_option maxHeartbeats 400000 in
theorem more_any (n : Int) (w : World) (h : 0 ≤ n) :
  Calls Tryz.prog 142 #[.int .i64 n] w fun r w'=>r = .returned (.int .i64 (more n.toNat)) ∧ w = w':=by
 by_cases h1 : n < 128
 ·have hr:=Lib.hid (show more n.toNat = 0 by unfold more; rw [if_pos (by omega)])
  go_enter Tryz.func142, Tryz.ntmps142
  go_wp2_with fail
  go_ret
  rw [hr.out]; exact ⟨rfl, rfl⟩
 by_cases h2 : n < 256
 ·have hr:=Lib.hid (show more n.toNat = 1 by unfold more; rw [if_neg (by omega), if_pos (by omega)])
  go_enter Tryz.func142, Tryz.ntmps142
  go_wp2_with fail
  go_ret
  rw [hr.out]; exact ⟨rfl, rfl⟩
 ·have hr:=Lib.hid (show more n.toNat = 2 by unfold more; rw [if_neg (by omega), if_neg (by omega)])
  go_enter Tryz.func142, Tryz.ntmps142
  go_wp2_with fail
  go_ret
  rw [hr.out]; exact ⟨rfl, rfl⟩
def SaidSize (e : El) : Prop:=∀ (K L d : Nat) (x y z : Value) (w : World), L ≤ 10000 → d ≤ 10000 → fitS K L d e = true → Lies w (· < w.heap.size) e [x, y, z] →
  Calls Tryz.prog 110 #[.agg #[x, y, z]] w fun r w'=>r = .returned (.int .i64 (tsz e)) ∧ Below w.heap.size w w'
set_option maxHeartbeats 1000000 in
theorem size_any (e : El) : SaidSize e:=by
 refine El.ind ?_ e
 intro t b ks ih K L d x y z w hL1 hd hF hL
 obtain ⟨A, c, ds, hcs, ht, hb, hl, hK⟩:=hL.open_
 simp only [List.cons.injEq, and_true] at hcs
 obtain ⟨rfl, rfl, rfl⟩:=hcs
 unfold maxLen at hl hb
 cases d with
 | zero=>exact (fitS_zero hF).elim
 | succ d =>
 obtain ⟨_, hbL, hkF⟩:=fitS_open hF
 have HF:=Lib.hid hkF
 have hr:=Lib.hid (show tsz (.mk t b ks) = tszs b.size ks by rw [tsz])
 have Ih:=Lib.hid ih
 clear ih hL hF hkF
 go_enter Tryz.func110, Tryz.ntmps110
 go_wp2_with fail
 go_loopw [3, 13] (fun n i wr=>∃ k m : Nat, k ≤ ks.length ∧ i = .int .i64 k ∧ n = .int .i64 m ∧ m ≤ 50000000 ∧ Hid (tszs b.size ks = tszs m (ks.drop k)) ∧ Below w.heap.size w wr) (fun n i wr=>ks.length - (intOf i).toNat)
 case atStart=>exact ⟨0, b.size, Nat.zero_le _, rfl, rfl, by omega, rfl, (Below.refl _ _).alloc (Nat.le_refl _) _⟩
 case round =>
  obtain ⟨k, m, hk, rfl, rfl, hm, hE, hb⟩:=hrel
  by_cases hlt : k < ks.length
  ·obtain ⟨ad, t', b', A', n', c', rfl, hp, f0, f1, f2, hL⟩:=hK.kid5 hb hlt
   have hs:=hb.size
   have hD:=Lib.hid (tszs_drop (n:=m) hlt)
   have hb0 : Below w.heap.size w (wr.alloc (.cells #[.int .u8 t', .string b', .slice A' n' c'] 57)):=hb.alloc hs _
   have H:=Ih.out _ (List.getElem_mem hlt) K L d _ _ _ _ hL1 (by omega) (HF.out k hlt) (hL.alloc (.cells #[.int .u8 t', .string b', .slice A' n' c'] 57))
   have hT:=tsz_bound (HF.out k hlt)
   by_cases h4 : 4000 < (m : Int)
   ·clear H hT
    go_wp2_with fail
    go_ret
    refine ⟨ret_int ?_, hb0⟩
    rw [hr.out, hE.out, hD.out, if_pos (by omega)]
   ·obtain ⟨v, hv⟩ : ∃ v, v = tsz ks[k]:=⟨_, rfl⟩
    rw [← hv] at H hT
    have Hv:=Lib.hid hv
    have hm2:=more_le v
    clear hv
    go_wp2_with fail
    refine H.mono ?_
    rintro e w1 ⟨rfl, hb1⟩
    clear H
    have hb2:=hb0.trans (hb1.mono (by simp; omega))
    go_wp2_with (go_at_call 142; refine (more_any _ _ (by omega)).mono ?_; rintro e w2 ⟨rfl, rfl⟩)
    go_roundw
    case rel =>
     refine ⟨k + 1, m + (2 + more v + v), by omega, by go_num, by go_num, by omega, ?_, hb2⟩
     show _ = _
     rw [hE.out, hD.out, if_neg (by omega), Hv.out]
    case measure=>simp [intOf]; omega
  ·go_wp2_with fail
   go_ret
   refine ⟨ret_int ?_, hb⟩
   have : k = ks.length:=by omega
   rw [hr.out, hE.out, this, List.drop_length]; rfl
end Go.Proofs.YtconghaebebncaaGreatDoor.Be
