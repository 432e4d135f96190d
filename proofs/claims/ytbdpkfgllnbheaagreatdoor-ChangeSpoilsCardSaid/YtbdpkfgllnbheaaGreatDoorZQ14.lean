import Derived.Deep.RegionWith
import Derived.Laws.MakeOwn
import Derived.Laws.Entries
import Derived.Deep.Slices
import Derived.Test.YtbdpkfgllnbheaaGreatDoorZQ13
set_option linter.unusedVariables false
set_option maxRecDepth 100000
namespace Go.Proofs.YtbdpkfgllnbheaaGreatDoor.Be
open Go.RowKit
theorem infoElV : (Tryz.prog.info? 53).map (fun i=>(i.zero, i.size, i.bytes)) = some (some (.agg #[.int .u8 0, .string ⟨#[]⟩, .slice none 0 0]), 3, 48):=by kernel_rfl
theorem make_els (n : Nat) (hn : n ≤ 1000000) (w : World) :
  (Instr.makeSlice 51 (.int .i64 (n : Int)) (.int .i64 (n : Int))).run Tryz.prog w = .ok (.slice (some ⟨w.heap.size, 0, none⟩) n n) (w.alloc (.cells (madeCells #[.int .u8 0, .string ⟨#[]⟩, .slice none 0 0] (n * 3)) 53)):=by
 obtain ⟨i0, hi, hz0, hz1, hz2⟩:=info_parts infoElV
 have hr:=run_make (P:=Tryz.prog) w 51 53 i0 _ Tryz.underlying51 hi hz0 .i64 .i64 n n (by omega) (by omega) (by rw [hz2]; omega) (by omega)
 simp only [Int.toNat_natCast, hz1] at hr
 exact hr
def Copied (w : World) (F : Nat) (cur : Array Value) (done : List El) : Prop :=
 ∀ i (h : i < done.length), ∃ x y z, cur[i * 3]? = some x ∧ cur[i * 3 + 1]? = some y ∧ cur[i * 3 + 2]? = some z ∧ Lies w (fun b=>F < b ∧ b < w.heap.size) done[i] [x, y, z]
theorem Copied.past {w w' : World} {F : Nat} {cur : Array Value} {done : List El} (h : Copied w F cur done) (hb : Below w.heap.size w w') : Copied w' F cur done:=by
 intro i hi
 obtain ⟨x, y, z, h0, h1, h2, hl⟩:=h i hi
 exact ⟨x, y, z, h0, h1, h2, hl.imp (fun b hb'=>⟨hb'.1, Nat.lt_of_lt_of_le hb'.2 hb.size⟩) (fun p hp=>hb.cell hp.2)⟩
theorem size_setCell (w : World) (p : Addr) (u : Value) : (w.setCell p u).heap.size = w.heap.size:=by simp [World.setCell]
theorem Copied.set_ {w : World} {F : Nat} {cur : Array Value} {done : List El} (h : Copied w F cur done) {p : Addr} (hp : p.block = F) (u : Value) : Copied (w.setCell p u) F cur done:=by
 intro i hi
 obtain ⟨x, y, z, h0, h1, h2, hl⟩:=h i hi
 refine ⟨x, y, z, h0, h1, h2, hl.imp (fun b hb'=>⟨hb'.1, by rw [size_setCell]; exact hb'.2⟩) (fun q hq=>?_)⟩
 exact World.cell?_setCell_other w p q u (fun e=>by subst e; have:=hq.1; omega)
theorem Copied.step {w : World} {F : Nat} {cur : Array Value} {done : List El} {e : El} {x y z : Value} (h : Copied w F cur done) (hs : done.length * 3 + 2 < cur.size) (hl : Lies w (fun b=>F < b ∧ b < w.heap.size) e [x, y, z]) :
  Copied w F (((cur.setIfInBounds (done.length * 3) x).setIfInBounds (done.length * 3 + 1) y).setIfInBounds (done.length * 3 + 2) z) (done ++ [e]):=by
 intro i hi
 by_cases hlt : i < done.length
 ·obtain ⟨x', y', z', h0, h1, h2, hl'⟩:=h i hlt
  refine ⟨x', y', z', ?_, ?_, ?_, ?_⟩
  ·rw [Array.getElem?_setIfInBounds_ne (by omega), Array.getElem?_setIfInBounds_ne (by omega), Array.getElem?_setIfInBounds_ne (by omega)]; exact h0
  ·rw [Array.getElem?_setIfInBounds_ne (by omega), Array.getElem?_setIfInBounds_ne (by omega), Array.getElem?_setIfInBounds_ne (by omega)]; exact h1
  ·rw [Array.getElem?_setIfInBounds_ne (by omega), Array.getElem?_setIfInBounds_ne (by omega), Array.getElem?_setIfInBounds_ne (by omega)]; exact h2
  ·rw [List.getElem_append_left hlt]; exact hl'
 ·have hi2 : i = done.length:=by simp at hi; omega
  subst hi2
  refine ⟨x, y, z, ?_, ?_, ?_, ?_⟩
  ·rw [Array.getElem?_setIfInBounds_ne (by omega), Array.getElem?_setIfInBounds_ne (by omega), Array.getElem?_setIfInBounds_self_of_lt (by omega)]
  ·rw [Array.getElem?_setIfInBounds_ne (by omega), Array.getElem?_setIfInBounds_self_of_lt (by simp; omega)]
  ·rw [Array.getElem?_setIfInBounds_self_of_lt (by simp; omega)]
  ·simpa using hl
theorem Copied.kids {w : World} {F : Nat} {cur : Array Value} {ks : List El} (h : Copied w F cur ks) (hB : Blk w F 53 cur) (base : Nat) (hb : base ≤ F) :
  ∃ ds, KidsAt w (fun b=>base ≤ b ∧ b < w.heap.size) (some ⟨F, 0, none⟩) ks ds:=by
 have one : ∀ i, i < ks.length → ∃ q : List Value, q.length = 3 ∧ (∀ j u, q[j]? = some u → w.cell? ((⟨F, 0, none⟩ : Addr).add (i * 3 + j)) = some u) ∧ ∀ h : i < ks.length, Lies w (fun b=>base ≤ b ∧ b < w.heap.size) ks[i] q:=by
  intro i hi
  obtain ⟨x, y, z, h0, h1, h2, hl⟩:=h i hi
  refine ⟨[x, y, z], rfl, fun j u hu=>?_, fun _=>hl.imp (fun b hb'=>⟨by omega, hb'.2⟩) (fun _ _=>rfl)⟩
  have e : (⟨F, 0, none⟩ : Addr).add (i * 3 + j) = ⟨F, i * 3 + j, none⟩:=by
   unfold Addr.add
   split
   ·rename_i h; rw [h]
   ·simp
  rw [e, hB.cell]
  match j, hu with
  | 0, hu=>simp at hu; subst hu; exact h0
  | 1, hu=>simp at hu; subst hu; exact h1
  | 2, hu=>simp at hu; subst hu; exact h2
  | j + 3, hu=>simp at hu
 obtain ⟨q, hq⟩:=Go.Deep.choose_lt one
 exact ⟨q, fun i hi=>(hq i hi).1, fun h0=>⟨_, rfl, ⟨hb, hB.lt⟩, fun i hi=>(hq i hi).2.1⟩, fun i hi=>(hq i hi).2.2 hi⟩
def SaidAnew (d : Nat) : Prop:=∀ (ks : List El) (K L : Nat) (A : Option Addr) (c : Nat) (ds : Nat → List Value) (w : World), ks.length ≤ K → K ≤ 1000000 → L ≤ 281474976710656 → (∀ i (h : i < ks.length), fitS K L d ks[i] = true) →
  KidsAt w (· < w.heap.size) A ks ds →
  Calls Tryz.prog 120 #[.slice A ks.length c] w fun r w'=>∃ (A' : Option Addr) (c' : Nat) (ds' : Nat → List Value), r = .returned (.slice A' ks.length c') ∧ Below w.heap.size w w' ∧ KidsAt w' (fun b=>w.heap.size ≤ b ∧ b < w'.heap.size) A' ks ds'
set_option maxHeartbeats 1000000 in
theorem anew_nil (c : Nat) (A : Option Addr) (w : World) :
  Calls Tryz.prog 120 #[.slice A 0 c] w fun r w'=>r = .returned (.slice none 0 0) ∧ Below w.heap.size w w':=by
 go_enter Tryz.func120, Tryz.ntmps120
 go_wp2_with fail
 go_ret
 exact ⟨rfl, Below.refl _ _⟩
set_option maxHeartbeats 1000000 in
theorem anew_step (d : Nat) (ih : SaidAnew d) (ks : List El) (K L : Nat) (A : Option Addr) (c : Nat) (ds : Nat → List Value) (w : World) (hl : ks.length ≤ K) (hK6 : K ≤ 1000000) (hL6 : L ≤ 281474976710656) (hF : ∀ i (h : i < ks.length), fitS K L (d + 1) ks[i] = true)
  (hK : KidsAt w (· < w.heap.size) A ks ds) (h0 : 0 < ks.length) :
  Calls Tryz.prog 120 #[.slice A ks.length c] w fun r w'=>∃ (A' : Option Addr) (c' : Nat) (ds' : Nat → List Value), r = .returned (.slice A' ks.length c') ∧ Below w.heap.size w w' ∧ KidsAt w' (fun b=>w.heap.size ≤ b ∧ b < w'.heap.size) A' ks ds':=by
 have hz : ((ks.length : Int) == 0) = false:=beq_eq_false_iff_ne.2 (by omega)
 have hmk:=fun w=>make_els ks.length (by omega) w
 have Ih:=Lib.hid ih
 clear ih
 go_enter Tryz.func120, Tryz.ntmps120
 go_wp2_with fail
 go_loopw [14] (fun i wr=>∃ (k : Nat) (cur : Array Value), k ≤ ks.length ∧ i = .int .i64 k ∧ Blk wr w.heap.size 53 cur ∧ cur.size = ks.length * 3 ∧ Hid (Copied wr w.heap.size cur (ks.take k)) ∧ Below w.heap.size w wr) (fun i wr=>ks.length - (intOf i).toNat)
 case atStart=>exact ⟨0, _, Nat.zero_le _, rfl, Blk.new w _ _, by rw [size_madeCells], fun i hi=>by simp at hi, (Below.refl _ _).alloc (Nat.le_refl _) _⟩
 case round =>
  obtain ⟨k, cur, hk, rfl, B, hcs, hC, hb⟩:=hrel
  have hs:=hb.size
  have hBl:=B.lt
  by_cases hlt : k < ks.length
  ·obtain ⟨ad, t', b', A', n', c', rfl, hp, f0, f1, f2, hL⟩:=hK.kid5 hb hlt
   have hFk:=hF k hlt
   obtain ⟨t0, b0, kk, hek⟩ : ∃ t0 b0 kk, ks[k] = .mk t0 b0 kk:=by
    cases h : ks[k] with
    | mk t0 b0 kk=>exact ⟨t0, b0, kk, rfl⟩
   rw [hek] at hL hFk
   obtain ⟨A2, c2, ds2, hcs2, ht2, hb2, hl2, hK2⟩:=hL.open_
   simp only [List.cons.injEq, and_true, Value.int.injEq, Value.string.injEq, Value.slice.injEq] at hcs2
   obtain ⟨⟨_, ht'⟩, rfl, rfl, rfl, rfl⟩:=hcs2
   have ht' : t' = t0:=by omega
   subst ht'
   obtain ⟨hkK, hbL, hkF⟩:=fitS_open hFk
   obtain ⟨u0, u1, u2, hu0, hu1, hu2⟩ : ∃ u0 u1 u2, cur[k * 3]? = some u0 ∧ cur[k * 3 + 1]? = some u1 ∧ cur[k * 3 + 2]? = some u2 :=
    ⟨_, _, _, Array.getElem?_eq_getElem (by omega), Array.getElem?_eq_getElem (by omega), Array.getElem?_eq_getElem (by omega)⟩
   have BE:=Blk.new wr 53 #[.int .u8 t', .string b', .slice A' kk.length c']
   have BF:=B.alloc (.cells #[.int .u8 t', .string b', .slice A' kk.length c'] 53)
   have HkF:=Lib.hid hkF
   have HBF : Hid (∀ w1 w2, Below (wr.alloc (.cells #[.int .u8 t', .string b', .slice A' kk.length c'] 53)).heap.size (wr.alloc (.cells #[.int .u8 t', .string b', .slice A' kk.length c'] 53)).drew w1 → Below w1.heap.size w1 w2 →
     Blk w2 w.heap.size 53 cur ∧ w2.cell? ⟨w.heap.size, k * 3, none⟩ = some u0 ∧ w2.cell? ⟨w.heap.size, k * 3 + 1, none⟩ = some u1 ∧ w2.cell? ⟨w.heap.size, k * 3 + 2, none⟩ = some u2 ∧
     w2.frozen? ⟨w.heap.size, k * 3, none⟩ = false ∧ w2.frozen? ⟨w.heap.size, k * 3 + 1, none⟩ = false ∧ w2.frozen? ⟨w.heap.size, k * 3 + 2, none⟩ = false):=fun w1 w2 h1 h2=>by
    have hX : Blk w2 w.heap.size 53 cur:=(BF.drew.past h1).past h2
    exact ⟨hX, (hX.cell _).trans hu0, (hX.cell _).trans hu1, (hX.cell _).trans hu2, hX.frozen _, hX.frozen _, hX.frozen _⟩
   have HKK : Hid (∀ w1, Below (wr.alloc (.cells #[.int .u8 t', .string b', .slice A' kk.length c'] 53)).heap.size (wr.alloc (.cells #[.int .u8 t', .string b', .slice A' kk.length c'] 53)).drew w1 → KidsAt w1 (· < w1.heap.size) A' kk ds2):=fun w1 h =>
    hK2.past ((((Below.refl wr.heap.size wr).alloc (Nat.le_refl _) _).drew).trans (h.mono (by simp)))
   have hne : wr.heap.size ≠ w.heap.size:=by omega
   clear hkF hFk hL hF
   go_wp2_with fail
   go_region_held3 (fun w'=>w'.cell? ⟨wr.heap.size, 0, none⟩ = some (.int .u8 t') ∧ w'.cell? ⟨wr.heap.size, 1, none⟩ = some (.string b') ∧ w'.cell? ⟨wr.heap.size, 2, none⟩ = some (.slice A' kk.length c')) (first | go_keep | exact ⟨BE.cell 0, BE.cell 1, BE.cell 2⟩ | exact ⟨(BE.drew.past hb1).cell 0, (BE.drew.past hb1).cell 1, (BE.drew.past hb1).cell 2⟩ | exact ⟨((BE.drew.past hb1).past hb2').cell 0, ((BE.drew.past hb1).past hb2').cell 1, ((BE.drew.past hb1).past hb2').cell 2⟩ | exact ⟨((((BE2.far hne _).far hne _).far hne _)).cell 0, ((((BE2.far hne _).far hne _).far hne _)).cell 1, ((((BE2.far hne _).far hne _).far hne _)).cell 2⟩) (first | (go_at_call 65; refine (clone_any _ _ (by omega)).mono ?_; rintro e w1 ⟨rfl, hb1⟩) | (go_at_call 120; refine (Ih.out kk K L _ _ ds2 _ hkK hK6 hL6 HkF.out (HKK.out _ hb1)).mono ?_; rintro e w2 ⟨A3, c3, ds3, rfl, hb2', hK3⟩; have hBX:=HBF.out _ _ hb1 hb2'; have BE2:=(BE.drew.past hb1).past hb2'; have q0:=hBX.2.1; have q1:=hBX.2.2.1; have q2:=hBX.2.2.2.1; have z0:=hBX.2.2.2.2.1; have z1:=hBX.2.2.2.2.2.1; have z2:=hBX.2.2.2.2.2.2))
   have hX1 : Below wr.heap.size wr w2:=((((Below.refl wr.heap.size wr).alloc (Nat.le_refl _) _).drew).trans (hb1.mono (by simp))).trans (hb2'.mono (by have:=hb1.size; simp at this; omega))
   have hs1 : wr.heap.size < w1.heap.size:=by have:=hb1.size; simp at this; omega
   have hs2:=hb2'.size
   have hCk:=Copied.step ((hC.out).past hX1) (e:=.mk t' b' kk) (x:=.int .u8 t') (y:=.string b') (z:=.slice A3 kk.length c3) (by rw [List.length_take]; omega)
    (Lies.shut (c:=c3) ht2 hb2 hl2 (hK3.imp (fun b hb=>⟨by omega, hb.2⟩) (fun _ _=>rfl)))
   have hlen : (ks.take k).length = k:=by rw [List.length_take]; omega
   rw [hlen, ← hek, ← List.take_succ_eq_append_getElem hlt] at hCk
   have HCk:=Lib.hid (((hCk.set_ (p:=⟨w.heap.size, k * 3, none⟩) rfl (.int .u8 t')).set_ (p:=⟨w.heap.size, k * 3 + 1, none⟩) rfl (.string b')).set_ (p:=⟨w.heap.size, k * 3 + 2, none⟩) rfl (.slice A3 kk.length c3))
   have B3:=((hBX.1.set_ (k * 3) (.int .u8 t')).set_ (k * 3 + 1) (.string b')).set_ (k * 3 + 2) (.slice A3 kk.length c3)
   have hb3:=(((hb.trans (hX1.mono hs)).setCell (p:=⟨w.heap.size, k * 3, none⟩) (Nat.le_refl _) (.int .u8 t')).setCell (p:=⟨w.heap.size, k * 3 + 1, none⟩) (Nat.le_refl _) (.string b')).setCell (p:=⟨w.heap.size, k * 3 + 2, none⟩) (Nat.le_refl _) (.slice A3 kk.length c3)
   clear hCk hBX BE BF BE2 HBF HKK hK2 hK3 hX1 q0 q1 q2 z0 z1 z2
   go_wp2_with fail
   go_roundw
   case rel=>exact ⟨k + 1, _, by omega, by go_num, B3, by simp [hcs], HCk.out, hb3⟩
   case measure=>simp [intOf]; omega
  ·have hke : k = ks.length:=by omega
   subst hke
   rw [List.take_length] at hC
   go_wp2_with fail
   go_ret
   obtain ⟨ds', hds⟩:=hC.out.kids B w.heap.size (Nat.le_refl _)
   exact ⟨_, _, ds', rfl, hb, hds⟩
theorem anew_any : ∀ d : Nat, SaidAnew d
 | 0=>by
  intro ks K L A c ds w hl hK6 hL6 hF hK
  have h0 : ks = []:=by
   cases ks with
   | nil=>rfl
   | cons k ks=>exact (fitS_zero (hF 0 (by simp))).elim
  subst h0
  refine (anew_nil c A w).mono ?_
  rintro r w' ⟨rfl, hb⟩
  exact ⟨none, 0, fun _=>[], rfl, hb, fun i h=>absurd h (by simp), fun h=>absurd h (by simp), fun i h=>absurd h (by simp)⟩
 | d + 1=>by
  intro ks K L A c ds w hl hK6 hL6 hF hK
  by_cases h0 : 0 < ks.length
  ·exact anew_step d (anew_any d) ks K L A c ds w hl hK6 hL6 hF hK h0
  ·have h0 : ks = []:=List.eq_nil_of_length_eq_zero (by omega)
   subst h0
   refine (anew_nil c A w).mono ?_
   rintro r w' ⟨rfl, hb⟩
   exact ⟨none, 0, fun _=>[], rfl, hb, fun i h=>absurd h (by simp), fun h=>absurd h (by simp), fun i h=>absurd h (by simp)⟩
end Go.Proofs.YtbdpkfgllnbheaaGreatDoor.Be
namespace Go.Proofs.YtbdpkfgllnbheaaGreatDoor.Be
open Go.RowKit
def boolB (b : Bool) : ByteArray:=if b then ⟨#[255]⟩ else ⟨#[0]⟩
set_option maxHeartbeats 400000 in
theorem Bool_any (b : Bool) (w : World) : Calls Tryz.prog 48 #[.bool b] w fun e w'=>e = .returned (.string (boolB b)) ∧ w = w':=by
 cases b
 all_goals (
  go_enter Tryz.func48, Tryz.ntmps48
  go_wp2_with fail
  go_ret
  exact ⟨rfl, rfl⟩)
def rdB (l : List UInt8) : Bool × Bool:=(decide (l.length = 1) && decide (l ≠ [0]), decide (l.length = 1))
set_option maxHeartbeats 400000 in
theorem ReadBool_any (s : ByteArray) (w : World) : Calls Tryz.prog 108 #[.string s] w fun e w'=>e = .returned (.tuple #[.bool (rdB s.data.toList).1, .bool (rdB s.data.toList).2]) ∧ w = w':=by
 have hl : s.data.toList.length = s.size:=rfl
 by_cases h1 : s.size = 1
 ·have q1 : ((s.size : Int) != 1) = false:=by rw [bne_eq_false_iff_eq]; omega
  have hr : Hid (rdB s.data.toList = (!s.toList == [0], true)):=by
   unfold rdB; simp only [Go.Lib.toList_data]; show _ = _; rw [hl]; simp [h1]
   rw [Bool.eq_iff_iff]; simp
  clear hl h1
  go_enter Tryz.func108, Tryz.ntmps108
  go_wp2_with fail
  go_ret2
  rw [hr.out]
  exact ⟨rfl, rfl⟩
 ·have q1 : ((s.size : Int) != 1) = true:=by rw [bne_iff_ne]; omega
  have hr : Hid (rdB s.data.toList = (false, false)):=by unfold rdB; show _ = _; rw [hl]; simp [h1]
  clear hl h1
  go_enter Tryz.func108, Tryz.ntmps108
  go_wp2_with fail
  go_ret2
  rw [hr.out]
  exact ⟨rfl, rfl⟩
theorem res_el {fn : Func} {p : Tmp} (h : fn.results = #[.cell p 53]) (tmps : Array Value) (w : World) (g : Nat) (x y z : Value) (hp : tmps.getD p undef = .pointer (some ⟨g, 0, none⟩)) (hB : Blk w g 53 #[x, y, z]) :
  (results fn tmps).run Tryz.prog w = .ok (.agg #[x, y, z]) w :=
 results_cell_row h tmps w g _ _ _ _ hp hB Tryz.underlying53 rfl (by kernel_rfl)
set_option maxHeartbeats 400000 in
theorem Text_any (t : Int) (s : ByteArray) (w : World) (hs : s.size ≤ 281474976710656) :
  Calls Tryz.prog 47 #[.int .u8 t, .string s] w fun e w'=>e = .returned (.agg #[.int .u8 t, .string s, .slice none 0 0]) ∧ Below w.heap.size w w':=by
 go_enter Tryz.func47, Tryz.ntmps47
 go_wp2_with fail
 refine (clone_any _ _ hs).mono ?_
 rintro e w1 ⟨rfl, hb1⟩
 have B1:=(Blk.new w 53 #[.int .u8 0, .string ⟨#[]⟩, .slice none 0 0]).past hb1
 have c0 : w1.cell? ⟨w.heap.size, 0, none⟩ = some (.int .u8 0):=B1.cell 0
 have c1 : w1.cell? ⟨w.heap.size, 1, none⟩ = some (.string ⟨#[]⟩):=B1.cell 1
 have c2 : w1.cell? ⟨w.heap.size, 2, none⟩ = some (.slice none 0 0):=B1.cell 2
 have g0:=B1.frozen 0
 have g1:=B1.frozen 1
 have g2:=B1.frozen 2
 go_wp2_with fail
 exact bodyPost_ret (res_el rfl _ _ w.heap.size _ _ _ rfl B1.set3) rfl ⟨rfl, ((((((Below.refl w.heap.size w).alloc (Nat.le_refl _) _).trans (hb1.mono (by simp))).setCell (p:=⟨w.heap.size, 0, none⟩) (Nat.le_refl _) _).setCell (p:=⟨w.heap.size, 1, none⟩) (Nat.le_refl _) _).setCell (p:=⟨w.heap.size, 2, none⟩) (Nat.le_refl _) _)⟩
set_option maxHeartbeats 400000 in
theorem Number_any (t n : Int) (w : World) (h0 : -9223372036854775808 ≤ n) (h1 : n ≤ 9223372036854775807) :
  Calls Tryz.prog 82 #[.int .u8 t, .int .i64 n] w fun e w'=>e = .returned (.agg #[.int .u8 t, .string (strOfNums (intB n)), .slice none 0 0]) ∧ Below w.heap.size w w':=by
 have HI:=Lib.hid (fun w=>Int_any n w h0 h1)
 go_enter Tryz.func82, Tryz.ntmps82
 go_wp2_with fail
 refine (HI.out _).mono ?_
 rintro e w1 ⟨rfl, hb1⟩
 have B1:=(Blk.new w 53 #[.int .u8 0, .string ⟨#[]⟩, .slice none 0 0]).past hb1
 have c0 : w1.cell? ⟨w.heap.size, 0, none⟩ = some (.int .u8 0):=B1.cell 0
 have c1 : w1.cell? ⟨w.heap.size, 1, none⟩ = some (.string ⟨#[]⟩):=B1.cell 1
 have c2 : w1.cell? ⟨w.heap.size, 2, none⟩ = some (.slice none 0 0):=B1.cell 2
 have g0:=B1.frozen 0
 have g1:=B1.frozen 1
 have g2:=B1.frozen 2
 go_wp2_with fail
 exact bodyPost_ret (res_el rfl _ _ w.heap.size _ _ _ rfl B1.set3) rfl ⟨rfl, ((((((Below.refl w.heap.size w).alloc (Nat.le_refl _) _).trans (hb1.mono (by simp))).setCell (p:=⟨w.heap.size, 0, none⟩) (Nat.le_refl _) _).setCell (p:=⟨w.heap.size, 1, none⟩) (Nat.le_refl _) _).setCell (p:=⟨w.heap.size, 2, none⟩) (Nat.le_refl _) _)⟩
set_option maxHeartbeats 400000 in
theorem List_any (t : Nat) (ht : t ≤ 255) (ks : List El) (K L d : Nat) (A : Option Addr) (c : Nat) (ds : Nat → List Value) (w : World) (hl : ks.length ≤ K) (hK6 : K ≤ 1000000) (hL6 : L ≤ 281474976710656) (hF : ∀ i (h : i < ks.length), fitS K L d ks[i] = true)
  (hK : KidsAt w (· < w.heap.size) A ks ds) :
  Calls Tryz.prog 87 #[.int .u8 t, .slice A ks.length c] w fun e w'=>∃ x y z, e = .returned (.agg #[x, y, z]) ∧ Below w.heap.size w w' ∧ Lies w' (fun b=>w.heap.size ≤ b ∧ b < w'.heap.size) (.mk t ⟨#[]⟩ ks) [x, y, z]:=by
 have H:=Lib.hid (anew_any d ks K L A c ds)
 have HK:=Lib.hid (fun o=>hK.past ((Below.refl w.heap.size w).alloc (Nat.le_refl _) o))
 have HF:=Lib.hid hF
 clear hK hF
 go_enter Tryz.func87, Tryz.ntmps87
 go_wp2_with fail
 refine (H.out _ hl hK6 hL6 HF.out (HK.out _)).mono ?_
 rintro e w1 ⟨A', c', ds', rfl, hb1, hK1⟩
 have B1:=(Blk.new w 53 #[.int .u8 0, .string ⟨#[]⟩, .slice none 0 0]).past hb1
 have c0 : w1.cell? ⟨w.heap.size, 0, none⟩ = some (.int .u8 0):=B1.cell 0
 have c1 : w1.cell? ⟨w.heap.size, 1, none⟩ = some (.string ⟨#[]⟩):=B1.cell 1
 have c2 : w1.cell? ⟨w.heap.size, 2, none⟩ = some (.slice none 0 0):=B1.cell 2
 have g0:=B1.frozen 0
 have g1:=B1.frozen 1
 have g2:=B1.frozen 2
 have HK1:=Lib.hid hK1
 clear hK1
 go_wp2_with fail
 refine bodyPost_ret (res_el rfl _ _ w.heap.size _ _ _ rfl B1.set3) rfl ⟨_, _, _, rfl, ((((((Below.refl w.heap.size w).alloc (Nat.le_refl _) _).trans (hb1.mono (by simp))).setCell (p:=⟨w.heap.size, 0, none⟩) (Nat.le_refl _) _).setCell (p:=⟨w.heap.size, 1, none⟩) (Nat.le_refl _) _).setCell (p:=⟨w.heap.size, 2, none⟩) (Nat.le_refl _) _), ?_⟩
 refine Lies.shut ht (by decide) (by unfold maxLen; omega) (HK1.out.imp (fun b hb'=>⟨?_, by have:=hb'.2; simp [World.setCell]; omega⟩) (fun p hp=>?_))
 ·have:=hb'.1; simp at this; omega
 ·have hpb : p.block ≠ w.heap.size:=by have:=hp.1; simp at this; omega
  rw [World.cell?_setCell_other _ _ _ _ (fun e=>hpb (by rw [← e])), World.cell?_setCell_other _ _ _ _ (fun e=>hpb (by rw [← e])), World.cell?_setCell_other _ _ _ _ (fun e=>hpb (by rw [← e]))]
end Go.Proofs.YtbdpkfgllnbheaaGreatDoor.Be
