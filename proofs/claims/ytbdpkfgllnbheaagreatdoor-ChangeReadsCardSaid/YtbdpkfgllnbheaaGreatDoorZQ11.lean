import Derived.Test.YtbdpkfgllnbheaaGreatDoorZQ3
import Derived.Maps.AppendAt
import Derived.Deep.AppendLies
import Derived.Laws.ResultCell
set_option linter.unusedVariables false
set_option maxRecDepth 100000
namespace Go.Proofs.YtbdpkfgllnbheaaGreatDoor.Be
open Go.RowKit
set_option maxHeartbeats 400000 in
theorem isCons_any (t : Int) (w : World) (h0 : 0 ≤ t) (h1 : t ≤ 255) :
  Calls Tryz.prog 103 #[.int .u8 t] w fun e w'=>e = .returned (.bool (bits .and .u8 t 32 != 0)) ∧ w = w':=by
 go_enter Tryz.func103, Tryz.ntmps103
 go_wp2
 go_ret
 exact ⟨rfl, rfl⟩
theorem isCons_true (t : Nat) (w : World) (h1 : t ≤ 255) (hc : t / 32 % 2 = 1) :
  Calls Tryz.prog 103 #[.int .u8 t] w fun e w'=>e = .returned (.bool true) ∧ w = w':=by
 refine (isCons_any t w (by omega) (by omega)).mono ?_
 rintro e w' ⟨rfl, rfl⟩
 exact ⟨by rw [isCons_eq t h1]; simp [hc], rfl⟩
theorem isCons_false (t : Nat) (w : World) (h1 : t ≤ 255) (hc : t / 32 % 2 = 0) :
  Calls Tryz.prog 103 #[.int .u8 t] w fun e w'=>e = .returned (.bool false) ∧ w = w':=by
 refine (isCons_any t w (by omega) (by omega)).mono ?_
 rintro e w' ⟨rfl, rfl⟩
 exact ⟨by rw [isCons_eq t h1]; simp [hc], rfl⟩
theorem isTag_true (t : Nat) (w : World) (h1 : t ≤ 255) (hc : t % 32 ≠ 31) :
  Calls Tryz.prog 111 #[.int .u8 t] w fun e w'=>e = .returned (.bool true) ∧ w = w':=by
 refine (isTag_any t w (by omega) (by omega)).mono ?_
 rintro e w' ⟨rfl, rfl⟩
 exact ⟨ret_bool (by rw [bne_iff_ne]; omega), rfl⟩
theorem isTag_false (t : Nat) (w : World) (h1 : t ≤ 255) (hc : t % 32 = 31) :
  Calls Tryz.prog 111 #[.int .u8 t] w fun e w'=>e = .returned (.bool false) ∧ w = w':=by
 refine (isTag_any t w (by omega) (by omega)).mono ?_
 rintro e w' ⟨rfl, rfl⟩
 exact ⟨ret_bool (by rw [bne_eq_false_iff_eq]; omega), rfl⟩
def SaidFormed (e : El) : Prop:=∀ (x y z : Value) (w : World), Lies w (· < w.heap.size) e [x, y, z] →
  Calls Tryz.prog 75 #[.agg #[x, y, z]] w fun r w'=>r = .returned (.bool (formed e)) ∧ Below w.heap.size w w'
set_option maxHeartbeats 1000000 in
theorem formed_step (t : Nat) (ht : t ≤ 255) (b : ByteArray) (ks : List El) (ih : ∀ k ∈ ks, SaidFormed k) (A : Option Addr) (c : Nat) (ds : Nat → List Value) (w : World)
  (hK : KidsAt w (· < w.heap.size) A ks ds) (hl : ks.length ≤ maxLen) (h1 : t % 32 ≠ 31) (h2 : t / 32 % 2 = 1) (h3 : b.size = 0) :
  Calls Tryz.prog 75 #[.agg #[.int .u8 t, .string b, .slice A ks.length c]] w
   fun r w'=>r = .returned (.bool (formeds ks)) ∧ Below w.heap.size w w':=by
 unfold maxLen at hl
 have Ih:=Lib.hid ih
 have H1:=Lib.hid h1
 have H2:=Lib.hid h2
 have h4 : b.toList = []:=by
  have : b.data.toList = []:=List.eq_nil_of_length_eq_zero h3
  simpa [ByteArray.toList_eq] using this
 clear ih h1 h2 h3
 go_enter Tryz.func75, Tryz.ntmps75
 go_wp2_with (first | (go_at_call 111; refine (isTag_true t _ ht H1.out).mono ?_; rintro e w' ⟨rfl, rfl⟩) | (go_at_call 103; refine (isCons_true t _ ht H2.out).mono ?_; rintro e w' ⟨rfl, rfl⟩))
 go_loopw [23] (fun i wr=>∃ k : Nat, k ≤ ks.length ∧ i = .int .i64 k ∧ Hid (formeds ks = formeds (ks.drop k)) ∧ Below w.heap.size w wr) (fun i wr=>ks.length - (intOf i).toNat)
 case atStart=>exact ⟨0, Nat.zero_le _, rfl, rfl, (Below.refl _ _).alloc (Nat.le_refl _) _⟩
 case round =>
  obtain ⟨k, hk, rfl, hE, hb⟩:=hrel
  by_cases hlt : k < ks.length
  ·obtain ⟨ad, t', b', A', n', c', rfl, hp, f0, f1, f2, hL⟩:=hK.kid5 hb hlt
   have hs:=hb.size
   have hD:=Lib.hid (formeds_drop hlt)
   have hb0 : Below w.heap.size w (wr.alloc (.cells #[.int .u8 t', .string b', .slice A' n' c'] 53)):=hb.alloc hs _
   have H:=Ih.out _ (List.getElem_mem hlt) _ _ _ _ (hL.alloc (.cells #[.int .u8 t', .string b', .slice A' n' c'] 53))
   go_wp2_with fail
   refine H.mono ?_
   rintro e w1 ⟨rfl, hb1⟩
   clear H
   have hb2:=hb0.trans (hb1.mono (by simp; omega))
   go_wp2_with fail
   ·have hx : formed ks[k] = false:=by
     have h0 : (!formed ks[k]) = true:=by assumption
     simpa using h0
    go_ret
    refine ⟨ret_bool ?_, hb2⟩
    rw [hE.out, hD.out, hx]; rfl
   ·have hx : formed ks[k] = true:=by
     have h0 : (!formed ks[k]) = false:=by assumption
     simpa using h0
    go_roundw
    case rel =>
     refine ⟨k + 1, by omega, by go_num, ?_, hb2⟩
     show _ = _
     rw [hE.out, hD.out, hx]; rfl
    case measure=>simp [intOf]; omega
  ·go_wp2_with fail
   go_ret
   refine ⟨ret_bool ?_, hb⟩
   have : k = ks.length:=by omega
   rw [hE.out, this, List.drop_length]; rfl
set_option maxHeartbeats 1000000 in
theorem formed_any (e : El) : SaidFormed e:=by
 refine El.ind ?_ e
 intro t b ks ih x y z w hL
 obtain ⟨A, c, ds, hcs, ht, hb, hl, hK⟩:=hL.open_
 simp only [List.cons.injEq, and_true] at hcs
 obtain ⟨rfl, rfl, rfl⟩:=hcs
 by_cases h1 : t % 32 = 31
 ·have hr:=Lib.hid (show formed (.mk t b ks) = false by simp [formed, h1])
  have H1:=Lib.hid h1
  clear h1 ih
  go_enter Tryz.func75, Tryz.ntmps75
  go_wp2_with (go_at_call 111; refine (isTag_false t _ ht H1.out).mono ?_; rintro e w' ⟨rfl, rfl⟩)
  go_ret
  rw [hr.out]
  exact ⟨rfl, (Below.refl _ _).alloc (Nat.le_refl _) _⟩
 by_cases h2 : t / 32 % 2 = 0
 ·have hr:=Lib.hid (show formed (.mk t b ks) = decide (ks.length = 0) by simp [formed, h1, h2])
  have H1:=Lib.hid h1
  have H2:=Lib.hid h2
  unfold maxLen at hl
  clear h1 h2 ih
  go_enter Tryz.func75, Tryz.ntmps75
  go_wp2_with (first | (go_at_call 111; refine (isTag_true t _ ht H1.out).mono ?_; rintro e w' ⟨rfl, rfl⟩) | (go_at_call 103; refine (isCons_false t _ ht H2.out).mono ?_; rintro e w' ⟨rfl, rfl⟩))
  go_ret
  rw [hr.out]
  refine ⟨ret_bool ?_, (Below.refl _ _).alloc (Nat.le_refl _) _⟩
  rw [Bool.eq_iff_iff]; simp
 have h2' : t / 32 % 2 = 1:=by omega
 by_cases h3 : b.size = 0
 ·refine (formed_step t ht b ks ih A c ds w hK hl h1 h2' h3).mono ?_
  rintro e w' ⟨rfl, h⟩
  exact ⟨by simp [formed, h1, h2, h3], h⟩
 ·have hr:=Lib.hid (show formed (.mk t b ks) = false by simp [formed, h1, h2, h3])
  have H1:=Lib.hid h1
  have H2:=Lib.hid h2'
  have h4 : b.toList.isEmpty = false:=by
   rw [List.isEmpty_eq_false_iff]
   intro h
   apply h3
   have h5 : b.data.toList = []:=by simpa [ByteArray.toList_eq] using h
   have : b.data.toList.length = b.size:=rfl
   rw [h5] at this
   simpa using this.symm
  have h5 : (b.toList != []) = true:=by rw [bne_iff_ne]; intro h; rw [h] at h4; simp at h4
  clear h1 h2 h2' h3 ih
  go_enter Tryz.func75, Tryz.ntmps75
  go_wp2_with (first | (go_at_call 111; refine (isTag_true t _ ht H1.out).mono ?_; rintro e w' ⟨rfl, rfl⟩) | (go_at_call 103; refine (isCons_true t _ ht H2.out).mono ?_; rintro e w' ⟨rfl, rfl⟩))
  go_ret
  rw [hr.out]
  exact ⟨rfl, (Below.refl _ _).alloc (Nat.le_refl _) _⟩
end Go.Proofs.YtbdpkfgllnbheaaGreatDoor.Be
namespace Go.Proofs.YtbdpkfgllnbheaaGreatDoor.Be
open Go.RowKit
def deepB (d : Int) (e : El) : Bool:=decide (d < dep e)
def anyB (d : Int) : List El → Bool
 | []=>false
 | k :: ks=>deepB d k || anyB d ks
theorem anyB_drop {d : Int} {l : List El} {i : Nat} (h : i < l.length) : anyB d (l.drop i) = (deepB d l[i] || anyB d (l.drop (i + 1))):=by
 rw [List.drop_eq_getElem_cons h, anyB]
theorem anyB_deps (d : Int) (h : 0 ≤ d) : ∀ l : List El, anyB d l = decide (d < deps l)
 | []=>by
  rw [anyB, deps, Bool.eq_iff_iff]; simp; omega
 | k :: l=>by
  rw [anyB, anyB_deps d h l, deps, deepB]
  rw [Bool.eq_iff_iff]; simp; omega
def SaidDeeper (e : El) : Prop:=∀ (d : Int) (x y z : Value) (w : World), 0 ≤ d → d ≤ 1000 → Lies w (· < w.heap.size) e [x, y, z] →
  Calls Tryz.prog 76 #[.agg #[x, y, z], .int .i64 d] w fun r w'=>r = .returned (.bool (deepB d e)) ∧ Below w.heap.size w w'
set_option maxHeartbeats 1000000 in
theorem deeper_any (e : El) : SaidDeeper e:=by
 refine El.ind ?_ e
 intro t b ks ih d x y z w hd0 hd hL
 obtain ⟨A, c, ds, hcs, ht, hb, hl, hK⟩:=hL.open_
 simp only [List.cons.injEq, and_true] at hcs
 obtain ⟨rfl, rfl, rfl⟩:=hcs
 unfold maxLen at hl
 by_cases h0 : d = 0
 ·have hr:=Lib.hid (show deepB d (.mk t b ks) = true by simp [deepB, dep, h0])
  have h1 : (d == 0) = true:=by simp [h0]
  clear h0 ih
  go_enter Tryz.func76, Tryz.ntmps76
  go_wp2_with fail
  go_ret
  rw [hr.out]
  exact ⟨rfl, (Below.refl _ _).alloc (Nat.le_refl _) _⟩
 ·have hr:=Lib.hid (show deepB d (.mk t b ks) = anyB (d - 1) ks by rw [anyB_deps _ (by omega), deepB, dep, Bool.eq_iff_iff]; simp; omega)
  have h1 : (d == 0) = false:=beq_eq_false_iff_ne.2 h0
  have h2 : 1 ≤ d:=by omega
  have Ih:=Lib.hid ih
  clear h0 ih hL hd0
  go_enter Tryz.func76, Tryz.ntmps76
  go_wp2_with fail
  go_loopw [12] (fun i wr=>∃ k : Nat, k ≤ ks.length ∧ i = .int .i64 k ∧ Hid (anyB (d - 1) ks = anyB (d - 1) (ks.drop k)) ∧ Below w.heap.size w wr) (fun i wr=>ks.length - (intOf i).toNat)
  case atStart=>exact ⟨0, Nat.zero_le _, rfl, rfl, (Below.refl _ _).alloc (Nat.le_refl _) _⟩
  case round =>
   obtain ⟨k, hk, rfl, hE, hb⟩:=hrel
   by_cases hlt : k < ks.length
   ·obtain ⟨ad, t', b', A', n', c', rfl, hp, f0, f1, f2, hL⟩:=hK.kid5 hb hlt
    have hs:=hb.size
    have hD:=Lib.hid (anyB_drop (d:=d - 1) hlt)
    have hb0 : Below w.heap.size w (wr.alloc (.cells #[.int .u8 t', .string b', .slice A' n' c'] 53)):=hb.alloc hs _
    have H:=Ih.out _ (List.getElem_mem hlt) (d - 1) _ _ _ _ (by omega) (by omega) (hL.alloc (.cells #[.int .u8 t', .string b', .slice A' n' c'] 53))
    go_wp2_with fail
    refine H.mono ?_
    rintro e w1 ⟨rfl, hb1⟩
    clear H
    have hb2:=hb0.trans (hb1.mono (by simp; omega))
    go_wp2_with fail
    ·have hx : deepB (d - 1) ks[k] = true:=by assumption
     go_ret
     refine ⟨ret_bool ?_, hb2⟩
     rw [hr.out, hE.out, hD.out, hx]; rfl
    ·have hx : deepB (d - 1) ks[k] = false:=by assumption
     go_roundw
     case rel =>
      refine ⟨k + 1, by omega, by go_num, ?_, hb2⟩
      show _ = _
      rw [hE.out, hD.out, hx]; rfl
     case measure=>simp [intOf]; omega
   ·go_wp2_with fail
    go_ret
    refine ⟨ret_bool ?_, hb⟩
    have : k = ks.length:=by omega
    rw [hr.out, hE.out, this, List.drop_length]; rfl
set_option maxHeartbeats 400000 in
theorem more_any (n : Int) (w : World) (h : 0 ≤ n) :
  Calls Tryz.prog 112 #[.int .i64 n] w fun r w'=>r = .returned (.int .i64 (more n.toNat)) ∧ w = w':=by
 by_cases h1 : n < 128
 ·have hr:=Lib.hid (show more n.toNat = 0 by unfold more; rw [if_pos (by omega)])
  go_enter Tryz.func112, Tryz.ntmps112
  go_wp2_with fail
  go_ret
  rw [hr.out]; exact ⟨rfl, rfl⟩
 by_cases h2 : n < 256
 ·have hr:=Lib.hid (show more n.toNat = 1 by unfold more; rw [if_neg (by omega), if_pos (by omega)])
  go_enter Tryz.func112, Tryz.ntmps112
  go_wp2_with fail
  go_ret
  rw [hr.out]; exact ⟨rfl, rfl⟩
 ·have hr:=Lib.hid (show more n.toNat = 2 by unfold more; rw [if_neg (by omega), if_neg (by omega)])
  go_enter Tryz.func112, Tryz.ntmps112
  go_wp2_with fail
  go_ret
  rw [hr.out]; exact ⟨rfl, rfl⟩
def SaidSize (e : El) : Prop:=∀ (K L d : Nat) (x y z : Value) (w : World), L ≤ 10000 → d ≤ 10000 → fitS K L d e = true → Lies w (· < w.heap.size) e [x, y, z] →
  Calls Tryz.prog 77 #[.agg #[x, y, z]] w fun r w'=>r = .returned (.int .i64 (tsz e)) ∧ Below w.heap.size w w'
set_option maxHeartbeats 1000000 in
theorem size_any (e : El) : SaidSize e:=by
 refine El.ind ?_ e
 intro t b ks ih K L d x y z w hL1 hd hF hL
 obtain ⟨A, c, ds, hcs, ht, hb, hl, hK⟩:=hL.open_
 simp only [List.cons.injEq, and_true] at hcs
 obtain ⟨rfl, rfl, rfl⟩:=hcs
 unfold maxLen at hl hb
 cases d with
 | zero=>exact (fitS_zero hF).elim
 | succ d =>
 obtain ⟨_, hbL, hkF⟩:=fitS_open hF
 have HF:=Lib.hid hkF
 have hr:=Lib.hid (show tsz (.mk t b ks) = tszs b.size ks by rw [tsz])
 have Ih:=Lib.hid ih
 clear ih hL hF hkF
 go_enter Tryz.func77, Tryz.ntmps77
 go_wp2_with fail
 go_loopw [3, 13] (fun n i wr=>∃ k m : Nat, k ≤ ks.length ∧ i = .int .i64 k ∧ n = .int .i64 m ∧ m ≤ 50000000 ∧ Hid (tszs b.size ks = tszs m (ks.drop k)) ∧ Below w.heap.size w wr) (fun n i wr=>ks.length - (intOf i).toNat)
 case atStart=>exact ⟨0, b.size, Nat.zero_le _, rfl, rfl, by omega, rfl, (Below.refl _ _).alloc (Nat.le_refl _) _⟩
 case round =>
  obtain ⟨k, m, hk, rfl, rfl, hm, hE, hb⟩:=hrel
  by_cases hlt : k < ks.length
  ·obtain ⟨ad, t', b', A', n', c', rfl, hp, f0, f1, f2, hL⟩:=hK.kid5 hb hlt
   have hs:=hb.size
   have hD:=Lib.hid (tszs_drop (n:=m) hlt)
   have hb0 : Below w.heap.size w (wr.alloc (.cells #[.int .u8 t', .string b', .slice A' n' c'] 53)):=hb.alloc hs _
   have H:=Ih.out _ (List.getElem_mem hlt) K L d _ _ _ _ hL1 (by omega) (HF.out k hlt) (hL.alloc (.cells #[.int .u8 t', .string b', .slice A' n' c'] 53))
   have hT:=tsz_bound (HF.out k hlt)
   by_cases h4 : 4000 < (m : Int)
   ·clear H hT
    go_wp2_with fail
    go_ret
    refine ⟨ret_int ?_, hb0⟩
    rw [hr.out, hE.out, hD.out, if_pos (by omega)]
   ·obtain ⟨v, hv⟩ : ∃ v, v = tsz ks[k]:=⟨_, rfl⟩
    rw [← hv] at H hT
    have Hv:=Lib.hid hv
    have hm2:=more_le v
    clear hv
    go_wp2_with fail
    refine H.mono ?_
    rintro e w1 ⟨rfl, hb1⟩
    clear H
    have hb2:=hb0.trans (hb1.mono (by simp; omega))
    go_wp2_with (go_at_call 112; refine (more_any _ _ (by omega)).mono ?_; rintro e w2 ⟨rfl, rfl⟩)
    go_roundw
    case rel =>
     refine ⟨k + 1, m + (2 + more v + v), by omega, by go_num, by go_num, by omega, ?_, hb2⟩
     show _ = _
     rw [hE.out, hD.out, if_neg (by omega), Hv.out]
    case measure=>simp [intOf]; omega
  ·go_wp2_with fail
   go_ret
   refine ⟨ret_int ?_, hb⟩
   have : k = ks.length:=by omega
   rw [hr.out, hE.out, this, List.drop_length]; rfl
end Go.Proofs.YtbdpkfgllnbheaaGreatDoor.Be
namespace Go.Proofs.YtbdpkfgllnbheaaGreatDoor.Be
open Go.RowKit
def ReadPost (a : Nat) (w : World) : Res → Ending → World → Prop
 | .bad p x, r, w'=>r = .returned (.tuple #[.agg #[.int .u8 0, .string ⟨#[]⟩, .slice none 0 0], .int .i64 0, .int .i64 p, .int .i64 x]) ∧ Below w.heap.size w w'
 | .ok e n, r, w'=>∃ x y z, r = .returned (.tuple #[.agg #[x, y, z], .int .i64 (a + n : Nat), .int .i64 0, .int .i64 0]) ∧ Below w.heap.size w w' ∧ Lies w' (fun b=>w.heap.size ≤ b ∧ b < w'.heap.size) e [x, y, z]
theorem res_readAt (W : World) (g : Nat) (x y z n p e : Value) (tmps : Array Value) (h6 : tmps.getD 6 undef = .pointer (some ⟨g, 0, none⟩)) (h7 : tmps.getD 7 undef = n) (h8 : tmps.getD 8 undef = p) (h9 : tmps.getD 9 undef = e)
  (B : Blk W g 53 #[x, y, z]) : (results Tryz.f67 tmps).run Tryz.prog W = .ok (.tuple #[.agg #[x, y, z], n, p, e]) W:=by
 have q0 : W.cell? ⟨g, 0, none⟩ = some x:=B.cell 0
 have q1 : W.cell? ⟨g, 1, none⟩ = some y:=B.cell 1
 have q2 : W.cell? ⟨g, 2, none⟩ = some z:=B.cell 2
 rw [Array.getD_eq_getD_getElem?] at h6 h7 h8 h9
 simp [results, Tryz.results67, go_sem, h6, h7, h8, h9, q0, q1, q2]
set_option maxHeartbeats 1000000 in
theorem read_deep (s : ByteArray) (a : Nat) (d : Int) (w : World) (hd : 20 < d) :
  Calls Tryz.prog 67 #[.string s, .int .i64 a, .int .i64 d] w fun r w'=>r = .returned (.tuple #[.agg #[.int .u8 0, .string ⟨#[]⟩, .slice none 0 0], .int .i64 0, .int .i64 a, .int .i64 12]) ∧ Below w.heap.size w w':=by
 go_enter Tryz.func67, Tryz.ntmps67
 go_wp2_with fail
 refine bodyPost_ret (v:=.tuple #[.agg #[.int .u8 0, .string ⟨#[]⟩, .slice none 0 0], .int .i64 0, .int .i64 a, .int .i64 12]) (by simp [results, Tryz.results67, go_sem]) rfl ⟨rfl, (Below.refl _ _).alloc (Nat.le_refl _) _⟩
set_option maxHeartbeats 1000000 in
theorem read_err (s : ByteArray) (a : Nat) (d : Int) (w : World) (hd : d ≤ 20) (h n x : Nat) (hs : s.size ≤ 1099511627776) (ha : a ≤ s.size)
  (C : ∀ w, Calls Tryz.prog 102 #[.string (s.extract a s.size)] w fun e w'=>e = .returned (.tuple #[.int .i64 h, .int .i64 n, .int .i64 x]) ∧ Below w.heap.size w w')
  (hx0 : ((x : Int) == 0) = false) (hx1 : ((x : Int) == 10) = false) (hx2 : ((x : Int) != 0) = true) :
  Calls Tryz.prog 67 #[.string s, .int .i64 a, .int .i64 d] w fun r w'=>r = .returned (.tuple #[.agg #[.int .u8 0, .string ⟨#[]⟩, .slice none 0 0], .int .i64 0, .int .i64 a, .int .i64 x]) ∧ Below w.heap.size w w':=by
 have HC:=Lib.hid C
 clear C
 go_enter Tryz.func67, Tryz.ntmps67
 go_wp2_with fail
 refine (HC.out _).mono ?_
 rintro r w1 ⟨rfl, hb1⟩
 have B1:=(Blk.new w 53 #[.int .u8 0, .string ⟨#[]⟩, .slice none 0 0]).past hb1
 have c0 : w1.cell? ⟨w.heap.size, 0, none⟩ = some (.int .u8 0):=B1.cell 0
 have c1 : w1.cell? ⟨w.heap.size, 1, none⟩ = some (.string ⟨#[]⟩):=B1.cell 1
 have c2 : w1.cell? ⟨w.heap.size, 2, none⟩ = some (.slice none 0 0):=B1.cell 2
 have g0:=B1.frozen 0
 have g1:=B1.frozen 1
 have g2:=B1.frozen 2
 go_wp2_with fail
 have BB:=B1.set3 (x':=.int .u8 0) (y':=.string ⟨#[]⟩) (z':=.slice none 0 0)
 refine bodyPost_ret (res_readAt _ w.heap.size _ _ _ _ _ _ _ rfl rfl rfl rfl BB) rfl ⟨rfl, ?_⟩
 exact ((((((Below.refl _ _).alloc (Nat.le_refl _) _).trans (hb1.mono (by simp))).setCell (p:=⟨w.heap.size, 0, none⟩) (Nat.le_refl _) _).setCell (p:=⟨w.heap.size, 1, none⟩) (Nat.le_refl _) _).setCell (p:=⟨w.heap.size, 2, none⟩) (Nat.le_refl _) _)
set_option maxHeartbeats 1000000 in
theorem read_short (s : ByteArray) (a : Nat) (d : Int) (w : World) (hd : d ≤ 20) (h n : Nat) (hs : s.size ≤ 1099511627776) (ha : a ≤ s.size)
  (C : ∀ w, Calls Tryz.prog 102 #[.string (s.extract a s.size)] w fun e w'=>e = .returned (.tuple #[.int .i64 h, .int .i64 n, .int .i64 10]) ∧ Below w.heap.size w w')
  (hd1 : d ≤ 1) :
  Calls Tryz.prog 67 #[.string s, .int .i64 a, .int .i64 d] w fun r w'=>r = .returned (.tuple #[.agg #[.int .u8 0, .string ⟨#[]⟩, .slice none 0 0], .int .i64 0, .int .i64 a, .int .i64 10]) ∧ Below w.heap.size w w':=by
 have HC:=Lib.hid C
 clear C
 go_enter Tryz.func67, Tryz.ntmps67
 go_wp2_with fail
 refine (HC.out _).mono ?_
 rintro r w1 ⟨rfl, hb1⟩
 have B1:=(Blk.new w 53 #[.int .u8 0, .string ⟨#[]⟩, .slice none 0 0]).past hb1
 have c0 : w1.cell? ⟨w.heap.size, 0, none⟩ = some (.int .u8 0):=B1.cell 0
 have c1 : w1.cell? ⟨w.heap.size, 1, none⟩ = some (.string ⟨#[]⟩):=B1.cell 1
 have c2 : w1.cell? ⟨w.heap.size, 2, none⟩ = some (.slice none 0 0):=B1.cell 2
 have g0:=B1.frozen 0
 have g1:=B1.frozen 1
 have g2:=B1.frozen 2
 go_wp2_with fail
 have BB:=B1.set3 (x':=.int .u8 0) (y':=.string ⟨#[]⟩) (z':=.slice none 0 0)
 refine bodyPost_ret (res_readAt _ w.heap.size _ _ _ _ _ _ _ rfl rfl rfl rfl BB) rfl ⟨rfl, ?_⟩
 exact ((((((Below.refl _ _).alloc (Nat.le_refl _) _).trans (hb1.mono (by simp))).setCell (p:=⟨w.heap.size, 0, none⟩) (Nat.le_refl _) _).setCell (p:=⟨w.heap.size, 1, none⟩) (Nat.le_refl _) _).setCell (p:=⟨w.heap.size, 2, none⟩) (Nat.le_refl _) _)
set_option maxHeartbeats 1000000 in
theorem read_length (s : ByteArray) (a : Nat) (d : Int) (w : World) (hd : d ≤ 20) (h n : Nat) (hs : s.size ≤ 1099511627776) (ha : a ≤ s.size)
  (C : ∀ w, Calls Tryz.prog 102 #[.string (s.extract a s.size)] w fun e w'=>e = .returned (.tuple #[.int .i64 h, .int .i64 n, .int .i64 10]) ∧ Below w.heap.size w w')
  (hd1 : 1 < d) :
  Calls Tryz.prog 67 #[.string s, .int .i64 a, .int .i64 d] w fun r w'=>r = .returned (.tuple #[.agg #[.int .u8 0, .string ⟨#[]⟩, .slice none 0 0], .int .i64 0, .int .i64 a, .int .i64 11]) ∧ Below w.heap.size w w':=by
 have HC:=Lib.hid C
 clear C
 go_enter Tryz.func67, Tryz.ntmps67
 go_wp2_with fail
 refine (HC.out _).mono ?_
 rintro r w1 ⟨rfl, hb1⟩
 have B1:=(Blk.new w 53 #[.int .u8 0, .string ⟨#[]⟩, .slice none 0 0]).past hb1
 have c0 : w1.cell? ⟨w.heap.size, 0, none⟩ = some (.int .u8 0):=B1.cell 0
 have c1 : w1.cell? ⟨w.heap.size, 1, none⟩ = some (.string ⟨#[]⟩):=B1.cell 1
 have c2 : w1.cell? ⟨w.heap.size, 2, none⟩ = some (.slice none 0 0):=B1.cell 2
 have g0:=B1.frozen 0
 have g1:=B1.frozen 1
 have g2:=B1.frozen 2
 go_wp2_with fail
 have BB:=B1.set3 (x':=.int .u8 0) (y':=.string ⟨#[]⟩) (z':=.slice none 0 0)
 refine bodyPost_ret (res_readAt _ w.heap.size _ _ _ _ _ _ _ rfl rfl rfl rfl BB) rfl ⟨rfl, ?_⟩
 exact ((((((Below.refl _ _).alloc (Nat.le_refl _) _).trans (hb1.mono (by simp))).setCell (p:=⟨w.heap.size, 0, none⟩) (Nat.le_refl _) _).setCell (p:=⟨w.heap.size, 1, none⟩) (Nat.le_refl _) _).setCell (p:=⟨w.heap.size, 2, none⟩) (Nat.le_refl _) _)
set_option maxHeartbeats 1000000 in
theorem read_past (s : ByteArray) (a : Nat) (d : Int) (w : World) (hd : d ≤ 20) (h n : Nat) (hs : s.size ≤ 1099511627776) (ha : a ≤ s.size)
  (C : ∀ w, Calls Tryz.prog 102 #[.string (s.extract a s.size)] w fun e w'=>e = .returned (.tuple #[.int .i64 h, .int .i64 n, .int .i64 0]) ∧ Below w.heap.size w w')
  (hd1 : d ≤ 1) (hh : (h : Int) ≤ s.size - a) (hn : (s.size : Int) - a - h < n) :
  Calls Tryz.prog 67 #[.string s, .int .i64 a, .int .i64 d] w fun r w'=>r = .returned (.tuple #[.agg #[.int .u8 0, .string ⟨#[]⟩, .slice none 0 0], .int .i64 0, .int .i64 a, .int .i64 10]) ∧ Below w.heap.size w w':=by
 have HC:=Lib.hid C
 clear C
 go_enter Tryz.func67, Tryz.ntmps67
 go_wp2_with fail
 refine (HC.out _).mono ?_
 rintro r w1 ⟨rfl, hb1⟩
 have B1:=(Blk.new w 53 #[.int .u8 0, .string ⟨#[]⟩, .slice none 0 0]).past hb1
 have c0 : w1.cell? ⟨w.heap.size, 0, none⟩ = some (.int .u8 0):=B1.cell 0
 have c1 : w1.cell? ⟨w.heap.size, 1, none⟩ = some (.string ⟨#[]⟩):=B1.cell 1
 have c2 : w1.cell? ⟨w.heap.size, 2, none⟩ = some (.slice none 0 0):=B1.cell 2
 have g0:=B1.frozen 0
 have g1:=B1.frozen 1
 have g2:=B1.frozen 2
 go_wp2_with fail
 have BB:=B1.set3 (x':=.int .u8 0) (y':=.string ⟨#[]⟩) (z':=.slice none 0 0)
 refine bodyPost_ret (res_readAt _ w.heap.size _ _ _ _ _ _ _ rfl rfl rfl rfl BB) rfl ⟨rfl, ?_⟩
 exact ((((((Below.refl _ _).alloc (Nat.le_refl _) _).trans (hb1.mono (by simp))).setCell (p:=⟨w.heap.size, 0, none⟩) (Nat.le_refl _) _).setCell (p:=⟨w.heap.size, 1, none⟩) (Nat.le_refl _) _).setCell (p:=⟨w.heap.size, 2, none⟩) (Nat.le_refl _) _)
set_option maxHeartbeats 1000000 in
theorem read_past2 (s : ByteArray) (a : Nat) (d : Int) (w : World) (hd : d ≤ 20) (h n : Nat) (hs : s.size ≤ 1099511627776) (ha : a ≤ s.size)
  (C : ∀ w, Calls Tryz.prog 102 #[.string (s.extract a s.size)] w fun e w'=>e = .returned (.tuple #[.int .i64 h, .int .i64 n, .int .i64 0]) ∧ Below w.heap.size w w')
  (hd1 : 1 < d) (hh : (h : Int) ≤ s.size - a) (hn : (s.size : Int) - a - h < n) :
  Calls Tryz.prog 67 #[.string s, .int .i64 a, .int .i64 d] w fun r w'=>r = .returned (.tuple #[.agg #[.int .u8 0, .string ⟨#[]⟩, .slice none 0 0], .int .i64 0, .int .i64 a, .int .i64 11]) ∧ Below w.heap.size w w':=by
 have HC:=Lib.hid C
 clear C
 go_enter Tryz.func67, Tryz.ntmps67
 go_wp2_with fail
 refine (HC.out _).mono ?_
 rintro r w1 ⟨rfl, hb1⟩
 have B1:=(Blk.new w 53 #[.int .u8 0, .string ⟨#[]⟩, .slice none 0 0]).past hb1
 have c0 : w1.cell? ⟨w.heap.size, 0, none⟩ = some (.int .u8 0):=B1.cell 0
 have c1 : w1.cell? ⟨w.heap.size, 1, none⟩ = some (.string ⟨#[]⟩):=B1.cell 1
 have c2 : w1.cell? ⟨w.heap.size, 2, none⟩ = some (.slice none 0 0):=B1.cell 2
 have g0:=B1.frozen 0
 have g1:=B1.frozen 1
 have g2:=B1.frozen 2
 go_wp2_with fail
 have BB:=B1.set3 (x':=.int .u8 0) (y':=.string ⟨#[]⟩) (z':=.slice none 0 0)
 refine bodyPost_ret (res_readAt _ w.heap.size _ _ _ _ _ _ _ rfl rfl rfl rfl BB) rfl ⟨rfl, ?_⟩
 exact ((((((Below.refl _ _).alloc (Nat.le_refl _) _).trans (hb1.mono (by simp))).setCell (p:=⟨w.heap.size, 0, none⟩) (Nat.le_refl _) _).setCell (p:=⟨w.heap.size, 1, none⟩) (Nat.le_refl _) _).setCell (p:=⟨w.heap.size, 2, none⟩) (Nat.le_refl _) _)
set_option maxHeartbeats 1000000 in
theorem read_prim (s : ByteArray) (a : Nat) (d : Int) (w : World) (hd : d ≤ 20) (h n : Nat) (hs : s.size ≤ 1099511627776) (ha : a < s.size) (hh : 2 ≤ h) (hn : (h : Int) + n ≤ s.size - a)
  (C : ∀ w, Calls Tryz.prog 102 #[.string (s.extract a s.size)] w fun e w'=>e = .returned (.tuple #[.int .i64 h, .int .i64 n, .int .i64 0]) ∧ Below w.heap.size w w')
  (ht : s[a].toNat / 32 % 2 = 0) :
  Calls Tryz.prog 67 #[.string s, .int .i64 a, .int .i64 d] w fun r w' =>
   r = .returned (.tuple #[.agg #[.int .u8 s[a].toNat, .string (s.extract (a + h) (a + h + n)), .slice none 0 0], .int .i64 ((a : Int) + h + n), .int .i64 0, .int .i64 0]) ∧ Below w.heap.size w w':=by
 have HC:=Lib.hid C
 have HT:=Lib.hid ht
 have hsx : (s.extract (a + h) (a + h + n)).size ≤ 281474976710656:=by
  rw [ByteArray.size_extract]; omega
 have Hsx:=Lib.hid hsx
 clear C ht hsx
 go_enter Tryz.func67, Tryz.ntmps67
 go_wp2_with fail
 refine (HC.out _).mono ?_
 rintro r w1 ⟨rfl, hb1⟩
 have B1:=(Blk.new w 53 #[.int .u8 0, .string ⟨#[]⟩, .slice none 0 0]).past hb1
 have hs1:=hb1.size
 have hb1':=((Below.refl w.heap.size w).alloc (Nat.le_refl _) (.cells #[.int .u8 0, .string ⟨#[]⟩, .slice none 0 0] 53)).trans (hb1.mono (by simp))
 clear hb1
 go_wp2_with fail
 refine (isCons_false _ _ (by have:=u8_lt s[a]; omega) HT.out).mono ?_
 rintro r w2 ⟨rfl, rfl⟩
 go_wp2_with fail
 refine (clone_any _ _ Hsx.out).mono ?_
 rintro r w3 ⟨rfl, hb3⟩
 have hs3:=hb3.size
 have B3:=(Blk.new w1 53 #[.int .u8 s[a].toNat, .string ⟨#[]⟩, .slice none 0 0]).past hb3
 have B1':=(B1.alloc (.cells #[.int .u8 s[a].toNat, .string ⟨#[]⟩, .slice none 0 0] 53)).past hb3
 have hb3':=(hb1'.alloc (by simp at hs1; omega) (.cells #[.int .u8 s[a].toNat, .string ⟨#[]⟩, .slice none 0 0] 53)).trans (hb3.mono (by simp at hs1 ⊢; omega))
 have c0 : w3.cell? ⟨w.heap.size, 0, none⟩ = some (.int .u8 0):=B1'.cell 0
 have c1 : w3.cell? ⟨w.heap.size, 1, none⟩ = some (.string ⟨#[]⟩):=B1'.cell 1
 have c2 : w3.cell? ⟨w.heap.size, 2, none⟩ = some (.slice none 0 0):=B1'.cell 2
 have g0:=B1'.frozen 0
 have g1:=B1'.frozen 1
 have g2:=B1'.frozen 2
 have d0 : w3.cell? ⟨w1.heap.size, 0, none⟩ = some (.int .u8 s[a].toNat):=B3.cell 0
 have d1 : w3.cell? ⟨w1.heap.size, 1, none⟩ = some (.string ⟨#[]⟩):=B3.cell 1
 have d2 : w3.cell? ⟨w1.heap.size, 2, none⟩ = some (.slice none 0 0):=B3.cell 2
 have k1:=B3.frozen 1
 have hne : w.heap.size ≠ w1.heap.size:=by simp at hs1; omega
 have hne' : w1.heap.size ≠ w.heap.size:=hne.symm
 clear hb3
 go_wp2_with fail
 refine bodyPost_ret (res_readAt _ w.heap.size _ _ _ _ _ _ _ rfl rfl rfl rfl ((B1'.far hne _).set3)) rfl ⟨rfl, ?_⟩
 exact (((hb3'.setCell (p:=⟨w1.heap.size, 1, none⟩) (by simp at hs1; show w.heap.size ≤ w1.heap.size; omega) _).setCell (p:=⟨w.heap.size, 0, none⟩) (Nat.le_refl _) _).setCell (p:=⟨w.heap.size, 1, none⟩) (Nat.le_refl _) _).setCell (p:=⟨w.heap.size, 2, none⟩) (Nat.le_refl _) _
def Gath (w : World) (base : Nat) (v : Value) (xs : List Value) (done : List El) : Prop :=
 w.ownsRow base 53 3 v done.length xs ∧
 ∀ i (h : i < done.length), ∃ x y z, xs[i * 3]? = some x ∧ xs[i * 3 + 1]? = some y ∧ xs[i * 3 + 2]? = some z ∧ Lies w (fun b=>base ≤ b ∧ b < w.heap.size ∧ v.ownBlock ≠ some b) done[i] [x, y, z]
theorem Gath.nil (w : World) (base : Nat) : Gath w base (.slice none 0 0) [] []:=⟨World.ownsRow_nil _ _ _ _, fun i h=>absurd h (by simp)⟩
theorem Gath.past {w w' : World} {base : Nat} {v : Value} {xs : List Value} {done : List El} (h : Gath w base v xs done) (hb : Below w.heap.size w w') : Gath w' base v xs done:=by
 refine ⟨own_past h.1 hb, fun i hi=>?_⟩
 obtain ⟨x, y, z, h0, h1, h2, hl⟩:=h.2 i hi
 exact ⟨x, y, z, h0, h1, h2, hl.imp (fun b hb'=>⟨hb'.1, Nat.lt_of_lt_of_le hb'.2.1 hb.size, hb'.2.2⟩) (fun p hp=>hb.cell hp.2.1)⟩
theorem Gath.alloc {w : World} {base : Nat} {v : Value} {xs : List Value} {done : List El} (h : Gath w base v xs done) (o : Obj) : Gath (w.alloc o) base v xs done:=h.past ((Below.refl _ _).alloc (Nat.le_refl _) o)
theorem Gath.set_ {w : World} {base : Nat} {v : Value} {xs : List Value} {done : List El} (h : Gath w base v xs done) {p : Addr} (hp : p.block < base) (u : Value) : Gath (w.setCell p u) base v xs done:=by
 refine ⟨ownsRow_setCell_below h.1 hp u, fun i hi=>?_⟩
 obtain ⟨x, y, z, h0, h1, h2, hl⟩:=h.2 i hi
 exact ⟨x, y, z, h0, h1, h2, hl.imp (fun b hb'=>⟨hb'.1, by simpa [World.setCell] using hb'.2.1, hb'.2.2⟩) (fun q hq=>World.cell?_setCell_other w p q u (fun e=>by subst e; have:=hq.1; omega))⟩
theorem Gath.step {w w' : World} {base : Nat} {v v' : Value} {xs : List Value} {done : List El} {e : El} {x y z : Value} (h : Gath w base v xs done)
  (hl : Lies w (fun b=>base ≤ b ∧ b < w.heap.size ∧ v.ownBlock ≠ some b) e [x, y, z]) (hown : w'.ownsRow base 53 3 v' (done.length + 1) (xs ++ [x, y, z]))
  (hg : w.grownBy w' v.ownBlock) (hat : v'.ownBlock = v.ownBlock ∨ v'.ownBlock = some w.heap.size) : Gath w' base v' (xs ++ [x, y, z]) (done ++ [e]):=by
 have hxl : xs.length = done.length * 3:=h.1.1
 have keep : ∀ {e : El} {cs : List Value}, Lies w (fun b=>base ≤ b ∧ b < w.heap.size ∧ v.ownBlock ≠ some b) e cs → Lies w' (fun b=>base ≤ b ∧ b < w'.heap.size ∧ v'.ownBlock ≠ some b) e cs:=by
  intro e cs hl
  refine hl.imp (fun b hb=>⟨hb.1, Nat.lt_of_lt_of_le hb.2.1 hg.size, ?_⟩) (fun p hp=>World.cell?_of_block (hg.block p.block hp.2.1 (fun e=>hp.2.2 e.symm)))
  rcases hat with h' | h'
  ·rw [h']; exact hb.2.2
  ·rw [h']; intro h''; injection h'' with h''; have:=hb.2.1; omega
 refine ⟨by simpa using hown, fun i hi=>?_⟩
 rw [List.length_append, List.length_singleton] at hi
 by_cases hlt : i < done.length
 ·obtain ⟨x', y', z', h0, h1, h2, hl'⟩:=h.2 i hlt
  have g0:=(List.getElem?_eq_some_iff.1 h0).1
  have g1:=(List.getElem?_eq_some_iff.1 h1).1
  have g2:=(List.getElem?_eq_some_iff.1 h2).1
  refine ⟨x', y', z', by rw [List.getElem?_append_left g0]; exact h0, by rw [List.getElem?_append_left g1]; exact h1, by rw [List.getElem?_append_left g2]; exact h2, ?_⟩
  rw [List.getElem_append_left hlt]
  exact keep hl'
 ·have hi' : i = done.length:=by omega
  subst hi'
  refine ⟨x, y, z, ?_, ?_, ?_, ?_⟩
  ·rw [List.getElem?_append_right (by omega), hxl, Nat.sub_self]; rfl
  ·rw [List.getElem?_append_right (by omega), hxl, show done.length * 3 + 1 - done.length * 3 = 1 by omega]; rfl
  ·rw [List.getElem?_append_right (by omega), hxl, show done.length * 3 + 2 - done.length * 3 = 2 by omega]; rfl
  ·rw [List.getElem_append_right (Nat.le_refl _)]
   simpa using keep hl
theorem Gath.shut {w : World} {base : Nat} {v : Value} {xs : List Value} {done : List El} (h : Gath w base v xs done) :
  ∃ (A : Option Addr) (c : Nat) (ds : Nat → List Value), v = .slice A done.length c ∧ KidsAt w (fun b=>base ≤ b ∧ b < w.heap.size) A done ds:=by
 have hxl : xs.length = done.length * 3:=h.1.1
 have hform : ∃ (A : Option Addr) (c : Nat), v = .slice A done.length c:=by
  rcases h.1.2 with ⟨rfl, h0⟩ | ⟨g, cap, cur, rfl, _⟩
  ·exact ⟨none, 0, by rw [h0]⟩
  ·exact ⟨_, _, rfl⟩
 obtain ⟨A, c, rfl⟩:=hform
 refine ⟨A, c, fun i=>(xs.drop (i * 3)).take 3, rfl, fun i hi=>?_, fun h0=>?_, fun i hi=>?_⟩
 ·rw [List.length_take, List.length_drop]; omega
 ·obtain ⟨g, cap, hv, hg, hlt⟩:=World.ownsRow.form h.1 h0
  have hA : A = some ⟨g, 0, none⟩:=by injection hv
  subst hA
  refine ⟨_, rfl, ⟨hg, hlt⟩, fun i hi j u hu=>?_⟩
  refine World.ownsRow.cells h.1 (g:=g) rfl (i * 3 + j) u ?_
  by_cases hj : j < 3
  ·rw [List.getElem?_take_of_lt hj, List.getElem?_drop] at hu
   exact hu
  ·rw [List.getElem?_eq_none (by rw [List.length_take]; omega)] at hu
   cases hu
 ·obtain ⟨x, y, z, h0, h1, h2, hl⟩:=h.2 i hi
  have hd : (xs.drop (i * 3)).take 3 = [x, y, z]:=by
   have g2:=(List.getElem?_eq_some_iff.1 h2).1
   apply List.ext_getElem?
   intro j
   match j with
   | 0=>simpa [List.getElem?_drop] using h0
   | 1=>simpa [List.getElem?_drop] using h1
   | 2=>simpa [List.getElem?_drop] using h2
   | j + 3=>rw [List.getElem?_eq_none (by rw [List.length_take]; omega)]; rfl
  simp only [hd]
  exact hl.imp (fun b hb=>⟨hb.1, hb.2.1⟩) (fun _ _=>rfl)
theorem infoEl : (Tryz.prog.info? 53).map (fun i=>(i.zero, i.size, i.bytes)) = some (some (.agg #[.int .u8 0, .string ⟨#[]⟩, .slice none 0 0]), 3, 48):=by kernel_rfl
end Go.Proofs.YtbdpkfgllnbheaaGreatDoor.Be
