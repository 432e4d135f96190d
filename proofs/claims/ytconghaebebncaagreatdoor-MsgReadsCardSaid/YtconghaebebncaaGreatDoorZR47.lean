import Derived.Test.YtconghaebebncaaGreatDoorZR45
import Derived.Test.YtconghaebebncaaGreatDoorZR34
import Derived.Test.YtconghaebebncaaGreatDoorZR46
set_option linter.unusedVariables false
set_option maxRecDepth 100000
namespace Go.Proofs.YtconghaebebncaaGreatDoor.Ms
open Go.RowKit
def Oe (w0 w1 : World) (cs : Array Value) (w : World) : Prop:=Blk w w0.heap.size 28 cs ∧ Below w1.heap.size w1 w
theorem Oe.past {w0 w1 w w' : World} {cs : Array Value} (h : Oe w0 w1 cs w) (hb : Below w.heap.size w w') : Oe w0 w1 cs w':=⟨h.1.past hb, h.2.trans (hb.mono h.2.size)⟩
theorem Oe.alloc {w0 w1 w : World} {cs : Array Value} (h : Oe w0 w1 cs w) (o : Obj) : Oe w0 w1 cs (w.alloc o):=h.past ((Below.refl _ _).alloc (Nat.le_refl _) o)
theorem Oe.store {w0 w1 w : World} {cs ds : Array Value} {g : Nat} (h : Oe w0 w1 cs w) (h0 : w0.heap.size < w1.heap.size) (hg : w1.heap.size ≤ g) : Oe w0 w1 cs (w.setRow g ds):=⟨(setRow_other _ _ _ ds (by omega)).trans h.1, below_setRow h.2 hg ds⟩
theorem kids_fwdP {w w' : World} {P : Nat → Prop} {A : Option Addr} {ks : List Be.El} {ds : Nat → List Value} (h : Be.KidsAt w (fun b=>P b ∧ b < w.heap.size) A ks ds) (hb : Below w.heap.size w w') : Be.KidsAt w' (fun b=>P b ∧ b < w'.heap.size) A ks ds:=h.imp (fun b h=>⟨h.1, Nat.lt_of_lt_of_le h.2 hb.size⟩) (fun p hp=>hb.cell hp.2)
theorem lies_not {w : World} {o : Obj} {P : Nat → Prop} {e : Be.El} {cs : List Value} (h : Be.Lies w (fun b=>P b ∧ b < w.heap.size) e cs) : Be.Lies (w.alloc o) (fun b=>b ≠ w.heap.size ∧ b < (w.alloc o).heap.size) e cs:=h.imp (fun b h=>⟨Nat.ne_of_lt h.2, Nat.lt_of_lt_of_le h.2 (by simp)⟩) (fun p hp=>World.cell?_alloc_lt _ _ p hp.2)
theorem kids_not {w : World} {o : Obj} {P : Nat → Prop} {A : Option Addr} {ks : List Be.El} {ds : Nat → List Value} (h : Be.KidsAt w (fun b=>P b ∧ b < w.heap.size) A ks ds) : Be.KidsAt (w.alloc o) (fun b=>b ≠ w.heap.size ∧ b < (w.alloc o).heap.size) A ks ds:=h.imp (fun b h=>⟨Nat.ne_of_lt h.2, Nat.lt_of_lt_of_le h.2 (by simp)⟩) (fun p hp=>World.cell?_alloc_lt _ _ p hp.2)
theorem enc_stored {w : World} {g : Nat} {A : Option Addr} {c : Nat} {ks : List Be.El} {ds : Nat → List Value} {cs : Array Value} (hl : ks.length ≤ 20) (h : Be.KidsAt w (fun b=>b ≠ g ∧ b < w.heap.size) A ks ds) :
  Be.Lies (w.setRow g cs) (· < (w.setRow g cs).heap.size) (lst 48 ks) [.int .u8 48, .string ⟨#[]⟩, .slice A ks.length c] :=
 Be.Lies.shut (t:=48) (by decide) (by decide) (by unfold maxLen; omega) (h.imp (fun b h=>by rw [setRow_size]; exact h.2) (fun p hp=>cell_setRow_other _ _ _ _ hp.1))
attribute [local go_sem ↓] loadAtMsg
set_option maxHeartbeats 16000000 in
theorem renc_good (m : Mg) (cs : Array Value) (w : World) (hM : isM m = true) (h : MAt w (· < w.heap.size) m cs) :
  Calls Tryz.prog 12 #[.agg cs] w fun r w'=>r = .returned (.tuple #[.string ⟨(encM m).1.toArray⟩, .int .i64 (encM m).2]) ∧ Below w.heap.size w w':=by
 have B:=Box.new h
 have hb0:=(Below.refl w.heap.size w).alloc (Nat.le_refl _) (.cells cs 28)
 have HI:=Lib.hid (rIs_any m cs _ (h.past hb0))
 rw [hM] at HI
 have hld:=B.load
 have HB:=Lib.hid B
 have hb:=Lib.hid hb0
 have hid:=(isM_open hM).1
 have hid2:=(isM_open hM).2.1
 have HOp:=Lib.hid (fun w1 hb=>rop_any m cs w1 hM (h.past hb))
 have hgo:=msg_good hM
 have hel:=Lib.hid (show msgEl m = lst 48 [num 2 m.id, opEl m] from rfl)
 have HBy:=Lib.hid (fun x y z w1 h=>Be.rbytes_any (msgEl m) 20 400 27 x y z w1 hgo.1.2.2 (by omega) (by omega) h)
 have HDe:=Lib.hid (fun x y z w1 h=>Be.rdeep_any (msgEl m) 20 400 27 x y z w1 hgo.1.2.2 (by omega) h)
 have HE:=Lib.hid (show encM m = if 4000 < (Be.enc (msgEl m)).length then ([], 13) else if 20 < Be.dep (msgEl m) then ([], 12) else (Be.enc (msgEl m), 0) by unfold encM; rw [if_neg (by rw [hM]; decide)])
 have hlen:=Be.enc_len (msgEl m)
 have hby : Be.rbV (msgEl m) = if Be.bodyLen (msgEl m) ≤ 4000 then .tuple #[.string ⟨(Be.enc (msgEl m)).toArray⟩, .bool true] else .tuple #[.string ⟨#[]⟩, .bool false]:=by
  by_cases hh : Be.bodyLen (msgEl m) ≤ 4000
  ·rw [if_pos hh, Be.rbV_ok hh]
  ·rw [if_neg hh, Be.rbV_bad (by omega)]
 have hcase : (Be.rbV (msgEl m) = .tuple #[.string ⟨#[]⟩, .bool false] ∧ encM m = ([], 13)) ∨ (∃ S : ByteArray, Be.rbV (msgEl m) = .tuple #[.string S, .bool true] ∧ ((4000 < S.size ∧ encM m = ([], 13)) ∨ (S.size ≤ 4000 ∧ 20 < Be.dep (msgEl m) ∧ encM m = ([], 12)) ∨ (S.size ≤ 4000 ∧ Be.dep (msgEl m) ≤ 20 ∧ encM m = (Be.enc (msgEl m), 0) ∧ S = ⟨(Be.enc (msgEl m)).toArray⟩))):=by
  rw [HE.out, hby]
  by_cases hh : Be.bodyLen (msgEl m) ≤ 4000
  ·right
   refine ⟨_, if_pos hh, ?_⟩
   have hs : (⟨(Be.enc (msgEl m)).toArray⟩ : ByteArray).size = (Be.enc (msgEl m)).length:=by simp [ByteArray.size]
   rw [hs]
   by_cases h1 : 4000 < (Be.enc (msgEl m)).length
   ·left; exact ⟨h1, by rw [if_pos h1]⟩
   ·right
    by_cases h2 : 20 < Be.dep (msgEl m)
    ·left; exact ⟨by omega, h2, by rw [if_neg h1, if_pos h2]⟩
    ·right; exact ⟨by omega, by omega, by rw [if_neg h1, if_neg h2], rfl⟩
  ·left
   exact ⟨if_neg hh, if_pos (by omega)⟩
 have HCase:=Lib.hid hcase
 generalize Be.rbV (msgEl m) = bv at HBy HCase
 generalize Be.dep (msgEl m) = dd at HDe HCase
 have hsz:=h.size
 clear hcase hby hlen HE B hb0 hM hgo
 go_enter Tryz.func12, Tryz.ntmps12
 go_wp2_with fail
 refine HI.out.mono ?_
 rintro e w1 ⟨rfl, hb1⟩
 have HB1:=HB.out.past hb1
 have hbw:=hb.out.trans (hb1.mono hb.out.size)
 have hlt1:=HB1.1.lt
 have O0 : Oe w w1 cs w1.drew:=⟨HB1.1, (Below.refl _ _).drew⟩
 have hg0:=h.g0
 clear HI hld HB hb hb1 HB1
 go_wp2_with fail
 go_cut [4] from 5 to 34 (fun t4 wx=>∃ (g : Nat) (A : Option Addr), t4 = .pointer (some ⟨g, 0, none⟩) ∧ Hid (Blk wx g 57 #[.int .u8 48, .string ⟨#[]⟩, .slice A 2 2]) ∧ Hid (Below w.heap.size w wx) ∧ Hid (Be.Lies wx (· < wx.heap.size) (msgEl m) [.int .u8 48, .string ⟨#[]⟩, .slice A 2 2]))
 case first =>
  refine wp_region_noPanic ?_
  refine wp_region_held_drew (S:=Oe w w1 cs) (by kernel_rfl) O0 (fun hH0=>?_)
  refine Rg.tk 0 10 (.pointer (some ⟨w.heap.size, 0, none⟩)) rfl (by kernel_rfl) (fun _ _ _ h=>h) (fun _ _=>by kernel_rfl) hH0 ?_
  refine Rg.tk 1 11 (.int .i64 m.id) rfl (by kernel_rfl) (fun _ _ _ h=>h) (fun w' h'=>run_cell rfl rfl (by kernel_rfl) ((h'.1.cell 0).trans hg0)) hH0 ?_
  refine Rg.tk 3 13 (.agg cs) rfl (by kernel_rfl) (fun _ _ _ h=>h) (fun w' h'=>run_loadRow rfl rfl h'.1 Tryz.underlying28 rfl (by rw [infoM, hsz])) hH0 ?_
  refine Rg.frame _ (by simp only [Rg.pu, List.set]; rfl) ?_
  refine Rg.fork 2 7 (by kernel_rfl) ?_ ?_
  ·refine Rg.opCall 2 rfl (by kernel_rfl) 23 #[.int .u8 2, .int .i64 m.id] (by kernel_rfl) (rnum_any 2 m.id _ (by omega) (by omega)) ?_
   rintro _ w2 ⟨rfl, hb1⟩
   have hS1:=hH0.past hb1
   refine ⟨_, rfl, hS1, ?_⟩
   refine Rg.frame ⟨#[.agg cs, pt w.heap.size 0, Ns, Iq 0, ud, ud, ud, .agg cs, Bt, Bf, pt w.heap.size 0, Iq m.id, Ag #[Ub 2, Sg (strOfNums (Be.intB m.id)), Nl], .agg cs, ud, ud, ud, ud, ud, ud, ud, ud, ud, ud, ud, ud, ud, ud, ud, ud, ud, ud, ud, ud, ud], []⟩ (by kernel_rfl) ?_
   refine Rg.fork 4 7 (by kernel_rfl) ?_ ?_
   ·refine Rg.opCall 4 rfl (by kernel_rfl) 24 #[.agg cs] (by kernel_rfl) (HOp.out _ (hbw.trans (hS1.2.mono hbw.size))) ?_
    rintro _ w3 ⟨t1, b1, A1, n1, c1, rfl, hb2, hL0⟩
    have hS2:=hS1.past hb2
    have hL2:=hL0.imp (P':=fun b=>True ∧ b < w3.heap.size) (fun b h=>⟨trivial, h.2⟩) (fun _ _=>rfl)
    refine ⟨_, rfl, hS2, ?_⟩
    refine Rg.frame ⟨#[.agg cs, pt w.heap.size 0, Ns, Iq 0, ud, ud, ud, .agg cs, Bt, Bf, pt w.heap.size 0, Iq m.id, Ag #[Ub 2, Sg (strOfNums (Be.intB m.id)), Nl], .agg cs, Ag #[Ub (t1 : Nat), Sg b1, Sl A1 n1 c1], ud, ud, ud, ud, ud, ud, ud, ud, ud, ud, ud, ud, ud, ud, ud, ud, ud, ud, ud, ud], []⟩ (by kernel_rfl) ?_
    refine Rg.fork 5 7 (by kernel_rfl) ?_ ?_
    ·have hS3:=hS2.alloc (.cells #[.int .u8 2, .string (strOfNums (Be.intB m.id)), .slice none 0 0, .int .u8 (t1 : Nat), .string b1, .slice A1 n1 c1] 57)
     have hK3:=kids_litQ (w:=w3) (P:=fun b=>True) trivial [num 2 m.id, opEl m] [[.int .u8 2, .string (strOfNums (Be.intB m.id)), .slice none 0 0], [.int .u8 (t1 : Nat), .string b1, .slice A1 n1 c1]] rfl (by simp) (fun i hi=>by
      match i, hi with
      | 0, _=>exact lies_num (by decide) (by omega) (by omega)
      | 1, _=>exact hL2)
     refine Rg.opRun 5 rfl (by kernel_rfl) (.slice (some ⟨w3.heap.size, 0, none⟩) 2 2) (w3.alloc (.cells #[.int .u8 2, .string (strOfNums (Be.intB m.id)), .slice none 0 0, .int .u8 (t1 : Nat), .string b1, .slice A1 n1 c1] 57)) (by kernel_rfl) hS3 ?_
     refine Rg.frame ⟨#[.agg cs, pt w.heap.size 0, Ns, Iq 0, ud, ud, ud, .agg cs, Bt, Bf, pt w.heap.size 0, Iq m.id, Ag #[Ub 2, Sg (strOfNums (Be.intB m.id)), Nl], .agg cs, Ag #[Ub (t1 : Nat), Sg b1, Sl A1 n1 c1], Sl (some ⟨w3.heap.size, 0, none⟩) 2 2, ud, ud, ud, ud, ud, ud, ud, ud, ud, ud, ud, ud, ud, ud, ud, ud, ud, ud, ud], []⟩ (by kernel_rfl) ?_
     refine Rg.fork 6 7 (by kernel_rfl) ?_ ?_
     ·refine Rg.opCall 6 rfl (by kernel_rfl) 22 #[.int .u8 48, .slice (some ⟨w3.heap.size, 0, none⟩) 2 2] (by kernel_rfl) (Be.RList_any 48 (some ⟨w3.heap.size, 0, none⟩) 2 2 _) ?_
      rintro _ w5 ⟨rfl, hb4⟩
      have hS4:=hS3.past hb4
      have hK4:=kids_fwdP hK3 hb4
      refine ⟨_, rfl, hS4, ?_⟩
      refine Rg.frame ⟨#[.agg cs, pt w.heap.size 0, Ns, Iq 0, ud, ud, ud, .agg cs, Bt, Bf, pt w.heap.size 0, Iq m.id, Ag #[Ub 2, Sg (strOfNums (Be.intB m.id)), Nl], .agg cs, Ag #[Ub (t1 : Nat), Sg b1, Sl A1 n1 c1], Sl (some ⟨w3.heap.size, 0, none⟩) 2 2, Ag #[Ub 48, Ns, Sl (some ⟨w3.heap.size, 0, none⟩) 2 2], ud, ud, ud, ud, ud, ud, ud, ud, ud, ud, ud, ud, ud, ud, ud, ud, ud, ud], []⟩ (by kernel_rfl) ?_
      have hg5 : w1.heap.size ≤ w5.heap.size:=hS4.2.size
      have hS5:=hS4.alloc (.cells #[.int .u8 0, .string ⟨#[]⟩, .slice none 0 0] 57)
      have hB5:=Blk.new (w5) 57 #[.int .u8 0, .string ⟨#[]⟩, .slice none 0 0]
      have hK5:=kids_not (o:=.cells #[.int .u8 0, .string ⟨#[]⟩, .slice none 0 0] 57) hK4
      refine Rg.run 7 rfl (by kernel_rfl) (by kernel_rfl) (.pointer (some ⟨w5.heap.size, 0, none⟩)) (w5.alloc (.cells #[.int .u8 0, .string ⟨#[]⟩, .slice none 0 0] 57)) (by kernel_rfl) hS5 ?_
      refine Rg.frame ⟨#[.agg cs, pt w.heap.size 0, Ns, Iq 0, pt w5.heap.size 0, ud, ud, .agg cs, Bt, Bf, pt w.heap.size 0, Iq m.id, Ag #[Ub 2, Sg (strOfNums (Be.intB m.id)), Nl], .agg cs, Ag #[Ub (t1 : Nat), Sg b1, Sl A1 n1 c1], Sl (some ⟨w3.heap.size, 0, none⟩) 2 2, Ag #[Ub 48, Ns, Sl (some ⟨w3.heap.size, 0, none⟩) 2 2], ud, ud, ud, ud, ud, ud, ud, ud, ud, ud, ud, ud, ud, ud, ud, ud, ud, ud], []⟩ (by kernel_rfl) ?_
      have hA6:=hS5.store (ds:=#[.int .u8 48, .string ⟨#[]⟩, .slice (some ⟨w3.heap.size, 0, none⟩) 2 2]) hlt1 hg5
      refine Rg.skip 8 rfl (by kernel_rfl) (by kernel_rfl) _ (run_storeEl hB5 rfl rfl (by simp [Value.oneCell']) rfl rfl rfl) hA6 ?_
      refine Rg.frame { tmps:=#[.agg cs, .pointer (some ⟨w.heap.size, 0, none⟩), .string ⟨#[]⟩, .int .i64 0, .pointer (some ⟨w5.heap.size, 0, none⟩), undef, undef, .agg cs, .bool true, .bool false, .pointer (some ⟨w.heap.size, 0, none⟩), .int .i64 m.id, .agg #[.int .u8 2, .string (strOfNums (Be.intB m.id)), .slice none 0 0], .agg cs, .agg #[.int .u8 (t1 : Nat), .string b1, .slice A1 n1 c1], .slice (some ⟨w3.heap.size, 0, none⟩) 2 2, .agg #[.int .u8 48, .string ⟨#[]⟩, .slice (some ⟨w3.heap.size, 0, none⟩) 2 2], undef, undef, undef, undef, undef, undef, undef, undef, undef, undef, undef, undef, undef, undef, undef, undef, undef, undef], defers:=[] } (by kernel_rfl) ?_
      refine wpAnyH_done (by kernel_rfl) ?_ _
      refine NoPanic.normal ?_
      go_wp2_with fail
      go_meet
      exact ⟨_, _, rfl, Lib.hid (setRow_heap _ _ _ #[.int .u8 48, .string ⟨#[]⟩, .slice (some ⟨w3.heap.size, 0, none⟩) 2 2] _ _ hB5), Lib.hid (hbw.trans (hA6.2.mono hbw.size)), Lib.hid (enc_stored (ks:=[num 2 m.id, opEl m]) (by simp) hK5)⟩
     ·have hg5 : w1.heap.size ≤ ((w3.alloc (.cells #[.int .u8 2, .string (strOfNums (Be.intB m.id)), .slice none 0 0, .int .u8 (t1 : Nat), .string b1, .slice A1 n1 c1] 57))).heap.size:=hS3.2.size
      have hS6:=hS3.alloc (.cells #[.int .u8 0, .string ⟨#[]⟩, .slice none 0 0] 57)
      have hB6:=Blk.new ((w3.alloc (.cells #[.int .u8 2, .string (strOfNums (Be.intB m.id)), .slice none 0 0, .int .u8 (t1 : Nat), .string b1, .slice A1 n1 c1] 57))) 57 #[.int .u8 0, .string ⟨#[]⟩, .slice none 0 0]
      have hK6:=kids_not (o:=.cells #[.int .u8 0, .string ⟨#[]⟩, .slice none 0 0] 57) hK3
      refine Rg.opRun 7 rfl (by kernel_rfl) (.pointer (some ⟨((w3.alloc (.cells #[.int .u8 2, .string (strOfNums (Be.intB m.id)), .slice none 0 0, .int .u8 (t1 : Nat), .string b1, .slice A1 n1 c1] 57))).heap.size, 0, none⟩)) ((w3.alloc (.cells #[.int .u8 2, .string (strOfNums (Be.intB m.id)), .slice none 0 0, .int .u8 (t1 : Nat), .string b1, .slice A1 n1 c1] 57)).alloc (.cells #[.int .u8 0, .string ⟨#[]⟩, .slice none 0 0] 57)) (by kernel_rfl) hS6 ?_
      refine Rg.frame ⟨#[.agg cs, pt w.heap.size 0, Ns, Iq 0, pt (((w3.alloc (.cells #[Ub 2, Sg (strOfNums (Be.intB m.id)), Nl, Ub (t1 : Nat), Sg b1, Sl A1 n1 c1] 57))).heap.size) 0, ud, ud, .agg cs, Bt, Bf, pt w.heap.size 0, Iq m.id, Ag #[Ub 2, Sg (strOfNums (Be.intB m.id)), Nl], .agg cs, Ag #[Ub (t1 : Nat), Sg b1, Sl A1 n1 c1], Sl (some ⟨w3.heap.size, 0, none⟩) 2 2, ud, ud, ud, ud, ud, ud, ud, ud, ud, ud, ud, ud, ud, ud, ud, ud, ud, ud, ud], []⟩ (by kernel_rfl) ?_
      refine Rg.call 6 rfl (by kernel_rfl) (by kernel_rfl) 22 #[.int .u8 48, .slice (some ⟨w3.heap.size, 0, none⟩) 2 2] (by kernel_rfl) (Be.RList_any 48 (some ⟨w3.heap.size, 0, none⟩) 2 2 _) ?_
      rintro _ w8 ⟨rfl, hb7⟩
      have hS7:=hS6.past hb7
      have hB7:=hB6.past hb7
      have hK7:=kids_fwdP hK6 hb7
      refine ⟨_, rfl, hS7, ?_⟩
      refine Rg.frame ⟨#[.agg cs, pt w.heap.size 0, Ns, Iq 0, pt (((w3.alloc (.cells #[Ub 2, Sg (strOfNums (Be.intB m.id)), Nl, Ub (t1 : Nat), Sg b1, Sl A1 n1 c1] 57))).heap.size) 0, ud, ud, .agg cs, Bt, Bf, pt w.heap.size 0, Iq m.id, Ag #[Ub 2, Sg (strOfNums (Be.intB m.id)), Nl], .agg cs, Ag #[Ub (t1 : Nat), Sg b1, Sl A1 n1 c1], Sl (some ⟨w3.heap.size, 0, none⟩) 2 2, Ag #[Ub 48, Ns, Sl (some ⟨w3.heap.size, 0, none⟩) 2 2], ud, ud, ud, ud, ud, ud, ud, ud, ud, ud, ud, ud, ud, ud, ud, ud, ud, ud], []⟩ (by kernel_rfl) ?_
      have hA6:=hS7.store (ds:=#[.int .u8 48, .string ⟨#[]⟩, .slice (some ⟨w3.heap.size, 0, none⟩) 2 2]) hlt1 hg5
      refine Rg.skip 8 rfl (by kernel_rfl) (by kernel_rfl) _ (run_storeEl hB7 rfl rfl (by simp [Value.oneCell']) rfl rfl rfl) hA6 ?_
      refine Rg.frame { tmps:=#[.agg cs, .pointer (some ⟨w.heap.size, 0, none⟩), .string ⟨#[]⟩, .int .i64 0, .pointer (some ⟨((w3.alloc (.cells #[.int .u8 2, .string (strOfNums (Be.intB m.id)), .slice none 0 0, .int .u8 (t1 : Nat), .string b1, .slice A1 n1 c1] 57))).heap.size, 0, none⟩), undef, undef, .agg cs, .bool true, .bool false, .pointer (some ⟨w.heap.size, 0, none⟩), .int .i64 m.id, .agg #[.int .u8 2, .string (strOfNums (Be.intB m.id)), .slice none 0 0], .agg cs, .agg #[.int .u8 (t1 : Nat), .string b1, .slice A1 n1 c1], .slice (some ⟨w3.heap.size, 0, none⟩) 2 2, .agg #[.int .u8 48, .string ⟨#[]⟩, .slice (some ⟨w3.heap.size, 0, none⟩) 2 2], undef, undef, undef, undef, undef, undef, undef, undef, undef, undef, undef, undef, undef, undef, undef, undef, undef, undef], defers:=[] } (by kernel_rfl) ?_
      refine wpAnyH_done (by kernel_rfl) ?_ _
      refine NoPanic.normal ?_
      go_wp2_with fail
      go_meet
      exact ⟨_, _, rfl, Lib.hid (setRow_heap _ _ _ #[.int .u8 48, .string ⟨#[]⟩, .slice (some ⟨w3.heap.size, 0, none⟩) 2 2] _ _ hB7), Lib.hid (hbw.trans (hA6.2.mono hbw.size)), Lib.hid (enc_stored (ks:=[num 2 m.id, opEl m]) (by simp) hK7)⟩
    ·have hg5 : w1.heap.size ≤ w3.heap.size:=hS2.2.size
     have hS8:=hS2.alloc (.cells #[.int .u8 0, .string ⟨#[]⟩, .slice none 0 0] 57)
     have hB8:=Blk.new (w3) 57 #[.int .u8 0, .string ⟨#[]⟩, .slice none 0 0]
     have hL8:=lies_not (o:=.cells #[.int .u8 0, .string ⟨#[]⟩, .slice none 0 0] 57) hL2
     refine Rg.opRun 7 rfl (by kernel_rfl) (.pointer (some ⟨w3.heap.size, 0, none⟩)) (w3.alloc (.cells #[.int .u8 0, .string ⟨#[]⟩, .slice none 0 0] 57)) (by kernel_rfl) hS8 ?_
     refine Rg.frame ⟨#[.agg cs, pt w.heap.size 0, Ns, Iq 0, pt w3.heap.size 0, ud, ud, .agg cs, Bt, Bf, pt w.heap.size 0, Iq m.id, Ag #[Ub 2, Sg (strOfNums (Be.intB m.id)), Nl], .agg cs, Ag #[Ub (t1 : Nat), Sg b1, Sl A1 n1 c1], ud, ud, ud, ud, ud, ud, ud, ud, ud, ud, ud, ud, ud, ud, ud, ud, ud, ud, ud, ud], []⟩ (by kernel_rfl) ?_
     have hS9:=hS8.alloc (.cells #[.int .u8 2, .string (strOfNums (Be.intB m.id)), .slice none 0 0, .int .u8 (t1 : Nat), .string b1, .slice A1 n1 c1] 57)
     have hK9:=kids_litQ (w:=(w3.alloc (.cells #[.int .u8 0, .string ⟨#[]⟩, .slice none 0 0] 57))) (P:=fun b=>b ≠ w3.heap.size) (by have:=hB8.lt; omega) [num 2 m.id, opEl m] [[.int .u8 2, .string (strOfNums (Be.intB m.id)), .slice none 0 0], [.int .u8 (t1 : Nat), .string b1, .slice A1 n1 c1]] rfl (by simp) (fun i hi=>by
      match i, hi with
      | 0, _=>exact lies_num (by decide) (by omega) (by omega)
      | 1, _=>exact hL8)
     have hB9:=hB8.alloc (.cells #[.int .u8 2, .string (strOfNums (Be.intB m.id)), .slice none 0 0, .int .u8 (t1 : Nat), .string b1, .slice A1 n1 c1] 57)
     refine Rg.run 5 rfl (by kernel_rfl) (by kernel_rfl) (.slice (some ⟨((w3.alloc (.cells #[.int .u8 0, .string ⟨#[]⟩, .slice none 0 0] 57))).heap.size, 0, none⟩) 2 2) ((w3.alloc (.cells #[.int .u8 0, .string ⟨#[]⟩, .slice none 0 0] 57)).alloc (.cells #[.int .u8 2, .string (strOfNums (Be.intB m.id)), .slice none 0 0, .int .u8 (t1 : Nat), .string b1, .slice A1 n1 c1] 57)) (by kernel_rfl) hS9 ?_
     refine Rg.frame ⟨#[.agg cs, pt w.heap.size 0, Ns, Iq 0, pt w3.heap.size 0, ud, ud, .agg cs, Bt, Bf, pt w.heap.size 0, Iq m.id, Ag #[Ub 2, Sg (strOfNums (Be.intB m.id)), Nl], .agg cs, Ag #[Ub (t1 : Nat), Sg b1, Sl A1 n1 c1], Sl (some ⟨((w3.alloc (.cells #[Ub 0, Ns, Nl] 57))).heap.size, 0, none⟩) 2 2, ud, ud, ud, ud, ud, ud, ud, ud, ud, ud, ud, ud, ud, ud, ud, ud, ud, ud, ud], []⟩ (by kernel_rfl) ?_
     refine Rg.call 6 rfl (by kernel_rfl) (by kernel_rfl) 22 #[.int .u8 48, .slice (some ⟨((w3.alloc (.cells #[.int .u8 0, .string ⟨#[]⟩, .slice none 0 0] 57))).heap.size, 0, none⟩) 2 2] (by kernel_rfl) (Be.RList_any 48 (some ⟨((w3.alloc (.cells #[.int .u8 0, .string ⟨#[]⟩, .slice none 0 0] 57))).heap.size, 0, none⟩) 2 2 _) ?_
     rintro _ w11 ⟨rfl, hb10⟩
     have hS10:=hS9.past hb10
     have hB10:=hB9.past hb10
     have hK10:=kids_fwdP hK9 hb10
     refine ⟨_, rfl, hS10, ?_⟩
     refine Rg.frame ⟨#[.agg cs, pt w.heap.size 0, Ns, Iq 0, pt w3.heap.size 0, ud, ud, .agg cs, Bt, Bf, pt w.heap.size 0, Iq m.id, Ag #[Ub 2, Sg (strOfNums (Be.intB m.id)), Nl], .agg cs, Ag #[Ub (t1 : Nat), Sg b1, Sl A1 n1 c1], Sl (some ⟨((w3.alloc (.cells #[Ub 0, Ns, Nl] 57))).heap.size, 0, none⟩) 2 2, Ag #[Ub 48, Ns, Sl (some ⟨((w3.alloc (.cells #[Ub 0, Ns, Nl] 57))).heap.size, 0, none⟩) 2 2], ud, ud, ud, ud, ud, ud, ud, ud, ud, ud, ud, ud, ud, ud, ud, ud, ud, ud], []⟩ (by kernel_rfl) ?_
     have hA6:=hS10.store (ds:=#[.int .u8 48, .string ⟨#[]⟩, .slice (some ⟨((w3.alloc (.cells #[.int .u8 0, .string ⟨#[]⟩, .slice none 0 0] 57))).heap.size, 0, none⟩) 2 2]) hlt1 hg5
     refine Rg.skip 8 rfl (by kernel_rfl) (by kernel_rfl) _ (run_storeEl hB10 rfl rfl (by simp [Value.oneCell']) rfl rfl rfl) hA6 ?_
     refine Rg.frame { tmps:=#[.agg cs, .pointer (some ⟨w.heap.size, 0, none⟩), .string ⟨#[]⟩, .int .i64 0, .pointer (some ⟨w3.heap.size, 0, none⟩), undef, undef, .agg cs, .bool true, .bool false, .pointer (some ⟨w.heap.size, 0, none⟩), .int .i64 m.id, .agg #[.int .u8 2, .string (strOfNums (Be.intB m.id)), .slice none 0 0], .agg cs, .agg #[.int .u8 (t1 : Nat), .string b1, .slice A1 n1 c1], .slice (some ⟨((w3.alloc (.cells #[.int .u8 0, .string ⟨#[]⟩, .slice none 0 0] 57))).heap.size, 0, none⟩) 2 2, .agg #[.int .u8 48, .string ⟨#[]⟩, .slice (some ⟨((w3.alloc (.cells #[.int .u8 0, .string ⟨#[]⟩, .slice none 0 0] 57))).heap.size, 0, none⟩) 2 2], undef, undef, undef, undef, undef, undef, undef, undef, undef, undef, undef, undef, undef, undef, undef, undef, undef, undef], defers:=[] } (by kernel_rfl) ?_
     refine wpAnyH_done (by kernel_rfl) ?_ _
     refine NoPanic.normal ?_
     go_wp2_with fail
     go_meet
     exact ⟨_, _, rfl, Lib.hid (setRow_heap _ _ _ #[.int .u8 48, .string ⟨#[]⟩, .slice (some ⟨((w3.alloc (.cells #[.int .u8 0, .string ⟨#[]⟩, .slice none 0 0] 57))).heap.size, 0, none⟩) 2 2] _ _ hB10), Lib.hid (hbw.trans (hA6.2.mono hbw.size)), Lib.hid (enc_stored (ks:=[num 2 m.id, opEl m]) (by simp) hK10)⟩
   ·have hg5 : w1.heap.size ≤ w2.heap.size:=hS1.2.size
    have hS11:=hS1.alloc (.cells #[.int .u8 0, .string ⟨#[]⟩, .slice none 0 0] 57)
    have hB11:=Blk.new (w2) 57 #[.int .u8 0, .string ⟨#[]⟩, .slice none 0 0]
    refine Rg.opRun 7 rfl (by kernel_rfl) (.pointer (some ⟨w2.heap.size, 0, none⟩)) (w2.alloc (.cells #[.int .u8 0, .string ⟨#[]⟩, .slice none 0 0] 57)) (by kernel_rfl) hS11 ?_
    refine Rg.frame ⟨#[.agg cs, pt w.heap.size 0, Ns, Iq 0, pt w2.heap.size 0, ud, ud, .agg cs, Bt, Bf, pt w.heap.size 0, Iq m.id, Ag #[Ub 2, Sg (strOfNums (Be.intB m.id)), Nl], .agg cs, ud, ud, ud, ud, ud, ud, ud, ud, ud, ud, ud, ud, ud, ud, ud, ud, ud, ud, ud, ud, ud], []⟩ (by kernel_rfl) ?_
    refine Rg.call 4 rfl (by kernel_rfl) (by kernel_rfl) 24 #[.agg cs] (by kernel_rfl) (HOp.out _ (hbw.trans (hS11.2.mono hbw.size))) ?_
    rintro _ w13 ⟨t1, b1, A1, n1, c1, rfl, hb12, hL0⟩
    have hS12:=hS11.past hb12
    have hlt12:=hB11.lt
    have hL12:=hL0.imp (P':=fun b=>b ≠ w2.heap.size ∧ b < w13.heap.size) (fun b h=>⟨by have:=h.1; omega, h.2⟩) (fun _ _=>rfl)
    have hB12:=hB11.past hb12
    refine ⟨_, rfl, hS12, ?_⟩
    refine Rg.frame ⟨#[.agg cs, pt w.heap.size 0, Ns, Iq 0, pt w2.heap.size 0, ud, ud, .agg cs, Bt, Bf, pt w.heap.size 0, Iq m.id, Ag #[Ub 2, Sg (strOfNums (Be.intB m.id)), Nl], .agg cs, Ag #[Ub (t1 : Nat), Sg b1, Sl A1 n1 c1], ud, ud, ud, ud, ud, ud, ud, ud, ud, ud, ud, ud, ud, ud, ud, ud, ud, ud, ud, ud], []⟩ (by kernel_rfl) ?_
    have hS13:=hS12.alloc (.cells #[.int .u8 2, .string (strOfNums (Be.intB m.id)), .slice none 0 0, .int .u8 (t1 : Nat), .string b1, .slice A1 n1 c1] 57)
    have hK13:=kids_litQ (w:=w13) (P:=fun b=>b ≠ w2.heap.size) (by have:=hB12.lt; omega) [num 2 m.id, opEl m] [[.int .u8 2, .string (strOfNums (Be.intB m.id)), .slice none 0 0], [.int .u8 (t1 : Nat), .string b1, .slice A1 n1 c1]] rfl (by simp) (fun i hi=>by
     match i, hi with
     | 0, _=>exact lies_num (by decide) (by omega) (by omega)
     | 1, _=>exact hL12)
    have hB13:=hB12.alloc (.cells #[.int .u8 2, .string (strOfNums (Be.intB m.id)), .slice none 0 0, .int .u8 (t1 : Nat), .string b1, .slice A1 n1 c1] 57)
    refine Rg.run 5 rfl (by kernel_rfl) (by kernel_rfl) (.slice (some ⟨w13.heap.size, 0, none⟩) 2 2) (w13.alloc (.cells #[.int .u8 2, .string (strOfNums (Be.intB m.id)), .slice none 0 0, .int .u8 (t1 : Nat), .string b1, .slice A1 n1 c1] 57)) (by kernel_rfl) hS13 ?_
    refine Rg.frame ⟨#[.agg cs, pt w.heap.size 0, Ns, Iq 0, pt w2.heap.size 0, ud, ud, .agg cs, Bt, Bf, pt w.heap.size 0, Iq m.id, Ag #[Ub 2, Sg (strOfNums (Be.intB m.id)), Nl], .agg cs, Ag #[Ub (t1 : Nat), Sg b1, Sl A1 n1 c1], Sl (some ⟨w13.heap.size, 0, none⟩) 2 2, ud, ud, ud, ud, ud, ud, ud, ud, ud, ud, ud, ud, ud, ud, ud, ud, ud, ud, ud], []⟩ (by kernel_rfl) ?_
    refine Rg.call 6 rfl (by kernel_rfl) (by kernel_rfl) 22 #[.int .u8 48, .slice (some ⟨w13.heap.size, 0, none⟩) 2 2] (by kernel_rfl) (Be.RList_any 48 (some ⟨w13.heap.size, 0, none⟩) 2 2 _) ?_
    rintro _ w15 ⟨rfl, hb14⟩
    have hS14:=hS13.past hb14
    have hB14:=hB13.past hb14
    have hK14:=kids_fwdP hK13 hb14
    refine ⟨_, rfl, hS14, ?_⟩
    refine Rg.frame ⟨#[.agg cs, pt w.heap.size 0, Ns, Iq 0, pt w2.heap.size 0, ud, ud, .agg cs, Bt, Bf, pt w.heap.size 0, Iq m.id, Ag #[Ub 2, Sg (strOfNums (Be.intB m.id)), Nl], .agg cs, Ag #[Ub (t1 : Nat), Sg b1, Sl A1 n1 c1], Sl (some ⟨w13.heap.size, 0, none⟩) 2 2, Ag #[Ub 48, Ns, Sl (some ⟨w13.heap.size, 0, none⟩) 2 2], ud, ud, ud, ud, ud, ud, ud, ud, ud, ud, ud, ud, ud, ud, ud, ud, ud, ud], []⟩ (by kernel_rfl) ?_
    have hA6:=hS14.store (ds:=#[.int .u8 48, .string ⟨#[]⟩, .slice (some ⟨w13.heap.size, 0, none⟩) 2 2]) hlt1 hg5
    refine Rg.skip 8 rfl (by kernel_rfl) (by kernel_rfl) _ (run_storeEl hB14 rfl rfl (by simp [Value.oneCell']) rfl rfl rfl) hA6 ?_
    refine Rg.frame { tmps:=#[.agg cs, .pointer (some ⟨w.heap.size, 0, none⟩), .string ⟨#[]⟩, .int .i64 0, .pointer (some ⟨w2.heap.size, 0, none⟩), undef, undef, .agg cs, .bool true, .bool false, .pointer (some ⟨w.heap.size, 0, none⟩), .int .i64 m.id, .agg #[.int .u8 2, .string (strOfNums (Be.intB m.id)), .slice none 0 0], .agg cs, .agg #[.int .u8 (t1 : Nat), .string b1, .slice A1 n1 c1], .slice (some ⟨w13.heap.size, 0, none⟩) 2 2, .agg #[.int .u8 48, .string ⟨#[]⟩, .slice (some ⟨w13.heap.size, 0, none⟩) 2 2], undef, undef, undef, undef, undef, undef, undef, undef, undef, undef, undef, undef, undef, undef, undef, undef, undef, undef], defers:=[] } (by kernel_rfl) ?_
    refine wpAnyH_done (by kernel_rfl) ?_ _
    refine NoPanic.normal ?_
    go_wp2_with fail
    go_meet
    exact ⟨_, _, rfl, Lib.hid (setRow_heap _ _ _ #[.int .u8 48, .string ⟨#[]⟩, .slice (some ⟨w13.heap.size, 0, none⟩) 2 2] _ _ hB14), Lib.hid (hbw.trans (hA6.2.mono hbw.size)), Lib.hid (enc_stored (ks:=[num 2 m.id, opEl m]) (by simp) hK14)⟩
  ·have hg5 : w1.heap.size ≤ w1.drew.heap.size:=hH0.2.size
   have hS15:=hH0.alloc (.cells #[.int .u8 0, .string ⟨#[]⟩, .slice none 0 0] 57)
   have hB15:=Blk.new (w1.drew) 57 #[.int .u8 0, .string ⟨#[]⟩, .slice none 0 0]
   refine Rg.opRun 7 rfl (by kernel_rfl) (.pointer (some ⟨w1.drew.heap.size, 0, none⟩)) (w1.drew.alloc (.cells #[.int .u8 0, .string ⟨#[]⟩, .slice none 0 0] 57)) (by kernel_rfl) hS15 ?_
   refine Rg.frame ⟨#[.agg cs, pt w.heap.size 0, Ns, Iq 0, pt w1.drew.heap.size 0, ud, ud, .agg cs, Bt, Bf, pt w.heap.size 0, Iq m.id, ud, .agg cs, ud, ud, ud, ud, ud, ud, ud, ud, ud, ud, ud, ud, ud, ud, ud, ud, ud, ud, ud, ud, ud], []⟩ (by kernel_rfl) ?_
   refine Rg.call 2 rfl (by kernel_rfl) (by kernel_rfl) 23 #[.int .u8 2, .int .i64 m.id] (by kernel_rfl) (rnum_any 2 m.id _ (by omega) (by omega)) ?_
   rintro _ w17 ⟨rfl, hb16⟩
   have hS16:=hS15.past hb16
   have hB16:=hB15.past hb16
   refine ⟨_, rfl, hS16, ?_⟩
   refine Rg.frame ⟨#[.agg cs, pt w.heap.size 0, Ns, Iq 0, pt w1.drew.heap.size 0, ud, ud, .agg cs, Bt, Bf, pt w.heap.size 0, Iq m.id, Ag #[Ub 2, Sg (strOfNums (Be.intB m.id)), Nl], .agg cs, ud, ud, ud, ud, ud, ud, ud, ud, ud, ud, ud, ud, ud, ud, ud, ud, ud, ud, ud, ud, ud], []⟩ (by kernel_rfl) ?_
   refine Rg.call 4 rfl (by kernel_rfl) (by kernel_rfl) 24 #[.agg cs] (by kernel_rfl) (HOp.out _ (hbw.trans (hS16.2.mono hbw.size))) ?_
   rintro _ w18 ⟨t1, b1, A1, n1, c1, rfl, hb17, hL0⟩
   have hS17:=hS16.past hb17
   have hlt17:=hB16.lt
   have hL17:=hL0.imp (P':=fun b=>b ≠ w1.drew.heap.size ∧ b < w18.heap.size) (fun b h=>⟨by have:=h.1; omega, h.2⟩) (fun _ _=>rfl)
   have hB17:=hB16.past hb17
   refine ⟨_, rfl, hS17, ?_⟩
   refine Rg.frame ⟨#[.agg cs, pt w.heap.size 0, Ns, Iq 0, pt w1.drew.heap.size 0, ud, ud, .agg cs, Bt, Bf, pt w.heap.size 0, Iq m.id, Ag #[Ub 2, Sg (strOfNums (Be.intB m.id)), Nl], .agg cs, Ag #[Ub (t1 : Nat), Sg b1, Sl A1 n1 c1], ud, ud, ud, ud, ud, ud, ud, ud, ud, ud, ud, ud, ud, ud, ud, ud, ud, ud, ud, ud], []⟩ (by kernel_rfl) ?_
   have hS18:=hS17.alloc (.cells #[.int .u8 2, .string (strOfNums (Be.intB m.id)), .slice none 0 0, .int .u8 (t1 : Nat), .string b1, .slice A1 n1 c1] 57)
   have hK18:=kids_litQ (w:=w18) (P:=fun b=>b ≠ w1.drew.heap.size) (by have:=hB17.lt; omega) [num 2 m.id, opEl m] [[.int .u8 2, .string (strOfNums (Be.intB m.id)), .slice none 0 0], [.int .u8 (t1 : Nat), .string b1, .slice A1 n1 c1]] rfl (by simp) (fun i hi=>by
    match i, hi with
    | 0, _=>exact lies_num (by decide) (by omega) (by omega)
    | 1, _=>exact hL17)
   have hB18:=hB17.alloc (.cells #[.int .u8 2, .string (strOfNums (Be.intB m.id)), .slice none 0 0, .int .u8 (t1 : Nat), .string b1, .slice A1 n1 c1] 57)
   refine Rg.run 5 rfl (by kernel_rfl) (by kernel_rfl) (.slice (some ⟨w18.heap.size, 0, none⟩) 2 2) (w18.alloc (.cells #[.int .u8 2, .string (strOfNums (Be.intB m.id)), .slice none 0 0, .int .u8 (t1 : Nat), .string b1, .slice A1 n1 c1] 57)) (by kernel_rfl) hS18 ?_
   refine Rg.frame ⟨#[.agg cs, pt w.heap.size 0, Ns, Iq 0, pt w1.drew.heap.size 0, ud, ud, .agg cs, Bt, Bf, pt w.heap.size 0, Iq m.id, Ag #[Ub 2, Sg (strOfNums (Be.intB m.id)), Nl], .agg cs, Ag #[Ub (t1 : Nat), Sg b1, Sl A1 n1 c1], Sl (some ⟨w18.heap.size, 0, none⟩) 2 2, ud, ud, ud, ud, ud, ud, ud, ud, ud, ud, ud, ud, ud, ud, ud, ud, ud, ud, ud], []⟩ (by kernel_rfl) ?_
   refine Rg.call 6 rfl (by kernel_rfl) (by kernel_rfl) 22 #[.int .u8 48, .slice (some ⟨w18.heap.size, 0, none⟩) 2 2] (by kernel_rfl) (Be.RList_any 48 (some ⟨w18.heap.size, 0, none⟩) 2 2 _) ?_
   rintro _ w20 ⟨rfl, hb19⟩
   have hS19:=hS18.past hb19
   have hB19:=hB18.past hb19
   have hK19:=kids_fwdP hK18 hb19
   refine ⟨_, rfl, hS19, ?_⟩
   refine Rg.frame ⟨#[.agg cs, pt w.heap.size 0, Ns, Iq 0, pt w1.drew.heap.size 0, ud, ud, .agg cs, Bt, Bf, pt w.heap.size 0, Iq m.id, Ag #[Ub 2, Sg (strOfNums (Be.intB m.id)), Nl], .agg cs, Ag #[Ub (t1 : Nat), Sg b1, Sl A1 n1 c1], Sl (some ⟨w18.heap.size, 0, none⟩) 2 2, Ag #[Ub 48, Ns, Sl (some ⟨w18.heap.size, 0, none⟩) 2 2], ud, ud, ud, ud, ud, ud, ud, ud, ud, ud, ud, ud, ud, ud, ud, ud, ud, ud], []⟩ (by kernel_rfl) ?_
   have hA6:=hS19.store (ds:=#[.int .u8 48, .string ⟨#[]⟩, .slice (some ⟨w18.heap.size, 0, none⟩) 2 2]) hlt1 hg5
   refine Rg.skip 8 rfl (by kernel_rfl) (by kernel_rfl) _ (run_storeEl hB19 rfl rfl (by simp [Value.oneCell']) rfl rfl rfl) hA6 ?_
   refine Rg.frame { tmps:=#[.agg cs, .pointer (some ⟨w.heap.size, 0, none⟩), .string ⟨#[]⟩, .int .i64 0, .pointer (some ⟨w1.drew.heap.size, 0, none⟩), undef, undef, .agg cs, .bool true, .bool false, .pointer (some ⟨w.heap.size, 0, none⟩), .int .i64 m.id, .agg #[.int .u8 2, .string (strOfNums (Be.intB m.id)), .slice none 0 0], .agg cs, .agg #[.int .u8 (t1 : Nat), .string b1, .slice A1 n1 c1], .slice (some ⟨w18.heap.size, 0, none⟩) 2 2, .agg #[.int .u8 48, .string ⟨#[]⟩, .slice (some ⟨w18.heap.size, 0, none⟩) 2 2], undef, undef, undef, undef, undef, undef, undef, undef, undef, undef, undef, undef, undef, undef, undef, undef, undef, undef], defers:=[] } (by kernel_rfl) ?_
   refine wpAnyH_done (by kernel_rfl) ?_ _
   refine NoPanic.normal ?_
   go_wp2_with fail
   go_meet
   exact ⟨_, _, rfl, Lib.hid (setRow_heap _ _ _ #[.int .u8 48, .string ⟨#[]⟩, .slice (some ⟨w18.heap.size, 0, none⟩) 2 2] _ _ hB19), Lib.hid (hbw.trans (hA6.2.mono hbw.size)), Lib.hid (enc_stored (ks:=[num 2 m.id, opEl m]) (by simp) hK19)⟩
 case rest =>
  obtain ⟨g, A, rfl, HG, HBW, HL⟩:=hcut
  clear HOp O0 hel
  have c0:=HG.out.cell 0
  have c1:=HG.out.cell 1
  have c2:=HG.out.cell 2
  simp only [List.getElem?_toArray, List.getElem?_cons_zero, List.getElem?_cons_succ] at c0 c1 c2
  go_wp2_with fail
  refine (HBy.out _ _ _ _ HL.out).mono ?_
  rintro e w5 ⟨rfl, hb5⟩
  have HG5:=HG.out.past hb5
  have hb6:=HBW.out.trans (hb5.mono HBW.out.size)
  have HL5:=Lib.hid (HL.out.imp (w':=w5) (P':=(· < w5.heap.size)) (fun b h=>Nat.lt_of_lt_of_le h hb5.size) (fun p hp=>hb5.cell hp))
  clear c0 c1 c2 hb5
  have d0:=HG5.cell 0
  have d1:=HG5.cell 1
  have d2:=HG5.cell 2
  simp only [List.getElem?_toArray, List.getElem?_cons_zero, List.getElem?_cons_succ] at d0 d1 d2
  rcases HCase.out with ⟨rfl, he⟩ | ⟨S, rfl, hs⟩
  ·have He:=Lib.hid he
   clear he d0 d1 d2 HCase
   go_wp2_with fail
   go_ret2; exact ⟨by rw [He.out]; rfl, hb6⟩
  rcases hs with ⟨h1, he⟩ | ⟨h1, h2, he⟩ | ⟨h1, h2, he, hS⟩
  ·have He:=Lib.hid he
   have h1' : 4000 < (S.size : Int):=by omega
   clear he d0 d1 d2 HCase h1
   go_wp2_with fail
   go_ret2; exact ⟨by rw [He.out]; rfl, hb6⟩
  ·have He:=Lib.hid he
   have h1' : (S.size : Int) ≤ 4000:=by omega
   have h2' : 20 < (dd : Int):=by omega
   clear he HCase h1 h2
   go_wp2_with fail
   refine (HDe.out _ _ _ _ HL5.out).mono ?_
   rintro e w6 ⟨rfl, hb7⟩
   have hb8:=hb6.trans (hb7.mono hb6.size)
   go_wp2_with fail
   go_ret2; exact ⟨by rw [He.out]; rfl, hb8⟩
  ·have He:=Lib.hid he
   have HS:=Lib.hid hS
   have h1' : (S.size : Int) ≤ 4000:=by omega
   have h2' : (dd : Int) ≤ 20:=by omega
   clear he HCase h1 h2 hS
   go_wp2_with fail
   refine (HDe.out _ _ _ _ HL5.out).mono ?_
   rintro e w6 ⟨rfl, hb7⟩
   have hb8:=hb6.trans (hb7.mono hb6.size)
   go_wp2_with fail
   go_ret2; exact ⟨by rw [He.out, HS.out]; rfl, hb8⟩
set_option maxHeartbeats 4000000 in
theorem rEncode_any (m : Mg) (cs : Array Value) (w : World) (h : MAt w (· < w.heap.size) m cs) :
  Calls Tryz.prog 12 #[.agg cs] w fun r w'=>r = .returned (.tuple #[.string ⟨(encM m).1.toArray⟩, .int .i64 (encM m).2]) ∧ Below w.heap.size w w':=by
 by_cases hM : isM m = true
 ·exact renc_good m cs w hM h
 have he:=Lib.hid (show encM m = ([], 14) by unfold encM; rw [if_pos (by simpa using hM)])
 have hb0:=(Below.refl w.heap.size w).alloc (Nat.le_refl _) (.cells cs 28)
 have HI:=Lib.hid (rIs_any m cs _ (h.past hb0))
 rw [show isM m = false by simpa using hM] at HI
 have hld:=(Box.new h).load
 have hb:=Lib.hid hb0
 clear hb0 h hM
 go_enter Tryz.func12, Tryz.ntmps12
 go_wp2_with fail
 refine HI.out.mono ?_
 rintro e w1 ⟨rfl, hb1⟩
 have hbw:=hb.out.trans (hb1.mono hb.out.size)
 clear hld
 go_wp2_with fail
 go_ret2; exact ⟨by rw [he.out]; rfl, hbw⟩
end Go.Proofs.YtconghaebebncaaGreatDoor.Ms
