import Derived.Test.YtconghaebebncaaGreatDoorZR31
import Derived.Deep.WholeRow
import Derived.Deep.CutRange
set_option linter.unusedVariables false
set_option maxRecDepth 100000
namespace Go.Proofs.YtconghaebebncaaGreatDoor.Ms
open Go.RowKit
def OneMoB (p : Addr) (k : Int) (a : ByteArray) (V : Option Addr) (n c g : Nat) (g5 : Nat) (cs : Array Value) (w : World) : Prop:=OneMo p k a V n c g w ∧ Blk w g5 57 cs
theorem OneMoB.past {w w' : World} {p : Addr} {k : Int} {a : ByteArray} {V : Option Addr} {n c g g5 : Nat} {cs : Array Value} (h : OneMoB p k a V n c g g5 cs w) (hb : Below w.heap.size w w') : OneMoB p k a V n c g g5 cs w':=⟨h.1.past hb, h.2.past hb⟩
theorem OneMoB.alloc {w : World} {p : Addr} {k : Int} {a : ByteArray} {V : Option Addr} {n c g g5 : Nat} {cs : Array Value} (h : OneMoB p k a V n c g g5 cs w) (o : Obj) : OneMoB p k a V n c g g5 cs (w.alloc o):=h.past ((Below.refl _ _).alloc (Nat.le_refl _) o)
theorem run_storeEl {w : World} {g : Nat} {cs old : Array Value} {ev : Operand → Value} {o : Oper} {p q : Operand} (B : Blk w g 57 old) (hold : old.size = 3) (hcs : cs.size = 3) (h1 : cs.all (·.oneCell') = true)
  (ho : o.op = .store 57 p q) (hp : ev p = .pointer (some ⟨g, 0, none⟩)) (hq : ev q = .agg cs) : (execOp ev o).run Tryz.prog w = .ok .skip (w.setRow g cs):=by
 unfold execOp
 simp only [ho, hp, hq, Instr.storeAt, Instr.sureAddr, Sem.run_bind, Sem.run_pure, Result.andThen_ok, run_storeVar_row w g _ 57 old cs B (by rw [infoE3, hcs]) (by rw [hold, hcs]) h1]
set_option maxHeartbeats 8000000 in
theorem rchanges_any (A : Option Addr) (c : Nat) (l : List Mo) (ds : Nat → List Value) (w : World) (hl : l.length ≤ 12) (hok : ∀ d ∈ l, okMo d) (hM : MosAt w (· < w.heap.size) A l ds) :
  Calls Tryz.prog 57 #[.slice A l.length c] w (NewLst w 48 (l.map modEl)):=by
 have HM:=Lib.hid hM
 have HO:=Lib.hid hok
 obtain ⟨ks, hks⟩ : ∃ ks, ks = l.map modEl:=⟨_, rfl⟩
 have hmt:=map_take modEl l
 rw [← hks] at hmt ⊢
 have HK:=Lib.hid hmt
 have HB0:=Lib.hid (Blk.new w 57 #[.int .u8 0, .string ⟨#[]⟩, .slice none 0 0])
 have Hb0:=Lib.hid ((Below.refl w.heap.size w).alloc (Nat.le_refl _) (.cells #[.int .u8 0, .string ⟨#[]⟩, .slice none 0 0] 57))
 clear hM hok hks hmt
 go_enter Tryz.func57, Tryz.ntmps57
 go_wp2_with fail
 go_loopw [3, 4] (fun v i wr=>∃ (q : Nat) (xs : List Value), q ≤ l.length ∧ i = .int .i64 q ∧ Hid (Be.Gath wr (w.heap.size + 1) v xs (ks.take q)) ∧ Hid (Blk wr w.heap.size 57 #[.int .u8 0, .string ⟨#[]⟩, .slice none 0 0]) ∧ Below w.heap.size w wr ∧ w.heap.size + 1 ≤ wr.heap.size) (fun v i wr=>l.length - (intOf i).toNat)
 case atStart=>exact ⟨0, [], Nat.zero_le _, rfl, Be.Gath.nil _ _, HB0, Hb0.out, by simp⟩
 case round =>
  obtain ⟨q, xs, hq, rfl, hG, hBr, hb, hge⟩:=hrel
  have hsz:=hb.size
  by_cases hlt : q < l.length
  ·obtain ⟨ad, V, vc, rfl, hp, f0, f1, f2, hL⟩:=HM.out.kid hb hlt
   obtain ⟨V1, vc1, ev, _, lv, _, hV, hvs⟩:=hL
   simp only [List.cons.injEq, Value.slice.injEq, true_and, and_true] at ev
   obtain ⟨rfl, rfl⟩:=ev
   have hokd:=HO.out _ (List.getElem_mem hlt)
   have hdl:=take_len HK.out.1 hq (by omega)
   have hmt:=Lib.hid (HK.out.2 q hlt)
   generalize l[q] = d at f0 f1 f2 hV lv hvs hokd hmt
   obtain ⟨k, a, v2⟩:=d
   simp only at f0 f1 f2 hV lv hvs
   obtain ⟨ok1, ok2, oka, okl, oks⟩:=hokd
   simp only at ok1 ok2 oka okl oks
   have T0 : OneMo (ad.add (q * 3)) k a V v2.length vc w.heap.size wr:=⟨⟨f0, f1, f2⟩, hBr.out⟩
   have HV:=Lib.hid (fun w1 (hb1 : Below wr.heap.size wr w1)=>rall_any 49 (by decide) V vc v2 w1 (by omega) (fun s hs=>by have:=oks s hs; omega) (hV.imp (fun _ h=>Nat.lt_of_lt_of_le h hb1.size) (fun p hp=>hb1.cell hp)))
   obtain ⟨ii, hi, hi3⟩:=infoMo3
   have hwr : IntKind.i64.wrap (k - 1) = k - 1:=IntWalk.i64_in _ (by omega)
   have hT:=T0
   have hadlt : (ad.add (q * 3)).block < wr.heap.size:=by rw [block_of_add]; omega
   clear T0 f0 f1 f2 hV hBr
   go_wp2_with fail
   have hwlt : w.heap.size < wr.heap.size:=by omega
   go_cut [5] from 6 to 38 (fun t5 wx=>∃ (g5 : Nat) (A9 : Option Addr), t5 = .pointer (some ⟨g5, 0, none⟩) ∧ Hid (wr.heap.size ≤ g5) ∧ Hid (OneMoB (ad.add (q * 3)) k a V v2.length vc w.heap.size g5 #[.int .u8 48, .string ⟨#[]⟩, .slice A9 2 2] wx) ∧ Below wr.heap.size wr wx ∧ Hid (Be.Lies wx (fun b=>wr.heap.size ≤ b ∧ b < wx.heap.size) (attrEl ⟨k, a, v2⟩) [.int .u8 ((48 : Nat) : Int), .string ⟨#[]⟩, .slice A9 2 2]))
   case first =>
    refine wp_region_noPanic ?_
    refine wp_region_held_drew (S:=OneMo (ad.add (q * 3)) k a V v2.length vc w.heap.size) (by kernel_rfl) (hT.past (Below.refl _ _).drew) (fun hH0=>?_)
    refine Rg.tk 0 12 (.slice (some ad) l.length c) rfl (by kernel_rfl) (fun _ _ _ h=>h) (fun _ _=>by kernel_rfl) hH0 ?_
    refine Rg.tk 1 13 (.int .i64 q) rfl (by kernel_rfl) (fun _ _ _ h=>h) (fun _ _=>by kernel_rfl) hH0 ?_
    refine Rg.tk 2 14 (.pointer (some (ad.add (q * 3)))) rfl (by kernel_rfl) (fun _ _ _ h=>h) (fun w' _=>Pl.run_index (P:=Tryz.prog) (k:=3) Tryz.underlying26 hi hi3 rfl rfl rfl hlt) hH0 ?_
    refine Rg.frame _ (by simp only [Rg.pu, List.set]; rfl) ?_
    refine Rg.tk 3 15 (.pointer (some ⟨(ad.add (q * 3)).block, (ad.add (q * 3)).off + 1, none⟩)) rfl (by kernel_rfl) (fun _ _ _ h=>h) (fun _ _=>by kernel_rfl) hH0 ?_
    refine Rg.tk 4 16 (.string a) rfl (by kernel_rfl) (fun _ _ _ h=>h) (fun w' h=>run_cell rfl rfl (by kernel_rfl) h.1.2.1) hH0 ?_
    refine Rg.tk 6 18 (.slice (some ad) l.length c) rfl (by kernel_rfl) (fun _ _ _ h=>h) (fun _ _=>by kernel_rfl) hH0 ?_
    refine Rg.frame _ (by simp only [Rg.pu, List.set]; rfl) ?_
    refine Rg.tk 7 19 (.int .i64 q) rfl (by kernel_rfl) (fun _ _ _ h=>h) (fun _ _=>by kernel_rfl) hH0 ?_
    refine Rg.tk 8 20 (.pointer (some (ad.add (q * 3)))) rfl (by kernel_rfl) (fun _ _ _ h=>h) (fun w' _=>Pl.run_index (P:=Tryz.prog) (k:=3) Tryz.underlying26 hi hi3 rfl rfl rfl hlt) hH0 ?_
    refine Rg.tk 9 21 (.pointer (some ⟨(ad.add (q * 3)).block, (ad.add (q * 3)).off + 2, none⟩)) rfl (by kernel_rfl) (fun _ _ _ h=>h) (fun _ _=>by kernel_rfl) hH0 ?_
    refine Rg.frame _ (by simp only [Rg.pu, List.set]; rfl) ?_
    refine Rg.tk 10 22 (.slice V v2.length vc) rfl (by kernel_rfl) (fun _ _ _ h=>h) (fun w' h=>run_cell rfl rfl (by kernel_rfl) h.1.2.2) hH0 ?_
    refine Rg.frame _ (by simp only [Rg.pu, List.set]; rfl) ?_
    have hd0:=(Below.refl wr.heap.size wr).drew
    refine Rg.fork 5 14 (by kernel_rfl) ?_ ?_
    ·refine Rg.opCall 5 rfl (by kernel_rfl) 52 #[.string a] (by kernel_rfl) (rtext_any a _) ?_
     rintro _ w1 ⟨rfl, hb1⟩
     have hS1:=hH0.past hb1
     have hd1:=hd0.trans (hb1.mono hd0.size)
     refine ⟨_, rfl, hS1, ?_⟩
     refine Rg.frame ⟨#[Sl (some ad) l.length c, ud, pt w.heap.size 0, u3, Iq q, u5, Iq q, Sl (some ad) l.length c, Iq l.length, Bt, u10, u11, Sl (some ad) l.length c, Iq q, .pointer (some (ad.add (q * 3))), .pointer (some ⟨(ad.add (q * 3)).block, (ad.add (q * 3)).off + 1, none⟩), Sg a, Ag #[Ub 4, Sg a, Nl], Sl (some ad) l.length c, Iq q, .pointer (some (ad.add (q * 3))), .pointer (some ⟨(ad.add (q * 3)).block, (ad.add (q * 3)).off + 2, none⟩), Sl V v2.length vc, u23, u24, u25, u26, u27, u28, u29, u30, u31, u32, u33, u34, u35, u36, u37, u38, ud, ud], []⟩ (by kernel_rfl) ?_
     refine Rg.fork 11 14 (by kernel_rfl) ?_ ?_
     ·refine Rg.opCall 11 rfl (by kernel_rfl) 56 #[.int .u8 49, .slice V v2.length vc] (by kernel_rfl) (HV.out _ hd1) ?_
      rintro _ w2 ⟨A1, c1, ds1, rfl, hb2, hK1⟩
      have hS2:=hS1.past hb2
      have hd2:=hd1.trans (hb2.mono hd1.size)
      refine ⟨_, rfl, hS2, ?_⟩
      refine Rg.frame ⟨#[Sl (some ad) l.length c, ud, pt w.heap.size 0, u3, Iq q, u5, Iq q, Sl (some ad) l.length c, Iq l.length, Bt, u10, u11, Sl (some ad) l.length c, Iq q, .pointer (some (ad.add (q * 3))), .pointer (some ⟨(ad.add (q * 3)).block, (ad.add (q * 3)).off + 1, none⟩), Sg a, Ag #[Ub 4, Sg a, Nl], Sl (some ad) l.length c, Iq q, .pointer (some (ad.add (q * 3))), .pointer (some ⟨(ad.add (q * 3)).block, (ad.add (q * 3)).off + 2, none⟩), Sl V v2.length vc, Ag #[Ub 49, Ns, Sl A1 (v2.map (txt 4)).length c1], u24, u25, u26, u27, u28, u29, u30, u31, u32, u33, u34, u35, u36, u37, u38, ud, ud], []⟩ (by kernel_rfl) ?_
      refine Rg.fork 12 14 (by kernel_rfl) ?_ ?_
      ·have hS3:=OneMo.alloc hS2 (.cells #[.int .u8 4, .string a, .slice none 0 0, .int .u8 49, .string ⟨#[]⟩, .slice A1 (v2.map (txt 4)).length c1] 57)
       have hd3:=hd2.alloc hd2.size (.cells #[.int .u8 4, .string a, .slice none 0 0, .int .u8 49, .string ⟨#[]⟩, .slice A1 (v2.map (txt 4)).length c1] 57)
       refine Rg.opRun 12 rfl (by kernel_rfl) (.slice (some ⟨w2.heap.size, 0, none⟩) 2 2) (w2.alloc (.cells #[.int .u8 4, .string a, .slice none 0 0, .int .u8 49, .string ⟨#[]⟩, .slice A1 (v2.map (txt 4)).length c1] 57)) (by kernel_rfl) hS3 ?_
       have hL1_3 : Be.Lies w2 (fun b=>wr.heap.size ≤ b ∧ b < (w2).heap.size) (lst 49 (v2.map (txt 4))) [.int .u8 ((49 : Nat) : Int), .string ⟨#[]⟩, .slice A1 (v2.map (txt 4)).length c1] :=
        Be.Lies.shut (by decide) (by decide) (by rw [List.length_map]; unfold maxLen; omega) (hK1.imp (fun b h=>⟨Nat.le_trans hd1.size h.1, h.2⟩) (fun p hp=>rfl))
       have hKK_3:=kids_litQ (w:=w2) (P:=fun b=>wr.heap.size ≤ b) hd2.size [txt 4 a, lst 49 (v2.map (txt 4))] [[.int .u8 4, .string a, .slice none 0 0], [.int .u8 49, .string ⟨#[]⟩, .slice A1 (v2.map (txt 4)).length c1]] rfl (by simp) (fun i hi=>by
        match i, hi with
        | 0, _=>exact lies_leaf (by decide) (by omega)
        | 1, _=>exact hL1_3)
       refine Rg.frame ⟨#[Sl (some ad) l.length c, ud, pt w.heap.size 0, u3, Iq q, u5, Iq q, Sl (some ad) l.length c, Iq l.length, Bt, u10, u11, Sl (some ad) l.length c, Iq q, .pointer (some (ad.add (q * 3))), .pointer (some ⟨(ad.add (q * 3)).block, (ad.add (q * 3)).off + 1, none⟩), Sg a, Ag #[Ub 4, Sg a, Nl], Sl (some ad) l.length c, Iq q, .pointer (some (ad.add (q * 3))), .pointer (some ⟨(ad.add (q * 3)).block, (ad.add (q * 3)).off + 2, none⟩), Sl V v2.length vc, Ag #[Ub 49, Ns, Sl A1 (v2.map (txt 4)).length c1], Sl (some ⟨w2.heap.size, 0, none⟩) 2 2, u25, u26, u27, u28, u29, u30, u31, u32, u33, u34, u35, u36, u37, u38, ud, ud], []⟩ (by kernel_rfl) ?_
       refine Rg.fork 13 14 (by kernel_rfl) ?_ ?_
       ·refine Rg.opCall 13 rfl (by kernel_rfl) 22 #[.int .u8 48, .slice (some ⟨w2.heap.size, 0, none⟩) 2 2] (by kernel_rfl) (Be.RList_any 48 (some ⟨w2.heap.size, 0, none⟩) 2 2 _) ?_
        rintro _ w4 ⟨rfl, hb4⟩
        have hS4:=hS3.past hb4
        have hd4:=hd3.trans (hb4.mono hd3.size)
        refine ⟨_, rfl, hS4, ?_⟩
        refine Rg.frame ⟨#[Sl (some ad) l.length c, ud, pt w.heap.size 0, u3, Iq q, u5, Iq q, Sl (some ad) l.length c, Iq l.length, Bt, u10, u11, Sl (some ad) l.length c, Iq q, .pointer (some (ad.add (q * 3))), .pointer (some ⟨(ad.add (q * 3)).block, (ad.add (q * 3)).off + 1, none⟩), Sg a, Ag #[Ub 4, Sg a, Nl], Sl (some ad) l.length c, Iq q, .pointer (some (ad.add (q * 3))), .pointer (some ⟨(ad.add (q * 3)).block, (ad.add (q * 3)).off + 2, none⟩), Sl V v2.length vc, Ag #[Ub 49, Ns, Sl A1 (v2.map (txt 4)).length c1], Sl (some ⟨w2.heap.size, 0, none⟩) 2 2, Ag #[Ub 48, Ns, Sl (some ⟨w2.heap.size, 0, none⟩) 2 2], u26, u27, u28, u29, u30, u31, u32, u33, u34, u35, u36, u37, u38, ud, ud], []⟩ (by kernel_rfl) ?_
        have hS5:=OneMo.alloc hS4 (.cells #[.int .u8 0, .string ⟨#[]⟩, .slice none 0 0] 57)
        have hd5:=hd4.alloc hd4.size (.cells #[.int .u8 0, .string ⟨#[]⟩, .slice none 0 0] 57)
        have hB5:=Blk.new (w4) 57 #[.int .u8 0, .string ⟨#[]⟩, .slice none 0 0]
        have hg5 : wr.heap.size ≤ w4.heap.size:=hd4.size
        refine Rg.run 14 rfl (by kernel_rfl) (by kernel_rfl) (.pointer (some ⟨w4.heap.size, 0, none⟩)) (w4.alloc (.cells #[.int .u8 0, .string ⟨#[]⟩, .slice none 0 0] 57)) (by kernel_rfl) hS5 ?_
        refine Rg.frame ⟨#[Sl (some ad) l.length c, ud, pt w.heap.size 0, u3, Iq q, pt w4.heap.size 0, Iq q, Sl (some ad) l.length c, Iq l.length, Bt, u10, u11, Sl (some ad) l.length c, Iq q, .pointer (some (ad.add (q * 3))), .pointer (some ⟨(ad.add (q * 3)).block, (ad.add (q * 3)).off + 1, none⟩), Sg a, Ag #[Ub 4, Sg a, Nl], Sl (some ad) l.length c, Iq q, .pointer (some (ad.add (q * 3))), .pointer (some ⟨(ad.add (q * 3)).block, (ad.add (q * 3)).off + 2, none⟩), Sl V v2.length vc, Ag #[Ub 49, Ns, Sl A1 (v2.map (txt 4)).length c1], Sl (some ⟨w2.heap.size, 0, none⟩) 2 2, Ag #[Ub 48, Ns, Sl (some ⟨w2.heap.size, 0, none⟩) 2 2], u26, u27, u28, u29, u30, u31, u32, u33, u34, u35, u36, u37, u38, ud, ud], []⟩ (by kernel_rfl) ?_
        have hne:=hg5
        have hA6 : OneMo (ad.add (q * 3)) k a V v2.length vc w.heap.size (((w4.alloc (.cells #[.int .u8 0, .string ⟨#[]⟩, .slice none 0 0] 57))).setRow (w4.heap.size) #[.int .u8 48, .string ⟨#[]⟩, .slice (some ⟨w2.heap.size, 0, none⟩) 2 2]):=OneMo.upto hS5 (below_setRow (Below.refl wr.heap.size _) hg5 _) hadlt hwlt
        refine Rg.skip 15 rfl (by kernel_rfl) (by kernel_rfl) _ (run_storeEl hB5 rfl rfl (by simp [Value.oneCell']) rfl rfl rfl) hA6 ?_
        refine Rg.frame { tmps:=#[.slice (some ad) l.length c, undef, .pointer (some ⟨w.heap.size, 0, none⟩), u3, .int .i64 q, .pointer (some ⟨w4.heap.size, 0, none⟩), .int .i64 q, .slice (some ad) l.length c, .int .i64 l.length, .bool true, u10, u11, .slice (some ad) l.length c, .int .i64 q, .pointer (some (ad.add (q * 3))), .pointer (some ⟨(ad.add (q * 3)).block, (ad.add (q * 3)).off + 1, none⟩), .string a, .agg #[.int .u8 4, .string a, .slice none 0 0], .slice (some ad) l.length c, .int .i64 q, .pointer (some (ad.add (q * 3))), .pointer (some ⟨(ad.add (q * 3)).block, (ad.add (q * 3)).off + 2, none⟩), .slice V v2.length vc, .agg #[.int .u8 49, .string ⟨#[]⟩, .slice A1 (v2.map (txt 4)).length c1], .slice (some ⟨w2.heap.size, 0, none⟩) 2 2, .agg #[.int .u8 48, .string ⟨#[]⟩, .slice (some ⟨w2.heap.size, 0, none⟩) 2 2], u26, u27, u28, u29, u30, u31, u32, u33, u34, u35, u36, u37, u38, undef, undef], defers:=[] } (by kernel_rfl) ?_
        refine wpAnyH_done (by kernel_rfl) ?_ _
        refine NoPanic.normal ?_
        go_wp2_with fail
        go_meet
        exact ⟨_, _, rfl, Lib.hid hg5, Lib.hid ⟨hA6, setRow_heap _ _ _ #[.int .u8 48, .string ⟨#[]⟩, .slice (some ⟨w2.heap.size, 0, none⟩) 2 2] _ _ hB5⟩, below_setRow hd5 hg5 _, Lib.hid (Be.Lies.shut (ks:=[txt 4 a, lst 49 (v2.map (txt 4))]) (by decide) (by decide) (by simp [maxLen]) (((hKK_3.imp (w':=w4) (P':=fun b=>wr.heap.size ≤ b ∧ b < w4.heap.size) (fun b h=>⟨h.1, Nat.lt_of_lt_of_le h.2 hb4.size⟩) (fun p hp=>hb4.cell hp.2)).imp (w':=(w4.alloc (.cells #[.int .u8 0, .string ⟨#[]⟩, .slice none 0 0] 57))) (P':=fun b=>(wr.heap.size ≤ b ∧ b ≠ w4.heap.size) ∧ b < ((w4.alloc (.cells #[.int .u8 0, .string ⟨#[]⟩, .slice none 0 0] 57))).heap.size) (fun b h=>⟨⟨h.1, Nat.ne_of_lt h.2⟩, Nat.lt_of_lt_of_le h.2 (by simp)⟩) (fun p hp=>World.cell?_alloc_lt _ _ p hp.2)).imp (w':=((w4.alloc (.cells #[.int .u8 0, .string ⟨#[]⟩, .slice none 0 0] 57))).setRow (w4.heap.size) #[.int .u8 48, .string ⟨#[]⟩, .slice (some ⟨w2.heap.size, 0, none⟩) 2 2]) (P':=fun b=>wr.heap.size ≤ b ∧ b < (((w4.alloc (.cells #[.int .u8 0, .string ⟨#[]⟩, .slice none 0 0] 57))).setRow (w4.heap.size) #[.int .u8 48, .string ⟨#[]⟩, .slice (some ⟨w2.heap.size, 0, none⟩) 2 2]).heap.size) (fun b h=>⟨h.1.1, by rw [setRow_size]; exact h.2⟩) (fun p hp=>cell_setRow_other _ _ _ _ hp.1.2)))⟩
       ·have hS6:=OneMo.alloc hS3 (.cells #[.int .u8 0, .string ⟨#[]⟩, .slice none 0 0] 57)
        have hd6:=hd3.alloc hd3.size (.cells #[.int .u8 0, .string ⟨#[]⟩, .slice none 0 0] 57)
        have hB6:=Blk.new ((w2.alloc (.cells #[.int .u8 4, .string a, .slice none 0 0, .int .u8 49, .string ⟨#[]⟩, .slice A1 (v2.map (txt 4)).length c1] 57))) 57 #[.int .u8 0, .string ⟨#[]⟩, .slice none 0 0]
        have hg5 : wr.heap.size ≤ ((w2.alloc (.cells #[.int .u8 4, .string a, .slice none 0 0, .int .u8 49, .string ⟨#[]⟩, .slice A1 (v2.map (txt 4)).length c1] 57))).heap.size:=hd3.size
        refine Rg.opRun 14 rfl (by kernel_rfl) (.pointer (some ⟨((w2.alloc (.cells #[.int .u8 4, .string a, .slice none 0 0, .int .u8 49, .string ⟨#[]⟩, .slice A1 (v2.map (txt 4)).length c1] 57))).heap.size, 0, none⟩)) ((w2.alloc (.cells #[.int .u8 4, .string a, .slice none 0 0, .int .u8 49, .string ⟨#[]⟩, .slice A1 (v2.map (txt 4)).length c1] 57)).alloc (.cells #[.int .u8 0, .string ⟨#[]⟩, .slice none 0 0] 57)) (by kernel_rfl) hS6 ?_
        refine Rg.frame ⟨#[Sl (some ad) l.length c, ud, pt w.heap.size 0, u3, Iq q, pt (((w2.alloc (.cells #[Ub 4, Sg a, Nl, Ub 49, Ns, Sl A1 (v2.map (txt 4)).length c1] 57))).heap.size) 0, Iq q, Sl (some ad) l.length c, Iq l.length, Bt, u10, u11, Sl (some ad) l.length c, Iq q, .pointer (some (ad.add (q * 3))), .pointer (some ⟨(ad.add (q * 3)).block, (ad.add (q * 3)).off + 1, none⟩), Sg a, Ag #[Ub 4, Sg a, Nl], Sl (some ad) l.length c, Iq q, .pointer (some (ad.add (q * 3))), .pointer (some ⟨(ad.add (q * 3)).block, (ad.add (q * 3)).off + 2, none⟩), Sl V v2.length vc, Ag #[Ub 49, Ns, Sl A1 (v2.map (txt 4)).length c1], Sl (some ⟨w2.heap.size, 0, none⟩) 2 2, u25, u26, u27, u28, u29, u30, u31, u32, u33, u34, u35, u36, u37, u38, ud, ud], []⟩ (by kernel_rfl) ?_
        refine Rg.call 13 rfl (by kernel_rfl) (by kernel_rfl) 22 #[.int .u8 48, .slice (some ⟨w2.heap.size, 0, none⟩) 2 2] (by kernel_rfl) (Be.RList_any 48 (some ⟨w2.heap.size, 0, none⟩) 2 2 _) ?_
        rintro _ w7 ⟨rfl, hb7⟩
        have hS7:=hS6.past hb7
        have hd7:=hd6.trans (hb7.mono hd6.size)
        have hB7:=hB6.past hb7
        refine ⟨_, rfl, hS7, ?_⟩
        refine Rg.frame ⟨#[Sl (some ad) l.length c, ud, pt w.heap.size 0, u3, Iq q, pt (((w2.alloc (.cells #[Ub 4, Sg a, Nl, Ub 49, Ns, Sl A1 (v2.map (txt 4)).length c1] 57))).heap.size) 0, Iq q, Sl (some ad) l.length c, Iq l.length, Bt, u10, u11, Sl (some ad) l.length c, Iq q, .pointer (some (ad.add (q * 3))), .pointer (some ⟨(ad.add (q * 3)).block, (ad.add (q * 3)).off + 1, none⟩), Sg a, Ag #[Ub 4, Sg a, Nl], Sl (some ad) l.length c, Iq q, .pointer (some (ad.add (q * 3))), .pointer (some ⟨(ad.add (q * 3)).block, (ad.add (q * 3)).off + 2, none⟩), Sl V v2.length vc, Ag #[Ub 49, Ns, Sl A1 (v2.map (txt 4)).length c1], Sl (some ⟨w2.heap.size, 0, none⟩) 2 2, Ag #[Ub 48, Ns, Sl (some ⟨w2.heap.size, 0, none⟩) 2 2], u26, u27, u28, u29, u30, u31, u32, u33, u34, u35, u36, u37, u38, ud, ud], []⟩ (by kernel_rfl) ?_
        have hne:=hg5
        have hA6 : OneMo (ad.add (q * 3)) k a V v2.length vc w.heap.size ((w7).setRow (((w2.alloc (.cells #[.int .u8 4, .string a, .slice none 0 0, .int .u8 49, .string ⟨#[]⟩, .slice A1 (v2.map (txt 4)).length c1] 57))).heap.size) #[.int .u8 48, .string ⟨#[]⟩, .slice (some ⟨w2.heap.size, 0, none⟩) 2 2]):=OneMo.upto hS7 (below_setRow (Below.refl wr.heap.size _) hg5 _) hadlt hwlt
        refine Rg.skip 15 rfl (by kernel_rfl) (by kernel_rfl) _ (run_storeEl hB7 rfl rfl (by simp [Value.oneCell']) rfl rfl rfl) hA6 ?_
        refine Rg.frame { tmps:=#[.slice (some ad) l.length c, undef, .pointer (some ⟨w.heap.size, 0, none⟩), u3, .int .i64 q, .pointer (some ⟨((w2.alloc (.cells #[.int .u8 4, .string a, .slice none 0 0, .int .u8 49, .string ⟨#[]⟩, .slice A1 (v2.map (txt 4)).length c1] 57))).heap.size, 0, none⟩), .int .i64 q, .slice (some ad) l.length c, .int .i64 l.length, .bool true, u10, u11, .slice (some ad) l.length c, .int .i64 q, .pointer (some (ad.add (q * 3))), .pointer (some ⟨(ad.add (q * 3)).block, (ad.add (q * 3)).off + 1, none⟩), .string a, .agg #[.int .u8 4, .string a, .slice none 0 0], .slice (some ad) l.length c, .int .i64 q, .pointer (some (ad.add (q * 3))), .pointer (some ⟨(ad.add (q * 3)).block, (ad.add (q * 3)).off + 2, none⟩), .slice V v2.length vc, .agg #[.int .u8 49, .string ⟨#[]⟩, .slice A1 (v2.map (txt 4)).length c1], .slice (some ⟨w2.heap.size, 0, none⟩) 2 2, .agg #[.int .u8 48, .string ⟨#[]⟩, .slice (some ⟨w2.heap.size, 0, none⟩) 2 2], u26, u27, u28, u29, u30, u31, u32, u33, u34, u35, u36, u37, u38, undef, undef], defers:=[] } (by kernel_rfl) ?_
        refine wpAnyH_done (by kernel_rfl) ?_ _
        refine NoPanic.normal ?_
        go_wp2_with fail
        go_meet
        exact ⟨_, _, rfl, Lib.hid hg5, Lib.hid ⟨hA6, setRow_heap _ _ _ #[.int .u8 48, .string ⟨#[]⟩, .slice (some ⟨w2.heap.size, 0, none⟩) 2 2] _ _ hB7⟩, below_setRow hd7 hg5 _, Lib.hid (Be.Lies.shut (ks:=[txt 4 a, lst 49 (v2.map (txt 4))]) (by decide) (by decide) (by simp [maxLen]) (((hKK_3.imp (w':=((w2.alloc (.cells #[.int .u8 4, .string a, .slice none 0 0, .int .u8 49, .string ⟨#[]⟩, .slice A1 (v2.map (txt 4)).length c1] 57)).alloc (.cells #[.int .u8 0, .string ⟨#[]⟩, .slice none 0 0] 57))) (P':=fun b=>(wr.heap.size ≤ b ∧ b ≠ ((w2.alloc (.cells #[.int .u8 4, .string a, .slice none 0 0, .int .u8 49, .string ⟨#[]⟩, .slice A1 (v2.map (txt 4)).length c1] 57))).heap.size) ∧ b < (((w2.alloc (.cells #[.int .u8 4, .string a, .slice none 0 0, .int .u8 49, .string ⟨#[]⟩, .slice A1 (v2.map (txt 4)).length c1] 57)).alloc (.cells #[.int .u8 0, .string ⟨#[]⟩, .slice none 0 0] 57))).heap.size) (fun b h=>⟨⟨h.1, Nat.ne_of_lt h.2⟩, Nat.lt_of_lt_of_le h.2 (by simp)⟩) (fun p hp=>World.cell?_alloc_lt _ _ p hp.2)).imp (w':=w7) (P':=fun b=>(wr.heap.size ≤ b ∧ b ≠ ((w2.alloc (.cells #[.int .u8 4, .string a, .slice none 0 0, .int .u8 49, .string ⟨#[]⟩, .slice A1 (v2.map (txt 4)).length c1] 57))).heap.size) ∧ b < w7.heap.size) (fun b h=>⟨h.1, Nat.lt_of_lt_of_le h.2 hb7.size⟩) (fun p hp=>hb7.cell hp.2)).imp (w':=(w7).setRow (((w2.alloc (.cells #[.int .u8 4, .string a, .slice none 0 0, .int .u8 49, .string ⟨#[]⟩, .slice A1 (v2.map (txt 4)).length c1] 57))).heap.size) #[.int .u8 48, .string ⟨#[]⟩, .slice (some ⟨w2.heap.size, 0, none⟩) 2 2]) (P':=fun b=>wr.heap.size ≤ b ∧ b < ((w7).setRow (((w2.alloc (.cells #[.int .u8 4, .string a, .slice none 0 0, .int .u8 49, .string ⟨#[]⟩, .slice A1 (v2.map (txt 4)).length c1] 57))).heap.size) #[.int .u8 48, .string ⟨#[]⟩, .slice (some ⟨w2.heap.size, 0, none⟩) 2 2]).heap.size) (fun b h=>⟨h.1.1, by rw [setRow_size]; exact h.2⟩) (fun p hp=>cell_setRow_other _ _ _ _ hp.1.2)))⟩
      ·have hS8:=OneMo.alloc hS2 (.cells #[.int .u8 0, .string ⟨#[]⟩, .slice none 0 0] 57)
       have hd8:=hd2.alloc hd2.size (.cells #[.int .u8 0, .string ⟨#[]⟩, .slice none 0 0] 57)
       have hB8:=Blk.new (w2) 57 #[.int .u8 0, .string ⟨#[]⟩, .slice none 0 0]
       have hg5 : wr.heap.size ≤ w2.heap.size:=hd2.size
       refine Rg.opRun 14 rfl (by kernel_rfl) (.pointer (some ⟨w2.heap.size, 0, none⟩)) (w2.alloc (.cells #[.int .u8 0, .string ⟨#[]⟩, .slice none 0 0] 57)) (by kernel_rfl) hS8 ?_
       refine Rg.frame ⟨#[Sl (some ad) l.length c, ud, pt w.heap.size 0, u3, Iq q, pt w2.heap.size 0, Iq q, Sl (some ad) l.length c, Iq l.length, Bt, u10, u11, Sl (some ad) l.length c, Iq q, .pointer (some (ad.add (q * 3))), .pointer (some ⟨(ad.add (q * 3)).block, (ad.add (q * 3)).off + 1, none⟩), Sg a, Ag #[Ub 4, Sg a, Nl], Sl (some ad) l.length c, Iq q, .pointer (some (ad.add (q * 3))), .pointer (some ⟨(ad.add (q * 3)).block, (ad.add (q * 3)).off + 2, none⟩), Sl V v2.length vc, Ag #[Ub 49, Ns, Sl A1 (v2.map (txt 4)).length c1], u24, u25, u26, u27, u28, u29, u30, u31, u32, u33, u34, u35, u36, u37, u38, ud, ud], []⟩ (by kernel_rfl) ?_
       have hS9:=OneMo.alloc hS8 (.cells #[.int .u8 4, .string a, .slice none 0 0, .int .u8 49, .string ⟨#[]⟩, .slice A1 (v2.map (txt 4)).length c1] 57)
       have hd9:=hd8.alloc hd8.size (.cells #[.int .u8 4, .string a, .slice none 0 0, .int .u8 49, .string ⟨#[]⟩, .slice A1 (v2.map (txt 4)).length c1] 57)
       have hB9:=hB8.alloc (.cells #[.int .u8 4, .string a, .slice none 0 0, .int .u8 49, .string ⟨#[]⟩, .slice A1 (v2.map (txt 4)).length c1] 57)
       refine Rg.run 12 rfl (by kernel_rfl) (by kernel_rfl) (.slice (some ⟨((w2.alloc (.cells #[.int .u8 0, .string ⟨#[]⟩, .slice none 0 0] 57))).heap.size, 0, none⟩) 2 2) ((w2.alloc (.cells #[.int .u8 0, .string ⟨#[]⟩, .slice none 0 0] 57)).alloc (.cells #[.int .u8 4, .string a, .slice none 0 0, .int .u8 49, .string ⟨#[]⟩, .slice A1 (v2.map (txt 4)).length c1] 57)) (by kernel_rfl) hS9 ?_
       have hL1_9 : Be.Lies (w2.alloc (.cells #[.int .u8 0, .string ⟨#[]⟩, .slice none 0 0] 57)) (fun b=>(wr.heap.size ≤ b ∧ b ≠ w2.heap.size) ∧ b < ((w2.alloc (.cells #[.int .u8 0, .string ⟨#[]⟩, .slice none 0 0] 57))).heap.size) (lst 49 (v2.map (txt 4))) [.int .u8 ((49 : Nat) : Int), .string ⟨#[]⟩, .slice A1 (v2.map (txt 4)).length c1] :=
        Be.Lies.shut (by decide) (by decide) (by rw [List.length_map]; unfold maxLen; omega) (hK1.imp (fun b h=>⟨⟨Nat.le_trans hd1.size h.1, by have:=h.2; omega⟩, by have:=h.2; simp; omega⟩) (fun p hp=>World.cell?_alloc_lt _ _ p hp.2))
       have hKK_9:=kids_litQ (w:=(w2.alloc (.cells #[.int .u8 0, .string ⟨#[]⟩, .slice none 0 0] 57))) (P:=fun b=>(wr.heap.size ≤ b ∧ b ≠ w2.heap.size)) ⟨hd8.size, by have:=hB8.lt; omega⟩ [txt 4 a, lst 49 (v2.map (txt 4))] [[.int .u8 4, .string a, .slice none 0 0], [.int .u8 49, .string ⟨#[]⟩, .slice A1 (v2.map (txt 4)).length c1]] rfl (by simp) (fun i hi=>by
        match i, hi with
        | 0, _=>exact lies_leaf (by decide) (by omega)
        | 1, _=>exact hL1_9)
       refine Rg.frame ⟨#[Sl (some ad) l.length c, ud, pt w.heap.size 0, u3, Iq q, pt w2.heap.size 0, Iq q, Sl (some ad) l.length c, Iq l.length, Bt, u10, u11, Sl (some ad) l.length c, Iq q, .pointer (some (ad.add (q * 3))), .pointer (some ⟨(ad.add (q * 3)).block, (ad.add (q * 3)).off + 1, none⟩), Sg a, Ag #[Ub 4, Sg a, Nl], Sl (some ad) l.length c, Iq q, .pointer (some (ad.add (q * 3))), .pointer (some ⟨(ad.add (q * 3)).block, (ad.add (q * 3)).off + 2, none⟩), Sl V v2.length vc, Ag #[Ub 49, Ns, Sl A1 (v2.map (txt 4)).length c1], Sl (some ⟨((w2.alloc (.cells #[Ub 0, Ns, Nl] 57))).heap.size, 0, none⟩) 2 2, u25, u26, u27, u28, u29, u30, u31, u32, u33, u34, u35, u36, u37, u38, ud, ud], []⟩ (by kernel_rfl) ?_
       refine Rg.call 13 rfl (by kernel_rfl) (by kernel_rfl) 22 #[.int .u8 48, .slice (some ⟨((w2.alloc (.cells #[.int .u8 0, .string ⟨#[]⟩, .slice none 0 0] 57))).heap.size, 0, none⟩) 2 2] (by kernel_rfl) (Be.RList_any 48 (some ⟨((w2.alloc (.cells #[.int .u8 0, .string ⟨#[]⟩, .slice none 0 0] 57))).heap.size, 0, none⟩) 2 2 _) ?_
       rintro _ w10 ⟨rfl, hb10⟩
       have hS10:=hS9.past hb10
       have hd10:=hd9.trans (hb10.mono hd9.size)
       have hB10:=hB9.past hb10
       refine ⟨_, rfl, hS10, ?_⟩
       refine Rg.frame ⟨#[Sl (some ad) l.length c, ud, pt w.heap.size 0, u3, Iq q, pt w2.heap.size 0, Iq q, Sl (some ad) l.length c, Iq l.length, Bt, u10, u11, Sl (some ad) l.length c, Iq q, .pointer (some (ad.add (q * 3))), .pointer (some ⟨(ad.add (q * 3)).block, (ad.add (q * 3)).off + 1, none⟩), Sg a, Ag #[Ub 4, Sg a, Nl], Sl (some ad) l.length c, Iq q, .pointer (some (ad.add (q * 3))), .pointer (some ⟨(ad.add (q * 3)).block, (ad.add (q * 3)).off + 2, none⟩), Sl V v2.length vc, Ag #[Ub 49, Ns, Sl A1 (v2.map (txt 4)).length c1], Sl (some ⟨((w2.alloc (.cells #[Ub 0, Ns, Nl] 57))).heap.size, 0, none⟩) 2 2, Ag #[Ub 48, Ns, Sl (some ⟨((w2.alloc (.cells #[Ub 0, Ns, Nl] 57))).heap.size, 0, none⟩) 2 2], u26, u27, u28, u29, u30, u31, u32, u33, u34, u35, u36, u37, u38, ud, ud], []⟩ (by kernel_rfl) ?_
       have hne:=hg5
       have hA6 : OneMo (ad.add (q * 3)) k a V v2.length vc w.heap.size ((w10).setRow (w2.heap.size) #[.int .u8 48, .string ⟨#[]⟩, .slice (some ⟨((w2.alloc (.cells #[.int .u8 0, .string ⟨#[]⟩, .slice none 0 0] 57))).heap.size, 0, none⟩) 2 2]):=OneMo.upto hS10 (below_setRow (Below.refl wr.heap.size _) hg5 _) hadlt hwlt
       refine Rg.skip 15 rfl (by kernel_rfl) (by kernel_rfl) _ (run_storeEl hB10 rfl rfl (by simp [Value.oneCell']) rfl rfl rfl) hA6 ?_
       refine Rg.frame { tmps:=#[.slice (some ad) l.length c, undef, .pointer (some ⟨w.heap.size, 0, none⟩), u3, .int .i64 q, .pointer (some ⟨w2.heap.size, 0, none⟩), .int .i64 q, .slice (some ad) l.length c, .int .i64 l.length, .bool true, u10, u11, .slice (some ad) l.length c, .int .i64 q, .pointer (some (ad.add (q * 3))), .pointer (some ⟨(ad.add (q * 3)).block, (ad.add (q * 3)).off + 1, none⟩), .string a, .agg #[.int .u8 4, .string a, .slice none 0 0], .slice (some ad) l.length c, .int .i64 q, .pointer (some (ad.add (q * 3))), .pointer (some ⟨(ad.add (q * 3)).block, (ad.add (q * 3)).off + 2, none⟩), .slice V v2.length vc, .agg #[.int .u8 49, .string ⟨#[]⟩, .slice A1 (v2.map (txt 4)).length c1], .slice (some ⟨((w2.alloc (.cells #[.int .u8 0, .string ⟨#[]⟩, .slice none 0 0] 57))).heap.size, 0, none⟩) 2 2, .agg #[.int .u8 48, .string ⟨#[]⟩, .slice (some ⟨((w2.alloc (.cells #[.int .u8 0, .string ⟨#[]⟩, .slice none 0 0] 57))).heap.size, 0, none⟩) 2 2], u26, u27, u28, u29, u30, u31, u32, u33, u34, u35, u36, u37, u38, undef, undef], defers:=[] } (by kernel_rfl) ?_
       refine wpAnyH_done (by kernel_rfl) ?_ _
       refine NoPanic.normal ?_
       go_wp2_with fail
       go_meet
       exact ⟨_, _, rfl, Lib.hid hg5, Lib.hid ⟨hA6, setRow_heap _ _ _ #[.int .u8 48, .string ⟨#[]⟩, .slice (some ⟨((w2.alloc (.cells #[.int .u8 0, .string ⟨#[]⟩, .slice none 0 0] 57))).heap.size, 0, none⟩) 2 2] _ _ hB10⟩, below_setRow hd10 hg5 _, Lib.hid (Be.Lies.shut (ks:=[txt 4 a, lst 49 (v2.map (txt 4))]) (by decide) (by decide) (by simp [maxLen]) ((hKK_9.imp (w':=w10) (P':=fun b=>(wr.heap.size ≤ b ∧ b ≠ w2.heap.size) ∧ b < w10.heap.size) (fun b h=>⟨h.1, Nat.lt_of_lt_of_le h.2 hb10.size⟩) (fun p hp=>hb10.cell hp.2)).imp (w':=(w10).setRow (w2.heap.size) #[.int .u8 48, .string ⟨#[]⟩, .slice (some ⟨((w2.alloc (.cells #[.int .u8 0, .string ⟨#[]⟩, .slice none 0 0] 57))).heap.size, 0, none⟩) 2 2]) (P':=fun b=>wr.heap.size ≤ b ∧ b < ((w10).setRow (w2.heap.size) #[.int .u8 48, .string ⟨#[]⟩, .slice (some ⟨((w2.alloc (.cells #[.int .u8 0, .string ⟨#[]⟩, .slice none 0 0] 57))).heap.size, 0, none⟩) 2 2]).heap.size) (fun b h=>⟨h.1.1, by rw [setRow_size]; exact h.2⟩) (fun p hp=>cell_setRow_other _ _ _ _ hp.1.2)))⟩
     ·have hS11:=OneMo.alloc hS1 (.cells #[.int .u8 0, .string ⟨#[]⟩, .slice none 0 0] 57)
      have hd11:=hd1.alloc hd1.size (.cells #[.int .u8 0, .string ⟨#[]⟩, .slice none 0 0] 57)
      have hB11:=Blk.new (w1) 57 #[.int .u8 0, .string ⟨#[]⟩, .slice none 0 0]
      have hg5 : wr.heap.size ≤ w1.heap.size:=hd1.size
      refine Rg.opRun 14 rfl (by kernel_rfl) (.pointer (some ⟨w1.heap.size, 0, none⟩)) (w1.alloc (.cells #[.int .u8 0, .string ⟨#[]⟩, .slice none 0 0] 57)) (by kernel_rfl) hS11 ?_
      refine Rg.frame ⟨#[Sl (some ad) l.length c, ud, pt w.heap.size 0, u3, Iq q, pt w1.heap.size 0, Iq q, Sl (some ad) l.length c, Iq l.length, Bt, u10, u11, Sl (some ad) l.length c, Iq q, .pointer (some (ad.add (q * 3))), .pointer (some ⟨(ad.add (q * 3)).block, (ad.add (q * 3)).off + 1, none⟩), Sg a, Ag #[Ub 4, Sg a, Nl], Sl (some ad) l.length c, Iq q, .pointer (some (ad.add (q * 3))), .pointer (some ⟨(ad.add (q * 3)).block, (ad.add (q * 3)).off + 2, none⟩), Sl V v2.length vc, u23, u24, u25, u26, u27, u28, u29, u30, u31, u32, u33, u34, u35, u36, u37, u38, ud, ud], []⟩ (by kernel_rfl) ?_
      refine Rg.call 11 rfl (by kernel_rfl) (by kernel_rfl) 56 #[.int .u8 49, .slice V v2.length vc] (by kernel_rfl) (HV.out _ hd11) ?_
      rintro _ w12 ⟨A1, c1, ds1, rfl, hb12, hK1⟩
      have hS12:=hS11.past hb12
      have hd12:=hd11.trans (hb12.mono hd11.size)
      have hB12:=hB11.past hb12
      refine ⟨_, rfl, hS12, ?_⟩
      refine Rg.frame ⟨#[Sl (some ad) l.length c, ud, pt w.heap.size 0, u3, Iq q, pt w1.heap.size 0, Iq q, Sl (some ad) l.length c, Iq l.length, Bt, u10, u11, Sl (some ad) l.length c, Iq q, .pointer (some (ad.add (q * 3))), .pointer (some ⟨(ad.add (q * 3)).block, (ad.add (q * 3)).off + 1, none⟩), Sg a, Ag #[Ub 4, Sg a, Nl], Sl (some ad) l.length c, Iq q, .pointer (some (ad.add (q * 3))), .pointer (some ⟨(ad.add (q * 3)).block, (ad.add (q * 3)).off + 2, none⟩), Sl V v2.length vc, Ag #[Ub 49, Ns, Sl A1 (v2.map (txt 4)).length c1], u24, u25, u26, u27, u28, u29, u30, u31, u32, u33, u34, u35, u36, u37, u38, ud, ud], []⟩ (by kernel_rfl) ?_
      have hS13:=OneMo.alloc hS12 (.cells #[.int .u8 4, .string a, .slice none 0 0, .int .u8 49, .string ⟨#[]⟩, .slice A1 (v2.map (txt 4)).length c1] 57)
      have hd13:=hd12.alloc hd12.size (.cells #[.int .u8 4, .string a, .slice none 0 0, .int .u8 49, .string ⟨#[]⟩, .slice A1 (v2.map (txt 4)).length c1] 57)
      have hB13:=hB12.alloc (.cells #[.int .u8 4, .string a, .slice none 0 0, .int .u8 49, .string ⟨#[]⟩, .slice A1 (v2.map (txt 4)).length c1] 57)
      refine Rg.run 12 rfl (by kernel_rfl) (by kernel_rfl) (.slice (some ⟨w12.heap.size, 0, none⟩) 2 2) (w12.alloc (.cells #[.int .u8 4, .string a, .slice none 0 0, .int .u8 49, .string ⟨#[]⟩, .slice A1 (v2.map (txt 4)).length c1] 57)) (by kernel_rfl) hS13 ?_
      have hL1_13 : Be.Lies w12 (fun b=>(wr.heap.size ≤ b ∧ b ≠ w1.heap.size) ∧ b < (w12).heap.size) (lst 49 (v2.map (txt 4))) [.int .u8 ((49 : Nat) : Int), .string ⟨#[]⟩, .slice A1 (v2.map (txt 4)).length c1] :=
       Be.Lies.shut (by decide) (by decide) (by rw [List.length_map]; unfold maxLen; omega) (hK1.imp (fun b h=>⟨⟨Nat.le_trans hd11.size h.1, by have:=hB11.lt; have:=h.1; omega⟩, h.2⟩) (fun p hp=>rfl))
      have hKK_13:=kids_litQ (w:=w12) (P:=fun b=>(wr.heap.size ≤ b ∧ b ≠ w1.heap.size)) ⟨hd12.size, by have:=hB12.lt; omega⟩ [txt 4 a, lst 49 (v2.map (txt 4))] [[.int .u8 4, .string a, .slice none 0 0], [.int .u8 49, .string ⟨#[]⟩, .slice A1 (v2.map (txt 4)).length c1]] rfl (by simp) (fun i hi=>by
       match i, hi with
       | 0, _=>exact lies_leaf (by decide) (by omega)
       | 1, _=>exact hL1_13)
      refine Rg.frame ⟨#[Sl (some ad) l.length c, ud, pt w.heap.size 0, u3, Iq q, pt w1.heap.size 0, Iq q, Sl (some ad) l.length c, Iq l.length, Bt, u10, u11, Sl (some ad) l.length c, Iq q, .pointer (some (ad.add (q * 3))), .pointer (some ⟨(ad.add (q * 3)).block, (ad.add (q * 3)).off + 1, none⟩), Sg a, Ag #[Ub 4, Sg a, Nl], Sl (some ad) l.length c, Iq q, .pointer (some (ad.add (q * 3))), .pointer (some ⟨(ad.add (q * 3)).block, (ad.add (q * 3)).off + 2, none⟩), Sl V v2.length vc, Ag #[Ub 49, Ns, Sl A1 (v2.map (txt 4)).length c1], Sl (some ⟨w12.heap.size, 0, none⟩) 2 2, u25, u26, u27, u28, u29, u30, u31, u32, u33, u34, u35, u36, u37, u38, ud, ud], []⟩ (by kernel_rfl) ?_
      refine Rg.call 13 rfl (by kernel_rfl) (by kernel_rfl) 22 #[.int .u8 48, .slice (some ⟨w12.heap.size, 0, none⟩) 2 2] (by kernel_rfl) (Be.RList_any 48 (some ⟨w12.heap.size, 0, none⟩) 2 2 _) ?_
      rintro _ w14 ⟨rfl, hb14⟩
      have hS14:=hS13.past hb14
      have hd14:=hd13.trans (hb14.mono hd13.size)
      have hB14:=hB13.past hb14
      refine ⟨_, rfl, hS14, ?_⟩
      refine Rg.frame ⟨#[Sl (some ad) l.length c, ud, pt w.heap.size 0, u3, Iq q, pt w1.heap.size 0, Iq q, Sl (some ad) l.length c, Iq l.length, Bt, u10, u11, Sl (some ad) l.length c, Iq q, .pointer (some (ad.add (q * 3))), .pointer (some ⟨(ad.add (q * 3)).block, (ad.add (q * 3)).off + 1, none⟩), Sg a, Ag #[Ub 4, Sg a, Nl], Sl (some ad) l.length c, Iq q, .pointer (some (ad.add (q * 3))), .pointer (some ⟨(ad.add (q * 3)).block, (ad.add (q * 3)).off + 2, none⟩), Sl V v2.length vc, Ag #[Ub 49, Ns, Sl A1 (v2.map (txt 4)).length c1], Sl (some ⟨w12.heap.size, 0, none⟩) 2 2, Ag #[Ub 48, Ns, Sl (some ⟨w12.heap.size, 0, none⟩) 2 2], u26, u27, u28, u29, u30, u31, u32, u33, u34, u35, u36, u37, u38, ud, ud], []⟩ (by kernel_rfl) ?_
      have hne:=hg5
      have hA6 : OneMo (ad.add (q * 3)) k a V v2.length vc w.heap.size ((w14).setRow (w1.heap.size) #[.int .u8 48, .string ⟨#[]⟩, .slice (some ⟨w12.heap.size, 0, none⟩) 2 2]):=OneMo.upto hS14 (below_setRow (Below.refl wr.heap.size _) hg5 _) hadlt hwlt
      refine Rg.skip 15 rfl (by kernel_rfl) (by kernel_rfl) _ (run_storeEl hB14 rfl rfl (by simp [Value.oneCell']) rfl rfl rfl) hA6 ?_
      refine Rg.frame { tmps:=#[.slice (some ad) l.length c, undef, .pointer (some ⟨w.heap.size, 0, none⟩), u3, .int .i64 q, .pointer (some ⟨w1.heap.size, 0, none⟩), .int .i64 q, .slice (some ad) l.length c, .int .i64 l.length, .bool true, u10, u11, .slice (some ad) l.length c, .int .i64 q, .pointer (some (ad.add (q * 3))), .pointer (some ⟨(ad.add (q * 3)).block, (ad.add (q * 3)).off + 1, none⟩), .string a, .agg #[.int .u8 4, .string a, .slice none 0 0], .slice (some ad) l.length c, .int .i64 q, .pointer (some (ad.add (q * 3))), .pointer (some ⟨(ad.add (q * 3)).block, (ad.add (q * 3)).off + 2, none⟩), .slice V v2.length vc, .agg #[.int .u8 49, .string ⟨#[]⟩, .slice A1 (v2.map (txt 4)).length c1], .slice (some ⟨w12.heap.size, 0, none⟩) 2 2, .agg #[.int .u8 48, .string ⟨#[]⟩, .slice (some ⟨w12.heap.size, 0, none⟩) 2 2], u26, u27, u28, u29, u30, u31, u32, u33, u34, u35, u36, u37, u38, undef, undef], defers:=[] } (by kernel_rfl) ?_
      refine wpAnyH_done (by kernel_rfl) ?_ _
      refine NoPanic.normal ?_
      go_wp2_with fail
      go_meet
      exact ⟨_, _, rfl, Lib.hid hg5, Lib.hid ⟨hA6, setRow_heap _ _ _ #[.int .u8 48, .string ⟨#[]⟩, .slice (some ⟨w12.heap.size, 0, none⟩) 2 2] _ _ hB14⟩, below_setRow hd14 hg5 _, Lib.hid (Be.Lies.shut (ks:=[txt 4 a, lst 49 (v2.map (txt 4))]) (by decide) (by decide) (by simp [maxLen]) ((hKK_13.imp (w':=w14) (P':=fun b=>(wr.heap.size ≤ b ∧ b ≠ w1.heap.size) ∧ b < w14.heap.size) (fun b h=>⟨h.1, Nat.lt_of_lt_of_le h.2 hb14.size⟩) (fun p hp=>hb14.cell hp.2)).imp (w':=(w14).setRow (w1.heap.size) #[.int .u8 48, .string ⟨#[]⟩, .slice (some ⟨w12.heap.size, 0, none⟩) 2 2]) (P':=fun b=>wr.heap.size ≤ b ∧ b < ((w14).setRow (w1.heap.size) #[.int .u8 48, .string ⟨#[]⟩, .slice (some ⟨w12.heap.size, 0, none⟩) 2 2]).heap.size) (fun b h=>⟨h.1.1, by rw [setRow_size]; exact h.2⟩) (fun p hp=>cell_setRow_other _ _ _ _ hp.1.2)))⟩
    ·have hS15:=OneMo.alloc hH0 (.cells #[.int .u8 0, .string ⟨#[]⟩, .slice none 0 0] 57)
     have hd15:=hd0.alloc hd0.size (.cells #[.int .u8 0, .string ⟨#[]⟩, .slice none 0 0] 57)
     have hB15:=Blk.new (wr.drew) 57 #[.int .u8 0, .string ⟨#[]⟩, .slice none 0 0]
     have hg5 : wr.heap.size ≤ wr.drew.heap.size:=hd0.size
     refine Rg.opRun 14 rfl (by kernel_rfl) (.pointer (some ⟨wr.drew.heap.size, 0, none⟩)) (wr.drew.alloc (.cells #[.int .u8 0, .string ⟨#[]⟩, .slice none 0 0] 57)) (by kernel_rfl) hS15 ?_
     refine Rg.frame ⟨#[Sl (some ad) l.length c, ud, pt w.heap.size 0, u3, Iq q, pt wr.drew.heap.size 0, Iq q, Sl (some ad) l.length c, Iq l.length, Bt, u10, u11, Sl (some ad) l.length c, Iq q, .pointer (some (ad.add (q * 3))), .pointer (some ⟨(ad.add (q * 3)).block, (ad.add (q * 3)).off + 1, none⟩), Sg a, u17, Sl (some ad) l.length c, Iq q, .pointer (some (ad.add (q * 3))), .pointer (some ⟨(ad.add (q * 3)).block, (ad.add (q * 3)).off + 2, none⟩), Sl V v2.length vc, u23, u24, u25, u26, u27, u28, u29, u30, u31, u32, u33, u34, u35, u36, u37, u38, ud, ud], []⟩ (by kernel_rfl) ?_
     refine Rg.call 5 rfl (by kernel_rfl) (by kernel_rfl) 52 #[.string a] (by kernel_rfl) (rtext_any a _) ?_
     rintro _ w16 ⟨rfl, hb16⟩
     have hS16:=hS15.past hb16
     have hd16:=hd15.trans (hb16.mono hd15.size)
     have hB16:=hB15.past hb16
     refine ⟨_, rfl, hS16, ?_⟩
     refine Rg.frame ⟨#[Sl (some ad) l.length c, ud, pt w.heap.size 0, u3, Iq q, pt wr.drew.heap.size 0, Iq q, Sl (some ad) l.length c, Iq l.length, Bt, u10, u11, Sl (some ad) l.length c, Iq q, .pointer (some (ad.add (q * 3))), .pointer (some ⟨(ad.add (q * 3)).block, (ad.add (q * 3)).off + 1, none⟩), Sg a, Ag #[Ub 4, Sg a, Nl], Sl (some ad) l.length c, Iq q, .pointer (some (ad.add (q * 3))), .pointer (some ⟨(ad.add (q * 3)).block, (ad.add (q * 3)).off + 2, none⟩), Sl V v2.length vc, u23, u24, u25, u26, u27, u28, u29, u30, u31, u32, u33, u34, u35, u36, u37, u38, ud, ud], []⟩ (by kernel_rfl) ?_
     refine Rg.call 11 rfl (by kernel_rfl) (by kernel_rfl) 56 #[.int .u8 49, .slice V v2.length vc] (by kernel_rfl) (HV.out _ hd16) ?_
     rintro _ w17 ⟨A1, c1, ds1, rfl, hb17, hK1⟩
     have hS17:=hS16.past hb17
     have hd17:=hd16.trans (hb17.mono hd16.size)
     have hB17:=hB16.past hb17
     refine ⟨_, rfl, hS17, ?_⟩
     refine Rg.frame ⟨#[Sl (some ad) l.length c, ud, pt w.heap.size 0, u3, Iq q, pt wr.drew.heap.size 0, Iq q, Sl (some ad) l.length c, Iq l.length, Bt, u10, u11, Sl (some ad) l.length c, Iq q, .pointer (some (ad.add (q * 3))), .pointer (some ⟨(ad.add (q * 3)).block, (ad.add (q * 3)).off + 1, none⟩), Sg a, Ag #[Ub 4, Sg a, Nl], Sl (some ad) l.length c, Iq q, .pointer (some (ad.add (q * 3))), .pointer (some ⟨(ad.add (q * 3)).block, (ad.add (q * 3)).off + 2, none⟩), Sl V v2.length vc, Ag #[Ub 49, Ns, Sl A1 (v2.map (txt 4)).length c1], u24, u25, u26, u27, u28, u29, u30, u31, u32, u33, u34, u35, u36, u37, u38, ud, ud], []⟩ (by kernel_rfl) ?_
     have hS18:=OneMo.alloc hS17 (.cells #[.int .u8 4, .string a, .slice none 0 0, .int .u8 49, .string ⟨#[]⟩, .slice A1 (v2.map (txt 4)).length c1] 57)
     have hd18:=hd17.alloc hd17.size (.cells #[.int .u8 4, .string a, .slice none 0 0, .int .u8 49, .string ⟨#[]⟩, .slice A1 (v2.map (txt 4)).length c1] 57)
     have hB18:=hB17.alloc (.cells #[.int .u8 4, .string a, .slice none 0 0, .int .u8 49, .string ⟨#[]⟩, .slice A1 (v2.map (txt 4)).length c1] 57)
     refine Rg.run 12 rfl (by kernel_rfl) (by kernel_rfl) (.slice (some ⟨w17.heap.size, 0, none⟩) 2 2) (w17.alloc (.cells #[.int .u8 4, .string a, .slice none 0 0, .int .u8 49, .string ⟨#[]⟩, .slice A1 (v2.map (txt 4)).length c1] 57)) (by kernel_rfl) hS18 ?_
     have hL1_18 : Be.Lies w17 (fun b=>(wr.heap.size ≤ b ∧ b ≠ wr.drew.heap.size) ∧ b < (w17).heap.size) (lst 49 (v2.map (txt 4))) [.int .u8 ((49 : Nat) : Int), .string ⟨#[]⟩, .slice A1 (v2.map (txt 4)).length c1] :=
      Be.Lies.shut (by decide) (by decide) (by rw [List.length_map]; unfold maxLen; omega) (hK1.imp (fun b h=>⟨⟨Nat.le_trans hd16.size h.1, by have:=hB16.lt; have:=h.1; omega⟩, h.2⟩) (fun p hp=>rfl))
     have hKK_18:=kids_litQ (w:=w17) (P:=fun b=>(wr.heap.size ≤ b ∧ b ≠ wr.drew.heap.size)) ⟨hd17.size, by have:=hB17.lt; omega⟩ [txt 4 a, lst 49 (v2.map (txt 4))] [[.int .u8 4, .string a, .slice none 0 0], [.int .u8 49, .string ⟨#[]⟩, .slice A1 (v2.map (txt 4)).length c1]] rfl (by simp) (fun i hi=>by
      match i, hi with
      | 0, _=>exact lies_leaf (by decide) (by omega)
      | 1, _=>exact hL1_18)
     refine Rg.frame ⟨#[Sl (some ad) l.length c, ud, pt w.heap.size 0, u3, Iq q, pt wr.drew.heap.size 0, Iq q, Sl (some ad) l.length c, Iq l.length, Bt, u10, u11, Sl (some ad) l.length c, Iq q, .pointer (some (ad.add (q * 3))), .pointer (some ⟨(ad.add (q * 3)).block, (ad.add (q * 3)).off + 1, none⟩), Sg a, Ag #[Ub 4, Sg a, Nl], Sl (some ad) l.length c, Iq q, .pointer (some (ad.add (q * 3))), .pointer (some ⟨(ad.add (q * 3)).block, (ad.add (q * 3)).off + 2, none⟩), Sl V v2.length vc, Ag #[Ub 49, Ns, Sl A1 (v2.map (txt 4)).length c1], Sl (some ⟨w17.heap.size, 0, none⟩) 2 2, u25, u26, u27, u28, u29, u30, u31, u32, u33, u34, u35, u36, u37, u38, ud, ud], []⟩ (by kernel_rfl) ?_
     refine Rg.call 13 rfl (by kernel_rfl) (by kernel_rfl) 22 #[.int .u8 48, .slice (some ⟨w17.heap.size, 0, none⟩) 2 2] (by kernel_rfl) (Be.RList_any 48 (some ⟨w17.heap.size, 0, none⟩) 2 2 _) ?_
     rintro _ w19 ⟨rfl, hb19⟩
     have hS19:=hS18.past hb19
     have hd19:=hd18.trans (hb19.mono hd18.size)
     have hB19:=hB18.past hb19
     refine ⟨_, rfl, hS19, ?_⟩
     refine Rg.frame ⟨#[Sl (some ad) l.length c, ud, pt w.heap.size 0, u3, Iq q, pt wr.drew.heap.size 0, Iq q, Sl (some ad) l.length c, Iq l.length, Bt, u10, u11, Sl (some ad) l.length c, Iq q, .pointer (some (ad.add (q * 3))), .pointer (some ⟨(ad.add (q * 3)).block, (ad.add (q * 3)).off + 1, none⟩), Sg a, Ag #[Ub 4, Sg a, Nl], Sl (some ad) l.length c, Iq q, .pointer (some (ad.add (q * 3))), .pointer (some ⟨(ad.add (q * 3)).block, (ad.add (q * 3)).off + 2, none⟩), Sl V v2.length vc, Ag #[Ub 49, Ns, Sl A1 (v2.map (txt 4)).length c1], Sl (some ⟨w17.heap.size, 0, none⟩) 2 2, Ag #[Ub 48, Ns, Sl (some ⟨w17.heap.size, 0, none⟩) 2 2], u26, u27, u28, u29, u30, u31, u32, u33, u34, u35, u36, u37, u38, ud, ud], []⟩ (by kernel_rfl) ?_
     have hne:=hg5
     have hA6 : OneMo (ad.add (q * 3)) k a V v2.length vc w.heap.size ((w19).setRow (wr.drew.heap.size) #[.int .u8 48, .string ⟨#[]⟩, .slice (some ⟨w17.heap.size, 0, none⟩) 2 2]):=OneMo.upto hS19 (below_setRow (Below.refl wr.heap.size _) hg5 _) hadlt hwlt
     refine Rg.skip 15 rfl (by kernel_rfl) (by kernel_rfl) _ (run_storeEl hB19 rfl rfl (by simp [Value.oneCell']) rfl rfl rfl) hA6 ?_
     refine Rg.frame { tmps:=#[.slice (some ad) l.length c, undef, .pointer (some ⟨w.heap.size, 0, none⟩), u3, .int .i64 q, .pointer (some ⟨wr.drew.heap.size, 0, none⟩), .int .i64 q, .slice (some ad) l.length c, .int .i64 l.length, .bool true, u10, u11, .slice (some ad) l.length c, .int .i64 q, .pointer (some (ad.add (q * 3))), .pointer (some ⟨(ad.add (q * 3)).block, (ad.add (q * 3)).off + 1, none⟩), .string a, .agg #[.int .u8 4, .string a, .slice none 0 0], .slice (some ad) l.length c, .int .i64 q, .pointer (some (ad.add (q * 3))), .pointer (some ⟨(ad.add (q * 3)).block, (ad.add (q * 3)).off + 2, none⟩), .slice V v2.length vc, .agg #[.int .u8 49, .string ⟨#[]⟩, .slice A1 (v2.map (txt 4)).length c1], .slice (some ⟨w17.heap.size, 0, none⟩) 2 2, .agg #[.int .u8 48, .string ⟨#[]⟩, .slice (some ⟨w17.heap.size, 0, none⟩) 2 2], u26, u27, u28, u29, u30, u31, u32, u33, u34, u35, u36, u37, u38, undef, undef], defers:=[] } (by kernel_rfl) ?_
     refine wpAnyH_done (by kernel_rfl) ?_ _
     refine NoPanic.normal ?_
     go_wp2_with fail
     go_meet
     exact ⟨_, _, rfl, Lib.hid hg5, Lib.hid ⟨hA6, setRow_heap _ _ _ #[.int .u8 48, .string ⟨#[]⟩, .slice (some ⟨w17.heap.size, 0, none⟩) 2 2] _ _ hB19⟩, below_setRow hd19 hg5 _, Lib.hid (Be.Lies.shut (ks:=[txt 4 a, lst 49 (v2.map (txt 4))]) (by decide) (by decide) (by simp [maxLen]) ((hKK_18.imp (w':=w19) (P':=fun b=>(wr.heap.size ≤ b ∧ b ≠ wr.drew.heap.size) ∧ b < w19.heap.size) (fun b h=>⟨h.1, Nat.lt_of_lt_of_le h.2 hb19.size⟩) (fun p hp=>hb19.cell hp.2)).imp (w':=(w19).setRow (wr.drew.heap.size) #[.int .u8 48, .string ⟨#[]⟩, .slice (some ⟨w17.heap.size, 0, none⟩) 2 2]) (P':=fun b=>wr.heap.size ≤ b ∧ b < ((w19).setRow (wr.drew.heap.size) #[.int .u8 48, .string ⟨#[]⟩, .slice (some ⟨w17.heap.size, 0, none⟩) 2 2]).heap.size) (fun b h=>⟨h.1.1, by rw [setRow_size]; exact h.2⟩) (fun p hp=>cell_setRow_other _ _ _ _ hp.1.2)))⟩
   case rest =>
    obtain ⟨g5, A9, rfl, HG5, HSS, Hd5, HLW⟩:=hcut
    go_wp2_with fail
    refine wp_region_noPanic ?_
    refine wp_region_held_drew (S:=OneMoB (ad.add (q * 3)) k a V v2.length vc w.heap.size g5 #[.int .u8 48, .string ⟨#[]⟩, .slice A9 2 2]) (by kernel_rfl) (HSS.out.past (Below.refl _ _).drew) (fun hI0=>?_)
    refine Rg.tk 0 26 (u3) rfl (by kernel_rfl) (fun _ _ _ h=>h) (fun _ _=>by kernel_rfl) hI0 ?_
    refine Rg.tk 1 27 (.slice (some ad) l.length c) rfl (by kernel_rfl) (fun _ _ _ h=>h) (fun _ _=>by kernel_rfl) hI0 ?_
    refine Rg.tk 2 28 (.int .i64 q) rfl (by kernel_rfl) (fun _ _ _ h=>h) (fun _ _=>by kernel_rfl) hI0 ?_
    refine Rg.frame _ (by simp only [Rg.pu, List.set]; rfl) ?_
    refine Rg.tk 3 29 (.pointer (some (ad.add (q * 3)))) rfl (by kernel_rfl) (fun _ _ _ h=>h) (fun w' _=>Pl.run_index (P:=Tryz.prog) (k:=3) Tryz.underlying26 hi hi3 rfl rfl rfl hlt) hI0 ?_
    refine Rg.tk 4 30 (.pointer (some (ad.add (q * 3)))) rfl (by kernel_rfl) (fun _ _ _ h=>h) (fun _ _=>by kernel_rfl) hI0 ?_
    refine Rg.tk 5 31 (.int .i64 k) rfl (by kernel_rfl) (fun _ _ _ h=>h) (fun w' h=>run_cell rfl rfl (by kernel_rfl) h.1.1.1) hI0 ?_
    refine Rg.frame _ (by simp only [Rg.pu, List.set]; rfl) ?_
    refine Rg.tk 6 32 (.int .i64 (k - 1)) rfl (by kernel_rfl) (fun _ _ _ h=>h) (fun _ _=>by rw [← hwr]; kernel_rfl) hI0 ?_
    refine Rg.tk 8 34 (.agg #[.int .u8 48, .string ⟨#[]⟩, .slice A9 2 2]) rfl (by kernel_rfl) (fun _ _ _ h=>h) (fun w' h=>run_loadRow rfl rfl h.2 Tryz.underlying57 rfl infoE3) hI0 ?_
    have hq0:=(Below.refl wc.heap.size wc).drew
    refine Rg.cl 7 33 rfl (by kernel_rfl) 51 #[.int .u8 10, .int .i64 (k - 1)] (by kernel_rfl) (Be.RNumber_any 10 (k - 1) _ (by omega) (by omega)) ?_
    rintro _ w5 ⟨rfl, hb5⟩
    have hI1:=hI0.past hb5
    refine ⟨_, rfl, hI1, ?_⟩
    refine Rg.frame _ (by simp only [Rg.pu, List.set]; rfl) ?_
    have hq1:=hq0.trans (hb5.mono hq0.size)
    have hI2:=hI1.alloc (.cells #[.int .u8 10, .string (strOfNums (Be.intB (k - 1))), .slice none 0 0, .int .u8 48, .string ⟨#[]⟩, .slice A9 2 2] 57)
    refine Rg.rn 9 35 (.slice (some ⟨w5.heap.size, 0, none⟩) 2 2) (w5.alloc (.cells #[.int .u8 10, .string (strOfNums (Be.intB (k - 1))), .slice none 0 0, .int .u8 48, .string ⟨#[]⟩, .slice A9 2 2] 57)) rfl (by kernel_rfl) (by kernel_rfl) hI2 ?_
    have hq2:=hq1.alloc hq1.size (.cells #[.int .u8 10, .string (strOfNums (Be.intB (k - 1))), .slice none 0 0, .int .u8 48, .string ⟨#[]⟩, .slice A9 2 2] 57)
    refine Rg.cl 10 36 rfl (by kernel_rfl) 22 #[.int .u8 48, .slice (some ⟨w5.heap.size, 0, none⟩) 2 2] (by kernel_rfl) (Be.RList_any 48 (some ⟨w5.heap.size, 0, none⟩) 2 2 _) ?_
    rintro _ w6 ⟨rfl, hb6⟩
    have hI3:=hI2.past hb6
    refine ⟨_, rfl, hI3, ?_⟩
    have hq3:=hq2.trans (hb6.mono hq2.size)
    have hI4:=hI3.alloc (.cells #[.int .u8 48, .string ⟨#[]⟩, .slice (some ⟨w5.heap.size, 0, none⟩) 2 2] 57)
    refine Rg.rn 11 37 (.slice (some ⟨w6.heap.size, 0, none⟩) 1 1) (w6.alloc (.cells #[.int .u8 48, .string ⟨#[]⟩, .slice (some ⟨w5.heap.size, 0, none⟩) 2 2] 57)) rfl (by kernel_rfl) (by kernel_rfl) hI4 ?_
    refine Rg.frame _ (by simp only [Rg.pu, List.set]; rfl) ?_
    have hq4:=hq3.alloc hq3.size (.cells #[.int .u8 48, .string ⟨#[]⟩, .slice (some ⟨w5.heap.size, 0, none⟩) 2 2] 57)
    have hy5:=Hd5.size
    have hy1:=hq1.size
    have hy2:=hb6.size
    have hLo : Be.Lies w5 (fun b=>wr.heap.size ≤ b ∧ b < w5.heap.size) (attrEl ⟨k, a, v2⟩) [.int .u8 ((48 : Nat) : Int), .string ⟨#[]⟩, .slice A9 2 2] :=
     HLW.out.imp (fun b h=>⟨h.1, by have:=h.2; omega⟩) (fun p hp=>hq1.cell hp.2)
    have hKK:=kids_litP (w:=w5) (B:=wr.heap.size) (by omega) [num 10 (k - 1), attrEl ⟨k, a, v2⟩] [[.int .u8 10, .string (strOfNums (Be.intB (k - 1))), .slice none 0 0], [.int .u8 48, .string ⟨#[]⟩, .slice A9 2 2]] rfl (by simp) (fun i hi=>by
     match i, hi with
     | 0, _=>exact lies_num (by decide) (by omega) (by omega)
     | 1, _=>exact hLo)
    have hKW : Be.KidsAt (w6.alloc (.cells #[.int .u8 48, .string ⟨#[]⟩, .slice (some ⟨w5.heap.size, 0, none⟩) 2 2] 57)) (fun b=>wr.heap.size ≤ b ∧ b < w6.heap.size) (some ⟨w5.heap.size, 0, none⟩) [num 10 (k - 1), attrEl ⟨k, a, v2⟩] _ :=
     (hKK.imp (w':=w6) (P':=fun b=>wr.heap.size ≤ b ∧ b < w6.heap.size) (fun b h=>⟨h.1, Nat.lt_of_lt_of_le h.2 hb6.size⟩) (fun p hp=>hb6.cell hp.2)).imp (fun _ h=>h) (fun p hp=>World.cell?_alloc_lt _ _ p hp.2)
    have hLM : Be.Lies (w6.alloc (.cells #[.int .u8 48, .string ⟨#[]⟩, .slice (some ⟨w5.heap.size, 0, none⟩) 2 2] 57)) (fun b=>wr.heap.size ≤ b ∧ b < w6.heap.size) (modEl ⟨k, a, v2⟩) [.int .u8 ((48 : Nat) : Int), .string ⟨#[]⟩, .slice (some ⟨w5.heap.size, 0, none⟩) 2 2] :=
     Be.Lies.shut (ks:=[num 10 (k - 1), attrEl ⟨k, a, v2⟩]) (by decide) (by decide) (by simp [maxLen]) hKW
    have hd9:=Hd5.trans (hq4.mono hy5)
    have hGW:=hG.out.past hd9
    have hlt5 : ∀ b, u3.ownBlock = some b → b < wr.heap.size:=fun b e=>(hG.out.1.lt b e).2
    have hLG : Be.Lies (w6.alloc (.cells #[.int .u8 48, .string ⟨#[]⟩, .slice (some ⟨w5.heap.size, 0, none⟩) 2 2] 57)) (fun b=>w.heap.size + 1 ≤ b ∧ b < ((w6.alloc (.cells #[.int .u8 48, .string ⟨#[]⟩, .slice (some ⟨w5.heap.size, 0, none⟩) 2 2] 57))).heap.size ∧ u3.ownBlock ≠ some b) (modEl ⟨k, a, v2⟩) [.int .u8 ((48 : Nat) : Int), .string ⟨#[]⟩, .slice (some ⟨w5.heap.size, 0, none⟩) 2 2] :=
     hLM.imp (fun b h=>⟨by have:=h.1; omega, by have:=h.2; simp; omega, fun e=>by have:=hlt5 b e; have:=h.1; omega⟩) (fun _ _=>rfl)
    have hbs5 : w.heap.size + 1 ≤ ((w6.alloc (.cells #[.int .u8 48, .string ⟨#[]⟩, .slice (some ⟨w5.heap.size, 0, none⟩) 2 2] 57))).heap.size:=by have:=hd9.size; omega
    have had0 : (ad.add (q * 3)).block < w.heap.size + 1:=by rw [block_of_add]; omega
    have hBW:=Blk.new w6 57 #[.int .u8 ((48 : Nat) : Int), .string ⟨#[]⟩, .slice (some ⟨w5.heap.size, 0, none⟩) 2 2]
    have hO5 : OneMo (ad.add (q * 3)) k a V v2.length vc w.heap.size (w6.alloc (.cells #[.int .u8 48, .string ⟨#[]⟩, .slice (some ⟨w5.heap.size, 0, none⟩) 2 2] 57)):=hI4.1
    refine step_pushF 12 rfl (by kernel_rfl) (by kernel_rfl) (.tmp 26) (.tmp 37) rfl (w.heap.size + 1) u3 xs (ks.take q) rfl hGW w6.heap.size rfl hBW one3 hLG hdl hbs5 ?_
    intro v' w7 hG7 hb7 hgr7
    have hne7 : some g5 ≠ u3.ownBlock:=fun e=>by have:=hlt5 g5 e.symm; have:=HG5.out; omega
    have hS7 : OneMoB (ad.add (q * 3)) k a V v2.length vc w.heap.size g5 #[.int .u8 48, .string ⟨#[]⟩, .slice A9 2 2] w7:=⟨OneMo.upto hO5 hb7 had0 (Nat.lt_succ_self _), Blk.grown hI4.2 hgr7 hne7⟩
    refine ⟨hS7, ?_⟩
    refine Rg.idleP [13] [(3, v')] 0 (by kernel_rfl) (fun _ _ _ _ _ h=>h) (by kernel_rfl) (by kernel_rfl) hS7 ?_
    refine Rg.frame ⟨#[Sl (some ad) l.length c, ud, pt w.heap.size 0, v', Iq q, pt g5 0, u6, u7, u8, u9, u10, u11, u12, u13, u14, u15, u16, u17, u18, u19, u20, u21, u22, u23, u24, u25, u3, Sl (some ad) l.length c, Iq q, .pointer (some (ad.add (q * 3))), .pointer (some (ad.add (q * 3))), Iq k, Iq (k - 1), Ag #[Ub 10, Sg (strOfNums (Be.intB (k - 1))), Nl], Ag #[Ub 48, Ns, Sl A9 2 2], Sl (some ⟨w5.heap.size, 0, none⟩) 2 2, Ag #[Ub 48, Ns, Sl (some ⟨w5.heap.size, 0, none⟩) 2 2], Sl (some ⟨w6.heap.size, 0, none⟩) 1 1, v', ud, ud], []⟩ (by kernel_rfl) ?_
    refine Rg.frame { tmps:=#[.slice (some ad) l.length c, undef, .pointer (some ⟨w.heap.size, 0, none⟩), v', .int .i64 q, .pointer (some ⟨g5, 0, none⟩), u6, u7, u8, u9, u10, u11, u12, u13, u14, u15, u16, u17, u18, u19, u20, u21, u22, u23, u24, u25, u3, .slice (some ad) l.length c, .int .i64 q, .pointer (some (ad.add (q * 3))), .pointer (some (ad.add (q * 3))), .int .i64 k, .int .i64 (k - 1), .agg #[.int .u8 10, .string (strOfNums (Be.intB (k - 1))), .slice none 0 0], .agg #[.int .u8 48, .string ⟨#[]⟩, .slice A9 2 2], .slice (some ⟨w5.heap.size, 0, none⟩) 2 2, .agg #[.int .u8 48, .string ⟨#[]⟩, .slice (some ⟨w5.heap.size, 0, none⟩) 2 2], .slice (some ⟨w6.heap.size, 0, none⟩) 1 1, v', undef, undef], defers:=[] } (by kernel_rfl) ?_
    refine wpAnyH_done (by kernel_rfl) ?_ _
    refine NoPanic.normal ?_
    rw [← hmt.out] at hG7
    have HG7:=Lib.hid hG7
    have HB7:=Lib.hid hS7.1.2
    have hb8:=hb.trans ((hd9.mono hsz).trans (hb7.mono (by omega)))
    have hge8:=Nat.le_trans hbs5 hb7.size
    clear hG7
    go_wp2_with fail
    exact ⟨⟨q + 1, _, by omega, by go_num, HG7, HB7, hb8, hge8⟩, by simp [intOf]; omega⟩
  ·have hq2 : q = l.length:=by omega
   subst hq2
   have htl:=rlist_tell (t:=48) (w2:=wr) (show ks.take l.length = ks from List.take_of_length_le (by rw [HK.out.1]; omega)) hb (Below.refl _ _) hG.out
   obtain ⟨A2, c2, rfl, _⟩:=htl
   have HT:=Lib.hid (fun w2 (h : Below wr.heap.size wr w2)=>rlist_tell (t:=48) (show ks.take l.length = ks from List.take_of_length_le (by rw [HK.out.1]; omega)) hb h hG.out)
   clear hG
   go_wp2_with fail
   refine (Be.RList_any 48 A2 ks.length c2 wr).mono ?_
   rintro e w1 ⟨rfl, hb1⟩
   have B1:=hBr.out.past hb1
   have c0 : w1.cell? ⟨w.heap.size, 0, none⟩ = some (.int .u8 0):=B1.cell 0
   have c1 : w1.cell? ⟨w.heap.size, 1, none⟩ = some (.string ⟨#[]⟩):=B1.cell 1
   have c2' : w1.cell? ⟨w.heap.size, 2, none⟩ = some (.slice none 0 0):=B1.cell 2
   have g0:=B1.frozen 0
   have g1:=B1.frozen 1
   have g2:=B1.frozen 2
   obtain ⟨_, _, _, hN⟩:=HT.out w1 hb1
   have HN:=Lib.hid hN
   clear hN hb
   go_wp2_with fail
   exact bodyPost_ret (Be.res_el rfl _ _ w.heap.size _ _ _ rfl (Be.Blk.set3 B1)) rfl HN.out
end Go.Proofs.YtconghaebebncaaGreatDoor.Ms
