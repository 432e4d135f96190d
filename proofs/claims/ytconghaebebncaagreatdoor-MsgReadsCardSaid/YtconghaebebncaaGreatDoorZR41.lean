import Derived.Test.YtconghaebebncaaGreatDoorZR40
set_option linter.unusedVariables false
set_option maxRecDepth 100000
namespace Go.Proofs.YtconghaebebncaaGreatDoor.Ms
open Go.RowKit
attribute [local go_sem ↓] loadAtMsg
abbrev cO (e : Be.El) (A : Option Addr) (n c : Nat) : Array Value:=#[.int .u8 (tagE (kidE e 1) : Nat), .string (bodyE (kidE e 1)), .slice A n c]
def ToldN (w : World) (m : Mg) (r : Ending) (w' : World) : Prop:=∃ cs, r = .returned (.agg cs) ∧ Below w.heap.size w w' ∧ MAt w' (fun b=>w.heap.size ≤ b ∧ b < w'.heap.size) m cs
abbrev F5 (w : World) (r : Nat) (x0 x1 x2 x3 x4 : Value) : World :=
 ((((w.setCell ⟨r, 8, none⟩ x0).setCell ⟨r, 9, none⟩ x1).setCell ⟨r, 10, none⟩ x2).setCell ⟨r, 11, none⟩ x3).setCell ⟨r, 12, none⟩ x4
theorem run_storeF {w : World} {r : Nat} {t : TypeId} {ds : Array Value} {k : Int} {a v : ByteArray} {S A : Option Addr} {m sc n c : Nat} {ev : Operand → Value} {o : Oper} {p q : Operand} (B : Blk w r t ds) (hn : ds.size = 23)
  (ho : o.op = .store 25 p q) (hp : ev p = .pointer (some ⟨r, 8, none⟩)) (hq : ev q = .agg #[.int .i64 k, .string a, .string v, .slice S m sc, .slice A n c]) :
  (execOp ev o).run Tryz.prog w = .ok .skip (F5 w r (.int .i64 k) (.string a) (.string v) (.slice S m sc) (.slice A n c)):=by
 have ht : w.there r 8 5:=fun j hj=>by
  refine ⟨?_, B.frozen _⟩
  rw [B.cell, Array.getElem?_eq_getElem (by omega)]
  rfl
 have hs:=run_storeVar_mid (P:=Tryz.prog) w r 8 25 #[.int .i64 k, .string a, .string v, .slice S m sc, .slice A n c] ht infoF5 (by simp [Value.oneCell'])
 unfold execOp
 simp only [ho, hp, hq, Instr.storeAt, Instr.sureAddr, Sem.run_bind, Sem.run_pure, Result.andThen_ok, hs]
 rfl
set_option maxHeartbeats 80000000 in
theorem readMessage_any (e : Be.El) (t : Nat) (b : ByteArray) (A : Option Addr) (n c : Nat) (w : World) (hfew : Few e) (hG : Glob w) (hL : Be.Lies w (· < w.heap.size) e [.int .u8 (t : Nat), .string b, .slice A n c]) :
  Calls Tryz.prog 71 #[.agg #[.int .u8 (t : Nat), .string b, .slice A n c]] w (ToldN w (rdMW e)):=by
 obtain ⟨O, hop⟩ : ∃ O, (opOf (tagE (kidE e 1))).1 = O:=⟨_, rfl⟩
 obtain ⟨ic, zs, hz, hMi, hM0, ez, ei⟩:=id_cells (numAt e 0)
 have hb0:=two_below w #[.int .u8 (t : Nat), .string b, .slice A n c] zs 57 28
 have BR:=Lib.hid (new2 w #[.int .u8 (t : Nat), .string b, .slice A n c] zs 57 28)
 have BE:=Lib.hid ((Blk.new w 57 #[.int .u8 (t : Nat), .string b, .slice A n c]).alloc (.cells zs 28))
 have HK:=Lib.hid (kid_any e 1 t b A n c _ (hL.past hb0))
 have HN:=Lib.hid (fun w1 hb=>numberAt_any e 0 t b A n c w1 (hL.past hb))
 have hb:=Lib.hid hb0
 have HG:=Lib.hid hG
 have HO:=Lib.hid (fun ht w1 hb=>opOf_any (tagE (kidE e 1)) ht w1 (hG.past hb))
 rw [show opOf (tagE (kidE e 1)) = (O, (opOf (tagE (kidE e 1))).2) from Prod.ext hop rfl] at HO
 have HI:=Lib.hid hMi
 have HEi:=Lib.hid ei
 have HEz:=Lib.hid ez
 clear hL hb0 hG hMi ei
 go_enter Tryz.func71, Tryz.ntmps71
 go_wp2_with fail
 rw [← ez]
 clear ez
 refine HK.out.mono ?_
 rintro r w1 ⟨t1, b1, A1, n1, c1, rfl, hb1, hL1⟩
 have hb2:=hb.out.trans (hb1.mono hb.out.size)
 obtain ⟨-, hto, hbo, hto2, -⟩:=kids_of hL1
 subst hto hbo
 have BE1:=(BE.out.past hb1).alloc (.cells #[.int .u8 (tagE (kidE e 1) : Nat), .string (bodyE (kidE e 1)), .slice A1 n1 c1] 57)
 have BO1:=Blk.new w1 57 #[.int .u8 (tagE (kidE e 1) : Nat), .string (bodyE (kidE e 1)), .slice A1 n1 c1]
 have hb3:=hb2.alloc hb2.size (.cells #[.int .u8 (tagE (kidE e 1) : Nat), .string (bodyE (kidE e 1)), .slice A1 n1 c1] 57)
 have BR1:=Lib.hid ((BR.out.past hb1).alloc (.cells #[.int .u8 (tagE (kidE e 1) : Nat), .string (bodyE (kidE e 1)), .slice A1 n1 c1] 57))
 have e0:=BE1.cell 0
 have e1:=BE1.cell 1
 have e2:=BE1.cell 2
 have HLo:=Lib.hid ((hL1.past hb1).past ((Below.refl w1.heap.size w1).alloc (Nat.le_refl _) (.cells #[.int .u8 (tagE (kidE e 1) : Nat), .string (bodyE (kidE e 1)), .slice A1 n1 c1] 57)))
 have HBO:=Lib.hid BO1
 have hs1 : w.heap.size + 2 ≤ w1.heap.size:=by have:=hb1.size; simp at this; omega
 have hO1:=Lib.hid (hb1.alloc hb1.size (.cells #[.int .u8 (tagE (kidE e 1) : Nat), .string (bodyE (kidE e 1)), .slice A1 n1 c1] 57))
 have HLk:=Lib.hid hL1
 clear hL1 BE1 BO1 hb1 hb2 HK BE BR hb
 go_wp2_with fail
 refine (HN.out _ hb3).mono ?_
 rintro r w2 ⟨rfl, hb4⟩
 have hb5:=hb3.trans (hb4.mono hb3.size)
 have hs2 : w1.heap.size < w2.heap.size:=by have:=hb4.size; simp at this; omega
 have hbM:=(Below.refl w2.heap.size w2).alloc (Nat.le_refl _) (.cells ic 28)
 have hb6:=hb5.alloc hb5.size (.cells ic 28)
 have BO2:=(HBO.out.past hb4).alloc (.cells ic 28)
 have HLo2:=Lib.hid ((HLo.out.past hb4).past hbM)
 have BR2:=Lib.hid ((BR1.out.past hb4).alloc (.cells ic 28))
 have BM2:=Lib.hid (Blk.new w2 28 ic)
 have o0:=BO2.cell 0
 have HBO2:=Lib.hid BO2
 have hO2:=Lib.hid ((hO1.out.trans (hb4.mono hO1.out.size)).alloc (hO1.out.trans (hb4.mono hO1.out.size)).size (.cells ic 28))
 clear hb4 hbM HBO HLo BR1 BO2 e0 e1 e2 hb3 hb5
 go_wp2_with (first | (refine wpList_gives rfl (.build 28 #[(0, .tmp 8)]) rfl (.agg ic) (by rw [HEi.out]; kernel_rfl) ?_) | (refine wpList_mark (.store 28 (.tmp 4) (.tmp 9)) rfl ?_; refine wpList_store_row rfl 28 _ _ rfl w2.heap.size ic rfl rfl 28 _ (heap_alloc_new w2 _) (by rw [infoM, (HI.out w2 (fun _=>True)).size]) ?_ (HI.out w2 (fun _=>True)).one ?_; exact Eq.trans rfl (HI.out w2 (fun _=>True)).size.symm; rw [World.setRow_alloc_new]))
 refine (HO.out hto2 _ hb6).mono ?_
 rintro r w3 ⟨rfl, hb7⟩
 have hb8:=hb6.trans (hb7.mono hb6.size)
 have BM3:=Lib.hid (BM2.out.past hb7)
 have BO3:=Lib.hid (HBO2.out.past hb7)
 have BR3:=Lib.hid (BR2.out.past hb7)
 have HLo3:=Lib.hid (HLo2.out.past hb7)
 have hO3:=Lib.hid (hO2.out.trans (hb7.mono hO2.out.size))
 have hs3:=BM3.out.lt
 have o0:=BO3.out.cell 0
 have o1:=BO3.out.cell 1
 have o2:=BO3.out.cell 2
 have HMI:=Lib.hid (HI.out w3 (fun _=>False))
 have k1 : w3.cell? ⟨w2.heap.size, 1, none⟩ = some (.int .i64 0):=(BM3.out.cell 1).trans HMI.out.g1
 have k2 : w3.cell? ⟨w2.heap.size, 2, none⟩ = some (.int .i64 0):=(BM3.out.cell 2).trans HMI.out.g2
 have k3 : w3.cell? ⟨w2.heap.size, 3, none⟩ = some (.string no):=(BM3.out.cell 3).trans HMI.out.g3
 have z1:=BM3.out.frozen 1
 have z2:=BM3.out.frozen 2
 have z3:=BM3.out.frozen 3
 have n12 : w1.heap.size ≠ w2.heap.size:=by omega
 have n21 : w2.heap.size ≠ w1.heap.size:=by omega
 have n31 : w.heap.size + 1 ≠ w2.heap.size:=by omega
 clear hb7 hb6 BM2 HBO2 BR2 HLo2 HO HN
 generalize hrf : (opOf (tagE (kidE e 1))).2 = rf
 have BM4:=(show Blk ((w3.setCell ⟨w2.heap.size, 1, none⟩ (.int .i64 O)).setCell ⟨w2.heap.size, 2, none⟩ (.int .i64 rf)) w2.heap.size 28 ((ic.setIfInBounds 1 (.int .i64 O)).setIfInBounds 2 (.int .i64 rf)) from ((BM3.out.set_ 1 (.int .i64 O)).set_ 2 (.int .i64 rf)))
 have BO4:=(show Blk ((w3.setCell ⟨w2.heap.size, 1, none⟩ (.int .i64 O)).setCell ⟨w2.heap.size, 2, none⟩ (.int .i64 rf)) w1.heap.size 57 (cO e A1 n1 c1) from ((BO3.out.far (p:=⟨w2.heap.size, 1, none⟩) n12 (.int .i64 O)).far (p:=⟨w2.heap.size, 2, none⟩) n12 (.int .i64 rf)))
 have BR4:=(show Blk ((w3.setCell ⟨w2.heap.size, 1, none⟩ (.int .i64 O)).setCell ⟨w2.heap.size, 2, none⟩ (.int .i64 rf)) (w.heap.size + 1) 28 zs from ((BR3.out.far (p:=⟨w2.heap.size, 1, none⟩) n31 (.int .i64 O)).far (p:=⟨w2.heap.size, 2, none⟩) n31 (.int .i64 rf)))
 have hb4:=(show Below w.heap.size w ((w3.setCell ⟨w2.heap.size, 1, none⟩ (.int .i64 O)).setCell ⟨w2.heap.size, 2, none⟩ (.int .i64 rf)) from ((hb8.setCell (p:=⟨w2.heap.size, 1, none⟩) (by show _ ≤ w2.heap.size; omega) (.int .i64 O)).setCell (p:=⟨w2.heap.size, 2, none⟩) (by show _ ≤ w2.heap.size; omega) (.int .i64 rf)))
 have hK4:=((hO3.out.setCell (p:=⟨w2.heap.size, 1, none⟩) (by show _ ≤ w2.heap.size; simp; omega) (.int .i64 O)).setCell (p:=⟨w2.heap.size, 2, none⟩) (by show _ ≤ w2.heap.size; simp; omega) (.int .i64 rf))
 obtain ⟨ic2, hic2⟩ : ∃ x, x = ((ic.setIfInBounds 1 (.int .i64 O)).setIfInBounds 2 (.int .i64 rf)):=⟨_, rfl⟩
 have HM2:=Lib.hid (show ∀ (w : World) (P : Nat → Prop), MAt w P { zero with id:=numAt e 0, op:=O, ref:=rf } ic2 from fun w P=>by rw [hic2]; exact MAt.set_ref (MAt.set_op (HI.out w P) O) rf)
 rw [← hic2] at BM4
 have hs23 : ic2.size = 23:=(HM2.out w (fun _=>True)).size
 have hw1:=hs3
 clear hic2
 by_cases h1 : O = 1
 ·subst h1
  have hrd : rdMW e = { zero with id:=numAt e 0, op:=1, ref:=rf, ver:=numAt (kidE e 1) 0, dn:=textAt (kidE e 1) 1, pass:=textAt (kidE e 1) 2 }:=by
   unfold rdMW rdM; simp only [hop, hrf]; rfl
  have ht1:=(hfew.kid 1).text 1
  have ht2:=(hfew.kid 1).text 2
  have HRD:=Lib.hid hrd
  clear hrd
  go_wp2_with fail
  refine wp_region_noPanic ?_
  refine wp_region_held_drew (S:=Fe w w1.heap.size (cO e A1 n1 c1) w2.heap.size 28 23 (w.heap.size + 1) zs) (by kernel_rfl) (show Fe w w1.heap.size (cO e A1 n1 c1) w2.heap.size 28 23 (w.heap.size + 1) zs _ from ⟨⟨BO4, ⟨_, hs23, BM4⟩, hb4⟩, BR4⟩).drew (fun hH0=>?_)
  have BM5:=BM4.drew
  have hK5:=(show Below _ _ _ from hK4).drew
  refine Rg.tk 0 22 (.agg (cO e A1 n1 c1)) rfl (by kernel_rfl) (fun _ _ _ h=>h) (fun w' h=>run_loadRow rfl rfl h.1.1 Tryz.underlying57 rfl infoE3) hH0 ?_
  refine Rg.tk 2 24 (.agg (cO e A1 n1 c1)) rfl (by kernel_rfl) (fun _ _ _ h=>h) (fun w' h=>run_loadRow rfl rfl h.1.1 Tryz.underlying57 rfl infoE3) hH0 ?_
  refine Rg.tk 4 26 (.agg (cO e A1 n1 c1)) rfl (by kernel_rfl) (fun _ _ _ h=>h) (fun w' h=>run_loadRow rfl rfl h.1.1 Tryz.underlying57 rfl infoE3) hH0 ?_
  refine Rg.cl 1 23 rfl (by kernel_rfl) 92 #[.agg (cO e A1 n1 c1), .int .i64 0] (by kernel_rfl) (numberAt_any (kidE e 1) 0 _ _ A1 _ c1 _ ((HLk.out.kept hK5).more hK5.size)) ?_
  rintro _ wx0 ⟨rfl, hx0⟩
  have hH1:=hH0.past hx0
  refine ⟨_, rfl, hH1, ?_⟩
  have BX0:=BM5.past hx0
  have KX0:=hK5.trans (hx0.mono hK5.size)
  refine Rg.tk 6 28 (.pointer (some ⟨w2.heap.size, 4, none⟩)) rfl (by kernel_rfl) (fun _ _ _ h=>h) (fun _ _=>by kernel_rfl) hH1 ?_
  refine Rg.frame _ (by simp only [Rg.pu, List.set]; rfl) ?_
  refine Rg.cl 3 25 rfl (by kernel_rfl) 94 #[.agg (cO e A1 n1 c1), .int .i64 1] (by kernel_rfl) (textAt_any (kidE e 1) 1 _ _ A1 _ c1 _ ((HLk.out.kept KX0).more KX0.size)) ?_
  rintro _ wx1 ⟨rfl, hx1⟩
  have hH2:=hH1.past hx1
  refine ⟨_, rfl, hH2, ?_⟩
  have BX1:=BX0.past hx1
  have KX1:=KX0.trans (hx1.mono KX0.size)
  refine Rg.cl 5 27 rfl (by kernel_rfl) 94 #[.agg (cO e A1 n1 c1), .int .i64 2] (by kernel_rfl) (textAt_any (kidE e 1) 2 _ _ A1 _ c1 _ ((HLk.out.kept KX1).more KX1.size)) ?_
  rintro _ wx2 ⟨rfl, hx2⟩
  have hH3:=hH2.past hx2
  refine ⟨_, rfl, hH3, ?_⟩
  have BX2:=BX1.past hx2
  have KX2:=KX1.trans (hx2.mono KX1.size)
  have hH4:=hH3.cell n12 n31 (by omega) 4 (.int .i64 (numAt (kidE e 1) 0))
  refine Rg.sk 7 _ rfl (by kernel_rfl) (run_storeC (v:=.int .i64 (numAt (kidE e 1) 0)) (by kernel_rfl) BX2 (by simp [hs23]) rfl rfl rfl rfl rfl) hH4 ?_
  have BY0:=BX2.set_ 4 (.int .i64 (numAt (kidE e 1) 0))
  refine Rg.tk 8 29 (.pointer (some ⟨w2.heap.size, 3, none⟩)) rfl (by kernel_rfl) (fun _ _ _ h=>h) (fun _ _=>by kernel_rfl) hH4 ?_
  have hH5:=hH4.cell n12 n31 (by omega) 3 (.string (textAt (kidE e 1) 1))
  refine Rg.sk 9 _ rfl (by kernel_rfl) (run_storeC (v:=.string (textAt (kidE e 1) 1)) (by kernel_rfl) BY0 (by simp [hs23]) rfl rfl rfl rfl rfl) hH5 ?_
  have BY1:=BY0.set_ 3 (.string (textAt (kidE e 1) 1))
  refine Rg.tk 10 30 (.pointer (some ⟨w2.heap.size, 5, none⟩)) rfl (by kernel_rfl) (fun _ _ _ h=>h) (fun _ _=>by kernel_rfl) hH5 ?_
  have hH6:=hH5.cell n12 n31 (by omega) 5 (.string (textAt (kidE e 1) 2))
  refine Rg.sk 11 _ rfl (by kernel_rfl) (run_storeC (v:=.string (textAt (kidE e 1) 2)) (by kernel_rfl) BY1 (by simp [hs23]) rfl rfl rfl rfl rfl) hH6 ?_
  have BY2:=BY1.set_ 5 (.string (textAt (kidE e 1) 2))
  refine Rg.frame _ (by simp only [Rg.pu, List.set]; rfl) ?_
  refine wpAnyH_done (by kernel_rfl) ?_ _
  refine NoPanic.normal ?_
  have BM9:=Lib.hid BY2
  have BR9:=Lib.hid hH6.2
  have hb9:=Lib.hid hH6.1.2.2
  have HM9:=Lib.hid (show MAt w3 (fun _=>False) { zero with id:=numAt e 0, op:=1, ref:=rf, ver:=numAt (kidE e 1) 0, dn:=textAt (kidE e 1) 1, pass:=textAt (kidE e 1) 2 } (((ic2.setIfInBounds 4 (.int .i64 (numAt (kidE e 1) 0))).setIfInBounds 3 (.string (textAt (kidE e 1) 1))).setIfInBounds 5 (.string (textAt (kidE e 1) 2))) from (MAt.set_pass (MAt.set_dn (MAt.set_ver (HM2.out _ _) (numAt (kidE e 1) 0)) (textAt (kidE e 1) 1) (by unfold maxLen; omega)) (textAt (kidE e 1) 2) (by unfold maxLen; omega)))
  generalize (((ic2.setIfInBounds 4 (.int .i64 (numAt (kidE e 1) 0))).setIfInBounds 3 (.string (textAt (kidE e 1) 1))).setIfInBounds 5 (.string (textAt (kidE e 1) 2))) = cs9 at BM9 HM9
  go_wp2_with (first | (refine wpList_mark (.load 28 (.tmp 4)) rfl ?_; refine wpList_load_row rfl 28 _ rfl w2.heap.size rfl _ cs9 (0, 0) _ BM9.out Tryz.underlying28 rfl (by rw [infoM, HM9.out.size]) ?_) | (refine wpList_mark (.store 28 (.tmp 2) (.tmp 114)) rfl ?_; refine wpList_store_row rfl 28 _ _ rfl (w.heap.size + 1) cs9 rfl rfl 28 zs BR9.out (by rw [infoM, HM9.out.size]) (hz.trans HM9.out.size.symm) HM9.out.one ?_))
  refine bodyPost_ret (results_cell_row rfl _ _ (w.heap.size + 1) _ cs9 (0, 0) _ rfl (setRow_heap _ _ _ cs9 _ _ BR9.out) Tryz.underlying28 rfl (by rw [infoM, HM9.out.size])) rfl ⟨cs9, rfl, below_setRow hb9.out (by omega) cs9, HRD.out ▸ HM9.out.imp (fun _ h=>h.elim) (fun _ h=>h.elim)⟩
 by_cases h3 : O = 3
 ·subst h3
  have hrd : rdMW e = { zero with id:=numAt e 0, op:=3, ref:=rf, dn:=textAt (kidE e 1) 0, scope:=numAt (kidE e 1) 1, size:=numAt (kidE e 1) 3, fil:=rdFil (kidE (kidE e 1) 6), wants:=((kidsE (kidE (kidE e 1) 7)).map bodyE) }:=by
   unfold rdMW rdM; simp only [hop, hrf]; rfl
  have ht0:=(hfew.kid 1).text 0
  have hf6:=(hfew.kid 1).kid 6
  have hf7:=(hfew.kid 1).kid 7
  have hfb:=few_bodies hf7
  have HF:=Lib.hid (fun t b A n c w hG h=>readFil_any (kidE (kidE e 1) 6) t b A n c w hf6 hG h)
  have HE:=Lib.hid (fun t b A n c w h=>eachB_any (kidE (kidE e 1) 7) t b A n c w hf7 h)
  generalize rdFil (kidE (kidE e 1) 6) = FF at HF hrd
  generalize ((kidsE (kidE (kidE e 1) 7)).map bodyE) = LL at hfb HE hrd
  have HRD:=Lib.hid hrd
  clear hrd
  go_wp2_with fail
  refine wp_region_noPanic ?_
  refine wp_region_held_drew (S:=Fe w w1.heap.size (cO e A1 n1 c1) w2.heap.size 28 23 (w.heap.size + 1) zs) (by kernel_rfl) (show Fe w w1.heap.size (cO e A1 n1 c1) w2.heap.size 28 23 (w.heap.size + 1) zs _ from ⟨⟨BO4, ⟨_, hs23, BM4⟩, hb4⟩, BR4⟩).drew (fun hH0=>?_)
  have BM5:=BM4.drew
  have hK5:=(show Below _ _ _ from hK4).drew
  refine Rg.tk 0 33 (.agg (cO e A1 n1 c1)) rfl (by kernel_rfl) (fun _ _ _ h=>h) (fun w' h=>run_loadRow rfl rfl h.1.1 Tryz.underlying57 rfl infoE3) hH0 ?_
  refine Rg.tk 2 35 (.agg (cO e A1 n1 c1)) rfl (by kernel_rfl) (fun _ _ _ h=>h) (fun w' h=>run_loadRow rfl rfl h.1.1 Tryz.underlying57 rfl infoE3) hH0 ?_
  refine Rg.tk 4 37 (.agg (cO e A1 n1 c1)) rfl (by kernel_rfl) (fun _ _ _ h=>h) (fun w' h=>run_loadRow rfl rfl h.1.1 Tryz.underlying57 rfl infoE3) hH0 ?_
  refine Rg.cl 1 34 rfl (by kernel_rfl) 94 #[.agg (cO e A1 n1 c1), .int .i64 0] (by kernel_rfl) (textAt_any (kidE e 1) 0 _ _ A1 _ c1 _ ((HLk.out.kept hK5).more hK5.size)) ?_
  rintro _ wx0 ⟨rfl, hx0⟩
  have hH1:=hH0.past hx0
  refine ⟨_, rfl, hH1, ?_⟩
  have BX0:=BM5.past hx0
  have KX0:=hK5.trans (hx0.mono hK5.size)
  refine Rg.tk 6 39 (.pointer (some ⟨w2.heap.size, 3, none⟩)) rfl (by kernel_rfl) (fun _ _ _ h=>h) (fun _ _=>by kernel_rfl) hH1 ?_
  refine Rg.frame _ (by simp only [Rg.pu, List.set]; rfl) ?_
  refine Rg.cl 3 36 rfl (by kernel_rfl) 92 #[.agg (cO e A1 n1 c1), .int .i64 1] (by kernel_rfl) (numberAt_any (kidE e 1) 1 _ _ A1 _ c1 _ ((HLk.out.kept KX0).more KX0.size)) ?_
  rintro _ wx1 ⟨rfl, hx1⟩
  have hH2:=hH1.past hx1
  refine ⟨_, rfl, hH2, ?_⟩
  have BX1:=BX0.past hx1
  have KX1:=KX0.trans (hx1.mono KX0.size)
  refine Rg.cl 5 38 rfl (by kernel_rfl) 92 #[.agg (cO e A1 n1 c1), .int .i64 3] (by kernel_rfl) (numberAt_any (kidE e 1) 3 _ _ A1 _ c1 _ ((HLk.out.kept KX1).more KX1.size)) ?_
  rintro _ wx2 ⟨rfl, hx2⟩
  have hH3:=hH2.past hx2
  refine ⟨_, rfl, hH3, ?_⟩
  have BX2:=BX1.past hx2
  have KX2:=KX1.trans (hx2.mono KX1.size)
  have hH4:=hH3.cell n12 n31 (by omega) 3 (.string (textAt (kidE e 1) 0))
  refine Rg.sk 7 _ rfl (by kernel_rfl) (run_storeC (v:=.string (textAt (kidE e 1) 0)) (by kernel_rfl) BX2 (by simp [hs23]) rfl rfl rfl rfl rfl) hH4 ?_
  have BY0:=BX2.set_ 3 (.string (textAt (kidE e 1) 0))
  have KY0:=KX2.setCell (p:=⟨w2.heap.size, 3, none⟩) (by show _ ≤ w2.heap.size; simp; omega) (.string (textAt (kidE e 1) 0))
  refine Rg.tk 8 40 (.pointer (some ⟨w2.heap.size, 6, none⟩)) rfl (by kernel_rfl) (fun _ _ _ h=>h) (fun _ _=>by kernel_rfl) hH4 ?_
  have hH5:=hH4.cell n12 n31 (by omega) 6 (.int .i64 (numAt (kidE e 1) 1))
  refine Rg.sk 9 _ rfl (by kernel_rfl) (run_storeC (v:=.int .i64 (numAt (kidE e 1) 1)) (by kernel_rfl) BY0 (by simp [hs23]) rfl rfl rfl rfl rfl) hH5 ?_
  have BY1:=BY0.set_ 6 (.int .i64 (numAt (kidE e 1) 1))
  have KY1:=KY0.setCell (p:=⟨w2.heap.size, 6, none⟩) (by show _ ≤ w2.heap.size; simp; omega) (.int .i64 (numAt (kidE e 1) 1))
  refine Rg.tk 10 41 (.pointer (some ⟨w2.heap.size, 7, none⟩)) rfl (by kernel_rfl) (fun _ _ _ h=>h) (fun _ _=>by kernel_rfl) hH5 ?_
  have hH6:=hH5.cell n12 n31 (by omega) 7 (.int .i64 (numAt (kidE e 1) 3))
  refine Rg.sk 11 _ rfl (by kernel_rfl) (run_storeC (v:=.int .i64 (numAt (kidE e 1) 3)) (by kernel_rfl) BY1 (by simp [hs23]) rfl rfl rfl rfl rfl) hH6 ?_
  have BY2:=BY1.set_ 7 (.int .i64 (numAt (kidE e 1) 3))
  have KY2:=KY1.setCell (p:=⟨w2.heap.size, 7, none⟩) (by show _ ≤ w2.heap.size; simp; omega) (.int .i64 (numAt (kidE e 1) 3))
  refine Rg.frame _ (by simp only [Rg.pu, List.set]; rfl) ?_
  refine wpAnyH_done (by kernel_rfl) ?_ _
  refine NoPanic.normal ?_
  go_wp2_with fail
  refine wp_region_noPanic ?_
  refine wp_region_held_drew (S:=Fe w w1.heap.size (cO e A1 n1 c1) w2.heap.size 28 23 (w.heap.size + 1) zs) (by kernel_rfl) hH6.drew (fun hI0=>?_)
  have BZ0:=BY2.drew
  have KZ0:=KY2.drew
  refine Rg.tk 0 42 (.agg (cO e A1 n1 c1)) rfl (by kernel_rfl) (fun _ _ _ h=>h) (fun w' h=>run_loadRow rfl rfl h.1.1 Tryz.underlying57 rfl infoE3) hI0 ?_
  refine Rg.tk 3 45 (.agg (cO e A1 n1 c1)) rfl (by kernel_rfl) (fun _ _ _ h=>h) (fun w' h=>run_loadRow rfl rfl h.1.1 Tryz.underlying57 rfl infoE3) hI0 ?_
  refine Rg.cl 1 43 rfl (by kernel_rfl) 91 #[.agg (cO e A1 n1 c1), .int .i64 6] (by kernel_rfl) (kid_any (kidE e 1) 6 _ _ A1 _ c1 _ ((HLk.out.kept KZ0).more KZ0.size)) ?_
  rintro _ wz1 ⟨t2, b2, A2, m2, c2, rfl, hz1, hLx⟩
  have hI1:=hI0.past hz1
  refine ⟨_, rfl, hI1, ?_⟩
  have BZ1:=BZ0.past hz1
  have KZ1:=KZ0.trans (hz1.mono KZ0.size)
  have hT1:=BZ1.lt
  have hR1:=hI1.2.lt
  refine Rg.cl 2 44 rfl (by kernel_rfl) 95 #[.agg #[.int .u8 (t2 : Nat), .string b2, .slice A2 m2 c2]] (by kernel_rfl) (HF.out t2 b2 A2 m2 c2 _ (HG.out.past hI1.1.2.2) (hLx.past hz1)) ?_
  rintro _ wz2 ⟨fk, fa, fv, fS, fm, fsc, fA, fn, fc, rfl, hz2, hFx⟩
  have hI2:=hI1.past hz2
  refine ⟨_, rfl, hI2, ?_⟩
  have BZ2:=BZ1.past hz2
  have KZ2:=KZ1.trans (hz2.mono KZ1.size)
  refine Rg.tk 6 48 (.pointer (some ⟨w2.heap.size, 8, none⟩)) rfl (by kernel_rfl) (fun _ _ _ h=>h) (fun _ _=>by kernel_rfl) hI2 ?_
  refine Rg.frame _ (by simp only [Rg.pu, List.set]; rfl) ?_
  refine Rg.cl 4 46 rfl (by kernel_rfl) 91 #[.agg (cO e A1 n1 c1), .int .i64 7] (by kernel_rfl) (kid_any (kidE e 1) 7 _ _ A1 _ c1 _ ((HLk.out.kept KZ2).more KZ2.size)) ?_
  rintro _ wz3 ⟨t3, b3, A3, m3, c3, rfl, hz3, hLy⟩
  have hI3:=hI2.past hz3
  refine ⟨_, rfl, hI3, ?_⟩
  have BZ3:=BZ2.past hz3
  refine Rg.cl 5 47 rfl (by kernel_rfl) 96 #[.agg #[.int .u8 (t3 : Nat), .string b3, .slice A3 m3 c3], .func (.func 97) #[] #[]] (by kernel_rfl) (HE.out t3 b3 A3 m3 c3 _ (hLy.past hz3)) ?_
  rintro _ wz4 ⟨A4, c4, rfl, hz4, hc4, hS4⟩
  have hI4:=hI3.past hz4
  refine ⟨_, rfl, hI4, ?_⟩
  have BZ4:=BZ3.past hz4
  have hI5:=(((((hI4.cell n12 n31 (by omega) 8 (.int .i64 fk)).cell n12 n31 (by omega) 9 (.string fa)).cell n12 n31 (by omega) 10 (.string fv)).cell n12 n31 (by omega) 11 (.slice fS fm fsc)).cell n12 n31 (by omega) 12 (.slice fA fn fc))
  refine Rg.sk 7 _ rfl (by kernel_rfl) (run_storeF BZ4 (by simp [hs23]) rfl rfl rfl) hI5 ?_
  have BZ5:=(((((BZ4.set_ 8 (.int .i64 fk)).set_ 9 (.string fa)).set_ 10 (.string fv)).set_ 11 (.slice fS fm fsc)).set_ 12 (.slice fA fn fc))
  refine Rg.tk 8 49 (.pointer (some ⟨w2.heap.size, 13, none⟩)) rfl (by kernel_rfl) (fun _ _ _ h=>h) (fun _ _=>by kernel_rfl) hI5 ?_
  have hI6:=hI5.cell n12 n31 (by omega) 13 (.slice A4 LL.length c4)
  refine Rg.sk 9 _ rfl (by kernel_rfl) (run_storeC (v:=.slice A4 LL.length c4) (by kernel_rfl) BZ5 (by simp [hs23]) rfl rfl rfl rfl rfl) hI6 ?_
  refine Rg.frame _ (by simp only [Rg.pu, List.set]; rfl) ?_
  refine wpAnyH_done (by kernel_rfl) ?_ _
  refine NoPanic.normal ?_
  have BM9:=Lib.hid (BZ5.set_ 13 (.slice A4 LL.length c4))
  have BR9:=Lib.hid hI6.2
  have hb9:=Lib.hid hI6.1.2.2
  have hcE : ∀ p : Addr, p.block ≠ w2.heap.size → ((F5 wz4 w2.heap.size (.int .i64 fk) (.string fa) (.string fv) (.slice fS fm fsc) (.slice fA fn fc)).setCell ⟨w2.heap.size, 13, none⟩ (.slice A4 LL.length c4)).cell? p = wz4.cell? p:=fun p hp=>by
   have h' : ∀ k : Nat, (⟨w2.heap.size, k, none⟩ : Addr) ≠ p:=fun k e=>hp (by rw [← e])
   rw [World.cell?_setCell_other _ _ _ _ (h' 13), World.cell?_setCell_other _ _ _ _ (h' 12), World.cell?_setCell_other _ _ _ _ (h' 11), World.cell?_setCell_other _ _ _ _ (h' 10), World.cell?_setCell_other _ _ _ _ (h' 9), World.cell?_setCell_other _ _ _ _ (h' 8)]
  have hsz4 : ((F5 wz4 w2.heap.size (.int .i64 fk) (.string fa) (.string fv) (.slice fS fm fsc) (.slice fA fn fc)).setCell ⟨w2.heap.size, 13, none⟩ (.slice A4 LL.length c4)).heap.size = wz4.heap.size:=by simp [World.setCell]
  have hq1:=hz2.size
  have hq2:=hz3.size
  have hq3:=hz4.size
  have hF9 : Fi.Lies ((F5 wz4 w2.heap.size (.int .i64 fk) (.string fa) (.string fv) (.slice fS fm fsc) (.slice fA fn fc)).setCell ⟨w2.heap.size, 13, none⟩ (.slice A4 LL.length c4)) (fun bb=>w2.heap.size < bb ∧ bb < ((F5 wz4 w2.heap.size (.int .i64 fk) (.string fa) (.string fv) (.slice fS fm fsc) (.slice fA fn fc)).setCell ⟨w2.heap.size, 13, none⟩ (.slice A4 LL.length c4)).heap.size) FF [.int .i64 fk, .string fa, .string fv, .slice fS fm fsc, .slice fA fn fc]:=hFx.imp (fun bb hb=>⟨by have:=hb.1; omega, by rw [hsz4]; have:=hb.2; omega⟩) (fun p hp=>by
   rw [hcE p (by have:=hp.1; omega), hz4.cell (p:=p) (by have:=hp.2; omega), hz3.cell (p:=p) (by have:=hp.2; omega)])
  have hS9 : Fi.StrsAt ((F5 wz4 w2.heap.size (.int .i64 fk) (.string fa) (.string fv) (.slice fS fm fsc) (.slice fA fn fc)).setCell ⟨w2.heap.size, 13, none⟩ (.slice A4 LL.length c4)) (fun bb=>w2.heap.size < bb ∧ bb < ((F5 wz4 w2.heap.size (.int .i64 fk) (.string fa) (.string fv) (.slice fS fm fsc) (.slice fA fn fc)).setCell ⟨w2.heap.size, 13, none⟩ (.slice A4 LL.length c4)).heap.size) A4 LL:=hS4.imp (fun bb hb=>⟨by have:=hb.1; omega, by rw [hsz4]; exact hb.2⟩) (fun p hp=>hcE p (by have:=hp.1; omega))
  have HM9:=Lib.hid (show MAt ((F5 wz4 w2.heap.size (.int .i64 fk) (.string fa) (.string fv) (.slice fS fm fsc) (.slice fA fn fc)).setCell ⟨w2.heap.size, 13, none⟩ (.slice A4 LL.length c4)) (fun bb=>w2.heap.size < bb ∧ bb < ((F5 wz4 w2.heap.size (.int .i64 fk) (.string fa) (.string fv) (.slice fS fm fsc) (.slice fA fn fc)).setCell ⟨w2.heap.size, 13, none⟩ (.slice A4 LL.length c4)).heap.size) { zero with id:=numAt e 0, op:=3, ref:=rf, dn:=textAt (kidE e 1) 0, scope:=numAt (kidE e 1) 1, size:=numAt (kidE e 1) 3, fil:=FF, wants:=LL } (((((((((ic2.setIfInBounds 3 (.string (textAt (kidE e 1) 0))).setIfInBounds 6 (.int .i64 (numAt (kidE e 1) 1))).setIfInBounds 7 (.int .i64 (numAt (kidE e 1) 3))).setIfInBounds 8 (.int .i64 fk)).setIfInBounds 9 (.string fa)).setIfInBounds 10 (.string fv)).setIfInBounds 11 (.slice fS fm fsc)).setIfInBounds 12 (.slice fA fn fc)).setIfInBounds 13 (.slice A4 LL.length c4)) from (MAt.set_wants (MAt.set_fil (MAt.set_size (MAt.set_scope (MAt.set_dn (HM2.out _ _) (textAt (kidE e 1) 0) (by unfold maxLen; omega)) (numAt (kidE e 1) 1)) (numAt (kidE e 1) 3)) FF _ _ _ _ _ hF9) LL A4 c4 hS9 hfb.1 hc4 hfb.2))
  generalize (((((((((ic2.setIfInBounds 3 (.string (textAt (kidE e 1) 0))).setIfInBounds 6 (.int .i64 (numAt (kidE e 1) 1))).setIfInBounds 7 (.int .i64 (numAt (kidE e 1) 3))).setIfInBounds 8 (.int .i64 fk)).setIfInBounds 9 (.string fa)).setIfInBounds 10 (.string fv)).setIfInBounds 11 (.slice fS fm fsc)).setIfInBounds 12 (.slice fA fn fc)).setIfInBounds 13 (.slice A4 LL.length c4)) = cs9 at BM9 HM9
  go_wp2_with (first | (refine wpList_mark (.load 28 (.tmp 4)) rfl ?_; refine wpList_load_row rfl 28 _ rfl w2.heap.size rfl _ cs9 (0, 0) _ BM9.out Tryz.underlying28 rfl (by rw [infoM, HM9.out.size]) ?_) | (refine wpList_mark (.store 28 (.tmp 2) (.tmp 114)) rfl ?_; refine wpList_store_row rfl 28 _ _ rfl (w.heap.size + 1) cs9 rfl rfl 28 zs BR9.out (by rw [infoM, HM9.out.size]) (hz.trans HM9.out.size.symm) HM9.out.one ?_))
  refine bodyPost_ret (results_cell_row rfl _ _ (w.heap.size + 1) _ cs9 (0, 0) _ rfl (setRow_heap _ _ _ cs9 _ _ BR9.out) Tryz.underlying28 rfl (by rw [infoM, HM9.out.size])) rfl ⟨cs9, rfl, below_setRow hb9.out (by omega) cs9, HRD.out ▸ HM9.out.imp (fun _ h=>⟨by have:=h.1; omega, by rw [setRow_size]; exact h.2⟩) (fun p hp=>cell_setRow_other _ _ _ _ (by have:=hp.1; omega))⟩
 by_cases h4 : O = 4
 ·subst h4
  have hrd : rdMW e = { zero with id:=numAt e 0, op:=4, ref:=rf, dn:=textAt (kidE e 1) 0, mods:=((kidsE (kidE (kidE e 1) 1)).map rdModW) }:=by
   unfold rdMW rdM; simp only [hop, hrf]; rfl
  have ht0:=(hfew.kid 1).text 0
  have hf1:=(hfew.kid 1).kid 1
  have hln : ((kidsE (kidE (kidE e 1) 1)).map rdModW).length ≤ maxLen:=by rw [List.length_map]; have:=hf1.len; unfold maxLen; omega
  have HE:=Lib.hid (fun t b A n c w h=>eachOfM_any (kidE (kidE e 1) 1) t b A n c w hf1 h)
  generalize ((kidsE (kidE (kidE e 1) 1)).map rdModW) = LL at hln HE hrd
  have HRD:=Lib.hid hrd
  clear hrd
  go_wp2_with fail
  refine wp_region_noPanic ?_
  refine wp_region_held_drew (S:=Fe w w1.heap.size (cO e A1 n1 c1) w2.heap.size 28 23 (w.heap.size + 1) zs) (by kernel_rfl) (show Fe w w1.heap.size (cO e A1 n1 c1) w2.heap.size 28 23 (w.heap.size + 1) zs _ from ⟨⟨BO4, ⟨_, hs23, BM4⟩, hb4⟩, BR4⟩).drew (fun hH0=>?_)
  have BM5:=BM4.drew
  have hK5:=(show Below _ _ _ from hK4).drew
  refine Rg.tk 0 52 (.agg (cO e A1 n1 c1)) rfl (by kernel_rfl) (fun _ _ _ h=>h) (fun w' h=>run_loadRow rfl rfl h.1.1 Tryz.underlying57 rfl infoE3) hH0 ?_
  refine Rg.tk 2 54 (.agg (cO e A1 n1 c1)) rfl (by kernel_rfl) (fun _ _ _ h=>h) (fun w' h=>run_loadRow rfl rfl h.1.1 Tryz.underlying57 rfl infoE3) hH0 ?_
  refine Rg.cl 1 53 rfl (by kernel_rfl) 94 #[.agg (cO e A1 n1 c1), .int .i64 0] (by kernel_rfl) (textAt_any (kidE e 1) 0 _ _ A1 _ c1 _ ((HLk.out.kept hK5).more hK5.size)) ?_
  rintro _ wx0 ⟨rfl, hx0⟩
  have hH1:=hH0.past hx0
  refine ⟨_, rfl, hH1, ?_⟩
  have BX0:=BM5.past hx0
  have KX0:=hK5.trans (hx0.mono hK5.size)
  refine Rg.tk 5 57 (.pointer (some ⟨w2.heap.size, 3, none⟩)) rfl (by kernel_rfl) (fun _ _ _ h=>h) (fun _ _=>by kernel_rfl) hH1 ?_
  refine Rg.cl 3 55 rfl (by kernel_rfl) 91 #[.agg (cO e A1 n1 c1), .int .i64 1] (by kernel_rfl) (kid_any (kidE e 1) 1 _ _ A1 _ c1 _ ((HLk.out.kept KX0).more KX0.size)) ?_
  rintro _ wx1 ⟨t2, b2, A2, m2, c2, rfl, hx1, hLx⟩
  have hH2:=hH1.past hx1
  refine ⟨_, rfl, hH2, ?_⟩
  refine Rg.frame _ (by simp only [Rg.pu, List.set]; rfl) ?_
  have BX1:=BX0.past hx1
  have hT1:=BX1.lt
  have hR1:=hH2.2.lt
  refine Rg.cl 4 56 rfl (by kernel_rfl) 98 #[.agg #[.int .u8 (t2 : Nat), .string b2, .slice A2 m2 c2], .func (.func 99) #[] #[]] (by kernel_rfl) (HE.out t2 b2 A2 m2 c2 _ (hLx.past hx1)) ?_
  rintro _ wx2 ⟨A3, c3, ds3, rfl, hx2, hc3, hM3⟩
  have hH3:=hH2.past hx2
  refine ⟨_, rfl, hH3, ?_⟩
  have BX2:=BX1.past hx2
  have hH4:=hH3.cell n12 n31 (by omega) 3 (.string (textAt (kidE e 1) 0))
  refine Rg.sk 6 _ rfl (by kernel_rfl) (run_storeC (v:=.string (textAt (kidE e 1) 0)) (by kernel_rfl) BX2 (by simp [hs23]) rfl rfl rfl rfl rfl) hH4 ?_
  have BY0:=BX2.set_ 3 (.string (textAt (kidE e 1) 0))
  refine Rg.tk 7 58 (.pointer (some ⟨w2.heap.size, 14, none⟩)) rfl (by kernel_rfl) (fun _ _ _ h=>h) (fun _ _=>by kernel_rfl) hH4 ?_
  have hH5:=hH4.cell n12 n31 (by omega) 14 (.slice A3 LL.length c3)
  refine Rg.sk 8 _ rfl (by kernel_rfl) (run_storeC (v:=.slice A3 LL.length c3) (by kernel_rfl) BY0 (by simp [hs23]) rfl rfl rfl rfl rfl) hH5 ?_
  refine Rg.frame _ (by simp only [Rg.pu, List.set]; rfl) ?_
  refine wpAnyH_done (by kernel_rfl) ?_ _
  refine NoPanic.normal ?_
  have BM9:=Lib.hid (BY0.set_ 14 (.slice A3 LL.length c3))
  have BR9:=Lib.hid hH5.2
  have hb9:=Lib.hid hH5.1.2.2
  have hM9 : MosAt ((wx2.setCell ⟨w2.heap.size, 3, none⟩ (.string (textAt (kidE e 1) 0))).setCell ⟨w2.heap.size, 14, none⟩ (.slice A3 LL.length c3)) (fun bb=>wx1.heap.size ≤ bb ∧ bb < ((wx2.setCell ⟨w2.heap.size, 3, none⟩ (.string (textAt (kidE e 1) 0))).setCell ⟨w2.heap.size, 14, none⟩ (.slice A3 LL.length c3)).heap.size) A3 LL ds3:=hM3.imp (fun bb hb=>⟨hb.1, by simp [World.setCell]; exact hb.2⟩) (fun p hp=>by
   have p1 : p.block ≠ w2.heap.size:=by have:=hp.1; omega
   rw [World.cell?_setCell_other _ _ _ _ (fun e=>p1 (by rw [← e])), World.cell?_setCell_other _ _ _ _ (fun e=>p1 (by rw [← e]))])
  have HM9:=Lib.hid (show MAt ((wx2.setCell ⟨w2.heap.size, 3, none⟩ (.string (textAt (kidE e 1) 0))).setCell ⟨w2.heap.size, 14, none⟩ (.slice A3 LL.length c3)) (fun bb=>wx1.heap.size ≤ bb ∧ bb < ((wx2.setCell ⟨w2.heap.size, 3, none⟩ (.string (textAt (kidE e 1) 0))).setCell ⟨w2.heap.size, 14, none⟩ (.slice A3 LL.length c3)).heap.size) { zero with id:=numAt e 0, op:=4, ref:=rf, dn:=textAt (kidE e 1) 0, mods:=LL } ((ic2.setIfInBounds 3 (.string (textAt (kidE e 1) 0))).setIfInBounds 14 (.slice A3 LL.length c3)) from (MAt.set_mods (MAt.set_dn (HM2.out _ _) (textAt (kidE e 1) 0) (by unfold maxLen; omega)) LL A3 c3 ds3 hM9 hln hc3))
  generalize ((ic2.setIfInBounds 3 (.string (textAt (kidE e 1) 0))).setIfInBounds 14 (.slice A3 LL.length c3)) = cs9 at BM9 HM9
  go_wp2_with (first | (refine wpList_mark (.load 28 (.tmp 4)) rfl ?_; refine wpList_load_row rfl 28 _ rfl w2.heap.size rfl _ cs9 (0, 0) _ BM9.out Tryz.underlying28 rfl (by rw [infoM, HM9.out.size]) ?_) | (refine wpList_mark (.store 28 (.tmp 2) (.tmp 114)) rfl ?_; refine wpList_store_row rfl 28 _ _ rfl (w.heap.size + 1) cs9 rfl rfl 28 zs BR9.out (by rw [infoM, HM9.out.size]) (hz.trans HM9.out.size.symm) HM9.out.one ?_))
  refine bodyPost_ret (results_cell_row rfl _ _ (w.heap.size + 1) _ cs9 (0, 0) _ rfl (setRow_heap _ _ _ cs9 _ _ BR9.out) Tryz.underlying28 rfl (by rw [infoM, HM9.out.size])) rfl ⟨cs9, rfl, below_setRow hb9.out (by omega) cs9, HRD.out ▸ HM9.out.imp (fun _ h=>⟨by have:=h.1; omega, by rw [setRow_size]; exact h.2⟩) (fun p hp=>cell_setRow_other _ _ _ _ (by have:=hp.1; omega))⟩
 by_cases h5 : O = 5
 ·subst h5
  have hrd : rdMW e = { zero with id:=numAt e 0, op:=5, ref:=rf, dn:=textAt (kidE e 1) 0, mods:=((kidsE (kidE (kidE e 1) 1)).map rdAttr) }:=by
   unfold rdMW rdM; simp only [hop, hrf]; rfl
  have ht0:=(hfew.kid 1).text 0
  have hf1:=(hfew.kid 1).kid 1
  have hln : ((kidsE (kidE (kidE e 1) 1)).map rdAttr).length ≤ maxLen:=by rw [List.length_map]; have:=hf1.len; unfold maxLen; omega
  have HE:=Lib.hid (fun t b A n c w h=>eachOfA_any (kidE (kidE e 1) 1) t b A n c w hf1 h)
  generalize ((kidsE (kidE (kidE e 1) 1)).map rdAttr) = LL at hln HE hrd
  have HRD:=Lib.hid hrd
  clear hrd
  go_wp2_with fail
  refine wp_region_noPanic ?_
  refine wp_region_held_drew (S:=Fe w w1.heap.size (cO e A1 n1 c1) w2.heap.size 28 23 (w.heap.size + 1) zs) (by kernel_rfl) (show Fe w w1.heap.size (cO e A1 n1 c1) w2.heap.size 28 23 (w.heap.size + 1) zs _ from ⟨⟨BO4, ⟨_, hs23, BM4⟩, hb4⟩, BR4⟩).drew (fun hH0=>?_)
  have BM5:=BM4.drew
  have hK5:=(show Below _ _ _ from hK4).drew
  refine Rg.tk 0 62 (.agg (cO e A1 n1 c1)) rfl (by kernel_rfl) (fun _ _ _ h=>h) (fun w' h=>run_loadRow rfl rfl h.1.1 Tryz.underlying57 rfl infoE3) hH0 ?_
  refine Rg.tk 2 64 (.agg (cO e A1 n1 c1)) rfl (by kernel_rfl) (fun _ _ _ h=>h) (fun w' h=>run_loadRow rfl rfl h.1.1 Tryz.underlying57 rfl infoE3) hH0 ?_
  refine Rg.cl 1 63 rfl (by kernel_rfl) 94 #[.agg (cO e A1 n1 c1), .int .i64 0] (by kernel_rfl) (textAt_any (kidE e 1) 0 _ _ A1 _ c1 _ ((HLk.out.kept hK5).more hK5.size)) ?_
  rintro _ wx0 ⟨rfl, hx0⟩
  have hH1:=hH0.past hx0
  refine ⟨_, rfl, hH1, ?_⟩
  have BX0:=BM5.past hx0
  have KX0:=hK5.trans (hx0.mono hK5.size)
  refine Rg.tk 5 67 (.pointer (some ⟨w2.heap.size, 3, none⟩)) rfl (by kernel_rfl) (fun _ _ _ h=>h) (fun _ _=>by kernel_rfl) hH1 ?_
  refine Rg.cl 3 65 rfl (by kernel_rfl) 91 #[.agg (cO e A1 n1 c1), .int .i64 1] (by kernel_rfl) (kid_any (kidE e 1) 1 _ _ A1 _ c1 _ ((HLk.out.kept KX0).more KX0.size)) ?_
  rintro _ wx1 ⟨t2, b2, A2, m2, c2, rfl, hx1, hLx⟩
  have hH2:=hH1.past hx1
  refine ⟨_, rfl, hH2, ?_⟩
  refine Rg.frame _ (by simp only [Rg.pu, List.set]; rfl) ?_
  have BX1:=BX0.past hx1
  have hT1:=BX1.lt
  have hR1:=hH2.2.lt
  refine Rg.cl 4 66 rfl (by kernel_rfl) 98 #[.agg #[.int .u8 (t2 : Nat), .string b2, .slice A2 m2 c2], .func (.func 100) #[] #[]] (by kernel_rfl) (HE.out t2 b2 A2 m2 c2 _ (hLx.past hx1)) ?_
  rintro _ wx2 ⟨A3, c3, ds3, rfl, hx2, hc3, hM3⟩
  have hH3:=hH2.past hx2
  refine ⟨_, rfl, hH3, ?_⟩
  have BX2:=BX1.past hx2
  have hH4:=hH3.cell n12 n31 (by omega) 3 (.string (textAt (kidE e 1) 0))
  refine Rg.sk 6 _ rfl (by kernel_rfl) (run_storeC (v:=.string (textAt (kidE e 1) 0)) (by kernel_rfl) BX2 (by simp [hs23]) rfl rfl rfl rfl rfl) hH4 ?_
  have BY0:=BX2.set_ 3 (.string (textAt (kidE e 1) 0))
  refine Rg.tk 7 68 (.pointer (some ⟨w2.heap.size, 14, none⟩)) rfl (by kernel_rfl) (fun _ _ _ h=>h) (fun _ _=>by kernel_rfl) hH4 ?_
  have hH5:=hH4.cell n12 n31 (by omega) 14 (.slice A3 LL.length c3)
  refine Rg.sk 8 _ rfl (by kernel_rfl) (run_storeC (v:=.slice A3 LL.length c3) (by kernel_rfl) BY0 (by simp [hs23]) rfl rfl rfl rfl rfl) hH5 ?_
  refine Rg.frame _ (by simp only [Rg.pu, List.set]; rfl) ?_
  refine wpAnyH_done (by kernel_rfl) ?_ _
  refine NoPanic.normal ?_
  have BM9:=Lib.hid (BY0.set_ 14 (.slice A3 LL.length c3))
  have BR9:=Lib.hid hH5.2
  have hb9:=Lib.hid hH5.1.2.2
  have hM9 : MosAt ((wx2.setCell ⟨w2.heap.size, 3, none⟩ (.string (textAt (kidE e 1) 0))).setCell ⟨w2.heap.size, 14, none⟩ (.slice A3 LL.length c3)) (fun bb=>wx1.heap.size ≤ bb ∧ bb < ((wx2.setCell ⟨w2.heap.size, 3, none⟩ (.string (textAt (kidE e 1) 0))).setCell ⟨w2.heap.size, 14, none⟩ (.slice A3 LL.length c3)).heap.size) A3 LL ds3:=hM3.imp (fun bb hb=>⟨hb.1, by simp [World.setCell]; exact hb.2⟩) (fun p hp=>by
   have p1 : p.block ≠ w2.heap.size:=by have:=hp.1; omega
   rw [World.cell?_setCell_other _ _ _ _ (fun e=>p1 (by rw [← e])), World.cell?_setCell_other _ _ _ _ (fun e=>p1 (by rw [← e]))])
  have HM9:=Lib.hid (show MAt ((wx2.setCell ⟨w2.heap.size, 3, none⟩ (.string (textAt (kidE e 1) 0))).setCell ⟨w2.heap.size, 14, none⟩ (.slice A3 LL.length c3)) (fun bb=>wx1.heap.size ≤ bb ∧ bb < ((wx2.setCell ⟨w2.heap.size, 3, none⟩ (.string (textAt (kidE e 1) 0))).setCell ⟨w2.heap.size, 14, none⟩ (.slice A3 LL.length c3)).heap.size) { zero with id:=numAt e 0, op:=5, ref:=rf, dn:=textAt (kidE e 1) 0, mods:=LL } ((ic2.setIfInBounds 3 (.string (textAt (kidE e 1) 0))).setIfInBounds 14 (.slice A3 LL.length c3)) from (MAt.set_mods (MAt.set_dn (HM2.out _ _) (textAt (kidE e 1) 0) (by unfold maxLen; omega)) LL A3 c3 ds3 hM9 hln hc3))
  generalize ((ic2.setIfInBounds 3 (.string (textAt (kidE e 1) 0))).setIfInBounds 14 (.slice A3 LL.length c3)) = cs9 at BM9 HM9
  go_wp2_with (first | (refine wpList_mark (.load 28 (.tmp 4)) rfl ?_; refine wpList_load_row rfl 28 _ rfl w2.heap.size rfl _ cs9 (0, 0) _ BM9.out Tryz.underlying28 rfl (by rw [infoM, HM9.out.size]) ?_) | (refine wpList_mark (.store 28 (.tmp 2) (.tmp 114)) rfl ?_; refine wpList_store_row rfl 28 _ _ rfl (w.heap.size + 1) cs9 rfl rfl 28 zs BR9.out (by rw [infoM, HM9.out.size]) (hz.trans HM9.out.size.symm) HM9.out.one ?_))
  refine bodyPost_ret (results_cell_row rfl _ _ (w.heap.size + 1) _ cs9 (0, 0) _ rfl (setRow_heap _ _ _ cs9 _ _ BR9.out) Tryz.underlying28 rfl (by rw [infoM, HM9.out.size])) rfl ⟨cs9, rfl, below_setRow hb9.out (by omega) cs9, HRD.out ▸ HM9.out.imp (fun _ h=>⟨by have:=h.1; omega, by rw [setRow_size]; exact h.2⟩) (fun p hp=>cell_setRow_other _ _ _ _ (by have:=hp.1; omega))⟩
 by_cases h6 : O = 6
 ·subst h6
  have hrd : rdMW e = { zero with id:=numAt e 0, op:=6, ref:=rf, dn:=bodyE (kidE e 1) }:=by
   unfold rdMW rdM; simp only [hop, hrf]; rfl
  have hbo9:=(hfew.kid 1).body
  have HRD:=Lib.hid hrd
  clear hrd
  have BM9:=Lib.hid (show Blk (((w3.setCell ⟨w2.heap.size, 1, none⟩ (.int .i64 6)).setCell ⟨w2.heap.size, 2, none⟩ (.int .i64 rf)).setCell ⟨w2.heap.size, 3, none⟩ (.string (bodyE (kidE e 1)))) w2.heap.size 28 (ic2.setIfInBounds 3 (.string (bodyE (kidE e 1)))) from (BM4.set_ 3 (.string (bodyE (kidE e 1)))))
  have BR9:=Lib.hid (show Blk (((w3.setCell ⟨w2.heap.size, 1, none⟩ (.int .i64 6)).setCell ⟨w2.heap.size, 2, none⟩ (.int .i64 rf)).setCell ⟨w2.heap.size, 3, none⟩ (.string (bodyE (kidE e 1)))) (w.heap.size + 1) 28 zs from (BR4.far (p:=⟨w2.heap.size, 3, none⟩) n31 (.string (bodyE (kidE e 1)))))
  have hb9:=Lib.hid (show Below w.heap.size w (((w3.setCell ⟨w2.heap.size, 1, none⟩ (.int .i64 6)).setCell ⟨w2.heap.size, 2, none⟩ (.int .i64 rf)).setCell ⟨w2.heap.size, 3, none⟩ (.string (bodyE (kidE e 1)))) from (hb4.setCell (p:=⟨w2.heap.size, 3, none⟩) (by show _ ≤ w2.heap.size; omega) (.string (bodyE (kidE e 1)))))
  have HM9:=Lib.hid (show MAt w3 (fun _=>False) { zero with id:=numAt e 0, op:=6, ref:=rf, dn:=bodyE (kidE e 1) } (ic2.setIfInBounds 3 (.string (bodyE (kidE e 1)))) from (MAt.set_dn (HM2.out w3 (fun _=>False)) (bodyE (kidE e 1)) (by unfold maxLen; omega)))
  generalize hcs : (ic2.setIfInBounds 3 (.string (bodyE (kidE e 1)))) = cs9 at BM9 HM9
  go_wp2_with (first | (refine wpList_mark (.load 28 (.tmp 4)) rfl ?_; refine wpList_load_row rfl 28 _ rfl w2.heap.size rfl _ cs9 (0, 0) _ BM9.out Tryz.underlying28 rfl (by rw [infoM, HM9.out.size]) ?_) | (refine wpList_mark (.store 28 (.tmp 2) (.tmp 114)) rfl ?_; refine wpList_store_row rfl 28 _ _ rfl (w.heap.size + 1) cs9 rfl rfl 28 zs BR9.out (by rw [infoM, HM9.out.size]) (hz.trans HM9.out.size.symm) HM9.out.one ?_))
  refine bodyPost_ret (results_cell_row rfl _ _ (w.heap.size + 1) _ cs9 (0, 0) _ rfl (setRow_heap _ _ _ cs9 _ _ BR9.out) Tryz.underlying28 rfl (by rw [infoM, HM9.out.size])) rfl ⟨cs9, rfl, below_setRow hb9.out (by omega) cs9, HRD.out ▸ HM9.out.imp (fun _ h=>h.elim) (fun _ h=>h.elim)⟩
 by_cases h7 : O = 7
 ·subst h7
  have hrd : rdMW e = { zero with id:=numAt e 0, op:=7, ref:=rf, dn:=textAt (kidE e 1) 0, rdn:=textAt (kidE e 1) 1, del:=flagAt (kidE e 1) 2, has:=decide (3 < (kidsE (kidE e 1)).length), sup:=textAt (kidE e 1) 3 }:=by
   unfold rdMW rdM; simp only [hop, hrf]; rfl
  have ht0:=(hfew.kid 1).text 0
  have ht1:=(hfew.kid 1).text 1
  have ht3:=(hfew.kid 1).text 3
  generalize hhs : decide (3 < (kidsE (kidE e 1)).length) = hs at hrd
  have HHS:=Lib.hid hhs
  clear hhs
  have HRD:=Lib.hid hrd
  clear hrd
  go_wp2_with fail
  refine wp_region_noPanic ?_
  refine wp_region_held_drew (S:=Fe w w1.heap.size (cO e A1 n1 c1) w2.heap.size 28 23 (w.heap.size + 1) zs) (by kernel_rfl) (show Fe w w1.heap.size (cO e A1 n1 c1) w2.heap.size 28 23 (w.heap.size + 1) zs _ from ⟨⟨BO4, ⟨_, hs23, BM4⟩, hb4⟩, BR4⟩).drew (fun hH0=>?_)
  have BM5:=BM4.drew
  have hK5:=(show Below _ _ _ from hK4).drew
  refine Rg.tk 0 76 (.agg (cO e A1 n1 c1)) rfl (by kernel_rfl) (fun _ _ _ h=>h) (fun w' h=>run_loadRow rfl rfl h.1.1 Tryz.underlying57 rfl infoE3) hH0 ?_
  refine Rg.tk 2 78 (.agg (cO e A1 n1 c1)) rfl (by kernel_rfl) (fun _ _ _ h=>h) (fun w' h=>run_loadRow rfl rfl h.1.1 Tryz.underlying57 rfl infoE3) hH0 ?_
  refine Rg.tk 4 80 (.agg (cO e A1 n1 c1)) rfl (by kernel_rfl) (fun _ _ _ h=>h) (fun w' h=>run_loadRow rfl rfl h.1.1 Tryz.underlying57 rfl infoE3) hH0 ?_
  refine Rg.cl 1 77 rfl (by kernel_rfl) 94 #[.agg (cO e A1 n1 c1), .int .i64 0] (by kernel_rfl) (textAt_any (kidE e 1) 0 _ _ A1 _ c1 _ ((HLk.out.kept hK5).more hK5.size)) ?_
  rintro _ wx0 ⟨rfl, hx0⟩
  have hH1:=hH0.past hx0
  refine ⟨_, rfl, hH1, ?_⟩
  have BX0:=BM5.past hx0
  have KX0:=hK5.trans (hx0.mono hK5.size)
  refine Rg.tk 6 82 (.pointer (some ⟨w2.heap.size, 3, none⟩)) rfl (by kernel_rfl) (fun _ _ _ h=>h) (fun _ _=>by kernel_rfl) hH1 ?_
  refine Rg.frame _ (by simp only [Rg.pu, List.set]; rfl) ?_
  refine Rg.cl 3 79 rfl (by kernel_rfl) 94 #[.agg (cO e A1 n1 c1), .int .i64 1] (by kernel_rfl) (textAt_any (kidE e 1) 1 _ _ A1 _ c1 _ ((HLk.out.kept KX0).more KX0.size)) ?_
  rintro _ wx1 ⟨rfl, hx1⟩
  have hH2:=hH1.past hx1
  refine ⟨_, rfl, hH2, ?_⟩
  have BX1:=BX0.past hx1
  have KX1:=KX0.trans (hx1.mono KX0.size)
  refine Rg.cl 5 81 rfl (by kernel_rfl) 101 #[.agg (cO e A1 n1 c1), .int .i64 2] (by kernel_rfl) (flagAt_any (kidE e 1) 2 _ _ A1 _ c1 _ ((HLk.out.kept KX1).more KX1.size)) ?_
  rintro _ wx2 ⟨rfl, hx2⟩
  have hH3:=hH2.past hx2
  refine ⟨_, rfl, hH3, ?_⟩
  have BX2:=BX1.past hx2
  have KX2:=KX1.trans (hx2.mono KX1.size)
  have hH4:=hH3.cell n12 n31 (by omega) 3 (.string (textAt (kidE e 1) 0))
  refine Rg.sk 7 _ rfl (by kernel_rfl) (run_storeC (v:=.string (textAt (kidE e 1) 0)) (by kernel_rfl) BX2 (by simp [hs23]) rfl rfl rfl rfl rfl) hH4 ?_
  have BY0:=BX2.set_ 3 (.string (textAt (kidE e 1) 0))
  have KY0:=KX2.setCell (p:=⟨w2.heap.size, 3, none⟩) (by show _ ≤ w2.heap.size; simp; omega) (.string (textAt (kidE e 1) 0))
  refine Rg.tk 8 83 (.pointer (some ⟨w2.heap.size, 15, none⟩)) rfl (by kernel_rfl) (fun _ _ _ h=>h) (fun _ _=>by kernel_rfl) hH4 ?_
  have hH5:=hH4.cell n12 n31 (by omega) 15 (.string (textAt (kidE e 1) 1))
  refine Rg.sk 9 _ rfl (by kernel_rfl) (run_storeC (v:=.string (textAt (kidE e 1) 1)) (by kernel_rfl) BY0 (by simp [hs23]) rfl rfl rfl rfl rfl) hH5 ?_
  have BY1:=BY0.set_ 15 (.string (textAt (kidE e 1) 1))
  have KY1:=KY0.setCell (p:=⟨w2.heap.size, 15, none⟩) (by show _ ≤ w2.heap.size; simp; omega) (.string (textAt (kidE e 1) 1))
  refine Rg.tk 10 84 (.pointer (some ⟨w2.heap.size, 16, none⟩)) rfl (by kernel_rfl) (fun _ _ _ h=>h) (fun _ _=>by kernel_rfl) hH5 ?_
  have hH6:=hH5.cell n12 n31 (by omega) 16 (.bool (flagAt (kidE e 1) 2))
  refine Rg.sk 11 _ rfl (by kernel_rfl) (run_storeC (v:=.bool (flagAt (kidE e 1) 2)) (by kernel_rfl) BY1 (by simp [hs23]) rfl rfl rfl rfl rfl) hH6 ?_
  have BY2:=BY1.set_ 16 (.bool (flagAt (kidE e 1) 2))
  have KY2:=KY1.setCell (p:=⟨w2.heap.size, 16, none⟩) (by show _ ≤ w2.heap.size; simp; omega) (.bool (flagAt (kidE e 1) 2))
  refine Rg.frame _ (by simp only [Rg.pu, List.set]; rfl) ?_
  refine wpAnyH_done (by kernel_rfl) ?_ _
  refine NoPanic.normal ?_
  have hn1:=(kids_of HLk.out).1
  have hq : decide ((3 : Int) < (n1 : Int)) = hs:=by rw [hn1, ← HHS.out]; exact decide_eq_decide.2 (by omega)
  clear hn1
  go_wp2_with fail
  refine wp_region_noPanic ?_
  refine wp_region_held_drew (S:=Fe w w1.heap.size (cO e A1 n1 c1) w2.heap.size 28 23 (w.heap.size + 1) zs) (by kernel_rfl) hH6.drew (fun hI0=>?_)
  have BZ0:=BY2.drew
  have KZ0:=KY2.drew
  refine Rg.tk 0 85 (.pointer (some ⟨w1.heap.size, 2, none⟩)) rfl (by kernel_rfl) (fun _ _ _ h=>h) (fun _ _=>by kernel_rfl) hI0 ?_
  refine Rg.tk 1 86 (.slice A1 n1 c1) rfl (by kernel_rfl) (fun _ _ _ h=>h) (fun w' h=>run_cell rfl rfl (by kernel_rfl) ((h.1.1.cell 2).trans rfl)) hI0 ?_
  refine Rg.tk 2 87 (.int .i64 n1) rfl (by kernel_rfl) (fun _ _ _ h=>h) (fun _ _=>by kernel_rfl) hI0 ?_
  refine Rg.tk 3 88 (.bool hs) rfl (by kernel_rfl) (fun _ _ _ h=>h) (fun _ _=>by rw [← hq]; kernel_rfl) hI0 ?_
  refine Rg.tk 4 89 (.agg (cO e A1 n1 c1)) rfl (by kernel_rfl) (fun _ _ _ h=>h) (fun w' h=>run_loadRow rfl rfl h.1.1 Tryz.underlying57 rfl infoE3) hI0 ?_
  refine Rg.frame _ (by simp only [Rg.pu, List.set]; rfl) ?_
  refine Rg.tk 6 91 (.pointer (some ⟨w2.heap.size, 17, none⟩)) rfl (by kernel_rfl) (fun _ _ _ h=>h) (fun _ _=>by kernel_rfl) hI0 ?_
  refine Rg.cl 5 90 rfl (by kernel_rfl) 94 #[.agg (cO e A1 n1 c1), .int .i64 3] (by kernel_rfl) (textAt_any (kidE e 1) 3 _ _ A1 _ c1 _ ((HLk.out.kept KZ0).more KZ0.size)) ?_
  rintro _ wz3 ⟨rfl, hz3⟩
  have hI1:=hI0.past hz3
  refine ⟨_, rfl, hI1, ?_⟩
  have BZ1:=BZ0.past hz3
  have hI2:=hI1.cell n12 n31 (by omega) 17 (.bool hs)
  refine Rg.sk 7 _ rfl (by kernel_rfl) (run_storeC (v:=.bool hs) (by kernel_rfl) BZ1 (by simp [hs23]) rfl rfl rfl rfl rfl) hI2 ?_
  have BZ2:=BZ1.set_ 17 (.bool hs)
  refine Rg.tk 8 92 (.pointer (some ⟨w2.heap.size, 18, none⟩)) rfl (by kernel_rfl) (fun _ _ _ h=>h) (fun _ _=>by kernel_rfl) hI2 ?_
  have hI3:=hI2.cell n12 n31 (by omega) 18 (.string (textAt (kidE e 1) 3))
  refine Rg.sk 9 _ rfl (by kernel_rfl) (run_storeC (v:=.string (textAt (kidE e 1) 3)) (by kernel_rfl) BZ2 (by simp [hs23]) rfl rfl rfl rfl rfl) hI3 ?_
  refine Rg.frame _ (by simp only [Rg.pu, List.set]; rfl) ?_
  refine wpAnyH_done (by kernel_rfl) ?_ _
  refine NoPanic.normal ?_
  have BM9:=Lib.hid (BZ2.set_ 18 (.string (textAt (kidE e 1) 3)))
  have BR9:=Lib.hid hI3.2
  have hb9:=Lib.hid hI3.1.2.2
  have HM9:=Lib.hid (show MAt w3 (fun _=>False) { zero with id:=numAt e 0, op:=7, ref:=rf, dn:=textAt (kidE e 1) 0, rdn:=textAt (kidE e 1) 1, del:=flagAt (kidE e 1) 2, has:=hs, sup:=textAt (kidE e 1) 3 } (((((ic2.setIfInBounds 3 (.string (textAt (kidE e 1) 0))).setIfInBounds 15 (.string (textAt (kidE e 1) 1))).setIfInBounds 16 (.bool (flagAt (kidE e 1) 2))).setIfInBounds 17 (.bool hs)).setIfInBounds 18 (.string (textAt (kidE e 1) 3))) from (MAt.set_sup (MAt.set_has (MAt.set_del (MAt.set_rdn (MAt.set_dn (HM2.out _ _) (textAt (kidE e 1) 0) (by unfold maxLen; omega)) (textAt (kidE e 1) 1) (by unfold maxLen; omega)) (flagAt (kidE e 1) 2)) hs) (textAt (kidE e 1) 3) (by unfold maxLen; omega)))
  generalize (((((ic2.setIfInBounds 3 (.string (textAt (kidE e 1) 0))).setIfInBounds 15 (.string (textAt (kidE e 1) 1))).setIfInBounds 16 (.bool (flagAt (kidE e 1) 2))).setIfInBounds 17 (.bool hs)).setIfInBounds 18 (.string (textAt (kidE e 1) 3))) = cs9 at BM9 HM9
  go_wp2_with (first | (refine wpList_mark (.load 28 (.tmp 4)) rfl ?_; refine wpList_load_row rfl 28 _ rfl w2.heap.size rfl _ cs9 (0, 0) _ BM9.out Tryz.underlying28 rfl (by rw [infoM, HM9.out.size]) ?_) | (refine wpList_mark (.store 28 (.tmp 2) (.tmp 114)) rfl ?_; refine wpList_store_row rfl 28 _ _ rfl (w.heap.size + 1) cs9 rfl rfl 28 zs BR9.out (by rw [infoM, HM9.out.size]) (hz.trans HM9.out.size.symm) HM9.out.one ?_))
  refine bodyPost_ret (results_cell_row rfl _ _ (w.heap.size + 1) _ cs9 (0, 0) _ rfl (setRow_heap _ _ _ cs9 _ _ BR9.out) Tryz.underlying28 rfl (by rw [infoM, HM9.out.size])) rfl ⟨cs9, rfl, below_setRow hb9.out (by omega) cs9, HRD.out ▸ HM9.out.imp (fun _ h=>h.elim) (fun _ h=>h.elim)⟩
 by_cases h8 : O = 8
 ·subst h8
  have hrd : rdMW e = { zero with id:=numAt e 0, op:=8, ref:=rf, dn:=textAt (kidE e 1) 0, attr:=textAt (kidE (kidE e 1) 1) 0, value:=textAt (kidE (kidE e 1) 1) 1 }:=by
   unfold rdMW rdM; simp only [hop, hrf]; rfl
  have ht0:=(hfew.kid 1).text 0
  have hs0:=((hfew.kid 1).kid 1).text 0
  have hs1':=((hfew.kid 1).kid 1).text 1
  have HRD:=Lib.hid hrd
  clear hrd
  go_wp2_with fail
  refine wp_region_noPanic ?_
  refine wp_region_held_drew (S:=Fe w w1.heap.size (cO e A1 n1 c1) w2.heap.size 28 23 (w.heap.size + 1) zs) (by kernel_rfl) (show Fe w w1.heap.size (cO e A1 n1 c1) w2.heap.size 28 23 (w.heap.size + 1) zs _ from ⟨⟨BO4, ⟨_, hs23, BM4⟩, hb4⟩, BR4⟩).drew (fun hH0=>?_)
  have BM5:=BM4.drew
  have hK5:=(show Below _ _ _ from hK4).drew
  refine Rg.tk 0 95 (.agg (cO e A1 n1 c1)) rfl (by kernel_rfl) (fun _ _ _ h=>h) (fun w' h=>run_loadRow rfl rfl h.1.1 Tryz.underlying57 rfl infoE3) hH0 ?_
  refine Rg.tk 2 97 (.agg (cO e A1 n1 c1)) rfl (by kernel_rfl) (fun _ _ _ h=>h) (fun w' h=>run_loadRow rfl rfl h.1.1 Tryz.underlying57 rfl infoE3) hH0 ?_
  refine Rg.tk 5 100 (.agg (cO e A1 n1 c1)) rfl (by kernel_rfl) (fun _ _ _ h=>h) (fun w' h=>run_loadRow rfl rfl h.1.1 Tryz.underlying57 rfl infoE3) hH0 ?_
  refine Rg.cl 1 96 rfl (by kernel_rfl) 94 #[.agg (cO e A1 n1 c1), .int .i64 0] (by kernel_rfl) (textAt_any (kidE e 1) 0 _ _ A1 _ c1 _ ((HLk.out.kept hK5).more hK5.size)) ?_
  rintro _ wx0 ⟨rfl, hx0⟩
  have hH1:=hH0.past hx0
  refine ⟨_, rfl, hH1, ?_⟩
  have BX0:=BM5.past hx0
  have KX0:=hK5.trans (hx0.mono hK5.size)
  refine Rg.tk 8 103 (.pointer (some ⟨w2.heap.size, 3, none⟩)) rfl (by kernel_rfl) (fun _ _ _ h=>h) (fun _ _=>by kernel_rfl) hH1 ?_
  refine Rg.frame _ (by simp only [Rg.pu, List.set]; rfl) ?_
  refine Rg.cl 3 98 rfl (by kernel_rfl) 91 #[.agg (cO e A1 n1 c1), .int .i64 1] (by kernel_rfl) (kid_any (kidE e 1) 1 _ _ A1 _ c1 _ ((HLk.out.kept KX0).more KX0.size)) ?_
  rintro _ wx1 ⟨t2, b2, A2, m2, c2, rfl, hx1, hLx⟩
  have hH2:=hH1.past hx1
  refine ⟨_, rfl, hH2, ?_⟩
  have BX1:=BX0.past hx1
  have KX1:=KX0.trans (hx1.mono KX0.size)
  refine Rg.cl 4 99 rfl (by kernel_rfl) 94 #[.agg #[.int .u8 (t2 : Nat), .string b2, .slice A2 m2 c2], .int .i64 0] (by kernel_rfl) (textAt_any (kidE (kidE e 1) 1) 0 t2 b2 A2 m2 c2 _ (hLx.past hx1)) ?_
  rintro _ wx2 ⟨rfl, hx2⟩
  have hH3:=hH2.past hx2
  refine ⟨_, rfl, hH3, ?_⟩
  have BX2:=BX1.past hx2
  have KX2:=KX1.trans (hx2.mono KX1.size)
  refine Rg.cl 6 101 rfl (by kernel_rfl) 91 #[.agg (cO e A1 n1 c1), .int .i64 1] (by kernel_rfl) (kid_any (kidE e 1) 1 _ _ A1 _ c1 _ ((HLk.out.kept KX2).more KX2.size)) ?_
  rintro _ wx3 ⟨t3, b3, A3, m3, c3, rfl, hx3, hLy⟩
  have hH4:=hH3.past hx3
  refine ⟨_, rfl, hH4, ?_⟩
  have BX3:=BX2.past hx3
  refine Rg.cl 7 102 rfl (by kernel_rfl) 94 #[.agg #[.int .u8 (t3 : Nat), .string b3, .slice A3 m3 c3], .int .i64 1] (by kernel_rfl) (textAt_any (kidE (kidE e 1) 1) 1 t3 b3 A3 m3 c3 _ (hLy.past hx3)) ?_
  rintro _ wx4 ⟨rfl, hx4⟩
  have hH5:=hH4.past hx4
  refine ⟨_, rfl, hH5, ?_⟩
  have BX4:=BX3.past hx4
  have hH6:=hH5.cell n12 n31 (by omega) 3 (.string (textAt (kidE e 1) 0))
  refine Rg.sk 9 _ rfl (by kernel_rfl) (run_storeC (v:=.string (textAt (kidE e 1) 0)) (by kernel_rfl) BX4 (by simp [hs23]) rfl rfl rfl rfl rfl) hH6 ?_
  have BY0:=BX4.set_ 3 (.string (textAt (kidE e 1) 0))
  refine Rg.tk 10 104 (.pointer (some ⟨w2.heap.size, 19, none⟩)) rfl (by kernel_rfl) (fun _ _ _ h=>h) (fun _ _=>by kernel_rfl) hH6 ?_
  refine Rg.frame _ (by simp only [Rg.pu, List.set]; rfl) ?_
  have hH7:=hH6.cell n12 n31 (by omega) 19 (.string (textAt (kidE (kidE e 1) 1) 0))
  refine Rg.sk 11 _ rfl (by kernel_rfl) (run_storeC (v:=.string (textAt (kidE (kidE e 1) 1) 0)) (by kernel_rfl) BY0 (by simp [hs23]) rfl rfl rfl rfl rfl) hH7 ?_
  have BY1:=BY0.set_ 19 (.string (textAt (kidE (kidE e 1) 1) 0))
  refine Rg.tk 12 105 (.pointer (some ⟨w2.heap.size, 20, none⟩)) rfl (by kernel_rfl) (fun _ _ _ h=>h) (fun _ _=>by kernel_rfl) hH7 ?_
  have hH8:=hH7.cell n12 n31 (by omega) 20 (.string (textAt (kidE (kidE e 1) 1) 1))
  refine Rg.sk 13 _ rfl (by kernel_rfl) (run_storeC (v:=.string (textAt (kidE (kidE e 1) 1) 1)) (by kernel_rfl) BY1 (by simp [hs23]) rfl rfl rfl rfl rfl) hH8 ?_
  have BY2:=BY1.set_ 20 (.string (textAt (kidE (kidE e 1) 1) 1))
  refine Rg.frame _ (by simp only [Rg.pu, List.set]; rfl) ?_
  refine wpAnyH_done (by kernel_rfl) ?_ _
  refine NoPanic.normal ?_
  have BM9:=Lib.hid BY2
  have BR9:=Lib.hid hH8.2
  have hb9:=Lib.hid hH8.1.2.2
  have HM9:=Lib.hid (show MAt w3 (fun _=>False) { zero with id:=numAt e 0, op:=8, ref:=rf, dn:=textAt (kidE e 1) 0, attr:=textAt (kidE (kidE e 1) 1) 0, value:=textAt (kidE (kidE e 1) 1) 1 } (((ic2.setIfInBounds 3 (.string (textAt (kidE e 1) 0))).setIfInBounds 19 (.string (textAt (kidE (kidE e 1) 1) 0))).setIfInBounds 20 (.string (textAt (kidE (kidE e 1) 1) 1))) from (MAt.set_value (MAt.set_attr (MAt.set_dn (HM2.out _ _) (textAt (kidE e 1) 0) (by unfold maxLen; omega)) (textAt (kidE (kidE e 1) 1) 0) (by unfold maxLen; omega)) (textAt (kidE (kidE e 1) 1) 1) (by unfold maxLen; omega)))
  generalize (((ic2.setIfInBounds 3 (.string (textAt (kidE e 1) 0))).setIfInBounds 19 (.string (textAt (kidE (kidE e 1) 1) 0))).setIfInBounds 20 (.string (textAt (kidE (kidE e 1) 1) 1))) = cs9 at BM9 HM9
  go_wp2_with (first | (refine wpList_mark (.load 28 (.tmp 4)) rfl ?_; refine wpList_load_row rfl 28 _ rfl w2.heap.size rfl _ cs9 (0, 0) _ BM9.out Tryz.underlying28 rfl (by rw [infoM, HM9.out.size]) ?_) | (refine wpList_mark (.store 28 (.tmp 2) (.tmp 114)) rfl ?_; refine wpList_store_row rfl 28 _ _ rfl (w.heap.size + 1) cs9 rfl rfl 28 zs BR9.out (by rw [infoM, HM9.out.size]) (hz.trans HM9.out.size.symm) HM9.out.one ?_))
  refine bodyPost_ret (results_cell_row rfl _ _ (w.heap.size + 1) _ cs9 (0, 0) _ rfl (setRow_heap _ _ _ cs9 _ _ BR9.out) Tryz.underlying28 rfl (by rw [infoM, HM9.out.size])) rfl ⟨cs9, rfl, below_setRow hb9.out (by omega) cs9, HRD.out ▸ HM9.out.imp (fun _ h=>h.elim) (fun _ h=>h.elim)⟩
 by_cases h9 : O = 9
 ·subst h9
  have hrd : rdMW e = { zero with id:=numAt e 0, op:=9, ref:=rf, code:=numAt (kidE e 1) 0, matched:=textAt (kidE e 1) 1 }:=by
   unfold rdMW rdM; simp only [hop, hrf]; rfl
  have hz1:=(hfew.kid 1).text 1
  have HRD:=Lib.hid hrd
  clear hrd
  go_wp2_with fail
  refine wp_region_noPanic ?_
  refine wp_region_held_drew (S:=Fe w w1.heap.size (cO e A1 n1 c1) w2.heap.size 28 23 (w.heap.size + 1) zs) (by kernel_rfl) (show Fe w w1.heap.size (cO e A1 n1 c1) w2.heap.size 28 23 (w.heap.size + 1) zs _ from ⟨⟨BO4, ⟨_, hs23, BM4⟩, hb4⟩, BR4⟩).drew (fun hH0=>?_)
  have BM5:=BM4.drew
  have hK5:=(show Below _ _ _ from hK4).drew
  refine Rg.tk 0 108 (.agg (cO e A1 n1 c1)) rfl (by kernel_rfl) (fun _ _ _ h=>h) (fun w' h=>run_loadRow rfl rfl h.1.1 Tryz.underlying57 rfl infoE3) hH0 ?_
  refine Rg.tk 2 110 (.agg (cO e A1 n1 c1)) rfl (by kernel_rfl) (fun _ _ _ h=>h) (fun w' h=>run_loadRow rfl rfl h.1.1 Tryz.underlying57 rfl infoE3) hH0 ?_
  refine Rg.cl 1 109 rfl (by kernel_rfl) 92 #[.agg (cO e A1 n1 c1), .int .i64 0] (by kernel_rfl) (numberAt_any (kidE e 1) 0 _ _ A1 _ c1 _ ((HLk.out.kept hK5).more hK5.size)) ?_
  rintro _ w4 ⟨rfl, hb5⟩
  have hH1:=hH0.past hb5
  refine ⟨_, rfl, hH1, ?_⟩
  have BM6:=BM5.past hb5
  have hK6:=hK5.trans (hb5.mono hK5.size)
  refine Rg.tk 4 112 (.pointer (some ⟨w2.heap.size, 21, none⟩)) rfl (by kernel_rfl) (fun _ _ _ h=>h) (fun _ _=>by kernel_rfl) hH1 ?_
  refine Rg.cl 3 111 rfl (by kernel_rfl) 94 #[.agg (cO e A1 n1 c1), .int .i64 1] (by kernel_rfl) (textAt_any (kidE e 1) 1 _ _ A1 _ c1 _ ((HLk.out.kept hK6).more hK6.size)) ?_
  rintro _ w5 ⟨rfl, hb6⟩
  have hH2:=hH1.past hb6
  refine ⟨_, rfl, hH2, ?_⟩
  refine Rg.frame _ (by simp only [Rg.pu, List.set]; rfl) ?_
  have BM7:=BM6.past hb6
  have hH3:=hH2.cell n12 n31 (by omega) 21 (.int .i64 (numAt (kidE e 1) 0))
  refine Rg.sk 5 _ rfl (by kernel_rfl) (run_storeC (v:=.int .i64 (numAt (kidE e 1) 0)) (by kernel_rfl) BM7 (by rw [hs23]; decide) rfl rfl rfl rfl rfl) hH3 ?_
  have BM8:=BM7.set_ 21 (.int .i64 (numAt (kidE e 1) 0))
  refine Rg.tk 6 113 (.pointer (some ⟨w2.heap.size, 22, none⟩)) rfl (by kernel_rfl) (fun _ _ _ h=>h) (fun _ _=>by kernel_rfl) hH3 ?_
  have hH4:=hH3.cell n12 n31 (by omega) 22 (.string (textAt (kidE e 1) 1))
  refine Rg.sk 7 _ rfl (by kernel_rfl) (run_storeC (v:=.string (textAt (kidE e 1) 1)) (by kernel_rfl) BM8 (by rw [Array.size_setIfInBounds, hs23]; decide) rfl rfl rfl rfl rfl) hH4 ?_
  refine Rg.frame _ (by simp only [Rg.pu, List.set]; rfl) ?_
  refine wpAnyH_done (by kernel_rfl) ?_ _
  refine NoPanic.normal ?_
  have BM9:=Lib.hid (BM8.set_ 22 (.string (textAt (kidE e 1) 1)))
  have BR9:=Lib.hid hH4.2
  have hb9:=Lib.hid hH4.1.2.2
  have HM9:=Lib.hid (show MAt w3 (fun _=>False) { zero with id:=numAt e 0, op:=9, ref:=rf, code:=numAt (kidE e 1) 0, matched:=textAt (kidE e 1) 1 } ((ic2.setIfInBounds 21 (.int .i64 (numAt (kidE e 1) 0))).setIfInBounds 22 (.string (textAt (kidE e 1) 1))) from (MAt.set_matched (MAt.set_code (HM2.out _ _) (numAt (kidE e 1) 0)) (textAt (kidE e 1) 1) (by unfold maxLen; omega)))
  generalize ((ic2.setIfInBounds 21 (.int .i64 (numAt (kidE e 1) 0))).setIfInBounds 22 (.string (textAt (kidE e 1) 1))) = cs9 at BM9 HM9
  go_wp2_with (first | (refine wpList_mark (.load 28 (.tmp 4)) rfl ?_; refine wpList_load_row rfl 28 _ rfl w2.heap.size rfl _ cs9 (0, 0) _ BM9.out Tryz.underlying28 rfl (by rw [infoM, HM9.out.size]) ?_) | (refine wpList_mark (.store 28 (.tmp 2) (.tmp 114)) rfl ?_; refine wpList_store_row rfl 28 _ _ rfl (w.heap.size + 1) cs9 rfl rfl 28 zs BR9.out (by rw [infoM, HM9.out.size]) (hz.trans HM9.out.size.symm) HM9.out.one ?_))
  refine bodyPost_ret (results_cell_row rfl _ _ (w.heap.size + 1) _ cs9 (0, 0) _ rfl (setRow_heap _ _ _ cs9 _ _ BR9.out) Tryz.underlying28 rfl (by rw [infoM, HM9.out.size])) rfl ⟨cs9, rfl, below_setRow hb9.out (by omega) cs9, HRD.out ▸ HM9.out.imp (fun _ h=>h.elim) (fun _ h=>h.elim)⟩
 by_cases h10 : O = 10
 ·subst h10
  have hrd : rdMW e = { zero with id:=numAt e 0, op:=10, ref:=rf, dn:=textAt (kidE e 1) 0, mods:=((kidsE (kidE (kidE e 1) 1)).map rdAttr) }:=by
   unfold rdMW rdM; simp only [hop, hrf]; rfl
  have ht0:=(hfew.kid 1).text 0
  have hf1:=(hfew.kid 1).kid 1
  have hln : ((kidsE (kidE (kidE e 1) 1)).map rdAttr).length ≤ maxLen:=by rw [List.length_map]; have:=hf1.len; unfold maxLen; omega
  have HE:=Lib.hid (fun t b A n c w h=>eachOfA_any (kidE (kidE e 1) 1) t b A n c w hf1 h)
  generalize ((kidsE (kidE (kidE e 1) 1)).map rdAttr) = LL at hln HE hrd
  have HRD:=Lib.hid hrd
  clear hrd
  go_wp2_with fail
  refine wp_region_noPanic ?_
  refine wp_region_held_drew (S:=Fe w w1.heap.size (cO e A1 n1 c1) w2.heap.size 28 23 (w.heap.size + 1) zs) (by kernel_rfl) (show Fe w w1.heap.size (cO e A1 n1 c1) w2.heap.size 28 23 (w.heap.size + 1) zs _ from ⟨⟨BO4, ⟨_, hs23, BM4⟩, hb4⟩, BR4⟩).drew (fun hH0=>?_)
  have BM5:=BM4.drew
  have hK5:=(show Below _ _ _ from hK4).drew
  refine Rg.tk 0 62 (.agg (cO e A1 n1 c1)) rfl (by kernel_rfl) (fun _ _ _ h=>h) (fun w' h=>run_loadRow rfl rfl h.1.1 Tryz.underlying57 rfl infoE3) hH0 ?_
  refine Rg.tk 2 64 (.agg (cO e A1 n1 c1)) rfl (by kernel_rfl) (fun _ _ _ h=>h) (fun w' h=>run_loadRow rfl rfl h.1.1 Tryz.underlying57 rfl infoE3) hH0 ?_
  refine Rg.cl 1 63 rfl (by kernel_rfl) 94 #[.agg (cO e A1 n1 c1), .int .i64 0] (by kernel_rfl) (textAt_any (kidE e 1) 0 _ _ A1 _ c1 _ ((HLk.out.kept hK5).more hK5.size)) ?_
  rintro _ wx0 ⟨rfl, hx0⟩
  have hH1:=hH0.past hx0
  refine ⟨_, rfl, hH1, ?_⟩
  have BX0:=BM5.past hx0
  have KX0:=hK5.trans (hx0.mono hK5.size)
  refine Rg.tk 5 67 (.pointer (some ⟨w2.heap.size, 3, none⟩)) rfl (by kernel_rfl) (fun _ _ _ h=>h) (fun _ _=>by kernel_rfl) hH1 ?_
  refine Rg.cl 3 65 rfl (by kernel_rfl) 91 #[.agg (cO e A1 n1 c1), .int .i64 1] (by kernel_rfl) (kid_any (kidE e 1) 1 _ _ A1 _ c1 _ ((HLk.out.kept KX0).more KX0.size)) ?_
  rintro _ wx1 ⟨t2, b2, A2, m2, c2, rfl, hx1, hLx⟩
  have hH2:=hH1.past hx1
  refine ⟨_, rfl, hH2, ?_⟩
  refine Rg.frame _ (by simp only [Rg.pu, List.set]; rfl) ?_
  have BX1:=BX0.past hx1
  have hT1:=BX1.lt
  have hR1:=hH2.2.lt
  refine Rg.cl 4 66 rfl (by kernel_rfl) 98 #[.agg #[.int .u8 (t2 : Nat), .string b2, .slice A2 m2 c2], .func (.func 100) #[] #[]] (by kernel_rfl) (HE.out t2 b2 A2 m2 c2 _ (hLx.past hx1)) ?_
  rintro _ wx2 ⟨A3, c3, ds3, rfl, hx2, hc3, hM3⟩
  have hH3:=hH2.past hx2
  refine ⟨_, rfl, hH3, ?_⟩
  have BX2:=BX1.past hx2
  have hH4:=hH3.cell n12 n31 (by omega) 3 (.string (textAt (kidE e 1) 0))
  refine Rg.sk 6 _ rfl (by kernel_rfl) (run_storeC (v:=.string (textAt (kidE e 1) 0)) (by kernel_rfl) BX2 (by simp [hs23]) rfl rfl rfl rfl rfl) hH4 ?_
  have BY0:=BX2.set_ 3 (.string (textAt (kidE e 1) 0))
  refine Rg.tk 7 68 (.pointer (some ⟨w2.heap.size, 14, none⟩)) rfl (by kernel_rfl) (fun _ _ _ h=>h) (fun _ _=>by kernel_rfl) hH4 ?_
  have hH5:=hH4.cell n12 n31 (by omega) 14 (.slice A3 LL.length c3)
  refine Rg.sk 8 _ rfl (by kernel_rfl) (run_storeC (v:=.slice A3 LL.length c3) (by kernel_rfl) BY0 (by simp [hs23]) rfl rfl rfl rfl rfl) hH5 ?_
  refine Rg.frame _ (by simp only [Rg.pu, List.set]; rfl) ?_
  refine wpAnyH_done (by kernel_rfl) ?_ _
  refine NoPanic.normal ?_
  have BM9:=Lib.hid (BY0.set_ 14 (.slice A3 LL.length c3))
  have BR9:=Lib.hid hH5.2
  have hb9:=Lib.hid hH5.1.2.2
  have hM9 : MosAt ((wx2.setCell ⟨w2.heap.size, 3, none⟩ (.string (textAt (kidE e 1) 0))).setCell ⟨w2.heap.size, 14, none⟩ (.slice A3 LL.length c3)) (fun bb=>wx1.heap.size ≤ bb ∧ bb < ((wx2.setCell ⟨w2.heap.size, 3, none⟩ (.string (textAt (kidE e 1) 0))).setCell ⟨w2.heap.size, 14, none⟩ (.slice A3 LL.length c3)).heap.size) A3 LL ds3:=hM3.imp (fun bb hb=>⟨hb.1, by simp [World.setCell]; exact hb.2⟩) (fun p hp=>by
   have p1 : p.block ≠ w2.heap.size:=by have:=hp.1; omega
   rw [World.cell?_setCell_other _ _ _ _ (fun e=>p1 (by rw [← e])), World.cell?_setCell_other _ _ _ _ (fun e=>p1 (by rw [← e]))])
  have HM9:=Lib.hid (show MAt ((wx2.setCell ⟨w2.heap.size, 3, none⟩ (.string (textAt (kidE e 1) 0))).setCell ⟨w2.heap.size, 14, none⟩ (.slice A3 LL.length c3)) (fun bb=>wx1.heap.size ≤ bb ∧ bb < ((wx2.setCell ⟨w2.heap.size, 3, none⟩ (.string (textAt (kidE e 1) 0))).setCell ⟨w2.heap.size, 14, none⟩ (.slice A3 LL.length c3)).heap.size) { zero with id:=numAt e 0, op:=10, ref:=rf, dn:=textAt (kidE e 1) 0, mods:=LL } ((ic2.setIfInBounds 3 (.string (textAt (kidE e 1) 0))).setIfInBounds 14 (.slice A3 LL.length c3)) from (MAt.set_mods (MAt.set_dn (HM2.out _ _) (textAt (kidE e 1) 0) (by unfold maxLen; omega)) LL A3 c3 ds3 hM9 hln hc3))
  generalize ((ic2.setIfInBounds 3 (.string (textAt (kidE e 1) 0))).setIfInBounds 14 (.slice A3 LL.length c3)) = cs9 at BM9 HM9
  go_wp2_with (first | (refine wpList_mark (.load 28 (.tmp 4)) rfl ?_; refine wpList_load_row rfl 28 _ rfl w2.heap.size rfl _ cs9 (0, 0) _ BM9.out Tryz.underlying28 rfl (by rw [infoM, HM9.out.size]) ?_) | (refine wpList_mark (.store 28 (.tmp 2) (.tmp 114)) rfl ?_; refine wpList_store_row rfl 28 _ _ rfl (w.heap.size + 1) cs9 rfl rfl 28 zs BR9.out (by rw [infoM, HM9.out.size]) (hz.trans HM9.out.size.symm) HM9.out.one ?_))
  refine bodyPost_ret (results_cell_row rfl _ _ (w.heap.size + 1) _ cs9 (0, 0) _ rfl (setRow_heap _ _ _ cs9 _ _ BR9.out) Tryz.underlying28 rfl (by rw [infoM, HM9.out.size])) rfl ⟨cs9, rfl, below_setRow hb9.out (by omega) cs9, HRD.out ▸ HM9.out.imp (fun _ h=>⟨by have:=h.1; omega, by rw [setRow_size]; exact h.2⟩) (fun p hp=>cell_setRow_other _ _ _ _ (by have:=hp.1; omega))⟩
 have hrd : rdMW e = { zero with id:=numAt e 0, op:=O, ref:=rf }:=by
  unfold rdMW rdM; simp only [hop, hrf]; rw [if_neg h4, if_neg h1, if_neg h3, if_neg h4, if_neg (by omega), if_neg h6, if_neg h7, if_neg h8, if_neg h9]
 have q1 : (O == 1) = false:=by rw [beq_eq_false_iff_ne]; exact h1
 have q3 : (O == 3) = false:=by rw [beq_eq_false_iff_ne]; exact h3
 have q4 : (O == 4) = false:=by rw [beq_eq_false_iff_ne]; exact h4
 have q5 : (O == 5) = false:=by rw [beq_eq_false_iff_ne]; exact h5
 have q6 : (O == 6) = false:=by rw [beq_eq_false_iff_ne]; exact h6
 have q7 : (O == 7) = false:=by rw [beq_eq_false_iff_ne]; exact h7
 have q8 : (O == 8) = false:=by rw [beq_eq_false_iff_ne]; exact h8
 have q9 : (O == 9) = false:=by rw [beq_eq_false_iff_ne]; exact h9
 have q10 : (O == 10) = false:=by rw [beq_eq_false_iff_ne]; exact h10
 clear h1 h3 h4 h5 h6 h7 h8 h9 h10
 have HRD:=Lib.hid hrd
 clear hrd
 have BM9:=Lib.hid (show Blk ((w3.setCell ⟨w2.heap.size, 1, none⟩ (.int .i64 O)).setCell ⟨w2.heap.size, 2, none⟩ (.int .i64 rf)) w2.heap.size 28 ic2 from BM4)
 have BR9:=Lib.hid (show Blk ((w3.setCell ⟨w2.heap.size, 1, none⟩ (.int .i64 O)).setCell ⟨w2.heap.size, 2, none⟩ (.int .i64 rf)) (w.heap.size + 1) 28 zs from BR4)
 have hb9:=Lib.hid (show Below w.heap.size w ((w3.setCell ⟨w2.heap.size, 1, none⟩ (.int .i64 O)).setCell ⟨w2.heap.size, 2, none⟩ (.int .i64 rf)) from hb4)
 have HM9:=Lib.hid (show MAt w3 (fun _=>False) { zero with id:=numAt e 0, op:=O, ref:=rf } ic2 from (HM2.out w3 (fun _=>False)))
 generalize hcs : ic2 = cs9 at BM9 HM9
 go_wp2_with (first | (refine wpList_mark (.load 28 (.tmp 4)) rfl ?_; refine wpList_load_row rfl 28 _ rfl w2.heap.size rfl _ cs9 (0, 0) _ BM9.out Tryz.underlying28 rfl (by rw [infoM, HM9.out.size]) ?_) | (refine wpList_mark (.store 28 (.tmp 2) (.tmp 114)) rfl ?_; refine wpList_store_row rfl 28 _ _ rfl (w.heap.size + 1) cs9 rfl rfl 28 zs BR9.out (by rw [infoM, HM9.out.size]) (hz.trans HM9.out.size.symm) HM9.out.one ?_))
 refine bodyPost_ret (results_cell_row rfl _ _ (w.heap.size + 1) _ cs9 (0, 0) _ rfl (setRow_heap _ _ _ cs9 _ _ BR9.out) Tryz.underlying28 rfl (by rw [infoM, HM9.out.size])) rfl ⟨cs9, rfl, below_setRow hb9.out (by omega) cs9, HRD.out ▸ HM9.out.imp (fun _ h=>h.elim) (fun _ h=>h.elim)⟩
end Go.Proofs.YtconghaebebncaaGreatDoor.Ms
