import Derived.Test.YtconghaebebncaaGreatDoorZR37
set_option linter.unusedVariables false
set_option maxRecDepth 100000
namespace Go.Proofs.YtconghaebebncaaGreatDoor.Ms
open Go.RowKit
def Fd (w0 : World) (g : Nat) (cs : Array Value) (r : Nat) (t : TypeId) (n : Nat) (w : World) : Prop:=Blk w g 57 cs ∧ (∃ ds, ds.size = n ∧ Blk w r t ds) ∧ Below w0.heap.size w0 w
theorem Fd.past {w0 w w' : World} {g r n : Nat} {t : TypeId} {cs : Array Value} (h : Fd w0 g cs r t n w) (hb : Below w.heap.size w w') : Fd w0 g cs r t n w':=by
 obtain ⟨h1, ⟨ds, h0, h2⟩, h3⟩:=h
 exact ⟨h1.past hb, ⟨ds, h0, h2.past hb⟩, h3.trans (hb.mono h3.size)⟩
theorem Fd.drew {w0 w : World} {g r n : Nat} {t : TypeId} {cs : Array Value} (h : Fd w0 g cs r t n w) : Fd w0 g cs r t n w.drew:=h.past (Below.refl _ _).drew
theorem Fd.new (w : World) (cs ds : Array Value) (t : TypeId) : Fd w w.heap.size cs (w.heap.size + 1) t ds.size ((w.alloc (.cells cs 57)).alloc (.cells ds t)) :=
 ⟨(Blk.new w _ _).alloc _, ⟨ds, rfl, new2 w cs ds _ t⟩, two_below w cs ds _ t⟩
theorem Fd.row {w0 w : World} {g r n : Nat} {t : TypeId} {cs : Array Value} (h : Fd w0 g cs r t n w) (hne : g ≠ r) (hg : w0.heap.size ≤ r) (ds : Array Value) (hn : ds.size = n) : Fd w0 g cs r t n (w.setRow r ds):=by
 obtain ⟨h1, ⟨ds', h0, h2⟩, h3⟩:=h
 exact ⟨(setRow_other w r g _ hne).trans h1, ⟨ds, hn, setRow_heap w r _ _ _ _ h2⟩, below_setRow h3 hg _⟩
theorem Fd.cell {w0 w : World} {g r n : Nat} {t : TypeId} {cs : Array Value} (h : Fd w0 g cs r t n w) (hne : g ≠ r) (hg : w0.heap.size ≤ r) (k : Nat) (v : Value) : Fd w0 g cs r t n (w.setCell ⟨r, k, none⟩ v):=by
 obtain ⟨h1, ⟨ds', h0, h2⟩, h3⟩:=h
 exact ⟨h1.far (p:=⟨r, k, none⟩) hne v, ⟨_, by rw [Array.size_setIfInBounds]; exact h0, h2.set_ k v⟩, h3.setCell hg _⟩
theorem run_storeRow {w0 w : World} {g r n : Nat} {t : TypeId} {cs ds : Array Value} {ev : Operand → Value} {o : Oper} {p q : Operand} (h : Fd w0 g cs r t n w) (hn : ds.size = n) (hi : (Tryz.prog.info? t).map (·.size) = some n) (h1 : ds.all (·.oneCell') = true)
  (ho : o.op = .store t p q) (hp : ev p = .pointer (some ⟨r, 0, none⟩)) (hq : ev q = .agg ds) : (execOp ev o).run Tryz.prog w = .ok .skip (w.setRow r ds):=by
 obtain ⟨_, ⟨ds', h0, h2⟩, _⟩:=h
 unfold execOp
 simp only [ho, hp, hq, Instr.storeAt, Instr.sureAddr, Sem.run_bind, Sem.run_pure, Result.andThen_ok, run_storeVar_row w r _ t ds' ds h2 (by rw [hi, hn]) (by rw [h0, hn]) h1]
def NewMo (w : World) (d : Mo) (r : Ending) (w' : World) : Prop :=
 ∃ (V : Option Addr) (vc : Nat), r = .returned (.agg #[.int .i64 d.kind, .string d.attr, .slice V d.vals.length vc]) ∧ Below w.heap.size w w' ∧ MoAt w' (fun b=>w.heap.size ≤ b ∧ b < w'.heap.size) d [.int .i64 d.kind, .string d.attr, .slice V d.vals.length vc]
theorem few_bodies {e : Be.El} (h : Few e) : ((kidsE e).map bodyE).length ≤ maxLen ∧ ∀ s ∈ (kidsE e).map bodyE, s.size ≤ maxLen:=by
 obtain ⟨t, b, ks⟩:=e
 have h0:=h.open_
 refine ⟨by rw [List.length_map]; show ks.length ≤ _; unfold maxLen; omega, fun s hs=>?_⟩
 obtain ⟨k, hk, rfl⟩:=List.mem_map.1 hs
 have:=(h0.2.2 k hk).body
 unfold maxLen
 omega
set_option maxHeartbeats 4000000 in
theorem readAttr_any (e : Be.El) (t : Nat) (b : ByteArray) (A : Option Addr) (n c : Nat) (w : World) (hfew : Few e) (hL : Be.Lies w (· < w.heap.size) e [.int .u8 (t : Nat), .string b, .slice A n c]) :
  Calls Tryz.prog 100 #[.agg #[.int .u8 (t : Nat), .string b, .slice A n c]] w (NewMo w (rdAttr e)):=by
 have hf1:=hfew.kid 1
 have hz:=few_bodies hf1
 have ht:=hfew.text 0
 have F0:=Fd.new w #[.int .u8 (t : Nat), .string b, .slice A n c] #[.int .i64 0, .string ⟨#[]⟩, .slice none 0 0] 48
 go_enter Tryz.func100, Tryz.ntmps100
 go_wp2_with fail
 refine wp_region_noPanic ?_
 refine wp_region_held_drew (S:=Fd w w.heap.size #[.int .u8 (t : Nat), .string b, .slice A n c] (w.heap.size + 1) 48 3) (by kernel_rfl) F0.drew (fun hH0=>?_)
 refine Rg.tk 0 3 (.agg #[.int .u8 (t : Nat), .string b, .slice A n c]) rfl (by kernel_rfl) (fun _ _ _ h=>h) (fun w' h=>run_loadRow rfl rfl h.1 Tryz.underlying57 rfl infoE3) hH0 ?_
 refine Rg.tk 2 5 (.agg #[.int .u8 (t : Nat), .string b, .slice A n c]) rfl (by kernel_rfl) (fun _ _ _ h=>h) (fun w' h=>run_loadRow rfl rfl h.1 Tryz.underlying57 rfl infoE3) hH0 ?_
 refine Rg.cl 1 4 rfl (by kernel_rfl) 94 #[.agg #[.int .u8 (t : Nat), .string b, .slice A n c], .int .i64 0] (by kernel_rfl) (textAt_any e 0 t b A n c _ (hL.past hH0.2.2)) ?_
 rintro _ w1 ⟨rfl, hb1⟩
 have hH1:=hH0.past hb1
 refine ⟨_, rfl, hH1, ?_⟩
 refine Rg.frame _ (by simp only [Rg.pu, List.set]; rfl) ?_
 refine Rg.cl 3 6 rfl (by kernel_rfl) 91 #[.agg #[.int .u8 (t : Nat), .string b, .slice A n c], .int .i64 1] (by kernel_rfl) (kid_any e 1 t b A n c _ (hL.past hH1.2.2)) ?_
 rintro _ w2 ⟨t1, b1, A1, n1, c1, rfl, hb2, hL1⟩
 have hH2:=hH1.past hb2
 refine ⟨_, rfl, hH2, ?_⟩
 refine Rg.cl 4 7 rfl (by kernel_rfl) 96 #[.agg #[.int .u8 (t1 : Nat), .string b1, .slice A1 n1 c1], .func (.func 97) #[] #[]] (by kernel_rfl) (eachB_any (kidE e 1) t1 b1 A1 n1 c1 _ hf1 (hL1.past hb2)) ?_
 rintro _ w3 ⟨V, vc, rfl, hb3, hvc, hV⟩
 have hH3:=hH2.past hb3
 refine ⟨_, rfl, hH3, ?_⟩
 refine Rg.tk 5 8 (.agg #[.int .i64 1, .string (textAt e 0), .slice V ((kidsE (kidE e 1)).map bodyE).length vc]) rfl (by kernel_rfl) (fun _ _ _ h=>h) (fun _ _=>by kernel_rfl) hH3 ?_
 refine Rg.frame _ (by simp only [Rg.pu, List.set]; rfl) ?_
 have hH4:=hH3.row (by omega) (by omega) #[.int .i64 1, .string (textAt e 0), .slice V ((kidsE (kidE e 1)).map bodyE).length vc] rfl
 refine Rg.sk 6 _ rfl (by kernel_rfl) (run_storeRow (ds:=#[.int .i64 1, .string (textAt e 0), .slice V ((kidsE (kidE e 1)).map bodyE).length vc]) hH3 rfl infoO3 (by simp [Value.oneCell']) rfl rfl rfl) hH4 ?_
 refine wpAnyH_done (by kernel_rfl) ?_ _
 refine NoPanic.normal ?_
 go_wp2_with fail
 obtain ⟨_, ⟨ds, _, hB2⟩, _⟩:=hH3
 refine bodyPost_ret (results_cell_row rfl _ _ (w.heap.size + 1) _ _ (0, 0) _ rfl (setRow_heap _ _ _ _ _ _ hB2) Tryz.underlying48 rfl infoO3) rfl ⟨V, vc, rfl, hH4.2.2, V, vc, rfl, by unfold maxLen; show (textAt e 0).size ≤ _; omega, hz.1, hvc, hV.imp (fun b hb=>?_) (fun p hp=>cell_setRow_other _ _ _ _ ?_), hz.2⟩
 ·have h1:=hH2.2.2.size
  rw [setRow_size]
  exact ⟨by omega, hb.2⟩
 ·obtain ⟨_, ⟨_, _, hB⟩, _⟩:=hH2
  have:=hB.lt
  have:=hp.1
  omega
end Go.Proofs.YtconghaebebncaaGreatDoor.Ms
namespace Go.Proofs.YtconghaebebncaaGreatDoor.Ms
open Go.RowKit
theorem numAt_range (e : Be.El) (i : Nat) : -9223372036854775808 ≤ numAt e i ∧ numAt e i ≤ 9223372036854775807:=by
 unfold numAt
 generalize Nm.bs (textAt e i) = l
 unfold Be.rdI
 split
 ·rename_i h
  have h1:=Be.sval_range l (by intro h0; rw [h0] at h; exact h.1 rfl)
  rcases (show l.length = 1 ∨ l.length = 2 ∨ l.length = 3 ∨ l.length = 4 ∨ l.length = 5 ∨ l.length = 6 ∨ l.length = 7 ∨ l.length = 8 by omega) with h2 | h2 | h2 | h2 | h2 | h2 | h2 | h2
  all_goals
   rw [h2] at h1
   simp only [Option.getD_some]
   simp only [Nat.reduceMul, Nat.reduceSub, Int.reducePow, Int.reduceNeg] at h1
   omega
 ·simp only [Option.getD_none]; omega
def inc (n : Int) : Int:=if n = 9223372036854775807 then -9223372036854775808 else n + 1
theorem wrap_inc {n : Int} (h0 : -9223372036854775808 ≤ n) (h1 : n ≤ 9223372036854775807) : IntKind.i64.wrap (n + 1) = inc n:=by
 unfold inc
 split
 ·rename_i h; subst h; rfl
 ·exact IntWalk.i64_in _ (by omega)
def rdModW (e : Be.El) : Mo:={ rdAttr (kidE e 1) with kind:=inc (numAt e 0) }
set_option maxHeartbeats 4000000 in
theorem readMod_any (e : Be.El) (t : Nat) (b : ByteArray) (A : Option Addr) (n c : Nat) (w : World) (hfew : Few e) (hL : Be.Lies w (· < w.heap.size) e [.int .u8 (t : Nat), .string b, .slice A n c]) :
  Calls Tryz.prog 99 #[.agg #[.int .u8 (t : Nat), .string b, .slice A n c]] w (NewMo w (rdModW e)):=by
 have hb0:=two_below w #[.int .u8 (t : Nat), .string b, .slice A n c] #[.int .i64 0, .string ⟨#[]⟩, .slice none 0 0] 57 48
 have HK:=Lib.hid (kid_any e 1 t b A n c _ (hL.past hb0))
 have HA:=Lib.hid (fun t b A n c w h=>readAttr_any (kidE e 1) t b A n c w (hfew.kid 1) h)
 have HN:=Lib.hid (fun w1 hb=>numberAt_any e 0 t b A n c w1 (hL.past hb))
 have hr:=numAt_range e 0
 have hw:=wrap_inc hr.1 hr.2
 have hd : rdModW e = { rdAttr (kidE e 1) with kind:=inc (numAt e 0) }:=rfl
 have BR:=new2 w #[.int .u8 (t : Nat), .string b, .slice A n c] #[.int .i64 0, .string ⟨#[]⟩, .slice none 0 0] 57 48
 have BE:=(Blk.new w 57 #[.int .u8 (t : Nat), .string b, .slice A n c]).alloc (.cells #[.int .i64 0, .string ⟨#[]⟩, .slice none 0 0] 48)
 generalize rdModW e = d at hd ⊢
 generalize numAt e 0 = m at HN hr hw hd
 generalize rdAttr (kidE e 1) = a at HA hd
 have HD:=Lib.hid hd
 have hb:=Lib.hid hb0
 have HBR:=Lib.hid BR
 have HBE:=Lib.hid BE
 clear hL hb0 hd hr hfew BR BE
 go_enter Tryz.func99, Tryz.ntmps99
 go_wp2_with fail
 refine HK.out.mono ?_
 rintro r w1 ⟨t1, b1, A1, n1, c1, rfl, hb1, hL1⟩
 have hb2:=hb.out.trans (hb1.mono hb.out.size)
 have HL1:=Lib.hid (hL1.past hb1)
 clear hL1
 go_wp2_with fail
 refine (HA.out _ _ _ _ _ _ HL1.out).mono ?_
 rintro r w2 ⟨V, vc, rfl, hb3, hM⟩
 have hbX:=hb1.trans (hb3.mono hb1.size)
 have hb4:=hb2.trans (hb3.mono hb2.size)
 have HM:=Lib.hid hM
 have BE1:=(HBE.out.past hbX).alloc (.cells #[.int .i64 a.kind, .string a.attr, .slice V a.vals.length vc] 48)
 have c0:=BE1.cell 0
 have c1':=BE1.cell 1
 have c2:=BE1.cell 2
 have hbY:=hbX.alloc hbX.size (.cells #[.int .i64 a.kind, .string a.attr, .slice V a.vals.length vc] 48)
 have hb5:=hb4.alloc hb4.size (.cells #[.int .i64 a.kind, .string a.attr, .slice V a.vals.length vc] 48)
 have HB:=Lib.hid (Blk.new w2 48 #[.int .i64 a.kind, .string a.attr, .slice V a.vals.length vc])
 have hs2:=hb4.size
 have HG:=Lib.hid (Nat.lt_of_lt_of_le HBR.out.lt hbX.size)
 clear hM BE1
 go_wp2_with fail
 refine (HN.out _ hb5).mono ?_
 rintro r w3 ⟨rfl, hb6⟩
 have B3:=HB.out.past hb6
 have hbZ:=hbY.trans (hb6.mono hbY.size)
 have hb7:=hb5.trans (hb6.mono hb5.size)
 have R3:=HBR.out.past hbZ
 have g0:=B3.cell 0
 have g1:=B3.cell 1
 have g2:=B3.cell 2
 have z0:=B3.frozen 0
 have r0:=R3.cell 0
 have r1:=R3.cell 1
 have r2:=R3.cell 2
 have y0:=R3.frozen 0
 have y1:=R3.frozen 1
 have y2:=R3.frozen 2
 have hne : w2.heap.size ≠ w.heap.size + 1:=by have:=HG.out; omega
 have hne' : w.heap.size + 1 ≠ w2.heap.size:=fun h=>hne h.symm
 have HB3:=Lib.hid B3
 have HR3:=Lib.hid R3
 clear c0 c1' c2 B3 R3
 go_wp2_with fail
 have hbA:=(Below.refl w2.heap.size w2).alloc (Nat.le_refl _) (.cells #[.int .i64 a.kind, .string a.attr, .slice V a.vals.length vc] 48)
 have hb8:=hbA.trans (hb6.mono hbA.size)
 have hs1:=hb2.size
 have hs3:=hb8.size
 have hBr:=(HR3.out.far (p:=⟨w2.heap.size, 0, none⟩) hne' (.int .i64 (inc m)))
 have hbF:=(((hb7.setCell (p:=⟨w2.heap.size, 0, none⟩) hs2 (.int .i64 (inc m))).setCell (p:=⟨w.heap.size + 1, 0, none⟩) (Nat.le_succ _) (.int .i64 (inc m))).setCell (p:=⟨w.heap.size + 1, 1, none⟩) (Nat.le_succ _) (.string a.attr)).setCell (p:=⟨w.heap.size + 1, 2, none⟩) (Nat.le_succ _) (.slice V a.vals.length vc)
 have hlt1 : w.heap.size + 1 < w1.heap.size:=by
  have:=hb1.size
  simp at this
  omega
 have hM2 : MoAt ((((w3.setCell ⟨w2.heap.size, 0, none⟩ (.int .i64 (inc m))).setCell ⟨w.heap.size + 1, 0, none⟩ (.int .i64 (inc m))).setCell ⟨w.heap.size + 1, 1, none⟩ (.string a.attr)).setCell ⟨w.heap.size + 1, 2, none⟩ (.slice V a.vals.length vc))
   (fun b=>w.heap.size ≤ b ∧ b < ((((w3.setCell ⟨w2.heap.size, 0, none⟩ (.int .i64 (inc m))).setCell ⟨w.heap.size + 1, 0, none⟩ (.int .i64 (inc m))).setCell ⟨w.heap.size + 1, 1, none⟩ (.string a.attr)).setCell ⟨w.heap.size + 1, 2, none⟩ (.slice V a.vals.length vc)).heap.size) a
   [.int .i64 a.kind, .string a.attr, .slice V a.vals.length vc]:=by
  refine HM.out.imp (fun b hb=>⟨by have:=hb.1; omega, ?_⟩) (fun p hp=>?_)
  ·have:=hb.2
   simp [World.setCell]
   omega
  ·have p1 : p.block ≠ w.heap.size + 1:=by have:=hp.1; omega
   have p2 : p.block ≠ w2.heap.size:=by have:=hp.2; omega
   rw [World.cell?_setCell_other _ _ _ _ (fun e=>p1 (by rw [← e])), World.cell?_setCell_other _ _ _ _ (fun e=>p1 (by rw [← e])), World.cell?_setCell_other _ _ _ _ (fun e=>p1 (by rw [← e])), World.cell?_setCell_other _ _ _ _ (fun e=>p2 (by rw [← e]))]
   exact hb8.cell hp.2
 obtain ⟨V1, vc1, e, q2, q3, q4, q5, q6⟩:=hM2
 simp only [List.cons.injEq, Value.slice.injEq, true_and, and_true] at e
 obtain ⟨rfl, rfl⟩:=e
 have hd2:=HD.out
 subst hd2
 exact bodyPost_ret (results_cell_row rfl _ _ (w.heap.size + 1) _ _ (0, 0) _ rfl (Be.Blk.set3 hBr) Tryz.underlying48 rfl infoO3) rfl ⟨V, vc, rfl, hbF, V, vc, rfl, q2, q3, q4, q5, q6⟩
end Go.Proofs.YtconghaebebncaaGreatDoor.Ms
namespace Go.Proofs.YtconghaebebncaaGreatDoor.Ms
def rdMW (e : Be.El) : Mg :=
 let o:=kidE e 1
 let z : Mg:={ zero with id:=numAt e 0, op:=(opOf (tagE o)).1, ref:=(opOf (tagE o)).2 }
 if z.op = 4 then { z with dn:=textAt o 0, mods:=(kidsE (kidE o 1)).map rdModW } else rdM e
theorem inc_or (n : Int) : inc n = n + 1 ∨ (inc n = -9223372036854775808 ∧ n + 1 = 9223372036854775808):=by
 unfold inc
 split
 ·rename_i h; subst h; exact .inr ⟨rfl, rfl⟩
 ·exact .inl rfl
theorem rdModW_or (e : Be.El) : rdModW e = rdMod e ∨ (noMod (rdModW e) = true ∧ noMod (rdMod e) = true):=by
 unfold rdModW rdMod
 rcases inc_or (numAt e 0) with h | ⟨h1, h2⟩
 ·rw [h]; exact .inl rfl
 ·rw [h1, h2]
  refine .inr ⟨?_, ?_⟩ <;> (unfold noMod within; simp)
theorem rdMods_or : ∀ ks : List Be.El, ks.map rdModW = ks.map rdMod ∨ ((ks.map rdModW).any noMod = true ∧ (ks.map rdMod).any noMod = true)
 | []=>.inl rfl
 | k :: ks=>by
  rw [List.map_cons, List.map_cons, List.any_cons, List.any_cons]
  rcases rdMods_or ks with h | ⟨h1, h2⟩
  ·rcases rdModW_or k with h' | ⟨h1, h2⟩
   ·rw [h, h']; exact .inl rfl
   ·rw [h1, h2]; exact .inr ⟨rfl, rfl⟩
  ·rw [h1, h2, Bool.or_true, Bool.or_true]; exact .inr ⟨rfl, rfl⟩
theorem isM_mods {m : Mg} (h4 : m.op = 4) (h : m.mods.any noMod = true) : isM m = false:=by
 unfold isM
 have : formed m = false:=by
  unfold formed
  rw [if_neg (by omega), if_neg (by omega), if_neg (by omega), if_pos h4, h]
  simp
 rw [this]; simp
theorem rdMW_or (e : Be.El) : rdMW e = rdM e ∨ (isM (rdMW e) = false ∧ isM (rdM e) = false):=by
 by_cases h4 : (opOf (tagE (kidE e 1))).1 = 4
 ·have h1 : rdMW e = { zero with id:=numAt e 0, op:=4, ref:=(opOf (tagE (kidE e 1))).2, dn:=textAt (kidE e 1) 0, mods:=(kidsE (kidE (kidE e 1) 1)).map rdModW }:=by
   unfold rdMW; simp only [h4]; rfl
  have h2 : rdM e = { zero with id:=numAt e 0, op:=4, ref:=(opOf (tagE (kidE e 1))).2, dn:=textAt (kidE e 1) 0, mods:=(kidsE (kidE (kidE e 1) 1)).map rdMod }:=by
   unfold rdM; simp only [h4]; rfl
  rcases rdMods_or (kidsE (kidE (kidE e 1) 1)) with h | ⟨h, h'⟩
  ·left; rw [h1, h2, h]
  ·right; exact ⟨isM_mods (by rw [h1]) (by rw [h1]; exact h), isM_mods (by rw [h2]) (by rw [h2]; exact h')⟩
 ·left
  unfold rdMW
  simp only [h4, if_false]
def decMW (s : List UInt8) : Mg × Nat:=match Be.rd 20 s 0 with
 | .bad _ x=>(zero, x)
 | .ok e _=>if (encM (rdMW e)).1 = s then (rdMW e, 0) else (zero, 14)
theorem encM_none {m : Mg} (h : isM m = false) : (encM m).1 = []:=by unfold encM; rw [if_pos h]
theorem decMW_eq (s : List UInt8) : decMW s = decM s:=by
 unfold decMW decM
 cases hr : Be.rd 20 s 0 with
 | bad p x=>rfl
 | ok e n =>
  simp only
  rcases rdMW_or e with h | ⟨h1, h2⟩
  ·rw [h]
  ·have hn:=Be.rd_ok hr
   have hs : ([] : List UInt8) ≠ s:=by rintro rfl; simp at hn; omega
   rw [encM_none h1, encM_none h2, if_neg hs, if_neg hs]
theorem fits_kids {f : Nat} (ih : ∀ l a e n, Be.rd f l a = .ok e n → Be.fitS 4000 4000 (f + 1) e = true) : ∀ (N : Nat) (l : List UInt8) (a : Nat) (ks : List Be.El), Be.rdKids (Be.rd f) N l a = .ok ks → ks.length ≤ N ∧ ∀ k ∈ ks, Be.fitS 4000 4000 (f + 1) k = true
 | 0, l, a, ks, h=>by
  simp only [Be.rdKids, Be.RK.ok.injEq] at h
  subst h
  exact ⟨by simp, by simp⟩
 | N + 1, l, a, ks, h=>by
  rw [Be.rdKids] at h
  split at h
  ·injection h with h; subst h; exact ⟨by simp, by simp⟩
  ·split at h
   ·cases h
   ·rename_i e n he
    split at h
    ·cases h
    ·rename_i es hes
     injection h with h
     subst h
     obtain ⟨h1, h2⟩:=fits_kids ih N _ _ _ hes
     refine ⟨by simp; omega, fun k hk=>?_⟩
     rcases List.mem_cons.1 hk with rfl | hk
     ·exact ih _ _ _ _ he
     ·exact h2 k hk
theorem rd_fits : ∀ (f : Nat) (l : List UInt8) (a : Nat) (e : Be.El) (n : Nat), Be.rd f l a = .ok e n → Be.fitS 4000 4000 (f + 1) e = true
 | 0, l, a, e, n, h=>by simp [Be.rd] at h
 | f + 1, l, a, e, n, h=>by
  simp only [Be.rd] at h
  split at h
  ·cases h
  ·rename_i hq
   have hq0 : (Be.rdHead (decide (f + 1 < 20)) l).2.2 = 0:=by simpa using hq
   have hok:=Be.rdHead_ok (inner:=decide (f + 1 < 20)) (l:=l) (h:=(Be.rdHead (decide (f + 1 < 20)) l).1) (n:=(Be.rdHead (decide (f + 1 < 20)) l).2.1) (by rw [← hq0])
   have hb:=Be.hd_ok hok.1
   split at h
   ·injection h with h1 h2
    subst h1
    simp only [Be.fitS, Bool.and_eq_true, decide_eq_true_eq, List.all_nil, and_true]
    refine ⟨by simp, ?_⟩
    show ((l.drop _).take _).length ≤ 4000
    rw [List.length_take]
    omega
   ·split at h
    ·cases h
    ·rename_i ks hks
     injection h with h1 h2
     subst h1
     obtain ⟨h3, h4⟩:=fits_kids (fun l a e n=>rd_fits f l a e n) _ _ _ _ hks
     simp only [Be.fitS, Bool.and_eq_true, decide_eq_true_eq, List.all_eq_true]
     exact ⟨by omega, by decide, h4⟩
theorem rd_few {s : List UInt8} {a : Nat} {e : Be.El} {n : Nat} (h : Be.rd 20 s a = .ok e n) : Few e:=⟨21, Be.fitS_more (by decide) (by decide) (Nat.le_refl _) (rd_fits 20 s a e n h)⟩
end Go.Proofs.YtconghaebebncaaGreatDoor.Ms
