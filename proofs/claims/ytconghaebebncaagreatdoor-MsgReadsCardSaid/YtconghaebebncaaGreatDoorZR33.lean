import Derived.Test.YtconghaebebncaaGreatDoorZR22
import Derived.ChangeAlike
import Derived.BigRegion
import Derived.Deep.WholeRow
import Derived.Deep.Cut
set_option linter.unusedVariables false
set_option maxRecDepth 100000
namespace Go.Proofs.YtconghaebebncaaGreatDoor.Ms
open Go.RowKit
theorem wpList_runs {P : Program} {w : World} {ops : Array Oper} {rest : List Oper} {o : Oper} {a : Act} {Q : Exit → Act → World → Prop} (hgd : o.guard = none) (q : Op) (hq : o.op = q) (d : Option Nat) (hd : o.dst = d) (v : Value) (w' : World) (hrun : (execOp a.eval o).run P w = .ok (.value v) w') (h : wpList P ops Q rest (a.put o.dst v) w') : wpList P ops Q (o :: rest) a w :=
 wpList_plain hgd fun K hK=>by
  unfold Oper.wp
  rw [hrun, Oper.upon_value]
  exact hK _ _ h
theorem op_cells (x y : Int) : ∃ (cs zs : Array Value), zs.size = 23 ∧ (∀ (w : World) (P : Nat → Prop), MAt w P { zero with id:=x, op:=y } cs) ∧
  zs = #[.int .i64 0, .int .i64 0, .int .i64 0, .string ⟨#[]⟩, .int .i64 0, .string ⟨#[]⟩, .int .i64 0, .int .i64 0, .int .i64 0, .string ⟨#[]⟩, .string ⟨#[]⟩, .slice none 0 0, .slice none 0 0, .slice none 0 0, .slice none 0 0, .string ⟨#[]⟩, .bool false, .bool false, .string ⟨#[]⟩, .string ⟨#[]⟩, .string ⟨#[]⟩, .int .i64 0, .string ⟨#[]⟩] ∧ cs = #[.int .i64 x, .int .i64 y, .int .i64 0, .string ⟨#[]⟩, .int .i64 0, .string ⟨#[]⟩, .int .i64 0, .int .i64 0, .int .i64 0, .string ⟨#[]⟩, .string ⟨#[]⟩, .slice none 0 0, .slice none 0 0, .slice none 0 0, .slice none 0 0, .string ⟨#[]⟩, .bool false, .bool false, .string ⟨#[]⟩, .string ⟨#[]⟩, .string ⟨#[]⟩, .int .i64 0, .string ⟨#[]⟩]:=by
 obtain ⟨ic, zs, hz, hM, _, ez, ei⟩:=id_cells x
 exact ⟨ic.setIfInBounds 1 (.int .i64 y), zs, hz, fun w P=>(hM w P).set_op y, ez, by rw [ei]; rfl⟩
theorem heap_newS {w : World} {o : Obj} {g : Nat} (h : w.heap.size = g) : (w.alloc o).heap[g]? = some o:=by subst h; exact heap_alloc_new w o
theorem setRow_newS {w : World} {old cs : Array Value} {t : TypeId} {g : Nat} (h : w.heap.size = g) : (w.alloc (.cells old t)).setRow g cs = w.alloc (.cells cs t):=by subst h; exact World.setRow_alloc_new ..
def ToldS (w : World) (m : Mg) (r : Ending) (w' : World) : Prop:=∃ cs, r = .returned (.agg cs) ∧ Below w.heap.size w w' ∧ MAt w (· < w.heap.size) m cs
theorem shp_boxes (w : World) (cs zs ds : Array Value) : Below w.heap.size w (((w.alloc (.cells cs 28)).alloc (.cells zs 28)).alloc (.cells ds 28)) ∧ Blk (((w.alloc (.cells cs 28)).alloc (.cells zs 28)).alloc (.cells ds 28)).drew (w.heap.size + 1) 28 zs ∧ Blk (((w.alloc (.cells cs 28)).alloc (.cells zs 28)).alloc (.cells ds 28)).drew (w.heap.size + 1 + 1) 28 ds:=by
 have h1 : (w.alloc (.cells cs 28)).heap.size = w.heap.size + 1:=by simp
 refine ⟨((((Below.refl w.heap.size w).alloc (Nat.le_refl _) _).alloc (by simp) _).alloc (by simp; omega) _), ?_, heap_newS (by simp)⟩
 have B:=(Blk.new (w.alloc (.cells cs 28)) 28 zs).alloc (.cells ds 28)
 rw [h1] at B
 exact B
set_option maxHeartbeats 40000000 in
theorem rshape_any (m : Mg) (cs : Array Value) (w : World) (h : MAt w (· < w.heap.size) m cs) :
  Calls Tryz.prog 32 #[.agg cs] w (ToldS w (shapeR m)):=by
 obtain ⟨O, hop⟩ : ∃ O, m.op = O:=⟨_, rfl⟩
 obtain ⟨ic, zs, hz, hMi, ez, ei⟩:=op_cells m.id O
 have HT:=Lib.hid h.sizes
 have HH:=Lib.hid h
 have k0:=h.g0
 have k1:=h.g1
 rw [hop] at k1
 have HI:=Lib.hid (hMi w (· < w.heap.size))
 have hi:=HI.out.size
 have HEz:=Lib.hid ez
 have HEi:=Lib.hid ei
 have hg:=Lib.hid (show ((w.alloc (.cells cs 28)).alloc (.cells zs 28)).heap.size = w.heap.size + 1 + 1 by simp)
 clear h hMi ei ez
 go_enter Tryz.func32, Tryz.ntmps32
 go_upto_region 3 with (first | (refine wpList_runs rfl (.alloc 28) rfl (some 2) rfl (.pointer (some ⟨(w.alloc (.cells cs 28)).heap.size, 0, none⟩)) ((w.alloc (.cells cs 28)).alloc (.cells zs 28)) (by rw [HEz.out]; kernel_rfl) ?_) | (refine wpList_gives rfl (.build 28 #[(0, .tmp 5), (1, .tmp 7)]) rfl (.agg ic) (by rw [HEi.out]; kernel_rfl) ?_) | (refine wpList_mark (.store 28 (.tmp 3) (.tmp 8)) rfl ?_; refine wpList_store_row rfl 28 _ _ rfl (w.heap.size + 1 + 1) ic rfl rfl 28 _ (heap_newS hg.out) (by rw [infoM, hi]) ?_ HI.out.one ?_; exact Eq.trans rfl hi.symm; rw [setRow_newS hg.out]))
 by_cases h1 : O = 1
 ·subst h1
  have k4:=HH.out.g4
  have i4:=HI.out.g4
  have k3:=HH.out.g3
  have i3:=HI.out.g3
  have k5:=HH.out.g5
  have i5:=HI.out.g5
  have HFo:=Lib.hid (show shapeR m = { zero with id:=m.id, op:=1, ver:=m.ver, dn:=m.dn, pass:=m.pass } by unfold shapeR; rw [hop]; rfl)
  have HM:=Lib.hid (show MAt w (· < w.heap.size) { zero with id:=m.id, op:=1, ver:=m.ver, dn:=m.dn, pass:=m.pass } (((ic.setIfInBounds 4 (.int .i64 m.ver)).setIfInBounds 3 (.string m.dn)).setIfInBounds 5 (.string m.pass)) from (MAt.set_pass (MAt.set_dn (MAt.set_ver HI.out m.ver) m.dn HT.out.1) m.pass HT.out.2.1))
  have hzz:=hz.trans HM.out.size.symm
  go_wp2_with fail
  go_region
  go_wp2_with (first | (refine wpList_mark (.load 28 (.tmp 3)) rfl ?_; refine wpList_load_row rfl 28 _ rfl (w.heap.size + 1 + 1) rfl _ (((ic.setIfInBounds 4 (.int .i64 m.ver)).setIfInBounds 3 (.string m.dn)).setIfInBounds 5 (.string m.pass)) (0, 0) _ (shp_boxes w cs zs _).2.2 Tryz.underlying28 rfl (by rw [infoM, HM.out.size]) ?_) | (refine wpList_mark (.store 28 (.tmp 2) (.tmp 95)) rfl ?_; refine wpList_store_row rfl 28 _ _ rfl (w.heap.size + 1) (((ic.setIfInBounds 4 (.int .i64 m.ver)).setIfInBounds 3 (.string m.dn)).setIfInBounds 5 (.string m.pass)) rfl rfl 28 zs (shp_boxes w cs zs _).2.1 (by rw [infoM, HM.out.size]) hzz HM.out.one ?_))
  refine bodyPost_ret (results_cell_row rfl _ _ (w.heap.size + 1) _ (((ic.setIfInBounds 4 (.int .i64 m.ver)).setIfInBounds 3 (.string m.dn)).setIfInBounds 5 (.string m.pass)) (0, 0) _ rfl (setRow_heap _ _ _ (((ic.setIfInBounds 4 (.int .i64 m.ver)).setIfInBounds 3 (.string m.dn)).setIfInBounds 5 (.string m.pass)) _ _ (shp_boxes w cs zs _).2.1) Tryz.underlying28 rfl (by rw [infoM, HM.out.size])) rfl ⟨(((ic.setIfInBounds 4 (.int .i64 m.ver)).setIfInBounds 3 (.string m.dn)).setIfInBounds 5 (.string m.pass)), rfl, below_setRow (shp_boxes w cs zs _).1.drew (Nat.le_succ w.heap.size) (((ic.setIfInBounds 4 (.int .i64 m.ver)).setIfInBounds 3 (.string m.dn)).setIfInBounds 5 (.string m.pass)), HFo.out ▸ HM.out⟩
 by_cases h3 : O = 3
 ·subst h3
  have k3:=HH.out.g3
  have i3:=HI.out.g3
  have k6:=HH.out.g6
  have i6:=HI.out.g6
  have k7:=HH.out.g7
  have i7:=HI.out.g7
  obtain ⟨x0, x1, x2, x3, x4, k8, k9, k10, k11, k12, hF⟩:=HH.out.gF
  obtain ⟨k, a, v, S, n1, n2, A, n3, n4, hcs⟩:=hF.form
  simp only [List.cons.injEq, and_true] at hcs
  obtain ⟨rfl, rfl, rfl, rfl, rfl⟩:=hcs
  obtain ⟨y0, y1, y2, y3, y4, i8, i9, i10, i11, i12, -⟩:=HI.out.gF
  obtain ⟨W, wc, k13, hW⟩:=HH.out.gW
  obtain ⟨_, _, i13, -⟩:=HI.out.gW
  have HFo:=Lib.hid (show shapeR m = { zero with id:=m.id, op:=3, dn:=m.dn, scope:=m.scope, size:=m.size, fil:=m.fil, wants:=m.wants } by unfold shapeR; rw [hop]; rfl)
  have HM:=Lib.hid (show MAt w (· < w.heap.size) { zero with id:=m.id, op:=3, dn:=m.dn, scope:=m.scope, size:=m.size, fil:=m.fil, wants:=m.wants } (((((((((ic.setIfInBounds 3 (.string m.dn)).setIfInBounds 6 (.int .i64 m.scope)).setIfInBounds 7 (.int .i64 m.size)).setIfInBounds 8 (.int .i64 k)).setIfInBounds 9 (.string a)).setIfInBounds 10 (.string v)).setIfInBounds 11 (.slice S n1 n2)).setIfInBounds 12 (.slice A n3 n4)).setIfInBounds 13 (.slice W m.wants.length wc)) from (MAt.set_wants (MAt.set_fil (MAt.set_size (MAt.set_scope (MAt.set_dn HI.out m.dn HT.out.1) m.scope) m.size) m.fil _ _ _ _ _ hF) m.wants W wc hW.1 hW.2.1 hW.2.2.1 hW.2.2.2))
  have hzz:=hz.trans HM.out.size.symm
  go_wp2_with fail
  go_region
  go_wp2_with (first | (refine wpList_mark (.load 28 (.tmp 3)) rfl ?_; refine wpList_load_row rfl 28 _ rfl (w.heap.size + 1 + 1) rfl _ (((((((((ic.setIfInBounds 3 (.string m.dn)).setIfInBounds 6 (.int .i64 m.scope)).setIfInBounds 7 (.int .i64 m.size)).setIfInBounds 8 (.int .i64 k)).setIfInBounds 9 (.string a)).setIfInBounds 10 (.string v)).setIfInBounds 11 (.slice S n1 n2)).setIfInBounds 12 (.slice A n3 n4)).setIfInBounds 13 (.slice W m.wants.length wc)) (0, 0) _ (shp_boxes w cs zs _).2.2 Tryz.underlying28 rfl (by rw [infoM, HM.out.size]) ?_) | (refine wpList_mark (.store 28 (.tmp 2) (.tmp 95)) rfl ?_; refine wpList_store_row rfl 28 _ _ rfl (w.heap.size + 1) (((((((((ic.setIfInBounds 3 (.string m.dn)).setIfInBounds 6 (.int .i64 m.scope)).setIfInBounds 7 (.int .i64 m.size)).setIfInBounds 8 (.int .i64 k)).setIfInBounds 9 (.string a)).setIfInBounds 10 (.string v)).setIfInBounds 11 (.slice S n1 n2)).setIfInBounds 12 (.slice A n3 n4)).setIfInBounds 13 (.slice W m.wants.length wc)) rfl rfl 28 zs (shp_boxes w cs zs _).2.1 (by rw [infoM, HM.out.size]) hzz HM.out.one ?_))
  refine bodyPost_ret (results_cell_row rfl _ _ (w.heap.size + 1) _ (((((((((ic.setIfInBounds 3 (.string m.dn)).setIfInBounds 6 (.int .i64 m.scope)).setIfInBounds 7 (.int .i64 m.size)).setIfInBounds 8 (.int .i64 k)).setIfInBounds 9 (.string a)).setIfInBounds 10 (.string v)).setIfInBounds 11 (.slice S n1 n2)).setIfInBounds 12 (.slice A n3 n4)).setIfInBounds 13 (.slice W m.wants.length wc)) (0, 0) _ rfl (setRow_heap _ _ _ (((((((((ic.setIfInBounds 3 (.string m.dn)).setIfInBounds 6 (.int .i64 m.scope)).setIfInBounds 7 (.int .i64 m.size)).setIfInBounds 8 (.int .i64 k)).setIfInBounds 9 (.string a)).setIfInBounds 10 (.string v)).setIfInBounds 11 (.slice S n1 n2)).setIfInBounds 12 (.slice A n3 n4)).setIfInBounds 13 (.slice W m.wants.length wc)) _ _ (shp_boxes w cs zs _).2.1) Tryz.underlying28 rfl (by rw [infoM, HM.out.size])) rfl ⟨(((((((((ic.setIfInBounds 3 (.string m.dn)).setIfInBounds 6 (.int .i64 m.scope)).setIfInBounds 7 (.int .i64 m.size)).setIfInBounds 8 (.int .i64 k)).setIfInBounds 9 (.string a)).setIfInBounds 10 (.string v)).setIfInBounds 11 (.slice S n1 n2)).setIfInBounds 12 (.slice A n3 n4)).setIfInBounds 13 (.slice W m.wants.length wc)), rfl, below_setRow (shp_boxes w cs zs _).1.drew (Nat.le_succ w.heap.size) (((((((((ic.setIfInBounds 3 (.string m.dn)).setIfInBounds 6 (.int .i64 m.scope)).setIfInBounds 7 (.int .i64 m.size)).setIfInBounds 8 (.int .i64 k)).setIfInBounds 9 (.string a)).setIfInBounds 10 (.string v)).setIfInBounds 11 (.slice S n1 n2)).setIfInBounds 12 (.slice A n3 n4)).setIfInBounds 13 (.slice W m.wants.length wc)), HFo.out ▸ HM.out⟩
 by_cases h4 : O = 4
 ·subst h4
  have k3:=HH.out.g3
  have i3:=HI.out.g3
  obtain ⟨M, mc, ds, k14, hM⟩:=HH.out.gM
  obtain ⟨_, _, _, i14, -⟩:=HI.out.gM
  have HFo:=Lib.hid (show shapeR m = { zero with id:=m.id, op:=4, dn:=m.dn, mods:=m.mods } by unfold shapeR; rw [hop]; rfl)
  have HM:=Lib.hid (show MAt w (· < w.heap.size) { zero with id:=m.id, op:=4, dn:=m.dn, mods:=m.mods } ((ic.setIfInBounds 3 (.string m.dn)).setIfInBounds 14 (.slice M m.mods.length mc)) from (MAt.set_mods (MAt.set_dn HI.out m.dn HT.out.1) m.mods M mc ds hM.1 hM.2.1 hM.2.2))
  have hzz:=hz.trans HM.out.size.symm
  go_wp2_with fail
  go_region
  go_wp2_with (first | (refine wpList_mark (.load 28 (.tmp 3)) rfl ?_; refine wpList_load_row rfl 28 _ rfl (w.heap.size + 1 + 1) rfl _ ((ic.setIfInBounds 3 (.string m.dn)).setIfInBounds 14 (.slice M m.mods.length mc)) (0, 0) _ (shp_boxes w cs zs _).2.2 Tryz.underlying28 rfl (by rw [infoM, HM.out.size]) ?_) | (refine wpList_mark (.store 28 (.tmp 2) (.tmp 95)) rfl ?_; refine wpList_store_row rfl 28 _ _ rfl (w.heap.size + 1) ((ic.setIfInBounds 3 (.string m.dn)).setIfInBounds 14 (.slice M m.mods.length mc)) rfl rfl 28 zs (shp_boxes w cs zs _).2.1 (by rw [infoM, HM.out.size]) hzz HM.out.one ?_))
  refine bodyPost_ret (results_cell_row rfl _ _ (w.heap.size + 1) _ ((ic.setIfInBounds 3 (.string m.dn)).setIfInBounds 14 (.slice M m.mods.length mc)) (0, 0) _ rfl (setRow_heap _ _ _ ((ic.setIfInBounds 3 (.string m.dn)).setIfInBounds 14 (.slice M m.mods.length mc)) _ _ (shp_boxes w cs zs _).2.1) Tryz.underlying28 rfl (by rw [infoM, HM.out.size])) rfl ⟨((ic.setIfInBounds 3 (.string m.dn)).setIfInBounds 14 (.slice M m.mods.length mc)), rfl, below_setRow (shp_boxes w cs zs _).1.drew (Nat.le_succ w.heap.size) ((ic.setIfInBounds 3 (.string m.dn)).setIfInBounds 14 (.slice M m.mods.length mc)), HFo.out ▸ HM.out⟩
 by_cases h5 : O = 5
 ·subst h5
  have k3:=HH.out.g3
  have i3:=HI.out.g3
  obtain ⟨M, mc, ds, k14, hM⟩:=HH.out.gM
  obtain ⟨_, _, _, i14, -⟩:=HI.out.gM
  have HFo:=Lib.hid (show shapeR m = { zero with id:=m.id, op:=5, dn:=m.dn, mods:=m.mods } by unfold shapeR; rw [hop]; rfl)
  have HM:=Lib.hid (show MAt w (· < w.heap.size) { zero with id:=m.id, op:=5, dn:=m.dn, mods:=m.mods } ((ic.setIfInBounds 3 (.string m.dn)).setIfInBounds 14 (.slice M m.mods.length mc)) from (MAt.set_mods (MAt.set_dn HI.out m.dn HT.out.1) m.mods M mc ds hM.1 hM.2.1 hM.2.2))
  have hzz:=hz.trans HM.out.size.symm
  go_wp2_with fail
  go_region
  go_wp2_with (first | (refine wpList_mark (.load 28 (.tmp 3)) rfl ?_; refine wpList_load_row rfl 28 _ rfl (w.heap.size + 1 + 1) rfl _ ((ic.setIfInBounds 3 (.string m.dn)).setIfInBounds 14 (.slice M m.mods.length mc)) (0, 0) _ (shp_boxes w cs zs _).2.2 Tryz.underlying28 rfl (by rw [infoM, HM.out.size]) ?_) | (refine wpList_mark (.store 28 (.tmp 2) (.tmp 95)) rfl ?_; refine wpList_store_row rfl 28 _ _ rfl (w.heap.size + 1) ((ic.setIfInBounds 3 (.string m.dn)).setIfInBounds 14 (.slice M m.mods.length mc)) rfl rfl 28 zs (shp_boxes w cs zs _).2.1 (by rw [infoM, HM.out.size]) hzz HM.out.one ?_))
  refine bodyPost_ret (results_cell_row rfl _ _ (w.heap.size + 1) _ ((ic.setIfInBounds 3 (.string m.dn)).setIfInBounds 14 (.slice M m.mods.length mc)) (0, 0) _ rfl (setRow_heap _ _ _ ((ic.setIfInBounds 3 (.string m.dn)).setIfInBounds 14 (.slice M m.mods.length mc)) _ _ (shp_boxes w cs zs _).2.1) Tryz.underlying28 rfl (by rw [infoM, HM.out.size])) rfl ⟨((ic.setIfInBounds 3 (.string m.dn)).setIfInBounds 14 (.slice M m.mods.length mc)), rfl, below_setRow (shp_boxes w cs zs _).1.drew (Nat.le_succ w.heap.size) ((ic.setIfInBounds 3 (.string m.dn)).setIfInBounds 14 (.slice M m.mods.length mc)), HFo.out ▸ HM.out⟩
 by_cases h10 : O = 10
 ·subst h10
  have k3:=HH.out.g3
  have i3:=HI.out.g3
  obtain ⟨M, mc, ds, k14, hM⟩:=HH.out.gM
  obtain ⟨_, _, _, i14, -⟩:=HI.out.gM
  have HFo:=Lib.hid (show shapeR m = { zero with id:=m.id, op:=10, dn:=m.dn, mods:=m.mods } by unfold shapeR; rw [hop]; rfl)
  have HM:=Lib.hid (show MAt w (· < w.heap.size) { zero with id:=m.id, op:=10, dn:=m.dn, mods:=m.mods } ((ic.setIfInBounds 3 (.string m.dn)).setIfInBounds 14 (.slice M m.mods.length mc)) from (MAt.set_mods (MAt.set_dn HI.out m.dn HT.out.1) m.mods M mc ds hM.1 hM.2.1 hM.2.2))
  have hzz:=hz.trans HM.out.size.symm
  go_wp2_with fail
  go_region
  go_wp2_with (first | (refine wpList_mark (.load 28 (.tmp 3)) rfl ?_; refine wpList_load_row rfl 28 _ rfl (w.heap.size + 1 + 1) rfl _ ((ic.setIfInBounds 3 (.string m.dn)).setIfInBounds 14 (.slice M m.mods.length mc)) (0, 0) _ (shp_boxes w cs zs _).2.2 Tryz.underlying28 rfl (by rw [infoM, HM.out.size]) ?_) | (refine wpList_mark (.store 28 (.tmp 2) (.tmp 95)) rfl ?_; refine wpList_store_row rfl 28 _ _ rfl (w.heap.size + 1) ((ic.setIfInBounds 3 (.string m.dn)).setIfInBounds 14 (.slice M m.mods.length mc)) rfl rfl 28 zs (shp_boxes w cs zs _).2.1 (by rw [infoM, HM.out.size]) hzz HM.out.one ?_))
  refine bodyPost_ret (results_cell_row rfl _ _ (w.heap.size + 1) _ ((ic.setIfInBounds 3 (.string m.dn)).setIfInBounds 14 (.slice M m.mods.length mc)) (0, 0) _ rfl (setRow_heap _ _ _ ((ic.setIfInBounds 3 (.string m.dn)).setIfInBounds 14 (.slice M m.mods.length mc)) _ _ (shp_boxes w cs zs _).2.1) Tryz.underlying28 rfl (by rw [infoM, HM.out.size])) rfl ⟨((ic.setIfInBounds 3 (.string m.dn)).setIfInBounds 14 (.slice M m.mods.length mc)), rfl, below_setRow (shp_boxes w cs zs _).1.drew (Nat.le_succ w.heap.size) ((ic.setIfInBounds 3 (.string m.dn)).setIfInBounds 14 (.slice M m.mods.length mc)), HFo.out ▸ HM.out⟩
 by_cases h6 : O = 6
 ·subst h6
  have k3:=HH.out.g3
  have i3:=HI.out.g3
  have HFo:=Lib.hid (show shapeR m = { zero with id:=m.id, op:=6, dn:=m.dn } by unfold shapeR; rw [hop]; rfl)
  have HM:=Lib.hid (show MAt w (· < w.heap.size) { zero with id:=m.id, op:=6, dn:=m.dn } (ic.setIfInBounds 3 (.string m.dn)) from (MAt.set_dn HI.out m.dn HT.out.1))
  have hzz:=hz.trans HM.out.size.symm
  go_wp2_with (first | (refine wpList_mark (.load 28 (.tmp 3)) rfl ?_; refine wpList_load_row rfl 28 _ rfl (w.heap.size + 1 + 1) rfl _ (ic.setIfInBounds 3 (.string m.dn)) (0, 0) _ (shp_boxes w cs zs _).2.2 Tryz.underlying28 rfl (by rw [infoM, HM.out.size]) ?_) | (refine wpList_mark (.store 28 (.tmp 2) (.tmp 95)) rfl ?_; refine wpList_store_row rfl 28 _ _ rfl (w.heap.size + 1) (ic.setIfInBounds 3 (.string m.dn)) rfl rfl 28 zs (shp_boxes w cs zs _).2.1 (by rw [infoM, HM.out.size]) hzz HM.out.one ?_))
  refine bodyPost_ret (results_cell_row rfl _ _ (w.heap.size + 1) _ (ic.setIfInBounds 3 (.string m.dn)) (0, 0) _ rfl (setRow_heap _ _ _ (ic.setIfInBounds 3 (.string m.dn)) _ _ (shp_boxes w cs zs _).2.1) Tryz.underlying28 rfl (by rw [infoM, HM.out.size])) rfl ⟨(ic.setIfInBounds 3 (.string m.dn)), rfl, below_setRow (shp_boxes w cs zs _).1 (Nat.le_succ w.heap.size) (ic.setIfInBounds 3 (.string m.dn)), HFo.out ▸ HM.out⟩
 by_cases h7 : O = 7
 ·subst h7
  cases hh : m.has with
  | true =>
   have k3:=HH.out.g3
   have i3:=HI.out.g3
   have k15:=HH.out.g15
   have i15:=HI.out.g15
   have k16:=HH.out.g16
   have i16:=HI.out.g16
   have k17:=HH.out.g17
   have i17:=HI.out.g17
   have k18:=HH.out.g18
   have i18:=HI.out.g18
   rw [hh] at k17
   have HFo:=Lib.hid (show shapeR m = { zero with id:=m.id, op:=7, dn:=m.dn, rdn:=m.rdn, del:=m.del, has:=true, sup:=m.sup } by unfold shapeR; rw [hop]; simp [hh])
   have HM:=Lib.hid (show MAt w (· < w.heap.size) { zero with id:=m.id, op:=7, dn:=m.dn, rdn:=m.rdn, del:=m.del, has:=true, sup:=m.sup } (((((ic.setIfInBounds 3 (.string m.dn)).setIfInBounds 15 (.string m.rdn)).setIfInBounds 16 (.bool m.del)).setIfInBounds 17 (.bool true)).setIfInBounds 18 (.string m.sup)) from (MAt.set_sup (MAt.set_has (MAt.set_del (MAt.set_rdn (MAt.set_dn HI.out m.dn HT.out.1) m.rdn HT.out.2.2.1) m.del) true) m.sup HT.out.2.2.2.1))
   have hzz:=hz.trans HM.out.size.symm
   go_wp2_with fail
   go_region
   go_wp2_with (first | (refine wpList_mark (.load 28 (.tmp 3)) rfl ?_; refine wpList_load_row rfl 28 _ rfl (w.heap.size + 1 + 1) rfl _ (((((ic.setIfInBounds 3 (.string m.dn)).setIfInBounds 15 (.string m.rdn)).setIfInBounds 16 (.bool m.del)).setIfInBounds 17 (.bool true)).setIfInBounds 18 (.string m.sup)) (0, 0) _ (shp_boxes w cs zs _).2.2 Tryz.underlying28 rfl (by rw [infoM, HM.out.size]) ?_) | (refine wpList_mark (.store 28 (.tmp 2) (.tmp 95)) rfl ?_; refine wpList_store_row rfl 28 _ _ rfl (w.heap.size + 1) (((((ic.setIfInBounds 3 (.string m.dn)).setIfInBounds 15 (.string m.rdn)).setIfInBounds 16 (.bool m.del)).setIfInBounds 17 (.bool true)).setIfInBounds 18 (.string m.sup)) rfl rfl 28 zs (shp_boxes w cs zs _).2.1 (by rw [infoM, HM.out.size]) hzz HM.out.one ?_))
   refine bodyPost_ret (results_cell_row rfl _ _ (w.heap.size + 1) _ (((((ic.setIfInBounds 3 (.string m.dn)).setIfInBounds 15 (.string m.rdn)).setIfInBounds 16 (.bool m.del)).setIfInBounds 17 (.bool true)).setIfInBounds 18 (.string m.sup)) (0, 0) _ rfl (setRow_heap _ _ _ (((((ic.setIfInBounds 3 (.string m.dn)).setIfInBounds 15 (.string m.rdn)).setIfInBounds 16 (.bool m.del)).setIfInBounds 17 (.bool true)).setIfInBounds 18 (.string m.sup)) _ _ (shp_boxes w cs zs _).2.1) Tryz.underlying28 rfl (by rw [infoM, HM.out.size])) rfl ⟨(((((ic.setIfInBounds 3 (.string m.dn)).setIfInBounds 15 (.string m.rdn)).setIfInBounds 16 (.bool m.del)).setIfInBounds 17 (.bool true)).setIfInBounds 18 (.string m.sup)), rfl, below_setRow (shp_boxes w cs zs _).1.drew (Nat.le_succ w.heap.size) (((((ic.setIfInBounds 3 (.string m.dn)).setIfInBounds 15 (.string m.rdn)).setIfInBounds 16 (.bool m.del)).setIfInBounds 17 (.bool true)).setIfInBounds 18 (.string m.sup)), HFo.out ▸ HM.out⟩
  | false =>
   have k3:=HH.out.g3
   have i3:=HI.out.g3
   have k15:=HH.out.g15
   have i15:=HI.out.g15
   have k16:=HH.out.g16
   have i16:=HI.out.g16
   have k17:=HH.out.g17
   have i17:=HI.out.g17
   rw [hh] at k17
   have HFo:=Lib.hid (show shapeR m = { zero with id:=m.id, op:=7, dn:=m.dn, rdn:=m.rdn, del:=m.del, has:=false } by unfold shapeR; rw [hop]; simp [hh, zero])
   have HM:=Lib.hid (show MAt w (· < w.heap.size) { zero with id:=m.id, op:=7, dn:=m.dn, rdn:=m.rdn, del:=m.del, has:=false } ((((ic.setIfInBounds 3 (.string m.dn)).setIfInBounds 15 (.string m.rdn)).setIfInBounds 16 (.bool m.del)).setIfInBounds 17 (.bool false)) from (MAt.set_has (MAt.set_del (MAt.set_rdn (MAt.set_dn HI.out m.dn HT.out.1) m.rdn HT.out.2.2.1) m.del) false))
   have hzz:=hz.trans HM.out.size.symm
   go_wp2_with fail
   go_region
   go_wp2_with (first | (refine wpList_mark (.load 28 (.tmp 3)) rfl ?_; refine wpList_load_row rfl 28 _ rfl (w.heap.size + 1 + 1) rfl _ ((((ic.setIfInBounds 3 (.string m.dn)).setIfInBounds 15 (.string m.rdn)).setIfInBounds 16 (.bool m.del)).setIfInBounds 17 (.bool false)) (0, 0) _ (shp_boxes w cs zs _).2.2 Tryz.underlying28 rfl (by rw [infoM, HM.out.size]) ?_) | (refine wpList_mark (.store 28 (.tmp 2) (.tmp 95)) rfl ?_; refine wpList_store_row rfl 28 _ _ rfl (w.heap.size + 1) ((((ic.setIfInBounds 3 (.string m.dn)).setIfInBounds 15 (.string m.rdn)).setIfInBounds 16 (.bool m.del)).setIfInBounds 17 (.bool false)) rfl rfl 28 zs (shp_boxes w cs zs _).2.1 (by rw [infoM, HM.out.size]) hzz HM.out.one ?_))
   refine bodyPost_ret (results_cell_row rfl _ _ (w.heap.size + 1) _ ((((ic.setIfInBounds 3 (.string m.dn)).setIfInBounds 15 (.string m.rdn)).setIfInBounds 16 (.bool m.del)).setIfInBounds 17 (.bool false)) (0, 0) _ rfl (setRow_heap _ _ _ ((((ic.setIfInBounds 3 (.string m.dn)).setIfInBounds 15 (.string m.rdn)).setIfInBounds 16 (.bool m.del)).setIfInBounds 17 (.bool false)) _ _ (shp_boxes w cs zs _).2.1) Tryz.underlying28 rfl (by rw [infoM, HM.out.size])) rfl ⟨((((ic.setIfInBounds 3 (.string m.dn)).setIfInBounds 15 (.string m.rdn)).setIfInBounds 16 (.bool m.del)).setIfInBounds 17 (.bool false)), rfl, below_setRow (shp_boxes w cs zs _).1.drew (Nat.le_succ w.heap.size) ((((ic.setIfInBounds 3 (.string m.dn)).setIfInBounds 15 (.string m.rdn)).setIfInBounds 16 (.bool m.del)).setIfInBounds 17 (.bool false)), HFo.out ▸ HM.out⟩
 by_cases h8 : O = 8
 ·subst h8
  have k3:=HH.out.g3
  have i3:=HI.out.g3
  have k19:=HH.out.g19
  have i19:=HI.out.g19
  have k20:=HH.out.g20
  have i20:=HI.out.g20
  have HFo:=Lib.hid (show shapeR m = { zero with id:=m.id, op:=8, dn:=m.dn, attr:=m.attr, value:=m.value } by unfold shapeR; rw [hop]; rfl)
  have HM:=Lib.hid (show MAt w (· < w.heap.size) { zero with id:=m.id, op:=8, dn:=m.dn, attr:=m.attr, value:=m.value } (((ic.setIfInBounds 3 (.string m.dn)).setIfInBounds 19 (.string m.attr)).setIfInBounds 20 (.string m.value)) from (MAt.set_value (MAt.set_attr (MAt.set_dn HI.out m.dn HT.out.1) m.attr HT.out.2.2.2.2.1) m.value HT.out.2.2.2.2.2.1))
  have hzz:=hz.trans HM.out.size.symm
  go_wp2_with fail
  go_region
  go_wp2_with (first | (refine wpList_mark (.load 28 (.tmp 3)) rfl ?_; refine wpList_load_row rfl 28 _ rfl (w.heap.size + 1 + 1) rfl _ (((ic.setIfInBounds 3 (.string m.dn)).setIfInBounds 19 (.string m.attr)).setIfInBounds 20 (.string m.value)) (0, 0) _ (shp_boxes w cs zs _).2.2 Tryz.underlying28 rfl (by rw [infoM, HM.out.size]) ?_) | (refine wpList_mark (.store 28 (.tmp 2) (.tmp 95)) rfl ?_; refine wpList_store_row rfl 28 _ _ rfl (w.heap.size + 1) (((ic.setIfInBounds 3 (.string m.dn)).setIfInBounds 19 (.string m.attr)).setIfInBounds 20 (.string m.value)) rfl rfl 28 zs (shp_boxes w cs zs _).2.1 (by rw [infoM, HM.out.size]) hzz HM.out.one ?_))
  refine bodyPost_ret (results_cell_row rfl _ _ (w.heap.size + 1) _ (((ic.setIfInBounds 3 (.string m.dn)).setIfInBounds 19 (.string m.attr)).setIfInBounds 20 (.string m.value)) (0, 0) _ rfl (setRow_heap _ _ _ (((ic.setIfInBounds 3 (.string m.dn)).setIfInBounds 19 (.string m.attr)).setIfInBounds 20 (.string m.value)) _ _ (shp_boxes w cs zs _).2.1) Tryz.underlying28 rfl (by rw [infoM, HM.out.size])) rfl ⟨(((ic.setIfInBounds 3 (.string m.dn)).setIfInBounds 19 (.string m.attr)).setIfInBounds 20 (.string m.value)), rfl, below_setRow (shp_boxes w cs zs _).1.drew (Nat.le_succ w.heap.size) (((ic.setIfInBounds 3 (.string m.dn)).setIfInBounds 19 (.string m.attr)).setIfInBounds 20 (.string m.value)), HFo.out ▸ HM.out⟩
 by_cases h9 : O = 9
 ·subst h9
  have k2:=HH.out.g2
  have i2:=HI.out.g2
  have k21:=HH.out.g21
  have i21:=HI.out.g21
  have k22:=HH.out.g22
  have i22:=HI.out.g22
  have HFo:=Lib.hid (show shapeR m = { zero with id:=m.id, op:=9, ref:=m.ref, code:=m.code, matched:=m.matched } by unfold shapeR; rw [hop]; rfl)
  have HM:=Lib.hid (show MAt w (· < w.heap.size) { zero with id:=m.id, op:=9, ref:=m.ref, code:=m.code, matched:=m.matched } (((ic.setIfInBounds 2 (.int .i64 m.ref)).setIfInBounds 21 (.int .i64 m.code)).setIfInBounds 22 (.string m.matched)) from (MAt.set_matched (MAt.set_code (MAt.set_ref HI.out m.ref) m.code) m.matched HT.out.2.2.2.2.2.2))
  have hzz:=hz.trans HM.out.size.symm
  go_wp2_with fail
  go_region
  go_wp2_with (first | (refine wpList_mark (.load 28 (.tmp 3)) rfl ?_; refine wpList_load_row rfl 28 _ rfl (w.heap.size + 1 + 1) rfl _ (((ic.setIfInBounds 2 (.int .i64 m.ref)).setIfInBounds 21 (.int .i64 m.code)).setIfInBounds 22 (.string m.matched)) (0, 0) _ (shp_boxes w cs zs _).2.2 Tryz.underlying28 rfl (by rw [infoM, HM.out.size]) ?_) | (refine wpList_mark (.store 28 (.tmp 2) (.tmp 95)) rfl ?_; refine wpList_store_row rfl 28 _ _ rfl (w.heap.size + 1) (((ic.setIfInBounds 2 (.int .i64 m.ref)).setIfInBounds 21 (.int .i64 m.code)).setIfInBounds 22 (.string m.matched)) rfl rfl 28 zs (shp_boxes w cs zs _).2.1 (by rw [infoM, HM.out.size]) hzz HM.out.one ?_))
  refine bodyPost_ret (results_cell_row rfl _ _ (w.heap.size + 1) _ (((ic.setIfInBounds 2 (.int .i64 m.ref)).setIfInBounds 21 (.int .i64 m.code)).setIfInBounds 22 (.string m.matched)) (0, 0) _ rfl (setRow_heap _ _ _ (((ic.setIfInBounds 2 (.int .i64 m.ref)).setIfInBounds 21 (.int .i64 m.code)).setIfInBounds 22 (.string m.matched)) _ _ (shp_boxes w cs zs _).2.1) Tryz.underlying28 rfl (by rw [infoM, HM.out.size])) rfl ⟨(((ic.setIfInBounds 2 (.int .i64 m.ref)).setIfInBounds 21 (.int .i64 m.code)).setIfInBounds 22 (.string m.matched)), rfl, below_setRow (shp_boxes w cs zs _).1.drew (Nat.le_succ w.heap.size) (((ic.setIfInBounds 2 (.int .i64 m.ref)).setIfInBounds 21 (.int .i64 m.code)).setIfInBounds 22 (.string m.matched)), HFo.out ▸ HM.out⟩
 have q1 : (O == 1) = false:=beq_eq_false_iff_ne.2 h1
 have q3 : (O == 3) = false:=beq_eq_false_iff_ne.2 h3
 have q4 : (O == 4) = false:=beq_eq_false_iff_ne.2 h4
 have q5 : (O == 5) = false:=beq_eq_false_iff_ne.2 h5
 have q6 : (O == 6) = false:=beq_eq_false_iff_ne.2 h6
 have q7 : (O == 7) = false:=beq_eq_false_iff_ne.2 h7
 have q8 : (O == 8) = false:=beq_eq_false_iff_ne.2 h8
 have q9 : (O == 9) = false:=beq_eq_false_iff_ne.2 h9
 have q10 : (O == 10) = false:=beq_eq_false_iff_ne.2 h10
 have HFo:=Lib.hid (show shapeR m = { zero with id:=m.id, op:=O } by unfold shapeR; rw [hop]; rw [if_neg h1, if_neg h3, if_neg (by omega), if_neg h6, if_neg h7, if_neg h8, if_neg h9])
 have HM:=Lib.hid (show MAt w (· < w.heap.size) { zero with id:=m.id, op:=O } ic from HI.out)
 clear h1 h3 h4 h5 h6 h7 h8 h9 h10
 have hzz:=hz.trans HM.out.size.symm
 go_wp2_with (first | (refine wpList_mark (.load 28 (.tmp 3)) rfl ?_; refine wpList_load_row rfl 28 _ rfl (w.heap.size + 1 + 1) rfl _ ic (0, 0) _ (shp_boxes w cs zs _).2.2 Tryz.underlying28 rfl (by rw [infoM, HM.out.size]) ?_) | (refine wpList_mark (.store 28 (.tmp 2) (.tmp 95)) rfl ?_; refine wpList_store_row rfl 28 _ _ rfl (w.heap.size + 1) ic rfl rfl 28 zs (shp_boxes w cs zs _).2.1 (by rw [infoM, HM.out.size]) hzz HM.out.one ?_))
 refine bodyPost_ret (results_cell_row rfl _ _ (w.heap.size + 1) _ ic (0, 0) _ rfl (setRow_heap _ _ _ ic _ _ (shp_boxes w cs zs _).2.1) Tryz.underlying28 rfl (by rw [infoM, HM.out.size])) rfl ⟨ic, rfl, below_setRow (shp_boxes w cs zs _).1 (Nat.le_succ w.heap.size) ic, HFo.out ▸ HM.out⟩
end Go.Proofs.YtconghaebebncaaGreatDoor.Ms
