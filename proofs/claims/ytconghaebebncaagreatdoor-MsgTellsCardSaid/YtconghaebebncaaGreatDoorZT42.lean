import Derived.Test.YtconghaebebncaaGreatDoorZT38
import Derived.Test.YtconghaebebncaaGreatDoorZT8
import Derived.RegionTactic
import Derived.ChangeAlike
import Derived.BigRegion
import Derived.Deep.WholeRow
namespace Go.Proofs.YtconghaebebncaaGreatDoor.Ms
open Go.RowKit
set_option linter.unusedVariables false
set_option maxRecDepth 100000
theorem wpList_runs {P : Program} {w : World} {ops : Array Oper} {rest : List Oper} {o : Oper} {a : Act} {Q : Exit → Act → World → Prop} (hgd : o.guard = none) (q : Op) (hq : o.op = q) (d : Option Nat) (hd : o.dst = d) (v : Value) (w' : World) (hrun : (execOp a.eval o).run P w = .ok (.value v) w') (h : wpList P ops Q rest (a.put o.dst v) w') : wpList P ops Q (o :: rest) a w :=
 wpList_plain hgd fun K hK => by
  unfold Oper.wp
  rw [hrun, Oper.upon_value]
  exact hK _ _ h
theorem op_cells (x y : Int) : ∃ (cs zs : Array Value), zs.size = 23 ∧ (∀ (w : World) (P : Nat → Prop), MAt w P { zero with id := x, op := y } cs) ∧
  zs = #[.int .i64 0, .int .i64 0, .int .i64 0, .string ⟨#[]⟩, .int .i64 0, .string ⟨#[]⟩, .int .i64 0, .int .i64 0, .int .i64 0, .string ⟨#[]⟩, .string ⟨#[]⟩, .slice none 0 0, .slice none 0 0, .slice none 0 0, .slice none 0 0, .string ⟨#[]⟩, .bool false, .bool false, .string ⟨#[]⟩, .string ⟨#[]⟩, .string ⟨#[]⟩, .int .i64 0, .string ⟨#[]⟩] ∧ cs = #[.int .i64 x, .int .i64 y, .int .i64 0, .string ⟨#[]⟩, .int .i64 0, .string ⟨#[]⟩, .int .i64 0, .int .i64 0, .int .i64 0, .string ⟨#[]⟩, .string ⟨#[]⟩, .slice none 0 0, .slice none 0 0, .slice none 0 0, .slice none 0 0, .string ⟨#[]⟩, .bool false, .bool false, .string ⟨#[]⟩, .string ⟨#[]⟩, .string ⟨#[]⟩, .int .i64 0, .string ⟨#[]⟩] := by
 obtain ⟨ic, zs, hz, hM, _, ez, ei⟩ := id_cells x
 exact ⟨ic.setIfInBounds 1 (.int .i64 y), zs, hz, fun w P => (hM w P).set_op y, ez, by rw [ei]; rfl⟩
theorem heap_newS {w : World} {o : Obj} {g : Nat} (h : w.heap.size = g) : (w.alloc o).heap[g]? = some o := by subst h; exact heap_alloc_new w o
theorem setRow_newS {w : World} {old cs : Array Value} {t : TypeId} {g : Nat} (h : w.heap.size = g) : (w.alloc (.cells old t)).setRow g cs = w.alloc (.cells cs t) := by subst h; exact World.setRow_alloc_new ..
def ToldS (w : World) (m : Mg) (r : Ending) (w' : World) : Prop := ∃ cs, r = .returned (.agg cs) ∧ Below w.heap.size w w' ∧ MAt w (· < w.heap.size) m cs
theorem shp_boxes (w : World) (cs zs ds : Array Value) : Below w.heap.size w (((w.alloc (.cells cs 28)).alloc (.cells zs 28)).alloc (.cells ds 28)) ∧ Blk (((w.alloc (.cells cs 28)).alloc (.cells zs 28)).alloc (.cells ds 28)).drew (w.heap.size + 1) 28 zs ∧ Blk (((w.alloc (.cells cs 28)).alloc (.cells zs 28)).alloc (.cells ds 28)).drew (w.heap.size + 1 + 1) 28 ds := by
 have h1 : (w.alloc (.cells cs 28)).heap.size = w.heap.size + 1 := by simp
 refine ⟨((((Below.refl w.heap.size w).alloc (Nat.le_refl _) _).alloc (by simp) _).alloc (by simp; omega) _), ?_, heap_newS (by simp)⟩
 have B := (Blk.new (w.alloc (.cells cs 28)) 28 zs).alloc (.cells ds 28)
 rw [h1] at B
 exact B
set_option maxHeartbeats 4000000 in
theorem shp_1 (m : Mg) (O : Int) (cs : Array Value) (w : World) (hop : m.op = O) (hO : O = 1) (h : MAt w (· < w.heap.size) m cs) :
  Calls Tryz.prog 32 #[.agg cs] w (ToldS w (shapeR m)) := by
 have hfo : shapeR m = { zero with id := m.id, op := O, ver := m.ver, dn := m.dn, pass := m.pass } := by unfold shapeR; rw [hop]; subst hO; rfl
 rw [hfo]
 obtain ⟨ic, zs, hz, hMi, ez, ei⟩ := op_cells m.id O
 have hT := h.sizes
 have k0 := h.g0
 have k1 := h.g1
 rw [hop] at k1
 have HI := Lib.hid (hMi w (· < w.heap.size))
 have k4 := h.g4
 have i4 := HI.out.g4
 have k3 := h.g3
 have i3 := HI.out.g3
 have k5 := h.g5
 have i5 := HI.out.g5
 have HM := Lib.hid (show MAt w (· < w.heap.size) { zero with id := m.id, op := O, ver := m.ver, dn := m.dn, pass := m.pass } (((ic.setIfInBounds 4 (.int .i64 m.ver)).setIfInBounds 3 (.string m.dn)).setIfInBounds 5 (.string m.pass)) from (MAt.set_pass (MAt.set_dn (MAt.set_ver HI.out m.ver) m.dn hT.1) m.pass hT.2.1))
 have hi := HI.out.size
 have HEz := Lib.hid ez
 have HEi := Lib.hid ei
 have hg := Lib.hid (show ((w.alloc (.cells cs 28)).alloc (.cells zs 28)).heap.size = w.heap.size + 1 + 1 by simp)
 have hzz := hz.trans HM.out.size.symm
 clear h hMi ei ez hT hfo
 subst hO
 go_enter Tryz.func32, Tryz.ntmps32
 go_wp2_with (first | (refine wpList_runs rfl (.alloc 28) rfl (some 2) rfl (.pointer (some ⟨(w.alloc (.cells cs 28)).heap.size, 0, none⟩)) ((w.alloc (.cells cs 28)).alloc (.cells zs 28)) (by rw [HEz.out]; kernel_rfl) ?_) | (refine wpList_gives rfl (.build 28 #[(0, .tmp 5), (1, .tmp 7)]) rfl (.agg ic) (by rw [HEi.out]; kernel_rfl) ?_) | (refine wpList_mark (.store 28 (.tmp 3) (.tmp 8)) rfl ?_; refine wpList_store_row rfl 28 _ _ rfl (w.heap.size + 1 + 1) ic rfl rfl 28 _ (heap_newS hg.out) (by rw [infoM, hi]) ?_ HI.out.one ?_; exact Eq.trans rfl hi.symm; rw [setRow_newS hg.out]))
 go_region
 go_wp2_with (first | (refine wpList_mark (.load 28 (.tmp 3)) rfl ?_; refine wpList_load_row rfl 28 _ rfl (w.heap.size + 1 + 1) rfl _ (((ic.setIfInBounds 4 (.int .i64 m.ver)).setIfInBounds 3 (.string m.dn)).setIfInBounds 5 (.string m.pass)) (0, 0) _ (shp_boxes w cs zs _).2.2 Tryz.underlying28 rfl (by rw [infoM, HM.out.size]) ?_) | (refine wpList_mark (.store 28 (.tmp 2) (.tmp 95)) rfl ?_; refine wpList_store_row rfl 28 _ _ rfl (w.heap.size + 1) (((ic.setIfInBounds 4 (.int .i64 m.ver)).setIfInBounds 3 (.string m.dn)).setIfInBounds 5 (.string m.pass)) rfl rfl 28 zs (shp_boxes w cs zs _).2.1 (by rw [infoM, HM.out.size]) hzz HM.out.one ?_))
 refine bodyPost_ret (results_cell_row rfl _ _ (w.heap.size + 1) _ (((ic.setIfInBounds 4 (.int .i64 m.ver)).setIfInBounds 3 (.string m.dn)).setIfInBounds 5 (.string m.pass)) (0, 0) _ rfl (setRow_heap _ _ _ (((ic.setIfInBounds 4 (.int .i64 m.ver)).setIfInBounds 3 (.string m.dn)).setIfInBounds 5 (.string m.pass)) _ _ (shp_boxes w cs zs _).2.1) Tryz.underlying28 rfl (by rw [infoM, HM.out.size])) rfl ⟨(((ic.setIfInBounds 4 (.int .i64 m.ver)).setIfInBounds 3 (.string m.dn)).setIfInBounds 5 (.string m.pass)), rfl, below_setRow (shp_boxes w cs zs _).1.drew (Nat.le_succ w.heap.size) (((ic.setIfInBounds 4 (.int .i64 m.ver)).setIfInBounds 3 (.string m.dn)).setIfInBounds 5 (.string m.pass)), HM.out⟩
set_option maxHeartbeats 4000000 in
theorem shp_3 (m : Mg) (O : Int) (cs : Array Value) (w : World) (hop : m.op = O) (hO : O = 3) (h : MAt w (· < w.heap.size) m cs) :
  Calls Tryz.prog 32 #[.agg cs] w (ToldS w (shapeR m)) := by
 have hfo : shapeR m = { zero with id := m.id, op := O, dn := m.dn, scope := m.scope, size := m.size, fil := m.fil, wants := m.wants } := by unfold shapeR; rw [hop]; subst hO; rfl
 rw [hfo]
 obtain ⟨ic, zs, hz, hMi, ez, ei⟩ := op_cells m.id O
 have hT := h.sizes
 have k0 := h.g0
 have k1 := h.g1
 rw [hop] at k1
 have HI := Lib.hid (hMi w (· < w.heap.size))
 have k3 := h.g3
 have i3 := HI.out.g3
 have k6 := h.g6
 have i6 := HI.out.g6
 have k7 := h.g7
 have i7 := HI.out.g7
 obtain ⟨x0, x1, x2, x3, x4, k8, k9, k10, k11, k12, hF⟩ := h.gF
 obtain ⟨k, a, v, S, n1, n2, A, n3, n4, hcs⟩ := hF.form
 simp only [List.cons.injEq, and_true] at hcs
 obtain ⟨rfl, rfl, rfl, rfl, rfl⟩ := hcs
 obtain ⟨y0, y1, y2, y3, y4, i8, i9, i10, i11, i12, -⟩ := HI.out.gF
 obtain ⟨W, wc, k13, hW⟩ := h.gW
 obtain ⟨_, _, i13, -⟩ := HI.out.gW
 have HM := Lib.hid (show MAt w (· < w.heap.size) { zero with id := m.id, op := O, dn := m.dn, scope := m.scope, size := m.size, fil := m.fil, wants := m.wants } (((((((((ic.setIfInBounds 3 (.string m.dn)).setIfInBounds 6 (.int .i64 m.scope)).setIfInBounds 7 (.int .i64 m.size)).setIfInBounds 8 (.int .i64 k)).setIfInBounds 9 (.string a)).setIfInBounds 10 (.string v)).setIfInBounds 11 (.slice S n1 n2)).setIfInBounds 12 (.slice A n3 n4)).setIfInBounds 13 (.slice W m.wants.length wc)) from (MAt.set_wants (MAt.set_fil (MAt.set_size (MAt.set_scope (MAt.set_dn HI.out m.dn hT.1) m.scope) m.size) m.fil _ _ _ _ _ hF) m.wants W wc hW.1 hW.2.1 hW.2.2.1 hW.2.2.2))
 have hi := HI.out.size
 have HEz := Lib.hid ez
 have HEi := Lib.hid ei
 have hg := Lib.hid (show ((w.alloc (.cells cs 28)).alloc (.cells zs 28)).heap.size = w.heap.size + 1 + 1 by simp)
 have hzz := hz.trans HM.out.size.symm
 clear h hMi ei ez hT hfo
 subst hO
 go_enter Tryz.func32, Tryz.ntmps32
 go_wp2_with (first | (refine wpList_runs rfl (.alloc 28) rfl (some 2) rfl (.pointer (some ⟨(w.alloc (.cells cs 28)).heap.size, 0, none⟩)) ((w.alloc (.cells cs 28)).alloc (.cells zs 28)) (by rw [HEz.out]; kernel_rfl) ?_) | (refine wpList_gives rfl (.build 28 #[(0, .tmp 5), (1, .tmp 7)]) rfl (.agg ic) (by rw [HEi.out]; kernel_rfl) ?_) | (refine wpList_mark (.store 28 (.tmp 3) (.tmp 8)) rfl ?_; refine wpList_store_row rfl 28 _ _ rfl (w.heap.size + 1 + 1) ic rfl rfl 28 _ (heap_newS hg.out) (by rw [infoM, hi]) ?_ HI.out.one ?_; exact Eq.trans rfl hi.symm; rw [setRow_newS hg.out]))
 go_region
 go_wp2_with (first | (refine wpList_mark (.load 28 (.tmp 3)) rfl ?_; refine wpList_load_row rfl 28 _ rfl (w.heap.size + 1 + 1) rfl _ (((((((((ic.setIfInBounds 3 (.string m.dn)).setIfInBounds 6 (.int .i64 m.scope)).setIfInBounds 7 (.int .i64 m.size)).setIfInBounds 8 (.int .i64 k)).setIfInBounds 9 (.string a)).setIfInBounds 10 (.string v)).setIfInBounds 11 (.slice S n1 n2)).setIfInBounds 12 (.slice A n3 n4)).setIfInBounds 13 (.slice W m.wants.length wc)) (0, 0) _ (shp_boxes w cs zs _).2.2 Tryz.underlying28 rfl (by rw [infoM, HM.out.size]) ?_) | (refine wpList_mark (.store 28 (.tmp 2) (.tmp 95)) rfl ?_; refine wpList_store_row rfl 28 _ _ rfl (w.heap.size + 1) (((((((((ic.setIfInBounds 3 (.string m.dn)).setIfInBounds 6 (.int .i64 m.scope)).setIfInBounds 7 (.int .i64 m.size)).setIfInBounds 8 (.int .i64 k)).setIfInBounds 9 (.string a)).setIfInBounds 10 (.string v)).setIfInBounds 11 (.slice S n1 n2)).setIfInBounds 12 (.slice A n3 n4)).setIfInBounds 13 (.slice W m.wants.length wc)) rfl rfl 28 zs (shp_boxes w cs zs _).2.1 (by rw [infoM, HM.out.size]) hzz HM.out.one ?_))
 refine bodyPost_ret (results_cell_row rfl _ _ (w.heap.size + 1) _ (((((((((ic.setIfInBounds 3 (.string m.dn)).setIfInBounds 6 (.int .i64 m.scope)).setIfInBounds 7 (.int .i64 m.size)).setIfInBounds 8 (.int .i64 k)).setIfInBounds 9 (.string a)).setIfInBounds 10 (.string v)).setIfInBounds 11 (.slice S n1 n2)).setIfInBounds 12 (.slice A n3 n4)).setIfInBounds 13 (.slice W m.wants.length wc)) (0, 0) _ rfl (setRow_heap _ _ _ (((((((((ic.setIfInBounds 3 (.string m.dn)).setIfInBounds 6 (.int .i64 m.scope)).setIfInBounds 7 (.int .i64 m.size)).setIfInBounds 8 (.int .i64 k)).setIfInBounds 9 (.string a)).setIfInBounds 10 (.string v)).setIfInBounds 11 (.slice S n1 n2)).setIfInBounds 12 (.slice A n3 n4)).setIfInBounds 13 (.slice W m.wants.length wc)) _ _ (shp_boxes w cs zs _).2.1) Tryz.underlying28 rfl (by rw [infoM, HM.out.size])) rfl ⟨(((((((((ic.setIfInBounds 3 (.string m.dn)).setIfInBounds 6 (.int .i64 m.scope)).setIfInBounds 7 (.int .i64 m.size)).setIfInBounds 8 (.int .i64 k)).setIfInBounds 9 (.string a)).setIfInBounds 10 (.string v)).setIfInBounds 11 (.slice S n1 n2)).setIfInBounds 12 (.slice A n3 n4)).setIfInBounds 13 (.slice W m.wants.length wc)), rfl, below_setRow (shp_boxes w cs zs _).1.drew (Nat.le_succ w.heap.size) (((((((((ic.setIfInBounds 3 (.string m.dn)).setIfInBounds 6 (.int .i64 m.scope)).setIfInBounds 7 (.int .i64 m.size)).setIfInBounds 8 (.int .i64 k)).setIfInBounds 9 (.string a)).setIfInBounds 10 (.string v)).setIfInBounds 11 (.slice S n1 n2)).setIfInBounds 12 (.slice A n3 n4)).setIfInBounds 13 (.slice W m.wants.length wc)), HM.out⟩
set_option maxHeartbeats 4000000 in
theorem shp_o (m : Mg) (O : Int) (cs : Array Value) (w : World) (hop : m.op = O) (h1 : O ≠ 1) (h3 : O ≠ 3) (h4 : O ≠ 4) (h5 : O ≠ 5) (h6 : O ≠ 6) (h7 : O ≠ 7) (h8 : O ≠ 8) (h9 : O ≠ 9) (h10 : O ≠ 10) (h : MAt w (· < w.heap.size) m cs) :
  Calls Tryz.prog 32 #[.agg cs] w (ToldS w (shapeR m)) := by
 have hfo : shapeR m = { zero with id := m.id, op := O } := by unfold shapeR; rw [hop]; rw [if_neg h1, if_neg h3, if_neg (by omega), if_neg h6, if_neg h7, if_neg h8, if_neg h9]
 rw [hfo]
 obtain ⟨ic, zs, hz, hMi, ez, ei⟩ := op_cells m.id O
 have hT := h.sizes
 have k0 := h.g0
 have k1 := h.g1
 rw [hop] at k1
 have HI := Lib.hid (hMi w (· < w.heap.size))
 have HM := Lib.hid (show MAt w (· < w.heap.size) { zero with id := m.id, op := O } ic from HI.out)
 have hi := HI.out.size
 have HEz := Lib.hid ez
 have HEi := Lib.hid ei
 have hg := Lib.hid (show ((w.alloc (.cells cs 28)).alloc (.cells zs 28)).heap.size = w.heap.size + 1 + 1 by simp)
 have hzz := hz.trans HM.out.size.symm
 have q1 : (O == 1) = false := beq_eq_false_iff_ne.2 h1
 have q3 : (O == 3) = false := beq_eq_false_iff_ne.2 h3
 have q4 : (O == 4) = false := beq_eq_false_iff_ne.2 h4
 have q5 : (O == 5) = false := beq_eq_false_iff_ne.2 h5
 have q6 : (O == 6) = false := beq_eq_false_iff_ne.2 h6
 have q7 : (O == 7) = false := beq_eq_false_iff_ne.2 h7
 have q8 : (O == 8) = false := beq_eq_false_iff_ne.2 h8
 have q9 : (O == 9) = false := beq_eq_false_iff_ne.2 h9
 have q10 : (O == 10) = false := beq_eq_false_iff_ne.2 h10
 clear h1 h3 h4 h5 h6 h7 h8 h9 h10
 clear h hMi ei ez hT hfo
 go_enter Tryz.func32, Tryz.ntmps32
 go_wp2_with (first | (refine wpList_runs rfl (.alloc 28) rfl (some 2) rfl (.pointer (some ⟨(w.alloc (.cells cs 28)).heap.size, 0, none⟩)) ((w.alloc (.cells cs 28)).alloc (.cells zs 28)) (by rw [HEz.out]; kernel_rfl) ?_) | (refine wpList_gives rfl (.build 28 #[(0, .tmp 5), (1, .tmp 7)]) rfl (.agg ic) (by rw [HEi.out]; kernel_rfl) ?_) | (refine wpList_mark (.store 28 (.tmp 3) (.tmp 8)) rfl ?_; refine wpList_store_row rfl 28 _ _ rfl (w.heap.size + 1 + 1) ic rfl rfl 28 _ (heap_newS hg.out) (by rw [infoM, hi]) ?_ HI.out.one ?_; exact Eq.trans rfl hi.symm; rw [setRow_newS hg.out]) | (refine wpList_mark (.load 28 (.tmp 3)) rfl ?_; refine wpList_load_row rfl 28 _ rfl (w.heap.size + 1 + 1) rfl _ ic (0, 0) _ (shp_boxes w cs zs _).2.2 Tryz.underlying28 rfl (by rw [infoM, HM.out.size]) ?_) | (refine wpList_mark (.store 28 (.tmp 2) (.tmp 95)) rfl ?_; refine wpList_store_row rfl 28 _ _ rfl (w.heap.size + 1) ic rfl rfl 28 zs (shp_boxes w cs zs _).2.1 (by rw [infoM, HM.out.size]) hzz HM.out.one ?_))
 refine bodyPost_ret (results_cell_row rfl _ _ (w.heap.size + 1) _ ic (0, 0) _ rfl (setRow_heap _ _ _ ic _ _ (shp_boxes w cs zs _).2.1) Tryz.underlying28 rfl (by rw [infoM, HM.out.size])) rfl ⟨ic, rfl, below_setRow (shp_boxes w cs zs _).1 (Nat.le_succ w.heap.size) ic, HM.out⟩
set_option maxHeartbeats 4000000 in
theorem shp_6 (m : Mg) (O : Int) (cs : Array Value) (w : World) (hop : m.op = O) (hO : O = 6) (h : MAt w (· < w.heap.size) m cs) :
  Calls Tryz.prog 32 #[.agg cs] w (ToldS w (shapeR m)) := by
 have hfo : shapeR m = { zero with id := m.id, op := O, dn := m.dn } := by unfold shapeR; rw [hop]; subst hO; rfl
 rw [hfo]
 obtain ⟨ic, zs, hz, hMi, ez, ei⟩ := op_cells m.id O
 have hT := h.sizes
 have k0 := h.g0
 have k1 := h.g1
 rw [hop] at k1
 have HI := Lib.hid (hMi w (· < w.heap.size))
 have k3 := h.g3
 have i3 := HI.out.g3
 have HM := Lib.hid (show MAt w (· < w.heap.size) { zero with id := m.id, op := O, dn := m.dn } (ic.setIfInBounds 3 (.string m.dn)) from (MAt.set_dn HI.out m.dn hT.1))
 have hi := HI.out.size
 have HEz := Lib.hid ez
 have HEi := Lib.hid ei
 have hg := Lib.hid (show ((w.alloc (.cells cs 28)).alloc (.cells zs 28)).heap.size = w.heap.size + 1 + 1 by simp)
 have hzz := hz.trans HM.out.size.symm
 clear h hMi ei ez hT hfo
 subst hO
 go_enter Tryz.func32, Tryz.ntmps32
 go_wp2_with (first | (refine wpList_runs rfl (.alloc 28) rfl (some 2) rfl (.pointer (some ⟨(w.alloc (.cells cs 28)).heap.size, 0, none⟩)) ((w.alloc (.cells cs 28)).alloc (.cells zs 28)) (by rw [HEz.out]; kernel_rfl) ?_) | (refine wpList_gives rfl (.build 28 #[(0, .tmp 5), (1, .tmp 7)]) rfl (.agg ic) (by rw [HEi.out]; kernel_rfl) ?_) | (refine wpList_mark (.store 28 (.tmp 3) (.tmp 8)) rfl ?_; refine wpList_store_row rfl 28 _ _ rfl (w.heap.size + 1 + 1) ic rfl rfl 28 _ (heap_newS hg.out) (by rw [infoM, hi]) ?_ HI.out.one ?_; exact Eq.trans rfl hi.symm; rw [setRow_newS hg.out]) | (refine wpList_mark (.load 28 (.tmp 3)) rfl ?_; refine wpList_load_row rfl 28 _ rfl (w.heap.size + 1 + 1) rfl _ (ic.setIfInBounds 3 (.string m.dn)) (0, 0) _ (shp_boxes w cs zs _).2.2 Tryz.underlying28 rfl (by rw [infoM, HM.out.size]) ?_) | (refine wpList_mark (.store 28 (.tmp 2) (.tmp 95)) rfl ?_; refine wpList_store_row rfl 28 _ _ rfl (w.heap.size + 1) (ic.setIfInBounds 3 (.string m.dn)) rfl rfl 28 zs (shp_boxes w cs zs _).2.1 (by rw [infoM, HM.out.size]) hzz HM.out.one ?_))
 refine bodyPost_ret (results_cell_row rfl _ _ (w.heap.size + 1) _ (ic.setIfInBounds 3 (.string m.dn)) (0, 0) _ rfl (setRow_heap _ _ _ (ic.setIfInBounds 3 (.string m.dn)) _ _ (shp_boxes w cs zs _).2.1) Tryz.underlying28 rfl (by rw [infoM, HM.out.size])) rfl ⟨(ic.setIfInBounds 3 (.string m.dn)), rfl, below_setRow (shp_boxes w cs zs _).1 (Nat.le_succ w.heap.size) (ic.setIfInBounds 3 (.string m.dn)), HM.out⟩
set_option maxHeartbeats 4000000 in
theorem shp_8 (m : Mg) (O : Int) (cs : Array Value) (w : World) (hop : m.op = O) (hO : O = 8) (h : MAt w (· < w.heap.size) m cs) :
  Calls Tryz.prog 32 #[.agg cs] w (ToldS w (shapeR m)) := by
 have hfo : shapeR m = { zero with id := m.id, op := O, dn := m.dn, attr := m.attr, value := m.value } := by unfold shapeR; rw [hop]; subst hO; rfl
 rw [hfo]
 obtain ⟨ic, zs, hz, hMi, ez, ei⟩ := op_cells m.id O
 have hT := h.sizes
 have k0 := h.g0
 have k1 := h.g1
 rw [hop] at k1
 have HI := Lib.hid (hMi w (· < w.heap.size))
 have k3 := h.g3
 have i3 := HI.out.g3
 have k19 := h.g19
 have i19 := HI.out.g19
 have k20 := h.g20
 have i20 := HI.out.g20
 have HM := Lib.hid (show MAt w (· < w.heap.size) { zero with id := m.id, op := O, dn := m.dn, attr := m.attr, value := m.value } (((ic.setIfInBounds 3 (.string m.dn)).setIfInBounds 19 (.string m.attr)).setIfInBounds 20 (.string m.value)) from (MAt.set_value (MAt.set_attr (MAt.set_dn HI.out m.dn hT.1) m.attr hT.2.2.2.2.1) m.value hT.2.2.2.2.2.1))
 have hi := HI.out.size
 have HEz := Lib.hid ez
 have HEi := Lib.hid ei
 have hg := Lib.hid (show ((w.alloc (.cells cs 28)).alloc (.cells zs 28)).heap.size = w.heap.size + 1 + 1 by simp)
 have hzz := hz.trans HM.out.size.symm
 clear h hMi ei ez hT hfo
 subst hO
 go_enter Tryz.func32, Tryz.ntmps32
 go_wp2_with (first | (refine wpList_runs rfl (.alloc 28) rfl (some 2) rfl (.pointer (some ⟨(w.alloc (.cells cs 28)).heap.size, 0, none⟩)) ((w.alloc (.cells cs 28)).alloc (.cells zs 28)) (by rw [HEz.out]; kernel_rfl) ?_) | (refine wpList_gives rfl (.build 28 #[(0, .tmp 5), (1, .tmp 7)]) rfl (.agg ic) (by rw [HEi.out]; kernel_rfl) ?_) | (refine wpList_mark (.store 28 (.tmp 3) (.tmp 8)) rfl ?_; refine wpList_store_row rfl 28 _ _ rfl (w.heap.size + 1 + 1) ic rfl rfl 28 _ (heap_newS hg.out) (by rw [infoM, hi]) ?_ HI.out.one ?_; exact Eq.trans rfl hi.symm; rw [setRow_newS hg.out]))
 go_region
 go_wp2_with (first | (refine wpList_mark (.load 28 (.tmp 3)) rfl ?_; refine wpList_load_row rfl 28 _ rfl (w.heap.size + 1 + 1) rfl _ (((ic.setIfInBounds 3 (.string m.dn)).setIfInBounds 19 (.string m.attr)).setIfInBounds 20 (.string m.value)) (0, 0) _ (shp_boxes w cs zs _).2.2 Tryz.underlying28 rfl (by rw [infoM, HM.out.size]) ?_) | (refine wpList_mark (.store 28 (.tmp 2) (.tmp 95)) rfl ?_; refine wpList_store_row rfl 28 _ _ rfl (w.heap.size + 1) (((ic.setIfInBounds 3 (.string m.dn)).setIfInBounds 19 (.string m.attr)).setIfInBounds 20 (.string m.value)) rfl rfl 28 zs (shp_boxes w cs zs _).2.1 (by rw [infoM, HM.out.size]) hzz HM.out.one ?_))
 refine bodyPost_ret (results_cell_row rfl _ _ (w.heap.size + 1) _ (((ic.setIfInBounds 3 (.string m.dn)).setIfInBounds 19 (.string m.attr)).setIfInBounds 20 (.string m.value)) (0, 0) _ rfl (setRow_heap _ _ _ (((ic.setIfInBounds 3 (.string m.dn)).setIfInBounds 19 (.string m.attr)).setIfInBounds 20 (.string m.value)) _ _ (shp_boxes w cs zs _).2.1) Tryz.underlying28 rfl (by rw [infoM, HM.out.size])) rfl ⟨(((ic.setIfInBounds 3 (.string m.dn)).setIfInBounds 19 (.string m.attr)).setIfInBounds 20 (.string m.value)), rfl, below_setRow (shp_boxes w cs zs _).1.drew (Nat.le_succ w.heap.size) (((ic.setIfInBounds 3 (.string m.dn)).setIfInBounds 19 (.string m.attr)).setIfInBounds 20 (.string m.value)), HM.out⟩
set_option maxHeartbeats 4000000 in
theorem shp_9 (m : Mg) (O : Int) (cs : Array Value) (w : World) (hop : m.op = O) (hO : O = 9) (h : MAt w (· < w.heap.size) m cs) :
  Calls Tryz.prog 32 #[.agg cs] w (ToldS w (shapeR m)) := by
 have hfo : shapeR m = { zero with id := m.id, op := O, ref := m.ref, code := m.code, matched := m.matched } := by unfold shapeR; rw [hop]; subst hO; rfl
 rw [hfo]
 obtain ⟨ic, zs, hz, hMi, ez, ei⟩ := op_cells m.id O
 have hT := h.sizes
 have k0 := h.g0
 have k1 := h.g1
 rw [hop] at k1
 have HI := Lib.hid (hMi w (· < w.heap.size))
 have k2 := h.g2
 have i2 := HI.out.g2
 have k21 := h.g21
 have i21 := HI.out.g21
 have k22 := h.g22
 have i22 := HI.out.g22
 have HM := Lib.hid (show MAt w (· < w.heap.size) { zero with id := m.id, op := O, ref := m.ref, code := m.code, matched := m.matched } (((ic.setIfInBounds 2 (.int .i64 m.ref)).setIfInBounds 21 (.int .i64 m.code)).setIfInBounds 22 (.string m.matched)) from (MAt.set_matched (MAt.set_code (MAt.set_ref HI.out m.ref) m.code) m.matched hT.2.2.2.2.2.2))
 have hi := HI.out.size
 have HEz := Lib.hid ez
 have HEi := Lib.hid ei
 have hg := Lib.hid (show ((w.alloc (.cells cs 28)).alloc (.cells zs 28)).heap.size = w.heap.size + 1 + 1 by simp)
 have hzz := hz.trans HM.out.size.symm
 clear h hMi ei ez hT hfo
 subst hO
 go_enter Tryz.func32, Tryz.ntmps32
 go_wp2_with (first | (refine wpList_runs rfl (.alloc 28) rfl (some 2) rfl (.pointer (some ⟨(w.alloc (.cells cs 28)).heap.size, 0, none⟩)) ((w.alloc (.cells cs 28)).alloc (.cells zs 28)) (by rw [HEz.out]; kernel_rfl) ?_) | (refine wpList_gives rfl (.build 28 #[(0, .tmp 5), (1, .tmp 7)]) rfl (.agg ic) (by rw [HEi.out]; kernel_rfl) ?_) | (refine wpList_mark (.store 28 (.tmp 3) (.tmp 8)) rfl ?_; refine wpList_store_row rfl 28 _ _ rfl (w.heap.size + 1 + 1) ic rfl rfl 28 _ (heap_newS hg.out) (by rw [infoM, hi]) ?_ HI.out.one ?_; exact Eq.trans rfl hi.symm; rw [setRow_newS hg.out]))
 go_region
 go_wp2_with (first | (refine wpList_mark (.load 28 (.tmp 3)) rfl ?_; refine wpList_load_row rfl 28 _ rfl (w.heap.size + 1 + 1) rfl _ (((ic.setIfInBounds 2 (.int .i64 m.ref)).setIfInBounds 21 (.int .i64 m.code)).setIfInBounds 22 (.string m.matched)) (0, 0) _ (shp_boxes w cs zs _).2.2 Tryz.underlying28 rfl (by rw [infoM, HM.out.size]) ?_) | (refine wpList_mark (.store 28 (.tmp 2) (.tmp 95)) rfl ?_; refine wpList_store_row rfl 28 _ _ rfl (w.heap.size + 1) (((ic.setIfInBounds 2 (.int .i64 m.ref)).setIfInBounds 21 (.int .i64 m.code)).setIfInBounds 22 (.string m.matched)) rfl rfl 28 zs (shp_boxes w cs zs _).2.1 (by rw [infoM, HM.out.size]) hzz HM.out.one ?_))
 refine bodyPost_ret (results_cell_row rfl _ _ (w.heap.size + 1) _ (((ic.setIfInBounds 2 (.int .i64 m.ref)).setIfInBounds 21 (.int .i64 m.code)).setIfInBounds 22 (.string m.matched)) (0, 0) _ rfl (setRow_heap _ _ _ (((ic.setIfInBounds 2 (.int .i64 m.ref)).setIfInBounds 21 (.int .i64 m.code)).setIfInBounds 22 (.string m.matched)) _ _ (shp_boxes w cs zs _).2.1) Tryz.underlying28 rfl (by rw [infoM, HM.out.size])) rfl ⟨(((ic.setIfInBounds 2 (.int .i64 m.ref)).setIfInBounds 21 (.int .i64 m.code)).setIfInBounds 22 (.string m.matched)), rfl, below_setRow (shp_boxes w cs zs _).1.drew (Nat.le_succ w.heap.size) (((ic.setIfInBounds 2 (.int .i64 m.ref)).setIfInBounds 21 (.int .i64 m.code)).setIfInBounds 22 (.string m.matched)), HM.out⟩
set_option maxHeartbeats 4000000 in
theorem shp_4 (m : Mg) (O : Int) (cs : Array Value) (w : World) (hop : m.op = O) (hO : O = 4) (h : MAt w (· < w.heap.size) m cs) :
  Calls Tryz.prog 32 #[.agg cs] w (ToldS w (shapeR m)) := by
 have hfo : shapeR m = { zero with id := m.id, op := O, dn := m.dn, mods := m.mods } := by unfold shapeR; rw [hop]; subst hO; rfl
 rw [hfo]
 obtain ⟨ic, zs, hz, hMi, ez, ei⟩ := op_cells m.id O
 have hT := h.sizes
 have k0 := h.g0
 have k1 := h.g1
 rw [hop] at k1
 have HI := Lib.hid (hMi w (· < w.heap.size))
 have k3 := h.g3
 have i3 := HI.out.g3
 obtain ⟨M, mc, ds, k14, hM⟩ := h.gM
 obtain ⟨_, _, _, i14, -⟩ := HI.out.gM
 have HM := Lib.hid (show MAt w (· < w.heap.size) { zero with id := m.id, op := O, dn := m.dn, mods := m.mods } ((ic.setIfInBounds 3 (.string m.dn)).setIfInBounds 14 (.slice M m.mods.length mc)) from (MAt.set_mods (MAt.set_dn HI.out m.dn hT.1) m.mods M mc ds hM.1 hM.2.1 hM.2.2))
 have hi := HI.out.size
 have HEz := Lib.hid ez
 have HEi := Lib.hid ei
 have hg := Lib.hid (show ((w.alloc (.cells cs 28)).alloc (.cells zs 28)).heap.size = w.heap.size + 1 + 1 by simp)
 have hzz := hz.trans HM.out.size.symm
 clear h hMi ei ez hT hfo
 subst hO
 go_enter Tryz.func32, Tryz.ntmps32
 go_wp2_with (first | (refine wpList_runs rfl (.alloc 28) rfl (some 2) rfl (.pointer (some ⟨(w.alloc (.cells cs 28)).heap.size, 0, none⟩)) ((w.alloc (.cells cs 28)).alloc (.cells zs 28)) (by rw [HEz.out]; kernel_rfl) ?_) | (refine wpList_gives rfl (.build 28 #[(0, .tmp 5), (1, .tmp 7)]) rfl (.agg ic) (by rw [HEi.out]; kernel_rfl) ?_) | (refine wpList_mark (.store 28 (.tmp 3) (.tmp 8)) rfl ?_; refine wpList_store_row rfl 28 _ _ rfl (w.heap.size + 1 + 1) ic rfl rfl 28 _ (heap_newS hg.out) (by rw [infoM, hi]) ?_ HI.out.one ?_; exact Eq.trans rfl hi.symm; rw [setRow_newS hg.out]))
 go_region
 go_wp2_with (first | (refine wpList_mark (.load 28 (.tmp 3)) rfl ?_; refine wpList_load_row rfl 28 _ rfl (w.heap.size + 1 + 1) rfl _ ((ic.setIfInBounds 3 (.string m.dn)).setIfInBounds 14 (.slice M m.mods.length mc)) (0, 0) _ (shp_boxes w cs zs _).2.2 Tryz.underlying28 rfl (by rw [infoM, HM.out.size]) ?_) | (refine wpList_mark (.store 28 (.tmp 2) (.tmp 95)) rfl ?_; refine wpList_store_row rfl 28 _ _ rfl (w.heap.size + 1) ((ic.setIfInBounds 3 (.string m.dn)).setIfInBounds 14 (.slice M m.mods.length mc)) rfl rfl 28 zs (shp_boxes w cs zs _).2.1 (by rw [infoM, HM.out.size]) hzz HM.out.one ?_))
 refine bodyPost_ret (results_cell_row rfl _ _ (w.heap.size + 1) _ ((ic.setIfInBounds 3 (.string m.dn)).setIfInBounds 14 (.slice M m.mods.length mc)) (0, 0) _ rfl (setRow_heap _ _ _ ((ic.setIfInBounds 3 (.string m.dn)).setIfInBounds 14 (.slice M m.mods.length mc)) _ _ (shp_boxes w cs zs _).2.1) Tryz.underlying28 rfl (by rw [infoM, HM.out.size])) rfl ⟨((ic.setIfInBounds 3 (.string m.dn)).setIfInBounds 14 (.slice M m.mods.length mc)), rfl, below_setRow (shp_boxes w cs zs _).1.drew (Nat.le_succ w.heap.size) ((ic.setIfInBounds 3 (.string m.dn)).setIfInBounds 14 (.slice M m.mods.length mc)), HM.out⟩
set_option maxHeartbeats 4000000 in
theorem shp_5 (m : Mg) (O : Int) (cs : Array Value) (w : World) (hop : m.op = O) (hO : O = 5) (h : MAt w (· < w.heap.size) m cs) :
  Calls Tryz.prog 32 #[.agg cs] w (ToldS w (shapeR m)) := by
 have hfo : shapeR m = { zero with id := m.id, op := O, dn := m.dn, mods := m.mods } := by unfold shapeR; rw [hop]; subst hO; rfl
 rw [hfo]
 obtain ⟨ic, zs, hz, hMi, ez, ei⟩ := op_cells m.id O
 have hT := h.sizes
 have k0 := h.g0
 have k1 := h.g1
 rw [hop] at k1
 have HI := Lib.hid (hMi w (· < w.heap.size))
 have k3 := h.g3
 have i3 := HI.out.g3
 obtain ⟨M, mc, ds, k14, hM⟩ := h.gM
 obtain ⟨_, _, _, i14, -⟩ := HI.out.gM
 have HM := Lib.hid (show MAt w (· < w.heap.size) { zero with id := m.id, op := O, dn := m.dn, mods := m.mods } ((ic.setIfInBounds 3 (.string m.dn)).setIfInBounds 14 (.slice M m.mods.length mc)) from (MAt.set_mods (MAt.set_dn HI.out m.dn hT.1) m.mods M mc ds hM.1 hM.2.1 hM.2.2))
 have hi := HI.out.size
 have HEz := Lib.hid ez
 have HEi := Lib.hid ei
 have hg := Lib.hid (show ((w.alloc (.cells cs 28)).alloc (.cells zs 28)).heap.size = w.heap.size + 1 + 1 by simp)
 have hzz := hz.trans HM.out.size.symm
 clear h hMi ei ez hT hfo
 subst hO
 go_enter Tryz.func32, Tryz.ntmps32
 go_wp2_with (first | (refine wpList_runs rfl (.alloc 28) rfl (some 2) rfl (.pointer (some ⟨(w.alloc (.cells cs 28)).heap.size, 0, none⟩)) ((w.alloc (.cells cs 28)).alloc (.cells zs 28)) (by rw [HEz.out]; kernel_rfl) ?_) | (refine wpList_gives rfl (.build 28 #[(0, .tmp 5), (1, .tmp 7)]) rfl (.agg ic) (by rw [HEi.out]; kernel_rfl) ?_) | (refine wpList_mark (.store 28 (.tmp 3) (.tmp 8)) rfl ?_; refine wpList_store_row rfl 28 _ _ rfl (w.heap.size + 1 + 1) ic rfl rfl 28 _ (heap_newS hg.out) (by rw [infoM, hi]) ?_ HI.out.one ?_; exact Eq.trans rfl hi.symm; rw [setRow_newS hg.out]))
 go_region
 go_wp2_with (first | (refine wpList_mark (.load 28 (.tmp 3)) rfl ?_; refine wpList_load_row rfl 28 _ rfl (w.heap.size + 1 + 1) rfl _ ((ic.setIfInBounds 3 (.string m.dn)).setIfInBounds 14 (.slice M m.mods.length mc)) (0, 0) _ (shp_boxes w cs zs _).2.2 Tryz.underlying28 rfl (by rw [infoM, HM.out.size]) ?_) | (refine wpList_mark (.store 28 (.tmp 2) (.tmp 95)) rfl ?_; refine wpList_store_row rfl 28 _ _ rfl (w.heap.size + 1) ((ic.setIfInBounds 3 (.string m.dn)).setIfInBounds 14 (.slice M m.mods.length mc)) rfl rfl 28 zs (shp_boxes w cs zs _).2.1 (by rw [infoM, HM.out.size]) hzz HM.out.one ?_))
 refine bodyPost_ret (results_cell_row rfl _ _ (w.heap.size + 1) _ ((ic.setIfInBounds 3 (.string m.dn)).setIfInBounds 14 (.slice M m.mods.length mc)) (0, 0) _ rfl (setRow_heap _ _ _ ((ic.setIfInBounds 3 (.string m.dn)).setIfInBounds 14 (.slice M m.mods.length mc)) _ _ (shp_boxes w cs zs _).2.1) Tryz.underlying28 rfl (by rw [infoM, HM.out.size])) rfl ⟨((ic.setIfInBounds 3 (.string m.dn)).setIfInBounds 14 (.slice M m.mods.length mc)), rfl, below_setRow (shp_boxes w cs zs _).1.drew (Nat.le_succ w.heap.size) ((ic.setIfInBounds 3 (.string m.dn)).setIfInBounds 14 (.slice M m.mods.length mc)), HM.out⟩
set_option maxHeartbeats 4000000 in
theorem shp_10 (m : Mg) (O : Int) (cs : Array Value) (w : World) (hop : m.op = O) (hO : O = 10) (h : MAt w (· < w.heap.size) m cs) :
  Calls Tryz.prog 32 #[.agg cs] w (ToldS w (shapeR m)) := by
 have hfo : shapeR m = { zero with id := m.id, op := O, dn := m.dn, mods := m.mods } := by unfold shapeR; rw [hop]; subst hO; rfl
 rw [hfo]
 obtain ⟨ic, zs, hz, hMi, ez, ei⟩ := op_cells m.id O
 have hT := h.sizes
 have k0 := h.g0
 have k1 := h.g1
 rw [hop] at k1
 have HI := Lib.hid (hMi w (· < w.heap.size))
 have k3 := h.g3
 have i3 := HI.out.g3
 obtain ⟨M, mc, ds, k14, hM⟩ := h.gM
 obtain ⟨_, _, _, i14, -⟩ := HI.out.gM
 have HM := Lib.hid (show MAt w (· < w.heap.size) { zero with id := m.id, op := O, dn := m.dn, mods := m.mods } ((ic.setIfInBounds 3 (.string m.dn)).setIfInBounds 14 (.slice M m.mods.length mc)) from (MAt.set_mods (MAt.set_dn HI.out m.dn hT.1) m.mods M mc ds hM.1 hM.2.1 hM.2.2))
 have hi := HI.out.size
 have HEz := Lib.hid ez
 have HEi := Lib.hid ei
 have hg := Lib.hid (show ((w.alloc (.cells cs 28)).alloc (.cells zs 28)).heap.size = w.heap.size + 1 + 1 by simp)
 have hzz := hz.trans HM.out.size.symm
 clear h hMi ei ez hT hfo
 subst hO
 go_enter Tryz.func32, Tryz.ntmps32
 go_wp2_with (first | (refine wpList_runs rfl (.alloc 28) rfl (some 2) rfl (.pointer (some ⟨(w.alloc (.cells cs 28)).heap.size, 0, none⟩)) ((w.alloc (.cells cs 28)).alloc (.cells zs 28)) (by rw [HEz.out]; kernel_rfl) ?_) | (refine wpList_gives rfl (.build 28 #[(0, .tmp 5), (1, .tmp 7)]) rfl (.agg ic) (by rw [HEi.out]; kernel_rfl) ?_) | (refine wpList_mark (.store 28 (.tmp 3) (.tmp 8)) rfl ?_; refine wpList_store_row rfl 28 _ _ rfl (w.heap.size + 1 + 1) ic rfl rfl 28 _ (heap_newS hg.out) (by rw [infoM, hi]) ?_ HI.out.one ?_; exact Eq.trans rfl hi.symm; rw [setRow_newS hg.out]))
 go_region
 go_wp2_with (first | (refine wpList_mark (.load 28 (.tmp 3)) rfl ?_; refine wpList_load_row rfl 28 _ rfl (w.heap.size + 1 + 1) rfl _ ((ic.setIfInBounds 3 (.string m.dn)).setIfInBounds 14 (.slice M m.mods.length mc)) (0, 0) _ (shp_boxes w cs zs _).2.2 Tryz.underlying28 rfl (by rw [infoM, HM.out.size]) ?_) | (refine wpList_mark (.store 28 (.tmp 2) (.tmp 95)) rfl ?_; refine wpList_store_row rfl 28 _ _ rfl (w.heap.size + 1) ((ic.setIfInBounds 3 (.string m.dn)).setIfInBounds 14 (.slice M m.mods.length mc)) rfl rfl 28 zs (shp_boxes w cs zs _).2.1 (by rw [infoM, HM.out.size]) hzz HM.out.one ?_))
 refine bodyPost_ret (results_cell_row rfl _ _ (w.heap.size + 1) _ ((ic.setIfInBounds 3 (.string m.dn)).setIfInBounds 14 (.slice M m.mods.length mc)) (0, 0) _ rfl (setRow_heap _ _ _ ((ic.setIfInBounds 3 (.string m.dn)).setIfInBounds 14 (.slice M m.mods.length mc)) _ _ (shp_boxes w cs zs _).2.1) Tryz.underlying28 rfl (by rw [infoM, HM.out.size])) rfl ⟨((ic.setIfInBounds 3 (.string m.dn)).setIfInBounds 14 (.slice M m.mods.length mc)), rfl, below_setRow (shp_boxes w cs zs _).1.drew (Nat.le_succ w.heap.size) ((ic.setIfInBounds 3 (.string m.dn)).setIfInBounds 14 (.slice M m.mods.length mc)), HM.out⟩
set_option maxHeartbeats 4000000 in
theorem shp_7t (m : Mg) (O : Int) (cs : Array Value) (w : World) (hop : m.op = O) (hO : O = 7) (hh : m.has = true) (h : MAt w (· < w.heap.size) m cs) :
  Calls Tryz.prog 32 #[.agg cs] w (ToldS w (shapeR m)) := by
 have hfo : shapeR m = { zero with id := m.id, op := O, dn := m.dn, rdn := m.rdn, del := m.del, has := true, sup := m.sup } := by unfold shapeR; rw [hop]; subst hO; simp [hh]
 rw [hfo]
 obtain ⟨ic, zs, hz, hMi, ez, ei⟩ := op_cells m.id O
 have hT := h.sizes
 have k0 := h.g0
 have k1 := h.g1
 rw [hop] at k1
 have HI := Lib.hid (hMi w (· < w.heap.size))
 have k3 := h.g3
 have i3 := HI.out.g3
 have k15 := h.g15
 have i15 := HI.out.g15
 have k16 := h.g16
 have i16 := HI.out.g16
 have k17 := h.g17
 have i17 := HI.out.g17
 have k18 := h.g18
 have i18 := HI.out.g18
 have HM := Lib.hid (show MAt w (· < w.heap.size) { zero with id := m.id, op := O, dn := m.dn, rdn := m.rdn, del := m.del, has := true, sup := m.sup } (((((ic.setIfInBounds 3 (.string m.dn)).setIfInBounds 15 (.string m.rdn)).setIfInBounds 16 (.bool m.del)).setIfInBounds 17 (.bool true)).setIfInBounds 18 (.string m.sup)) from (MAt.set_sup (MAt.set_has (MAt.set_del (MAt.set_rdn (MAt.set_dn HI.out m.dn hT.1) m.rdn hT.2.2.1) m.del) true) m.sup hT.2.2.2.1))
 have hi := HI.out.size
 have HEz := Lib.hid ez
 have HEi := Lib.hid ei
 have hg := Lib.hid (show ((w.alloc (.cells cs 28)).alloc (.cells zs 28)).heap.size = w.heap.size + 1 + 1 by simp)
 have hzz := hz.trans HM.out.size.symm
 rw [hh] at k17
 clear h hMi ei ez hT hfo
 subst hO
 go_enter Tryz.func32, Tryz.ntmps32
 go_wp2_with (first | (refine wpList_runs rfl (.alloc 28) rfl (some 2) rfl (.pointer (some ⟨(w.alloc (.cells cs 28)).heap.size, 0, none⟩)) ((w.alloc (.cells cs 28)).alloc (.cells zs 28)) (by rw [HEz.out]; kernel_rfl) ?_) | (refine wpList_gives rfl (.build 28 #[(0, .tmp 5), (1, .tmp 7)]) rfl (.agg ic) (by rw [HEi.out]; kernel_rfl) ?_) | (refine wpList_mark (.store 28 (.tmp 3) (.tmp 8)) rfl ?_; refine wpList_store_row rfl 28 _ _ rfl (w.heap.size + 1 + 1) ic rfl rfl 28 _ (heap_newS hg.out) (by rw [infoM, hi]) ?_ HI.out.one ?_; exact Eq.trans rfl hi.symm; rw [setRow_newS hg.out]))
 go_region
 go_wp2_with (first | (refine wpList_mark (.load 28 (.tmp 3)) rfl ?_; refine wpList_load_row rfl 28 _ rfl (w.heap.size + 1 + 1) rfl _ (((((ic.setIfInBounds 3 (.string m.dn)).setIfInBounds 15 (.string m.rdn)).setIfInBounds 16 (.bool m.del)).setIfInBounds 17 (.bool true)).setIfInBounds 18 (.string m.sup)) (0, 0) _ (shp_boxes w cs zs _).2.2 Tryz.underlying28 rfl (by rw [infoM, HM.out.size]) ?_) | (refine wpList_mark (.store 28 (.tmp 2) (.tmp 95)) rfl ?_; refine wpList_store_row rfl 28 _ _ rfl (w.heap.size + 1) (((((ic.setIfInBounds 3 (.string m.dn)).setIfInBounds 15 (.string m.rdn)).setIfInBounds 16 (.bool m.del)).setIfInBounds 17 (.bool true)).setIfInBounds 18 (.string m.sup)) rfl rfl 28 zs (shp_boxes w cs zs _).2.1 (by rw [infoM, HM.out.size]) hzz HM.out.one ?_))
 refine bodyPost_ret (results_cell_row rfl _ _ (w.heap.size + 1) _ (((((ic.setIfInBounds 3 (.string m.dn)).setIfInBounds 15 (.string m.rdn)).setIfInBounds 16 (.bool m.del)).setIfInBounds 17 (.bool true)).setIfInBounds 18 (.string m.sup)) (0, 0) _ rfl (setRow_heap _ _ _ (((((ic.setIfInBounds 3 (.string m.dn)).setIfInBounds 15 (.string m.rdn)).setIfInBounds 16 (.bool m.del)).setIfInBounds 17 (.bool true)).setIfInBounds 18 (.string m.sup)) _ _ (shp_boxes w cs zs _).2.1) Tryz.underlying28 rfl (by rw [infoM, HM.out.size])) rfl ⟨(((((ic.setIfInBounds 3 (.string m.dn)).setIfInBounds 15 (.string m.rdn)).setIfInBounds 16 (.bool m.del)).setIfInBounds 17 (.bool true)).setIfInBounds 18 (.string m.sup)), rfl, below_setRow (shp_boxes w cs zs _).1.drew (Nat.le_succ w.heap.size) (((((ic.setIfInBounds 3 (.string m.dn)).setIfInBounds 15 (.string m.rdn)).setIfInBounds 16 (.bool m.del)).setIfInBounds 17 (.bool true)).setIfInBounds 18 (.string m.sup)), HM.out⟩
set_option maxHeartbeats 4000000 in
theorem shp_7f (m : Mg) (O : Int) (cs : Array Value) (w : World) (hop : m.op = O) (hO : O = 7) (hh : m.has = false) (h : MAt w (· < w.heap.size) m cs) :
  Calls Tryz.prog 32 #[.agg cs] w (ToldS w (shapeR m)) := by
 have hfo : shapeR m = { zero with id := m.id, op := O, dn := m.dn, rdn := m.rdn, del := m.del, has := false } := by unfold shapeR; rw [hop]; subst hO; simp [hh, zero]
 rw [hfo]
 obtain ⟨ic, zs, hz, hMi, ez, ei⟩ := op_cells m.id O
 have hT := h.sizes
 have k0 := h.g0
 have k1 := h.g1
 rw [hop] at k1
 have HI := Lib.hid (hMi w (· < w.heap.size))
 have k3 := h.g3
 have i3 := HI.out.g3
 have k15 := h.g15
 have i15 := HI.out.g15
 have k16 := h.g16
 have i16 := HI.out.g16
 have k17 := h.g17
 have i17 := HI.out.g17
 have HM := Lib.hid (show MAt w (· < w.heap.size) { zero with id := m.id, op := O, dn := m.dn, rdn := m.rdn, del := m.del, has := false } ((((ic.setIfInBounds 3 (.string m.dn)).setIfInBounds 15 (.string m.rdn)).setIfInBounds 16 (.bool m.del)).setIfInBounds 17 (.bool false)) from (MAt.set_has (MAt.set_del (MAt.set_rdn (MAt.set_dn HI.out m.dn hT.1) m.rdn hT.2.2.1) m.del) false))
 have hi := HI.out.size
 have HEz := Lib.hid ez
 have HEi := Lib.hid ei
 have hg := Lib.hid (show ((w.alloc (.cells cs 28)).alloc (.cells zs 28)).heap.size = w.heap.size + 1 + 1 by simp)
 have hzz := hz.trans HM.out.size.symm
 rw [hh] at k17
 clear h hMi ei ez hT hfo
 subst hO
 go_enter Tryz.func32, Tryz.ntmps32
 go_wp2_with (first | (refine wpList_runs rfl (.alloc 28) rfl (some 2) rfl (.pointer (some ⟨(w.alloc (.cells cs 28)).heap.size, 0, none⟩)) ((w.alloc (.cells cs 28)).alloc (.cells zs 28)) (by rw [HEz.out]; kernel_rfl) ?_) | (refine wpList_gives rfl (.build 28 #[(0, .tmp 5), (1, .tmp 7)]) rfl (.agg ic) (by rw [HEi.out]; kernel_rfl) ?_) | (refine wpList_mark (.store 28 (.tmp 3) (.tmp 8)) rfl ?_; refine wpList_store_row rfl 28 _ _ rfl (w.heap.size + 1 + 1) ic rfl rfl 28 _ (heap_newS hg.out) (by rw [infoM, hi]) ?_ HI.out.one ?_; exact Eq.trans rfl hi.symm; rw [setRow_newS hg.out]))
 go_region
 go_wp2_with (first | (refine wpList_mark (.load 28 (.tmp 3)) rfl ?_; refine wpList_load_row rfl 28 _ rfl (w.heap.size + 1 + 1) rfl _ ((((ic.setIfInBounds 3 (.string m.dn)).setIfInBounds 15 (.string m.rdn)).setIfInBounds 16 (.bool m.del)).setIfInBounds 17 (.bool false)) (0, 0) _ (shp_boxes w cs zs _).2.2 Tryz.underlying28 rfl (by rw [infoM, HM.out.size]) ?_) | (refine wpList_mark (.store 28 (.tmp 2) (.tmp 95)) rfl ?_; refine wpList_store_row rfl 28 _ _ rfl (w.heap.size + 1) ((((ic.setIfInBounds 3 (.string m.dn)).setIfInBounds 15 (.string m.rdn)).setIfInBounds 16 (.bool m.del)).setIfInBounds 17 (.bool false)) rfl rfl 28 zs (shp_boxes w cs zs _).2.1 (by rw [infoM, HM.out.size]) hzz HM.out.one ?_))
 refine bodyPost_ret (results_cell_row rfl _ _ (w.heap.size + 1) _ ((((ic.setIfInBounds 3 (.string m.dn)).setIfInBounds 15 (.string m.rdn)).setIfInBounds 16 (.bool m.del)).setIfInBounds 17 (.bool false)) (0, 0) _ rfl (setRow_heap _ _ _ ((((ic.setIfInBounds 3 (.string m.dn)).setIfInBounds 15 (.string m.rdn)).setIfInBounds 16 (.bool m.del)).setIfInBounds 17 (.bool false)) _ _ (shp_boxes w cs zs _).2.1) Tryz.underlying28 rfl (by rw [infoM, HM.out.size])) rfl ⟨((((ic.setIfInBounds 3 (.string m.dn)).setIfInBounds 15 (.string m.rdn)).setIfInBounds 16 (.bool m.del)).setIfInBounds 17 (.bool false)), rfl, below_setRow (shp_boxes w cs zs _).1.drew (Nat.le_succ w.heap.size) ((((ic.setIfInBounds 3 (.string m.dn)).setIfInBounds 15 (.string m.rdn)).setIfInBounds 16 (.bool m.del)).setIfInBounds 17 (.bool false)), HM.out⟩
theorem rshape_any (m : Mg) (cs : Array Value) (w : World) (h : MAt w (· < w.heap.size) m cs) :
  Calls Tryz.prog 32 #[.agg cs] w (ToldS w (shapeR m)) := by
 by_cases h1 : m.op = 1
 ·exact shp_1 m _ cs w h1 rfl h
 by_cases h3 : m.op = 3
 ·exact shp_3 m _ cs w h3 rfl h
 by_cases h4 : m.op = 4
 ·exact shp_4 m _ cs w h4 rfl h
 by_cases h5 : m.op = 5
 ·exact shp_5 m _ cs w h5 rfl h
 by_cases h10 : m.op = 10
 ·exact shp_10 m _ cs w h10 rfl h
 by_cases h6 : m.op = 6
 ·exact shp_6 m _ cs w h6 rfl h
 by_cases h7 : m.op = 7
 ·cases hh : m.has with
  | true => exact shp_7t m _ cs w h7 rfl hh h
  | false => exact shp_7f m _ cs w h7 rfl hh h
 by_cases h8 : m.op = 8
 ·exact shp_8 m _ cs w h8 rfl h
 by_cases h9 : m.op = 9
 ·exact shp_9 m _ cs w h9 rfl h
 exact shp_o m _ cs w rfl h1 h3 h4 h5 h6 h7 h8 h9 h10 h
end Go.Proofs.YtconghaebebncaaGreatDoor.Ms
