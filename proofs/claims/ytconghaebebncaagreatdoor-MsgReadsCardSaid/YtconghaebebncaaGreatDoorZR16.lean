import Derived.Test.YtconghaebebncaaGreatDoorZR12
set_option linter.unusedVariables false
set_option maxRecDepth 100000
namespace Go.Proofs.YtconghaebebncaaGreatDoor.Ms
open Go.RowKit
def Told (w : World) (m : Mg) (r : Ending) (w' : World) : Prop:=∃ cs, r = .returned (.agg cs) ∧ Below w.heap.size w w' ∧ MAt w' (· < w'.heap.size) m cs
theorem lies_noF (w : World) (P : Nat → Prop) : Fi.Lies w P noF [.int .i64 0, .string ⟨#[]⟩, .string ⟨#[]⟩, .slice none 0 0, .slice none 0 0] :=
 Fi.Lies.shut (ks:=[]) (ss:=[]) (S:=none) (sc:=0) (A:=none) (c:=0) (ds:=fun _=>[]) (by decide) (by decide) (by simp) (by simp) (Fi.StrsAt.nil _ _ _) (by simp) (by simp) (by simp) (Fi.KidsAt.nil _ _ _ _)
set_option maxHeartbeats 4000000 in
theorem for_2 (m : Mg) (cs : Array Value) (w : World) (hop : m.op = 2) (h : MAt w (· < w.heap.size) m cs) :
  Calls Tryz.prog 28 #[.agg cs] w (Told w (foreign m)):=by
 have hfo : foreign m = { m with id:=0, op:=0 }:=by unfold foreign; rw [if_pos hop]
 rw [hfo]
 clear hfo
 obtain ⟨x0, x1, x2, x3, x4, W, wc, M, mc, ds, rfl, hF, hW, hM, hT⟩:=h
 obtain ⟨k, a, v, S, n1, n2, A, n3, n4, hcs⟩:=hF.form
 simp only [List.cons.injEq, and_true] at hcs
 obtain ⟨rfl, rfl, rfl, rfl, rfl⟩:=hcs
 rw [hop]
 clear hop
 have HB:=Lib.hid (((Below.refl w.heap.size w).alloc (Nat.le_refl _) (.cells #[.int .i64 0, .int .i64 0, .int .i64 m.ref, .string m.dn, .int .i64 m.ver, .string m.pass, .int .i64 m.scope, .int .i64 m.size, .int .i64 k, .string a, .string v, .slice S n1 n2, .slice A n3 n4, .slice W m.wants.length wc, .slice M m.mods.length mc, .string m.rdn, .bool m.del, .bool m.has, .string m.sup, .string m.attr, .string m.value, .int .i64 m.code, .string m.matched] 28)).alloc (by simp) (.cells #[.int .i64 0, .int .i64 0, .int .i64 0, .string ⟨#[]⟩, .int .i64 0, .string ⟨#[]⟩, .int .i64 0, .int .i64 0, .int .i64 0, .string ⟨#[]⟩, .string ⟨#[]⟩, .slice none 0 0, .slice none 0 0, .slice none 0 0, .slice none 0 0, .string ⟨#[]⟩, .bool false, .bool false, .string ⟨#[]⟩, .string ⟨#[]⟩, .string ⟨#[]⟩, .int .i64 0, .string ⟨#[]⟩] 28))
 have BR:=Blk.new (w.alloc (.cells #[.int .i64 0, .int .i64 0, .int .i64 m.ref, .string m.dn, .int .i64 m.ver, .string m.pass, .int .i64 m.scope, .int .i64 m.size, .int .i64 k, .string a, .string v, .slice S n1 n2, .slice A n3 n4, .slice W m.wants.length wc, .slice M m.mods.length mc, .string m.rdn, .bool m.del, .bool m.has, .string m.sup, .string m.attr, .string m.value, .int .i64 m.code, .string m.matched] 28)) 28 #[.int .i64 0, .int .i64 0, .int .i64 0, .string ⟨#[]⟩, .int .i64 0, .string ⟨#[]⟩, .int .i64 0, .int .i64 0, .int .i64 0, .string ⟨#[]⟩, .string ⟨#[]⟩, .slice none 0 0, .slice none 0 0, .slice none 0 0, .slice none 0 0, .string ⟨#[]⟩, .bool false, .bool false, .string ⟨#[]⟩, .string ⟨#[]⟩, .string ⟨#[]⟩, .int .i64 0, .string ⟨#[]⟩]
 rw [show (w.alloc (.cells #[.int .i64 0, .int .i64 0, .int .i64 m.ref, .string m.dn, .int .i64 m.ver, .string m.pass, .int .i64 m.scope, .int .i64 m.size, .int .i64 k, .string a, .string v, .slice S n1 n2, .slice A n3 n4, .slice W m.wants.length wc, .slice M m.mods.length mc, .string m.rdn, .bool m.del, .bool m.has, .string m.sup, .string m.attr, .string m.value, .int .i64 m.code, .string m.matched] 28)).heap.size = w.heap.size + 1 by simp] at BR
 have HBR:=Lib.hid BR
 have HF:=Lib.hid hF
 have HW:=Lib.hid hW
 have HM:=Lib.hid hM
 have HT:=Lib.hid hT
 clear BR hF hW hM hT
 go_enter Tryz.func28, Tryz.ntmps28
 go_wp2_with (first | (refine wpList_load_row rfl 28 _ rfl w.heap.size rfl _ #[.int .i64 0, .int .i64 0, .int .i64 m.ref, .string m.dn, .int .i64 m.ver, .string m.pass, .int .i64 m.scope, .int .i64 m.size, .int .i64 k, .string a, .string v, .slice S n1 n2, .slice A n3 n4, .slice W m.wants.length wc, .slice M m.mods.length mc, .string m.rdn, .bool m.del, .bool m.has, .string m.sup, .string m.attr, .string m.value, .int .i64 m.code, .string m.matched] (0, 0) _ ((Blk.new w 28 _).alloc _) Tryz.underlying28 rfl infoM ?_) | (refine wpList_store_row rfl 28 _ _ rfl (w.heap.size + 1) #[.int .i64 0, .int .i64 0, .int .i64 m.ref, .string m.dn, .int .i64 m.ver, .string m.pass, .int .i64 m.scope, .int .i64 m.size, .int .i64 k, .string a, .string v, .slice S n1 n2, .slice A n3 n4, .slice W m.wants.length wc, .slice M m.mods.length mc, .string m.rdn, .bool m.del, .bool m.has, .string m.sup, .string m.attr, .string m.value, .int .i64 m.code, .string m.matched] rfl rfl _ #[.int .i64 0, .int .i64 0, .int .i64 0, .string ⟨#[]⟩, .int .i64 0, .string ⟨#[]⟩, .int .i64 0, .int .i64 0, .int .i64 0, .string ⟨#[]⟩, .string ⟨#[]⟩, .slice none 0 0, .slice none 0 0, .slice none 0 0, .slice none 0 0, .string ⟨#[]⟩, .bool false, .bool false, .string ⟨#[]⟩, .string ⟨#[]⟩, .string ⟨#[]⟩, .int .i64 0, .string ⟨#[]⟩] HBR.out infoM rfl (by simp [Value.oneCell']) ?_))
 have hbe:=below_setRow HB.out (Nat.le_succ w.heap.size) #[.int .i64 0, .int .i64 0, .int .i64 m.ref, .string m.dn, .int .i64 m.ver, .string m.pass, .int .i64 m.scope, .int .i64 m.size, .int .i64 k, .string a, .string v, .slice S n1 n2, .slice A n3 n4, .slice W m.wants.length wc, .slice M m.mods.length mc, .string m.rdn, .bool m.del, .bool m.has, .string m.sup, .string m.attr, .string m.value, .int .i64 m.code, .string m.matched]
 refine bodyPost_ret (results_cell_row rfl _ _ (w.heap.size + 1) _ _ (0, 0) _ rfl (setRow_heap _ _ _ _ _ _ HBR.out) Tryz.underlying28 rfl infoM) rfl ⟨_, rfl, hbe, ?_⟩
 exact ⟨_, _, _, _, _, _, _, _, _, _, rfl, HF.out.past hbe, ⟨HW.out.1.past hbe, HW.out.2⟩, ⟨HM.out.1.past hbe, HM.out.2⟩, HT.out.1, HT.out.2.1, HT.out.2.2.1, HT.out.2.2.2.1, HT.out.2.2.2.2.1, HT.out.2.2.2.2.2.1, HT.out.2.2.2.2.2.2⟩
set_option maxHeartbeats 4000000 in
theorem for_9 (m : Mg) (cs : Array Value) (w : World) (hop : m.op = 9) (h : MAt w (· < w.heap.size) m cs) :
  Calls Tryz.prog 28 #[.agg cs] w (Told w (foreign m)):=by
 have hfo : foreign m = { m with id:=0, op:=0, ref:=0, code:=0, matched:=no }:=by unfold foreign; rw [if_neg (by omega), if_pos hop]
 rw [hfo]
 clear hfo
 obtain ⟨x0, x1, x2, x3, x4, W, wc, M, mc, ds, rfl, hF, hW, hM, hT⟩:=h
 obtain ⟨k, a, v, S, n1, n2, A, n3, n4, hcs⟩:=hF.form
 simp only [List.cons.injEq, and_true] at hcs
 obtain ⟨rfl, rfl, rfl, rfl, rfl⟩:=hcs
 rw [hop]
 clear hop
 have HB:=Lib.hid (((Below.refl w.heap.size w).alloc (Nat.le_refl _) (.cells #[.int .i64 0, .int .i64 0, .int .i64 0, .string m.dn, .int .i64 m.ver, .string m.pass, .int .i64 m.scope, .int .i64 m.size, .int .i64 k, .string a, .string v, .slice S n1 n2, .slice A n3 n4, .slice W m.wants.length wc, .slice M m.mods.length mc, .string m.rdn, .bool m.del, .bool m.has, .string m.sup, .string m.attr, .string m.value, .int .i64 0, .string ⟨#[]⟩] 28)).alloc (by simp) (.cells #[.int .i64 0, .int .i64 0, .int .i64 0, .string ⟨#[]⟩, .int .i64 0, .string ⟨#[]⟩, .int .i64 0, .int .i64 0, .int .i64 0, .string ⟨#[]⟩, .string ⟨#[]⟩, .slice none 0 0, .slice none 0 0, .slice none 0 0, .slice none 0 0, .string ⟨#[]⟩, .bool false, .bool false, .string ⟨#[]⟩, .string ⟨#[]⟩, .string ⟨#[]⟩, .int .i64 0, .string ⟨#[]⟩] 28))
 have BR:=Blk.new (w.alloc (.cells #[.int .i64 0, .int .i64 0, .int .i64 0, .string m.dn, .int .i64 m.ver, .string m.pass, .int .i64 m.scope, .int .i64 m.size, .int .i64 k, .string a, .string v, .slice S n1 n2, .slice A n3 n4, .slice W m.wants.length wc, .slice M m.mods.length mc, .string m.rdn, .bool m.del, .bool m.has, .string m.sup, .string m.attr, .string m.value, .int .i64 0, .string ⟨#[]⟩] 28)) 28 #[.int .i64 0, .int .i64 0, .int .i64 0, .string ⟨#[]⟩, .int .i64 0, .string ⟨#[]⟩, .int .i64 0, .int .i64 0, .int .i64 0, .string ⟨#[]⟩, .string ⟨#[]⟩, .slice none 0 0, .slice none 0 0, .slice none 0 0, .slice none 0 0, .string ⟨#[]⟩, .bool false, .bool false, .string ⟨#[]⟩, .string ⟨#[]⟩, .string ⟨#[]⟩, .int .i64 0, .string ⟨#[]⟩]
 rw [show (w.alloc (.cells #[.int .i64 0, .int .i64 0, .int .i64 0, .string m.dn, .int .i64 m.ver, .string m.pass, .int .i64 m.scope, .int .i64 m.size, .int .i64 k, .string a, .string v, .slice S n1 n2, .slice A n3 n4, .slice W m.wants.length wc, .slice M m.mods.length mc, .string m.rdn, .bool m.del, .bool m.has, .string m.sup, .string m.attr, .string m.value, .int .i64 0, .string ⟨#[]⟩] 28)).heap.size = w.heap.size + 1 by simp] at BR
 have HBR:=Lib.hid BR
 have HF:=Lib.hid hF
 have HW:=Lib.hid hW
 have HM:=Lib.hid hM
 have HT:=Lib.hid hT
 clear BR hF hW hM hT
 go_enter Tryz.func28, Tryz.ntmps28
 go_wp2_with (first | (refine wpList_load_row rfl 28 _ rfl w.heap.size rfl _ #[.int .i64 0, .int .i64 0, .int .i64 0, .string m.dn, .int .i64 m.ver, .string m.pass, .int .i64 m.scope, .int .i64 m.size, .int .i64 k, .string a, .string v, .slice S n1 n2, .slice A n3 n4, .slice W m.wants.length wc, .slice M m.mods.length mc, .string m.rdn, .bool m.del, .bool m.has, .string m.sup, .string m.attr, .string m.value, .int .i64 0, .string ⟨#[]⟩] (0, 0) _ ((Blk.new w 28 _).alloc _) Tryz.underlying28 rfl infoM ?_) | (refine wpList_store_row rfl 28 _ _ rfl (w.heap.size + 1) #[.int .i64 0, .int .i64 0, .int .i64 0, .string m.dn, .int .i64 m.ver, .string m.pass, .int .i64 m.scope, .int .i64 m.size, .int .i64 k, .string a, .string v, .slice S n1 n2, .slice A n3 n4, .slice W m.wants.length wc, .slice M m.mods.length mc, .string m.rdn, .bool m.del, .bool m.has, .string m.sup, .string m.attr, .string m.value, .int .i64 0, .string ⟨#[]⟩] rfl rfl _ #[.int .i64 0, .int .i64 0, .int .i64 0, .string ⟨#[]⟩, .int .i64 0, .string ⟨#[]⟩, .int .i64 0, .int .i64 0, .int .i64 0, .string ⟨#[]⟩, .string ⟨#[]⟩, .slice none 0 0, .slice none 0 0, .slice none 0 0, .slice none 0 0, .string ⟨#[]⟩, .bool false, .bool false, .string ⟨#[]⟩, .string ⟨#[]⟩, .string ⟨#[]⟩, .int .i64 0, .string ⟨#[]⟩] HBR.out infoM rfl (by simp [Value.oneCell']) ?_))
 have hbe:=below_setRow HB.out (Nat.le_succ w.heap.size) #[.int .i64 0, .int .i64 0, .int .i64 0, .string m.dn, .int .i64 m.ver, .string m.pass, .int .i64 m.scope, .int .i64 m.size, .int .i64 k, .string a, .string v, .slice S n1 n2, .slice A n3 n4, .slice W m.wants.length wc, .slice M m.mods.length mc, .string m.rdn, .bool m.del, .bool m.has, .string m.sup, .string m.attr, .string m.value, .int .i64 0, .string ⟨#[]⟩]
 refine bodyPost_ret (results_cell_row rfl _ _ (w.heap.size + 1) _ _ (0, 0) _ rfl (setRow_heap _ _ _ _ _ _ HBR.out) Tryz.underlying28 rfl infoM) rfl ⟨_, rfl, hbe, ?_⟩
 exact ⟨_, _, _, _, _, _, _, _, _, _, rfl, HF.out.past hbe, ⟨HW.out.1.past hbe, HW.out.2⟩, ⟨HM.out.1.past hbe, HM.out.2⟩, HT.out.1, HT.out.2.1, HT.out.2.2.1, HT.out.2.2.2.1, HT.out.2.2.2.2.1, HT.out.2.2.2.2.2.1, Nat.zero_le _⟩
set_option maxHeartbeats 4000000 in
theorem for_1 (m : Mg) (cs : Array Value) (w : World) (hop : m.op = 1) (h : MAt w (· < w.heap.size) m cs) :
  Calls Tryz.prog 28 #[.agg cs] w (Told w (foreign m)):=by
 have hfo : foreign m = { m with id:=0, op:=0, ver:=0, pass:=no, dn:=no }:=by unfold foreign; rw [if_neg (by omega), if_neg (by omega), if_pos hop]
 rw [hfo]
 clear hfo
 obtain ⟨x0, x1, x2, x3, x4, W, wc, M, mc, ds, rfl, hF, hW, hM, hT⟩:=h
 obtain ⟨k, a, v, S, n1, n2, A, n3, n4, hcs⟩:=hF.form
 simp only [List.cons.injEq, and_true] at hcs
 obtain ⟨rfl, rfl, rfl, rfl, rfl⟩:=hcs
 rw [hop]
 clear hop
 have HB:=Lib.hid (((Below.refl w.heap.size w).alloc (Nat.le_refl _) (.cells #[.int .i64 0, .int .i64 0, .int .i64 m.ref, .string ⟨#[]⟩, .int .i64 0, .string ⟨#[]⟩, .int .i64 m.scope, .int .i64 m.size, .int .i64 k, .string a, .string v, .slice S n1 n2, .slice A n3 n4, .slice W m.wants.length wc, .slice M m.mods.length mc, .string m.rdn, .bool m.del, .bool m.has, .string m.sup, .string m.attr, .string m.value, .int .i64 m.code, .string m.matched] 28)).alloc (by simp) (.cells #[.int .i64 0, .int .i64 0, .int .i64 0, .string ⟨#[]⟩, .int .i64 0, .string ⟨#[]⟩, .int .i64 0, .int .i64 0, .int .i64 0, .string ⟨#[]⟩, .string ⟨#[]⟩, .slice none 0 0, .slice none 0 0, .slice none 0 0, .slice none 0 0, .string ⟨#[]⟩, .bool false, .bool false, .string ⟨#[]⟩, .string ⟨#[]⟩, .string ⟨#[]⟩, .int .i64 0, .string ⟨#[]⟩] 28))
 have BR:=Blk.new (w.alloc (.cells #[.int .i64 0, .int .i64 0, .int .i64 m.ref, .string ⟨#[]⟩, .int .i64 0, .string ⟨#[]⟩, .int .i64 m.scope, .int .i64 m.size, .int .i64 k, .string a, .string v, .slice S n1 n2, .slice A n3 n4, .slice W m.wants.length wc, .slice M m.mods.length mc, .string m.rdn, .bool m.del, .bool m.has, .string m.sup, .string m.attr, .string m.value, .int .i64 m.code, .string m.matched] 28)) 28 #[.int .i64 0, .int .i64 0, .int .i64 0, .string ⟨#[]⟩, .int .i64 0, .string ⟨#[]⟩, .int .i64 0, .int .i64 0, .int .i64 0, .string ⟨#[]⟩, .string ⟨#[]⟩, .slice none 0 0, .slice none 0 0, .slice none 0 0, .slice none 0 0, .string ⟨#[]⟩, .bool false, .bool false, .string ⟨#[]⟩, .string ⟨#[]⟩, .string ⟨#[]⟩, .int .i64 0, .string ⟨#[]⟩]
 rw [show (w.alloc (.cells #[.int .i64 0, .int .i64 0, .int .i64 m.ref, .string ⟨#[]⟩, .int .i64 0, .string ⟨#[]⟩, .int .i64 m.scope, .int .i64 m.size, .int .i64 k, .string a, .string v, .slice S n1 n2, .slice A n3 n4, .slice W m.wants.length wc, .slice M m.mods.length mc, .string m.rdn, .bool m.del, .bool m.has, .string m.sup, .string m.attr, .string m.value, .int .i64 m.code, .string m.matched] 28)).heap.size = w.heap.size + 1 by simp] at BR
 have HBR:=Lib.hid BR
 have HF:=Lib.hid hF
 have HW:=Lib.hid hW
 have HM:=Lib.hid hM
 have HT:=Lib.hid hT
 clear BR hF hW hM hT
 go_enter Tryz.func28, Tryz.ntmps28
 go_wp2_with (first | (refine wpList_load_row rfl 28 _ rfl w.heap.size rfl _ #[.int .i64 0, .int .i64 0, .int .i64 m.ref, .string ⟨#[]⟩, .int .i64 0, .string ⟨#[]⟩, .int .i64 m.scope, .int .i64 m.size, .int .i64 k, .string a, .string v, .slice S n1 n2, .slice A n3 n4, .slice W m.wants.length wc, .slice M m.mods.length mc, .string m.rdn, .bool m.del, .bool m.has, .string m.sup, .string m.attr, .string m.value, .int .i64 m.code, .string m.matched] (0, 0) _ ((Blk.new w 28 _).alloc _) Tryz.underlying28 rfl infoM ?_) | (refine wpList_store_row rfl 28 _ _ rfl (w.heap.size + 1) #[.int .i64 0, .int .i64 0, .int .i64 m.ref, .string ⟨#[]⟩, .int .i64 0, .string ⟨#[]⟩, .int .i64 m.scope, .int .i64 m.size, .int .i64 k, .string a, .string v, .slice S n1 n2, .slice A n3 n4, .slice W m.wants.length wc, .slice M m.mods.length mc, .string m.rdn, .bool m.del, .bool m.has, .string m.sup, .string m.attr, .string m.value, .int .i64 m.code, .string m.matched] rfl rfl _ #[.int .i64 0, .int .i64 0, .int .i64 0, .string ⟨#[]⟩, .int .i64 0, .string ⟨#[]⟩, .int .i64 0, .int .i64 0, .int .i64 0, .string ⟨#[]⟩, .string ⟨#[]⟩, .slice none 0 0, .slice none 0 0, .slice none 0 0, .slice none 0 0, .string ⟨#[]⟩, .bool false, .bool false, .string ⟨#[]⟩, .string ⟨#[]⟩, .string ⟨#[]⟩, .int .i64 0, .string ⟨#[]⟩] HBR.out infoM rfl (by simp [Value.oneCell']) ?_))
 have hbe:=below_setRow HB.out (Nat.le_succ w.heap.size) #[.int .i64 0, .int .i64 0, .int .i64 m.ref, .string ⟨#[]⟩, .int .i64 0, .string ⟨#[]⟩, .int .i64 m.scope, .int .i64 m.size, .int .i64 k, .string a, .string v, .slice S n1 n2, .slice A n3 n4, .slice W m.wants.length wc, .slice M m.mods.length mc, .string m.rdn, .bool m.del, .bool m.has, .string m.sup, .string m.attr, .string m.value, .int .i64 m.code, .string m.matched]
 refine bodyPost_ret (results_cell_row rfl _ _ (w.heap.size + 1) _ _ (0, 0) _ rfl (setRow_heap _ _ _ _ _ _ HBR.out) Tryz.underlying28 rfl infoM) rfl ⟨_, rfl, hbe, ?_⟩
 exact ⟨_, _, _, _, _, _, _, _, _, _, rfl, HF.out.past hbe, ⟨HW.out.1.past hbe, HW.out.2⟩, ⟨HM.out.1.past hbe, HM.out.2⟩, Nat.zero_le _, Nat.zero_le _, HT.out.2.2.1, HT.out.2.2.2.1, HT.out.2.2.2.2.1, HT.out.2.2.2.2.2.1, HT.out.2.2.2.2.2.2⟩
set_option maxHeartbeats 4000000 in
theorem for_3 (m : Mg) (cs : Array Value) (w : World) (hop : m.op = 3) (h : MAt w (· < w.heap.size) m cs) :
  Calls Tryz.prog 28 #[.agg cs] w (Told w (foreign m)):=by
 have hfo : foreign m = { m with id:=0, op:=0, scope:=0, size:=0, fil:=noF, wants:=[], dn:=no }:=by unfold foreign; rw [if_neg (by omega), if_neg (by omega), if_neg (by omega), if_pos hop]
 rw [hfo]
 clear hfo
 obtain ⟨x0, x1, x2, x3, x4, W, wc, M, mc, ds, rfl, hF, hW, hM, hT⟩:=h
 obtain ⟨k, a, v, S, n1, n2, A, n3, n4, hcs⟩:=hF.form
 simp only [List.cons.injEq, and_true] at hcs
 obtain ⟨rfl, rfl, rfl, rfl, rfl⟩:=hcs
 rw [hop]
 clear hop
 have HB:=Lib.hid (((Below.refl w.heap.size w).alloc (Nat.le_refl _) (.cells #[.int .i64 0, .int .i64 0, .int .i64 m.ref, .string ⟨#[]⟩, .int .i64 m.ver, .string m.pass, .int .i64 0, .int .i64 0, .int .i64 0, .string ⟨#[]⟩, .string ⟨#[]⟩, .slice none 0 0, .slice none 0 0, .slice none 0 0, .slice M m.mods.length mc, .string m.rdn, .bool m.del, .bool m.has, .string m.sup, .string m.attr, .string m.value, .int .i64 m.code, .string m.matched] 28)).alloc (by simp) (.cells #[.int .i64 0, .int .i64 0, .int .i64 0, .string ⟨#[]⟩, .int .i64 0, .string ⟨#[]⟩, .int .i64 0, .int .i64 0, .int .i64 0, .string ⟨#[]⟩, .string ⟨#[]⟩, .slice none 0 0, .slice none 0 0, .slice none 0 0, .slice none 0 0, .string ⟨#[]⟩, .bool false, .bool false, .string ⟨#[]⟩, .string ⟨#[]⟩, .string ⟨#[]⟩, .int .i64 0, .string ⟨#[]⟩] 28))
 have BR:=Blk.new (w.alloc (.cells #[.int .i64 0, .int .i64 0, .int .i64 m.ref, .string ⟨#[]⟩, .int .i64 m.ver, .string m.pass, .int .i64 0, .int .i64 0, .int .i64 0, .string ⟨#[]⟩, .string ⟨#[]⟩, .slice none 0 0, .slice none 0 0, .slice none 0 0, .slice M m.mods.length mc, .string m.rdn, .bool m.del, .bool m.has, .string m.sup, .string m.attr, .string m.value, .int .i64 m.code, .string m.matched] 28)) 28 #[.int .i64 0, .int .i64 0, .int .i64 0, .string ⟨#[]⟩, .int .i64 0, .string ⟨#[]⟩, .int .i64 0, .int .i64 0, .int .i64 0, .string ⟨#[]⟩, .string ⟨#[]⟩, .slice none 0 0, .slice none 0 0, .slice none 0 0, .slice none 0 0, .string ⟨#[]⟩, .bool false, .bool false, .string ⟨#[]⟩, .string ⟨#[]⟩, .string ⟨#[]⟩, .int .i64 0, .string ⟨#[]⟩]
 rw [show (w.alloc (.cells #[.int .i64 0, .int .i64 0, .int .i64 m.ref, .string ⟨#[]⟩, .int .i64 m.ver, .string m.pass, .int .i64 0, .int .i64 0, .int .i64 0, .string ⟨#[]⟩, .string ⟨#[]⟩, .slice none 0 0, .slice none 0 0, .slice none 0 0, .slice M m.mods.length mc, .string m.rdn, .bool m.del, .bool m.has, .string m.sup, .string m.attr, .string m.value, .int .i64 m.code, .string m.matched] 28)).heap.size = w.heap.size + 1 by simp] at BR
 have HBR:=Lib.hid BR
 have HF:=Lib.hid hF
 have HW:=Lib.hid hW
 have HM:=Lib.hid hM
 have HT:=Lib.hid hT
 clear BR hF hW hM hT
 go_enter Tryz.func28, Tryz.ntmps28
 go_wp2_with (first | (refine wpList_load_row rfl 28 _ rfl w.heap.size rfl _ #[.int .i64 0, .int .i64 0, .int .i64 m.ref, .string ⟨#[]⟩, .int .i64 m.ver, .string m.pass, .int .i64 0, .int .i64 0, .int .i64 0, .string ⟨#[]⟩, .string ⟨#[]⟩, .slice none 0 0, .slice none 0 0, .slice none 0 0, .slice M m.mods.length mc, .string m.rdn, .bool m.del, .bool m.has, .string m.sup, .string m.attr, .string m.value, .int .i64 m.code, .string m.matched] (0, 0) _ ((Blk.new w 28 _).alloc _) Tryz.underlying28 rfl infoM ?_) | (refine wpList_store_row rfl 28 _ _ rfl (w.heap.size + 1) #[.int .i64 0, .int .i64 0, .int .i64 m.ref, .string ⟨#[]⟩, .int .i64 m.ver, .string m.pass, .int .i64 0, .int .i64 0, .int .i64 0, .string ⟨#[]⟩, .string ⟨#[]⟩, .slice none 0 0, .slice none 0 0, .slice none 0 0, .slice M m.mods.length mc, .string m.rdn, .bool m.del, .bool m.has, .string m.sup, .string m.attr, .string m.value, .int .i64 m.code, .string m.matched] rfl rfl _ #[.int .i64 0, .int .i64 0, .int .i64 0, .string ⟨#[]⟩, .int .i64 0, .string ⟨#[]⟩, .int .i64 0, .int .i64 0, .int .i64 0, .string ⟨#[]⟩, .string ⟨#[]⟩, .slice none 0 0, .slice none 0 0, .slice none 0 0, .slice none 0 0, .string ⟨#[]⟩, .bool false, .bool false, .string ⟨#[]⟩, .string ⟨#[]⟩, .string ⟨#[]⟩, .int .i64 0, .string ⟨#[]⟩] HBR.out infoM rfl (by simp [Value.oneCell']) ?_))
 have hbe:=below_setRow HB.out (Nat.le_succ w.heap.size) #[.int .i64 0, .int .i64 0, .int .i64 m.ref, .string ⟨#[]⟩, .int .i64 m.ver, .string m.pass, .int .i64 0, .int .i64 0, .int .i64 0, .string ⟨#[]⟩, .string ⟨#[]⟩, .slice none 0 0, .slice none 0 0, .slice none 0 0, .slice M m.mods.length mc, .string m.rdn, .bool m.del, .bool m.has, .string m.sup, .string m.attr, .string m.value, .int .i64 m.code, .string m.matched]
 refine bodyPost_ret (results_cell_row rfl _ _ (w.heap.size + 1) _ _ (0, 0) _ rfl (setRow_heap _ _ _ _ _ _ HBR.out) Tryz.underlying28 rfl infoM) rfl ⟨_, rfl, hbe, ?_⟩
 exact ⟨_, _, _, _, _, _, _, _, _, _, rfl, lies_noF _ _, ⟨Fi.StrsAt.nil _ _ _, by simp, by simp, by simp⟩, ⟨HM.out.1.past hbe, HM.out.2⟩, Nat.zero_le _, HT.out.2.1, HT.out.2.2.1, HT.out.2.2.2.1, HT.out.2.2.2.2.1, HT.out.2.2.2.2.2.1, HT.out.2.2.2.2.2.2⟩
set_option maxHeartbeats 4000000 in
theorem for_4 (m : Mg) (cs : Array Value) (w : World) (hop : m.op = 4) (h : MAt w (· < w.heap.size) m cs) :
  Calls Tryz.prog 28 #[.agg cs] w (Told w (foreign m)):=by
 have hfo : foreign m = { m with id:=0, op:=0, mods:=[], dn:=no }:=by unfold foreign; rw [if_neg (by omega), if_neg (by omega), if_neg (by omega), if_neg (by omega), if_pos (Or.inl hop)]
 rw [hfo]
 clear hfo
 obtain ⟨x0, x1, x2, x3, x4, W, wc, M, mc, ds, rfl, hF, hW, hM, hT⟩:=h
 obtain ⟨k, a, v, S, n1, n2, A, n3, n4, hcs⟩:=hF.form
 simp only [List.cons.injEq, and_true] at hcs
 obtain ⟨rfl, rfl, rfl, rfl, rfl⟩:=hcs
 rw [hop]
 clear hop
 have HB:=Lib.hid (((Below.refl w.heap.size w).alloc (Nat.le_refl _) (.cells #[.int .i64 0, .int .i64 0, .int .i64 m.ref, .string ⟨#[]⟩, .int .i64 m.ver, .string m.pass, .int .i64 m.scope, .int .i64 m.size, .int .i64 k, .string a, .string v, .slice S n1 n2, .slice A n3 n4, .slice W m.wants.length wc, .slice none 0 0, .string m.rdn, .bool m.del, .bool m.has, .string m.sup, .string m.attr, .string m.value, .int .i64 m.code, .string m.matched] 28)).alloc (by simp) (.cells #[.int .i64 0, .int .i64 0, .int .i64 0, .string ⟨#[]⟩, .int .i64 0, .string ⟨#[]⟩, .int .i64 0, .int .i64 0, .int .i64 0, .string ⟨#[]⟩, .string ⟨#[]⟩, .slice none 0 0, .slice none 0 0, .slice none 0 0, .slice none 0 0, .string ⟨#[]⟩, .bool false, .bool false, .string ⟨#[]⟩, .string ⟨#[]⟩, .string ⟨#[]⟩, .int .i64 0, .string ⟨#[]⟩] 28))
 have BR:=Blk.new (w.alloc (.cells #[.int .i64 0, .int .i64 0, .int .i64 m.ref, .string ⟨#[]⟩, .int .i64 m.ver, .string m.pass, .int .i64 m.scope, .int .i64 m.size, .int .i64 k, .string a, .string v, .slice S n1 n2, .slice A n3 n4, .slice W m.wants.length wc, .slice none 0 0, .string m.rdn, .bool m.del, .bool m.has, .string m.sup, .string m.attr, .string m.value, .int .i64 m.code, .string m.matched] 28)) 28 #[.int .i64 0, .int .i64 0, .int .i64 0, .string ⟨#[]⟩, .int .i64 0, .string ⟨#[]⟩, .int .i64 0, .int .i64 0, .int .i64 0, .string ⟨#[]⟩, .string ⟨#[]⟩, .slice none 0 0, .slice none 0 0, .slice none 0 0, .slice none 0 0, .string ⟨#[]⟩, .bool false, .bool false, .string ⟨#[]⟩, .string ⟨#[]⟩, .string ⟨#[]⟩, .int .i64 0, .string ⟨#[]⟩]
 rw [show (w.alloc (.cells #[.int .i64 0, .int .i64 0, .int .i64 m.ref, .string ⟨#[]⟩, .int .i64 m.ver, .string m.pass, .int .i64 m.scope, .int .i64 m.size, .int .i64 k, .string a, .string v, .slice S n1 n2, .slice A n3 n4, .slice W m.wants.length wc, .slice none 0 0, .string m.rdn, .bool m.del, .bool m.has, .string m.sup, .string m.attr, .string m.value, .int .i64 m.code, .string m.matched] 28)).heap.size = w.heap.size + 1 by simp] at BR
 have HBR:=Lib.hid BR
 have HF:=Lib.hid hF
 have HW:=Lib.hid hW
 have HM:=Lib.hid hM
 have HT:=Lib.hid hT
 clear BR hF hW hM hT
 go_enter Tryz.func28, Tryz.ntmps28
 go_wp2_with (first | (refine wpList_load_row rfl 28 _ rfl w.heap.size rfl _ #[.int .i64 0, .int .i64 0, .int .i64 m.ref, .string ⟨#[]⟩, .int .i64 m.ver, .string m.pass, .int .i64 m.scope, .int .i64 m.size, .int .i64 k, .string a, .string v, .slice S n1 n2, .slice A n3 n4, .slice W m.wants.length wc, .slice none 0 0, .string m.rdn, .bool m.del, .bool m.has, .string m.sup, .string m.attr, .string m.value, .int .i64 m.code, .string m.matched] (0, 0) _ ((Blk.new w 28 _).alloc _) Tryz.underlying28 rfl infoM ?_) | (refine wpList_store_row rfl 28 _ _ rfl (w.heap.size + 1) #[.int .i64 0, .int .i64 0, .int .i64 m.ref, .string ⟨#[]⟩, .int .i64 m.ver, .string m.pass, .int .i64 m.scope, .int .i64 m.size, .int .i64 k, .string a, .string v, .slice S n1 n2, .slice A n3 n4, .slice W m.wants.length wc, .slice none 0 0, .string m.rdn, .bool m.del, .bool m.has, .string m.sup, .string m.attr, .string m.value, .int .i64 m.code, .string m.matched] rfl rfl _ #[.int .i64 0, .int .i64 0, .int .i64 0, .string ⟨#[]⟩, .int .i64 0, .string ⟨#[]⟩, .int .i64 0, .int .i64 0, .int .i64 0, .string ⟨#[]⟩, .string ⟨#[]⟩, .slice none 0 0, .slice none 0 0, .slice none 0 0, .slice none 0 0, .string ⟨#[]⟩, .bool false, .bool false, .string ⟨#[]⟩, .string ⟨#[]⟩, .string ⟨#[]⟩, .int .i64 0, .string ⟨#[]⟩] HBR.out infoM rfl (by simp [Value.oneCell']) ?_))
 have hbe:=below_setRow HB.out (Nat.le_succ w.heap.size) #[.int .i64 0, .int .i64 0, .int .i64 m.ref, .string ⟨#[]⟩, .int .i64 m.ver, .string m.pass, .int .i64 m.scope, .int .i64 m.size, .int .i64 k, .string a, .string v, .slice S n1 n2, .slice A n3 n4, .slice W m.wants.length wc, .slice none 0 0, .string m.rdn, .bool m.del, .bool m.has, .string m.sup, .string m.attr, .string m.value, .int .i64 m.code, .string m.matched]
 refine bodyPost_ret (results_cell_row rfl _ _ (w.heap.size + 1) _ _ (0, 0) _ rfl (setRow_heap _ _ _ _ _ _ HBR.out) Tryz.underlying28 rfl infoM) rfl ⟨_, rfl, hbe, ?_⟩
 exact ⟨_, _, _, _, _, _, _, _, _, _, rfl, HF.out.past hbe, ⟨HW.out.1.past hbe, HW.out.2⟩, ⟨MosAt.nil _ _ _ (fun _=>[]), by simp, by simp⟩, Nat.zero_le _, HT.out.2.1, HT.out.2.2.1, HT.out.2.2.2.1, HT.out.2.2.2.2.1, HT.out.2.2.2.2.2.1, HT.out.2.2.2.2.2.2⟩
set_option maxHeartbeats 4000000 in
theorem for_5 (m : Mg) (cs : Array Value) (w : World) (hop : m.op = 5) (h : MAt w (· < w.heap.size) m cs) :
  Calls Tryz.prog 28 #[.agg cs] w (Told w (foreign m)):=by
 have hfo : foreign m = { m with id:=0, op:=0, mods:=[], dn:=no }:=by unfold foreign; rw [if_neg (by omega), if_neg (by omega), if_neg (by omega), if_neg (by omega), if_pos (Or.inr (Or.inl hop))]
 rw [hfo]
 clear hfo
 obtain ⟨x0, x1, x2, x3, x4, W, wc, M, mc, ds, rfl, hF, hW, hM, hT⟩:=h
 obtain ⟨k, a, v, S, n1, n2, A, n3, n4, hcs⟩:=hF.form
 simp only [List.cons.injEq, and_true] at hcs
 obtain ⟨rfl, rfl, rfl, rfl, rfl⟩:=hcs
 rw [hop]
 clear hop
 have HB:=Lib.hid (((Below.refl w.heap.size w).alloc (Nat.le_refl _) (.cells #[.int .i64 0, .int .i64 0, .int .i64 m.ref, .string ⟨#[]⟩, .int .i64 m.ver, .string m.pass, .int .i64 m.scope, .int .i64 m.size, .int .i64 k, .string a, .string v, .slice S n1 n2, .slice A n3 n4, .slice W m.wants.length wc, .slice none 0 0, .string m.rdn, .bool m.del, .bool m.has, .string m.sup, .string m.attr, .string m.value, .int .i64 m.code, .string m.matched] 28)).alloc (by simp) (.cells #[.int .i64 0, .int .i64 0, .int .i64 0, .string ⟨#[]⟩, .int .i64 0, .string ⟨#[]⟩, .int .i64 0, .int .i64 0, .int .i64 0, .string ⟨#[]⟩, .string ⟨#[]⟩, .slice none 0 0, .slice none 0 0, .slice none 0 0, .slice none 0 0, .string ⟨#[]⟩, .bool false, .bool false, .string ⟨#[]⟩, .string ⟨#[]⟩, .string ⟨#[]⟩, .int .i64 0, .string ⟨#[]⟩] 28))
 have BR:=Blk.new (w.alloc (.cells #[.int .i64 0, .int .i64 0, .int .i64 m.ref, .string ⟨#[]⟩, .int .i64 m.ver, .string m.pass, .int .i64 m.scope, .int .i64 m.size, .int .i64 k, .string a, .string v, .slice S n1 n2, .slice A n3 n4, .slice W m.wants.length wc, .slice none 0 0, .string m.rdn, .bool m.del, .bool m.has, .string m.sup, .string m.attr, .string m.value, .int .i64 m.code, .string m.matched] 28)) 28 #[.int .i64 0, .int .i64 0, .int .i64 0, .string ⟨#[]⟩, .int .i64 0, .string ⟨#[]⟩, .int .i64 0, .int .i64 0, .int .i64 0, .string ⟨#[]⟩, .string ⟨#[]⟩, .slice none 0 0, .slice none 0 0, .slice none 0 0, .slice none 0 0, .string ⟨#[]⟩, .bool false, .bool false, .string ⟨#[]⟩, .string ⟨#[]⟩, .string ⟨#[]⟩, .int .i64 0, .string ⟨#[]⟩]
 rw [show (w.alloc (.cells #[.int .i64 0, .int .i64 0, .int .i64 m.ref, .string ⟨#[]⟩, .int .i64 m.ver, .string m.pass, .int .i64 m.scope, .int .i64 m.size, .int .i64 k, .string a, .string v, .slice S n1 n2, .slice A n3 n4, .slice W m.wants.length wc, .slice none 0 0, .string m.rdn, .bool m.del, .bool m.has, .string m.sup, .string m.attr, .string m.value, .int .i64 m.code, .string m.matched] 28)).heap.size = w.heap.size + 1 by simp] at BR
 have HBR:=Lib.hid BR
 have HF:=Lib.hid hF
 have HW:=Lib.hid hW
 have HM:=Lib.hid hM
 have HT:=Lib.hid hT
 clear BR hF hW hM hT
 go_enter Tryz.func28, Tryz.ntmps28
 go_wp2_with (first | (refine wpList_load_row rfl 28 _ rfl w.heap.size rfl _ #[.int .i64 0, .int .i64 0, .int .i64 m.ref, .string ⟨#[]⟩, .int .i64 m.ver, .string m.pass, .int .i64 m.scope, .int .i64 m.size, .int .i64 k, .string a, .string v, .slice S n1 n2, .slice A n3 n4, .slice W m.wants.length wc, .slice none 0 0, .string m.rdn, .bool m.del, .bool m.has, .string m.sup, .string m.attr, .string m.value, .int .i64 m.code, .string m.matched] (0, 0) _ ((Blk.new w 28 _).alloc _) Tryz.underlying28 rfl infoM ?_) | (refine wpList_store_row rfl 28 _ _ rfl (w.heap.size + 1) #[.int .i64 0, .int .i64 0, .int .i64 m.ref, .string ⟨#[]⟩, .int .i64 m.ver, .string m.pass, .int .i64 m.scope, .int .i64 m.size, .int .i64 k, .string a, .string v, .slice S n1 n2, .slice A n3 n4, .slice W m.wants.length wc, .slice none 0 0, .string m.rdn, .bool m.del, .bool m.has, .string m.sup, .string m.attr, .string m.value, .int .i64 m.code, .string m.matched] rfl rfl _ #[.int .i64 0, .int .i64 0, .int .i64 0, .string ⟨#[]⟩, .int .i64 0, .string ⟨#[]⟩, .int .i64 0, .int .i64 0, .int .i64 0, .string ⟨#[]⟩, .string ⟨#[]⟩, .slice none 0 0, .slice none 0 0, .slice none 0 0, .slice none 0 0, .string ⟨#[]⟩, .bool false, .bool false, .string ⟨#[]⟩, .string ⟨#[]⟩, .string ⟨#[]⟩, .int .i64 0, .string ⟨#[]⟩] HBR.out infoM rfl (by simp [Value.oneCell']) ?_))
 have hbe:=below_setRow HB.out (Nat.le_succ w.heap.size) #[.int .i64 0, .int .i64 0, .int .i64 m.ref, .string ⟨#[]⟩, .int .i64 m.ver, .string m.pass, .int .i64 m.scope, .int .i64 m.size, .int .i64 k, .string a, .string v, .slice S n1 n2, .slice A n3 n4, .slice W m.wants.length wc, .slice none 0 0, .string m.rdn, .bool m.del, .bool m.has, .string m.sup, .string m.attr, .string m.value, .int .i64 m.code, .string m.matched]
 refine bodyPost_ret (results_cell_row rfl _ _ (w.heap.size + 1) _ _ (0, 0) _ rfl (setRow_heap _ _ _ _ _ _ HBR.out) Tryz.underlying28 rfl infoM) rfl ⟨_, rfl, hbe, ?_⟩
 exact ⟨_, _, _, _, _, _, _, _, _, _, rfl, HF.out.past hbe, ⟨HW.out.1.past hbe, HW.out.2⟩, ⟨MosAt.nil _ _ _ (fun _=>[]), by simp, by simp⟩, Nat.zero_le _, HT.out.2.1, HT.out.2.2.1, HT.out.2.2.2.1, HT.out.2.2.2.2.1, HT.out.2.2.2.2.2.1, HT.out.2.2.2.2.2.2⟩
set_option maxHeartbeats 4000000 in
theorem for_10 (m : Mg) (cs : Array Value) (w : World) (hop : m.op = 10) (h : MAt w (· < w.heap.size) m cs) :
  Calls Tryz.prog 28 #[.agg cs] w (Told w (foreign m)):=by
 have hfo : foreign m = { m with id:=0, op:=0, mods:=[], dn:=no }:=by unfold foreign; rw [if_neg (by omega), if_neg (by omega), if_neg (by omega), if_neg (by omega), if_pos (Or.inr (Or.inr hop))]
 rw [hfo]
 clear hfo
 obtain ⟨x0, x1, x2, x3, x4, W, wc, M, mc, ds, rfl, hF, hW, hM, hT⟩:=h
 obtain ⟨k, a, v, S, n1, n2, A, n3, n4, hcs⟩:=hF.form
 simp only [List.cons.injEq, and_true] at hcs
 obtain ⟨rfl, rfl, rfl, rfl, rfl⟩:=hcs
 rw [hop]
 clear hop
 have HB:=Lib.hid (((Below.refl w.heap.size w).alloc (Nat.le_refl _) (.cells #[.int .i64 0, .int .i64 0, .int .i64 m.ref, .string ⟨#[]⟩, .int .i64 m.ver, .string m.pass, .int .i64 m.scope, .int .i64 m.size, .int .i64 k, .string a, .string v, .slice S n1 n2, .slice A n3 n4, .slice W m.wants.length wc, .slice none 0 0, .string m.rdn, .bool m.del, .bool m.has, .string m.sup, .string m.attr, .string m.value, .int .i64 m.code, .string m.matched] 28)).alloc (by simp) (.cells #[.int .i64 0, .int .i64 0, .int .i64 0, .string ⟨#[]⟩, .int .i64 0, .string ⟨#[]⟩, .int .i64 0, .int .i64 0, .int .i64 0, .string ⟨#[]⟩, .string ⟨#[]⟩, .slice none 0 0, .slice none 0 0, .slice none 0 0, .slice none 0 0, .string ⟨#[]⟩, .bool false, .bool false, .string ⟨#[]⟩, .string ⟨#[]⟩, .string ⟨#[]⟩, .int .i64 0, .string ⟨#[]⟩] 28))
 have BR:=Blk.new (w.alloc (.cells #[.int .i64 0, .int .i64 0, .int .i64 m.ref, .string ⟨#[]⟩, .int .i64 m.ver, .string m.pass, .int .i64 m.scope, .int .i64 m.size, .int .i64 k, .string a, .string v, .slice S n1 n2, .slice A n3 n4, .slice W m.wants.length wc, .slice none 0 0, .string m.rdn, .bool m.del, .bool m.has, .string m.sup, .string m.attr, .string m.value, .int .i64 m.code, .string m.matched] 28)) 28 #[.int .i64 0, .int .i64 0, .int .i64 0, .string ⟨#[]⟩, .int .i64 0, .string ⟨#[]⟩, .int .i64 0, .int .i64 0, .int .i64 0, .string ⟨#[]⟩, .string ⟨#[]⟩, .slice none 0 0, .slice none 0 0, .slice none 0 0, .slice none 0 0, .string ⟨#[]⟩, .bool false, .bool false, .string ⟨#[]⟩, .string ⟨#[]⟩, .string ⟨#[]⟩, .int .i64 0, .string ⟨#[]⟩]
 rw [show (w.alloc (.cells #[.int .i64 0, .int .i64 0, .int .i64 m.ref, .string ⟨#[]⟩, .int .i64 m.ver, .string m.pass, .int .i64 m.scope, .int .i64 m.size, .int .i64 k, .string a, .string v, .slice S n1 n2, .slice A n3 n4, .slice W m.wants.length wc, .slice none 0 0, .string m.rdn, .bool m.del, .bool m.has, .string m.sup, .string m.attr, .string m.value, .int .i64 m.code, .string m.matched] 28)).heap.size = w.heap.size + 1 by simp] at BR
 have HBR:=Lib.hid BR
 have HF:=Lib.hid hF
 have HW:=Lib.hid hW
 have HM:=Lib.hid hM
 have HT:=Lib.hid hT
 clear BR hF hW hM hT
 go_enter Tryz.func28, Tryz.ntmps28
 go_wp2_with (first | (refine wpList_load_row rfl 28 _ rfl w.heap.size rfl _ #[.int .i64 0, .int .i64 0, .int .i64 m.ref, .string ⟨#[]⟩, .int .i64 m.ver, .string m.pass, .int .i64 m.scope, .int .i64 m.size, .int .i64 k, .string a, .string v, .slice S n1 n2, .slice A n3 n4, .slice W m.wants.length wc, .slice none 0 0, .string m.rdn, .bool m.del, .bool m.has, .string m.sup, .string m.attr, .string m.value, .int .i64 m.code, .string m.matched] (0, 0) _ ((Blk.new w 28 _).alloc _) Tryz.underlying28 rfl infoM ?_) | (refine wpList_store_row rfl 28 _ _ rfl (w.heap.size + 1) #[.int .i64 0, .int .i64 0, .int .i64 m.ref, .string ⟨#[]⟩, .int .i64 m.ver, .string m.pass, .int .i64 m.scope, .int .i64 m.size, .int .i64 k, .string a, .string v, .slice S n1 n2, .slice A n3 n4, .slice W m.wants.length wc, .slice none 0 0, .string m.rdn, .bool m.del, .bool m.has, .string m.sup, .string m.attr, .string m.value, .int .i64 m.code, .string m.matched] rfl rfl _ #[.int .i64 0, .int .i64 0, .int .i64 0, .string ⟨#[]⟩, .int .i64 0, .string ⟨#[]⟩, .int .i64 0, .int .i64 0, .int .i64 0, .string ⟨#[]⟩, .string ⟨#[]⟩, .slice none 0 0, .slice none 0 0, .slice none 0 0, .slice none 0 0, .string ⟨#[]⟩, .bool false, .bool false, .string ⟨#[]⟩, .string ⟨#[]⟩, .string ⟨#[]⟩, .int .i64 0, .string ⟨#[]⟩] HBR.out infoM rfl (by simp [Value.oneCell']) ?_))
 have hbe:=below_setRow HB.out (Nat.le_succ w.heap.size) #[.int .i64 0, .int .i64 0, .int .i64 m.ref, .string ⟨#[]⟩, .int .i64 m.ver, .string m.pass, .int .i64 m.scope, .int .i64 m.size, .int .i64 k, .string a, .string v, .slice S n1 n2, .slice A n3 n4, .slice W m.wants.length wc, .slice none 0 0, .string m.rdn, .bool m.del, .bool m.has, .string m.sup, .string m.attr, .string m.value, .int .i64 m.code, .string m.matched]
 refine bodyPost_ret (results_cell_row rfl _ _ (w.heap.size + 1) _ _ (0, 0) _ rfl (setRow_heap _ _ _ _ _ _ HBR.out) Tryz.underlying28 rfl infoM) rfl ⟨_, rfl, hbe, ?_⟩
 exact ⟨_, _, _, _, _, _, _, _, _, _, rfl, HF.out.past hbe, ⟨HW.out.1.past hbe, HW.out.2⟩, ⟨MosAt.nil _ _ _ (fun _=>[]), by simp, by simp⟩, Nat.zero_le _, HT.out.2.1, HT.out.2.2.1, HT.out.2.2.2.1, HT.out.2.2.2.2.1, HT.out.2.2.2.2.2.1, HT.out.2.2.2.2.2.2⟩
set_option maxHeartbeats 4000000 in
theorem for_7 (m : Mg) (cs : Array Value) (w : World) (hop : m.op = 7) (h : MAt w (· < w.heap.size) m cs) :
  Calls Tryz.prog 28 #[.agg cs] w (Told w (foreign m)):=by
 have hfo : foreign m = { m with id:=0, op:=0, rdn:=no, del:=false, has:=false, sup:=no, dn:=no }:=by unfold foreign; rw [if_neg (by omega), if_neg (by omega), if_neg (by omega), if_neg (by omega), if_neg (by omega), if_pos hop]
 rw [hfo]
 clear hfo
 obtain ⟨x0, x1, x2, x3, x4, W, wc, M, mc, ds, rfl, hF, hW, hM, hT⟩:=h
 obtain ⟨k, a, v, S, n1, n2, A, n3, n4, hcs⟩:=hF.form
 simp only [List.cons.injEq, and_true] at hcs
 obtain ⟨rfl, rfl, rfl, rfl, rfl⟩:=hcs
 rw [hop]
 clear hop
 have HB:=Lib.hid (((Below.refl w.heap.size w).alloc (Nat.le_refl _) (.cells #[.int .i64 0, .int .i64 0, .int .i64 m.ref, .string ⟨#[]⟩, .int .i64 m.ver, .string m.pass, .int .i64 m.scope, .int .i64 m.size, .int .i64 k, .string a, .string v, .slice S n1 n2, .slice A n3 n4, .slice W m.wants.length wc, .slice M m.mods.length mc, .string ⟨#[]⟩, .bool false, .bool false, .string ⟨#[]⟩, .string m.attr, .string m.value, .int .i64 m.code, .string m.matched] 28)).alloc (by simp) (.cells #[.int .i64 0, .int .i64 0, .int .i64 0, .string ⟨#[]⟩, .int .i64 0, .string ⟨#[]⟩, .int .i64 0, .int .i64 0, .int .i64 0, .string ⟨#[]⟩, .string ⟨#[]⟩, .slice none 0 0, .slice none 0 0, .slice none 0 0, .slice none 0 0, .string ⟨#[]⟩, .bool false, .bool false, .string ⟨#[]⟩, .string ⟨#[]⟩, .string ⟨#[]⟩, .int .i64 0, .string ⟨#[]⟩] 28))
 have BR:=Blk.new (w.alloc (.cells #[.int .i64 0, .int .i64 0, .int .i64 m.ref, .string ⟨#[]⟩, .int .i64 m.ver, .string m.pass, .int .i64 m.scope, .int .i64 m.size, .int .i64 k, .string a, .string v, .slice S n1 n2, .slice A n3 n4, .slice W m.wants.length wc, .slice M m.mods.length mc, .string ⟨#[]⟩, .bool false, .bool false, .string ⟨#[]⟩, .string m.attr, .string m.value, .int .i64 m.code, .string m.matched] 28)) 28 #[.int .i64 0, .int .i64 0, .int .i64 0, .string ⟨#[]⟩, .int .i64 0, .string ⟨#[]⟩, .int .i64 0, .int .i64 0, .int .i64 0, .string ⟨#[]⟩, .string ⟨#[]⟩, .slice none 0 0, .slice none 0 0, .slice none 0 0, .slice none 0 0, .string ⟨#[]⟩, .bool false, .bool false, .string ⟨#[]⟩, .string ⟨#[]⟩, .string ⟨#[]⟩, .int .i64 0, .string ⟨#[]⟩]
 rw [show (w.alloc (.cells #[.int .i64 0, .int .i64 0, .int .i64 m.ref, .string ⟨#[]⟩, .int .i64 m.ver, .string m.pass, .int .i64 m.scope, .int .i64 m.size, .int .i64 k, .string a, .string v, .slice S n1 n2, .slice A n3 n4, .slice W m.wants.length wc, .slice M m.mods.length mc, .string ⟨#[]⟩, .bool false, .bool false, .string ⟨#[]⟩, .string m.attr, .string m.value, .int .i64 m.code, .string m.matched] 28)).heap.size = w.heap.size + 1 by simp] at BR
 have HBR:=Lib.hid BR
 have HF:=Lib.hid hF
 have HW:=Lib.hid hW
 have HM:=Lib.hid hM
 have HT:=Lib.hid hT
 clear BR hF hW hM hT
 go_enter Tryz.func28, Tryz.ntmps28
 go_wp2_with (first | (refine wpList_load_row rfl 28 _ rfl w.heap.size rfl _ #[.int .i64 0, .int .i64 0, .int .i64 m.ref, .string ⟨#[]⟩, .int .i64 m.ver, .string m.pass, .int .i64 m.scope, .int .i64 m.size, .int .i64 k, .string a, .string v, .slice S n1 n2, .slice A n3 n4, .slice W m.wants.length wc, .slice M m.mods.length mc, .string ⟨#[]⟩, .bool false, .bool false, .string ⟨#[]⟩, .string m.attr, .string m.value, .int .i64 m.code, .string m.matched] (0, 0) _ ((Blk.new w 28 _).alloc _) Tryz.underlying28 rfl infoM ?_) | (refine wpList_store_row rfl 28 _ _ rfl (w.heap.size + 1) #[.int .i64 0, .int .i64 0, .int .i64 m.ref, .string ⟨#[]⟩, .int .i64 m.ver, .string m.pass, .int .i64 m.scope, .int .i64 m.size, .int .i64 k, .string a, .string v, .slice S n1 n2, .slice A n3 n4, .slice W m.wants.length wc, .slice M m.mods.length mc, .string ⟨#[]⟩, .bool false, .bool false, .string ⟨#[]⟩, .string m.attr, .string m.value, .int .i64 m.code, .string m.matched] rfl rfl _ #[.int .i64 0, .int .i64 0, .int .i64 0, .string ⟨#[]⟩, .int .i64 0, .string ⟨#[]⟩, .int .i64 0, .int .i64 0, .int .i64 0, .string ⟨#[]⟩, .string ⟨#[]⟩, .slice none 0 0, .slice none 0 0, .slice none 0 0, .slice none 0 0, .string ⟨#[]⟩, .bool false, .bool false, .string ⟨#[]⟩, .string ⟨#[]⟩, .string ⟨#[]⟩, .int .i64 0, .string ⟨#[]⟩] HBR.out infoM rfl (by simp [Value.oneCell']) ?_))
 have hbe:=below_setRow HB.out (Nat.le_succ w.heap.size) #[.int .i64 0, .int .i64 0, .int .i64 m.ref, .string ⟨#[]⟩, .int .i64 m.ver, .string m.pass, .int .i64 m.scope, .int .i64 m.size, .int .i64 k, .string a, .string v, .slice S n1 n2, .slice A n3 n4, .slice W m.wants.length wc, .slice M m.mods.length mc, .string ⟨#[]⟩, .bool false, .bool false, .string ⟨#[]⟩, .string m.attr, .string m.value, .int .i64 m.code, .string m.matched]
 refine bodyPost_ret (results_cell_row rfl _ _ (w.heap.size + 1) _ _ (0, 0) _ rfl (setRow_heap _ _ _ _ _ _ HBR.out) Tryz.underlying28 rfl infoM) rfl ⟨_, rfl, hbe, ?_⟩
 exact ⟨_, _, _, _, _, _, _, _, _, _, rfl, HF.out.past hbe, ⟨HW.out.1.past hbe, HW.out.2⟩, ⟨HM.out.1.past hbe, HM.out.2⟩, Nat.zero_le _, HT.out.2.1, Nat.zero_le _, Nat.zero_le _, HT.out.2.2.2.2.1, HT.out.2.2.2.2.2.1, HT.out.2.2.2.2.2.2⟩
set_option maxHeartbeats 4000000 in
theorem for_8 (m : Mg) (cs : Array Value) (w : World) (hop : m.op = 8) (h : MAt w (· < w.heap.size) m cs) :
  Calls Tryz.prog 28 #[.agg cs] w (Told w (foreign m)):=by
 have hfo : foreign m = { m with id:=0, op:=0, attr:=no, value:=no, dn:=no }:=by unfold foreign; rw [if_neg (by omega), if_neg (by omega), if_neg (by omega), if_neg (by omega), if_neg (by omega), if_neg (by omega), if_pos hop]
 rw [hfo]
 clear hfo
 obtain ⟨x0, x1, x2, x3, x4, W, wc, M, mc, ds, rfl, hF, hW, hM, hT⟩:=h
 obtain ⟨k, a, v, S, n1, n2, A, n3, n4, hcs⟩:=hF.form
 simp only [List.cons.injEq, and_true] at hcs
 obtain ⟨rfl, rfl, rfl, rfl, rfl⟩:=hcs
 rw [hop]
 clear hop
 have HB:=Lib.hid (((Below.refl w.heap.size w).alloc (Nat.le_refl _) (.cells #[.int .i64 0, .int .i64 0, .int .i64 m.ref, .string ⟨#[]⟩, .int .i64 m.ver, .string m.pass, .int .i64 m.scope, .int .i64 m.size, .int .i64 k, .string a, .string v, .slice S n1 n2, .slice A n3 n4, .slice W m.wants.length wc, .slice M m.mods.length mc, .string m.rdn, .bool m.del, .bool m.has, .string m.sup, .string ⟨#[]⟩, .string ⟨#[]⟩, .int .i64 m.code, .string m.matched] 28)).alloc (by simp) (.cells #[.int .i64 0, .int .i64 0, .int .i64 0, .string ⟨#[]⟩, .int .i64 0, .string ⟨#[]⟩, .int .i64 0, .int .i64 0, .int .i64 0, .string ⟨#[]⟩, .string ⟨#[]⟩, .slice none 0 0, .slice none 0 0, .slice none 0 0, .slice none 0 0, .string ⟨#[]⟩, .bool false, .bool false, .string ⟨#[]⟩, .string ⟨#[]⟩, .string ⟨#[]⟩, .int .i64 0, .string ⟨#[]⟩] 28))
 have BR:=Blk.new (w.alloc (.cells #[.int .i64 0, .int .i64 0, .int .i64 m.ref, .string ⟨#[]⟩, .int .i64 m.ver, .string m.pass, .int .i64 m.scope, .int .i64 m.size, .int .i64 k, .string a, .string v, .slice S n1 n2, .slice A n3 n4, .slice W m.wants.length wc, .slice M m.mods.length mc, .string m.rdn, .bool m.del, .bool m.has, .string m.sup, .string ⟨#[]⟩, .string ⟨#[]⟩, .int .i64 m.code, .string m.matched] 28)) 28 #[.int .i64 0, .int .i64 0, .int .i64 0, .string ⟨#[]⟩, .int .i64 0, .string ⟨#[]⟩, .int .i64 0, .int .i64 0, .int .i64 0, .string ⟨#[]⟩, .string ⟨#[]⟩, .slice none 0 0, .slice none 0 0, .slice none 0 0, .slice none 0 0, .string ⟨#[]⟩, .bool false, .bool false, .string ⟨#[]⟩, .string ⟨#[]⟩, .string ⟨#[]⟩, .int .i64 0, .string ⟨#[]⟩]
 rw [show (w.alloc (.cells #[.int .i64 0, .int .i64 0, .int .i64 m.ref, .string ⟨#[]⟩, .int .i64 m.ver, .string m.pass, .int .i64 m.scope, .int .i64 m.size, .int .i64 k, .string a, .string v, .slice S n1 n2, .slice A n3 n4, .slice W m.wants.length wc, .slice M m.mods.length mc, .string m.rdn, .bool m.del, .bool m.has, .string m.sup, .string ⟨#[]⟩, .string ⟨#[]⟩, .int .i64 m.code, .string m.matched] 28)).heap.size = w.heap.size + 1 by simp] at BR
 have HBR:=Lib.hid BR
 have HF:=Lib.hid hF
 have HW:=Lib.hid hW
 have HM:=Lib.hid hM
 have HT:=Lib.hid hT
 clear BR hF hW hM hT
 go_enter Tryz.func28, Tryz.ntmps28
 go_wp2_with (first | (refine wpList_load_row rfl 28 _ rfl w.heap.size rfl _ #[.int .i64 0, .int .i64 0, .int .i64 m.ref, .string ⟨#[]⟩, .int .i64 m.ver, .string m.pass, .int .i64 m.scope, .int .i64 m.size, .int .i64 k, .string a, .string v, .slice S n1 n2, .slice A n3 n4, .slice W m.wants.length wc, .slice M m.mods.length mc, .string m.rdn, .bool m.del, .bool m.has, .string m.sup, .string ⟨#[]⟩, .string ⟨#[]⟩, .int .i64 m.code, .string m.matched] (0, 0) _ ((Blk.new w 28 _).alloc _) Tryz.underlying28 rfl infoM ?_) | (refine wpList_store_row rfl 28 _ _ rfl (w.heap.size + 1) #[.int .i64 0, .int .i64 0, .int .i64 m.ref, .string ⟨#[]⟩, .int .i64 m.ver, .string m.pass, .int .i64 m.scope, .int .i64 m.size, .int .i64 k, .string a, .string v, .slice S n1 n2, .slice A n3 n4, .slice W m.wants.length wc, .slice M m.mods.length mc, .string m.rdn, .bool m.del, .bool m.has, .string m.sup, .string ⟨#[]⟩, .string ⟨#[]⟩, .int .i64 m.code, .string m.matched] rfl rfl _ #[.int .i64 0, .int .i64 0, .int .i64 0, .string ⟨#[]⟩, .int .i64 0, .string ⟨#[]⟩, .int .i64 0, .int .i64 0, .int .i64 0, .string ⟨#[]⟩, .string ⟨#[]⟩, .slice none 0 0, .slice none 0 0, .slice none 0 0, .slice none 0 0, .string ⟨#[]⟩, .bool false, .bool false, .string ⟨#[]⟩, .string ⟨#[]⟩, .string ⟨#[]⟩, .int .i64 0, .string ⟨#[]⟩] HBR.out infoM rfl (by simp [Value.oneCell']) ?_))
 have hbe:=below_setRow HB.out (Nat.le_succ w.heap.size) #[.int .i64 0, .int .i64 0, .int .i64 m.ref, .string ⟨#[]⟩, .int .i64 m.ver, .string m.pass, .int .i64 m.scope, .int .i64 m.size, .int .i64 k, .string a, .string v, .slice S n1 n2, .slice A n3 n4, .slice W m.wants.length wc, .slice M m.mods.length mc, .string m.rdn, .bool m.del, .bool m.has, .string m.sup, .string ⟨#[]⟩, .string ⟨#[]⟩, .int .i64 m.code, .string m.matched]
 refine bodyPost_ret (results_cell_row rfl _ _ (w.heap.size + 1) _ _ (0, 0) _ rfl (setRow_heap _ _ _ _ _ _ HBR.out) Tryz.underlying28 rfl infoM) rfl ⟨_, rfl, hbe, ?_⟩
 exact ⟨_, _, _, _, _, _, _, _, _, _, rfl, HF.out.past hbe, ⟨HW.out.1.past hbe, HW.out.2⟩, ⟨HM.out.1.past hbe, HM.out.2⟩, Nat.zero_le _, HT.out.2.1, HT.out.2.2.1, HT.out.2.2.2.1, Nat.zero_le _, Nat.zero_le _, HT.out.2.2.2.2.2.2⟩
set_option maxHeartbeats 4000000 in
theorem for_o (m : Mg) (cs : Array Value) (w : World) (hop : m.op ≠ 1 ∧ m.op ≠ 2 ∧ m.op ≠ 3 ∧ m.op ≠ 4 ∧ m.op ≠ 5 ∧ m.op ≠ 7 ∧ m.op ≠ 8 ∧ m.op ≠ 9 ∧ m.op ≠ 10) (h : MAt w (· < w.heap.size) m cs) :
  Calls Tryz.prog 28 #[.agg cs] w (Told w (foreign m)):=by
 have hfo : foreign m = { m with id:=0, op:=0, dn:=no }:=by unfold foreign; rw [if_neg (by omega), if_neg (by omega), if_neg (by omega), if_neg (by omega), if_neg (by omega), if_neg (by omega), if_neg (by omega)]
 rw [hfo]
 clear hfo
 obtain ⟨x0, x1, x2, x3, x4, W, wc, M, mc, ds, rfl, hF, hW, hM, hT⟩:=h
 obtain ⟨k, a, v, S, n1, n2, A, n3, n4, hcs⟩:=hF.form
 simp only [List.cons.injEq, and_true] at hcs
 obtain ⟨rfl, rfl, rfl, rfl, rfl⟩:=hcs
 obtain ⟨z1, z2, z3, z4, z5, z7, z8, z9, z10⟩:=hop
 have q1 : (m.op == 1) = false:=by rw [beq_eq_false_iff_ne]; exact z1
 have q2 : (m.op == 2) = false:=by rw [beq_eq_false_iff_ne]; exact z2
 have q3 : (m.op == 3) = false:=by rw [beq_eq_false_iff_ne]; exact z3
 have q4 : (m.op == 4) = false:=by rw [beq_eq_false_iff_ne]; exact z4
 have q5 : (m.op == 5) = false:=by rw [beq_eq_false_iff_ne]; exact z5
 have q7 : (m.op == 7) = false:=by rw [beq_eq_false_iff_ne]; exact z7
 have q8 : (m.op == 8) = false:=by rw [beq_eq_false_iff_ne]; exact z8
 have q9 : (m.op == 9) = false:=by rw [beq_eq_false_iff_ne]; exact z9
 have q10 : (m.op == 10) = false:=by rw [beq_eq_false_iff_ne]; exact z10
 clear z1 z2 z3 z4 z5 z7 z8 z9 z10
 have HB:=Lib.hid (((Below.refl w.heap.size w).alloc (Nat.le_refl _) (.cells #[.int .i64 0, .int .i64 0, .int .i64 m.ref, .string ⟨#[]⟩, .int .i64 m.ver, .string m.pass, .int .i64 m.scope, .int .i64 m.size, .int .i64 k, .string a, .string v, .slice S n1 n2, .slice A n3 n4, .slice W m.wants.length wc, .slice M m.mods.length mc, .string m.rdn, .bool m.del, .bool m.has, .string m.sup, .string m.attr, .string m.value, .int .i64 m.code, .string m.matched] 28)).alloc (by simp) (.cells #[.int .i64 0, .int .i64 0, .int .i64 0, .string ⟨#[]⟩, .int .i64 0, .string ⟨#[]⟩, .int .i64 0, .int .i64 0, .int .i64 0, .string ⟨#[]⟩, .string ⟨#[]⟩, .slice none 0 0, .slice none 0 0, .slice none 0 0, .slice none 0 0, .string ⟨#[]⟩, .bool false, .bool false, .string ⟨#[]⟩, .string ⟨#[]⟩, .string ⟨#[]⟩, .int .i64 0, .string ⟨#[]⟩] 28))
 have BR:=Blk.new (w.alloc (.cells #[.int .i64 0, .int .i64 0, .int .i64 m.ref, .string ⟨#[]⟩, .int .i64 m.ver, .string m.pass, .int .i64 m.scope, .int .i64 m.size, .int .i64 k, .string a, .string v, .slice S n1 n2, .slice A n3 n4, .slice W m.wants.length wc, .slice M m.mods.length mc, .string m.rdn, .bool m.del, .bool m.has, .string m.sup, .string m.attr, .string m.value, .int .i64 m.code, .string m.matched] 28)) 28 #[.int .i64 0, .int .i64 0, .int .i64 0, .string ⟨#[]⟩, .int .i64 0, .string ⟨#[]⟩, .int .i64 0, .int .i64 0, .int .i64 0, .string ⟨#[]⟩, .string ⟨#[]⟩, .slice none 0 0, .slice none 0 0, .slice none 0 0, .slice none 0 0, .string ⟨#[]⟩, .bool false, .bool false, .string ⟨#[]⟩, .string ⟨#[]⟩, .string ⟨#[]⟩, .int .i64 0, .string ⟨#[]⟩]
 rw [show (w.alloc (.cells #[.int .i64 0, .int .i64 0, .int .i64 m.ref, .string ⟨#[]⟩, .int .i64 m.ver, .string m.pass, .int .i64 m.scope, .int .i64 m.size, .int .i64 k, .string a, .string v, .slice S n1 n2, .slice A n3 n4, .slice W m.wants.length wc, .slice M m.mods.length mc, .string m.rdn, .bool m.del, .bool m.has, .string m.sup, .string m.attr, .string m.value, .int .i64 m.code, .string m.matched] 28)).heap.size = w.heap.size + 1 by simp] at BR
 have HBR:=Lib.hid BR
 have HF:=Lib.hid hF
 have HW:=Lib.hid hW
 have HM:=Lib.hid hM
 have HT:=Lib.hid hT
 clear BR hF hW hM hT
 go_enter Tryz.func28, Tryz.ntmps28
 go_wp2_with (first | (refine wpList_load_row rfl 28 _ rfl w.heap.size rfl _ #[.int .i64 0, .int .i64 0, .int .i64 m.ref, .string ⟨#[]⟩, .int .i64 m.ver, .string m.pass, .int .i64 m.scope, .int .i64 m.size, .int .i64 k, .string a, .string v, .slice S n1 n2, .slice A n3 n4, .slice W m.wants.length wc, .slice M m.mods.length mc, .string m.rdn, .bool m.del, .bool m.has, .string m.sup, .string m.attr, .string m.value, .int .i64 m.code, .string m.matched] (0, 0) _ ((Blk.new w 28 _).alloc _) Tryz.underlying28 rfl infoM ?_) | (refine wpList_store_row rfl 28 _ _ rfl (w.heap.size + 1) #[.int .i64 0, .int .i64 0, .int .i64 m.ref, .string ⟨#[]⟩, .int .i64 m.ver, .string m.pass, .int .i64 m.scope, .int .i64 m.size, .int .i64 k, .string a, .string v, .slice S n1 n2, .slice A n3 n4, .slice W m.wants.length wc, .slice M m.mods.length mc, .string m.rdn, .bool m.del, .bool m.has, .string m.sup, .string m.attr, .string m.value, .int .i64 m.code, .string m.matched] rfl rfl _ #[.int .i64 0, .int .i64 0, .int .i64 0, .string ⟨#[]⟩, .int .i64 0, .string ⟨#[]⟩, .int .i64 0, .int .i64 0, .int .i64 0, .string ⟨#[]⟩, .string ⟨#[]⟩, .slice none 0 0, .slice none 0 0, .slice none 0 0, .slice none 0 0, .string ⟨#[]⟩, .bool false, .bool false, .string ⟨#[]⟩, .string ⟨#[]⟩, .string ⟨#[]⟩, .int .i64 0, .string ⟨#[]⟩] HBR.out infoM rfl (by simp [Value.oneCell']) ?_))
 have hbe:=below_setRow HB.out (Nat.le_succ w.heap.size) #[.int .i64 0, .int .i64 0, .int .i64 m.ref, .string ⟨#[]⟩, .int .i64 m.ver, .string m.pass, .int .i64 m.scope, .int .i64 m.size, .int .i64 k, .string a, .string v, .slice S n1 n2, .slice A n3 n4, .slice W m.wants.length wc, .slice M m.mods.length mc, .string m.rdn, .bool m.del, .bool m.has, .string m.sup, .string m.attr, .string m.value, .int .i64 m.code, .string m.matched]
 refine bodyPost_ret (results_cell_row rfl _ _ (w.heap.size + 1) _ _ (0, 0) _ rfl (setRow_heap _ _ _ _ _ _ HBR.out) Tryz.underlying28 rfl infoM) rfl ⟨_, rfl, hbe, ?_⟩
 exact ⟨_, _, _, _, _, _, _, _, _, _, rfl, HF.out.past hbe, ⟨HW.out.1.past hbe, HW.out.2⟩, ⟨HM.out.1.past hbe, HM.out.2⟩, Nat.zero_le _, HT.out.2.1, HT.out.2.2.1, HT.out.2.2.2.1, HT.out.2.2.2.2.1, HT.out.2.2.2.2.2.1, HT.out.2.2.2.2.2.2⟩
theorem foreign_any (m : Mg) (cs : Array Value) (w : World) (h : MAt w (· < w.heap.size) m cs) :
  Calls Tryz.prog 28 #[.agg cs] w (Told w (foreign m)):=by
 by_cases h1 : m.op = 1
 ·exact for_1 m cs w h1 h
 by_cases h2 : m.op = 2
 ·exact for_2 m cs w h2 h
 by_cases h3 : m.op = 3
 ·exact for_3 m cs w h3 h
 by_cases h4 : m.op = 4
 ·exact for_4 m cs w h4 h
 by_cases h5 : m.op = 5
 ·exact for_5 m cs w h5 h
 by_cases h7 : m.op = 7
 ·exact for_7 m cs w h7 h
 by_cases h8 : m.op = 8
 ·exact for_8 m cs w h8 h
 by_cases h9 : m.op = 9
 ·exact for_9 m cs w h9 h
 by_cases h10 : m.op = 10
 ·exact for_10 m cs w h10 h
 exact for_o m cs w ⟨h1, h2, h3, h4, h5, h7, h8, h9, h10⟩ h
end Go.Proofs.YtconghaebebncaaGreatDoor.Ms
