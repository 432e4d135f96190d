import Derived.Test.YtconghaebebncaaGreatDoorZR31
set_option linter.unusedVariables false
set_option maxRecDepth 100000
namespace Go.Proofs.YtconghaebebncaaGreatDoor.Ms
open Go.RowKit
abbrev bl (w : World) (k : Nat) (x y : Value) (b : Bool) (n : Nat) (r : List Value) : List Value:=pt w.heap.size k :: x :: pt (w.heap.size + 1) k :: y :: (List.replicate n (.bool b) ++ r)
abbrev uds (n : Nat) : List Value:=List.replicate n ud
abbrev pads (n : Nat) (r : List Value) : List Value:=(List.replicate n [ud, ud, ud, ud, ud, .bool false, .bool false]).flatten ++ r
def eqR (a b : Mg) : Bool:=decide (a.id = b.id) && (decide (a.op = b.op) && (decide (a.ref = b.ref) && (decide (a.dn = b.dn) && (decide (a.ver = b.ver) && (decide (a.pass = b.pass) && (decide (a.scope = b.scope) && (decide (a.size = b.size) && (Fi.eqF a.fil b.fil && (decide (a.wants = b.wants) && (eqMos a.mods b.mods && (decide (a.rdn = b.rdn) && (decide (a.del = b.del) && (decide (a.has = b.has) && (decide (a.sup = b.sup) && (decide (a.attr = b.attr) && (decide (a.value = b.value) && (decide (a.code = b.code) && (decide (a.matched = b.matched)))))))))))))))))))
theorem eqR_eqM (a b : Mg) : eqR a b = eqM a b:=by
 rw [Bool.eq_iff_iff, eqM_eq]
 unfold eqR
 simp only [Bool.and_eq_true, decide_eq_true_eq, eqF_eq, eqMos_eq]
 constructor
 ·rintro ⟨h1, h2, h3, h4, h5, h6, h7, h8, h9, h10, h11, h12, h13, h14, h15, h16, h17, h18, h19⟩
  cases a; cases b
  simp only at *
  subst h1 h2 h3 h4 h5 h6 h7 h8 h9 h10 h11 h12 h13 h14 h15 h16 h17 h18 h19
  rfl
 ·rintro rfl
  exact ⟨rfl, rfl, rfl, rfl, rfl, rfl, rfl, rfl, rfl, rfl, rfl, rfl, rfl, rfl, rfl, rfl, rfl, rfl, rfl⟩
set_option maxHeartbeats 16000000 in
theorem rSame_any (a b : Mg) (ca cb : Array Value) (w : World) (ha : MAt w (· < w.heap.size) a ca) (hb : MAt w (· < w.heap.size) b cb) :
  Calls Tryz.prog 16 #[.agg ca, .agg cb] w fun r w'=>r = .returned (.bool (eqM a b)) ∧ Below w.heap.size w w':=by
 have T0:=Two.new ha hb
 obtain ⟨x0, x1, x2, x3, x4, fx0, fx1, fx2, fx3, fx4, hFa⟩:=ha.gF
 obtain ⟨y0, y1, y2, y3, y4, fy0, fy1, fy2, fy3, fy4, hFb⟩:=hb.gF
 obtain ⟨Wa, wca, eWa, hWa, lWa, _, _⟩:=ha.gW
 obtain ⟨Wb, wcb, eWb, hWb, lWb, _, _⟩:=hb.gW
 obtain ⟨Ma, mca, da, eMa, hMa, lMa, _⟩:=ha.gM
 obtain ⟨Mb, mcb, db, eMb, hMb, lMb, _⟩:=hb.gM
 have HF:=fun w1 (hb1 : Below w.heap.size w w1)=>Fi.rsame_any a.fil b.fil x0 x1 x2 x3 x4 y0 y1 y2 y3 y4 w1 (hFa.past hb1) (hFb.past hb1)
 have HW:=fun w1 (hb1 : Below w.heap.size w w1)=>ralike_any a.wants b.wants Wa Wb wca wcb w1 (hWa.past hb1) (hWb.past hb1) lWa
 have HM:=fun w1 (hb1 : Below w.heap.size w w1)=>rsameMo_any a.mods b.mods Ma Mb mca mcb da db w1 (hMa.past hb1) (hMb.past hb1) lMa lMb
 have hr : eqM a b = _:=(eqR_eqM a b).symm
 unfold eqR at hr
 have hd0 : (a.id == b.id) = decide (a.id = b.id):=rfl
 generalize decide (a.id = b.id) = e0 at hd0 hr
 have hd1 : (a.op == b.op) = decide (a.op = b.op):=rfl
 generalize decide (a.op = b.op) = e1 at hd1 hr
 have hd2 : (a.ref == b.ref) = decide (a.ref = b.ref):=rfl
 generalize decide (a.ref = b.ref) = e2 at hd2 hr
 have hd3 : (a.dn.toList == b.dn.toList) = decide (a.dn = b.dn):=Fi.toList_eq _ _
 generalize decide (a.dn = b.dn) = e3 at hd3 hr
 have hd4 : (a.ver == b.ver) = decide (a.ver = b.ver):=rfl
 generalize decide (a.ver = b.ver) = e4 at hd4 hr
 have hd5 : (a.pass.toList == b.pass.toList) = decide (a.pass = b.pass):=Fi.toList_eq _ _
 generalize decide (a.pass = b.pass) = e5 at hd5 hr
 have hd6 : (a.scope == b.scope) = decide (a.scope = b.scope):=rfl
 generalize decide (a.scope = b.scope) = e6 at hd6 hr
 have hd7 : (a.size == b.size) = decide (a.size = b.size):=rfl
 generalize decide (a.size = b.size) = e7 at hd7 hr
 generalize Fi.eqF a.fil b.fil = e8 at HF hr
 generalize decide (a.wants = b.wants) = e9 at HW hr
 generalize eqMos a.mods b.mods = e10 at HM hr
 have hd11 : (a.rdn.toList == b.rdn.toList) = decide (a.rdn = b.rdn):=Fi.toList_eq _ _
 generalize decide (a.rdn = b.rdn) = e11 at hd11 hr
 generalize hd12 : decide (a.del = b.del) = e12 at hr
 generalize hd13 : decide (a.has = b.has) = e13 at hr
 have hd14 : (a.sup.toList == b.sup.toList) = decide (a.sup = b.sup):=Fi.toList_eq _ _
 generalize decide (a.sup = b.sup) = e14 at hd14 hr
 have hd15 : (a.attr.toList == b.attr.toList) = decide (a.attr = b.attr):=Fi.toList_eq _ _
 generalize decide (a.attr = b.attr) = e15 at hd15 hr
 have hd16 : (a.value.toList == b.value.toList) = decide (a.value = b.value):=Fi.toList_eq _ _
 generalize decide (a.value = b.value) = e16 at hd16 hr
 have hd17 : (a.code == b.code) = decide (a.code = b.code):=rfl
 generalize decide (a.code = b.code) = e17 at hd17 hr
 have hd18 : (a.matched.toList == b.matched.toList) = decide (a.matched = b.matched):=Fi.toList_eq _ _
 generalize decide (a.matched = b.matched) = e18 at hd18 hr
 have HR:=Lib.hid hr
 clear hr
 go_enter Tryz.func16, Tryz.ntmps16
 refine wp_seq ?_
 refine wp_region_list ?_
 refine Pl.run (pt w.heap.size 0) (w.alloc (.cells ca 28)) (by kernel_rfl) (by kernel_rfl) ?_
 refine Pl.run (pt (w.heap.size + 1) 0) ((w.alloc (.cells ca 28)).alloc (.cells cb 28)) (by kernel_rfl) (by rw [show w.heap.size + 1 = (w.alloc (.cells ca 28)).heap.size by simp]; kernel_rfl) ?_
 refine Pl.rests ⟨⟨.agg ca :: .agg cb :: pt w.heap.size 0 :: pt (w.heap.size + 1) 0 :: .bool false :: (uds 131)⟩, []⟩ (by kernel_rfl) ?_
 refine wp_seq ?_
 refine wp_region_list ?_
 simp only [List.append]
 have hT0:=T0
 refine Pl.take (.pointer (some ⟨w.heap.size, 0, none⟩)) (by kernel_rfl) (by kernel_rfl) ?_
 refine Pl.take (.int .i64 a.id) (by kernel_rfl) (run_cell rfl (by kernel_rfl) (by kernel_rfl) ((hT0.1.1.cell 0).trans ha.g0)) ?_
 refine Pl.take (.pointer (some ⟨w.heap.size + 1, 0, none⟩)) (by kernel_rfl) (by kernel_rfl) ?_
 refine Pl.take (.int .i64 b.id) (by kernel_rfl) (run_cell rfl (by kernel_rfl) (by kernel_rfl) ((hT0.2.1.1.cell 0).trans hb.g0)) ?_
 refine Pl.take (.bool e0) (by kernel_rfl) (by rw [← hd0]; kernel_rfl) ?_
 cases e0 with
 | false =>
  refine Pl.rests ⟨⟨.agg ca :: .agg cb :: pt w.heap.size 0 :: pt (w.heap.size + 1) 0 :: .bool false :: (bl w 0 (.int .i64 a.id) (.int .i64 b.id) false 2 (pads 17 ([ud, ud, ud, ud, ud, .bool false] ++ [])))⟩, []⟩ (by kernel_rfl) ?_
  refine wp_ret ?_
  exact bodyPost_ret (by kernel_rfl) rfl ⟨ret_bool HR.out.symm, hT0.2.2⟩
 | true =>
  refine Pl.idle1 ⟨⟨.agg ca :: .agg cb :: pt w.heap.size 0 :: pt (w.heap.size + 1) 0 :: .bool false :: (bl w 0 (.int .i64 a.id) (.int .i64 b.id) true 2 (uds 125))⟩, []⟩ (by kernel_rfl) ?_
  refine Pl.take (.pointer (some ⟨w.heap.size, 1, none⟩)) (by kernel_rfl) (by kernel_rfl) ?_
  refine Pl.take (.int .i64 a.op) (by kernel_rfl) (run_cell rfl (by kernel_rfl) (by kernel_rfl) ((hT0.1.1.cell 1).trans ha.g1)) ?_
  refine Pl.take (.pointer (some ⟨w.heap.size + 1, 1, none⟩)) (by kernel_rfl) (by kernel_rfl) ?_
  refine Pl.take (.int .i64 b.op) (by kernel_rfl) (run_cell rfl (by kernel_rfl) (by kernel_rfl) ((hT0.2.1.1.cell 1).trans hb.g1)) ?_
  refine Pl.take (.bool e1) (by kernel_rfl) (by rw [← hd1]; kernel_rfl) ?_
  cases e1 with
  | false =>
   refine Pl.rests ⟨⟨.agg ca :: .agg cb :: pt w.heap.size 0 :: pt (w.heap.size + 1) 0 :: .bool false :: (bl w 0 (.int .i64 a.id) (.int .i64 b.id) true 2 (bl w 1 (.int .i64 a.op) (.int .i64 b.op) false 3 (pads 16 ([ud, ud, ud, ud, ud, .bool false] ++ []))))⟩, []⟩ (by kernel_rfl) ?_
   refine wp_ret ?_
   exact bodyPost_ret (by kernel_rfl) rfl ⟨ret_bool HR.out.symm, hT0.2.2⟩
  | true =>
  refine Pl.idle2 ⟨⟨.agg ca :: .agg cb :: pt w.heap.size 0 :: pt (w.heap.size + 1) 0 :: .bool false :: (bl w 0 (.int .i64 a.id) (.int .i64 b.id) true 2 (bl w 1 (.int .i64 a.op) (.int .i64 b.op) true 3 (uds 118)))⟩, []⟩ (by kernel_rfl) ?_
  refine Pl.take (.pointer (some ⟨w.heap.size, 2, none⟩)) (by kernel_rfl) (by kernel_rfl) ?_
  refine Pl.take (.int .i64 a.ref) (by kernel_rfl) (run_cell rfl (by kernel_rfl) (by kernel_rfl) ((hT0.1.1.cell 2).trans ha.g2)) ?_
  refine Pl.take (.pointer (some ⟨w.heap.size + 1, 2, none⟩)) (by kernel_rfl) (by kernel_rfl) ?_
  refine Pl.take (.int .i64 b.ref) (by kernel_rfl) (run_cell rfl (by kernel_rfl) (by kernel_rfl) ((hT0.2.1.1.cell 2).trans hb.g2)) ?_
  refine Pl.take (.bool e2) (by kernel_rfl) (by rw [← hd2]; kernel_rfl) ?_
  cases e2 with
  | false =>
   refine Pl.rests ⟨⟨.agg ca :: .agg cb :: pt w.heap.size 0 :: pt (w.heap.size + 1) 0 :: .bool false :: (bl w 0 (.int .i64 a.id) (.int .i64 b.id) true 2 (bl w 1 (.int .i64 a.op) (.int .i64 b.op) true 3 (bl w 2 (.int .i64 a.ref) (.int .i64 b.ref) false 3 (pads 15 ([ud, ud, ud, ud, ud, .bool false] ++ [])))))⟩, []⟩ (by kernel_rfl) ?_
   refine wp_ret ?_
   exact bodyPost_ret (by kernel_rfl) rfl ⟨ret_bool HR.out.symm, hT0.2.2⟩
  | true =>
   refine Pl.idle2 ⟨⟨.agg ca :: .agg cb :: pt w.heap.size 0 :: pt (w.heap.size + 1) 0 :: .bool false :: (bl w 0 (.int .i64 a.id) (.int .i64 b.id) true 2 (bl w 1 (.int .i64 a.op) (.int .i64 b.op) true 3 (bl w 2 (.int .i64 a.ref) (.int .i64 b.ref) true 3 (uds 111))))⟩, []⟩ (by kernel_rfl) ?_
   refine Pl.take (.pointer (some ⟨w.heap.size, 3, none⟩)) (by kernel_rfl) (by kernel_rfl) ?_
   refine Pl.take (.string a.dn) (by kernel_rfl) (run_cell rfl (by kernel_rfl) (by kernel_rfl) ((hT0.1.1.cell 3).trans ha.g3)) ?_
   refine Pl.take (.pointer (some ⟨w.heap.size + 1, 3, none⟩)) (by kernel_rfl) (by kernel_rfl) ?_
   refine Pl.take (.string b.dn) (by kernel_rfl) (run_cell rfl (by kernel_rfl) (by kernel_rfl) ((hT0.2.1.1.cell 3).trans hb.g3)) ?_
   refine Pl.take (.bool e3) (by kernel_rfl) (by rw [← hd3]; kernel_rfl) ?_
   cases e3 with
   | false =>
    refine Pl.rests ⟨⟨.agg ca :: .agg cb :: pt w.heap.size 0 :: pt (w.heap.size + 1) 0 :: .bool false :: (bl w 0 (.int .i64 a.id) (.int .i64 b.id) true 2 (bl w 1 (.int .i64 a.op) (.int .i64 b.op) true 3 (bl w 2 (.int .i64 a.ref) (.int .i64 b.ref) true 3 (bl w 3 (.string a.dn) (.string b.dn) false 3 (pads 14 ([ud, ud, ud, ud, ud, .bool false] ++ []))))))⟩, []⟩ (by kernel_rfl) ?_
    refine wp_ret ?_
    exact bodyPost_ret (by kernel_rfl) rfl ⟨ret_bool HR.out.symm, hT0.2.2⟩
   | true =>
   refine Pl.idle2 ⟨⟨.agg ca :: .agg cb :: pt w.heap.size 0 :: pt (w.heap.size + 1) 0 :: .bool false :: (bl w 0 (.int .i64 a.id) (.int .i64 b.id) true 2 (bl w 1 (.int .i64 a.op) (.int .i64 b.op) true 3 (bl w 2 (.int .i64 a.ref) (.int .i64 b.ref) true 3 (bl w 3 (.string a.dn) (.string b.dn) true 3 (uds 104)))))⟩, []⟩ (by kernel_rfl) ?_
   refine Pl.take (.pointer (some ⟨w.heap.size, 4, none⟩)) (by kernel_rfl) (by kernel_rfl) ?_
   refine Pl.take (.int .i64 a.ver) (by kernel_rfl) (run_cell rfl (by kernel_rfl) (by kernel_rfl) ((hT0.1.1.cell 4).trans ha.g4)) ?_
   refine Pl.take (.pointer (some ⟨w.heap.size + 1, 4, none⟩)) (by kernel_rfl) (by kernel_rfl) ?_
   refine Pl.take (.int .i64 b.ver) (by kernel_rfl) (run_cell rfl (by kernel_rfl) (by kernel_rfl) ((hT0.2.1.1.cell 4).trans hb.g4)) ?_
   refine Pl.take (.bool e4) (by kernel_rfl) (by rw [← hd4]; kernel_rfl) ?_
   cases e4 with
   | false =>
    refine Pl.rests ⟨⟨.agg ca :: .agg cb :: pt w.heap.size 0 :: pt (w.heap.size + 1) 0 :: .bool false :: (bl w 0 (.int .i64 a.id) (.int .i64 b.id) true 2 (bl w 1 (.int .i64 a.op) (.int .i64 b.op) true 3 (bl w 2 (.int .i64 a.ref) (.int .i64 b.ref) true 3 (bl w 3 (.string a.dn) (.string b.dn) true 3 (bl w 4 (.int .i64 a.ver) (.int .i64 b.ver) false 3 (pads 13 ([ud, ud, ud, ud, ud, .bool false] ++ [])))))))⟩, []⟩ (by kernel_rfl) ?_
    refine wp_ret ?_
    exact bodyPost_ret (by kernel_rfl) rfl ⟨ret_bool HR.out.symm, hT0.2.2⟩
   | true =>
    refine Pl.idle2 ⟨⟨.agg ca :: .agg cb :: pt w.heap.size 0 :: pt (w.heap.size + 1) 0 :: .bool false :: (bl w 0 (.int .i64 a.id) (.int .i64 b.id) true 2 (bl w 1 (.int .i64 a.op) (.int .i64 b.op) true 3 (bl w 2 (.int .i64 a.ref) (.int .i64 b.ref) true 3 (bl w 3 (.string a.dn) (.string b.dn) true 3 (bl w 4 (.int .i64 a.ver) (.int .i64 b.ver) true 3 (uds 97))))))⟩, []⟩ (by kernel_rfl) ?_
    refine Pl.take (.pointer (some ⟨w.heap.size, 5, none⟩)) (by kernel_rfl) (by kernel_rfl) ?_
    refine Pl.take (.string a.pass) (by kernel_rfl) (run_cell rfl (by kernel_rfl) (by kernel_rfl) ((hT0.1.1.cell 5).trans ha.g5)) ?_
    refine Pl.take (.pointer (some ⟨w.heap.size + 1, 5, none⟩)) (by kernel_rfl) (by kernel_rfl) ?_
    refine Pl.take (.string b.pass) (by kernel_rfl) (run_cell rfl (by kernel_rfl) (by kernel_rfl) ((hT0.2.1.1.cell 5).trans hb.g5)) ?_
    refine Pl.take (.bool e5) (by kernel_rfl) (by rw [← hd5]; kernel_rfl) ?_
    cases e5 with
    | false =>
     refine Pl.rests ⟨⟨.agg ca :: .agg cb :: pt w.heap.size 0 :: pt (w.heap.size + 1) 0 :: .bool false :: (bl w 0 (.int .i64 a.id) (.int .i64 b.id) true 2 (bl w 1 (.int .i64 a.op) (.int .i64 b.op) true 3 (bl w 2 (.int .i64 a.ref) (.int .i64 b.ref) true 3 (bl w 3 (.string a.dn) (.string b.dn) true 3 (bl w 4 (.int .i64 a.ver) (.int .i64 b.ver) true 3 (bl w 5 (.string a.pass) (.string b.pass) false 3 (pads 12 ([ud, ud, ud, ud, ud, .bool false] ++ []))))))))⟩, []⟩ (by kernel_rfl) ?_
     refine wp_ret ?_
     exact bodyPost_ret (by kernel_rfl) rfl ⟨ret_bool HR.out.symm, hT0.2.2⟩
    | true =>
    refine Pl.idle2 ⟨⟨.agg ca :: .agg cb :: pt w.heap.size 0 :: pt (w.heap.size + 1) 0 :: .bool false :: (bl w 0 (.int .i64 a.id) (.int .i64 b.id) true 2 (bl w 1 (.int .i64 a.op) (.int .i64 b.op) true 3 (bl w 2 (.int .i64 a.ref) (.int .i64 b.ref) true 3 (bl w 3 (.string a.dn) (.string b.dn) true 3 (bl w 4 (.int .i64 a.ver) (.int .i64 b.ver) true 3 (bl w 5 (.string a.pass) (.string b.pass) true 3 (uds 90)))))))⟩, []⟩ (by kernel_rfl) ?_
    refine Pl.take (.pointer (some ⟨w.heap.size, 6, none⟩)) (by kernel_rfl) (by kernel_rfl) ?_
    refine Pl.take (.int .i64 a.scope) (by kernel_rfl) (run_cell rfl (by kernel_rfl) (by kernel_rfl) ((hT0.1.1.cell 6).trans ha.g6)) ?_
    refine Pl.take (.pointer (some ⟨w.heap.size + 1, 6, none⟩)) (by kernel_rfl) (by kernel_rfl) ?_
    refine Pl.take (.int .i64 b.scope) (by kernel_rfl) (run_cell rfl (by kernel_rfl) (by kernel_rfl) ((hT0.2.1.1.cell 6).trans hb.g6)) ?_
    refine Pl.take (.bool e6) (by kernel_rfl) (by rw [← hd6]; kernel_rfl) ?_
    cases e6 with
    | false =>
     refine Pl.rests ⟨⟨.agg ca :: .agg cb :: pt w.heap.size 0 :: pt (w.heap.size + 1) 0 :: .bool false :: (bl w 0 (.int .i64 a.id) (.int .i64 b.id) true 2 (bl w 1 (.int .i64 a.op) (.int .i64 b.op) true 3 (bl w 2 (.int .i64 a.ref) (.int .i64 b.ref) true 3 (bl w 3 (.string a.dn) (.string b.dn) true 3 (bl w 4 (.int .i64 a.ver) (.int .i64 b.ver) true 3 (bl w 5 (.string a.pass) (.string b.pass) true 3 (bl w 6 (.int .i64 a.scope) (.int .i64 b.scope) false 3 (pads 11 ([ud, ud, ud, ud, ud, .bool false] ++ [])))))))))⟩, []⟩ (by kernel_rfl) ?_
     refine wp_ret ?_
     exact bodyPost_ret (by kernel_rfl) rfl ⟨ret_bool HR.out.symm, hT0.2.2⟩
    | true =>
     refine Pl.idle2 ⟨⟨.agg ca :: .agg cb :: pt w.heap.size 0 :: pt (w.heap.size + 1) 0 :: .bool false :: (bl w 0 (.int .i64 a.id) (.int .i64 b.id) true 2 (bl w 1 (.int .i64 a.op) (.int .i64 b.op) true 3 (bl w 2 (.int .i64 a.ref) (.int .i64 b.ref) true 3 (bl w 3 (.string a.dn) (.string b.dn) true 3 (bl w 4 (.int .i64 a.ver) (.int .i64 b.ver) true 3 (bl w 5 (.string a.pass) (.string b.pass) true 3 (bl w 6 (.int .i64 a.scope) (.int .i64 b.scope) true 3 (uds 83))))))))⟩, []⟩ (by kernel_rfl) ?_
     refine Pl.take (.pointer (some ⟨w.heap.size, 7, none⟩)) (by kernel_rfl) (by kernel_rfl) ?_
     refine Pl.take (.int .i64 a.size) (by kernel_rfl) (run_cell rfl (by kernel_rfl) (by kernel_rfl) ((hT0.1.1.cell 7).trans ha.g7)) ?_
     refine Pl.take (.pointer (some ⟨w.heap.size + 1, 7, none⟩)) (by kernel_rfl) (by kernel_rfl) ?_
     refine Pl.take (.int .i64 b.size) (by kernel_rfl) (run_cell rfl (by kernel_rfl) (by kernel_rfl) ((hT0.2.1.1.cell 7).trans hb.g7)) ?_
     refine Pl.take (.bool e7) (by kernel_rfl) (by rw [← hd7]; kernel_rfl) ?_
     cases e7 with
     | false =>
      refine Pl.rests ⟨⟨.agg ca :: .agg cb :: pt w.heap.size 0 :: pt (w.heap.size + 1) 0 :: .bool false :: (bl w 0 (.int .i64 a.id) (.int .i64 b.id) true 2 (bl w 1 (.int .i64 a.op) (.int .i64 b.op) true 3 (bl w 2 (.int .i64 a.ref) (.int .i64 b.ref) true 3 (bl w 3 (.string a.dn) (.string b.dn) true 3 (bl w 4 (.int .i64 a.ver) (.int .i64 b.ver) true 3 (bl w 5 (.string a.pass) (.string b.pass) true 3 (bl w 6 (.int .i64 a.scope) (.int .i64 b.scope) true 3 (bl w 7 (.int .i64 a.size) (.int .i64 b.size) false 3 (pads 10 ([ud, ud, ud, ud, ud, .bool false] ++ []))))))))))⟩, []⟩ (by kernel_rfl) ?_
      refine wp_ret ?_
      exact bodyPost_ret (by kernel_rfl) rfl ⟨ret_bool HR.out.symm, hT0.2.2⟩
     | true =>
     refine Pl.idle2 ⟨⟨.agg ca :: .agg cb :: pt w.heap.size 0 :: pt (w.heap.size + 1) 0 :: .bool false :: (bl w 0 (.int .i64 a.id) (.int .i64 b.id) true 2 (bl w 1 (.int .i64 a.op) (.int .i64 b.op) true 3 (bl w 2 (.int .i64 a.ref) (.int .i64 b.ref) true 3 (bl w 3 (.string a.dn) (.string b.dn) true 3 (bl w 4 (.int .i64 a.ver) (.int .i64 b.ver) true 3 (bl w 5 (.string a.pass) (.string b.pass) true 3 (bl w 6 (.int .i64 a.scope) (.int .i64 b.scope) true 3 (bl w 7 (.int .i64 a.size) (.int .i64 b.size) true 3 (uds 76)))))))))⟩, []⟩ (by kernel_rfl) ?_
     refine Pl.take (.pointer (some ⟨w.heap.size, 8, none⟩)) (by kernel_rfl) (by kernel_rfl) ?_
     refine Pl.take (.agg #[x0, x1, x2, x3, x4]) (by kernel_rfl) (run_loadF rfl (by kernel_rfl) ((hT0.1.1.cell 8).trans fx0) ((hT0.1.1.cell 9).trans fx1) ((hT0.1.1.cell 10).trans fx2) ((hT0.1.1.cell 11).trans fx3) ((hT0.1.1.cell 12).trans fx4)) ?_
     refine Pl.take (.pointer (some ⟨w.heap.size + 1, 8, none⟩)) (by kernel_rfl) (by kernel_rfl) ?_
     refine Pl.take (.agg #[y0, y1, y2, y3, y4]) (by kernel_rfl) (run_loadF rfl (by kernel_rfl) ((hT0.2.1.1.cell 8).trans fy0) ((hT0.2.1.1.cell 9).trans fy1) ((hT0.2.1.1.cell 10).trans fy2) ((hT0.2.1.1.cell 11).trans fy3) ((hT0.2.1.1.cell 12).trans fy4)) ?_
     refine Pl.call (by kernel_rfl) 42 #[.agg #[x0, x1, x2, x3, x4], .agg #[y0, y1, y2, y3, y4]] (by kernel_rfl) (HF _ hT0.2.2) ?_
     rintro _ w1 ⟨rfl, hq1⟩
     refine ⟨_, rfl, ?_⟩
     have hT1:=hT0.past hq1
     cases e8 with
     | false =>
      refine Pl.rests ⟨⟨.agg ca :: .agg cb :: pt w.heap.size 0 :: pt (w.heap.size + 1) 0 :: .bool false :: (bl w 0 (.int .i64 a.id) (.int .i64 b.id) true 2 (bl w 1 (.int .i64 a.op) (.int .i64 b.op) true 3 (bl w 2 (.int .i64 a.ref) (.int .i64 b.ref) true 3 (bl w 3 (.string a.dn) (.string b.dn) true 3 (bl w 4 (.int .i64 a.ver) (.int .i64 b.ver) true 3 (bl w 5 (.string a.pass) (.string b.pass) true 3 (bl w 6 (.int .i64 a.scope) (.int .i64 b.scope) true 3 (bl w 7 (.int .i64 a.size) (.int .i64 b.size) true 3 (bl w 8 (.agg #[x0, x1, x2, x3, x4]) (.agg #[y0, y1, y2, y3, y4]) false 3 (pads 9 ([ud, ud, ud, ud, ud, .bool false] ++ [])))))))))))⟩, []⟩ (by kernel_rfl) ?_
      refine wp_ret ?_
      exact bodyPost_ret (by kernel_rfl) rfl ⟨ret_bool HR.out.symm, hT1.2.2⟩
     | true =>
      refine Pl.idle2 ⟨⟨.agg ca :: .agg cb :: pt w.heap.size 0 :: pt (w.heap.size + 1) 0 :: .bool false :: (bl w 0 (.int .i64 a.id) (.int .i64 b.id) true 2 (bl w 1 (.int .i64 a.op) (.int .i64 b.op) true 3 (bl w 2 (.int .i64 a.ref) (.int .i64 b.ref) true 3 (bl w 3 (.string a.dn) (.string b.dn) true 3 (bl w 4 (.int .i64 a.ver) (.int .i64 b.ver) true 3 (bl w 5 (.string a.pass) (.string b.pass) true 3 (bl w 6 (.int .i64 a.scope) (.int .i64 b.scope) true 3 (bl w 7 (.int .i64 a.size) (.int .i64 b.size) true 3 (bl w 8 (.agg #[x0, x1, x2, x3, x4]) (.agg #[y0, y1, y2, y3, y4]) true 3 (uds 69))))))))))⟩, []⟩ (by kernel_rfl) ?_
      refine Pl.take (.pointer (some ⟨w.heap.size, 13, none⟩)) (by kernel_rfl) (by kernel_rfl) ?_
      refine Pl.take (.slice Wa a.wants.length wca) (by kernel_rfl) (run_cell rfl (by kernel_rfl) (by kernel_rfl) ((hT1.1.1.cell 13).trans eWa)) ?_
      refine Pl.take (.pointer (some ⟨w.heap.size + 1, 13, none⟩)) (by kernel_rfl) (by kernel_rfl) ?_
      refine Pl.take (.slice Wb b.wants.length wcb) (by kernel_rfl) (run_cell rfl (by kernel_rfl) (by kernel_rfl) ((hT1.2.1.1.cell 13).trans eWb)) ?_
      refine Pl.call (by kernel_rfl) 43 #[.slice Wa a.wants.length wca, .slice Wb b.wants.length wcb] (by kernel_rfl) (HW _ hT1.2.2) ?_
      rintro _ w2 ⟨rfl, hq2⟩
      refine ⟨_, rfl, ?_⟩
      have hT2:=hT1.past hq2
      cases e9 with
      | false =>
       refine Pl.rests ⟨⟨.agg ca :: .agg cb :: pt w.heap.size 0 :: pt (w.heap.size + 1) 0 :: .bool false :: (bl w 0 (.int .i64 a.id) (.int .i64 b.id) true 2 (bl w 1 (.int .i64 a.op) (.int .i64 b.op) true 3 (bl w 2 (.int .i64 a.ref) (.int .i64 b.ref) true 3 (bl w 3 (.string a.dn) (.string b.dn) true 3 (bl w 4 (.int .i64 a.ver) (.int .i64 b.ver) true 3 (bl w 5 (.string a.pass) (.string b.pass) true 3 (bl w 6 (.int .i64 a.scope) (.int .i64 b.scope) true 3 (bl w 7 (.int .i64 a.size) (.int .i64 b.size) true 3 (bl w 8 (.agg #[x0, x1, x2, x3, x4]) (.agg #[y0, y1, y2, y3, y4]) true 3 (bl w 13 (.slice Wa a.wants.length wca) (.slice Wb b.wants.length wcb) false 3 (pads 8 ([ud, ud, ud, ud, ud, .bool false] ++ []))))))))))))⟩, []⟩ (by kernel_rfl) ?_
       refine wp_ret ?_
       exact bodyPost_ret (by kernel_rfl) rfl ⟨ret_bool HR.out.symm, hT2.2.2⟩
      | true =>
      refine Pl.idle2 ⟨⟨.agg ca :: .agg cb :: pt w.heap.size 0 :: pt (w.heap.size + 1) 0 :: .bool false :: (bl w 0 (.int .i64 a.id) (.int .i64 b.id) true 2 (bl w 1 (.int .i64 a.op) (.int .i64 b.op) true 3 (bl w 2 (.int .i64 a.ref) (.int .i64 b.ref) true 3 (bl w 3 (.string a.dn) (.string b.dn) true 3 (bl w 4 (.int .i64 a.ver) (.int .i64 b.ver) true 3 (bl w 5 (.string a.pass) (.string b.pass) true 3 (bl w 6 (.int .i64 a.scope) (.int .i64 b.scope) true 3 (bl w 7 (.int .i64 a.size) (.int .i64 b.size) true 3 (bl w 8 (.agg #[x0, x1, x2, x3, x4]) (.agg #[y0, y1, y2, y3, y4]) true 3 (bl w 13 (.slice Wa a.wants.length wca) (.slice Wb b.wants.length wcb) true 3 (uds 62)))))))))))⟩, []⟩ (by kernel_rfl) ?_
      refine Pl.take (.pointer (some ⟨w.heap.size, 14, none⟩)) (by kernel_rfl) (by kernel_rfl) ?_
      refine Pl.take (.slice Ma a.mods.length mca) (by kernel_rfl) (run_cell rfl (by kernel_rfl) (by kernel_rfl) ((hT2.1.1.cell 14).trans eMa)) ?_
      refine Pl.take (.pointer (some ⟨w.heap.size + 1, 14, none⟩)) (by kernel_rfl) (by kernel_rfl) ?_
      refine Pl.take (.slice Mb b.mods.length mcb) (by kernel_rfl) (run_cell rfl (by kernel_rfl) (by kernel_rfl) ((hT2.2.1.1.cell 14).trans eMb)) ?_
      refine Pl.call (by kernel_rfl) 44 #[.slice Ma a.mods.length mca, .slice Mb b.mods.length mcb] (by kernel_rfl) (HM _ hT2.2.2) ?_
      rintro _ w3 ⟨rfl, hq3⟩
      refine ⟨_, rfl, ?_⟩
      have hT3:=hT2.past hq3
      cases e10 with
      | false =>
       refine Pl.rests ⟨⟨.agg ca :: .agg cb :: pt w.heap.size 0 :: pt (w.heap.size + 1) 0 :: .bool false :: (bl w 0 (.int .i64 a.id) (.int .i64 b.id) true 2 (bl w 1 (.int .i64 a.op) (.int .i64 b.op) true 3 (bl w 2 (.int .i64 a.ref) (.int .i64 b.ref) true 3 (bl w 3 (.string a.dn) (.string b.dn) true 3 (bl w 4 (.int .i64 a.ver) (.int .i64 b.ver) true 3 (bl w 5 (.string a.pass) (.string b.pass) true 3 (bl w 6 (.int .i64 a.scope) (.int .i64 b.scope) true 3 (bl w 7 (.int .i64 a.size) (.int .i64 b.size) true 3 (bl w 8 (.agg #[x0, x1, x2, x3, x4]) (.agg #[y0, y1, y2, y3, y4]) true 3 (bl w 13 (.slice Wa a.wants.length wca) (.slice Wb b.wants.length wcb) true 3 (bl w 14 (.slice Ma a.mods.length mca) (.slice Mb b.mods.length mcb) false 3 (pads 7 ([ud, ud, ud, ud, ud, .bool false] ++ [])))))))))))))⟩, []⟩ (by kernel_rfl) ?_
       refine wp_ret ?_
       exact bodyPost_ret (by kernel_rfl) rfl ⟨ret_bool HR.out.symm, hT3.2.2⟩
      | true =>
       refine Pl.idle2 ⟨⟨.agg ca :: .agg cb :: pt w.heap.size 0 :: pt (w.heap.size + 1) 0 :: .bool false :: (bl w 0 (.int .i64 a.id) (.int .i64 b.id) true 2 (bl w 1 (.int .i64 a.op) (.int .i64 b.op) true 3 (bl w 2 (.int .i64 a.ref) (.int .i64 b.ref) true 3 (bl w 3 (.string a.dn) (.string b.dn) true 3 (bl w 4 (.int .i64 a.ver) (.int .i64 b.ver) true 3 (bl w 5 (.string a.pass) (.string b.pass) true 3 (bl w 6 (.int .i64 a.scope) (.int .i64 b.scope) true 3 (bl w 7 (.int .i64 a.size) (.int .i64 b.size) true 3 (bl w 8 (.agg #[x0, x1, x2, x3, x4]) (.agg #[y0, y1, y2, y3, y4]) true 3 (bl w 13 (.slice Wa a.wants.length wca) (.slice Wb b.wants.length wcb) true 3 (bl w 14 (.slice Ma a.mods.length mca) (.slice Mb b.mods.length mcb) true 3 (uds 55))))))))))))⟩, []⟩ (by kernel_rfl) ?_
       refine Pl.take (.pointer (some ⟨w.heap.size, 15, none⟩)) (by kernel_rfl) (by kernel_rfl) ?_
       refine Pl.take (.string a.rdn) (by kernel_rfl) (run_cell rfl (by kernel_rfl) (by kernel_rfl) ((hT3.1.1.cell 15).trans ha.g15)) ?_
       refine Pl.take (.pointer (some ⟨w.heap.size + 1, 15, none⟩)) (by kernel_rfl) (by kernel_rfl) ?_
       refine Pl.take (.string b.rdn) (by kernel_rfl) (run_cell rfl (by kernel_rfl) (by kernel_rfl) ((hT3.2.1.1.cell 15).trans hb.g15)) ?_
       refine Pl.take (.bool e11) (by kernel_rfl) (by rw [← hd11]; kernel_rfl) ?_
       cases e11 with
       | false =>
        refine Pl.rests ⟨⟨.agg ca :: .agg cb :: pt w.heap.size 0 :: pt (w.heap.size + 1) 0 :: .bool false :: (bl w 0 (.int .i64 a.id) (.int .i64 b.id) true 2 (bl w 1 (.int .i64 a.op) (.int .i64 b.op) true 3 (bl w 2 (.int .i64 a.ref) (.int .i64 b.ref) true 3 (bl w 3 (.string a.dn) (.string b.dn) true 3 (bl w 4 (.int .i64 a.ver) (.int .i64 b.ver) true 3 (bl w 5 (.string a.pass) (.string b.pass) true 3 (bl w 6 (.int .i64 a.scope) (.int .i64 b.scope) true 3 (bl w 7 (.int .i64 a.size) (.int .i64 b.size) true 3 (bl w 8 (.agg #[x0, x1, x2, x3, x4]) (.agg #[y0, y1, y2, y3, y4]) true 3 (bl w 13 (.slice Wa a.wants.length wca) (.slice Wb b.wants.length wcb) true 3 (bl w 14 (.slice Ma a.mods.length mca) (.slice Mb b.mods.length mcb) true 3 (bl w 15 (.string a.rdn) (.string b.rdn) false 3 (pads 6 ([ud, ud, ud, ud, ud, .bool false] ++ []))))))))))))))⟩, []⟩ (by kernel_rfl) ?_
        refine wp_ret ?_
        exact bodyPost_ret (by kernel_rfl) rfl ⟨ret_bool HR.out.symm, hT3.2.2⟩
       | true =>
       refine Pl.idle2 ⟨⟨.agg ca :: .agg cb :: pt w.heap.size 0 :: pt (w.heap.size + 1) 0 :: .bool false :: (bl w 0 (.int .i64 a.id) (.int .i64 b.id) true 2 (bl w 1 (.int .i64 a.op) (.int .i64 b.op) true 3 (bl w 2 (.int .i64 a.ref) (.int .i64 b.ref) true 3 (bl w 3 (.string a.dn) (.string b.dn) true 3 (bl w 4 (.int .i64 a.ver) (.int .i64 b.ver) true 3 (bl w 5 (.string a.pass) (.string b.pass) true 3 (bl w 6 (.int .i64 a.scope) (.int .i64 b.scope) true 3 (bl w 7 (.int .i64 a.size) (.int .i64 b.size) true 3 (bl w 8 (.agg #[x0, x1, x2, x3, x4]) (.agg #[y0, y1, y2, y3, y4]) true 3 (bl w 13 (.slice Wa a.wants.length wca) (.slice Wb b.wants.length wcb) true 3 (bl w 14 (.slice Ma a.mods.length mca) (.slice Mb b.mods.length mcb) true 3 (bl w 15 (.string a.rdn) (.string b.rdn) true 3 (uds 48)))))))))))))⟩, []⟩ (by kernel_rfl) ?_
       refine Pl.take (.pointer (some ⟨w.heap.size, 16, none⟩)) (by kernel_rfl) (by kernel_rfl) ?_
       refine Pl.take (.bool a.del) (by kernel_rfl) (run_cell rfl (by kernel_rfl) (by kernel_rfl) ((hT3.1.1.cell 16).trans ha.g16)) ?_
       refine Pl.take (.pointer (some ⟨w.heap.size + 1, 16, none⟩)) (by kernel_rfl) (by kernel_rfl) ?_
       refine Pl.take (.bool b.del) (by kernel_rfl) (run_cell rfl (by kernel_rfl) (by kernel_rfl) ((hT3.2.1.1.cell 16).trans hb.g16)) ?_
       refine Pl.take (.bool e12) (by kernel_rfl) (by rw [← hd12]; generalize a.del = p; generalize b.del = q; cases p <;> cases q <;> kernel_rfl) ?_
       cases e12 with
       | false =>
        refine Pl.rests ⟨⟨.agg ca :: .agg cb :: pt w.heap.size 0 :: pt (w.heap.size + 1) 0 :: .bool false :: (bl w 0 (.int .i64 a.id) (.int .i64 b.id) true 2 (bl w 1 (.int .i64 a.op) (.int .i64 b.op) true 3 (bl w 2 (.int .i64 a.ref) (.int .i64 b.ref) true 3 (bl w 3 (.string a.dn) (.string b.dn) true 3 (bl w 4 (.int .i64 a.ver) (.int .i64 b.ver) true 3 (bl w 5 (.string a.pass) (.string b.pass) true 3 (bl w 6 (.int .i64 a.scope) (.int .i64 b.scope) true 3 (bl w 7 (.int .i64 a.size) (.int .i64 b.size) true 3 (bl w 8 (.agg #[x0, x1, x2, x3, x4]) (.agg #[y0, y1, y2, y3, y4]) true 3 (bl w 13 (.slice Wa a.wants.length wca) (.slice Wb b.wants.length wcb) true 3 (bl w 14 (.slice Ma a.mods.length mca) (.slice Mb b.mods.length mcb) true 3 (bl w 15 (.string a.rdn) (.string b.rdn) true 3 (bl w 16 (.bool a.del) (.bool b.del) false 3 (pads 5 ([ud, ud, ud, ud, ud, .bool false] ++ [])))))))))))))))⟩, []⟩ (by kernel_rfl) ?_
        refine wp_ret ?_
        exact bodyPost_ret (by kernel_rfl) rfl ⟨ret_bool HR.out.symm, hT3.2.2⟩
       | true =>
        refine Pl.idle2 ⟨⟨.agg ca :: .agg cb :: pt w.heap.size 0 :: pt (w.heap.size + 1) 0 :: .bool false :: (bl w 0 (.int .i64 a.id) (.int .i64 b.id) true 2 (bl w 1 (.int .i64 a.op) (.int .i64 b.op) true 3 (bl w 2 (.int .i64 a.ref) (.int .i64 b.ref) true 3 (bl w 3 (.string a.dn) (.string b.dn) true 3 (bl w 4 (.int .i64 a.ver) (.int .i64 b.ver) true 3 (bl w 5 (.string a.pass) (.string b.pass) true 3 (bl w 6 (.int .i64 a.scope) (.int .i64 b.scope) true 3 (bl w 7 (.int .i64 a.size) (.int .i64 b.size) true 3 (bl w 8 (.agg #[x0, x1, x2, x3, x4]) (.agg #[y0, y1, y2, y3, y4]) true 3 (bl w 13 (.slice Wa a.wants.length wca) (.slice Wb b.wants.length wcb) true 3 (bl w 14 (.slice Ma a.mods.length mca) (.slice Mb b.mods.length mcb) true 3 (bl w 15 (.string a.rdn) (.string b.rdn) true 3 (bl w 16 (.bool a.del) (.bool b.del) true 3 (uds 41))))))))))))))⟩, []⟩ (by kernel_rfl) ?_
        refine Pl.take (.pointer (some ⟨w.heap.size, 17, none⟩)) (by kernel_rfl) (by kernel_rfl) ?_
        refine Pl.take (.bool a.has) (by kernel_rfl) (run_cell rfl (by kernel_rfl) (by kernel_rfl) ((hT3.1.1.cell 17).trans ha.g17)) ?_
        refine Pl.take (.pointer (some ⟨w.heap.size + 1, 17, none⟩)) (by kernel_rfl) (by kernel_rfl) ?_
        refine Pl.take (.bool b.has) (by kernel_rfl) (run_cell rfl (by kernel_rfl) (by kernel_rfl) ((hT3.2.1.1.cell 17).trans hb.g17)) ?_
        refine Pl.take (.bool e13) (by kernel_rfl) (by rw [← hd13]; generalize a.has = p; generalize b.has = q; cases p <;> cases q <;> kernel_rfl) ?_
        cases e13 with
        | false =>
         refine Pl.rests ⟨⟨.agg ca :: .agg cb :: pt w.heap.size 0 :: pt (w.heap.size + 1) 0 :: .bool false :: (bl w 0 (.int .i64 a.id) (.int .i64 b.id) true 2 (bl w 1 (.int .i64 a.op) (.int .i64 b.op) true 3 (bl w 2 (.int .i64 a.ref) (.int .i64 b.ref) true 3 (bl w 3 (.string a.dn) (.string b.dn) true 3 (bl w 4 (.int .i64 a.ver) (.int .i64 b.ver) true 3 (bl w 5 (.string a.pass) (.string b.pass) true 3 (bl w 6 (.int .i64 a.scope) (.int .i64 b.scope) true 3 (bl w 7 (.int .i64 a.size) (.int .i64 b.size) true 3 (bl w 8 (.agg #[x0, x1, x2, x3, x4]) (.agg #[y0, y1, y2, y3, y4]) true 3 (bl w 13 (.slice Wa a.wants.length wca) (.slice Wb b.wants.length wcb) true 3 (bl w 14 (.slice Ma a.mods.length mca) (.slice Mb b.mods.length mcb) true 3 (bl w 15 (.string a.rdn) (.string b.rdn) true 3 (bl w 16 (.bool a.del) (.bool b.del) true 3 (bl w 17 (.bool a.has) (.bool b.has) false 3 (pads 4 ([ud, ud, ud, ud, ud, .bool false] ++ []))))))))))))))))⟩, []⟩ (by kernel_rfl) ?_
         refine wp_ret ?_
         exact bodyPost_ret (by kernel_rfl) rfl ⟨ret_bool HR.out.symm, hT3.2.2⟩
        | true =>
        refine Pl.idle2 ⟨⟨.agg ca :: .agg cb :: pt w.heap.size 0 :: pt (w.heap.size + 1) 0 :: .bool false :: (bl w 0 (.int .i64 a.id) (.int .i64 b.id) true 2 (bl w 1 (.int .i64 a.op) (.int .i64 b.op) true 3 (bl w 2 (.int .i64 a.ref) (.int .i64 b.ref) true 3 (bl w 3 (.string a.dn) (.string b.dn) true 3 (bl w 4 (.int .i64 a.ver) (.int .i64 b.ver) true 3 (bl w 5 (.string a.pass) (.string b.pass) true 3 (bl w 6 (.int .i64 a.scope) (.int .i64 b.scope) true 3 (bl w 7 (.int .i64 a.size) (.int .i64 b.size) true 3 (bl w 8 (.agg #[x0, x1, x2, x3, x4]) (.agg #[y0, y1, y2, y3, y4]) true 3 (bl w 13 (.slice Wa a.wants.length wca) (.slice Wb b.wants.length wcb) true 3 (bl w 14 (.slice Ma a.mods.length mca) (.slice Mb b.mods.length mcb) true 3 (bl w 15 (.string a.rdn) (.string b.rdn) true 3 (bl w 16 (.bool a.del) (.bool b.del) true 3 (bl w 17 (.bool a.has) (.bool b.has) true 3 (uds 34)))))))))))))))⟩, []⟩ (by kernel_rfl) ?_
        refine Pl.take (.pointer (some ⟨w.heap.size, 18, none⟩)) (by kernel_rfl) (by kernel_rfl) ?_
        refine Pl.take (.string a.sup) (by kernel_rfl) (run_cell rfl (by kernel_rfl) (by kernel_rfl) ((hT3.1.1.cell 18).trans ha.g18)) ?_
        refine Pl.take (.pointer (some ⟨w.heap.size + 1, 18, none⟩)) (by kernel_rfl) (by kernel_rfl) ?_
        refine Pl.take (.string b.sup) (by kernel_rfl) (run_cell rfl (by kernel_rfl) (by kernel_rfl) ((hT3.2.1.1.cell 18).trans hb.g18)) ?_
        refine Pl.take (.bool e14) (by kernel_rfl) (by rw [← hd14]; kernel_rfl) ?_
        cases e14 with
        | false =>
         refine Pl.rests ⟨⟨.agg ca :: .agg cb :: pt w.heap.size 0 :: pt (w.heap.size + 1) 0 :: .bool false :: (bl w 0 (.int .i64 a.id) (.int .i64 b.id) true 2 (bl w 1 (.int .i64 a.op) (.int .i64 b.op) true 3 (bl w 2 (.int .i64 a.ref) (.int .i64 b.ref) true 3 (bl w 3 (.string a.dn) (.string b.dn) true 3 (bl w 4 (.int .i64 a.ver) (.int .i64 b.ver) true 3 (bl w 5 (.string a.pass) (.string b.pass) true 3 (bl w 6 (.int .i64 a.scope) (.int .i64 b.scope) true 3 (bl w 7 (.int .i64 a.size) (.int .i64 b.size) true 3 (bl w 8 (.agg #[x0, x1, x2, x3, x4]) (.agg #[y0, y1, y2, y3, y4]) true 3 (bl w 13 (.slice Wa a.wants.length wca) (.slice Wb b.wants.length wcb) true 3 (bl w 14 (.slice Ma a.mods.length mca) (.slice Mb b.mods.length mcb) true 3 (bl w 15 (.string a.rdn) (.string b.rdn) true 3 (bl w 16 (.bool a.del) (.bool b.del) true 3 (bl w 17 (.bool a.has) (.bool b.has) true 3 (bl w 18 (.string a.sup) (.string b.sup) false 3 (pads 3 ([ud, ud, ud, ud, ud, .bool false] ++ [])))))))))))))))))⟩, []⟩ (by kernel_rfl) ?_
         refine wp_ret ?_
         exact bodyPost_ret (by kernel_rfl) rfl ⟨ret_bool HR.out.symm, hT3.2.2⟩
        | true =>
         refine Pl.idle2 ⟨⟨.agg ca :: .agg cb :: pt w.heap.size 0 :: pt (w.heap.size + 1) 0 :: .bool false :: (bl w 0 (.int .i64 a.id) (.int .i64 b.id) true 2 (bl w 1 (.int .i64 a.op) (.int .i64 b.op) true 3 (bl w 2 (.int .i64 a.ref) (.int .i64 b.ref) true 3 (bl w 3 (.string a.dn) (.string b.dn) true 3 (bl w 4 (.int .i64 a.ver) (.int .i64 b.ver) true 3 (bl w 5 (.string a.pass) (.string b.pass) true 3 (bl w 6 (.int .i64 a.scope) (.int .i64 b.scope) true 3 (bl w 7 (.int .i64 a.size) (.int .i64 b.size) true 3 (bl w 8 (.agg #[x0, x1, x2, x3, x4]) (.agg #[y0, y1, y2, y3, y4]) true 3 (bl w 13 (.slice Wa a.wants.length wca) (.slice Wb b.wants.length wcb) true 3 (bl w 14 (.slice Ma a.mods.length mca) (.slice Mb b.mods.length mcb) true 3 (bl w 15 (.string a.rdn) (.string b.rdn) true 3 (bl w 16 (.bool a.del) (.bool b.del) true 3 (bl w 17 (.bool a.has) (.bool b.has) true 3 (bl w 18 (.string a.sup) (.string b.sup) true 3 (uds 27))))))))))))))))⟩, []⟩ (by kernel_rfl) ?_
         refine Pl.take (.pointer (some ⟨w.heap.size, 19, none⟩)) (by kernel_rfl) (by kernel_rfl) ?_
         refine Pl.take (.string a.attr) (by kernel_rfl) (run_cell rfl (by kernel_rfl) (by kernel_rfl) ((hT3.1.1.cell 19).trans ha.g19)) ?_
         refine Pl.take (.pointer (some ⟨w.heap.size + 1, 19, none⟩)) (by kernel_rfl) (by kernel_rfl) ?_
         refine Pl.take (.string b.attr) (by kernel_rfl) (run_cell rfl (by kernel_rfl) (by kernel_rfl) ((hT3.2.1.1.cell 19).trans hb.g19)) ?_
         refine Pl.take (.bool e15) (by kernel_rfl) (by rw [← hd15]; kernel_rfl) ?_
         cases e15 with
         | false =>
          refine Pl.rests ⟨⟨.agg ca :: .agg cb :: pt w.heap.size 0 :: pt (w.heap.size + 1) 0 :: .bool false :: (bl w 0 (.int .i64 a.id) (.int .i64 b.id) true 2 (bl w 1 (.int .i64 a.op) (.int .i64 b.op) true 3 (bl w 2 (.int .i64 a.ref) (.int .i64 b.ref) true 3 (bl w 3 (.string a.dn) (.string b.dn) true 3 (bl w 4 (.int .i64 a.ver) (.int .i64 b.ver) true 3 (bl w 5 (.string a.pass) (.string b.pass) true 3 (bl w 6 (.int .i64 a.scope) (.int .i64 b.scope) true 3 (bl w 7 (.int .i64 a.size) (.int .i64 b.size) true 3 (bl w 8 (.agg #[x0, x1, x2, x3, x4]) (.agg #[y0, y1, y2, y3, y4]) true 3 (bl w 13 (.slice Wa a.wants.length wca) (.slice Wb b.wants.length wcb) true 3 (bl w 14 (.slice Ma a.mods.length mca) (.slice Mb b.mods.length mcb) true 3 (bl w 15 (.string a.rdn) (.string b.rdn) true 3 (bl w 16 (.bool a.del) (.bool b.del) true 3 (bl w 17 (.bool a.has) (.bool b.has) true 3 (bl w 18 (.string a.sup) (.string b.sup) true 3 (bl w 19 (.string a.attr) (.string b.attr) false 3 (pads 2 ([ud, ud, ud, ud, ud, .bool false] ++ []))))))))))))))))))⟩, []⟩ (by kernel_rfl) ?_
          refine wp_ret ?_
          exact bodyPost_ret (by kernel_rfl) rfl ⟨ret_bool HR.out.symm, hT3.2.2⟩
         | true =>
         refine Pl.idle2 ⟨⟨.agg ca :: .agg cb :: pt w.heap.size 0 :: pt (w.heap.size + 1) 0 :: .bool false :: (bl w 0 (.int .i64 a.id) (.int .i64 b.id) true 2 (bl w 1 (.int .i64 a.op) (.int .i64 b.op) true 3 (bl w 2 (.int .i64 a.ref) (.int .i64 b.ref) true 3 (bl w 3 (.string a.dn) (.string b.dn) true 3 (bl w 4 (.int .i64 a.ver) (.int .i64 b.ver) true 3 (bl w 5 (.string a.pass) (.string b.pass) true 3 (bl w 6 (.int .i64 a.scope) (.int .i64 b.scope) true 3 (bl w 7 (.int .i64 a.size) (.int .i64 b.size) true 3 (bl w 8 (.agg #[x0, x1, x2, x3, x4]) (.agg #[y0, y1, y2, y3, y4]) true 3 (bl w 13 (.slice Wa a.wants.length wca) (.slice Wb b.wants.length wcb) true 3 (bl w 14 (.slice Ma a.mods.length mca) (.slice Mb b.mods.length mcb) true 3 (bl w 15 (.string a.rdn) (.string b.rdn) true 3 (bl w 16 (.bool a.del) (.bool b.del) true 3 (bl w 17 (.bool a.has) (.bool b.has) true 3 (bl w 18 (.string a.sup) (.string b.sup) true 3 (bl w 19 (.string a.attr) (.string b.attr) true 3 (uds 20)))))))))))))))))⟩, []⟩ (by kernel_rfl) ?_
         refine Pl.take (.pointer (some ⟨w.heap.size, 20, none⟩)) (by kernel_rfl) (by kernel_rfl) ?_
         refine Pl.take (.string a.value) (by kernel_rfl) (run_cell rfl (by kernel_rfl) (by kernel_rfl) ((hT3.1.1.cell 20).trans ha.g20)) ?_
         refine Pl.take (.pointer (some ⟨w.heap.size + 1, 20, none⟩)) (by kernel_rfl) (by kernel_rfl) ?_
         refine Pl.take (.string b.value) (by kernel_rfl) (run_cell rfl (by kernel_rfl) (by kernel_rfl) ((hT3.2.1.1.cell 20).trans hb.g20)) ?_
         refine Pl.take (.bool e16) (by kernel_rfl) (by rw [← hd16]; kernel_rfl) ?_
         cases e16 with
         | false =>
          refine Pl.rests ⟨⟨.agg ca :: .agg cb :: pt w.heap.size 0 :: pt (w.heap.size + 1) 0 :: .bool false :: (bl w 0 (.int .i64 a.id) (.int .i64 b.id) true 2 (bl w 1 (.int .i64 a.op) (.int .i64 b.op) true 3 (bl w 2 (.int .i64 a.ref) (.int .i64 b.ref) true 3 (bl w 3 (.string a.dn) (.string b.dn) true 3 (bl w 4 (.int .i64 a.ver) (.int .i64 b.ver) true 3 (bl w 5 (.string a.pass) (.string b.pass) true 3 (bl w 6 (.int .i64 a.scope) (.int .i64 b.scope) true 3 (bl w 7 (.int .i64 a.size) (.int .i64 b.size) true 3 (bl w 8 (.agg #[x0, x1, x2, x3, x4]) (.agg #[y0, y1, y2, y3, y4]) true 3 (bl w 13 (.slice Wa a.wants.length wca) (.slice Wb b.wants.length wcb) true 3 (bl w 14 (.slice Ma a.mods.length mca) (.slice Mb b.mods.length mcb) true 3 (bl w 15 (.string a.rdn) (.string b.rdn) true 3 (bl w 16 (.bool a.del) (.bool b.del) true 3 (bl w 17 (.bool a.has) (.bool b.has) true 3 (bl w 18 (.string a.sup) (.string b.sup) true 3 (bl w 19 (.string a.attr) (.string b.attr) true 3 (bl w 20 (.string a.value) (.string b.value) false 3 (pads 1 ([ud, ud, ud, ud, ud, .bool false] ++ [])))))))))))))))))))⟩, []⟩ (by kernel_rfl) ?_
          refine wp_ret ?_
          exact bodyPost_ret (by kernel_rfl) rfl ⟨ret_bool HR.out.symm, hT3.2.2⟩
         | true =>
          refine Pl.idle2 ⟨⟨.agg ca :: .agg cb :: pt w.heap.size 0 :: pt (w.heap.size + 1) 0 :: .bool false :: (bl w 0 (.int .i64 a.id) (.int .i64 b.id) true 2 (bl w 1 (.int .i64 a.op) (.int .i64 b.op) true 3 (bl w 2 (.int .i64 a.ref) (.int .i64 b.ref) true 3 (bl w 3 (.string a.dn) (.string b.dn) true 3 (bl w 4 (.int .i64 a.ver) (.int .i64 b.ver) true 3 (bl w 5 (.string a.pass) (.string b.pass) true 3 (bl w 6 (.int .i64 a.scope) (.int .i64 b.scope) true 3 (bl w 7 (.int .i64 a.size) (.int .i64 b.size) true 3 (bl w 8 (.agg #[x0, x1, x2, x3, x4]) (.agg #[y0, y1, y2, y3, y4]) true 3 (bl w 13 (.slice Wa a.wants.length wca) (.slice Wb b.wants.length wcb) true 3 (bl w 14 (.slice Ma a.mods.length mca) (.slice Mb b.mods.length mcb) true 3 (bl w 15 (.string a.rdn) (.string b.rdn) true 3 (bl w 16 (.bool a.del) (.bool b.del) true 3 (bl w 17 (.bool a.has) (.bool b.has) true 3 (bl w 18 (.string a.sup) (.string b.sup) true 3 (bl w 19 (.string a.attr) (.string b.attr) true 3 (bl w 20 (.string a.value) (.string b.value) true 3 (uds 13))))))))))))))))))⟩, []⟩ (by kernel_rfl) ?_
          refine Pl.take (.pointer (some ⟨w.heap.size, 21, none⟩)) (by kernel_rfl) (by kernel_rfl) ?_
          refine Pl.take (.int .i64 a.code) (by kernel_rfl) (run_cell rfl (by kernel_rfl) (by kernel_rfl) ((hT3.1.1.cell 21).trans ha.g21)) ?_
          refine Pl.take (.pointer (some ⟨w.heap.size + 1, 21, none⟩)) (by kernel_rfl) (by kernel_rfl) ?_
          refine Pl.take (.int .i64 b.code) (by kernel_rfl) (run_cell rfl (by kernel_rfl) (by kernel_rfl) ((hT3.2.1.1.cell 21).trans hb.g21)) ?_
          refine Pl.take (.bool e17) (by kernel_rfl) (by rw [← hd17]; kernel_rfl) ?_
          cases e17 with
          | false =>
           refine Pl.rests ⟨⟨.agg ca :: .agg cb :: pt w.heap.size 0 :: pt (w.heap.size + 1) 0 :: .bool false :: (bl w 0 (.int .i64 a.id) (.int .i64 b.id) true 2 (bl w 1 (.int .i64 a.op) (.int .i64 b.op) true 3 (bl w 2 (.int .i64 a.ref) (.int .i64 b.ref) true 3 (bl w 3 (.string a.dn) (.string b.dn) true 3 (bl w 4 (.int .i64 a.ver) (.int .i64 b.ver) true 3 (bl w 5 (.string a.pass) (.string b.pass) true 3 (bl w 6 (.int .i64 a.scope) (.int .i64 b.scope) true 3 (bl w 7 (.int .i64 a.size) (.int .i64 b.size) true 3 (bl w 8 (.agg #[x0, x1, x2, x3, x4]) (.agg #[y0, y1, y2, y3, y4]) true 3 (bl w 13 (.slice Wa a.wants.length wca) (.slice Wb b.wants.length wcb) true 3 (bl w 14 (.slice Ma a.mods.length mca) (.slice Mb b.mods.length mcb) true 3 (bl w 15 (.string a.rdn) (.string b.rdn) true 3 (bl w 16 (.bool a.del) (.bool b.del) true 3 (bl w 17 (.bool a.has) (.bool b.has) true 3 (bl w 18 (.string a.sup) (.string b.sup) true 3 (bl w 19 (.string a.attr) (.string b.attr) true 3 (bl w 20 (.string a.value) (.string b.value) true 3 (bl w 21 (.int .i64 a.code) (.int .i64 b.code) false 3 ([ud, ud, ud, ud, ud, .bool false] ++ [])))))))))))))))))))⟩, []⟩ (by kernel_rfl) ?_
           refine wp_ret ?_
           exact bodyPost_ret (by kernel_rfl) rfl ⟨ret_bool HR.out.symm, hT3.2.2⟩
          | true =>
          refine Pl.idle2 ⟨⟨.agg ca :: .agg cb :: pt w.heap.size 0 :: pt (w.heap.size + 1) 0 :: .bool false :: (bl w 0 (.int .i64 a.id) (.int .i64 b.id) true 2 (bl w 1 (.int .i64 a.op) (.int .i64 b.op) true 3 (bl w 2 (.int .i64 a.ref) (.int .i64 b.ref) true 3 (bl w 3 (.string a.dn) (.string b.dn) true 3 (bl w 4 (.int .i64 a.ver) (.int .i64 b.ver) true 3 (bl w 5 (.string a.pass) (.string b.pass) true 3 (bl w 6 (.int .i64 a.scope) (.int .i64 b.scope) true 3 (bl w 7 (.int .i64 a.size) (.int .i64 b.size) true 3 (bl w 8 (.agg #[x0, x1, x2, x3, x4]) (.agg #[y0, y1, y2, y3, y4]) true 3 (bl w 13 (.slice Wa a.wants.length wca) (.slice Wb b.wants.length wcb) true 3 (bl w 14 (.slice Ma a.mods.length mca) (.slice Mb b.mods.length mcb) true 3 (bl w 15 (.string a.rdn) (.string b.rdn) true 3 (bl w 16 (.bool a.del) (.bool b.del) true 3 (bl w 17 (.bool a.has) (.bool b.has) true 3 (bl w 18 (.string a.sup) (.string b.sup) true 3 (bl w 19 (.string a.attr) (.string b.attr) true 3 (bl w 20 (.string a.value) (.string b.value) true 3 (bl w 21 (.int .i64 a.code) (.int .i64 b.code) true 3 (uds 6)))))))))))))))))))⟩, []⟩ (by kernel_rfl) ?_
          refine Pl.take (.pointer (some ⟨w.heap.size, 22, none⟩)) (by kernel_rfl) (by kernel_rfl) ?_
          refine Pl.take (.string a.matched) (by kernel_rfl) (run_cell rfl (by kernel_rfl) (by kernel_rfl) ((hT3.1.1.cell 22).trans ha.g22)) ?_
          refine Pl.take (.pointer (some ⟨w.heap.size + 1, 22, none⟩)) (by kernel_rfl) (by kernel_rfl) ?_
          refine Pl.take (.string b.matched) (by kernel_rfl) (run_cell rfl (by kernel_rfl) (by kernel_rfl) ((hT3.2.1.1.cell 22).trans hb.g22)) ?_
          refine Pl.take (.bool e18) (by kernel_rfl) (by rw [← hd18]; kernel_rfl) ?_
          refine Pl.rests ⟨⟨.agg ca :: .agg cb :: pt w.heap.size 0 :: pt (w.heap.size + 1) 0 :: .bool e18 :: (bl w 0 (.int .i64 a.id) (.int .i64 b.id) true 2 (bl w 1 (.int .i64 a.op) (.int .i64 b.op) true 3 (bl w 2 (.int .i64 a.ref) (.int .i64 b.ref) true 3 (bl w 3 (.string a.dn) (.string b.dn) true 3 (bl w 4 (.int .i64 a.ver) (.int .i64 b.ver) true 3 (bl w 5 (.string a.pass) (.string b.pass) true 3 (bl w 6 (.int .i64 a.scope) (.int .i64 b.scope) true 3 (bl w 7 (.int .i64 a.size) (.int .i64 b.size) true 3 (bl w 8 (.agg #[x0, x1, x2, x3, x4]) (.agg #[y0, y1, y2, y3, y4]) true 3 (bl w 13 (.slice Wa a.wants.length wca) (.slice Wb b.wants.length wcb) true 3 (bl w 14 (.slice Ma a.mods.length mca) (.slice Mb b.mods.length mcb) true 3 (bl w 15 (.string a.rdn) (.string b.rdn) true 3 (bl w 16 (.bool a.del) (.bool b.del) true 3 (bl w 17 (.bool a.has) (.bool b.has) true 3 (bl w 18 (.string a.sup) (.string b.sup) true 3 (bl w 19 (.string a.attr) (.string b.attr) true 3 (bl w 20 (.string a.value) (.string b.value) true 3 (bl w 21 (.int .i64 a.code) (.int .i64 b.code) true 3 ([pt w.heap.size 22, .string a.matched, pt (w.heap.size + 1) 22, .string b.matched, .bool e18, .bool e18] ++ [])))))))))))))))))))⟩, []⟩ (by kernel_rfl) ?_
          refine wp_ret ?_
          exact bodyPost_ret (by kernel_rfl) rfl ⟨ret_bool HR.out.symm, hT3.2.2⟩
end Go.Proofs.YtconghaebebncaaGreatDoor.Ms
