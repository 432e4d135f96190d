import Derived.Test.YtbdpkfgllnbheaaGreatDoorZQ28
set_option linter.unusedVariables false
set_option maxRecDepth 100000
namespace Go.Proofs.YtbdpkfgllnbheaaGreatDoor.Ch
open Go.RowKit
attribute [local go_sem ↓] loadAtG
set_option maxHeartbeats 1000000 in
theorem below_any (a b : Cn) (w : World) : Calls Tryz.prog 54 #[cnv a, cnv b] w (Flag w (lt a b)):=by
 have hb0 : Below w.heap.size w ((w.alloc (.cells #[.int .i64 a.t, .int .i64 a.s, .int .i64 a.r] 23)).alloc (.cells #[.int .i64 b.t, .int .i64 b.s, .int .i64 b.r] 23)):=((Below.refl _ _).alloc (Nat.le_refl _) _).alloc (by simp) _
 have HC:=Lib.hid (fun w=>Cs.cmp_any a.t a.s a.r b.t b.s b.r w)
 have hr : lt a b = decide (Cs.cmpC a.t a.s a.r b.t b.s b.r < 0):=rfl
 generalize Cs.cmpC a.t a.s a.r b.t b.s b.r = n at HC hr
 have HR:=Lib.hid hr
 have Hb:=Lib.hid hb0
 clear hr hb0
 go_enter Tryz.func54, Tryz.ntmps54
 go_wp2_with fail
 refine (HC.out _).mono ?_
 rintro e w1 ⟨rfl, hb1⟩
 go_wp2_with fail
 go_ret
 exact ⟨ret_bool HR.out.symm, Hb.out.trans (hb1.mono Hb.out.size)⟩
theorem zeroC_any (c : Cn) (w : World) : Calls Tryz.prog 22 #[cnv c] w (Flag w (zCn c)):=Cs.zero_any c.t c.s c.r w
theorem isC_any (c : Cn) (w : World) : Calls Tryz.prog 21 #[cnv c] w (Flag w (isCn c)):=Cs.is_any c.t c.s c.r w
theorem Box.cells {w : World} {g : Nat} {c : Cg} {cs : Array Value} (h : Box w g c cs) : ∃ (R : Option Addr) (rc : Nat) (M : Option Addr) (mc : Nat) (ds : Nat → List Value), cs = gcs c R rc M mc ∧ Blk w g 28 (gcs c R rc M mc) ∧
  (RAt w (· < w.heap.size) R c.rdn ∧ c.rdn.length ≤ maxLen ∧ c.rdn.length ≤ rc) ∧ (MosAt w (· < w.heap.size) M c.mods ds ∧ c.mods.length ≤ maxLen ∧ c.mods.length ≤ mc):=by
 obtain ⟨h1, R, rc, M, mc, ds, rfl, h2⟩:=h
 exact ⟨R, rc, M, mc, ds, rfl, h1, h2⟩
set_option maxHeartbeats 1000000 in
theorem noPlace_any (c : Cg) (cs : Array Value) (w : World) (h : GAt w (· < w.heap.size) c cs) : Calls Tryz.prog 55 #[.agg cs] w (Flag w (noPlace c)):=by
 have B:=Box.new h
 have hb0:=(Below.refl w.heap.size w).alloc (Nat.le_refl _) (.cells cs 28)
 obtain ⟨R, rc, M, mc, ds, rfl, hB, ⟨_, hl, _⟩, _⟩:=B.cells
 have c7:=hB.cell 7
 have c8:=hB.cell 8
 have c9:=hB.cell 9
 have HZ:=Lib.hid (fun w=>zeroC_any c.par w)
 have hr : noPlace c = (zCn c.par && (decide (c.rdn.length = 0) && !c.del)):=rfl
 have HB:=Lib.hid hB
 have Hb:=Lib.hid hb0
 unfold maxLen at hl
 generalize zCn c.par = b at HZ hr
 have HR:=Lib.hid hr
 clear hr hB B h hb0
 cases b
 ·go_enter Tryz.func55, Tryz.ntmps55
  go_wp2_with fail
  refine (HZ.out _).mono ?_
  rintro e w1 ⟨rfl, hb1⟩
  go_wp2_with fail
  go_ret
  exact ⟨ret_bool HR.out.symm, Hb.out.trans (hb1.mono Hb.out.size)⟩
 ·by_cases h0 : c.rdn.length = 0
  ·have k0 : ((c.rdn.length : Int) == 0) = true:=by rw [beq_iff_eq]; omega
   have HR2:=Lib.hid (show noPlace c = !c.del by rw [HR.out, decide_eq_true h0, Bool.true_and, Bool.true_and])
   clear h0 HR
   go_enter Tryz.func55, Tryz.ntmps55
   go_wp2_with fail
   refine (HZ.out _).mono ?_
   rintro e w1 ⟨rfl, hb1⟩
   have B1:=HB.out.past hb1
   have d10:=B1.cell 10
   have d11:=B1.cell 11
   go_wp2_with fail
   go_ret
   exact ⟨ret_bool HR2.out.symm, Hb.out.trans (hb1.mono Hb.out.size)⟩
  ·have k0 : ((c.rdn.length : Int) == 0) = false:=by rw [beq_eq_false_iff_ne]; omega
   have HR2:=Lib.hid (show noPlace c = false by rw [HR.out, decide_eq_false h0]; rfl)
   clear h0 HR
   go_enter Tryz.func55, Tryz.ntmps55
   go_wp2_with fail
   refine (HZ.out _).mono ?_
   rintro e w1 ⟨rfl, hb1⟩
   have B1:=HB.out.past hb1
   have d10:=B1.cell 10
   go_wp2_with fail
   go_ret
   exact ⟨ret_bool HR2.out.symm, Hb.out.trans (hb1.mono Hb.out.size)⟩
theorem rdn_small {r : List Nm.Ava} (h : Nm.isRdn r = true) : ∀ a ∈ r, a.1.size ≤ 1099511627776:=by
 obtain ⟨_, _, h3⟩:=Nm.isRdn_all h
 intro a ha
 have:=(Nm.okAva_le (h3 a ha)).1
 omega
set_option maxHeartbeats 2000000 in
theorem place_any (c : Cg) (cs : Array Value) (w : World) (h : GAt w (· < w.heap.size) c cs) : Calls Tryz.prog 52 #[.agg cs] w (Flag w (place c)):=by
 have B:=Box.new h
 have hb0:=(Below.refl w.heap.size w).alloc (Nat.le_refl _) (.cells cs 28)
 obtain ⟨R, rc, M, mc, ds, rfl, hB, ⟨hR, hl, hrc⟩, _⟩:=B.cells
 have c0:=hB.cell 0
 have c1:=hB.cell 1
 have c2:=hB.cell 2
 have c7:=hB.cell 7
 have c8:=hB.cell 8
 have c9:=hB.cell 9
 have HL:=Lib.hid (fun w=>below_any c.par c.csn w)
 have HI:=Lib.hid (fun w1 hb=>isRdn_any c.rdn R rc w1 (hR.past hb) hl hrc)
 have HA:=Lib.hid (fun (hi : Nm.isRdn c.rdn = true) w1 hb=>containsA_any R rc c.rdn w1 hl (rdn_small hi) (hR.past hb))
 have hr : place c = (lt c.par c.csn && (Nm.isRdn c.rdn && (decide (c.rdn.length < 4) && !c.rdn.any noAva))):=rfl
 have HB:=Lib.hid hB
 have Hb:=Lib.hid hb0
 unfold maxLen at hl
 generalize lt c.par c.csn = b1 at HL hr
 generalize Nm.isRdn c.rdn = b2 at HI HA hr
 generalize c.rdn.any noAva = b3 at HA hr
 have HR:=Lib.hid hr
 clear hr hB B h hR hb0
 go_enter Tryz.func52, Tryz.ntmps52
 go_wp2_with fail
 refine (HL.out _).mono ?_
 rintro e w1 ⟨rfl, hb1⟩
 have hb2:=Hb.out.trans (hb1.mono Hb.out.size)
 cases b1
 ·go_wp2_with fail
  go_ret
  exact ⟨ret_bool HR.out.symm, hb2⟩
 have B1:=HB.out.past hb1
 have d10:=B1.cell 10
 have HB1:=Lib.hid B1
 clear c0 c1 c2 c7 c8 c9 B1
 go_wp2_with fail
 refine (HI.out _ hb1).mono ?_
 rintro e w2 ⟨rfl, hb3⟩
 have hb4:=hb2.trans (hb3.mono hb2.size)
 have hb5:=hb1.trans (hb3.mono hb1.size)
 have B2:=HB1.out.past hb3
 have e10:=B2.cell 10
 have HB2:=Lib.hid B2
 clear d10 B2
 cases b2
 ·go_wp2_with fail
  go_ret
  exact ⟨ret_bool HR.out.symm, hb4⟩
 by_cases h4 : (c.rdn.length : Int) < 4
 ·have HR2:=Lib.hid (show place c = !b3 by rw [HR.out, decide_eq_true (show c.rdn.length < 4 by omega)]; rfl)
  have d4 : decide ((c.rdn.length : Int) < 4) = true:=decide_eq_true h4
  go_wp2_with fail
  refine (HA.out trivial _ hb5).mono ?_
  rintro e w3 ⟨rfl, hb6⟩
  go_wp2_with fail
  go_ret
  exact ⟨ret_bool HR2.out.symm, hb4.trans (hb6.mono hb4.size)⟩
 ·have HR2:=Lib.hid (show place c = false by rw [HR.out, decide_eq_false (show ¬ c.rdn.length < 4 by omega)]; rfl)
  have d4 : 4 ≤ (c.rdn.length : Int):=by omega
  clear h4
  go_wp2_with fail
  go_ret
  exact ⟨ret_bool HR2.out.symm, hb4⟩
theorem GAt.mk {w : World} {P : Nat → Prop} {c : Cg} (R : Option Addr) (rc : Nat) (M : Option Addr) (mc : Nat) (ds : Nat → List Value) (h1 : RAt w P R c.rdn ∧ c.rdn.length ≤ maxLen ∧ c.rdn.length ≤ rc) (h2 : MosAt w P M c.mods ds ∧ c.mods.length ≤ maxLen ∧ c.mods.length ≤ mc) : GAt w P c (gcs c R rc M mc):=⟨R, rc, M, mc, ds, rfl, h1, h2⟩
set_option maxHeartbeats 4000000 in
theorem formed_any (c : Cg) (cs : Array Value) (w : World) (hz : ∀ d ∈ c.mods, d.attr.size ≤ 1099511627776) (h : GAt w (· < w.heap.size) c cs) : Calls Tryz.prog 23 #[.agg cs] w (Flag w (formed c)):=by
 have B:=Box.new h
 have hb0:=(Below.refl w.heap.size w).alloc (Nat.le_refl _) (.cells cs 28)
 have HP:=Lib.hid (fun w1 hb=>place_any c cs w1 (h.past hb))
 have HNP:=Lib.hid (fun w1 hb=>noPlace_any c cs w1 (h.past hb))
 obtain ⟨R, rc, M, mc, ds, rfl, ⟨hR, hl, hrc⟩, hM, hml, hmc⟩:=h
 have hB:=B.1
 have HT:=Lib.hid (fun w1 (hb : Below w.heap.size w w1)=>containsT_any M mc c.mods ds w1 hml (hM.past hb))
 have HM:=Lib.hid hM
 have hld:=B.load
 have c0:=hB.cell 0
 have c1:=hB.cell 1
 have c2:=hB.cell 2
 have c3:=hB.cell 3
 have c4:=hB.cell 4
 have c5:=hB.cell 5
 have c6:=hB.cell 6
 have HBx:=Lib.hid B
 have HB:=Lib.hid hB
 have Hb:=Lib.hid hb0
 have HML:=Lib.hid hml
 unfold maxLen at hml
 clear hB B hR hM hz hb0
 by_cases k1 : c.kind = 1
 ·
  have hk1 : (c.kind == 1) = true:=by rw [beq_iff_eq]; exact k1
  have hr : formed c = (eqCn c.id c.csn && (place c && (!c.del && !c.mods.any takes))):=by unfold formed; rw [if_pos k1]
  clear k1
  generalize place c = b1 at HP hr
  generalize c.mods.any takes = b2 at HT hr
  by_cases he : c.id.t = c.csn.t ∧ c.id.s = c.csn.s ∧ c.id.r = c.csn.r
  ·have HR:=Lib.hid (show formed c = (b1 && (!c.del && !b2)) by rw [hr]; unfold eqCn; rw [decide_eq_true he]; rfl)
   have q1 : (c.id.t == c.csn.t) = true:=by rw [beq_iff_eq]; exact he.1
   have q2 : (c.id.s == c.csn.s) = true:=by rw [beq_iff_eq]; exact he.2.1
   have q3 : (c.id.r == c.csn.r) = true:=by rw [beq_iff_eq]; exact he.2.2
   clear he hr
   go_enter Tryz.func23, Tryz.ntmps23
   go_wp2_with fail
   refine (HP.out _ Hb.out).mono ?_
   rintro e w1 ⟨rfl, hb1⟩
   have hb2:=Hb.out.trans (hb1.mono Hb.out.size)
   cases b1
   ·go_wp2_with fail
    go_ret
    exact ⟨ret_bool HR.out.symm, hb2⟩
   have B1:=HB.out.past hb1
   have d11 : w1.cell? ⟨w.heap.size, 11, none⟩ = some (.bool c.del):=B1.cell 11
   have d12:=B1.cell 12
   generalize c.del = b3 at d11 HR
   cases b3
   ·go_wp2_with fail
    refine (HT.out _ hb2).mono ?_
    rintro e w2 ⟨rfl, hb3⟩
    go_wp2_with fail
    go_ret
    exact ⟨ret_bool HR.out.symm, hb2.trans (hb3.mono hb2.size)⟩
   ·go_wp2_with fail
    go_ret
    exact ⟨ret_bool HR.out.symm, hb2⟩
  ·have HR:=Lib.hid (show formed c = false by rw [hr]; unfold eqCn; rw [decide_eq_false he]; rfl)
   have hq : (c.id.t == c.csn.t) = false ∨ (c.id.t == c.csn.t) = true ∧ (c.id.s == c.csn.s) = false ∨ (c.id.t == c.csn.t) = true ∧ (c.id.s == c.csn.s) = true ∧ (c.id.r == c.csn.r) = false:=by
    simp only [beq_eq_false_iff_ne, beq_iff_eq, ne_eq]
    omega
   clear he hr
   rcases hq with q1 | ⟨q1, q2⟩ | ⟨q1, q2, q3⟩
   all_goals
    go_enter Tryz.func23, Tryz.ntmps23
    go_wp2_with fail
    go_ret
    exact ⟨ret_bool HR.out.symm, Hb.out⟩
 have hk1 : (c.kind == 1) = false:=by rw [beq_eq_false_iff_ne]; exact k1
 by_cases k3 : c.kind = 3
 ·
  have hk3 : (c.kind == 3) = true:=by rw [beq_iff_eq]; exact k3
  have hr : formed c = (lt c.id c.csn && (noPlace c && decide (0 < c.mods.length))):=by unfold formed; rw [if_neg k1, if_pos k3]
  have HL:=Lib.hid (fun w=>below_any c.id c.csn w)
  clear k1 k3
  generalize lt c.id c.csn = b1 at HL hr
  generalize noPlace c = b2 at HNP hr
  have HR:=Lib.hid hr
  clear hr
  go_enter Tryz.func23, Tryz.ntmps23
  go_wp2_with fail
  refine (HL.out _).mono ?_
  rintro e w1 ⟨rfl, hb1⟩
  have hb2:=Hb.out.trans (hb1.mono Hb.out.size)
  cases b1
  ·go_wp2_with fail
   go_ret
   exact ⟨ret_bool HR.out.symm, hb2⟩
  have hld1:=(HBx.out.past hb1).load
  clear hld c0 c1 c2 c3 c4 c5 c6
  go_wp2_with fail
  refine (HNP.out _ hb2).mono ?_
  rintro e w2 ⟨rfl, hb3⟩
  have hb4:=hb2.trans (hb3.mono hb2.size)
  cases b2
  ·go_wp2_with fail
   go_ret
   exact ⟨ret_bool HR.out.symm, hb4⟩
  have B2:=(HB.out.past hb1).past hb3
  have d12:=B2.cell 12
  clear hld1
  go_wp2_with fail
  go_ret
  exact ⟨ret_bool HR.out.symm, hb4⟩
 have hk3 : (c.kind == 3) = false:=by rw [beq_eq_false_iff_ne]; exact k3
 have HL:=Lib.hid (fun w=>below_any c.id c.csn w)
 have HZ:=Lib.hid (fun w=>zeroC_any c.id w)
 by_cases k4 : c.kind = 4
 ·
  have hk4 : (c.kind == 4) = true:=by rw [beq_iff_eq]; exact k4
  have hr : formed c = (place c && (!zCn c.id && (lt c.id c.csn && (noPlace { c with par:=z3, rdn:=[], del:=false } && decide (c.mods.length = 0))))):=by unfold formed; rw [if_neg k1, if_neg k3, if_pos k4]; rfl
  clear k1 k3 k4
  generalize place c = b1 at HP hr
  generalize zCn c.id = b3 at HZ hr
  generalize lt c.id c.csn = b4 at HL hr
  have HNQ:=Lib.hid (fun cs w1 h=>noPlace_any { c with par:=z3, rdn:=[], del:=false } cs w1 h)
  generalize noPlace { c with par:=z3, rdn:=[], del:=false } = b5 at HNQ hr
  have HR:=Lib.hid hr
  clear hr
  go_enter Tryz.func23, Tryz.ntmps23
  go_wp2_with fail
  refine (HP.out _ Hb.out).mono ?_
  rintro e w1 ⟨rfl, hb1⟩
  have hb2:=Hb.out.trans (hb1.mono Hb.out.size)
  cases b1
  ·go_wp2_with fail
   go_ret
   exact ⟨ret_bool HR.out.symm, hb2⟩
  have B1:=HB.out.past hb1
  have y0:=B1.cell 0
  have y1:=B1.cell 1
  have y2:=B1.cell 2
  have y4:=B1.cell 4
  have y5:=B1.cell 5
  have y6:=B1.cell 6
  have y7:=B1.cell 7
  have y8:=B1.cell 8
  have y9:=B1.cell 9
  have y10:=B1.cell 10
  have y11:=B1.cell 11
  have f7:=B1.frozen 7
  have f8:=B1.frozen 8
  have f9:=B1.frozen 9
  have f10:=B1.frozen 10
  have f11:=B1.frozen 11
  have B2 : Blk (((((w1.setCell ⟨w.heap.size, 7, none⟩ (.int .i64 0)).setCell ⟨w.heap.size, 8, none⟩ (.int .i64 0)).setCell ⟨w.heap.size, 9, none⟩ (.int .i64 0)).setCell ⟨w.heap.size, 10, none⟩ (.slice none 0 0)).setCell ⟨w.heap.size, 11, none⟩ (.bool false)) w.heap.size 28 (gcs { c with par:=z3, rdn:=[], del:=false } none 0 M mc) :=
   ((((B1.set_ 7 _).set_ 8 _).set_ 9 _).set_ 10 _).set_ 11 _
  have hlt:=B1.lt
  have hbS : Below w.heap.size w (((((w1.setCell ⟨w.heap.size, 7, none⟩ (.int .i64 0)).setCell ⟨w.heap.size, 8, none⟩ (.int .i64 0)).setCell ⟨w.heap.size, 9, none⟩ (.int .i64 0)).setCell ⟨w.heap.size, 10, none⟩ (.slice none 0 0)).setCell ⟨w.heap.size, 11, none⟩ (.bool false)) :=
   ((((hb2.setCell (p:=⟨w.heap.size, 7, none⟩) (Nat.le_refl _) _).setCell (p:=⟨w.heap.size, 8, none⟩) (Nat.le_refl _) _).setCell (p:=⟨w.heap.size, 9, none⟩) (Nat.le_refl _) _).setCell (p:=⟨w.heap.size, 10, none⟩) (Nat.le_refl _) _).setCell (p:=⟨w.heap.size, 11, none⟩) (Nat.le_refl _) _
  have G2:=GAt.mk (c:={ c with par:=z3, rdn:=[], del:=false }) none 0 M mc ds ⟨RAt.nil _ _ _, Nat.zero_le _, Nat.le_refl _⟩ ⟨HM.out.past hbS, HML.out, hmc⟩
  have HB2:=Lib.hid B2
  have HBx2:=Lib.hid (show Box _ w.heap.size _ _ from ⟨B2, G2⟩)
  have Hb2:=Lib.hid hbS
  have HNR:=Lib.hid (fun w1 hb=>HNQ.out _ w1 (G2.past hb))
  clear B1 B2 hbS c0 c1 c2 c3 c4 c5 c6 hld G2
  go_wp2_with fail
  clear y0 y1 y2 y4 y5 y6 y7 y8 y9 y10 y11 f7 f8 f9 f10 f11
  generalize (((((w1.setCell ⟨w.heap.size, 7, none⟩ (.int .i64 0)).setCell ⟨w.heap.size, 8, none⟩ (.int .i64 0)).setCell ⟨w.heap.size, 9, none⟩ (.int .i64 0)).setCell ⟨w.heap.size, 10, none⟩ (.slice none 0 0)).setCell ⟨w.heap.size, 11, none⟩ (.bool false)) = W at HB2 HBx2 Hb2 HNR ⊢
  refine (HZ.out _).mono ?_
  rintro e w3 ⟨rfl, hb7⟩
  have hb8:=Hb2.out.trans (hb7.mono Hb2.out.size)
  cases b3
  focus
   have X0:=HB2.out.past hb7
   have x0:=X0.cell 0
   have x1:=X0.cell 1
   have x2:=X0.cell 2
   have x4:=X0.cell 4
   have x5:=X0.cell 5
   have x6:=X0.cell 6
   clear X0
   go_wp2_with fail
   refine (HL.out _).mono ?_
   rintro e w4 ⟨rfl, hb9⟩
   have hb10:=hb8.trans (hb9.mono hb8.size)
   cases b4
   focus
    go_wp2_with fail
    go_ret
    exact ⟨ret_bool HR.out.symm, hb10⟩
   have hld4:=((HBx2.out.past hb7).past hb9).load
   clear x0 x1 x2 x4 x5 x6
   go_wp2_with fail
   refine (HNR.out _ (hb7.trans (hb9.mono hb7.size))).mono ?_
   rintro e w5 ⟨rfl, hb11⟩
   have hb12:=hb10.trans (hb11.mono hb10.size)
   cases b5
   focus
    go_wp2_with fail
    go_ret
    exact ⟨ret_bool HR.out.symm, hb12⟩
   have B5:=((HB2.out.past hb7).past hb9).past hb11
   have d12:=B5.cell 12
   clear hld4
   by_cases h0 : c.mods.length = 0
   focus
    have HR2:=Lib.hid (show formed c = true by rw [HR.out, decide_eq_true h0]; rfl)
    have e0 : ((c.mods.length : Int) == 0) = true:=by rw [beq_iff_eq]; omega
    go_wp2_with fail
    go_ret
    exact ⟨ret_bool HR2.out.symm, hb12⟩
   focus
    have HR2:=Lib.hid (show formed c = false by rw [HR.out, decide_eq_false h0]; rfl)
    have e0 : ((c.mods.length : Int) == 0) = false:=by rw [beq_eq_false_iff_ne]; omega
    go_wp2_with fail
    go_ret
    exact ⟨ret_bool HR2.out.symm, hb12⟩
  focus
   go_wp2_with fail
   go_ret
   exact ⟨ret_bool HR.out.symm, hb8⟩
 have hk4 : (c.kind == 4) = false:=by rw [beq_eq_false_iff_ne]; exact k4
 by_cases k2 : c.kind = 2
 ·
  have hk2 : (c.kind == 2) = true:=by rw [beq_iff_eq]; exact k2
  have hr : formed c = (!zCn c.id && (lt c.id c.csn && (noPlace c && decide (c.mods.length = 0)))):=by unfold formed; rw [if_neg k1, if_neg k3, if_neg k4, if_pos k2]; rfl
  clear k1 k2 k3 k4
  generalize zCn c.id = b3 at HZ hr
  generalize lt c.id c.csn = b4 at HL hr
  have HNQ:=Lib.hid (fun w1 (hb : Below (w.alloc (.cells (gcs c R rc M mc) 28)).heap.size (w.alloc (.cells (gcs c R rc M mc) 28)) w1)=>HNP.out w1 (Hb.out.trans (hb.mono Hb.out.size)))
  generalize noPlace c = b5 at HNQ HNP hr
  have HR:=Lib.hid hr
  clear hr
  go_enter Tryz.func23, Tryz.ntmps23
  go_wp2_with fail
  refine (HZ.out _).mono ?_
  rintro e w3 ⟨rfl, hb7⟩
  have hb8:=Hb.out.trans (hb7.mono Hb.out.size)
  cases b3
  focus
   have X0:=HB.out.past hb7
   have x0:=X0.cell 0
   have x1:=X0.cell 1
   have x2:=X0.cell 2
   have x4:=X0.cell 4
   have x5:=X0.cell 5
   have x6:=X0.cell 6
   clear X0
   go_wp2_with fail
   refine (HL.out _).mono ?_
   rintro e w4 ⟨rfl, hb9⟩
   have hb10:=hb8.trans (hb9.mono hb8.size)
   cases b4
   focus
    go_wp2_with fail
    go_ret
    exact ⟨ret_bool HR.out.symm, hb10⟩
   have hld4:=((HBx.out.past hb7).past hb9).load
   clear x0 x1 x2 x4 x5 x6
   go_wp2_with fail
   refine (HNQ.out _ (hb7.trans (hb9.mono hb7.size))).mono ?_
   rintro e w5 ⟨rfl, hb11⟩
   have hb12:=hb10.trans (hb11.mono hb10.size)
   cases b5
   focus
    go_wp2_with fail
    go_ret
    exact ⟨ret_bool HR.out.symm, hb12⟩
   have B5:=((HB.out.past hb7).past hb9).past hb11
   have d12:=B5.cell 12
   clear hld4
   by_cases h0 : c.mods.length = 0
   focus
    have HR2:=Lib.hid (show formed c = true by rw [HR.out, decide_eq_true h0]; rfl)
    have e0 : ((c.mods.length : Int) == 0) = true:=by rw [beq_iff_eq]; omega
    go_wp2_with fail
    go_ret
    exact ⟨ret_bool HR2.out.symm, hb12⟩
   focus
    have HR2:=Lib.hid (show formed c = false by rw [HR.out, decide_eq_false h0]; rfl)
    have e0 : ((c.mods.length : Int) == 0) = false:=by rw [beq_eq_false_iff_ne]; omega
    go_wp2_with fail
    go_ret
    exact ⟨ret_bool HR2.out.symm, hb12⟩
  focus
   go_wp2_with fail
   go_ret
   exact ⟨ret_bool HR.out.symm, hb8⟩
 have hk2 : (c.kind == 2) = false:=by rw [beq_eq_false_iff_ne]; exact k2
 have HR:=Lib.hid (show formed c = false by unfold formed; rw [if_neg k1, if_neg k3, if_neg k4, if_neg k2])
 clear k1 k2 k3 k4
 go_enter Tryz.func23, Tryz.ntmps23
 go_wp2_with fail
 go_ret
 exact ⟨ret_bool HR.out.symm, Hb.out⟩
end Go.Proofs.YtbdpkfgllnbheaaGreatDoor.Ch
