import Derived.Test.YtbdpkfgllnbheaaGreatDoorZQ33
set_option linter.unusedVariables false
set_option maxRecDepth 100000
namespace Go.Proofs.YtbdpkfgllnbheaaGreatDoor.Ch
open Go.RowKit
theorem any_or {α : Type} (p q : α → Bool) (l : List α) : l.any (fun x=>p x || q x) = (l.any p || l.any q):=by
 induction l with
 | nil=>rfl
 | cons x l ih=>rw [List.any_cons, List.any_cons, List.any_cons, ih]; cases p x <;> cases q x <;> cases l.any p <;> rfl
theorem bad_t (l : List Mo) : l.any (badM true) = (l.any noMo || l.any takes):=by
 rw [← any_or]; rfl
theorem bad_f (l : List Mo) : l.any (badM false) = l.any noMo:=by
 have h : badM false = noMo:=by funext d; unfold badM; cases noMo d <;> rfl
 rw [h]
def nums (c : Cg) : Bool:=isCn c.csn && (!zCn c.csn && (isCn c.id && isCn c.par))
theorem isG_no {c : Cg} (h : nums c = false) : isG c = false:=by
 unfold isG; unfold nums at h; rw [h]; rfl
theorem isG_k {c : Cg} (h : nums c = true) : isG c = (formed c && (decide (c.mods.length ≤ 8) && !c.mods.any noMo)):=by
 unfold isG; unfold nums at h; rw [h]; rfl
theorem isG_1 {c : Cg} (h : nums c = true) (hk : c.kind = 1) : isG c = (eqCn c.id c.csn && (decide (Cs.cmpC c.par.t c.par.s c.par.r c.csn.t c.csn.s c.csn.r < 0) && (okR c.rdn && (!c.del && (!c.mods.any (badM true) && decide (c.mods.length ≤ 8)))))):=by
 rw [isG_k h, bad_t]
 unfold formed
 rw [if_pos hk]
 unfold place lt
 cases eqCn c.id c.csn <;> cases decide (Cs.cmpC c.par.t c.par.s c.par.r c.csn.t c.csn.s c.csn.r < 0) <;> cases okR c.rdn <;> cases c.del <;> cases c.mods.any takes <;> cases c.mods.any noMo <;> cases decide (c.mods.length ≤ 8) <;> rfl
theorem none_of {c : Cg} : (decide (c.mods.length = 0) && (decide (c.mods.length ≤ 8) && !c.mods.any noMo)) = decide (c.mods.length = 0):=by
 by_cases h : c.mods.length = 0
 ·rw [List.length_eq_zero_iff.mp h]; rfl
 ·rw [decide_eq_false h]; rfl
theorem isG_2 {c : Cg} (h : nums c = true) (hk : c.kind = 2) : isG c = (decide (Cs.cmpC c.id.t c.id.s c.id.r c.csn.t c.csn.s c.csn.r < 0) && (!zCn c.id && (zCn c.par && (decide (c.rdn.length = 0) && (!c.del && decide (c.mods.length = 0)))))):=by
 rw [isG_k h]
 unfold formed
 rw [if_neg (by omega), if_neg (by omega), if_neg (by omega), if_pos hk]
 have hn:=none_of (c:=c)
 unfold isDel noPlace lt
 generalize decide (c.mods.length ≤ 8) = x1 at hn ⊢
 generalize c.mods.any noMo = x2 at hn ⊢
 generalize decide (c.mods.length = 0) = x3 at hn ⊢
 cases decide (Cs.cmpC c.id.t c.id.s c.id.r c.csn.t c.csn.s c.csn.r < 0) <;> cases zCn c.id <;> cases zCn c.par <;> cases decide (c.rdn.length = 0) <;> cases c.del <;> cases x1 <;> cases x2 <;> cases x3 <;> first | rfl | exact hn | exact absurd hn (by decide)
theorem isG_3 {c : Cg} (h : nums c = true) (hk : c.kind = 3) : isG c = (decide (Cs.cmpC c.id.t c.id.s c.id.r c.csn.t c.csn.s c.csn.r < 0) && (zCn c.par && (decide (c.rdn.length = 0) && (!c.del && (decide (0 < c.mods.length) && (!c.mods.any (badM false) && decide (c.mods.length ≤ 8))))))):=by
 rw [isG_k h, bad_f]
 unfold formed
 rw [if_neg (by omega), if_pos hk]
 unfold noPlace lt
 cases decide (Cs.cmpC c.id.t c.id.s c.id.r c.csn.t c.csn.s c.csn.r < 0) <;> cases zCn c.par <;> cases decide (c.rdn.length = 0) <;> cases c.del <;> cases decide (0 < c.mods.length) <;> cases c.mods.any noMo <;> cases decide (c.mods.length ≤ 8) <;> rfl
theorem isG_4 {c : Cg} (h : nums c = true) (hk : c.kind = 4) : isG c = (decide (Cs.cmpC c.id.t c.id.s c.id.r c.csn.t c.csn.s c.csn.r < 0) && (!zCn c.id && (decide (Cs.cmpC c.par.t c.par.s c.par.r c.csn.t c.csn.s c.csn.r < 0) && (okR c.rdn && decide (c.mods.length = 0))))):=by
 rw [isG_k h]
 unfold formed
 rw [if_neg (by omega), if_neg (by omega), if_pos hk]
 have hn:=none_of (c:=c)
 unfold isDel noPlace place lt
 show ((decide (Cs.cmpC c.par.t c.par.s c.par.r c.csn.t c.csn.s c.csn.r < 0) && okR c.rdn && (!zCn c.id && (decide (Cs.cmpC c.id.t c.id.s c.id.r c.csn.t c.csn.s c.csn.r < 0) && (true && decide (c.mods.length = 0))))) && (decide (c.mods.length ≤ 8) && !c.mods.any noMo)) = _
 generalize decide (c.mods.length ≤ 8) = x1 at hn ⊢
 generalize c.mods.any noMo = x2 at hn ⊢
 generalize decide (c.mods.length = 0) = x3 at hn ⊢
 cases decide (Cs.cmpC c.id.t c.id.s c.id.r c.csn.t c.csn.s c.csn.r < 0) <;> cases zCn c.id <;> cases decide (Cs.cmpC c.par.t c.par.s c.par.r c.csn.t c.csn.s c.csn.r < 0) <;> cases okR c.rdn <;> cases x1 <;> cases x2 <;> cases x3 <;> first | rfl | exact hn | exact absurd hn (by decide)
theorem isG_5 {c : Cg} (h : nums c = true) (h1 : c.kind ≠ 1) (h2 : c.kind ≠ 2) (h3 : c.kind ≠ 3) (h4 : c.kind ≠ 4) : isG c = false:=by
 rw [isG_k h]
 unfold formed
 rw [if_neg h1, if_neg h3, if_neg h4, if_neg h2]
 rfl
theorem eq_yes {a b : Cn} (h : eqCn a b = true) : (a.t == b.t) = true ∧ (a.s == b.s) = true ∧ (a.r == b.r) = true:=by
 obtain ⟨h1, h2, h3⟩:=of_decide_eq_true h
 exact ⟨by rw [h1]; exact beq_self_eq_true _, by rw [h2]; exact beq_self_eq_true _, by rw [h3]; exact beq_self_eq_true _⟩
theorem eq_no {a b : Cn} (h : eqCn a b = false) : (a.t == b.t) = false ∨ (a.t == b.t) = true ∧ (a.s == b.s) = false ∨ (a.t == b.t) = true ∧ (a.s == b.s) = true ∧ (a.r == b.r) = false:=by
 have h:=of_decide_eq_false h
 by_cases h1 : a.t = b.t
 ·by_cases h2 : a.s = b.s
  ·have h3 : a.r ≠ b.r:=fun h3=>h ⟨h1, h2, h3⟩
   exact .inr (.inr ⟨beq_iff_eq.mpr h1, beq_iff_eq.mpr h2, beq_eq_false_iff_ne.mpr h3⟩)
  ·exact .inr (.inl ⟨beq_iff_eq.mpr h1, beq_eq_false_iff_ne.mpr h2⟩)
 ·exact .inl (beq_eq_false_iff_ne.mpr h1)
set_option maxHeartbeats 4000000 in
theorem ris_no (c : Cg) (cs : Array Value) (w : World) (hz : ∀ d ∈ c.mods, d.attr.size ≤ 1099511627776) (h : GAt w (· < w.heap.size) c cs) (hn : nums c = false) : Calls Tryz.prog 11 #[.agg cs] w (Flag w (isG c)):=by
 obtain ⟨R, rc, M, mc, ds, rfl, ⟨hR, hl, hrc⟩, hM, hml, hmc⟩:=h
 have hb0:=(Below.refl w.heap.size w).alloc (Nat.le_refl _) (.cells (gcs c R rc M mc) 28)
 have HB:=Lib.hid (Blk.new w 28 (gcs c R rc M mc))
 have Hb:=Lib.hid hb0
 have H1:=Lib.hid (fun w=>Cs.ris_any c.csn.t c.csn.s c.csn.r w)
 have H2:=Lib.hid (fun w=>Cs.rzero_any c.csn.t c.csn.s c.csn.r w)
 have H3:=Lib.hid (fun w=>Cs.ris_any c.id.t c.id.s c.id.r w)
 have H4:=Lib.hid (fun w=>Cs.ris_any c.par.t c.par.s c.par.r w)
 have H5:=Lib.hid (fun w=>Cs.rcmp_any c.id.t c.id.s c.id.r c.csn.t c.csn.s c.csn.r w)
 have H6:=Lib.hid (fun w=>Cs.rcmp_any c.par.t c.par.s c.par.r c.csn.t c.csn.s c.csn.r w)
 have H7:=Lib.hid (fun w1 (hb : Below w.heap.size w w1)=>rrdn_any R rc c.rdn w1 hl (hR.past hb))
 have H8:=Lib.hid (fun w=>Cs.rzero_any c.par.t c.par.s c.par.r w)
 have H9:=Lib.hid (fun w=>Cs.rzero_any c.id.t c.id.s c.id.r w)
 have HM:=Lib.hid (fun w1 (hb : Below w.heap.size w w1) (only : Bool)=>rmods_any M mc c.mods ds only w1 hml hz (hM.past hb))
 obtain ⟨bd, hbd⟩ : ∃ b, c.del = b:=⟨_, rfl⟩
 have HD:=Lib.hid hbd
 unfold maxLen at hl hml
 have hG:=isG_no hn
 have HR:=Lib.hid hG
 have hn2 : (Cs.isC c.csn.t c.csn.s c.csn.r && (!decide (c.csn.t = 0 ∧ c.csn.s = 0 ∧ c.csn.r = 0) && (Cs.isC c.id.t c.id.s c.id.r && Cs.isC c.par.t c.par.s c.par.r))) = false:=hn
 generalize Cs.isC c.csn.t c.csn.s c.csn.r = b1 at H1 hn2
 generalize decide (c.csn.t = 0 ∧ c.csn.s = 0 ∧ c.csn.r = 0) = b2 at H2 hn2
 generalize Cs.isC c.id.t c.id.s c.id.r = b3 at H3 hn2
 generalize Cs.isC c.par.t c.par.s c.par.r = b4 at H4 hn2
 clear hn hG hR hM hz hb0
 go_enter Tryz.func11, Tryz.ntmps11
 have f0_0:=HB.out.cell 0
 have f0_1:=HB.out.cell 1
 have f0_2:=HB.out.cell 2
 go_wp2_with fail
 refine (H1.out _).mono ?_
 rintro e w1 ⟨rfl, hb1⟩
 have Hb1:=Lib.hid (Hb.out.trans (hb1.mono Hb.out.size))
 have HB1:=Lib.hid (HB.out.past hb1)
 clear hb1
 cases b1
 focus
  go_wp2_with fail
  go_ret
  exact ⟨ret_bool (by rw [HR.out] <;> rfl), Hb1.out⟩
 clear f0_0 f0_1 f0_2
 have f1_0:=HB1.out.cell 0
 have f1_1:=HB1.out.cell 1
 have f1_2:=HB1.out.cell 2
 go_wp2_with fail
 refine (H2.out _).mono ?_
 rintro e w2 ⟨rfl, hb2⟩
 have Hb2:=Lib.hid (Hb1.out.trans (hb2.mono Hb1.out.size))
 have HB2:=Lib.hid (HB1.out.past hb2)
 clear hb2
 cases b2
 rotate_left
 focus
  go_wp2_with fail
  go_ret
  exact ⟨ret_bool (by rw [HR.out] <;> rfl), Hb2.out⟩
 clear f1_0 f1_1 f1_2
 have f2_4:=HB2.out.cell 4
 have f2_5:=HB2.out.cell 5
 have f2_6:=HB2.out.cell 6
 go_wp2_with fail
 refine (H3.out _).mono ?_
 rintro e w3 ⟨rfl, hb3⟩
 have Hb3:=Lib.hid (Hb2.out.trans (hb3.mono Hb2.out.size))
 have HB3:=Lib.hid (HB2.out.past hb3)
 clear hb3
 cases b3
 focus
  go_wp2_with fail
  go_ret
  exact ⟨ret_bool (by rw [HR.out] <;> rfl), Hb3.out⟩
 clear f2_4 f2_5 f2_6
 have f3_7:=HB3.out.cell 7
 have f3_8:=HB3.out.cell 8
 have f3_9:=HB3.out.cell 9
 go_wp2_with fail
 refine (H4.out _).mono ?_
 rintro e w4 ⟨rfl, hb4⟩
 have Hb4:=Lib.hid (Hb3.out.trans (hb4.mono Hb3.out.size))
 have HB4:=Lib.hid (HB3.out.past hb4)
 clear hb4
 cases b4
 focus
  go_wp2_with fail
  go_ret
  exact ⟨ret_bool (by rw [HR.out] <;> rfl), Hb4.out⟩
 cases hn2
set_option maxHeartbeats 4000000 in
theorem ris_1 (c : Cg) (cs : Array Value) (w : World) (hz : ∀ d ∈ c.mods, d.attr.size ≤ 1099511627776) (h : GAt w (· < w.heap.size) c cs) (hn : nums c = true) (hk : c.kind = 1) : Calls Tryz.prog 11 #[.agg cs] w (Flag w (isG c)):=by
 obtain ⟨R, rc, M, mc, ds, rfl, ⟨hR, hl, hrc⟩, hM, hml, hmc⟩:=h
 have hb0:=(Below.refl w.heap.size w).alloc (Nat.le_refl _) (.cells (gcs c R rc M mc) 28)
 have HB:=Lib.hid (Blk.new w 28 (gcs c R rc M mc))
 have Hb:=Lib.hid hb0
 have H1:=Lib.hid (fun w=>Cs.ris_any c.csn.t c.csn.s c.csn.r w)
 have H2:=Lib.hid (fun w=>Cs.rzero_any c.csn.t c.csn.s c.csn.r w)
 have H3:=Lib.hid (fun w=>Cs.ris_any c.id.t c.id.s c.id.r w)
 have H4:=Lib.hid (fun w=>Cs.ris_any c.par.t c.par.s c.par.r w)
 have H5:=Lib.hid (fun w=>Cs.rcmp_any c.id.t c.id.s c.id.r c.csn.t c.csn.s c.csn.r w)
 have H6:=Lib.hid (fun w=>Cs.rcmp_any c.par.t c.par.s c.par.r c.csn.t c.csn.s c.csn.r w)
 have H7:=Lib.hid (fun w1 (hb : Below w.heap.size w w1)=>rrdn_any R rc c.rdn w1 hl (hR.past hb))
 have H8:=Lib.hid (fun w=>Cs.rzero_any c.par.t c.par.s c.par.r w)
 have H9:=Lib.hid (fun w=>Cs.rzero_any c.id.t c.id.s c.id.r w)
 have HM:=Lib.hid (fun w1 (hb : Below w.heap.size w w1) (only : Bool)=>rmods_any M mc c.mods ds only w1 hml hz (hM.past hb))
 obtain ⟨bd, hbd⟩ : ∃ b, c.del = b:=⟨_, rfl⟩
 have HD:=Lib.hid hbd
 unfold maxLen at hl hml
 have hn2 : (Cs.isC c.csn.t c.csn.s c.csn.r && (!decide (c.csn.t = 0 ∧ c.csn.s = 0 ∧ c.csn.r = 0) && (Cs.isC c.id.t c.id.s c.id.r && Cs.isC c.par.t c.par.s c.par.r))) = true:=hn
 generalize Cs.isC c.csn.t c.csn.s c.csn.r = b1 at H1 hn2
 generalize decide (c.csn.t = 0 ∧ c.csn.s = 0 ∧ c.csn.r = 0) = b2 at H2 hn2
 generalize Cs.isC c.id.t c.id.s c.id.r = b3 at H3 hn2
 generalize Cs.isC c.par.t c.par.s c.par.r = b4 at H4 hn2
 obtain ⟨rfl, rfl, rfl, rfl⟩ : b1 = true ∧ b2 = false ∧ b3 = true ∧ b4 = true:=by
  revert hn2; cases b1 <;> cases b2 <;> cases b3 <;> cases b4 <;> simp
 have hG:=isG_1 hn hk
 have kf1 : (c.kind == 1) = true:=beq_iff_eq.mpr hk
 generalize Cs.cmpC c.id.t c.id.s c.id.r c.csn.t c.csn.s c.csn.r = n1 at H5 hG
 generalize Cs.cmpC c.par.t c.par.s c.par.r c.csn.t c.csn.s c.csn.r = n2 at H6 hG
 generalize okR c.rdn = b5 at H7 hG
 have hG2:=hG
 unfold zCn at hG2
 clear hG
 generalize decide (c.par.t = 0 ∧ c.par.s = 0 ∧ c.par.r = 0) = b6 at H8 hG2
 generalize decide (c.id.t = 0 ∧ c.id.s = 0 ∧ c.id.r = 0) = b7 at H9 hG2
 rw [hbd] at hG2
 have HM1:=Lib.hid (fun w1 hb=>HM.out w1 hb true)
 generalize (!c.mods.any (badM true) && decide (c.mods.length ≤ 8)) = m at HM1 hG2
 have HR:=Lib.hid hG2
 clear hn hn2 hG2 hR hM hz hb0 hbd HM
 go_enter Tryz.func11, Tryz.ntmps11
 have f0_0:=HB.out.cell 0
 have f0_1:=HB.out.cell 1
 have f0_2:=HB.out.cell 2
 go_wp2_with fail
 refine (H1.out _).mono ?_
 rintro e w1 ⟨rfl, hb1⟩
 have Hb1:=Lib.hid (Hb.out.trans (hb1.mono Hb.out.size))
 have HB1:=Lib.hid (HB.out.past hb1)
 clear hb1
 clear f0_0 f0_1 f0_2
 have f1_0:=HB1.out.cell 0
 have f1_1:=HB1.out.cell 1
 have f1_2:=HB1.out.cell 2
 go_wp2_with fail
 refine (H2.out _).mono ?_
 rintro e w2 ⟨rfl, hb2⟩
 have Hb2:=Lib.hid (Hb1.out.trans (hb2.mono Hb1.out.size))
 have HB2:=Lib.hid (HB1.out.past hb2)
 clear hb2
 clear f1_0 f1_1 f1_2
 have f2_4:=HB2.out.cell 4
 have f2_5:=HB2.out.cell 5
 have f2_6:=HB2.out.cell 6
 go_wp2_with fail
 refine (H3.out _).mono ?_
 rintro e w3 ⟨rfl, hb3⟩
 have Hb3:=Lib.hid (Hb2.out.trans (hb3.mono Hb2.out.size))
 have HB3:=Lib.hid (HB2.out.past hb3)
 clear hb3
 clear f2_4 f2_5 f2_6
 have f3_7:=HB3.out.cell 7
 have f3_8:=HB3.out.cell 8
 have f3_9:=HB3.out.cell 9
 go_wp2_with fail
 refine (H4.out _).mono ?_
 rintro e w4 ⟨rfl, hb4⟩
 have Hb4:=Lib.hid (Hb3.out.trans (hb4.mono Hb3.out.size))
 have HB4:=Lib.hid (HB3.out.past hb4)
 clear hb4
 clear f3_7 f3_8 f3_9
 have f4_4:=HB4.out.cell 4
 have f4_5:=HB4.out.cell 5
 have f4_6:=HB4.out.cell 6
 have f4_0:=HB4.out.cell 0
 have f4_1:=HB4.out.cell 1
 have f4_2:=HB4.out.cell 2
 go_wp2_with fail
 refine (H5.out _).mono ?_
 rintro e w5 ⟨rfl, hb5⟩
 have Hb5:=Lib.hid (Hb4.out.trans (hb5.mono Hb4.out.size))
 have HB5:=Lib.hid (HB4.out.past hb5)
 clear hb5
 clear f4_4 f4_5 f4_6 f4_0 f4_1 f4_2
 have f5_7:=HB5.out.cell 7
 have f5_8:=HB5.out.cell 8
 have f5_9:=HB5.out.cell 9
 have f5_0:=HB5.out.cell 0
 have f5_1:=HB5.out.cell 1
 have f5_2:=HB5.out.cell 2
 go_wp2_with fail
 refine (H6.out _).mono ?_
 rintro e w6 ⟨rfl, hb6⟩
 have Hb6:=Lib.hid (Hb5.out.trans (hb6.mono Hb5.out.size))
 have HB6:=Lib.hid (HB5.out.past hb6)
 clear hb6
 by_cases hP : n2 < 0
 ·have dP : decide (n2 < 0) = true:=decide_eq_true hP
  clear hP
  clear f5_7 f5_8 f5_9 f5_0 f5_1 f5_2
  have f6_10:=HB6.out.cell 10
  go_wp2_with fail
  refine (H7.out _ Hb6.out).mono ?_
  rintro e w7 ⟨rfl, hb7⟩
  have Hb7:=Lib.hid (Hb6.out.trans (hb7.mono Hb6.out.size))
  have HB7:=Lib.hid (HB6.out.past hb7)
  clear hb7
  cases b5
  ·skip
   clear f6_10
   have f7_7:=HB7.out.cell 7
   have f7_8:=HB7.out.cell 8
   have f7_9:=HB7.out.cell 9
   go_wp2_with fail
   refine (H8.out _).mono ?_
   rintro e w8 ⟨rfl, hb8⟩
   have Hb8:=Lib.hid (Hb7.out.trans (hb8.mono Hb7.out.size))
   have HB8:=Lib.hid (HB7.out.past hb8)
   clear hb8
   cases b6
   ·skip
    cases hq : eqCn c.id c.csn
    ·rcases eq_no hq with q1 | ⟨q1, q2⟩ | ⟨q1, q2, q3⟩
     all_goals
      clear f7_7 f7_8 f7_9
      have f8_3:=HB8.out.cell 3
      have f8_4:=HB8.out.cell 4
      have f8_5:=HB8.out.cell 5
      have f8_6:=HB8.out.cell 6
      have f8_0:=HB8.out.cell 0
      have f8_1:=HB8.out.cell 1
      have f8_2:=HB8.out.cell 2
      have f8_10:=HB8.out.cell 10
      go_wp2_with fail
      go_ret
      exact ⟨ret_bool (by rw [HR.out, hq, dP] <;> rfl), Hb8.out⟩
    ·obtain ⟨q1, q2, q3⟩:=eq_yes hq
     clear f7_7 f7_8 f7_9
     have f8_3:=HB8.out.cell 3
     have f8_4:=HB8.out.cell 4
     have f8_5:=HB8.out.cell 5
     have f8_6:=HB8.out.cell 6
     have f8_0:=HB8.out.cell 0
     have f8_1:=HB8.out.cell 1
     have f8_2:=HB8.out.cell 2
     have f8_10:=HB8.out.cell 10
     go_wp2_with fail
     go_ret
     exact ⟨ret_bool (by rw [HR.out, hq, dP] <;> rfl), Hb8.out⟩
   ·skip
    cases hq : eqCn c.id c.csn
    ·rcases eq_no hq with q1 | ⟨q1, q2⟩ | ⟨q1, q2, q3⟩
     all_goals
      clear f7_7 f7_8 f7_9
      have f8_3:=HB8.out.cell 3
      have f8_4:=HB8.out.cell 4
      have f8_5:=HB8.out.cell 5
      have f8_6:=HB8.out.cell 6
      have f8_0:=HB8.out.cell 0
      have f8_1:=HB8.out.cell 1
      have f8_2:=HB8.out.cell 2
      have f8_10:=HB8.out.cell 10
      go_wp2_with fail
      go_ret
      exact ⟨ret_bool (by rw [HR.out, hq, dP] <;> rfl), Hb8.out⟩
    ·obtain ⟨q1, q2, q3⟩:=eq_yes hq
     clear f7_7 f7_8 f7_9
     have f8_3:=HB8.out.cell 3
     have f8_4:=HB8.out.cell 4
     have f8_5:=HB8.out.cell 5
     have f8_6:=HB8.out.cell 6
     have f8_0:=HB8.out.cell 0
     have f8_1:=HB8.out.cell 1
     have f8_2:=HB8.out.cell 2
     have f8_10:=HB8.out.cell 10
     go_wp2_with fail
     go_ret
     exact ⟨ret_bool (by rw [HR.out, hq, dP] <;> rfl), Hb8.out⟩
  ·skip
   clear f6_10
   have f7_7:=HB7.out.cell 7
   have f7_8:=HB7.out.cell 8
   have f7_9:=HB7.out.cell 9
   go_wp2_with fail
   refine (H8.out _).mono ?_
   rintro e w8 ⟨rfl, hb8⟩
   have Hb8:=Lib.hid (Hb7.out.trans (hb8.mono Hb7.out.size))
   have HB8:=Lib.hid (HB7.out.past hb8)
   clear hb8
   cases b6
   ·skip
    cases hq : eqCn c.id c.csn
    ·rcases eq_no hq with q1 | ⟨q1, q2⟩ | ⟨q1, q2, q3⟩
     all_goals
      clear f7_7 f7_8 f7_9
      have f8_3:=HB8.out.cell 3
      have f8_4:=HB8.out.cell 4
      have f8_5:=HB8.out.cell 5
      have f8_6:=HB8.out.cell 6
      have f8_0:=HB8.out.cell 0
      have f8_1:=HB8.out.cell 1
      have f8_2:=HB8.out.cell 2
      have f8_10:=HB8.out.cell 10
      go_wp2_with fail
      go_ret
      exact ⟨ret_bool (by rw [HR.out, hq, dP] <;> rfl), Hb8.out⟩
    ·obtain ⟨q1, q2, q3⟩:=eq_yes hq
     cases bd
     ·skip
      clear f7_7 f7_8 f7_9
      have f8_3:=HB8.out.cell 3
      have f8_4:=HB8.out.cell 4
      have f8_5:=HB8.out.cell 5
      have f8_6:=HB8.out.cell 6
      have f8_0:=HB8.out.cell 0
      have f8_1:=HB8.out.cell 1
      have f8_2:=HB8.out.cell 2
      have f8_11 : w8.cell? ⟨w.heap.size, 11, none⟩ = some (.bool false):=by have:=HB8.out.cell 11; rw [show (gcs c R rc M mc)[11]? = some (.bool c.del) from rfl, HD.out] at this; exact this
      have f8_12:=HB8.out.cell 12
      have f8_10:=HB8.out.cell 10
      go_wp2_with fail
      refine (HM1.out _ Hb8.out).mono ?_
      rintro e w9 ⟨rfl, hb9⟩
      have Hb9:=Lib.hid (Hb8.out.trans (hb9.mono Hb8.out.size))
      have HB9:=Lib.hid (HB8.out.past hb9)
      clear hb9
      go_wp2_with fail
      go_ret
      exact ⟨ret_bool (by rw [HR.out, hq, dP] <;> rfl), Hb9.out⟩
     ·skip
      clear f7_7 f7_8 f7_9
      have f8_3:=HB8.out.cell 3
      have f8_4:=HB8.out.cell 4
      have f8_5:=HB8.out.cell 5
      have f8_6:=HB8.out.cell 6
      have f8_0:=HB8.out.cell 0
      have f8_1:=HB8.out.cell 1
      have f8_2:=HB8.out.cell 2
      have f8_11 : w8.cell? ⟨w.heap.size, 11, none⟩ = some (.bool true):=by have:=HB8.out.cell 11; rw [show (gcs c R rc M mc)[11]? = some (.bool c.del) from rfl, HD.out] at this; exact this
      have f8_10:=HB8.out.cell 10
      go_wp2_with fail
      go_ret
      exact ⟨ret_bool (by rw [HR.out, hq, dP] <;> rfl), Hb8.out⟩
   ·skip
    cases hq : eqCn c.id c.csn
    ·rcases eq_no hq with q1 | ⟨q1, q2⟩ | ⟨q1, q2, q3⟩
     all_goals
      clear f7_7 f7_8 f7_9
      have f8_3:=HB8.out.cell 3
      have f8_4:=HB8.out.cell 4
      have f8_5:=HB8.out.cell 5
      have f8_6:=HB8.out.cell 6
      have f8_0:=HB8.out.cell 0
      have f8_1:=HB8.out.cell 1
      have f8_2:=HB8.out.cell 2
      have f8_10:=HB8.out.cell 10
      go_wp2_with fail
      go_ret
      exact ⟨ret_bool (by rw [HR.out, hq, dP] <;> rfl), Hb8.out⟩
    ·obtain ⟨q1, q2, q3⟩:=eq_yes hq
     cases bd
     ·skip
      clear f7_7 f7_8 f7_9
      have f8_3:=HB8.out.cell 3
      have f8_4:=HB8.out.cell 4
      have f8_5:=HB8.out.cell 5
      have f8_6:=HB8.out.cell 6
      have f8_0:=HB8.out.cell 0
      have f8_1:=HB8.out.cell 1
      have f8_2:=HB8.out.cell 2
      have f8_11 : w8.cell? ⟨w.heap.size, 11, none⟩ = some (.bool false):=by have:=HB8.out.cell 11; rw [show (gcs c R rc M mc)[11]? = some (.bool c.del) from rfl, HD.out] at this; exact this
      have f8_12:=HB8.out.cell 12
      have f8_10:=HB8.out.cell 10
      go_wp2_with fail
      refine (HM1.out _ Hb8.out).mono ?_
      rintro e w9 ⟨rfl, hb9⟩
      have Hb9:=Lib.hid (Hb8.out.trans (hb9.mono Hb8.out.size))
      have HB9:=Lib.hid (HB8.out.past hb9)
      clear hb9
      go_wp2_with fail
      go_ret
      exact ⟨ret_bool (by rw [HR.out, hq, dP] <;> rfl), Hb9.out⟩
     ·skip
      clear f7_7 f7_8 f7_9
      have f8_3:=HB8.out.cell 3
      have f8_4:=HB8.out.cell 4
      have f8_5:=HB8.out.cell 5
      have f8_6:=HB8.out.cell 6
      have f8_0:=HB8.out.cell 0
      have f8_1:=HB8.out.cell 1
      have f8_2:=HB8.out.cell 2
      have f8_11 : w8.cell? ⟨w.heap.size, 11, none⟩ = some (.bool true):=by have:=HB8.out.cell 11; rw [show (gcs c R rc M mc)[11]? = some (.bool c.del) from rfl, HD.out] at this; exact this
      have f8_10:=HB8.out.cell 10
      go_wp2_with fail
      go_ret
      exact ⟨ret_bool (by rw [HR.out, hq, dP] <;> rfl), Hb8.out⟩
 ·have dP : decide (n2 < 0) = false:=decide_eq_false hP
  clear hP
  clear f5_7 f5_8 f5_9 f5_0 f5_1 f5_2
  have f6_7:=HB6.out.cell 7
  have f6_8:=HB6.out.cell 8
  have f6_9:=HB6.out.cell 9
  go_wp2_with fail
  refine (H8.out _).mono ?_
  rintro e w7 ⟨rfl, hb7⟩
  have Hb7:=Lib.hid (Hb6.out.trans (hb7.mono Hb6.out.size))
  have HB7:=Lib.hid (HB6.out.past hb7)
  clear hb7
  cases b6
  ·skip
   cases hq : eqCn c.id c.csn
   ·rcases eq_no hq with q1 | ⟨q1, q2⟩ | ⟨q1, q2, q3⟩
    all_goals
     clear f6_7 f6_8 f6_9
     have f7_3:=HB7.out.cell 3
     have f7_4:=HB7.out.cell 4
     have f7_5:=HB7.out.cell 5
     have f7_6:=HB7.out.cell 6
     have f7_0:=HB7.out.cell 0
     have f7_1:=HB7.out.cell 1
     have f7_2:=HB7.out.cell 2
     have f7_10:=HB7.out.cell 10
     go_wp2_with fail
     go_ret
     exact ⟨ret_bool (by rw [HR.out, hq, dP] <;> rfl), Hb7.out⟩
   ·obtain ⟨q1, q2, q3⟩:=eq_yes hq
    clear f6_7 f6_8 f6_9
    have f7_3:=HB7.out.cell 3
    have f7_4:=HB7.out.cell 4
    have f7_5:=HB7.out.cell 5
    have f7_6:=HB7.out.cell 6
    have f7_0:=HB7.out.cell 0
    have f7_1:=HB7.out.cell 1
    have f7_2:=HB7.out.cell 2
    have f7_10:=HB7.out.cell 10
    go_wp2_with fail
    go_ret
    exact ⟨ret_bool (by rw [HR.out, hq, dP] <;> rfl), Hb7.out⟩
  ·skip
   cases hq : eqCn c.id c.csn
   ·rcases eq_no hq with q1 | ⟨q1, q2⟩ | ⟨q1, q2, q3⟩
    all_goals
     clear f6_7 f6_8 f6_9
     have f7_3:=HB7.out.cell 3
     have f7_4:=HB7.out.cell 4
     have f7_5:=HB7.out.cell 5
     have f7_6:=HB7.out.cell 6
     have f7_0:=HB7.out.cell 0
     have f7_1:=HB7.out.cell 1
     have f7_2:=HB7.out.cell 2
     have f7_10:=HB7.out.cell 10
     go_wp2_with fail
     go_ret
     exact ⟨ret_bool (by rw [HR.out, hq, dP] <;> rfl), Hb7.out⟩
   ·obtain ⟨q1, q2, q3⟩:=eq_yes hq
    clear f6_7 f6_8 f6_9
    have f7_3:=HB7.out.cell 3
    have f7_4:=HB7.out.cell 4
    have f7_5:=HB7.out.cell 5
    have f7_6:=HB7.out.cell 6
    have f7_0:=HB7.out.cell 0
    have f7_1:=HB7.out.cell 1
    have f7_2:=HB7.out.cell 2
    have f7_10:=HB7.out.cell 10
    go_wp2_with fail
    go_ret
    exact ⟨ret_bool (by rw [HR.out, hq, dP] <;> rfl), Hb7.out⟩
set_option maxHeartbeats 4000000 in
theorem ris_2 (c : Cg) (cs : Array Value) (w : World) (hz : ∀ d ∈ c.mods, d.attr.size ≤ 1099511627776) (h : GAt w (· < w.heap.size) c cs) (hn : nums c = true) (hk : c.kind = 2) : Calls Tryz.prog 11 #[.agg cs] w (Flag w (isG c)):=by
 obtain ⟨R, rc, M, mc, ds, rfl, ⟨hR, hl, hrc⟩, hM, hml, hmc⟩:=h
 have hb0:=(Below.refl w.heap.size w).alloc (Nat.le_refl _) (.cells (gcs c R rc M mc) 28)
 have HB:=Lib.hid (Blk.new w 28 (gcs c R rc M mc))
 have Hb:=Lib.hid hb0
 have H1:=Lib.hid (fun w=>Cs.ris_any c.csn.t c.csn.s c.csn.r w)
 have H2:=Lib.hid (fun w=>Cs.rzero_any c.csn.t c.csn.s c.csn.r w)
 have H3:=Lib.hid (fun w=>Cs.ris_any c.id.t c.id.s c.id.r w)
 have H4:=Lib.hid (fun w=>Cs.ris_any c.par.t c.par.s c.par.r w)
 have H5:=Lib.hid (fun w=>Cs.rcmp_any c.id.t c.id.s c.id.r c.csn.t c.csn.s c.csn.r w)
 have H6:=Lib.hid (fun w=>Cs.rcmp_any c.par.t c.par.s c.par.r c.csn.t c.csn.s c.csn.r w)
 have H7:=Lib.hid (fun w1 (hb : Below w.heap.size w w1)=>rrdn_any R rc c.rdn w1 hl (hR.past hb))
 have H8:=Lib.hid (fun w=>Cs.rzero_any c.par.t c.par.s c.par.r w)
 have H9:=Lib.hid (fun w=>Cs.rzero_any c.id.t c.id.s c.id.r w)
 have HM:=Lib.hid (fun w1 (hb : Below w.heap.size w w1) (only : Bool)=>rmods_any M mc c.mods ds only w1 hml hz (hM.past hb))
 obtain ⟨bd, hbd⟩ : ∃ b, c.del = b:=⟨_, rfl⟩
 have HD:=Lib.hid hbd
 unfold maxLen at hl hml
 have hn2 : (Cs.isC c.csn.t c.csn.s c.csn.r && (!decide (c.csn.t = 0 ∧ c.csn.s = 0 ∧ c.csn.r = 0) && (Cs.isC c.id.t c.id.s c.id.r && Cs.isC c.par.t c.par.s c.par.r))) = true:=hn
 generalize Cs.isC c.csn.t c.csn.s c.csn.r = b1 at H1 hn2
 generalize decide (c.csn.t = 0 ∧ c.csn.s = 0 ∧ c.csn.r = 0) = b2 at H2 hn2
 generalize Cs.isC c.id.t c.id.s c.id.r = b3 at H3 hn2
 generalize Cs.isC c.par.t c.par.s c.par.r = b4 at H4 hn2
 obtain ⟨rfl, rfl, rfl, rfl⟩ : b1 = true ∧ b2 = false ∧ b3 = true ∧ b4 = true:=by
  revert hn2; cases b1 <;> cases b2 <;> cases b3 <;> cases b4 <;> simp
 have hG:=isG_2 hn hk
 have kf1 : (c.kind == 1) = false:=beq_eq_false_iff_ne.mpr (by omega)
 have kf2 : (c.kind == 2) = true:=beq_iff_eq.mpr hk
 generalize Cs.cmpC c.id.t c.id.s c.id.r c.csn.t c.csn.s c.csn.r = n1 at H5 hG
 generalize Cs.cmpC c.par.t c.par.s c.par.r c.csn.t c.csn.s c.csn.r = n2 at H6 hG
 generalize okR c.rdn = b5 at H7 hG
 have hG2:=hG
 unfold zCn at hG2
 clear hG
 generalize decide (c.par.t = 0 ∧ c.par.s = 0 ∧ c.par.r = 0) = b6 at H8 hG2
 generalize decide (c.id.t = 0 ∧ c.id.s = 0 ∧ c.id.r = 0) = b7 at H9 hG2
 rw [hbd] at hG2
 have HR:=Lib.hid hG2
 clear hn hn2 hG2 hR hM hz hb0 hbd HM
 go_enter Tryz.func11, Tryz.ntmps11
 have f0_0:=HB.out.cell 0
 have f0_1:=HB.out.cell 1
 have f0_2:=HB.out.cell 2
 go_wp2_with fail
 refine (H1.out _).mono ?_
 rintro e w1 ⟨rfl, hb1⟩
 have Hb1:=Lib.hid (Hb.out.trans (hb1.mono Hb.out.size))
 have HB1:=Lib.hid (HB.out.past hb1)
 clear hb1
 clear f0_0 f0_1 f0_2
 have f1_0:=HB1.out.cell 0
 have f1_1:=HB1.out.cell 1
 have f1_2:=HB1.out.cell 2
 go_wp2_with fail
 refine (H2.out _).mono ?_
 rintro e w2 ⟨rfl, hb2⟩
 have Hb2:=Lib.hid (Hb1.out.trans (hb2.mono Hb1.out.size))
 have HB2:=Lib.hid (HB1.out.past hb2)
 clear hb2
 clear f1_0 f1_1 f1_2
 have f2_4:=HB2.out.cell 4
 have f2_5:=HB2.out.cell 5
 have f2_6:=HB2.out.cell 6
 go_wp2_with fail
 refine (H3.out _).mono ?_
 rintro e w3 ⟨rfl, hb3⟩
 have Hb3:=Lib.hid (Hb2.out.trans (hb3.mono Hb2.out.size))
 have HB3:=Lib.hid (HB2.out.past hb3)
 clear hb3
 clear f2_4 f2_5 f2_6
 have f3_7:=HB3.out.cell 7
 have f3_8:=HB3.out.cell 8
 have f3_9:=HB3.out.cell 9
 go_wp2_with fail
 refine (H4.out _).mono ?_
 rintro e w4 ⟨rfl, hb4⟩
 have Hb4:=Lib.hid (Hb3.out.trans (hb4.mono Hb3.out.size))
 have HB4:=Lib.hid (HB3.out.past hb4)
 clear hb4
 clear f3_7 f3_8 f3_9
 have f4_4:=HB4.out.cell 4
 have f4_5:=HB4.out.cell 5
 have f4_6:=HB4.out.cell 6
 have f4_0:=HB4.out.cell 0
 have f4_1:=HB4.out.cell 1
 have f4_2:=HB4.out.cell 2
 go_wp2_with fail
 refine (H5.out _).mono ?_
 rintro e w5 ⟨rfl, hb5⟩
 have Hb5:=Lib.hid (Hb4.out.trans (hb5.mono Hb4.out.size))
 have HB5:=Lib.hid (HB4.out.past hb5)
 clear hb5
 have dLT : (n1 < 0) ∨ ¬ (n1 < 0):=Classical.em _
 clear f4_4 f4_5 f4_6 f4_0 f4_1 f4_2
 have f5_7:=HB5.out.cell 7
 have f5_8:=HB5.out.cell 8
 have f5_9:=HB5.out.cell 9
 have f5_0:=HB5.out.cell 0
 have f5_1:=HB5.out.cell 1
 have f5_2:=HB5.out.cell 2
 go_wp2_with fail
 refine (H6.out _).mono ?_
 rintro e w6 ⟨rfl, hb6⟩
 have Hb6:=Lib.hid (Hb5.out.trans (hb6.mono Hb5.out.size))
 have HB6:=Lib.hid (HB5.out.past hb6)
 clear hb6
 by_cases hP : n2 < 0
 ·have dP : decide (n2 < 0) = true:=decide_eq_true hP
  clear hP
  clear f5_7 f5_8 f5_9 f5_0 f5_1 f5_2
  have f6_10:=HB6.out.cell 10
  go_wp2_with fail
  refine (H7.out _ Hb6.out).mono ?_
  rintro e w7 ⟨rfl, hb7⟩
  have Hb7:=Lib.hid (Hb6.out.trans (hb7.mono Hb6.out.size))
  have HB7:=Lib.hid (HB6.out.past hb7)
  clear hb7
  clear f6_10
  have f7_7:=HB7.out.cell 7
  have f7_8:=HB7.out.cell 8
  have f7_9:=HB7.out.cell 9
  go_wp2_with fail
  refine (H8.out _).mono ?_
  rintro e w8 ⟨rfl, hb8⟩
  have Hb8:=Lib.hid (Hb7.out.trans (hb8.mono Hb7.out.size))
  have HB8:=Lib.hid (HB7.out.past hb8)
  clear hb8
  cases b6
  ·skip
   by_cases hE : c.rdn.length = 0
   ·have dE:=decide_eq_true hE
    have hEi : ((c.rdn.length : Int) == 0) = true:=by rw [beq_iff_eq]; omega
    clear hE
    rcases dLT with hL | hL
    ·have dL : decide (n1 < 0) = true:=decide_eq_true (by omega)
     clear hL
     clear f7_7 f7_8 f7_9
     have f8_3:=HB8.out.cell 3
     have f8_4:=HB8.out.cell 4
     have f8_5:=HB8.out.cell 5
     have f8_6:=HB8.out.cell 6
     have f8_10:=HB8.out.cell 10
     go_wp2_with fail
     refine (H9.out _).mono ?_
     rintro e w9 ⟨rfl, hb9⟩
     have Hb9:=Lib.hid (Hb8.out.trans (hb9.mono Hb8.out.size))
     have HB9:=Lib.hid (HB8.out.past hb9)
     clear hb9
     cases b7
     ·skip
      go_wp2_with fail
      go_ret
      exact ⟨ret_bool (by rw [HR.out, dE, dL] <;> rfl), Hb9.out⟩
     ·skip
      go_wp2_with fail
      go_ret
      exact ⟨ret_bool (by rw [HR.out, dE, dL] <;> rfl), Hb9.out⟩
    ·have dL : decide (n1 < 0) = false:=decide_eq_false (by omega)
     clear hL
     clear f7_7 f7_8 f7_9
     have f8_3:=HB8.out.cell 3
     have f8_10:=HB8.out.cell 10
     go_wp2_with fail
     go_ret
     exact ⟨ret_bool (by rw [HR.out, dE, dL] <;> rfl), Hb8.out⟩
   ·have dE:=decide_eq_false hE
    have hEi : ((c.rdn.length : Int) == 0) = false:=by rw [beq_eq_false_iff_ne]; omega
    clear hE
    rcases dLT with hL | hL
    ·have dL : decide (n1 < 0) = true:=decide_eq_true (by omega)
     clear hL
     clear f7_7 f7_8 f7_9
     have f8_3:=HB8.out.cell 3
     have f8_4:=HB8.out.cell 4
     have f8_5:=HB8.out.cell 5
     have f8_6:=HB8.out.cell 6
     have f8_10:=HB8.out.cell 10
     go_wp2_with fail
     refine (H9.out _).mono ?_
     rintro e w9 ⟨rfl, hb9⟩
     have Hb9:=Lib.hid (Hb8.out.trans (hb9.mono Hb8.out.size))
     have HB9:=Lib.hid (HB8.out.past hb9)
     clear hb9
     cases b7
     ·skip
      go_wp2_with fail
      go_ret
      exact ⟨ret_bool (by rw [HR.out, dE, dL] <;> rfl), Hb9.out⟩
     ·skip
      go_wp2_with fail
      go_ret
      exact ⟨ret_bool (by rw [HR.out, dE, dL] <;> rfl), Hb9.out⟩
    ·have dL : decide (n1 < 0) = false:=decide_eq_false (by omega)
     clear hL
     clear f7_7 f7_8 f7_9
     have f8_3:=HB8.out.cell 3
     have f8_10:=HB8.out.cell 10
     go_wp2_with fail
     go_ret
     exact ⟨ret_bool (by rw [HR.out, dE, dL] <;> rfl), Hb8.out⟩
  ·skip
   by_cases hE : c.rdn.length = 0
   ·have dE:=decide_eq_true hE
    have hEi : ((c.rdn.length : Int) == 0) = true:=by rw [beq_iff_eq]; omega
    clear hE
    rcases dLT with hL | hL
    ·have dL : decide (n1 < 0) = true:=decide_eq_true (by omega)
     clear hL
     clear f7_7 f7_8 f7_9
     have f8_3:=HB8.out.cell 3
     have f8_4:=HB8.out.cell 4
     have f8_5:=HB8.out.cell 5
     have f8_6:=HB8.out.cell 6
     have f8_10:=HB8.out.cell 10
     go_wp2_with fail
     refine (H9.out _).mono ?_
     rintro e w9 ⟨rfl, hb9⟩
     have Hb9:=Lib.hid (Hb8.out.trans (hb9.mono Hb8.out.size))
     have HB9:=Lib.hid (HB8.out.past hb9)
     clear hb9
     cases b7
     ·skip
      cases bd
      ·skip
       by_cases hN : c.mods.length = 0
       ·have dN:=decide_eq_true hN
        have hNi : ((c.mods.length : Int) == 0) = true:=by rw [beq_iff_eq]; omega
        clear hN
        clear f8_3 f8_4 f8_5 f8_6 f8_10
        have f9_11 : w9.cell? ⟨w.heap.size, 11, none⟩ = some (.bool false):=by have:=HB9.out.cell 11; rw [show (gcs c R rc M mc)[11]? = some (.bool c.del) from rfl, HD.out] at this; exact this
        have f9_12:=HB9.out.cell 12
        go_wp2_with fail
        go_ret
        exact ⟨ret_bool (by rw [HR.out, dE, dL, dN] <;> rfl), Hb9.out⟩
       ·have dN:=decide_eq_false hN
        have hNi : ((c.mods.length : Int) == 0) = false:=by rw [beq_eq_false_iff_ne]; omega
        clear hN
        clear f8_3 f8_4 f8_5 f8_6 f8_10
        have f9_11 : w9.cell? ⟨w.heap.size, 11, none⟩ = some (.bool false):=by have:=HB9.out.cell 11; rw [show (gcs c R rc M mc)[11]? = some (.bool c.del) from rfl, HD.out] at this; exact this
        have f9_12:=HB9.out.cell 12
        go_wp2_with fail
        go_ret
        exact ⟨ret_bool (by rw [HR.out, dE, dL, dN] <;> rfl), Hb9.out⟩
      ·skip
       clear f8_3 f8_4 f8_5 f8_6 f8_10
       have f9_11 : w9.cell? ⟨w.heap.size, 11, none⟩ = some (.bool true):=by have:=HB9.out.cell 11; rw [show (gcs c R rc M mc)[11]? = some (.bool c.del) from rfl, HD.out] at this; exact this
       go_wp2_with fail
       go_ret
       exact ⟨ret_bool (by rw [HR.out, dE, dL] <;> rfl), Hb9.out⟩
     ·skip
      go_wp2_with fail
      go_ret
      exact ⟨ret_bool (by rw [HR.out, dE, dL] <;> rfl), Hb9.out⟩
    ·have dL : decide (n1 < 0) = false:=decide_eq_false (by omega)
     clear hL
     clear f7_7 f7_8 f7_9
     have f8_3:=HB8.out.cell 3
     have f8_10:=HB8.out.cell 10
     go_wp2_with fail
     go_ret
     exact ⟨ret_bool (by rw [HR.out, dE, dL] <;> rfl), Hb8.out⟩
   ·have dE:=decide_eq_false hE
    have hEi : ((c.rdn.length : Int) == 0) = false:=by rw [beq_eq_false_iff_ne]; omega
    clear hE
    rcases dLT with hL | hL
    ·have dL : decide (n1 < 0) = true:=decide_eq_true (by omega)
     clear hL
     clear f7_7 f7_8 f7_9
     have f8_3:=HB8.out.cell 3
     have f8_4:=HB8.out.cell 4
     have f8_5:=HB8.out.cell 5
     have f8_6:=HB8.out.cell 6
     have f8_10:=HB8.out.cell 10
     go_wp2_with fail
     refine (H9.out _).mono ?_
     rintro e w9 ⟨rfl, hb9⟩
     have Hb9:=Lib.hid (Hb8.out.trans (hb9.mono Hb8.out.size))
     have HB9:=Lib.hid (HB8.out.past hb9)
     clear hb9
     cases b7
     ·skip
      go_wp2_with fail
      go_ret
      exact ⟨ret_bool (by rw [HR.out, dE, dL] <;> rfl), Hb9.out⟩
     ·skip
      go_wp2_with fail
      go_ret
      exact ⟨ret_bool (by rw [HR.out, dE, dL] <;> rfl), Hb9.out⟩
    ·have dL : decide (n1 < 0) = false:=decide_eq_false (by omega)
     clear hL
     clear f7_7 f7_8 f7_9
     have f8_3:=HB8.out.cell 3
     have f8_10:=HB8.out.cell 10
     go_wp2_with fail
     go_ret
     exact ⟨ret_bool (by rw [HR.out, dE, dL] <;> rfl), Hb8.out⟩
 ·have dP : decide (n2 < 0) = false:=decide_eq_false hP
  clear hP
  clear f5_7 f5_8 f5_9 f5_0 f5_1 f5_2
  have f6_7:=HB6.out.cell 7
  have f6_8:=HB6.out.cell 8
  have f6_9:=HB6.out.cell 9
  go_wp2_with fail
  refine (H8.out _).mono ?_
  rintro e w7 ⟨rfl, hb7⟩
  have Hb7:=Lib.hid (Hb6.out.trans (hb7.mono Hb6.out.size))
  have HB7:=Lib.hid (HB6.out.past hb7)
  clear hb7
  cases b6
  ·skip
   by_cases hE : c.rdn.length = 0
   ·have dE:=decide_eq_true hE
    have hEi : ((c.rdn.length : Int) == 0) = true:=by rw [beq_iff_eq]; omega
    clear hE
    rcases dLT with hL | hL
    ·have dL : decide (n1 < 0) = true:=decide_eq_true (by omega)
     clear hL
     clear f6_7 f6_8 f6_9
     have f7_3:=HB7.out.cell 3
     have f7_4:=HB7.out.cell 4
     have f7_5:=HB7.out.cell 5
     have f7_6:=HB7.out.cell 6
     have f7_10:=HB7.out.cell 10
     go_wp2_with fail
     refine (H9.out _).mono ?_
     rintro e w8 ⟨rfl, hb8⟩
     have Hb8:=Lib.hid (Hb7.out.trans (hb8.mono Hb7.out.size))
     have HB8:=Lib.hid (HB7.out.past hb8)
     clear hb8
     cases b7
     ·skip
      go_wp2_with fail
      go_ret
      exact ⟨ret_bool (by rw [HR.out, dE, dL] <;> rfl), Hb8.out⟩
     ·skip
      go_wp2_with fail
      go_ret
      exact ⟨ret_bool (by rw [HR.out, dE, dL] <;> rfl), Hb8.out⟩
    ·have dL : decide (n1 < 0) = false:=decide_eq_false (by omega)
     clear hL
     clear f6_7 f6_8 f6_9
     have f7_3:=HB7.out.cell 3
     have f7_10:=HB7.out.cell 10
     go_wp2_with fail
     go_ret
     exact ⟨ret_bool (by rw [HR.out, dE, dL] <;> rfl), Hb7.out⟩
   ·have dE:=decide_eq_false hE
    have hEi : ((c.rdn.length : Int) == 0) = false:=by rw [beq_eq_false_iff_ne]; omega
    clear hE
    rcases dLT with hL | hL
    ·have dL : decide (n1 < 0) = true:=decide_eq_true (by omega)
     clear hL
     clear f6_7 f6_8 f6_9
     have f7_3:=HB7.out.cell 3
     have f7_4:=HB7.out.cell 4
     have f7_5:=HB7.out.cell 5
     have f7_6:=HB7.out.cell 6
     have f7_10:=HB7.out.cell 10
     go_wp2_with fail
     refine (H9.out _).mono ?_
     rintro e w8 ⟨rfl, hb8⟩
     have Hb8:=Lib.hid (Hb7.out.trans (hb8.mono Hb7.out.size))
     have HB8:=Lib.hid (HB7.out.past hb8)
     clear hb8
     cases b7
     ·skip
      go_wp2_with fail
      go_ret
      exact ⟨ret_bool (by rw [HR.out, dE, dL] <;> rfl), Hb8.out⟩
     ·skip
      go_wp2_with fail
      go_ret
      exact ⟨ret_bool (by rw [HR.out, dE, dL] <;> rfl), Hb8.out⟩
    ·have dL : decide (n1 < 0) = false:=decide_eq_false (by omega)
     clear hL
     clear f6_7 f6_8 f6_9
     have f7_3:=HB7.out.cell 3
     have f7_10:=HB7.out.cell 10
     go_wp2_with fail
     go_ret
     exact ⟨ret_bool (by rw [HR.out, dE, dL] <;> rfl), Hb7.out⟩
  ·skip
   by_cases hE : c.rdn.length = 0
   ·have dE:=decide_eq_true hE
    have hEi : ((c.rdn.length : Int) == 0) = true:=by rw [beq_iff_eq]; omega
    clear hE
    rcases dLT with hL | hL
    ·have dL : decide (n1 < 0) = true:=decide_eq_true (by omega)
     clear hL
     clear f6_7 f6_8 f6_9
     have f7_3:=HB7.out.cell 3
     have f7_4:=HB7.out.cell 4
     have f7_5:=HB7.out.cell 5
     have f7_6:=HB7.out.cell 6
     have f7_10:=HB7.out.cell 10
     go_wp2_with fail
     refine (H9.out _).mono ?_
     rintro e w8 ⟨rfl, hb8⟩
     have Hb8:=Lib.hid (Hb7.out.trans (hb8.mono Hb7.out.size))
     have HB8:=Lib.hid (HB7.out.past hb8)
     clear hb8
     cases b7
     ·skip
      cases bd
      ·skip
       by_cases hN : c.mods.length = 0
       ·have dN:=decide_eq_true hN
        have hNi : ((c.mods.length : Int) == 0) = true:=by rw [beq_iff_eq]; omega
        clear hN
        clear f7_3 f7_4 f7_5 f7_6 f7_10
        have f8_11 : w8.cell? ⟨w.heap.size, 11, none⟩ = some (.bool false):=by have:=HB8.out.cell 11; rw [show (gcs c R rc M mc)[11]? = some (.bool c.del) from rfl, HD.out] at this; exact this
        have f8_12:=HB8.out.cell 12
        go_wp2_with fail
        go_ret
        exact ⟨ret_bool (by rw [HR.out, dE, dL, dN] <;> rfl), Hb8.out⟩
       ·have dN:=decide_eq_false hN
        have hNi : ((c.mods.length : Int) == 0) = false:=by rw [beq_eq_false_iff_ne]; omega
        clear hN
        clear f7_3 f7_4 f7_5 f7_6 f7_10
        have f8_11 : w8.cell? ⟨w.heap.size, 11, none⟩ = some (.bool false):=by have:=HB8.out.cell 11; rw [show (gcs c R rc M mc)[11]? = some (.bool c.del) from rfl, HD.out] at this; exact this
        have f8_12:=HB8.out.cell 12
        go_wp2_with fail
        go_ret
        exact ⟨ret_bool (by rw [HR.out, dE, dL, dN] <;> rfl), Hb8.out⟩
      ·skip
       clear f7_3 f7_4 f7_5 f7_6 f7_10
       have f8_11 : w8.cell? ⟨w.heap.size, 11, none⟩ = some (.bool true):=by have:=HB8.out.cell 11; rw [show (gcs c R rc M mc)[11]? = some (.bool c.del) from rfl, HD.out] at this; exact this
       go_wp2_with fail
       go_ret
       exact ⟨ret_bool (by rw [HR.out, dE, dL] <;> rfl), Hb8.out⟩
     ·skip
      go_wp2_with fail
      go_ret
      exact ⟨ret_bool (by rw [HR.out, dE, dL] <;> rfl), Hb8.out⟩
    ·have dL : decide (n1 < 0) = false:=decide_eq_false (by omega)
     clear hL
     clear f6_7 f6_8 f6_9
     have f7_3:=HB7.out.cell 3
     have f7_10:=HB7.out.cell 10
     go_wp2_with fail
     go_ret
     exact ⟨ret_bool (by rw [HR.out, dE, dL] <;> rfl), Hb7.out⟩
   ·have dE:=decide_eq_false hE
    have hEi : ((c.rdn.length : Int) == 0) = false:=by rw [beq_eq_false_iff_ne]; omega
    clear hE
    rcases dLT with hL | hL
    ·have dL : decide (n1 < 0) = true:=decide_eq_true (by omega)
     clear hL
     clear f6_7 f6_8 f6_9
     have f7_3:=HB7.out.cell 3
     have f7_4:=HB7.out.cell 4
     have f7_5:=HB7.out.cell 5
     have f7_6:=HB7.out.cell 6
     have f7_10:=HB7.out.cell 10
     go_wp2_with fail
     refine (H9.out _).mono ?_
     rintro e w8 ⟨rfl, hb8⟩
     have Hb8:=Lib.hid (Hb7.out.trans (hb8.mono Hb7.out.size))
     have HB8:=Lib.hid (HB7.out.past hb8)
     clear hb8
     cases b7
     ·skip
      go_wp2_with fail
      go_ret
      exact ⟨ret_bool (by rw [HR.out, dE, dL] <;> rfl), Hb8.out⟩
     ·skip
      go_wp2_with fail
      go_ret
      exact ⟨ret_bool (by rw [HR.out, dE, dL] <;> rfl), Hb8.out⟩
    ·have dL : decide (n1 < 0) = false:=decide_eq_false (by omega)
     clear hL
     clear f6_7 f6_8 f6_9
     have f7_3:=HB7.out.cell 3
     have f7_10:=HB7.out.cell 10
     go_wp2_with fail
     go_ret
     exact ⟨ret_bool (by rw [HR.out, dE, dL] <;> rfl), Hb7.out⟩
set_option maxHeartbeats 4000000 in
theorem ris_3 (c : Cg) (cs : Array Value) (w : World) (hz : ∀ d ∈ c.mods, d.attr.size ≤ 1099511627776) (h : GAt w (· < w.heap.size) c cs) (hn : nums c = true) (hk : c.kind = 3) : Calls Tryz.prog 11 #[.agg cs] w (Flag w (isG c)):=by
 obtain ⟨R, rc, M, mc, ds, rfl, ⟨hR, hl, hrc⟩, hM, hml, hmc⟩:=h
 have hb0:=(Below.refl w.heap.size w).alloc (Nat.le_refl _) (.cells (gcs c R rc M mc) 28)
 have HB:=Lib.hid (Blk.new w 28 (gcs c R rc M mc))
 have Hb:=Lib.hid hb0
 have H1:=Lib.hid (fun w=>Cs.ris_any c.csn.t c.csn.s c.csn.r w)
 have H2:=Lib.hid (fun w=>Cs.rzero_any c.csn.t c.csn.s c.csn.r w)
 have H3:=Lib.hid (fun w=>Cs.ris_any c.id.t c.id.s c.id.r w)
 have H4:=Lib.hid (fun w=>Cs.ris_any c.par.t c.par.s c.par.r w)
 have H5:=Lib.hid (fun w=>Cs.rcmp_any c.id.t c.id.s c.id.r c.csn.t c.csn.s c.csn.r w)
 have H6:=Lib.hid (fun w=>Cs.rcmp_any c.par.t c.par.s c.par.r c.csn.t c.csn.s c.csn.r w)
 have H7:=Lib.hid (fun w1 (hb : Below w.heap.size w w1)=>rrdn_any R rc c.rdn w1 hl (hR.past hb))
 have H8:=Lib.hid (fun w=>Cs.rzero_any c.par.t c.par.s c.par.r w)
 have H9:=Lib.hid (fun w=>Cs.rzero_any c.id.t c.id.s c.id.r w)
 have HM:=Lib.hid (fun w1 (hb : Below w.heap.size w w1) (only : Bool)=>rmods_any M mc c.mods ds only w1 hml hz (hM.past hb))
 obtain ⟨bd, hbd⟩ : ∃ b, c.del = b:=⟨_, rfl⟩
 have HD:=Lib.hid hbd
 unfold maxLen at hl hml
 have hn2 : (Cs.isC c.csn.t c.csn.s c.csn.r && (!decide (c.csn.t = 0 ∧ c.csn.s = 0 ∧ c.csn.r = 0) && (Cs.isC c.id.t c.id.s c.id.r && Cs.isC c.par.t c.par.s c.par.r))) = true:=hn
 generalize Cs.isC c.csn.t c.csn.s c.csn.r = b1 at H1 hn2
 generalize decide (c.csn.t = 0 ∧ c.csn.s = 0 ∧ c.csn.r = 0) = b2 at H2 hn2
 generalize Cs.isC c.id.t c.id.s c.id.r = b3 at H3 hn2
 generalize Cs.isC c.par.t c.par.s c.par.r = b4 at H4 hn2
 obtain ⟨rfl, rfl, rfl, rfl⟩ : b1 = true ∧ b2 = false ∧ b3 = true ∧ b4 = true:=by
  revert hn2; cases b1 <;> cases b2 <;> cases b3 <;> cases b4 <;> simp
 have hG:=isG_3 hn hk
 have kf1 : (c.kind == 1) = false:=beq_eq_false_iff_ne.mpr (by omega)
 have kf2 : (c.kind == 2) = false:=beq_eq_false_iff_ne.mpr (by omega)
 have kf3 : (c.kind == 3) = true:=beq_iff_eq.mpr hk
 generalize Cs.cmpC c.id.t c.id.s c.id.r c.csn.t c.csn.s c.csn.r = n1 at H5 hG
 generalize Cs.cmpC c.par.t c.par.s c.par.r c.csn.t c.csn.s c.csn.r = n2 at H6 hG
 generalize okR c.rdn = b5 at H7 hG
 have hG2:=hG
 unfold zCn at hG2
 clear hG
 generalize decide (c.par.t = 0 ∧ c.par.s = 0 ∧ c.par.r = 0) = b6 at H8 hG2
 generalize decide (c.id.t = 0 ∧ c.id.s = 0 ∧ c.id.r = 0) = b7 at H9 hG2
 rw [hbd] at hG2
 have HM1:=Lib.hid (fun w1 hb=>HM.out w1 hb false)
 generalize (!c.mods.any (badM false) && decide (c.mods.length ≤ 8)) = m at HM1 hG2
 have HR:=Lib.hid hG2
 clear hn hn2 hG2 hR hM hz hb0 hbd HM
 go_enter Tryz.func11, Tryz.ntmps11
 have f0_0:=HB.out.cell 0
 have f0_1:=HB.out.cell 1
 have f0_2:=HB.out.cell 2
 go_wp2_with fail
 refine (H1.out _).mono ?_
 rintro e w1 ⟨rfl, hb1⟩
 have Hb1:=Lib.hid (Hb.out.trans (hb1.mono Hb.out.size))
 have HB1:=Lib.hid (HB.out.past hb1)
 clear hb1
 clear f0_0 f0_1 f0_2
 have f1_0:=HB1.out.cell 0
 have f1_1:=HB1.out.cell 1
 have f1_2:=HB1.out.cell 2
 go_wp2_with fail
 refine (H2.out _).mono ?_
 rintro e w2 ⟨rfl, hb2⟩
 have Hb2:=Lib.hid (Hb1.out.trans (hb2.mono Hb1.out.size))
 have HB2:=Lib.hid (HB1.out.past hb2)
 clear hb2
 clear f1_0 f1_1 f1_2
 have f2_4:=HB2.out.cell 4
 have f2_5:=HB2.out.cell 5
 have f2_6:=HB2.out.cell 6
 go_wp2_with fail
 refine (H3.out _).mono ?_
 rintro e w3 ⟨rfl, hb3⟩
 have Hb3:=Lib.hid (Hb2.out.trans (hb3.mono Hb2.out.size))
 have HB3:=Lib.hid (HB2.out.past hb3)
 clear hb3
 clear f2_4 f2_5 f2_6
 have f3_7:=HB3.out.cell 7
 have f3_8:=HB3.out.cell 8
 have f3_9:=HB3.out.cell 9
 go_wp2_with fail
 refine (H4.out _).mono ?_
 rintro e w4 ⟨rfl, hb4⟩
 have Hb4:=Lib.hid (Hb3.out.trans (hb4.mono Hb3.out.size))
 have HB4:=Lib.hid (HB3.out.past hb4)
 clear hb4
 clear f3_7 f3_8 f3_9
 have f4_4:=HB4.out.cell 4
 have f4_5:=HB4.out.cell 5
 have f4_6:=HB4.out.cell 6
 have f4_0:=HB4.out.cell 0
 have f4_1:=HB4.out.cell 1
 have f4_2:=HB4.out.cell 2
 go_wp2_with fail
 refine (H5.out _).mono ?_
 rintro e w5 ⟨rfl, hb5⟩
 have Hb5:=Lib.hid (Hb4.out.trans (hb5.mono Hb4.out.size))
 have HB5:=Lib.hid (HB4.out.past hb5)
 clear hb5
 have dLT : (n1 < 0) ∨ ¬ (n1 < 0):=Classical.em _
 clear f4_4 f4_5 f4_6 f4_0 f4_1 f4_2
 have f5_7:=HB5.out.cell 7
 have f5_8:=HB5.out.cell 8
 have f5_9:=HB5.out.cell 9
 have f5_0:=HB5.out.cell 0
 have f5_1:=HB5.out.cell 1
 have f5_2:=HB5.out.cell 2
 go_wp2_with fail
 refine (H6.out _).mono ?_
 rintro e w6 ⟨rfl, hb6⟩
 have Hb6:=Lib.hid (Hb5.out.trans (hb6.mono Hb5.out.size))
 have HB6:=Lib.hid (HB5.out.past hb6)
 clear hb6
 by_cases hP : n2 < 0
 ·have dP : decide (n2 < 0) = true:=decide_eq_true hP
  clear hP
  clear f5_7 f5_8 f5_9 f5_0 f5_1 f5_2
  have f6_10:=HB6.out.cell 10
  go_wp2_with fail
  refine (H7.out _ Hb6.out).mono ?_
  rintro e w7 ⟨rfl, hb7⟩
  have Hb7:=Lib.hid (Hb6.out.trans (hb7.mono Hb6.out.size))
  have HB7:=Lib.hid (HB6.out.past hb7)
  clear hb7
  clear f6_10
  have f7_7:=HB7.out.cell 7
  have f7_8:=HB7.out.cell 8
  have f7_9:=HB7.out.cell 9
  go_wp2_with fail
  refine (H8.out _).mono ?_
  rintro e w8 ⟨rfl, hb8⟩
  have Hb8:=Lib.hid (Hb7.out.trans (hb8.mono Hb7.out.size))
  have HB8:=Lib.hid (HB7.out.past hb8)
  clear hb8
  cases b6
  ·skip
   by_cases hE : c.rdn.length = 0
   ·have dE:=decide_eq_true hE
    have hEi : ((c.rdn.length : Int) == 0) = true:=by rw [beq_iff_eq]; omega
    clear hE
    rcases dLT with hL | hL
    ·have dL : decide (n1 < 0) = true:=decide_eq_true (by omega)
     clear hL
     clear f7_7 f7_8 f7_9
     have f8_3:=HB8.out.cell 3
     have f8_10:=HB8.out.cell 10
     go_wp2_with fail
     go_ret
     exact ⟨ret_bool (by rw [HR.out, dE, dL] <;> rfl), Hb8.out⟩
    ·have dL : decide (n1 < 0) = false:=decide_eq_false (by omega)
     clear hL
     clear f7_7 f7_8 f7_9
     have f8_3:=HB8.out.cell 3
     have f8_10:=HB8.out.cell 10
     go_wp2_with fail
     go_ret
     exact ⟨ret_bool (by rw [HR.out, dE, dL] <;> rfl), Hb8.out⟩
   ·have dE:=decide_eq_false hE
    have hEi : ((c.rdn.length : Int) == 0) = false:=by rw [beq_eq_false_iff_ne]; omega
    clear hE
    rcases dLT with hL | hL
    ·have dL : decide (n1 < 0) = true:=decide_eq_true (by omega)
     clear hL
     clear f7_7 f7_8 f7_9
     have f8_3:=HB8.out.cell 3
     have f8_10:=HB8.out.cell 10
     go_wp2_with fail
     go_ret
     exact ⟨ret_bool (by rw [HR.out, dE, dL] <;> rfl), Hb8.out⟩
    ·have dL : decide (n1 < 0) = false:=decide_eq_false (by omega)
     clear hL
     clear f7_7 f7_8 f7_9
     have f8_3:=HB8.out.cell 3
     have f8_10:=HB8.out.cell 10
     go_wp2_with fail
     go_ret
     exact ⟨ret_bool (by rw [HR.out, dE, dL] <;> rfl), Hb8.out⟩
  ·skip
   by_cases hE : c.rdn.length = 0
   ·have dE:=decide_eq_true hE
    have hEi : ((c.rdn.length : Int) == 0) = true:=by rw [beq_iff_eq]; omega
    clear hE
    rcases dLT with hL | hL
    ·have dL : decide (n1 < 0) = true:=decide_eq_true (by omega)
     clear hL
     cases bd
     ·skip
      by_cases hN : 0 < c.mods.length
      ·have dN:=decide_eq_true hN
       have hNi : decide ((c.mods.length : Int) > 0) = true:=decide_eq_true (by omega)
       have hNj : 0 < (c.mods.length : Int):=by omega
       clear hN
       clear f7_7 f7_8 f7_9
       have f8_3:=HB8.out.cell 3
       have f8_11 : w8.cell? ⟨w.heap.size, 11, none⟩ = some (.bool false):=by have:=HB8.out.cell 11; rw [show (gcs c R rc M mc)[11]? = some (.bool c.del) from rfl, HD.out] at this; exact this
       have f8_12:=HB8.out.cell 12
       have f8_10:=HB8.out.cell 10
       go_wp2_with fail
       refine (HM1.out _ Hb8.out).mono ?_
       rintro e w9 ⟨rfl, hb9⟩
       have Hb9:=Lib.hid (Hb8.out.trans (hb9.mono Hb8.out.size))
       have HB9:=Lib.hid (HB8.out.past hb9)
       clear hb9
       go_wp2_with fail
       go_ret
       exact ⟨ret_bool (by rw [HR.out, dE, dL, dN] <;> rfl), Hb9.out⟩
      ·have dN:=decide_eq_false hN
       have hNj : (c.mods.length : Int) ≤ 0:=by omega
       clear hN
       clear f7_7 f7_8 f7_9
       have f8_3:=HB8.out.cell 3
       have f8_11 : w8.cell? ⟨w.heap.size, 11, none⟩ = some (.bool false):=by have:=HB8.out.cell 11; rw [show (gcs c R rc M mc)[11]? = some (.bool c.del) from rfl, HD.out] at this; exact this
       have f8_12:=HB8.out.cell 12
       have f8_10:=HB8.out.cell 10
       go_wp2_with fail
       go_ret
       exact ⟨ret_bool (by rw [HR.out, dE, dL, dN] <;> rfl), Hb8.out⟩
     ·skip
      clear f7_7 f7_8 f7_9
      have f8_3:=HB8.out.cell 3
      have f8_11 : w8.cell? ⟨w.heap.size, 11, none⟩ = some (.bool true):=by have:=HB8.out.cell 11; rw [show (gcs c R rc M mc)[11]? = some (.bool c.del) from rfl, HD.out] at this; exact this
      have f8_10:=HB8.out.cell 10
      go_wp2_with fail
      go_ret
      exact ⟨ret_bool (by rw [HR.out, dE, dL] <;> rfl), Hb8.out⟩
    ·have dL : decide (n1 < 0) = false:=decide_eq_false (by omega)
     clear hL
     clear f7_7 f7_8 f7_9
     have f8_3:=HB8.out.cell 3
     have f8_10:=HB8.out.cell 10
     go_wp2_with fail
     go_ret
     exact ⟨ret_bool (by rw [HR.out, dE, dL] <;> rfl), Hb8.out⟩
   ·have dE:=decide_eq_false hE
    have hEi : ((c.rdn.length : Int) == 0) = false:=by rw [beq_eq_false_iff_ne]; omega
    clear hE
    rcases dLT with hL | hL
    ·have dL : decide (n1 < 0) = true:=decide_eq_true (by omega)
     clear hL
     clear f7_7 f7_8 f7_9
     have f8_3:=HB8.out.cell 3
     have f8_10:=HB8.out.cell 10
     go_wp2_with fail
     go_ret
     exact ⟨ret_bool (by rw [HR.out, dE, dL] <;> rfl), Hb8.out⟩
    ·have dL : decide (n1 < 0) = false:=decide_eq_false (by omega)
     clear hL
     clear f7_7 f7_8 f7_9
     have f8_3:=HB8.out.cell 3
     have f8_10:=HB8.out.cell 10
     go_wp2_with fail
     go_ret
     exact ⟨ret_bool (by rw [HR.out, dE, dL] <;> rfl), Hb8.out⟩
 ·have dP : decide (n2 < 0) = false:=decide_eq_false hP
  clear hP
  clear f5_7 f5_8 f5_9 f5_0 f5_1 f5_2
  have f6_7:=HB6.out.cell 7
  have f6_8:=HB6.out.cell 8
  have f6_9:=HB6.out.cell 9
  go_wp2_with fail
  refine (H8.out _).mono ?_
  rintro e w7 ⟨rfl, hb7⟩
  have Hb7:=Lib.hid (Hb6.out.trans (hb7.mono Hb6.out.size))
  have HB7:=Lib.hid (HB6.out.past hb7)
  clear hb7
  cases b6
  ·skip
   by_cases hE : c.rdn.length = 0
   ·have dE:=decide_eq_true hE
    have hEi : ((c.rdn.length : Int) == 0) = true:=by rw [beq_iff_eq]; omega
    clear hE
    rcases dLT with hL | hL
    ·have dL : decide (n1 < 0) = true:=decide_eq_true (by omega)
     clear hL
     clear f6_7 f6_8 f6_9
     have f7_3:=HB7.out.cell 3
     have f7_10:=HB7.out.cell 10
     go_wp2_with fail
     go_ret
     exact ⟨ret_bool (by rw [HR.out, dE, dL] <;> rfl), Hb7.out⟩
    ·have dL : decide (n1 < 0) = false:=decide_eq_false (by omega)
     clear hL
     clear f6_7 f6_8 f6_9
     have f7_3:=HB7.out.cell 3
     have f7_10:=HB7.out.cell 10
     go_wp2_with fail
     go_ret
     exact ⟨ret_bool (by rw [HR.out, dE, dL] <;> rfl), Hb7.out⟩
   ·have dE:=decide_eq_false hE
    have hEi : ((c.rdn.length : Int) == 0) = false:=by rw [beq_eq_false_iff_ne]; omega
    clear hE
    rcases dLT with hL | hL
    ·have dL : decide (n1 < 0) = true:=decide_eq_true (by omega)
     clear hL
     clear f6_7 f6_8 f6_9
     have f7_3:=HB7.out.cell 3
     have f7_10:=HB7.out.cell 10
     go_wp2_with fail
     go_ret
     exact ⟨ret_bool (by rw [HR.out, dE, dL] <;> rfl), Hb7.out⟩
    ·have dL : decide (n1 < 0) = false:=decide_eq_false (by omega)
     clear hL
     clear f6_7 f6_8 f6_9
     have f7_3:=HB7.out.cell 3
     have f7_10:=HB7.out.cell 10
     go_wp2_with fail
     go_ret
     exact ⟨ret_bool (by rw [HR.out, dE, dL] <;> rfl), Hb7.out⟩
  ·skip
   by_cases hE : c.rdn.length = 0
   ·have dE:=decide_eq_true hE
    have hEi : ((c.rdn.length : Int) == 0) = true:=by rw [beq_iff_eq]; omega
    clear hE
    rcases dLT with hL | hL
    ·have dL : decide (n1 < 0) = true:=decide_eq_true (by omega)
     clear hL
     cases bd
     ·skip
      by_cases hN : 0 < c.mods.length
      ·have dN:=decide_eq_true hN
       have hNi : decide ((c.mods.length : Int) > 0) = true:=decide_eq_true (by omega)
       have hNj : 0 < (c.mods.length : Int):=by omega
       clear hN
       clear f6_7 f6_8 f6_9
       have f7_3:=HB7.out.cell 3
       have f7_11 : w7.cell? ⟨w.heap.size, 11, none⟩ = some (.bool false):=by have:=HB7.out.cell 11; rw [show (gcs c R rc M mc)[11]? = some (.bool c.del) from rfl, HD.out] at this; exact this
       have f7_12:=HB7.out.cell 12
       have f7_10:=HB7.out.cell 10
       go_wp2_with fail
       refine (HM1.out _ Hb7.out).mono ?_
       rintro e w8 ⟨rfl, hb8⟩
       have Hb8:=Lib.hid (Hb7.out.trans (hb8.mono Hb7.out.size))
       have HB8:=Lib.hid (HB7.out.past hb8)
       clear hb8
       go_wp2_with fail
       go_ret
       exact ⟨ret_bool (by rw [HR.out, dE, dL, dN] <;> rfl), Hb8.out⟩
      ·have dN:=decide_eq_false hN
       have hNj : (c.mods.length : Int) ≤ 0:=by omega
       clear hN
       clear f6_7 f6_8 f6_9
       have f7_3:=HB7.out.cell 3
       have f7_11 : w7.cell? ⟨w.heap.size, 11, none⟩ = some (.bool false):=by have:=HB7.out.cell 11; rw [show (gcs c R rc M mc)[11]? = some (.bool c.del) from rfl, HD.out] at this; exact this
       have f7_12:=HB7.out.cell 12
       have f7_10:=HB7.out.cell 10
       go_wp2_with fail
       go_ret
       exact ⟨ret_bool (by rw [HR.out, dE, dL, dN] <;> rfl), Hb7.out⟩
     ·skip
      clear f6_7 f6_8 f6_9
      have f7_3:=HB7.out.cell 3
      have f7_11 : w7.cell? ⟨w.heap.size, 11, none⟩ = some (.bool true):=by have:=HB7.out.cell 11; rw [show (gcs c R rc M mc)[11]? = some (.bool c.del) from rfl, HD.out] at this; exact this
      have f7_10:=HB7.out.cell 10
      go_wp2_with fail
      go_ret
      exact ⟨ret_bool (by rw [HR.out, dE, dL] <;> rfl), Hb7.out⟩
    ·have dL : decide (n1 < 0) = false:=decide_eq_false (by omega)
     clear hL
     clear f6_7 f6_8 f6_9
     have f7_3:=HB7.out.cell 3
     have f7_10:=HB7.out.cell 10
     go_wp2_with fail
     go_ret
     exact ⟨ret_bool (by rw [HR.out, dE, dL] <;> rfl), Hb7.out⟩
   ·have dE:=decide_eq_false hE
    have hEi : ((c.rdn.length : Int) == 0) = false:=by rw [beq_eq_false_iff_ne]; omega
    clear hE
    rcases dLT with hL | hL
    ·have dL : decide (n1 < 0) = true:=decide_eq_true (by omega)
     clear hL
     clear f6_7 f6_8 f6_9
     have f7_3:=HB7.out.cell 3
     have f7_10:=HB7.out.cell 10
     go_wp2_with fail
     go_ret
     exact ⟨ret_bool (by rw [HR.out, dE, dL] <;> rfl), Hb7.out⟩
    ·have dL : decide (n1 < 0) = false:=decide_eq_false (by omega)
     clear hL
     clear f6_7 f6_8 f6_9
     have f7_3:=HB7.out.cell 3
     have f7_10:=HB7.out.cell 10
     go_wp2_with fail
     go_ret
     exact ⟨ret_bool (by rw [HR.out, dE, dL] <;> rfl), Hb7.out⟩
set_option maxHeartbeats 4000000 in
theorem ris_4 (c : Cg) (cs : Array Value) (w : World) (hz : ∀ d ∈ c.mods, d.attr.size ≤ 1099511627776) (h : GAt w (· < w.heap.size) c cs) (hn : nums c = true) (hk : c.kind = 4) : Calls Tryz.prog 11 #[.agg cs] w (Flag w (isG c)):=by
 obtain ⟨R, rc, M, mc, ds, rfl, ⟨hR, hl, hrc⟩, hM, hml, hmc⟩:=h
 have hb0:=(Below.refl w.heap.size w).alloc (Nat.le_refl _) (.cells (gcs c R rc M mc) 28)
 have HB:=Lib.hid (Blk.new w 28 (gcs c R rc M mc))
 have Hb:=Lib.hid hb0
 have H1:=Lib.hid (fun w=>Cs.ris_any c.csn.t c.csn.s c.csn.r w)
 have H2:=Lib.hid (fun w=>Cs.rzero_any c.csn.t c.csn.s c.csn.r w)
 have H3:=Lib.hid (fun w=>Cs.ris_any c.id.t c.id.s c.id.r w)
 have H4:=Lib.hid (fun w=>Cs.ris_any c.par.t c.par.s c.par.r w)
 have H5:=Lib.hid (fun w=>Cs.rcmp_any c.id.t c.id.s c.id.r c.csn.t c.csn.s c.csn.r w)
 have H6:=Lib.hid (fun w=>Cs.rcmp_any c.par.t c.par.s c.par.r c.csn.t c.csn.s c.csn.r w)
 have H7:=Lib.hid (fun w1 (hb : Below w.heap.size w w1)=>rrdn_any R rc c.rdn w1 hl (hR.past hb))
 have H8:=Lib.hid (fun w=>Cs.rzero_any c.par.t c.par.s c.par.r w)
 have H9:=Lib.hid (fun w=>Cs.rzero_any c.id.t c.id.s c.id.r w)
 have HM:=Lib.hid (fun w1 (hb : Below w.heap.size w w1) (only : Bool)=>rmods_any M mc c.mods ds only w1 hml hz (hM.past hb))
 obtain ⟨bd, hbd⟩ : ∃ b, c.del = b:=⟨_, rfl⟩
 have HD:=Lib.hid hbd
 unfold maxLen at hl hml
 have hn2 : (Cs.isC c.csn.t c.csn.s c.csn.r && (!decide (c.csn.t = 0 ∧ c.csn.s = 0 ∧ c.csn.r = 0) && (Cs.isC c.id.t c.id.s c.id.r && Cs.isC c.par.t c.par.s c.par.r))) = true:=hn
 generalize Cs.isC c.csn.t c.csn.s c.csn.r = b1 at H1 hn2
 generalize decide (c.csn.t = 0 ∧ c.csn.s = 0 ∧ c.csn.r = 0) = b2 at H2 hn2
 generalize Cs.isC c.id.t c.id.s c.id.r = b3 at H3 hn2
 generalize Cs.isC c.par.t c.par.s c.par.r = b4 at H4 hn2
 obtain ⟨rfl, rfl, rfl, rfl⟩ : b1 = true ∧ b2 = false ∧ b3 = true ∧ b4 = true:=by
  revert hn2; cases b1 <;> cases b2 <;> cases b3 <;> cases b4 <;> simp
 have hG:=isG_4 hn hk
 have kf1 : (c.kind == 1) = false:=beq_eq_false_iff_ne.mpr (by omega)
 have kf2 : (c.kind == 2) = false:=beq_eq_false_iff_ne.mpr (by omega)
 have kf3 : (c.kind == 3) = false:=beq_eq_false_iff_ne.mpr (by omega)
 have kf4 : (c.kind == 4) = true:=beq_iff_eq.mpr hk
 generalize Cs.cmpC c.id.t c.id.s c.id.r c.csn.t c.csn.s c.csn.r = n1 at H5 hG
 generalize Cs.cmpC c.par.t c.par.s c.par.r c.csn.t c.csn.s c.csn.r = n2 at H6 hG
 generalize okR c.rdn = b5 at H7 hG
 have hG2:=hG
 unfold zCn at hG2
 clear hG
 generalize decide (c.par.t = 0 ∧ c.par.s = 0 ∧ c.par.r = 0) = b6 at H8 hG2
 generalize decide (c.id.t = 0 ∧ c.id.s = 0 ∧ c.id.r = 0) = b7 at H9 hG2
 have HR:=Lib.hid hG2
 clear hn hn2 hG2 hR hM hz hb0 hbd HM
 go_enter Tryz.func11, Tryz.ntmps11
 have f0_0:=HB.out.cell 0
 have f0_1:=HB.out.cell 1
 have f0_2:=HB.out.cell 2
 go_wp2_with fail
 refine (H1.out _).mono ?_
 rintro e w1 ⟨rfl, hb1⟩
 have Hb1:=Lib.hid (Hb.out.trans (hb1.mono Hb.out.size))
 have HB1:=Lib.hid (HB.out.past hb1)
 clear hb1
 clear f0_0 f0_1 f0_2
 have f1_0:=HB1.out.cell 0
 have f1_1:=HB1.out.cell 1
 have f1_2:=HB1.out.cell 2
 go_wp2_with fail
 refine (H2.out _).mono ?_
 rintro e w2 ⟨rfl, hb2⟩
 have Hb2:=Lib.hid (Hb1.out.trans (hb2.mono Hb1.out.size))
 have HB2:=Lib.hid (HB1.out.past hb2)
 clear hb2
 clear f1_0 f1_1 f1_2
 have f2_4:=HB2.out.cell 4
 have f2_5:=HB2.out.cell 5
 have f2_6:=HB2.out.cell 6
 go_wp2_with fail
 refine (H3.out _).mono ?_
 rintro e w3 ⟨rfl, hb3⟩
 have Hb3:=Lib.hid (Hb2.out.trans (hb3.mono Hb2.out.size))
 have HB3:=Lib.hid (HB2.out.past hb3)
 clear hb3
 clear f2_4 f2_5 f2_6
 have f3_7:=HB3.out.cell 7
 have f3_8:=HB3.out.cell 8
 have f3_9:=HB3.out.cell 9
 go_wp2_with fail
 refine (H4.out _).mono ?_
 rintro e w4 ⟨rfl, hb4⟩
 have Hb4:=Lib.hid (Hb3.out.trans (hb4.mono Hb3.out.size))
 have HB4:=Lib.hid (HB3.out.past hb4)
 clear hb4
 clear f3_7 f3_8 f3_9
 have f4_4:=HB4.out.cell 4
 have f4_5:=HB4.out.cell 5
 have f4_6:=HB4.out.cell 6
 have f4_0:=HB4.out.cell 0
 have f4_1:=HB4.out.cell 1
 have f4_2:=HB4.out.cell 2
 go_wp2_with fail
 refine (H5.out _).mono ?_
 rintro e w5 ⟨rfl, hb5⟩
 have Hb5:=Lib.hid (Hb4.out.trans (hb5.mono Hb4.out.size))
 have HB5:=Lib.hid (HB4.out.past hb5)
 clear hb5
 have dLT : (n1 < 0) ∨ ¬ (n1 < 0):=Classical.em _
 clear f4_4 f4_5 f4_6 f4_0 f4_1 f4_2
 have f5_7:=HB5.out.cell 7
 have f5_8:=HB5.out.cell 8
 have f5_9:=HB5.out.cell 9
 have f5_0:=HB5.out.cell 0
 have f5_1:=HB5.out.cell 1
 have f5_2:=HB5.out.cell 2
 go_wp2_with fail
 refine (H6.out _).mono ?_
 rintro e w6 ⟨rfl, hb6⟩
 have Hb6:=Lib.hid (Hb5.out.trans (hb6.mono Hb5.out.size))
 have HB6:=Lib.hid (HB5.out.past hb6)
 clear hb6
 by_cases hP : n2 < 0
 ·have dP : decide (n2 < 0) = true:=decide_eq_true hP
  clear hP
  clear f5_7 f5_8 f5_9 f5_0 f5_1 f5_2
  have f6_10:=HB6.out.cell 10
  go_wp2_with fail
  refine (H7.out _ Hb6.out).mono ?_
  rintro e w7 ⟨rfl, hb7⟩
  have Hb7:=Lib.hid (Hb6.out.trans (hb7.mono Hb6.out.size))
  have HB7:=Lib.hid (HB6.out.past hb7)
  clear hb7
  cases b5
  ·skip
   clear f6_10
   have f7_7:=HB7.out.cell 7
   have f7_8:=HB7.out.cell 8
   have f7_9:=HB7.out.cell 9
   go_wp2_with fail
   refine (H8.out _).mono ?_
   rintro e w8 ⟨rfl, hb8⟩
   have Hb8:=Lib.hid (Hb7.out.trans (hb8.mono Hb7.out.size))
   have HB8:=Lib.hid (HB7.out.past hb8)
   clear hb8
   cases b6
   ·skip
    rcases dLT with hL | hL
    ·have dL : decide (n1 < 0) = true:=decide_eq_true (by omega)
     clear hL
     clear f7_7 f7_8 f7_9
     have f8_3:=HB8.out.cell 3
     have f8_4:=HB8.out.cell 4
     have f8_5:=HB8.out.cell 5
     have f8_6:=HB8.out.cell 6
     have f8_10:=HB8.out.cell 10
     go_wp2_with fail
     refine (H9.out _).mono ?_
     rintro e w9 ⟨rfl, hb9⟩
     have Hb9:=Lib.hid (Hb8.out.trans (hb9.mono Hb8.out.size))
     have HB9:=Lib.hid (HB8.out.past hb9)
     clear hb9
     cases b7
     ·skip
      go_wp2_with fail
      go_ret
      exact ⟨ret_bool (by rw [HR.out, dP, dL] <;> rfl), Hb9.out⟩
     ·skip
      go_wp2_with fail
      go_ret
      exact ⟨ret_bool (by rw [HR.out, dP, dL] <;> rfl), Hb9.out⟩
    ·have dL : decide (n1 < 0) = false:=decide_eq_false (by omega)
     clear hL
     clear f7_7 f7_8 f7_9
     have f8_3:=HB8.out.cell 3
     have f8_10:=HB8.out.cell 10
     go_wp2_with fail
     go_ret
     exact ⟨ret_bool (by rw [HR.out, dP, dL] <;> rfl), Hb8.out⟩
   ·skip
    rcases dLT with hL | hL
    ·have dL : decide (n1 < 0) = true:=decide_eq_true (by omega)
     clear hL
     clear f7_7 f7_8 f7_9
     have f8_3:=HB8.out.cell 3
     have f8_4:=HB8.out.cell 4
     have f8_5:=HB8.out.cell 5
     have f8_6:=HB8.out.cell 6
     have f8_10:=HB8.out.cell 10
     go_wp2_with fail
     refine (H9.out _).mono ?_
     rintro e w9 ⟨rfl, hb9⟩
     have Hb9:=Lib.hid (Hb8.out.trans (hb9.mono Hb8.out.size))
     have HB9:=Lib.hid (HB8.out.past hb9)
     clear hb9
     cases b7
     ·skip
      go_wp2_with fail
      go_ret
      exact ⟨ret_bool (by rw [HR.out, dP, dL] <;> rfl), Hb9.out⟩
     ·skip
      go_wp2_with fail
      go_ret
      exact ⟨ret_bool (by rw [HR.out, dP, dL] <;> rfl), Hb9.out⟩
    ·have dL : decide (n1 < 0) = false:=decide_eq_false (by omega)
     clear hL
     clear f7_7 f7_8 f7_9
     have f8_3:=HB8.out.cell 3
     have f8_10:=HB8.out.cell 10
     go_wp2_with fail
     go_ret
     exact ⟨ret_bool (by rw [HR.out, dP, dL] <;> rfl), Hb8.out⟩
  ·skip
   clear f6_10
   have f7_7:=HB7.out.cell 7
   have f7_8:=HB7.out.cell 8
   have f7_9:=HB7.out.cell 9
   go_wp2_with fail
   refine (H8.out _).mono ?_
   rintro e w8 ⟨rfl, hb8⟩
   have Hb8:=Lib.hid (Hb7.out.trans (hb8.mono Hb7.out.size))
   have HB8:=Lib.hid (HB7.out.past hb8)
   clear hb8
   cases b6
   ·skip
    rcases dLT with hL | hL
    ·have dL : decide (n1 < 0) = true:=decide_eq_true (by omega)
     clear hL
     clear f7_7 f7_8 f7_9
     have f8_3:=HB8.out.cell 3
     have f8_4:=HB8.out.cell 4
     have f8_5:=HB8.out.cell 5
     have f8_6:=HB8.out.cell 6
     have f8_10:=HB8.out.cell 10
     go_wp2_with fail
     refine (H9.out _).mono ?_
     rintro e w9 ⟨rfl, hb9⟩
     have Hb9:=Lib.hid (Hb8.out.trans (hb9.mono Hb8.out.size))
     have HB9:=Lib.hid (HB8.out.past hb9)
     clear hb9
     cases b7
     ·skip
      by_cases hN : c.mods.length = 0
      ·have dN:=decide_eq_true hN
       have hNi : ((c.mods.length : Int) == 0) = true:=by rw [beq_iff_eq]; omega
       clear hN
       clear f8_3 f8_4 f8_5 f8_6 f8_10
       have f9_12:=HB9.out.cell 12
       go_wp2_with fail
       go_ret
       exact ⟨ret_bool (by rw [HR.out, dP, dL, dN] <;> rfl), Hb9.out⟩
      ·have dN:=decide_eq_false hN
       have hNi : ((c.mods.length : Int) == 0) = false:=by rw [beq_eq_false_iff_ne]; omega
       clear hN
       clear f8_3 f8_4 f8_5 f8_6 f8_10
       have f9_12:=HB9.out.cell 12
       go_wp2_with fail
       go_ret
       exact ⟨ret_bool (by rw [HR.out, dP, dL, dN] <;> rfl), Hb9.out⟩
     ·skip
      go_wp2_with fail
      go_ret
      exact ⟨ret_bool (by rw [HR.out, dP, dL] <;> rfl), Hb9.out⟩
    ·have dL : decide (n1 < 0) = false:=decide_eq_false (by omega)
     clear hL
     clear f7_7 f7_8 f7_9
     have f8_3:=HB8.out.cell 3
     have f8_10:=HB8.out.cell 10
     go_wp2_with fail
     go_ret
     exact ⟨ret_bool (by rw [HR.out, dP, dL] <;> rfl), Hb8.out⟩
   ·skip
    rcases dLT with hL | hL
    ·have dL : decide (n1 < 0) = true:=decide_eq_true (by omega)
     clear hL
     clear f7_7 f7_8 f7_9
     have f8_3:=HB8.out.cell 3
     have f8_4:=HB8.out.cell 4
     have f8_5:=HB8.out.cell 5
     have f8_6:=HB8.out.cell 6
     have f8_10:=HB8.out.cell 10
     go_wp2_with fail
     refine (H9.out _).mono ?_
     rintro e w9 ⟨rfl, hb9⟩
     have Hb9:=Lib.hid (Hb8.out.trans (hb9.mono Hb8.out.size))
     have HB9:=Lib.hid (HB8.out.past hb9)
     clear hb9
     cases b7
     ·skip
      by_cases hN : c.mods.length = 0
      ·have dN:=decide_eq_true hN
       have hNi : ((c.mods.length : Int) == 0) = true:=by rw [beq_iff_eq]; omega
       clear hN
       clear f8_3 f8_4 f8_5 f8_6 f8_10
       have f9_12:=HB9.out.cell 12
       go_wp2_with fail
       go_ret
       exact ⟨ret_bool (by rw [HR.out, dP, dL, dN] <;> rfl), Hb9.out⟩
      ·have dN:=decide_eq_false hN
       have hNi : ((c.mods.length : Int) == 0) = false:=by rw [beq_eq_false_iff_ne]; omega
       clear hN
       clear f8_3 f8_4 f8_5 f8_6 f8_10
       have f9_12:=HB9.out.cell 12
       go_wp2_with fail
       go_ret
       exact ⟨ret_bool (by rw [HR.out, dP, dL, dN] <;> rfl), Hb9.out⟩
     ·skip
      go_wp2_with fail
      go_ret
      exact ⟨ret_bool (by rw [HR.out, dP, dL] <;> rfl), Hb9.out⟩
    ·have dL : decide (n1 < 0) = false:=decide_eq_false (by omega)
     clear hL
     clear f7_7 f7_8 f7_9
     have f8_3:=HB8.out.cell 3
     have f8_10:=HB8.out.cell 10
     go_wp2_with fail
     go_ret
     exact ⟨ret_bool (by rw [HR.out, dP, dL] <;> rfl), Hb8.out⟩
 ·have dP : decide (n2 < 0) = false:=decide_eq_false hP
  clear hP
  clear f5_7 f5_8 f5_9 f5_0 f5_1 f5_2
  have f6_7:=HB6.out.cell 7
  have f6_8:=HB6.out.cell 8
  have f6_9:=HB6.out.cell 9
  go_wp2_with fail
  refine (H8.out _).mono ?_
  rintro e w7 ⟨rfl, hb7⟩
  have Hb7:=Lib.hid (Hb6.out.trans (hb7.mono Hb6.out.size))
  have HB7:=Lib.hid (HB6.out.past hb7)
  clear hb7
  cases b6
  ·skip
   rcases dLT with hL | hL
   ·have dL : decide (n1 < 0) = true:=decide_eq_true (by omega)
    clear hL
    clear f6_7 f6_8 f6_9
    have f7_3:=HB7.out.cell 3
    have f7_4:=HB7.out.cell 4
    have f7_5:=HB7.out.cell 5
    have f7_6:=HB7.out.cell 6
    have f7_10:=HB7.out.cell 10
    go_wp2_with fail
    refine (H9.out _).mono ?_
    rintro e w8 ⟨rfl, hb8⟩
    have Hb8:=Lib.hid (Hb7.out.trans (hb8.mono Hb7.out.size))
    have HB8:=Lib.hid (HB7.out.past hb8)
    clear hb8
    cases b7
    ·skip
     go_wp2_with fail
     go_ret
     exact ⟨ret_bool (by rw [HR.out, dP, dL] <;> rfl), Hb8.out⟩
    ·skip
     go_wp2_with fail
     go_ret
     exact ⟨ret_bool (by rw [HR.out, dP, dL] <;> rfl), Hb8.out⟩
   ·have dL : decide (n1 < 0) = false:=decide_eq_false (by omega)
    clear hL
    clear f6_7 f6_8 f6_9
    have f7_3:=HB7.out.cell 3
    have f7_10:=HB7.out.cell 10
    go_wp2_with fail
    go_ret
    exact ⟨ret_bool (by rw [HR.out, dP, dL] <;> rfl), Hb7.out⟩
  ·skip
   rcases dLT with hL | hL
   ·have dL : decide (n1 < 0) = true:=decide_eq_true (by omega)
    clear hL
    clear f6_7 f6_8 f6_9
    have f7_3:=HB7.out.cell 3
    have f7_4:=HB7.out.cell 4
    have f7_5:=HB7.out.cell 5
    have f7_6:=HB7.out.cell 6
    have f7_10:=HB7.out.cell 10
    go_wp2_with fail
    refine (H9.out _).mono ?_
    rintro e w8 ⟨rfl, hb8⟩
    have Hb8:=Lib.hid (Hb7.out.trans (hb8.mono Hb7.out.size))
    have HB8:=Lib.hid (HB7.out.past hb8)
    clear hb8
    cases b7
    ·skip
     go_wp2_with fail
     go_ret
     exact ⟨ret_bool (by rw [HR.out, dP, dL] <;> rfl), Hb8.out⟩
    ·skip
     go_wp2_with fail
     go_ret
     exact ⟨ret_bool (by rw [HR.out, dP, dL] <;> rfl), Hb8.out⟩
   ·have dL : decide (n1 < 0) = false:=decide_eq_false (by omega)
    clear hL
    clear f6_7 f6_8 f6_9
    have f7_3:=HB7.out.cell 3
    have f7_10:=HB7.out.cell 10
    go_wp2_with fail
    go_ret
    exact ⟨ret_bool (by rw [HR.out, dP, dL] <;> rfl), Hb7.out⟩
set_option maxHeartbeats 4000000 in
theorem ris_5 (c : Cg) (cs : Array Value) (w : World) (hz : ∀ d ∈ c.mods, d.attr.size ≤ 1099511627776) (h : GAt w (· < w.heap.size) c cs) (hn : nums c = true) (hk1 : c.kind ≠ 1) (hk2 : c.kind ≠ 2) (hk3 : c.kind ≠ 3) (hk4 : c.kind ≠ 4) : Calls Tryz.prog 11 #[.agg cs] w (Flag w (isG c)):=by
 obtain ⟨R, rc, M, mc, ds, rfl, ⟨hR, hl, hrc⟩, hM, hml, hmc⟩:=h
 have hb0:=(Below.refl w.heap.size w).alloc (Nat.le_refl _) (.cells (gcs c R rc M mc) 28)
 have HB:=Lib.hid (Blk.new w 28 (gcs c R rc M mc))
 have Hb:=Lib.hid hb0
 have H1:=Lib.hid (fun w=>Cs.ris_any c.csn.t c.csn.s c.csn.r w)
 have H2:=Lib.hid (fun w=>Cs.rzero_any c.csn.t c.csn.s c.csn.r w)
 have H3:=Lib.hid (fun w=>Cs.ris_any c.id.t c.id.s c.id.r w)
 have H4:=Lib.hid (fun w=>Cs.ris_any c.par.t c.par.s c.par.r w)
 have H5:=Lib.hid (fun w=>Cs.rcmp_any c.id.t c.id.s c.id.r c.csn.t c.csn.s c.csn.r w)
 have H6:=Lib.hid (fun w=>Cs.rcmp_any c.par.t c.par.s c.par.r c.csn.t c.csn.s c.csn.r w)
 have H7:=Lib.hid (fun w1 (hb : Below w.heap.size w w1)=>rrdn_any R rc c.rdn w1 hl (hR.past hb))
 have H8:=Lib.hid (fun w=>Cs.rzero_any c.par.t c.par.s c.par.r w)
 have H9:=Lib.hid (fun w=>Cs.rzero_any c.id.t c.id.s c.id.r w)
 have HM:=Lib.hid (fun w1 (hb : Below w.heap.size w w1) (only : Bool)=>rmods_any M mc c.mods ds only w1 hml hz (hM.past hb))
 obtain ⟨bd, hbd⟩ : ∃ b, c.del = b:=⟨_, rfl⟩
 have HD:=Lib.hid hbd
 unfold maxLen at hl hml
 have hn2 : (Cs.isC c.csn.t c.csn.s c.csn.r && (!decide (c.csn.t = 0 ∧ c.csn.s = 0 ∧ c.csn.r = 0) && (Cs.isC c.id.t c.id.s c.id.r && Cs.isC c.par.t c.par.s c.par.r))) = true:=hn
 generalize Cs.isC c.csn.t c.csn.s c.csn.r = b1 at H1 hn2
 generalize decide (c.csn.t = 0 ∧ c.csn.s = 0 ∧ c.csn.r = 0) = b2 at H2 hn2
 generalize Cs.isC c.id.t c.id.s c.id.r = b3 at H3 hn2
 generalize Cs.isC c.par.t c.par.s c.par.r = b4 at H4 hn2
 obtain ⟨rfl, rfl, rfl, rfl⟩ : b1 = true ∧ b2 = false ∧ b3 = true ∧ b4 = true:=by
  revert hn2; cases b1 <;> cases b2 <;> cases b3 <;> cases b4 <;> simp
 have hG:=isG_5 hn hk1 hk2 hk3 hk4
 have kf1 : (c.kind == 1) = false:=beq_eq_false_iff_ne.mpr hk1
 have kf2 : (c.kind == 2) = false:=beq_eq_false_iff_ne.mpr hk2
 have kf3 : (c.kind == 3) = false:=beq_eq_false_iff_ne.mpr hk3
 have kf4 : (c.kind == 4) = false:=beq_eq_false_iff_ne.mpr hk4
 generalize Cs.cmpC c.id.t c.id.s c.id.r c.csn.t c.csn.s c.csn.r = n1 at H5 hG
 generalize Cs.cmpC c.par.t c.par.s c.par.r c.csn.t c.csn.s c.csn.r = n2 at H6 hG
 generalize okR c.rdn = b5 at H7 hG
 have hG2:=hG
 unfold zCn at hG2
 clear hG
 generalize decide (c.par.t = 0 ∧ c.par.s = 0 ∧ c.par.r = 0) = b6 at H8 hG2
 generalize decide (c.id.t = 0 ∧ c.id.s = 0 ∧ c.id.r = 0) = b7 at H9 hG2
 have HR:=Lib.hid hG2
 clear hn hn2 hG2 hR hM hz hb0 hbd HM
 go_enter Tryz.func11, Tryz.ntmps11
 have f0_0:=HB.out.cell 0
 have f0_1:=HB.out.cell 1
 have f0_2:=HB.out.cell 2
 go_wp2_with fail
 refine (H1.out _).mono ?_
 rintro e w1 ⟨rfl, hb1⟩
 have Hb1:=Lib.hid (Hb.out.trans (hb1.mono Hb.out.size))
 have HB1:=Lib.hid (HB.out.past hb1)
 clear hb1
 clear f0_0 f0_1 f0_2
 have f1_0:=HB1.out.cell 0
 have f1_1:=HB1.out.cell 1
 have f1_2:=HB1.out.cell 2
 go_wp2_with fail
 refine (H2.out _).mono ?_
 rintro e w2 ⟨rfl, hb2⟩
 have Hb2:=Lib.hid (Hb1.out.trans (hb2.mono Hb1.out.size))
 have HB2:=Lib.hid (HB1.out.past hb2)
 clear hb2
 clear f1_0 f1_1 f1_2
 have f2_4:=HB2.out.cell 4
 have f2_5:=HB2.out.cell 5
 have f2_6:=HB2.out.cell 6
 go_wp2_with fail
 refine (H3.out _).mono ?_
 rintro e w3 ⟨rfl, hb3⟩
 have Hb3:=Lib.hid (Hb2.out.trans (hb3.mono Hb2.out.size))
 have HB3:=Lib.hid (HB2.out.past hb3)
 clear hb3
 clear f2_4 f2_5 f2_6
 have f3_7:=HB3.out.cell 7
 have f3_8:=HB3.out.cell 8
 have f3_9:=HB3.out.cell 9
 go_wp2_with fail
 refine (H4.out _).mono ?_
 rintro e w4 ⟨rfl, hb4⟩
 have Hb4:=Lib.hid (Hb3.out.trans (hb4.mono Hb3.out.size))
 have HB4:=Lib.hid (HB3.out.past hb4)
 clear hb4
 clear f3_7 f3_8 f3_9
 have f4_4:=HB4.out.cell 4
 have f4_5:=HB4.out.cell 5
 have f4_6:=HB4.out.cell 6
 have f4_0:=HB4.out.cell 0
 have f4_1:=HB4.out.cell 1
 have f4_2:=HB4.out.cell 2
 go_wp2_with fail
 refine (H5.out _).mono ?_
 rintro e w5 ⟨rfl, hb5⟩
 have Hb5:=Lib.hid (Hb4.out.trans (hb5.mono Hb4.out.size))
 have HB5:=Lib.hid (HB4.out.past hb5)
 clear hb5
 clear f4_4 f4_5 f4_6 f4_0 f4_1 f4_2
 have f5_7:=HB5.out.cell 7
 have f5_8:=HB5.out.cell 8
 have f5_9:=HB5.out.cell 9
 have f5_0:=HB5.out.cell 0
 have f5_1:=HB5.out.cell 1
 have f5_2:=HB5.out.cell 2
 go_wp2_with fail
 refine (H6.out _).mono ?_
 rintro e w6 ⟨rfl, hb6⟩
 have Hb6:=Lib.hid (Hb5.out.trans (hb6.mono Hb5.out.size))
 have HB6:=Lib.hid (HB5.out.past hb6)
 clear hb6
 by_cases hP : n2 < 0
 ·have dP : decide (n2 < 0) = true:=decide_eq_true hP
  clear hP
  clear f5_7 f5_8 f5_9 f5_0 f5_1 f5_2
  have f6_10:=HB6.out.cell 10
  go_wp2_with fail
  refine (H7.out _ Hb6.out).mono ?_
  rintro e w7 ⟨rfl, hb7⟩
  have Hb7:=Lib.hid (Hb6.out.trans (hb7.mono Hb6.out.size))
  have HB7:=Lib.hid (HB6.out.past hb7)
  clear hb7
  clear f6_10
  have f7_7:=HB7.out.cell 7
  have f7_8:=HB7.out.cell 8
  have f7_9:=HB7.out.cell 9
  go_wp2_with fail
  refine (H8.out _).mono ?_
  rintro e w8 ⟨rfl, hb8⟩
  have Hb8:=Lib.hid (Hb7.out.trans (hb8.mono Hb7.out.size))
  have HB8:=Lib.hid (HB7.out.past hb8)
  clear hb8
  cases b6
  ·skip
   clear f7_7 f7_8 f7_9
   have f8_3:=HB8.out.cell 3
   have f8_10:=HB8.out.cell 10
   have f8_10:=HB8.out.cell 10
   go_wp2_with fail
   go_ret
   exact ⟨ret_bool (by rw [HR.out] <;> rfl), Hb8.out⟩
  ·skip
   clear f7_7 f7_8 f7_9
   have f8_3:=HB8.out.cell 3
   have f8_10:=HB8.out.cell 10
   have f8_10:=HB8.out.cell 10
   go_wp2_with fail
   go_ret
   exact ⟨ret_bool (by rw [HR.out] <;> rfl), Hb8.out⟩
 ·have dP : decide (n2 < 0) = false:=decide_eq_false hP
  clear hP
  clear f5_7 f5_8 f5_9 f5_0 f5_1 f5_2
  have f6_7:=HB6.out.cell 7
  have f6_8:=HB6.out.cell 8
  have f6_9:=HB6.out.cell 9
  go_wp2_with fail
  refine (H8.out _).mono ?_
  rintro e w7 ⟨rfl, hb7⟩
  have Hb7:=Lib.hid (Hb6.out.trans (hb7.mono Hb6.out.size))
  have HB7:=Lib.hid (HB6.out.past hb7)
  clear hb7
  cases b6
  ·skip
   clear f6_7 f6_8 f6_9
   have f7_3:=HB7.out.cell 3
   have f7_10:=HB7.out.cell 10
   have f7_10:=HB7.out.cell 10
   go_wp2_with fail
   go_ret
   exact ⟨ret_bool (by rw [HR.out] <;> rfl), Hb7.out⟩
  ·skip
   clear f6_7 f6_8 f6_9
   have f7_3:=HB7.out.cell 3
   have f7_10:=HB7.out.cell 10
   have f7_10:=HB7.out.cell 10
   go_wp2_with fail
   go_ret
   exact ⟨ret_bool (by rw [HR.out] <;> rfl), Hb7.out⟩
theorem ris_any (c : Cg) (cs : Array Value) (w : World) (hz : ∀ d ∈ c.mods, d.attr.size ≤ 1099511627776) (h : GAt w (· < w.heap.size) c cs) : Calls Tryz.prog 11 #[.agg cs] w (Flag w (isG c)):=by
 cases hn : nums c with
 | false=>exact ris_no c cs w hz h hn
 | true =>
  by_cases h1 : c.kind = 1
  ·exact ris_1 c cs w hz h hn h1
  by_cases h2 : c.kind = 2
  ·exact ris_2 c cs w hz h hn h2
  by_cases h3 : c.kind = 3
  ·exact ris_3 c cs w hz h hn h3
  by_cases h4 : c.kind = 4
  ·exact ris_4 c cs w hz h hn h4
  exact ris_5 c cs w hz h hn h1 h2 h3 h4
end Go.Proofs.YtbdpkfgllnbheaaGreatDoor.Ch
