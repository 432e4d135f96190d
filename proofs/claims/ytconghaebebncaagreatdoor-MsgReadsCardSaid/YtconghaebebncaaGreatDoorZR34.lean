import Derived.Test.YtconghaebebncaaGreatDoorZR33
import Derived.Test.YtconghaebebncaaGreatDoorZR32
import Derived.Test.YtconghaebebncaaGreatDoorZR30
set_option linter.unusedVariables false
set_option maxRecDepth 100000
namespace Go.Proofs.YtconghaebebncaaGreatDoor.Ms
open Go.RowKit
attribute [local go_sem ↓] loadAtMsg
def Flag (w : World) (b : Bool) (r : Ending) (w' : World) : Prop:=r = .returned (.bool b) ∧ Below w.heap.size w w'
set_option maxHeartbeats 2000000 in
theorem form_1 (m : Mg) (cs : Array Value) (w : World) (hop : m.op = 1) (h : MAt w (· < w.heap.size) m cs) :
  Calls Tryz.prog 29 #[.agg cs] w (Flag w (formed m)):=by
 have hr : formed m = within m.ver 1 127:=by unfold formed; rw [if_pos hop]
 rw [hr]
 have B:=Box.new h
 have hb:=Lib.hid ((Below.refl w.heap.size w).alloc (Nat.le_refl _) (.cells cs 28))
 have c1:=(B.1.cell 1).trans h.g1
 rw [hop] at c1
 have c4:=(B.1.cell 4).trans h.g4
 have HW:=Lib.hid (fun w=>within_any m.ver 1 127 w)
 clear h B hr hop
 go_enter Tryz.func29, Tryz.ntmps29
 go_wp2_with fail
 refine (HW.out _).mono ?_
 rintro e w1 ⟨rfl, rfl⟩
 go_wp2_with fail
 go_ret
 exact ⟨rfl, hb.out⟩
set_option maxHeartbeats 2000000 in
theorem form_3 (m : Mg) (cs : Array Value) (w : World) (hop : m.op = 3) (h : MAt w (· < w.heap.size) m cs) :
  Calls Tryz.prog 29 #[.agg cs] w (Flag w (formed m)):=by
 have hr : formed m = (within m.scope 0 2 && (within m.size 0 2147483647 && (Fi.isF m.fil && isList m.wants))):=by unfold formed; rw [if_neg (by omega), if_pos hop]
 rw [hr]
 have B:=Box.new h
 have hb0:=(Below.refl w.heap.size w).alloc (Nat.le_refl _) (.cells cs 28)
 have hb:=Lib.hid hb0
 have c1:=(B.1.cell 1).trans h.g1
 rw [hop] at c1
 have c6:=(B.1.cell 6).trans h.g6
 have c7:=(B.1.cell 7).trans h.g7
 obtain ⟨x0, x1, x2, x3, x4, fx0, fx1, fx2, fx3, fx4, hF⟩:=h.gF
 obtain ⟨W, wc, eW, hW, lW, _, sW⟩:=h.gW
 have c8:=(B.1.cell 8).trans fx0
 have c9:=(B.1.cell 9).trans fx1
 have c10:=(B.1.cell 10).trans fx2
 have c11:=(B.1.cell 11).trans fx3
 have c12:=(B.1.cell 12).trans fx4
 have HW1:=Lib.hid (fun w=>within_any m.scope 0 2 w)
 have HW2:=Lib.hid (fun w=>within_any m.size 0 2147483647 w)
 have HF:=Lib.hid (Fi.Is_any m.fil _ _ _ _ _ _ (hF.past hb0))
 have HL:=Lib.hid (fun w1 hb=>isList_any W wc m.wants w1 lW sW (hW.past hb))
 have HB:=Lib.hid B
 have HE:=Lib.hid eW
 generalize within m.scope 0 2 = b1 at HW1 ⊢
 generalize within m.size 0 2147483647 = b2 at HW2 ⊢
 generalize Fi.isF m.fil = b3 at HF ⊢
 generalize isList m.wants = b4 at HL ⊢
 clear h B hr hop fx0 fx1 fx2 fx3 fx4 hF hW eW lW sW hb0
 go_enter Tryz.func29, Tryz.ntmps29
 go_wp2_with fail
 refine (HW1.out _).mono ?_
 rintro e w1 ⟨rfl, rfl⟩
 cases b1
 ·go_wp2_with fail
  go_ret
  exact ⟨rfl, hb.out⟩
 go_wp2_with fail
 refine (HW2.out _).mono ?_
 rintro e w1 ⟨rfl, rfl⟩
 cases b2
 ·go_wp2_with fail
  go_ret
  exact ⟨rfl, hb.out⟩
 go_wp2_with fail
 refine HF.out.mono ?_
 rintro e w1 ⟨rfl, hb1⟩
 have hb2:=hb.out.trans (hb1.mono hb.out.size)
 have d13:=((HB.out.past hb1).1.cell 13).trans HE.out
 clear c1 c6 c7 c8 c9 c10 c11 c12
 cases b3
 ·go_wp2_with fail
  go_ret
  exact ⟨rfl, hb2⟩
 go_wp2_with fail
 refine (HL.out _ hb2).mono ?_
 rintro e w2 ⟨rfl, rfl⟩
 go_wp2_with fail
 go_ret
 exact ⟨rfl, hb2⟩
set_option maxHeartbeats 2000000 in
theorem form_mods (m : Mg) (cs : Array Value) (w : World) (hop : m.op = 5 ∨ m.op = 10) (h : MAt w (· < w.heap.size) m cs) :
  Calls Tryz.prog 29 #[.agg cs] w (Flag w (formed m)):=by
 have hr : formed m = (!m.mods.any takes && (decide (m.mods.length ≤ 12) && !m.mods.any noMod)):=by unfold formed; rw [if_neg (by omega), if_neg (by omega), if_pos hop]
 rw [hr]
 have B:=Box.new h
 have hb0:=(Below.refl w.heap.size w).alloc (Nat.le_refl _) (.cells cs 28)
 have c1:=(B.1.cell 1).trans h.g1
 obtain ⟨M, mc, ds, eM, hMo, lM, _⟩:=h.gM
 have c14:=(B.1.cell 14).trans eM
 have HT:=Lib.hid (containsT_any M mc m.mods ds _ lM (hMo.past hb0))
 have HN:=Lib.hid (fun w1 hb=>containsN_any M mc m.mods ds w1 lM (hMo.past hb))
 have HB:=Lib.hid B
 have HE:=Lib.hid eM
 have hb:=Lib.hid hb0
 unfold maxLen at lM
 generalize m.mods.any takes = b1 at HT ⊢
 generalize m.mods.any noMod = b2 at HN ⊢
 clear h B hr hMo eM hb0
 rcases hop with e | e
 all_goals
  rw [e] at c1
  go_enter Tryz.func29, Tryz.ntmps29
  go_wp2_with fail
  refine HT.out.mono ?_
  rintro e w1 ⟨rfl, hb1⟩
  have hb2:=hb.out.trans (hb1.mono hb.out.size)
  have d14:=((HB.out.past hb1).1.cell 14).trans HE.out
  have d1:=(HB.out.past hb1).1.cell 1
  clear c1 c14 d1
  cases b1
  ·by_cases hl : (m.mods.length : Int) ≤ 12
   ·have hl2 : decide (m.mods.length ≤ 12) = true:=decide_eq_true (by omega)
    have HL2:=Lib.hid hl2
    clear hl2
    go_wp2_with fail
    refine (HN.out _ hb2).mono ?_
    rintro e w2 ⟨rfl, hb3⟩
    go_wp2_with fail
    go_ret
    exact ⟨by rw [HL2.out]; rfl, hb2.trans (hb3.mono hb2.size)⟩
   ·have hl2 : decide (m.mods.length ≤ 12) = false:=decide_eq_false (by omega)
    have hl3 : 12 < (m.mods.length : Int):=by omega
    have HL2:=Lib.hid hl2
    clear hl2 hl
    go_wp2_with fail
    go_ret
    exact ⟨by rw [HL2.out]; rfl, hb2⟩
  ·go_wp2_with fail
   go_ret
   exact ⟨rfl, hb2⟩
set_option maxHeartbeats 2000000 in
theorem form_4 (m : Mg) (cs : Array Value) (w : World) (hop : m.op = 4) (h : MAt w (· < w.heap.size) m cs) :
  Calls Tryz.prog 29 #[.agg cs] w (Flag w (formed m)):=by
 have hr : formed m = (decide (m.mods.length ≤ 12) && !m.mods.any noMod):=by unfold formed; rw [if_neg (by omega), if_neg (by omega), if_neg (by omega), if_pos hop]
 rw [hr]
 have B:=Box.new h
 have hb0:=(Below.refl w.heap.size w).alloc (Nat.le_refl _) (.cells cs 28)
 have c1:=(B.1.cell 1).trans h.g1
 rw [hop] at c1
 obtain ⟨M, mc, ds, eM, hMo, lM, _⟩:=h.gM
 have c14:=(B.1.cell 14).trans eM
 have HN:=Lib.hid (containsN_any M mc m.mods ds _ lM (hMo.past hb0))
 have hb:=Lib.hid hb0
 unfold maxLen at lM
 generalize m.mods.any noMod = b2 at HN ⊢
 clear h B hr hMo eM hb0 hop
 by_cases hl : (m.mods.length : Int) ≤ 12
 ·have hl2 : decide (m.mods.length ≤ 12) = true:=decide_eq_true (by omega)
  rw [hl2]
  clear hl2
  go_enter Tryz.func29, Tryz.ntmps29
  go_wp2_with fail
  refine HN.out.mono ?_
  rintro e w2 ⟨rfl, hb3⟩
  go_wp2_with fail
  go_ret
  exact ⟨rfl, hb.out.trans (hb3.mono hb.out.size)⟩
 ·have hl2 : decide (m.mods.length ≤ 12) = false:=decide_eq_false (by omega)
  have hl3 : 12 < (m.mods.length : Int):=by omega
  rw [hl2]
  clear hl2 hl
  go_enter Tryz.func29, Tryz.ntmps29
  go_wp2_with fail
  go_ret
  exact ⟨rfl, hb.out⟩
set_option maxHeartbeats 2000000 in
theorem form_7 (m : Mg) (cs : Array Value) (w : World) (hop : m.op = 7) (h : MAt w (· < w.heap.size) m cs) :
  Calls Tryz.prog 29 #[.agg cs] w (Flag w (formed m)):=by
 have hr : formed m = (m.has || decide (m.sup = no)):=by unfold formed; rw [if_neg (by omega), if_neg (by omega), if_neg (by omega), if_neg (by omega), if_pos hop]
 rw [hr]
 have B:=Box.new h
 have hb:=Lib.hid ((Below.refl w.heap.size w).alloc (Nat.le_refl _) (.cells cs 28))
 have c1:=(B.1.cell 1).trans h.g1
 rw [hop] at c1
 have c17:=(B.1.cell 17).trans h.g17
 have c18:=(B.1.cell 18).trans h.g18
 have hs : (m.sup.toList == []) = decide (m.sup = no):=by
  have:=Fi.toList_eq m.sup no
  rwa [show no.toList = [] by rw [ByteArray.toList_eq]] at this
 have hs2 : m.sup.toList.isEmpty = decide (m.sup = no):=by rw [← hs]; cases m.sup.toList <;> rfl
 generalize decide (m.sup = no) = b at hs hs2 ⊢
 generalize m.has = c at c17 ⊢
 clear h B hr hop
 cases c
 ·cases b
  ·go_enter Tryz.func29, Tryz.ntmps29
   go_wp2_with fail
   go_ret
   exact ⟨ret_bool (by first | rfl | exact hs | exact hs2), hb.out⟩
  ·go_enter Tryz.func29, Tryz.ntmps29
   go_wp2_with fail
   go_ret
   exact ⟨ret_bool (by first | rfl | exact hs | exact hs2), hb.out⟩
 ·go_enter Tryz.func29, Tryz.ntmps29
  go_wp2_with fail
  go_ret
  exact ⟨rfl, hb.out⟩
set_option maxHeartbeats 2000000 in
theorem form_9 (m : Mg) (cs : Array Value) (w : World) (hop : m.op = 9) (h : MAt w (· < w.heap.size) m cs) :
  Calls Tryz.prog 29 #[.agg cs] w (Flag w (formed m)):=by
 have hr : formed m = (within m.ref 1 8 && (decide (m.ref ≠ 2) && within m.code 0 127)):=by unfold formed; rw [if_neg (by omega), if_neg (by omega), if_neg (by omega), if_neg (by omega), if_neg (by omega), if_pos hop]
 rw [hr]
 have B:=Box.new h
 have hb:=Lib.hid ((Below.refl w.heap.size w).alloc (Nat.le_refl _) (.cells cs 28))
 have c1:=(B.1.cell 1).trans h.g1
 rw [hop] at c1
 have c2:=(B.1.cell 2).trans h.g2
 have c21:=(B.1.cell 21).trans h.g21
 have HW1:=Lib.hid (fun w=>within_any m.ref 1 8 w)
 have HW2:=Lib.hid (fun w=>within_any m.code 0 127 w)
 have hne : (m.ref != 2) = decide (m.ref ≠ 2):=by rw [Bool.eq_iff_iff]; simp
 generalize within m.ref 1 8 = b1 at HW1 ⊢
 generalize within m.code 0 127 = b2 at HW2 ⊢
 generalize decide (m.ref ≠ 2) = b3 at hne ⊢
 clear h B hr hop
 go_enter Tryz.func29, Tryz.ntmps29
 go_wp2_with fail
 refine (HW1.out _).mono ?_
 rintro e w1 ⟨rfl, rfl⟩
 cases b1
 ·go_wp2_with fail
  go_ret
  exact ⟨rfl, hb.out⟩
 cases b3
 ·go_wp2_with fail
  go_ret
  exact ⟨rfl, hb.out⟩
 go_wp2_with fail
 refine (HW2.out _).mono ?_
 rintro e w1 ⟨rfl, rfl⟩
 go_wp2_with fail
 go_ret
 exact ⟨rfl, hb.out⟩
set_option maxHeartbeats 2000000 in
theorem form_t (m : Mg) (cs : Array Value) (w : World) (hop : m.op = 2 ∨ m.op = 6 ∨ m.op = 8) (h : MAt w (· < w.heap.size) m cs) :
  Calls Tryz.prog 29 #[.agg cs] w (Flag w (formed m)):=by
 have hr : formed m = true:=by unfold formed; rw [if_neg (by omega), if_neg (by omega), if_neg (by omega), if_neg (by omega), if_neg (by omega), if_neg (by omega), decide_eq_true hop]
 rw [hr]
 have B:=Box.new h
 have hb:=Lib.hid ((Below.refl w.heap.size w).alloc (Nat.le_refl _) (.cells cs 28))
 have c1:=(B.1.cell 1).trans h.g1
 clear h B hr
 rcases hop with e | e | e
 all_goals
  rw [e] at c1
  go_enter Tryz.func29, Tryz.ntmps29
  go_wp2_with fail
  go_ret
  exact ⟨rfl, hb.out⟩
set_option maxHeartbeats 2000000 in
theorem form_o (m : Mg) (cs : Array Value) (w : World) (hop : m.op < 1 ∨ 10 < m.op) (h : MAt w (· < w.heap.size) m cs) :
  Calls Tryz.prog 29 #[.agg cs] w (Flag w (formed m)):=by
 have hr : formed m = false:=by unfold formed; rw [if_neg (by omega), if_neg (by omega), if_neg (by omega), if_neg (by omega), if_neg (by omega), if_neg (by omega), decide_eq_false (by omega)]
 rw [hr]
 have B:=Box.new h
 have hb:=Lib.hid ((Below.refl w.heap.size w).alloc (Nat.le_refl _) (.cells cs 28))
 have c1:=(B.1.cell 1).trans h.g1
 have q1 : (m.op == 1) = false:=by rw [beq_eq_false_iff_ne]; omega
 have q2 : (m.op == 2) = false:=by rw [beq_eq_false_iff_ne]; omega
 have q3 : (m.op == 3) = false:=by rw [beq_eq_false_iff_ne]; omega
 have q4 : (m.op == 4) = false:=by rw [beq_eq_false_iff_ne]; omega
 have q5 : (m.op == 5) = false:=by rw [beq_eq_false_iff_ne]; omega
 have q6 : (m.op == 6) = false:=by rw [beq_eq_false_iff_ne]; omega
 have q7 : (m.op == 7) = false:=by rw [beq_eq_false_iff_ne]; omega
 have q8 : (m.op == 8) = false:=by rw [beq_eq_false_iff_ne]; omega
 have q9 : (m.op == 9) = false:=by rw [beq_eq_false_iff_ne]; omega
 have q10 : (m.op == 10) = false:=by rw [beq_eq_false_iff_ne]; omega
 clear h B hr hop
 go_enter Tryz.func29, Tryz.ntmps29
 go_wp2_with fail
 go_ret
 exact ⟨rfl, hb.out⟩
theorem formed_any (m : Mg) (cs : Array Value) (w : World) (h : MAt w (· < w.heap.size) m cs) : Calls Tryz.prog 29 #[.agg cs] w (Flag w (formed m)):=by
 have hc : m.op = 1 ∨ m.op = 3 ∨ (m.op = 5 ∨ m.op = 10) ∨ m.op = 4 ∨ m.op = 7 ∨ m.op = 9 ∨ (m.op = 2 ∨ m.op = 6 ∨ m.op = 8) ∨ (m.op < 1 ∨ 10 < m.op):=by omega
 rcases hc with e | e | e | e | e | e | e | e
 ·exact form_1 m cs w e h
 ·exact form_3 m cs w e h
 ·exact form_mods m cs w e h
 ·exact form_4 m cs w e h
 ·exact form_7 m cs w e h
 ·exact form_9 m cs w e h
 ·exact form_t m cs w e h
 ·exact form_o m cs w e h
theorem zero_at (w : World) (P : Nat → Prop) : MAt w P zero #[.int .i64 0, .int .i64 0, .int .i64 0, .string ⟨#[]⟩, .int .i64 0, .string ⟨#[]⟩, .int .i64 0, .int .i64 0, .int .i64 0, .string ⟨#[]⟩, .string ⟨#[]⟩, .slice none 0 0, .slice none 0 0, .slice none 0 0, .slice none 0 0, .string ⟨#[]⟩, .bool false, .bool false, .string ⟨#[]⟩, .string ⟨#[]⟩, .string ⟨#[]⟩, .int .i64 0, .string ⟨#[]⟩] :=
 ⟨_, _, _, _, _, none, 0, none, 0, fun _=>[], rfl, lies_noF _ _, ⟨Fi.StrsAt.nil _ _ _, by simp [zero], by simp [zero], by simp [zero]⟩, ⟨MosAt.nil _ _ _ _, by simp [zero], by simp [zero]⟩, Nat.zero_le _, Nat.zero_le _, Nat.zero_le _, Nat.zero_le _, Nat.zero_le _, Nat.zero_le _, Nat.zero_le _⟩
set_option maxHeartbeats 4000000 in
theorem Is_any (m : Mg) (cs : Array Value) (w : World) (h : MAt w (· < w.heap.size) m cs) : Calls Tryz.prog 13 #[.agg cs] w (Flag w (isM m)):=by
 have B:=Box.new h
 have hb0:=(Below.refl w.heap.size w).alloc (Nat.le_refl _) (.cells cs 28)
 have c0:=(B.1.cell 0).trans h.g0
 have hr : isM m = (within m.id 0 2147483647 && (eqM (foreign m) zero && (formed m && areShort (textsM m)))):=rfl
 have HW:=Lib.hid (fun w=>within_any m.id 0 2147483647 w)
 have HFo:=Lib.hid (foreign_any m cs _ (h.past hb0))
 have HSa:=Lib.hid (fun c z w1 hc hz=>Same_any (foreign m) zero c z w1 hc hz)
 have HFd:=Lib.hid (fun w1 hb=>formed_any m cs w1 (h.past hb))
 have HTx:=Lib.hid (fun w1 hb=>texts_any m cs w1 (h.past hb))
 have hsz:=h.sizes
 have HSh:=Lib.hid (fun g w1 hB=>areShort_any (some ⟨g, 0, none⟩) 7 (textsM m) w1 (by show 7 ≤ maxLen; decide) (by simp only [textsM, List.mem_cons, List.not_mem_nil, or_false, forall_eq_or_imp, forall_eq]; exact hsz) (rowS (m:=m) hB))
 have HZ:=Lib.hid zero_at
 have HB:=Lib.hid B
 generalize within m.id 0 2147483647 = b1 at HW hr
 generalize eqM (foreign m) zero = b2 at HSa hr
 generalize formed m = b3 at HFd hr
 generalize areShort (textsM m) = b4 at HSh hr
 generalize foreign m = fm at HFo HSa
 rw [hr]
 have hld:=B.load
 have hb:=Lib.hid hb0
 clear h B hr hsz hb0
 go_enter Tryz.func13, Tryz.ntmps13
 go_wp2_with fail
 refine (HW.out _).mono ?_
 rintro e w1 ⟨rfl, rfl⟩
 cases b1
 ·go_wp2_with fail
  go_ret
  exact ⟨rfl, hb.out⟩
 go_wp2_with fail
 refine HFo.out.mono ?_
 rintro e w1 ⟨cf, rfl, hb1, hF1⟩
 have hb2:=hb.out.trans (hb1.mono hb.out.size)
 have hld1:=(HB.out.past hb1).load
 have HF1:=Lib.hid hF1
 clear hld c0 hF1
 go_wp2_with fail
 refine (HSa.out _ _ _ HF1.out (HZ.out _ _)).mono ?_
 rintro e w2 ⟨rfl, hb3⟩
 have hb4:=hb2.trans (hb3.mono hb2.size)
 have hld2:=((HB.out.past hb1).past hb3).load
 clear hld1
 cases b2
 ·go_wp2_with fail
  go_ret
  exact ⟨rfl, hb4⟩
 go_wp2_with fail
 refine (HFd.out _ hb4).mono ?_
 rintro e w3 ⟨rfl, hb5⟩
 have hb6:=hb4.trans (hb5.mono hb4.size)
 have hld3:=(((HB.out.past hb1).past hb3).past hb5).load
 clear hld2
 cases b3
 ·go_wp2_with fail
  go_ret
  exact ⟨rfl, hb6⟩
 go_wp2_with fail
 refine (HTx.out _ hb6).mono ?_
 rintro e w4 ⟨g, rfl, hBg, hgg, hb7⟩
 have hb8:=hb6.trans (hb7.mono hb6.size)
 have HBg:=Lib.hid hBg
 clear hld3 hBg
 go_wp2_with fail
 refine (HSh.out g _ HBg.out).mono ?_
 rintro e w5 ⟨rfl, rfl⟩
 go_wp2_with fail
 go_ret
 exact ⟨rfl, hb8⟩
end Go.Proofs.YtconghaebebncaaGreatDoor.Ms
namespace Go.Proofs.YtconghaebebncaaGreatDoor.Ms
open Go.RowKit
set_option maxHeartbeats 4000000 in
theorem ris_low (m : Mg) (cs : Array Value) (w : World) (h : MAt w (· < w.heap.size) m cs) (hc : m.op < 1 ∨ (1 ≤ m.op ∧ 10 < m.op) ∨ (1 ≤ m.op ∧ m.op ≤ 10 ∧ m.id < 0) ∨ (1 ≤ m.op ∧ m.op ≤ 10 ∧ 0 ≤ m.id ∧ 2147483647 < m.id)) :
  Calls Tryz.prog 14 #[.agg cs] w (Flag w (isM m)):=by
 have hr : isM m = false:=by
  rw [← isR_isM]
  unfold isR within
  rcases (show ¬ (1 ≤ m.op ∧ m.op ≤ 10) ∨ ¬ (0 ≤ m.id ∧ m.id ≤ 2147483647) by omega) with h | h
  ·rw [decide_eq_false h]; rfl
  ·rw [decide_eq_false h, Bool.false_and, Bool.and_false]
 rw [hr]
 have k0:=h.g0
 have k1:=h.g1
 have hb:=Lib.hid ((Below.refl w.heap.size w).alloc (Nat.le_refl _) (.cells cs 28))
 clear h hr
 generalize m.op = a at k1 hc
 generalize m.id = b at k0 hc
 rcases hc with h1 | ⟨h1, h2⟩ | ⟨h1, h2, h3⟩ | ⟨h1, h2, h3, h4⟩
 ·have d1 : decide (a < 1) = true:=decide_eq_true h1
  go_enter Tryz.func14, Tryz.ntmps14
  go_wp2_with fail
  go_quiet (fail)
  go_wp2_with fail
  go_ret
  exact ⟨rfl, hb.out.trans (Fi.drewN_below _ _ _)⟩
 ·have d1 : decide (a < 1) = false:=decide_eq_false (by omega)
  have d2 : decide (10 < a) = true:=decide_eq_true h2
  go_enter Tryz.func14, Tryz.ntmps14
  go_wp2_with fail
  go_quiet (fail)
  go_wp2_with fail
  go_ret
  exact ⟨rfl, hb.out.trans (Fi.drewN_below _ _ _)⟩
 ·have d1 : decide (a < 1) = false:=decide_eq_false (by omega)
  have d2 : decide (10 < a) = false:=decide_eq_false (by omega)
  have d3 : decide (b < 0) = true:=decide_eq_true h3
  go_enter Tryz.func14, Tryz.ntmps14
  go_wp2_with fail
  go_quiet (fail)
  go_wp2_with fail
  go_ret
  exact ⟨rfl, hb.out.trans (Fi.drewN_below _ _ _)⟩
 ·have d1 : decide (a < 1) = false:=decide_eq_false (by omega)
  have d2 : decide (10 < a) = false:=decide_eq_false (by omega)
  have d3 : decide (b < 0) = false:=decide_eq_false (by omega)
  have d4 : decide (2147483647 < b) = true:=decide_eq_true h4
  go_enter Tryz.func14, Tryz.ntmps14
  go_wp2_with fail
  go_quiet (fail)
  go_wp2_with fail
  go_ret
  exact ⟨rfl, hb.out.trans (Fi.drewN_below _ _ _)⟩
theorem within_no {n a b : Int} (h : ¬ (a ≤ n ∧ n ≤ b)) : within n a b = false:=decide_eq_false h
theorem within_yes {n a b : Int} (h : a ≤ n ∧ n ≤ b) : within n a b = true:=decide_eq_true h
theorem strs_seven (w : World) (a b c d e f g : ByteArray) : Fi.StrsAt (w.alloc (.cells #[.string a, .string b, .string c, .string d, .string e, .string f, .string g] 9)) (· < (w.alloc (.cells #[.string a, .string b, .string c, .string d, .string e, .string f, .string g] 9)).heap.size) (some ⟨w.heap.size, 0, none⟩) [a, b, c, d, e, f, g]:=by
 have B:=Blk.new w 9 #[.string a, .string b, .string c, .string d, .string e, .string f, .string g]
 refine fun _=>⟨_, rfl, by simp, fun i hi=>?_⟩
 rw [Addr.add_lit, Nat.zero_add, B.cell]
 match i, hi with
 | 0, _=>rfl
 | 1, _=>rfl
 | 2, _=>rfl
 | 3, _=>rfl
 | 4, _=>rfl
 | 5, _=>rfl
 | 6, _=>rfl
def OneM (w0 : World) (m : Mg) (cs : Array Value) (w : World) : Prop:=Box w w0.heap.size m cs ∧ Below w0.heap.size w0 w
theorem OneM.past {w0 w w' : World} {m : Mg} {cs : Array Value} (h : OneM w0 m cs w) (hb : Below w.heap.size w w') : OneM w0 m cs w':=⟨h.1.past hb, h.2.trans (hb.mono h.2.size)⟩
set_option maxHeartbeats 16000000 in
theorem ris_main (m : Mg) (cs : Array Value) (w : World) (h : MAt w (· < w.heap.size) m cs) (h1 : 1 ≤ m.op) (h2 : m.op ≤ 10) (h3 : 0 ≤ m.id) (h4 : m.id ≤ 2147483647) :
  Calls Tryz.prog 14 #[.agg cs] w (Flag w (isM m)):=by
 have hr : isM m = (eqM m (shapeR m) && (isList (textsM m) && (isList m.wants && (modsR m.mods (decide (m.op = 4)) && lastR m)))):=by
  rw [← isR_isM]
  unfold isR within
  rw [decide_eq_true (by omega), decide_eq_true (by omega), Bool.true_and, Bool.true_and]
 have HR:=Lib.hid hr
 have O0 : OneM w m cs (w.alloc (.cells cs 28)):=⟨Box.new h, (Below.refl w.heap.size w).alloc (Nat.le_refl _) _⟩
 have O1:=O0.past (Below.refl _ _).drew
 have d1 : decide (m.op < 1) = false:=decide_eq_false (by omega)
 have d2 : decide (10 < m.op) = false:=decide_eq_false (by omega)
 have d3 : decide (m.id < 0) = false:=decide_eq_false (by omega)
 have d4 : decide (2147483647 < m.id) = false:=decide_eq_false (by omega)
 have HC:=Lib.hid (fun c2 w1 ha hb=>rSame_any m (shapeR m) cs c2 w1 ha hb)
 generalize eqM m (shapeR m) = b1 at HR HC
 clear hr O0
 go_enter Tryz.func14, Tryz.ntmps14
 go_wp2_with fail
 refine wp_region_noPanic ?_
 refine wp_region_held_drew (S:=OneM w m cs) (by kernel_rfl) O1 (fun hH0=>?_)
 refine Rg.tk 0 3 (.pointer (some ⟨w.heap.size, 1, none⟩)) rfl (by kernel_rfl) (fun _ _ _ h=>h) (fun _ _=>by kernel_rfl) hH0 ?_
 refine Rg.tk 1 4 (.int .i64 m.op) rfl (by kernel_rfl) (fun _ _ _ h=>h) (fun w' h'=>run_cell rfl rfl (by kernel_rfl) ((h'.1.1.cell 1).trans h.g1)) hH0 ?_
 refine Rg.tk 2 5 (.bool false) rfl (by kernel_rfl) (fun _ _ _ h=>h) (fun _ _=>by rw [← d1]; kernel_rfl) hH0 ?_
 refine Rg.idleP [3] [(6, .bool false)] 21 (by kernel_rfl) (fun _ _ _ _ _ h=>h) (by kernel_rfl) (by kernel_rfl) hH0 ?_
 refine Rg.frame _ (by simp only [Rg.puts, Rg.pu, List.set]; rfl) ?_
 refine Rg.tk 4 7 (.pointer (some ⟨w.heap.size, 1, none⟩)) rfl (by kernel_rfl) (fun _ _ _ h=>h) (fun _ _=>by kernel_rfl) hH0 ?_
 refine Rg.tk 5 8 (.int .i64 m.op) rfl (by kernel_rfl) (fun _ _ _ h=>h) (fun w' h'=>run_cell rfl rfl (by kernel_rfl) ((h'.1.1.cell 1).trans h.g1)) hH0 ?_
 refine Rg.tk 6 9 (.bool false) rfl (by kernel_rfl) (fun _ _ _ h=>h) (fun _ _=>by rw [← d2]; kernel_rfl) hH0 ?_
 refine Rg.idleP [7, 8] [(10, .bool false), (11, .bool false)] 16 (by kernel_rfl) (fun _ _ _ _ _ h=>h) (by kernel_rfl) (by kernel_rfl) hH0 ?_
 refine Rg.frame _ (by simp only [Rg.puts, Rg.pu, List.set]; rfl) ?_
 refine Rg.tk 9 12 (.pointer (some ⟨w.heap.size, 0, none⟩)) rfl (by kernel_rfl) (fun _ _ _ h=>h) (fun _ _=>by kernel_rfl) hH0 ?_
 refine Rg.tk 10 13 (.int .i64 m.id) rfl (by kernel_rfl) (fun _ _ _ h=>h) (fun w' h'=>run_cell rfl rfl (by kernel_rfl) ((h'.1.1.cell 0).trans h.g0)) hH0 ?_
 refine Rg.tk 11 14 (.bool false) rfl (by kernel_rfl) (fun _ _ _ h=>h) (fun _ _=>by rw [← d3]; kernel_rfl) hH0 ?_
 refine Rg.idleP [12, 13] [(15, .bool false), (16, .bool false)] 11 (by kernel_rfl) (fun _ _ _ _ _ h=>h) (by kernel_rfl) (by kernel_rfl) hH0 ?_
 refine Rg.frame _ (by simp only [Rg.puts, Rg.pu, List.set]; rfl) ?_
 refine Rg.tk 14 17 (.pointer (some ⟨w.heap.size, 0, none⟩)) rfl (by kernel_rfl) (fun _ _ _ h=>h) (fun _ _=>by kernel_rfl) hH0 ?_
 refine Rg.tk 15 18 (.int .i64 m.id) rfl (by kernel_rfl) (fun _ _ _ h=>h) (fun w' h'=>run_cell rfl rfl (by kernel_rfl) ((h'.1.1.cell 0).trans h.g0)) hH0 ?_
 refine Rg.tk 16 19 (.bool false) rfl (by kernel_rfl) (fun _ _ _ h=>h) (fun _ _=>by rw [← d4]; kernel_rfl) hH0 ?_
 refine Rg.idleP [17, 18] [(20, .bool false), (21, .bool false)] 6 (by kernel_rfl) (fun _ _ _ _ _ h=>h) (by kernel_rfl) (by kernel_rfl) hH0 ?_
 refine Rg.frame _ (by simp only [Rg.puts, Rg.pu, List.set]; rfl) ?_
 refine Rg.tk 19 22 (.agg cs) rfl (by kernel_rfl) (fun _ _ _ h=>h) (fun w' h'=>run_loadM rfl rfl h'.1) hH0 ?_
 refine Rg.tk 20 23 (.agg cs) rfl (by kernel_rfl) (fun _ _ _ h=>h) (fun w' h'=>run_loadM rfl rfl h'.1) hH0 ?_
 refine Rg.cl 21 24 rfl (by kernel_rfl) 32 #[.agg cs] (by kernel_rfl) (rshape_any m cs _ hH0.1.2) ?_
 rintro _ w2 ⟨cs2, rfl, hb1, hM2⟩
 have hH1:=hH0.past hb1
 refine ⟨_, rfl, hH1, ?_⟩
 refine Rg.cl 22 25 rfl (by kernel_rfl) 16 #[.agg cs, .agg cs2] (by kernel_rfl) (HC.out cs2 _ hH1.1.2 (hM2.past hb1)) ?_
 rintro _ w3 ⟨rfl, hb3⟩
 have hH2:=hH1.past hb3
 refine ⟨_, rfl, hH2, ?_⟩
 refine Rg.tk 23 26 (.bool (!b1)) rfl (by kernel_rfl) (fun _ _ _ h=>h) (fun _ _=>by kernel_rfl) hH2 ?_
 refine Rg.idleP [24] [(27, .bool (!b1))] 0 (by kernel_rfl) (fun _ _ _ _ _ h=>h) (by kernel_rfl) (by kernel_rfl) hH2 ?_
 refine Rg.frame _ (by simp only [Rg.puts, Rg.pu, List.set]; rfl) ?_
 refine wpAnyH_done (by kernel_rfl) ?_ _
 refine NoPanic.normal ?_
 have hO:=Lib.hid hH2
 have hR2:=HR
 clear HC HR d1 d2 d3 d4 O1 hH0 hH1 hH2 hb1 hb3 hM2
 cases b1 with
 | false =>
  go_wp2_with fail
  go_ret
  exact ⟨by rw [hR2.out]; rfl, hO.out.2⟩
 | true =>
 have HX:=hO.out.1
 have c3:=(HX.1.cell 3).trans h.g3
 have c5:=(HX.1.cell 5).trans h.g5
 have c15:=(HX.1.cell 15).trans h.g15
 have c18:=(HX.1.cell 18).trans h.g18
 have c19:=(HX.1.cell 19).trans h.g19
 have c20:=(HX.1.cell 20).trans h.g20
 have c22:=(HX.1.cell 22).trans h.g22
 have hT:=Lib.hid (rtexts_any (some ⟨w3.heap.size, 0, none⟩) 7 (textsM m) _ (by simp [textsM, maxLen]) (strs_seven w3 m.dn m.pass m.rdn m.sup m.attr m.value m.matched))
 have hO2:=Lib.hid (hO.out.past ((Below.refl _ _).alloc (Nat.le_refl _) (.cells #[.string m.dn, .string m.pass, .string m.rdn, .string m.sup, .string m.attr, .string m.value, .string m.matched] 9)))
 have HX2:=hO2.out.1
 obtain ⟨W, wc, e13, hW, lW, -, -⟩:=HX2.2.gW
 obtain ⟨MM1, mc, ds, e14, hMo, lM, -⟩:=HX2.2.gM
 have c13:=(HX2.1.cell 13).trans e13
 have c14:=(HX2.1.cell 14).trans e14
 have c1:=(HX2.1.cell 1).trans h.g1
 have c2:=(HX2.1.cell 2).trans h.g2
 have c4:=(HX2.1.cell 4).trans h.g4
 have c6:=(HX2.1.cell 6).trans h.g6
 have c7:=(HX2.1.cell 7).trans h.g7
 have c21:=(HX2.1.cell 21).trans h.g21
 obtain ⟨x0, x1, x2, x3, x4, f0, f1, f2, f3, f4, hF⟩:=HX2.2.gF
 have c8:=(HX2.1.cell 8).trans f0
 have c9:=(HX2.1.cell 9).trans f1
 have c10:=(HX2.1.cell 10).trans f2
 have c11:=(HX2.1.cell 11).trans f3
 have c12:=(HX2.1.cell 12).trans f4
 have hWa:=Lib.hid (rtexts_any W wc m.wants _ lW hW)
 have hMa:=Lib.hid (rmods_any MM1 mc m.mods ds (decide (m.op = 4)) _ lM hMo)
 have hFi:=Lib.hid (Fi.rIs_any m.fil _ _ _ _ _ _ hF)
 have q4 : (m.op == 4) = decide (m.op = 4):=rfl
 have hb2:=Lib.hid hO2.out.2
 have e5:=Lib.hid (show isM m = (isList (textsM m) && (isList m.wants && (modsR m.mods (decide (m.op = 4)) && lastR m))) by rw [hR2.out, Bool.true_and])
 generalize decide (m.op = 4) = d4 at hMa q4 e5
 generalize isList (textsM m) = b2 at hT e5
 generalize isList m.wants = b3 at hWa e5
 generalize modsR m.mods d4 = b4 at hMa e5
 generalize hb5 : Fi.isF m.fil = b5 at hFi
 have HL:=Lib.hid lM
 clear hO hO2 HX HX2 e13 e14 f0 f1 f2 f3 f4 hF hW lW hMo lM hR2
 go_wp2_with fail
 refine hT.out.mono ?_
 rintro r wx ⟨rfl, rfl⟩
 clear c3 c5 c15 c18 c19 c20 c22 hT
 cases b2 with
 | false =>
  go_wp2_with fail
  go_ret
  exact ⟨by rw [e5.out]; rfl, hb2.out⟩
 | true =>
 go_wp2_with fail
 refine hWa.out.mono ?_
 rintro r wx ⟨rfl, rfl⟩
 cases b3 with
 | false =>
  go_wp2_with fail
  go_ret
  exact ⟨by rw [e5.out]; rfl, hb2.out⟩
 | true =>
 go_wp2_with fail
 refine hMa.out.mono ?_
 rintro r wx ⟨rfl, rfl⟩
 cases b4 with
 | false =>
  go_wp2_with fail
  go_ret
  exact ⟨by rw [e5.out]; rfl, hb2.out⟩
 | true =>
 have e6:=Lib.hid (show isM m = lastR m by rw [e5.out]; rfl)
 clear q4 e5 hWa hMa c13 c14 HL
 by_cases e1 : m.op = 1
 ·have hl:=Lib.hid (show isM m = within m.ver 1 127 by rw [e6.out]; unfold lastR; rw [if_pos e1])
  rw [e1] at c1
  rcases (by omega : m.ver < 1 ∨ (1 ≤ m.ver ∧ 127 < m.ver) ∨ (1 ≤ m.ver ∧ m.ver ≤ 127)) with y1 | ⟨y1, y2⟩ | ⟨y1, y2⟩
  ·go_wp2_with fail
   go_ret
   exact ⟨by rw [hl.out, within_no (by omega)]; rfl, hb2.out⟩
  ·go_wp2_with fail
   go_ret
   exact ⟨by rw [hl.out, within_no (by omega)]; first | rfl | exact ret_bool (decide_eq_false (by omega)), hb2.out⟩
  ·go_wp2_with fail
   go_ret
   exact ⟨by rw [hl.out, within_yes (by omega)]; first | rfl | exact ret_bool (decide_eq_true (by omega)), hb2.out⟩
 by_cases e3 : m.op = 3
 ·have hl:=Lib.hid (show isM m = (within m.scope 0 2 && (within m.size 0 2147483647 && b5)) by rw [e6.out, ← hb5]; unfold lastR; rw [if_neg e1, if_pos e3])
  rw [e3] at c1
  rcases (by omega : m.scope < 0 ∨ (0 ≤ m.scope ∧ 2 < m.scope) ∨ (0 ≤ m.scope ∧ m.scope ≤ 2)) with y1 | ⟨y1, y2⟩ | ⟨y1, y2⟩
  ·go_wp2_with fail
   go_ret
   exact ⟨by rw [hl.out, within_no (by omega)]; rfl, hb2.out⟩
  ·go_wp2_with fail
   go_ret
   exact ⟨by rw [hl.out, within_no (by omega)]; rfl, hb2.out⟩
  rcases (by omega : m.size < 0 ∨ (0 ≤ m.size ∧ 2147483647 < m.size) ∨ (0 ≤ m.size ∧ m.size ≤ 2147483647)) with y3 | ⟨y3, y4⟩ | ⟨y3, y4⟩
  ·go_wp2_with fail
   go_ret
   exact ⟨by rw [hl.out, within_yes (by omega), within_no (by omega)]; rfl, hb2.out⟩
  ·go_wp2_with fail
   go_ret
   exact ⟨by rw [hl.out, within_yes (by omega), within_no (by omega)]; rfl, hb2.out⟩
  ·go_wp2_with fail
   refine hFi.out.mono ?_
   rintro r wy ⟨rfl, hb5'⟩
   have hb6:=hb2.out.trans (hb5'.mono hb2.out.size)
   go_wp2_with fail
   go_ret
   exact ⟨by rw [hl.out, within_yes (by omega), within_yes (by omega)]; rfl, hb6⟩
 by_cases e9 : m.op = 9
 ·have hl:=Lib.hid (show isM m = (within m.ref 1 8 && (decide (m.ref ≠ 2) && within m.code 0 127)) by rw [e6.out]; unfold lastR; rw [if_neg e1, if_neg e3, if_pos e9])
  rw [e9] at c1
  clear c8 c9 c10 c11 c12
  rcases (by omega : m.ref < 1 ∨ (1 ≤ m.ref ∧ 8 < m.ref) ∨ (1 ≤ m.ref ∧ m.ref ≤ 8)) with y1 | ⟨y1, y2⟩ | ⟨y1, y2⟩
  ·go_wp2_with fail
   go_ret
   exact ⟨by rw [hl.out, within_no (by omega)]; rfl, hb2.out⟩
  ·go_wp2_with fail
   go_ret
   exact ⟨by rw [hl.out, within_no (by omega)]; rfl, hb2.out⟩
  by_cases y5 : m.ref = 2
  ·have y6 : (m.ref != 2) = false:=by rw [y5]; rfl
   go_wp2_with fail
   go_ret
   exact ⟨by rw [hl.out, within_yes (by omega), decide_eq_false (by omega)]; rfl, hb2.out⟩
  have y6 : (m.ref != 2) = true:=bne_iff_ne.2 y5
  rcases (by omega : m.code < 0 ∨ (0 ≤ m.code ∧ 127 < m.code) ∨ (0 ≤ m.code ∧ m.code ≤ 127)) with y3 | ⟨y3, y4⟩ | ⟨y3, y4⟩
  ·go_wp2_with fail
   go_ret
   exact ⟨by rw [hl.out, within_yes (by omega), decide_eq_true y5, within_no (by omega)]; first | rfl | exact ret_bool (decide_eq_false (by omega)), hb2.out⟩
  ·go_wp2_with fail
   go_ret
   exact ⟨by rw [hl.out, within_yes (by omega), decide_eq_true y5, within_no (by omega)]; first | rfl | exact ret_bool (decide_eq_false (by omega)), hb2.out⟩
  ·go_wp2_with fail
   go_ret
   exact ⟨by rw [hl.out, within_yes (by omega), decide_eq_true y5, within_yes (by omega)]; first | rfl | exact ret_bool (decide_eq_true (by omega)), hb2.out⟩
 ·have hl:=Lib.hid (show isM m = true by rw [e6.out]; unfold lastR; rw [if_neg e1, if_neg e3, if_neg e9])
  have q1 : (m.op == 1) = false:=beq_eq_false_iff_ne.2 e1
  have q3 : (m.op == 3) = false:=beq_eq_false_iff_ne.2 e3
  have q9 : (m.op == 9) = false:=beq_eq_false_iff_ne.2 e9
  go_wp2_with fail
  go_ret
  exact ⟨by rw [hl.out]; rfl, hb2.out⟩
theorem rIs_any (m : Mg) (cs : Array Value) (w : World) (h : MAt w (· < w.heap.size) m cs) : Calls Tryz.prog 14 #[.agg cs] w (Flag w (isM m)):=by
 by_cases hc : m.op < 1 ∨ (1 ≤ m.op ∧ 10 < m.op) ∨ (1 ≤ m.op ∧ m.op ≤ 10 ∧ m.id < 0) ∨ (1 ≤ m.op ∧ m.op ≤ 10 ∧ 0 ≤ m.id ∧ 2147483647 < m.id)
 ·exact ris_low m cs w h hc
 ·exact ris_main m cs w h (by omega) (by omega) (by omega) (by omega)
end Go.Proofs.YtconghaebebncaaGreatDoor.Ms
