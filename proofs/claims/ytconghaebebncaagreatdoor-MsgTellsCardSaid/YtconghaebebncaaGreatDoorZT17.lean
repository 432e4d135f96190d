import Derived.Test.YtconghaebebncaaGreatDoorZT16
import Derived.Test.YtconghaebebncaaGreatDoorZT14
namespace Go.Proofs.YtconghaebebncaaGreatDoor.Ms
open Go.RowKit
set_option linter.unusedVariables false
set_option maxRecDepth 100000
attribute [local go_sem ↓] loadAtMsg
def Flag (w : World) (b : Bool) (r : Ending) (w' : World) : Prop := r = .returned (.bool b) ∧ Below w.heap.size w w'
set_option maxHeartbeats 2000000 in
theorem form_1 (m : Mg) (cs : Array Value) (w : World) (hop : m.op = 1) (h : MAt w (· < w.heap.size) m cs) :
  Calls Tryz.prog 29 #[.agg cs] w (Flag w (formed m)) := by
 have hr : formed m = within m.ver 1 127 := by unfold formed; rw [if_pos hop]
 rw [hr]
 have B := Box.new h
 have hb := Lib.hid ((Below.refl w.heap.size w).alloc (Nat.le_refl _) (.cells cs 28))
 have c1 := (B.1.cell 1).trans h.g1
 rw [hop] at c1
 have c4 := (B.1.cell 4).trans h.g4
 have HW := Lib.hid (fun w => within_any m.ver 1 127 w)
 clear h B hr hop
 go_enter Tryz.func29, Tryz.ntmps29
 go_wp2_with fail
 refine (HW.out _).mono ?_
 rintro e w1 ⟨rfl, rfl⟩
 go_wp2_with fail
 go_ret
 exact ⟨rfl, hb.out⟩
set_option maxHeartbeats 2000000 in
theorem form_3 (m : Mg) (cs : Array Value) (w : World) (hop : m.op = 3) (h : MAt w (· < w.heap.size) m cs) :
  Calls Tryz.prog 29 #[.agg cs] w (Flag w (formed m)) := by
 have hr : formed m = (within m.scope 0 2 && (within m.size 0 2147483647 && (Fi.isF m.fil && isList m.wants))) := by unfold formed; rw [if_neg (by omega), if_pos hop]
 rw [hr]
 have B := Box.new h
 have hb0 := (Below.refl w.heap.size w).alloc (Nat.le_refl _) (.cells cs 28)
 have hb := Lib.hid hb0
 have c1 := (B.1.cell 1).trans h.g1
 rw [hop] at c1
 have c6 := (B.1.cell 6).trans h.g6
 have c7 := (B.1.cell 7).trans h.g7
 obtain ⟨x0, x1, x2, x3, x4, fx0, fx1, fx2, fx3, fx4, hF⟩ := h.gF
 obtain ⟨W, wc, eW, hW, lW, _, sW⟩ := h.gW
 have c8 := (B.1.cell 8).trans fx0
 have c9 := (B.1.cell 9).trans fx1
 have c10 := (B.1.cell 10).trans fx2
 have c11 := (B.1.cell 11).trans fx3
 have c12 := (B.1.cell 12).trans fx4
 have HW1 := Lib.hid (fun w => within_any m.scope 0 2 w)
 have HW2 := Lib.hid (fun w => within_any m.size 0 2147483647 w)
 have HF := Lib.hid (Fi.Is_any m.fil _ _ _ _ _ _ (hF.past hb0))
 have HL := Lib.hid (fun w1 hb => isList_any W wc m.wants w1 lW sW (hW.past hb))
 have HB := Lib.hid B
 have HE := Lib.hid eW
 generalize within m.scope 0 2 = b1 at HW1 ⊢
 generalize within m.size 0 2147483647 = b2 at HW2 ⊢
 generalize Fi.isF m.fil = b3 at HF ⊢
 generalize isList m.wants = b4 at HL ⊢
 clear h B hr hop fx0 fx1 fx2 fx3 fx4 hF hW eW lW sW hb0
 go_enter Tryz.func29, Tryz.ntmps29
 go_wp2_with fail
 refine (HW1.out _).mono ?_
 rintro e w1 ⟨rfl, rfl⟩
 cases b1
 ·go_wp2_with fail
  go_ret
  exact ⟨rfl, hb.out⟩
 go_wp2_with fail
 refine (HW2.out _).mono ?_
 rintro e w1 ⟨rfl, rfl⟩
 cases b2
 ·go_wp2_with fail
  go_ret
  exact ⟨rfl, hb.out⟩
 go_wp2_with fail
 refine HF.out.mono ?_
 rintro e w1 ⟨rfl, hb1⟩
 have hb2 := hb.out.trans (hb1.mono hb.out.size)
 have d13 := ((HB.out.past hb1).1.cell 13).trans HE.out
 clear c1 c6 c7 c8 c9 c10 c11 c12
 cases b3
 ·go_wp2_with fail
  go_ret
  exact ⟨rfl, hb2⟩
 go_wp2_with fail
 refine (HL.out _ hb2).mono ?_
 rintro e w2 ⟨rfl, rfl⟩
 go_wp2_with fail
 go_ret
 exact ⟨rfl, hb2⟩
set_option maxHeartbeats 2000000 in
theorem form_mods (m : Mg) (cs : Array Value) (w : World) (hop : m.op = 5 ∨ m.op = 10) (h : MAt w (· < w.heap.size) m cs) :
  Calls Tryz.prog 29 #[.agg cs] w (Flag w (formed m)) := by
 have hr : formed m = (!m.mods.any takes && (decide (m.mods.length ≤ 12) && !m.mods.any noMod)) := by unfold formed; rw [if_neg (by omega), if_neg (by omega), if_pos hop]
 rw [hr]
 have B := Box.new h
 have hb0 := (Below.refl w.heap.size w).alloc (Nat.le_refl _) (.cells cs 28)
 have c1 := (B.1.cell 1).trans h.g1
 obtain ⟨M, mc, ds, eM, hMo, lM, _⟩ := h.gM
 have c14 := (B.1.cell 14).trans eM
 have HT := Lib.hid (containsT_any M mc m.mods ds _ lM (hMo.past hb0))
 have HN := Lib.hid (fun w1 hb => containsN_any M mc m.mods ds w1 lM (hMo.past hb))
 have HB := Lib.hid B
 have HE := Lib.hid eM
 have hb := Lib.hid hb0
 unfold maxLen at lM
 generalize m.mods.any takes = b1 at HT ⊢
 generalize m.mods.any noMod = b2 at HN ⊢
 clear h B hr hMo eM hb0
 rcases hop with e | e
 all_goals
  rw [e] at c1
  go_enter Tryz.func29, Tryz.ntmps29
  go_wp2_with fail
  refine HT.out.mono ?_
  rintro e w1 ⟨rfl, hb1⟩
  have hb2 := hb.out.trans (hb1.mono hb.out.size)
  have d14 := ((HB.out.past hb1).1.cell 14).trans HE.out
  have d1 := (HB.out.past hb1).1.cell 1
  clear c1 c14 d1
  cases b1
  ·by_cases hl : (m.mods.length : Int) ≤ 12
   ·have hl2 : decide (m.mods.length ≤ 12) = true := decide_eq_true (by omega)
    have HL2 := Lib.hid hl2
    clear hl2
    go_wp2_with fail
    refine (HN.out _ hb2).mono ?_
    rintro e w2 ⟨rfl, hb3⟩
    go_wp2_with fail
    go_ret
    exact ⟨by rw [HL2.out]; rfl, hb2.trans (hb3.mono hb2.size)⟩
   ·have hl2 : decide (m.mods.length ≤ 12) = false := decide_eq_false (by omega)
    have hl3 : 12 < (m.mods.length : Int) := by omega
    have HL2 := Lib.hid hl2
    clear hl2 hl
    go_wp2_with fail
    go_ret
    exact ⟨by rw [HL2.out]; rfl, hb2⟩
  ·go_wp2_with fail
   go_ret
   exact ⟨rfl, hb2⟩
set_option maxHeartbeats 2000000 in
theorem form_4 (m : Mg) (cs : Array Value) (w : World) (hop : m.op = 4) (h : MAt w (· < w.heap.size) m cs) :
  Calls Tryz.prog 29 #[.agg cs] w (Flag w (formed m)) := by
 have hr : formed m = (decide (m.mods.length ≤ 12) && !m.mods.any noMod) := by unfold formed; rw [if_neg (by omega), if_neg (by omega), if_neg (by omega), if_pos hop]
 rw [hr]
 have B := Box.new h
 have hb0 := (Below.refl w.heap.size w).alloc (Nat.le_refl _) (.cells cs 28)
 have c1 := (B.1.cell 1).trans h.g1
 rw [hop] at c1
 obtain ⟨M, mc, ds, eM, hMo, lM, _⟩ := h.gM
 have c14 := (B.1.cell 14).trans eM
 have HN := Lib.hid (containsN_any M mc m.mods ds _ lM (hMo.past hb0))
 have hb := Lib.hid hb0
 unfold maxLen at lM
 generalize m.mods.any noMod = b2 at HN ⊢
 clear h B hr hMo eM hb0 hop
 by_cases hl : (m.mods.length : Int) ≤ 12
 ·have hl2 : decide (m.mods.length ≤ 12) = true := decide_eq_true (by omega)
  rw [hl2]
  clear hl2
  go_enter Tryz.func29, Tryz.ntmps29
  go_wp2_with fail
  refine HN.out.mono ?_
  rintro e w2 ⟨rfl, hb3⟩
  go_wp2_with fail
  go_ret
  exact ⟨rfl, hb.out.trans (hb3.mono hb.out.size)⟩
 ·have hl2 : decide (m.mods.length ≤ 12) = false := decide_eq_false (by omega)
  have hl3 : 12 < (m.mods.length : Int) := by omega
  rw [hl2]
  clear hl2 hl
  go_enter Tryz.func29, Tryz.ntmps29
  go_wp2_with fail
  go_ret
  exact ⟨rfl, hb.out⟩
set_option maxHeartbeats 2000000 in
theorem form_7 (m : Mg) (cs : Array Value) (w : World) (hop : m.op = 7) (h : MAt w (· < w.heap.size) m cs) :
  Calls Tryz.prog 29 #[.agg cs] w (Flag w (formed m)) := by
 have hr : formed m = (m.has || decide (m.sup = no)) := by unfold formed; rw [if_neg (by omega), if_neg (by omega), if_neg (by omega), if_neg (by omega), if_pos hop]
 rw [hr]
 have B := Box.new h
 have hb := Lib.hid ((Below.refl w.heap.size w).alloc (Nat.le_refl _) (.cells cs 28))
 have c1 := (B.1.cell 1).trans h.g1
 rw [hop] at c1
 have c17 := (B.1.cell 17).trans h.g17
 have c18 := (B.1.cell 18).trans h.g18
 have hs : (m.sup.toList == []) = decide (m.sup = no) := by
  have := Fi.toList_eq m.sup no
  rwa [show no.toList = [] by rw [ByteArray.toList_eq]] at this
 have hs2 : m.sup.toList.isEmpty = decide (m.sup = no) := by rw [← hs]; cases m.sup.toList <;> rfl
 generalize decide (m.sup = no) = b at hs hs2 ⊢
 generalize m.has = c at c17 ⊢
 clear h B hr hop
 cases c
 ·cases b
  ·go_enter Tryz.func29, Tryz.ntmps29
   go_wp2_with fail
   go_ret
   exact ⟨ret_bool (by first | rfl | exact hs | exact hs2), hb.out⟩
  ·go_enter Tryz.func29, Tryz.ntmps29
   go_wp2_with fail
   go_ret
   exact ⟨ret_bool (by first | rfl | exact hs | exact hs2), hb.out⟩
 ·go_enter Tryz.func29, Tryz.ntmps29
  go_wp2_with fail
  go_ret
  exact ⟨rfl, hb.out⟩
set_option maxHeartbeats 2000000 in
theorem form_9 (m : Mg) (cs : Array Value) (w : World) (hop : m.op = 9) (h : MAt w (· < w.heap.size) m cs) :
  Calls Tryz.prog 29 #[.agg cs] w (Flag w (formed m)) := by
 have hr : formed m = (within m.ref 1 8 && (decide (m.ref ≠ 2) && within m.code 0 127)) := by unfold formed; rw [if_neg (by omega), if_neg (by omega), if_neg (by omega), if_neg (by omega), if_neg (by omega), if_pos hop]
 rw [hr]
 have B := Box.new h
 have hb := Lib.hid ((Below.refl w.heap.size w).alloc (Nat.le_refl _) (.cells cs 28))
 have c1 := (B.1.cell 1).trans h.g1
 rw [hop] at c1
 have c2 := (B.1.cell 2).trans h.g2
 have c21 := (B.1.cell 21).trans h.g21
 have HW1 := Lib.hid (fun w => within_any m.ref 1 8 w)
 have HW2 := Lib.hid (fun w => within_any m.code 0 127 w)
 have hne : (m.ref != 2) = decide (m.ref ≠ 2) := by rw [Bool.eq_iff_iff]; simp
 generalize within m.ref 1 8 = b1 at HW1 ⊢
 generalize within m.code 0 127 = b2 at HW2 ⊢
 generalize decide (m.ref ≠ 2) = b3 at hne ⊢
 clear h B hr hop
 go_enter Tryz.func29, Tryz.ntmps29
 go_wp2_with fail
 refine (HW1.out _).mono ?_
 rintro e w1 ⟨rfl, rfl⟩
 cases b1
 ·go_wp2_with fail
  go_ret
  exact ⟨rfl, hb.out⟩
 cases b3
 ·go_wp2_with fail
  go_ret
  exact ⟨rfl, hb.out⟩
 go_wp2_with fail
 refine (HW2.out _).mono ?_
 rintro e w1 ⟨rfl, rfl⟩
 go_wp2_with fail
 go_ret
 exact ⟨rfl, hb.out⟩
set_option maxHeartbeats 2000000 in
theorem form_t (m : Mg) (cs : Array Value) (w : World) (hop : m.op = 2 ∨ m.op = 6 ∨ m.op = 8) (h : MAt w (· < w.heap.size) m cs) :
  Calls Tryz.prog 29 #[.agg cs] w (Flag w (formed m)) := by
 have hr : formed m = true := by unfold formed; rw [if_neg (by omega), if_neg (by omega), if_neg (by omega), if_neg (by omega), if_neg (by omega), if_neg (by omega), decide_eq_true hop]
 rw [hr]
 have B := Box.new h
 have hb := Lib.hid ((Below.refl w.heap.size w).alloc (Nat.le_refl _) (.cells cs 28))
 have c1 := (B.1.cell 1).trans h.g1
 clear h B hr
 rcases hop with e | e | e
 all_goals
  rw [e] at c1
  go_enter Tryz.func29, Tryz.ntmps29
  go_wp2_with fail
  go_ret
  exact ⟨rfl, hb.out⟩
set_option maxHeartbeats 2000000 in
theorem form_o (m : Mg) (cs : Array Value) (w : World) (hop : m.op < 1 ∨ 10 < m.op) (h : MAt w (· < w.heap.size) m cs) :
  Calls Tryz.prog 29 #[.agg cs] w (Flag w (formed m)) := by
 have hr : formed m = false := by unfold formed; rw [if_neg (by omega), if_neg (by omega), if_neg (by omega), if_neg (by omega), if_neg (by omega), if_neg (by omega), decide_eq_false (by omega)]
 rw [hr]
 have B := Box.new h
 have hb := Lib.hid ((Below.refl w.heap.size w).alloc (Nat.le_refl _) (.cells cs 28))
 have c1 := (B.1.cell 1).trans h.g1
 have q1 : (m.op == 1) = false := by rw [beq_eq_false_iff_ne]; omega
 have q2 : (m.op == 2) = false := by rw [beq_eq_false_iff_ne]; omega
 have q3 : (m.op == 3) = false := by rw [beq_eq_false_iff_ne]; omega
 have q4 : (m.op == 4) = false := by rw [beq_eq_false_iff_ne]; omega
 have q5 : (m.op == 5) = false := by rw [beq_eq_false_iff_ne]; omega
 have q6 : (m.op == 6) = false := by rw [beq_eq_false_iff_ne]; omega
 have q7 : (m.op == 7) = false := by rw [beq_eq_false_iff_ne]; omega
 have q8 : (m.op == 8) = false := by rw [beq_eq_false_iff_ne]; omega
 have q9 : (m.op == 9) = false := by rw [beq_eq_false_iff_ne]; omega
 have q10 : (m.op == 10) = false := by rw [beq_eq_false_iff_ne]; omega
 clear h B hr hop
 go_enter Tryz.func29, Tryz.ntmps29
 go_wp2_with fail
 go_ret
 exact ⟨rfl, hb.out⟩
theorem formed_any (m : Mg) (cs : Array Value) (w : World) (h : MAt w (· < w.heap.size) m cs) : Calls Tryz.prog 29 #[.agg cs] w (Flag w (formed m)) := by
 have hc : m.op = 1 ∨ m.op = 3 ∨ (m.op = 5 ∨ m.op = 10) ∨ m.op = 4 ∨ m.op = 7 ∨ m.op = 9 ∨ (m.op = 2 ∨ m.op = 6 ∨ m.op = 8) ∨ (m.op < 1 ∨ 10 < m.op) := by omega
 rcases hc with e | e | e | e | e | e | e | e
 ·exact form_1 m cs w e h
 ·exact form_3 m cs w e h
 ·exact form_mods m cs w e h
 ·exact form_4 m cs w e h
 ·exact form_7 m cs w e h
 ·exact form_9 m cs w e h
 ·exact form_t m cs w e h
 ·exact form_o m cs w e h
theorem zero_at (w : World) (P : Nat → Prop) : MAt w P zero #[.int .i64 0, .int .i64 0, .int .i64 0, .string ⟨#[]⟩, .int .i64 0, .string ⟨#[]⟩, .int .i64 0, .int .i64 0, .int .i64 0, .string ⟨#[]⟩, .string ⟨#[]⟩, .slice none 0 0, .slice none 0 0, .slice none 0 0, .slice none 0 0, .string ⟨#[]⟩, .bool false, .bool false, .string ⟨#[]⟩, .string ⟨#[]⟩, .string ⟨#[]⟩, .int .i64 0, .string ⟨#[]⟩] :=
 ⟨_, _, _, _, _, none, 0, none, 0, fun _ => [], rfl, lies_noF _ _, ⟨Fi.StrsAt.nil _ _ _, by simp [zero], by simp [zero], by simp [zero]⟩, ⟨MosAt.nil _ _ _ _, by simp [zero], by simp [zero]⟩, Nat.zero_le _, Nat.zero_le _, Nat.zero_le _, Nat.zero_le _, Nat.zero_le _, Nat.zero_le _, Nat.zero_le _⟩
set_option maxHeartbeats 4000000 in
theorem Is_any (m : Mg) (cs : Array Value) (w : World) (h : MAt w (· < w.heap.size) m cs) : Calls Tryz.prog 13 #[.agg cs] w (Flag w (isM m)) := by
 have B := Box.new h
 have hb0 := (Below.refl w.heap.size w).alloc (Nat.le_refl _) (.cells cs 28)
 have c0 := (B.1.cell 0).trans h.g0
 have hr : isM m = (within m.id 0 2147483647 && (eqM (foreign m) zero && (formed m && areShort (textsM m)))) := rfl
 have HW := Lib.hid (fun w => within_any m.id 0 2147483647 w)
 have HFo := Lib.hid (foreign_any m cs _ (h.past hb0))
 have HSa := Lib.hid (fun c z w1 hc hz => Same_any (foreign m) zero c z w1 hc hz)
 have HFd := Lib.hid (fun w1 hb => formed_any m cs w1 (h.past hb))
 have HTx := Lib.hid (fun w1 hb => texts_any m cs w1 (h.past hb))
 have hsz := h.sizes
 have HSh := Lib.hid (fun g w1 hB => areShort_any (some ⟨g, 0, none⟩) 7 (textsM m) w1 (by show 7 ≤ maxLen; decide) (by simp only [textsM, List.mem_cons, List.not_mem_nil, or_false, forall_eq_or_imp, forall_eq]; exact hsz) (rowS (m := m) hB))
 have HZ := Lib.hid zero_at
 have HB := Lib.hid B
 generalize within m.id 0 2147483647 = b1 at HW hr
 generalize eqM (foreign m) zero = b2 at HSa hr
 generalize formed m = b3 at HFd hr
 generalize areShort (textsM m) = b4 at HSh hr
 generalize foreign m = fm at HFo HSa
 rw [hr]
 have hld := B.load
 have hb := Lib.hid hb0
 clear h B hr hsz hb0
 go_enter Tryz.func13, Tryz.ntmps13
 go_wp2_with fail
 refine (HW.out _).mono ?_
 rintro e w1 ⟨rfl, rfl⟩
 cases b1
 ·go_wp2_with fail
  go_ret
  exact ⟨rfl, hb.out⟩
 go_wp2_with fail
 refine HFo.out.mono ?_
 rintro e w1 ⟨cf, rfl, hb1, hF1⟩
 have hb2 := hb.out.trans (hb1.mono hb.out.size)
 have hld1 := (HB.out.past hb1).load
 have HF1 := Lib.hid hF1
 clear hld c0 hF1
 go_wp2_with fail
 refine (HSa.out _ _ _ HF1.out (HZ.out _ _)).mono ?_
 rintro e w2 ⟨rfl, hb3⟩
 have hb4 := hb2.trans (hb3.mono hb2.size)
 have hld2 := ((HB.out.past hb1).past hb3).load
 clear hld1
 cases b2
 ·go_wp2_with fail
  go_ret
  exact ⟨rfl, hb4⟩
 go_wp2_with fail
 refine (HFd.out _ hb4).mono ?_
 rintro e w3 ⟨rfl, hb5⟩
 have hb6 := hb4.trans (hb5.mono hb4.size)
 have hld3 := (((HB.out.past hb1).past hb3).past hb5).load
 clear hld2
 cases b3
 ·go_wp2_with fail
  go_ret
  exact ⟨rfl, hb6⟩
 go_wp2_with fail
 refine (HTx.out _ hb6).mono ?_
 rintro e w4 ⟨g, rfl, hBg, hgg, hb7⟩
 have hb8 := hb6.trans (hb7.mono hb6.size)
 have HBg := Lib.hid hBg
 clear hld3 hBg
 go_wp2_with fail
 refine (HSh.out g _ HBg.out).mono ?_
 rintro e w5 ⟨rfl, rfl⟩
 go_wp2_with fail
 go_ret
 exact ⟨rfl, hb8⟩
end Go.Proofs.YtconghaebebncaaGreatDoor.Ms
