/- What read answers. -/
import Derived.Test.YticfemheneljmaaDoorFlRead
import Derived.Test.YticfemheneljmaaDoorFlPrint
namespace Go.Proofs.YticfemheneljmaaDoor.Fi
open Go.RowKit
set_option linter.unusedVariables false
set_option maxRecDepth 100000

theorem rd_no {n m : Nat} {s : List UInt8} (h : s.head? ≠ some 40 ∨ m = 0) : rd n m s = none := by
  cases n with
  | zero => rfl
  | succ n => rw [rd, if_pos h]
theorem res_read (W : World) (g : Nat) (x0 x1 x2 x3 x4 n p : Value) (tmps : Array Value) (h6 : tmps.getD 4 undef = .pointer (some ⟨g, 0, none⟩)) (h7 : tmps.getD 5 undef = n) (h8 : tmps.getD 6 undef = p)
    (B : Blk W g 25 #[x0, x1, x2, x3, x4]) : (results Tryd.f28 tmps).run Tryd.prog W = .ok (.tuple #[.agg #[x0, x1, x2, x3, x4], n, p]) W := by
  obtain ⟨q0, q1, q2, q3, q4⟩ := five B
  rw [Array.getD_eq_getD_getElem?] at h6 h7 h8
  simp [results, Tryd.results28, go_sem, h6, h7, h8, q0, q1, q2, q3, q4]
theorem read_none (n m : Nat) (s : ByteArray) (w : World) (h : (Nm.bs s).head? ≠ some 40 ∨ m = 0) :
    Calls Tryd.prog 28 #[.string s, .int .i64 m] w (ReadPost w (rd n m (Nm.bs s))) := by
  have CP := cutPre_any s 40
  rw [rd_no h]
  unfold preV at CP
  unfold ReadPost
  by_cases hh : (Nm.bs s).head? = some 40
  · have h0 : m = 0 := by
      rcases h with h | h
      · exact absurd hh h
      · exact h
    subst h0
    rw [decide_eq_true hh, if_pos hh] at CP
    have HCP := Lib.hid CP
    clear CP h hh
    go_enter Tryd.func28, Tryd.ntmps28
    go_wp2_with fail
    refine (HCP.out _).mono ?_
    rintro e w2 ⟨rfl, rfl⟩
    go_wp2_with fail
    exact bodyPost_ret (res_read _ w.heap.size _ _ _ _ _ _ _ _ rfl rfl rfl (Blk.new _ _ _)) rfl ⟨rfl, (Below.refl _ _).alloc (Nat.le_refl _) _⟩
  · rw [decide_eq_false hh, if_neg hh, mk_bs] at CP
    have HCP := Lib.hid CP
    clear CP h hh
    go_enter Tryd.func28, Tryd.ntmps28
    go_wp2_with fail
    refine (HCP.out _).mono ?_
    rintro e w2 ⟨rfl, rfl⟩
    go_wp2_with fail
    exact bodyPost_ret (res_read _ w.heap.size _ _ _ _ _ _ _ _ rfl rfl rfl (Blk.new _ _ _)) rfl ⟨rfl, (Below.refl _ _).alloc (Nat.le_refl _) _⟩
theorem sgn (k : Int) (c : UInt8) (h : sign k = [c]) (w : World) : Calls Tryd.prog 35 #[.int .i64 k] w fun e w' => e = .returned (.string ⟨#[c]⟩) ∧ w = w' := by
  have := sign_any k w
  rw [h] at this
  exact this
set_option maxHeartbeats 4000000 in
theorem read_item (n m : Nat) (s : ByteArray) (w : World) (hs : s.size ≤ 1000000000) (h40 : (Nm.bs s).head? = some 40) (hm : 1 ≤ m) (h1 : (Nm.bs s).tail.head? ≠ some 38) (h2 : (Nm.bs s).tail.head? ≠ some 124) (h3 : (Nm.bs s).tail.head? ≠ some 33) :
    Calls Tryd.prog 28 #[.string s, .int .i64 m] w (ReadPost w (rd (n + 1) m (Nm.bs s))) := by
  have CP := cutPre_any s 40
  rw [rd, if_neg (fun h => h.elim (fun h => h h40) (fun h => by omega)), if_neg h1, if_neg h2, if_neg h3]
  unfold preV at CP
  obtain ⟨t, ht⟩ : ∃ t : ByteArray, t = Nm.mk (Nm.bs s).tail := ⟨_, rfl⟩
  have hbt : (Nm.bs s).tail = Nm.bs t := by rw [ht]
  have htl : t.size ≤ s.size := by rw [ht]; show (Nm.bs s).tail.length ≤ _; rw [List.length_tail]; show s.size - 1 ≤ s.size; omega
  rw [decide_eq_true h40, if_pos h40, ← ht] at CP
  rw [hbt] at h1 h2 h3 ⊢
  have CA := fun w => cutPre_any t 38 w
  have CB := fun w => cutPre_any t 124 w
  have CC := fun w => cutPre_any t 33 w
  unfold preV at CA CB CC
  rw [decide_eq_false h1, if_neg h1, mk_bs] at CA
  rw [decide_eq_false h2, if_neg h2, mk_bs] at CB
  rw [decide_eq_false h3, if_neg h3, mk_bs] at CC
  have SA := Lib.hid (sgn 1 38 rfl)
  have SB := Lib.hid (sgn 2 124 rfl)
  have SC := Lib.hid (sgn 3 33 rfl)
  have HCP := Lib.hid CP
  have HA := Lib.hid CA
  have HB := Lib.hid CB
  have HC := Lib.hid CC
  have CT := Lib.hid (fun w => cut_any t 41 w (by omega))
  have hm0 : ((m : Int) == 0) = false := by rw [beq_eq_false_iff_ne]; omega
  clear CP CA CB CC h1 h2 h3 ht hbt h40
  go_enter Tryd.func28, Tryd.ntmps28
  go_wp2_with fail
  refine (HCP.out _).mono ?_
  rintro e w2 ⟨rfl, rfl⟩
  go_wp2_with fail
  have hbW : Below w.heap.size w ((w.alloc (.cells #[.int .i64 0, .string ⟨#[]⟩, .string ⟨#[]⟩, .slice none 0 0, .slice none 0 0] 25)).alloc (.cells #[.int .i64 1, .int .i64 2, .int .i64 3] 3)) := ((Below.refl w.heap.size w).alloc (Nat.le_refl _) _).alloc (by simp) _
  have hsW : ((w.alloc (.cells #[.int .i64 0, .string ⟨#[]⟩, .string ⟨#[]⟩, .slice none 0 0, .slice none 0 0] 25)).alloc (.cells #[.int .i64 1, .int .i64 2, .int .i64 3] 3)).heap.size = w.heap.size + 2 := by simp
  have Z0 := (Blk.new w 25 #[.int .i64 0, .string ⟨#[]⟩, .string ⟨#[]⟩, .slice none 0 0, .slice none 0 0]).alloc (.cells #[.int .i64 1, .int .i64 2, .int .i64 3] 3)
  go_loopw [29] (fun i wr => ∃ q : Nat, q ≤ 3 ∧ i = .int .i64 q ∧ wr = (w.alloc (.cells #[.int .i64 0, .string ⟨#[]⟩, .string ⟨#[]⟩, .slice none 0 0, .slice none 0 0] 25)).alloc (.cells #[.int .i64 1, .int .i64 2, .int .i64 3] 3)) (fun i wr => 3 - (intOf i).toNat)
  case atStart => exact ⟨0, by omega, rfl, rfl⟩
  case round =>
    obtain ⟨q, hq, rfl, rfl⟩ := hrel
    obtain rfl | rfl | rfl | rfl : q = 0 ∨ q = 1 ∨ q = 2 ∨ q = 3 := by omega
    · go_wp2_with fail
      refine (SA.out _).mono ?_
      rintro e w9 ⟨rfl, rfl⟩
      go_wp2_with fail
      refine (HA.out _).mono ?_
      rintro e w9 ⟨rfl, rfl⟩
      go_wp2_with fail
      exact ⟨⟨1, by omega, by go_num, by first | rfl | trivial⟩, by simp [intOf]⟩
    · go_wp2_with fail
      refine (SB.out _).mono ?_
      rintro e w9 ⟨rfl, rfl⟩
      go_wp2_with fail
      refine (HB.out _).mono ?_
      rintro e w9 ⟨rfl, rfl⟩
      go_wp2_with fail
      exact ⟨⟨2, by omega, by go_num, by first | rfl | trivial⟩, by simp [intOf]⟩
    · go_wp2_with fail
      refine (SC.out _).mono ?_
      rintro e w9 ⟨rfl, rfl⟩
      go_wp2_with fail
      refine (HC.out _).mono ?_
      rintro e w9 ⟨rfl, rfl⟩
      go_wp2_with fail
      exact ⟨⟨3, by omega, by go_num, by first | rfl | trivial⟩, by simp [intOf]⟩
    · have hxl := upto_len 41 (Nm.bs t)
      have hyl := past_len 41 (Nm.bs t)
      have htz : (Nm.bs t).length = t.size := rfl
      have hCT := CT.out
      unfold cutV at hCT
      obtain ⟨x, hx⟩ : ∃ x, x = Nm.mk (upto 41 (Nm.bs t)) := ⟨_, rfl⟩
      have hxz : x.size = (upto 41 (Nm.bs t)).length := by rw [hx]; rfl
      have hxb : upto 41 (Nm.bs t) = Nm.bs x := by rw [hx]
      obtain ⟨y, hy⟩ : ∃ y, y = Nm.mk (past 41 (Nm.bs t)) := ⟨_, rfl⟩
      rw [← hx, ← hy] at hCT
      have HCT := Lib.hid hCT
      have HI := Lib.hid (fun w => readI_any x w (by omega))
      have HY := Lib.hid hy
      have HX := Lib.hid hxb
      have HZ0 := Lib.hid Z0
      clear hCT hx hy hxb hxz hxl hyl htz Z0
      go_wp2_with fail
      refine (HCT.out _).mono ?_
      rintro e w3 ⟨rfl, hb3⟩
      have Z3 := HZ0.out.past hb3
      have hs3 := hb3.size
      have hb4 := hbW.trans (hb3.mono hbW.size)
      clear hb3
      go_wp2_with fail
      refine (HI.out _).mono ?_
      rintro e w5 ⟨x0, x1, x2, x3, x4, rfl, hL, hb5⟩
      obtain ⟨k', a', v', S', m', d', A', n', c', hcs⟩ := hL.form
      simp only [List.cons.injEq, and_true] at hcs
      obtain ⟨rfl, rfl, rfl, rfl, rfl⟩ := hcs
      have Z5 := Z3.past hb5
      have hs5 := hb5.size
      have hb6 := hb4.trans (hb5.mono hb4.size)
      obtain ⟨r0, r1, r2, r3, r4⟩ := five Z5
      obtain ⟨g0, g1, g2, g3, g4⟩ := five_set Z5
      have HZ5 := Lib.hid Z5
      have HL := Lib.hid hL
      clear hb5 Z3 Z5 hL hb4
      go_wp2_with fail
      refine bodyPost_ret (res_read _ w.heap.size _ _ _ _ _ _ _ _ rfl rfl rfl (fset5 HZ5.out)) rfl ?_
      rw [HX.out]
      have hyy := HY.out
      subst hyy
      refine ⟨_, _, _, _, _, rfl, below_set5 hb6 (Nat.le_refl _) _ _ _ _ _, ?_⟩
      refine HL.out.imp (fun b hb' => ⟨by omega, by have := hb'.2; simp [World.setCell]; omega⟩) (fun p hp => ?_)
      have hpb : p.block ≠ w.heap.size := by omega
      rw [World.cell?_setCell_other _ _ _ _ (fun e => hpb (by rw [← e])), World.cell?_setCell_other _ _ _ _ (fun e => hpb (by rw [← e])), World.cell?_setCell_other _ _ _ _ (fun e => hpb (by rw [← e])), World.cell?_setCell_other _ _ _ _ (fun e => hpb (by rw [← e])), World.cell?_setCell_other _ _ _ _ (fun e => hpb (by rw [← e]))]
set_option maxHeartbeats 4000000 in
theorem read_kid1 (n : Nat) (ih : SaidRead n) (m : Nat) (hmn : m ≤ n + 1) (hm20 : m ≤ 20) (s : ByteArray) (w : World) (hs : s.size ≤ 1000000000) (h40 : (Nm.bs s).head? = some 40) (hm : 1 ≤ m) (h1 : (Nm.bs s).tail.head? = some 38) :
    Calls Tryd.prog 28 #[.string s, .int .i64 m] w (ReadPost w (rd (n + 1) m (Nm.bs s))) := by
  have CP := cutPre_any s 40
  rw [rd, if_neg (fun h => h.elim (fun h => h h40) (fun h => by omega)), if_pos h1]
  unfold preV at CP
  obtain ⟨t, ht⟩ : ∃ t : ByteArray, t = Nm.mk (Nm.bs s).tail := ⟨_, rfl⟩
  have hbt : (Nm.bs s).tail = Nm.bs t := by rw [ht]
  have htl : t.size ≤ s.size := by rw [ht]; show (Nm.bs s).tail.length ≤ _; rw [List.length_tail]; show s.size - 1 ≤ s.size; omega
  rw [decide_eq_true h40, if_pos h40, ← ht] at CP
  rw [hbt] at h1 ⊢
  obtain ⟨u, hu⟩ : ∃ u : ByteArray, u = Nm.mk (Nm.bs t).tail := ⟨_, rfl⟩
  have hbu : (Nm.bs t).tail = Nm.bs u := by rw [hu]
  have hul : u.size ≤ t.size := by rw [hu]; show (Nm.bs t).tail.length ≤ _; rw [List.length_tail]; show t.size - 1 ≤ t.size; omega
  rw [hbu]
  have CA := fun w => cutPre_any t 38 w
  unfold preV at CA
  rw [decide_eq_true h1, if_pos h1, ← hu] at CA
  have SA := Lib.hid (sgn 1 38 rfl)
  have HA := Lib.hid CA
  have HCP := Lib.hid CP
  have hm0 : ((m : Int) == 0) = false := by rw [beq_eq_false_iff_ne]; omega
  have hR := fun w => readK_any n ih 1 rfl m hm hmn hm20 u w (by omega)
  generalize lp (rd n) 1 m m [] (Nm.bs u) = R at hR ⊢
  have HR := Lib.hid hR
  clear CP CA hR h1 ht hbt hu hbu h40 ih
  go_enter Tryd.func28, Tryd.ntmps28
  go_wp2_with fail
  refine (HCP.out _).mono ?_
  rintro e w2 ⟨rfl, rfl⟩
  go_wp2_with fail
  have hbW : Below w.heap.size w ((w.alloc (.cells #[.int .i64 0, .string ⟨#[]⟩, .string ⟨#[]⟩, .slice none 0 0, .slice none 0 0] 25)).alloc (.cells #[.int .i64 1, .int .i64 2, .int .i64 3] 3)) := ((Below.refl w.heap.size w).alloc (Nat.le_refl _) _).alloc (by simp) _
  have hsW : ((w.alloc (.cells #[.int .i64 0, .string ⟨#[]⟩, .string ⟨#[]⟩, .slice none 0 0, .slice none 0 0] 25)).alloc (.cells #[.int .i64 1, .int .i64 2, .int .i64 3] 3)).heap.size = w.heap.size + 2 := by simp
  have Z0 := (Blk.new w 25 #[.int .i64 0, .string ⟨#[]⟩, .string ⟨#[]⟩, .slice none 0 0, .slice none 0 0]).alloc (.cells #[.int .i64 1, .int .i64 2, .int .i64 3] 3)
  go_loopw [29] (fun i wr => ∃ q : Nat, q ≤ 0 ∧ i = .int .i64 q ∧ wr = (w.alloc (.cells #[.int .i64 0, .string ⟨#[]⟩, .string ⟨#[]⟩, .slice none 0 0, .slice none 0 0] 25)).alloc (.cells #[.int .i64 1, .int .i64 2, .int .i64 3] 3)) (fun i wr => 3 - (intOf i).toNat)
  case atStart => exact ⟨0, by omega, rfl, rfl⟩
  case round =>
    obtain ⟨q, hq, rfl, rfl⟩ := hrel
    obtain rfl : q = 0 := by omega
    · have HZ0 := Lib.hid Z0
      clear Z0
      go_wp2_with fail
      refine (SA.out _).mono ?_
      rintro e w9 ⟨rfl, rfl⟩
      go_wp2_with fail
      refine (HA.out _).mono ?_
      rintro e w9 ⟨rfl, rfl⟩
      cases R with
      | none =>
        go_wp2_with fail
        refine (HR.out _).mono ?_
        rintro e w5 ⟨rfl, hb5⟩
        have Z5 := HZ0.out.past hb5
        have hb6 := hbW.trans (hb5.mono hbW.size)
        obtain ⟨r0, r1, r2, r3, r4⟩ := five Z5
        obtain ⟨g0, g1, g2, g3, g4⟩ := five_set Z5
        have HZ5 := Lib.hid Z5
        clear hb5 Z5
        go_wp2_with fail
        exact bodyPost_ret (res_read _ w.heap.size _ _ _ _ _ _ _ _ rfl rfl rfl (fset5 HZ5.out)) rfl ⟨rfl, below_set5 hb6 (Nat.le_refl _) _ _ _ _ _⟩
      | some fr =>
        obtain ⟨f, r⟩ := fr
        go_wp2_with fail
        refine (HR.out _).mono ?_
        rintro e w5 ⟨x0, x1, x2, x3, x4, rfl, hb5, hL⟩
        obtain ⟨k', a', v', S', m', d', A', n', c', hcs⟩ := hL.form
        simp only [List.cons.injEq, and_true] at hcs
        obtain ⟨rfl, rfl, rfl, rfl, rfl⟩ := hcs
        have Z5 := HZ0.out.past hb5
        have hs5 := hb5.size
        have hb6 := hbW.trans (hb5.mono hbW.size)
        obtain ⟨r0, r1, r2, r3, r4⟩ := five Z5
        obtain ⟨g0, g1, g2, g3, g4⟩ := five_set Z5
        have HZ5 := Lib.hid Z5
        have HL := Lib.hid hL
        clear hb5 Z5 hL
        go_wp2_with fail
        refine bodyPost_ret (res_read _ w.heap.size _ _ _ _ _ _ _ _ rfl rfl rfl (fset5 HZ5.out)) rfl ?_
        refine ⟨_, _, _, _, _, rfl, below_set5 hb6 (Nat.le_refl _) _ _ _ _ _, ?_⟩
        refine HL.out.imp (fun b hb' => ⟨by omega, by have := hb'.2; simp [World.setCell]; omega⟩) (fun p hp => ?_)
        have hpb : p.block ≠ w.heap.size := by omega
        rw [World.cell?_setCell_other _ _ _ _ (fun e => hpb (by rw [← e])), World.cell?_setCell_other _ _ _ _ (fun e => hpb (by rw [← e])), World.cell?_setCell_other _ _ _ _ (fun e => hpb (by rw [← e])), World.cell?_setCell_other _ _ _ _ (fun e => hpb (by rw [← e])), World.cell?_setCell_other _ _ _ _ (fun e => hpb (by rw [← e]))]
set_option maxHeartbeats 4000000 in
theorem read_kid2 (n : Nat) (ih : SaidRead n) (m : Nat) (hmn : m ≤ n + 1) (hm20 : m ≤ 20) (s : ByteArray) (w : World) (hs : s.size ≤ 1000000000) (h40 : (Nm.bs s).head? = some 40) (hm : 1 ≤ m) (h1 : (Nm.bs s).tail.head? ≠ some 38) (h2 : (Nm.bs s).tail.head? = some 124) :
    Calls Tryd.prog 28 #[.string s, .int .i64 m] w (ReadPost w (rd (n + 1) m (Nm.bs s))) := by
  have CP := cutPre_any s 40
  rw [rd, if_neg (fun h => h.elim (fun h => h h40) (fun h => by omega)), if_neg h1, if_pos h2]
  unfold preV at CP
  obtain ⟨t, ht⟩ : ∃ t : ByteArray, t = Nm.mk (Nm.bs s).tail := ⟨_, rfl⟩
  have hbt : (Nm.bs s).tail = Nm.bs t := by rw [ht]
  have htl : t.size ≤ s.size := by rw [ht]; show (Nm.bs s).tail.length ≤ _; rw [List.length_tail]; show s.size - 1 ≤ s.size; omega
  rw [decide_eq_true h40, if_pos h40, ← ht] at CP
  rw [hbt] at h1 h2 ⊢
  obtain ⟨u, hu⟩ : ∃ u : ByteArray, u = Nm.mk (Nm.bs t).tail := ⟨_, rfl⟩
  have hbu : (Nm.bs t).tail = Nm.bs u := by rw [hu]
  have hul : u.size ≤ t.size := by rw [hu]; show (Nm.bs t).tail.length ≤ _; rw [List.length_tail]; show t.size - 1 ≤ t.size; omega
  rw [hbu]
  have CA := fun w => cutPre_any t 38 w
  unfold preV at CA
  rw [decide_eq_false h1, if_neg h1, mk_bs] at CA
  have SA := Lib.hid (sgn 1 38 rfl)
  have HA := Lib.hid CA
  have CB := fun w => cutPre_any t 124 w
  unfold preV at CB
  rw [decide_eq_true h2, if_pos h2, ← hu] at CB
  have SB := Lib.hid (sgn 2 124 rfl)
  have HB := Lib.hid CB
  have HCP := Lib.hid CP
  have hm0 : ((m : Int) == 0) = false := by rw [beq_eq_false_iff_ne]; omega
  have hR := fun w => readK_any n ih 2 rfl m hm hmn hm20 u w (by omega)
  generalize lp (rd n) 2 m m [] (Nm.bs u) = R at hR ⊢
  have HR := Lib.hid hR
  clear CP CA CB hR h1 h2 ht hbt hu hbu h40 ih
  go_enter Tryd.func28, Tryd.ntmps28
  go_wp2_with fail
  refine (HCP.out _).mono ?_
  rintro e w2 ⟨rfl, rfl⟩
  go_wp2_with fail
  have hbW : Below w.heap.size w ((w.alloc (.cells #[.int .i64 0, .string ⟨#[]⟩, .string ⟨#[]⟩, .slice none 0 0, .slice none 0 0] 25)).alloc (.cells #[.int .i64 1, .int .i64 2, .int .i64 3] 3)) := ((Below.refl w.heap.size w).alloc (Nat.le_refl _) _).alloc (by simp) _
  have hsW : ((w.alloc (.cells #[.int .i64 0, .string ⟨#[]⟩, .string ⟨#[]⟩, .slice none 0 0, .slice none 0 0] 25)).alloc (.cells #[.int .i64 1, .int .i64 2, .int .i64 3] 3)).heap.size = w.heap.size + 2 := by simp
  have Z0 := (Blk.new w 25 #[.int .i64 0, .string ⟨#[]⟩, .string ⟨#[]⟩, .slice none 0 0, .slice none 0 0]).alloc (.cells #[.int .i64 1, .int .i64 2, .int .i64 3] 3)
  go_loopw [29] (fun i wr => ∃ q : Nat, q ≤ 1 ∧ i = .int .i64 q ∧ wr = (w.alloc (.cells #[.int .i64 0, .string ⟨#[]⟩, .string ⟨#[]⟩, .slice none 0 0, .slice none 0 0] 25)).alloc (.cells #[.int .i64 1, .int .i64 2, .int .i64 3] 3)) (fun i wr => 3 - (intOf i).toNat)
  case atStart => exact ⟨0, by omega, rfl, rfl⟩
  case round =>
    obtain ⟨q, hq, rfl, rfl⟩ := hrel
    obtain rfl | rfl : q = 0 ∨ q = 1 := by omega
    · go_wp2_with fail
      refine (SA.out _).mono ?_
      rintro e w9 ⟨rfl, rfl⟩
      go_wp2_with fail
      refine (HA.out _).mono ?_
      rintro e w9 ⟨rfl, rfl⟩
      go_wp2_with fail
      exact ⟨⟨1, by omega, by go_num, by first | rfl | trivial⟩, by simp [intOf]⟩
    · have HZ0 := Lib.hid Z0
      clear Z0
      go_wp2_with fail
      refine (SB.out _).mono ?_
      rintro e w9 ⟨rfl, rfl⟩
      go_wp2_with fail
      refine (HB.out _).mono ?_
      rintro e w9 ⟨rfl, rfl⟩
      cases R with
      | none =>
        go_wp2_with fail
        refine (HR.out _).mono ?_
        rintro e w5 ⟨rfl, hb5⟩
        have Z5 := HZ0.out.past hb5
        have hb6 := hbW.trans (hb5.mono hbW.size)
        obtain ⟨r0, r1, r2, r3, r4⟩ := five Z5
        obtain ⟨g0, g1, g2, g3, g4⟩ := five_set Z5
        have HZ5 := Lib.hid Z5
        clear hb5 Z5
        go_wp2_with fail
        exact bodyPost_ret (res_read _ w.heap.size _ _ _ _ _ _ _ _ rfl rfl rfl (fset5 HZ5.out)) rfl ⟨rfl, below_set5 hb6 (Nat.le_refl _) _ _ _ _ _⟩
      | some fr =>
        obtain ⟨f, r⟩ := fr
        go_wp2_with fail
        refine (HR.out _).mono ?_
        rintro e w5 ⟨x0, x1, x2, x3, x4, rfl, hb5, hL⟩
        obtain ⟨k', a', v', S', m', d', A', n', c', hcs⟩ := hL.form
        simp only [List.cons.injEq, and_true] at hcs
        obtain ⟨rfl, rfl, rfl, rfl, rfl⟩ := hcs
        have Z5 := HZ0.out.past hb5
        have hs5 := hb5.size
        have hb6 := hbW.trans (hb5.mono hbW.size)
        obtain ⟨r0, r1, r2, r3, r4⟩ := five Z5
        obtain ⟨g0, g1, g2, g3, g4⟩ := five_set Z5
        have HZ5 := Lib.hid Z5
        have HL := Lib.hid hL
        clear hb5 Z5 hL
        go_wp2_with fail
        refine bodyPost_ret (res_read _ w.heap.size _ _ _ _ _ _ _ _ rfl rfl rfl (fset5 HZ5.out)) rfl ?_
        refine ⟨_, _, _, _, _, rfl, below_set5 hb6 (Nat.le_refl _) _ _ _ _ _, ?_⟩
        refine HL.out.imp (fun b hb' => ⟨by omega, by have := hb'.2; simp [World.setCell]; omega⟩) (fun p hp => ?_)
        have hpb : p.block ≠ w.heap.size := by omega
        rw [World.cell?_setCell_other _ _ _ _ (fun e => hpb (by rw [← e])), World.cell?_setCell_other _ _ _ _ (fun e => hpb (by rw [← e])), World.cell?_setCell_other _ _ _ _ (fun e => hpb (by rw [← e])), World.cell?_setCell_other _ _ _ _ (fun e => hpb (by rw [← e])), World.cell?_setCell_other _ _ _ _ (fun e => hpb (by rw [← e]))]
set_option maxHeartbeats 4000000 in
theorem read_kid3 (n : Nat) (ih : SaidRead n) (m : Nat) (hmn : m ≤ n + 1) (hm20 : m ≤ 20) (s : ByteArray) (w : World) (hs : s.size ≤ 1000000000) (h40 : (Nm.bs s).head? = some 40) (hm : 1 ≤ m) (h1 : (Nm.bs s).tail.head? ≠ some 38) (h2 : (Nm.bs s).tail.head? ≠ some 124) (h3 : (Nm.bs s).tail.head? = some 33) :
    Calls Tryd.prog 28 #[.string s, .int .i64 m] w (ReadPost w (rd (n + 1) m (Nm.bs s))) := by
  have CP := cutPre_any s 40
  rw [rd, if_neg (fun h => h.elim (fun h => h h40) (fun h => by omega)), if_neg h1, if_neg h2, if_pos h3]
  unfold preV at CP
  obtain ⟨t, ht⟩ : ∃ t : ByteArray, t = Nm.mk (Nm.bs s).tail := ⟨_, rfl⟩
  have hbt : (Nm.bs s).tail = Nm.bs t := by rw [ht]
  have htl : t.size ≤ s.size := by rw [ht]; show (Nm.bs s).tail.length ≤ _; rw [List.length_tail]; show s.size - 1 ≤ s.size; omega
  rw [decide_eq_true h40, if_pos h40, ← ht] at CP
  rw [hbt] at h1 h2 h3 ⊢
  obtain ⟨u, hu⟩ : ∃ u : ByteArray, u = Nm.mk (Nm.bs t).tail := ⟨_, rfl⟩
  have hbu : (Nm.bs t).tail = Nm.bs u := by rw [hu]
  have hul : u.size ≤ t.size := by rw [hu]; show (Nm.bs t).tail.length ≤ _; rw [List.length_tail]; show t.size - 1 ≤ t.size; omega
  rw [hbu]
  have CA := fun w => cutPre_any t 38 w
  unfold preV at CA
  rw [decide_eq_false h1, if_neg h1, mk_bs] at CA
  have SA := Lib.hid (sgn 1 38 rfl)
  have HA := Lib.hid CA
  have CB := fun w => cutPre_any t 124 w
  unfold preV at CB
  rw [decide_eq_false h2, if_neg h2, mk_bs] at CB
  have SB := Lib.hid (sgn 2 124 rfl)
  have HB := Lib.hid CB
  have CC := fun w => cutPre_any t 33 w
  unfold preV at CC
  rw [decide_eq_true h3, if_pos h3, ← hu] at CC
  have SC := Lib.hid (sgn 3 33 rfl)
  have HC := Lib.hid CC
  have HCP := Lib.hid CP
  have hm0 : ((m : Int) == 0) = false := by rw [beq_eq_false_iff_ne]; omega
  have hR := fun w => readK_any n ih 3 rfl m hm hmn hm20 u w (by omega)
  generalize lp (rd n) 3 m m [] (Nm.bs u) = R at hR ⊢
  have HR := Lib.hid hR
  clear CP CA CB CC hR h1 h2 h3 ht hbt hu hbu h40 ih
  go_enter Tryd.func28, Tryd.ntmps28
  go_wp2_with fail
  refine (HCP.out _).mono ?_
  rintro e w2 ⟨rfl, rfl⟩
  go_wp2_with fail
  have hbW : Below w.heap.size w ((w.alloc (.cells #[.int .i64 0, .string ⟨#[]⟩, .string ⟨#[]⟩, .slice none 0 0, .slice none 0 0] 25)).alloc (.cells #[.int .i64 1, .int .i64 2, .int .i64 3] 3)) := ((Below.refl w.heap.size w).alloc (Nat.le_refl _) _).alloc (by simp) _
  have hsW : ((w.alloc (.cells #[.int .i64 0, .string ⟨#[]⟩, .string ⟨#[]⟩, .slice none 0 0, .slice none 0 0] 25)).alloc (.cells #[.int .i64 1, .int .i64 2, .int .i64 3] 3)).heap.size = w.heap.size + 2 := by simp
  have Z0 := (Blk.new w 25 #[.int .i64 0, .string ⟨#[]⟩, .string ⟨#[]⟩, .slice none 0 0, .slice none 0 0]).alloc (.cells #[.int .i64 1, .int .i64 2, .int .i64 3] 3)
  go_loopw [29] (fun i wr => ∃ q : Nat, q ≤ 2 ∧ i = .int .i64 q ∧ wr = (w.alloc (.cells #[.int .i64 0, .string ⟨#[]⟩, .string ⟨#[]⟩, .slice none 0 0, .slice none 0 0] 25)).alloc (.cells #[.int .i64 1, .int .i64 2, .int .i64 3] 3)) (fun i wr => 3 - (intOf i).toNat)
  case atStart => exact ⟨0, by omega, rfl, rfl⟩
  case round =>
    obtain ⟨q, hq, rfl, rfl⟩ := hrel
    obtain rfl | rfl | rfl : q = 0 ∨ q = 1 ∨ q = 2 := by omega
    · go_wp2_with fail
      refine (SA.out _).mono ?_
      rintro e w9 ⟨rfl, rfl⟩
      go_wp2_with fail
      refine (HA.out _).mono ?_
      rintro e w9 ⟨rfl, rfl⟩
      go_wp2_with fail
      exact ⟨⟨1, by omega, by go_num, by first | rfl | trivial⟩, by simp [intOf]⟩
    · go_wp2_with fail
      refine (SB.out _).mono ?_
      rintro e w9 ⟨rfl, rfl⟩
      go_wp2_with fail
      refine (HB.out _).mono ?_
      rintro e w9 ⟨rfl, rfl⟩
      go_wp2_with fail
      exact ⟨⟨2, by omega, by go_num, by first | rfl | trivial⟩, by simp [intOf]⟩
    · have HZ0 := Lib.hid Z0
      clear Z0
      go_wp2_with fail
      refine (SC.out _).mono ?_
      rintro e w9 ⟨rfl, rfl⟩
      go_wp2_with fail
      refine (HC.out _).mono ?_
      rintro e w9 ⟨rfl, rfl⟩
      cases R with
      | none =>
        go_wp2_with fail
        refine (HR.out _).mono ?_
        rintro e w5 ⟨rfl, hb5⟩
        have Z5 := HZ0.out.past hb5
        have hb6 := hbW.trans (hb5.mono hbW.size)
        obtain ⟨r0, r1, r2, r3, r4⟩ := five Z5
        obtain ⟨g0, g1, g2, g3, g4⟩ := five_set Z5
        have HZ5 := Lib.hid Z5
        clear hb5 Z5
        go_wp2_with fail
        exact bodyPost_ret (res_read _ w.heap.size _ _ _ _ _ _ _ _ rfl rfl rfl (fset5 HZ5.out)) rfl ⟨rfl, below_set5 hb6 (Nat.le_refl _) _ _ _ _ _⟩
      | some fr =>
        obtain ⟨f, r⟩ := fr
        go_wp2_with fail
        refine (HR.out _).mono ?_
        rintro e w5 ⟨x0, x1, x2, x3, x4, rfl, hb5, hL⟩
        obtain ⟨k', a', v', S', m', d', A', n', c', hcs⟩ := hL.form
        simp only [List.cons.injEq, and_true] at hcs
        obtain ⟨rfl, rfl, rfl, rfl, rfl⟩ := hcs
        have Z5 := HZ0.out.past hb5
        have hs5 := hb5.size
        have hb6 := hbW.trans (hb5.mono hbW.size)
        obtain ⟨r0, r1, r2, r3, r4⟩ := five Z5
        obtain ⟨g0, g1, g2, g3, g4⟩ := five_set Z5
        have HZ5 := Lib.hid Z5
        have HL := Lib.hid hL
        clear hb5 Z5 hL
        go_wp2_with fail
        refine bodyPost_ret (res_read _ w.heap.size _ _ _ _ _ _ _ _ rfl rfl rfl (fset5 HZ5.out)) rfl ?_
        refine ⟨_, _, _, _, _, rfl, below_set5 hb6 (Nat.le_refl _) _ _ _ _ _, ?_⟩
        refine HL.out.imp (fun b hb' => ⟨by omega, by have := hb'.2; simp [World.setCell]; omega⟩) (fun p hp => ?_)
        have hpb : p.block ≠ w.heap.size := by omega
        rw [World.cell?_setCell_other _ _ _ _ (fun e => hpb (by rw [← e])), World.cell?_setCell_other _ _ _ _ (fun e => hpb (by rw [← e])), World.cell?_setCell_other _ _ _ _ (fun e => hpb (by rw [← e])), World.cell?_setCell_other _ _ _ _ (fun e => hpb (by rw [← e])), World.cell?_setCell_other _ _ _ _ (fun e => hpb (by rw [← e]))]
theorem read_any : ∀ n, SaidRead n
  | 0 => fun m s w hm _ _ => read_none 0 m s w (Or.inr (by omega))
  | n + 1 => fun m s w hm hm20 hs => by
    have ih := read_any n
    by_cases h0 : (Nm.bs s).head? ≠ some 40 ∨ m = 0
    · exact read_none _ _ _ _ h0
    have h40 : (Nm.bs s).head? = some 40 := Classical.byContradiction fun h1 => h0 (Or.inl h1)
    have hm1 : 1 ≤ m := by
      rcases Nat.eq_zero_or_pos m with h1 | h1
      · exact absurd (Or.inr h1) h0
      · exact h1
    by_cases h1 : (Nm.bs s).tail.head? = some 38
    · exact read_kid1 n ih m hm hm20 s w hs h40 hm1 h1
    by_cases h2 : (Nm.bs s).tail.head? = some 124
    · exact read_kid2 n ih m hm hm20 s w hs h40 hm1 h1 h2
    by_cases h3 : (Nm.bs s).tail.head? = some 33
    · exact read_kid3 n ih m hm hm20 s w hs h40 hm1 h1 h2 h3
    exact read_item n m s w hs h40 hm1 h1 h2 h3
end Go.Proofs.YticfemheneljmaaDoor.Fi
