/- What Parse answers. -/
import Derived.Test.YticfemheneljmaaDoorFlRead2
import Derived.Test.YticfemheneljmaaDoorFlSame
namespace Go.Proofs.YticfemheneljmaaDoor.Fi
open Go.RowKit
set_option linter.unusedVariables false
set_option maxRecDepth 100000

def ParsePost (w : World) : Option Fil → Ending → World → Prop
  | none, r, w' => r = .returned (.tuple #[.agg #[.int .i64 0, .string ⟨#[]⟩, .string ⟨#[]⟩, .slice none 0 0, .slice none 0 0], .int .i64 18]) ∧ Below w.heap.size w w'
  | some f, r, w' => ∃ x0 x1 x2 x3 x4, r = .returned (.tuple #[.agg #[x0, x1, x2, x3, x4], .int .i64 0]) ∧ Below w.heap.size w w' ∧ Lies w' (fun b => w.heap.size ≤ b ∧ b < w'.heap.size) f [x0, x1, x2, x3, x4]
theorem res_parse (W : World) (g : Nat) (x0 x1 x2 x3 x4 n : Value) (tmps : Array Value) (h6 : tmps.getD 2 undef = .pointer (some ⟨g, 0, none⟩)) (h7 : tmps.getD 3 undef = n)
    (B : Blk W g 25 #[x0, x1, x2, x3, x4]) : (results Tryd.f18 tmps).run Tryd.prog W = .ok (.tuple #[.agg #[x0, x1, x2, x3, x4], n]) W := by
  obtain ⟨q0, q1, q2, q3, q4⟩ := five B
  rw [Array.getD_eq_getD_getElem?] at h6 h7
  simp [results, Tryd.results18, go_sem, h6, h7, q0, q1, q2, q3, q4]
set_option maxHeartbeats 1000000 in
theorem parse_any (s : ByteArray) (w : World) (hs : s.size ≤ 1000000000) : Calls Tryd.prog 18 #[.string s] w (ParsePost w (parse (Nm.bs s))) := by
  have H := fun w => read_any 20 20 s w (by omega) (by omega) hs
  unfold parse
  cases hr : rd 20 20 (Nm.bs s) with
  | none =>
    rw [hr] at H
    have HH := Lib.hid H
    clear H hr
    show Calls Tryd.prog 18 #[.string s] w (ParsePost w none)
    go_enter Tryd.func18, Tryd.ntmps18
    go_wp2_with fail
    refine (HH.out _).mono ?_
    rintro e w1 ⟨rfl, hb1⟩
    have hs1 := hb1.size
    have hb2 := (((Below.refl w.heap.size w).alloc (Nat.le_refl _) (.cells #[.int .i64 0, .string ⟨#[]⟩, .string ⟨#[]⟩, .slice none 0 0, .slice none 0 0] 25)).trans (hb1.mono (by simp))).alloc (by simp at hs1; omega) (.cells #[.int .i64 0, .string ⟨#[]⟩, .string ⟨#[]⟩, .slice none 0 0, .slice none 0 0] 25)
    have Z1 := ((Blk.new w 25 #[.int .i64 0, .string ⟨#[]⟩, .string ⟨#[]⟩, .slice none 0 0, .slice none 0 0]).past hb1).alloc (.cells #[.int .i64 0, .string ⟨#[]⟩, .string ⟨#[]⟩, .slice none 0 0, .slice none 0 0] 25)
    obtain ⟨r0, r1, r2, r3, r4⟩ := five Z1
    obtain ⟨g0, g1, g2, g3, g4⟩ := five_set Z1
    have HZ := Lib.hid Z1
    clear Z1 hb1
    go_wp2_with fail
    exact bodyPost_ret (res_parse _ w.heap.size _ _ _ _ _ _ _ rfl rfl (fset5 HZ.out)) rfl ⟨rfl, below_set5 hb2 (Nat.le_refl _) _ _ _ _ _⟩
  | some fr =>
    obtain ⟨f, r⟩ := fr
    rw [hr] at H
    have HH := Lib.hid H
    have HPr := Lib.hid Print_any
    clear H hr
    show Calls Tryd.prog 18 #[.string s] w (ParsePost w (if print f = Nm.bs s then some f else none))
    obtain ⟨P, hP⟩ : ∃ P : ByteArray, P = Nm.mk (print f) := ⟨_, rfl⟩
    have hPs : (P.toList == s.toList) = decide (print f = Nm.bs s) := by
      rw [toList_eq, hP]
      congr 1
      rw [eq_iff_iff]
      constructor
      · intro h; rw [← h]
      · intro h; rw [h]
    have HP := Lib.hid hP
    clear hP
    by_cases he : print f = Nm.bs s
    · rw [decide_eq_true he] at hPs
      rw [if_pos he]
      clear he
      go_enter Tryd.func18, Tryd.ntmps18
      go_wp2_with fail
      refine (HH.out _).mono ?_
      rintro e w1 ⟨x0, x1, x2, x3, x4, rfl, hb1, hL⟩
      obtain ⟨k', a', v', S', m', d', A', n', c', hcs⟩ := hL.form
      simp only [List.cons.injEq, and_true] at hcs
      obtain ⟨rfl, rfl, rfl, rfl, rfl⟩ := hcs
      have hs1 := hb1.size
      have hb2 := (((Below.refl w.heap.size w).alloc (Nat.le_refl _) (.cells #[.int .i64 0, .string ⟨#[]⟩, .string ⟨#[]⟩, .slice none 0 0, .slice none 0 0] 25)).trans (hb1.mono (by simp))).alloc (by simp at hs1; omega) (.cells #[.int .i64 k', .string a', .string v', .slice S' m' d', .slice A' n' c'] 25)
      have Z1 := ((Blk.new w 25 #[.int .i64 0, .string ⟨#[]⟩, .string ⟨#[]⟩, .slice none 0 0, .slice none 0 0]).past hb1).alloc (.cells #[.int .i64 k', .string a', .string v', .slice S' m' d', .slice A' n' c'] 25)
      have F1 := Blk.new w1 25 #[.int .i64 k', .string a', .string v', .slice S' m' d', .slice A' n' c']
      have hL1 : Lies (w1.alloc (.cells #[.int .i64 k', .string a', .string v', .slice S' m' d', .slice A' n' c'] 25)) (fun b => w.heap.size + 1 ≤ b ∧ b < (w1.alloc (.cells #[.int .i64 k', .string a', .string v', .slice S' m' d', .slice A' n' c'] 25)).heap.size) f [.int .i64 k', .string a', .string v', .slice S' m' d', .slice A' n' c'] :=
        hL.imp (fun b h => ⟨by have := h.1; simpa using this, by have := h.2; simp; omega⟩) (fun p hp => World.cell?_alloc_lt _ _ _ hp.2)
      have HC := Lib.hid (HPr.out f _ _ _ _ _ _ (hL1.imp (P' := (· < (w1.alloc (.cells #[.int .i64 k', .string a', .string v', .slice S' m' d', .slice A' n' c'] 25)).heap.size)) (fun b h => h.2) (fun _ _ => rfl)))
      rw [← HP.out] at HC
      have HL1 := Lib.hid hL1
      have HZ1 := Lib.hid Z1
      have HF1 := Lib.hid F1
      obtain ⟨e0, e1, e2, e3, e4⟩ := five F1
      clear Z1 hb1 hL hL1 F1
      go_wp2_with fail
      refine HC.out.mono ?_
      rintro e w3 ⟨rfl, hb3⟩
      have hs3 := hb3.size
      have Z3 := HZ1.out.past hb3
      have F3 := HF1.out.past hb3
      have hb4 := hb2.trans (hb3.mono hb2.size)
      obtain ⟨q0, q1, q2, q3, q4⟩ := five F3
      obtain ⟨r0, r1, r2, r3, r4⟩ := five Z3
      obtain ⟨g0, g1, g2, g3, g4⟩ := five_set Z3
      have HZ3 := Lib.hid Z3
      have HL3 := Lib.hid (HL1.out.imp (w' := w3) (P' := fun b => w.heap.size + 1 ≤ b ∧ b < w3.heap.size) (fun b h => ⟨h.1, Nat.lt_of_lt_of_le h.2 hs3⟩) (fun p hp => hb3.cell hp.2))
      clear Z3 F3 hb3 e0 e1 e2 e3 e4
      go_wp2_with fail
      refine bodyPost_ret (res_parse _ w.heap.size _ _ _ _ _ _ _ rfl rfl (fset5 HZ3.out)) rfl ⟨_, _, _, _, _, rfl, below_set5 hb4 (Nat.le_refl _) _ _ _ _ _, ?_⟩
      refine HL3.out.imp (fun b hb' => ⟨by omega, by have := hb'.2; simp [World.setCell]; omega⟩) (fun p hp => ?_)
      have hpb : p.block ≠ w.heap.size := by omega
      rw [World.cell?_setCell_other _ _ _ _ (fun e => hpb (by rw [← e])), World.cell?_setCell_other _ _ _ _ (fun e => hpb (by rw [← e])), World.cell?_setCell_other _ _ _ _ (fun e => hpb (by rw [← e])), World.cell?_setCell_other _ _ _ _ (fun e => hpb (by rw [← e])), World.cell?_setCell_other _ _ _ _ (fun e => hpb (by rw [← e]))]
    · rw [decide_eq_false he] at hPs
      rw [if_neg he]
      clear he
      go_enter Tryd.func18, Tryd.ntmps18
      go_wp2_with fail
      refine (HH.out _).mono ?_
      rintro e w1 ⟨x0, x1, x2, x3, x4, rfl, hb1, hL⟩
      obtain ⟨k', a', v', S', m', d', A', n', c', hcs⟩ := hL.form
      simp only [List.cons.injEq, and_true] at hcs
      obtain ⟨rfl, rfl, rfl, rfl, rfl⟩ := hcs
      have hs1 := hb1.size
      have hb2 := (((Below.refl w.heap.size w).alloc (Nat.le_refl _) (.cells #[.int .i64 0, .string ⟨#[]⟩, .string ⟨#[]⟩, .slice none 0 0, .slice none 0 0] 25)).trans (hb1.mono (by simp))).alloc (by simp at hs1; omega) (.cells #[.int .i64 k', .string a', .string v', .slice S' m' d', .slice A' n' c'] 25)
      have Z1 := ((Blk.new w 25 #[.int .i64 0, .string ⟨#[]⟩, .string ⟨#[]⟩, .slice none 0 0, .slice none 0 0]).past hb1).alloc (.cells #[.int .i64 k', .string a', .string v', .slice S' m' d', .slice A' n' c'] 25)
      have F1 := Blk.new w1 25 #[.int .i64 k', .string a', .string v', .slice S' m' d', .slice A' n' c']
      have hL1 : Lies (w1.alloc (.cells #[.int .i64 k', .string a', .string v', .slice S' m' d', .slice A' n' c'] 25)) (· < (w1.alloc (.cells #[.int .i64 k', .string a', .string v', .slice S' m' d', .slice A' n' c'] 25)).heap.size) f [.int .i64 k', .string a', .string v', .slice S' m' d', .slice A' n' c'] :=
        hL.imp (fun b h => by have := h.2; simp; omega) (fun p hp => World.cell?_alloc_lt _ _ _ hp.2)
      have HC := Lib.hid (HPr.out f _ _ _ _ _ _ hL1)
      rw [← HP.out] at HC
      have HZ1 := Lib.hid Z1
      obtain ⟨e0, e1, e2, e3, e4⟩ := five F1
      clear Z1 hb1 hL hL1 F1
      go_wp2_with fail
      refine HC.out.mono ?_
      rintro e w3 ⟨rfl, hb3⟩
      have hs3 := hb3.size
      have Z3 := HZ1.out.past hb3
      have hb4 := hb2.trans (hb3.mono hb2.size)
      obtain ⟨r0, r1, r2, r3, r4⟩ := five Z3
      obtain ⟨g0, g1, g2, g3, g4⟩ := five_set Z3
      have HZ3 := Lib.hid Z3
      clear Z3 hb3 e0 e1 e2 e3 e4
      go_wp2_with fail
      exact bodyPost_ret (res_parse _ w.heap.size _ _ _ _ _ _ _ rfl rfl (fset5 HZ3.out)) rfl ⟨rfl, below_set5 hb4 (Nat.le_refl _) _ _ _ _ _⟩
end Go.Proofs.YticfemheneljmaaDoor.Fi
