import Derived.Test.YtconghaebebncaaGreatDoorZT3
import Derived.Deep.LoopGhost
import Derived.Deep.RegionHeld3
namespace Go.Proofs.YtconghaebebncaaGreatDoor.Fi
open Go.RowKit
set_option linter.unusedVariables false
set_option maxRecDepth 100000
set_option maxHeartbeats 400000 in
theorem hasKids_any (k : Int) (w : World) : Calls Tryz.prog 144 #[.int .i64 k] w fun e w' => e = .returned (.bool (hasK k)) ∧ w = w' := by
 by_cases h : k = 1 ∨ k = 2 ∨ k = 3
 ·have hr := Lib.hid (show hasK k = true by unfold hasK; rw [decide_eq_true_eq]; omega)
  rcases h with rfl | rfl | rfl
  all_goals
   go_enter Tryz.func144, Tryz.ntmps144
   go_wp2_with fail
   go_ret
   exact ⟨ret_bool hr.out.symm, rfl⟩
 ·have hr := Lib.hid (show hasK k = false by unfold hasK; rw [decide_eq_false_iff_not]; omega)
  have h1 : (k == 1) = false := by rw [beq_eq_false_iff_ne]; omega
  have h2 : (k == 2) = false := by rw [beq_eq_false_iff_ne]; omega
  have h3 : (k == 3) = false := by rw [beq_eq_false_iff_ne]; omega
  clear h
  go_enter Tryz.func144, Tryz.ntmps144
  go_wp2_with fail
  go_ret
  exact ⟨ret_bool hr.out.symm, rfl⟩
theorem tots_take {l : List Fil} {i : Nat} (h : i < l.length) : tots (l.take (i + 1)) = tots (l.take i) + tot l[i] := by
 rw [List.take_succ_eq_append_getElem h, tots_app, tots, tots]; omega
theorem tots_take_le (l : List Fil) (i : Nat) : tots (l.take i) ≤ tots l := by
 have := tots_app (l.take i) (l.drop i)
 rw [List.take_append_drop] at this
 omega
def SaidCount (f : Fil) : Prop := ∀ (m : Int) (x0 x1 x2 x3 x4 : Value) (w : World), 1 ≤ m → m ≤ 21 → Lies w (· < w.heap.size) f [x0, x1, x2, x3, x4] →
  Calls Tryz.prog 118 #[.agg #[x0, x1, x2, x3, x4], .int .i64 m] w fun r w' => r = .returned (.int .i64 (min (tot f : Int) m)) ∧ Below w.heap.size w w'
set_option maxHeartbeats 2000000 in
theorem count_any (f : Fil) : SaidCount f := by
 refine ind ?_ f
 intro k a v ss ks ih m x0 x1 x2 x3 x4 w h1 h21 hL
 obtain ⟨S, sc, A, c, ds, hcs, ha, hv, hsl, hsc, hs, hss, hl, hcl, hK⟩ := hL.open_
 simp only [List.cons.injEq, and_true] at hcs
 obtain ⟨rfl, rfl, rfl, rfl, rfl⟩ := hcs
 unfold maxLen at hl
 have CH := fun w => hasKids_any k w
 cases hk : hasK k with
 | false =>
  have hr := Lib.hid (show min (tot (.mk k a v ss ks) : Int) m = 1 by rw [tot, hk]; simp; omega)
  rw [hk] at CH
  have HC := Lib.hid CH
  clear ih CH hk
  go_enter Tryz.func118, Tryz.ntmps118
  go_wp2_with fail
  refine (HC.out _).mono ?_
  rintro e w1 ⟨rfl, rfl⟩
  go_wp2_with fail
  go_ret
  rw [hr.out]
  exact ⟨rfl, (Below.refl _ _).alloc (Nat.le_refl _) _⟩
 | true =>
  have hr := Lib.hid (show (tot (.mk k a v ss ks) : Int) = 1 + tots ks by rw [tot, hk]; simp)
  rw [hk] at CH
  have HC := Lib.hid CH
  have Ih := Lib.hid ih
  clear ih CH hk hs hss hL
  go_enter Tryz.func118, Tryz.ntmps118
  go_wp2_with fail
  refine (HC.out _).mono ?_
  rintro e w1 ⟨rfl, rfl⟩
  go_wp2_with fail
  go_loopw [5, 16] (fun n i wr => ∃ (q : Nat) (N : Int), q ≤ ks.length ∧ i = .int .i64 q ∧ n = .int .i64 N ∧ Hid (N = min (1 + (tots (ks.take q) : Int)) m) ∧ Below w.heap.size w wr) (fun n i wr => ks.length - (intOf i).toNat)
  case atStart => exact ⟨0, 1, Nat.zero_le _, rfl, rfl, by show _ = _; rw [List.take_zero, tots]; omega, (Below.refl _ _).alloc (Nat.le_refl _) _⟩
  case round =>
   obtain ⟨q, N, hq, rfl, rfl, hN, hb⟩ := hrel
   have hs := hb.size
   have hN2 := hN.out
   have hN1 : 1 ≤ N := by omega
   have hNm : N ≤ m := by omega
   by_cases hlt : q < ks.length
   ·obtain ⟨ad, k', a', v', S', m', d', A', n', c', rfl, hp, f0, f1, f2, f3, f4, hL⟩ := hK.kid hb hlt
    have hT := tots_take hlt
    have hTl := tots_take_le ks (q + 1)
    have H := Ih.out _ (List.getElem_mem hlt) (m - N) (.int .i64 k') (.string a') (.string v') (.slice S' m' d') (.slice A' n' c') (wr.alloc (.cells #[.int .i64 k', .string a', .string v', .slice S' m' d', .slice A' n' c'] 25))
    generalize tot ks[q] = t at hT H
    have hb0 := hb.alloc hs (.cells #[.int .i64 k', .string a', .string v', .slice S' m' d', .slice A' n' c'] 25)
    by_cases hNe : N = m
    ·subst hNe
     have HR := Lib.hid (show min (tot (.mk k a v ss ks) : Int) N = N by rw [hr.out]; omega)
     clear H hN hN2 hT hTl
     go_wp2_with fail
     go_ret
     rw [HR.out]
     exact ⟨rfl, hb0⟩
    ·have hne : (N == m) = false := by rw [beq_eq_false_iff_ne]; exact hNe
     have HH := Lib.hid (H (by omega) (by omega) (hL.alloc _))
     have HT := Lib.hid (show min (t : Int) (m - N) + N = min (1 + (tots (ks.take (q + 1)) : Int)) m ∧ 0 ≤ min (t : Int) (m - N) by omega)
     generalize min (t : Int) (m - N) = T at HH HT
     have ht0 := HT.out.2
     have htm : N + T ≤ 21 := by have := HT.out.1; omega
     clear H hN hN2 hT hTl hL hNe
     go_wp2_with fail
     refine HH.out.mono ?_
     rintro e w1 ⟨rfl, hb1⟩
     have hb2 := hb0.trans (hb1.mono (by simp; omega))
     go_wp2_with fail
     refine ⟨⟨q + 1, N + T, by omega, by go_num, by go_num, ?_, hb2⟩, by simp [intOf]; omega⟩
     show _ = _
     have := HT.out.1
     omega
   ·have HR := Lib.hid (show min (tot (.mk k a v ss ks) : Int) m = N by
     have e : ks.take q = ks := List.take_of_length_le (by omega)
     rw [e] at hN2
     rw [hr.out, hN2])
    clear hN hN2
    go_wp2_with fail
    go_ret
    rw [HR.out]
    exact ⟨rfl, hb⟩
def SaidRCount (f : Fil) : Prop := ∀ (x0 x1 x2 x3 x4 : Value) (w : World), Lies w (· < w.heap.size) f [x0, x1, x2, x3, x4] →
  Calls Tryz.prog 67 #[.agg #[x0, x1, x2, x3, x4]] w fun r w' => r = .returned (.int .i64 (min (tot f : Int) 21)) ∧ Below w.heap.size w w'
set_option maxHeartbeats 2000000 in
theorem rcount_any (f : Fil) : SaidRCount f := by
 refine ind ?_ f
 intro k a v ss ks ih x0 x1 x2 x3 x4 w hL
 obtain ⟨S, sc, A, c, ds, hcs, ha, hv, hsl, hsc, hs, hss, hl, hcl, hK⟩ := hL.open_
 simp only [List.cons.injEq, and_true] at hcs
 obtain ⟨rfl, rfl, rfl, rfl, rfl⟩ := hcs
 unfold maxLen at hl
 by_cases hk : 1 ≤ k ∧ k ≤ 3
 ·obtain ⟨hk1, hk2⟩ := hk
  have hr := Lib.hid (show (tot (.mk k a v ss ks) : Int) = 1 + tots ks by rw [tot, show hasK k = true by unfold hasK; rw [decide_eq_true_eq]; exact ⟨hk1, hk2⟩]; simp)
  have Ih := Lib.hid ih
  clear ih hs hss hL
  go_enter Tryz.func67, Tryz.ntmps67
  go_wp2_with fail
  go_loopw [3, 4] (fun n i wr => ∃ (q : Nat) (N : Int), q ≤ ks.length ∧ i = .int .i64 q ∧ n = .int .i64 N ∧ 1 ≤ N ∧ N ≤ 41 ∧ Hid (min N 21 = min (1 + (tots (ks.take q) : Int)) 21) ∧ Blk wr w.heap.size 25 #[.int .i64 k, .string a, .string v, .slice S ss.length sc, .slice A ks.length c] ∧ Below w.heap.size w wr) (fun n i wr => ks.length - (intOf i).toNat)
  case atStart => exact ⟨0, 1, Nat.zero_le _, rfl, rfl, by omega, by omega, by show _ = _; rw [List.take_zero, tots]; omega, Blk.new _ _ _, (Below.refl _ _).alloc (Nat.le_refl _) _⟩
  case round =>
   obtain ⟨q, N, hq, rfl, rfl, hN1, hN41, hN, B, hb⟩ := hrel
   have hs := hb.size
   have hblt := B.lt
   have hN2 := hN.out
   have b4 : wr.cell? ⟨w.heap.size, 4, none⟩ = some (.slice A ks.length c) := B.cell 4
   by_cases hlt : q < ks.length
   ·have hltz : (q : Int) < ks.length := by omega
    by_cases hN20 : N ≤ 20
    ·obtain ⟨ad, k', a', v', S', m', d', A', n', c', rfl, hp, f0, f1, f2, f3, f4, hL⟩ := hK.kid hb hlt
     have hT := tots_take hlt
     have H := Ih.out _ (List.getElem_mem hlt) _ _ _ _ _ wr hL
     generalize tot ks[q] = t at hT H
     have HH := Lib.hid H
     have HT := Lib.hid (show min (N + min (t : Int) 21) 21 = min (1 + (tots (ks.take (q + 1)) : Int)) 21 ∧ 0 ≤ min (t : Int) 21 ∧ min (t : Int) 21 ≤ 21 by omega)
     generalize min (t : Int) 21 = T at HH HT
     obtain ⟨_, ht0, ht1⟩ := HT.out
     clear H hN hN2 hT hL
     go_wp2_with fail
     refine HH.out.mono ?_
     rintro e w1 ⟨rfl, hb1⟩
     have hb2 := hb.trans (hb1.mono hs)
     have B1 := B.past hb1
     go_wp2_with fail
     refine ⟨⟨q + 1, N + T, by omega, by go_num, by go_num, by omega, by omega, HT.out.1, B1, hb2⟩, by simp [intOf]; omega⟩
    ·have hTl := tots_take_le ks q
     have HR := Lib.hid (show min (tot (.mk k a v ss ks) : Int) 21 = min N 21 by rw [hr.out]; omega)
     have hN20' : 20 < N := by omega
     clear hN hN2 hTl hN20
     go_wp2_with fail
     go_ret
     rw [HR.out]
     exact ⟨by first | rfl | (congr 2 <;> omega), hb⟩
   ·have HR := Lib.hid (show min (tot (.mk k a v ss ks) : Int) 21 = min N 21 by
     have e : ks.take q = ks := List.take_of_length_le (by omega)
     rw [e] at hN2
     rw [hr.out, hN2])
    clear hN hN2
    go_wp2_with fail
    go_ret
    rw [HR.out]
    exact ⟨by first | rfl | (congr 2 <;> omega), hb⟩
 ·have hr := Lib.hid (show (tot (.mk k a v ss ks) : Int) = 1 by rw [tot, show hasK k = false by unfold hasK; rw [decide_eq_false_iff_not]; exact hk]; simp)
  have hk' : k < 1 ∨ 1 ≤ k ∧ 3 < k := by omega
  clear ih hk
  rcases hk' with h1 | ⟨h1, h2⟩
  all_goals
   go_enter Tryz.func67, Tryz.ntmps67
   go_wp2_with fail
   go_ret
   rw [hr.out]
   exact ⟨rfl, (Below.refl _ _).alloc (Nat.le_refl _) _⟩
set_option maxHeartbeats 400000 in
theorem Count_any (f : Fil) (x0 x1 x2 x3 x4 : Value) (w : World) (hL : Lies w (· < w.heap.size) f [x0, x1, x2, x3, x4]) :
  Calls Tryz.prog 84 #[.agg #[x0, x1, x2, x3, x4]] w fun r w' => r = .returned (.int .i64 (min (tot f : Int) 21)) ∧ Below w.heap.size w w' := by
 obtain ⟨k, a, v, S, m, d, A, n, c, hcs⟩ := hL.form
 simp only [List.cons.injEq, and_true] at hcs
 obtain ⟨rfl, rfl, rfl, rfl, rfl⟩ := hcs
 have H := Lib.hid (count_any f 21 _ _ _ _ _ _ (by omega) (by omega) (hL.alloc (.cells #[.int .i64 k, .string a, .string v, .slice S m d, .slice A n c] 25)))
 generalize min (tot f : Int) 21 = T at H ⊢
 clear hL
 go_enter Tryz.func84, Tryz.ntmps84
 go_wp2_with fail
 refine H.out.mono ?_
 rintro e w1 ⟨rfl, hb1⟩
 go_wp2_with fail
 go_ret
 exact ⟨rfl, ((Below.refl _ _).alloc (Nat.le_refl _) _).trans (hb1.mono (by simp))⟩
end Go.Proofs.YtconghaebebncaaGreatDoor.Fi
