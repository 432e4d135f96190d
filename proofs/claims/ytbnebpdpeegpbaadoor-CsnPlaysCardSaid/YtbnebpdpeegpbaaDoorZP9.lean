import Derived.Test.YtbnebpdpeegpbaaDoorZP8
import Derived.Test.YtbnebpdpeegpbaaDoorZP5
set_option linter.unusedVariables false
set_option maxRecDepth 100000
namespace Go.Proofs.YtbnebpdpeegpbaaDoor.Cs
open Go.RowKit Go.Proofs.YtbnebpdpeegpbaaDoor.Ms
theorem two_new (W : World) (k : Nat) (hk : W.heap.size = k) (a b : Array Value) (ty : TypeId) : Blk ((W.alloc (.cells a ty)).alloc (.cells b ty)) k ty a:=by
 subst hk
 exact (Blk.new _ _ _).alloc _
theorem size3 (w : World) (p q o : Addr) (x y z : Value) : (((w.setCell p x).setCell q y).setCell o z).heap.size = w.heap.size:=by simp [World.setCell]
theorem nxt_cases (t s now : Int) : (t < now ∧ nxt t s now = (now, 0)) ∨ (now ≤ t ∧ s < 65535 ∧ nxt t s now = (t, s + 1)) ∨ (now ≤ t ∧ 65535 ≤ s ∧ nxt t s now = (t + 1, 0)):=by
 unfold nxt
 by_cases h : now ≤ t
 ·by_cases h2 : s < 65535
  ·exact Or.inr (Or.inl ⟨h, h2, by rw [if_pos h, if_pos h2]⟩)
  ·exact Or.inr (Or.inr ⟨h, by omega, by rw [if_pos h, if_neg h2]⟩)
 ·exact Or.inl ⟨by omega, by rw [if_neg h]⟩
set_option maxHeartbeats 1000000 in
theorem rNext_any (g : Nat) (t s r now : Int) (h0 : 0 ≤ t) (ht : t ≤ 1099511627776) (hs : 0 ≤ s) (w : World) (h : IsRef w g t s r) : Calls Tryd.prog 20 #[.pointer (some ⟨g, 0, none⟩), .int .i64 now] w fun e w' =>
  Turned g w w' ∧ ((nxt t s now).1 ≤ 1099511627776 ∧ e = .returned (.tuple #[cv (nxt t s now).1 (nxt t s now).2 r, .int .i64 0]) ∧ IsRef w' g (nxt t s now).1 (nxt t s now).2 r ∨ 1099511627776 < (nxt t s now).1 ∧ e = .returned (.tuple #[cv 0 0 0, .int .i64 19]) ∧ IsRef w' g t s r):=by
 have hl:=h.lt
 obtain ⟨q0, q1, q2, p0, p1, p2⟩:=box h
 have hne : g ≠ w.heap.size:=by omega
 have hne2 : w.heap.size ≠ g:=by omega
 have HB:=Lib.hid h
 clear h
 rcases nxt_cases t s now with ⟨h1, hN⟩ | ⟨h1, h2, hN⟩ | ⟨h1, h2, hN⟩
 ·rw [hN]
  clear hN
  simp only []
  by_cases hT : 1099511627776 < now
  ·have hT2:=hT
   go_enter Tryd.func20, Tryd.ntmps20
   go_wp2_with fail
   refine bodyPost_ret (res_cn rfl _ _ w.heap.size 0 0 0 (.int .i64 19) rfl rfl (two_new _ _ rfl _ _ _)) rfl ?_
   exact ⟨Turned.of_below g (((Below.refl _ _).alloc (Nat.le_refl _) _).alloc (by simp) _), Or.inr ⟨hT, rfl, (HB.out.alloc _).alloc _⟩⟩
  ·have hT2 : now ≤ 1099511627776:=by omega
   go_enter Tryd.func20, Tryd.ntmps20
   go_wp2_with fail
   refine bodyPost_ret (res_cn rfl _ _ w.heap.size (now) (0) r (.int .i64 0) rfl rfl (two_new _ _ (size3 _ _ _ _ _ _ _) _ _ _)) rfl ?_
   refine ⟨(Turned.set3 g _ _ _ _).trans (Turned.of_below g (((Below.refl _ _).alloc (Nat.le_refl _) _).alloc (by simp) _)), ?_⟩
   first | exact Or.inl ⟨by omega, rfl, ((HB.out.set3 (now) (0) r).alloc _).alloc _⟩ | exact Or.inl ⟨rfl, ((HB.out.set3 (now) (0) r).alloc _).alloc _⟩ | exact ⟨rfl, ((HB.out.set3 (now) (0) r).alloc _).alloc _⟩
 ·rw [hN]
  clear hN
  simp only []
  go_enter Tryd.func20, Tryd.ntmps20
  go_wp2_with fail
  refine bodyPost_ret (res_cn rfl _ _ w.heap.size (t) (s + 1) r (.int .i64 0) rfl rfl (two_new _ _ (size3 _ _ _ _ _ _ _) _ _ _)) rfl ?_
  refine ⟨(Turned.set3 g _ _ _ _).trans (Turned.of_below g (((Below.refl _ _).alloc (Nat.le_refl _) _).alloc (by simp) _)), ?_⟩
  first | exact Or.inl ⟨by omega, rfl, ((HB.out.set3 (t) (s + 1) r).alloc _).alloc _⟩ | exact Or.inl ⟨rfl, ((HB.out.set3 (t) (s + 1) r).alloc _).alloc _⟩ | exact ⟨rfl, ((HB.out.set3 (t) (s + 1) r).alloc _).alloc _⟩
 ·rw [hN]
  clear hN
  simp only []
  by_cases hT : 1099511627776 < t + 1
  ·have hT2:=hT
   go_enter Tryd.func20, Tryd.ntmps20
   go_wp2_with fail
   refine bodyPost_ret (res_cn rfl _ _ w.heap.size 0 0 0 (.int .i64 19) rfl rfl (two_new _ _ rfl _ _ _)) rfl ?_
   exact ⟨Turned.of_below g (((Below.refl _ _).alloc (Nat.le_refl _) _).alloc (by simp) _), Or.inr ⟨hT, rfl, (HB.out.alloc _).alloc _⟩⟩
  ·have hT2 : t + 1 ≤ 1099511627776:=by omega
   go_enter Tryd.func20, Tryd.ntmps20
   go_wp2_with fail
   refine bodyPost_ret (res_cn rfl _ _ w.heap.size (t + 1) (0) r (.int .i64 0) rfl rfl (two_new _ _ (size3 _ _ _ _ _ _ _) _ _ _)) rfl ?_
   refine ⟨(Turned.set3 g _ _ _ _).trans (Turned.of_below g (((Below.refl _ _).alloc (Nat.le_refl _) _).alloc (by simp) _)), ?_⟩
   first | exact Or.inl ⟨by omega, rfl, ((HB.out.set3 (t + 1) (0) r).alloc _).alloc _⟩ | exact Or.inl ⟨rfl, ((HB.out.set3 (t + 1) (0) r).alloc _).alloc _⟩ | exact ⟨rfl, ((HB.out.set3 (t + 1) (0) r).alloc _).alloc _⟩
set_option maxHeartbeats 1000000 in
theorem rSee_any (g : Nat) (t s r T S R : Int) (w : World) (h : IsRef w g t s r) : Calls Tryd.prog 22 #[.pointer (some ⟨g, 0, none⟩), cv T S R] w fun e w' =>
  e = .returned (.tuple #[]) ∧ Turned g w w' ∧ IsRef w' g (seen t s T S R).1 (seen t s T S R).2 r:=by
 have hl:=h.lt
 have C:=ris_any T S R
 have BG:=h.alloc (.cells (gc T S R) 23)
 have BC:=Blk.new w 23 (gc T S R)
 obtain ⟨U, hU⟩ : ∃ U, Hid (U = seen t s T S R):=⟨_, rfl⟩
 rw [← hU.out]
 have ht0:=Turned.of_below g ((Below.refl w.heap.size w).alloc (Nat.le_refl _) (.cells (gc T S R) 23))
 obtain ⟨I, hI⟩ : ∃ I, I = isC T S R:=⟨_, rfl⟩
 rw [← hI] at C
 have C:=Lib.hid C
 have HI:=Lib.hid hI
 clear hI h
 cases I
 ·have HU:=Lib.hid (show U = (t, s) by rw [hU.out]; unfold seen; rw [if_neg (fun h9=>by rw [← HI.out] at h9; cases h9.1)])
  rw [HU.out]
  clear hU HI HU
  go_enter Tryd.func22, Tryd.ntmps22
  go_wp2_with fail
  refine wp_region_noPanic ?_
  refine wp_region_held_drew (S:=fun w'=>Blk w' w.heap.size 23 (gc T S R) ∧ Blk w' g 37 (gc t s r)) (by kernel_rfl) ⟨BC.drew, BG.drew⟩ (fun hHeld=>?_)
  refine Rg.tk 0 4 (.agg (gc T S R)) rfl (by kernel_rfl) (fun _ _ _ h=>h) (fun w' h=>run_loadRow rfl rfl h.1 Tryd.underlying23 rfl (by kernel_rfl)) hHeld ?_
  refine Rg.cl 1 5 rfl (by kernel_rfl) 9 #[.agg (gc T S R)] (by kernel_rfl) (C.out _) ?_
  rintro _ w2 ⟨rfl, hb2⟩
  have hHeld1:=(⟨hHeld.1.past hb2, hHeld.2.past hb2⟩ : _ ∧ _)
  refine ⟨_, rfl, hHeld1, ?_⟩
  refine Rg.idleP [2, 3, 4, 5, 6, 7, 8, 9, 10, 11, 12, 13, 14, 15, 16, 17, 18, 19, 20, 21, 22, 23, 24, 25, 26, 27, 28, 29, 30, 31] [(6, .bool false), (35, .bool false)] 0 (by kernel_rfl) (fun _ _ _ _ _ h=>h) (by kernel_rfl) (by kernel_rfl) hHeld1 ?_
  refine Rg.frame _ (by simp only [Rg.puts, Rg.pu, List.set]; rfl) ?_
  refine wpAnyH_done (by kernel_rfl) ?_ _
  refine NoPanic.normal ?_
  obtain ⟨BC3, BG3⟩:=hHeld1
  obtain ⟨r0, r1, r2, s0, s1, s2⟩:=box BC3
  obtain ⟨q0, q1, q2, p0, p1, p2⟩:=box BG3
  go_wp2_with fail
  go_returns
  exact ⟨rfl, ht0.drew.trans (Turned.of_below g hb2), BG3⟩
 ·have hI : isC T S R = true:=HI.out.symm
  have Q : ∀ (hV : (t < T ∧ U = (T, S)) ∨ (T < t ∧ U = (t, s)) ∨ (t = T ∧ s < S ∧ U = (T, S)) ∨ (t = T ∧ S ≤ s ∧ U = (t, s))), Calls Tryd.prog 22 #[.pointer (some ⟨g, 0, none⟩), cv T S R] w fun e w' =>
  e = .returned (.tuple #[]) ∧ Turned g w w' ∧ IsRef w' g U.1 U.2 r:=by
   intro hV
   clear HI hI hU
   rcases hV with ⟨hV, rfl⟩ | ⟨hV, rfl⟩ | ⟨hE, hV, rfl⟩ | ⟨hE, hV, rfl⟩
   focus
    go_enter Tryd.func22, Tryd.ntmps22
    go_wp2_with fail
    refine wp_region_noPanic ?_
    refine wp_region_held_drew (S:=fun w'=>Blk w' w.heap.size 23 (gc T S R) ∧ Blk w' g 37 (gc t s r)) (by kernel_rfl) ⟨BC.drew, BG.drew⟩ (fun hHeld=>?_)
    refine Rg.tk 0 4 (.agg (gc T S R)) rfl (by kernel_rfl) (fun _ _ _ h=>h) (fun w' h=>run_loadRow rfl rfl h.1 Tryd.underlying23 rfl (by kernel_rfl)) hHeld ?_
    refine Rg.cl 1 5 rfl (by kernel_rfl) 9 #[.agg (gc T S R)] (by kernel_rfl) (C.out _) ?_
    rintro _ w2 ⟨rfl, hb2⟩
    have hHeld1:=(⟨hHeld.1.past hb2, hHeld.2.past hb2⟩ : _ ∧ _)
    refine ⟨_, rfl, hHeld1, ?_⟩
    refine Rg.idleP [2] [(6, .bool true)] 29 (by kernel_rfl) (fun _ _ _ _ _ h=>h) (by kernel_rfl) (by kernel_rfl) hHeld1 ?_
    refine Rg.frame _ (by simp only [Rg.puts, Rg.pu, List.set]; rfl) ?_
    refine Rg.tk 3 7 (.pointer (some ⟨w.heap.size, 0, none⟩)) rfl (by kernel_rfl) (fun _ _ _ h=>h) (fun _ _=>by kernel_rfl) hHeld1 ?_
    refine Rg.tk 4 8 (.int .i64 T) rfl (by kernel_rfl) (fun _ _ _ h=>h) (fun w' h=>run_cell rfl rfl (by kernel_rfl) (h.1.cell 0)) hHeld1 ?_
    refine Rg.idleP [5] [(9, .pointer (some ⟨g, 0, none⟩))] 26 (by kernel_rfl) (fun _ _ _ _ _ h=>h) (by kernel_rfl) (by kernel_rfl) hHeld1 ?_
    refine Rg.frame _ (by simp only [Rg.puts, Rg.pu, List.set]; rfl) ?_
    refine Rg.tk 6 10 (.pointer (some ⟨g, 0, none⟩)) rfl (by kernel_rfl) (fun _ _ _ h=>h) (fun _ _=>by kernel_rfl) hHeld1 ?_
    refine Rg.tk 7 11 (.pointer (some ⟨g, 0, none⟩)) rfl (by kernel_rfl) (fun _ _ _ h=>h) (fun _ _=>by kernel_rfl) hHeld1 ?_
    refine Rg.tk 8 12 (.pointer (some ⟨g, 0, none⟩)) rfl (by kernel_rfl) (fun _ _ _ h=>h) (fun _ _=>by kernel_rfl) hHeld1 ?_
    refine Rg.frame _ (by simp only [Rg.pu, List.set]; rfl) ?_
    refine Rg.tk 9 13 (.int .i64 t) rfl (by kernel_rfl) (fun _ _ _ h=>h) (fun w' h=>run_cell rfl rfl (by kernel_rfl) (h.2.cell 0)) hHeld1 ?_
    refine Rg.tk 10 14 (.bool true) rfl (by kernel_rfl) (fun _ _ _ h=>h) (fun _ _=>run_gtr_t rfl rfl rfl hV) hHeld1 ?_
    refine Rg.idleP [11, 12, 13, 14, 15, 16, 17, 18, 19, 20, 21, 22, 23, 24, 25, 26, 27, 28, 29, 30, 31] [(15, .bool true), (34, .bool true), (35, .bool true)] 0 (by kernel_rfl) (fun _ _ _ _ _ h=>h) (by kernel_rfl) (by kernel_rfl) hHeld1 ?_
    refine Rg.frame _ (by simp only [Rg.puts, Rg.pu, List.set]; rfl) ?_
    refine wpAnyH_done (by kernel_rfl) ?_ _
    refine NoPanic.normal ?_
    obtain ⟨BC3, BG3⟩:=hHeld1
    obtain ⟨r0, r1, r2, s0, s1, s2⟩:=box BC3
    obtain ⟨q0, q1, q2, p0, p1, p2⟩:=box BG3
    go_wp2_with fail
    first | (go_region) | fail
    go_wp2_with fail
    go_returns
    have B9:=(BG3.set_ 0 (.int .i64 T)).set_ 1 (.int .i64 S)
    have B8 : Blk ((w2.setCell ⟨g, 0, none⟩ (.int .i64 T)).setCell ⟨g, 1, none⟩ (.int .i64 S)) g 37 (gc T S r):=by simpa using B9
    exact ⟨rfl, (((ht0.drew.trans (Turned.of_below g hb2)).trans (Turned.set_ g 0 _ _)).trans (Turned.set_ g 1 _ _)).drew, B8.drew⟩
   focus
    go_enter Tryd.func22, Tryd.ntmps22
    go_wp2_with fail
    refine wp_region_noPanic ?_
    refine wp_region_held_drew (S:=fun w'=>Blk w' w.heap.size 23 (gc T S R) ∧ Blk w' g 37 (gc t s r)) (by kernel_rfl) ⟨BC.drew, BG.drew⟩ (fun hHeld=>?_)
    refine Rg.tk 0 4 (.agg (gc T S R)) rfl (by kernel_rfl) (fun _ _ _ h=>h) (fun w' h=>run_loadRow rfl rfl h.1 Tryd.underlying23 rfl (by kernel_rfl)) hHeld ?_
    refine Rg.cl 1 5 rfl (by kernel_rfl) 9 #[.agg (gc T S R)] (by kernel_rfl) (C.out _) ?_
    rintro _ w2 ⟨rfl, hb2⟩
    have hHeld1:=(⟨hHeld.1.past hb2, hHeld.2.past hb2⟩ : _ ∧ _)
    refine ⟨_, rfl, hHeld1, ?_⟩
    refine Rg.idleP [2] [(6, .bool true)] 29 (by kernel_rfl) (fun _ _ _ _ _ h=>h) (by kernel_rfl) (by kernel_rfl) hHeld1 ?_
    refine Rg.frame _ (by simp only [Rg.puts, Rg.pu, List.set]; rfl) ?_
    refine Rg.tk 3 7 (.pointer (some ⟨w.heap.size, 0, none⟩)) rfl (by kernel_rfl) (fun _ _ _ h=>h) (fun _ _=>by kernel_rfl) hHeld1 ?_
    refine Rg.tk 4 8 (.int .i64 T) rfl (by kernel_rfl) (fun _ _ _ h=>h) (fun w' h=>run_cell rfl rfl (by kernel_rfl) (h.1.cell 0)) hHeld1 ?_
    refine Rg.idleP [5] [(9, .pointer (some ⟨g, 0, none⟩))] 26 (by kernel_rfl) (fun _ _ _ _ _ h=>h) (by kernel_rfl) (by kernel_rfl) hHeld1 ?_
    refine Rg.frame _ (by simp only [Rg.puts, Rg.pu, List.set]; rfl) ?_
    refine Rg.tk 6 10 (.pointer (some ⟨g, 0, none⟩)) rfl (by kernel_rfl) (fun _ _ _ h=>h) (fun _ _=>by kernel_rfl) hHeld1 ?_
    refine Rg.tk 7 11 (.pointer (some ⟨g, 0, none⟩)) rfl (by kernel_rfl) (fun _ _ _ h=>h) (fun _ _=>by kernel_rfl) hHeld1 ?_
    refine Rg.tk 8 12 (.pointer (some ⟨g, 0, none⟩)) rfl (by kernel_rfl) (fun _ _ _ h=>h) (fun _ _=>by kernel_rfl) hHeld1 ?_
    refine Rg.frame _ (by simp only [Rg.pu, List.set]; rfl) ?_
    refine Rg.tk 9 13 (.int .i64 t) rfl (by kernel_rfl) (fun _ _ _ h=>h) (fun w' h=>run_cell rfl rfl (by kernel_rfl) (h.2.cell 0)) hHeld1 ?_
    refine Rg.tk 10 14 (.bool false) rfl (by kernel_rfl) (fun _ _ _ h=>h) (fun _ _=>run_gtr_f rfl rfl rfl (Int.le_of_lt hV)) hHeld1 ?_
    refine Rg.idleP [11] [(15, .bool false)] 20 (by kernel_rfl) (fun _ _ _ _ _ h=>h) (by kernel_rfl) (by kernel_rfl) hHeld1 ?_
    refine Rg.frame _ (by simp only [Rg.puts, Rg.pu, List.set]; rfl) ?_
    refine Rg.tk 12 16 (.pointer (some ⟨w.heap.size, 0, none⟩)) rfl (by kernel_rfl) (fun _ _ _ h=>h) (fun _ _=>by kernel_rfl) hHeld1 ?_
    refine Rg.tk 13 17 (.int .i64 T) rfl (by kernel_rfl) (fun _ _ _ h=>h) (fun w' h=>run_cell rfl rfl (by kernel_rfl) (h.1.cell 0)) hHeld1 ?_
    refine Rg.idleP [14] [(18, .pointer (some ⟨g, 0, none⟩))] 17 (by kernel_rfl) (fun _ _ _ _ _ h=>h) (by kernel_rfl) (by kernel_rfl) hHeld1 ?_
    refine Rg.frame _ (by simp only [Rg.puts, Rg.pu, List.set]; rfl) ?_
    refine Rg.tk 15 19 (.pointer (some ⟨g, 0, none⟩)) rfl (by kernel_rfl) (fun _ _ _ h=>h) (fun _ _=>by kernel_rfl) hHeld1 ?_
    refine Rg.tk 16 20 (.pointer (some ⟨g, 0, none⟩)) rfl (by kernel_rfl) (fun _ _ _ h=>h) (fun _ _=>by kernel_rfl) hHeld1 ?_
    refine Rg.tk 17 21 (.pointer (some ⟨g, 0, none⟩)) rfl (by kernel_rfl) (fun _ _ _ h=>h) (fun _ _=>by kernel_rfl) hHeld1 ?_
    refine Rg.frame _ (by simp only [Rg.pu, List.set]; rfl) ?_
    refine Rg.tk 18 22 (.int .i64 t) rfl (by kernel_rfl) (fun _ _ _ h=>h) (fun w' h=>run_cell rfl rfl (by kernel_rfl) (h.2.cell 0)) hHeld1 ?_
    refine Rg.tk 19 23 (.bool false) rfl (by kernel_rfl) (fun _ _ _ h=>h) (fun _ _=>run_eql_f rfl rfl rfl (by omega)) hHeld1 ?_
    refine Rg.idleP [20, 21, 22, 23, 24, 25, 26, 27, 28, 29, 30, 31] [(24, .bool false), (33, .bool false), (34, .bool false), (35, .bool false)] 0 (by kernel_rfl) (fun _ _ _ _ _ h=>h) (by kernel_rfl) (by kernel_rfl) hHeld1 ?_
    refine Rg.frame _ (by simp only [Rg.puts, Rg.pu, List.set]; rfl) ?_
    refine wpAnyH_done (by kernel_rfl) ?_ _
    refine NoPanic.normal ?_
    obtain ⟨BC3, BG3⟩:=hHeld1
    obtain ⟨r0, r1, r2, s0, s1, s2⟩:=box BC3
    obtain ⟨q0, q1, q2, p0, p1, p2⟩:=box BG3
    go_wp2_with fail
    go_returns
    exact ⟨rfl, ht0.drew.trans (Turned.of_below g hb2), BG3⟩
   focus
    go_enter Tryd.func22, Tryd.ntmps22
    go_wp2_with fail
    refine wp_region_noPanic ?_
    refine wp_region_held_drew (S:=fun w'=>Blk w' w.heap.size 23 (gc T S R) ∧ Blk w' g 37 (gc t s r)) (by kernel_rfl) ⟨BC.drew, BG.drew⟩ (fun hHeld=>?_)
    refine Rg.tk 0 4 (.agg (gc T S R)) rfl (by kernel_rfl) (fun _ _ _ h=>h) (fun w' h=>run_loadRow rfl rfl h.1 Tryd.underlying23 rfl (by kernel_rfl)) hHeld ?_
    refine Rg.cl 1 5 rfl (by kernel_rfl) 9 #[.agg (gc T S R)] (by kernel_rfl) (C.out _) ?_
    rintro _ w2 ⟨rfl, hb2⟩
    have hHeld1:=(⟨hHeld.1.past hb2, hHeld.2.past hb2⟩ : _ ∧ _)
    refine ⟨_, rfl, hHeld1, ?_⟩
    refine Rg.idleP [2] [(6, .bool true)] 29 (by kernel_rfl) (fun _ _ _ _ _ h=>h) (by kernel_rfl) (by kernel_rfl) hHeld1 ?_
    refine Rg.frame _ (by simp only [Rg.puts, Rg.pu, List.set]; rfl) ?_
    refine Rg.tk 3 7 (.pointer (some ⟨w.heap.size, 0, none⟩)) rfl (by kernel_rfl) (fun _ _ _ h=>h) (fun _ _=>by kernel_rfl) hHeld1 ?_
    refine Rg.tk 4 8 (.int .i64 T) rfl (by kernel_rfl) (fun _ _ _ h=>h) (fun w' h=>run_cell rfl rfl (by kernel_rfl) (h.1.cell 0)) hHeld1 ?_
    refine Rg.idleP [5] [(9, .pointer (some ⟨g, 0, none⟩))] 26 (by kernel_rfl) (fun _ _ _ _ _ h=>h) (by kernel_rfl) (by kernel_rfl) hHeld1 ?_
    refine Rg.frame _ (by simp only [Rg.puts, Rg.pu, List.set]; rfl) ?_
    refine Rg.tk 6 10 (.pointer (some ⟨g, 0, none⟩)) rfl (by kernel_rfl) (fun _ _ _ h=>h) (fun _ _=>by kernel_rfl) hHeld1 ?_
    refine Rg.tk 7 11 (.pointer (some ⟨g, 0, none⟩)) rfl (by kernel_rfl) (fun _ _ _ h=>h) (fun _ _=>by kernel_rfl) hHeld1 ?_
    refine Rg.tk 8 12 (.pointer (some ⟨g, 0, none⟩)) rfl (by kernel_rfl) (fun _ _ _ h=>h) (fun _ _=>by kernel_rfl) hHeld1 ?_
    refine Rg.frame _ (by simp only [Rg.pu, List.set]; rfl) ?_
    refine Rg.tk 9 13 (.int .i64 t) rfl (by kernel_rfl) (fun _ _ _ h=>h) (fun w' h=>run_cell rfl rfl (by kernel_rfl) (h.2.cell 0)) hHeld1 ?_
    refine Rg.tk 10 14 (.bool false) rfl (by kernel_rfl) (fun _ _ _ h=>h) (fun _ _=>run_gtr_f rfl rfl rfl (Int.le_of_eq hE.symm)) hHeld1 ?_
    refine Rg.idleP [11] [(15, .bool false)] 20 (by kernel_rfl) (fun _ _ _ _ _ h=>h) (by kernel_rfl) (by kernel_rfl) hHeld1 ?_
    refine Rg.frame _ (by simp only [Rg.puts, Rg.pu, List.set]; rfl) ?_
    refine Rg.tk 12 16 (.pointer (some ⟨w.heap.size, 0, none⟩)) rfl (by kernel_rfl) (fun _ _ _ h=>h) (fun _ _=>by kernel_rfl) hHeld1 ?_
    refine Rg.tk 13 17 (.int .i64 T) rfl (by kernel_rfl) (fun _ _ _ h=>h) (fun w' h=>run_cell rfl rfl (by kernel_rfl) (h.1.cell 0)) hHeld1 ?_
    refine Rg.idleP [14] [(18, .pointer (some ⟨g, 0, none⟩))] 17 (by kernel_rfl) (fun _ _ _ _ _ h=>h) (by kernel_rfl) (by kernel_rfl) hHeld1 ?_
    refine Rg.frame _ (by simp only [Rg.puts, Rg.pu, List.set]; rfl) ?_
    refine Rg.tk 15 19 (.pointer (some ⟨g, 0, none⟩)) rfl (by kernel_rfl) (fun _ _ _ h=>h) (fun _ _=>by kernel_rfl) hHeld1 ?_
    refine Rg.tk 16 20 (.pointer (some ⟨g, 0, none⟩)) rfl (by kernel_rfl) (fun _ _ _ h=>h) (fun _ _=>by kernel_rfl) hHeld1 ?_
    refine Rg.tk 17 21 (.pointer (some ⟨g, 0, none⟩)) rfl (by kernel_rfl) (fun _ _ _ h=>h) (fun _ _=>by kernel_rfl) hHeld1 ?_
    refine Rg.frame _ (by simp only [Rg.pu, List.set]; rfl) ?_
    refine Rg.tk 18 22 (.int .i64 t) rfl (by kernel_rfl) (fun _ _ _ h=>h) (fun w' h=>run_cell rfl rfl (by kernel_rfl) (h.2.cell 0)) hHeld1 ?_
    refine Rg.tk 19 23 (.bool true) rfl (by kernel_rfl) (fun _ _ _ h=>h) (fun _ _=>run_eql_t rfl rfl rfl hE.symm) hHeld1 ?_
    refine Rg.idleP [20] [(24, .bool true)] 11 (by kernel_rfl) (fun _ _ _ _ _ h=>h) (by kernel_rfl) (by kernel_rfl) hHeld1 ?_
    refine Rg.frame _ (by simp only [Rg.puts, Rg.pu, List.set]; rfl) ?_
    refine Rg.tk 21 25 (.pointer (some ⟨w.heap.size, 1, none⟩)) rfl (by kernel_rfl) (fun _ _ _ h=>h) (fun _ _=>by kernel_rfl) hHeld1 ?_
    refine Rg.tk 22 26 (.int .i64 S) rfl (by kernel_rfl) (fun _ _ _ h=>h) (fun w' h=>run_cell rfl rfl (by kernel_rfl) (h.1.cell 1)) hHeld1 ?_
    refine Rg.idleP [23] [(27, .pointer (some ⟨g, 0, none⟩))] 8 (by kernel_rfl) (fun _ _ _ _ _ h=>h) (by kernel_rfl) (by kernel_rfl) hHeld1 ?_
    refine Rg.frame _ (by simp only [Rg.puts, Rg.pu, List.set]; rfl) ?_
    refine Rg.tk 24 28 (.pointer (some ⟨g, 0, none⟩)) rfl (by kernel_rfl) (fun _ _ _ h=>h) (fun _ _=>by kernel_rfl) hHeld1 ?_
    refine Rg.tk 25 29 (.pointer (some ⟨g, 0, none⟩)) rfl (by kernel_rfl) (fun _ _ _ h=>h) (fun _ _=>by kernel_rfl) hHeld1 ?_
    refine Rg.tk 26 30 (.pointer (some ⟨g, 1, none⟩)) rfl (by kernel_rfl) (fun _ _ _ h=>h) (fun _ _=>by kernel_rfl) hHeld1 ?_
    refine Rg.frame _ (by simp only [Rg.pu, List.set]; rfl) ?_
    refine Rg.tk 27 31 (.int .i64 s) rfl (by kernel_rfl) (fun _ _ _ h=>h) (fun w' h=>run_cell rfl rfl (by kernel_rfl) (h.2.cell 1)) hHeld1 ?_
    refine Rg.tk 28 32 (.bool true) rfl (by kernel_rfl) (fun _ _ _ h=>h) (fun _ _=>run_gtr_t rfl rfl rfl hV) hHeld1 ?_
    refine Rg.idleP [29, 30, 31] [(33, .bool true), (34, .bool true), (35, .bool true)] 0 (by kernel_rfl) (fun _ _ _ _ _ h=>h) (by kernel_rfl) (by kernel_rfl) hHeld1 ?_
    refine Rg.frame _ (by simp only [Rg.puts, Rg.pu, List.set]; rfl) ?_
    refine wpAnyH_done (by kernel_rfl) ?_ _
    refine NoPanic.normal ?_
    obtain ⟨BC3, BG3⟩:=hHeld1
    obtain ⟨r0, r1, r2, s0, s1, s2⟩:=box BC3
    obtain ⟨q0, q1, q2, p0, p1, p2⟩:=box BG3
    go_wp2_with fail
    first | (go_region) | fail
    go_wp2_with fail
    go_returns
    have B9:=(BG3.set_ 0 (.int .i64 T)).set_ 1 (.int .i64 S)
    have B8 : Blk ((w2.setCell ⟨g, 0, none⟩ (.int .i64 T)).setCell ⟨g, 1, none⟩ (.int .i64 S)) g 37 (gc T S r):=by simpa using B9
    exact ⟨rfl, (((ht0.drew.trans (Turned.of_below g hb2)).trans (Turned.set_ g 0 _ _)).trans (Turned.set_ g 1 _ _)).drew, B8.drew⟩
   go_enter Tryd.func22, Tryd.ntmps22
   go_wp2_with fail
   refine wp_region_noPanic ?_
   refine wp_region_held_drew (S:=fun w'=>Blk w' w.heap.size 23 (gc T S R) ∧ Blk w' g 37 (gc t s r)) (by kernel_rfl) ⟨BC.drew, BG.drew⟩ (fun hHeld=>?_)
   refine Rg.tk 0 4 (.agg (gc T S R)) rfl (by kernel_rfl) (fun _ _ _ h=>h) (fun w' h=>run_loadRow rfl rfl h.1 Tryd.underlying23 rfl (by kernel_rfl)) hHeld ?_
   refine Rg.cl 1 5 rfl (by kernel_rfl) 9 #[.agg (gc T S R)] (by kernel_rfl) (C.out _) ?_
   rintro _ w2 ⟨rfl, hb2⟩
   have hHeld1:=(⟨hHeld.1.past hb2, hHeld.2.past hb2⟩ : _ ∧ _)
   refine ⟨_, rfl, hHeld1, ?_⟩
   refine Rg.idleP [2] [(6, .bool true)] 29 (by kernel_rfl) (fun _ _ _ _ _ h=>h) (by kernel_rfl) (by kernel_rfl) hHeld1 ?_
   refine Rg.frame _ (by simp only [Rg.puts, Rg.pu, List.set]; rfl) ?_
   refine Rg.tk 3 7 (.pointer (some ⟨w.heap.size, 0, none⟩)) rfl (by kernel_rfl) (fun _ _ _ h=>h) (fun _ _=>by kernel_rfl) hHeld1 ?_
   refine Rg.tk 4 8 (.int .i64 T) rfl (by kernel_rfl) (fun _ _ _ h=>h) (fun w' h=>run_cell rfl rfl (by kernel_rfl) (h.1.cell 0)) hHeld1 ?_
   refine Rg.idleP [5] [(9, .pointer (some ⟨g, 0, none⟩))] 26 (by kernel_rfl) (fun _ _ _ _ _ h=>h) (by kernel_rfl) (by kernel_rfl) hHeld1 ?_
   refine Rg.frame _ (by simp only [Rg.puts, Rg.pu, List.set]; rfl) ?_
   refine Rg.tk 6 10 (.pointer (some ⟨g, 0, none⟩)) rfl (by kernel_rfl) (fun _ _ _ h=>h) (fun _ _=>by kernel_rfl) hHeld1 ?_
   refine Rg.tk 7 11 (.pointer (some ⟨g, 0, none⟩)) rfl (by kernel_rfl) (fun _ _ _ h=>h) (fun _ _=>by kernel_rfl) hHeld1 ?_
   refine Rg.tk 8 12 (.pointer (some ⟨g, 0, none⟩)) rfl (by kernel_rfl) (fun _ _ _ h=>h) (fun _ _=>by kernel_rfl) hHeld1 ?_
   refine Rg.frame _ (by simp only [Rg.pu, List.set]; rfl) ?_
   refine Rg.tk 9 13 (.int .i64 t) rfl (by kernel_rfl) (fun _ _ _ h=>h) (fun w' h=>run_cell rfl rfl (by kernel_rfl) (h.2.cell 0)) hHeld1 ?_
   refine Rg.tk 10 14 (.bool false) rfl (by kernel_rfl) (fun _ _ _ h=>h) (fun _ _=>run_gtr_f rfl rfl rfl (Int.le_of_eq hE.symm)) hHeld1 ?_
   refine Rg.idleP [11] [(15, .bool false)] 20 (by kernel_rfl) (fun _ _ _ _ _ h=>h) (by kernel_rfl) (by kernel_rfl) hHeld1 ?_
   refine Rg.frame _ (by simp only [Rg.puts, Rg.pu, List.set]; rfl) ?_
   refine Rg.tk 12 16 (.pointer (some ⟨w.heap.size, 0, none⟩)) rfl (by kernel_rfl) (fun _ _ _ h=>h) (fun _ _=>by kernel_rfl) hHeld1 ?_
   refine Rg.tk 13 17 (.int .i64 T) rfl (by kernel_rfl) (fun _ _ _ h=>h) (fun w' h=>run_cell rfl rfl (by kernel_rfl) (h.1.cell 0)) hHeld1 ?_
   refine Rg.idleP [14] [(18, .pointer (some ⟨g, 0, none⟩))] 17 (by kernel_rfl) (fun _ _ _ _ _ h=>h) (by kernel_rfl) (by kernel_rfl) hHeld1 ?_
   refine Rg.frame _ (by simp only [Rg.puts, Rg.pu, List.set]; rfl) ?_
   refine Rg.tk 15 19 (.pointer (some ⟨g, 0, none⟩)) rfl (by kernel_rfl) (fun _ _ _ h=>h) (fun _ _=>by kernel_rfl) hHeld1 ?_
   refine Rg.tk 16 20 (.pointer (some ⟨g, 0, none⟩)) rfl (by kernel_rfl) (fun _ _ _ h=>h) (fun _ _=>by kernel_rfl) hHeld1 ?_
   refine Rg.tk 17 21 (.pointer (some ⟨g, 0, none⟩)) rfl (by kernel_rfl) (fun _ _ _ h=>h) (fun _ _=>by kernel_rfl) hHeld1 ?_
   refine Rg.frame _ (by simp only [Rg.pu, List.set]; rfl) ?_
   refine Rg.tk 18 22 (.int .i64 t) rfl (by kernel_rfl) (fun _ _ _ h=>h) (fun w' h=>run_cell rfl rfl (by kernel_rfl) (h.2.cell 0)) hHeld1 ?_
   refine Rg.tk 19 23 (.bool true) rfl (by kernel_rfl) (fun _ _ _ h=>h) (fun _ _=>run_eql_t rfl rfl rfl hE.symm) hHeld1 ?_
   refine Rg.idleP [20] [(24, .bool true)] 11 (by kernel_rfl) (fun _ _ _ _ _ h=>h) (by kernel_rfl) (by kernel_rfl) hHeld1 ?_
   refine Rg.frame _ (by simp only [Rg.puts, Rg.pu, List.set]; rfl) ?_
   refine Rg.tk 21 25 (.pointer (some ⟨w.heap.size, 1, none⟩)) rfl (by kernel_rfl) (fun _ _ _ h=>h) (fun _ _=>by kernel_rfl) hHeld1 ?_
   refine Rg.tk 22 26 (.int .i64 S) rfl (by kernel_rfl) (fun _ _ _ h=>h) (fun w' h=>run_cell rfl rfl (by kernel_rfl) (h.1.cell 1)) hHeld1 ?_
   refine Rg.idleP [23] [(27, .pointer (some ⟨g, 0, none⟩))] 8 (by kernel_rfl) (fun _ _ _ _ _ h=>h) (by kernel_rfl) (by kernel_rfl) hHeld1 ?_
   refine Rg.frame _ (by simp only [Rg.puts, Rg.pu, List.set]; rfl) ?_
   refine Rg.tk 24 28 (.pointer (some ⟨g, 0, none⟩)) rfl (by kernel_rfl) (fun _ _ _ h=>h) (fun _ _=>by kernel_rfl) hHeld1 ?_
   refine Rg.tk 25 29 (.pointer (some ⟨g, 0, none⟩)) rfl (by kernel_rfl) (fun _ _ _ h=>h) (fun _ _=>by kernel_rfl) hHeld1 ?_
   refine Rg.tk 26 30 (.pointer (some ⟨g, 1, none⟩)) rfl (by kernel_rfl) (fun _ _ _ h=>h) (fun _ _=>by kernel_rfl) hHeld1 ?_
   refine Rg.frame _ (by simp only [Rg.pu, List.set]; rfl) ?_
   refine Rg.tk 27 31 (.int .i64 s) rfl (by kernel_rfl) (fun _ _ _ h=>h) (fun w' h=>run_cell rfl rfl (by kernel_rfl) (h.2.cell 1)) hHeld1 ?_
   refine Rg.tk 28 32 (.bool false) rfl (by kernel_rfl) (fun _ _ _ h=>h) (fun _ _=>run_gtr_f rfl rfl rfl hV) hHeld1 ?_
   refine Rg.idleP [29, 30, 31] [(33, .bool false), (34, .bool false), (35, .bool false)] 0 (by kernel_rfl) (fun _ _ _ _ _ h=>h) (by kernel_rfl) (by kernel_rfl) hHeld1 ?_
   refine Rg.frame _ (by simp only [Rg.puts, Rg.pu, List.set]; rfl) ?_
   refine wpAnyH_done (by kernel_rfl) ?_ _
   refine NoPanic.normal ?_
   obtain ⟨BC3, BG3⟩:=hHeld1
   obtain ⟨r0, r1, r2, s0, s1, s2⟩:=box BC3
   obtain ⟨q0, q1, q2, p0, p1, p2⟩:=box BG3
   go_wp2_with fail
   go_returns
   exact ⟨rfl, ht0.drew.trans (Turned.of_below g hb2), BG3⟩
  refine Q ?_
  have hA : above T S t s = decide (t < T ∨ T = t ∧ s < S):=rfl
  have hU2:=hU.out
  unfold seen at hU2
  rw [hA, hI] at hU2
  rcases Int.lt_trichotomy t T with h9 | h9 | h9
  ·exact Or.inl ⟨h9, by rw [hU2, if_pos ⟨rfl, decide_eq_true (Or.inl h9)⟩]⟩
  ·by_cases h8 : s < S
   ·exact Or.inr (Or.inr (Or.inl ⟨h9, h8, by rw [hU2, if_pos ⟨rfl, decide_eq_true (Or.inr ⟨h9.symm, h8⟩)⟩]⟩))
   ·exact Or.inr (Or.inr (Or.inr ⟨h9, by omega, by rw [hU2, if_neg (fun h7=>by have:=of_decide_eq_true h7.2; omega)]⟩))
  ·exact Or.inr (Or.inl ⟨h9, by rw [hU2, if_neg (fun h7=>by have:=of_decide_eq_true h7.2; omega)]⟩)
end Go.Proofs.YtbnebpdpeegpbaaDoor.Cs
