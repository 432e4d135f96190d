import Derived.Test.YtbnebpdpeegpbaaDoorZT8
set_option linter.unusedVariables false
set_option maxRecDepth 100000
namespace Go.Proofs.YtbnebpdpeegpbaaDoor.Cs
open Go.RowKit
theorem next_ok (g : Nat) (t s r now T S : Int) (h0 : 0 ≤ t) (ht : t ≤ 1099511627776) (hs : 0 ≤ s) (hN : nxt t s now = (T, S)) (hT : T ≤ 1099511627776) (w : World) (h : IsGen w g t s r) : Calls Tryd.prog 19 #[.pointer (some ⟨g, 0, none⟩), .int .i64 now] w fun e w' =>
  e = .returned (.tuple #[cv T S r, .int .i64 0]) ∧ Turned g w w' ∧ IsGen w' g T S r:=by
 have C:=Next_any g t s r now h0 ht hs w h
 rw [hN] at C
 exact C.mono fun e w' ⟨h1, h2⟩=>by
  rcases h2 with ⟨_, h3, h4⟩ | ⟨h3, _⟩
  ·exact ⟨h3, h1, h4⟩
  ·exact absurd h3 (Int.not_lt.2 hT)
theorem next_bad (g : Nat) (t s r now T S : Int) (h0 : 0 ≤ t) (ht : t ≤ 1099511627776) (hs : 0 ≤ s) (hN : nxt t s now = (T, S)) (hT : 1099511627776 < T) (w : World) (h : IsGen w g t s r) : Calls Tryd.prog 19 #[.pointer (some ⟨g, 0, none⟩), .int .i64 now] w fun e w' =>
  e = .returned (.tuple #[cv 0 0 0, .int .i64 19]) ∧ Turned g w w' ∧ IsGen w' g t s r:=by
 have C:=Next_any g t s r now h0 ht hs w h
 rw [hN] at C
 exact C.mono fun e w' ⟨h1, h2⟩=>by
  rcases h2 with ⟨h3, _⟩ | ⟨_, h3, h4⟩
  ·exact absurd hT (Int.not_lt.2 h3)
  ·exact ⟨h3, h1, h4⟩
theorem see_to (g : Nat) (t s r T S R X Y : Int) (hS : seen t s T S R = (X, Y)) (w : World) (h : IsGen w g t s r) : Calls Tryd.prog 21 #[.pointer (some ⟨g, 0, none⟩), cv T S R] w fun e w' =>
  e = .returned (.tuple #[]) ∧ Turned g w w' ∧ IsGen w' g X Y r:=by
 have C:=See_any g t s r T S R w h
 rw [hS] at C
 exact C
theorem text952 : text 9 5 2 = [57, 46, 53, 46, 50]:=by simp [text, Lib.itoa, Lib.decDigits]
theorem parse_good : parseV [57, 46, 53, 46, 50] = .tuple #[cv 9 5 2, .int .i64 0]:=by
 have h:=text_is 9 5 2 ⟨by decide, by decide⟩ ⟨by decide, by decide⟩ ⟨by decide, by decide⟩
 have h1:=text_pT 9 5 2 (by decide) (by decide)
 have h2:=text_pS 9 5 2 (by decide) (by decide)
 have h3:=text_pR 9 5 2 (by decide) (by decide)
 rw [text952] at h h1 h2 h3
 unfold parseV
 rw [h, h1, h2, h3]
 rfl
theorem parse_bad : parseV [57, 46, 48, 53, 46, 50] = .tuple #[cv 0 0 0, .int .i64 14]:=by
 have h1 : pT [57, 46, 48, 53, 46, 50] = 9:=by decide +kernel
 have h2 : pS [57, 46, 48, 53, 46, 50] = 5:=by decide +kernel
 have h3 : pR [57, 46, 48, 53, 46, 50] = 2:=by decide +kernel
 unfold parseV isT
 rw [h1, h2, h3, text952]
 rfl
theorem turned_below {w a b : World} {g : Nat} (hg : w.heap.size ≤ g) (h : Below w.heap.size w a) (k : Turned g a b) : Below w.heap.size w b:=h.trans (k.below h.size hg)
set_option maxHeartbeats 4000000 in
theorem known_any (w : World) (hG : Glob w) : Calls Tryd.prog 7 #[] w fun r w'=>r = .returned (.bool true) ∧ Below w.heap.size w w':=by
 have C0:=Lib.hid (New_any 2)
 have CI:=Lib.hid (fun w=>(by decide : isC 9 5 2 = true) ▸ is_any 9 5 2 w)
 have CZ:=Lib.hid (fun w=>(by decide : decide ((0 : Int) = 0 ∧ (0 : Int) = 0 ∧ (0 : Int) = 0) = true) ▸ zero_any 0 0 0 w)
 have CC:=Lib.hid (fun w=>(by decide : cmpC 5 0 2 5 1 2 = -1) ▸ cmp_any 5 0 2 5 1 2 w)
 have CT:=Lib.hid (fun w hG=>text952 ▸ Text_any 9 5 2 ⟨by decide, by decide⟩ ⟨by decide, by decide⟩ ⟨by decide, by decide⟩ w hG)
 have P1:=Lib.hid (fun w hG=>parse_good ▸ Parse_any ⟨#[57, 46, 53, 46, 50]⟩ (by decide) w hG)
 have P2:=Lib.hid (fun w hG=>parse_bad ▸ Parse_any ⟨#[57, 46, 48, 53, 46, 50]⟩ (by decide) w hG)
 obtain ⟨g, hg⟩ : ∃ g, g = w.heap.size:=⟨_, rfl⟩
 have CL:=Lib.hid (Last_any g 9 5 2)
 have N1:=Lib.hid (next_ok g 0 0 2 5 5 0 (by decide) (by decide) (by decide) (by decide) (by decide))
 have N2:=Lib.hid (next_ok g 5 0 2 3 5 1 (by decide) (by decide) (by decide) (by decide) (by decide))
 have S1:=Lib.hid (see_to g 5 1 2 9 4 0 9 4 (by decide))
 have N3:=Lib.hid (next_ok g 9 4 2 1 9 5 (by decide) (by decide) (by decide) (by decide) (by decide))
 have N4:=Lib.hid (next_bad g 9 5 2 1099511627777 1099511627777 0 (by decide) (by decide) (by decide) (by decide) (by decide))
 have HG:=Lib.hid hG
 have Hg:=Lib.hid (Nat.le_of_eq hg.symm)
 clear hG
 go_enter Tryd.func7, Tryd.ntmps7
 go_wp2_with fail
 refine (C0.out _).mono ?_
 rintro e w1 ⟨rfl, BG0, hb0, -⟩
 rw [show max 0 (min (2 : Int) 5) = 2 from by decide, ← hg] at BG0
 rw [← hg]
 clear hg
 go_wp2_with fail
 refine (N1.out _ BG0).mono ?_
 rintro e w2 ⟨rfl, ht, BGx⟩
 have hbx:=turned_below Hg.out hb0 ht
 clear ht BG0 hb0 N1
 have hz:=hbx.size
 have BGy:=BGx.alloc (.cells (gc 5 0 2) 23)
 have BA:=Blk.new w2 23 (gc 5 0 2)
 have BAn : w2.heap.size ≠ g:=Nat.ne_of_gt BGx.lt
 have hby:=hbx.alloc hz (.cells (gc 5 0 2) 23)
 clear hbx BGx hz
 have BG1:=BGy
 have hb1:=hby
 clear BGy hby
 go_wp2_with fail
 refine (N2.out _ BG1).mono ?_
 rintro e w3 ⟨rfl, ht, BGx⟩
 have hbx:=turned_below Hg.out hb1 ht
 have BAx:=ht.blk BA BAn
 clear ht BG1 hb1 N2 BA
 have hz:=hbx.size
 have BGy:=BGx.alloc (.cells (gc 5 1 2) 23)
 have BA:=BAx.alloc (.cells (gc 5 1 2) 23)
 have BB:=Blk.new w3 23 (gc 5 1 2)
 have BBn : w3.heap.size ≠ g:=Nat.ne_of_gt BGx.lt
 have hby:=hbx.alloc hz (.cells (gc 5 1 2) 23)
 clear hbx BGx hz BAx
 have BG2:=BGy
 have hb2:=hby
 clear BGy hby
 go_wp2_with fail
 refine (S1.out _ BG2).mono ?_
 rintro e w4 ⟨rfl, ht, BGx⟩
 have hbx:=turned_below Hg.out hb2 ht
 have BAx:=ht.blk BA BAn
 have BBx:=ht.blk BB BBn
 clear ht BG2 hb2 S1 BA BB
 have BA:=BAx
 have BB:=BBx
 have BG3:=BGx
 have hb3:=hbx
 clear BGx hbx BAx BBx
 go_wp2_with fail
 refine (N3.out _ BG3).mono ?_
 rintro e w5 ⟨rfl, ht, BGx⟩
 have hbx:=turned_below Hg.out hb3 ht
 have BAx:=ht.blk BA BAn
 have BBx:=ht.blk BB BBn
 clear ht BG3 hb3 N3 BA BB
 have hz:=hbx.size
 have BGy:=BGx.alloc (.cells (gc 9 5 2) 23)
 have BA:=BAx.alloc (.cells (gc 9 5 2) 23)
 have BB:=BBx.alloc (.cells (gc 9 5 2) 23)
 have BC:=Blk.new w5 23 (gc 9 5 2)
 have BCn : w5.heap.size ≠ g:=Nat.ne_of_gt BGx.lt
 have hby:=hbx.alloc hz (.cells (gc 9 5 2) 23)
 clear hbx BGx hz BAx BBx
 have BG4:=BGy
 have hb4:=hby
 clear BGy hby
 go_wp2_with fail
 refine (N4.out _ BG4).mono ?_
 rintro e w6 ⟨rfl, ht, BGx⟩
 have hbx:=turned_below Hg.out hb4 ht
 have BAx:=ht.blk BA BAn
 have BBx:=ht.blk BB BBn
 have BCx:=ht.blk BC BCn
 clear ht BG4 hb4 N4 BA BB BC
 have hz:=hbx.size
 have BGy:=BGx.alloc (.cells (gc 0 0 0) 23)
 have BA:=BAx.alloc (.cells (gc 0 0 0) 23)
 have BB:=BBx.alloc (.cells (gc 0 0 0) 23)
 have BC:=BCx.alloc (.cells (gc 0 0 0) 23)
 have BD:=Blk.new w6 23 (gc 0 0 0)
 have BDn : w6.heap.size ≠ g:=Nat.ne_of_gt BGx.lt
 have hby:=hbx.alloc hz (.cells (gc 0 0 0) 23)
 clear hbx BGx hz BAx BBx BCx
 have BG5:=BGy
 have hb5:=hby
 clear BGy hby
 go_wp2_with fail
 refine (P1.out _ (HG.out.past hb5)).mono ?_
 rintro e w7 ⟨rfl, hp⟩
 have hz:=hb5.size
 have hbx:=hb5.trans (hp.mono hz)
 have hzx:=hbx.size
 have BG6:=(BG5.past hp).alloc (.cells (gc 9 5 2) 23)
 have BAx:=(BA.past hp).alloc (.cells (gc 9 5 2) 23)
 have BBx:=(BB.past hp).alloc (.cells (gc 9 5 2) 23)
 have BCx:=(BC.past hp).alloc (.cells (gc 9 5 2) 23)
 have BDx:=(BD.past hp).alloc (.cells (gc 9 5 2) 23)
 have BP:=Blk.new w7 23 (gc 9 5 2)
 have hb6:=hbx.alloc hzx (.cells (gc 9 5 2) 23)
 clear hp hz hbx hzx BG5 hb5 P1 BA BB BC BD
 have BA:=BAx
 have BB:=BBx
 have BC:=BCx
 have BD:=BDx
 clear BAx BBx BCx BDx
 go_wp2_with fail
 refine (P2.out _ (HG.out.past hb6)).mono ?_
 rintro e w8 ⟨rfl, hp⟩
 have hz:=hb6.size
 have hbx:=hb6.trans (hp.mono hz)
 have hzx:=hbx.size
 have BG7:=(BG6.past hp).alloc (.cells (gc 0 0 0) 23)
 have BAx:=(BA.past hp).alloc (.cells (gc 0 0 0) 23)
 have BBx:=(BB.past hp).alloc (.cells (gc 0 0 0) 23)
 have BCx:=(BC.past hp).alloc (.cells (gc 0 0 0) 23)
 have BDx:=(BD.past hp).alloc (.cells (gc 0 0 0) 23)
 have BPx:=(BP.past hp).alloc (.cells (gc 0 0 0) 23)
 have BQ:=Blk.new w8 23 (gc 0 0 0)
 have hb7:=hbx.alloc hzx (.cells (gc 0 0 0) 23)
 clear hp hz hbx hzx BG6 hb6 P2 BA BB BC BD BP
 have BA:=BAx
 have BB:=BBx
 have BC:=BCx
 have BD:=BDx
 have BP:=BPx
 clear BAx BBx BCx BDx BPx
 go_wp2_with fail
 refine wp_region_noPanic ?_
 refine wp_region_held_drew (S:=fun w'=>IsGen w' g 9 5 2 ∧ Blk w' w2.heap.size 23 (gc 5 0 2) ∧ Blk w' w3.heap.size 23 (gc 5 1 2) ∧ Blk w' w5.heap.size 23 (gc 9 5 2) ∧ Blk w' w7.heap.size 23 (gc 9 5 2)) (by kernel_rfl) ⟨BG7.drew, BA.drew, BB.drew, BC.drew, BP.drew⟩ (fun hHeld=>?_)
 refine Rg.idleP [0] [(48, .int .i64 0)] 67 (by kernel_rfl) (fun _ _ _ _ _ h=>h) (by kernel_rfl) (by kernel_rfl) hHeld ?_
 refine Rg.frame _ (by simp only [Rg.puts, Rg.pu, List.set]; rfl) ?_
 refine Rg.tk 1 49 (.bool true) rfl (by kernel_rfl) (fun _ _ _ h=>h) (fun _ _=>by kernel_rfl) hHeld ?_
 refine Rg.idleP [2] [(50, .bool true)] 65 (by kernel_rfl) (fun _ _ _ _ _ h=>h) (by kernel_rfl) (by kernel_rfl) hHeld ?_
 refine Rg.frame _ (by simp only [Rg.puts, Rg.pu, List.set]; rfl) ?_
 refine Rg.tk 3 51 (.agg #[.int .i64 5, .int .i64 0, .int .i64 2]) rfl (by kernel_rfl) (fun _ _ _ h=>h) (fun w' h=>run_loadRow rfl rfl h.2.1 Tryd.underlying23 rfl (by kernel_rfl)) hHeld ?_
 refine Rg.tk 4 52 (.agg #[.int .i64 5, .int .i64 0, .int .i64 2]) rfl (by kernel_rfl) (fun _ _ _ h=>h) (fun _ _=>by kernel_rfl) hHeld ?_
 refine Rg.tk 5 53 (.bool true) rfl (by kernel_rfl) (fun _ _ _ h=>h) (fun _ _=>by kernel_rfl) hHeld ?_
 refine Rg.frame _ (by simp only [Rg.pu, List.set]; rfl) ?_
 refine Rg.idleP [6, 7, 8] [(54, .bool true), (55, .bool true), (56, .int .i64 0)] 59 (by kernel_rfl) (fun _ _ _ _ _ h=>h) (by kernel_rfl) (by kernel_rfl) hHeld ?_
 refine Rg.frame _ (by simp only [Rg.puts, Rg.pu, List.set]; rfl) ?_
 refine Rg.tk 9 57 (.bool true) rfl (by kernel_rfl) (fun _ _ _ h=>h) (fun _ _=>by kernel_rfl) hHeld ?_
 refine Rg.idleP [10, 11] [(58, .bool true), (59, .bool true)] 56 (by kernel_rfl) (fun _ _ _ _ _ h=>h) (by kernel_rfl) (by kernel_rfl) hHeld ?_
 refine Rg.frame _ (by simp only [Rg.puts, Rg.pu, List.set]; rfl) ?_
 refine Rg.tk 12 60 (.agg #[.int .i64 5, .int .i64 1, .int .i64 2]) rfl (by kernel_rfl) (fun _ _ _ h=>h) (fun w' h=>run_loadRow rfl rfl h.2.2.1 Tryd.underlying23 rfl (by kernel_rfl)) hHeld ?_
 refine Rg.tk 13 61 (.agg #[.int .i64 5, .int .i64 1, .int .i64 2]) rfl (by kernel_rfl) (fun _ _ _ h=>h) (fun _ _=>by kernel_rfl) hHeld ?_
 refine Rg.tk 14 62 (.bool true) rfl (by kernel_rfl) (fun _ _ _ h=>h) (fun _ _=>by kernel_rfl) hHeld ?_
 refine Rg.frame _ (by simp only [Rg.pu, List.set]; rfl) ?_
 refine Rg.idleP [15, 16, 17] [(63, .bool true), (64, .bool true), (65, .int .i64 0)] 50 (by kernel_rfl) (fun _ _ _ _ _ h=>h) (by kernel_rfl) (by kernel_rfl) hHeld ?_
 refine Rg.frame _ (by simp only [Rg.puts, Rg.pu, List.set]; rfl) ?_
 refine Rg.tk 18 66 (.bool true) rfl (by kernel_rfl) (fun _ _ _ h=>h) (fun _ _=>by kernel_rfl) hHeld ?_
 refine Rg.idleP [19, 20] [(67, .bool true), (68, .bool true)] 47 (by kernel_rfl) (fun _ _ _ _ _ h=>h) (by kernel_rfl) (by kernel_rfl) hHeld ?_
 refine Rg.frame _ (by simp only [Rg.puts, Rg.pu, List.set]; rfl) ?_
 refine Rg.tk 21 69 (.agg #[.int .i64 9, .int .i64 5, .int .i64 2]) rfl (by kernel_rfl) (fun _ _ _ h=>h) (fun w' h=>run_loadRow rfl rfl h.2.2.2.1 Tryd.underlying23 rfl (by kernel_rfl)) hHeld ?_
 refine Rg.tk 22 70 (.agg #[.int .i64 9, .int .i64 5, .int .i64 2]) rfl (by kernel_rfl) (fun _ _ _ h=>h) (fun _ _=>by kernel_rfl) hHeld ?_
 refine Rg.tk 23 71 (.bool true) rfl (by kernel_rfl) (fun _ _ _ h=>h) (fun _ _=>by kernel_rfl) hHeld ?_
 refine Rg.frame _ (by simp only [Rg.pu, List.set]; rfl) ?_
 refine Rg.idleP [24, 25, 26] [(72, .bool true), (73, .bool true), (74, .int .i64 19)] 41 (by kernel_rfl) (fun _ _ _ _ _ h=>h) (by kernel_rfl) (by kernel_rfl) hHeld ?_
 refine Rg.frame _ (by simp only [Rg.puts, Rg.pu, List.set]; rfl) ?_
 refine Rg.tk 27 75 (.bool true) rfl (by kernel_rfl) (fun _ _ _ h=>h) (fun _ _=>by kernel_rfl) hHeld ?_
 refine Rg.idleP [28, 29, 30] [(76, .bool true), (77, .bool true), (78, .int .i64 0)] 37 (by kernel_rfl) (fun _ _ _ _ _ h=>h) (by kernel_rfl) (by kernel_rfl) hHeld ?_
 refine Rg.frame _ (by simp only [Rg.puts, Rg.pu, List.set]; rfl) ?_
 refine Rg.tk 31 79 (.bool true) rfl (by kernel_rfl) (fun _ _ _ h=>h) (fun _ _=>by kernel_rfl) hHeld ?_
 refine Rg.idleP [32, 33] [(80, .bool true), (81, .bool true)] 34 (by kernel_rfl) (fun _ _ _ _ _ h=>h) (by kernel_rfl) (by kernel_rfl) hHeld ?_
 refine Rg.frame _ (by simp only [Rg.puts, Rg.pu, List.set]; rfl) ?_
 refine Rg.tk 34 82 (.agg #[.int .i64 9, .int .i64 5, .int .i64 2]) rfl (by kernel_rfl) (fun _ _ _ h=>h) (fun w' h=>run_loadRow rfl rfl h.2.2.2.2 Tryd.underlying23 rfl (by kernel_rfl)) hHeld ?_
 refine Rg.tk 35 83 (.agg #[.int .i64 9, .int .i64 5, .int .i64 2]) rfl (by kernel_rfl) (fun _ _ _ h=>h) (fun w' h=>run_loadRow rfl rfl h.2.2.2.1 Tryd.underlying23 rfl (by kernel_rfl)) hHeld ?_
 refine Rg.tk 36 84 (.bool true) rfl (by kernel_rfl) (fun _ _ _ h=>h) (fun _ _=>by kernel_rfl) hHeld ?_
 refine Rg.frame _ (by simp only [Rg.pu, List.set]; rfl) ?_
 refine Rg.idleP [37, 38, 39] [(85, .bool true), (86, .bool true), (87, .int .i64 14)] 28 (by kernel_rfl) (fun _ _ _ _ _ h=>h) (by kernel_rfl) (by kernel_rfl) hHeld ?_
 refine Rg.frame _ (by simp only [Rg.puts, Rg.pu, List.set]; rfl) ?_
 refine Rg.tk 40 88 (.bool true) rfl (by kernel_rfl) (fun _ _ _ h=>h) (fun _ _=>by kernel_rfl) hHeld ?_
 refine Rg.idleP [41, 42] [(89, .bool true), (90, .bool true)] 25 (by kernel_rfl) (fun _ _ _ _ _ h=>h) (by kernel_rfl) (by kernel_rfl) hHeld ?_
 refine Rg.frame _ (by simp only [Rg.puts, Rg.pu, List.set]; rfl) ?_
 refine Rg.tk 43 91 (.agg #[.int .i64 9, .int .i64 5, .int .i64 2]) rfl (by kernel_rfl) (fun _ _ _ h=>h) (fun w' h=>run_loadRow rfl rfl h.2.2.2.1 Tryd.underlying23 rfl (by kernel_rfl)) hHeld ?_
 refine Rg.cl 44 92 rfl (by kernel_rfl) 16 #[.agg #[.int .i64 9, .int .i64 5, .int .i64 2]] (by kernel_rfl) (CT.out _ (HG.out.past hb7.drew)) ?_
 rintro _ v1 ⟨rfl, hv1⟩
 have hHeld1:=And.intro (hHeld.1.past hv1) (And.intro (hHeld.2.1.past hv1) (And.intro (hHeld.2.2.1.past hv1) (And.intro (hHeld.2.2.2.1.past hv1) (hHeld.2.2.2.2.past hv1))))
 refine ⟨_, rfl, hHeld1, ?_⟩
 have hy1:=(hb7.drew).trans (hv1.mono (hb7.drew).size)
 refine Rg.tk 45 93 (.bool true) rfl (by kernel_rfl) (fun _ _ _ h=>h) (fun _ _=>by kernel_rfl) hHeld1 ?_
 refine Rg.frame _ (by simp only [Rg.pu, List.set]; rfl) ?_
 refine Rg.idleP [46, 47] [(94, .bool true), (95, .bool true)] 20 (by kernel_rfl) (fun _ _ _ _ _ h=>h) (by kernel_rfl) (by kernel_rfl) hHeld1 ?_
 refine Rg.frame _ (by simp only [Rg.puts, Rg.pu, List.set]; rfl) ?_
 refine Rg.tk 48 96 (.agg #[.int .i64 5, .int .i64 0, .int .i64 2]) rfl (by kernel_rfl) (fun _ _ _ h=>h) (fun w' h=>run_loadRow rfl rfl h.2.1 Tryd.underlying23 rfl (by kernel_rfl)) hHeld1 ?_
 refine Rg.tk 49 97 (.agg #[.int .i64 5, .int .i64 1, .int .i64 2]) rfl (by kernel_rfl) (fun _ _ _ h=>h) (fun w' h=>run_loadRow rfl rfl h.2.2.1 Tryd.underlying23 rfl (by kernel_rfl)) hHeld1 ?_
 refine Rg.cl 50 98 rfl (by kernel_rfl) 14 #[.agg #[.int .i64 5, .int .i64 0, .int .i64 2], .agg #[.int .i64 5, .int .i64 1, .int .i64 2]] (by kernel_rfl) (CC.out _) ?_
 rintro _ v2 ⟨rfl, hv2⟩
 have hHeld2:=And.intro (hHeld1.1.past hv2) (And.intro (hHeld1.2.1.past hv2) (And.intro (hHeld1.2.2.1.past hv2) (And.intro (hHeld1.2.2.2.1.past hv2) (hHeld1.2.2.2.2.past hv2))))
 refine ⟨_, rfl, hHeld2, ?_⟩
 refine Rg.frame _ (by simp only [Rg.pu, List.set]; rfl) ?_
 have hy2:=(hy1).trans (hv2.mono (hy1).size)
 refine Rg.tk 51 99 (.bool true) rfl (by kernel_rfl) (fun _ _ _ h=>h) (fun _ _=>by kernel_rfl) hHeld2 ?_
 refine Rg.idleP [52, 53] [(100, .bool true), (101, .bool true)] 14 (by kernel_rfl) (fun _ _ _ _ _ h=>h) (by kernel_rfl) (by kernel_rfl) hHeld2 ?_
 refine Rg.frame _ (by simp only [Rg.puts, Rg.pu, List.set]; rfl) ?_
 refine Rg.tk 54 102 (.agg #[.int .i64 9, .int .i64 5, .int .i64 2]) rfl (by kernel_rfl) (fun _ _ _ h=>h) (fun w' h=>run_loadRow rfl rfl h.2.2.2.1 Tryd.underlying23 rfl (by kernel_rfl)) hHeld2 ?_
 refine Rg.cl 55 103 rfl (by kernel_rfl) 11 #[.agg #[.int .i64 9, .int .i64 5, .int .i64 2]] (by kernel_rfl) (CI.out _) ?_
 rintro _ v3 ⟨rfl, hv3⟩
 have hHeld3:=And.intro (hHeld2.1.past hv3) (And.intro (hHeld2.2.1.past hv3) (And.intro (hHeld2.2.2.1.past hv3) (And.intro (hHeld2.2.2.2.1.past hv3) (hHeld2.2.2.2.2.past hv3))))
 refine ⟨_, rfl, hHeld3, ?_⟩
 have hy3:=(hy2).trans (hv3.mono (hy2).size)
 refine Rg.idleP [56, 57] [(104, .bool true), (105, .bool true)] 10 (by kernel_rfl) (fun _ _ _ _ _ h=>h) (by kernel_rfl) (by kernel_rfl) hHeld3 ?_
 refine Rg.frame _ (by simp only [Rg.puts, Rg.pu, List.set]; rfl) ?_
 refine Rg.tk 58 106 (.agg #[.int .i64 0, .int .i64 0, .int .i64 0]) rfl (by kernel_rfl) (fun _ _ _ h=>h) (fun _ _=>by kernel_rfl) hHeld3 ?_
 refine Rg.cl 59 107 rfl (by kernel_rfl) 12 #[.agg #[.int .i64 0, .int .i64 0, .int .i64 0]] (by kernel_rfl) (CZ.out _) ?_
 rintro _ v4 ⟨rfl, hv4⟩
 have hHeld4:=And.intro (hHeld3.1.past hv4) (And.intro (hHeld3.2.1.past hv4) (And.intro (hHeld3.2.2.1.past hv4) (And.intro (hHeld3.2.2.2.1.past hv4) (hHeld3.2.2.2.2.past hv4))))
 refine ⟨_, rfl, hHeld4, ?_⟩
 have hy4:=(hy3).trans (hv4.mono (hy3).size)
 refine Rg.idleP [60, 61, 62] [(108, .bool true), (109, .bool true), (110, .pointer (some ⟨g, 0, none⟩))] 5 (by kernel_rfl) (fun _ _ _ _ _ h=>h) (by kernel_rfl) (by kernel_rfl) hHeld4 ?_
 refine Rg.frame _ (by simp only [Rg.puts, Rg.pu, List.set]; rfl) ?_
 refine Rg.tk 64 112 (.agg #[.int .i64 9, .int .i64 5, .int .i64 2]) rfl (by kernel_rfl) (fun _ _ _ h=>h) (fun w' h=>run_loadRow rfl rfl h.2.2.2.1 Tryd.underlying23 rfl (by kernel_rfl)) hHeld4 ?_
 refine Rg.cl 63 111 rfl (by kernel_rfl) 23 #[.pointer (some ⟨g, 0, none⟩)] (by kernel_rfl) (CL.out _ hHeld4.1) ?_
 rintro _ v5 ⟨rfl, hv5⟩
 have hHeld5:=And.intro (hHeld4.1.past hv5) (And.intro (hHeld4.2.1.past hv5) (And.intro (hHeld4.2.2.1.past hv5) (And.intro (hHeld4.2.2.2.1.past hv5) (hHeld4.2.2.2.2.past hv5))))
 refine ⟨_, rfl, hHeld5, ?_⟩
 have hy5:=(hy4).trans (hv5.mono (hy4).size)
 refine Rg.tk 65 113 (.bool true) rfl (by kernel_rfl) (fun _ _ _ h=>h) (fun _ _=>by kernel_rfl) hHeld5 ?_
 refine Rg.frame _ (by simp only [Rg.pu, List.set]; rfl) ?_
 refine Rg.idleP [66, 67] [(0, .bool true), (114, .bool true)] 0 (by kernel_rfl) (fun _ _ _ _ _ h=>h) (by kernel_rfl) (by kernel_rfl) hHeld5 ?_
 refine Rg.frame _ (by simp only [Rg.puts, Rg.pu, List.set]; rfl) ?_
 refine wpAnyH_done (by kernel_rfl) ?_ _
 refine NoPanic.normal ?_
 go_wp2_with fail
 go_ret
 exact ⟨rfl, hy5⟩
end Go.Proofs.YtbnebpdpeegpbaaDoor.Cs
