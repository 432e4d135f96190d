import Derived.Test.YtbnebpdpeegpbaaDoorZR9
import Derived.Test.YtbnebpdpeegpbaaDoorZR10
set_option linter.unusedVariables false
set_option maxRecDepth 100000
namespace Go.Proofs.YtbnebpdpeegpbaaDoor.Cs
open Go.RowKit
theorem seen_top1 {t s r T S R : Int} (hI : isC T S R = true) (h : 0 < cmpC T S R t s r) : seen t s T S R = (T, S):=by
 unfold seen
 by_cases hA : above T S t s = true
 ·rw [if_pos ⟨hI, hA⟩]
 ·rw [if_neg (fun h9=>hA h9.2)]
  have h1 : ¬ (t < T ∨ T = t ∧ s < S):=fun h9=>hA (decide_eq_true h9)
  unfold cmpC cmp1 at h
  have h2 : T = t ∧ S = s:=by
   split at h <;> split at h <;> (try split at h) <;> (try split at h) <;> omega
  rw [h2.1, h2.2]
theorem seen_top2 {t s r T S R : Int} (h : isC T S R = false ∨ cmpC T S R t s r ≤ 0) : seen t s T S R = (t, s):=by
 unfold seen
 rw [if_neg]
 rintro ⟨h1, h2⟩
 rcases h with h | h
 ·rw [h] at h1; cases h1
 ·have h3 : t < T ∨ T = t ∧ s < S:=of_decide_eq_true h2
  unfold cmpC cmp1 at h
  split at h <;> split at h <;> (try split at h) <;> (try split at h) <;> omega
theorem isC_of {t s r : Int} (h : Ok t s) (h0 : 0 ≤ r) (h5 : r ≤ 5) : isC t s r = true:=by
 obtain ⟨a, b, c, d⟩:=h
 exact decide_eq_true ⟨a, b, c, d, h0, by omega⟩
theorem nxt_up (t s now : Int) : now ≤ (nxt t s now).1 ∧ (t < (nxt t s now).1 ∨ (nxt t s now).1 = t ∧ s < (nxt t s now).2):=by
 rcases nxt_cases t s now with ⟨a, e⟩ | ⟨a, b, e⟩ | ⟨a, b, e⟩
 all_goals
  rw [e]
  dsimp only
  omega
theorem nxt_far {t s now T S : Int} (h : Ok t s) (hN : nxt t s now = (T, S)) (hT : 1099511627776 < T) : 1099511627776 < now ∨ now ≤ 1099511627776 ∧ 1099511627776 ≤ t:=by
 obtain ⟨h1, h2, h3, h4⟩:=h
 rcases nxt_cases t s now with ⟨a, e⟩ | ⟨a, b, e⟩ | ⟨a, b, e⟩
 all_goals
  rw [e] at hN
  injection hN with e1 e2
  subst e1 e2
  omega
set_option maxHeartbeats 4000000 in
theorem walk_CsnRises (w : World) (rep : Int) (hr : (Lit.int .u8 rep).wf = true) (A : Option Addr) (c : Nat) (ks : List St) (hK : StepsIn w A ks) (hG : Glob w) :
  Calls Tryd.prog 5 #[.int .u8 rep, .slice A ks.length c] w fun r w'=>r = .returned (.bool true) ∧ Below w.heap.size w w':=by
 have HK:=Lib.hid (known_any w hG)
 have HS:=Lib.hid hK
 obtain ⟨r0, r1⟩:=wf8 hr
 clear hr hG hK
 by_cases hl : 60 < (ks.length : Int)
 ·go_enter Tryd.func5, Tryd.ntmps5
  go_wp2_with fail
  refine HK.out.mono ?_
  rintro e w0 ⟨rfl, hw0⟩
  go_wp2_with fail
  go_ret
  exact ⟨rfl, hw0⟩
 have hl2 : (ks.length : Int) ≤ 60:=by omega
 obtain ⟨K, hKK, k0, k5⟩ : ∃ K : Int, rep % 6 = K ∧ 0 ≤ K ∧ K ≤ 5:=⟨rep % 6, rfl, by omega, by omega⟩
 have CN:=New_any K
 rw [show max 0 (min K 5) = K by omega] at CN
 have CN:=Lib.hid CN
 have CI:=Lib.hid is_any
 have CC:=Lib.hid cmp_any
 obtain ⟨ii, hii, hi5⟩:=stepInfo
 clear hl
 go_enter Tryd.func5, Tryd.ntmps5
 go_wp2_with fail
 refine HK.out.mono ?_
 rintro e w0 ⟨rfl, hw0⟩
 have hz0:=hw0.size
 go_wp2_with fail
 refine (CN.out _).mono ?_
 rintro e w1 ⟨rfl, BG, hb1, hs1⟩
 have hb:=hw0.trans (hb1.mono hz0)
 have hz1:=hb.size
 obtain ⟨g, hg⟩ : ∃ g, g = w0.heap.size:=⟨_, rfl⟩
 rw [← hg] at BG
 rw [← hg]
 have hgw : w.heap.size ≤ g:=by omega
 have hgl:=BG.lt
 clear hg hs1 hw0 hb1 hz0 CN HK
 obtain ⟨g2, hg2⟩ : ∃ g2, g2 = w1.heap.size:=⟨_, rfl⟩
 have hgg : g ≠ g2:=by omega
 have hg2w : w.heap.size ≤ g2:=by omega
 go_wp2_with fail
 rw [← hg2]
 have BR:=Blk.new w1 23 (gc 0 0 0)
 rw [← hg2] at BR
 have BG2:=BG.alloc (.cells (gc 0 0 0) 23)
 have hb2:=hb.alloc hz1 (.cells (gc 0 0 0) 23)
 have Hg:=Lib.hid hgw
 have Hg2:=Lib.hid hg2w
 have n_g_g2:=Lib.hid hgg
 have n_g2_g:=Lib.hid (show g2 ≠ g from fun e=>hgg e.symm)
 clear hg2 hb BG hgw hg2w hgg hz1 hgl
 go_loopw [7] (fun i wr=>∃ (q : Nat) (t s tr : Int), q ≤ ks.length ∧ i = .int .i64 (q : Int) ∧ Hid (Ok t s) ∧ Hid (IsGen wr g t s K) ∧ Hid (Blk wr g2 23 (gc t s tr)) ∧ Hid (Below w.heap.size w wr)) (fun i wr=>ks.length - (intOf i).toNat)
 case atStart=>exact ⟨0, 0, 0, 0, by omega, rfl, by show Ok 0 0; exact ⟨by decide, by decide, by decide, by decide⟩, BG2, BR, hb2⟩
 case round =>
  clear hb2 BR BG2
  obtain ⟨q, t, s, tr, hq, rfl, HO, BG, BR, hb⟩:=hrel
  by_cases hlt : q < ks.length
  ·obtain ⟨ad, k, hok, rfl, HF⟩:=HS.out.at_ hlt
   have HF:=Lib.hid HF
   have hlt2 : (q : Int) < ks.length:=by omega
   obtain ⟨o0, o1, o2, o3⟩:=HO.out
   have Bg:=BG.out
   have Bt:=BR.out
   have hb0:=hb.out
   obtain ⟨f0, f1, f2, f3, f4⟩:=HF.out _ hb0
   clear BG BR hb
   by_cases hwh : k.wh ≤ 1
   ·obtain ⟨T, S, hN⟩ : ∃ T S, nxt t s k.nw = (T, S):=⟨_, _, rfl⟩
    have hup:=nxt_up t s k.nw
    rw [hN] at hup
    simp only [] at hup
    obtain ⟨hnow, hup⟩:=hup
    by_cases hT : T ≤ 1099511627776
    ·have HO2:=HO.out.nxt hN hT
     have CI2:=Lib.hid (fun w=>isC_of HO2 k0 k5 ▸ is_any T S K w)
     have HO3:=Lib.hid HO2
     clear HO2 CI CC
     go_wp2_with fail
     refine (next_ok g t s K k.nw T S o0 o1 o2 hN hT _ Bg).mono ?_
     rintro e w3 ⟨rfl, ht, Bg3⟩
     have hbx:=turned_below Hg.out hb0 ht
     have hz:=hbx.size
     have Bt3:=(ht.blk Bt n_g2_g.out).alloc (.cells (gc T S K) 23)
     have Bg4:=Bg3.alloc (.cells (gc T S K) 23)
     have Ba:=Blk.new w3 23 (gc T S K)
     have hb3:=hbx.alloc hz (.cells (gc T S K) 23)
     have n_a_g2:=Lib.hid (show w3.heap.size ≠ g2 from Nat.ne_of_gt (ht.blk Bt n_g2_g.out).lt)
     have hz3:=hb3.size
     clear ht Bg3 hbx hz Bg Bt hb0 f0 f1 f2 f3 f4 hN
     go_wp2_with fail
     rcases hup with hup | ⟨hE, hup⟩
     focus
      refine wp_region_noPanic ?_
      refine wp_region_held_drew (S:=fun w'=>Blk w' g2 23 (gc t s tr) ∧ Blk w' w3.heap.size 23 (gc T S K) ∧ IsGen w' g T S K ∧ Below w.heap.size w w') (by kernel_rfl) ⟨Bt3.drew, Ba.drew, Bg4.drew, hb3.drew⟩ (fun hHeld=>?_)
      refine Rg.tk 0 92 (.pointer (some ⟨w3.heap.size, 0, none⟩)) rfl (by kernel_rfl) (fun _ _ _ h=>h) (fun _ _=>by kernel_rfl) hHeld ?_
      refine Rg.tk 1 93 (.int .i64 T) rfl (by kernel_rfl) (fun _ _ _ h=>h) (fun w' h=>run_cell rfl rfl (by kernel_rfl) (h.2.1.cell 0)) hHeld ?_
      refine Rg.tk 2 94 (.pointer (some ⟨g2, 0, none⟩)) rfl (by kernel_rfl) (fun _ _ _ h=>h) (fun _ _=>by kernel_rfl) hHeld ?_
      refine Rg.frame _ (by simp only [Rg.pu, List.set]; rfl) ?_
      refine Rg.tk 3 95 (.int .i64 t) rfl (by kernel_rfl) (fun _ _ _ h=>h) (fun w' h=>run_cell rfl rfl (by kernel_rfl) (h.1.cell 0)) hHeld ?_
      refine Rg.tk 4 96 (.bool false) rfl (by kernel_rfl) (fun _ _ _ h=>h) (fun _ _=>run_lss_f rfl rfl rfl (Int.le_of_lt hup)) hHeld ?_
      refine Rg.idleP [5] [(97, .bool false)] 41 (by kernel_rfl) (fun _ _ _ _ _ h=>h) (by kernel_rfl) (by kernel_rfl) hHeld ?_
      refine Rg.frame _ (by simp only [Rg.puts, Rg.pu, List.set]; rfl) ?_
      refine Rg.tk 6 98 (.pointer (some ⟨w3.heap.size, 0, none⟩)) rfl (by kernel_rfl) (fun _ _ _ h=>h) (fun _ _=>by kernel_rfl) hHeld ?_
      refine Rg.tk 7 99 (.int .i64 T) rfl (by kernel_rfl) (fun _ _ _ h=>h) (fun w' h=>run_cell rfl rfl (by kernel_rfl) (h.2.1.cell 0)) hHeld ?_
      refine Rg.tk 8 100 (.pointer (some ⟨g2, 0, none⟩)) rfl (by kernel_rfl) (fun _ _ _ h=>h) (fun _ _=>by kernel_rfl) hHeld ?_
      refine Rg.frame _ (by simp only [Rg.pu, List.set]; rfl) ?_
      refine Rg.tk 9 101 (.int .i64 t) rfl (by kernel_rfl) (fun _ _ _ h=>h) (fun w' h=>run_cell rfl rfl (by kernel_rfl) (h.1.cell 0)) hHeld ?_
      refine Rg.tk 10 102 (.bool false) rfl (by kernel_rfl) (fun _ _ _ h=>h) (fun _ _=>run_eql_f rfl rfl rfl (by omega)) hHeld ?_
      refine Rg.idleP [11, 12, 13, 14, 15, 16, 17, 18, 19, 20, 21, 22, 23, 24] [(103, .bool false), (104, undef), (105, undef), (106, undef), (107, undef), (108, undef), (109, .bool false), (110, .bool false), (111, undef), (112, undef), (113, undef), (114, .bool false), (115, .bool false), (116, .bool false)] 22 (by kernel_rfl) (fun _ _ _ _ _ h=>h) (by kernel_rfl) (by kernel_rfl) hHeld ?_
      refine Rg.frame _ (by simp only [Rg.puts, Rg.pu, List.set]; rfl) ?_
      refine Rg.tk 25 117 (.pointer (some ⟨w3.heap.size, 2, none⟩)) rfl (by kernel_rfl) (fun _ _ _ h=>h) (fun _ _=>by kernel_rfl) hHeld ?_
      refine Rg.tk 26 118 (.int .i64 K) rfl (by kernel_rfl) (fun _ _ _ h=>h) (fun w' h=>run_cell rfl rfl (by kernel_rfl) (h.2.1.cell 2)) hHeld ?_
      refine Rg.idleP [27] [(119, .int .u8 rep)] 19 (by kernel_rfl) (fun _ _ _ _ _ h=>h) (by kernel_rfl) (by kernel_rfl) hHeld ?_
      refine Rg.frame _ (by simp only [Rg.puts, Rg.pu, List.set]; rfl) ?_
      refine Rg.tk 28 120 (.int .u8 K) rfl (by kernel_rfl) (fun _ _ _ h=>h) (fun _ _=>run_rem8 rfl rfl rfl r0 r1 hKK) hHeld ?_
      refine Rg.tk 29 121 (.int .i64 K) rfl (by kernel_rfl) (fun _ _ _ h=>h) (fun _ _=>run_conv8 rfl rfl k0 (by omega)) hHeld ?_
      refine Rg.tk 30 122 (.bool false) rfl (by kernel_rfl) (fun _ _ _ h=>h) (fun _ _=>run_neq_f rfl rfl rfl) hHeld ?_
      refine Rg.frame _ (by simp only [Rg.pu, List.set]; rfl) ?_
      refine Rg.idleP [31, 32] [(123, .bool false), (124, .bool false)] 14 (by kernel_rfl) (fun _ _ _ _ _ h=>h) (by kernel_rfl) (by kernel_rfl) hHeld ?_
      refine Rg.frame _ (by simp only [Rg.puts, Rg.pu, List.set]; rfl) ?_
      refine Rg.tk 33 125 (.pointer (some ⟨w3.heap.size, 0, none⟩)) rfl (by kernel_rfl) (fun _ _ _ h=>h) (fun _ _=>by kernel_rfl) hHeld ?_
      refine Rg.tk 34 126 (.int .i64 T) rfl (by kernel_rfl) (fun _ _ _ h=>h) (fun w' h=>run_cell rfl rfl (by kernel_rfl) (h.2.1.cell 0)) hHeld ?_
      refine Rg.idleP [35, 36] [(127, .slice (some ad) ks.length c), (128, .int .i64 q)] 10 (by kernel_rfl) (fun _ _ _ _ _ h=>h) (by kernel_rfl) (by kernel_rfl) hHeld ?_
      refine Rg.frame _ (by simp only [Rg.puts, Rg.pu, List.set]; rfl) ?_
      refine Rg.tk 37 129 (.pointer (some (ad.add (q * 5)))) rfl (by kernel_rfl) (fun _ _ _ h=>h) (fun w' _=>Pl.run_index (P:=Tryd.prog) (k:=5) Tryd.underlying32 hii hi5 rfl rfl rfl hlt) hHeld ?_
      refine Rg.tk 38 130 (.pointer (some ⟨(ad.add (q * 5)).block, (ad.add (q * 5)).off + 1, none⟩)) rfl (by kernel_rfl) (fun _ _ _ h=>h) (fun _ _=>by kernel_rfl) hHeld ?_
      refine Rg.tk 39 131 (.int .i64 k.nw) rfl (by kernel_rfl) (fun _ _ _ h=>h) (fun w' h=>run_cell rfl rfl (by kernel_rfl) (HF.out w' h.2.2.2).2.1) hHeld ?_
      refine Rg.frame _ (by simp only [Rg.pu, List.set]; rfl) ?_
      refine Rg.tk 40 132 (.bool false) rfl (by kernel_rfl) (fun _ _ _ h=>h) (fun _ _=>run_lss_f rfl rfl rfl hnow) hHeld ?_
      refine Rg.idleP [41, 42] [(133, .bool false), (134, .bool false)] 4 (by kernel_rfl) (fun _ _ _ _ _ h=>h) (by kernel_rfl) (by kernel_rfl) hHeld ?_
      refine Rg.frame _ (by simp only [Rg.puts, Rg.pu, List.set]; rfl) ?_
      refine Rg.tk 43 135 (.agg #[.int .i64 T, .int .i64 S, .int .i64 K]) rfl (by kernel_rfl) (fun _ _ _ h=>h) (fun w' h=>run_loadRow rfl rfl h.2.1 Tryd.underlying23 rfl (by kernel_rfl)) hHeld ?_
      refine Rg.cl 44 136 rfl (by kernel_rfl) 11 #[.agg #[.int .i64 T, .int .i64 S, .int .i64 K]] (by kernel_rfl) (CI2.out _) ?_
      rintro _ w5 ⟨rfl, hv⟩
      have hHeld1:=And.intro (hHeld.1.past hv) (And.intro (hHeld.2.1.past hv) (And.intro (hHeld.2.2.1.past hv) (hHeld.2.2.2.trans (hv.mono hHeld.2.2.2.size))))
      refine ⟨_, rfl, hHeld1, ?_⟩
      refine Rg.tk 45 137 (.bool false) rfl (by kernel_rfl) (fun _ _ _ h=>h) (fun _ _=>by kernel_rfl) hHeld1 ?_
      refine Rg.frame _ (by simp only [Rg.pu, List.set]; rfl) ?_
      refine Rg.idleP [46] [(138, .bool false)] 0 (by kernel_rfl) (fun _ _ _ _ _ h=>h) (by kernel_rfl) (by kernel_rfl) hHeld1 ?_
      refine Rg.frame _ (by simp only [Rg.puts, Rg.pu, List.set]; rfl) ?_
      refine wpAnyH_done (by kernel_rfl) ?_ _
      refine NoPanic.normal ?_
      obtain ⟨Bt5, Ba5, Bg5, hb5⟩:=hHeld1
      obtain ⟨a0, a1, a2, -, -, -⟩:=box Ba5
      obtain ⟨t0, t1, t2, u0, u1, u2⟩:=box Bt5
      have Bt6:=Bt5.set3 T S K
      have Bg6:=((Bg5.far n_g_g2.out (p:=⟨g2, 0, none⟩) (.int .i64 T)).far n_g_g2.out (p:=⟨g2, 1, none⟩) (.int .i64 S)).far n_g_g2.out (p:=⟨g2, 2, none⟩) (.int .i64 K)
      have hb6:=((hb5.setCell (p:=⟨g2, 0, none⟩) Hg2.out (.int .i64 T)).setCell (p:=⟨g2, 1, none⟩) Hg2.out (.int .i64 S)).setCell (p:=⟨g2, 2, none⟩) Hg2.out (.int .i64 K)
      have na:=n_a_g2.out
      have na2 : g2 ≠ w3.heap.size:=fun e=>na e.symm
      clear hup
      go_wp2_with fail
      go_roundw
      case rel=>exact ⟨q + 1, T, S, K, by omega, by go_num, HO3.out, Bg6, Bt6, hb6⟩
      case measure=>simp [intOf]; omega
     refine wp_region_noPanic ?_
     refine wp_region_held_drew (S:=fun w'=>Blk w' g2 23 (gc t s tr) ∧ Blk w' w3.heap.size 23 (gc T S K) ∧ IsGen w' g T S K ∧ Below w.heap.size w w') (by kernel_rfl) ⟨Bt3.drew, Ba.drew, Bg4.drew, hb3.drew⟩ (fun hHeld=>?_)
     refine Rg.tk 0 92 (.pointer (some ⟨w3.heap.size, 0, none⟩)) rfl (by kernel_rfl) (fun _ _ _ h=>h) (fun _ _=>by kernel_rfl) hHeld ?_
     refine Rg.tk 1 93 (.int .i64 T) rfl (by kernel_rfl) (fun _ _ _ h=>h) (fun w' h=>run_cell rfl rfl (by kernel_rfl) (h.2.1.cell 0)) hHeld ?_
     refine Rg.tk 2 94 (.pointer (some ⟨g2, 0, none⟩)) rfl (by kernel_rfl) (fun _ _ _ h=>h) (fun _ _=>by kernel_rfl) hHeld ?_
     refine Rg.frame _ (by simp only [Rg.pu, List.set]; rfl) ?_
     refine Rg.tk 3 95 (.int .i64 t) rfl (by kernel_rfl) (fun _ _ _ h=>h) (fun w' h=>run_cell rfl rfl (by kernel_rfl) (h.1.cell 0)) hHeld ?_
     refine Rg.tk 4 96 (.bool false) rfl (by kernel_rfl) (fun _ _ _ h=>h) (fun _ _=>run_lss_f rfl rfl rfl (Int.le_of_eq hE.symm)) hHeld ?_
     refine Rg.idleP [5] [(97, .bool false)] 41 (by kernel_rfl) (fun _ _ _ _ _ h=>h) (by kernel_rfl) (by kernel_rfl) hHeld ?_
     refine Rg.frame _ (by simp only [Rg.puts, Rg.pu, List.set]; rfl) ?_
     refine Rg.tk 6 98 (.pointer (some ⟨w3.heap.size, 0, none⟩)) rfl (by kernel_rfl) (fun _ _ _ h=>h) (fun _ _=>by kernel_rfl) hHeld ?_
     refine Rg.tk 7 99 (.int .i64 T) rfl (by kernel_rfl) (fun _ _ _ h=>h) (fun w' h=>run_cell rfl rfl (by kernel_rfl) (h.2.1.cell 0)) hHeld ?_
     refine Rg.tk 8 100 (.pointer (some ⟨g2, 0, none⟩)) rfl (by kernel_rfl) (fun _ _ _ h=>h) (fun _ _=>by kernel_rfl) hHeld ?_
     refine Rg.frame _ (by simp only [Rg.pu, List.set]; rfl) ?_
     refine Rg.tk 9 101 (.int .i64 t) rfl (by kernel_rfl) (fun _ _ _ h=>h) (fun w' h=>run_cell rfl rfl (by kernel_rfl) (h.1.cell 0)) hHeld ?_
     refine Rg.tk 10 102 (.bool true) rfl (by kernel_rfl) (fun _ _ _ h=>h) (fun _ _=>run_eql_t rfl rfl rfl hE) hHeld ?_
     refine Rg.idleP [11] [(103, .bool true)] 35 (by kernel_rfl) (fun _ _ _ _ _ h=>h) (by kernel_rfl) (by kernel_rfl) hHeld ?_
     refine Rg.frame _ (by simp only [Rg.puts, Rg.pu, List.set]; rfl) ?_
     refine Rg.tk 12 104 (.pointer (some ⟨w3.heap.size, 1, none⟩)) rfl (by kernel_rfl) (fun _ _ _ h=>h) (fun _ _=>by kernel_rfl) hHeld ?_
     refine Rg.tk 13 105 (.int .i64 S) rfl (by kernel_rfl) (fun _ _ _ h=>h) (fun w' h=>run_cell rfl rfl (by kernel_rfl) (h.2.1.cell 1)) hHeld ?_
     refine Rg.tk 14 106 (.pointer (some ⟨g2, 1, none⟩)) rfl (by kernel_rfl) (fun _ _ _ h=>h) (fun _ _=>by kernel_rfl) hHeld ?_
     refine Rg.frame _ (by simp only [Rg.pu, List.set]; rfl) ?_
     refine Rg.tk 15 107 (.int .i64 s) rfl (by kernel_rfl) (fun _ _ _ h=>h) (fun w' h=>run_cell rfl rfl (by kernel_rfl) (h.1.cell 1)) hHeld ?_
     refine Rg.tk 16 108 (.bool false) rfl (by kernel_rfl) (fun _ _ _ h=>h) (fun _ _=>run_leq_f rfl rfl rfl hup) hHeld ?_
     refine Rg.idleP [17, 18, 19, 20, 21, 22, 23, 24] [(109, .bool false), (110, .bool false), (111, undef), (112, undef), (113, undef), (114, .bool false), (115, .bool false), (116, .bool false)] 22 (by kernel_rfl) (fun _ _ _ _ _ h=>h) (by kernel_rfl) (by kernel_rfl) hHeld ?_
     refine Rg.frame _ (by simp only [Rg.puts, Rg.pu, List.set]; rfl) ?_
     refine Rg.tk 25 117 (.pointer (some ⟨w3.heap.size, 2, none⟩)) rfl (by kernel_rfl) (fun _ _ _ h=>h) (fun _ _=>by kernel_rfl) hHeld ?_
     refine Rg.tk 26 118 (.int .i64 K) rfl (by kernel_rfl) (fun _ _ _ h=>h) (fun w' h=>run_cell rfl rfl (by kernel_rfl) (h.2.1.cell 2)) hHeld ?_
     refine Rg.idleP [27] [(119, .int .u8 rep)] 19 (by kernel_rfl) (fun _ _ _ _ _ h=>h) (by kernel_rfl) (by kernel_rfl) hHeld ?_
     refine Rg.frame _ (by simp only [Rg.puts, Rg.pu, List.set]; rfl) ?_
     refine Rg.tk 28 120 (.int .u8 K) rfl (by kernel_rfl) (fun _ _ _ h=>h) (fun _ _=>run_rem8 rfl rfl rfl r0 r1 hKK) hHeld ?_
     refine Rg.tk 29 121 (.int .i64 K) rfl (by kernel_rfl) (fun _ _ _ h=>h) (fun _ _=>run_conv8 rfl rfl k0 (by omega)) hHeld ?_
     refine Rg.tk 30 122 (.bool false) rfl (by kernel_rfl) (fun _ _ _ h=>h) (fun _ _=>run_neq_f rfl rfl rfl) hHeld ?_
     refine Rg.frame _ (by simp only [Rg.pu, List.set]; rfl) ?_
     refine Rg.idleP [31, 32] [(123, .bool false), (124, .bool false)] 14 (by kernel_rfl) (fun _ _ _ _ _ h=>h) (by kernel_rfl) (by kernel_rfl) hHeld ?_
     refine Rg.frame _ (by simp only [Rg.puts, Rg.pu, List.set]; rfl) ?_
     refine Rg.tk 33 125 (.pointer (some ⟨w3.heap.size, 0, none⟩)) rfl (by kernel_rfl) (fun _ _ _ h=>h) (fun _ _=>by kernel_rfl) hHeld ?_
     refine Rg.tk 34 126 (.int .i64 T) rfl (by kernel_rfl) (fun _ _ _ h=>h) (fun w' h=>run_cell rfl rfl (by kernel_rfl) (h.2.1.cell 0)) hHeld ?_
     refine Rg.idleP [35, 36] [(127, .slice (some ad) ks.length c), (128, .int .i64 q)] 10 (by kernel_rfl) (fun _ _ _ _ _ h=>h) (by kernel_rfl) (by kernel_rfl) hHeld ?_
     refine Rg.frame _ (by simp only [Rg.puts, Rg.pu, List.set]; rfl) ?_
     refine Rg.tk 37 129 (.pointer (some (ad.add (q * 5)))) rfl (by kernel_rfl) (fun _ _ _ h=>h) (fun w' _=>Pl.run_index (P:=Tryd.prog) (k:=5) Tryd.underlying32 hii hi5 rfl rfl rfl hlt) hHeld ?_
     refine Rg.tk 38 130 (.pointer (some ⟨(ad.add (q * 5)).block, (ad.add (q * 5)).off + 1, none⟩)) rfl (by kernel_rfl) (fun _ _ _ h=>h) (fun _ _=>by kernel_rfl) hHeld ?_
     refine Rg.tk 39 131 (.int .i64 k.nw) rfl (by kernel_rfl) (fun _ _ _ h=>h) (fun w' h=>run_cell rfl rfl (by kernel_rfl) (HF.out w' h.2.2.2).2.1) hHeld ?_
     refine Rg.frame _ (by simp only [Rg.pu, List.set]; rfl) ?_
     refine Rg.tk 40 132 (.bool false) rfl (by kernel_rfl) (fun _ _ _ h=>h) (fun _ _=>run_lss_f rfl rfl rfl hnow) hHeld ?_
     refine Rg.idleP [41, 42] [(133, .bool false), (134, .bool false)] 4 (by kernel_rfl) (fun _ _ _ _ _ h=>h) (by kernel_rfl) (by kernel_rfl) hHeld ?_
     refine Rg.frame _ (by simp only [Rg.puts, Rg.pu, List.set]; rfl) ?_
     refine Rg.tk 43 135 (.agg #[.int .i64 T, .int .i64 S, .int .i64 K]) rfl (by kernel_rfl) (fun _ _ _ h=>h) (fun w' h=>run_loadRow rfl rfl h.2.1 Tryd.underlying23 rfl (by kernel_rfl)) hHeld ?_
     refine Rg.cl 44 136 rfl (by kernel_rfl) 11 #[.agg #[.int .i64 T, .int .i64 S, .int .i64 K]] (by kernel_rfl) (CI2.out _) ?_
     rintro _ w5 ⟨rfl, hv⟩
     have hHeld1:=And.intro (hHeld.1.past hv) (And.intro (hHeld.2.1.past hv) (And.intro (hHeld.2.2.1.past hv) (hHeld.2.2.2.trans (hv.mono hHeld.2.2.2.size))))
     refine ⟨_, rfl, hHeld1, ?_⟩
     refine Rg.tk 45 137 (.bool false) rfl (by kernel_rfl) (fun _ _ _ h=>h) (fun _ _=>by kernel_rfl) hHeld1 ?_
     refine Rg.frame _ (by simp only [Rg.pu, List.set]; rfl) ?_
     refine Rg.idleP [46] [(138, .bool false)] 0 (by kernel_rfl) (fun _ _ _ _ _ h=>h) (by kernel_rfl) (by kernel_rfl) hHeld1 ?_
     refine Rg.frame _ (by simp only [Rg.puts, Rg.pu, List.set]; rfl) ?_
     refine wpAnyH_done (by kernel_rfl) ?_ _
     refine NoPanic.normal ?_
     obtain ⟨Bt5, Ba5, Bg5, hb5⟩:=hHeld1
     obtain ⟨a0, a1, a2, -, -, -⟩:=box Ba5
     obtain ⟨t0, t1, t2, u0, u1, u2⟩:=box Bt5
     have Bt6:=Bt5.set3 T S K
     have Bg6:=((Bg5.far n_g_g2.out (p:=⟨g2, 0, none⟩) (.int .i64 T)).far n_g_g2.out (p:=⟨g2, 1, none⟩) (.int .i64 S)).far n_g_g2.out (p:=⟨g2, 2, none⟩) (.int .i64 K)
     have hb6:=((hb5.setCell (p:=⟨g2, 0, none⟩) Hg2.out (.int .i64 T)).setCell (p:=⟨g2, 1, none⟩) Hg2.out (.int .i64 S)).setCell (p:=⟨g2, 2, none⟩) Hg2.out (.int .i64 K)
     have na:=n_a_g2.out
     have na2 : g2 ≠ w3.heap.size:=fun e=>na e.symm
     clear hup hE
     go_wp2_with fail
     go_roundw
     case rel=>exact ⟨q + 1, T, S, K, by omega, by go_num, HO3.out, Bg6, Bt6, hb6⟩
     case measure=>simp [intOf]; omega
    ·have hT : 1099511627776 < T:=by omega
     have hfar:=nxt_far HO.out hN hT
     clear CI CC hup hnow
     rcases hfar with hfar | ⟨hfar, hfar2⟩
     all_goals
      go_wp2_with fail
      refine (next_bad g t s K k.nw T S o0 o1 o2 hN hT _ Bg).mono ?_
      rintro e w3 ⟨rfl, ht, Bg3⟩
      have hbx:=turned_below Hg.out hb0 ht
      have hz:=hbx.size
      have Bt3:=(ht.blk Bt n_g2_g.out).alloc (.cells (gc 0 0 0) 23)
      have Bg4:=Bg3.alloc (.cells (gc 0 0 0) 23)
      have Ba:=Blk.new w3 23 (gc 0 0 0)
      have hb3:=hbx.alloc hz (.cells (gc 0 0 0) 23)
      clear ht Bg3 hbx hz Bg Bt hb0 f0 f1 f2 f3 f4 hN hT
      have BT:=Lib.hid Bt3
      obtain ⟨t0, t1, t2, -, -, -⟩:=box Bt3
      have a0 : (w3.alloc (.cells (gc 0 0 0) 23)).cell? ⟨w3.heap.size, 0, none⟩ = some (.int .i64 0):=Ba.cell 0
      have a1 : (w3.alloc (.cells (gc 0 0 0) 23)).cell? ⟨w3.heap.size, 1, none⟩ = some (.int .i64 0):=Ba.cell 1
      have a2 : (w3.alloc (.cells (gc 0 0 0) 23)).cell? ⟨w3.heap.size, 2, none⟩ = some (.int .i64 0):=Ba.cell 2
      obtain ⟨f0, f1, f2, f3, f4⟩:=HF.out _ hb3
      clear Bt3 Ba f0 f2 f3 f4
      go_wp2_with fail
      go_roundw
      case rel=>exact ⟨q + 1, t, s, tr, by omega, by go_num, HO.out, Bg4, BT.out, hb3⟩
      case measure=>simp [intOf]; omega
   ·have hwh2 : 1 < k.wh:=by omega
    obtain ⟨X, Y, hX⟩ : ∃ X Y, seen t s k.t k.s k.r = (X, Y):=⟨_, _, rfl⟩
    have HO2:=HO.out.seen hX
    go_wp2_with fail
    refine (see_to g t s K k.t k.s k.r X Y hX _ Bg).mono ?_
    rintro e w3 ⟨rfl, ht, Bg3⟩
    have hb3:=turned_below Hg.out hb0 ht
    have Bt3:=ht.blk Bt n_g2_g.out
    have hz3:=hb3.size
    clear ht Bg Bt hb0 f0 f1 f2 f3 f4
    obtain ⟨V, hV⟩ : ∃ V, V = cmpC k.t k.s k.r t s tr:=⟨_, rfl⟩
    have CC2:=CC.out k.t k.s k.r t s tr
    rw [← hV] at CC2
    have CC2:=Lib.hid CC2
    obtain ⟨I, hI⟩ : ∃ I, I = isC k.t k.s k.r:=⟨_, rfl⟩
    have CI2:=CI.out k.t k.s k.r
    rw [← hI] at CI2
    have CI2:=Lib.hid CI2
    have hcase : (I = true ∧ 0 < V ∧ X = k.t ∧ Y = k.s) ∨ (I = true ∧ V ≤ 0 ∧ X = t ∧ Y = s) ∨ (I = false ∧ X = t ∧ Y = s):=by
     cases hI2 : I
     ·have h9:=seen_top2 (t:=t) (s:=s) (r:=tr) (T:=k.t) (S:=k.s) (R:=k.r) (Or.inl (hI.symm.trans hI2))
      rw [hX] at h9
      injection h9 with h9 h8
      exact Or.inr (Or.inr ⟨rfl, h9, h8⟩)
     ·by_cases hP : 0 < V
      ·have h9:=seen_top1 (t:=t) (s:=s) (r:=tr) (T:=k.t) (S:=k.s) (R:=k.r) (hI.symm.trans hI2) (hV ▸ hP)
       rw [hX] at h9
       injection h9 with h9 h8
       exact Or.inl ⟨rfl, hP, h9, h8⟩
      ·have h9:=seen_top2 (t:=t) (s:=s) (r:=tr) (T:=k.t) (S:=k.s) (R:=k.r) (Or.inr (by omega))
       rw [hX] at h9
       injection h9 with h9 h8
       exact Or.inr (Or.inl ⟨rfl, by omega, h9, h8⟩)
    have HO3:=Lib.hid HO2
    clear HO2 hI hV hX CC CI
    go_wp2_with fail
    rcases hcase with ⟨rfl, hP, rfl, rfl⟩ | ⟨rfl, hP, rfl, rfl⟩ | ⟨rfl, rfl, rfl⟩
    focus
     refine wp_region_noPanic ?_
     refine wp_region_held_drew (S:=fun w'=>Blk w' g2 23 (gc t s tr) ∧ IsGen w' g k.t k.s K ∧ Below w.heap.size w w') (by kernel_rfl) ⟨Bt3.drew, Bg3.drew, hb3.drew⟩ (fun hHeld=>?_)
     refine Rg.idleP [0, 1] [(39, .slice (some ad) ks.length c), (40, .int .i64 q)] 14 (by kernel_rfl) (fun _ _ _ _ _ h=>h) (by kernel_rfl) (by kernel_rfl) hHeld ?_
     refine Rg.frame _ (by simp only [Rg.puts, Rg.pu, List.set]; rfl) ?_
     refine Rg.tk 2 41 (.pointer (some (ad.add (q * 5)))) rfl (by kernel_rfl) (fun _ _ _ h=>h) (fun w' _=>Pl.run_index (P:=Tryd.prog) (k:=5) Tryd.underlying32 hii hi5 rfl rfl rfl hlt) hHeld ?_
     refine Rg.tk 3 42 (.pointer (some ⟨(ad.add (q * 5)).block, (ad.add (q * 5)).off + 2, none⟩)) rfl (by kernel_rfl) (fun _ _ _ h=>h) (fun _ _=>by kernel_rfl) hHeld ?_
     refine Rg.tk 4 43 (.agg #[.int .i64 k.t, .int .i64 k.s, .int .i64 k.r]) rfl (by kernel_rfl) (fun _ _ _ h=>h) (fun w' h=>run_load3 rfl rfl (HF.out w' h.2.2).2.2.1 (HF.out w' h.2.2).2.2.2.1 (HF.out w' h.2.2).2.2.2.2) hHeld ?_
     refine Rg.frame _ (by simp only [Rg.pu, List.set]; rfl) ?_
     refine Rg.cl 5 44 rfl (by kernel_rfl) 11 #[.agg #[.int .i64 k.t, .int .i64 k.s, .int .i64 k.r]] (by kernel_rfl) (CI2.out _) ?_
     rintro _ v1 ⟨rfl, hv1⟩
     have hHeld1:=And.intro (hHeld.1.past hv1) (And.intro (hHeld.2.1.past hv1) (hHeld.2.2.trans (hv1.mono hHeld.2.2.size)))
     refine ⟨_, rfl, hHeld1, ?_⟩
     refine Rg.idleP [6, 7, 8] [(45, .bool true), (46, .slice (some ad) ks.length c), (47, .int .i64 q)] 7 (by kernel_rfl) (fun _ _ _ _ _ h=>h) (by kernel_rfl) (by kernel_rfl) hHeld1 ?_
     refine Rg.frame _ (by simp only [Rg.puts, Rg.pu, List.set]; rfl) ?_
     refine Rg.tk 9 48 (.pointer (some (ad.add (q * 5)))) rfl (by kernel_rfl) (fun _ _ _ h=>h) (fun w' _=>Pl.run_index (P:=Tryd.prog) (k:=5) Tryd.underlying32 hii hi5 rfl rfl rfl hlt) hHeld1 ?_
     refine Rg.tk 10 49 (.pointer (some ⟨(ad.add (q * 5)).block, (ad.add (q * 5)).off + 2, none⟩)) rfl (by kernel_rfl) (fun _ _ _ h=>h) (fun _ _=>by kernel_rfl) hHeld1 ?_
     refine Rg.tk 11 50 (.agg #[.int .i64 k.t, .int .i64 k.s, .int .i64 k.r]) rfl (by kernel_rfl) (fun _ _ _ h=>h) (fun w' h=>run_load3 rfl rfl (HF.out w' h.2.2).2.2.1 (HF.out w' h.2.2).2.2.2.1 (HF.out w' h.2.2).2.2.2.2) hHeld1 ?_
     refine Rg.frame _ (by simp only [Rg.pu, List.set]; rfl) ?_
     refine Rg.tk 12 51 (.agg #[.int .i64 t, .int .i64 s, .int .i64 tr]) rfl (by kernel_rfl) (fun _ _ _ h=>h) (fun w' h=>run_loadRow rfl rfl h.1 Tryd.underlying23 rfl (by kernel_rfl)) hHeld1 ?_
     refine Rg.cl 13 52 rfl (by kernel_rfl) 14 #[.agg #[.int .i64 k.t, .int .i64 k.s, .int .i64 k.r], .agg #[.int .i64 t, .int .i64 s, .int .i64 tr]] (by kernel_rfl) (CC2.out _) ?_
     rintro _ v2 ⟨rfl, hv2⟩
     have hHeld2:=And.intro (hHeld1.1.past hv2) (And.intro (hHeld1.2.1.past hv2) (hHeld1.2.2.trans (hv2.mono hHeld1.2.2.size)))
     refine ⟨_, rfl, hHeld2, ?_⟩
     refine Rg.tk 14 53 (.bool true) rfl (by kernel_rfl) (fun _ _ _ h=>h) (fun _ _=>run_gtr_t rfl rfl rfl hP) hHeld2 ?_
     refine Rg.frame _ (by simp only [Rg.pu, List.set]; rfl) ?_
     refine Rg.idleP [15] [(54, .bool true)] 0 (by kernel_rfl) (fun _ _ _ _ _ h=>h) (by kernel_rfl) (by kernel_rfl) hHeld2 ?_
     refine Rg.frame _ (by simp only [Rg.puts, Rg.pu, List.set]; rfl) ?_
     refine wpAnyH_done (by kernel_rfl) ?_ _
     refine NoPanic.normal ?_
     obtain ⟨Bt5, Bg5, hb5⟩:=hHeld2
     obtain ⟨f0, f1, f2, f3, f4⟩:=HF.out _ hb5
     obtain ⟨t0, t1, t2, u0, u1, u2⟩:=box Bt5
     have Bt6:=Bt5.set3 k.t k.s k.r
     have Bg6:=((Bg5.far n_g_g2.out (p:=⟨g2, 0, none⟩) (.int .i64 k.t)).far n_g_g2.out (p:=⟨g2, 1, none⟩) (.int .i64 k.s)).far n_g_g2.out (p:=⟨g2, 2, none⟩) (.int .i64 k.r)
     have hb6:=((hb5.setCell (p:=⟨g2, 0, none⟩) Hg2.out (.int .i64 k.t)).setCell (p:=⟨g2, 1, none⟩) Hg2.out (.int .i64 k.s)).setCell (p:=⟨g2, 2, none⟩) Hg2.out (.int .i64 k.r)
     go_wp2_with fail
     go_roundw
     case rel=>exact ⟨q + 1, k.t, k.s, k.r, by omega, by go_num, HO3.out, Bg6, Bt6, hb6⟩
     case measure=>simp [intOf]; omega
    focus
     refine wp_region_noPanic ?_
     refine wp_region_held_drew (S:=fun w'=>Blk w' g2 23 (gc X Y tr) ∧ IsGen w' g X Y K ∧ Below w.heap.size w w') (by kernel_rfl) ⟨Bt3.drew, Bg3.drew, hb3.drew⟩ (fun hHeld=>?_)
     refine Rg.idleP [0, 1] [(39, .slice (some ad) ks.length c), (40, .int .i64 q)] 14 (by kernel_rfl) (fun _ _ _ _ _ h=>h) (by kernel_rfl) (by kernel_rfl) hHeld ?_
     refine Rg.frame _ (by simp only [Rg.puts, Rg.pu, List.set]; rfl) ?_
     refine Rg.tk 2 41 (.pointer (some (ad.add (q * 5)))) rfl (by kernel_rfl) (fun _ _ _ h=>h) (fun w' _=>Pl.run_index (P:=Tryd.prog) (k:=5) Tryd.underlying32 hii hi5 rfl rfl rfl hlt) hHeld ?_
     refine Rg.tk 3 42 (.pointer (some ⟨(ad.add (q * 5)).block, (ad.add (q * 5)).off + 2, none⟩)) rfl (by kernel_rfl) (fun _ _ _ h=>h) (fun _ _=>by kernel_rfl) hHeld ?_
     refine Rg.tk 4 43 (.agg #[.int .i64 k.t, .int .i64 k.s, .int .i64 k.r]) rfl (by kernel_rfl) (fun _ _ _ h=>h) (fun w' h=>run_load3 rfl rfl (HF.out w' h.2.2).2.2.1 (HF.out w' h.2.2).2.2.2.1 (HF.out w' h.2.2).2.2.2.2) hHeld ?_
     refine Rg.frame _ (by simp only [Rg.pu, List.set]; rfl) ?_
     refine Rg.cl 5 44 rfl (by kernel_rfl) 11 #[.agg #[.int .i64 k.t, .int .i64 k.s, .int .i64 k.r]] (by kernel_rfl) (CI2.out _) ?_
     rintro _ v1 ⟨rfl, hv1⟩
     have hHeld1:=And.intro (hHeld.1.past hv1) (And.intro (hHeld.2.1.past hv1) (hHeld.2.2.trans (hv1.mono hHeld.2.2.size)))
     refine ⟨_, rfl, hHeld1, ?_⟩
     refine Rg.idleP [6, 7, 8] [(45, .bool true), (46, .slice (some ad) ks.length c), (47, .int .i64 q)] 7 (by kernel_rfl) (fun _ _ _ _ _ h=>h) (by kernel_rfl) (by kernel_rfl) hHeld1 ?_
     refine Rg.frame _ (by simp only [Rg.puts, Rg.pu, List.set]; rfl) ?_
     refine Rg.tk 9 48 (.pointer (some (ad.add (q * 5)))) rfl (by kernel_rfl) (fun _ _ _ h=>h) (fun w' _=>Pl.run_index (P:=Tryd.prog) (k:=5) Tryd.underlying32 hii hi5 rfl rfl rfl hlt) hHeld1 ?_
     refine Rg.tk 10 49 (.pointer (some ⟨(ad.add (q * 5)).block, (ad.add (q * 5)).off + 2, none⟩)) rfl (by kernel_rfl) (fun _ _ _ h=>h) (fun _ _=>by kernel_rfl) hHeld1 ?_
     refine Rg.tk 11 50 (.agg #[.int .i64 k.t, .int .i64 k.s, .int .i64 k.r]) rfl (by kernel_rfl) (fun _ _ _ h=>h) (fun w' h=>run_load3 rfl rfl (HF.out w' h.2.2).2.2.1 (HF.out w' h.2.2).2.2.2.1 (HF.out w' h.2.2).2.2.2.2) hHeld1 ?_
     refine Rg.frame _ (by simp only [Rg.pu, List.set]; rfl) ?_
     refine Rg.tk 12 51 (.agg #[.int .i64 X, .int .i64 Y, .int .i64 tr]) rfl (by kernel_rfl) (fun _ _ _ h=>h) (fun w' h=>run_loadRow rfl rfl h.1 Tryd.underlying23 rfl (by kernel_rfl)) hHeld1 ?_
     refine Rg.cl 13 52 rfl (by kernel_rfl) 14 #[.agg #[.int .i64 k.t, .int .i64 k.s, .int .i64 k.r], .agg #[.int .i64 X, .int .i64 Y, .int .i64 tr]] (by kernel_rfl) (CC2.out _) ?_
     rintro _ v2 ⟨rfl, hv2⟩
     have hHeld2:=And.intro (hHeld1.1.past hv2) (And.intro (hHeld1.2.1.past hv2) (hHeld1.2.2.trans (hv2.mono hHeld1.2.2.size)))
     refine ⟨_, rfl, hHeld2, ?_⟩
     refine Rg.tk 14 53 (.bool false) rfl (by kernel_rfl) (fun _ _ _ h=>h) (fun _ _=>run_gtr_f rfl rfl rfl hP) hHeld2 ?_
     refine Rg.frame _ (by simp only [Rg.pu, List.set]; rfl) ?_
     refine Rg.idleP [15] [(54, .bool false)] 0 (by kernel_rfl) (fun _ _ _ _ _ h=>h) (by kernel_rfl) (by kernel_rfl) hHeld2 ?_
     refine Rg.frame _ (by simp only [Rg.puts, Rg.pu, List.set]; rfl) ?_
     refine wpAnyH_done (by kernel_rfl) ?_ _
     refine NoPanic.normal ?_
     obtain ⟨Bt5, Bg5, hb5⟩:=hHeld2
     go_wp2_with fail
     go_roundw
     case rel=>exact ⟨q + 1, X, Y, tr, by omega, by go_num, HO3.out, Bg5, Bt5, hb5⟩
     case measure=>simp [intOf]; omega
    refine wp_region_noPanic ?_
    refine wp_region_held_drew (S:=fun w'=>Blk w' g2 23 (gc X Y tr) ∧ IsGen w' g X Y K ∧ Below w.heap.size w w') (by kernel_rfl) ⟨Bt3.drew, Bg3.drew, hb3.drew⟩ (fun hHeld=>?_)
    refine Rg.idleP [0, 1] [(39, .slice (some ad) ks.length c), (40, .int .i64 q)] 14 (by kernel_rfl) (fun _ _ _ _ _ h=>h) (by kernel_rfl) (by kernel_rfl) hHeld ?_
    refine Rg.frame _ (by simp only [Rg.puts, Rg.pu, List.set]; rfl) ?_
    refine Rg.tk 2 41 (.pointer (some (ad.add (q * 5)))) rfl (by kernel_rfl) (fun _ _ _ h=>h) (fun w' _=>Pl.run_index (P:=Tryd.prog) (k:=5) Tryd.underlying32 hii hi5 rfl rfl rfl hlt) hHeld ?_
    refine Rg.tk 3 42 (.pointer (some ⟨(ad.add (q * 5)).block, (ad.add (q * 5)).off + 2, none⟩)) rfl (by kernel_rfl) (fun _ _ _ h=>h) (fun _ _=>by kernel_rfl) hHeld ?_
    refine Rg.tk 4 43 (.agg #[.int .i64 k.t, .int .i64 k.s, .int .i64 k.r]) rfl (by kernel_rfl) (fun _ _ _ h=>h) (fun w' h=>run_load3 rfl rfl (HF.out w' h.2.2).2.2.1 (HF.out w' h.2.2).2.2.2.1 (HF.out w' h.2.2).2.2.2.2) hHeld ?_
    refine Rg.frame _ (by simp only [Rg.pu, List.set]; rfl) ?_
    refine Rg.cl 5 44 rfl (by kernel_rfl) 11 #[.agg #[.int .i64 k.t, .int .i64 k.s, .int .i64 k.r]] (by kernel_rfl) (CI2.out _) ?_
    rintro _ v1 ⟨rfl, hv1⟩
    have hHeld1:=And.intro (hHeld.1.past hv1) (And.intro (hHeld.2.1.past hv1) (hHeld.2.2.trans (hv1.mono hHeld.2.2.size)))
    refine ⟨_, rfl, hHeld1, ?_⟩
    refine Rg.idleP [6, 7, 8, 9, 10, 11, 12, 13, 14, 15] [(45, .bool false), (46, undef), (47, undef), (48, undef), (49, undef), (50, undef), (51, undef), (52, undef), (53, undef), (54, .bool false)] 0 (by kernel_rfl) (fun _ _ _ _ _ h=>h) (by kernel_rfl) (by kernel_rfl) hHeld1 ?_
    refine Rg.frame _ (by simp only [Rg.puts, Rg.pu, List.set]; rfl) ?_
    refine wpAnyH_done (by kernel_rfl) ?_ _
    refine NoPanic.normal ?_
    obtain ⟨Bt5, Bg5, hb5⟩:=hHeld1
    go_wp2_with fail
    go_roundw
    case rel=>exact ⟨q + 1, X, Y, tr, by omega, by go_num, HO3.out, Bg5, Bt5, hb5⟩
    case measure=>simp [intOf]; omega
  ·have hq2 : ¬ (q : Int) < ks.length:=by omega
   have hb9:=hb.out
   go_wp2_with fail
   go_ret
   exact ⟨rfl, hb9⟩
end Go.Proofs.YtbnebpdpeegpbaaDoor.Cs
