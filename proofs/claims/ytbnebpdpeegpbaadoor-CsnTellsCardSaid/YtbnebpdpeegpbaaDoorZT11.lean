import Derived.Test.YtbnebpdpeegpbaaDoorZT9
import Derived.Test.YtbnebpdpeegpbaaDoorZT10
set_option linter.unusedVariables false
set_option maxRecDepth 100000
namespace Go.Proofs.YtbnebpdpeegpbaaDoor.Cs
open Go.RowKit
theorem parse_cases (l : List UInt8) : (parseV l = .tuple #[cv 0 0 0, .int .i64 14]) ∨ ∃ a b c, parseV l = .tuple #[cv a b c, .int .i64 0] ∧ isC a b c = true ∧ text a b c = l ∧ I64 a ∧ I64 b ∧ I64 c:=by
 unfold parseV
 by_cases h : isT l = true
 ·rw [if_pos h]
  unfold isT at h
  rw [Bool.and_eq_true] at h
  exact Or.inr ⟨_, _, _, rfl, h.1, of_decide_eq_true h.2, rd_int _, rd_int _, rd_int _⟩
 ·rw [if_neg h]
  exact Or.inl rfl
theorem parse_text (a b c : Int) (ha : I64 a) (hb : I64 b) (hc : I64 c) : parseV (text a b c) = if isC a b c = true then .tuple #[cv a b c, .int .i64 0] else .tuple #[cv 0 0 0, .int .i64 14]:=by
 unfold parseV
 rw [text_is a b c ha hb hc, text_pT a b c ha.1 ha.2, text_pS a b c hb.1 hb.2, text_pR a b c hc.1 hc.2]
set_option maxHeartbeats 4000000 in
theorem walk_CsnTells (w : World) (t s r : Int) (xt : I64 t) (xs : I64 s) (xr : I64 r) (t2 s2 r2 : Int) (xt2 : I64 t2) (xs2 : I64 s2) (xr2 : I64 r2) (S : ByteArray) (hS : S.size ≤ maxLen) (hG : Glob w) :
  Calls Tryd.prog 3 #[cv t s r, cv t2 s2 r2, .string S] w fun e w'=>e = .returned (.bool true) ∧ Below w.heap.size w w':=by
 have HG:=Lib.hid hG
 have HK:=Lib.hid known_any
 have Ba:=(Blk.new w 23 (gc t s r)).alloc (.cells (gc t2 s2 r2) 23)
 have Bb : Blk ((w.alloc (.cells (gc t s r) 23)).alloc (.cells (gc t2 s2 r2) 23)) (w.heap.size + 1) 23 (gc t2 s2 r2):=by
  have:=Blk.new (w.alloc (.cells (gc t s r) 23)) 23 (gc t2 s2 r2)
  simpa using this
 have hb0:=((Below.refl w.heap.size w).alloc (Nat.le_refl _) (.cells (gc t s r) 23)).alloc (by simp) (.cells (gc t2 s2 r2) 23)
 by_cases hl : 80 < (S.size : Int)
 ·clear Ba Bb
  go_enter Tryd.func3, Tryd.ntmps3
  go_wp2_with fail
  refine (HK.out _ (HG.out.past hb0)).mono ?_
  rintro e w0 ⟨rfl, hv⟩
  have hb1:=hb0.trans (hv.mono hb0.size)
  go_wp2_with fail
  go_ret
  exact ⟨rfl, hb1⟩
 have hl2 : (S.size : Int) ≤ 80:=by omega
 have CP:=Parse_any S (by omega)
 have CX:=rText_any t s r xt xs xr
 have CT:=Text_any t s r xt xs xr
 have lx : (mk (text t s r)).size ≤ 1000000000:=by
  rw [mk_size]
  unfold text
  have l1:=itoa_len t xt.1 xt.2
  have l2:=itoa_len s xs.1 xs.2
  have l3:=itoa_len r xr.1 xr.2
  simp only [List.length_append, List.length_cons]
  omega
 have CQ:=Parse_any (mk (text t s r)) lx
 rw [bs_mk, parse_text t s r xt xs xr] at CQ
 have CJ:=ris_any t s r
 have CI:=is_any t s r
 have CZ:=zero_any t s r
 have CR:=rzero_any t s r
 have CC:=Lib.hid (cmp_any t s r t2 s2 r2)
 have CD:=Lib.hid (rcmp_any t s r t2 s2 r2)
 have hcase:=parse_cases (bs S)
 generalize mk (text t s r) = TX at CX CT CQ
 generalize parseV (bs S) = PV at CP hcase
 generalize isC t s r = IC at CQ CJ CI
 generalize decide (t = 0 ∧ s = 0 ∧ r = 0) = Z at CZ CR
 generalize cmpC t s r t2 s2 r2 = V at CC CD
 have CP:=Lib.hid CP
 have CX:=Lib.hid CX
 have CT:=Lib.hid CT
 have CQ:=Lib.hid CQ
 have CJ:=Lib.hid CJ
 have CI:=Lib.hid CI
 have CZ:=Lib.hid CZ
 have CR:=Lib.hid CR
 clear lx xt2 xs2 xr2 hl hG hS
 go_enter Tryd.func3, Tryd.ntmps3
 go_wp2_with fail
 refine (HK.out _ (HG.out.past hb0)).mono ?_
 rintro e w1 ⟨rfl, hv⟩
 have hz:=hb0.size
 have hbx:=hb0.trans (hv.mono hz)
 have Bax:=Ba.past hv
 have Bbx:=Bb.past hv
 clear hv hz hb0 Ba Bb
 have Ba:=Bax
 have Bb:=Bbx
 have hb1:=hbx
 clear hbx Bax Bbx
 rcases hcase with rfl | ⟨c0, c1, c2, rfl, hI, hTx, y0, y1, y2⟩
 focus
  go_wp2_with fail
  refine (CP.out _ (HG.out.past hb1)).mono ?_
  rintro e w2 ⟨rfl, hv⟩
  have hz:=hb1.size
  have hbx:=hb1.trans (hv.mono hz)
  have Bax:=Ba.past hv
  have Bbx:=Bb.past hv
  clear hv hz hb1 Ba Bb
  have hzx:=hbx.size
  have Ba:=Bax.alloc (.cells (gc 0 0 0) 23)
  have Bb:=Bbx.alloc (.cells (gc 0 0 0) 23)
  have Bc:=Blk.new w2 23 (gc 0 0 0)
  have hb2:=hbx.alloc hzx (.cells (gc 0 0 0) 23)
  clear hbx hzx Bax Bbx
  have bc0 : (w2.alloc (.cells (gc 0 0 0) 23)).cell? ⟨w2.heap.size, 0, none⟩ = some (.int .i64 0):=Bc.cell 0
  have bc1 : (w2.alloc (.cells (gc 0 0 0) 23)).cell? ⟨w2.heap.size, 1, none⟩ = some (.int .i64 0):=Bc.cell 1
  have bc2 : (w2.alloc (.cells (gc 0 0 0) 23)).cell? ⟨w2.heap.size, 2, none⟩ = some (.int .i64 0):=Bc.cell 2
  have ba0 : (w2.alloc (.cells (gc 0 0 0) 23)).cell? ⟨w.heap.size, 0, none⟩ = some (.int .i64 t):=Ba.cell 0
  have ba1 : (w2.alloc (.cells (gc 0 0 0) 23)).cell? ⟨w.heap.size, 1, none⟩ = some (.int .i64 s):=Ba.cell 1
  have ba2 : (w2.alloc (.cells (gc 0 0 0) 23)).cell? ⟨w.heap.size, 2, none⟩ = some (.int .i64 r):=Ba.cell 2
  have hb9:=hb2
  clear Bc hb2
  go_wp2_with fail
 rotate_left
 focus
  go_wp2_with fail
  refine (CP.out _ (HG.out.past hb1)).mono ?_
  rintro e w2 ⟨rfl, hv⟩
  have hz:=hb1.size
  have hbx:=hb1.trans (hv.mono hz)
  have Bax:=Ba.past hv
  have Bbx:=Bb.past hv
  clear hv hz hb1 Ba Bb
  have hzx:=hbx.size
  have Ba:=Bax.alloc (.cells (gc c0 c1 c2) 23)
  have Bb:=Bbx.alloc (.cells (gc c0 c1 c2) 23)
  have Bc:=Blk.new w2 23 (gc c0 c1 c2)
  have hb2:=hbx.alloc hzx (.cells (gc c0 c1 c2) 23)
  clear hbx hzx Bax Bbx
  have bc0 : (w2.alloc (.cells (gc c0 c1 c2) 23)).cell? ⟨w2.heap.size, 0, none⟩ = some (.int .i64 c0):=Bc.cell 0
  have bc1 : (w2.alloc (.cells (gc c0 c1 c2) 23)).cell? ⟨w2.heap.size, 1, none⟩ = some (.int .i64 c1):=Bc.cell 1
  have bc2 : (w2.alloc (.cells (gc c0 c1 c2) 23)).cell? ⟨w2.heap.size, 2, none⟩ = some (.int .i64 c2):=Bc.cell 2
  have CE:=ris_any c0 c1 c2
  rw [hI] at CE
  have CE:=Lib.hid CE
  have CF:=rText_any c0 c1 c2 y0 y1 y2
  have hEq : ((mk (text c0 c1 c2)).toList == S.toList) = true:=by rw [toList_bs, toList_bs, bs_mk, hTx]; exact beq_self_eq_true _
  generalize mk (text c0 c1 c2) = TY at CF hEq
  have CF:=Lib.hid CF
  clear hTx hI y0 y1 y2
  go_wp2_with fail
  refine (CE.out _).mono ?_
  rintro e w3 ⟨rfl, hv⟩
  have hz:=hb2.size
  have hbx:=hb2.trans (hv.mono hz)
  have Bax:=Ba.past hv
  have Bbx:=Bb.past hv
  have Bcx:=Bc.past hv
  clear hv hz hb2 Ba Bb Bc
  have Ba:=Bax
  have Bb:=Bbx
  have Bc:=Bcx
  have hb3:=hbx
  clear hbx Bax Bbx Bcx
  clear bc0 bc1 bc2
  have bc0 : (w3).cell? ⟨w2.heap.size, 0, none⟩ = some (.int .i64 c0):=Bc.cell 0
  have bc1 : (w3).cell? ⟨w2.heap.size, 1, none⟩ = some (.int .i64 c1):=Bc.cell 1
  have bc2 : (w3).cell? ⟨w2.heap.size, 2, none⟩ = some (.int .i64 c2):=Bc.cell 2
  go_wp2_with fail
  refine (CF.out _).mono ?_
  rintro e w4 ⟨rfl, hv⟩
  have hz:=hb3.size
  have hbx:=hb3.trans (hv.mono hz)
  have Bax:=Ba.past hv
  have Bbx:=Bb.past hv
  have Bcx:=Bc.past hv
  clear hv hz hb3 Ba Bb Bc
  have Ba:=Bax
  have Bb:=Bbx
  have Bc:=Bcx
  have hb4:=hbx
  clear hbx Bax Bbx Bcx
  clear bc0 bc1 bc2
  obtain ⟨w5, hw5⟩ : ∃ w5, w5 = w4:=⟨_, rfl⟩
  subst hw5
  have hb9:=hb4
  clear Bc hb4 CE CF
  have ba0 : (w5).cell? ⟨w.heap.size, 0, none⟩ = some (.int .i64 t):=Ba.cell 0
  have ba1 : (w5).cell? ⟨w.heap.size, 1, none⟩ = some (.int .i64 s):=Ba.cell 1
  have ba2 : (w5).cell? ⟨w.heap.size, 2, none⟩ = some (.int .i64 r):=Ba.cell 2
  go_wp2_with fail
 rotate_left
 all_goals
  refine (CX.out _).mono ?_
  rintro e w6 ⟨rfl, hv⟩
  have hb6:=hb9.trans (hv.mono hb9.size)
  have Ba6:=Ba.past hv
  have Bb6:=Bb.past hv
  clear Ba Bb hb9 hv ba0 ba1 ba2 CP
  cases IC
  ·have CQ2:=CQ.out
   rw [if_neg (by decide)] at CQ2
   have CQ2:=Lib.hid CQ2
   clear CQ
   go_wp2_with fail
   refine (CQ2.out _ (HG.out.past hb6)).mono ?_
   rintro e w7 ⟨rfl, hv⟩
   have hz:=hb6.size
   have hbx:=hb6.trans (hv.mono hz)
   have Ba6x:=Ba6.past hv
   have Bb6x:=Bb6.past hv
   clear hv hz hb6 Ba6 Bb6
   have hzx:=hbx.size
   have Ba6:=Ba6x.alloc (.cells (gc 0 0 0) 23)
   have Bb6:=Bb6x.alloc (.cells (gc 0 0 0) 23)
   have Bd:=Blk.new w7 23 (gc 0 0 0)
   have hb7:=hbx.alloc hzx (.cells (gc 0 0 0) 23)
   clear hbx hzx Ba6x Bb6x
   have ba60 : (w7.alloc (.cells (gc 0 0 0) 23)).cell? ⟨w.heap.size, 0, none⟩ = some (.int .i64 t):=Ba6.cell 0
   have ba61 : (w7.alloc (.cells (gc 0 0 0) 23)).cell? ⟨w.heap.size, 1, none⟩ = some (.int .i64 s):=Ba6.cell 1
   have ba62 : (w7.alloc (.cells (gc 0 0 0) 23)).cell? ⟨w.heap.size, 2, none⟩ = some (.int .i64 r):=Ba6.cell 2
   go_wp2_with fail
   refine (CJ.out _).mono ?_
   rintro e w8 ⟨rfl, hv⟩
   have hz:=hb7.size
   have hbx:=hb7.trans (hv.mono hz)
   have Ba6x:=Ba6.past hv
   have Bb6x:=Bb6.past hv
   have Bdx:=Bd.past hv
   clear hv hz hb7 Ba6 Bb6 Bd
   have Ba6:=Ba6x
   have Bb6:=Bb6x
   have Bd:=Bdx
   have hb8:=hbx
   clear hbx Ba6x Bb6x Bdx
   clear ba60 ba61 ba62
   go_wp2_with fail
   refine wp_region_noPanic ?_
   refine wp_region_held_drew (S:=fun w'=>Blk w' w.heap.size 23 (gc t s r) ∧ Blk w' (w.heap.size + 1) 23 (gc t2 s2 r2) ∧ Blk w' w7.heap.size 23 (gc 0 0 0) ∧ Below w.heap.size w w') (by kernel_rfl) ⟨Ba6.drew, Bb6.drew, Bd.drew, hb8.drew⟩ (fun hHeld=>?_)
   refine Rg.tk 0 56 (.agg #[.int .i64 t, .int .i64 s, .int .i64 r]) rfl (by kernel_rfl) (fun _ _ _ h=>h) (fun w' h=>run_loadRow rfl rfl h.1 Tryd.underlying23 rfl (by kernel_rfl)) hHeld ?_
   refine Rg.idleP [2] [(58, .bool false)] 41 (by kernel_rfl) (fun _ _ _ _ _ h=>h) (by kernel_rfl) (by kernel_rfl) hHeld ?_
   refine Rg.frame _ (by simp only [Rg.puts, Rg.pu, List.set]; rfl) ?_
   refine Rg.cl 1 57 rfl (by kernel_rfl) 11 #[.agg #[.int .i64 t, .int .i64 s, .int .i64 r]] (by kernel_rfl) (CI.out _) ?_
   rintro _ v1 ⟨rfl, hv1⟩
   have hHeld1:=And.intro (hHeld.1.past hv1) (And.intro (hHeld.2.1.past hv1) (And.intro (hHeld.2.2.1.past hv1) (hHeld.2.2.2.trans (hv1.mono hHeld.2.2.2.size))))
   refine ⟨_, rfl, hHeld1, ?_⟩
   refine Rg.tk 3 59 (.bool true) rfl (by kernel_rfl) (fun _ _ _ h=>h) (fun _ _=>by kernel_rfl) hHeld1 ?_
   refine Rg.idleP [4] [(60, .bool true)] 38 (by kernel_rfl) (fun _ _ _ _ _ h=>h) (by kernel_rfl) (by kernel_rfl) hHeld1 ?_
   refine Rg.frame _ (by simp only [Rg.puts, Rg.pu, List.set]; rfl) ?_
   refine Rg.tk 5 61 (.agg #[.int .i64 t, .int .i64 s, .int .i64 r]) rfl (by kernel_rfl) (fun _ _ _ h=>h) (fun w' h=>run_loadRow rfl rfl h.1 Tryd.underlying23 rfl (by kernel_rfl)) hHeld1 ?_
   refine Rg.tk 7 63 (.agg #[.int .i64 t, .int .i64 s, .int .i64 r]) rfl (by kernel_rfl) (fun _ _ _ h=>h) (fun w' h=>run_loadRow rfl rfl h.1 Tryd.underlying23 rfl (by kernel_rfl)) hHeld1 ?_
   refine Rg.cl 6 62 rfl (by kernel_rfl) 12 #[.agg #[.int .i64 t, .int .i64 s, .int .i64 r]] (by kernel_rfl) (CZ.out _) ?_
   rintro _ v2 ⟨rfl, hv2⟩
   have hHeld2:=And.intro (hHeld1.1.past hv2) (And.intro (hHeld1.2.1.past hv2) (And.intro (hHeld1.2.2.1.past hv2) (hHeld1.2.2.2.trans (hv2.mono hHeld1.2.2.2.size))))
   refine ⟨_, rfl, hHeld2, ?_⟩
   refine Rg.frame _ (by simp only [Rg.pu, List.set]; rfl) ?_
   refine Rg.cl 8 64 rfl (by kernel_rfl) 13 #[.agg #[.int .i64 t, .int .i64 s, .int .i64 r]] (by kernel_rfl) (CR.out _) ?_
   rintro _ v3 ⟨rfl, hv3⟩
   have hHeld3:=And.intro (hHeld2.1.past hv3) (And.intro (hHeld2.2.1.past hv3) (And.intro (hHeld2.2.2.1.past hv3) (hHeld2.2.2.2.trans (hv3.mono hHeld2.2.2.2.size))))
   refine ⟨_, rfl, hHeld3, ?_⟩
   refine Rg.tk 9 65 (.bool true) rfl (by kernel_rfl) (fun _ _ _ h=>h) (fun _ _=>by go_simp) hHeld3 ?_
   refine Rg.idleP [10, 11] [(66, .bool true), (67, .bool true)] 31 (by kernel_rfl) (fun _ _ _ _ _ h=>h) (by kernel_rfl) (by kernel_rfl) hHeld3 ?_
   refine Rg.frame _ (by simp only [Rg.puts, Rg.pu, List.set]; rfl) ?_
   refine Rg.tk 12 68 (.agg #[.int .i64 t, .int .i64 s, .int .i64 r]) rfl (by kernel_rfl) (fun _ _ _ h=>h) (fun w' h=>run_loadRow rfl rfl h.1 Tryd.underlying23 rfl (by kernel_rfl)) hHeld3 ?_
   refine Rg.tk 13 69 (.agg #[.int .i64 t2, .int .i64 s2, .int .i64 r2]) rfl (by kernel_rfl) (fun _ _ _ h=>h) (fun w' h=>run_loadRow rfl rfl h.2.1 Tryd.underlying23 rfl (by kernel_rfl)) hHeld3 ?_
   refine Rg.tk 15 71 (.agg #[.int .i64 t, .int .i64 s, .int .i64 r]) rfl (by kernel_rfl) (fun _ _ _ h=>h) (fun w' h=>run_loadRow rfl rfl h.1 Tryd.underlying23 rfl (by kernel_rfl)) hHeld3 ?_
   refine Rg.frame _ (by simp only [Rg.pu, List.set]; rfl) ?_
   refine Rg.tk 16 72 (.agg #[.int .i64 t2, .int .i64 s2, .int .i64 r2]) rfl (by kernel_rfl) (fun _ _ _ h=>h) (fun w' h=>run_loadRow rfl rfl h.2.1 Tryd.underlying23 rfl (by kernel_rfl)) hHeld3 ?_
   refine Rg.cl 14 70 rfl (by kernel_rfl) 14 #[.agg #[.int .i64 t, .int .i64 s, .int .i64 r], .agg #[.int .i64 t2, .int .i64 s2, .int .i64 r2]] (by kernel_rfl) (CC.out _) ?_
   rintro _ v4 ⟨rfl, hv4⟩
   have hHeld4:=And.intro (hHeld3.1.past hv4) (And.intro (hHeld3.2.1.past hv4) (And.intro (hHeld3.2.2.1.past hv4) (hHeld3.2.2.2.trans (hv4.mono hHeld3.2.2.2.size))))
   refine ⟨_, rfl, hHeld4, ?_⟩
   refine Rg.cl 17 73 rfl (by kernel_rfl) 15 #[.agg #[.int .i64 t, .int .i64 s, .int .i64 r], .agg #[.int .i64 t2, .int .i64 s2, .int .i64 r2]] (by kernel_rfl) (CD.out _) ?_
   rintro _ v5 ⟨rfl, hv5⟩
   have hHeld5:=And.intro (hHeld4.1.past hv5) (And.intro (hHeld4.2.1.past hv5) (And.intro (hHeld4.2.2.1.past hv5) (hHeld4.2.2.2.trans (hv5.mono hHeld4.2.2.2.size))))
   refine ⟨_, rfl, hHeld5, ?_⟩
   refine Rg.frame _ (by simp only [Rg.pu, List.set]; rfl) ?_
   refine Rg.tk 18 74 (.bool true) rfl (by kernel_rfl) (fun _ _ _ h=>h) (fun _ _=>run_eql_t rfl rfl rfl rfl) hHeld5 ?_
   refine Rg.idleP [19, 20] [(75, .bool true), (76, .bool true)] 22 (by kernel_rfl) (fun _ _ _ _ _ h=>h) (by kernel_rfl) (by kernel_rfl) hHeld5 ?_
   refine Rg.frame _ (by simp only [Rg.puts, Rg.pu, List.set]; rfl) ?_
   refine Rg.tk 21 77 (.agg #[.int .i64 t, .int .i64 s, .int .i64 r]) rfl (by kernel_rfl) (fun _ _ _ h=>h) (fun w' h=>run_loadRow rfl rfl h.1 Tryd.underlying23 rfl (by kernel_rfl)) hHeld5 ?_
   refine Rg.tk 23 79 (.agg #[.int .i64 t, .int .i64 s, .int .i64 r]) rfl (by kernel_rfl) (fun _ _ _ h=>h) (fun w' h=>run_loadRow rfl rfl h.1 Tryd.underlying23 rfl (by kernel_rfl)) hHeld5 ?_
   refine Rg.cl 22 78 rfl (by kernel_rfl) 16 #[.agg #[.int .i64 t, .int .i64 s, .int .i64 r]] (by kernel_rfl) (CT.out _ (HG.out.past hHeld5.2.2.2)) ?_
   rintro _ v6 ⟨rfl, hv6⟩
   have hHeld6:=And.intro (hHeld5.1.past hv6) (And.intro (hHeld5.2.1.past hv6) (And.intro (hHeld5.2.2.1.past hv6) (hHeld5.2.2.2.trans (hv6.mono hHeld5.2.2.2.size))))
   refine ⟨_, rfl, hHeld6, ?_⟩
   refine Rg.frame _ (by simp only [Rg.pu, List.set]; rfl) ?_
   refine Rg.cl 24 80 rfl (by kernel_rfl) 10 #[.agg #[.int .i64 t, .int .i64 s, .int .i64 r]] (by kernel_rfl) (CX.out _) ?_
   rintro _ v7 ⟨rfl, hv7⟩
   have hHeld7:=And.intro (hHeld6.1.past hv7) (And.intro (hHeld6.2.1.past hv7) (And.intro (hHeld6.2.2.1.past hv7) (hHeld6.2.2.2.trans (hv7.mono hHeld6.2.2.2.size))))
   refine ⟨_, rfl, hHeld7, ?_⟩
   refine Rg.tk 25 81 (.bool true) rfl (by kernel_rfl) (fun _ _ _ h=>h) (fun _ _=>by go_simp) hHeld7 ?_
   refine Rg.idleP [26, 27, 28] [(82, .bool true), (83, .bool true), (84, .int .i64 14)] 14 (by kernel_rfl) (fun _ _ _ _ _ h=>h) (by kernel_rfl) (by kernel_rfl) hHeld7 ?_
   refine Rg.frame _ (by simp only [Rg.puts, Rg.pu, List.set]; rfl) ?_
   refine Rg.tk 29 85 (.bool false) rfl (by kernel_rfl) (fun _ _ _ h=>h) (fun _ _=>by kernel_rfl) hHeld7 ?_
   refine Rg.idleP [30] [(86, .bool false)] 12 (by kernel_rfl) (fun _ _ _ _ _ h=>h) (by kernel_rfl) (by kernel_rfl) hHeld7 ?_
   refine Rg.frame _ (by simp only [Rg.puts, Rg.pu, List.set]; rfl) ?_
   refine Rg.tk 31 87 (.bool true) rfl (by kernel_rfl) (fun _ _ _ h=>h) (fun _ _=>by kernel_rfl) hHeld7 ?_
   refine Rg.idleP [32, 33, 34] [(88, .bool true), (89, .bool true), (90, .bool false)] 8 (by kernel_rfl) (fun _ _ _ _ _ h=>h) (by kernel_rfl) (by kernel_rfl) hHeld7 ?_
   refine Rg.frame _ (by simp only [Rg.puts, Rg.pu, List.set]; rfl) ?_
   refine Rg.tk 35 91 (.bool true) rfl (by kernel_rfl) (fun _ _ _ h=>h) (fun _ _=>by kernel_rfl) hHeld7 ?_
   refine Rg.idleP [36, 37, 38, 39, 40, 41, 42] [(6, .bool true), (92, .bool true), (93, undef), (94, undef), (95, undef), (96, .bool true), (97, .bool true)] 0 (by kernel_rfl) (fun _ _ _ _ _ h=>h) (by kernel_rfl) (by kernel_rfl) hHeld7 ?_
   refine Rg.frame _ (by simp only [Rg.puts, Rg.pu, List.set]; rfl) ?_
   refine wpAnyH_done (by kernel_rfl) ?_ _
   refine NoPanic.normal ?_
   go_wp2_with fail
   go_ret
   exact ⟨rfl, hHeld7.2.2.2⟩
  ·have CQ2:=CQ.out
   rw [if_pos rfl] at CQ2
   have CQ2:=Lib.hid CQ2
   clear CQ
   go_wp2_with fail
   refine (CQ2.out _ (HG.out.past hb6)).mono ?_
   rintro e w7 ⟨rfl, hv⟩
   have hz:=hb6.size
   have hbx:=hb6.trans (hv.mono hz)
   have Ba6x:=Ba6.past hv
   have Bb6x:=Bb6.past hv
   clear hv hz hb6 Ba6 Bb6
   have hzx:=hbx.size
   have Ba6:=Ba6x.alloc (.cells (gc t s r) 23)
   have Bb6:=Bb6x.alloc (.cells (gc t s r) 23)
   have Bd:=Blk.new w7 23 (gc t s r)
   have hb7:=hbx.alloc hzx (.cells (gc t s r) 23)
   clear hbx hzx Ba6x Bb6x
   have ba60 : (w7.alloc (.cells (gc t s r) 23)).cell? ⟨w.heap.size, 0, none⟩ = some (.int .i64 t):=Ba6.cell 0
   have ba61 : (w7.alloc (.cells (gc t s r) 23)).cell? ⟨w.heap.size, 1, none⟩ = some (.int .i64 s):=Ba6.cell 1
   have ba62 : (w7.alloc (.cells (gc t s r) 23)).cell? ⟨w.heap.size, 2, none⟩ = some (.int .i64 r):=Ba6.cell 2
   go_wp2_with fail
   refine (CJ.out _).mono ?_
   rintro e w8 ⟨rfl, hv⟩
   have hz:=hb7.size
   have hbx:=hb7.trans (hv.mono hz)
   have Ba6x:=Ba6.past hv
   have Bb6x:=Bb6.past hv
   have Bdx:=Bd.past hv
   clear hv hz hb7 Ba6 Bb6 Bd
   have Ba6:=Ba6x
   have Bb6:=Bb6x
   have Bd:=Bdx
   have hb8:=hbx
   clear hbx Ba6x Bb6x Bdx
   clear ba60 ba61 ba62
   go_wp2_with fail
   refine wp_region_noPanic ?_
   refine wp_region_held_drew (S:=fun w'=>Blk w' w.heap.size 23 (gc t s r) ∧ Blk w' (w.heap.size + 1) 23 (gc t2 s2 r2) ∧ Blk w' w7.heap.size 23 (gc t s r) ∧ Below w.heap.size w w') (by kernel_rfl) ⟨Ba6.drew, Bb6.drew, Bd.drew, hb8.drew⟩ (fun hHeld=>?_)
   refine Rg.tk 0 56 (.agg #[.int .i64 t, .int .i64 s, .int .i64 r]) rfl (by kernel_rfl) (fun _ _ _ h=>h) (fun w' h=>run_loadRow rfl rfl h.1 Tryd.underlying23 rfl (by kernel_rfl)) hHeld ?_
   refine Rg.idleP [2] [(58, .bool true)] 41 (by kernel_rfl) (fun _ _ _ _ _ h=>h) (by kernel_rfl) (by kernel_rfl) hHeld ?_
   refine Rg.frame _ (by simp only [Rg.puts, Rg.pu, List.set]; rfl) ?_
   refine Rg.cl 1 57 rfl (by kernel_rfl) 11 #[.agg #[.int .i64 t, .int .i64 s, .int .i64 r]] (by kernel_rfl) (CI.out _) ?_
   rintro _ v1 ⟨rfl, hv1⟩
   have hHeld1:=And.intro (hHeld.1.past hv1) (And.intro (hHeld.2.1.past hv1) (And.intro (hHeld.2.2.1.past hv1) (hHeld.2.2.2.trans (hv1.mono hHeld.2.2.2.size))))
   refine ⟨_, rfl, hHeld1, ?_⟩
   refine Rg.tk 3 59 (.bool true) rfl (by kernel_rfl) (fun _ _ _ h=>h) (fun _ _=>by kernel_rfl) hHeld1 ?_
   refine Rg.idleP [4] [(60, .bool true)] 38 (by kernel_rfl) (fun _ _ _ _ _ h=>h) (by kernel_rfl) (by kernel_rfl) hHeld1 ?_
   refine Rg.frame _ (by simp only [Rg.puts, Rg.pu, List.set]; rfl) ?_
   refine Rg.tk 5 61 (.agg #[.int .i64 t, .int .i64 s, .int .i64 r]) rfl (by kernel_rfl) (fun _ _ _ h=>h) (fun w' h=>run_loadRow rfl rfl h.1 Tryd.underlying23 rfl (by kernel_rfl)) hHeld1 ?_
   refine Rg.tk 7 63 (.agg #[.int .i64 t, .int .i64 s, .int .i64 r]) rfl (by kernel_rfl) (fun _ _ _ h=>h) (fun w' h=>run_loadRow rfl rfl h.1 Tryd.underlying23 rfl (by kernel_rfl)) hHeld1 ?_
   refine Rg.cl 6 62 rfl (by kernel_rfl) 12 #[.agg #[.int .i64 t, .int .i64 s, .int .i64 r]] (by kernel_rfl) (CZ.out _) ?_
   rintro _ v2 ⟨rfl, hv2⟩
   have hHeld2:=And.intro (hHeld1.1.past hv2) (And.intro (hHeld1.2.1.past hv2) (And.intro (hHeld1.2.2.1.past hv2) (hHeld1.2.2.2.trans (hv2.mono hHeld1.2.2.2.size))))
   refine ⟨_, rfl, hHeld2, ?_⟩
   refine Rg.frame _ (by simp only [Rg.pu, List.set]; rfl) ?_
   refine Rg.cl 8 64 rfl (by kernel_rfl) 13 #[.agg #[.int .i64 t, .int .i64 s, .int .i64 r]] (by kernel_rfl) (CR.out _) ?_
   rintro _ v3 ⟨rfl, hv3⟩
   have hHeld3:=And.intro (hHeld2.1.past hv3) (And.intro (hHeld2.2.1.past hv3) (And.intro (hHeld2.2.2.1.past hv3) (hHeld2.2.2.2.trans (hv3.mono hHeld2.2.2.2.size))))
   refine ⟨_, rfl, hHeld3, ?_⟩
   refine Rg.tk 9 65 (.bool true) rfl (by kernel_rfl) (fun _ _ _ h=>h) (fun _ _=>by go_simp) hHeld3 ?_
   refine Rg.idleP [10, 11] [(66, .bool true), (67, .bool true)] 31 (by kernel_rfl) (fun _ _ _ _ _ h=>h) (by kernel_rfl) (by kernel_rfl) hHeld3 ?_
   refine Rg.frame _ (by simp only [Rg.puts, Rg.pu, List.set]; rfl) ?_
   refine Rg.tk 12 68 (.agg #[.int .i64 t, .int .i64 s, .int .i64 r]) rfl (by kernel_rfl) (fun _ _ _ h=>h) (fun w' h=>run_loadRow rfl rfl h.1 Tryd.underlying23 rfl (by kernel_rfl)) hHeld3 ?_
   refine Rg.tk 13 69 (.agg #[.int .i64 t2, .int .i64 s2, .int .i64 r2]) rfl (by kernel_rfl) (fun _ _ _ h=>h) (fun w' h=>run_loadRow rfl rfl h.2.1 Tryd.underlying23 rfl (by kernel_rfl)) hHeld3 ?_
   refine Rg.tk 15 71 (.agg #[.int .i64 t, .int .i64 s, .int .i64 r]) rfl (by kernel_rfl) (fun _ _ _ h=>h) (fun w' h=>run_loadRow rfl rfl h.1 Tryd.underlying23 rfl (by kernel_rfl)) hHeld3 ?_
   refine Rg.frame _ (by simp only [Rg.pu, List.set]; rfl) ?_
   refine Rg.tk 16 72 (.agg #[.int .i64 t2, .int .i64 s2, .int .i64 r2]) rfl (by kernel_rfl) (fun _ _ _ h=>h) (fun w' h=>run_loadRow rfl rfl h.2.1 Tryd.underlying23 rfl (by kernel_rfl)) hHeld3 ?_
   refine Rg.cl 14 70 rfl (by kernel_rfl) 14 #[.agg #[.int .i64 t, .int .i64 s, .int .i64 r], .agg #[.int .i64 t2, .int .i64 s2, .int .i64 r2]] (by kernel_rfl) (CC.out _) ?_
   rintro _ v4 ⟨rfl, hv4⟩
   have hHeld4:=And.intro (hHeld3.1.past hv4) (And.intro (hHeld3.2.1.past hv4) (And.intro (hHeld3.2.2.1.past hv4) (hHeld3.2.2.2.trans (hv4.mono hHeld3.2.2.2.size))))
   refine ⟨_, rfl, hHeld4, ?_⟩
   refine Rg.cl 17 73 rfl (by kernel_rfl) 15 #[.agg #[.int .i64 t, .int .i64 s, .int .i64 r], .agg #[.int .i64 t2, .int .i64 s2, .int .i64 r2]] (by kernel_rfl) (CD.out _) ?_
   rintro _ v5 ⟨rfl, hv5⟩
   have hHeld5:=And.intro (hHeld4.1.past hv5) (And.intro (hHeld4.2.1.past hv5) (And.intro (hHeld4.2.2.1.past hv5) (hHeld4.2.2.2.trans (hv5.mono hHeld4.2.2.2.size))))
   refine ⟨_, rfl, hHeld5, ?_⟩
   refine Rg.frame _ (by simp only [Rg.pu, List.set]; rfl) ?_
   refine Rg.tk 18 74 (.bool true) rfl (by kernel_rfl) (fun _ _ _ h=>h) (fun _ _=>run_eql_t rfl rfl rfl rfl) hHeld5 ?_
   refine Rg.idleP [19, 20] [(75, .bool true), (76, .bool true)] 22 (by kernel_rfl) (fun _ _ _ _ _ h=>h) (by kernel_rfl) (by kernel_rfl) hHeld5 ?_
   refine Rg.frame _ (by simp only [Rg.puts, Rg.pu, List.set]; rfl) ?_
   refine Rg.tk 21 77 (.agg #[.int .i64 t, .int .i64 s, .int .i64 r]) rfl (by kernel_rfl) (fun _ _ _ h=>h) (fun w' h=>run_loadRow rfl rfl h.1 Tryd.underlying23 rfl (by kernel_rfl)) hHeld5 ?_
   refine Rg.tk 23 79 (.agg #[.int .i64 t, .int .i64 s, .int .i64 r]) rfl (by kernel_rfl) (fun _ _ _ h=>h) (fun w' h=>run_loadRow rfl rfl h.1 Tryd.underlying23 rfl (by kernel_rfl)) hHeld5 ?_
   refine Rg.cl 22 78 rfl (by kernel_rfl) 16 #[.agg #[.int .i64 t, .int .i64 s, .int .i64 r]] (by kernel_rfl) (CT.out _ (HG.out.past hHeld5.2.2.2)) ?_
   rintro _ v6 ⟨rfl, hv6⟩
   have hHeld6:=And.intro (hHeld5.1.past hv6) (And.intro (hHeld5.2.1.past hv6) (And.intro (hHeld5.2.2.1.past hv6) (hHeld5.2.2.2.trans (hv6.mono hHeld5.2.2.2.size))))
   refine ⟨_, rfl, hHeld6, ?_⟩
   refine Rg.frame _ (by simp only [Rg.pu, List.set]; rfl) ?_
   refine Rg.cl 24 80 rfl (by kernel_rfl) 10 #[.agg #[.int .i64 t, .int .i64 s, .int .i64 r]] (by kernel_rfl) (CX.out _) ?_
   rintro _ v7 ⟨rfl, hv7⟩
   have hHeld7:=And.intro (hHeld6.1.past hv7) (And.intro (hHeld6.2.1.past hv7) (And.intro (hHeld6.2.2.1.past hv7) (hHeld6.2.2.2.trans (hv7.mono hHeld6.2.2.2.size))))
   refine ⟨_, rfl, hHeld7, ?_⟩
   refine Rg.tk 25 81 (.bool true) rfl (by kernel_rfl) (fun _ _ _ h=>h) (fun _ _=>by go_simp) hHeld7 ?_
   refine Rg.idleP [26, 27, 28] [(82, .bool true), (83, .bool true), (84, .int .i64 0)] 14 (by kernel_rfl) (fun _ _ _ _ _ h=>h) (by kernel_rfl) (by kernel_rfl) hHeld7 ?_
   refine Rg.frame _ (by simp only [Rg.puts, Rg.pu, List.set]; rfl) ?_
   refine Rg.tk 29 85 (.bool true) rfl (by kernel_rfl) (fun _ _ _ h=>h) (fun _ _=>by kernel_rfl) hHeld7 ?_
   refine Rg.idleP [30] [(86, .bool true)] 12 (by kernel_rfl) (fun _ _ _ _ _ h=>h) (by kernel_rfl) (by kernel_rfl) hHeld7 ?_
   refine Rg.frame _ (by simp only [Rg.puts, Rg.pu, List.set]; rfl) ?_
   refine Rg.tk 31 87 (.bool true) rfl (by kernel_rfl) (fun _ _ _ h=>h) (fun _ _=>by kernel_rfl) hHeld7 ?_
   refine Rg.idleP [32, 33, 34] [(88, .bool true), (89, .bool true), (90, .bool true)] 8 (by kernel_rfl) (fun _ _ _ _ _ h=>h) (by kernel_rfl) (by kernel_rfl) hHeld7 ?_
   refine Rg.frame _ (by simp only [Rg.puts, Rg.pu, List.set]; rfl) ?_
   refine Rg.tk 35 91 (.bool false) rfl (by kernel_rfl) (fun _ _ _ h=>h) (fun _ _=>by kernel_rfl) hHeld7 ?_
   refine Rg.idleP [36] [(92, .bool false)] 6 (by kernel_rfl) (fun _ _ _ _ _ h=>h) (by kernel_rfl) (by kernel_rfl) hHeld7 ?_
   refine Rg.frame _ (by simp only [Rg.puts, Rg.pu, List.set]; rfl) ?_
   refine Rg.tk 37 93 (.agg #[.int .i64 t, .int .i64 s, .int .i64 r]) rfl (by kernel_rfl) (fun _ _ _ h=>h) (fun w' h=>run_loadRow rfl rfl h.2.2.1 Tryd.underlying23 rfl (by kernel_rfl)) hHeld7 ?_
   refine Rg.tk 38 94 (.agg #[.int .i64 t, .int .i64 s, .int .i64 r]) rfl (by kernel_rfl) (fun _ _ _ h=>h) (fun w' h=>run_loadRow rfl rfl h.1 Tryd.underlying23 rfl (by kernel_rfl)) hHeld7 ?_
   refine Rg.tk 39 95 (.bool true) rfl (by kernel_rfl) (fun _ _ _ h=>h) (fun _ _=>by go_simp) hHeld7 ?_
   refine Rg.frame _ (by simp only [Rg.pu, List.set]; rfl) ?_
   refine Rg.idleP [40, 41, 42] [(6, .bool true), (96, .bool true), (97, .bool true)] 0 (by kernel_rfl) (fun _ _ _ _ _ h=>h) (by kernel_rfl) (by kernel_rfl) hHeld7 ?_
   refine Rg.frame _ (by simp only [Rg.puts, Rg.pu, List.set]; rfl) ?_
   refine wpAnyH_done (by kernel_rfl) ?_ _
   refine NoPanic.normal ?_
   go_wp2_with fail
   go_ret
   exact ⟨rfl, hHeld7.2.2.2⟩
end Go.Proofs.YtbnebpdpeegpbaaDoor.Cs
