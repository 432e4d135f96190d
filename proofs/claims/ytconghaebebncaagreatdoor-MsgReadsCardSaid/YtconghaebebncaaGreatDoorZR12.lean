import Derived.Test.YtconghaebebncaaGreatDoorZR11
set_option linter.unusedVariables false
set_option maxRecDepth 100000
namespace Go.Proofs.YtconghaebebncaaGreatDoor.Ms
open Go.RowKit
def Two (w0 : World) (g1 g2 : Nat) (a : Mg) (ca : Array Value) (b : Mg) (cb : Array Value) (w : World) : Prop:=Box w g1 a ca ∧ Box w g2 b cb ∧ Below w0.heap.size w0 w
theorem Two.past {w0 : World} {g1 g2 : Nat} {a : Mg} {ca : Array Value} {b : Mg} {cb : Array Value} {w w' : World} (h : Two w0 g1 g2 a ca b cb w) (hb : Below w.heap.size w w') : Two w0 g1 g2 a ca b cb w' :=
 ⟨h.1.past hb, h.2.1.past hb, h.2.2.trans (hb.mono h.2.2.size)⟩
theorem Two.drew {w0 : World} {g1 g2 : Nat} {a : Mg} {ca : Array Value} {b : Mg} {cb : Array Value} {w : World} (h : Two w0 g1 g2 a ca b cb w) : Two w0 g1 g2 a ca b cb w.drew:=h.past (Below.refl _ _).drew
theorem Two.new {w : World} {a : Mg} {ca : Array Value} {b : Mg} {cb : Array Value} (ha : MAt w (· < w.heap.size) a ca) (hb : MAt w (· < w.heap.size) b cb) :
  Two w w.heap.size (w.heap.size + 1) a ca b cb ((w.alloc (.cells ca 28)).alloc (.cells cb 28)):=by
 have b1:=(Below.refl w.heap.size w).alloc (Nat.le_refl _) (.cells ca 28)
 have b2:=(Below.refl (w.alloc (.cells ca 28)).heap.size (w.alloc (.cells ca 28))).alloc (Nat.le_refl _) (.cells cb 28)
 have F1:=Box.new (hb.past b1)
 rw [show (w.alloc (.cells ca 28)).heap.size = w.heap.size + 1 by simp] at F1
 exact ⟨(Box.new ha).past b2, F1, b1.trans (b2.mono b1.size)⟩
set_option maxHeartbeats 8000000 in
theorem Same_any (a b : Mg) (ca cb : Array Value) (w : World) (ha : MAt w (· < w.heap.size) a ca) (hb : MAt w (· < w.heap.size) b cb) :
  Calls Tryz.prog 15 #[.agg ca, .agg cb] w fun r w'=>r = .returned (.bool (eqM a b)) ∧ Below w.heap.size w w':=by
 have T0:=Lib.hid (Two.new ha hb)
 obtain ⟨x0, x1, x2, x3, x4, fx0, fx1, fx2, fx3, fx4, hFa⟩:=ha.gF
 obtain ⟨y0, y1, y2, y3, y4, fy0, fy1, fy2, fy3, fy4, hFb⟩:=hb.gF
 obtain ⟨Wa, wca, eWa, hWa, lWa, _, _⟩:=ha.gW
 obtain ⟨Wb, wcb, eWb, hWb, lWb, _, _⟩:=hb.gW
 obtain ⟨Ma, mca, da, eMa, hMa, lMa, _⟩:=ha.gM
 obtain ⟨Mb, mcb, db, eMb, hMb, lMb, _⟩:=hb.gM
 have HI:=eqI_nums a b
 have HS:=eqS_texts a b
 have HF:=fun w1 (hb1 : Below w.heap.size w w1)=>Fi.same_any a.fil b.fil x0 x1 x2 x3 x4 y0 y1 y2 y3 y4 w1 (hFa.past hb1) (hFb.past hb1)
 have HW:=fun w1 (hb1 : Below w.heap.size w w1)=>Fi.eqS_any a.wants b.wants Wa Wb wca wcb w1 (hWa.past hb1) (hWb.past hb1) lWa lWb
 have HM:=fun w1 (hb1 : Below w.heap.size w w1)=>eqMos_any a.mods b.mods Ma Mb mca mcb da db w1 (hMa.past hb1) (hMb.past hb1) lMa lMb
 have hr : eqM a b = (decide (numsM a = numsM b) && (decide (textsM a = textsM b) && (decide (a.del = b.del) && (decide (a.has = b.has) && (Fi.eqF a.fil b.fil && (decide (a.wants = b.wants) && eqMos a.mods b.mods)))))):=rfl
 generalize decide (numsM a = numsM b) = e1 at HI hr
 generalize decide (textsM a = textsM b) = e2 at HS hr
 generalize hd3 : decide (a.del = b.del) = e3 at hr
 generalize hd4 : decide (a.has = b.has) = e4 at hr
 generalize Fi.eqF a.fil b.fil = e5 at HF hr
 generalize decide (a.wants = b.wants) = e6 at HW hr
 generalize eqMos a.mods b.mods = e7 at HM hr
 have HR:=Lib.hid hr
 clear hr
 go_enter Tryz.func15, Tryz.ntmps15
 go_wp2_with fail
 refine wp_region_noPanic ?_
 refine wp_region_held_drew (S:=Two w (w.heap.size) (w.heap.size + 1) a ca b cb) (by kernel_rfl) T0.out.drew (fun hH0=>?_)
 refine Rg.tk 0 5 (.agg ca) rfl (by kernel_rfl) (fun _ _ _ h=>h) (fun w' h=>run_loadM rfl rfl h.1) hH0 ?_
 refine Rg.tk 2 7 (.agg cb) rfl (by kernel_rfl) (fun _ _ _ h=>h) (fun w' h=>run_loadM rfl rfl h.2.1) hH0 ?_
 refine Rg.cl 1 6 rfl (by kernel_rfl) 37 #[.agg ca] (by kernel_rfl) (numbers_any a ca _ hH0.1.2) ?_
 rintro _ w2 ⟨ga, rfl, hBa, hga, hb2⟩
 have hH1:=hH0.past hb2
 refine ⟨_, rfl, hH1, ?_⟩
 refine Rg.cl 3 8 rfl (by kernel_rfl) 37 #[.agg cb] (by kernel_rfl) (numbers_any b cb _ hH1.2.1.2) ?_
 rintro _ w3 ⟨gb, rfl, hBb, hgb, hb3⟩
 have hH2:=hH1.past hb3
 refine ⟨_, rfl, hH2, ?_⟩
 refine Rg.cl 4 9 rfl (by kernel_rfl) 36 #[.slice (some ⟨ga, 0, none⟩) 7 7, .slice (some ⟨gb, 0, none⟩) 7 7] (by kernel_rfl) (HI ga gb _ (hBa.past hb3) hBb) ?_
 rintro _ w4 ⟨rfl, hb4⟩
 have hH3:=hH2.past hb4
 refine ⟨_, rfl, hH3, ?_⟩
 cases e1 with
 | false =>
  refine Rg.idleP [5, 6, 7, 8, 9, 10, 11, 12, 13, 14, 15, 16, 17, 18, 19, 20, 21, 22, 23, 24, 25, 26, 27, 28, 29, 30, 31, 32, 33, 34, 35, 36, 37, 38, 39, 40, 41, 42, 43, 44, 45, 46, 47] [(10, .bool false), (16, .bool false), (17, .bool false), (23, .bool false), (24, .bool false), (30, .bool false), (31, .bool false), (37, .bool false), (38, .bool false), (44, .bool false), (45, .bool false), (51, .bool false)] 0 (by kernel_rfl) (fun _ _ _ _ _ h=>h) (by kernel_rfl) (by kernel_rfl) hH3 ?_
  refine Rg.frame _ (by simp only [Rg.puts, Rg.pu, List.set]; rfl) ?_
  refine wpAnyH_done (by kernel_rfl) ?_ _
  refine NoPanic.normal ?_
  go_wp2_with fail
  go_ret
  exact ⟨ret_bool HR.out.symm, hH3.2.2⟩
 | true =>
  refine Rg.idleP [5] [(10, .bool true)] 42 (by kernel_rfl) (fun _ _ _ _ _ h=>h) (by kernel_rfl) (by kernel_rfl) hH3 ?_
  refine Rg.frame _ (by simp only [Rg.puts, Rg.pu, List.set]; rfl) ?_
  refine Rg.tk 6 11 (.agg ca) rfl (by kernel_rfl) (fun _ _ _ h=>h) (fun w' h=>run_loadM rfl rfl h.1) hH3 ?_
  refine Rg.tk 8 13 (.agg cb) rfl (by kernel_rfl) (fun _ _ _ h=>h) (fun w' h=>run_loadM rfl rfl h.2.1) hH3 ?_
  refine Rg.cl 7 12 rfl (by kernel_rfl) 31 #[.agg ca] (by kernel_rfl) (texts_any a ca _ hH3.1.2) ?_
  rintro _ w5 ⟨ha', rfl, hCa, hha, hb5⟩
  have hH4:=hH3.past hb5
  refine ⟨_, rfl, hH4, ?_⟩
  refine Rg.cl 9 14 rfl (by kernel_rfl) 31 #[.agg cb] (by kernel_rfl) (texts_any b cb _ hH4.2.1.2) ?_
  rintro _ w6 ⟨hb', rfl, hCb, hhb, hb6⟩
  have hH5:=hH4.past hb6
  refine ⟨_, rfl, hH5, ?_⟩
  refine Rg.cl 10 15 rfl (by kernel_rfl) 38 #[.slice (some ⟨ha', 0, none⟩) 7 7, .slice (some ⟨hb', 0, none⟩) 7 7] (by kernel_rfl) (HS ha' hb' _ (hCa.past hb6) hCb) ?_
  rintro _ w7 ⟨rfl, hb7⟩
  have hH6:=hH5.past hb7
  refine ⟨_, rfl, hH6, ?_⟩
  cases e2 with
  | false =>
   refine Rg.idleP [11, 12, 13, 14, 15, 16, 17, 18, 19, 20, 21, 22, 23, 24, 25, 26, 27, 28, 29, 30, 31, 32, 33, 34, 35, 36, 37, 38, 39, 40, 41, 42, 43, 44, 45, 46, 47] [(16, .bool false), (17, .bool false), (23, .bool false), (24, .bool false), (30, .bool false), (31, .bool false), (37, .bool false), (38, .bool false), (44, .bool false), (45, .bool false), (51, .bool false)] 0 (by kernel_rfl) (fun _ _ _ _ _ h=>h) (by kernel_rfl) (by kernel_rfl) hH6 ?_
   refine Rg.frame _ (by simp only [Rg.puts, Rg.pu, List.set]; rfl) ?_
   refine wpAnyH_done (by kernel_rfl) ?_ _
   refine NoPanic.normal ?_
   go_wp2_with fail
   go_ret
   exact ⟨ret_bool HR.out.symm, hH6.2.2⟩
  | true =>
   refine Rg.idleP [11, 12] [(16, .bool true), (17, .bool true)] 35 (by kernel_rfl) (fun _ _ _ _ _ h=>h) (by kernel_rfl) (by kernel_rfl) hH6 ?_
   refine Rg.frame _ (by simp only [Rg.puts, Rg.pu, List.set]; rfl) ?_
   refine Rg.tk 13 18 (.pointer (some ⟨w.heap.size, 16, none⟩)) rfl (by kernel_rfl) (fun _ _ _ h=>h) (fun _ _=>by kernel_rfl) hH6 ?_
   refine Rg.tk 14 19 (.bool a.del) rfl (by kernel_rfl) (fun _ _ _ h=>h) (fun w' h=>run_cell rfl rfl (by kernel_rfl) ((h.1.1.cell 16).trans ha.g16)) hH6 ?_
   refine Rg.tk 15 20 (.pointer (some ⟨w.heap.size + 1, 16, none⟩)) rfl (by kernel_rfl) (fun _ _ _ h=>h) (fun _ _=>by kernel_rfl) hH6 ?_
   refine Rg.tk 16 21 (.bool b.del) rfl (by kernel_rfl) (fun _ _ _ h=>h) (fun w' h=>run_cell rfl rfl (by kernel_rfl) ((h.2.1.1.cell 16).trans hb.g16)) hH6 ?_
   refine Rg.tk 17 22 (.bool e3) rfl (by kernel_rfl) (fun _ _ _ h=>h) (fun _ _=>by rw [← hd3]; generalize a.del = p; generalize b.del = q; cases p <;> cases q <;> kernel_rfl) hH6 ?_
   cases e3 with
   | false =>
    refine Rg.idleP [18, 19, 20, 21, 22, 23, 24, 25, 26, 27, 28, 29, 30, 31, 32, 33, 34, 35, 36, 37, 38, 39, 40, 41, 42, 43, 44, 45, 46, 47] [(23, .bool false), (24, .bool false), (30, .bool false), (31, .bool false), (37, .bool false), (38, .bool false), (44, .bool false), (45, .bool false), (51, .bool false)] 0 (by kernel_rfl) (fun _ _ _ _ _ h=>h) (by kernel_rfl) (by kernel_rfl) hH6 ?_
    refine Rg.frame _ (by simp only [Rg.puts, Rg.pu, List.set]; rfl) ?_
    refine wpAnyH_done (by kernel_rfl) ?_ _
    refine NoPanic.normal ?_
    go_wp2_with fail
    go_ret
    exact ⟨ret_bool HR.out.symm, hH6.2.2⟩
   | true =>
    refine Rg.idleP [18, 19] [(23, .bool true), (24, .bool true)] 28 (by kernel_rfl) (fun _ _ _ _ _ h=>h) (by kernel_rfl) (by kernel_rfl) hH6 ?_
    refine Rg.frame _ (by simp only [Rg.puts, Rg.pu, List.set]; rfl) ?_
    refine Rg.tk 20 25 (.pointer (some ⟨w.heap.size, 17, none⟩)) rfl (by kernel_rfl) (fun _ _ _ h=>h) (fun _ _=>by kernel_rfl) hH6 ?_
    refine Rg.tk 21 26 (.bool a.has) rfl (by kernel_rfl) (fun _ _ _ h=>h) (fun w' h=>run_cell rfl rfl (by kernel_rfl) ((h.1.1.cell 17).trans ha.g17)) hH6 ?_
    refine Rg.tk 22 27 (.pointer (some ⟨w.heap.size + 1, 17, none⟩)) rfl (by kernel_rfl) (fun _ _ _ h=>h) (fun _ _=>by kernel_rfl) hH6 ?_
    refine Rg.tk 23 28 (.bool b.has) rfl (by kernel_rfl) (fun _ _ _ h=>h) (fun w' h=>run_cell rfl rfl (by kernel_rfl) ((h.2.1.1.cell 17).trans hb.g17)) hH6 ?_
    refine Rg.tk 24 29 (.bool e4) rfl (by kernel_rfl) (fun _ _ _ h=>h) (fun _ _=>by rw [← hd4]; generalize a.has = p; generalize b.has = q; cases p <;> cases q <;> kernel_rfl) hH6 ?_
    cases e4 with
    | false =>
     refine Rg.idleP [25, 26, 27, 28, 29, 30, 31, 32, 33, 34, 35, 36, 37, 38, 39, 40, 41, 42, 43, 44, 45, 46, 47] [(30, .bool false), (31, .bool false), (37, .bool false), (38, .bool false), (44, .bool false), (45, .bool false), (51, .bool false)] 0 (by kernel_rfl) (fun _ _ _ _ _ h=>h) (by kernel_rfl) (by kernel_rfl) hH6 ?_
     refine Rg.frame _ (by simp only [Rg.puts, Rg.pu, List.set]; rfl) ?_
     refine wpAnyH_done (by kernel_rfl) ?_ _
     refine NoPanic.normal ?_
     go_wp2_with fail
     go_ret
     exact ⟨ret_bool HR.out.symm, hH6.2.2⟩
    | true =>
     refine Rg.idleP [25, 26] [(30, .bool true), (31, .bool true)] 21 (by kernel_rfl) (fun _ _ _ _ _ h=>h) (by kernel_rfl) (by kernel_rfl) hH6 ?_
     refine Rg.frame _ (by simp only [Rg.puts, Rg.pu, List.set]; rfl) ?_
     refine Rg.tk 27 32 (.pointer (some ⟨w.heap.size, 8, none⟩)) rfl (by kernel_rfl) (fun _ _ _ h=>h) (fun _ _=>by kernel_rfl) hH6 ?_
     refine Rg.tk 28 33 (.agg #[x0, x1, x2, x3, x4]) rfl (by kernel_rfl) (fun _ _ _ h=>h) (fun w' h=>run_loadF rfl rfl ((h.1.1.cell 8).trans fx0) ((h.1.1.cell 9).trans fx1) ((h.1.1.cell 10).trans fx2) ((h.1.1.cell 11).trans fx3) ((h.1.1.cell 12).trans fx4)) hH6 ?_
     refine Rg.tk 29 34 (.pointer (some ⟨w.heap.size + 1, 8, none⟩)) rfl (by kernel_rfl) (fun _ _ _ h=>h) (fun _ _=>by kernel_rfl) hH6 ?_
     refine Rg.tk 30 35 (.agg #[y0, y1, y2, y3, y4]) rfl (by kernel_rfl) (fun _ _ _ h=>h) (fun w' h=>run_loadF rfl rfl ((h.2.1.1.cell 8).trans fy0) ((h.2.1.1.cell 9).trans fy1) ((h.2.1.1.cell 10).trans fy2) ((h.2.1.1.cell 11).trans fy3) ((h.2.1.1.cell 12).trans fy4)) hH6 ?_
     refine Rg.cl 31 36 rfl (by kernel_rfl) 39 #[.agg #[x0, x1, x2, x3, x4], .agg #[y0, y1, y2, y3, y4]] (by kernel_rfl) (HF _ hH6.2.2) ?_
     rintro _ w8 ⟨rfl, hb8⟩
     have hH7:=hH6.past hb8
     refine ⟨_, rfl, hH7, ?_⟩
     cases e5 with
     | false =>
      refine Rg.idleP [32, 33, 34, 35, 36, 37, 38, 39, 40, 41, 42, 43, 44, 45, 46, 47] [(37, .bool false), (38, .bool false), (44, .bool false), (45, .bool false), (51, .bool false)] 0 (by kernel_rfl) (fun _ _ _ _ _ h=>h) (by kernel_rfl) (by kernel_rfl) hH7 ?_
      refine Rg.frame _ (by simp only [Rg.puts, Rg.pu, List.set]; rfl) ?_
      refine wpAnyH_done (by kernel_rfl) ?_ _
      refine NoPanic.normal ?_
      go_wp2_with fail
      go_ret
      exact ⟨ret_bool HR.out.symm, hH7.2.2⟩
     | true =>
      refine Rg.idleP [32, 33] [(37, .bool true), (38, .bool true)] 14 (by kernel_rfl) (fun _ _ _ _ _ h=>h) (by kernel_rfl) (by kernel_rfl) hH7 ?_
      refine Rg.frame _ (by simp only [Rg.puts, Rg.pu, List.set]; rfl) ?_
      refine Rg.tk 34 39 (.pointer (some ⟨w.heap.size, 13, none⟩)) rfl (by kernel_rfl) (fun _ _ _ h=>h) (fun _ _=>by kernel_rfl) hH7 ?_
      refine Rg.tk 35 40 (.slice Wa a.wants.length wca) rfl (by kernel_rfl) (fun _ _ _ h=>h) (fun w' h=>run_cell rfl rfl (by kernel_rfl) ((h.1.1.cell 13).trans eWa)) hH7 ?_
      refine Rg.tk 36 41 (.pointer (some ⟨w.heap.size + 1, 13, none⟩)) rfl (by kernel_rfl) (fun _ _ _ h=>h) (fun _ _=>by kernel_rfl) hH7 ?_
      refine Rg.tk 37 42 (.slice Wb b.wants.length wcb) rfl (by kernel_rfl) (fun _ _ _ h=>h) (fun w' h=>run_cell rfl rfl (by kernel_rfl) ((h.2.1.1.cell 13).trans eWb)) hH7 ?_
      refine Rg.cl 38 43 rfl (by kernel_rfl) 38 #[.slice Wa a.wants.length wca, .slice Wb b.wants.length wcb] (by kernel_rfl) (HW _ hH7.2.2) ?_
      rintro _ w9 ⟨rfl, hb9⟩
      have hH8:=hH7.past hb9
      refine ⟨_, rfl, hH8, ?_⟩
      cases e6 with
      | false =>
       refine Rg.idleP [39, 40, 41, 42, 43, 44, 45, 46, 47] [(44, .bool false), (45, .bool false), (51, .bool false)] 0 (by kernel_rfl) (fun _ _ _ _ _ h=>h) (by kernel_rfl) (by kernel_rfl) hH8 ?_
       refine Rg.frame _ (by simp only [Rg.puts, Rg.pu, List.set]; rfl) ?_
       refine wpAnyH_done (by kernel_rfl) ?_ _
       refine NoPanic.normal ?_
       go_wp2_with fail
       go_ret
       exact ⟨ret_bool HR.out.symm, hH8.2.2⟩
      | true =>
       refine Rg.idleP [39, 40] [(44, .bool true), (45, .bool true)] 7 (by kernel_rfl) (fun _ _ _ _ _ h=>h) (by kernel_rfl) (by kernel_rfl) hH8 ?_
       refine Rg.frame _ (by simp only [Rg.puts, Rg.pu, List.set]; rfl) ?_
       refine Rg.tk 41 46 (.pointer (some ⟨w.heap.size, 14, none⟩)) rfl (by kernel_rfl) (fun _ _ _ h=>h) (fun _ _=>by kernel_rfl) hH8 ?_
       refine Rg.tk 42 47 (.slice Ma a.mods.length mca) rfl (by kernel_rfl) (fun _ _ _ h=>h) (fun w' h=>run_cell rfl rfl (by kernel_rfl) ((h.1.1.cell 14).trans eMa)) hH8 ?_
       refine Rg.tk 43 48 (.pointer (some ⟨w.heap.size + 1, 14, none⟩)) rfl (by kernel_rfl) (fun _ _ _ h=>h) (fun _ _=>by kernel_rfl) hH8 ?_
       refine Rg.tk 44 49 (.slice Mb b.mods.length mcb) rfl (by kernel_rfl) (fun _ _ _ h=>h) (fun w' h=>run_cell rfl rfl (by kernel_rfl) ((h.2.1.1.cell 14).trans eMb)) hH8 ?_
       refine Rg.cl 45 50 rfl (by kernel_rfl) 40 #[.slice Ma a.mods.length mca, .slice Mb b.mods.length mcb, .func (.func 41) #[] #[]] (by kernel_rfl) (HM _ hH8.2.2) ?_
       rintro _ w10 ⟨rfl, hb10⟩
       have hH9:=hH8.past hb10
       refine ⟨_, rfl, hH9, ?_⟩
       refine Rg.idleP [46, 47] [(4, .bool e7), (51, .bool e7)] 0 (by kernel_rfl) (fun _ _ _ _ _ h=>h) (by kernel_rfl) (by kernel_rfl) hH9 ?_
       refine Rg.frame _ (by simp only [Rg.puts, Rg.pu, List.set]; rfl) ?_
       refine wpAnyH_done (by kernel_rfl) ?_ _
       refine NoPanic.normal ?_
       go_wp2_with fail
       go_ret
       exact ⟨ret_bool HR.out.symm, hH9.2.2⟩
end Go.Proofs.YtconghaebebncaaGreatDoor.Ms
namespace Go.Proofs.YtconghaebebncaaGreatDoor.Ms
open Go.RowKit
def AFlag (w : World) (r : Ending) (w' : World) : Prop:=(∃ b, r = .returned (.bool b)) ∧ Below w.heap.size w w'
set_option maxHeartbeats 8000000 in
theorem fewMsg_any (m : Mg) (cs : Array Value) (w : World) (h : MAt w (· < w.heap.size) m cs) : Calls Tryz.prog 10 #[.agg cs] w (AFlag w):=by
 have hb0:=(Below.refl w.heap.size w).alloc (Nat.le_refl _) (.cells cs 28)
 have B:=Box.new h
 obtain ⟨W, wc, eW, hW, lW, _, _⟩:=h.gW
 obtain ⟨Mo', mc, dd, eM, hM, lM, _⟩:=h.gM
 obtain ⟨x0, x1, x2, x3, x4, hF, e0, e1, e2, e3, e4⟩:=B.loadF
 obtain ⟨k, a, v, S, n1, n2, A, n3, n4, hcs⟩:=hF.form
 simp only [List.cons.injEq, and_true] at hcs
 obtain ⟨rfl, rfl, rfl, rfl, rfl⟩:=hcs
 have HF:=Lib.hid (Fi.few_any m.fil 13 0 _ _ _ _ _ _ (by show _ = _; omega) (by omega) (by omega) hF)
 have c3 : (w.alloc (.cells cs 28)).cell? ⟨w.heap.size, 3, none⟩ = some (.string m.dn):=(B.1.cell 3).trans h.g3
 have c5 : (w.alloc (.cells cs 28)).cell? ⟨w.heap.size, 5, none⟩ = some (.string m.pass):=(B.1.cell 5).trans h.g5
 have c15 : (w.alloc (.cells cs 28)).cell? ⟨w.heap.size, 15, none⟩ = some (.string m.rdn):=(B.1.cell 15).trans h.g15
 have c18 : (w.alloc (.cells cs 28)).cell? ⟨w.heap.size, 18, none⟩ = some (.string m.sup):=(B.1.cell 18).trans h.g18
 have c19 : (w.alloc (.cells cs 28)).cell? ⟨w.heap.size, 19, none⟩ = some (.string m.attr):=(B.1.cell 19).trans h.g19
 have c20 : (w.alloc (.cells cs 28)).cell? ⟨w.heap.size, 20, none⟩ = some (.string m.value):=(B.1.cell 20).trans h.g20
 have c22 : (w.alloc (.cells cs 28)).cell? ⟨w.heap.size, 22, none⟩ = some (.string m.matched):=(B.1.cell 22).trans h.g22
 have c13 : (w.alloc (.cells cs 28)).cell? ⟨w.heap.size, 13, none⟩ = some (.slice W m.wants.length wc):=(B.1.cell 13).trans eW
 have c14 : (w.alloc (.cells cs 28)).cell? ⟨w.heap.size, 14, none⟩ = some (.slice Mo' m.mods.length mc):=(B.1.cell 14).trans eM
 have HW:=Lib.hid hW
 have HM:=Lib.hid hM
 have Hb:=Lib.hid hb0
 unfold maxLen at lW lM
 clear hb0 hW hM h hF B eW eM
 rcases (by omega : (500 < (m.dn.size : Int)) ∨ ((m.dn.size : Int) ≤ 500 ∧ 500 < (m.pass.size : Int)) ∨ ((m.dn.size : Int) ≤ 500 ∧ (m.pass.size : Int) ≤ 500 ∧ 500 < (m.rdn.size : Int)) ∨ ((m.dn.size : Int) ≤ 500 ∧ (m.pass.size : Int) ≤ 500 ∧ (m.rdn.size : Int) ≤ 500 ∧ 500 < (m.sup.size : Int)) ∨ ((m.dn.size : Int) ≤ 500 ∧ (m.pass.size : Int) ≤ 500 ∧ (m.rdn.size : Int) ≤ 500 ∧ (m.sup.size : Int) ≤ 500 ∧ 500 < (m.attr.size : Int)) ∨ ((m.dn.size : Int) ≤ 500 ∧ (m.pass.size : Int) ≤ 500 ∧ (m.rdn.size : Int) ≤ 500 ∧ (m.sup.size : Int) ≤ 500 ∧ (m.attr.size : Int) ≤ 500 ∧ 500 < (m.value.size : Int)) ∨ ((m.dn.size : Int) ≤ 500 ∧ (m.pass.size : Int) ≤ 500 ∧ (m.rdn.size : Int) ≤ 500 ∧ (m.sup.size : Int) ≤ 500 ∧ (m.attr.size : Int) ≤ 500 ∧ (m.value.size : Int) ≤ 500 ∧ 500 < (m.matched.size : Int)) ∨ ((m.dn.size : Int) ≤ 500 ∧ (m.pass.size : Int) ≤ 500 ∧ (m.rdn.size : Int) ≤ 500 ∧ (m.sup.size : Int) ≤ 500 ∧ (m.attr.size : Int) ≤ 500 ∧ (m.value.size : Int) ≤ 500 ∧ (m.matched.size : Int) ≤ 500 ∧ 14 < (m.wants.length : Int)) ∨ ((m.dn.size : Int) ≤ 500 ∧ (m.pass.size : Int) ≤ 500 ∧ (m.rdn.size : Int) ≤ 500 ∧ (m.sup.size : Int) ≤ 500 ∧ (m.attr.size : Int) ≤ 500 ∧ (m.value.size : Int) ≤ 500 ∧ (m.matched.size : Int) ≤ 500 ∧ (m.wants.length : Int) ≤ 14)) with q0 | ⟨q0, q1⟩ | ⟨q0, q1, q2⟩ | ⟨q0, q1, q2, q3⟩ | ⟨q0, q1, q2, q3, q4⟩ | ⟨q0, q1, q2, q3, q4, q5⟩ | ⟨q0, q1, q2, q3, q4, q5, q6⟩ | ⟨q0, q1, q2, q3, q4, q5, q6, q7⟩ | ⟨q0, q1, q2, q3, q4, q5, q6, q7⟩
 ·clear c13 c14 e0 e1 e2 e3 e4
  go_enter Tryz.func10, Tryz.ntmps10
  go_wp2_with fail
  go_ret
  exact ⟨⟨_, rfl⟩, Hb.out⟩
 ·clear c13 c14 e0 e1 e2 e3 e4
  go_enter Tryz.func10, Tryz.ntmps10
  go_wp2_with fail
  go_ret
  exact ⟨⟨_, rfl⟩, Hb.out⟩
 ·clear c13 c14 e0 e1 e2 e3 e4
  go_enter Tryz.func10, Tryz.ntmps10
  go_wp2_with fail
  go_ret
  exact ⟨⟨_, rfl⟩, Hb.out⟩
 ·clear c13 c14 e0 e1 e2 e3 e4
  go_enter Tryz.func10, Tryz.ntmps10
  go_wp2_with fail
  go_ret
  exact ⟨⟨_, rfl⟩, Hb.out⟩
 ·clear c13 c14 e0 e1 e2 e3 e4
  go_enter Tryz.func10, Tryz.ntmps10
  go_wp2_with fail
  go_ret
  exact ⟨⟨_, rfl⟩, Hb.out⟩
 ·clear c13 c14 e0 e1 e2 e3 e4
  go_enter Tryz.func10, Tryz.ntmps10
  go_wp2_with fail
  go_ret
  exact ⟨⟨_, rfl⟩, Hb.out⟩
 ·clear c13 c14 e0 e1 e2 e3 e4
  go_enter Tryz.func10, Tryz.ntmps10
  go_wp2_with fail
  go_ret
  exact ⟨⟨_, rfl⟩, Hb.out⟩
 ·clear c14 e0 e1 e2 e3 e4
  go_enter Tryz.func10, Tryz.ntmps10
  go_wp2_with fail
  go_ret
  exact ⟨⟨_, rfl⟩, Hb.out⟩
 ·go_enter Tryz.func10, Tryz.ntmps10
  go_wp2_with fail
  clear c3 c5 c15 c18 c19 c20 c22 q0 q1 q2 q3 q4 q5 q6 q7
  go_loopw [3] (fun i wr=>∃ q : Nat, q ≤ m.wants.length ∧ i = .int .i64 q ∧ wr = w.alloc (.cells cs 28)) (fun i wr=>m.wants.length - (intOf i).toNat)
  case atStart=>exact ⟨0, Nat.zero_le _, rfl, rfl⟩
  case round =>
   obtain ⟨q, hq, rfl, rfl⟩:=hrel
   by_cases hlt : q < m.wants.length
   ·obtain ⟨ad, rfl, hp, hc⟩:=HW.out (by omega)
    have f0:=batA Hb.out (by rw [block_of_add]; exact hp) (hc q hlt)
    generalize m.wants[q] = s at f0
    clear hc e0 e1 e2 e3 e4 c14
    by_cases h500 : 500 < (s.size : Int)
    ·go_wp2_with fail
     go_ret
     exact ⟨⟨_, rfl⟩, Hb.out⟩
    ·have h500' : (s.size : Int) ≤ 500:=by omega
     clear h500
     go_wp2_with fail
     exact ⟨⟨q + 1, by omega, by go_num, trivial⟩, by simp [intOf]; omega⟩
   ·obtain rfl : q = m.wants.length:=by omega
    go_wp2_with fail
    clear c13
    go_loopw [4] (fun i wr=>∃ q : Nat, q ≤ m.mods.length ∧ i = .int .i64 q ∧ wr = w.alloc (.cells cs 28)) (fun i wr=>m.mods.length - (intOf i).toNat)
    case atStart=>exact ⟨0, Nat.zero_le _, rfl, rfl⟩
    case round =>
     clear hlt hq
     obtain ⟨q, hq, rfl, rfl⟩:=hrel
     by_cases hlt : q < m.mods.length
     ·obtain ⟨ad, V, vc, rfl, hp, f0, f1, f2, hL⟩:=HM.out.kid Hb.out hlt
      obtain ⟨V1, vc1, ev, _, lv, _, hV, _⟩:=hL
      simp only [List.cons.injEq, Value.slice.injEq, true_and, and_true] at ev
      obtain ⟨rfl, rfl⟩:=ev
      generalize m.mods[q] = d at f0 f1 f2 hV lv
      obtain ⟨dk, da, dv⟩:=d
      simp only at f0 f1 f2 hV lv
      unfold maxLen at lv
      have HV:=Lib.hid hV
      clear f0 hV e0 e1 e2 e3 e4
      rcases (by omega : (500 < (da.size : Int)) ∨ ((da.size : Int) ≤ 500 ∧ 14 < (dv.length : Int)) ∨ ((da.size : Int) ≤ 500 ∧ (dv.length : Int) ≤ 14)) with h1 | ⟨h1, h2⟩ | ⟨h1, h2⟩
      ·go_wp2_with fail
       go_ret
       exact ⟨⟨_, rfl⟩, Hb.out⟩
      ·go_wp2_with fail
       go_ret
       exact ⟨⟨_, rfl⟩, Hb.out⟩
      ·go_wp2_with fail
       go_loopw [5] (fun i wr=>∃ p : Nat, p ≤ dv.length ∧ i = .int .i64 p ∧ wr = w.alloc (.cells cs 28)) (fun i wr=>dv.length - (intOf i).toNat)
       case atStart=>exact ⟨0, Nat.zero_le _, rfl, rfl⟩
       case round =>
        obtain ⟨p, hp2, rfl, rfl⟩:=hrel
        by_cases hlt2 : p < dv.length
        ·obtain ⟨ad2, rfl, hp3, hc3⟩:=HV.out (by omega)
         have g0:=hc3 p hlt2
         generalize dv[p] = s at g0
         clear hc3
         by_cases h500 : 500 < (s.size : Int)
         ·go_wp2_with fail
          go_ret
          exact ⟨⟨_, rfl⟩, Hb.out⟩
         ·have h500' : (s.size : Int) ≤ 500:=by omega
          clear h500
          go_wp2_with fail
          exact ⟨⟨p + 1, by omega, by go_num, trivial⟩, by simp [intOf]; omega⟩
        ·obtain rfl : p = dv.length:=by omega
         go_wp2_with fail
         exact ⟨⟨q + 1, by omega, by go_num, trivial⟩, by simp [intOf]; omega⟩
     ·obtain rfl : q = m.mods.length:=by omega
      by_cases h14 : (m.mods.length : Int) ≤ 14
      ·go_wp2_with fail
       refine HF.out.mono ?_
       rintro r w1 ⟨rfl, hb1⟩
       generalize Fi.few 13 m.fil = t
       go_wp2_with fail
       go_ret
       exact ⟨⟨_, rfl⟩, Hb.out.trans (hb1.mono Hb.out.size)⟩
      ·have h14' : 14 < (m.mods.length : Int):=by omega
       clear h14
       go_wp2_with fail
       go_ret
       exact ⟨⟨_, rfl⟩, Hb.out⟩
end Go.Proofs.YtconghaebebncaaGreatDoor.Ms
