import Derived.Test.YtconghaebebncaaGreatDoorZT10
import Derived.Deep.RegionHeld3
namespace Go.Proofs.YtconghaebebncaaGreatDoor.Ms
open Go.RowKit
set_option linter.unusedVariables false
set_option maxRecDepth 100000
def Two (w0 : World) (g1 g2 : Nat) (a : Mg) (ca : Array Value) (b : Mg) (cb : Array Value) (w : World) : Prop := Box w g1 a ca ∧ Box w g2 b cb ∧ Below w0.heap.size w0 w
theorem Two.past {w0 : World} {g1 g2 : Nat} {a : Mg} {ca : Array Value} {b : Mg} {cb : Array Value} {w w' : World} (h : Two w0 g1 g2 a ca b cb w) (hb : Below w.heap.size w w') : Two w0 g1 g2 a ca b cb w' :=
 ⟨h.1.past hb, h.2.1.past hb, h.2.2.trans (hb.mono h.2.2.size)⟩
theorem Two.drew {w0 : World} {g1 g2 : Nat} {a : Mg} {ca : Array Value} {b : Mg} {cb : Array Value} {w : World} (h : Two w0 g1 g2 a ca b cb w) : Two w0 g1 g2 a ca b cb w.drew := h.past (Below.refl _ _).drew
theorem Two.new {w : World} {a : Mg} {ca : Array Value} {b : Mg} {cb : Array Value} (ha : MAt w (· < w.heap.size) a ca) (hb : MAt w (· < w.heap.size) b cb) :
  Two w w.heap.size (w.heap.size + 1) a ca b cb ((w.alloc (.cells ca 28)).alloc (.cells cb 28)) := by
 have b1 := (Below.refl w.heap.size w).alloc (Nat.le_refl _) (.cells ca 28)
 have b2 := (Below.refl (w.alloc (.cells ca 28)).heap.size (w.alloc (.cells ca 28))).alloc (Nat.le_refl _) (.cells cb 28)
 have F1 := Box.new (hb.past b1)
 rw [show (w.alloc (.cells ca 28)).heap.size = w.heap.size + 1 by simp] at F1
 exact ⟨(Box.new ha).past b2, F1, b1.trans (b2.mono b1.size)⟩
set_option maxHeartbeats 8000000 in
theorem Same_any (a b : Mg) (ca cb : Array Value) (w : World) (ha : MAt w (· < w.heap.size) a ca) (hb : MAt w (· < w.heap.size) b cb) :
  Calls Tryz.prog 15 #[.agg ca, .agg cb] w fun r w' => r = .returned (.bool (eqM a b)) ∧ Below w.heap.size w w' := by
 have T0 := Lib.hid (Two.new ha hb)
 obtain ⟨x0, x1, x2, x3, x4, fx0, fx1, fx2, fx3, fx4, hFa⟩ := ha.gF
 obtain ⟨y0, y1, y2, y3, y4, fy0, fy1, fy2, fy3, fy4, hFb⟩ := hb.gF
 obtain ⟨Wa, wca, eWa, hWa, lWa, _, _⟩ := ha.gW
 obtain ⟨Wb, wcb, eWb, hWb, lWb, _, _⟩ := hb.gW
 obtain ⟨Ma, mca, da, eMa, hMa, lMa, _⟩ := ha.gM
 obtain ⟨Mb, mcb, db, eMb, hMb, lMb, _⟩ := hb.gM
 have HI := eqI_nums a b
 have HS := eqS_texts a b
 have HF := fun w1 (hb1 : Below w.heap.size w w1) => Fi.same_any a.fil b.fil x0 x1 x2 x3 x4 y0 y1 y2 y3 y4 w1 (hFa.past hb1) (hFb.past hb1)
 have HW := fun w1 (hb1 : Below w.heap.size w w1) => Fi.eqS_any a.wants b.wants Wa Wb wca wcb w1 (hWa.past hb1) (hWb.past hb1) lWa lWb
 have HM := fun w1 (hb1 : Below w.heap.size w w1) => eqMos_any a.mods b.mods Ma Mb mca mcb da db w1 (hMa.past hb1) (hMb.past hb1) lMa lMb
 have hr : eqM a b = (decide (numsM a = numsM b) && (decide (textsM a = textsM b) && (decide (a.del = b.del) && (decide (a.has = b.has) && (Fi.eqF a.fil b.fil && (decide (a.wants = b.wants) && eqMos a.mods b.mods)))))) := rfl
 generalize decide (numsM a = numsM b) = e1 at HI hr
 generalize decide (textsM a = textsM b) = e2 at HS hr
 generalize hd3 : decide (a.del = b.del) = e3 at hr
 generalize hd4 : decide (a.has = b.has) = e4 at hr
 generalize Fi.eqF a.fil b.fil = e5 at HF hr
 generalize decide (a.wants = b.wants) = e6 at HW hr
 generalize eqMos a.mods b.mods = e7 at HM hr
 have HR := Lib.hid hr
 clear hr
 go_enter Tryz.func15, Tryz.ntmps15
 go_wp2_with fail
 refine wp_region_noPanic ?_
 refine wp_region_held_drew (S := Two w (w.heap.size) (w.heap.size + 1) a ca b cb) (by kernel_rfl) T0.out.drew (fun hH0 => ?_)
 refine Rg.take 0 (.agg ca) rfl (by kernel_rfl) (by kernel_rfl) (by kernel_rfl) (fun _ _ _ h => h) (by kernel_rfl) (fun w' h => run_loadM rfl rfl h.1) hH0 ?_
 refine Rg.take 2 (.agg cb) rfl (by kernel_rfl) (by kernel_rfl) (by kernel_rfl) (fun _ _ _ h => h) (by kernel_rfl) (fun w' h => run_loadM rfl rfl h.2.1) hH0 ?_
 refine Rg.call 1 rfl (by kernel_rfl) (by kernel_rfl) 37 #[.agg ca] (by kernel_rfl) (numbers_any a ca _ hH0.1.2) ?_
 rintro _ w2 ⟨ga, rfl, hBa, hga, hb2⟩
 have hH1 := hH0.past hb2
 refine ⟨_, rfl, hH1, ?_⟩
 refine Rg.call 3 rfl (by kernel_rfl) (by kernel_rfl) 37 #[.agg cb] (by kernel_rfl) (numbers_any b cb _ hH1.2.1.2) ?_
 rintro _ w3 ⟨gb, rfl, hBb, hgb, hb3⟩
 have hH2 := hH1.past hb3
 refine ⟨_, rfl, hH2, ?_⟩
 refine Rg.call 4 rfl (by kernel_rfl) (by kernel_rfl) 36 #[.slice (some ⟨ga, 0, none⟩) 7 7, .slice (some ⟨gb, 0, none⟩) 7 7] (by kernel_rfl) (HI ga gb _ (hBa.past hb3) hBb) ?_
 rintro _ w4 ⟨rfl, hb4⟩
 have hH3 := hH2.past hb4
 refine ⟨_, rfl, hH3, ?_⟩
 cases e1 with
 | false =>
  refine Rg.idle (by kernel_rfl) (fun _ _ _ _ _ h => h) [5, 6, 7, 8, 9, 10, 11, 12, 13, 14, 15, 16, 17, 18, 19, 20, 21, 22, 23, 24, 25, 26, 27, 28, 29, 30, 31, 32, 33, 34, 35, 36, 37, 38, 39, 40, 41, 42, 43, 44, 45, 46, 47] _ _ ⟨#[.agg ca, .agg cb, pt w.heap.size 0, pt (w.heap.size + 1) 0, Bf, .agg ca, Sl (some ⟨ga, 0, none⟩) 7 7, .agg cb, Sl (some ⟨gb, 0, none⟩) 7 7, Bf, Bf, ud, ud, ud, ud, ud, Bf, Bf, ud, ud, ud, ud, ud, Bf, Bf, ud, ud, ud, ud, ud, Bf, Bf, ud, ud, ud, ud, ud, Bf, Bf, ud, ud, ud, ud, ud, Bf, Bf, ud, ud, ud, ud, ud, Bf], []⟩ 0 (by kernel_rfl) (by kernel_rfl) hH3 ?_
  refine Rg.frame { tmps := #[.agg ca, .agg cb, .pointer (some ⟨w.heap.size, 0, none⟩), .pointer (some ⟨w.heap.size + 1, 0, none⟩), .bool false, .agg ca, .slice (some ⟨ga, 0, none⟩) 7 7, .agg cb, .slice (some ⟨gb, 0, none⟩) 7 7, .bool false, .bool false, undef, undef, undef, undef, undef, .bool false, .bool false, undef, undef, undef, undef, undef, .bool false, .bool false, undef, undef, undef, undef, undef, .bool false, .bool false, undef, undef, undef, undef, undef, .bool false, .bool false, undef, undef, undef, undef, undef, .bool false, .bool false, undef, undef, undef, undef, undef, .bool false], defers := [] } (by kernel_rfl) ?_
  refine wpAnyH_done (by kernel_rfl) ?_ _
  refine NoPanic.normal ?_
  go_wp2_with fail
  go_ret
  exact ⟨ret_bool HR.out.symm, hH3.2.2⟩
 | true =>
  refine Rg.idle (by kernel_rfl) (fun _ _ _ _ _ h => h) [5] _ _ ⟨#[.agg ca, .agg cb, pt w.heap.size 0, pt (w.heap.size + 1) 0, Bf, .agg ca, Sl (some ⟨ga, 0, none⟩) 7 7, .agg cb, Sl (some ⟨gb, 0, none⟩) 7 7, Bt, Bt, ud, ud, ud, ud, ud, ud, ud, ud, ud, ud, ud, ud, ud, ud, ud, ud, ud, ud, ud, ud, ud, ud, ud, ud, ud, ud, ud, ud, ud, ud, ud, ud, ud, ud, ud, ud, ud, ud, ud, ud, ud], []⟩ 42 (by kernel_rfl) (by kernel_rfl) hH3 ?_
  refine Rg.take 6 (.agg ca) rfl (by kernel_rfl) (by kernel_rfl) (by kernel_rfl) (fun _ _ _ h => h) (by kernel_rfl) (fun w' h => run_loadM rfl rfl h.1) hH3 ?_
  refine Rg.take 8 (.agg cb) rfl (by kernel_rfl) (by kernel_rfl) (by kernel_rfl) (fun _ _ _ h => h) (by kernel_rfl) (fun w' h => run_loadM rfl rfl h.2.1) hH3 ?_
  refine Rg.call 7 rfl (by kernel_rfl) (by kernel_rfl) 31 #[.agg ca] (by kernel_rfl) (texts_any a ca _ hH3.1.2) ?_
  rintro _ w5 ⟨ha', rfl, hCa, hha, hb5⟩
  have hH4 := hH3.past hb5
  refine ⟨_, rfl, hH4, ?_⟩
  refine Rg.call 9 rfl (by kernel_rfl) (by kernel_rfl) 31 #[.agg cb] (by kernel_rfl) (texts_any b cb _ hH4.2.1.2) ?_
  rintro _ w6 ⟨hb', rfl, hCb, hhb, hb6⟩
  have hH5 := hH4.past hb6
  refine ⟨_, rfl, hH5, ?_⟩
  refine Rg.call 10 rfl (by kernel_rfl) (by kernel_rfl) 38 #[.slice (some ⟨ha', 0, none⟩) 7 7, .slice (some ⟨hb', 0, none⟩) 7 7] (by kernel_rfl) (HS ha' hb' _ (hCa.past hb6) hCb) ?_
  rintro _ w7 ⟨rfl, hb7⟩
  have hH6 := hH5.past hb7
  refine ⟨_, rfl, hH6, ?_⟩
  cases e2 with
  | false =>
   refine Rg.idle (by kernel_rfl) (fun _ _ _ _ _ h => h) [11, 12, 13, 14, 15, 16, 17, 18, 19, 20, 21, 22, 23, 24, 25, 26, 27, 28, 29, 30, 31, 32, 33, 34, 35, 36, 37, 38, 39, 40, 41, 42, 43, 44, 45, 46, 47] _ _ ⟨#[.agg ca, .agg cb, pt w.heap.size 0, pt (w.heap.size + 1) 0, Bf, .agg ca, Sl (some ⟨ga, 0, none⟩) 7 7, .agg cb, Sl (some ⟨gb, 0, none⟩) 7 7, Bt, Bt, .agg ca, Sl (some ⟨ha', 0, none⟩) 7 7, .agg cb, Sl (some ⟨hb', 0, none⟩) 7 7, Bf, Bf, Bf, ud, ud, ud, ud, ud, Bf, Bf, ud, ud, ud, ud, ud, Bf, Bf, ud, ud, ud, ud, ud, Bf, Bf, ud, ud, ud, ud, ud, Bf, Bf, ud, ud, ud, ud, ud, Bf], []⟩ 0 (by kernel_rfl) (by kernel_rfl) hH6 ?_
   refine Rg.frame { tmps := #[.agg ca, .agg cb, .pointer (some ⟨w.heap.size, 0, none⟩), .pointer (some ⟨w.heap.size + 1, 0, none⟩), .bool false, .agg ca, .slice (some ⟨ga, 0, none⟩) 7 7, .agg cb, .slice (some ⟨gb, 0, none⟩) 7 7, .bool true, .bool true, .agg ca, .slice (some ⟨ha', 0, none⟩) 7 7, .agg cb, .slice (some ⟨hb', 0, none⟩) 7 7, .bool false, .bool false, .bool false, undef, undef, undef, undef, undef, .bool false, .bool false, undef, undef, undef, undef, undef, .bool false, .bool false, undef, undef, undef, undef, undef, .bool false, .bool false, undef, undef, undef, undef, undef, .bool false, .bool false, undef, undef, undef, undef, undef, .bool false], defers := [] } (by kernel_rfl) ?_
   refine wpAnyH_done (by kernel_rfl) ?_ _
   refine NoPanic.normal ?_
   go_wp2_with fail
   go_ret
   exact ⟨ret_bool HR.out.symm, hH6.2.2⟩
  | true =>
   refine Rg.idle (by kernel_rfl) (fun _ _ _ _ _ h => h) [11, 12] _ _ ⟨#[.agg ca, .agg cb, pt w.heap.size 0, pt (w.heap.size + 1) 0, Bf, .agg ca, Sl (some ⟨ga, 0, none⟩) 7 7, .agg cb, Sl (some ⟨gb, 0, none⟩) 7 7, Bt, Bt, .agg ca, Sl (some ⟨ha', 0, none⟩) 7 7, .agg cb, Sl (some ⟨hb', 0, none⟩) 7 7, Bt, Bt, Bt, ud, ud, ud, ud, ud, ud, ud, ud, ud, ud, ud, ud, ud, ud, ud, ud, ud, ud, ud, ud, ud, ud, ud, ud, ud, ud, ud, ud, ud, ud, ud, ud, ud, ud], []⟩ 35 (by kernel_rfl) (by kernel_rfl) hH6 ?_
   refine Rg.take 13 (.pointer (some ⟨w.heap.size, 16, none⟩)) rfl (by kernel_rfl) (by kernel_rfl) (by kernel_rfl) (fun _ _ _ h => h) (by kernel_rfl) (fun _ _ => by kernel_rfl) hH6 ?_
   refine Rg.take 14 (.bool a.del) rfl (by kernel_rfl) (by kernel_rfl) (by kernel_rfl) (fun _ _ _ h => h) (by kernel_rfl) (fun w' h => run_cell rfl rfl (by kernel_rfl) ((h.1.1.cell 16).trans ha.g16)) hH6 ?_
   refine Rg.take 15 (.pointer (some ⟨w.heap.size + 1, 16, none⟩)) rfl (by kernel_rfl) (by kernel_rfl) (by kernel_rfl) (fun _ _ _ h => h) (by kernel_rfl) (fun _ _ => by kernel_rfl) hH6 ?_
   refine Rg.take 16 (.bool b.del) rfl (by kernel_rfl) (by kernel_rfl) (by kernel_rfl) (fun _ _ _ h => h) (by kernel_rfl) (fun w' h => run_cell rfl rfl (by kernel_rfl) ((h.2.1.1.cell 16).trans hb.g16)) hH6 ?_
   refine Rg.take 17 (.bool e3) rfl (by kernel_rfl) (by kernel_rfl) (by kernel_rfl) (fun _ _ _ h => h) (by kernel_rfl) (fun _ _ => by rw [← hd3]; generalize a.del = p; generalize b.del = q; cases p <;> cases q <;> kernel_rfl) hH6 ?_
   cases e3 with
   | false =>
    refine Rg.idle (by kernel_rfl) (fun _ _ _ _ _ h => h) [18, 19, 20, 21, 22, 23, 24, 25, 26, 27, 28, 29, 30, 31, 32, 33, 34, 35, 36, 37, 38, 39, 40, 41, 42, 43, 44, 45, 46, 47] _ _ ⟨#[.agg ca, .agg cb, pt w.heap.size 0, pt (w.heap.size + 1) 0, Bf, .agg ca, Sl (some ⟨ga, 0, none⟩) 7 7, .agg cb, Sl (some ⟨gb, 0, none⟩) 7 7, Bt, Bt, .agg ca, Sl (some ⟨ha', 0, none⟩) 7 7, .agg cb, Sl (some ⟨hb', 0, none⟩) 7 7, Bt, Bt, Bt, pt w.heap.size 16, .bool a.del, pt (w.heap.size + 1) 16, .bool b.del, Bf, Bf, Bf, ud, ud, ud, ud, ud, Bf, Bf, ud, ud, ud, ud, ud, Bf, Bf, ud, ud, ud, ud, ud, Bf, Bf, ud, ud, ud, ud, ud, Bf], []⟩ 0 (by kernel_rfl) (by kernel_rfl) hH6 ?_
    refine Rg.frame { tmps := #[.agg ca, .agg cb, .pointer (some ⟨w.heap.size, 0, none⟩), .pointer (some ⟨w.heap.size + 1, 0, none⟩), .bool false, .agg ca, .slice (some ⟨ga, 0, none⟩) 7 7, .agg cb, .slice (some ⟨gb, 0, none⟩) 7 7, .bool true, .bool true, .agg ca, .slice (some ⟨ha', 0, none⟩) 7 7, .agg cb, .slice (some ⟨hb', 0, none⟩) 7 7, .bool true, .bool true, .bool true, .pointer (some ⟨w.heap.size, 16, none⟩), .bool a.del, .pointer (some ⟨w.heap.size + 1, 16, none⟩), .bool b.del, .bool false, .bool false, .bool false, undef, undef, undef, undef, undef, .bool false, .bool false, undef, undef, undef, undef, undef, .bool false, .bool false, undef, undef, undef, undef, undef, .bool false, .bool false, undef, undef, undef, undef, undef, .bool false], defers := [] } (by kernel_rfl) ?_
    refine wpAnyH_done (by kernel_rfl) ?_ _
    refine NoPanic.normal ?_
    go_wp2_with fail
    go_ret
    exact ⟨ret_bool HR.out.symm, hH6.2.2⟩
   | true =>
    refine Rg.idle (by kernel_rfl) (fun _ _ _ _ _ h => h) [18, 19] _ _ ⟨#[.agg ca, .agg cb, pt w.heap.size 0, pt (w.heap.size + 1) 0, Bf, .agg ca, Sl (some ⟨ga, 0, none⟩) 7 7, .agg cb, Sl (some ⟨gb, 0, none⟩) 7 7, Bt, Bt, .agg ca, Sl (some ⟨ha', 0, none⟩) 7 7, .agg cb, Sl (some ⟨hb', 0, none⟩) 7 7, Bt, Bt, Bt, pt w.heap.size 16, .bool a.del, pt (w.heap.size + 1) 16, .bool b.del, Bt, Bt, Bt, ud, ud, ud, ud, ud, ud, ud, ud, ud, ud, ud, ud, ud, ud, ud, ud, ud, ud, ud, ud, ud, ud, ud, ud, ud, ud, ud], []⟩ 28 (by kernel_rfl) (by kernel_rfl) hH6 ?_
    refine Rg.take 20 (.pointer (some ⟨w.heap.size, 17, none⟩)) rfl (by kernel_rfl) (by kernel_rfl) (by kernel_rfl) (fun _ _ _ h => h) (by kernel_rfl) (fun _ _ => by kernel_rfl) hH6 ?_
    refine Rg.take 21 (.bool a.has) rfl (by kernel_rfl) (by kernel_rfl) (by kernel_rfl) (fun _ _ _ h => h) (by kernel_rfl) (fun w' h => run_cell rfl rfl (by kernel_rfl) ((h.1.1.cell 17).trans ha.g17)) hH6 ?_
    refine Rg.take 22 (.pointer (some ⟨w.heap.size + 1, 17, none⟩)) rfl (by kernel_rfl) (by kernel_rfl) (by kernel_rfl) (fun _ _ _ h => h) (by kernel_rfl) (fun _ _ => by kernel_rfl) hH6 ?_
    refine Rg.take 23 (.bool b.has) rfl (by kernel_rfl) (by kernel_rfl) (by kernel_rfl) (fun _ _ _ h => h) (by kernel_rfl) (fun w' h => run_cell rfl rfl (by kernel_rfl) ((h.2.1.1.cell 17).trans hb.g17)) hH6 ?_
    refine Rg.take 24 (.bool e4) rfl (by kernel_rfl) (by kernel_rfl) (by kernel_rfl) (fun _ _ _ h => h) (by kernel_rfl) (fun _ _ => by rw [← hd4]; generalize a.has = p; generalize b.has = q; cases p <;> cases q <;> kernel_rfl) hH6 ?_
    cases e4 with
    | false =>
     refine Rg.idle (by kernel_rfl) (fun _ _ _ _ _ h => h) [25, 26, 27, 28, 29, 30, 31, 32, 33, 34, 35, 36, 37, 38, 39, 40, 41, 42, 43, 44, 45, 46, 47] _ _ ⟨#[.agg ca, .agg cb, pt w.heap.size 0, pt (w.heap.size + 1) 0, Bf, .agg ca, Sl (some ⟨ga, 0, none⟩) 7 7, .agg cb, Sl (some ⟨gb, 0, none⟩) 7 7, Bt, Bt, .agg ca, Sl (some ⟨ha', 0, none⟩) 7 7, .agg cb, Sl (some ⟨hb', 0, none⟩) 7 7, Bt, Bt, Bt, pt w.heap.size 16, .bool a.del, pt (w.heap.size + 1) 16, .bool b.del, Bt, Bt, Bt, pt w.heap.size 17, .bool a.has, pt (w.heap.size + 1) 17, .bool b.has, Bf, Bf, Bf, ud, ud, ud, ud, ud, Bf, Bf, ud, ud, ud, ud, ud, Bf, Bf, ud, ud, ud, ud, ud, Bf], []⟩ 0 (by kernel_rfl) (by kernel_rfl) hH6 ?_
     refine Rg.frame { tmps := #[.agg ca, .agg cb, .pointer (some ⟨w.heap.size, 0, none⟩), .pointer (some ⟨w.heap.size + 1, 0, none⟩), .bool false, .agg ca, .slice (some ⟨ga, 0, none⟩) 7 7, .agg cb, .slice (some ⟨gb, 0, none⟩) 7 7, .bool true, .bool true, .agg ca, .slice (some ⟨ha', 0, none⟩) 7 7, .agg cb, .slice (some ⟨hb', 0, none⟩) 7 7, .bool true, .bool true, .bool true, .pointer (some ⟨w.heap.size, 16, none⟩), .bool a.del, .pointer (some ⟨w.heap.size + 1, 16, none⟩), .bool b.del, .bool true, .bool true, .bool true, .pointer (some ⟨w.heap.size, 17, none⟩), .bool a.has, .pointer (some ⟨w.heap.size + 1, 17, none⟩), .bool b.has, .bool false, .bool false, .bool false, undef, undef, undef, undef, undef, .bool false, .bool false, undef, undef, undef, undef, undef, .bool false, .bool false, undef, undef, undef, undef, undef, .bool false], defers := [] } (by kernel_rfl) ?_
     refine wpAnyH_done (by kernel_rfl) ?_ _
     refine NoPanic.normal ?_
     go_wp2_with fail
     go_ret
     exact ⟨ret_bool HR.out.symm, hH6.2.2⟩
    | true =>
     refine Rg.idle (by kernel_rfl) (fun _ _ _ _ _ h => h) [25, 26] _ _ ⟨#[.agg ca, .agg cb, pt w.heap.size 0, pt (w.heap.size + 1) 0, Bf, .agg ca, Sl (some ⟨ga, 0, none⟩) 7 7, .agg cb, Sl (some ⟨gb, 0, none⟩) 7 7, Bt, Bt, .agg ca, Sl (some ⟨ha', 0, none⟩) 7 7, .agg cb, Sl (some ⟨hb', 0, none⟩) 7 7, Bt, Bt, Bt, pt w.heap.size 16, .bool a.del, pt (w.heap.size + 1) 16, .bool b.del, Bt, Bt, Bt, pt w.heap.size 17, .bool a.has, pt (w.heap.size + 1) 17, .bool b.has, Bt, Bt, Bt, ud, ud, ud, ud, ud, ud, ud, ud, ud, ud, ud, ud, ud, ud, ud, ud, ud, ud, ud, ud], []⟩ 21 (by kernel_rfl) (by kernel_rfl) hH6 ?_
     refine Rg.take 27 (.pointer (some ⟨w.heap.size, 8, none⟩)) rfl (by kernel_rfl) (by kernel_rfl) (by kernel_rfl) (fun _ _ _ h => h) (by kernel_rfl) (fun _ _ => by kernel_rfl) hH6 ?_
     refine Rg.take 28 (.agg #[x0, x1, x2, x3, x4]) rfl (by kernel_rfl) (by kernel_rfl) (by kernel_rfl) (fun _ _ _ h => h) (by kernel_rfl) (fun w' h => run_loadF rfl rfl ((h.1.1.cell 8).trans fx0) ((h.1.1.cell 9).trans fx1) ((h.1.1.cell 10).trans fx2) ((h.1.1.cell 11).trans fx3) ((h.1.1.cell 12).trans fx4)) hH6 ?_
     refine Rg.take 29 (.pointer (some ⟨w.heap.size + 1, 8, none⟩)) rfl (by kernel_rfl) (by kernel_rfl) (by kernel_rfl) (fun _ _ _ h => h) (by kernel_rfl) (fun _ _ => by kernel_rfl) hH6 ?_
     refine Rg.take 30 (.agg #[y0, y1, y2, y3, y4]) rfl (by kernel_rfl) (by kernel_rfl) (by kernel_rfl) (fun _ _ _ h => h) (by kernel_rfl) (fun w' h => run_loadF rfl rfl ((h.2.1.1.cell 8).trans fy0) ((h.2.1.1.cell 9).trans fy1) ((h.2.1.1.cell 10).trans fy2) ((h.2.1.1.cell 11).trans fy3) ((h.2.1.1.cell 12).trans fy4)) hH6 ?_
     refine Rg.call 31 rfl (by kernel_rfl) (by kernel_rfl) 39 #[.agg #[x0, x1, x2, x3, x4], .agg #[y0, y1, y2, y3, y4]] (by kernel_rfl) (HF _ hH6.2.2) ?_
     rintro _ w8 ⟨rfl, hb8⟩
     have hH7 := hH6.past hb8
     refine ⟨_, rfl, hH7, ?_⟩
     cases e5 with
     | false =>
      refine Rg.idle (by kernel_rfl) (fun _ _ _ _ _ h => h) [32, 33, 34, 35, 36, 37, 38, 39, 40, 41, 42, 43, 44, 45, 46, 47] _ _ ⟨#[.agg ca, .agg cb, pt w.heap.size 0, pt (w.heap.size + 1) 0, Bf, .agg ca, Sl (some ⟨ga, 0, none⟩) 7 7, .agg cb, Sl (some ⟨gb, 0, none⟩) 7 7, Bt, Bt, .agg ca, Sl (some ⟨ha', 0, none⟩) 7 7, .agg cb, Sl (some ⟨hb', 0, none⟩) 7 7, Bt, Bt, Bt, pt w.heap.size 16, .bool a.del, pt (w.heap.size + 1) 16, .bool b.del, Bt, Bt, Bt, pt w.heap.size 17, .bool a.has, pt (w.heap.size + 1) 17, .bool b.has, Bt, Bt, Bt, pt w.heap.size 8, Ag #[x0, x1, x2, x3, x4], pt (w.heap.size + 1) 8, Ag #[y0, y1, y2, y3, y4], Bf, Bf, Bf, ud, ud, ud, ud, ud, Bf, Bf, ud, ud, ud, ud, ud, Bf], []⟩ 0 (by kernel_rfl) (by kernel_rfl) hH7 ?_
      refine Rg.frame { tmps := #[.agg ca, .agg cb, .pointer (some ⟨w.heap.size, 0, none⟩), .pointer (some ⟨w.heap.size + 1, 0, none⟩), .bool false, .agg ca, .slice (some ⟨ga, 0, none⟩) 7 7, .agg cb, .slice (some ⟨gb, 0, none⟩) 7 7, .bool true, .bool true, .agg ca, .slice (some ⟨ha', 0, none⟩) 7 7, .agg cb, .slice (some ⟨hb', 0, none⟩) 7 7, .bool true, .bool true, .bool true, .pointer (some ⟨w.heap.size, 16, none⟩), .bool a.del, .pointer (some ⟨w.heap.size + 1, 16, none⟩), .bool b.del, .bool true, .bool true, .bool true, .pointer (some ⟨w.heap.size, 17, none⟩), .bool a.has, .pointer (some ⟨w.heap.size + 1, 17, none⟩), .bool b.has, .bool true, .bool true, .bool true, .pointer (some ⟨w.heap.size, 8, none⟩), .agg #[x0, x1, x2, x3, x4], .pointer (some ⟨w.heap.size + 1, 8, none⟩), .agg #[y0, y1, y2, y3, y4], .bool false, .bool false, .bool false, undef, undef, undef, undef, undef, .bool false, .bool false, undef, undef, undef, undef, undef, .bool false], defers := [] } (by kernel_rfl) ?_
      refine wpAnyH_done (by kernel_rfl) ?_ _
      refine NoPanic.normal ?_
      go_wp2_with fail
      go_ret
      exact ⟨ret_bool HR.out.symm, hH7.2.2⟩
     | true =>
      refine Rg.idle (by kernel_rfl) (fun _ _ _ _ _ h => h) [32, 33] _ _ ⟨#[.agg ca, .agg cb, pt w.heap.size 0, pt (w.heap.size + 1) 0, Bf, .agg ca, Sl (some ⟨ga, 0, none⟩) 7 7, .agg cb, Sl (some ⟨gb, 0, none⟩) 7 7, Bt, Bt, .agg ca, Sl (some ⟨ha', 0, none⟩) 7 7, .agg cb, Sl (some ⟨hb', 0, none⟩) 7 7, Bt, Bt, Bt, pt w.heap.size 16, .bool a.del, pt (w.heap.size + 1) 16, .bool b.del, Bt, Bt, Bt, pt w.heap.size 17, .bool a.has, pt (w.heap.size + 1) 17, .bool b.has, Bt, Bt, Bt, pt w.heap.size 8, Ag #[x0, x1, x2, x3, x4], pt (w.heap.size + 1) 8, Ag #[y0, y1, y2, y3, y4], Bt, Bt, Bt, ud, ud, ud, ud, ud, ud, ud, ud, ud, ud, ud, ud, ud], []⟩ 14 (by kernel_rfl) (by kernel_rfl) hH7 ?_
      refine Rg.take 34 (.pointer (some ⟨w.heap.size, 13, none⟩)) rfl (by kernel_rfl) (by kernel_rfl) (by kernel_rfl) (fun _ _ _ h => h) (by kernel_rfl) (fun _ _ => by kernel_rfl) hH7 ?_
      refine Rg.take 35 (.slice Wa a.wants.length wca) rfl (by kernel_rfl) (by kernel_rfl) (by kernel_rfl) (fun _ _ _ h => h) (by kernel_rfl) (fun w' h => run_cell rfl rfl (by kernel_rfl) ((h.1.1.cell 13).trans eWa)) hH7 ?_
      refine Rg.take 36 (.pointer (some ⟨w.heap.size + 1, 13, none⟩)) rfl (by kernel_rfl) (by kernel_rfl) (by kernel_rfl) (fun _ _ _ h => h) (by kernel_rfl) (fun _ _ => by kernel_rfl) hH7 ?_
      refine Rg.take 37 (.slice Wb b.wants.length wcb) rfl (by kernel_rfl) (by kernel_rfl) (by kernel_rfl) (fun _ _ _ h => h) (by kernel_rfl) (fun w' h => run_cell rfl rfl (by kernel_rfl) ((h.2.1.1.cell 13).trans eWb)) hH7 ?_
      refine Rg.call 38 rfl (by kernel_rfl) (by kernel_rfl) 38 #[.slice Wa a.wants.length wca, .slice Wb b.wants.length wcb] (by kernel_rfl) (HW _ hH7.2.2) ?_
      rintro _ w9 ⟨rfl, hb9⟩
      have hH8 := hH7.past hb9
      refine ⟨_, rfl, hH8, ?_⟩
      cases e6 with
      | false =>
       refine Rg.idle (by kernel_rfl) (fun _ _ _ _ _ h => h) [39, 40, 41, 42, 43, 44, 45, 46, 47] _ _ ⟨#[.agg ca, .agg cb, pt w.heap.size 0, pt (w.heap.size + 1) 0, Bf, .agg ca, Sl (some ⟨ga, 0, none⟩) 7 7, .agg cb, Sl (some ⟨gb, 0, none⟩) 7 7, Bt, Bt, .agg ca, Sl (some ⟨ha', 0, none⟩) 7 7, .agg cb, Sl (some ⟨hb', 0, none⟩) 7 7, Bt, Bt, Bt, pt w.heap.size 16, .bool a.del, pt (w.heap.size + 1) 16, .bool b.del, Bt, Bt, Bt, pt w.heap.size 17, .bool a.has, pt (w.heap.size + 1) 17, .bool b.has, Bt, Bt, Bt, pt w.heap.size 8, Ag #[x0, x1, x2, x3, x4], pt (w.heap.size + 1) 8, Ag #[y0, y1, y2, y3, y4], Bt, Bt, Bt, pt w.heap.size 13, Sl Wa a.wants.length wca, pt (w.heap.size + 1) 13, Sl Wb b.wants.length wcb, Bf, Bf, Bf, ud, ud, ud, ud, ud, Bf], []⟩ 0 (by kernel_rfl) (by kernel_rfl) hH8 ?_
       refine Rg.frame { tmps := #[.agg ca, .agg cb, .pointer (some ⟨w.heap.size, 0, none⟩), .pointer (some ⟨w.heap.size + 1, 0, none⟩), .bool false, .agg ca, .slice (some ⟨ga, 0, none⟩) 7 7, .agg cb, .slice (some ⟨gb, 0, none⟩) 7 7, .bool true, .bool true, .agg ca, .slice (some ⟨ha', 0, none⟩) 7 7, .agg cb, .slice (some ⟨hb', 0, none⟩) 7 7, .bool true, .bool true, .bool true, .pointer (some ⟨w.heap.size, 16, none⟩), .bool a.del, .pointer (some ⟨w.heap.size + 1, 16, none⟩), .bool b.del, .bool true, .bool true, .bool true, .pointer (some ⟨w.heap.size, 17, none⟩), .bool a.has, .pointer (some ⟨w.heap.size + 1, 17, none⟩), .bool b.has, .bool true, .bool true, .bool true, .pointer (some ⟨w.heap.size, 8, none⟩), .agg #[x0, x1, x2, x3, x4], .pointer (some ⟨w.heap.size + 1, 8, none⟩), .agg #[y0, y1, y2, y3, y4], .bool true, .bool true, .bool true, .pointer (some ⟨w.heap.size, 13, none⟩), .slice Wa a.wants.length wca, .pointer (some ⟨w.heap.size + 1, 13, none⟩), .slice Wb b.wants.length wcb, .bool false, .bool false, .bool false, undef, undef, undef, undef, undef, .bool false], defers := [] } (by kernel_rfl) ?_
       refine wpAnyH_done (by kernel_rfl) ?_ _
       refine NoPanic.normal ?_
       go_wp2_with fail
       go_ret
       exact ⟨ret_bool HR.out.symm, hH8.2.2⟩
      | true =>
       refine Rg.idle (by kernel_rfl) (fun _ _ _ _ _ h => h) [39, 40] _ _ ⟨#[.agg ca, .agg cb, pt w.heap.size 0, pt (w.heap.size + 1) 0, Bf, .agg ca, Sl (some ⟨ga, 0, none⟩) 7 7, .agg cb, Sl (some ⟨gb, 0, none⟩) 7 7, Bt, Bt, .agg ca, Sl (some ⟨ha', 0, none⟩) 7 7, .agg cb, Sl (some ⟨hb', 0, none⟩) 7 7, Bt, Bt, Bt, pt w.heap.size 16, .bool a.del, pt (w.heap.size + 1) 16, .bool b.del, Bt, Bt, Bt, pt w.heap.size 17, .bool a.has, pt (w.heap.size + 1) 17, .bool b.has, Bt, Bt, Bt, pt w.heap.size 8, Ag #[x0, x1, x2, x3, x4], pt (w.heap.size + 1) 8, Ag #[y0, y1, y2, y3, y4], Bt, Bt, Bt, pt w.heap.size 13, Sl Wa a.wants.length wca, pt (w.heap.size + 1) 13, Sl Wb b.wants.length wcb, Bt, Bt, Bt, ud, ud, ud, ud, ud, ud], []⟩ 7 (by kernel_rfl) (by kernel_rfl) hH8 ?_
       refine Rg.take 41 (.pointer (some ⟨w.heap.size, 14, none⟩)) rfl (by kernel_rfl) (by kernel_rfl) (by kernel_rfl) (fun _ _ _ h => h) (by kernel_rfl) (fun _ _ => by kernel_rfl) hH8 ?_
       refine Rg.take 42 (.slice Ma a.mods.length mca) rfl (by kernel_rfl) (by kernel_rfl) (by kernel_rfl) (fun _ _ _ h => h) (by kernel_rfl) (fun w' h => run_cell rfl rfl (by kernel_rfl) ((h.1.1.cell 14).trans eMa)) hH8 ?_
       refine Rg.take 43 (.pointer (some ⟨w.heap.size + 1, 14, none⟩)) rfl (by kernel_rfl) (by kernel_rfl) (by kernel_rfl) (fun _ _ _ h => h) (by kernel_rfl) (fun _ _ => by kernel_rfl) hH8 ?_
       refine Rg.take 44 (.slice Mb b.mods.length mcb) rfl (by kernel_rfl) (by kernel_rfl) (by kernel_rfl) (fun _ _ _ h => h) (by kernel_rfl) (fun w' h => run_cell rfl rfl (by kernel_rfl) ((h.2.1.1.cell 14).trans eMb)) hH8 ?_
       refine Rg.call 45 rfl (by kernel_rfl) (by kernel_rfl) 40 #[.slice Ma a.mods.length mca, .slice Mb b.mods.length mcb, .func (.func 41) #[] #[]] (by kernel_rfl) (HM _ hH8.2.2) ?_
       rintro _ w10 ⟨rfl, hb10⟩
       have hH9 := hH8.past hb10
       refine ⟨_, rfl, hH9, ?_⟩
       refine Rg.idle (by kernel_rfl) (fun _ _ _ _ _ h => h) [46, 47] _ _ ⟨#[.agg ca, .agg cb, pt w.heap.size 0, pt (w.heap.size + 1) 0, .bool e7, .agg ca, Sl (some ⟨ga, 0, none⟩) 7 7, .agg cb, Sl (some ⟨gb, 0, none⟩) 7 7, Bt, Bt, .agg ca, Sl (some ⟨ha', 0, none⟩) 7 7, .agg cb, Sl (some ⟨hb', 0, none⟩) 7 7, Bt, Bt, Bt, pt w.heap.size 16, .bool a.del, pt (w.heap.size + 1) 16, .bool b.del, Bt, Bt, Bt, pt w.heap.size 17, .bool a.has, pt (w.heap.size + 1) 17, .bool b.has, Bt, Bt, Bt, pt w.heap.size 8, Ag #[x0, x1, x2, x3, x4], pt (w.heap.size + 1) 8, Ag #[y0, y1, y2, y3, y4], Bt, Bt, Bt, pt w.heap.size 13, Sl Wa a.wants.length wca, pt (w.heap.size + 1) 13, Sl Wb b.wants.length wcb, Bt, Bt, Bt, pt w.heap.size 14, Sl Ma a.mods.length mca, pt (w.heap.size + 1) 14, Sl Mb b.mods.length mcb, .bool e7, .bool e7], []⟩ 0 (by kernel_rfl) (by kernel_rfl) hH9 ?_
       refine Rg.frame { tmps := #[.agg ca, .agg cb, .pointer (some ⟨w.heap.size, 0, none⟩), .pointer (some ⟨w.heap.size + 1, 0, none⟩), .bool e7, .agg ca, .slice (some ⟨ga, 0, none⟩) 7 7, .agg cb, .slice (some ⟨gb, 0, none⟩) 7 7, .bool true, .bool true, .agg ca, .slice (some ⟨ha', 0, none⟩) 7 7, .agg cb, .slice (some ⟨hb', 0, none⟩) 7 7, .bool true, .bool true, .bool true, .pointer (some ⟨w.heap.size, 16, none⟩), .bool a.del, .pointer (some ⟨w.heap.size + 1, 16, none⟩), .bool b.del, .bool true, .bool true, .bool true, .pointer (some ⟨w.heap.size, 17, none⟩), .bool a.has, .pointer (some ⟨w.heap.size + 1, 17, none⟩), .bool b.has, .bool true, .bool true, .bool true, .pointer (some ⟨w.heap.size, 8, none⟩), .agg #[x0, x1, x2, x3, x4], .pointer (some ⟨w.heap.size + 1, 8, none⟩), .agg #[y0, y1, y2, y3, y4], .bool true, .bool true, .bool true, .pointer (some ⟨w.heap.size, 13, none⟩), .slice Wa a.wants.length wca, .pointer (some ⟨w.heap.size + 1, 13, none⟩), .slice Wb b.wants.length wcb, .bool true, .bool true, .bool true, .pointer (some ⟨w.heap.size, 14, none⟩), .slice Ma a.mods.length mca, .pointer (some ⟨w.heap.size + 1, 14, none⟩), .slice Mb b.mods.length mcb, .bool e7, .bool e7], defers := [] } (by kernel_rfl) ?_
       refine wpAnyH_done (by kernel_rfl) ?_ _
       refine NoPanic.normal ?_
       go_wp2_with fail
       go_ret
       exact ⟨ret_bool HR.out.symm, hH9.2.2⟩
end Go.Proofs.YtconghaebebncaaGreatDoor.Ms
