import Derived.Test.YtconghaebebncaaGreatDoorZT42
import Derived.Test.YtconghaebebncaaGreatDoorZT17
import Derived.Test.YtconghaebebncaaGreatDoorZT41
import Derived.Test.YtconghaebebncaaGreatDoorZT37
import Derived.Test.YtconghaebebncaaGreatDoorZT40
import Derived.Deep.QuietTactic
import Derived.BigQuiet
namespace Go.Proofs.YtconghaebebncaaGreatDoor.Ms
open Go.RowKit
set_option linter.unusedVariables false
set_option maxRecDepth 100000
set_option maxHeartbeats 4000000 in
theorem ris_low (m : Mg) (cs : Array Value) (w : World) (h : MAt w (· < w.heap.size) m cs) (hc : m.op < 1 ∨ (1 ≤ m.op ∧ 10 < m.op) ∨ (1 ≤ m.op ∧ m.op ≤ 10 ∧ m.id < 0) ∨ (1 ≤ m.op ∧ m.op ≤ 10 ∧ 0 ≤ m.id ∧ 2147483647 < m.id)) :
  Calls Tryz.prog 14 #[.agg cs] w (Flag w (isM m)) := by
 have hr : isM m = false := by
  rw [← isR_isM]
  unfold isR within
  rcases (show ¬ (1 ≤ m.op ∧ m.op ≤ 10) ∨ ¬ (0 ≤ m.id ∧ m.id ≤ 2147483647) by omega) with h | h
  ·rw [decide_eq_false h]; rfl
  ·rw [decide_eq_false h, Bool.false_and, Bool.and_false]
 rw [hr]
 have k0 := h.g0
 have k1 := h.g1
 have hb := Lib.hid ((Below.refl w.heap.size w).alloc (Nat.le_refl _) (.cells cs 28))
 clear h hr
 generalize m.op = a at k1 hc
 generalize m.id = b at k0 hc
 rcases hc with h1 | ⟨h1, h2⟩ | ⟨h1, h2, h3⟩ | ⟨h1, h2, h3, h4⟩
 ·have d1 : decide (a < 1) = true := decide_eq_true h1
  go_enter Tryz.func14, Tryz.ntmps14
  go_wp2_with fail
  go_quiet (fail)
  go_wp2_with fail
  go_ret
  exact ⟨rfl, hb.out.trans (Fi.drewN_below _ _ _)⟩
 ·have d1 : decide (a < 1) = false := decide_eq_false (by omega)
  have d2 : decide (10 < a) = true := decide_eq_true h2
  go_enter Tryz.func14, Tryz.ntmps14
  go_wp2_with fail
  go_quiet (fail)
  go_wp2_with fail
  go_ret
  exact ⟨rfl, hb.out.trans (Fi.drewN_below _ _ _)⟩
 ·have d1 : decide (a < 1) = false := decide_eq_false (by omega)
  have d2 : decide (10 < a) = false := decide_eq_false (by omega)
  have d3 : decide (b < 0) = true := decide_eq_true h3
  go_enter Tryz.func14, Tryz.ntmps14
  go_wp2_with fail
  go_quiet (fail)
  go_wp2_with fail
  go_ret
  exact ⟨rfl, hb.out.trans (Fi.drewN_below _ _ _)⟩
 ·have d1 : decide (a < 1) = false := decide_eq_false (by omega)
  have d2 : decide (10 < a) = false := decide_eq_false (by omega)
  have d3 : decide (b < 0) = false := decide_eq_false (by omega)
  have d4 : decide (2147483647 < b) = true := decide_eq_true h4
  go_enter Tryz.func14, Tryz.ntmps14
  go_wp2_with fail
  go_quiet (fail)
  go_wp2_with fail
  go_ret
  exact ⟨rfl, hb.out.trans (Fi.drewN_below _ _ _)⟩
theorem within_no {n a b : Int} (h : ¬ (a ≤ n ∧ n ≤ b)) : within n a b = false := decide_eq_false h
theorem within_yes {n a b : Int} (h : a ≤ n ∧ n ≤ b) : within n a b = true := decide_eq_true h
theorem strs_seven (w : World) (a b c d e f g : ByteArray) : Fi.StrsAt (w.alloc (.cells #[.string a, .string b, .string c, .string d, .string e, .string f, .string g] 9)) (· < (w.alloc (.cells #[.string a, .string b, .string c, .string d, .string e, .string f, .string g] 9)).heap.size) (some ⟨w.heap.size, 0, none⟩) [a, b, c, d, e, f, g] := by
 have B := Blk.new w 9 #[.string a, .string b, .string c, .string d, .string e, .string f, .string g]
 refine fun _ => ⟨_, rfl, by simp, fun i hi => ?_⟩
 rw [Addr.add_lit, Nat.zero_add, B.cell]
 match i, hi with
 | 0, _ => rfl
 | 1, _ => rfl
 | 2, _ => rfl
 | 3, _ => rfl
 | 4, _ => rfl
 | 5, _ => rfl
 | 6, _ => rfl
def OneM (w0 : World) (m : Mg) (cs : Array Value) (w : World) : Prop := Box w w0.heap.size m cs ∧ Below w0.heap.size w0 w
theorem OneM.past {w0 w w' : World} {m : Mg} {cs : Array Value} (h : OneM w0 m cs w) (hb : Below w.heap.size w w') : OneM w0 m cs w' := ⟨h.1.past hb, h.2.trans (hb.mono h.2.size)⟩
set_option maxHeartbeats 16000000 in
theorem ris_main (m : Mg) (cs : Array Value) (w : World) (h : MAt w (· < w.heap.size) m cs) (h1 : 1 ≤ m.op) (h2 : m.op ≤ 10) (h3 : 0 ≤ m.id) (h4 : m.id ≤ 2147483647) :
  Calls Tryz.prog 14 #[.agg cs] w (Flag w (isM m)) := by
 have hr : isM m = (eqM m (shapeR m) && (isList (textsM m) && (isList m.wants && (modsR m.mods (decide (m.op = 4)) && lastR m)))) := by
  rw [← isR_isM]
  unfold isR within
  rw [decide_eq_true (by omega), decide_eq_true (by omega), Bool.true_and, Bool.true_and]
 have HR := Lib.hid hr
 have O0 : OneM w m cs (w.alloc (.cells cs 28)) := ⟨Box.new h, (Below.refl w.heap.size w).alloc (Nat.le_refl _) _⟩
 have O1 := O0.past (Below.refl _ _).drew
 have d1 : decide (m.op < 1) = false := decide_eq_false (by omega)
 have d2 : decide (10 < m.op) = false := decide_eq_false (by omega)
 have d3 : decide (m.id < 0) = false := decide_eq_false (by omega)
 have d4 : decide (2147483647 < m.id) = false := decide_eq_false (by omega)
 have HC := Lib.hid (fun c2 w1 ha hb => rSame_any m (shapeR m) cs c2 w1 ha hb)
 generalize eqM m (shapeR m) = b1 at HR HC
 clear hr O0
 go_enter Tryz.func14, Tryz.ntmps14
 go_wp2_with fail
 refine wp_region_noPanic ?_
 refine wp_region_held_drew (S := OneM w m cs) (by kernel_rfl) O1 (fun hH0 => ?_)
 refine Rg.take 0 (.pointer (some ⟨w.heap.size, 1, none⟩)) rfl (by kernel_rfl) (by kernel_rfl) (by kernel_rfl) (fun _ _ _ h => h) (by kernel_rfl) (fun _ _ => by kernel_rfl) hH0 ?_
 refine Rg.take 1 (.int .i64 m.op) rfl (by kernel_rfl) (by kernel_rfl) (by kernel_rfl) (fun _ _ _ h => h) (by kernel_rfl) (fun w' h' => run_cell rfl rfl (by kernel_rfl) ((h'.1.1.cell 1).trans h.g1)) hH0 ?_
 refine Rg.take 2 (.bool false) rfl (by kernel_rfl) (by kernel_rfl) (by kernel_rfl) (fun _ _ _ h => h) (by kernel_rfl) (fun _ _ => by rw [← d1]; kernel_rfl) hH0 ?_
 refine Rg.idle (by kernel_rfl) (fun _ _ _ _ _ h => h) [3] _ _ ⟨#[.agg cs, pt w.heap.size 0, Bf, pt w.heap.size 1, Iq m.op, Bf, Bf, ud, ud, ud, ud, ud, ud, ud, ud, ud, ud, ud, ud, ud, ud, ud, ud, ud, ud, ud, ud, ud, ud, ud, ud, ud, ud, ud, ud, ud, ud, ud, ud, ud, ud, ud, ud, ud, ud, ud, ud, ud, ud, ud, ud, ud, ud, ud, ud, ud, ud, ud, ud, ud, ud, ud, ud, ud, ud, ud, ud, ud, ud, ud, ud, ud, ud, ud, ud, ud, ud, ud, ud, ud, ud, ud, ud, ud, ud, ud, ud, ud, ud, ud, ud, ud, ud, ud, ud, ud, ud, ud, ud, ud, ud, ud, ud, ud, ud, ud, ud, ud, ud, ud, ud, ud, ud, ud, ud, ud, ud, ud, ud, ud, ud, ud], []⟩ 21 (by kernel_rfl) (by kernel_rfl) hH0 ?_
 refine Rg.take 4 (.pointer (some ⟨w.heap.size, 1, none⟩)) rfl (by kernel_rfl) (by kernel_rfl) (by kernel_rfl) (fun _ _ _ h => h) (by kernel_rfl) (fun _ _ => by kernel_rfl) hH0 ?_
 refine Rg.take 5 (.int .i64 m.op) rfl (by kernel_rfl) (by kernel_rfl) (by kernel_rfl) (fun _ _ _ h => h) (by kernel_rfl) (fun w' h' => run_cell rfl rfl (by kernel_rfl) ((h'.1.1.cell 1).trans h.g1)) hH0 ?_
 refine Rg.take 6 (.bool false) rfl (by kernel_rfl) (by kernel_rfl) (by kernel_rfl) (fun _ _ _ h => h) (by kernel_rfl) (fun _ _ => by rw [← d2]; kernel_rfl) hH0 ?_
 refine Rg.frame ⟨#[.agg cs, pt w.heap.size 0, Bf, pt w.heap.size 1, Iq m.op, Bf, Bf, pt w.heap.size 1, Iq m.op, Bf, ud, ud, ud, ud, ud, ud, ud, ud, ud, ud, ud, ud, ud, ud, ud, ud, ud, ud, ud, ud, ud, ud, ud, ud, ud, ud, ud, ud, ud, ud, ud, ud, ud, ud, ud, ud, ud, ud, ud, ud, ud, ud, ud, ud, ud, ud, ud, ud, ud, ud, ud, ud, ud, ud, ud, ud, ud, ud, ud, ud, ud, ud, ud, ud, ud, ud, ud, ud, ud, ud, ud, ud, ud, ud, ud, ud, ud, ud, ud, ud, ud, ud, ud, ud, ud, ud, ud, ud, ud, ud, ud, ud, ud, ud, ud, ud, ud, ud, ud, ud, ud, ud, ud, ud, ud, ud, ud, ud, ud, ud, ud, ud], []⟩ (by kernel_rfl) ?_
 refine Rg.idle (by kernel_rfl) (fun _ _ _ _ _ h => h) [7, 8] _ _ ⟨#[.agg cs, pt w.heap.size 0, Bf, pt w.heap.size 1, Iq m.op, Bf, Bf, pt w.heap.size 1, Iq m.op, Bf, Bf, Bf, ud, ud, ud, ud, ud, ud, ud, ud, ud, ud, ud, ud, ud, ud, ud, ud, ud, ud, ud, ud, ud, ud, ud, ud, ud, ud, ud, ud, ud, ud, ud, ud, ud, ud, ud, ud, ud, ud, ud, ud, ud, ud, ud, ud, ud, ud, ud, ud, ud, ud, ud, ud, ud, ud, ud, ud, ud, ud, ud, ud, ud, ud, ud, ud, ud, ud, ud, ud, ud, ud, ud, ud, ud, ud, ud, ud, ud, ud, ud, ud, ud, ud, ud, ud, ud, ud, ud, ud, ud, ud, ud, ud, ud, ud, ud, ud, ud, ud, ud, ud, ud, ud, ud, ud, ud, ud, ud, ud, ud, ud], []⟩ 16 (by kernel_rfl) (by kernel_rfl) hH0 ?_
 refine Rg.take 9 (.pointer (some ⟨w.heap.size, 0, none⟩)) rfl (by kernel_rfl) (by kernel_rfl) (by kernel_rfl) (fun _ _ _ h => h) (by kernel_rfl) (fun _ _ => by kernel_rfl) hH0 ?_
 refine Rg.take 10 (.int .i64 m.id) rfl (by kernel_rfl) (by kernel_rfl) (by kernel_rfl) (fun _ _ _ h => h) (by kernel_rfl) (fun w' h' => run_cell rfl rfl (by kernel_rfl) ((h'.1.1.cell 0).trans h.g0)) hH0 ?_
 refine Rg.take 11 (.bool false) rfl (by kernel_rfl) (by kernel_rfl) (by kernel_rfl) (fun _ _ _ h => h) (by kernel_rfl) (fun _ _ => by rw [← d3]; kernel_rfl) hH0 ?_
 refine Rg.idle (by kernel_rfl) (fun _ _ _ _ _ h => h) [12, 13] _ _ ⟨#[.agg cs, pt w.heap.size 0, Bf, pt w.heap.size 1, Iq m.op, Bf, Bf, pt w.heap.size 1, Iq m.op, Bf, Bf, Bf, pt w.heap.size 0, Iq m.id, Bf, Bf, Bf, ud, ud, ud, ud, ud, ud, ud, ud, ud, ud, ud, ud, ud, ud, ud, ud, ud, ud, ud, ud, ud, ud, ud, ud, ud, ud, ud, ud, ud, ud, ud, ud, ud, ud, ud, ud, ud, ud, ud, ud, ud, ud, ud, ud, ud, ud, ud, ud, ud, ud, ud, ud, ud, ud, ud, ud, ud, ud, ud, ud, ud, ud, ud, ud, ud, ud, ud, ud, ud, ud, ud, ud, ud, ud, ud, ud, ud, ud, ud, ud, ud, ud, ud, ud, ud, ud, ud, ud, ud, ud, ud, ud, ud, ud, ud, ud, ud, ud, ud, ud, ud, ud, ud, ud, ud], []⟩ 11 (by kernel_rfl) (by kernel_rfl) hH0 ?_
 refine Rg.take 14 (.pointer (some ⟨w.heap.size, 0, none⟩)) rfl (by kernel_rfl) (by kernel_rfl) (by kernel_rfl) (fun _ _ _ h => h) (by kernel_rfl) (fun _ _ => by kernel_rfl) hH0 ?_
 refine Rg.take 15 (.int .i64 m.id) rfl (by kernel_rfl) (by kernel_rfl) (by kernel_rfl) (fun _ _ _ h => h) (by kernel_rfl) (fun w' h' => run_cell rfl rfl (by kernel_rfl) ((h'.1.1.cell 0).trans h.g0)) hH0 ?_
 refine Rg.take 16 (.bool false) rfl (by kernel_rfl) (by kernel_rfl) (by kernel_rfl) (fun _ _ _ h => h) (by kernel_rfl) (fun _ _ => by rw [← d4]; kernel_rfl) hH0 ?_
 refine Rg.frame ⟨#[.agg cs, pt w.heap.size 0, Bf, pt w.heap.size 1, Iq m.op, Bf, Bf, pt w.heap.size 1, Iq m.op, Bf, Bf, Bf, pt w.heap.size 0, Iq m.id, Bf, Bf, Bf, pt w.heap.size 0, Iq m.id, Bf, ud, ud, ud, ud, ud, ud, ud, ud, ud, ud, ud, ud, ud, ud, ud, ud, ud, ud, ud, ud, ud, ud, ud, ud, ud, ud, ud, ud, ud, ud, ud, ud, ud, ud, ud, ud, ud, ud, ud, ud, ud, ud, ud, ud, ud, ud, ud, ud, ud, ud, ud, ud, ud, ud, ud, ud, ud, ud, ud, ud, ud, ud, ud, ud, ud, ud, ud, ud, ud, ud, ud, ud, ud, ud, ud, ud, ud, ud, ud, ud, ud, ud, ud, ud, ud, ud, ud, ud, ud, ud, ud, ud, ud, ud, ud, ud, ud, ud, ud, ud, ud, ud], []⟩ (by kernel_rfl) ?_
 refine Rg.idle (by kernel_rfl) (fun _ _ _ _ _ h => h) [17, 18] _ _ ⟨#[.agg cs, pt w.heap.size 0, Bf, pt w.heap.size 1, Iq m.op, Bf, Bf, pt w.heap.size 1, Iq m.op, Bf, Bf, Bf, pt w.heap.size 0, Iq m.id, Bf, Bf, Bf, pt w.heap.size 0, Iq m.id, Bf, Bf, Bf, ud, ud, ud, ud, ud, ud, ud, ud, ud, ud, ud, ud, ud, ud, ud, ud, ud, ud, ud, ud, ud, ud, ud, ud, ud, ud, ud, ud, ud, ud, ud, ud, ud, ud, ud, ud, ud, ud, ud, ud, ud, ud, ud, ud, ud, ud, ud, ud, ud, ud, ud, ud, ud, ud, ud, ud, ud, ud, ud, ud, ud, ud, ud, ud, ud, ud, ud, ud, ud, ud, ud, ud, ud, ud, ud, ud, ud, ud, ud, ud, ud, ud, ud, ud, ud, ud, ud, ud, ud, ud, ud, ud, ud, ud, ud, ud, ud, ud, ud, ud], []⟩ 6 (by kernel_rfl) (by kernel_rfl) hH0 ?_
 refine Rg.take 19 (.agg cs) rfl (by kernel_rfl) (by kernel_rfl) (by kernel_rfl) (fun _ _ _ h => h) (by kernel_rfl) (fun w' h' => run_loadM rfl rfl h'.1) hH0 ?_
 refine Rg.take 20 (.agg cs) rfl (by kernel_rfl) (by kernel_rfl) (by kernel_rfl) (fun _ _ _ h => h) (by kernel_rfl) (fun w' h' => run_loadM rfl rfl h'.1) hH0 ?_
 refine Rg.call 21 rfl (by kernel_rfl) (by kernel_rfl) 32 #[.agg cs] (by kernel_rfl) (rshape_any m cs _ hH0.1.2) ?_
 rintro _ w2 ⟨cs2, rfl, hb1, hM2⟩
 have hH1 := hH0.past hb1
 refine ⟨_, rfl, hH1, ?_⟩
 refine Rg.call 22 rfl (by kernel_rfl) (by kernel_rfl) 16 #[.agg cs, .agg cs2] (by kernel_rfl) (HC.out cs2 _ hH1.1.2 (hM2.past hb1)) ?_
 rintro _ w3 ⟨rfl, hb3⟩
 have hH2 := hH1.past hb3
 refine ⟨_, rfl, hH2, ?_⟩
 refine Rg.take 23 (.bool (!b1)) rfl (by kernel_rfl) (by kernel_rfl) (by kernel_rfl) (fun _ _ _ h => h) (by kernel_rfl) (fun _ _ => by kernel_rfl) hH2 ?_
 refine Rg.idle (by kernel_rfl) (fun _ _ _ _ _ h => h) [24] _ _ ⟨#[.agg cs, pt w.heap.size 0, Bf, pt w.heap.size 1, Iq m.op, Bf, Bf, pt w.heap.size 1, Iq m.op, Bf, Bf, Bf, pt w.heap.size 0, Iq m.id, Bf, Bf, Bf, pt w.heap.size 0, Iq m.id, Bf, Bf, Bf, .agg cs, .agg cs, .agg cs2, .bool b1, .bool (!b1), .bool (!b1), ud, ud, ud, ud, ud, ud, ud, ud, ud, ud, ud, ud, ud, ud, ud, ud, ud, ud, ud, ud, ud, ud, ud, ud, ud, ud, ud, ud, ud, ud, ud, ud, ud, ud, ud, ud, ud, ud, ud, ud, ud, ud, ud, ud, ud, ud, ud, ud, ud, ud, ud, ud, ud, ud, ud, ud, ud, ud, ud, ud, ud, ud, ud, ud, ud, ud, ud, ud, ud, ud, ud, ud, ud, ud, ud, ud, ud, ud, ud, ud, ud, ud, ud, ud, ud, ud, ud, ud, ud, ud, ud, ud, ud, ud], []⟩ 0 (by kernel_rfl) (by kernel_rfl) hH2 ?_
 refine Rg.frame { tmps := #[.agg cs, .pointer (some ⟨w.heap.size, 0, none⟩), .bool false, .pointer (some ⟨w.heap.size, 1, none⟩), .int .i64 m.op, .bool false, .bool false, .pointer (some ⟨w.heap.size, 1, none⟩), .int .i64 m.op, .bool false, .bool false, .bool false, .pointer (some ⟨w.heap.size, 0, none⟩), .int .i64 m.id, .bool false, .bool false, .bool false, .pointer (some ⟨w.heap.size, 0, none⟩), .int .i64 m.id, .bool false, .bool false, .bool false, .agg cs, .agg cs, .agg cs2, .bool b1, .bool (!b1), .bool (!b1), undef, undef, undef, undef, undef, undef, undef, undef, undef, undef, undef, undef, undef, undef, undef, undef, undef, undef, undef, undef, undef, undef, undef, undef, undef, undef, undef, undef, undef, undef, undef, undef, undef, undef, undef, undef, undef, undef, undef, undef, undef, undef, undef, undef, undef, undef, undef, undef, undef, undef, undef, undef, undef, undef, undef, undef, undef, undef, undef, undef, undef, undef, undef, undef, undef, undef, undef, undef, undef, undef, undef, undef, undef, undef, undef, undef, undef, undef, undef, undef, undef, undef, undef, undef, undef, undef, undef, undef, undef, undef, undef, undef, undef, undef], defers := [] } (by kernel_rfl) ?_
 refine wpAnyH_done (by kernel_rfl) ?_ _
 refine NoPanic.normal ?_
 have hO := Lib.hid hH2
 have hR2 := HR
 clear HC HR d1 d2 d3 d4 O1 hH0 hH1 hH2 hb1 hb3 hM2
 cases b1 with
 | false =>
  go_wp2_with fail
  go_ret
  exact ⟨by rw [hR2.out]; rfl, hO.out.2⟩
 | true =>
 have HX := hO.out.1
 have c3 := (HX.1.cell 3).trans h.g3
 have c5 := (HX.1.cell 5).trans h.g5
 have c15 := (HX.1.cell 15).trans h.g15
 have c18 := (HX.1.cell 18).trans h.g18
 have c19 := (HX.1.cell 19).trans h.g19
 have c20 := (HX.1.cell 20).trans h.g20
 have c22 := (HX.1.cell 22).trans h.g22
 have hT := Lib.hid (rtexts_any (some ⟨w3.heap.size, 0, none⟩) 7 (textsM m) _ (by simp [textsM, maxLen]) (strs_seven w3 m.dn m.pass m.rdn m.sup m.attr m.value m.matched))
 have hO2 := Lib.hid (hO.out.past ((Below.refl _ _).alloc (Nat.le_refl _) (.cells #[.string m.dn, .string m.pass, .string m.rdn, .string m.sup, .string m.attr, .string m.value, .string m.matched] 9)))
 have HX2 := hO2.out.1
 obtain ⟨W, wc, e13, hW, lW, -, -⟩ := HX2.2.gW
 obtain ⟨MM1, mc, ds, e14, hMo, lM, -⟩ := HX2.2.gM
 have c13 := (HX2.1.cell 13).trans e13
 have c14 := (HX2.1.cell 14).trans e14
 have c1 := (HX2.1.cell 1).trans h.g1
 have c2 := (HX2.1.cell 2).trans h.g2
 have c4 := (HX2.1.cell 4).trans h.g4
 have c6 := (HX2.1.cell 6).trans h.g6
 have c7 := (HX2.1.cell 7).trans h.g7
 have c21 := (HX2.1.cell 21).trans h.g21
 obtain ⟨x0, x1, x2, x3, x4, f0, f1, f2, f3, f4, hF⟩ := HX2.2.gF
 have c8 := (HX2.1.cell 8).trans f0
 have c9 := (HX2.1.cell 9).trans f1
 have c10 := (HX2.1.cell 10).trans f2
 have c11 := (HX2.1.cell 11).trans f3
 have c12 := (HX2.1.cell 12).trans f4
 have hWa := Lib.hid (rtexts_any W wc m.wants _ lW hW)
 have hMa := Lib.hid (rmods_any MM1 mc m.mods ds (decide (m.op = 4)) _ lM hMo)
 have hFi := Lib.hid (Fi.rIs_any m.fil _ _ _ _ _ _ hF)
 have q4 : (m.op == 4) = decide (m.op = 4) := rfl
 have hb2 := Lib.hid hO2.out.2
 have e5 := Lib.hid (show isM m = (isList (textsM m) && (isList m.wants && (modsR m.mods (decide (m.op = 4)) && lastR m))) by rw [hR2.out, Bool.true_and])
 generalize decide (m.op = 4) = d4 at hMa q4 e5
 generalize isList (textsM m) = b2 at hT e5
 generalize isList m.wants = b3 at hWa e5
 generalize modsR m.mods d4 = b4 at hMa e5
 generalize hb5 : Fi.isF m.fil = b5 at hFi
 have HL := Lib.hid lM
 clear hO hO2 HX HX2 e13 e14 f0 f1 f2 f3 f4 hF hW lW hMo lM hR2
 go_wp2_with fail
 refine hT.out.mono ?_
 rintro r wx ⟨rfl, rfl⟩
 clear c3 c5 c15 c18 c19 c20 c22 hT
 cases b2 with
 | false =>
  go_wp2_with fail
  go_ret
  exact ⟨by rw [e5.out]; rfl, hb2.out⟩
 | true =>
 go_wp2_with fail
 refine hWa.out.mono ?_
 rintro r wx ⟨rfl, rfl⟩
 cases b3 with
 | false =>
  go_wp2_with fail
  go_ret
  exact ⟨by rw [e5.out]; rfl, hb2.out⟩
 | true =>
 go_wp2_with fail
 refine hMa.out.mono ?_
 rintro r wx ⟨rfl, rfl⟩
 cases b4 with
 | false =>
  go_wp2_with fail
  go_ret
  exact ⟨by rw [e5.out]; rfl, hb2.out⟩
 | true =>
 have e6 := Lib.hid (show isM m = lastR m by rw [e5.out]; rfl)
 clear q4 e5 hWa hMa c13 c14 HL
 by_cases e1 : m.op = 1
 ·have hl := Lib.hid (show isM m = within m.ver 1 127 by rw [e6.out]; unfold lastR; rw [if_pos e1])
  rw [e1] at c1
  rcases (by omega : m.ver < 1 ∨ (1 ≤ m.ver ∧ 127 < m.ver) ∨ (1 ≤ m.ver ∧ m.ver ≤ 127)) with y1 | ⟨y1, y2⟩ | ⟨y1, y2⟩
  ·go_wp2_with fail
   go_ret
   exact ⟨by rw [hl.out, within_no (by omega)]; rfl, hb2.out⟩
  ·go_wp2_with fail
   go_ret
   exact ⟨by rw [hl.out, within_no (by omega)]; first | rfl | exact ret_bool (decide_eq_false (by omega)), hb2.out⟩
  ·go_wp2_with fail
   go_ret
   exact ⟨by rw [hl.out, within_yes (by omega)]; first | rfl | exact ret_bool (decide_eq_true (by omega)), hb2.out⟩
 by_cases e3 : m.op = 3
 ·have hl := Lib.hid (show isM m = (within m.scope 0 2 && (within m.size 0 2147483647 && b5)) by rw [e6.out, ← hb5]; unfold lastR; rw [if_neg e1, if_pos e3])
  rw [e3] at c1
  rcases (by omega : m.scope < 0 ∨ (0 ≤ m.scope ∧ 2 < m.scope) ∨ (0 ≤ m.scope ∧ m.scope ≤ 2)) with y1 | ⟨y1, y2⟩ | ⟨y1, y2⟩
  ·go_wp2_with fail
   go_ret
   exact ⟨by rw [hl.out, within_no (by omega)]; rfl, hb2.out⟩
  ·go_wp2_with fail
   go_ret
   exact ⟨by rw [hl.out, within_no (by omega)]; rfl, hb2.out⟩
  rcases (by omega : m.size < 0 ∨ (0 ≤ m.size ∧ 2147483647 < m.size) ∨ (0 ≤ m.size ∧ m.size ≤ 2147483647)) with y3 | ⟨y3, y4⟩ | ⟨y3, y4⟩
  ·go_wp2_with fail
   go_ret
   exact ⟨by rw [hl.out, within_yes (by omega), within_no (by omega)]; rfl, hb2.out⟩
  ·go_wp2_with fail
   go_ret
   exact ⟨by rw [hl.out, within_yes (by omega), within_no (by omega)]; rfl, hb2.out⟩
  ·go_wp2_with fail
   refine hFi.out.mono ?_
   rintro r wy ⟨rfl, hb5'⟩
   have hb6 := hb2.out.trans (hb5'.mono hb2.out.size)
   go_wp2_with fail
   go_ret
   exact ⟨by rw [hl.out, within_yes (by omega), within_yes (by omega)]; rfl, hb6⟩
 by_cases e9 : m.op = 9
 ·have hl := Lib.hid (show isM m = (within m.ref 1 8 && (decide (m.ref ≠ 2) && within m.code 0 127)) by rw [e6.out]; unfold lastR; rw [if_neg e1, if_neg e3, if_pos e9])
  rw [e9] at c1
  clear c8 c9 c10 c11 c12
  rcases (by omega : m.ref < 1 ∨ (1 ≤ m.ref ∧ 8 < m.ref) ∨ (1 ≤ m.ref ∧ m.ref ≤ 8)) with y1 | ⟨y1, y2⟩ | ⟨y1, y2⟩
  ·go_wp2_with fail
   go_ret
   exact ⟨by rw [hl.out, within_no (by omega)]; rfl, hb2.out⟩
  ·go_wp2_with fail
   go_ret
   exact ⟨by rw [hl.out, within_no (by omega)]; rfl, hb2.out⟩
  by_cases y5 : m.ref = 2
  ·have y6 : (m.ref != 2) = false := by rw [y5]; rfl
   go_wp2_with fail
   go_ret
   exact ⟨by rw [hl.out, within_yes (by omega), decide_eq_false (by omega)]; rfl, hb2.out⟩
  have y6 : (m.ref != 2) = true := bne_iff_ne.2 y5
  rcases (by omega : m.code < 0 ∨ (0 ≤ m.code ∧ 127 < m.code) ∨ (0 ≤ m.code ∧ m.code ≤ 127)) with y3 | ⟨y3, y4⟩ | ⟨y3, y4⟩
  ·go_wp2_with fail
   go_ret
   exact ⟨by rw [hl.out, within_yes (by omega), decide_eq_true y5, within_no (by omega)]; first | rfl | exact ret_bool (decide_eq_false (by omega)), hb2.out⟩
  ·go_wp2_with fail
   go_ret
   exact ⟨by rw [hl.out, within_yes (by omega), decide_eq_true y5, within_no (by omega)]; first | rfl | exact ret_bool (decide_eq_false (by omega)), hb2.out⟩
  ·go_wp2_with fail
   go_ret
   exact ⟨by rw [hl.out, within_yes (by omega), decide_eq_true y5, within_yes (by omega)]; first | rfl | exact ret_bool (decide_eq_true (by omega)), hb2.out⟩
 ·have hl := Lib.hid (show isM m = true by rw [e6.out]; unfold lastR; rw [if_neg e1, if_neg e3, if_neg e9])
  have q1 : (m.op == 1) = false := beq_eq_false_iff_ne.2 e1
  have q3 : (m.op == 3) = false := beq_eq_false_iff_ne.2 e3
  have q9 : (m.op == 9) = false := beq_eq_false_iff_ne.2 e9
  go_wp2_with fail
  go_ret
  exact ⟨by rw [hl.out]; rfl, hb2.out⟩
theorem rIs_any (m : Mg) (cs : Array Value) (w : World) (h : MAt w (· < w.heap.size) m cs) : Calls Tryz.prog 14 #[.agg cs] w (Flag w (isM m)) := by
 by_cases hc : m.op < 1 ∨ (1 ≤ m.op ∧ 10 < m.op) ∨ (1 ≤ m.op ∧ m.op ≤ 10 ∧ m.id < 0) ∨ (1 ≤ m.op ∧ m.op ≤ 10 ∧ 0 ≤ m.id ∧ 2147483647 < m.id)
 ·exact ris_low m cs w h hc
 ·exact ris_main m cs w h (by omega) (by omega) (by omega) (by omega)
end Go.Proofs.YtconghaebebncaaGreatDoor.Ms
