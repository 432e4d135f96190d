/- A message's element. -/
import Derived.Test.YtconghaebebncaaGreatDoorMsParts
namespace Go.Proofs.YtconghaebebncaaGreatDoor.Ms
open Go.RowKit
set_option linter.unusedVariables false
set_option maxRecDepth 100000
attribute [local go_sem ↓] loadAtMsg

set_option maxHeartbeats 4000000 in
theorem opEl_less (m : Mg) (cs : Array Value) (w : World) (hM : isM m = true) (hop : m.op = 2 ∨ m.op = 6) (hG : Glob w) (h : MAt w (· < w.heap.size) m cs) :
    Calls Tryz.prog 75 #[.agg cs] w (NewEl w (opEl m)) := by
  have hd := (isM_open hM).2.2.2.2.1
  have hel : opEl m = txt (opTag m.op m.ref) m.dn := by unfold opEl; rw [if_pos hop]
  rw [hel]
  have F0 := Fr.new w 28 cs (.int .u8 0) (.string ⟨#[]⟩) (.slice none 0 0)
  have BR := Blk.new (w.alloc (.cells cs 28)) 57 #[.int .u8 0, .string ⟨#[]⟩, .slice none 0 0]
  rw [show (w.alloc (.cells cs 28)).heap.size = w.heap.size + 1 by simp] at BR
  have b1 := (F0.1.cell 1).trans h.g1
  have b2 := (F0.1.cell 2).trans h.g2
  have HT := Lib.hid (opTag_any m.op m.ref _ (hG.past F0.2.2))
  have htg := opTag_le hM
  generalize opTag m.op m.ref = tg at HT htg ⊢
  clear hel
  go_enter Tryz.func75, Tryz.ntmps75
  go_wp2_with fail
  refine HT.out.mono ?_
  rintro e w1 ⟨rfl, hb1⟩
  have F1 := F0.past hb1
  have p1 := (F1.1.cell 1).trans h.g1
  have p3 := (F1.1.cell 3).trans h.g3
  clear b1 b2
  have HB := Lib.hid ((BR.past hb1))
  have HF := Lib.hid F1
  clear BR F0 F1 hb1 h hG hM
  rcases hop with e | e
  all_goals
    rw [e] at p1
    go_wp2_with fail
    refine (Be.Text_any tg m.dn w1 (by omega)).mono ?_
    rintro e w3 ⟨rfl, hb3⟩
    have B1 : Blk w3 (w.heap.size + 1) 57 #[.int .u8 0, .string ⟨#[]⟩, .slice none 0 0] := HB.out.past hb3
    have c0 : w3.cell? ⟨w.heap.size + 1, 0, none⟩ = some (.int .u8 0) := B1.cell 0
    have c1 : w3.cell? ⟨w.heap.size + 1, 1, none⟩ = some (.string ⟨#[]⟩) := B1.cell 1
    have c2 : w3.cell? ⟨w.heap.size + 1, 2, none⟩ = some (.slice none 0 0) := B1.cell 2
    have g0 := B1.frozen 0
    have g1 := B1.frozen 1
    have g2 := B1.frozen 2
    have hbe := (HF.out.past hb3).2.2
    clear p1 p3
    go_wp2_with fail
    exact bodyPost_ret (Be.res_el rfl _ _ (w.heap.size + 1) _ _ _ rfl (Be.Blk.set3 B1)) rfl (new_elG (P := fun _ => False) hbe (by omega) (lies_leaf htg (by omega)) (fun b hb => hb.elim))
set_option maxHeartbeats 4000000 in
theorem opEl_more (m : Mg) (cs : Array Value) (w : World) (hM : isM m = true) (h2 : m.op ≠ 2) (h6 : m.op ≠ 6) (hG : Glob w) (h : MAt w (· < w.heap.size) m cs) :
    Calls Tryz.prog 75 #[.agg cs] w (NewEl w (opEl m)) := by
  have hel : opEl m = lst (opTag m.op m.ref) (parts m) := by unfold opEl; rw [if_neg (by omega)]
  obtain ⟨hgp, hlp⟩ := parts_good hM
  have HC := Lib.hid (fun w1 hb => parts_any m cs w1 hM h2 h6 (hG.past hb) (h.past hb))
  rw [hel]
  have F0 := Fr.new w 28 cs (.int .u8 0) (.string ⟨#[]⟩) (.slice none 0 0)
  have BR := Blk.new (w.alloc (.cells cs 28)) 57 #[.int .u8 0, .string ⟨#[]⟩, .slice none 0 0]
  rw [show (w.alloc (.cells cs 28)).heap.size = w.heap.size + 1 by simp] at BR
  have b1 := (F0.1.cell 1).trans h.g1
  have b2 := (F0.1.cell 2).trans h.g2
  have HT := Lib.hid (opTag_any m.op m.ref _ (hG.past F0.2.2))
  have htg := opTag_le hM
  generalize opTag m.op m.ref = tg at HT htg ⊢
  have q2 : (m.op == 2) = false := by rw [beq_eq_false_iff_ne]; exact h2
  have q6 : (m.op == 6) = false := by rw [beq_eq_false_iff_ne]; exact h6
  generalize parts m = ks at HC hgp hlp ⊢
  have HGP := Lib.hid (fun k hk => (hgp k hk).1)
  clear hel hgp hM
  go_enter Tryz.func75, Tryz.ntmps75
  go_wp2_with fail
  refine HT.out.mono ?_
  rintro e w1 ⟨rfl, hb1⟩
  have F1 := F0.past hb1
  have p1 := (F1.1.cell 1).trans h.g1
  have hB1 : Box w1 w.heap.size m cs := ⟨F1.1, h.past F1.2.2⟩
  have hld := hB1.load
  clear b1 b2 h2 h6
  go_wp2_with fail
  refine (HC.out w1 F1.2.2).mono ?_
  rintro e w2 ⟨A1, c1', ds1, rfl, hb2, hK1⟩
  clear hld p1
  go_wp2_with fail
  refine (list_any tg htg ks 25 A1 c1' ds1 w2 (by omega) HGP.out hK1).mono ?_
  rintro e w3 ⟨A2, c2', ds2, rfl, hb3, hK2⟩
  have B1 : Blk w3 (w.heap.size + 1) 57 #[.int .u8 0, .string ⟨#[]⟩, .slice none 0 0] := ((BR.past hb1).past hb2).past hb3
  have c0 : w3.cell? ⟨w.heap.size + 1, 0, none⟩ = some (.int .u8 0) := B1.cell 0
  have c1 : w3.cell? ⟨w.heap.size + 1, 1, none⟩ = some (.string ⟨#[]⟩) := B1.cell 1
  have c2 : w3.cell? ⟨w.heap.size + 1, 2, none⟩ = some (.slice none 0 0) := B1.cell 2
  have g0 := B1.frozen 0
  have g1 := B1.frozen 1
  have g2 := B1.frozen 2
  have F3 := (F1.past hb2).past hb3
  have hbe := F3.2.2
  have HK2 := Lib.hid hK2
  have hz2 : w.heap.size + 1 < w2.heap.size := ((BR.past hb1).past hb2).lt
  clear hK1 hK2
  go_wp2_with fail
  refine bodyPost_ret (Be.res_el rfl _ _ (w.heap.size + 1) _ _ _ rfl (Be.Blk.set3 B1)) rfl (NewLst.el htg (by omega) (new_lstG hbe (by omega) HK2.out (fun b hb => ⟨?_, ?_, hb.2⟩)))
  · have := hb.1; omega
  · have := hb.1; omega
theorem opEl_any (m : Mg) (cs : Array Value) (w : World) (hM : isM m = true) (hG : Glob w) (h : MAt w (· < w.heap.size) m cs) :
    Calls Tryz.prog 75 #[.agg cs] w (NewEl w (opEl m)) := by
  by_cases ho : m.op = 2 ∨ m.op = 6
  · exact opEl_less m cs w hM ho hG h
  · exact opEl_more m cs w hM (by omega) (by omega) hG h
set_option maxHeartbeats 4000000 in
theorem message_any (m : Mg) (cs : Array Value) (w : World) (hM : isM m = true) (hG : Glob w) (h : MAt w (· < w.heap.size) m cs) :
    Calls Tryz.prog 47 #[.agg cs] w (NewEl w (msgEl m)) := by
  obtain ⟨i0, i1, _⟩ := isM_open hM
  have hgo := op_good hM
  have hg2 : ∀ e ∈ [num 2 m.id, opEl m], good 26 e := fun e he => by
    simp only [List.mem_cons, List.not_mem_nil, or_false] at he
    rcases he with rfl | rfl
    · exact good_num (by decide) (by omega) (by omega)
    · exact hgo.1
  have F0 := Fr.new w 28 cs (.int .u8 0) (.string ⟨#[]⟩) (.slice none 0 0)
  go_enter Tryz.func47, Tryz.ntmps47
  go_wp2_with fail
  refine wp_region_noPanic ?_
  refine wp_region_held_drew (S := Fr w w.heap.size 28 cs (w.heap.size + 1)) (by kernel_rfl) F0.drew (fun hH0 => ?_)
  refine Rg.take 0 (.pointer (some ⟨w.heap.size, 0, none⟩)) rfl (by kernel_rfl) (by kernel_rfl) (by kernel_rfl) (fun _ _ _ h => h) (by kernel_rfl) (fun _ _ => by kernel_rfl) hH0 ?_
  refine Rg.take 1 (.int .i64 m.id) rfl (by kernel_rfl) (by kernel_rfl) (by kernel_rfl) (fun _ _ _ h => h) (by kernel_rfl) (fun w' h' => run_cell rfl rfl (by kernel_rfl) ((h'.1.cell 0).trans h.g0)) hH0 ?_
  refine Rg.take 3 (.agg cs) rfl (by kernel_rfl) (by kernel_rfl) (by kernel_rfl) (fun _ _ _ h => h) (by kernel_rfl) (fun w' h' => run_loadRow rfl rfl h'.1 Tryz.underlying28 rfl (by rw [infoM, h.size])) hH0 ?_
  refine Rg.frame ⟨#[.agg cs, pt w.heap.size 0, pt (w.heap.size + 1) 0, pt w.heap.size 0, .int .i64 m.id, ud, .agg cs, ud, ud, ud], []⟩ (by kernel_rfl) ?_
  refine Rg.call 2 rfl (by kernel_rfl) (by kernel_rfl) 74 #[.int .i64 m.id] (by kernel_rfl) (integer_any m.id _ (by omega) (by omega)) ?_
  rintro _ w2 ⟨rfl, hb2⟩
  have hH1 := hH0.past hb2
  refine ⟨_, rfl, hH1, ?_⟩
  refine Rg.call 4 rfl (by kernel_rfl) (by kernel_rfl) 75 #[.agg cs] (by kernel_rfl) (opEl_any m cs _ hM (hG.past hH1.2.2) (h.past hH1.2.2)) ?_
  rintro _ w3 ⟨t8, b8, A8, n8, c8, rfl, hb3, hL8⟩
  have hH2 := hH1.past hb3
  refine ⟨_, rfl, hH2, ?_⟩
  have hH3 := hH2.alloc (.cells #[.int .u8 2, .string (strOfNums (Be.intB m.id)), .slice none 0 0, .int .u8 (t8 : Nat), .string b8, .slice A8 n8 c8] 57)
  refine Rg.run 5 rfl (by kernel_rfl) (by kernel_rfl) (.slice (some ⟨w3.heap.size, 0, none⟩) 2 2) (w3.alloc (.cells #[.int .u8 2, .string (strOfNums (Be.intB m.id)), .slice none 0 0, .int .u8 (t8 : Nat), .string b8, .slice A8 n8 c8] 57)) (by kernel_rfl) hH3 ?_
  refine Rg.frame ⟨#[.agg cs, pt w.heap.size 0, pt (w.heap.size + 1) 0, pt w.heap.size 0, .int .i64 m.id, .agg #[.int .u8 2, .string (strOfNums (Be.intB m.id)), .slice none 0 0], .agg cs, .agg #[.int .u8 (t8 : Nat), .string b8, .slice A8 n8 c8], .slice (some ⟨w3.heap.size, 0, none⟩) 2 2, ud], []⟩ (by kernel_rfl) ?_
  have hKK := kids_lit (w := w3) [num 2 m.id, opEl m] [[.int .u8 2, .string (strOfNums (Be.intB m.id)), .slice none 0 0], [.int .u8 (t8 : Nat), .string b8, .slice A8 n8 c8]] rfl (by simp) (fun i hi => by
    match i, hi with
    | 0, _ => exact lies_num (by decide) (by omega) (by omega)
    | 1, _ => exact lies_old hL8)
  refine Rg.call 6 rfl (by kernel_rfl) (by kernel_rfl) 73 #[.slice (some ⟨w3.heap.size, 0, none⟩) 2 2] (by kernel_rfl) (seq_any [num 2 m.id, opEl m] 26 _ 2 _ _ (by show 2 ≤ 20; omega) hg2 hKK) ?_
  rintro _ w9 ⟨A2, c2, ds2, rfl, hb9, hK2⟩
  have hH4 := hH3.past hb9
  refine ⟨_, rfl, hH4, ?_⟩
  have hH5 := hH4.store (by omega) (by omega) (.int .u8 48) (.string ⟨#[]⟩) (.slice A2 2 c2)
  refine Rg.skip 7 rfl (by kernel_rfl) (by kernel_rfl) _ (run_storeE hH4 rfl rfl rfl) hH5 ?_
  refine Rg.frame { tmps := #[.agg cs, .pointer (some ⟨w.heap.size, 0, none⟩), .pointer (some ⟨w.heap.size + 1, 0, none⟩), .pointer (some ⟨w.heap.size, 0, none⟩), .int .i64 m.id, .agg #[.int .u8 2, .string (strOfNums (Be.intB m.id)), .slice none 0 0], .agg cs, .agg #[.int .u8 (t8 : Nat), .string b8, .slice A8 n8 c8], .slice (some ⟨w3.heap.size, 0, none⟩) 2 2, .agg #[.int .u8 48, .string ⟨#[]⟩, .slice A2 2 c2]], defers := [] } (by kernel_rfl) ?_
  refine wpAnyH_done (by kernel_rfl) ?_ _
  refine NoPanic.normal ?_
  go_wp2_with fail
  obtain ⟨_, ⟨x', y', z', hB2⟩, _⟩ := hH4
  refine bodyPost_ret (Be.res_el rfl _ _ (w.heap.size + 1) _ _ _ rfl (setRow_heap _ _ _ _ _ _ hB2)) rfl (NewLst.el (by decide) (by show 2 ≤ 20; omega) (new_row hH5.2.2 hK2 (fun b hb => ?_)))
  have h1 := hH3.2.2.size; have := hH3.2.1; obtain ⟨_, _, _, hB4⟩ := this; have := hB4.lt; exact ⟨by omega, by omega, hb.2⟩
end Go.Proofs.YtconghaebebncaaGreatDoor.Ms
