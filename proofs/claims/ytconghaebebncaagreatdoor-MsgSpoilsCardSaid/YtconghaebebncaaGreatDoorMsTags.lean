/- The two tables of tags, as they lie in memory; what is looked up in them. -/
import Derived.Test.YtconghaebebncaaGreatDoorG3
import Derived.Great.Walk
import Derived.BigQuiet
import Derived.RegionTactic
import Derived.IntWalk
namespace Go.Proofs.YtconghaebebncaaGreatDoor.Ms
open Go.RowKit Go.Great
set_option linter.unusedVariables false
set_option maxRecDepth 100000

def opCells : List Value := opTab.flatMap fun r => [.int .i64 r.1, .int .i64 r.2.1, .int .u8 r.2.2]
def filCells : List Value := filTab.flatMap fun r => [.int .i64 r.1, .int .u8 r.2]
/-- What the package-level variables hold: the type error's handle, the table of operations, that of filters. -/
def Glob (w : World) : Prop :=
  3 ≤ w.heap.size ∧ w.cell? ⟨0, 0, none⟩ = some (.iface 151 (.agg #[typeHandle Tryz.prog 51])) ∧ w.rangeAt 1 0 opCells ∧ w.rangeAt 2 0 filCells
theorem Glob.past {w w' : World} (h : Glob w) (hb : Below w.heap.size w w') : Glob w' := by
  obtain ⟨h0, h1, h2, h3⟩ := h
  exact ⟨Nat.le_trans h0 hb.size, (hb.cell (p := ⟨0, 0, none⟩) (by show 0 < _; omega)).trans h1,
    fun j v hv => (hb.cell (p := ⟨1, 0 + j, none⟩) (by show 1 < _; omega)).trans (h2 j v hv),
    fun j v hv => (hb.cell (p := ⟨2, 0 + j, none⟩) (by show 2 < _; omega)).trans (h3 j v hv)⟩

def opAt (q : Nat) : Int × Int × Nat := opTab.getD q (0, 0, 0)
def filAt (q : Nat) : Int × Nat := filTab.getD q (0, 0)
theorem tagIn_at {op ref : Int} {q : Nat} (h : q < 16) : tagIn op ref (opTab.drop q) = if (opAt q).1 = op ∧ (opAt q).2.1 = ref then (opAt q).2.2 else tagIn op ref (opTab.drop (q + 1)) := by
  have h' : q < opTab.length := h
  rw [List.drop_eq_getElem_cons h', tagIn, opAt, List.getD_eq_getElem?_getD, List.getElem?_eq_getElem h']
  rfl
theorem opIn_at {t q : Nat} (h : q < 16) : opIn t (opTab.drop q) = if (opAt q).2.2 = t then ((opAt q).1, (opAt q).2.1) else opIn t (opTab.drop (q + 1)) := by
  have h' : q < opTab.length := h
  rw [List.drop_eq_getElem_cons h', opIn, opAt, List.getD_eq_getElem?_getD, List.getElem?_eq_getElem h']
  rfl
theorem ftagIn_at {k : Int} {q : Nat} (h : q < 8) : ftagIn k (filTab.drop q) = if (filAt q).1 = k then (filAt q).2 else ftagIn k (filTab.drop (q + 1)) := by
  have h' : q < filTab.length := h
  rw [List.drop_eq_getElem_cons h', ftagIn, filAt, List.getD_eq_getElem?_getD, List.getElem?_eq_getElem h']
  rfl
theorem kindIn_at {t q : Nat} (h : q < 8) : kindIn t (filTab.drop q) = if (filAt q).2 = t then (filAt q).1 else kindIn t (filTab.drop (q + 1)) := by
  have h' : q < filTab.length := h
  rw [List.drop_eq_getElem_cons h', kindIn, filAt, List.getD_eq_getElem?_getD, List.getElem?_eq_getElem h']
  rfl
/-- A row of the table, by its place. -/
theorem index_op {ev : Operand → Value} {o : Oper} {x y : Operand} {w : World} {q : Nat} (hq : q < 16) (ho : o.op = .index 174 x y) (hx : ev x = .agg opCells.toArray) (hy : ev y = .int .i64 (q : Nat)) :
    (execOp ev o).run Tryz.prog w = .ok (.value (.agg #[.int .i64 (opAt q).1, .int .i64 (opAt q).2.1, .int .u8 (opAt q).2.2])) w := by
  have hc : q = 0 ∨ q = 1 ∨ q = 2 ∨ q = 3 ∨ q = 4 ∨ q = 5 ∨ q = 6 ∨ q = 7 ∨ q = 8 ∨ q = 9 ∨ q = 10 ∨ q = 11 ∨ q = 12 ∨ q = 13 ∨ q = 14 ∨ q = 15 := by omega
  rcases hc with rfl | rfl | rfl | rfl | rfl | rfl | rfl | rfl | rfl | rfl | rfl | rfl | rfl | rfl | rfl | rfl
  all_goals
    unfold execOp
    simp only [ho, hx, hy]
    show _ = _
    kernel_rfl
theorem index_fil {ev : Operand → Value} {o : Oper} {x y : Operand} {w : World} {q : Nat} (hq : q < 8) (ho : o.op = .index 194 x y) (hx : ev x = .agg filCells.toArray) (hy : ev y = .int .i64 (q : Nat)) :
    (execOp ev o).run Tryz.prog w = .ok (.value (.agg #[.int .i64 (filAt q).1, .int .u8 (filAt q).2])) w := by
  have hc : q = 0 ∨ q = 1 ∨ q = 2 ∨ q = 3 ∨ q = 4 ∨ q = 5 ∨ q = 6 ∨ q = 7 := by omega
  rcases hc with rfl | rfl | rfl | rfl | rfl | rfl | rfl | rfl
  all_goals
    unfold execOp
    simp only [ho, hx, hy]
    show _ = _
    kernel_rfl
theorem opAt_tag (q : Nat) : (opAt q).2.2 ≤ 255 := by
  by_cases h : q < 16
  · have hc : q = 0 ∨ q = 1 ∨ q = 2 ∨ q = 3 ∨ q = 4 ∨ q = 5 ∨ q = 6 ∨ q = 7 ∨ q = 8 ∨ q = 9 ∨ q = 10 ∨ q = 11 ∨ q = 12 ∨ q = 13 ∨ q = 14 ∨ q = 15 := by omega
    rcases hc with rfl | rfl | rfl | rfl | rfl | rfl | rfl | rfl | rfl | rfl | rfl | rfl | rfl | rfl | rfl | rfl
    all_goals decide
  · unfold opAt
    rw [List.getD_eq_getElem?_getD, List.getElem?_eq_none (by show 16 ≤ q; omega)]
    decide
set_option maxHeartbeats 2000000 in
theorem opTag_any (op ref : Int) (w : World) (hG : Glob w) :
    Calls Tryz.prog 105 #[.int .i64 op, .int .i64 ref] w fun r w' => r = .returned (.int .u8 (opTag op ref : Nat)) ∧ Below w.heap.size w w' := by
  have hR := Lib.hid hG.2.2.1
  clear hG
  go_enter Tryz.func105, Tryz.ntmps105
  go_wp2_with (refine wpList_load_mid (op := ⟨some 7, _, _, _, _, _⟩) rfl _ _ rfl 1 0 rfl opCells _ hR.out Tryz.underlying174 rfl (by kernel_rfl) ?_)
  obtain ⟨V, hV⟩ : ∃ V, V = opCells.toArray := ⟨_, rfl⟩
  rw [← hV]
  have HV := Lib.hid hV
  clear hV
  have hst := Lib.hid (show opTag op ref = tagIn op ref (opTab.drop 0) from rfl)
  go_loopw [8] (fun i wr => ∃ q : Nat, q ≤ 16 ∧ i = .int .i64 q ∧ Hid (opTag op ref = tagIn op ref (opTab.drop q)) ∧ Below w.heap.size w wr) (fun i wr => 16 - (intOf i).toNat)
  case atStart => exact ⟨0, Nat.zero_le _, rfl, hst, Below.refl _ _⟩
  case round =>
    obtain ⟨q, hq, rfl, hE, hb⟩ := hrel
    have hs := hb.size
    by_cases hlt : q < 16
    · have hlt' : (q : Int) < 16 := by omega
      have hE2 := hE.out
      rw [tagIn_at hlt] at hE2
      have hix := fun ev o x y ho hx hy => index_op (ev := ev) (o := o) (x := x) (y := y) (w := wr) hlt ho hx hy
      have ht := opAt_tag q
      have hb1 := hb.alloc hs (.cells #[.int .i64 (opAt q).1, .int .i64 (opAt q).2.1, .int .u8 (opAt q).2.2] 173)
      generalize (opAt q).1 = p1 at hE2 hix hb1
      generalize (opAt q).2.1 = p2 at hE2 hix hb1
      generalize (opAt q).2.2 = p3 at hE2 hix hb1 ht
      have HX := Lib.hid hix
      have HE := Lib.hid hE2
      clear hix hE hE2
      by_cases h1 : p1 = op
      · subst h1
        by_cases h2 : p2 = ref
        · subst h2
          have HE2 := Lib.hid (show opTag p1 p2 = p3 by rw [HE.out]; simp)
          clear HE
          go_wp2_with (refine wpList_readTo (o := ⟨some 10, _, _, _, _, _⟩) rfl (some 10) rfl _ (HX.out _ _ _ _ rfl (by rw [← HV.out]; rfl) rfl) ?_)
          go_ret
          refine ⟨?_, hb1⟩
          rw [HE2.out]; rfl
        · have q2 : (p2 == ref) = false := by rw [beq_eq_false_iff_ne]; exact h2
          have HE2 := Lib.hid (show opTag p1 ref = tagIn p1 ref (opTab.drop (q + 1)) by rw [HE.out, if_neg (fun h => h2 h.2)])
          clear HE h2
          go_wp2_with (refine wpList_readTo (o := ⟨some 10, _, _, _, _, _⟩) rfl (some 10) rfl _ (HX.out _ _ _ _ rfl (by rw [← HV.out]; rfl) rfl) ?_)
          refine ⟨⟨q + 1, by omega, by go_num, HE2, hb1⟩, by simp [intOf]; omega⟩
      · have q1 : (p1 == op) = false := by rw [beq_eq_false_iff_ne]; exact h1
        have HE2 := Lib.hid (show opTag op ref = tagIn op ref (opTab.drop (q + 1)) by rw [HE.out, if_neg (fun h => h1 h.1)])
        clear HE h1
        go_wp2_with (refine wpList_readTo (o := ⟨some 10, _, _, _, _, _⟩) rfl (some 10) rfl _ (HX.out _ _ _ _ rfl (by rw [← HV.out]; rfl) rfl) ?_)
        refine ⟨⟨q + 1, by omega, by go_num, HE2, hb1⟩, by simp [intOf]; omega⟩
    · have hq2 : q = 16 := by omega
      subst hq2
      have HE := Lib.hid (show opTag op ref = 0 by rw [hE.out]; rfl)
      clear hE
      go_wp2_with fail
      go_ret
      refine ⟨?_, hb⟩
      rw [HE.out]; rfl
set_option maxHeartbeats 2000000 in
theorem filTag_any (k : Int) (w : World) (hG : Glob w) :
    Calls Tryz.prog 151 #[.int .i64 k] w fun r w' => r = .returned (.int .u8 (filTag k : Nat)) ∧ Below w.heap.size w w' := by
  have hR := Lib.hid hG.2.2.2
  clear hG
  go_enter Tryz.func151, Tryz.ntmps151
  go_wp2_with (refine wpList_load_mid (op := ⟨some 5, _, _, _, _, _⟩) rfl _ _ rfl 2 0 rfl filCells _ hR.out Tryz.underlying194 rfl (by kernel_rfl) ?_)
  obtain ⟨V, hV⟩ : ∃ V, V = filCells.toArray := ⟨_, rfl⟩
  rw [← hV]
  have HV := Lib.hid hV
  clear hV
  have hst := Lib.hid (show filTag k = ftagIn k (filTab.drop 0) from rfl)
  go_loopw [6] (fun i wr => ∃ q : Nat, q ≤ 8 ∧ i = .int .i64 q ∧ Hid (filTag k = ftagIn k (filTab.drop q)) ∧ Below w.heap.size w wr) (fun i wr => 8 - (intOf i).toNat)
  case atStart => exact ⟨0, Nat.zero_le _, rfl, hst, Below.refl _ _⟩
  case round =>
    obtain ⟨q, hq, rfl, hE, hb⟩ := hrel
    have hs := hb.size
    by_cases hlt : q < 8
    · have hlt' : (q : Int) < 8 := by omega
      have hE2 := hE.out
      rw [ftagIn_at hlt] at hE2
      have hix := fun ev o x y ho hx hy => index_fil (ev := ev) (o := o) (x := x) (y := y) (w := wr) hlt ho hx hy
      have hb1 := hb.alloc hs (.cells #[.int .i64 (filAt q).1, .int .u8 (filAt q).2] 193)
      generalize (filAt q).1 = p1 at hE2 hix hb1
      generalize (filAt q).2 = p3 at hE2 hix hb1
      have HX := Lib.hid hix
      have HE := Lib.hid hE2
      clear hix hE hE2
      by_cases h1 : p1 = k
      · subst h1
        have HE2 := Lib.hid (show filTag p1 = p3 by rw [HE.out]; simp)
        clear HE
        go_wp2_with (refine wpList_readTo (o := ⟨some 8, _, _, _, _, _⟩) rfl (some 8) rfl _ (HX.out _ _ _ _ rfl (by rw [← HV.out]; rfl) rfl) ?_)
        go_ret
        refine ⟨?_, hb1⟩
        rw [HE2.out]; rfl
      · have q1 : (p1 == k) = false := by rw [beq_eq_false_iff_ne]; exact h1
        have HE2 := Lib.hid (show filTag k = ftagIn k (filTab.drop (q + 1)) by rw [HE.out, if_neg h1])
        clear HE h1
        go_wp2_with (refine wpList_readTo (o := ⟨some 8, _, _, _, _, _⟩) rfl (some 8) rfl _ (HX.out _ _ _ _ rfl (by rw [← HV.out]; rfl) rfl) ?_)
        refine ⟨⟨q + 1, by omega, by go_num, HE2, hb1⟩, by simp [intOf]; omega⟩
    · have hq2 : q = 8 := by omega
      subst hq2
      have HE := Lib.hid (show filTag k = 0 by rw [hE.out]; rfl)
      clear hE
      go_wp2_with fail
      go_ret
      refine ⟨?_, hb⟩
      rw [HE.out]; rfl
set_option maxHeartbeats 2000000 in
theorem filKind_any (t : Nat) (ht : t ≤ 255) (w : World) (hG : Glob w) :
    Calls Tryz.prog 127 #[.int .u8 (t : Nat)] w fun r w' => r = .returned (.int .i64 (filKind t)) ∧ Below w.heap.size w w' := by
  have hR := Lib.hid hG.2.2.2
  clear hG
  go_enter Tryz.func127, Tryz.ntmps127
  go_wp2_with (refine wpList_load_mid (op := ⟨some 5, _, _, _, _, _⟩) rfl _ _ rfl 2 0 rfl filCells _ hR.out Tryz.underlying194 rfl (by kernel_rfl) ?_)
  obtain ⟨V, hV⟩ : ∃ V, V = filCells.toArray := ⟨_, rfl⟩
  rw [← hV]
  have HV := Lib.hid hV
  clear hV
  have hst := Lib.hid (show filKind t = kindIn t (filTab.drop 0) from rfl)
  go_loopw [6] (fun i wr => ∃ q : Nat, q ≤ 8 ∧ i = .int .i64 q ∧ Hid (filKind t = kindIn t (filTab.drop q)) ∧ Below w.heap.size w wr) (fun i wr => 8 - (intOf i).toNat)
  case atStart => exact ⟨0, Nat.zero_le _, rfl, hst, Below.refl _ _⟩
  case round =>
    obtain ⟨q, hq, rfl, hE, hb⟩ := hrel
    have hs := hb.size
    by_cases hlt : q < 8
    · have hlt' : (q : Int) < 8 := by omega
      have hE2 := hE.out
      rw [kindIn_at hlt] at hE2
      have hix := fun ev o x y ho hx hy => index_fil (ev := ev) (o := o) (x := x) (y := y) (w := wr) hlt ho hx hy
      have hb1 := hb.alloc hs (.cells #[.int .i64 (filAt q).1, .int .u8 (filAt q).2] 193)
      generalize (filAt q).1 = p1 at hE2 hix hb1
      generalize (filAt q).2 = p3 at hE2 hix hb1
      have HX := Lib.hid hix
      have HE := Lib.hid hE2
      clear hix hE hE2
      by_cases h1 : p3 = t
      · subst h1
        have HE2 := Lib.hid (show filKind p3 = p1 by rw [HE.out]; simp)
        clear HE
        go_wp2_with (refine wpList_readTo (o := ⟨some 8, _, _, _, _, _⟩) rfl (some 8) rfl _ (HX.out _ _ _ _ rfl (by rw [← HV.out]; rfl) rfl) ?_)
        go_ret
        refine ⟨?_, hb1⟩
        rw [HE2.out]; rfl
      · have q1 : ((p3 : Int) == t) = false := by rw [beq_eq_false_iff_ne]; omega
        have HE2 := Lib.hid (show filKind t = kindIn t (filTab.drop (q + 1)) by rw [HE.out, if_neg h1])
        clear HE h1
        go_wp2_with (refine wpList_readTo (o := ⟨some 8, _, _, _, _, _⟩) rfl (some 8) rfl _ (HX.out _ _ _ _ rfl (by rw [← HV.out]; rfl) rfl) ?_)
        refine ⟨⟨q + 1, by omega, by go_num, HE2, hb1⟩, by simp [intOf]; omega⟩
    · have hq2 : q = 8 := by omega
      subst hq2
      have HE := Lib.hid (show filKind t = 0 by rw [hE.out]; rfl)
      clear hE
      go_wp2_with fail
      go_ret
      refine ⟨?_, hb⟩
      rw [HE.out]; rfl
set_option maxHeartbeats 2000000 in
theorem opOf_any (t : Nat) (ht : t ≤ 255) (w : World) (hG : Glob w) :
    Calls Tryz.prog 93 #[.int .u8 (t : Nat)] w fun r w' => r = .returned (.tuple #[.int .i64 (opOf t).1, .int .i64 (opOf t).2]) ∧ Below w.heap.size w w' := by
  have hR := Lib.hid hG.2.2.1
  clear hG
  go_enter Tryz.func93, Tryz.ntmps93
  go_wp2_with (refine wpList_load_mid (op := ⟨some 6, _, _, _, _, _⟩) rfl _ _ rfl 1 0 rfl opCells _ hR.out Tryz.underlying174 rfl (by kernel_rfl) ?_)
  obtain ⟨V, hV⟩ : ∃ V, V = opCells.toArray := ⟨_, rfl⟩
  rw [← hV]
  have HV := Lib.hid hV
  clear hV
  have hst := Lib.hid (show opOf t = opIn t (opTab.drop 0) from rfl)
  go_loopw [7] (fun i wr => ∃ q : Nat, q ≤ 16 ∧ i = .int .i64 q ∧ Hid (opOf t = opIn t (opTab.drop q)) ∧ Below w.heap.size w wr) (fun i wr => 16 - (intOf i).toNat)
  case atStart => exact ⟨0, Nat.zero_le _, rfl, hst, Below.refl _ _⟩
  case round =>
    obtain ⟨q, hq, rfl, hE, hb⟩ := hrel
    have hs := hb.size
    by_cases hlt : q < 16
    · have hlt' : (q : Int) < 16 := by omega
      have hE2 := hE.out
      rw [opIn_at hlt] at hE2
      have hix := fun ev o x y ho hx hy => index_op (ev := ev) (o := o) (x := x) (y := y) (w := wr) hlt ho hx hy
      have hb1 := hb.alloc hs (.cells #[.int .i64 (opAt q).1, .int .i64 (opAt q).2.1, .int .u8 (opAt q).2.2] 173)
      have ht := opAt_tag q
      generalize (opAt q).1 = p1 at hE2 hix hb1
      generalize (opAt q).2.1 = p2 at hE2 hix hb1
      generalize (opAt q).2.2 = p3 at hE2 hix hb1 ht
      have HX := Lib.hid hix
      have HE := Lib.hid hE2
      clear hix hE hE2
      by_cases h1 : p3 = t
      · subst h1
        have HE2 := Lib.hid (show opOf p3 = (p1, p2) by rw [HE.out]; simp)
        clear HE
        go_wp2_with (refine wpList_readTo (o := ⟨some 9, _, _, _, _, _⟩) rfl (some 9) rfl _ (HX.out _ _ _ _ rfl (by rw [← HV.out]; rfl) rfl) ?_)
        go_region
        go_wp2_with fail
        go_ret2
        rw [HE2.out]
        exact ⟨rfl, hb1.drew⟩
      · have q1 : ((p3 : Int) == t) = false := by rw [beq_eq_false_iff_ne]; omega
        have HE2 := Lib.hid (show opOf t = opIn t (opTab.drop (q + 1)) by rw [HE.out, if_neg h1])
        clear HE h1
        go_wp2_with (refine wpList_readTo (o := ⟨some 9, _, _, _, _, _⟩) rfl (some 9) rfl _ (HX.out _ _ _ _ rfl (by rw [← HV.out]; rfl) rfl) ?_)
        refine ⟨⟨q + 1, by omega, by go_num, HE2, hb1⟩, by simp [intOf]; omega⟩
    · have hq2 : q = 16 := by omega
      subst hq2
      have HE := Lib.hid (show opOf t = (0, 0) by rw [hE.out]; rfl)
      clear hE
      go_wp2_with fail
      go_ret2
      rw [HE.out]
      exact ⟨rfl, hb⟩
set_option maxHeartbeats 400000 in
theorem partTag_any (i n : Nat) (w : World) (hi : i ≤ 1000000) (hn : n ≤ 1000000) :
    Calls Tryz.prog 158 #[.int .i64 (i : Nat), .int .i64 (n : Nat)] w fun r w' => r = .returned (.int .u8 (partTag i n : Nat)) ∧ w = w' := by
  by_cases h0 : i = 0
  · subst h0
    go_enter Tryz.func158, Tryz.ntmps158
    go_wp2_with fail
    go_ret
    exact ⟨rfl, rfl⟩
  · have q0 : ((i : Int) == 0) = false := by rw [beq_eq_false_iff_ne]; omega
    have hsub : IntKind.i64.wrap ((n : Int) - 1) = (n : Int) - 1 := IntWalk.i64_in _ (by omega)
    by_cases h1 : i = n - 1 ∧ 0 < n
    · have q1 : ((i : Int) == (n : Int) - 1) = true := by rw [beq_iff_eq]; omega
      have hr := Lib.hid (show partTag i n = 130 by unfold partTag; rw [if_neg h0, if_pos h1.1])
      go_enter Tryz.func158, Tryz.ntmps158
      go_wp2_with fail
      go_ret
      exact ⟨by rw [hr.out]; rfl, rfl⟩
    · have q1 : ((i : Int) == (n : Int) - 1) = false := by rw [beq_eq_false_iff_ne]; omega
      have hr := Lib.hid (show partTag i n = 129 by unfold partTag; rw [if_neg h0, if_neg (by omega)])
      go_enter Tryz.func158, Tryz.ntmps158
      go_wp2_with fail
      go_ret
      exact ⟨by rw [hr.out]; rfl, rfl⟩
end Go.Proofs.YtconghaebebncaaGreatDoor.Ms
