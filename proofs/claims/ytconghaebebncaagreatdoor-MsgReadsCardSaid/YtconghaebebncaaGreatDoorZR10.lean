import Derived.Test.YtconghaebebncaaGreatDoorZR9
import Derived.Great.Walk
import Derived.RegionTactic
import Derived.IntWalk
import Derived.Test.YtconghaebebncaaGreatDoorRows
import Derived.ChangeSame
import Derived.ChangeVars
import Derived.OpenShut
import Derived.LaidLaws
import Derived.LaidHandle
import Derived.FnData
import Derived.LaidMore
import Derived.Stop.Joined
set_option linter.unusedVariables false
set_option maxRecDepth 100000
namespace Go.Proofs.YtconghaebebncaaGreatDoor.Ms
open Go.RowKit Go.Great
def opCells : List Value:=opTab.flatMap fun r=>[.int .i64 r.1, .int .i64 r.2.1, .int .u8 r.2.2]
def filCells : List Value:=filTab.flatMap fun r=>[.int .i64 r.1, .int .u8 r.2]
def Glob (w : World) : Prop :=
 3 ≤ w.heap.size ∧ w.cell? ⟨0, 0, none⟩ = some (.iface 151 (.agg #[typeHandle Tryz.prog 51])) ∧ w.rangeAt 1 0 opCells ∧ w.rangeAt 2 0 filCells
theorem Glob.past {w w' : World} (h : Glob w) (hb : Below w.heap.size w w') : Glob w':=by
 obtain ⟨h0, h1, h2, h3⟩:=h
 exact ⟨Nat.le_trans h0 hb.size, (hb.cell (p:=⟨0, 0, none⟩) (by show 0 < _; omega)).trans h1,
  fun j v hv=>(hb.cell (p:=⟨1, 0 + j, none⟩) (by show 1 < _; omega)).trans (h2 j v hv),
  fun j v hv=>(hb.cell (p:=⟨2, 0 + j, none⟩) (by show 2 < _; omega)).trans (h3 j v hv)⟩
def opAt (q : Nat) : Int × Int × Nat:=opTab.getD q (0, 0, 0)
def filAt (q : Nat) : Int × Nat:=filTab.getD q (0, 0)
theorem tagIn_at {op ref : Int} {q : Nat} (h : q < 16) : tagIn op ref (opTab.drop q) = if (opAt q).1 = op ∧ (opAt q).2.1 = ref then (opAt q).2.2 else tagIn op ref (opTab.drop (q + 1)):=by
 have h' : q < opTab.length:=h
 rw [List.drop_eq_getElem_cons h', tagIn, opAt, List.getD_eq_getElem?_getD, List.getElem?_eq_getElem h']
 rfl
theorem opIn_at {t q : Nat} (h : q < 16) : opIn t (opTab.drop q) = if (opAt q).2.2 = t then ((opAt q).1, (opAt q).2.1) else opIn t (opTab.drop (q + 1)):=by
 have h' : q < opTab.length:=h
 rw [List.drop_eq_getElem_cons h', opIn, opAt, List.getD_eq_getElem?_getD, List.getElem?_eq_getElem h']
 rfl
theorem ftagIn_at {k : Int} {q : Nat} (h : q < 8) : ftagIn k (filTab.drop q) = if (filAt q).1 = k then (filAt q).2 else ftagIn k (filTab.drop (q + 1)):=by
 have h' : q < filTab.length:=h
 rw [List.drop_eq_getElem_cons h', ftagIn, filAt, List.getD_eq_getElem?_getD, List.getElem?_eq_getElem h']
 rfl
theorem kindIn_at {t q : Nat} (h : q < 8) : kindIn t (filTab.drop q) = if (filAt q).2 = t then (filAt q).1 else kindIn t (filTab.drop (q + 1)):=by
 have h' : q < filTab.length:=h
 rw [List.drop_eq_getElem_cons h', kindIn, filAt, List.getD_eq_getElem?_getD, List.getElem?_eq_getElem h']
 rfl
theorem index_op {ev : Operand → Value} {o : Oper} {x y : Operand} {w : World} {q : Nat} (hq : q < 16) (ho : o.op = .index 174 x y) (hx : ev x = .agg opCells.toArray) (hy : ev y = .int .i64 (q : Nat)) :
  (execOp ev o).run Tryz.prog w = .ok (.value (.agg #[.int .i64 (opAt q).1, .int .i64 (opAt q).2.1, .int .u8 (opAt q).2.2])) w:=by
 have hc : q = 0 ∨ q = 1 ∨ q = 2 ∨ q = 3 ∨ q = 4 ∨ q = 5 ∨ q = 6 ∨ q = 7 ∨ q = 8 ∨ q = 9 ∨ q = 10 ∨ q = 11 ∨ q = 12 ∨ q = 13 ∨ q = 14 ∨ q = 15:=by omega
 rcases hc with rfl | rfl | rfl | rfl | rfl | rfl | rfl | rfl | rfl | rfl | rfl | rfl | rfl | rfl | rfl | rfl
 all_goals
  unfold execOp
  simp only [ho, hx, hy]
  show _ = _
  kernel_rfl
theorem index_fil {ev : Operand → Value} {o : Oper} {x y : Operand} {w : World} {q : Nat} (hq : q < 8) (ho : o.op = .index 194 x y) (hx : ev x = .agg filCells.toArray) (hy : ev y = .int .i64 (q : Nat)) :
  (execOp ev o).run Tryz.prog w = .ok (.value (.agg #[.int .i64 (filAt q).1, .int .u8 (filAt q).2])) w:=by
 have hc : q = 0 ∨ q = 1 ∨ q = 2 ∨ q = 3 ∨ q = 4 ∨ q = 5 ∨ q = 6 ∨ q = 7:=by omega
 rcases hc with rfl | rfl | rfl | rfl | rfl | rfl | rfl | rfl
 all_goals
  unfold execOp
  simp only [ho, hx, hy]
  show _ = _
  kernel_rfl
theorem opAt_tag (q : Nat) : (opAt q).2.2 ≤ 255:=by
 by_cases h : q < 16
 ·have hc : q = 0 ∨ q = 1 ∨ q = 2 ∨ q = 3 ∨ q = 4 ∨ q = 5 ∨ q = 6 ∨ q = 7 ∨ q = 8 ∨ q = 9 ∨ q = 10 ∨ q = 11 ∨ q = 12 ∨ q = 13 ∨ q = 14 ∨ q = 15:=by omega
  rcases hc with rfl | rfl | rfl | rfl | rfl | rfl | rfl | rfl | rfl | rfl | rfl | rfl | rfl | rfl | rfl | rfl
  all_goals decide
 ·unfold opAt
  rw [List.getD_eq_getElem?_getD, List.getElem?_eq_none (by show 16 ≤ q; omega)]
  decide
set_option maxHeartbeats 2000000 in
theorem opTag_any (op ref : Int) (w : World) (hG : Glob w) :
  Calls Tryz.prog 105 #[.int .i64 op, .int .i64 ref] w fun r w'=>r = .returned (.int .u8 (opTag op ref : Nat)) ∧ Below w.heap.size w w':=by
 have hR:=Lib.hid hG.2.2.1
 clear hG
 go_enter Tryz.func105, Tryz.ntmps105
 go_wp2_with (refine wpList_load_mid (op:=⟨some 7, _, _, _, _, _⟩) rfl _ _ rfl 1 0 rfl opCells _ hR.out Tryz.underlying174 rfl (by kernel_rfl) ?_)
 obtain ⟨V, hV⟩ : ∃ V, V = opCells.toArray:=⟨_, rfl⟩
 rw [← hV]
 have HV:=Lib.hid hV
 clear hV
 have hst:=Lib.hid (show opTag op ref = tagIn op ref (opTab.drop 0) from rfl)
 go_loopw [8] (fun i wr=>∃ q : Nat, q ≤ 16 ∧ i = .int .i64 q ∧ Hid (opTag op ref = tagIn op ref (opTab.drop q)) ∧ Below w.heap.size w wr) (fun i wr=>16 - (intOf i).toNat)
 case atStart=>exact ⟨0, Nat.zero_le _, rfl, hst, Below.refl _ _⟩
 case round =>
  obtain ⟨q, hq, rfl, hE, hb⟩:=hrel
  have hs:=hb.size
  by_cases hlt : q < 16
  ·have hlt' : (q : Int) < 16:=by omega
   have hE2:=hE.out
   rw [tagIn_at hlt] at hE2
   have hix:=fun ev o x y ho hx hy=>index_op (ev:=ev) (o:=o) (x:=x) (y:=y) (w:=wr) hlt ho hx hy
   have ht:=opAt_tag q
   have hb1:=hb.alloc hs (.cells #[.int .i64 (opAt q).1, .int .i64 (opAt q).2.1, .int .u8 (opAt q).2.2] 173)
   generalize (opAt q).1 = p1 at hE2 hix hb1
   generalize (opAt q).2.1 = p2 at hE2 hix hb1
   generalize (opAt q).2.2 = p3 at hE2 hix hb1 ht
   have HX:=Lib.hid hix
   have HE:=Lib.hid hE2
   clear hix hE hE2
   by_cases h1 : p1 = op
   ·subst h1
    by_cases h2 : p2 = ref
    ·subst h2
     have HE2:=Lib.hid (show opTag p1 p2 = p3 by rw [HE.out]; simp)
     clear HE
     go_wp2_with (refine wpList_readTo (o:=⟨some 10, _, _, _, _, _⟩) rfl (some 10) rfl _ (HX.out _ _ _ _ rfl (by rw [← HV.out]; rfl) rfl) ?_)
     go_ret
     refine ⟨?_, hb1⟩
     rw [HE2.out]; rfl
    ·have q2 : (p2 == ref) = false:=by rw [beq_eq_false_iff_ne]; exact h2
     have HE2:=Lib.hid (show opTag p1 ref = tagIn p1 ref (opTab.drop (q + 1)) by rw [HE.out, if_neg (fun h=>h2 h.2)])
     clear HE h2
     go_wp2_with (refine wpList_readTo (o:=⟨some 10, _, _, _, _, _⟩) rfl (some 10) rfl _ (HX.out _ _ _ _ rfl (by rw [← HV.out]; rfl) rfl) ?_)
     refine ⟨⟨q + 1, by omega, by go_num, HE2, hb1⟩, by simp [intOf]; omega⟩
   ·have q1 : (p1 == op) = false:=by rw [beq_eq_false_iff_ne]; exact h1
    have HE2:=Lib.hid (show opTag op ref = tagIn op ref (opTab.drop (q + 1)) by rw [HE.out, if_neg (fun h=>h1 h.1)])
    clear HE h1
    go_wp2_with (refine wpList_readTo (o:=⟨some 10, _, _, _, _, _⟩) rfl (some 10) rfl _ (HX.out _ _ _ _ rfl (by rw [← HV.out]; rfl) rfl) ?_)
    refine ⟨⟨q + 1, by omega, by go_num, HE2, hb1⟩, by simp [intOf]; omega⟩
  ·have hq2 : q = 16:=by omega
   subst hq2
   have HE:=Lib.hid (show opTag op ref = 0 by rw [hE.out]; rfl)
   clear hE
   go_wp2_with fail
   go_ret
   refine ⟨?_, hb⟩
   rw [HE.out]; rfl
set_option maxHeartbeats 2000000 in
theorem filTag_any (k : Int) (w : World) (hG : Glob w) :
  Calls Tryz.prog 151 #[.int .i64 k] w fun r w'=>r = .returned (.int .u8 (filTag k : Nat)) ∧ Below w.heap.size w w':=by
 have hR:=Lib.hid hG.2.2.2
 clear hG
 go_enter Tryz.func151, Tryz.ntmps151
 go_wp2_with (refine wpList_load_mid (op:=⟨some 5, _, _, _, _, _⟩) rfl _ _ rfl 2 0 rfl filCells _ hR.out Tryz.underlying194 rfl (by kernel_rfl) ?_)
 obtain ⟨V, hV⟩ : ∃ V, V = filCells.toArray:=⟨_, rfl⟩
 rw [← hV]
 have HV:=Lib.hid hV
 clear hV
 have hst:=Lib.hid (show filTag k = ftagIn k (filTab.drop 0) from rfl)
 go_loopw [6] (fun i wr=>∃ q : Nat, q ≤ 8 ∧ i = .int .i64 q ∧ Hid (filTag k = ftagIn k (filTab.drop q)) ∧ Below w.heap.size w wr) (fun i wr=>8 - (intOf i).toNat)
 case atStart=>exact ⟨0, Nat.zero_le _, rfl, hst, Below.refl _ _⟩
 case round =>
  obtain ⟨q, hq, rfl, hE, hb⟩:=hrel
  have hs:=hb.size
  by_cases hlt : q < 8
  ·have hlt' : (q : Int) < 8:=by omega
   have hE2:=hE.out
   rw [ftagIn_at hlt] at hE2
   have hix:=fun ev o x y ho hx hy=>index_fil (ev:=ev) (o:=o) (x:=x) (y:=y) (w:=wr) hlt ho hx hy
   have hb1:=hb.alloc hs (.cells #[.int .i64 (filAt q).1, .int .u8 (filAt q).2] 193)
   generalize (filAt q).1 = p1 at hE2 hix hb1
   generalize (filAt q).2 = p3 at hE2 hix hb1
   have HX:=Lib.hid hix
   have HE:=Lib.hid hE2
   clear hix hE hE2
   by_cases h1 : p1 = k
   ·subst h1
    have HE2:=Lib.hid (show filTag p1 = p3 by rw [HE.out]; simp)
    clear HE
    go_wp2_with (refine wpList_readTo (o:=⟨some 8, _, _, _, _, _⟩) rfl (some 8) rfl _ (HX.out _ _ _ _ rfl (by rw [← HV.out]; rfl) rfl) ?_)
    go_ret
    refine ⟨?_, hb1⟩
    rw [HE2.out]; rfl
   ·have q1 : (p1 == k) = false:=by rw [beq_eq_false_iff_ne]; exact h1
    have HE2:=Lib.hid (show filTag k = ftagIn k (filTab.drop (q + 1)) by rw [HE.out, if_neg h1])
    clear HE h1
    go_wp2_with (refine wpList_readTo (o:=⟨some 8, _, _, _, _, _⟩) rfl (some 8) rfl _ (HX.out _ _ _ _ rfl (by rw [← HV.out]; rfl) rfl) ?_)
    refine ⟨⟨q + 1, by omega, by go_num, HE2, hb1⟩, by simp [intOf]; omega⟩
  ·have hq2 : q = 8:=by omega
   subst hq2
   have HE:=Lib.hid (show filTag k = 0 by rw [hE.out]; rfl)
   clear hE
   go_wp2_with fail
   go_ret
   refine ⟨?_, hb⟩
   rw [HE.out]; rfl
set_option maxHeartbeats 2000000 in
theorem filKind_any (t : Nat) (ht : t ≤ 255) (w : World) (hG : Glob w) :
  Calls Tryz.prog 127 #[.int .u8 (t : Nat)] w fun r w'=>r = .returned (.int .i64 (filKind t)) ∧ Below w.heap.size w w':=by
 have hR:=Lib.hid hG.2.2.2
 clear hG
 go_enter Tryz.func127, Tryz.ntmps127
 go_wp2_with (refine wpList_load_mid (op:=⟨some 5, _, _, _, _, _⟩) rfl _ _ rfl 2 0 rfl filCells _ hR.out Tryz.underlying194 rfl (by kernel_rfl) ?_)
 obtain ⟨V, hV⟩ : ∃ V, V = filCells.toArray:=⟨_, rfl⟩
 rw [← hV]
 have HV:=Lib.hid hV
 clear hV
 have hst:=Lib.hid (show filKind t = kindIn t (filTab.drop 0) from rfl)
 go_loopw [6] (fun i wr=>∃ q : Nat, q ≤ 8 ∧ i = .int .i64 q ∧ Hid (filKind t = kindIn t (filTab.drop q)) ∧ Below w.heap.size w wr) (fun i wr=>8 - (intOf i).toNat)
 case atStart=>exact ⟨0, Nat.zero_le _, rfl, hst, Below.refl _ _⟩
 case round =>
  obtain ⟨q, hq, rfl, hE, hb⟩:=hrel
  have hs:=hb.size
  by_cases hlt : q < 8
  ·have hlt' : (q : Int) < 8:=by omega
   have hE2:=hE.out
   rw [kindIn_at hlt] at hE2
   have hix:=fun ev o x y ho hx hy=>index_fil (ev:=ev) (o:=o) (x:=x) (y:=y) (w:=wr) hlt ho hx hy
   have hb1:=hb.alloc hs (.cells #[.int .i64 (filAt q).1, .int .u8 (filAt q).2] 193)
   generalize (filAt q).1 = p1 at hE2 hix hb1
   generalize (filAt q).2 = p3 at hE2 hix hb1
   have HX:=Lib.hid hix
   have HE:=Lib.hid hE2
   clear hix hE hE2
   by_cases h1 : p3 = t
   ·subst h1
    have HE2:=Lib.hid (show filKind p3 = p1 by rw [HE.out]; simp)
    clear HE
    go_wp2_with (refine wpList_readTo (o:=⟨some 8, _, _, _, _, _⟩) rfl (some 8) rfl _ (HX.out _ _ _ _ rfl (by rw [← HV.out]; rfl) rfl) ?_)
    go_ret
    refine ⟨?_, hb1⟩
    rw [HE2.out]; rfl
   ·have q1 : ((p3 : Int) == t) = false:=by rw [beq_eq_false_iff_ne]; omega
    have HE2:=Lib.hid (show filKind t = kindIn t (filTab.drop (q + 1)) by rw [HE.out, if_neg h1])
    clear HE h1
    go_wp2_with (refine wpList_readTo (o:=⟨some 8, _, _, _, _, _⟩) rfl (some 8) rfl _ (HX.out _ _ _ _ rfl (by rw [← HV.out]; rfl) rfl) ?_)
    refine ⟨⟨q + 1, by omega, by go_num, HE2, hb1⟩, by simp [intOf]; omega⟩
  ·have hq2 : q = 8:=by omega
   subst hq2
   have HE:=Lib.hid (show filKind t = 0 by rw [hE.out]; rfl)
   clear hE
   go_wp2_with fail
   go_ret
   refine ⟨?_, hb⟩
   rw [HE.out]; rfl
set_option maxHeartbeats 2000000 in
theorem opOf_any (t : Nat) (ht : t ≤ 255) (w : World) (hG : Glob w) :
  Calls Tryz.prog 93 #[.int .u8 (t : Nat)] w fun r w'=>r = .returned (.tuple #[.int .i64 (opOf t).1, .int .i64 (opOf t).2]) ∧ Below w.heap.size w w':=by
 have hR:=Lib.hid hG.2.2.1
 clear hG
 go_enter Tryz.func93, Tryz.ntmps93
 go_wp2_with (refine wpList_load_mid (op:=⟨some 6, _, _, _, _, _⟩) rfl _ _ rfl 1 0 rfl opCells _ hR.out Tryz.underlying174 rfl (by kernel_rfl) ?_)
 obtain ⟨V, hV⟩ : ∃ V, V = opCells.toArray:=⟨_, rfl⟩
 rw [← hV]
 have HV:=Lib.hid hV
 clear hV
 have hst:=Lib.hid (show opOf t = opIn t (opTab.drop 0) from rfl)
 go_loopw [7] (fun i wr=>∃ q : Nat, q ≤ 16 ∧ i = .int .i64 q ∧ Hid (opOf t = opIn t (opTab.drop q)) ∧ Below w.heap.size w wr) (fun i wr=>16 - (intOf i).toNat)
 case atStart=>exact ⟨0, Nat.zero_le _, rfl, hst, Below.refl _ _⟩
 case round =>
  obtain ⟨q, hq, rfl, hE, hb⟩:=hrel
  have hs:=hb.size
  by_cases hlt : q < 16
  ·have hlt' : (q : Int) < 16:=by omega
   have hE2:=hE.out
   rw [opIn_at hlt] at hE2
   have hix:=fun ev o x y ho hx hy=>index_op (ev:=ev) (o:=o) (x:=x) (y:=y) (w:=wr) hlt ho hx hy
   have hb1:=hb.alloc hs (.cells #[.int .i64 (opAt q).1, .int .i64 (opAt q).2.1, .int .u8 (opAt q).2.2] 173)
   have ht:=opAt_tag q
   generalize (opAt q).1 = p1 at hE2 hix hb1
   generalize (opAt q).2.1 = p2 at hE2 hix hb1
   generalize (opAt q).2.2 = p3 at hE2 hix hb1 ht
   have HX:=Lib.hid hix
   have HE:=Lib.hid hE2
   clear hix hE hE2
   by_cases h1 : p3 = t
   ·subst h1
    have HE2:=Lib.hid (show opOf p3 = (p1, p2) by rw [HE.out]; simp)
    clear HE
    go_wp2_with (refine wpList_readTo (o:=⟨some 9, _, _, _, _, _⟩) rfl (some 9) rfl _ (HX.out _ _ _ _ rfl (by rw [← HV.out]; rfl) rfl) ?_)
    go_region
    go_wp2_with fail
    go_ret2
    rw [HE2.out]
    exact ⟨rfl, hb1.drew⟩
   ·have q1 : ((p3 : Int) == t) = false:=by rw [beq_eq_false_iff_ne]; omega
    have HE2:=Lib.hid (show opOf t = opIn t (opTab.drop (q + 1)) by rw [HE.out, if_neg h1])
    clear HE h1
    go_wp2_with (refine wpList_readTo (o:=⟨some 9, _, _, _, _, _⟩) rfl (some 9) rfl _ (HX.out _ _ _ _ rfl (by rw [← HV.out]; rfl) rfl) ?_)
    refine ⟨⟨q + 1, by omega, by go_num, HE2, hb1⟩, by simp [intOf]; omega⟩
  ·have hq2 : q = 16:=by omega
   subst hq2
   have HE:=Lib.hid (show opOf t = (0, 0) by rw [hE.out]; rfl)
   clear hE
   go_wp2_with fail
   go_ret2
   rw [HE.out]
   exact ⟨rfl, hb⟩
set_option maxHeartbeats 400000 in
theorem partTag_any (i n : Nat) (w : World) (hi : i ≤ 1000000) (hn : n ≤ 1000000) :
  Calls Tryz.prog 158 #[.int .i64 (i : Nat), .int .i64 (n : Nat)] w fun r w'=>r = .returned (.int .u8 (partTag i n : Nat)) ∧ w = w':=by
 by_cases h0 : i = 0
 ·subst h0
  go_enter Tryz.func158, Tryz.ntmps158
  go_wp2_with fail
  go_ret
  exact ⟨rfl, rfl⟩
 ·have q0 : ((i : Int) == 0) = false:=by rw [beq_eq_false_iff_ne]; omega
  have hsub : IntKind.i64.wrap ((n : Int) - 1) = (n : Int) - 1:=IntWalk.i64_in _ (by omega)
  by_cases h1 : i = n - 1 ∧ 0 < n
  ·have q1 : ((i : Int) == (n : Int) - 1) = true:=by rw [beq_iff_eq]; omega
   have hr:=Lib.hid (show partTag i n = 130 by unfold partTag; rw [if_neg h0, if_pos h1.1])
   go_enter Tryz.func158, Tryz.ntmps158
   go_wp2_with fail
   go_ret
   exact ⟨by rw [hr.out]; rfl, rfl⟩
  ·have q1 : ((i : Int) == (n : Int) - 1) = false:=by rw [beq_eq_false_iff_ne]; omega
   have hr:=Lib.hid (show partTag i n = 129 by unfold partTag; rw [if_neg h0, if_neg (by omega)])
   go_enter Tryz.func158, Tryz.ntmps158
   go_wp2_with fail
   go_ret
   exact ⟨by rw [hr.out]; rfl, rfl⟩
end Go.Proofs.YtconghaebebncaaGreatDoor.Ms
namespace Go.Proofs.YtconghaebebncaaGreatDoor.Ms
open Go.ChangeShapes Go.WideShapes Go.RowKit
section
variable {H : Type} {enc : TypeId × Value → H} {w : World} {base : Nat} {sp : Nat → Bool} {held : Bool} {fuel : Nat} {cs : List Value} {p : List MemPlace}
theorem lit_int {t : TypeId} {k : IntKind} {n : Int} {c : Value} (ht : Tryz.prog.underlying t = some (.int k)) (h : DataW.trod enc Tryz.prog w base sp held fuel t [c] = some (.lit (.int k n), p)) : c = .int k n:=by
 obtain ⟨z, h1, h2, _⟩:=DataW.trod_int ht h
 simp only [List.cons.injEq, and_true] at h1
 simp only [Prod.mk.injEq, DataW.lit.injEq, Lit.int.injEq, true_and] at h2
 rw [h1, h2.1]
theorem cellsI8 : Tryz.prog.cellsOf 5 = 1:=by kernel_rfl
theorem cellsI64 : Tryz.prog.cellsOf 3 = 1:=by kernel_rfl
theorem cellsOp : Tryz.prog.cellsOf 173 = 3:=by kernel_rfl
theorem cellsFi : Tryz.prog.cellsOf 193 = 2:=by kernel_rfl
theorem op_row {r : Int × Int × Nat} (h : DataW.trod enc Tryz.prog w base sp held fuel 173 cs = some (.agg [.lit (.int .i64 r.1), .lit (.int .i64 r.2.1), .lit (.int .u8 r.2.2)], p)) : cs = [.int .i64 r.1, .int .i64 r.2.1, .int .u8 r.2.2]:=by
 obtain ⟨xs, n, rfl, hx, hl, hlen, hg⟩:=DataW.trod_struct Tryz.underlying173 h
 rw [cellsOp] at hl
 match cs, hl with
 | [c0, c1, c2], _ =>
  have l3 : xs.length = 3:=hlen
  match xs, l3 with
  | [y0, y1, y2], _ =>
  have g0 : DataW.trod enc Tryz.prog w base sp held n 3 (([c0, c1, c2].drop 0).take (Tryz.prog.cellsOf 3)) = [y0, y1, y2][0]?:=hg 0 _ rfl
  have g1 : DataW.trod enc Tryz.prog w base sp held n 3 (([c0, c1, c2].drop 1).take (Tryz.prog.cellsOf 3)) = [y0, y1, y2][1]?:=hg 1 _ rfl
  have g2 : DataW.trod enc Tryz.prog w base sp held n 5 (([c0, c1, c2].drop 2).take (Tryz.prog.cellsOf 5)) = [y0, y1, y2][2]?:=hg 2 _ rfl
  rw [cellsI64] at g0 g1
  rw [cellsI8] at g2
  simp only [Prod.mk.injEq, DataW.agg.injEq, List.map_cons, List.map_nil, List.cons.injEq, and_true] at hx
  obtain ⟨⟨h0, h1, h2⟩, _⟩:=hx
  obtain ⟨d0, q0⟩:=y0
  obtain ⟨d1, q1⟩:=y1
  obtain ⟨d2, q2⟩:=y2
  simp only at h0 h1 h2
  subst h0 h1 h2
  rw [lit_int Tryz.underlying3 g0, lit_int Tryz.underlying3 g1, lit_int Tryz.underlying5 g2]
theorem fil_row {r : Int × Nat} (h : DataW.trod enc Tryz.prog w base sp held fuel 193 cs = some (.agg [.lit (.int .i64 r.1), .lit (.int .u8 r.2)], p)) : cs = [.int .i64 r.1, .int .u8 r.2]:=by
 obtain ⟨xs, n, rfl, hx, hl, hlen, hg⟩:=DataW.trod_struct Tryz.underlying193 h
 rw [cellsFi] at hl
 match cs, hl with
 | [c0, c1], _ =>
  have l2 : xs.length = 2:=hlen
  match xs, l2 with
  | [y0, y1], _ =>
  have g0 : DataW.trod enc Tryz.prog w base sp held n 3 (([c0, c1].drop 0).take (Tryz.prog.cellsOf 3)) = [y0, y1][0]?:=hg 0 _ rfl
  have g1 : DataW.trod enc Tryz.prog w base sp held n 5 (([c0, c1].drop 1).take (Tryz.prog.cellsOf 5)) = [y0, y1][1]?:=hg 1 _ rfl
  rw [cellsI64] at g0
  rw [cellsI8] at g1
  simp only [Prod.mk.injEq, DataW.agg.injEq, List.map_cons, List.map_nil, List.cons.injEq, and_true] at hx
  obtain ⟨⟨h0, h1⟩, _⟩:=hx
  obtain ⟨d0, q0⟩:=y0
  obtain ⟨d1, q1⟩:=y1
  simp only at h0 h1
  subst h0 h1
  rw [lit_int Tryz.underlying3 g0, lit_int Tryz.underlying5 g1]
end
theorem rows_flat {α : Type} (k : Nat) (g : α → List Value) : ∀ (l : List α) (cs : List Value), cs.length = l.length * k → (∀ i (h : i < l.length), (cs.drop (i * k)).take k = g l[i]) → cs = l.flatMap g
 | [], cs, hl, _=>by
  have : cs.length = 0:=by simpa using hl
  simpa using this
 | a :: l, cs, hl, h=>by
  have h0:=h 0 (by simp)
  rw [Nat.zero_mul, List.drop_zero] at h0
  have hr:=rows_flat k g l (cs.drop k) (by rw [List.length_drop, hl, List.length_cons, Nat.add_mul]; omega) (fun i hi=>by
   have:=h (i + 1) (by simp; omega)
   rw [List.drop_drop, show k + i * k = (i + 1) * k by rw [Nat.add_mul]; omega]
   simpa using this)
  rw [List.flatMap_cons, ← hr, ← show cs.take k = g a from h0, List.take_append_drop]
theorem opsAt : (Rows.laid_prefect_msg_operations : DataW Unit) = .agg (opTab.map fun r=>.agg [.lit (.int .i64 r.1), .lit (.int .i64 r.2.1), .lit (.int .u8 r.2.2)]):=by rfl
theorem filsAt : (Rows.laid_prefect_msg_filters : DataW Unit) = .agg (filTab.map fun r=>.agg [.lit (.int .i64 r.1), .lit (.int .u8 r.2)]):=by rfl
def laidL : List (String × DataW Unit):=[("errors.errorType", Rows.laid_errors_errorType), ("prefect/msg.operations", Rows.laid_prefect_msg_operations), ("prefect/msg.filters", Rows.laid_prefect_msg_filters)]
theorem rtN : (Tryz.prog.cutTypes.find? (·.1 == "internal/reflectlite.rtype")).map (·.2) = some 151:=by kernel_rfl
theorem etN : Tryz.prog.globalNamed "errors.errorType" = some 0:=by kernel_rfl
theorem opN' : Tryz.prog.globalNamed "prefect/msg.operations" = some 1:=by kernel_rfl
theorem fiN : Tryz.prog.globalNamed "prefect/msg.filters" = some 2:=by kernel_rfl
theorem oneRow : ((List.range Tryz.prog.types.size).filter fun t=>Tryz.prog.rowNamed t [101, 114, 114, 111, 114]) = [51]:=by kernel_rfl
theorem glob_of_laid {W : World} (h : laidMetH Tryz.prog laidL W) : Glob W:=by
 have h' : laidMet Tryz.prog [("prefect/msg.operations", Rows.laid_prefect_msg_operations), ("prefect/msg.filters", Rows.laid_prefect_msg_filters)] W ∧ handlesMet Tryz.prog [("errors.errorType", Rows.laid_errors_errorType)] W:=h
 suffices hall : W.cell? ⟨0, 0, none⟩ = some (.iface 151 (.agg #[typeHandle Tryz.prog 51])) ∧ W.rangeAt 1 0 opCells ∧ W.rangeAt 2 0 filCells from
  ⟨by have h0 : W.cell? ⟨2, 0, none⟩ = some (.int .i64 1):=hall.2.2 0 _ rfl; have:=cell_lt h0; exact this, hall⟩
 refine ⟨?_, ?_, ?_⟩
 ·obtain ⟨name, u, ty, e1, e2, e3, e4, e5⟩:=h'.2 _ (List.mem_singleton.2 rfl)
  have en : name = [101, 114, 114, 111, 114]:=(Option.some.inj e1).symm
  subst en
  obtain rfl:=Option.some.inj (rtN.symm.trans e2)
  have hm : ty ∈ (List.range Tryz.prog.types.size).filter fun t=>Tryz.prog.rowNamed t [101, 114, 114, 111, 114]:=List.mem_filter.2 ⟨List.mem_range.2 e3, e4⟩
  rw [oneRow] at hm
  obtain rfl:=List.mem_singleton.1 hm
  simpa using World.var?_cell etN e5 0
 ·obtain ⟨ps, ⟨g, t, cs, fuel, p, q, h1, h2, h3, h4, h5, _⟩, _⟩:=h'.1
  obtain rfl:=Option.some.inj (opN'.symm.trans h1)
  have ht : t = 174:=Option.some.inj (h2.symm.trans (by kernel_rfl))
  subst ht
  rw [opsAt] at h4
  obtain ⟨xs, m, rfl, hx, hl, hlen, hg⟩:=DataW.trod_array Tryz.underlying174 h4
  have hxs : xs.map (·.1) = opTab.map fun r=>(.agg [.lit (.int .i64 r.1), .lit (.int .i64 r.2.1), .lit (.int .u8 r.2.2)] : DataW Unit):=by
   have:=congrArg Prod.fst hx
   simpa using this.symm
  have hflat : cs.toList = opCells:=rows_flat 3 _ opTab cs.toList (by rw [hl]; kernel_rfl) (fun i hi=>by
   have hi16 : i < 16:=hi
   have h6:=hg i hi16
   rw [cellsOp] at h6
   have h7 : xs[i]? = some (xs[i]'(by omega)):=List.getElem?_eq_getElem (by omega)
   have h8 : (xs.map (·.1))[i]? = some (xs[i]'(by omega)).1:=by rw [List.getElem?_map, h7]; rfl
   rw [hxs, List.getElem?_map, List.getElem?_eq_getElem hi] at h8
   rw [h7] at h6
   generalize xs[i]'(by omega) = y at h6 h8
   obtain ⟨d, q⟩:=y
   have h9:=Option.some.inj h8
   simp only at h9
   subst h9
   exact op_row h6)
  intro j v hv
  rw [Nat.zero_add, World.var?_cell opN' h3 j, ← hv, ← hflat]
  simp
 ·obtain ⟨ps, ⟨g0, t0, cs0, fuel0, p0, q0, _, _, _, _, ⟨g, t, cs, fuel, p, q, h1, h2, h3, h4, h5, _⟩, _⟩, _⟩:=h'.1
  obtain rfl:=Option.some.inj (fiN.symm.trans h1)
  have ht : t = 194:=Option.some.inj (h2.symm.trans (by kernel_rfl))
  subst ht
  rw [filsAt] at h4
  obtain ⟨xs, m, rfl, hx, hl, hlen, hg⟩:=DataW.trod_array Tryz.underlying194 h4
  have hxs : xs.map (·.1) = filTab.map fun r=>(.agg [.lit (.int .i64 r.1), .lit (.int .u8 r.2)] : DataW Unit):=by
   have:=congrArg Prod.fst hx
   simpa using this.symm
  have hflat : cs.toList = filCells:=rows_flat 2 _ filTab cs.toList (by rw [hl]; kernel_rfl) (fun i hi=>by
   have hi8 : i < 8:=hi
   have h6:=hg i hi8
   rw [cellsFi] at h6
   have h7 : xs[i]? = some (xs[i]'(by omega)):=List.getElem?_eq_getElem (by omega)
   have h8 : (xs.map (·.1))[i]? = some (xs[i]'(by omega)).1:=by rw [List.getElem?_map, h7]; rfl
   rw [hxs, List.getElem?_map, List.getElem?_eq_getElem hi] at h8
   rw [h7] at h6
   generalize xs[i]'(by omega) = y at h6 h8
   obtain ⟨d, q⟩:=y
   have h9:=Option.some.inj h8
   simp only at h9
   subst h9
   exact fil_row h6)
  intro j v hv
  rw [Nat.zero_add, World.var?_cell fiN h3 j, ← hv, ← hflat]
  simp
noncomputable def wit (os : Os) : World :=
 let w0:=World.holding Tryz.prog os ⟨#[], #[], []⟩
 let put (h : Array Obj) (g : Nat) (cs : Array Value) : Array Obj:=h.modify g fun
  | .cells _ t frozen=>.cells cs t frozen
  | o=>o
 { w0 with heap:=put (put (put w0.heap 0 #[.iface 151 (.agg #[typeHandle Tryz.prog 51])]) 1 opCells.toArray) 2 filCells.toArray }
theorem wit_met (os : Os) (args : Array Value) : laidMetH Tryz.prog laidL ((wit os).forCall (fun _ _=>0) ⟨#[], args, []⟩).memory :=
 laidMetH_of_parts (laidMet_of_run' 9 (by kernel_rfl) (by kernel_rfl)) (by kernel_rfl)
end Go.Proofs.YtconghaebebncaaGreatDoor.Ms
