import Derived.Test.YtbnebpdpeegpbaaDoorZT3
import Derived.Test.YtbnebpdpeegpbaaDoorZT4
import Derived.BigFrame
import Derived.Deep.MidRow
set_option linter.unusedVariables false
set_option maxRecDepth 100000
namespace Go.Proofs.YtbnebpdpeegpbaaDoor.Cs
open Go.RowKit
section
variable {P : Program} {ev : Operand → Value} {o : Oper} {x y : Operand} {t u : TypeId} {a b : Int} {w : World}
theorem run_loadRow {g : Nat} {ty : TypeId} {cs : Array Value} {d : TypeDesc} (ho : o.op = .load ty x) (hx : ev x = .pointer (some ⟨g, 0, none⟩)) (h : Blk w g t cs)
  (hu : P.underlying ty = some d) (hd : (match d with | .struct _ | .array _ _=>true | _=>false) = true) (hi : (P.info? ty).map (·.size) = some cs.size) : (execOp ev o).run P w = .ok (.value (.agg cs)) w:=by
 unfold execOp
 simp only [ho, hx, Instr.loadAt, Instr.sureAddr, Sem.run_bind, Sem.run_pure, Result.andThen_ok, run_loadVar_row w g t ty cs (0, 0) d h hu hd hi]
theorem run_eql_t (ho : o.op = .binOp .eql t x y u) (hx : ev x = .int .i64 a) (hy : ev y = .int .i64 b) (h : a = b) : (execOp ev o).run P w = .ok (.value (.bool true)) w:=by
 subst h
 unfold execOp
 simp [ho, hx, hy, eqGuard, binOp, go_sem]
end
end Go.Proofs.YtbnebpdpeegpbaaDoor.Cs
namespace Go.Proofs.YtbnebpdpeegpbaaDoor.Cs
open Go.RowKit
theorem Turned.far3 {g k : Nat} {a b : World} (h : Turned g a b) (hk : a.heap.size ≤ k) {x y z : Value} : Turned g a (((b.setCell ⟨k, 0, none⟩ x).setCell ⟨k, 1, none⟩ y).setCell ⟨k, 2, none⟩ z):=by
 have q:=Turned.set3 k x y z b
 refine ⟨q.os.trans h.os, q.tape.trans h.tape, q.output.trans h.output, Nat.le_trans h.size q.size, fun i hi hS=>(q.block i (Nat.lt_of_lt_of_le hi h.size) (by omega)).trans (h.block i hi hS)⟩
set_option maxHeartbeats 1000000 in
theorem Next_any (g : Nat) (t s r now : Int) (h0 : 0 ≤ t) (ht : t ≤ 1099511627776) (hs : 0 ≤ s) (w : World) (h : IsGen w g t s r) : Calls Tryd.prog 19 #[.pointer (some ⟨g, 0, none⟩), .int .i64 now] w fun e w' =>
  Turned g w w' ∧ ((nxt t s now).1 ≤ 1099511627776 ∧ e = .returned (.tuple #[cv (nxt t s now).1 (nxt t s now).2 r, .int .i64 0]) ∧ IsGen w' g (nxt t s now).1 (nxt t s now).2 r ∨ 1099511627776 < (nxt t s now).1 ∧ e = .returned (.tuple #[cv 0 0 0, .int .i64 19]) ∧ IsGen w' g t s r):=by
 have c0 : w.cell? ⟨g, 0, none⟩ = some (.int .i64 t):=h.cell 0
 have c1 : w.cell? ⟨g, 1, none⟩ = some (.int .i64 s):=h.cell 1
 have c2 : w.cell? ⟨g, 2, none⟩ = some (.int .i64 r):=h.cell 2
 have hl:=h.lt
 have C:=Lib.hid (behind_any t s r now h0 ht hs)
 generalize (nxt t s now).1 = T at *
 generalize (nxt t s now).2 = S at *
 have hH:=Lib.hid h
 clear h h0 ht hs
 by_cases hT : 1099511627776 < T
 ·go_enter Tryd.func19, Tryd.ntmps19
  go_wp2_with fail
  refine (C.out _).mono ?_
  rintro e w1 ⟨rfl, hb1⟩
  have BR:=((Blk.new w 23 (gc 0 0 0)).past hb1).alloc (.cells (gc T S r) 23)
  have BG:=((hH.out.alloc (.cells (gc 0 0 0) 23)).past hb1).alloc (.cells (gc T S r) 23)
  have hne : g ≠ w.heap.size:=by omega
  have hsz:=hb1.size
  have htu:=(Turned.of_below g (((Below.refl w.heap.size w).alloc (Nat.le_refl _) (.cells (gc 0 0 0) 23)).trans (hb1.mono (by simp)))).trans (Turned.of_below g ((Below.refl w1.heap.size w1).alloc (Nat.le_refl _) (.cells (gc T S r) 23)))
  have BC:=Blk.new w1 23 (gc T S r)
  have hlt : w.heap.size + 1 ≤ w1.heap.size:=by simpa using hsz
  have hne2 : w1.heap.size ≠ g:=by omega
  have hne3 : w1.heap.size ≠ w.heap.size:=by omega
  have hne4 : w.heap.size ≠ g:=by omega
  have hne5 : g ≠ w1.heap.size:=by omega
  have l0 : (w1.alloc (.cells (gc T S r) 23)).cell? ⟨w1.heap.size, 0, none⟩ = some (.int .i64 T):=BC.cell 0
  have l1 : (w1.alloc (.cells (gc T S r) 23)).cell? ⟨w1.heap.size, 1, none⟩ = some (.int .i64 S):=BC.cell 1
  have l2 : (w1.alloc (.cells (gc T S r) 23)).cell? ⟨w1.heap.size, 2, none⟩ = some (.int .i64 r):=BC.cell 2
  obtain ⟨r0, r1, r2, s0, s1, s2⟩:=box BR
  obtain ⟨q0, q1, q2, p0, p1, p2⟩:=box BG
  clear c0 c1 c2 C hb1 hH
  go_wp2_with fail
  refine bodyPost_ret (res_cn rfl _ _ w.heap.size 0 0 0 (.int .i64 19) rfl rfl (BR.set3 0 0 0)) rfl ?_
  exact ⟨htu.far3 (Nat.le_refl _), Or.inr ⟨hT, rfl, ((BG.far hne _).far hne _).far hne _⟩⟩
 ·have hT : T ≤ 1099511627776:=by omega
  go_enter Tryd.func19, Tryd.ntmps19
  go_wp2_with fail
  refine (C.out _).mono ?_
  rintro e w1 ⟨rfl, hb1⟩
  have BR:=((Blk.new w 23 (gc 0 0 0)).past hb1).alloc (.cells (gc T S r) 23)
  have BG:=((hH.out.alloc (.cells (gc 0 0 0) 23)).past hb1).alloc (.cells (gc T S r) 23)
  have hne : g ≠ w.heap.size:=by omega
  have hsz:=hb1.size
  have htu:=(Turned.of_below g (((Below.refl w.heap.size w).alloc (Nat.le_refl _) (.cells (gc 0 0 0) 23)).trans (hb1.mono (by simp)))).trans (Turned.of_below g ((Below.refl w1.heap.size w1).alloc (Nat.le_refl _) (.cells (gc T S r) 23)))
  have BC:=Blk.new w1 23 (gc T S r)
  have hlt : w.heap.size + 1 ≤ w1.heap.size:=by simpa using hsz
  have hne2 : w1.heap.size ≠ g:=by omega
  have hne3 : w1.heap.size ≠ w.heap.size:=by omega
  have hne4 : w.heap.size ≠ g:=by omega
  have hne5 : g ≠ w1.heap.size:=by omega
  have l0 : (w1.alloc (.cells (gc T S r) 23)).cell? ⟨w1.heap.size, 0, none⟩ = some (.int .i64 T):=BC.cell 0
  have l1 : (w1.alloc (.cells (gc T S r) 23)).cell? ⟨w1.heap.size, 1, none⟩ = some (.int .i64 S):=BC.cell 1
  have l2 : (w1.alloc (.cells (gc T S r) 23)).cell? ⟨w1.heap.size, 2, none⟩ = some (.int .i64 r):=BC.cell 2
  obtain ⟨r0, r1, r2, s0, s1, s2⟩:=box BR
  obtain ⟨q0, q1, q2, p0, p1, p2⟩:=box BG
  clear c0 c1 c2 C hb1 hH
  go_wp2_with fail
  refine bodyPost_ret (res_cn rfl _ _ w.heap.size T S r (.int .i64 0) rfl rfl ((((BR.far hne4 _).far hne4 _).far hne4 _).set3 T S r)) rfl ?_
  exact ⟨(htu.trans (Turned.set3 g _ _ _ _)).far3 (Nat.le_refl _), Or.inl ⟨hT, rfl, (((BG.set3 T S r).far hne _).far hne _).far hne _⟩⟩
end Go.Proofs.YtbnebpdpeegpbaaDoor.Cs
namespace Go.Proofs.YtbnebpdpeegpbaaDoor.Cs
open Go.RowKit Go.Proofs.YtbnebpdpeegpbaaDoor.Ms
end Go.Proofs.YtbnebpdpeegpbaaDoor.Cs
namespace Go.Proofs.YtbnebpdpeegpbaaDoor.Pl
open Go.RowKit
section
variable {P : Program} {ops : Array Oper} {Q : Exit → Act → World → Prop} {a : Act} {w : World} {o : Oper} {rest : List Oper}
theorem take (v : Value) (hw : Region.wanted o (yielded ops a.tmps) = true) (hrun : (execOp a.eval o).run P w = .ok (.value v) w) (h : wpList P ops Q rest (a.put o.dst v) w) : wpList P ops Q (o :: rest) a w :=
 BigFrame.wpList_want hw fun K hK=>by
  unfold Oper.wp
  rw [hrun, Oper.upon_value]
  exact hK _ _ h
theorem run (v : Value) (w' : World) (hw : Region.wanted o (yielded ops a.tmps) = true) (hrun : (execOp a.eval o).run P w = .ok (.value v) w') (h : wpList P ops Q rest (a.put o.dst v) w') : wpList P ops Q (o :: rest) a w :=
 BigFrame.wpList_want hw fun K hK=>by
  unfold Oper.wp
  rw [hrun, Oper.upon_value]
  exact hK _ _ h
theorem call (hw : Region.wanted o (yielded ops a.tmps) = true) (f : FuncId) (args : Array Value) (hrun : (execOp a.eval o).run P w = .ok (.enter f args) w) {R : Ending → World → Prop} (hc : Calls P f args w R)
  (h : ∀ e w', R e w' → ∃ v, e = .returned v ∧ wpList P ops Q rest (a.put o.dst v) w') : wpList P ops Q (o :: rest) a w :=
 BigFrame.wpList_want hw fun K hK=>by
  unfold Oper.wp
  rw [hrun, Oper.upon_enter]
  refine hc.mono fun e w' hR=>?_
  obtain ⟨v, rfl, hW⟩:=h e w' hR
  exact hK _ _ hW
theorem frame {l : List Oper} (a' : Act) (ha : a = a') (h : wpList P ops Q l a' w) : wpList P ops Q l a w:=ha ▸ h
def idleOps (ops : Array Oper) : List Oper → Act → Option Act
 | [], a=>some a
 | o :: l, a=>match Rg.idleOne ops o a with
  | some a'=>idleOps ops l a'
  | none=>none
theorem idle : ∀ (n : Nat) (l : List Oper) (a a' : Act), idleOps ops (l.take n) a = some a' → wpList P ops Q (l.drop n) a' w → wpList P ops Q l a w
 | 0, l, a, a', h, hK=>by
  obtain rfl:=Option.some.inj h
  exact hK
 | n + 1, [], a, a', h, hK=>by
  obtain rfl:=Option.some.inj h
  exact hK
 | n + 1, o :: l, a, a', h, hK=>by
  rw [List.take_succ_cons, idleOps] at h
  split at h
  ·rename_i a1 h1
   have hrest:=idle n l a1 a' h (by simpa using hK)
   obtain ⟨v, rfl, hy⟩:=Rg.idleOne_yields (P:=P) (S:=fun w'=>w' = w) h1
   rcases hy with ⟨hw, hy⟩ | ⟨hw, rfl⟩
   ·exact take v hw (hy w rfl) hrest
   ·exact wpList_skip (by simpa using hw) hrest
  ·cases h
end
end Go.Proofs.YtbnebpdpeegpbaaDoor.Pl
namespace Go.Proofs.YtbnebpdpeegpbaaDoor.Cs
open Go.RowKit
section
variable {P : Program} {ev : Operand → Value} {o : Oper} {x y : Operand} {t u : TypeId} {a b : Int} {w : World}
end
end Go.Proofs.YtbnebpdpeegpbaaDoor.Cs
