import Derived.Test.YtbnebpdpeegpbaaDoorZR2
import Derived.Test.YtbnebpdpeegpbaaDoorZR3
import Derived.BigFrame
import Derived.Deep.MidRow
set_option linter.unusedVariables false
set_option maxRecDepth 100000
namespace Go.Proofs.YtbnebpdpeegpbaaDoor.Cs
open Go.RowKit
section
variable {P : Program} {ev : Operand → Value} {o : Oper} {x y : Operand} {t u : TypeId} {a b : Int} {w : World}
theorem run_cell {p : Addr} {v : Value} (ho : o.op = .load t x) (hx : ev x = .pointer (some p)) (hagg : (isAgg t).run P w = .ok false w) (hc : w.cell? p = some v) :
  (execOp ev o).run P w = .ok (.value v) w:=by
 unfold execOp
 simp [ho, hx, Instr.loadAt, Instr.sureAddr, loadVar, hagg, hc, Result.andThen]
theorem run_loadRow {g : Nat} {ty : TypeId} {cs : Array Value} {d : TypeDesc} (ho : o.op = .load ty x) (hx : ev x = .pointer (some ⟨g, 0, none⟩)) (h : Blk w g t cs)
  (hu : P.underlying ty = some d) (hd : (match d with | .struct _ | .array _ _=>true | _=>false) = true) (hi : (P.info? ty).map (·.size) = some cs.size) : (execOp ev o).run P w = .ok (.value (.agg cs)) w:=by
 unfold execOp
 simp only [ho, hx, Instr.loadAt, Instr.sureAddr, Sem.run_bind, Sem.run_pure, Result.andThen_ok, run_loadVar_row w g t ty cs (0, 0) d h hu hd hi]
theorem run_gtr_t (ho : o.op = .binOp .gtr t x y u) (hx : ev x = .int .i64 a) (hy : ev y = .int .i64 b) (h : b < a) : (execOp ev o).run P w = .ok (.value (.bool true)) w:=by
 unfold execOp
 simp [ho, hx, hy, eqGuard, binOp, go_sem, h]
theorem run_gtr_f (ho : o.op = .binOp .gtr t x y u) (hx : ev x = .int .i64 a) (hy : ev y = .int .i64 b) (h : a ≤ b) : (execOp ev o).run P w = .ok (.value (.bool false)) w:=by
 unfold execOp
 simp [ho, hx, hy, eqGuard, binOp, go_sem, h]
theorem run_eql_t (ho : o.op = .binOp .eql t x y u) (hx : ev x = .int .i64 a) (hy : ev y = .int .i64 b) (h : a = b) : (execOp ev o).run P w = .ok (.value (.bool true)) w:=by
 subst h
 unfold execOp
 simp [ho, hx, hy, eqGuard, binOp, go_sem]
theorem run_eql_f (ho : o.op = .binOp .eql t x y u) (hx : ev x = .int .i64 a) (hy : ev y = .int .i64 b) (h : a ≠ b) : (execOp ev o).run P w = .ok (.value (.bool false)) w:=by
 unfold execOp
 simp [ho, hx, hy, eqGuard, binOp, go_sem, h]
end
end Go.Proofs.YtbnebpdpeegpbaaDoor.Cs
namespace Go.Proofs.YtbnebpdpeegpbaaDoor.Cs
open Go.RowKit
theorem Turned.drew {g : Nat} {a b : World} (h : Turned g a b) : Turned g a b.drew:=⟨h.os, h.tape, h.output, h.size, h.block⟩
theorem Turned.far1 {g k i : Nat} {a b : World} (h : Turned g a b) (hk : a.heap.size ≤ k) {x : Value} : Turned g a (b.setCell ⟨k, i, none⟩ x):=by
 have q:=Turned.set_ k i x b
 refine ⟨q.os.trans h.os, q.tape.trans h.tape, q.output.trans h.output, Nat.le_trans h.size q.size, fun i hi hS=>(q.block i (Nat.lt_of_lt_of_le hi h.size) (by omega)).trans (h.block i hi hS)⟩
def seen (t s T S R : Int) : Int × Int:=if isC T S R = true ∧ above T S t s = true then (T, S) else (t, s)
set_option maxHeartbeats 1000000 in
theorem See_any (g : Nat) (t s r T S R : Int) (w : World) (h : IsGen w g t s r) : Calls Tryd.prog 21 #[.pointer (some ⟨g, 0, none⟩), cv T S R] w fun e w' =>
  e = .returned (.tuple #[]) ∧ Turned g w w' ∧ IsGen w' g (seen t s T S R).1 (seen t s T S R).2 r:=by
 have hl:=h.lt
 have C:=Lib.hid is_any
 have CC:=cmp_any T S r t s r
 have hP:=cmpC_pos T S r t s
 generalize cmpC T S r t s r = V at CC hP
 have CC:=Lib.hid CC
 have hP:=Lib.hid hP
 have BG:=h.alloc (.cells (gc T S R) 23)
 have BC:=Blk.new w 23 (gc T S R)
 obtain ⟨U, hU⟩ : ∃ U, Hid (U = seen t s T S R):=⟨_, rfl⟩
 rw [← hU.out]
 have hlt0 : g < (w.alloc (.cells (gc T S R) 23)).heap.size:=by simp; omega
 have ht0:=Turned.of_below g ((Below.refl w.heap.size w).alloc (Nat.le_refl _) (.cells (gc T S R) 23))
 by_cases hI : isC T S R = true
 ·have HI:=Lib.hid hI
  have Q : ∀ (V : Int), (∀ w : World, Calls Tryd.prog 14 #[cv T S r, cv t s r] w fun e w'=>e = .returned (.int .i64 V) ∧ Below w.heap.size w w') → ((0 < V ∧ U = (T, S)) ∨ (V ≤ 0 ∧ U = (t, s))) → Calls Tryd.prog 21 #[.pointer (some ⟨g, 0, none⟩), cv T S R] w fun e w' =>
  e = .returned (.tuple #[]) ∧ Turned g w w' ∧ IsGen w' g U.1 U.2 r:=by
   clear CC hP hU
   intro V CC hV
   have CC:=Lib.hid CC
   rcases hV with ⟨hV, rfl⟩ | ⟨hV, rfl⟩
   focus
    go_enter Tryd.func21, Tryd.ntmps21
    go_wp2_with fail
    refine (C.out _ _ _ _).mono ?_
    rintro e w1 ⟨rfl, hb1⟩
    have BG1:=BG.past hb1
    have BC1:=BC.past hb1
    have ht1:=ht0.trans (Turned.of_below g hb1)
    have hs1:=ht1.size
    have hne : g ≠ w.heap.size:=by omega
    have hne2 : w.heap.size ≠ g:=by omega
    rw [hI]
    clear hb1 BG BC h ht0
    obtain ⟨r0, r1, r2, s0, s1, s2⟩:=box BC1
    obtain ⟨q0, q1, q2, p0, p1, p2⟩:=box BG1
    go_wp2_with fail
    have BG2:=BG1.far hne (p:=⟨w.heap.size, 2, none⟩) (.int .i64 r)
    have BC2 : Blk (w1.setCell ⟨w.heap.size, 2, none⟩ (.int .i64 r)) w.heap.size 23 (gc T S r):=by simpa using BC1.set_ 2 (.int .i64 r)
    clear r0 r1 r2 s0 s1 s2 q0 q1 q2 p0 p1 p2
    go_region_held3 (fun w'=>w'.cell? ⟨w.heap.size, 0, none⟩ = some (.int .i64 T) ∧ w'.cell? ⟨w.heap.size, 1, none⟩ = some (.int .i64 S) ∧ w'.cell? ⟨w.heap.size, 2, none⟩ = some (.int .i64 r) ∧ w'.cell? ⟨g, 0, none⟩ = some (.int .i64 t) ∧ w'.cell? ⟨g, 1, none⟩ = some (.int .i64 s) ∧ w'.cell? ⟨g, 2, none⟩ = some (.int .i64 r)) (first | exact ⟨BC2.drew.cell 0, BC2.drew.cell 1, BC2.drew.cell 2, BG2.drew.cell 0, BG2.drew.cell 1, BG2.drew.cell 2⟩ | exact ⟨BC3.cell 0, BC3.cell 1, BC3.cell 2, BG3.cell 0, BG3.cell 1, BG3.cell 2⟩) (first | (go_at_call 14; refine (CC.out _).mono ?_; rintro e9 w2 ⟨rfl, hb2⟩; have BC3:=BC2.drew.past hb2; have BG3:=BG2.drew.past hb2))
    have BG4:=BG3
    obtain ⟨q0, q1, q2, p0, p1, p2⟩:=box BG4
    obtain ⟨r0, r1, r2, s0, s1, s2⟩:=box BC3
    go_wp2_with fail
    go_returns
    exact ⟨rfl, (((ht1.far1 (Nat.le_refl _)).drew.trans (Turned.of_below g hb2)).trans (Turned.set3 g _ _ _ _)), BG3.set3 T S r⟩
   go_enter Tryd.func21, Tryd.ntmps21
   go_wp2_with fail
   refine (C.out _ _ _ _).mono ?_
   rintro e w1 ⟨rfl, hb1⟩
   have BG1:=BG.past hb1
   have BC1:=BC.past hb1
   have ht1:=ht0.trans (Turned.of_below g hb1)
   have hs1:=ht1.size
   have hne : g ≠ w.heap.size:=by omega
   have hne2 : w.heap.size ≠ g:=by omega
   rw [hI]
   clear hb1 BG BC h ht0
   obtain ⟨r0, r1, r2, s0, s1, s2⟩:=box BC1
   obtain ⟨q0, q1, q2, p0, p1, p2⟩:=box BG1
   go_wp2_with fail
   have BG2:=BG1.far hne (p:=⟨w.heap.size, 2, none⟩) (.int .i64 r)
   have BC2 : Blk (w1.setCell ⟨w.heap.size, 2, none⟩ (.int .i64 r)) w.heap.size 23 (gc T S r):=by simpa using BC1.set_ 2 (.int .i64 r)
   clear r0 r1 r2 s0 s1 s2 q0 q1 q2 p0 p1 p2
   go_region_held3 (fun w'=>w'.cell? ⟨w.heap.size, 0, none⟩ = some (.int .i64 T) ∧ w'.cell? ⟨w.heap.size, 1, none⟩ = some (.int .i64 S) ∧ w'.cell? ⟨w.heap.size, 2, none⟩ = some (.int .i64 r) ∧ w'.cell? ⟨g, 0, none⟩ = some (.int .i64 t) ∧ w'.cell? ⟨g, 1, none⟩ = some (.int .i64 s) ∧ w'.cell? ⟨g, 2, none⟩ = some (.int .i64 r)) (first | exact ⟨BC2.drew.cell 0, BC2.drew.cell 1, BC2.drew.cell 2, BG2.drew.cell 0, BG2.drew.cell 1, BG2.drew.cell 2⟩ | exact ⟨BC3.cell 0, BC3.cell 1, BC3.cell 2, BG3.cell 0, BG3.cell 1, BG3.cell 2⟩) (first | (go_at_call 14; refine (CC.out _).mono ?_; rintro e9 w2 ⟨rfl, hb2⟩; have BC3:=BC2.drew.past hb2; have BG3:=BG2.drew.past hb2))
   have BG4:=BG3
   obtain ⟨q0, q1, q2, p0, p1, p2⟩:=box BG4
   obtain ⟨r0, r1, r2, s0, s1, s2⟩:=box BC3
   go_wp2_with fail
   go_returns
   exact ⟨rfl, ((ht1.far1 (Nat.le_refl _)).drew.trans (Turned.of_below g hb2)), BG3⟩
  refine Q V CC.out ?_
  rw [hU.out]
  unfold seen
  by_cases hA : above T S t s = true
  ·rw [if_pos ⟨hI, hA⟩]
   exact Or.inl ⟨hP.out.2 hA, rfl⟩
  ·rw [if_neg (fun h9=>hA h9.2)]
   exact Or.inr ⟨Int.not_lt.1 (fun h9=>hA (hP.out.1 h9)), rfl⟩
 ·go_enter Tryd.func21, Tryd.ntmps21
  go_wp2_with fail
  refine (C.out _ _ _ _).mono ?_
  rintro e w1 ⟨rfl, hb1⟩
  rw [show isC T S R = false by simpa using hI]
  go_wp2_with fail
  go_returns
  have hU2:=hU.out
  unfold seen at hU2
  rw [if_neg (fun h9=>hI h9.1)] at hU2
  rw [hU2]
  exact ⟨rfl, ht0.trans (Turned.of_below g hb1), BG.past hb1⟩
end Go.Proofs.YtbnebpdpeegpbaaDoor.Cs
namespace Go.Proofs.YtbnebpdpeegpbaaDoor.Cs
open Go.RowKit Go.Proofs.YtbnebpdpeegpbaaDoor.Ms
theorem nxt_cases (t s now : Int) : (t < now ∧ nxt t s now = (now, 0)) ∨ (now ≤ t ∧ s < 65535 ∧ nxt t s now = (t, s + 1)) ∨ (now ≤ t ∧ 65535 ≤ s ∧ nxt t s now = (t + 1, 0)):=by
 unfold nxt
 by_cases h : now ≤ t
 ·by_cases h2 : s < 65535
  ·exact Or.inr (Or.inl ⟨h, h2, by rw [if_pos h, if_pos h2]⟩)
  ·exact Or.inr (Or.inr ⟨h, by omega, by rw [if_pos h, if_neg h2]⟩)
 ·exact Or.inl ⟨by omega, by rw [if_neg h]⟩
end Go.Proofs.YtbnebpdpeegpbaaDoor.Cs
namespace Go.Proofs.YtbnebpdpeegpbaaDoor.Pl
open Go.RowKit
section
variable {P : Program} {ops : Array Oper} {Q : Exit → Act → World → Prop} {a : Act} {w : World} {o : Oper} {rest : List Oper}
theorem take (v : Value) (hw : Region.wanted o (yielded ops a.tmps) = true) (hrun : (execOp a.eval o).run P w = .ok (.value v) w) (h : wpList P ops Q rest (a.put o.dst v) w) : wpList P ops Q (o :: rest) a w :=
 BigFrame.wpList_want hw fun K hK=>by
  unfold Oper.wp
  rw [hrun, Oper.upon_value]
  exact hK _ _ h
theorem run (v : Value) (w' : World) (hw : Region.wanted o (yielded ops a.tmps) = true) (hrun : (execOp a.eval o).run P w = .ok (.value v) w') (h : wpList P ops Q rest (a.put o.dst v) w') : wpList P ops Q (o :: rest) a w :=
 BigFrame.wpList_want hw fun K hK=>by
  unfold Oper.wp
  rw [hrun, Oper.upon_value]
  exact hK _ _ h
theorem call (hw : Region.wanted o (yielded ops a.tmps) = true) (f : FuncId) (args : Array Value) (hrun : (execOp a.eval o).run P w = .ok (.enter f args) w) {R : Ending → World → Prop} (hc : Calls P f args w R)
  (h : ∀ e w', R e w' → ∃ v, e = .returned v ∧ wpList P ops Q rest (a.put o.dst v) w') : wpList P ops Q (o :: rest) a w :=
 BigFrame.wpList_want hw fun K hK=>by
  unfold Oper.wp
  rw [hrun, Oper.upon_enter]
  refine hc.mono fun e w' hR=>?_
  obtain ⟨v, rfl, hW⟩:=h e w' hR
  exact hK _ _ hW
theorem frame {l : List Oper} (a' : Act) (ha : a = a') (h : wpList P ops Q l a' w) : wpList P ops Q l a w:=ha ▸ h
def idleOps (ops : Array Oper) : List Oper → Act → Option Act
 | [], a=>some a
 | o :: l, a=>match Rg.idleOne ops o a with
  | some a'=>idleOps ops l a'
  | none=>none
theorem idle : ∀ (n : Nat) (l : List Oper) (a a' : Act), idleOps ops (l.take n) a = some a' → wpList P ops Q (l.drop n) a' w → wpList P ops Q l a w
 | 0, l, a, a', h, hK=>by
  obtain rfl:=Option.some.inj h
  exact hK
 | n + 1, [], a, a', h, hK=>by
  obtain rfl:=Option.some.inj h
  exact hK
 | n + 1, o :: l, a, a', h, hK=>by
  rw [List.take_succ_cons, idleOps] at h
  split at h
  ·rename_i a1 h1
   have hrest:=idle n l a1 a' h (by simpa using hK)
   obtain ⟨v, rfl, hy⟩:=Rg.idleOne_yields (P:=P) (S:=fun w'=>w' = w) h1
   rcases hy with ⟨hw, hy⟩ | ⟨hw, rfl⟩
   ·exact take v hw (hy w rfl) hrest
   ·exact wpList_skip (by simpa using hw) hrest
  ·cases h
end
theorem run_index {P : Program} {w : World} {ev : Operand → Value} {o : Oper} {x y : Operand} {t elem : TypeId} {ad : Addr} {n c q k : Nat} {i : TypeInfo} (hu : P.underlying t = some (.slice elem)) (hi : P.info? elem = some i) (hk : i.size = k)
  (ho : o.op = .indexAddr t x y) (hx : ev x = .slice (some ad) n c) (hy : ev y = .int .i64 q) (h : q < n) : (execOp ev o).run P w = .ok (.value (.pointer (some (ad.add (q * k))))) w:=by
 unfold execOp
 have h1 : (0 : Int) ≤ (q : Int) ∧ (q : Int) < (n : Int):=by omega
 simp [ho, hx, hy, Instr.indexAt, asIntOf, underlying, hu, sizeOf, typeInfo, hi, hk, h1, h, Result.andThen]
end Go.Proofs.YtbnebpdpeegpbaaDoor.Pl
namespace Go.Proofs.YtbnebpdpeegpbaaDoor.Cs
open Go.RowKit
section
variable {P : Program} {ev : Operand → Value} {o : Oper} {x y : Operand} {t u : TypeId} {a b : Int} {w : World}
theorem run_lss_f (ho : o.op = .binOp .lss t x y u) (hx : ev x = .int .i64 a) (hy : ev y = .int .i64 b) (h : b ≤ a) : (execOp ev o).run P w = .ok (.value (.bool false)) w:=by
 unfold execOp
 simp [ho, hx, hy, eqGuard, binOp, go_sem, h]
theorem run_leq_f (ho : o.op = .binOp .leq t x y u) (hx : ev x = .int .i64 a) (hy : ev y = .int .i64 b) (h : b < a) : (execOp ev o).run P w = .ok (.value (.bool false)) w:=by
 unfold execOp
 simp [ho, hx, hy, eqGuard, binOp, go_sem, h]
theorem run_neq_f (ho : o.op = .binOp .neq t x y u) (hx : ev x = .int .i64 a) (hy : ev y = .int .i64 a) : (execOp ev o).run P w = .ok (.value (.bool false)) w:=by
 unfold execOp
 simp [ho, hx, hy, eqGuard, binOp, go_sem]
theorem run_load3 {q k : Nat} {c0 c1 c2 : Value} (ho : o.op = .load 23 x) (hx : ev x = .pointer (some ⟨q, k, none⟩))
  (h0 : w.cell? ⟨q, k, none⟩ = some c0) (h1 : w.cell? ⟨q, k + 1, none⟩ = some c1) (h2 : w.cell? ⟨q, k + 2, none⟩ = some c2) :
  (execOp ev o).run Tryd.prog w = .ok (.value (.agg #[c0, c1, c2])) w:=by
 have hr : w.rangeAt q k [c0, c1, c2]:=by
  intro j v hv
  match j with
  | 0=>injection hv with hv; subst hv; exact h0
  | 1=>injection hv with hv; subst hv; exact h1
  | 2=>injection hv with hv; subst hv; exact h2
  | j + 3=>cases hv
 have hl:=run_loadAt_mid w q k 23 _ _ hr Tryd.underlying23 rfl (by kernel_rfl)
 unfold execOp
 simp only [ho, hx, Sem.run_bind, hl, Result.andThen_ok, Sem.run_pure]
theorem run_rem8 {K : Int} (ho : o.op = .binOp .rem t x y u) (hx : ev x = .int .u8 a) (hy : ev y = .int .u8 6) (h0 : 0 ≤ a) (h1 : a ≤ 255) (h : a % 6 = K) : (execOp ev o).run P w = .ok (.value (.int .u8 K)) w:=by
 have e : a.tmod 6 = K:=by rw [Int.tmod_eq_emod_of_nonneg h0, h]
 unfold execOp
 simp [ho, hx, hy, eqGuard, binOp, go_sem, e]
theorem run_conv8 {K : Int} (ho : o.op = .convert 5 3 x) (hx : ev x = .int .u8 K) (h0 : 0 ≤ K) (h1 : K ≤ 255) : (execOp ev o).run Tryd.prog w = .ok (.value (.int .i64 K)) w:=by
 have e : IntKind.i64.wrap K = K:=IntWalk.i64_in _ (by omega)
 unfold execOp
 simp [ho, hx, convert, underlying, Tryd.underlying5, Tryd.underlying3, go_sem, e]
end
theorem stepInfo : ∃ i, Tryd.prog.info? 40 = some i ∧ i.size = 5:=by
 have h : (Tryd.prog.info? 40).map (·.size) = some 5:=by kernel_rfl
 cases e : Tryd.prog.info? 40 with
 | none=>rw [e] at h; cases h
 | some i=>rw [e] at h; exact ⟨i, rfl, Option.some.inj h⟩
end Go.Proofs.YtbnebpdpeegpbaaDoor.Cs
