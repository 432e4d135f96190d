/- Regions that keep their order, step by step: an operation that yields a value; a call by its contract; what is passed over or only moves values, many at once. -/
import Derived.Test.YtiglepmgonmhiaaRg
import Derived.BigFrame
namespace Go.Proofs.Ytiglepmgonmhiaa.Pl
open Go.RowKit
set_option linter.unusedVariables false
set_option maxRecDepth 100000

/-- A walk's stop. -/
structure Stopped (p : Prop) : Prop where
  out : p
theorem stop {p : Prop} (h : Stopped p) : p := h.out
section
variable {P : Program} {ops : Array Oper} {Q : Exit → Act → World → Prop} {a : Act} {w : World} {o : Oper} {rest : List Oper}

/-- An operation yields v. -/
theorem take (v : Value) (hw : Region.wanted o (yielded ops a.tmps) = true) (hrun : (execOp a.eval o).run P w = .ok (.value v) w) (h : wpList P ops Q rest (a.put o.dst v) w) : wpList P ops Q (o :: rest) a w :=
  BigFrame.wpList_want hw fun K hK => by
    unfold Oper.wp
    rw [hrun, Oper.upon_value]
    exact hK _ _ h
/-- An operation yields v and leaves another world. -/
theorem run (v : Value) (w' : World) (hw : Region.wanted o (yielded ops a.tmps) = true) (hrun : (execOp a.eval o).run P w = .ok (.value v) w') (h : wpList P ops Q rest (a.put o.dst v) w') : wpList P ops Q (o :: rest) a w :=
  BigFrame.wpList_want hw fun K hK => by
    unfold Oper.wp
    rw [hrun, Oper.upon_value]
    exact hK _ _ h
/-- An operation only leaves another world. -/
theorem skip (w' : World) (hw : Region.wanted o (yielded ops a.tmps) = true) (hrun : (execOp a.eval o).run P w = .ok .skip w') (h : wpList P ops Q rest (a.put o.dst undef) w') : wpList P ops Q (o :: rest) a w :=
  BigFrame.wpList_want hw fun K hK => by
    unfold Oper.wp
    rw [hrun, Oper.upon_skip]
    exact hK _ _ h
/-- A call, by its contract. -/
theorem call (hw : Region.wanted o (yielded ops a.tmps) = true) (f : FuncId) (args : Array Value) (hrun : (execOp a.eval o).run P w = .ok (.enter f args) w) {R : Ending → World → Prop} (hc : Calls P f args w R)
    (h : ∀ e w', R e w' → ∃ v, e = .returned v ∧ wpList P ops Q rest (a.put o.dst v) w') : wpList P ops Q (o :: rest) a w :=
  BigFrame.wpList_want hw fun K hK => by
    unfold Oper.wp
    rw [hrun, Oper.upon_enter]
    refine hc.mono fun e w' hR => ?_
    obtain ⟨v, rfl, hW⟩ := h e w' hR
    exact hK _ _ hW
/-- The frame, said anew. -/
theorem frame {l : List Oper} (a' : Act) (ha : a = a') (h : wpList P ops Q l a' w) : wpList P ops Q l a w := ha ▸ h
theorem done (h : Q .normal a w) : wpList P ops Q [] a w := h
def idleOps (ops : Array Oper) : List Oper → Act → Option Act
  | [], a => some a
  | o :: l, a => match Rg.idleOne ops o a with
    | some a' => idleOps ops l a'
    | none => none
theorem idle : ∀ (n : Nat) (l : List Oper) (a a' : Act), idleOps ops (l.take n) a = some a' → wpList P ops Q (l.drop n) a' w → wpList P ops Q l a w
  | 0, l, a, a', h, hK => by
    obtain rfl := Option.some.inj h
    exact hK
  | n + 1, [], a, a', h, hK => by
    obtain rfl := Option.some.inj h
    exact hK
  | n + 1, o :: l, a, a', h, hK => by
    rw [List.take_succ_cons, idleOps] at h
    split at h
    · rename_i a1 h1
      have hrest := idle n l a1 a' h (by simpa using hK)
      obtain ⟨v, rfl, hy⟩ := Rg.idleOne_yields (P := P) (S := fun w' => w' = w) h1
      rcases hy with ⟨hw, hy⟩ | ⟨hw, rfl⟩
      · exact take v hw (hy w rfl) hrest
      · exact wpList_skip (by simpa using hw) hrest
    · cases h
theorem idle1 {o1 : Oper} {l : List Oper} {a : Act} (a' : Act) (h : idleOps ops [o1] a = some a') (hK : wpList P ops Q l a' w) : wpList P ops Q (o1 :: l) a w := idle 1 (o1 :: l) a a' h hK
theorem idle2 {o1 o2 : Oper} {l : List Oper} {a : Act} (a' : Act) (h : idleOps ops [o1, o2] a = some a') (hK : wpList P ops Q l a' w) : wpList P ops Q (o1 :: o2 :: l) a w := idle 2 (o1 :: o2 :: l) a a' h hK
/-- All that is left is passed over. -/
theorem rests {l : List Oper} (a' : Act) (h : idleOps ops l a = some a') (hK : Q .normal a' w) : wpList P ops Q l a w :=
  idle l.length l a a' (by rw [List.take_length]; exact h) (by rw [List.drop_length]; exact hK)
end
/-- The address of a slice's element. -/
theorem run_index {P : Program} {w : World} {ev : Operand → Value} {o : Oper} {x y : Operand} {t elem : TypeId} {ad : Addr} {n c q k : Nat} {i : TypeInfo} (hu : P.underlying t = some (.slice elem)) (hi : P.info? elem = some i) (hk : i.size = k)
    (ho : o.op = .indexAddr t x y) (hx : ev x = .slice (some ad) n c) (hy : ev y = .int .i64 q) (h : q < n) : (execOp ev o).run P w = .ok (.value (.pointer (some (ad.add (q * k))))) w := by
  unfold execOp
  have h1 : (0 : Int) ≤ (q : Int) ∧ (q : Int) < (n : Int) := by omega
  simp [ho, hx, hy, Instr.indexAt, asIntOf, underlying, hu, sizeOf, typeInfo, hi, hk, h1, h, Result.andThen]
end Go.Proofs.Ytiglepmgonmhiaa.Pl
