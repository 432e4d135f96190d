/- What single operations yield: a load of a cell, of a number, a comparison. -/
import Derived.Test.YtbnebpdpeegpbaaDoorCsCall
import Derived.Test.YtbnebpdpeegpbaaDoorRg
namespace Go.Proofs.YtbnebpdpeegpbaaDoor.Cs
open Go.RowKit
set_option linter.unusedVariables false
set_option maxRecDepth 100000

section
variable {P : Program} {ev : Operand → Value} {o : Oper} {x y : Operand} {t u : TypeId} {a b : Int} {w : World}
theorem run_cell {p : Addr} {v : Value} (ho : o.op = .load t x) (hx : ev x = .pointer (some p)) (hagg : (isAgg t).run P w = .ok false w) (hc : w.cell? p = some v) :
    (execOp ev o).run P w = .ok (.value v) w := by
  unfold execOp
  simp [ho, hx, Instr.loadAt, Instr.sureAddr, loadVar, hagg, hc, Result.andThen]
theorem run_loadRow {g : Nat} {ty : TypeId} {cs : Array Value} {d : TypeDesc} (ho : o.op = .load ty x) (hx : ev x = .pointer (some ⟨g, 0, none⟩)) (h : Blk w g t cs)
    (hu : P.underlying ty = some d) (hd : (match d with | .struct _ | .array _ _ => true | _ => false) = true) (hi : (P.info? ty).map (·.size) = some cs.size) : (execOp ev o).run P w = .ok (.value (.agg cs)) w := by
  unfold execOp
  simp only [ho, hx, Instr.loadAt, Instr.sureAddr, Sem.run_bind, Sem.run_pure, Result.andThen_ok, run_loadVar_row w g t ty cs (0, 0) d h hu hd hi]
theorem run_gtr_t (ho : o.op = .binOp .gtr t x y u) (hx : ev x = .int .i64 a) (hy : ev y = .int .i64 b) (h : b < a) : (execOp ev o).run P w = .ok (.value (.bool true)) w := by
  unfold execOp
  simp [ho, hx, hy, eqGuard, binOp, go_sem, h]
theorem run_gtr_f (ho : o.op = .binOp .gtr t x y u) (hx : ev x = .int .i64 a) (hy : ev y = .int .i64 b) (h : a ≤ b) : (execOp ev o).run P w = .ok (.value (.bool false)) w := by
  unfold execOp
  simp [ho, hx, hy, eqGuard, binOp, go_sem, h]
theorem run_eql_t (ho : o.op = .binOp .eql t x y u) (hx : ev x = .int .i64 a) (hy : ev y = .int .i64 b) (h : a = b) : (execOp ev o).run P w = .ok (.value (.bool true)) w := by
  subst h
  unfold execOp
  simp [ho, hx, hy, eqGuard, binOp, go_sem]
theorem run_eql_f (ho : o.op = .binOp .eql t x y u) (hx : ev x = .int .i64 a) (hy : ev y = .int .i64 b) (h : a ≠ b) : (execOp ev o).run P w = .ok (.value (.bool false)) w := by
  unfold execOp
  simp [ho, hx, hy, eqGuard, binOp, go_sem, h]
end
end Go.Proofs.YtbnebpdpeegpbaaDoor.Cs
