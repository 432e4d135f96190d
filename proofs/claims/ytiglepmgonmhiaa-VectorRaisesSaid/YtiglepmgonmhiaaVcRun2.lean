/- What single operations yield: an array's place, a field's place, min and max of numbers. -/
import Derived.Test.YtiglepmgonmhiaaVcCov
namespace Go.Proofs.Ytiglepmgonmhiaa.Cs
open Go.RowKit
set_option linter.unusedVariables false
set_option maxRecDepth 100000

section
variable {ev : Operand → Value} {o : Oper} {x y : Operand} {w : World}
theorem run_idxA {g q : Nat} (ho : o.op = .indexAddr 37 x y) (hx : ev x = .pointer (some ⟨g, 0, none⟩)) (hy : ev y = .int .i64 q) (h : q < 3) : (execOp ev o).run Try.prog w = .ok (.value (.pointer (some ⟨g, q * 3, none⟩))) w := by
  obtain ⟨i0, hi, hz0, hz1, hz2⟩ := infoParts infoN
  unfold execOp
  have h1 : (0 : Int) ≤ (q : Int) ∧ (q : Int) < ((3 : Nat) : Int) := by omega
  simp [ho, hx, hy, Instr.indexAt, Instr.sureAddr, asIntOf, underlying, Try.underlying37, sizeOf, typeInfo, hi, hz1, h, Result.andThen]
  rw [add_lit0]
theorem run_eqi_t {P : Program} {t u : TypeId} {a b : Int} (ho : o.op = .binOp .eql t x y u) (hx : ev x = .int .i64 a) (hy : ev y = .int .i64 b) (h : a = b) : (execOp ev o).run P w = .ok (.value (.bool true)) w := by
  subst h
  unfold execOp
  simp [ho, hx, hy, eqGuard, binOp, go_sem]
theorem run_eqi_f {P : Program} {t u : TypeId} {a b : Int} (ho : o.op = .binOp .eql t x y u) (hx : ev x = .int .i64 a) (hy : ev y = .int .i64 b) (h : a ≠ b) : (execOp ev o).run P w = .ok (.value (.bool false)) w := by
  unfold execOp
  simp [ho, hx, hy, eqGuard, binOp, go_sem, h]
theorem run_min {P : Program} {t u : TypeId} {a b : Int} (ho : o.op = .call { callee := .builtin .min, args := #[x, y], argTypes := #[t, u] }) (hx : ev x = .int .i64 a) (hy : ev y = .int .i64 b) (h : a ≤ b) : (execOp ev o).run P w = .ok (.value (.int .i64 a)) w := by
  have h1 : ¬ b < a := by omega
  unfold execOp
  simp [ho, hx, hy, resolve, invoke, builtin, Builtin.min_, Builtin.min2, h1]
theorem run_max {P : Program} {t u : TypeId} {a b : Int} (ho : o.op = .call { callee := .builtin .max, args := #[x, y], argTypes := #[t, u] }) (hx : ev x = .int .i64 a) (hy : ev y = .int .i64 b) (h : a ≤ b) : (execOp ev o).run P w = .ok (.value (.int .i64 b)) w := by
  have h1 : (if b > a then b else a) = b := by split <;> omega
  unfold execOp
  simp [ho, hx, hy, resolve, invoke, builtin, Builtin.max_, Builtin.max2, h1]
end
end Go.Proofs.Ytiglepmgonmhiaa.Cs
