/- errors.Is of a Fault that holds an Errno, and an Errno: whether the numbers are alike. -/
import Derived.Test.YtiaghkngafajgaaChecked
import Derived.Test.YtiaghkngafajgaaCut
import Derived.LaidEql
import Derived.Stop.Asserts
namespace Go.Proofs.Ytiaghkngafajgaa
open Go.RowKit Go.Extern.Stop Go.Stop Go.Extern
set_option linter.unusedVariables false
set_option maxRecDepth 100000

theorem isTypeOf (v : Value) (w : World) : (Extern.ReflectliteType.typeOf #[.iface 30 v]).run Try.prog w = .ok (.iface 76 (.agg #[.pointer (some ⟨0, 30, none⟩)])) w := by kernel_rfl
theorem isComparable (w : World) : ((Extern.ReflectliteType.method fun t => do Extern.Rtype.noPackHeld "Comparable" t; pure (.bool (← typeInfo t).comparable)) #[.agg #[.pointer (some ⟨0, 30, none⟩)]]).run Try.prog w = .ok (.bool true) w := by kernel_rfl
theorem callTypeOf (v : Value) (w : World) : (callFunc 27 #[.iface 30 v]).run Try.prog w = .ok (Next.value (.iface 76 (.agg #[.pointer (some ⟨0, 30, none⟩)]))) w := by
  have h := @run_callFunc_extern Try.prog 27 _ Extern.ReflectliteType.typeOf Try.func27 (by kernel_rfl) (by kernel_rfl) (by kernel_rfl) (by kernel_rfl)
  rw [h, isTypeOf]
  rfl
theorem callComparable (w : World) : (callFunc 50 #[.agg #[.pointer (some ⟨0, 30, none⟩)]]).run Try.prog w = .ok (Next.value (.bool true)) w := by
  have h := @run_callFunc_extern Try.prog 50 _ (Extern.ReflectliteType.method fun t => do Extern.Rtype.noPackHeld "Comparable" t; pure (.bool (← typeInfo t).comparable)) Try.func50 (by kernel_rfl) (by kernel_rfl) (by kernel_rfl) (by kernel_rfl)
  rw [h, isComparable]
  rfl
theorem isMethodComparable (v : Value) (w : World) : (Go.method 217 76 v "Comparable").run Try.prog w = .ok (50, v) w := by kernel_rfl
theorem errnoComp : (Try.prog.info? 30).map (·.comparable) = some true := by kernel_rfl
theorem noIsF (v : Value) (xT : TypeId) (w : World) : (Instr.typeAssert (.iface 63 v) xT 78 true).run Try.prog w = .ok (.tuple #[.nilIface, .bool false]) w := run_typeAssert_lacksB Try.underlying78 (by kernel_rfl) (by kernel_rfl) v xT w
theorem hasUnwrapF (v : Value) (xT : TypeId) (w : World) : (Instr.typeAssert (.iface 63 v) xT 81 true).run Try.prog w = .ok (.tuple #[.iface 63 v, .bool true]) w := run_typeAssert_hasB Try.underlying81 (by kernel_rfl) v xT w
theorem noIsE (v : Value) (xT : TypeId) (w : World) : (Instr.typeAssert (.iface 30 v) xT 78 true).run Try.prog w = .ok (.tuple #[.nilIface, .bool false]) w := run_typeAssert_lacksB Try.underlying78 (by kernel_rfl) (by kernel_rfl) v xT w
theorem noUnwrapE (v : Value) (xT : TypeId) (w : World) : (Instr.typeAssert (.iface 30 v) xT 81 true).run Try.prog w = .ok (.tuple #[.nilIface, .bool false]) w := run_typeAssert_lacksB Try.underlying81 (by kernel_rfl) (by kernel_rfl) v xT w
theorem noUnwrapsE (v : Value) (xT : TypeId) (w : World) : (Instr.typeAssert (.iface 30 v) xT 83 true).run Try.prog w = .ok (.tuple #[.nilIface, .bool false]) w := run_typeAssert_lacksB Try.underlying83 (by kernel_rfl) (by kernel_rfl) v xT w
theorem methodUnwrapF (v : Value) (w : World) : (Go.method 217 63 v "Unwrap").run Try.prog w = .ok (46, v) w := by kernel_rfl

/-- Of whatever program: two interface values of one integer type are alike where the numbers are. -/
theorem eq_nums {P : Program} {I N : TypeId} {m : Array (String × TypeId)} {d : TypeInfo} {k : IntKind} (uI : P.underlying I = some (.interface m)) (uN : P.underlying N = some (.int k)) (dN : P.info? N = some d) (cN : d.comparable = true)
    (w : World) (a b : Int) : (binOp .eql I (.iface N (.int k a)) (.iface N (.int k b))).run P w = .ok (.bool (a == b)) w := by
  have deep : ∀ n, (Op.equalIn (n + 1 + 1) I (.iface N (.int k a)) (.iface N (.int k b))).run P w = .ok (a == b) w := fun n => by
    simp only [Op.equalIn, Sem.run_bind, run_underlying uI, Result.andThen]
    simp [run_underlying uN, typeInfo, dN, cN]
  have h := deep 9998
  simp [binOp, Op.equal, Op.maxDepth, h]
/-- Two errors that are numbers are alike where the numbers are. -/
theorem eq_errno (w : World) (a b : Int) : (binOp .eql 51 (.iface 30 (.int .i64 a)) (.iface 30 (.int .i64 b))).run Try.prog w = .ok (.bool (a == b)) w := by
  obtain ⟨i, hi, hc⟩ := Option.map_eq_some_iff.1 errnoComp
  exact eq_nums Try.underlying51 Try.underlying30 hi hc w a b

set_option maxHeartbeats 4000000 in
/-- errors.Is(f, b), f a Fault that holds a. -/
theorem is_fault (pb : Nat) (a b : Int) (w : World) (h0 : w.cell? ⟨pb, 0, none⟩ = some (.iface 30 (.int .i64 a))) :
    Calls Try.prog 23 #[.iface 63 (.pointer (some ⟨pb, 0, none⟩)), .iface 30 (.int .i64 b)] w fun e w' => e = .returned (.bool (a == b)) ∧ w' = w := by
  have tT := callTypeOf
  have cT := callComparable
  have mR := isMethodComparable
  have n1 := noIsF
  have n2 := hasUnwrapF
  have n3 := noIsE
  have n4 := noUnwrapE
  have n5 := noUnwrapsE
  have mU := methodUnwrapF
  have heq := eq_errno w a b
  have hty := run_eql_iface_types (P := Try.prog) 63 30 (.pointer (some ⟨pb, 0, none⟩)) (.int .i64 b) Try.underlying51 (by decide) w
  go_enter Try.func23, Try.ntmps23
  go_wp2
  refine wp_loop_rounds 2 ?_
  rw [rounds_succ]
  go_wp2
  rw [rounds_succ]
  go_wp2
  all_goals go_ret
  all_goals refine ⟨ret_bool ?_, rfl⟩
  all_goals simp_all
end Go.Proofs.Ytiaghkngafajgaa
