import Derived.Test.YtbnebpdpeegpbaaDoorZR8
set_option linter.unusedVariables false
set_option maxRecDepth 100000
namespace Go.Proofs.YtbnebpdpeegpbaaDoor.Cs
open Go.RowKit
theorem wf8 {n : Int} (h : (Lit.int .u8 n).wf = true) : 0 ≤ n ∧ n ≤ 255:=by
 simpa [Lit.wf, IntKind.min, IntKind.max, IntKind.signed, IntKind.bits] using h
end Go.Proofs.YtbnebpdpeegpbaaDoor.Cs
