/- What is laid when a call begins: the table of powers of ten, the two errors of strconv. -/
import Derived.Test.YtbnebpdpeegpbaaDoorCsText
import Derived.Test.YtbnebpdpeegpbaaDoorRows
import Derived.Lib.LaidTab
import Derived.LaidLaws
import Derived.LaidMore
import Derived.Stop.Joined
import Derived.MakeChecks
namespace Go.Proofs.YtbnebpdpeegpbaaDoor.Cs
open Go.ChangeShapes Go.WideShapes Go.RowKit
set_option linter.unusedVariables false
set_option maxRecDepth 100000

/-- What is laid. -/
def laidL : List (String × DataW Unit) := [("math/bits.deBruijn32tab", Rows.laid_math_bits_deBruijn32tab), ("math/bits.deBruijn64tab", Rows.laid_math_bits_deBruijn64tab), ("internal/strconv.uint64pow10", Rows.laid_internal_strconv_uint64pow10), ("strconv.ErrRange", Rows.laid_strconv_ErrRange), ("strconv.ErrSyntax", Rows.laid_strconv_ErrSyntax)]
theorem powAt : (Rows.laid_internal_strconv_uint64pow10 : DataW Unit) = Lib.tabData .u64 Lib.pow10Tab := by rfl
theorem rngN : Tryd.prog.globalNamed "strconv.ErrRange" = some 3 := by kernel_rfl
theorem synN : Tryd.prog.globalNamed "strconv.ErrSyntax" = some 2 := by kernel_rfl
theorem glob_of_laid {W : World} (h : laidMetH Tryd.prog laidL W) : Glob W := by
  rw [MakeChecks.laidMetH_plain _ _ _ (by kernel_rfl)] at h
  obtain ⟨ps, ⟨_, _, _, _, _, _, _, _, _, _, ⟨_, _, _, _, _, _, _, _, _, _, ⟨g2, t2, cs2, f2, p2, q2, a1, a2, a3, a4, ⟨g3, t3, cs3, f3, p3, q3, b1, b2, b3, b4, ⟨g4, t4, cs4, f4, p4, q4, c1, c2, c3, c4, _⟩, _⟩, _⟩, _⟩, _⟩, _⟩ := h
  refine ⟨?_, ?_, ?_⟩
  · obtain rfl := Option.some.inj (tabN.symm.trans a1)
    have ht : t2 = 88 := Option.some.inj (a2.symm.trans (by kernel_rfl))
    subst ht
    rw [powAt] at a4
    have e := Lib.cells_of_tab Tryd.underlying88 Tryd.underlying66 (by kernel_rfl) (by kernel_rfl) a4
    unfold Lib.TabIs
    rw [a3, ← e]
  · obtain rfl := Option.some.inj (synN.symm.trans c1)
    have ht : t4 = 63 := Option.some.inj (c2.symm.trans (by kernel_rfl))
    subst ht
    obtain ⟨_, u, v, e, _, _⟩ := iface_of_trod Tryd.underlying63 c4
    refine ⟨u, v, ?_⟩
    have := World.var?_cell synN c3 0
    rw [this, ← Array.getElem?_toList, e]
    rfl
  · obtain rfl := Option.some.inj (rngN.symm.trans b1)
    have ht : t3 = 63 := Option.some.inj (b2.symm.trans (by kernel_rfl))
    subst ht
    obtain ⟨_, u, v, e, _, _⟩ := iface_of_trod Tryd.underlying63 b4
    refine ⟨u, v, ?_⟩
    have := World.var?_cell rngN b3 0
    rw [this, ← Array.getElem?_toList, e]
    rfl
end Go.Proofs.YtbnebpdpeegpbaaDoor.Cs
