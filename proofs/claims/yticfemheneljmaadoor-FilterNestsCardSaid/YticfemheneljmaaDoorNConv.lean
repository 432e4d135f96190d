/- A new row of bytes made a string. -/
import Derived.Test.YticfemheneljmaaDoorNMem
namespace Go.Proofs.YticfemheneljmaaDoor
open Go.RowKit
set_option linter.unusedVariables false
set_option maxRecDepth 100000

/-- A new row of bytes made a string: the row's cells at block g of whatever world. -/
theorem conv_blk (w : World) (g n : Nat) (l : List UInt8) (hn : n = l.length) (h : Blk w g 5 (Lib.byteCells l).toArray) :
    (convert 36 9 (.slice (some ⟨g, 0, none⟩) n n)).run Tryd.prog w = .ok (.string (Nm.mk l)) w := by
  subst hn
  refine run_convert_bytes_back (P := Tryd.prog) w 36 9 5 ⟨g, 0, none⟩ _ l Tryd.underlying36 Tryd.underlying5 Tryd.underlying9 (fun j hj => ?_)
  rw [Addr.add_lit, Nat.zero_add, h.cell j]
  simp only [List.getElem?_toArray, Lib.byteCells, List.getElem?_map, List.getElem?_eq_getElem hj]
  rfl
end Go.Proofs.YticfemheneljmaaDoor
