/- What all texts import; small laws of what is returned. -/
import Derived.Test.YticfemheneljmaaDoorProg
import Derived.Test.YticfemheneljmaaDoorNSpec
import Derived.Test.YticfemheneljmaaDoorShelf
import Derived.WalkKit
import Derived.WalkSpells
import Derived.WalkLawsBesides
import Derived.Deep.QuietTactic
import Derived.BigQuiet
import Derived.Lib.Hide
namespace Go.Proofs.YticfemheneljmaaDoor
open Go.RowKit
set_option linter.unusedVariables false
set_option maxRecDepth 100000

theorem ret_int {k : IntKind} {a b : Int} (h : a = b) : Ending.returned (.int k a) = .returned (.int k b) := by rw [h]
theorem ret_bool {a b : Bool} (h : a = b) : Ending.returned (.bool a) = .returned (.bool b) := by rw [h]
theorem ret_str {a b : ByteArray} (h : a = b) : Ending.returned (.string a) = .returned (.string b) := by rw [h]
theorem u8_lt (b : UInt8) : b.toNat < 256 := b.toNat_lt
end Go.Proofs.YticfemheneljmaaDoor
