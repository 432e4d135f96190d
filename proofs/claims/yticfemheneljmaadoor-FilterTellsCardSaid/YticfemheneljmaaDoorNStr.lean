/- Strings and their lists of bytes. -/
import Derived.Test.YticfemheneljmaaDoorNType
namespace Go.Proofs.YticfemheneljmaaDoor
open Go.RowKit
set_option linter.unusedVariables false
set_option maxRecDepth 100000

theorem ext1 (s : ByteArray) (k : Nat) (h : k < s.size) : s.extract k (k + 1) = ⟨#[s[k]]⟩ := by
  apply ByteArray.ext
  apply Array.toList_inj.1
  rw [Lib.extract_data]
  have : s.data.toList.drop k = s[k] :: s.data.toList.drop (k + 1) := drop_at h
  rw [this, Nat.add_sub_cancel_left]
  rfl
theorem mk_bs (q : ByteArray) : Nm.mk (Nm.bs q) = q := rfl
theorem one_size (c : UInt8) : (⟨#[c]⟩ : ByteArray).size = 1 := rfl
theorem bs_one (q : ByteArray) (c : UInt8) : Nm.bs (q ++ ⟨#[c]⟩) = Nm.bs q ++ [c] := by
  show (q ++ ⟨#[c]⟩ : ByteArray).data.toList = _
  rw [ByteArray.data_append, Array.toList_append]
theorem bs_app (q p : ByteArray) : Nm.bs (q ++ p) = Nm.bs q ++ Nm.bs p := by
  show (q ++ p : ByteArray).data.toList = _
  rw [ByteArray.data_append, Array.toList_append]
theorem bs_two (q : ByteArray) (b c : UInt8) : Nm.bs (q ++ ⟨#[b]⟩ ++ ⟨#[c]⟩) = Nm.bs q ++ [b, c] := by
  rw [bs_one, bs_one, List.append_assoc]
  rfl
theorem hex2_size (a b : UInt8) : (⟨#[a, b]⟩ : ByteArray).size = 2 := rfl
theorem bs_hex (q : ByteArray) (a b c : UInt8) : Nm.bs (q ++ ⟨#[a]⟩ ++ ⟨#[b, c]⟩) = Nm.bs q ++ [a, b, c] := by
  rw [bs_app, bs_one, List.append_assoc]
  rfl
end Go.Proofs.YticfemheneljmaaDoor
