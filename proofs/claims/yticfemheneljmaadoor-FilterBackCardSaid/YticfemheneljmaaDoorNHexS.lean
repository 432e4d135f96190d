/- The digits' string: what stands at a byte's half. -/
import Derived.Test.YticfemheneljmaaDoorNMem
namespace Go.Proofs.YticfemheneljmaaDoor
open Go.RowKit
set_option linter.unusedVariables false
set_option maxRecDepth 100000

theorem hexi_all : (List.range 256).all (fun n => decide ((⟨#[48, 49, 50, 51, 52, 53, 54, 55, 56, 57, 97, 98, 99, 100, 101, 102]⟩ : ByteArray).data.toList[n / 16]? = some (Nm.hexc (n / 16)) ∧ (⟨#[48, 49, 50, 51, 52, 53, 54, 55, 56, 57, 97, 98, 99, 100, 101, 102]⟩ : ByteArray).data.toList[n % 16]? = some (Nm.hexc (n % 16)))) = true := by kernel_rfl
theorem and15 (c : UInt8) : bits .and .u8 (c.toNat : Int) 15 = (c.toNat : Int) % 16 := by
  have h := u8_and_nat c.toNat 15 (u8_lt c) (by decide)
  have h2 : c.toNat &&& 15 = c.toNat % 16 := Nat.and_two_pow_sub_one_eq_mod c.toNat 4
  rw [h2] at h
  exact h.trans (by omega)
def hexS : ByteArray := ⟨#[48, 49, 50, 51, 52, 53, 54, 55, 56, 57, 97, 98, 99, 100, 101, 102]⟩
theorem hexS_hi (c : UInt8) : ∀ h, hexS[((c.toNat : Int) / 16).toNat]'h = Nm.hexc (c.toNat / 16) := fun h => by
  have h1 := (of_decide_eq_true (List.all_eq_true.1 hexi_all c.toNat (by simp [u8_lt c]))).1
  have e : ((c.toNat : Int) / 16).toNat = c.toNat / 16 := by omega
  have h2 := (List.getElem?_eq_some_iff.1 h1).2
  have h3 : hexS[((c.toNat : Int) / 16).toNat]'h = hexS.data.toList[((c.toNat : Int) / 16).toNat]'h := rfl
  rw [h3]
  simp only [e]
  exact h2
theorem hexS_lo (c : UInt8) : ∀ h, hexS[((c.toNat : Int) % 16).toNat]'h = Nm.hexc (c.toNat % 16) := fun h => by
  have h1 := (of_decide_eq_true (List.all_eq_true.1 hexi_all c.toNat (by simp [u8_lt c]))).2
  have e : ((c.toNat : Int) % 16).toNat = c.toNat % 16 := by omega
  have h2 := (List.getElem?_eq_some_iff.1 h1).2
  have h3 : hexS[((c.toNat : Int) % 16).toNat]'h = hexS.data.toList[((c.toNat : Int) % 16).toNat]'h := rfl
  rw [h3]
  simp only [e]
  exact h2
end Go.Proofs.YticfemheneljmaaDoor
