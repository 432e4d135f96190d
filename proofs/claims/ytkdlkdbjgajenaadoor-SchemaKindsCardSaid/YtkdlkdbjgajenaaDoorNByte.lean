/- What small, digit, special answer, the reference's beside the program's. -/
import Derived.Test.YtkdlkdbjgajenaaDoorProg
import Derived.Test.YtkdlkdbjgajenaaDoorNSpec
import Derived.Test.YtkdlkdbjgajenaaDoorShelf
import Derived.WalkKit
import Derived.WalkSpells
import Derived.WalkLawsBesides
import Derived.Deep.QuietTactic
import Derived.BigQuiet
import Derived.Lib.Hide
namespace Go.Proofs.YtkdlkdbjgajenaaDoor
open Go.RowKit
set_option linter.unusedVariables false
set_option maxRecDepth 100000

theorem ret_int {k : IntKind} {a b : Int} (h : a = b) : Ending.returned (.int k a) = .returned (.int k b) := by rw [h]
theorem ret_bool {a b : Bool} (h : a = b) : Ending.returned (.bool a) = .returned (.bool b) := by rw [h]
theorem ret_str {a b : ByteArray} (h : a = b) : Ending.returned (.string a) = .returned (.string b) := by rw [h]
theorem u8_lt (b : UInt8) : b.toNat < 256 := b.toNat_lt

theorem sm_nat (c : UInt8) : (Nm.sm c).toNat = if 65 ≤ c.toNat ∧ c.toNat ≤ 90 then c.toNat + 32 else c.toNat := by
  unfold Nm.sm
  split
  · rw [UInt8.toNat_add]; show (c.toNat + 32) % 256 = _; omega
  · rfl
set_option maxHeartbeats 400000 in
theorem small_any (c : UInt8) (w : World) :
    Calls Tryd.prog 21 #[.int .u8 c.toNat] w fun e w' => e = .returned (.int .u8 (Nm.sm c).toNat) ∧ w = w' := by
  have hs := Lib.hid (sm_nat c)
  have hc := u8_lt c
  by_cases h : 65 ≤ c.toNat ∧ c.toNat ≤ 90
  · obtain ⟨h1, h2⟩ := h
    go_enter Tryd.func21, Tryd.ntmps21
    go_wp2
    go_ret
    refine ⟨ret_int ?_, rfl⟩
    rw [hs.out, if_pos ⟨h1, h2⟩]
    omega
  · have h' : c.toNat < 65 ∨ 90 < c.toNat := by omega
    clear h
    go_enter Tryd.func21, Tryd.ntmps21
    go_wp2
    all_goals
      go_ret
      refine ⟨ret_int ?_, rfl⟩
      rw [hs.out, if_neg (by omega)]

set_option maxHeartbeats 400000 in
theorem special_any (c : UInt8) (w : World) :
    Calls Tryd.prog 46 #[.int .u8 c.toNat] w fun e w' => e = .returned (.bool (Nm.special c)) ∧ w = w' := by
  have hc := u8_lt c
  obtain ⟨b, hb⟩ : ∃ b, b = Nm.special c := ⟨_, rfl⟩
  rw [← hb]
  have hB := Lib.hid hb
  clear hb
  go_enter Tryd.func46, Tryd.ntmps46
  go_wp2
  all_goals
    go_ret
    refine ⟨ret_bool ?_, rfl⟩
    rw [hB.out]
    unfold Nm.special
    rw [Bool.eq_iff_iff]
    simp
    omega

/-- A digit's worth, or less than 0. -/
def digI (c : UInt8) : Int := match Nm.dig c with
  | some d => d
  | none => -1
theorem dig_lt {c : UInt8} {d : Nat} (h : Nm.dig c = some d) : d < 16 := by
  unfold Nm.dig at h
  have := u8_lt c
  split at h
  · injection h; omega
  · split at h
    · injection h; omega
    · split at h
      · injection h; omega
      · cases h
theorem digI_some {c : UInt8} {d : Nat} (h : Nm.dig c = some d) : digI c = d := by unfold digI; rw [h]
theorem digI_none {c : UInt8} (h : Nm.dig c = none) : digI c = -1 := by unfold digI; rw [h]
theorem digI_lt (c : UInt8) : -1 ≤ digI c ∧ digI c ≤ 15 := by
  cases h : Nm.dig c with
  | none => rw [digI_none h]; omega
  | some d => rw [digI_some h]; have := dig_lt h; omega
theorem digI_of (c : UInt8) : digI c = if 48 ≤ c.toNat ∧ c.toNat ≤ 57 then (c.toNat : Int) - 48 else if 97 ≤ c.toNat ∧ c.toNat ≤ 102 then (c.toNat : Int) - 87 else if 65 ≤ c.toNat ∧ c.toNat ≤ 70 then (c.toNat : Int) - 55 else -1 := by
  unfold digI Nm.dig
  split
  · rename_i d h
    split at h
    · injection h; simp_all; omega
    · split at h
      · injection h; simp_all; omega
      · split at h
        · injection h; simp_all; omega
        · cases h
  · rename_i h
    split at h
    · cases h
    · split at h
      · cases h
      · split at h
        · cases h
        · rw [if_neg (by assumption), if_neg (by assumption), if_neg (by assumption)]
set_option maxHeartbeats 400000 in
theorem rdigit_any (c : UInt8) (w : World) :
    Calls Tryd.prog 47 #[.int .u8 c.toNat] w fun e w' => e = .returned (.int .i64 (digI c)) ∧ w = w' := by
  have hc := u8_lt c
  have hD := Lib.hid (digI_of c)
  go_enter Tryd.func47, Tryd.ntmps47
  go_wp2
  all_goals
    go_ret
    refine ⟨ret_int ?_, rfl⟩
    rw [hD.out]
    repeat' split
    all_goals omega
/-- The 16 digits. -/
def digs : List UInt8 := [48, 49, 50, 51, 52, 53, 54, 55, 56, 57, 97, 98, 99, 100, 101, 102]
theorem digs_all : (List.range 256).all (fun n => decide (Lib.indexByte digs (Nm.sm n.toUInt8) = digI n.toUInt8)) = true := by kernel_rfl
theorem digs_any (c : UInt8) : Lib.indexByte digs (Nm.sm c) = digI c := by
  have h := List.all_eq_true.1 digs_all c.toNat (by simp [u8_lt c])
  simpa using h
set_option maxHeartbeats 400000 in
theorem digit_any (c : UInt8) (w : World) :
    Calls Tryd.prog 69 #[.int .u8 c.toNat] w fun e w' => e = .returned (.int .i64 (digI c)) ∧ w = w' := by
  have hD := Lib.hid (digs_any c)
  have C1 := Lib.hid (small_any c)
  have C2 := Lib.hid (fun w => Tryd.strings_IndexByte ⟨#[48, 49, 50, 51, 52, 53, 54, 55, 56, 57, 97, 98, 99, 100, 101, 102]⟩ (Nm.sm c).toNat w)
  go_enter Tryd.func69, Tryd.ntmps69
  go_wp2_with fail
  refine (C1.out _).mono ?_
  rintro r w1 ⟨rfl, rfl⟩
  go_wp2_with fail
  refine (C2.out _).mono ?_
  rintro r w1 ⟨rfl, rfl⟩
  go_wp2_with fail
  go_ret
  refine ⟨ret_int ?_, rfl⟩
  rw [← hD.out]
  simp [digs]
end Go.Proofs.YtkdlkdbjgajenaaDoor
