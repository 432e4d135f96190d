/- value.fewest answers the plain function few; int64's or, xor in plain words. -/
import Derived.Test.YtconghaebebncaaGreatDoorProg
import Derived.Test.YtconghaebebncaaGreatDoorShelf
import Derived.Test.YtconghaebebncaaGreatDoorG1
import Derived.WalkKit
import Derived.WalkSpells
import Derived.WalkLawsBesides
import Derived.Deep.QuietTactic
import Derived.Lib.Hide
import Derived.Lib.BitFns
namespace Go.Proofs.YtconghaebebncaaGreatDoor.Be
open Go.RowKit
set_option linter.unusedVariables false
set_option maxRecDepth 100000

theorem ofInt_nat64 (x : Int) : (BitVec.ofInt 64 x).toNat = (x % 18446744073709551616).toNat := by
  rw [BitVec.toNat_ofInt]; rfl
/-- A low byte put to a number whose low byte is 0. -/
theorem i64_or8 (x b : Int) (h0 : -9223372036854775808 ≤ x) (h1 : x ≤ 9223372036854775807) (h : x % 256 = 0) (hb0 : 0 ≤ b) (hb1 : b < 256) : bits .or .i64 x b = x + b := by
  show IntKind.i64.wrap ((BitVec.ofInt 64 x ||| BitVec.ofInt 64 b).toNat : Int) = _
  rw [BitVec.toNat_or, ofInt_nat64, ofInt_nat64]
  have hbb : (b % 18446744073709551616).toNat = b.toNat := by omega
  rw [hbb]
  have ha : (x % 18446744073709551616).toNat = 2 ^ 8 * ((x % 18446744073709551616).toNat / 256) := by
    show _ = 256 * _
    omega
  have hk : (x % 18446744073709551616).toNat ||| b.toNat = (x % 18446744073709551616).toNat + b.toNat := by
    rw [ha, ← Nat.two_pow_add_eq_or_of_lt (by omega) _]
  rw [hk, IntKind.wrap_i64]
  omega
theorem i64_xor0 (n : Int) (h0 : 0 ≤ n) (h1 : n ≤ 9223372036854775807) : bits .xor .i64 n 0 = n := by
  show IntKind.i64.wrap ((BitVec.ofInt 64 n ^^^ BitVec.ofInt 64 0).toNat : Int) = _
  have : BitVec.ofInt 64 0 = 0#64 := by decide
  rw [this, BitVec.xor_zero, ofInt_nat64, IntKind.wrap_i64]
  omega
theorem i64_xor1 (n : Int) (h0 : -9223372036854775808 ≤ n) (h1 : n < 0) : bits .xor .i64 n (-1) = -1 - n := by
  show IntKind.i64.wrap ((BitVec.ofInt 64 n ^^^ BitVec.ofInt 64 (-1)).toNat : Int) = _
  have : BitVec.ofInt 64 (-1) = BitVec.allOnes 64 := by decide
  rw [this, BitVec.xor_allOnes, BitVec.toNat_not, ofInt_nat64, IntKind.wrap_i64]
  omega
theorem xor_mag (n : Int) (h0 : -9223372036854775808 ≤ n) (h1 : n ≤ 9223372036854775807) : IntKind.u64.wrap (bits .xor .i64 n (n / 9223372036854775808)) = mag n := by
  unfold mag
  by_cases h : 0 ≤ n
  · have e : n / 9223372036854775808 = 0 := by omega
    rw [e, i64_xor0 n h h1, if_pos h, IntKind.wrap_u64]
    omega
  · have e : n / 9223372036854775808 = -1 := by omega
    rw [e, i64_xor1 n h0 (by omega), if_neg h, IntKind.wrap_u64]
    omega
theorem mag_le (n : Int) (h0 : -9223372036854775808 ≤ n) (h1 : n ≤ 9223372036854775807) : (mag n : Int) ≤ 9223372036854775807 := by
  unfold mag; split <;> omega
theorem bitLen_64 (m : Nat) (h : (m : Int) ≤ 9223372036854775807) : bitLen m ≤ 63 := by
  have := (bitLen_lt m 63).2 (by show m < 9223372036854775808; omega)
  omega

theorem bitLen_two (x : Nat) (h0 : x ≠ 0) : bitLen x = 1 + bitLen (x / 2) := by
  by_cases h : x / 2 = 0
  · have : x = 1 := by omega
    subst this; decide
  · exact bitLen_shift x 1 h
/-- The library's own word for the same. -/
theorem lib_bitLen (x : Nat) (h : x < 2 ^ 64) : Lib.bitLen x = bitLen x := by
  induction x using Nat.strongRecOn with
  | _ x ih =>
    by_cases h0 : x = 0
    · subst h0; decide
    · rw [Lib.bitLen_half x h0 h, bitLen_two x h0, ih (x / 2) (by omega) (by omega)]

set_option maxHeartbeats 400000 in
theorem fewest_any (n : Int) (w : World) (h0 : -9223372036854775808 ≤ n) (h1 : n ≤ 9223372036854775807) :
    Calls Tryz.prog 149 #[.int .i64 n] w fun e w' => e = .returned (.int .i64 (few n)) ∧ w = w' := by
  have hx := Lib.hid (xor_mag n h0 h1)
  have hm := mag_le n h0 h1
  have hb := bitLen_64 _ hm
  have hf : Hid (few n = bitLen (mag n) / 8 + 1) := rfl
  have HC : Hid (∀ w, Calls Tryz.prog 157 #[.int .u64 (mag n)] w fun e w' => e = .returned (.int .i64 (bitLen (mag n))) ∧ w' = w) := fun w => by
    have := Tryz.bits_Len64 (mag n) w (by omega) (by omega)
    rwa [lib_bitLen _ (by omega)] at this
  generalize mag n = m at *
  go_enter Tryz.func149, Tryz.ntmps149
  go_wp2_with fail
  rw [hx.out]
  refine (HC.out _).mono ?_
  rintro e w' ⟨rfl, rfl⟩
  go_wp2_with fail
  go_ret
  rw [hf.out]
  refine ⟨?_, rfl⟩
  refine congrArg Ending.returned (congrArg (Value.int .i64) ?_)
  omega
end Go.Proofs.YtconghaebebncaaGreatDoor.Be
