/- 'known' of layer 2 answers true. -/
import Derived.Test.YtapkoiamjgdifaaVFace
import Derived.Test.YtapkoiamjgdifaaVRead
import Derived.Test.YtapkoiamjgdifaaVRRead
import Derived.Test.YtapkoiamjgdifaaRSame
import Derived.KernelRfl
namespace Go.Proofs.Ytapkoiamjgdifaa
open Go.RowKit
set_option linter.unusedVariables false
set_option maxRecDepth 100000

theorem vk1 : rdI [0, 128] = some 128 := by kernel_rfl
theorem vk2 : rdI [0, 1] = none := by kernel_rfl
theorem vk3 : intB 128 = [0, 128] := by kernel_rfl
theorem vk4 : intB (-1) = [255] := by kernel_rfl
theorem vk5 : intB 5 = [5] := by kernel_rfl

set_option maxHeartbeats 4000000 in
theorem vknown_any (w : World) : Calls Try.prog 25 #[] w fun r w' => r = .returned (.bool true) ∧ Below w.heap.size w w' := by
  have C1 : Hid (∀ w, Calls Try.prog 26 #[.string ⟨#[0, 128]⟩] w fun e w' => e = .returned (.tuple #[.int .i64 128, .bool true]) ∧ Below w.heap.size w w') := fun w => by
    have := ReadInt_any ⟨#[0, 128]⟩ w
    rwa [rdV_some (show rdI (⟨#[0, 128]⟩ : ByteArray).data.toList = some 128 from vk1)] at this
  have C2 : Hid (∀ w, Calls Try.prog 26 #[.string ⟨#[0, 1]⟩] w fun e w' => e = .returned (.tuple #[.int .i64 0, .bool false]) ∧ Below w.heap.size w w') := fun w => by
    have := ReadInt_any ⟨#[0, 1]⟩ w
    rwa [rdV_none (show rdI (⟨#[0, 1]⟩ : ByteArray).data.toList = none from vk2)] at this
  have C3 : Hid (∀ w, Calls Try.prog 28 #[.string ⟨#[5]⟩] w fun e w' => e = .returned (.tuple #[.bool true, .bool true]) ∧ w = w') := fun w => ReadBool_any ⟨#[5]⟩ w
  have C4 : Hid (∀ w, Calls Try.prog 28 #[.string ⟨#[]⟩] w fun e w' => e = .returned (.tuple #[.bool false, .bool false]) ∧ w = w') := fun w => ReadBool_any ⟨#[]⟩ w
  have C5 : Hid (∀ w, Calls Try.prog 30 #[.int .i64 128] w fun e w' => e = .returned (.string ⟨#[0, 128]⟩) ∧ Below w.heap.size w w') := fun w => by
    have := Int_any 128 w (by decide) (by decide)
    rw [vk3] at this
    exact this
  have C6 : Hid (∀ w, Calls Try.prog 30 #[.int .i64 (-1)] w fun e w' => e = .returned (.string ⟨#[255]⟩) ∧ Below w.heap.size w w') := fun w => by
    have := Int_any (-1) w (by decide) (by decide)
    rw [vk4] at this
    exact this
  have C7 : Hid (∀ w, Calls Try.prog 32 #[.bool true] w fun e w' => e = .returned (.string ⟨#[255]⟩) ∧ w = w') := fun w => Bool_any true w
  have C8 : Hid (∀ w, Calls Try.prog 35 #[.int .u8 2, .int .i64 5] w fun e w' => e = .returned (.agg #[.int .u8 2, .string ⟨#[5]⟩, .slice none 0 0]) ∧ Below w.heap.size w w') := fun w => by
    have := Number_any 2 5 w (by decide) (by decide)
    rw [vk5] at this
    exact this
  have C9 : Hid (∀ w, Calls Try.prog 18 #[.agg #[.int .u8 2, .string ⟨#[5]⟩, .slice none 0 0], .agg #[.int .u8 2, .string ⟨#[5]⟩, .slice none 0 0]] w fun r w' => r = .returned (.bool true) ∧ Below w.heap.size w w') := fun w => by
    have := rsame_any (.mk 2 ⟨#[5]⟩ []) (.mk 2 ⟨#[5]⟩ []) _ _ _ _ _ _ w (Lies.leaf (by decide) (by decide)) (Lies.leaf (by decide) (by decide))
    rw [eqEl_self] at this
    exact this
  have C10 : Hid (∀ w, Calls Try.prog 34 #[.int .u8 4, .string ⟨#[97]⟩] w fun e w' => e = .returned (.agg #[.int .u8 4, .string ⟨#[97]⟩, .slice none 0 0]) ∧ Below w.heap.size w w') := fun w => Text_any 4 ⟨#[97]⟩ w (by decide)
  have C11 : Hid (∀ w, Calls Try.prog 18 #[.agg #[.int .u8 4, .string ⟨#[97]⟩, .slice none 0 0], .agg #[.int .u8 4, .string ⟨#[97]⟩, .slice none 0 0]] w fun r w' => r = .returned (.bool true) ∧ Below w.heap.size w w') := fun w => by
    have := rsame_any (.mk 4 ⟨#[97]⟩ []) (.mk 4 ⟨#[97]⟩ []) _ _ _ _ _ _ w (Lies.leaf (by decide) (by decide)) (Lies.leaf (by decide) (by decide))
    rw [eqEl_self] at this
    exact this
  go_enter Try.func25, Try.ntmps25
  go_wp2_with fail
  refine (C1.out _).mono ?_
  rintro r w1 ⟨rfl, hb1⟩
  go_wp2_with fail
  refine (C2.out _).mono ?_
  rintro r w2 ⟨rfl, hb2⟩
  go_wp2_with fail
  refine (C3.out _).mono ?_
  rintro r w3 ⟨rfl, rfl⟩
  go_wp2_with fail
  refine (C4.out _).mono ?_
  rintro r w4 ⟨rfl, rfl⟩
  go_wp2_with fail
  refine (C5.out _).mono ?_
  rintro r w5 ⟨rfl, hb5⟩
  go_wp2_with fail
  refine (C6.out _).mono ?_
  rintro r w6 ⟨rfl, hb6⟩
  go_wp2_with fail
  refine (C7.out _).mono ?_
  rintro r w7 ⟨rfl, rfl⟩
  have s1 := hb1.size
  have s2 := hb2.size
  have s5 := hb5.size
  have s6 := hb6.size
  have h6 := ((hb1.trans (hb2.mono s1)).trans (hb5.mono (by omega))).trans (hb6.mono (by omega))
  clear hb1 hb2 hb5 hb6
  go_wp2_with fail
  refine (C8.out _).mono ?_
  rintro r w8 ⟨rfl, hb8⟩
  have s8 := hb8.size
  have h8 := h6.trans (hb8.mono (by omega))
  clear h6 hb8
  go_wp2_with fail
  refine (C9.out _).mono ?_
  rintro r w9 ⟨rfl, hb9⟩
  have s9 := hb9.size
  have h9 := h8.trans (hb9.mono (by omega))
  clear h8 hb9
  go_wp2_with fail
  refine (C10.out _).mono ?_
  rintro r w10 ⟨rfl, hb10⟩
  have s10 := hb10.size
  have h10 := h9.trans (hb10.mono (by omega))
  clear h9 hb10
  go_wp2_with fail
  refine (C11.out _).mono ?_
  rintro r w11 ⟨rfl, hb11⟩
  have s11 := hb11.size
  have h11 := h10.trans (hb11.mono (by omega))
  clear h10 hb11
  go_wp2_with fail
  go_ret
  exact ⟨rfl, h11⟩
end Go.Proofs.Ytapkoiamjgdifaa
