/- 'known' answers true. -/
import Derived.Test.YtapkoiamjgdifaaRead2
import Derived.Test.YtapkoiamjgdifaaEnc
import Derived.Test.YtapkoiamjgdifaaSame
import Derived.KernelRfl
namespace Go.Proofs.Ytapkoiamjgdifaa
open Go.RowKit
set_option linter.unusedVariables false
set_option maxRecDepth 100000

theorem k1 : rd 20 [48, 3, 4, 1, 97, 122] 0 = .ok (.mk 48 ⟨#[]⟩ [.mk 4 ⟨#[97]⟩ []]) 5 := by kernel_rfl
theorem k2 : rd 20 [48, 3, 4, 5, 97] 0 = .bad 2 11 := by kernel_rfl
theorem k3 : wr (.mk 4 ⟨#[97, 98]⟩ []) = ([4, 2, 97, 98], 0) := by kernel_rfl
theorem k4 : wr (.mk 31 ⟨#[]⟩ []) = ([], 14) := by kernel_rfl
theorem k5 : Sp.hd [4, 129, 128] = (3, 128, 0) := by kernel_rfl
theorem k6 : errV (.mk 48 ⟨#[]⟩ [.mk 4 ⟨#[97]⟩ []]) = 0 := by kernel_rfl
theorem k7 : fitS 10 10 5 (.mk 48 ⟨#[]⟩ [.mk 4 ⟨#[97]⟩ []]) = true := by kernel_rfl

set_option maxHeartbeats 4000000 in
theorem known_any (w : World) : Calls Try.prog 13 #[] w fun r w' => r = .returned (.bool true) ∧ Below w.heap.size w w' := by
  have C1 := Lib.hid (fun w => k1 ▸ Read_any ⟨#[48, 3, 4, 1, 97, 122]⟩ w (by decide))
  have C2 := Lib.hid (fun w => k2 ▸ Read_any ⟨#[48, 3, 4, 5, 97]⟩ w (by decide))
  have C3 : Hid (∀ w, Calls Try.prog 20 #[.agg #[.int .u8 4, .string ⟨#[97, 98]⟩, .slice none 0 0]] w fun r w' => r = .returned (.tuple #[.string ⟨#[4, 2, 97, 98]⟩, .int .i64 0]) ∧ Below w.heap.size w w') := fun w => by
    refine (Write_any 10 10 5 (.mk 4 ⟨#[97, 98]⟩ []) _ _ _ w (by decide) (by decide) (by kernel_rfl) (Lies.leaf (by decide) (by decide))).mono ?_
    rintro r w' ⟨rfl, hb⟩
    exact ⟨by unfold wrV; rw [k3]; rfl, hb⟩
  have C4 : Hid (∀ w, Calls Try.prog 20 #[.agg #[.int .u8 31, .string ⟨#[]⟩, .slice none 0 0]] w fun r w' => r = .returned (.tuple #[.string ⟨#[]⟩, .int .i64 14]) ∧ Below w.heap.size w w') := fun w => by
    refine (Write_any 10 10 5 (.mk 31 ⟨#[]⟩ []) _ _ _ w (by decide) (by decide) (by kernel_rfl) (Lies.leaf (by decide) (by decide))).mono ?_
    rintro r w' ⟨rfl, hb⟩
    exact ⟨by unfold wrV; rw [k4]; rfl, hb⟩
  have C5 : Hid (∀ w, Calls Try.prog 16 #[.string ⟨#[4, 129, 128]⟩] w fun r w' => r = .returned (.tuple #[.int .i64 3, .int .i64 128, .int .i64 0]) ∧ Below w.heap.size w w') := fun w => by
    refine (Head_any ⟨#[4, 129, 128]⟩ w (by decide)).mono ?_
    rintro r w' ⟨rfl, hb⟩
    exact ⟨by rw [hdV_of k5]; rfl, hb⟩
  go_enter Try.func13, Try.ntmps13
  go_wp2_with fail
  refine (C1.out _).mono ?_
  rintro r w1 ⟨x, y, z, rfl, hb1, hl1⟩
  obtain ⟨A, c, ds, hcs, _, _, _, hK⟩ := hl1.open_
  simp only [List.cons.injEq, and_true] at hcs
  obtain ⟨rfl, rfl, rfl⟩ := hcs
  have hl1' := hl1.imp (P' := (· < w1.heap.size)) (fun b h => h.2) (fun _ _ => rfl)
  have hK' := hK.imp (P' := (· < w1.heap.size)) (fun b h => h.2) (fun _ _ => rfl)
  have EB := Blk.new w1 25 #[.int .u8 48, .string ⟨#[]⟩, .slice A 1 c]
  have hA0 := (Below.refl w1.heap.size w1).alloc (Nat.le_refl _) (.cells #[.int .u8 48, .string ⟨#[]⟩, .slice A 1 c] 25)
  clear hK hl1
  go_wp2_with fail
  refine (C2.out _).mono ?_
  rintro r w2 ⟨rfl, hb2⟩
  have EB2 := EB.past hb2
  have hA2 := hA0.trans (hb2.mono (by simp))
  have hs2 := hb2.size
  clear hb2 EB hA0
  go_wp2_with fail
  refine (C3.out _).mono ?_
  rintro r w3 ⟨rfl, hb3⟩
  have EB3 := (EB2.alloc _).past hb3
  have hs3 := hb3.size
  have hA3 := (hA2.alloc (by simp at hs2; omega) _).trans (hb3.mono (by simp at hs2 ⊢; omega))
  clear hb3 EB2 hA2
  go_wp2_with fail
  refine (C4.out _).mono ?_
  rintro r w4 ⟨rfl, hb4⟩
  have EB4 := EB3.past hb4
  have hs4 := hb4.size
  have hA4 := hA3.trans (hb4.mono (by simp at hs2 hs3; omega))
  clear hb4 EB3 hA3
  go_wp2_with fail
  refine (C5.out _).mono ?_
  rintro r w5 ⟨rfl, hb5⟩
  have EB5 := EB4.past hb5
  have hs5 := hb5.size
  have hA5 := hA4.trans (hb5.mono (by simp at hs2 hs3; omega))
  clear hb5 EB4 hA4 C1 C2 C3 C4 C5
  obtain ⟨ad, x, y, z, rfl, hp, f0, f1, f2, hL⟩ := hK'.kid hA5 (i := 0) (by simp)
  obtain ⟨A', c', ds', hcs, _, _, _, _⟩ := hL.open_
  simp only [List.cons.injEq, and_true] at hcs
  obtain ⟨rfl, rfl, rfl⟩ := hcs
  have had : ad.add (0 * 3) = ad := by simp [Addr.add]
  rw [had] at f1
  have hl5 := hl1'.past hA5
  have e0 : w5.cell? ⟨w1.heap.size, 0, none⟩ = some (.int .u8 48) := EB5.cell 0
  have e1 : w5.cell? ⟨w1.heap.size, 1, none⟩ = some (.string ⟨#[]⟩) := EB5.cell 1
  have e2 : w5.cell? ⟨w1.heap.size, 2, none⟩ = some (.slice (some ad) 1 c) := EB5.cell 2
  have CI : Hid (Calls Try.prog 22 #[.agg #[.int .u8 48, .string ⟨#[]⟩, .slice (some ad) 1 c]] w5 fun r w' => r = .returned (.bool true) ∧ Below w5.heap.size w5 w') := by
    refine (Is_any 10 10 5 _ _ _ _ _ (by decide) (by decide) k7 hl5).mono ?_
    rintro r w' ⟨rfl, hb⟩
    exact ⟨by rw [k6]; rfl, hb⟩
  have CS : Hid (∀ w6, Below w5.heap.size w5 w6 → Calls Try.prog 23 #[.agg #[.int .u8 48, .string ⟨#[]⟩, .slice (some ad) 1 c], .agg #[.int .u8 48, .string ⟨#[]⟩, .slice (some ad) 1 c]] w6 fun r w' => r = .returned (.bool true) ∧ Below w6.heap.size w6 w') := fun w6 hb6 => by
    refine (same_any (.mk 48 ⟨#[]⟩ [.mk 4 ⟨#[97]⟩ []]) (.mk 48 ⟨#[]⟩ [.mk 4 ⟨#[97]⟩ []]) _ _ _ _ _ _ w6 (hl5.past hb6) (hl5.past hb6)).mono ?_
    rintro r w' ⟨rfl, hb⟩
    exact ⟨by rw [eqEl_self], hb⟩
  have hs6 : w.heap.size ≤ w1.heap.size := hb1.size
  have hb5 := hb1.trans (hA5.mono hs6)
  clear f0 f2 had hL hK' hl1' hl5
  go_wp2_with fail
  refine CI.out.mono ?_
  rintro r w6 ⟨rfl, hb6⟩
  have EB6 := EB5.past hb6
  have q0 : w6.cell? ⟨w1.heap.size, 0, none⟩ = some (.int .u8 48) := EB6.cell 0
  have q1 : w6.cell? ⟨w1.heap.size, 1, none⟩ = some (.string ⟨#[]⟩) := EB6.cell 1
  have q2 : w6.cell? ⟨w1.heap.size, 2, none⟩ = some (.slice (some ad) 1 c) := EB6.cell 2
  clear e0 e1 e2 f1 CI EB5 EB6
  go_wp2_with fail
  refine (CS.out w6 hb6).mono ?_
  rintro r w7 ⟨rfl, hb7⟩
  have hs7 := hb6.size
  go_wp2_with fail
  go_ret
  exact ⟨rfl, hb5.trans ((hb6.mono (by simp at hs2 hs3; omega)).trans (hb7.mono (by simp at hs2 hs3; omega)))⟩
end Go.Proofs.Ytapkoiamjgdifaa
