/- ValueBack: the walk. -/
import Derived.Test.YtapkoiamjgdifaaVKnown
namespace Go.Proofs.Ytapkoiamjgdifaa
open Go.RowKit
set_option linter.unusedVariables false
set_option maxRecDepth 100000

set_option maxHeartbeats 4000000 in
theorem back_step (n : Int) (w : World) (h0 : -9223372036854775808 ≤ n) (h1 : n ≤ 9223372036854775807) (m : Int) (hm : (n < 0 ∧ m = 255) ∨ (0 ≤ n ∧ m = 0)) :
    Calls Try.prog 11 #[.int .i64 n] w fun r w' => r = .returned (.bool true) ∧ Below w.heap.size w w' := by
  have hf1 := few_pos n
  have hf8 := few_8 n h0 h1
  obtain ⟨S, hS⟩ : ∃ S, S = strOfNums (intB n) := ⟨_, rfl⟩
  have hSs : S.size = few n := by rw [hS, strOfNums_size, intB_len]
  have CI : Hid (∀ w, Calls Try.prog 30 #[.int .i64 n] w fun e w' => e = .returned (.string S) ∧ Below w.heap.size w w') := fun w => by rw [hS]; exact Int_any n w h0 h1
  have CR : Hid (∀ w, Calls Try.prog 26 #[.string S] w fun e w' => e = .returned (.tuple #[.int .i64 n, .bool true]) ∧ Below w.heap.size w w') := fun w => by
    have := ReadInt_any S w
    rwa [rdV_some (show rdI S.data.toList = some n by rw [hS]; exact rdI_int n hf8)] at this
  have CM : Hid (∀ w, Calls Try.prog 26 #[.string ((if n < 0 then ⟨#[255]⟩ else ⟨#[0]⟩ : ByteArray) ++ S)] w fun e w' => e = .returned (.tuple #[.int .i64 0, .bool false]) ∧ Below w.heap.size w w') := fun w => by
    have := ReadInt_any ((if n < 0 then ⟨#[255]⟩ else ⟨#[0]⟩ : ByteArray) ++ S) w
    rwa [rdV_none (show rdI ((if n < 0 then ⟨#[255]⟩ else ⟨#[0]⟩ : ByteArray) ++ S).data.toList = none by
      rw [ByteArray.data_append, Array.toList_append]
      have : (if n < 0 then ⟨#[255]⟩ else ⟨#[0]⟩ : ByteArray).data.toList = [if n < 0 then 255 else 0] := by split <;> rfl
      rw [this, hS]
      exact rdI_more n _ rfl)] at this
  clear hS
  rcases hm with ⟨hm, rfl⟩ | ⟨hm, rfl⟩
  · rw [if_pos hm] at CM
    go_enter Try.func11, Try.ntmps11
    go_wp2_with fail
    refine (vknown_any _).mono ?_
    rintro r w1 ⟨rfl, hb1⟩
    go_wp2_with fail
    refine (CI.out _).mono ?_
    rintro r w2 ⟨rfl, hb2⟩
    go_wp2_with fail
    refine (CR.out _).mono ?_
    rintro r w3 ⟨rfl, hb3⟩
    go_wp2_with fail
    refine (CM.out _).mono ?_
    rintro r w4 ⟨rfl, hb4⟩
    have s1 := hb1.size
    have s2 := hb2.size
    have s3 := hb3.size
    have hb := ((hb1.trans (hb2.mono s1)).trans (hb3.mono (by omega))).trans (hb4.mono (by omega))
    clear hb1 hb2 hb3 hb4 CI CR CM
    go_wp2_with fail
    go_loopw [9] (fun i wr => ∃ k : Nat, 1 ≤ k ∧ k ≤ few n ∧ i = .int .i64 k ∧ Below w.heap.size w wr) (fun i wr => 9 - (intOf i).toNat)
    case atStart => exact ⟨1, by omega, hf1, rfl, hb⟩
    case round =>
      obtain ⟨k, hk1, hkf, rfl, hb⟩ := hrel
      rcases (show k = 1 ∨ k = 2 ∨ k = 3 ∨ k = 4 ∨ k = 5 ∨ k = 6 ∨ k = 7 ∨ k = 8 by omega) with rfl | rfl | rfl | rfl | rfl | rfl | rfl | rfl
      · have r : few n ≤ 1 ↔ -128 ≤ n ∧ n < 128 := few_le n 1 (by omega)
        by_cases hst : few n ≤ 1
        · have hr := r.1 hst
          have hfk : few n = 1 := by omega
          have z0 : (n / 128 != 0) = true := by rw [bne_iff_ne]; omega
          have z1 : (n / 128 != -1) = false := by rw [bne_eq_false_iff_eq]; omega
          rw [hfk] at hSs
          clear r hst hr hkf hf8 hf1
          go_wp2_with fail
          go_ret
          exact ⟨rfl, hb⟩
        · have hr : n < -128 ∨ 128 ≤ n := by
            have : ¬ (-128 ≤ n ∧ n < 128) := fun h => hst (r.2 h)
            omega
          have z0 : (n / 128 != 0) = true := by rw [bne_iff_ne]; omega
          have z1 : (n / 128 != -1) = true := by rw [bne_iff_ne]; omega
          clear r hr
          go_wp2_with fail
          go_roundw
          case rel => exact ⟨2, by omega, by omega, rfl, hb⟩
          case measure => simp [intOf]
      · have r : few n ≤ 2 ↔ -32768 ≤ n ∧ n < 32768 := few_le n 2 (by omega)
        by_cases hst : few n ≤ 2
        · have hr := r.1 hst
          have hfk : few n = 2 := by omega
          have z0 : (n / 32768 != 0) = true := by rw [bne_iff_ne]; omega
          have z1 : (n / 32768 != -1) = false := by rw [bne_eq_false_iff_eq]; omega
          rw [hfk] at hSs
          clear r hst hr hkf hf8 hf1
          go_wp2_with fail
          go_ret
          exact ⟨rfl, hb⟩
        · have hr : n < -32768 ∨ 32768 ≤ n := by
            have : ¬ (-32768 ≤ n ∧ n < 32768) := fun h => hst (r.2 h)
            omega
          have z0 : (n / 32768 != 0) = true := by rw [bne_iff_ne]; omega
          have z1 : (n / 32768 != -1) = true := by rw [bne_iff_ne]; omega
          clear r hr
          go_wp2_with fail
          go_roundw
          case rel => exact ⟨3, by omega, by omega, rfl, hb⟩
          case measure => simp [intOf]
      · have r : few n ≤ 3 ↔ -8388608 ≤ n ∧ n < 8388608 := few_le n 3 (by omega)
        by_cases hst : few n ≤ 3
        · have hr := r.1 hst
          have hfk : few n = 3 := by omega
          have z0 : (n / 8388608 != 0) = true := by rw [bne_iff_ne]; omega
          have z1 : (n / 8388608 != -1) = false := by rw [bne_eq_false_iff_eq]; omega
          rw [hfk] at hSs
          clear r hst hr hkf hf8 hf1
          go_wp2_with fail
          go_ret
          exact ⟨rfl, hb⟩
        · have hr : n < -8388608 ∨ 8388608 ≤ n := by
            have : ¬ (-8388608 ≤ n ∧ n < 8388608) := fun h => hst (r.2 h)
            omega
          have z0 : (n / 8388608 != 0) = true := by rw [bne_iff_ne]; omega
          have z1 : (n / 8388608 != -1) = true := by rw [bne_iff_ne]; omega
          clear r hr
          go_wp2_with fail
          go_roundw
          case rel => exact ⟨4, by omega, by omega, rfl, hb⟩
          case measure => simp [intOf]
      · have r : few n ≤ 4 ↔ -2147483648 ≤ n ∧ n < 2147483648 := few_le n 4 (by omega)
        by_cases hst : few n ≤ 4
        · have hr := r.1 hst
          have hfk : few n = 4 := by omega
          have z0 : (n / 2147483648 != 0) = true := by rw [bne_iff_ne]; omega
          have z1 : (n / 2147483648 != -1) = false := by rw [bne_eq_false_iff_eq]; omega
          rw [hfk] at hSs
          clear r hst hr hkf hf8 hf1
          go_wp2_with fail
          go_ret
          exact ⟨rfl, hb⟩
        · have hr : n < -2147483648 ∨ 2147483648 ≤ n := by
            have : ¬ (-2147483648 ≤ n ∧ n < 2147483648) := fun h => hst (r.2 h)
            omega
          have z0 : (n / 2147483648 != 0) = true := by rw [bne_iff_ne]; omega
          have z1 : (n / 2147483648 != -1) = true := by rw [bne_iff_ne]; omega
          clear r hr
          go_wp2_with fail
          go_roundw
          case rel => exact ⟨5, by omega, by omega, rfl, hb⟩
          case measure => simp [intOf]
      · have r : few n ≤ 5 ↔ -549755813888 ≤ n ∧ n < 549755813888 := few_le n 5 (by omega)
        by_cases hst : few n ≤ 5
        · have hr := r.1 hst
          have hfk : few n = 5 := by omega
          have z0 : (n / 549755813888 != 0) = true := by rw [bne_iff_ne]; omega
          have z1 : (n / 549755813888 != -1) = false := by rw [bne_eq_false_iff_eq]; omega
          rw [hfk] at hSs
          clear r hst hr hkf hf8 hf1
          go_wp2_with fail
          go_ret
          exact ⟨rfl, hb⟩
        · have hr : n < -549755813888 ∨ 549755813888 ≤ n := by
            have : ¬ (-549755813888 ≤ n ∧ n < 549755813888) := fun h => hst (r.2 h)
            omega
          have z0 : (n / 549755813888 != 0) = true := by rw [bne_iff_ne]; omega
          have z1 : (n / 549755813888 != -1) = true := by rw [bne_iff_ne]; omega
          clear r hr
          go_wp2_with fail
          go_roundw
          case rel => exact ⟨6, by omega, by omega, rfl, hb⟩
          case measure => simp [intOf]
      · have r : few n ≤ 6 ↔ -140737488355328 ≤ n ∧ n < 140737488355328 := few_le n 6 (by omega)
        by_cases hst : few n ≤ 6
        · have hr := r.1 hst
          have hfk : few n = 6 := by omega
          have z0 : (n / 140737488355328 != 0) = true := by rw [bne_iff_ne]; omega
          have z1 : (n / 140737488355328 != -1) = false := by rw [bne_eq_false_iff_eq]; omega
          rw [hfk] at hSs
          clear r hst hr hkf hf8 hf1
          go_wp2_with fail
          go_ret
          exact ⟨rfl, hb⟩
        · have hr : n < -140737488355328 ∨ 140737488355328 ≤ n := by
            have : ¬ (-140737488355328 ≤ n ∧ n < 140737488355328) := fun h => hst (r.2 h)
            omega
          have z0 : (n / 140737488355328 != 0) = true := by rw [bne_iff_ne]; omega
          have z1 : (n / 140737488355328 != -1) = true := by rw [bne_iff_ne]; omega
          clear r hr
          go_wp2_with fail
          go_roundw
          case rel => exact ⟨7, by omega, by omega, rfl, hb⟩
          case measure => simp [intOf]
      · have r : few n ≤ 7 ↔ -36028797018963968 ≤ n ∧ n < 36028797018963968 := few_le n 7 (by omega)
        by_cases hst : few n ≤ 7
        · have hr := r.1 hst
          have hfk : few n = 7 := by omega
          have z0 : (n / 36028797018963968 != 0) = true := by rw [bne_iff_ne]; omega
          have z1 : (n / 36028797018963968 != -1) = false := by rw [bne_eq_false_iff_eq]; omega
          rw [hfk] at hSs
          clear r hst hr hkf hf8 hf1
          go_wp2_with fail
          go_ret
          exact ⟨rfl, hb⟩
        · have hr : n < -36028797018963968 ∨ 36028797018963968 ≤ n := by
            have : ¬ (-36028797018963968 ≤ n ∧ n < 36028797018963968) := fun h => hst (r.2 h)
            omega
          have z0 : (n / 36028797018963968 != 0) = true := by rw [bne_iff_ne]; omega
          have z1 : (n / 36028797018963968 != -1) = true := by rw [bne_iff_ne]; omega
          clear r hr
          go_wp2_with fail
          go_roundw
          case rel => exact ⟨8, by omega, by omega, rfl, hb⟩
          case measure => simp [intOf]
      · have hfk : few n = 8 := by omega
        rw [hfk] at hSs
        clear hkf hf8 hf1
        go_wp2_with fail
        go_ret
        exact ⟨rfl, hb⟩
  · rw [if_neg (by omega)] at CM
    go_enter Try.func11, Try.ntmps11
    go_wp2_with fail
    refine (vknown_any _).mono ?_
    rintro r w1 ⟨rfl, hb1⟩
    go_wp2_with fail
    refine (CI.out _).mono ?_
    rintro r w2 ⟨rfl, hb2⟩
    go_wp2_with fail
    refine (CR.out _).mono ?_
    rintro r w3 ⟨rfl, hb3⟩
    go_wp2_with fail
    refine (CM.out _).mono ?_
    rintro r w4 ⟨rfl, hb4⟩
    have s1 := hb1.size
    have s2 := hb2.size
    have s3 := hb3.size
    have hb := ((hb1.trans (hb2.mono s1)).trans (hb3.mono (by omega))).trans (hb4.mono (by omega))
    clear hb1 hb2 hb3 hb4 CI CR CM
    go_wp2_with fail
    go_loopw [9] (fun i wr => ∃ k : Nat, 1 ≤ k ∧ k ≤ few n ∧ i = .int .i64 k ∧ Below w.heap.size w wr) (fun i wr => 9 - (intOf i).toNat)
    case atStart => exact ⟨1, by omega, hf1, rfl, hb⟩
    case round =>
      obtain ⟨k, hk1, hkf, rfl, hb⟩ := hrel
      rcases (show k = 1 ∨ k = 2 ∨ k = 3 ∨ k = 4 ∨ k = 5 ∨ k = 6 ∨ k = 7 ∨ k = 8 by omega) with rfl | rfl | rfl | rfl | rfl | rfl | rfl | rfl
      · have r : few n ≤ 1 ↔ -128 ≤ n ∧ n < 128 := few_le n 1 (by omega)
        by_cases hst : few n ≤ 1
        · have hr := r.1 hst
          have hfk : few n = 1 := by omega
          have z0 : (n / 128 != 0) = false := by rw [bne_eq_false_iff_eq]; omega
          have z1 : (n / 128 != -1) = true := by rw [bne_iff_ne]; omega
          rw [hfk] at hSs
          clear r hst hr hkf hf8 hf1
          go_wp2_with fail
          go_ret
          exact ⟨rfl, hb⟩
        · have hr : n < -128 ∨ 128 ≤ n := by
            have : ¬ (-128 ≤ n ∧ n < 128) := fun h => hst (r.2 h)
            omega
          have z0 : (n / 128 != 0) = true := by rw [bne_iff_ne]; omega
          have z1 : (n / 128 != -1) = true := by rw [bne_iff_ne]; omega
          clear r hr
          go_wp2_with fail
          go_roundw
          case rel => exact ⟨2, by omega, by omega, rfl, hb⟩
          case measure => simp [intOf]
      · have r : few n ≤ 2 ↔ -32768 ≤ n ∧ n < 32768 := few_le n 2 (by omega)
        by_cases hst : few n ≤ 2
        · have hr := r.1 hst
          have hfk : few n = 2 := by omega
          have z0 : (n / 32768 != 0) = false := by rw [bne_eq_false_iff_eq]; omega
          have z1 : (n / 32768 != -1) = true := by rw [bne_iff_ne]; omega
          rw [hfk] at hSs
          clear r hst hr hkf hf8 hf1
          go_wp2_with fail
          go_ret
          exact ⟨rfl, hb⟩
        · have hr : n < -32768 ∨ 32768 ≤ n := by
            have : ¬ (-32768 ≤ n ∧ n < 32768) := fun h => hst (r.2 h)
            omega
          have z0 : (n / 32768 != 0) = true := by rw [bne_iff_ne]; omega
          have z1 : (n / 32768 != -1) = true := by rw [bne_iff_ne]; omega
          clear r hr
          go_wp2_with fail
          go_roundw
          case rel => exact ⟨3, by omega, by omega, rfl, hb⟩
          case measure => simp [intOf]
      · have r : few n ≤ 3 ↔ -8388608 ≤ n ∧ n < 8388608 := few_le n 3 (by omega)
        by_cases hst : few n ≤ 3
        · have hr := r.1 hst
          have hfk : few n = 3 := by omega
          have z0 : (n / 8388608 != 0) = false := by rw [bne_eq_false_iff_eq]; omega
          have z1 : (n / 8388608 != -1) = true := by rw [bne_iff_ne]; omega
          rw [hfk] at hSs
          clear r hst hr hkf hf8 hf1
          go_wp2_with fail
          go_ret
          exact ⟨rfl, hb⟩
        · have hr : n < -8388608 ∨ 8388608 ≤ n := by
            have : ¬ (-8388608 ≤ n ∧ n < 8388608) := fun h => hst (r.2 h)
            omega
          have z0 : (n / 8388608 != 0) = true := by rw [bne_iff_ne]; omega
          have z1 : (n / 8388608 != -1) = true := by rw [bne_iff_ne]; omega
          clear r hr
          go_wp2_with fail
          go_roundw
          case rel => exact ⟨4, by omega, by omega, rfl, hb⟩
          case measure => simp [intOf]
      · have r : few n ≤ 4 ↔ -2147483648 ≤ n ∧ n < 2147483648 := few_le n 4 (by omega)
        by_cases hst : few n ≤ 4
        · have hr := r.1 hst
          have hfk : few n = 4 := by omega
          have z0 : (n / 2147483648 != 0) = false := by rw [bne_eq_false_iff_eq]; omega
          have z1 : (n / 2147483648 != -1) = true := by rw [bne_iff_ne]; omega
          rw [hfk] at hSs
          clear r hst hr hkf hf8 hf1
          go_wp2_with fail
          go_ret
          exact ⟨rfl, hb⟩
        · have hr : n < -2147483648 ∨ 2147483648 ≤ n := by
            have : ¬ (-2147483648 ≤ n ∧ n < 2147483648) := fun h => hst (r.2 h)
            omega
          have z0 : (n / 2147483648 != 0) = true := by rw [bne_iff_ne]; omega
          have z1 : (n / 2147483648 != -1) = true := by rw [bne_iff_ne]; omega
          clear r hr
          go_wp2_with fail
          go_roundw
          case rel => exact ⟨5, by omega, by omega, rfl, hb⟩
          case measure => simp [intOf]
      · have r : few n ≤ 5 ↔ -549755813888 ≤ n ∧ n < 549755813888 := few_le n 5 (by omega)
        by_cases hst : few n ≤ 5
        · have hr := r.1 hst
          have hfk : few n = 5 := by omega
          have z0 : (n / 549755813888 != 0) = false := by rw [bne_eq_false_iff_eq]; omega
          have z1 : (n / 549755813888 != -1) = true := by rw [bne_iff_ne]; omega
          rw [hfk] at hSs
          clear r hst hr hkf hf8 hf1
          go_wp2_with fail
          go_ret
          exact ⟨rfl, hb⟩
        · have hr : n < -549755813888 ∨ 549755813888 ≤ n := by
            have : ¬ (-549755813888 ≤ n ∧ n < 549755813888) := fun h => hst (r.2 h)
            omega
          have z0 : (n / 549755813888 != 0) = true := by rw [bne_iff_ne]; omega
          have z1 : (n / 549755813888 != -1) = true := by rw [bne_iff_ne]; omega
          clear r hr
          go_wp2_with fail
          go_roundw
          case rel => exact ⟨6, by omega, by omega, rfl, hb⟩
          case measure => simp [intOf]
      · have r : few n ≤ 6 ↔ -140737488355328 ≤ n ∧ n < 140737488355328 := few_le n 6 (by omega)
        by_cases hst : few n ≤ 6
        · have hr := r.1 hst
          have hfk : few n = 6 := by omega
          have z0 : (n / 140737488355328 != 0) = false := by rw [bne_eq_false_iff_eq]; omega
          have z1 : (n / 140737488355328 != -1) = true := by rw [bne_iff_ne]; omega
          rw [hfk] at hSs
          clear r hst hr hkf hf8 hf1
          go_wp2_with fail
          go_ret
          exact ⟨rfl, hb⟩
        · have hr : n < -140737488355328 ∨ 140737488355328 ≤ n := by
            have : ¬ (-140737488355328 ≤ n ∧ n < 140737488355328) := fun h => hst (r.2 h)
            omega
          have z0 : (n / 140737488355328 != 0) = true := by rw [bne_iff_ne]; omega
          have z1 : (n / 140737488355328 != -1) = true := by rw [bne_iff_ne]; omega
          clear r hr
          go_wp2_with fail
          go_roundw
          case rel => exact ⟨7, by omega, by omega, rfl, hb⟩
          case measure => simp [intOf]
      · have r : few n ≤ 7 ↔ -36028797018963968 ≤ n ∧ n < 36028797018963968 := few_le n 7 (by omega)
        by_cases hst : few n ≤ 7
        · have hr := r.1 hst
          have hfk : few n = 7 := by omega
          have z0 : (n / 36028797018963968 != 0) = false := by rw [bne_eq_false_iff_eq]; omega
          have z1 : (n / 36028797018963968 != -1) = true := by rw [bne_iff_ne]; omega
          rw [hfk] at hSs
          clear r hst hr hkf hf8 hf1
          go_wp2_with fail
          go_ret
          exact ⟨rfl, hb⟩
        · have hr : n < -36028797018963968 ∨ 36028797018963968 ≤ n := by
            have : ¬ (-36028797018963968 ≤ n ∧ n < 36028797018963968) := fun h => hst (r.2 h)
            omega
          have z0 : (n / 36028797018963968 != 0) = true := by rw [bne_iff_ne]; omega
          have z1 : (n / 36028797018963968 != -1) = true := by rw [bne_iff_ne]; omega
          clear r hr
          go_wp2_with fail
          go_roundw
          case rel => exact ⟨8, by omega, by omega, rfl, hb⟩
          case measure => simp [intOf]
      · have hfk : few n = 8 := by omega
        rw [hfk] at hSs
        clear hkf hf8 hf1
        go_wp2_with fail
        go_ret
        exact ⟨rfl, hb⟩
theorem wf_i64 {a : Int} (h : (Lit.int .i64 a).wf = true) : -9223372036854775808 ≤ a ∧ a ≤ 9223372036854775807 := by simpa [Lit.wf, IntKind.min, IntKind.max, IntKind.signed, IntKind.bits] using h
theorem walk_ValueBack (n : Int) (hn : (Lit.int .i64 n).wf = true) (w : World) :
    Calls Try.prog 11 #[.int .i64 n] w fun r w' => r = .returned (.bool true) ∧ Below w.heap.size w w' := by
  have h := wf_i64 hn
  by_cases h1 : n < 0
  · exact back_step n w h.1 h.2 255 (Or.inl ⟨h1, rfl⟩)
  · exact back_step n w h.1 h.2 0 (Or.inr ⟨by omega, rfl⟩)
end Go.Proofs.Ytapkoiamjgdifaa
