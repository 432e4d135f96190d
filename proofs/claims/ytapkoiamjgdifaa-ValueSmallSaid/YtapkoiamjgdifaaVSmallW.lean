/- ValueSmall: the walk. -/
import Derived.Test.YtapkoiamjgdifaaVKnown
namespace Go.Proofs.Ytapkoiamjgdifaa
open Go.RowKit
set_option linter.unusedVariables false
set_option maxRecDepth 100000

theorem str_one (x : Int) (h : (strOfNums [x]).size = 1) (h0 : 0 < (strOfNums [x]).size) (hx0 : 0 ≤ x) (hx : x < 256) : ((strOfNums [x])[0].toNat : Int) = x := by
  rw [get_of (strOfNums [x]) [UInt8.ofNat x.toNat] rfl 0 h0 _ rfl, ofNat_toNat _ (by omega)]; omega
theorem str_two0 (x y : Int) (h0 : 0 < (strOfNums [x, y]).size) (hx0 : 0 ≤ x) (hx : x < 256) : ((strOfNums [x, y])[0].toNat : Int) = x := by
  rw [get_of (strOfNums [x, y]) [UInt8.ofNat x.toNat, UInt8.ofNat y.toNat] rfl 0 h0 _ rfl, ofNat_toNat _ (by omega)]; omega
theorem str_two1 (x y : Int) (h0 : 1 < (strOfNums [x, y]).size) (hx0 : 0 ≤ y) (hx : y < 256) : ((strOfNums [x, y])[1].toNat : Int) = y := by
  rw [get_of (strOfNums [x, y]) [UInt8.ofNat x.toNat, UInt8.ofNat y.toNat] rfl 1 h0 _ rfl, ofNat_toNat _ (by omega)]; omega

set_option maxHeartbeats 1000000 in
theorem small_one (n : Int) (w : World) (h0 : -128 ≤ n) (h1 : n ≤ 127) :
    Calls Try.prog 12 #[.int .i16 n] w fun r w' => r = .returned (.bool true) ∧ Below w.heap.size w w' := by
  have hf : few n = 1 := by
    have r1 : few n ≤ 1 ↔ -128 ≤ n ∧ n < 128 := few_le n 1 (by omega)
    have := few_pos n
    have := r1.2 ⟨by omega, by omega⟩
    omega
  have CI : Hid (∀ w, Calls Try.prog 30 #[.int .i64 n] w fun e w' => e = .returned (.string (strOfNums [n % 256])) ∧ Below w.heap.size w w') := fun w => by
    have := Int_any n w (by omega) (by omega)
    unfold intB at this
    rw [hf] at this
    simpa [tc] using this
  obtain ⟨S, hS⟩ : ∃ S, S = strOfNums [n % 256] := ⟨_, rfl⟩
  have hSs : S.size = 1 := by rw [hS]; rfl
  have hS0 : Hid (∀ h, ((S[0]'h).toNat : Int) = n % 256) := by rw [hS]; exact fun h => str_one _ rfl h (by omega) (by omega)
  rw [← hS] at CI
  clear hS hf
  go_enter Try.func12, Try.ntmps12
  go_wp2_with fail
  refine (vknown_any _).mono ?_
  rintro r w1 ⟨rfl, hb1⟩
  go_wp2_with fail
  refine (CI.out _).mono ?_
  rintro r w2 ⟨rfl, hb2⟩
  have hb := hb1.trans (hb2.mono hb1.size)
  clear hb1 hb2 CI
  go_wp2_with fail
  go_ret
  exact ⟨ret_bool (by rw [beq_iff_eq]; exact hS0.out _), hb⟩
set_option maxHeartbeats 1000000 in
theorem small_two (n : Int) (w : World) (hn0 : -32768 ≤ n) (hn1 : n ≤ 32767) (h01 : decide (-128 ≤ n) = true → decide (n ≤ 127) = false) :
    Calls Try.prog 12 #[.int .i16 n] w fun r w' => r = .returned (.bool true) ∧ Below w.heap.size w w' := by
  have hor : n < -128 ∨ 127 < n := by simp at h01; omega
  have hf : few n = 2 := by
    have r1 : few n ≤ 1 ↔ -128 ≤ n ∧ n < 128 := few_le n 1 (by omega)
    have r2 : few n ≤ 2 ↔ -32768 ≤ n ∧ n < 32768 := few_le n 2 (by omega)
    have h1 := r2.2 ⟨by omega, by omega⟩
    have h2 : ¬ few n ≤ 1 := fun h => by have := r1.1 h; omega
    omega
  have CI : Hid (∀ w, Calls Try.prog 30 #[.int .i64 n] w fun e w' => e = .returned (.string (strOfNums [n / 256 % 256, n % 256])) ∧ Below w.heap.size w w') := fun w => by
    have := Int_any n w (by omega) (by omega)
    unfold intB at this
    rw [hf] at this
    simpa [tc] using this
  obtain ⟨S, hS⟩ : ∃ S, S = strOfNums [n / 256 % 256, n % 256] := ⟨_, rfl⟩
  have hSs : S.size = 2 := by rw [hS]; rfl
  have hS0 : Hid (∀ h, ((S[0]'h).toNat : Int) = n / 256 % 256) := by rw [hS]; exact fun h => str_two0 _ _ h (by omega) (by omega)
  have hS1 : Hid (∀ h, ((S[1]'h).toNat : Int) = n % 256) := by rw [hS]; exact fun h => str_two1 _ _ h (by omega) (by omega)
  rw [← hS] at CI
  have Hor := Lib.hid hor
  clear hS hf hor
  by_cases hlo : -128 ≤ n
  · have hhi : 127 < n := by have := Hor.out; omega
    have hhi2 : decide (n ≤ 127) = false := by simp; omega
    clear h01
    go_enter Try.func12, Try.ntmps12
    go_wp2_with fail
    refine (vknown_any _).mono ?_
    rintro r w1 ⟨rfl, hb1⟩
    go_wp2_with fail
    refine (CI.out _).mono ?_
    rintro r w2 ⟨rfl, hb2⟩
    have hb := hb1.trans (hb2.mono hb1.size)
    clear hb1 hb2 CI
    go_wp2_with fail
    all_goals go_ret
    all_goals refine ⟨ret_bool ?_, hb⟩
    all_goals (have e0 := hS0.out (by omega); have e1 := hS1.out (by omega); have e2 : n / 256 % 256 = n / 256 := (by omega); simp_all)
  · have hlo2 : decide (-128 ≤ n) = false := by simp; omega
    clear h01
    go_enter Try.func12, Try.ntmps12
    go_wp2_with fail
    refine (vknown_any _).mono ?_
    rintro r w1 ⟨rfl, hb1⟩
    go_wp2_with fail
    refine (CI.out _).mono ?_
    rintro r w2 ⟨rfl, hb2⟩
    have hb := hb1.trans (hb2.mono hb1.size)
    clear hb1 hb2 CI
    go_wp2_with fail
    all_goals go_ret
    all_goals refine ⟨ret_bool ?_, hb⟩
    all_goals (have e0 := hS0.out (by omega); have e1 := hS1.out (by omega); simp_all)
theorem wf_i16 {a : Int} (h : (Lit.int .i16 a).wf = true) : -32768 ≤ a ∧ a ≤ 32767 := by simpa [Lit.wf, IntKind.min, IntKind.max, IntKind.signed, IntKind.bits] using h
theorem walk_ValueSmall (n : Int) (hn : (Lit.int .i16 n).wf = true) (w : World) :
    Calls Try.prog 12 #[.int .i16 n] w fun r w' => r = .returned (.bool true) ∧ Below w.heap.size w w' := by
  have h := wf_i16 hn
  by_cases h1 : -128 ≤ n ∧ n ≤ 127
  · exact small_one n w h1.1 h1.2
  · exact small_two n w h.1 h.2 (by simp; omega)
end Go.Proofs.Ytapkoiamjgdifaa
