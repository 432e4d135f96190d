/- Which number is any, which is less: what the program's and the reference's calls answer. -/
import Derived.Test.YtiglepmgonmhiaaCsBase
import Derived.Handy
namespace Go.Proofs.Ytiglepmgonmhiaa.Cs
open Go.RowKit
set_option linter.unusedVariables false
set_option maxRecDepth 100000

theorem is_any (t s r : Int) (w : World) : Calls Try.prog 26 #[cv t s r] w fun e w' => e = .returned (.bool (isC t s r)) ∧ Below w.heap.size w w' := by
  go_enter Try.func26, Try.ntmps26
  go_wp2
  all_goals
    go_ret
    refine ⟨?_, (Below.refl _ _).alloc (Nat.le_refl _) _⟩
    first
    | exact ret_bool (decide_eq_decide.2 (by omega))
    | exact ret_bool (decide_eq_false (by omega)).symm
theorem ris_any (t s r : Int) (w : World) : Calls Try.prog 27 #[cv t s r] w fun e w' => e = .returned (.bool (isC t s r)) ∧ Below w.heap.size w w' := by
  go_enter Try.func27, Try.ntmps27
  go_wp2
  all_goals
    go_ret
    refine ⟨?_, (Below.refl _ _).alloc (Nat.le_refl _) _⟩
    first
    | exact ret_bool (decide_eq_decide.2 (by omega))
    | exact ret_bool (decide_eq_false (by omega)).symm
theorem isNaN64 (x : Int) (w : World) : Calls Try.prog 38 #[.int .i64 x] w fun e w' => e = .returned (.bool false) ∧ w' = w := by
  go_enter Try.func38, Try.ntmps38
  go_wp2
  go_ret
  simp
theorem isNaN (x : Int) (w : World) : Calls Try.prog 39 #[.int .i64 x] w fun e w' => e = .returned (.bool false) ∧ w' = w := by
  go_enter Try.func39, Try.ntmps39
  go_wp2
  go_ret
  simp
theorem compare64 (x y : Int) (w : World) : Calls Try.prog 36 #[.int .i64 x, .int .i64 y] w fun e w' => e = .returned (.int .i64 (cmp1 x y)) ∧ w' = w := by
  have C := Lib.hid isNaN64
  go_enter Try.func36, Try.ntmps36
  go_wp2_with fail
  refine (C.out _ _).mono ?_
  rintro e w1 ⟨rfl, rfl⟩
  go_wp2_with fail
  refine (C.out _ _).mono ?_
  rintro e w2 ⟨rfl, rfl⟩
  go_wp2
  all_goals
    go_ret
    refine ⟨ret_int ?_, rfl⟩
    unfold cmp1
    first | rw [if_pos (by omega)] | rw [if_neg (by omega), if_pos (by omega)] | rw [if_neg (by omega), if_neg (by omega)]
theorem compare (x y : Int) (w : World) : Calls Try.prog 37 #[.int .i64 x, .int .i64 y] w fun e w' => e = .returned (.int .i64 (cmp1 x y)) ∧ w' = w := by
  have C := Lib.hid isNaN
  go_enter Try.func37, Try.ntmps37
  go_wp2_with fail
  refine (C.out _ _).mono ?_
  rintro e w1 ⟨rfl, rfl⟩
  go_wp2_with fail
  refine (C.out _ _).mono ?_
  rintro e w2 ⟨rfl, rfl⟩
  go_wp2
  all_goals
    go_ret
    refine ⟨ret_int ?_, rfl⟩
    unfold cmp1
    first | rw [if_pos (by omega)] | rw [if_neg (by omega), if_pos (by omega)] | rw [if_neg (by omega), if_neg (by omega)]
def orV (x y z : Int) : Int := if x ≠ 0 then x else if y ≠ 0 then y else z
set_option maxHeartbeats 1000000 in
theorem or_any (x y z : Int) (g : Nat) (w : World) (c0 : w.cell? ⟨g, 0, none⟩ = some (.int .i64 x)) (c1 : w.cell? ⟨g, 1, none⟩ = some (.int .i64 y)) (c2 : w.cell? ⟨g, 2, none⟩ = some (.int .i64 z)) : Calls Try.prog 35 #[.slice (some ⟨g, 0, none⟩) 3 3] w fun e w' => e = .returned (.int .i64 (orV x y z)) ∧ w' = w := by
  obtain ⟨V, hV⟩ : ∃ V, Hid (V = orV x y z) := ⟨_, rfl⟩
  rw [← hV.out]
  go_enter Try.func35, Try.ntmps35
  go_wp2_with fail
  go_loop [8] (fun i => ∃ q : Nat, q ≤ 3 ∧ i = .int .i64 q ∧ Hid ((1 ≤ q → x = 0) ∧ (2 ≤ q → y = 0) ∧ (3 ≤ q → z = 0))) (fun i => 3 - (intOf i).toNat)
  case atStart => exact ⟨0, by omega, rfl, by show _ ∧ _ ∧ _; refine ⟨?_, ?_, ?_⟩ <;> (intro; omega)⟩
  case round =>
    obtain ⟨q, hq, rfl, hh⟩ := hrel
    obtain rfl | rfl | rfl | rfl : q = 0 ∨ q = 1 ∨ q = 2 ∨ q = 3 := by omega
    all_goals
      go_wp2
      all_goals first
      | (go_ret
         have hh2 := hh.out
         refine ⟨ret_int ?_, rfl⟩
         rw [hV.out]
         unfold orV
         try simp only [bne_iff_ne, ne_eq] at *
         first | rw [if_pos (by omega)] | rw [if_neg (by omega), if_pos (by omega)] | (rw [if_neg (by omega), if_neg (by omega)] <;> omega))
      | (go_round
         case rel =>
           have hh2 := hh.out
           try simp only [bne_eq_false_iff_eq] at *
           first
           | exact ⟨1, by omega, rfl, by show _ ∧ _ ∧ _; refine ⟨?_, ?_, ?_⟩ <;> (intro; omega)⟩
           | exact ⟨2, by omega, rfl, by show _ ∧ _ ∧ _; refine ⟨?_, ?_, ?_⟩ <;> (intro; omega)⟩
           | exact ⟨3, by omega, rfl, by show _ ∧ _ ∧ _; refine ⟨?_, ?_, ?_⟩ <;> (intro; omega)⟩
         case measure => simp [intOf])
theorem orV_cmp (t s r t2 s2 r2 : Int) : orV (cmp1 t t2) (cmp1 s s2) (cmp1 r r2) = cmpC t s r t2 s2 r2 := rfl
theorem cmp_any (t s r t2 s2 r2 : Int) (w : World) : Calls Try.prog 34 #[cv t s r, cv t2 s2 r2] w fun e w' => e = .returned (.int .i64 (cmpC t s r t2 s2 r2)) ∧ Below w.heap.size w w' := by
  have C6 := Lib.hid compare64
  have C := Lib.hid compare
  have CO := Lib.hid or_any
  have HR := Lib.hid (orV_cmp t s r t2 s2 r2)
  go_enter Try.func34, Try.ntmps34
  go_wp2_with fail
  have B0 := ((Blk.new w 25 (gc t s r)).alloc (.cells (gc t2 s2 r2) 25)).drew
  have B1 := (Blk.new (w.alloc (.cells (gc t s r) 25)) 25 (gc t2 s2 r2)).drew
  have BV : Blk (((w.alloc (.cells (gc t s r) 25)).alloc (.cells (gc t2 s2 r2) 25)).alloc (.cells #[.int .i64 (cmp1 t t2), .int .i64 (cmp1 s s2), .int .i64 (cmp1 r r2)] 3)).drew (w.heap.size + 1 + 1) 3 #[.int .i64 (cmp1 t t2), .int .i64 (cmp1 s s2), .int .i64 (cmp1 r r2)] := by
    have := (Blk.new ((w.alloc (.cells (gc t s r) 25)).alloc (.cells (gc t2 s2 r2) 25)) 3 #[.int .i64 (cmp1 t t2), .int .i64 (cmp1 s s2), .int .i64 (cmp1 r r2)]).drew
    simpa using this
  go_region_held3 (fun w' => w'.cell? ⟨w.heap.size, 0, none⟩ = some (.int .i64 t) ∧ w'.cell? ⟨w.heap.size, 1, none⟩ = some (.int .i64 s) ∧ w'.cell? ⟨w.heap.size, 2, none⟩ = some (.int .i64 r) ∧ w'.cell? ⟨w.heap.size + 1, 0, none⟩ = some (.int .i64 t2) ∧ w'.cell? ⟨w.heap.size + 1, 1, none⟩ = some (.int .i64 s2) ∧ w'.cell? ⟨w.heap.size + 1, 2, none⟩ = some (.int .i64 r2)) (first | go_keep | exact ⟨B0.cell 0, B0.cell 1, B0.cell 2, B1.cell 0, B1.cell 1, B1.cell 2⟩) (first | (go_at_call 36; refine (C6.out _ _ _).mono ?_; rintro e9 w9 ⟨rfl, rfl⟩) | (go_at_call 37; refine (C.out _ _ _).mono ?_; rintro e9 w9 ⟨rfl, rfl⟩) | (go_at_call 35; refine (CO.out (cmp1 t t2) (cmp1 s s2) (cmp1 r r2) _ _ (BV.cell 0) (BV.cell 1) (BV.cell 2)).mono ?_; rintro e9 w9 ⟨rfl, rfl⟩))
  all_goals
    go_wp2_with fail
    go_ret
    exact ⟨rfl, ((((Below.refl _ _).alloc (Nat.le_refl _) _).alloc (by simp) _).alloc (by simp; omega) _).drew⟩
theorem rcmp_any (t s r t2 s2 r2 : Int) (w : World) : Calls Try.prog 33 #[cv t s r, cv t2 s2 r2] w fun e w' => e = .returned (.int .i64 (cmpC t s r t2 s2 r2)) ∧ Below w.heap.size w w' := by
  obtain ⟨V, hV⟩ : ∃ V, Hid (V = cmpC t s r t2 s2 r2) := ⟨_, rfl⟩
  rw [← hV.out]
  go_enter Try.func33, Try.ntmps33
  go_wp2
  all_goals
    go_ret
    refine ⟨ret_int ?_, ((Below.refl _ _).alloc (Nat.le_refl _) _).alloc (by simp) _⟩
    rw [hV.out]
    unfold cmpC cmp1
    omega
end Go.Proofs.Ytiglepmgonmhiaa.Cs
