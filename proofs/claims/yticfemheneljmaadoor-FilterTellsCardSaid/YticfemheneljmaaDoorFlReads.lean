/- What reads, right answer. -/
import Derived.Test.YticfemheneljmaaDoorFlKnown
import Derived.Test.YticfemheneljmaaDoorFlRPrint
import Derived.Test.YticfemheneljmaaDoorFlRSame
namespace Go.Proofs.YticfemheneljmaaDoor.Fi
open Go.RowKit
set_option linter.unusedVariables false
set_option maxRecDepth 100000

set_option maxHeartbeats 1000000 in
theorem right_any (s : ByteArray) (w : World) (hs : s.size ≤ 1000000000) : Calls Tryd.prog 20 #[.string s] w fun r w' => r = .returned (.bool (parse (Nm.bs s)).isSome) ∧ Below w.heap.size w w' := by
  have H := fun w => parse_any s w hs
  cases hp : parse (Nm.bs s) with
  | none =>
    rw [hp] at H
    have HH := Lib.hid H
    clear H hp
    go_enter Tryd.func20, Tryd.ntmps20
    go_wp2_with fail
    refine (HH.out _).mono ?_
    rintro r w1 ⟨rfl, hb1⟩
    have hb2 := hb1.alloc hb1.size (.cells #[.int .i64 0, .string ⟨#[]⟩, .string ⟨#[]⟩, .slice none 0 0, .slice none 0 0] 25)
    go_wp2_with fail
    go_ret
    first | exact ⟨rfl, hb1⟩ | exact ⟨rfl, hb2⟩
  | some f =>
    rw [hp] at H
    have HH := Lib.hid H
    clear H hp
    go_enter Tryd.func20, Tryd.ntmps20
    go_wp2_with fail
    refine (HH.out _).mono ?_
    rintro r w1 ⟨x0, x1, x2, x3, x4, rfl, hb1, hL⟩
    obtain ⟨k', a', v', S', m', d', A', n', c', hcs⟩ := hL.form
    simp only [List.cons.injEq, and_true] at hcs
    obtain ⟨rfl, rfl, rfl, rfl, rfl⟩ := hcs
    have hb2 := hb1.alloc hb1.size (.cells #[.int .i64 k', .string a', .string v', .slice S' m' d', .slice A' n' c'] 25)
    go_wp2_with fail
    go_ret
    first | exact ⟨rfl, hb1⟩ | exact ⟨rfl, hb2⟩
set_option maxHeartbeats 2000000 in
theorem reads_any (s : ByteArray) (w : World) (hs : s.size ≤ 10000000) : Calls Tryd.prog 19 #[.string s] w fun r w' => r = .returned (.bool true) ∧ Below w.heap.size w w' := by
  have H := fun w => parse_any s w (by omega)
  cases hp : parse (Nm.bs s) with
  | none =>
    rw [hp] at H
    have HH := Lib.hid H
    have CS := fun w => rsame_any kZero kZero _ _ _ _ _ _ _ _ _ _ w (kZero_lies w _) (kZero_lies w _)
    rw [eqF_self] at CS
    have HS := Lib.hid CS
    clear H hp CS
    go_enter Tryd.func19, Tryd.ntmps19
    go_wp2_with fail
    refine (HH.out _).mono ?_
    rintro r w1 ⟨rfl, hb1⟩
    have hb2 := hb1.alloc hb1.size (.cells #[.int .i64 0, .string ⟨#[]⟩, .string ⟨#[]⟩, .slice none 0 0, .slice none 0 0] 25)
    have hb3 := hb2.alloc hb2.size (.cells #[.int .i64 0, .string ⟨#[]⟩, .string ⟨#[]⟩, .slice none 0 0, .slice none 0 0] 25)
    go_wp2_with fail
    refine (HS.out _).mono ?_
    rintro r w2 ⟨rfl, hb4⟩
    go_wp2_with fail
    go_ret
    first | exact ⟨rfl, hb2.trans (hb4.mono hb2.size)⟩ | exact ⟨rfl, hb3.trans (hb4.mono hb3.size)⟩
  | some f =>
    rw [hp] at H
    obtain ⟨hi, hpr⟩ := parse_some hp
    obtain ⟨hf, htt⟩ := isF_frm hi
    have hpl : (pr f).length ≤ 10000000 := by rw [hpr]; exact hs
    have CP := fun x0 x1 x2 x3 x4 w hL => Print_any f x0 x1 x2 x3 x4 w hL
    rw [print_of hi, hpr, mk_bs] at CP
    have CI := fun x0 x1 x2 x3 x4 w hL => Is_any f x0 x1 x2 x3 x4 w hL
    rw [hi] at CI
    have CR := fun x0 x1 x2 x3 x4 w hL => rpr_any f x0 x1 x2 x3 x4 w hf hpl hL
    rw [hpr, mk_bs] at CR
    have hss : (s.toList == s.toList) = true := by rw [toList_eq]; simp
    have HH := Lib.hid H
    have HP := Lib.hid CP
    have HI := Lib.hid CI
    have HR := Lib.hid CR
    clear H hp CP CI CR hi hpr hf htt hpl
    go_enter Tryd.func19, Tryd.ntmps19
    go_wp2_with fail
    refine (HH.out _).mono ?_
    rintro r w1 ⟨x0, x1, x2, x3, x4, rfl, hb1, hL⟩
    obtain ⟨k', a', v', S', m', d', A', n', c', hcs⟩ := hL.form
    simp only [List.cons.injEq, and_true] at hcs
    obtain ⟨rfl, rfl, rfl, rfl, rfl⟩ := hcs
    have hs1 := hb1.size
    have hL1 := (hL.imp (w' := w1) (P' := (· < w1.heap.size)) (fun b h => h.2) (fun _ _ => rfl)).alloc (.cells #[.int .i64 k', .string a', .string v', .slice S' m' d', .slice A' n' c'] 25)
    have hb2 := hb1.alloc hb1.size (.cells #[.int .i64 k', .string a', .string v', .slice S' m' d', .slice A' n' c'] 25)
    have F1 := Blk.new w1 25 #[.int .i64 k', .string a', .string v', .slice S' m' d', .slice A' n' c']
    obtain ⟨q0, q1, q2, q3, q4⟩ := five F1
    have HF1 := Lib.hid F1
    have HL1 := Lib.hid hL1
    clear hL hL1 F1 hb1
    go_wp2_with fail
    refine (HI.out _ _ _ _ _ _ HL1.out).mono ?_
    rintro r w2 ⟨rfl, hb3⟩
    have F2 := HF1.out.past hb3
    have hL2 := HL1.out.past hb3
    have hb4 := hb2.trans (hb3.mono hb2.size)
    clear q0 q1 q2 q3 q4 hb3
    obtain ⟨q0, q1, q2, q3, q4⟩ := five F2
    have HF2 := Lib.hid F2
    have HL2 := Lib.hid hL2
    clear hL2 F2
    go_wp2_with fail
    refine (HP.out _ _ _ _ _ _ HL2.out).mono ?_
    rintro r w3 ⟨rfl, hb5⟩
    have F3 := HF2.out.past hb5
    have hL3 := HL2.out.past hb5
    have hb6 := hb4.trans (hb5.mono hb4.size)
    clear q0 q1 q2 q3 q4 hb5
    obtain ⟨q0, q1, q2, q3, q4⟩ := five F3
    have HL3 := Lib.hid hL3
    clear hL3 F3
    go_wp2_with fail
    refine (HR.out _ _ _ _ _ _ HL3.out).mono ?_
    rintro r w4 ⟨rfl, hb7⟩
    have hb8 := hb6.trans (hb7.mono hb6.size)
    go_wp2_with fail
    go_ret
    exact ⟨rfl, hb8⟩
set_option maxHeartbeats 1000000 in
theorem walk_FilterReads (s : ByteArray) (hs : s.size ≤ maxLen) (w : World) : Calls Tryd.prog 5 #[.string s] w fun r w' => r = .returned (.bool true) ∧ Below w.heap.size w w' := by
  have CK := Lib.hid known_any
  by_cases h : 300 < (s.size : Int)
  · go_enter Tryd.func5, Tryd.ntmps5
    go_wp2_with fail
    refine (CK.out _).mono ?_
    rintro r w1 ⟨rfl, hb1⟩
    go_wp2_with fail
    go_ret
    exact ⟨rfl, hb1⟩
  · have h' : (s.size : Int) ≤ 300 := by omega
    have CR := Lib.hid (fun w => reads_any s w (by omega))
    clear h
    go_enter Tryd.func5, Tryd.ntmps5
    go_wp2_with fail
    refine (CK.out _).mono ?_
    rintro r w1 ⟨rfl, hb1⟩
    go_wp2_with fail
    refine (CR.out _).mono ?_
    rintro r w2 ⟨rfl, hb2⟩
    go_wp2_with fail
    go_ret
    exact ⟨rfl, hb1.trans (hb2.mono hb1.size)⟩
end Go.Proofs.YticfemheneljmaaDoor.Fi
