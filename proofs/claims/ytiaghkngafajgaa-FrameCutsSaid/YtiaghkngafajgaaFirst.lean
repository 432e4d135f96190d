/- first: how many bytes the message at the beginning is; number: which error a Fault holds. -/
import Derived.Test.YtiaghkngafajgaaIs
import Derived.Test.YtiaghkngafajgaaFSpec
namespace Go.Proofs.Ytiaghkngafajgaa
open Go.RowKit
set_option linter.unusedVariables false
set_option maxRecDepth 100000

set_option maxHeartbeats 1000000 in
theorem number_any (pb : Nat) (a : Int) (w : World) (h0 : w.cell? ⟨pb, 0, none⟩ = some (.iface 30 (.int .i64 a))) (ha : a = 10 ∨ a = 11 ∨ a = 13 ∨ a = 14) :
    Calls Try.prog 17 #[.iface 63 (.pointer (some ⟨pb, 0, none⟩))] w fun e w' => e = .returned (.int .i64 a) ∧ w = w' := by
  have C := Lib.hid (fun b => is_fault pb a b w h0)
  clear h0
  rcases ha with rfl | rfl | rfl | rfl
  all_goals
    go_enter Try.func17, Try.ntmps17
    go_wp2_with (go_at_call 23; refine (C.out _).mono ?_; rintro e w' ⟨rfl, rfl⟩)
    go_ret
    exact ⟨rfl, rfl⟩

section
variable (g o cap : Nat) (l : List UInt8) (w : World) (hl : l.length ≤ 16000) (hc : l.length ≤ cap)
  (V1 : (l.length : Int) ≤ 6 → (convert 23 9 (.slice (some ⟨g, o, none⟩) l.length cap)).run Try.prog w = .ok (.string ⟨(l.take 6).toArray⟩) w)
  (V2 : 6 < (l.length : Int) → (convert 23 9 (.slice (some ⟨g, o, none⟩) 6 cap)).run Try.prog w = .ok (.string ⟨(l.take 6).toArray⟩) w)
include hl hc V1 V2
set_option maxHeartbeats 1000000 in
theorem first_ok (h n : Nat) (C : ∀ w, Calls Try.prog 22 #[.string ⟨(l.take 6).toArray⟩] w fun e w' => e = .returned (.tuple #[.int .i64 h, .int .i64 n, .int .i64 0]) ∧ Below w.heap.size w w')
    (h6 : h ≤ 6) (hn : n ≤ 4000) (hfit : (h : Int) + n ≤ l.length) :
    Calls Try.prog 16 #[.slice (some ⟨g, o, none⟩) l.length cap] w fun e w' => e = .returned (.tuple #[.int .i64 ((h : Int) + n), .nilIface]) ∧ Below w.heap.size w w' := by
  have HC := Lib.hid C
  have H1 := Lib.hid V1
  have H2 := Lib.hid V2
  clear C V1 V2
  go_enter Try.func16, Try.ntmps16
  go_wp2_with fail
  all_goals
    first | rw [H1.out (by omega)] | rw [H2.out (by omega)]
    simp only [Result.andThen]
    rw [Oper.upon_value]
    go_wp2_with fail
    refine (HC.out _).mono ?_
    rintro r w1 ⟨rfl, hb1⟩
    go_wp2_with fail
    go_ret2
    exact ⟨rfl, hb1⟩
set_option maxHeartbeats 1000000 in
theorem first_short (h n : Nat) (C : ∀ w, Calls Try.prog 22 #[.string ⟨(l.take 6).toArray⟩] w fun e w' => e = .returned (.tuple #[.int .i64 h, .int .i64 n, .int .i64 0]) ∧ Below w.heap.size w w')
    (h6 : h ≤ 6) (hn : n ≤ 4000) (hfit : (l.length : Int) < (h : Int) + n) :
    Calls Try.prog 16 #[.slice (some ⟨g, o, none⟩) l.length cap] w fun e w' => ∃ pb, e = .returned (.tuple #[.int .i64 0, .iface 63 (.pointer (some ⟨pb, 0, none⟩))]) ∧ Below w.heap.size w w' ∧ w'.cell? ⟨pb, 0, none⟩ = some (.iface 30 (.int .i64 10)) := by
  have HC := Lib.hid C
  have H1 := Lib.hid V1
  have H2 := Lib.hid V2
  clear C V1 V2
  go_enter Try.func16, Try.ntmps16
  go_wp2_with fail
  all_goals
    first | rw [H1.out (by omega)] | rw [H2.out (by omega)]
    simp only [Result.andThen]
    rw [Oper.upon_value]
    go_wp2_with fail
    refine (HC.out _).mono ?_
    rintro r w1 ⟨rfl, hb1⟩
    go_wp2_with fail
    go_ret2
    exact ⟨_, rfl, hb1.alloc hb1.size _, by simp⟩
set_option maxHeartbeats 1000000 in
theorem first_bad (e : Nat) (C : ∀ w, Calls Try.prog 22 #[.string ⟨(l.take 6).toArray⟩] w fun r w' => r = .returned (.tuple #[.int .i64 0, .int .i64 0, .int .i64 e]) ∧ Below w.heap.size w w')
    (he : ((e : Int) == 0) = false) :
    Calls Try.prog 16 #[.slice (some ⟨g, o, none⟩) l.length cap] w fun r w' => ∃ pb, r = .returned (.tuple #[.int .i64 0, .iface 63 (.pointer (some ⟨pb, 0, none⟩))]) ∧ Below w.heap.size w w' ∧ w'.cell? ⟨pb, 0, none⟩ = some (.iface 30 (.int .i64 e)) := by
  have HC := Lib.hid C
  have H1 := Lib.hid V1
  have H2 := Lib.hid V2
  have he2 : ((e : Int) != 0) = true := by simp [bne, he]
  clear C V1 V2
  go_enter Try.func16, Try.ntmps16
  go_wp2_with fail
  all_goals
    first | rw [H1.out (by omega)] | rw [H2.out (by omega)]
    simp only [Result.andThen]
    rw [Oper.upon_value]
    go_wp2_with fail
    refine (HC.out _).mono ?_
    rintro r w1 ⟨rfl, hb1⟩
    go_wp2_with fail
    go_ret2
    exact ⟨_, rfl, hb1.alloc hb1.size _, by simp⟩
end
set_option maxHeartbeats 1000000 in
theorem first_nil (w : World) (C : ∀ w, Calls Try.prog 22 #[.string ⟨#[]⟩] w fun r w' => r = .returned (.tuple #[.int .i64 0, .int .i64 0, .int .i64 10]) ∧ Below w.heap.size w w') :
    Calls Try.prog 16 #[.slice none 0 0] w fun r w' => ∃ pb, r = .returned (.tuple #[.int .i64 0, .iface 63 (.pointer (some ⟨pb, 0, none⟩))]) ∧ Below w.heap.size w w' ∧ w'.cell? ⟨pb, 0, none⟩ = some (.iface 30 (.int .i64 10)) := by
  have HC := Lib.hid C
  have H1 := conv_nil
  clear C
  go_enter Try.func16, Try.ntmps16
  go_wp2_with fail
  refine (HC.out _).mono ?_
  rintro r w1 ⟨rfl, hb1⟩
  go_wp2_with fail
  go_ret2
  exact ⟨_, rfl, hb1.alloc hb1.size _, by simp⟩

/-- first, of whatever bytes. -/
theorem first_any (w : World) (v : Value) (g : Nat) (l : List UInt8) (hh : Held w v g l) (hl : l.length ≤ 16000) :
    Calls Try.prog 16 #[v] w fun r w' => Below w.heap.size w w' ∧
      ((∃ h n : Nat, r = .returned (.tuple #[.int .i64 ((h : Int) + n), .nilIface]) ∧ 2 ≤ h ∧ h + n ≤ l.length ∧ nx l = (l.take (h + n), 0, l.drop (h + n))) ∨
       (∃ pb e : Nat, r = .returned (.tuple #[.int .i64 0, .iface 63 (.pointer (some ⟨pb, 0, none⟩))]) ∧ w'.cell? ⟨pb, 0, none⟩ = some (.iface 30 (.int .i64 e)) ∧ (e = 10 ∨ e = 11 ∨ e = 13 ∨ e = 14) ∧ nx l = ([], e, l))) := by
  have CH : ∀ w, Calls Try.prog 22 #[.string ⟨(l.take 6).toArray⟩] w fun e w' => e = .returned (hdV (l.take 6)) ∧ Below w.heap.size w w' := fun w =>
    Head_any ⟨(l.take 6).toArray⟩ w (by
      show (l.take 6).toArray.size ≤ maxLen
      unfold maxLen
      rw [List.size_toArray, List.length_take]; omega)
  have hV : ∀ {a b c : Nat}, Sp.hd l = (a, b, c) → ∀ w, Calls Try.prog 22 #[.string ⟨(l.take 6).toArray⟩] w fun e w' => e = .returned (.tuple #[.int .i64 a, .int .i64 b, .int .i64 c]) ∧ Below w.heap.size w w' := fun {a b c} h w => by
    have := CH w
    rwa [hdV_of ((hd_take6 l).trans h)] at this
  rcases hh with ⟨rfl, rfl⟩ | ⟨o, cap, cur, rfl, hg, hc, hoc, ht⟩
  · refine (first_nil w (hV (a := 0) (b := 0) (c := 10) rfl)).mono ?_
    rintro r w' ⟨pb, rfl, hb, hcell⟩
    exact ⟨hb, Or.inr ⟨pb, 10, rfl, hcell, by simp, rfl⟩⟩
  · have cell := fun i hi => held_cell hg ht rfl i hi
    have V1 : (l.length : Int) ≤ 6 → (convert 23 9 (.slice (some ⟨g, o, none⟩) l.length cap)).run Try.prog w = .ok (.string ⟨(l.take 6).toArray⟩) w := fun h => by
      rw [List.take_of_length_le (by omega)]
      exact conv_mid w g o cap l cell
    have V2 : 6 < (l.length : Int) → (convert 23 9 (.slice (some ⟨g, o, none⟩) 6 cap)).run Try.prog w = .ok (.string ⟨(l.take 6).toArray⟩) w := fun h => by
      have h6 : (l.take 6).length = 6 := by rw [List.length_take]; omega
      have := conv_mid w g o cap (l.take 6) (fun i hi => by
        rw [h6] at hi
        rw [cell i (by omega)]
        simp)
      rwa [h6] at this
    rcases nx_cases l with ⟨h, n, e, h2, h6, hn, hfit, hx⟩ | ⟨h, n, e, h2, h6, hn, hfit, hx⟩ | ⟨e, he, hor, hx⟩
    · refine (first_ok g o cap l w hl hc V1 V2 h n (hV e) h6 hn (by omega)).mono ?_
      rintro r w' ⟨rfl, hb⟩
      exact ⟨hb, Or.inl ⟨h, n, rfl, h2, hfit, hx⟩⟩
    · refine (first_short g o cap l w hl hc V1 V2 h n (hV e) h6 hn (by omega)).mono ?_
      rintro r w' ⟨pb, rfl, hb, hcell⟩
      exact ⟨hb, Or.inr ⟨pb, 10, rfl, hcell, by simp, hx⟩⟩
    · refine (first_bad g o cap l w hl hc V1 V2 e (hV he) (by rw [beq_eq_false_iff_ne]; omega)).mono ?_
      rintro r w' ⟨pb, rfl, hb, hcell⟩
      exact ⟨hb, Or.inr ⟨pb, e, rfl, hcell, hor, hx⟩⟩
end Go.Proofs.Ytiaghkngafajgaa
