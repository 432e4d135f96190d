/- The calls' contracts in the forms that the statements' walks ask. -/
import Derived.Test.YtiglepmgonmhiaaVcKnown
import Derived.Test.YtiglepmgonmhiaaVcLat2
import Derived.Test.YtiglepmgonmhiaaVcRJoin
import Derived.Test.YtiglepmgonmhiaaVcRLeast
import Derived.Test.YtiglepmgonmhiaaVcNew
namespace Go.Proofs.Ytiglepmgonmhiaa.Cs
open Go.RowKit
set_option linter.unusedVariables false
set_option maxRecDepth 100000

theorem newV_le (n : Int) : (newV n).length ≤ 1000 := by
  unfold newV
  rw [List.length_map, List.length_range]
  omega
theorem raise_le (l : List Nm) (c : Nm) : (raise l c).length ≤ 1000 := by
  have := cnt_len l
  unfold raise
  split
  · rw [List.length_set]; omega
  · omega
theorem join_le (a b : List Nm) : (join a b).length ≤ 1000 := by
  have := (isV_true (isV_join a b)).1
  omega
theorem meet_le (a b : List Nm) : (meet a b).length ≤ 1000 := by
  have := cnt_len a
  unfold meet
  rw [List.length_zipWith]
  omega
theorem cnt_le (a : List Nm) : (cnt a).length ≤ 1000 := by
  have := cnt_len a
  omega
theorem f_new (n : Int) (w : World) : Calls Try.prog 8 #[.int .i64 n] w fun e w' => ∃ A' c', e = .returned (.slice A' (newV n).length c') ∧ VecIn w' A' (newV n) ∧ Below w.heap.size w w' := by
  refine (New_any n w).mono fun e w' ⟨v, h1, h2, h3⟩ => ?_
  obtain ⟨A, c, h4, h5⟩ := h2.form
  exact ⟨A, c, by rw [h1, h4], h5, h3⟩
theorem f_rnew (n : Int) (w : World) : Calls Try.prog 9 #[.int .i64 n] w fun e w' => ∃ A' c', e = .returned (.slice A' (newV n).length c') ∧ VecIn w' A' (newV n) ∧ Below w.heap.size w w' := by
  refine (rNew_any n w).mono fun e w' ⟨v, h1, h2, h3⟩ => ?_
  obtain ⟨A, c, h4, h5⟩ := h2.form
  exact ⟨A, c, by rw [h1, h4], h5, h3⟩
theorem f_own (A : Option Addr) (c : Nat) (l : List Nm) (w : World) (hV : VecIn w A l) (hl : l.length ≤ 1000) : Calls Try.prog 25 #[.slice A l.length c] w fun e w' => ∃ A' c', e = .returned (.slice A' (cnt l).length c') ∧ VecIn w' A' (cnt l) ∧ Below w.heap.size w w' := by
  refine (Own_any A c l w hV hl).mono fun e w' ⟨v, h1, h2, h3⟩ => ?_
  obtain ⟨A, c, h4, h5⟩ := h2.form
  exact ⟨A, c, by rw [h1, h4], h5, h3⟩
theorem f_eq (A B : Option Addr) (c d : Nat) (l : List Nm) (w : World) (hA : VecIn w A l) (hB : VecIn w B l) (hl : l.length ≤ 1000) : Calls Try.prog 7 #[.slice A l.length c, .slice B l.length d] w fun e w' => e = .returned (.bool true) ∧ Below w.heap.size w w' := by
  have := Equal_any A B c d l l w hA hB hl
  rw [decide_eq_true rfl] at this
  exact this
theorem f_rjoin (A B : Option Addr) (c d : Nat) (la lb : List Nm) (w : World) (hA : VecIn w A la) (hB : VecIn w B lb) (hla : la.length ≤ 1000) (hlb : lb.length ≤ 1000) : Calls Try.prog 15 #[.slice A la.length c, .slice B lb.length d] w fun e w' => ∃ A' c', e = .returned (.slice A' (join la lb).length c') ∧ VecIn w' A' (join la lb) ∧ Below w.heap.size w w' := by
  have := rJoin_any A B c d la lb w hA hB hla hlb
  rw [rjoin_join] at this
  exact this
theorem f_rmeet (A B : Option Addr) (c d : Nat) (la lb : List Nm) (w : World) (hA : VecIn w A la) (hB : VecIn w B lb) (hla : la.length ≤ 1000) (hlb : lb.length ≤ 1000) : Calls Try.prog 17 #[.slice A la.length c, .slice B lb.length d] w fun e w' => ∃ A' c', e = .returned (.slice A' (meet la lb).length c') ∧ VecIn w' A' (meet la lb) ∧ Below w.heap.size w w' := by
  have := rMeet_any A B c d la lb w hA hB hla hlb
  rw [rmeet_meet] at this
  exact this
theorem f_rleq (A B : Option Addr) (c d : Nat) (la lb : List Nm) (w : World) (hA : VecIn w A la) (hB : VecIn w B lb) (hla : la.length ≤ 1000) (hlb : lb.length ≤ 1000) : Calls Try.prog 19 #[.slice A la.length c, .slice B lb.length d] w fun e w' => e = .returned (.bool (leq la lb)) ∧ Below w.heap.size w w' := by
  have := rLeq_any A B c d la lb w hA hB hla hlb
  rw [← leq_leqB] at this
  exact this
section
variable {ev : Operand → Value} {o : Oper} {x y : Operand} {w : World}
theorem run_same {u : TypeId} {p : Bool} (ho : o.op = .binOp .eql 4 x y u) (hx : ev x = .bool p) (hy : ev y = .bool p) : (execOp ev o).run Try.prog w = .ok (.value (.bool true)) w := by
  unfold execOp
  simp only [ho, hx, hy]
  cases p
  all_goals kernel_rfl
theorem run_samev {u : TypeId} {p : Nm} (ho : o.op = .binOp .eql 25 x y u) (hx : ev x = p.v) (hy : ev y = p.v) : (execOp ev o).run Try.prog w = .ok (.value (.bool true)) w := by
  unfold execOp
  simp only [ho, hx, hy]
  go_simp
end
end Go.Proofs.Ytiglepmgonmhiaa.Cs
