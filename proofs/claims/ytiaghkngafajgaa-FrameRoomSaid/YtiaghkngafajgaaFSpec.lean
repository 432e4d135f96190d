/- Plain: what a Cutter's Next tells of the bytes that it holds. -/
import Derived.Test.YtiaghkngafajgaaSpec
namespace Go.Proofs.Ytiaghkngafajgaa
set_option linter.unusedVariables false

/-- Head looks at no more than six bytes. -/
theorem hd_take6 (l : List UInt8) : Sp.hd (l.take 6) = Sp.hd l := by
  match l with
  | [] => rfl
  | [t] => rfl
  | t :: b :: r =>
    show Sp.hd (t :: b :: r.take 4) = _
    simp only [Sp.hd]
    by_cases h1 : t.toNat % 32 = 31
    · simp [h1]
    by_cases h2 : b.toNat < 128
    · simp [h1, h2]
    by_cases h3 : b.toNat = 128 ∨ 132 < b.toNat
    · simp [h1, h2, h3]
    have h4 : b.toNat - 128 ≤ 4 := by omega
    have e1 : (r.take 4).length < b.toNat - 128 ↔ r.length < b.toNat - 128 := by rw [List.length_take]; omega
    have e2 : (r.take 4).take (b.toNat - 128) = r.take (b.toNat - 128) := by rw [List.take_take, Nat.min_eq_left h4]
    rw [if_neg h1, if_neg h2, if_neg h3, if_neg h1, if_neg h2, if_neg h3, e2]
    by_cases h5 : r.length < b.toNat - 128
    · rw [if_pos h5, if_pos (e1.2 h5)]
    · rw [if_neg h5, if_neg (fun h => h5 (e1.1 h))]
theorem hd_cases (l : List UInt8) : (∃ h n, Sp.hd l = (h, n, 0) ∧ 2 ≤ h ∧ h ≤ 6 ∧ n ≤ 4000) ∨ ∃ e, Sp.hd l = (0, 0, e) ∧ (e = 10 ∨ e = 11 ∨ e = 13 ∨ e = 14) := by
  match l with
  | [] => exact Or.inr ⟨10, rfl, by simp⟩
  | [t] =>
    simp only [Sp.hd]
    by_cases h1 : t.toNat % 32 = 31
    · exact Or.inr ⟨14, by simp [h1], by simp⟩
    · exact Or.inr ⟨10, by simp [h1], by simp⟩
  | t :: b :: r =>
    simp only [Sp.hd]
    by_cases h1 : t.toNat % 32 = 31
    · exact Or.inr ⟨14, by simp [h1], by simp⟩
    by_cases h2 : b.toNat < 128
    · exact Or.inl ⟨2, b.toNat, by simp [h1, h2], by omega, by omega, by omega⟩
    by_cases h3 : b.toNat = 128 ∨ 132 < b.toNat
    · exact Or.inr ⟨11, by simp [h1, h2, h3], by simp⟩
    by_cases h4 : r.length < b.toNat - 128
    · exact Or.inr ⟨10, by simp [h1, h2, h3, h4], by simp⟩
    by_cases h5 : 4000 < Sp.num (r.take (b.toNat - 128))
    · exact Or.inr ⟨13, by simp [h1, h2, h3, h4, h5], by simp⟩
    · exact Or.inl ⟨2 + (b.toNat - 128), Sp.num (r.take (b.toNat - 128)), by rw [if_neg h1, if_neg h2, if_neg h3, if_neg h4, if_neg h5], by omega, by omega, by omega⟩

/-- P3.1, Next: the message, the error, what is left. -/
def nx (l : List UInt8) : List UInt8 × Nat × List UInt8 :=
  if (Sp.hd l).2.2 ≠ 0 then ([], (Sp.hd l).2.2, l)
  else if l.length < (Sp.hd l).1 + (Sp.hd l).2.1 then ([], 10, l)
  else (l.take ((Sp.hd l).1 + (Sp.hd l).2.1), 0, l.drop ((Sp.hd l).1 + (Sp.hd l).2.1))
/-- Its three ways. -/
theorem nx_cases (l : List UInt8) : (∃ h n, Sp.hd l = (h, n, 0) ∧ 2 ≤ h ∧ h ≤ 6 ∧ n ≤ 4000 ∧ h + n ≤ l.length ∧ nx l = (l.take (h + n), 0, l.drop (h + n))) ∨
    (∃ h n, Sp.hd l = (h, n, 0) ∧ 2 ≤ h ∧ h ≤ 6 ∧ n ≤ 4000 ∧ l.length < h + n ∧ nx l = ([], 10, l)) ∨
    ∃ e, Sp.hd l = (0, 0, e) ∧ (e = 10 ∨ e = 11 ∨ e = 13 ∨ e = 14) ∧ nx l = ([], e, l) := by
  rcases hd_cases l with ⟨h, n, e, h2, h6, hn⟩ | ⟨e, he, hx⟩
  · by_cases hl : l.length < h + n
    · exact Or.inr (Or.inl ⟨h, n, e, h2, h6, hn, hl, by simp [nx, e, hl]⟩)
    · exact Or.inl ⟨h, n, e, h2, h6, hn, by omega, by simp [nx, e, hl]⟩
  · have : e ≠ 0 := by omega
    exact Or.inr (Or.inr ⟨e, he, hx, by simp [nx, he, this]⟩)
/-- Feed: what there is then, the error. -/
def fd (l s : List UInt8) : List UInt8 × Nat := if 16000 < l.length + s.length then (l, 13) else (l ++ s, 0)
end Go.Proofs.Ytiaghkngafajgaa
