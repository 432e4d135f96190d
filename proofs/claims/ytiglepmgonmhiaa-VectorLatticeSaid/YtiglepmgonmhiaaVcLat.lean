/- Vectors are a lattice; the document's ways and the program's come to one. -/
import Derived.Test.YtiglepmgonmhiaaVcFill
namespace Go.Proofs.Ytiglepmgonmhiaa.Cs
set_option linter.unusedVariables false

/-- By Time and Seq alone. -/
def le (a b : Nm) : Prop := a.t < b.t ∨ a.t = b.t ∧ a.s ≤ b.s
instance (a b : Nm) : Decidable (le a b) := inferInstanceAs (Decidable (_ ∨ _))
theorem cmp_le {a b : Nm} (h : a.r = b.r) : a.cmp b ≤ 0 ↔ le a b := by
  unfold Nm.cmp cmpC cmp1 le
  rw [h]
  constructor
  · intro h9
    split at h9 <;> split at h9 <;> (try split at h9) <;> (try split at h9) <;> omega
  · intro h9
    split <;> split <;> (try split) <;> (try split) <;> omega
theorem cmp_lt {a b : Nm} (h : a.r = b.r) : a.cmp b < 0 ↔ ¬ le b a := by
  unfold Nm.cmp cmpC cmp1 le
  rw [h]
  constructor
  · intro h9
    split at h9 <;> split at h9 <;> (try split at h9) <;> (try split at h9) <;> omega
  · intro h9
    split <;> split <;> (try split) <;> (try split) <;> omega
theorem later_eq {a b : Nm} (h : a.r = b.r) : later a b = if le b a then a else b := by
  unfold later
  by_cases h9 : le b a
  · rw [if_pos h9, if_neg (by rw [cmp_lt h]; exact fun h8 => h8 h9)]
  · rw [if_neg h9, if_pos ((cmp_lt h).2 h9)]
theorem earlier_eq {a b : Nm} (h : a.r = b.r) : earlier a b = if le a b then a else b := by
  unfold earlier
  by_cases h9 : le a b
  · rw [if_pos h9, if_neg (by rw [cmp_lt h.symm]; exact fun h8 => h8 h9)]
  · rw [if_neg h9, if_pos ((cmp_lt h.symm).2 h9)]
theorem later_r {a b : Nm} (h : a.r = b.r) : (later a b).r = a.r := by
  unfold later; split <;> simp [h]
theorem earlier_r {a b : Nm} (h : a.r = b.r) : (earlier a b).r = a.r := by
  unfold earlier; split <;> simp [h]
theorem later_is {a b : Nm} (h1 : a.is = true) (h2 : b.is = true) : (later a b).is = true := by
  unfold later; split <;> assumption
theorem earlier_is {a b : Nm} (h1 : a.is = true) (h2 : b.is = true) : (earlier a b).is = true := by
  unfold earlier; split <;> assumption
theorem le_antisymm {a b : Nm} (hr : a.r = b.r) (h1 : le a b) (h2 : le b a) : a = b := by
  unfold le at h1 h2
  exact Nm.ext (by omega) (by omega) hr
theorem later_comm {a b : Nm} (h : a.r = b.r) : later a b = later b a := by
  rw [later_eq h, later_eq h.symm]
  by_cases h1 : le b a <;> by_cases h2 : le a b
  · rw [if_pos h1, if_pos h2]; exact le_antisymm h h2 h1
  · rw [if_pos h1, if_neg h2]
  · rw [if_neg h1, if_pos h2]
  · exfalso; unfold le at h1 h2; omega
theorem le_refl (a : Nm) : le a a := .inr ⟨rfl, Int.le_refl _⟩
theorem le_trans {a b c : Nm} (h1 : le a b) (h2 : le b c) : le a c := by unfold le at *; omega
theorem le_total (a b : Nm) : le a b ∨ le b a := by unfold le; omega
theorem le_later1 {a b : Nm} (h : a.r = b.r) : le a (later a b) := by
  rw [later_eq h]
  split
  · exact le_refl _
  · rename_i h9; rcases le_total a b with h8 | h8
    · exact h8
    · exact absurd h8 h9
theorem le_later2 {a b : Nm} (h : a.r = b.r) : le b (later a b) := by
  rw [later_eq h]
  split
  · assumption
  · exact le_refl _
theorem later_le {a b c : Nm} (h1 : le a c) (h2 : le b c) : le (later a b) c := by
  unfold later; split <;> assumption
theorem earlier_le1 {a b : Nm} (h : a.r = b.r) : le (earlier a b) a := by
  rw [earlier_eq h]
  split
  · exact le_refl _
  · rename_i h9; rcases le_total a b with h8 | h8
    · exact absurd h8 h9
    · exact h8
theorem earlier_le2 {a b : Nm} (h : a.r = b.r) : le (earlier a b) b := by
  rw [earlier_eq h]
  split
  · assumption
  · exact le_refl _
theorem le_earlier {a b c : Nm} (h1 : le c a) (h2 : le c b) : le c (earlier a b) := by
  unfold earlier; split <;> assumption
theorem later_absorb {a b : Nm} (h : a.r = b.r) (h1 : le b a) : later a b = a := by rw [later_eq h, if_pos h1]
theorem later_assoc {a b c : Nm} (h1 : a.r = b.r) (h2 : b.r = c.r) : later (later a b) c = later a (later b c) := by
  have hr := later_r h1
  have hr2 := later_r h2
  refine le_antisymm ?_ ?_ ?_
  · rw [later_r (by rw [hr]; exact h1.trans h2), hr, later_r (by rw [hr2]; exact h1)]
  · exact later_le (later_le (le_later1 (by rw [hr2]; exact h1)) (le_trans (le_later1 h2) (le_later2 (by rw [hr2]; exact h1)))) (le_trans (le_later2 h2) (le_later2 (by rw [hr2]; exact h1)))
  · exact later_le (le_trans (le_later1 h1) (le_later1 (by rw [hr]; exact h1.trans h2))) (later_le (le_trans (le_later2 h1) (le_later1 (by rw [hr]; exact h1.trans h2))) (le_later2 (by rw [hr]; exact h1.trans h2)))
theorem le_later_iff {a b c : Nm} (h : a.r = b.r) : le c (later a b) ↔ le c a ∨ le c b := by
  rw [later_eq h]
  by_cases h9 : le b a
  · rw [if_pos h9]
    exact ⟨.inl, fun h8 => h8.elim id fun h7 => le_trans h7 h9⟩
  · rw [if_neg h9]
    have : le a b := (le_total a b).elim id fun h8 => absurd h8 h9
    exact ⟨.inr, fun h8 => h8.elim (fun h7 => le_trans h7 this) id⟩
theorem le_earlier_iff {a b c : Nm} (h : a.r = b.r) : le c (earlier a b) ↔ le c a ∧ le c b :=
  ⟨fun h9 => ⟨le_trans h9 (earlier_le1 h), le_trans h9 (earlier_le2 h)⟩, fun h9 => le_earlier h9.1 h9.2⟩

/-! ### The ways come to one -/
/-- The Reps of both are alike where both have a place. -/
def Alike (a b : List Nm) : Prop := ∀ i (h1 : i < a.length) (h2 : i < b.length), a[i].r = b[i].r
theorem Alike.tail {x y : Nm} {a b : List Nm} (h : Alike (x :: a) (y :: b)) : Alike a b := fun i h1 h2 => h (i + 1) (by simpa using h1) (by simpa using h2)
theorem rover_over : ∀ (a b : List Nm), Alike a b → rover a b = if b.length < a.length then over a b else over b a
  | [], b, _ => by
    rw [if_neg (by simp)]
    cases b <;> rfl
  | x :: a, [], _ => by
    rw [if_pos (by simp)]
    rfl
  | x :: a, y :: b, h => by
    have ih := rover_over a b h.tail
    have h0 : x.r = y.r := h 0 (by simp) (by simp)
    show later x y :: rover a b = _
    rw [ih]
    by_cases h9 : b.length < a.length
    · rw [if_pos h9, if_pos (by simpa using h9)]; rfl
    · rw [if_neg h9, if_neg (by simpa using h9)]
      show _ = later y x :: over b a
      rw [later_comm h0]
theorem alike_cnt (a b : List Nm) : Alike (cnt a) (cnt b) := fun i h1 h2 => by
  rw [((isV_true (cnt_is a)).2 i h1).1, ((isV_true (cnt_is b)).2 i h2).1]
theorem rjoin_join (a b : List Nm) : rover (cnt a) (cnt b) = join a b := rover_over _ _ (alike_cnt a b)
end Go.Proofs.Ytiglepmgonmhiaa.Cs
