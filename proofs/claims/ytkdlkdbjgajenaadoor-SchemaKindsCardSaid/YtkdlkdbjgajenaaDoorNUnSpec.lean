/- A value's text, read byte by byte: plain facts. -/
import Derived.Test.YtkdlkdbjgajenaaDoorNSpec
namespace Go.Proofs.YtkdlkdbjgajenaaDoor
namespace Nm
theorem unE_bound {l : List UInt8} {c : UInt8} {k : Nat} (h : unE l = some (c, k)) : 2 ≤ k ∧ k ≤ l.length + 1 := by
  match l with
  | [] => cases h
  | d :: r =>
    have h' : (if escOk d then some (d, 2) else match r with
      | [] => none
      | e :: _ => match dig d, dig e with
        | some h, some l => some ((16 * h + l).toUInt8, 3)
        | _, _ => none) = some (c, k) := h
    by_cases hd : escOk d = true
    · rw [if_pos hd] at h'
      simp only [Option.some.injEq, Prod.mk.injEq] at h'
      simp; omega
    · rw [if_neg hd] at h'
      match r with
      | [] => cases h'
      | e :: q =>
        simp only at h'
        split at h'
        · simp only [Option.some.injEq, Prod.mk.injEq] at h'
          simp; omega
        · cases h'
theorem unB_bound {sp : UInt8 → Bool} {f : Bool} {l : List UInt8} {c : UInt8} {k : Nat} (h : unB sp f l = some (c, k)) : 1 ≤ k ∧ k ≤ l.length := by
  match l with
  | [] => cases h
  | d :: r =>
    have h' : (if d = 92 then unE r else if sp d || f && decide (d.toNat = 35 ∨ d.toNat = 32) || r.isEmpty && decide (d.toNat = 32) then none else some (d, 1)) = some (c, k) := h
    split at h'
    · have := unE_bound h'
      simp; omega
    · split at h'
      · cases h'
      · simp only [Option.some.injEq, Prod.mk.injEq] at h'
        simp; omega
theorem unV_succ (sp : UInt8 → Bool) (n : Nat) (f : Bool) (c : UInt8) (r : List UInt8) : unV sp (n + 1) f (c :: r) = match unB sp f (c :: r) with
    | none => none
    | some (b, k) => match unV sp n false ((c :: r).drop k) with
      | none => none
      | some v => some (b :: v) := rfl
theorem unV_fuel (sp : UInt8 → Bool) : ∀ (n m : Nat) (f : Bool) (l : List UInt8), l.length ≤ n → l.length ≤ m → unV sp n f l = unV sp m f l
  | 0, m, f, l, h, _ => by
    have : l = [] := List.eq_nil_of_length_eq_zero (by omega)
    subst this
    cases m <;> rfl
  | n + 1, 0, f, l, _, h => by
    have : l = [] := List.eq_nil_of_length_eq_zero (by omega)
    subst this
    rfl
  | n + 1, m + 1, f, [], _, _ => rfl
  | n + 1, m + 1, f, c :: r, h1, h2 => by
    rw [unV_succ, unV_succ]
    cases hb : unB sp f (c :: r) with
    | none => rfl
    | some q =>
      obtain ⟨b, k⟩ := q
      have hk := unB_bound hb
      have hl : ((c :: r).drop k).length ≤ n ∧ ((c :: r).drop k).length ≤ m := by
        rw [List.length_drop]
        simp only [List.length_cons] at h1 h2 hk ⊢
        omega
      simp only
      rw [unV_fuel sp n m false _ hl.1 hl.2]
/-- A value's text, with fuel enough. -/
def unVal (sp : UInt8 → Bool) (f : Bool) (l : List UInt8) : Option (List UInt8) := unV sp l.length f l
theorem unVal_nil (sp : UInt8 → Bool) (f : Bool) : unVal sp f [] = some [] := rfl
theorem unVal_bad {sp : UInt8 → Bool} {f : Bool} {l : List UInt8} (h : unB sp f l = none) (hl : l ≠ []) : unVal sp f l = none := by
  match l with
  | [] => exact absurd rfl hl
  | c :: r =>
    unfold unVal
    rw [List.length_cons, unV_succ, h]
theorem unVal_step {sp : UInt8 → Bool} {f : Bool} {l : List UInt8} {b : UInt8} {k : Nat} (h : unB sp f l = some (b, k)) : unVal sp f l = (unVal sp false (l.drop k)).map (b :: ·) := by
  match l with
  | [] => cases h
  | c :: r =>
    have hk := unB_bound h
    unfold unVal
    rw [List.length_cons, unV_succ, h]
    simp only
    rw [unV_fuel sp r.length ((c :: r).drop k).length false _ (by
      rw [List.length_drop]
      simp only [List.length_cons] at hk ⊢
      omega) (Nat.le_refl _)]
    cases unV sp ((c :: r).drop k).length false ((c :: r).drop k) <;> rfl
end Nm
end Go.Proofs.YtkdlkdbjgajenaaDoor
