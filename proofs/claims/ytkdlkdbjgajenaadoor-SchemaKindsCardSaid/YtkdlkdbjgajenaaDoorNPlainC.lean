/- Bytes that stand for themselves in a value: how such texts are read. Plain facts. -/
import Derived.Test.YtkdlkdbjgajenaaDoorNRdEq
namespace Go.Proofs.YtkdlkdbjgajenaaDoor
set_option linter.unusedVariables false
namespace Nm

/-- A byte that stands for itself in a value, wherever it is. -/
def plainC (c : UInt8) : Bool := decide (32 < c.toNat ∧ c.toNat ≤ 126) && (!special c && decide (c.toNat ≠ 35 ∧ c.toNat ≠ 61))
theorem plainC_ne {c : UInt8} (h : plainC c = true) : c ≠ 92 ∧ c ≠ 43 ∧ c ≠ 44 ∧ c ≠ 61 := by
  refine ⟨?_, ?_, ?_, ?_⟩
  all_goals
    intro e
    subst e
    revert h
    decide
theorem plainC_un {c : UInt8} (h : plainC c = true) (f : Bool) (r : List UInt8) : unB special f (c :: r) = some (c, 1) := by
  have h2 := (plainC_ne h).1
  unfold plainC at h
  rw [Bool.and_eq_true, Bool.and_eq_true, decide_eq_true_eq, decide_eq_true_eq, Bool.not_eq_true'] at h
  obtain ⟨h3, h4, h5⟩ := h
  rw [unB_cons, if_neg h2, h4, decide_eq_false (p := c.toNat = 35 ∨ c.toNat = 32) (by omega), decide_eq_false (p := c.toNat = 32) (by omega)]
  simp
theorem unVal_plain : ∀ (f : Bool) (l : List UInt8), (∀ c ∈ l, plainC c = true) → unVal special f l = some l
  | f, [], _ => rfl
  | f, c :: r, h => by
    rw [unVal_step (plainC_un (h c (by simp)) f r)]
    show (unVal special false r).map (c :: ·) = _
    rw [unVal_plain false r (fun d hd => h d (by simp [hd]))]
    rfl
theorem escB_plain {c : UInt8} (h : plainC c = true) (f t : Bool) : escB f t c = [c] := by
  unfold plainC at h
  rw [Bool.and_eq_true, Bool.and_eq_true, decide_eq_true_eq, decide_eq_true_eq, Bool.not_eq_true'] at h
  obtain ⟨h3, h4, h5⟩ := h
  unfold escB
  rw [if_neg (by omega), h4, decide_eq_false (p := c.toNat = 35 ∨ c.toNat = 32) (by omega), decide_eq_false (p := c.toNat = 32) (by omega)]
  simp
theorem escV_plain : ∀ (f : Bool) (l : List UInt8), (∀ c ∈ l, plainC c = true) → escV f l = l
  | f, [], _ => rfl
  | f, c :: r, h => by
    rw [escV, escB_plain (h c (by simp)), escV_plain false r (fun d hd => h d (by simp [hd]))]
    rfl
theorem eqAt_plain : ∀ (q r : List UInt8), (∀ c ∈ q, c ≠ 61) → eqAt (q ++ 61 :: r) = some q.length
  | [], r, _ => rfl
  | c :: q, r, h => by
    show eqAt (c :: (q ++ 61 :: r)) = _
    rw [eqAt, if_neg (h c (by simp)), eqAt_plain q r (fun d hd => h d (by simp [hd]))]
    rfl
theorem ava_plain {q v v' : List UInt8} (hq : ∀ c ∈ q, c ≠ 61) (hv : unVal special true v = some v') : ava (q ++ 61 :: v) = some (mk (lower q), mk v') := by
  have h1 := eqAt_plain q v hq
  have h2 : (q ++ 61 :: v).drop (q.length + 1) = v := by
    rw [← List.drop_drop, List.drop_left]; rfl
  have h3 : (q ++ 61 :: v).take q.length = q := List.take_left
  have := ava_mk h1 (v := v') (by rw [h2]; exact hv)
  rw [h3] at this
  exact this
theorem cuts_one {sep : UInt8} {l : List UInt8} (h : ∀ c ∈ l, c ≠ 92 ∧ c ≠ sep) : cuts sep l = [l] := by
  have := pos_plain sep l [] h
  rw [List.append_nil] at this
  rw [cuts_pos, this]; rfl
theorem cuts_two {sep : UInt8} {l r : List UInt8} (h : ∀ c ∈ l, c ≠ 92 ∧ c ≠ sep) (hs : sep ≠ 92) : cuts sep (l ++ sep :: r) = l :: cuts sep r := by
  have h1 := pos_plain sep l (sep :: r) h
  rw [pos_cons, if_neg hs, if_pos rfl] at h1
  have h2 : pos sep (l ++ sep :: r) = some l.length := by rw [h1]; simp
  rw [cuts_pos, h2]
  simp only
  rw [List.take_left, ← List.drop_drop, List.drop_left]
  rfl
theorem rdn_of {l : List UInt8} {r : List Ava} (h : avas (cuts 43 l) = some r) : rdn l = if isRdn r then some r else none := by
  unfold rdn
  rw [h]; rfl
theorem dnm_of {l : List UInt8} {d : List (List Ava)} (hl : l ≠ []) (h : rdns (cuts 44 l) = some d) : dnm l = if isDn d then some d else none := by
  unfold dnm
  rw [if_neg hl, h]; rfl
end Nm
end Go.Proofs.YtkdlkdbjgajenaaDoor
