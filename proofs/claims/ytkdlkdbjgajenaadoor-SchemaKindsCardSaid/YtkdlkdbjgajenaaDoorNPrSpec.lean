/- How long what is printed is, and how it grows part by part. -/
import Derived.Test.YtkdlkdbjgajenaaDoorNSpec
namespace Go.Proofs.YtkdlkdbjgajenaaDoor
namespace Nm
theorem join_snoc (sep : UInt8) (l : List (List UInt8)) (x : List UInt8) : join sep (l ++ [x]) = if l = [] then x else join sep l ++ sep :: x := by
  induction l with
  | nil => rfl
  | cons y r ih =>
    cases r with
    | nil => rfl
    | cons z q =>
      have h1 : (y :: z :: q) ++ [x] = y :: (z :: (q ++ [x])) := rfl
      rw [h1, join]
      have h2 : z :: (q ++ [x]) = (z :: q) ++ [x] := rfl
      rw [h2, ih, if_neg (by simp), if_neg (by simp), join]
      simp
theorem escB_le (f t : Bool) (c : UInt8) : (escB f t c).length ≤ 3 := by
  unfold escB
  split
  · simp
  · split
    · simp
    · simp
theorem escV_le (f : Bool) (l : List UInt8) : (escV f l).length ≤ 3 * l.length := by
  induction l generalizing f with
  | nil => simp [escV]
  | cons c r ih =>
    rw [escV, List.length_append, List.length_cons]
    have h1 := ih false
    have h2 := escB_le f r.isEmpty c
    omega
theorem okFrom_all {p r : List Ava} (h : okFrom p r = true) : ∀ a ∈ r, okAva a = true := by
  induction r generalizing p with
  | nil => intro a ha; simp at ha
  | cons b r ih =>
    rw [okFrom, Bool.and_eq_true, Bool.and_eq_true] at h
    intro a ha
    rcases List.mem_cons.1 ha with rfl | ha
    · exact h.1.1
    · exact ih h.2 a ha
theorem isRdn_all {r : List Ava} (h : isRdn r = true) : 1 ≤ r.length ∧ r.length ≤ 4 ∧ ∀ a ∈ r, okAva a = true := by
  unfold isRdn at h
  rw [Bool.and_eq_true, Bool.and_eq_true, decide_eq_true_eq, decide_eq_true_eq] at h
  exact ⟨h.1.1, h.1.2, okFrom_all h.2⟩
theorem okAva_le {a : Ava} (h : okAva a = true) : a.1.size ≤ 16 ∧ 1 ≤ a.1.size ∧ 1 ≤ a.2.size ∧ a.2.size ≤ 60 := by
  unfold okAva isType at h
  rw [Bool.and_eq_true, Bool.and_eq_true, decide_eq_true_eq, decide_eq_true_eq] at h
  have e : (bs a.1).length = a.1.size := rfl
  refine ⟨by omega, ?_, h.2⟩
  rcases Nat.lt_or_ge 0 a.1.size with h9 | h9
  · exact h9
  · have : bs a.1 = [] := List.eq_nil_of_length_eq_zero (by omega)
    have h2 := h.1.2
    rw [this] at h2
    cases h2
theorem prAva_le {a : Ava} (h : okAva a = true) : (prAva a).length ≤ 197 := by
  obtain ⟨h1, _, _, h2⟩ := okAva_le h
  unfold prAva
  rw [List.length_append, List.length_cons]
  have h3 := escV_le true (bs a.2)
  have e1 : (bs a.1).length = a.1.size := rfl
  have e2 : (bs a.2).length = a.2.size := rfl
  omega
theorem prRdn_step {r : List Ava} {k : Nat} (h : k < r.length) : prRdn (r.take (k + 1)) = (if k = 0 then [] else prRdn (r.take k) ++ [43]) ++ prAva r[k] := by
  unfold prRdn
  rw [List.take_succ_eq_append_getElem h, List.map_append]
  show join 43 (List.map prAva (List.take k r) ++ [prAva r[k]]) = _
  rw [join_snoc]
  by_cases hk : k = 0
  · subst hk; simp
  · rw [if_neg hk, if_neg (by
      intro h9
      have := congrArg List.length h9
      rw [List.length_map, List.length_take, List.length_nil] at this
      omega)]
    simp
theorem prDn_step {d : List (List Ava)} {k : Nat} (h : k < d.length) : prDn (d.take (k + 1)) = (if k = 0 then [] else prDn (d.take k) ++ [44]) ++ prRdn d[k] := by
  unfold prDn
  rw [List.take_succ_eq_append_getElem h, List.map_append]
  show join 44 (List.map prRdn (List.take k d) ++ [prRdn d[k]]) = _
  rw [join_snoc]
  by_cases hk : k = 0
  · subst hk; simp
  · rw [if_neg hk, if_neg (by
      intro h9
      have := congrArg List.length h9
      rw [List.length_map, List.length_take, List.length_nil] at this
      omega)]
    simp
theorem prRdn_take_le {r : List Ava} (h : ∀ a ∈ r, okAva a = true) (k : Nat) (hk : k ≤ r.length) : (prRdn (r.take k)).length ≤ 198 * k := by
  induction k with
  | zero => simp [prRdn, join]
  | succ k ih =>
    have h1 := ih (by omega)
    have h2 := prAva_le (h r[k] (List.getElem_mem (by omega)))
    rw [prRdn_step (by omega), List.length_append]
    split
    · simp; omega
    · rw [List.length_append, List.length_singleton]; omega
theorem prRdn_le {r : List Ava} (h : isRdn r = true) : (prRdn r).length ≤ 792 := by
  obtain ⟨h1, h2, h3⟩ := isRdn_all h
  have := prRdn_take_le h3 r.length (Nat.le_refl _)
  rw [List.take_length] at this
  omega
theorem isDn_all {d : List (List Ava)} (h : isDn d = true) : d.length ≤ 8 ∧ ∀ r ∈ d, isRdn r = true := by
  unfold isDn at h
  rw [Bool.and_eq_true, decide_eq_true_eq, List.all_eq_true] at h
  exact h
theorem prDn_take_le {d : List (List Ava)} (h : ∀ r ∈ d, isRdn r = true) (k : Nat) (hk : k ≤ d.length) : (prDn (d.take k)).length ≤ 793 * k := by
  induction k with
  | zero => simp [prDn, join]
  | succ k ih =>
    have h1 := ih (by omega)
    have h2 := prRdn_le (h d[k] (List.getElem_mem (by omega)))
    rw [prDn_step (by omega), List.length_append]
    split
    · simp; omega
    · rw [List.length_append, List.length_singleton]; omega
theorem prDn_le {d : List (List Ava)} (h : isDn d = true) : (prDn d).length ≤ 6344 := by
  obtain ⟨h1, h2⟩ := isDn_all h
  have := prDn_take_le h2 d.length (Nat.le_refl _)
  rw [List.take_length] at this
  omega
end Nm
end Go.Proofs.YtkdlkdbjgajenaaDoor
