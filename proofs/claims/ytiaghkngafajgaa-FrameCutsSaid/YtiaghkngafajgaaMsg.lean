/- Plain: messages one behind the other, cut anywhere. -/
import Derived.Test.YtiaghkngafajgaaFSpec
import Derived.Test.YtiaghkngafajgaaElSpec
namespace Go.Proofs.Ytiaghkngafajgaa
set_option linter.unusedVariables false
set_option maxRecDepth 100000

theorem hd_open {l : List UInt8} {h n : Nat} (e : Sp.hd l = (h, n, 0)) : ∃ t b r, l = t :: b :: r ∧ t.toNat % 32 ≠ 31 ∧
    ((b.toNat < 128 ∧ h = 2 ∧ n = b.toNat) ∨ (¬ b.toNat < 128 ∧ ¬ (b.toNat = 128 ∨ 132 < b.toNat) ∧ ¬ r.length < b.toNat - 128 ∧ ¬ 4000 < Sp.num (r.take (b.toNat - 128)) ∧ h = 2 + (b.toNat - 128) ∧ n = Sp.num (r.take (b.toNat - 128)))) := by
  match l, e with
  | [], e => simp [Sp.hd] at e
  | [t], e =>
    simp only [Sp.hd] at e
    split at e <;> simp at e
  | t :: b :: r, e =>
    simp only [Sp.hd] at e
    refine ⟨t, b, r, rfl, ?_⟩
    by_cases h1 : t.toNat % 32 = 31
    · rw [if_pos h1] at e; simp at e
    rw [if_neg h1] at e
    refine ⟨h1, ?_⟩
    by_cases h2 : b.toNat < 128
    · rw [if_pos h2] at e; simp at e; exact Or.inl ⟨h2, e.1.symm, e.2.symm⟩
    rw [if_neg h2] at e
    by_cases h3 : b.toNat = 128 ∨ 132 < b.toNat
    · rw [if_pos h3] at e; simp at e
    rw [if_neg h3] at e
    by_cases h4 : r.length < b.toNat - 128
    · rw [if_pos h4] at e; simp at e
    rw [if_neg h4] at e
    by_cases h5 : 4000 < Sp.num (r.take (b.toNat - 128))
    · rw [if_pos h5] at e; simp at e
    rw [if_neg h5] at e
    simp only [Prod.mk.injEq, and_true] at e
    exact Or.inr ⟨h2, h3, h4, h5, e.1.symm, e.2.symm⟩
theorem hd_two (t b : UInt8) (r : List UInt8) (h1 : t.toNat % 32 ≠ 31) : Sp.hd (t :: b :: r) = if b.toNat < 128 then (2, b.toNat, 0)
      else if b.toNat = 128 ∨ 132 < b.toNat then (0, 0, 11)
      else if r.length < b.toNat - 128 then (0, 0, 10)
      else if 4000 < Sp.num (r.take (b.toNat - 128)) then (0, 0, 13)
      else (2 + (b.toNat - 128), Sp.num (r.take (b.toNat - 128)), 0) := by
  simp only [Sp.hd]
  rw [if_neg h1]
/-- The head plays no part behind its own bytes. -/
theorem hd_app {l : List UInt8} {h n : Nat} (e : Sp.hd l = (h, n, 0)) (X : List UInt8) : Sp.hd (l ++ X) = (h, n, 0) := by
  obtain ⟨t, b, r, rfl, h1, ⟨h2, rfl, rfl⟩ | ⟨h2, h3, h4, h5, rfl, rfl⟩⟩ := hd_open e
  · rw [List.cons_append, List.cons_append, hd_two _ _ _ h1, if_pos h2]
  · have e2 : (r ++ X).take (b.toNat - 128) = r.take (b.toNat - 128) := List.take_append_of_le_length (by omega)
    rw [List.cons_append, List.cons_append, hd_two _ _ _ h1, if_neg h2, if_neg h3, if_neg (by rw [List.length_append]; omega), e2, if_neg h5]
theorem hd_take {l : List UInt8} {h n k : Nat} (e : Sp.hd l = (h, n, 0)) (hk : h ≤ k) : Sp.hd (l.take k) = (h, n, 0) := by
  obtain ⟨t, b, r, rfl, h1, ⟨h2, rfl, rfl⟩ | ⟨h2, h3, h4, h5, rfl, rfl⟩⟩ := hd_open e
  · obtain ⟨k, rfl⟩ : ∃ m, k = m + 1 + 1 := ⟨k - 2, by omega⟩
    rw [List.take_succ_cons, List.take_succ_cons, hd_two _ _ _ h1, if_pos h2]
  · obtain ⟨k, rfl⟩ : ∃ m, k = m + 1 + 1 := ⟨k - 2, by omega⟩
    have e2 : (r.take k).take (b.toNat - 128) = r.take (b.toNat - 128) := by rw [List.take_take, Nat.min_eq_left (by omega)]
    rw [List.take_succ_cons, List.take_succ_cons, hd_two _ _ _ h1, if_neg h2, if_neg h3, if_neg (by rw [List.length_take]; omega), e2, if_neg h5]
theorem hd_lack {l : List UInt8} {h n k : Nat} (e : Sp.hd l = (h, n, 0)) (hk : k < h) : Sp.hd (l.take k) = (0, 0, 10) := by
  obtain ⟨t, b, r, rfl, h1, h9⟩ := hd_open e
  match k with
  | 0 => rfl
  | 1 => simp [Sp.hd, h1]
  | k + 1 + 1 =>
    rcases h9 with ⟨h2, rfl, rfl⟩ | ⟨h2, h3, h4, h5, rfl, rfl⟩
    · omega
    · rw [List.take_succ_cons, List.take_succ_cons, hd_two _ _ _ h1, if_neg h2, if_neg h3, if_pos (by rw [List.length_take]; omega)]

/-- m is a whole message. -/
def Mess (m : List UInt8) : Prop := ∃ h n, Sp.hd m = (h, n, 0) ∧ h + n = m.length
theorem Mess.nx {m : List UInt8} (h : Mess m) (X : List UInt8) : nx (m ++ X) = (m, 0, X) := by
  obtain ⟨a, n, e, hl⟩ := h
  unfold Proofs.Ytiaghkngafajgaa.nx
  rw [hd_app e X]
  simp only [ne_eq, not_true_eq_false, if_false]
  rw [if_neg (by rw [List.length_append]; omega), hl, List.take_left, List.drop_left]
theorem Mess.short {m : List UInt8} (h : Mess m) (X : List UInt8) {k : Nat} (hk : k < m.length) : Proofs.Ytiaghkngafajgaa.nx ((m ++ X).take k) = ([], 10, (m ++ X).take k) := by
  obtain ⟨a, n, e, hl⟩ := h
  have e1 := hd_app e X
  unfold Proofs.Ytiaghkngafajgaa.nx
  by_cases hka : a ≤ k
  · rw [hd_take e1 hka]
    simp only [ne_eq, not_true_eq_false, if_false]
    rw [if_pos (by rw [List.length_take]; omega)]
  · rw [hd_lack e1 (by omega)]
    simp
theorem Mess.pos {m : List UInt8} (h : Mess m) : 2 ≤ m.length := by
  obtain ⟨a, n, e, hl⟩ := h
  obtain ⟨t, b, r, rfl, _⟩ := hd_open e
  simp
/-- What Next tells where the first k bytes of messages ws are there: the first one, or that bytes lack. -/
theorem next_of (ws : List (List UInt8)) (hw : ∀ m ∈ ws, Mess m) (k : Nat) (hk : k ≤ ws.flatten.length) :
    (∃ m vs, ws = m :: vs ∧ m.length ≤ k ∧ nx (ws.flatten.take k) = (m, 0, vs.flatten.take (k - m.length)) ∧ k - m.length ≤ vs.flatten.length) ∨ (nx (ws.flatten.take k) = ([], 10, ws.flatten.take k) ∧ (k = ws.flatten.length → ws = [])) := by
  match ws with
  | [] => exact Or.inr ⟨by simp [nx, Sp.hd], fun _ => rfl⟩
  | m :: vs =>
    have hm := hw m (by simp)
    rw [List.flatten_cons] at hk ⊢
    rw [List.length_append] at hk
    by_cases hc : k < m.length
    · refine Or.inr ⟨hm.short _ hc, fun e => ?_⟩
      rw [List.length_append] at e
      omega
    · refine Or.inl ⟨m, vs, rfl, by omega, ?_, by omega⟩
      have e : (m ++ vs.flatten).take k = m ++ vs.flatten.take (k - m.length) := by
        rw [List.take_append, List.take_of_length_le (by omega)]
      rw [e, hm.nx]
/-- A leaf's bytes are a message. -/
theorem leaf_mess (t : Nat) (b : List UInt8) (ht : t ≤ 255) (h31 : t % 32 ≠ 31) (hb : b.length ≤ 300) : Mess (encHead t b.length ++ b) := by
  have t1 : (t.toUInt8).toNat = t := by rw [UInt8.toNat_ofNat']; omega
  refine ⟨2 + more b.length, b.length, ?_, by rw [List.length_append, encHead_len]⟩
  unfold encHead more
  by_cases h1 : b.length < 128
  · rw [if_pos h1, if_pos h1]
    have e1 : (b.length.toUInt8).toNat = b.length := by rw [UInt8.toNat_ofNat']; omega
    show Sp.hd (t.toUInt8 :: b.length.toUInt8 :: b) = _
    rw [hd_two _ _ _ (by rw [t1]; exact h31), e1, if_pos h1]
  by_cases h2 : b.length < 256
  · rw [if_neg h1, if_pos h2, if_neg h1, if_pos h2]
    have e1 : (b.length.toUInt8).toNat = b.length := by rw [UInt8.toNat_ofNat']; omega
    have e3 : Sp.num [b.length.toUInt8] = b.length := by simp [Sp.num]; omega
    show Sp.hd (t.toUInt8 :: 129 :: b.length.toUInt8 :: b) = _
    rw [hd_two _ _ _ (by rw [t1]; exact h31), if_neg (by decide), if_neg (by decide), if_neg (by simp)]
    show (if 4000 < Sp.num [b.length.toUInt8] then _ else (3, Sp.num [b.length.toUInt8], 0)) = _
    rw [e3, if_neg (by omega)]
  · rw [if_neg h1, if_neg h2, if_neg h1, if_neg h2]
    have e3 : Sp.num [(b.length / 256).toUInt8, b.length.toUInt8] = b.length := by simp [Sp.num]; omega
    show Sp.hd (t.toUInt8 :: 130 :: (b.length / 256).toUInt8 :: b.length.toUInt8 :: b) = _
    rw [hd_two _ _ _ (by rw [t1]; exact h31), if_neg (by decide), if_neg (by decide), if_neg (by simp)]
    show (if 4000 < Sp.num [(b.length / 256).toUInt8, b.length.toUInt8] then _ else (4, Sp.num [(b.length / 256).toUInt8, b.length.toUInt8], 0)) = _
    rw [e3, if_neg (by omega)]
/-- How long the first j messages are. -/
def upto (ws : List (List UInt8)) (j : Nat) : Nat := (ws.take j).flatten.length
theorem upto_rest (ws : List (List UInt8)) (j : Nat) : upto ws j + (ws.drop j).flatten.length = ws.flatten.length := by
  rw [upto, ← List.length_append, ← List.flatten_append, List.take_append_drop]
theorem upto_drop (ws : List (List UInt8)) (j : Nat) : ws.flatten.drop (upto ws j) = (ws.drop j).flatten := by
  have e : ws.flatten = (ws.take j).flatten ++ (ws.drop j).flatten := by rw [← List.flatten_append, List.take_append_drop]
  rw [upto]
  conv => lhs; rw [e]
  rw [List.drop_left]
theorem drop_parts {ws : List (List UInt8)} {j : Nat} {m : List UInt8} {vs : List (List UInt8)} (h : ws.drop j = m :: vs) : ∃ hj : j < ws.length, ws[j] = m ∧ vs = ws.drop (j + 1) ∧ upto ws (j + 1) = upto ws j + m.length := by
  have hj : j < ws.length := by
    rcases Nat.lt_or_ge j ws.length with h' | h'
    · exact h'
    · rw [List.drop_eq_nil_of_le h'] at h; cases h
  have e := List.drop_eq_getElem_cons hj
  rw [h] at e
  injection e with e1 e2
  refine ⟨hj, e1.symm, e2, ?_⟩
  rw [upto, upto, List.take_succ_eq_append_getElem hj, List.flatten_append, List.length_append, e1]
  simp
/-- What is fed lies behind what is held. -/
theorem held_more (ws : List (List UInt8)) (j k n : Nat) : (ws.drop j).flatten.take k ++ (ws.flatten.drop (upto ws j + k)).take n = (ws.drop j).flatten.take (k + n) := by
  rw [← List.drop_drop, upto_drop, ← List.take_add]
end Go.Proofs.Ytiaghkngafajgaa
