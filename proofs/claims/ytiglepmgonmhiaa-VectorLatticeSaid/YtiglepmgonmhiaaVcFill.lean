/- Rows that are filled place by place; joins and meets so. -/
import Derived.Test.YtiglepmgonmhiaaVcSpec
namespace Go.Proofs.Ytiglepmgonmhiaa.Cs
set_option linter.unusedVariables false

def fill (f : Nat → Nm) (l : List Nm) : Nat → List Nm
  | 0 => l
  | q + 1 => (fill f l q).set q (f q)
theorem fill_len (f : Nat → Nm) (l : List Nm) (q : Nat) : (fill f l q).length = l.length := by
  induction q with
  | zero => rfl
  | succ q ih => rw [fill, List.length_set, ih]
theorem fill_get (f : Nat → Nm) (l : List Nm) (q i : Nat) (hi : i < l.length) : (fill f l q)[i]? = some (if i < q then f i else l[i]) := by
  induction q with
  | zero => rw [fill, if_neg (by omega), List.getElem?_eq_getElem hi]
  | succ q ih =>
    rw [fill, List.getElem?_set]
    by_cases h : q = i
    · subst h
      rw [if_pos rfl, if_pos (by rw [fill_len]; exact hi), if_pos (by omega)]
    · rw [if_neg h, ih]
      by_cases h2 : i < q
      · rw [if_pos h2, if_pos (by omega)]
      · rw [if_neg h2, if_neg (by omega)]
theorem fill_at {f : Nat → Nm} {l : List Nm} {q : Nat} (hq : q < l.length) (h : q < (fill f l q).length) : (fill f l q)[q] = l[q] := by
  have := fill_get f l q q hq
  rw [if_neg (by omega), List.getElem?_eq_getElem h] at this
  exact Option.some.inj this
theorem fill_eq {f : Nat → Nm} {l m : List Nm} {q : Nat} (hl : m.length = l.length) (h : ∀ i (hi : i < l.length) (hm : i < m.length), m[i] = if i < q then f i else l[i]) : fill f l q = m := by
  refine List.ext_getElem (by rw [fill_len, hl]) fun i h1 h2 => ?_
  have hi : i < l.length := by rw [fill_len] at h1; exact h1
  have := fill_get f l q i hi
  rw [List.getElem?_eq_getElem h1] at this
  rw [Option.some.inj this, h i hi h2]
theorem over_len (l s : List Nm) : (over l s).length = l.length := by
  induction l generalizing s with
  | nil => cases s <;> rfl
  | cons x l ih =>
    cases s with
    | nil => rfl
    | cons y s => show (later x y :: over l s).length = _; rw [List.length_cons, ih, List.length_cons]
theorem over_get (l s : List Nm) (i : Nat) (hi : i < l.length) (ho : i < (over l s).length) : (over l s)[i] = if i < s.length then later l[i] (at_ s i) else l[i] := by
  induction l generalizing s i with
  | nil => simp at hi
  | cons x l ih =>
    cases s with
    | nil => simp [over]
    | cons y s =>
      cases i with
      | zero => simp [over, at_]
      | succ i =>
        have hi' : i < l.length := by simpa using hi
        have := ih s i hi' (by rw [over_len]; exact hi')
        simp only [over, List.getElem_cons_succ, List.length_cons]
        rw [this]
        by_cases h : i < s.length
        · rw [if_pos h, if_pos (by omega)]; rfl
        · rw [if_neg h, if_neg (by omega)]
theorem fill_over (l s : List Nm) : fill (fun i => later (at_ l i) (at_ s i)) l s.length = over l s := by
  refine fill_eq (over_len l s) fun i hi hm => ?_
  rw [over_get l s i hi hm]
  by_cases h : i < s.length
  · rw [if_pos h, if_pos h, at_eq hi]
  · rw [if_neg h, if_neg h]
theorem fill_meet (a b l : List Nm) (hl : l.length = min a.length b.length) : fill (fun i => earlier (at_ a i) (at_ b i)) l l.length = List.zipWith earlier a b := by
  refine fill_eq (by simp [hl]) fun i hi hm => ?_
  rw [if_pos hi, List.getElem_zipWith, at_eq (by omega), at_eq (by omega)]
theorem rover_nil (l : List Nm) : rover l [] = l := by cases l <;> rfl
theorem rover_len (l s : List Nm) : (rover l s).length = max l.length s.length := by
  induction l generalizing s with
  | nil => cases s <;> simp [rover]
  | cons x l ih =>
    cases s with
    | nil => simp [rover]
    | cons y s => simp only [rover, List.length_cons, ih]; omega
/-- What the reference's has made of the first q of s. -/
def rfill (l s : List Nm) (q : Nat) : List Nm := rover l (s.take q)
theorem rfill_len (l s : List Nm) (q : Nat) (hq : q ≤ s.length) : (rfill l s q).length = max l.length q := by
  unfold rfill
  rw [rover_len, List.length_take]
  omega
theorem rover_set (l s : List Nm) (y : Nm) (h : s.length < l.length) : rover l (s ++ [y]) = (rover l s).set s.length (later l[s.length] y) := by
  induction l generalizing s with
  | nil => simp at h
  | cons x l ih =>
    cases s with
    | nil =>
      show later x y :: rover l [] = _
      rw [rover_nil]
      simp [rover]
    | cons z s =>
      show later x z :: rover l (s ++ [y]) = _
      rw [ih s (by simpa using h)]
      simp [rover]
theorem rover_push (l s : List Nm) (y : Nm) (h : l.length ≤ s.length) : rover l (s ++ [y]) = rover l s ++ [y] := by
  induction l generalizing s with
  | nil => cases s <;> rfl
  | cons x l ih =>
    cases s with
    | nil => simp at h
    | cons z s =>
      show later x z :: rover l (s ++ [y]) = later x z :: (rover l s ++ [y])
      rw [ih s (by simpa using h)]
theorem rover_at (l s : List Nm) (h : s.length < l.length) (h2 : s.length < (rover l s).length) : (rover l s)[s.length] = l[s.length] := by
  induction l generalizing s with
  | nil => simp at h
  | cons x l ih =>
    cases s with
    | nil => simp [rover]
    | cons z s =>
      simp only [rover, List.length_cons, List.getElem_cons_succ]
      exact ih s (by simpa using h) _
theorem rfill_set {l s : List Nm} {q : Nat} (hq : q < s.length) (h : q < l.length) : rfill l s (q + 1) = (rfill l s q).set q (later l[q] s[q]) := by
  unfold rfill
  rw [List.take_succ_eq_append_getElem hq]
  have hl : (s.take q).length = q := by rw [List.length_take]; omega
  have := rover_set l (s.take q) s[q] (by omega)
  simp only [hl] at this
  exact this
theorem rfill_push {l s : List Nm} {q : Nat} (hq : q < s.length) (h : l.length ≤ q) : rfill l s (q + 1) = rfill l s q ++ [s[q]] := by
  unfold rfill
  rw [List.take_succ_eq_append_getElem hq]
  exact rover_push l (s.take q) s[q] (by rw [List.length_take]; omega)
theorem rfill_at {l s : List Nm} {q : Nat} (hq : q < s.length) (h : q < l.length) (h2 : q < (rfill l s q).length) : (rfill l s q)[q] = l[q] := by
  have hl : (s.take q).length = q := by rw [List.length_take]; omega
  have := rover_at l (s.take q) (by omega) (by show _ < (rfill l s q).length; omega)
  simp only [hl] at this
  exact this
theorem rfill_all (l s : List Nm) : rfill l s s.length = rover l s := by unfold rfill; rw [List.take_length]
end Go.Proofs.Ytiglepmgonmhiaa.Cs
