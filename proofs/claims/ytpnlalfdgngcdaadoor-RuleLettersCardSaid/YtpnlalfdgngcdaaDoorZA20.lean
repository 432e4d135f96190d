import Derived.Test.YtpnlalfdgngcdaaDoorZA18
import Derived.Test.YtpnlalfdgngcdaaDoorZA19
set_option linter.unusedVariables false
set_option maxRecDepth 100000
namespace Go.Proofs.YtpnlalfdgngcdaaDoor
namespace Nm
theorem cuts_pos (sep : UInt8) : ∀ (l : List UInt8), cuts sep l = match pos sep l with
  | none=>[l]
  | some i=>l.take i :: cuts sep (l.drop (i + 1))
 | []=>rfl
 | [c]=>by
  rw [cuts_cons, pos_cons]
  by_cases h1 : c = 92
  ·rw [if_pos h1, if_pos h1]
  ·rw [if_neg h1, if_neg h1]
   by_cases h2 : c = sep
   ·rw [if_pos h2, if_pos h2]; rfl
   ·rw [if_neg h2, if_neg h2]; rfl
 | c :: d :: r=>by
  rw [cuts_cons, pos_cons]
  by_cases h1 : c = 92
  ·rw [if_pos h1, if_pos h1]
   simp only
   rw [cuts_pos sep r]
   cases pos sep r with
   | none=>rfl
   | some j=>simp [cons1]
  ·rw [if_neg h1, if_neg h1]
   by_cases h2 : c = sep
   ·rw [if_pos h2, if_pos h2]; rfl
   ·rw [if_neg h2, if_neg h2, cuts_pos sep (d :: r)]
    cases pos sep (d :: r) with
    | none=>rfl
    | some j=>simp [cons1]
theorem mem_cons1 {x : List UInt8} {z : List (List UInt8)} {p : List UInt8} (h : p ∈ cons1 x z) : p = x ∨ (∃ y, y ∈ z ∧ p = x ++ y) ∨ p ∈ z:=by
 cases z with
 | nil=>exact Or.inl (by simpa [cons1] using h)
 | cons y r =>
  rcases List.mem_cons.1 h with h | h
  ·exact Or.inr (Or.inl ⟨y, by simp, h⟩)
  ·exact Or.inr (Or.inr (by simp [h]))
theorem cuts_whole (sep : UInt8) : ∀ (l : List UInt8) (p : List UInt8), p ∈ cuts sep l → pos sep p = none
 | [], p, h=>by
  have : p = []:=by simpa [cuts] using h
  rw [this]; rfl
 | [c], p, h=>by
  rw [cuts_cons] at h
  by_cases h1 : c = 92
  ·rw [if_pos h1] at h
   have : p = [c]:=by simpa using h
   rw [this, pos_cons, if_pos h1]
  ·rw [if_neg h1] at h
   by_cases h2 : c = sep
   ·rw [if_pos h2] at h
    have : p = []:=by simpa [cuts] using h
    rw [this]; rfl
   ·rw [if_neg h2] at h
    have : p = [c]:=by simpa [cuts, cons1] using h
    rw [this, pos_cons, if_neg h1, if_neg h2]; rfl
 | c :: d :: r, p, h=>by
  rw [cuts_cons] at h
  by_cases h1 : c = 92
  ·rw [if_pos h1] at h
   rcases mem_cons1 h with rfl | ⟨y, hy, rfl⟩ | h
   ·rw [pos_cons, if_pos h1]; rfl
   ·show pos sep (c :: d :: y) = none
    rw [pos_cons, if_pos h1]
    simp only
    rw [cuts_whole sep r y hy]; rfl
   ·exact cuts_whole sep r p h
  ·rw [if_neg h1] at h
   by_cases h2 : c = sep
   ·rw [if_pos h2] at h
    rcases List.mem_cons.1 h with rfl | h
    ·rfl
    ·exact cuts_whole sep (d :: r) p h
   ·rw [if_neg h2] at h
    rcases mem_cons1 h with rfl | ⟨y, hy, rfl⟩ | h
    ·rw [pos_cons, if_neg h1, if_neg h2]; rfl
    ·show pos sep (c :: y) = none
     rw [pos_cons, if_neg h1, if_neg h2, cuts_whole sep (d :: r) y hy]; rfl
    ·exact cuts_whole sep (d :: r) p h
theorem pos_plain (sep : UInt8) (q r : List UInt8) (h : ∀ c ∈ q, c ≠ 92 ∧ c ≠ sep) : pos sep (q ++ r) = (pos sep r).map (· + q.length):=by
 induction q with
 | nil=>cases h9 : pos sep r <;> simp [h9]
 | cons c q ih =>
  obtain ⟨h1, h2⟩:=h c (by simp)
  show pos sep (c :: (q ++ r)) = _
  rw [pos_cons, if_neg h1, if_neg h2, ih (fun c hc=>h c (by simp [hc]))]
  cases pos sep r with
  | none=>rfl
  | some j=>simp only [Option.map_some, List.length_cons, Option.some.injEq]; omega
theorem typeC_sm {c : UInt8} (h : typeC (sm c) = true) : c ≠ 92 ∧ c ≠ 43 ∧ c ≠ 44 ∧ c ≠ 61:=by
 refine ⟨?_, ?_, ?_, ?_⟩
 all_goals
  intro e
  subst e
  revert h
  decide
theorem smallC_type {c : UInt8} (h : smallC c = true) : typeC c = true:=by
 unfold smallC at h; unfold typeC
 rw [decide_eq_true_eq] at h ⊢
 exact Or.inl h
theorem isType_mem {l : List UInt8} (h : isType l = true) : ∀ c ∈ l, typeC c = true:=by
 unfold isType at h
 rw [Bool.and_eq_true] at h
 match l with
 | []=>intro c hc; simp at hc
 | d :: r =>
  have h2 : (smallC d && r.all typeC) = true:=h.2
  rw [Bool.and_eq_true, List.all_eq_true] at h2
  intro c hc
  rcases List.mem_cons.1 hc with rfl | hc
  ·exact smallC_type h2.1
  ·exact h2.2 c hc
theorem lower_mem {q : List UInt8} (h : isType (lower q) = true) : ∀ c ∈ q, c ≠ 92 ∧ c ≠ 43 ∧ c ≠ 44 ∧ c ≠ 61:=fun c hc =>
 typeC_sm (isType_mem h (sm c) (List.mem_map.2 ⟨c, hc, rfl⟩))
theorem dig_ne {c : UInt8} {d : Nat} (h : dig c = some d) : c ≠ 92 ∧ c ≠ 43 ∧ c ≠ 44:=by
 refine ⟨?_, ?_, ?_⟩
 all_goals
  intro e
  subst e
  revert h
  unfold dig
  simp
theorem unE_some {l : List UInt8} {b : UInt8} {k : Nat} (h : unE l = some (b, k)) : (∃ d r, l = d :: r ∧ escOk d = true ∧ b = d ∧ k = 2) ∨ (∃ d e r x y, l = d :: e :: r ∧ escOk d = false ∧ dig d = some x ∧ dig e = some y ∧ b = (16 * x + y).toUInt8 ∧ k = 3):=by
 match l with
 | []=>cases h
 | d :: r =>
  by_cases hd : escOk d = true
  ·rw [unE_ok hd] at h
   simp only [Option.some.injEq, Prod.mk.injEq] at h
   exact Or.inl ⟨d, r, rfl, hd, h.1.symm, h.2.symm⟩
  ·have hd' : escOk d = false:=by simpa using hd
   match r with
   | []=>rw [unE_short hd'] at h; cases h
   | e :: q =>
    rw [unE_two hd'] at h
    cases hx : dig d with
    | none=>rw [hx] at h; cases h
    | some x =>
     cases hy : dig e with
     | none=>rw [hx, hy] at h; cases h
     | some y =>
      rw [hx, hy] at h
      simp only [Option.some.injEq, Prod.mk.injEq] at h
      exact Or.inr ⟨d, e, q, x, y, rfl, hd', hx, hy, h.1.symm, h.2.symm⟩
theorem unB_pos {sp : UInt8 → Bool} {f : Bool} {sep : UInt8} {l : List UInt8} {b : UInt8} {k : Nat} (h : unB sp f l = some (b, k)) (hs : sep = 43 ∨ sep = 44) (hsp : sp sep = true ∨ pos sep l = none) : pos sep l = (pos sep (l.drop k)).map (· + k):=by
 match l with
 | []=>cases h
 | c :: r =>
  rw [unB_cons] at h
  by_cases hc : c = 92
  ·rw [if_pos hc] at h
   rcases unE_some h with ⟨d, q, rfl, _, _, rfl⟩ | ⟨d, e, q, x, y, rfl, _, hx, hy, _, rfl⟩
   ·rw [pos_cons, if_pos hc]; rfl
   ·have he:=dig_ne hy
    have hes : e ≠ sep:=by rcases hs with rfl | rfl; exact he.2.1; exact he.2.2
    rw [pos_cons, if_pos hc]
    simp only
    rw [pos_cons, if_neg he.1, if_neg hes]
    show _ = (pos sep q).map (· + 3)
    cases pos sep q <;> simp
  ·rw [if_neg hc] at h
   by_cases hcs : c = sep
   ·rcases hsp with hsp | hsp
    ·rw [hcs, hsp] at h
     simp at h
    ·rw [pos_cons, if_neg hc, if_pos hcs] at hsp
     cases hsp
   ·split at h
    ·cases h
    ·simp only [Option.some.injEq, Prod.mk.injEq] at h
     obtain ⟨_, rfl⟩:=h
     rw [pos_cons, if_neg hc, if_neg hcs]; rfl
theorem unVal_sep (sep : UInt8) (hs : sep = 43 ∨ sep = 44) : ∀ (n : Nat) (f : Bool) (l : List UInt8), l.length ≤ n → pos sep l ≠ none → unVal special f l = none
 | 0, f, l, h, hp=>by
  have : l = []:=List.eq_nil_of_length_eq_zero (by omega)
  subst this
  exact absurd rfl hp
 | n + 1, f, l, h, hp=>by
  have hl : l ≠ []:=by rintro rfl; exact hp rfl
  cases hb : unB special f l with
  | none=>exact unVal_bad hb hl
  | some q =>
   obtain ⟨b, k⟩:=q
   have hk:=unB_bound hb
   rw [unVal_step hb]
   have h1:=unB_pos hb hs (Or.inl (by rcases hs with rfl | rfl <;> decide))
   have h2 : pos sep (l.drop k) ≠ none:=by
    intro h9
    rw [h9] at h1
    exact hp h1
   rw [unVal_sep sep hs n false (l.drop k) (by rw [List.length_drop]; omega) h2]
   rfl
theorem sp_eq {c : UInt8} (h1 : c ≠ 92) (h2 : c ≠ 43) : sp1 c = special c:=by
 have e1 : c.toNat ≠ 92:=fun e=>h1 (UInt8.toNat_inj.1 e)
 have e2 : c.toNat ≠ 43:=fun e=>h2 (UInt8.toNat_inj.1 e)
 unfold sp1 special
 rw [Bool.eq_iff_iff, decide_eq_true_eq, decide_eq_true_eq]
 omega
theorem unB_sp {f : Bool} {l : List UInt8} (h : pos 43 l = none) : unB sp1 f l = unB special f l:=by
 match l with
 | []=>rfl
 | c :: r =>
  rw [unB_cons, unB_cons]
  by_cases hc : c = 92
  ·rw [if_pos hc, if_pos hc]
  ·rw [if_neg hc, if_neg hc]
   have h2 : c ≠ 43:=by
    intro e
    rw [pos_cons, if_neg hc, if_pos e] at h
    cases h
   rw [sp_eq hc h2]
theorem unVal_sp : ∀ (n : Nat) (f : Bool) (l : List UInt8), l.length ≤ n → pos 43 l = none → unVal sp1 f l = unVal special f l
 | 0, f, l, h, hp=>by
  have : l = []:=List.eq_nil_of_length_eq_zero (by omega)
  subst this
  rfl
 | n + 1, f, l, h, hp=>by
  by_cases hl : l = []
  ·subst hl; rfl
  have e:=unB_sp (f:=f) hp
  cases hb : unB special f l with
  | none=>rw [unVal_bad hb hl, unVal_bad (by rw [e, hb]) hl]
  | some q =>
   obtain ⟨b, k⟩:=q
   have hk:=unB_bound hb
   have h1:=unB_pos hb (Or.inl rfl) (Or.inr hp)
   have h2 : pos 43 (l.drop k) = none:=by
    rw [hp] at h1
    cases h9 : pos 43 (l.drop k) with
    | none=>rfl
    | some j=>rw [h9] at h1; cases h1
   rw [unVal_step hb, unVal_step (by rw [e, hb]), unVal_sp n false (l.drop k) (by rw [List.length_drop]; omega) h2]
end Nm
end Go.Proofs.YtpnlalfdgngcdaaDoor
