import Derived.Test.YtpnlalfdgngcdaaDoorZA8
set_option linter.unusedVariables false
set_option maxRecDepth 100000
namespace Go.Proofs.YtpnlalfdgngcdaaDoor
namespace Ru
open _root_.Go.Proofs.YtpnlalfdgngcdaaDoor.Nm
theorem keep_good {s : List UInt8} {r : Rul} (h : good s r = true) : keep s r = some r:=by unfold keep; rw [if_pos h]
theorem keep_bad {s : List UInt8} {r : Rul} (h : isR r = false) : keep s r = none:=by
 unfold keep good
 rw [h]; rfl
theorem parse_pr {r : Rul} (h : isR r = true) : parse (pr r) = some r:=by
 unfold parse
 rw [cand_pr h _ (by omega)]
 exact keep_good (by unfold good; rw [h, decide_eq_true rfl]; rfl)
theorem parse_some {s : List UInt8} {r : Rul} (h : parse s = some r) : isR r = true ∧ pr r = s:=by
 unfold parse at h
 split at h
 ·cases h
 ·unfold keep at h
  split at h
  ·rename_i hg
   injection h with h
   subst h
   unfold good at hg
   simpa using hg
  ·cases h
theorem split_most {c : UInt8} : ∀ (n : Nat) (l : List UInt8), (split c n l).length ≤ l.length + 1
 | 0, l=>by simp [split]
 | n + 1, l=>by
  rw [split]
  cases hc : cutAt c l with
  | none=>simp
  | some p =>
   obtain ⟨a, b⟩:=p
   have:=split_most (c:=c) n b
   have:=cutAt_len hc
   simp only [List.length_cons]
   omega
theorem split_min {c : UInt8} (n : Nat) (l : List UInt8) (h : l.length ≤ n) : split c n l = split c l.length l:=by
 rcases split_more (c:=c) l.length n l h with h1 | ⟨h1, _⟩
 ·exact h1.symm
 ·have:=split_most (c:=c) n l
  omega
theorem attrs_two (n : Nat) (hn : 14 ≤ n) (t : List UInt8) : attrsN 14 t = attrsN n t ∨ (attrsOk none (attrsN 14 t) = false ∧ attrsOk none (attrsN n t) = false):=by
 unfold attrsN
 by_cases h : t = [42]
 ·rw [if_pos h, if_pos h]; exact Or.inl rfl
 rw [if_neg h, if_neg h]
 rcases split_more (c:=44) 14 n t hn with h1 | ⟨h1, x, h2, h3⟩
 ·rw [h1]; exact Or.inl rfl
 ·refine Or.inr ⟨?_, ?_⟩
  ·rw [Bool.eq_false_iff]
   intro hk
   exact (ty_clean (ok_all _ _ hk (mk x) (List.mem_map.2 ⟨x, h2, rfl⟩))).2.2.1 h3
  ·rw [Bool.eq_false_iff]
   intro hk
   have:=ok_few hk
   rw [List.length_map] at this
   omega
theorem isR_attrs {d : Bool} {R : ByteArray} {s : Bool} {W : ByteArray} {l : List ByteArray} (h : attrsOk none l = false) : isR ⟨d, R, s, W, l⟩ = false:=by
 unfold isR
 show (_ && (_ && attrsOk none l)) = false
 rw [h]; simp
theorem keep_two (n : Nat) (hn : 14 ≤ n) (s : List UInt8) (d : Bool) (R : ByteArray) (u : Bool) (W : ByteArray) (t : List UInt8) : keep s ⟨d, R, u, W, attrsN 14 t⟩ = keep s ⟨d, R, u, W, attrsN n t⟩:=by
 rcases attrs_two n hn t with h | ⟨h1, h2⟩
 ·rw [h]
 ·rw [keep_bad (isR_attrs h1), keep_bad (isR_attrs h2)]
def words (s : List UInt8) : Option (List UInt8 × List UInt8 × List UInt8 × List UInt8 × List UInt8):=match cutAt 32 s with
 | none=>none
 | some (v, a)=>match cutAt 32 a with
  | none=>none
  | some (r, b)=>match cutAt 32 b with
   | none=>none
   | some (h, c)=>match cutAt 32 c with
    | none=>none
    | some (t, w)=>some (v, r, h, t, w)
theorem split_words (s : List UInt8) : (words s = none ∧ (split 32 4 s).length < 5) ∨ ∃ v r h t w, words s = some (v, r, h, t, w) ∧ split 32 4 s = [v, r, h, t, w]:=by
 unfold words
 rw [split]
 cases cutAt 32 s with
 | none=>exact Or.inl ⟨rfl, by simp⟩
 | some p =>
  obtain ⟨v, a⟩:=p
  simp only
  rw [split]
  cases cutAt 32 a with
  | none=>exact Or.inl ⟨rfl, by simp⟩
  | some p =>
   obtain ⟨r, b⟩:=p
   simp only
   rw [split]
   cases cutAt 32 b with
   | none=>exact Or.inl ⟨rfl, by simp⟩
   | some p =>
    obtain ⟨h, c⟩:=p
    simp only
    rw [split]
    cases cutAt 32 c with
    | none=>exact Or.inl ⟨rfl, by simp⟩
    | some p =>
     obtain ⟨t, w⟩:=p
     exact Or.inr ⟨v, r, h, t, w, rfl, rfl⟩
theorem cand_words (n : Nat) (s : List UInt8) : cand n s = match words s with
  | none=>none
  | some (v, r, h, t, w)=>some ⟨decide (v = verb true), mk r, decide (h = reach true), mk w, attrsN n t⟩:=by
 unfold cand words
 cases cutAt 32 s with
 | none=>rfl
 | some p =>
  obtain ⟨v, a⟩:=p
  simp only
  cases cutAt 32 a with
  | none=>rfl
  | some p =>
   obtain ⟨r, b⟩:=p
   simp only
   cases cutAt 32 b with
   | none=>rfl
   | some p =>
    obtain ⟨h, c⟩:=p
    simp only
    cases cutAt 32 c with
    | none=>rfl
    | some p =>
     obtain ⟨t, w⟩:=p
     rfl
theorem words_len {s v r h t w : List UInt8} (e : words s = some (v, r, h, t, w)) : s.length = v.length + r.length + h.length + t.length + w.length + 4:=by
 unfold words at e
 split at e
 ·cases e
 ·rename_i v' a h1
  split at e
  ·cases e
  ·rename_i r' b h2
   split at e
   ·cases e
   ·rename_i h' c h3
    split at e
    ·cases e
    ·rename_i t' w' h4
     injection e with e
     simp only [Prod.mk.injEq] at e
     obtain ⟨rfl, rfl, rfl, rfl, rfl⟩:=e
     have:=cutAt_len h1
     have:=cutAt_len h2
     have:=cutAt_len h3
     have:=cutAt_len h4
     omega
theorem parse_words {s v r h t w : List UInt8} (e : words s = some (v, r, h, t, w)) (n : Nat) (hn : 14 ≤ n) : parse s = keep s ⟨decide (v = verb true), mk r, decide (h = reach true), mk w, attrsN n t⟩:=by
 unfold parse
 rw [cand_words, e]
 show keep s _ = _
 rw [← keep_two n hn, keep_two (s.length + 14) (by omega)]
theorem parse_none {s : List UInt8} (e : words s = none) : parse s = none:=by
 unfold parse
 rw [cand_words, e]
theorem pr_head {r : Rul} (h : isR r = true) : ∃ b R, pr r = verb r.deny ++ 32 :: b :: R ∧ b ∈ letters ∧ (b = 100 → ∃ R', R = 32 :: R'):=by
 obtain ⟨h1, h2, h3⟩:=isR_of h
 obtain ⟨g1, g2, g3, g4⟩:=rights_of h1
 unfold pr
 cases hl : bs r.rights with
 | nil=>exact absurd hl g1
 | cons b q =>
  rw [hl] at g3 g4
  refine ⟨b, q ++ 32 :: (reach r.sub ++ 32 :: (attrsT r.attrs ++ 32 :: bs r.who)), rfl, g3 b (by simp), fun e=>?_⟩
  have:=g4 q (by rw [e])
  subst this
  exact ⟨_, rfl⟩
theorem lett {b : UInt8} (h : b ∈ letters) : b = 114 ∨ b = 115 ∨ b = 99 ∨ b = 119 ∨ b = 97 ∨ b = 100:=by simpa [letters] using h
theorem back_blank {r : Rul} (h : isR r = true) (k : Nat) (hk : k < 6) : parse ((pr r).take k ++ 32 :: (pr r).drop k) = none:=by
 cases hp : parse ((pr r).take k ++ 32 :: (pr r).drop k) with
 | none=>rfl
 | some q =>
  exfalso
  obtain ⟨h1, h2⟩:=parse_some hp
  obtain ⟨b, R, e, hb, _⟩:=pr_head h
  obtain ⟨b', R', e', hb', _⟩:=pr_head h1
  rw [e, e'] at h2
  clear hp e e' h h1
  have hb:=lett hb
  have hb':=lett hb'
  have : k = 0 ∨ k = 1 ∨ k = 2 ∨ k = 3 ∨ k = 4 ∨ k = 5:=by omega
  generalize r.deny = d at h2
  generalize q.deny = d' at h2
  rcases this with rfl | rfl | rfl | rfl | rfl | rfl <;> cases d <;> cases d' <;> simp [verb] at h2
  all_goals
   obtain ⟨h2, _⟩:=h2
   subst h2
   simp at hb'
theorem back_cut {r : Rul} (h : isR r = true) : parse ((pr r).drop 5) = none:=by
 cases hp : parse ((pr r).drop 5) with
 | none=>rfl
 | some q =>
  exfalso
  obtain ⟨h1, h2⟩:=parse_some hp
  obtain ⟨b, R, e, hb, hr⟩:=pr_head h
  obtain ⟨b', R', e', hb', _⟩:=pr_head h1
  rw [e, e'] at h2
  clear hp e e' h h1
  have hb:=lett hb
  generalize r.deny = d at h2
  generalize q.deny = d' at h2
  cases d <;> cases d' <;> simp [verb] at h2
  ·obtain ⟨h2, _⟩:=h2
   subst h2
   simp at hb
  ·obtain ⟨h2, h3⟩:=h2
   obtain ⟨R2, h4⟩:=hr h2.symm
   rw [h4] at h3
   simp at h3
theorem back_nil : parse [] = none:=rfl
theorem who_len {l : List UInt8} (h : isWho l = true) : 3 ≤ l.length:=by
 unfold isWho at h
 simp only [Bool.or_eq_true, decide_eq_true_eq, Bool.and_eq_true] at h
 rcases h with (rfl | rfl) | ⟨h1, h2⟩
 ·decide
 ·decide
 ·have:=congrArg List.length h1
  rw [List.length_take] at this
  have h3 : dnT.length = 3:=rfl
  omega
theorem pr_len {r : Rul} (h : isR r = true) : 12 ≤ (pr r).length ∧ (pr r).length ≤ 260 + r.who.size:=by
 obtain ⟨h1, h2, h3⟩:=isR_of h
 obtain ⟨g1, g2, g3, g4⟩:=rights_of h1
 have h4:=who_len h2
 have h5:=attrsT_len h3
 have h6 : 1 ≤ (attrsT r.attrs).length:=by
  cases ha : attrsT r.attrs with
  | cons a b=>simp
  | nil =>
   exfalso
   unfold attrsT at ha
   split at ha
   ·cases ha
   ·rename_i hne
    cases hl : r.attrs with
    | nil=>exact hne hl
    | cons a b =>
     rw [hl] at ha h3
     have:=ok_all _ _ h3 a (by simp)
     obtain ⟨k, hk, e⟩:=ty_of this
     have h0 : bs a = []:=by
      cases b with
      | nil=>exact ha
      | cons b' b'' =>
       have ha : bs a ++ 44 :: join 44 (bs b' :: b''.map bs) = []:=ha
       simp at ha
     have hz:=List.all_eq_true.1 (show (Sc.tab.all fun t=>!(bs t.1).isEmpty) = true by kernel_rfl) (Sc.tab[k]'hk) (List.getElem_mem hk)
     rw [e, h0] at hz
     cases hz
 have h7 : 1 ≤ (bs r.rights).length:=by
  cases hl : bs r.rights with
  | nil=>exact absurd hl g1
  | cons b q=>simp
 have h8 : 4 ≤ (verb r.deny).length ∧ (verb r.deny).length ≤ 5:=by cases r.deny <;> decide
 have h9 : 3 ≤ (reach r.sub).length ∧ (reach r.sub).length ≤ 4:=by cases r.sub <;> decide
 have h10 : (bs r.who).length = r.who.size:=rfl
 unfold pr
 simp only [List.length_append, List.length_cons]
 omega
end Ru
end Go.Proofs.YtpnlalfdgngcdaaDoor
