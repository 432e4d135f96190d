import Derived.Test.YtpnlalfdgngcdaaDoorZA20
set_option linter.unusedVariables false
set_option maxRecDepth 100000
namespace Go.Proofs.YtpnlalfdgngcdaaDoor
namespace Nm
theorem okFrom_app (p l r : List Ava) : okFrom p (l ++ r) = (okFrom p l && okFrom (p ++ l) r):=by
 induction l generalizing p with
 | nil=>simp [okFrom]
 | cons a l ih =>
  show okFrom p (a :: (l ++ r)) = _
  rw [okFrom, okFrom, ih]
  simp only [List.append_assoc, List.singleton_append, Bool.and_assoc]
theorem isRdn_pre {l r : List Ava} (h : isRdn (l ++ r) = true) (hl : l ≠ []) : isRdn l = true:=by
 unfold isRdn at h ⊢
 rw [Bool.and_eq_true, Bool.and_eq_true, decide_eq_true_eq, decide_eq_true_eq, okFrom_app, Bool.and_eq_true] at h
 rw [Bool.and_eq_true, Bool.and_eq_true, decide_eq_true_eq, decide_eq_true_eq]
 rw [List.length_append] at h
 refine ⟨⟨?_, by omega⟩, h.2.1⟩
 rcases Nat.lt_or_ge 0 l.length with h9 | h9
 ·exact h9
 ·exact absurd (List.eq_nil_of_length_eq_zero (by omega)) hl
theorem isRdn_bad {l r : List Ava} {a : Ava} (h : okAva a = false) : isRdn (l ++ a :: r) = false:=by
 cases h9 : isRdn (l ++ a :: r) with
 | false=>rfl
 | true =>
  have:=(isRdn_all h9).2.2 a (by simp)
  rw [h] at this
  cases this
theorem okAva_noType {x y : ByteArray} (h : isType (bs x) = false) : okAva (x, y) = false:=by
 unfold okAva; rw [h]; rfl
theorem okAva_long {x : ByteArray} {v : List UInt8} (h : ¬ v.length ≤ 60) : okAva (x, mk v) = false:=by
 unfold okAva
 have e : (mk v).size = v.length:=rfl
 rw [e]
 rw [show decide (1 ≤ v.length ∧ v.length ≤ 60) = false by rw [decide_eq_false_iff_not]; omega]
 simp
theorem okAva_none {x : ByteArray} : okAva (x, (⟨#[]⟩ : ByteArray)) = false:=by
 unfold okAva
 rw [show decide (1 ≤ (⟨#[]⟩ : ByteArray).size ∧ (⟨#[]⟩ : ByteArray).size ≤ 60) = false by decide]
 simp
theorem eqAt_split {l : List UInt8} {k : Nat} (h : eqAt l = some k) : l = l.take k ++ 61 :: l.drop (k + 1):=by
 induction l generalizing k with
 | nil=>cases h
 | cons c r ih =>
  rw [eqAt] at h
  split at h
  ·rename_i hc
   injection h with h
   subst h
   rw [hc]; rfl
  ·cases hr : eqAt r with
   | none=>rw [hr] at h; cases h
   | some j =>
    rw [hr] at h
    simp only [Option.map_some, Option.some.injEq] at h
    subst h
    simp only [List.take_succ_cons, List.drop_succ_cons, List.cons_append]
    rw [← ih hr]
theorem ava_some {p : List UInt8} {a : Ava} (h : ava p = some a) : ∃ k v, eqAt p = some k ∧ unVal special true (p.drop (k + 1)) = some v ∧ a = (mk (lower (p.take k)), mk v):=by
 unfold ava at h
 cases he : eqAt p with
 | none=>rw [he] at h; cases h
 | some k =>
  rw [he] at h
  simp only at h
  rw [unV_fuel special p.length (p.drop (k + 1)).length true _ (by rw [List.length_drop]; omega) (Nat.le_refl _)] at h
  cases hv : unV special (p.drop (k + 1)).length true (p.drop (k + 1)) with
  | none=>rw [hv] at h; cases h
  | some v =>
   rw [hv] at h
   simp only [Option.some.injEq] at h
   exact ⟨k, v, rfl, hv, h.symm⟩
theorem ava_mk {p : List UInt8} {k : Nat} {v : List UInt8} (he : eqAt p = some k) (hv : unVal special true (p.drop (k + 1)) = some v) : ava p = some (mk (lower (p.take k)), mk v):=by
 unfold ava
 rw [he]
 simp only
 rw [unV_fuel special p.length (p.drop (k + 1)).length true _ (by rw [List.length_drop]; omega) (Nat.le_refl _), show unV special (p.drop (k + 1)).length true (p.drop (k + 1)) = some v from hv]
theorem pos_text {p : List UInt8} {k : Nat} {sep : UInt8} (he : eqAt p = some k) (ht : isType (lower (p.take k)) = true) (hs : sep = 43 ∨ sep = 44) : pos sep p = none ↔ pos sep (p.drop (k + 1)) = none:=by
 have h1 : pos sep p = pos sep (p.take k ++ 61 :: p.drop (k + 1)):=by rw [← eqAt_split he]
 have h2:=lower_mem ht
 rw [h1, pos_plain sep _ _ (fun c hc=>by
  obtain ⟨a, b, c', _⟩:=h2 c hc
  rcases hs with rfl | rfl
  ·exact ⟨a, b⟩
  ·exact ⟨a, c'⟩), pos_cons, if_neg (by decide), if_neg (by rcases hs with rfl | rfl <;> decide)]
 cases pos sep (p.drop (k + 1)) <;> simp
theorem ava_key {p : List UInt8} (hp : pos 43 p = none) (done : List Ava) :
  (∃ a, dnAva p = some a ∧ ava p = some a ∧ isRdn (done ++ [a]) = true) ∨
  ((∀ a, dnAva p = some a → isRdn (done ++ [a]) = false) ∧ ∀ a r, ava p = some a → isRdn (done ++ a :: r) = false):=by
 cases he : eqAt p with
 | none =>
  refine Or.inr ⟨fun a ha=>?_, fun a r ha=>?_⟩
  ·unfold dnAva at ha
   rw [he] at ha
   simp only [Option.some.injEq] at ha
   subst ha
   exact isRdn_bad okAva_none
  ·obtain ⟨k, v, h, _⟩:=ava_some ha
   rw [he] at h; cases h
 | some k =>
  have hd : dnAva p = match valR (p.drop (k + 1)) with
    | none=>none
    | some v=>some (mk (lower (p.take k)), mk v):=by
   unfold dnAva
   rw [he]
   first
    | done
    |(simp only; cases valR (p.drop (k + 1)) <;> rfl)
  cases ht : isType (lower (p.take k)) with
  | false =>
   have hb : ∀ y, okAva (mk (lower (p.take k)), y) = false:=fun y=>okAva_noType ht
   refine Or.inr ⟨fun a ha=>?_, fun a r ha=>?_⟩
   ·rw [hd] at ha
    cases hv : valR (p.drop (k + 1)) with
    | none=>rw [hv] at ha; cases ha
    | some v =>
     rw [hv] at ha
     simp only [Option.some.injEq] at ha
     subst ha
     exact isRdn_bad (hb _)
   ·obtain ⟨k', v, h, _, rfl⟩:=ava_some ha
    rw [he] at h
    injection h with h
    subst h
    exact isRdn_bad (hb _)
  | true =>
   have hpt:=(pos_text he ht (Or.inl rfl)).1 hp
   have hu:=unVal_sp _ true (p.drop (k + 1)) (Nat.le_refl _) hpt
   cases hv : unVal special true (p.drop (k + 1)) with
   | none =>
    refine Or.inr ⟨fun a ha=>?_, fun a r ha=>?_⟩
    ·rw [hd] at ha
     unfold valR at ha
     rw [hu, hv] at ha
     cases ha
    ·obtain ⟨k', v, h, h2, _⟩:=ava_some ha
     rw [he] at h
     injection h with h
     subst h
     rw [hv] at h2; cases h2
   | some v =>
    have ha:=ava_mk he hv
    by_cases hl : v.length ≤ 60
    ·have hda : dnAva p = some (mk (lower (p.take k)), mk v):=by
      rw [hd]
      unfold valR
      rw [hu, hv]
      simp only
      rw [if_pos hl]
     cases hr : isRdn (done ++ [(mk (lower (p.take k)), mk v)]) with
     | true=>exact Or.inl ⟨_, hda, ha, hr⟩
     | false =>
      refine Or.inr ⟨fun a h=>?_, fun a r h=>?_⟩
      ·rw [hda] at h
       injection h with h
       rw [← h]; exact hr
      ·rw [ha] at h
       injection h with h
       subst h
       cases h9 : isRdn (done ++ (mk (lower (p.take k)), mk v) :: r) with
       | false=>rfl
       | true =>
        have : done ++ (mk (lower (p.take k)), mk v) :: r = (done ++ [(mk (lower (p.take k)), mk v)]) ++ r:=by simp
        rw [this] at h9
        rw [isRdn_pre h9 (by simp)] at hr
        cases hr
    ·refine Or.inr ⟨fun a h=>?_, fun a r h=>?_⟩
     ·rw [hd] at h
      unfold valR at h
      rw [hu, hv] at h
      simp only at h
      rw [if_neg hl] at h
      cases h
     ·rw [ha] at h
      injection h with h
      subst h
      exact isRdn_bad (okAva_long hl)
def rdnD : List Ava → List (List UInt8) → Option (List Ava)
 | done, []=>some done
 | done, p :: ps=>match dnAva p with
  | none=>none
  | some a=>if isRdn (done ++ [a]) then rdnD (done ++ [a]) ps else none
theorem avas_cons (p : List UInt8) (ps : List (List UInt8)) : avas (p :: ps) = match ava p with
  | none=>none
  | some a=>match avas ps with
   | none=>none
   | some l=>some (a :: l):=rfl
theorem rdnD_eq : ∀ (ps : List (List UInt8)) (done : List Ava), (∀ p ∈ ps, pos 43 p = none) → (ps ≠ [] ∨ isRdn done = true) → rdnD done ps = (avas ps).bind fun r=>ifRdn (done ++ r)
 | [], done, _, h=>by
  have h2 : isRdn done = true:=by
   rcases h with h | h
   ·exact absurd rfl h
   ·exact h
  show some done = ifRdn (done ++ [])
  rw [List.append_nil]
  unfold ifRdn
  rw [if_pos h2]
 | p :: ps, done, hw, _=>by
  rw [rdnD, avas_cons]
  rcases ava_key (hw p (by simp)) done with ⟨a, h1, h2, h3⟩ | ⟨h1, h2⟩
  ·rw [h1, h2]
   simp only
   rw [if_pos h3, rdnD_eq ps (done ++ [a]) (fun q hq=>hw q (by simp [hq])) (Or.inr h3)]
   cases avas ps with
   | none=>rfl
   | some l =>
    show ifRdn ((done ++ [a]) ++ l) = ifRdn (done ++ a :: l)
    rw [List.append_assoc]; rfl
  ·have e1 : (match dnAva p with
     | none=>none
     | some a=>if isRdn (done ++ [a]) then rdnD (done ++ [a]) ps else none) = none:=by
    cases hd : dnAva p with
    | none=>rfl
    | some a =>
     simp only
     rw [h1 a hd]
     rfl
   rw [e1]
   cases ha : ava p with
   | none=>rfl
   | some a =>
    cases avas ps with
    | none=>rfl
    | some l =>
     show none = ifRdn (done ++ a :: l)
     unfold ifRdn
     rw [h2 a l ha]
     rfl
theorem rdnD_rdn (l : List UInt8) : rdnD [] (cuts 43 l) = rdn l:=rdnD_eq _ _ (cuts_whole 43 l) (Or.inl (cuts_ne 43 l))
def dnD : List (List Ava) → List (List UInt8) → Option (List (List Ava))
 | done, []=>some done
 | done, p :: ps=>match rdn p with
  | none=>none
  | some r=>if done.length = 8 then none else dnD (done ++ [r]) ps
theorem rdns_cons (p : List UInt8) (ps : List (List UInt8)) : rdns (p :: ps) = match rdn p with
  | none=>none
  | some a=>match rdns ps with
   | none=>none
   | some l=>some (a :: l):=rfl
theorem rdn_is {p : List UInt8} {r : List Ava} (h : rdn p = some r) : isRdn r = true:=by
 unfold rdn ifRdn at h
 cases ha : avas (cuts 43 p) with
 | none=>rw [ha] at h; cases h
 | some l =>
  rw [ha] at h
  have h2 : (if isRdn l then some l else none) = some r:=h
  split at h2
  ·rename_i h3
   injection h2 with h2
   rw [← h2]; exact h3
  ·cases h2
theorem dnD_eq : ∀ (ps : List (List UInt8)) (done : List (List Ava)), done.length ≤ 8 → done.all isRdn = true → dnD done ps = (rdns ps).bind fun d=>ifDn (done ++ d)
 | [], done, h8, ha=>by
  show some done = ifDn (done ++ [])
  rw [List.append_nil]
  unfold ifDn isDn
  rw [decide_eq_true h8, ha]; rfl
 | p :: ps, done, h8, ha=>by
  rw [dnD, rdns_cons]
  cases hr : rdn p with
  | none=>rfl
  | some r =>
   simp only
   by_cases h9 : done.length = 8
   ·rw [if_pos h9]
    cases rdns ps with
    | none=>rfl
    | some l =>
     show none = ifDn (done ++ r :: l)
     unfold ifDn isDn
     rw [decide_eq_false (by rw [List.length_append, List.length_cons]; omega)]; rfl
   ·rw [if_neg h9, dnD_eq ps (done ++ [r]) (by rw [List.length_append, List.length_singleton]; omega) (by rw [List.all_append, ha]; simp [rdn_is hr])]
    cases rdns ps with
    | none=>rfl
    | some l =>
     show ifDn ((done ++ [r]) ++ l) = ifDn (done ++ r :: l)
     rw [List.append_assoc]; rfl
theorem dnD_dnm (l : List UInt8) (h : l ≠ []) : dnD [] (cuts 44 l) = dnm l:=by
 unfold dnm
 rw [if_neg h, dnD_eq _ _ (by simp) rfl]
 rfl
def refAva (p : List UInt8) : Option Ava:=if 1 < (cuts 44 p).length then none else ava p
def refAvas : List (List UInt8) → Option (List Ava)
 | []=>some []
 | p :: r=>match refAva p with
  | none=>none
  | some a=>match refAvas r with
   | none=>none
   | some l=>some (a :: l)
theorem cuts_many {sep : UInt8} {p : List UInt8} (h : 1 < (cuts sep p).length) : pos sep p ≠ none:=by
 rw [cuts_pos] at h
 intro h9
 rw [h9] at h
 simp at h
theorem ava_comma {p : List UInt8} {a : Ava} (h : 1 < (cuts 44 p).length) (ha : ava p = some a) : okAva a = false:=by
 obtain ⟨k, v, he, hv, rfl⟩:=ava_some ha
 cases ht : isType (lower (p.take k)) with
 | false=>exact okAva_noType ht
 | true =>
  have h1 : pos 44 (p.drop (k + 1)) ≠ none:=fun h9=>cuts_many h ((pos_text he ht (Or.inr rfl)).2 h9)
  rw [unVal_sep 44 (Or.inr rfl) _ true _ (Nat.le_refl _) h1] at hv
  cases hv
theorem refAvas_eq : ∀ (ps : List (List UInt8)), refAvas ps = avas ps ∨ refAvas ps = none ∧ ∀ l, avas ps = some l → ∃ a ∈ l, okAva a = false
 | []=>Or.inl rfl
 | p :: ps=>by
  have h1 : refAvas (p :: ps) = match refAva p with
   | none=>none
   | some a=>match refAvas ps with
    | none=>none
    | some l=>some (a :: l):=rfl
  rw [h1, avas_cons]
  unfold refAva
  by_cases hc : 1 < (cuts 44 p).length
  ·rw [if_pos hc]
   refine Or.inr ⟨rfl, fun l hl=>?_⟩
   cases ha : ava p with
   | none=>rw [ha] at hl; cases hl
   | some a =>
    rw [ha] at hl
    simp only at hl
    cases hs : avas ps with
    | none=>rw [hs] at hl; cases hl
    | some q =>
     rw [hs] at hl
     simp only [Option.some.injEq] at hl
     subst hl
     exact ⟨a, by simp, ava_comma hc ha⟩
  ·rw [if_neg hc]
   cases ha : ava p with
   | none=>exact Or.inl rfl
   | some a =>
    simp only
    rcases refAvas_eq ps with h2 | ⟨h2, h3⟩
    ·rw [h2]; exact Or.inl rfl
    ·rw [h2]
     refine Or.inr ⟨rfl, fun l hl=>?_⟩
     cases hs : avas ps with
     | none=>rw [hs] at hl; cases hl
     | some q =>
      rw [hs] at hl
      simp only [Option.some.injEq] at hl
      subst hl
      obtain ⟨b, hb, hb2⟩:=h3 q hs
      exact ⟨b, by simp [hb], hb2⟩
theorem ref_rdn (l : List UInt8) : (refAvas (cuts 43 l)).bind ifRdn = rdn l:=by
 unfold rdn
 rcases refAvas_eq (cuts 43 l) with h | ⟨h, h2⟩
 ·rw [h]
 ·rw [h]
  cases ha : avas (cuts 43 l) with
  | none=>rfl
  | some q =>
   obtain ⟨a, hm, hb⟩:=h2 q ha
   show none = ifRdn q
   unfold ifRdn
   cases h9 : isRdn q with
   | false=>rfl
   | true =>
    have:=(isRdn_all h9).2.2 a hm
    rw [hb] at this; cases this
end Nm
end Go.Proofs.YtpnlalfdgngcdaaDoor
