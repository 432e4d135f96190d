import Derived.Test.YtpnlalfdgngcdaaDoorZA7
set_option linter.unusedVariables false
set_option maxRecDepth 100000
namespace Go.Proofs.YtpnlalfdgngcdaaDoor
namespace Ru
open _root_.Go.Proofs.YtpnlalfdgngcdaaDoor.Nm
theorem mk_bs' (b : ByteArray) : mk (bs b) = b:=by cases b; rfl
theorem look_mem {x : ByteArray} : ∀ {l : List Sc.Ty} {t : Sc.Ty}, Sc.look x l = some t → t ∈ l
 | [], t, h=>by cases h
 | u :: r, t, h=>by
  rw [Sc.look] at h
  split at h
  ·injection h with h
   rw [h]; simp
  ·exact List.mem_cons_of_mem _ (look_mem h)
theorem tab_clean : (Sc.tab.all fun t=>decide (t.1.size ≤ 15) && (bs t.1).all fun c=>decide (c ≠ 32) && (decide (c ≠ 44) && decide (c ≠ 42))) = true:=by kernel_rfl
theorem ty_of {a : ByteArray} (h : isTy a = true) : ∃ k, ∃ hk : k < Sc.tab.length, (Sc.tab[k]'hk).1 = a:=by
 unfold isTy at h
 cases hf : Sc.find (bs a) with
 | none=>rw [hf] at h; cases h
 | some t =>
  rw [hf] at h
  have h2 : t.1 = a:=of_decide_eq_true h
  obtain ⟨k, hk, e⟩:=List.getElem_of_mem (look_mem (x:=mk (lower (bs a))) hf)
  exact ⟨k, hk, by rw [e]; exact h2⟩
theorem ty_clean {a : ByteArray} (h : isTy a = true) : a.size ≤ 15 ∧ (32 : UInt8) ∉ bs a ∧ (44 : UInt8) ∉ bs a ∧ (42 : UInt8) ∉ bs a:=by
 obtain ⟨k, hk, e⟩:=ty_of h
 have:=List.all_eq_true.1 tab_clean (Sc.tab[k]'hk) (List.getElem_mem hk)
 rw [e] at this
 simp only [Bool.and_eq_true, decide_eq_true_eq, List.all_eq_true] at this
 obtain ⟨h1, h2⟩:=this
 exact ⟨h1, fun hm=>(h2 _ hm).1 rfl, fun hm=>(h2 _ hm).2.1 rfl, fun hm=>(h2 _ hm).2.2 rfl⟩
theorem tab_rise : ((List.range 15).all fun p=>(List.range 15).all fun k=>!less (Sc.tab.getD p default).1 (Sc.tab.getD k default).1 || decide (p < k)) = true:=by kernel_rfl
theorem rise {p k : Nat} (hp : p < Sc.tab.length) (hk : k < Sc.tab.length) (h : less (Sc.tab[p]'hp).1 (Sc.tab[k]'hk).1 = true) : p < k:=by
 have:=List.all_eq_true.1 (List.all_eq_true.1 tab_rise p (List.mem_range.2 hp)) k (List.mem_range.2 hk)
 rw [List.getD_eq_getElem?_getD, List.getD_eq_getElem?_getD, List.getElem?_eq_getElem hp, List.getElem?_eq_getElem hk, Option.getD_some, Option.getD_some, h] at this
 simpa using this
theorem ok_len : ∀ (l : List ByteArray) (p : Nat) (hp : p < Sc.tab.length), attrsOk (some (Sc.tab[p]'hp).1) l = true → l.length + p ≤ 14
 | [], p, hp, _=>by have hp : p < 15:=hp; simp; omega
 | a :: r, p, hp, h=>by
  rw [attrsOk] at h
  simp only [Bool.and_eq_true] at h
  obtain ⟨h1, h2, h3⟩:=h
  obtain ⟨k, hk, rfl⟩:=ty_of h1
  have:=rise hp hk h2
  have:=ok_len r k hk h3
  simp only [List.length_cons]
  omega
theorem ok_all : ∀ (p : Option ByteArray) (l : List ByteArray), attrsOk p l = true → ∀ a ∈ l, isTy a = true
 | p, [], _, a, h=>by cases h
 | p, b :: r, h, a, hm=>by
  rw [attrsOk] at h
  simp only [Bool.and_eq_true] at h
  rcases List.mem_cons.1 hm with rfl | hm
  ·exact h.1
  ·exact ok_all (some b) r h.2.2 a hm
theorem ok_few {l : List ByteArray} (h : attrsOk none l = true) : l.length ≤ 15:=by
 cases l with
 | nil=>simp
 | cons a r =>
  rw [attrsOk] at h
  simp only [Bool.and_eq_true] at h
  obtain ⟨h1, h2, h3⟩:=h
  obtain ⟨k, hk, rfl⟩:=ty_of h1
  have:=ok_len r k hk h3
  simp only [List.length_cons]
  omega
theorem skips_all : ∀ (cs l : List UInt8), skips cs l = [] → ∀ x ∈ l, x ∈ cs
 | [], l, h, x, hx=>by rw [skips] at h; rw [h] at hx; exact hx
 | c :: cs, l, h, x, hx=>by
  rw [skips] at h
  have ih:=skips_all cs (skip c l) h
  cases l with
  | nil=>cases hx
  | cons b r =>
   rw [skip] at ih
   split at ih
   ·rename_i hb
    rcases List.mem_cons.1 hx with rfl | hx
    ·rw [hb]; simp
    ·exact List.mem_cons_of_mem _ (ih x hx)
   ·exact List.mem_cons_of_mem _ (ih x hx)
theorem skips_len : ∀ (cs l : List UInt8), l.length ≤ (skips cs l).length + cs.length
 | [], l=>by simp [skips]
 | c :: cs, l=>by
  rw [skips]
  have:=skips_len cs (skip c l)
  have h2 : l.length ≤ (skip c l).length + 1:=by
   cases l with
   | nil=>simp
   | cons b r =>
    rw [skip]
    split <;> simp <;> omega
  simp only [List.length_cons]
  omega
theorem rights_of {l : List UInt8} (h : isRights l = true) : l ≠ [] ∧ l.length ≤ 6 ∧ (∀ x ∈ l, x ∈ letters) ∧ (∀ r, l = 100 :: r → r = []):=by
 unfold isRights at h
 simp only [Bool.and_eq_true, Bool.not_eq_true', List.isEmpty_iff] at h
 obtain ⟨h1, h2⟩:=h
 refine ⟨fun e=>(by rw [e] at h1; cases h1), ?_, skips_all _ _ h2, ?_⟩
 ·have:=skips_len letters l
  rw [h2] at this
  exact this
 ·rintro r rfl
  simpa [skips, letters, skip] using h2
theorem join_mem {c x : UInt8} : ∀ {l : List (List UInt8)}, x ∈ join c l → x = c ∨ ∃ t ∈ l, x ∈ t
 | [], h=>by cases h
 | [t], h=>Or.inr ⟨t, by simp, h⟩
 | t :: u :: r, h=>by
  have h : x ∈ t ++ c :: join c (u :: r):=h
  rcases List.mem_append.1 h with h | h
  ·exact Or.inr ⟨t, by simp, h⟩
  ·rcases List.mem_cons.1 h with h | h
   ·exact Or.inl h
   ·rcases join_mem h with h | ⟨t', h1, h2⟩
    ·exact Or.inl h
    ·exact Or.inr ⟨t', List.mem_cons_of_mem _ h1, h2⟩
theorem join_len {c : UInt8} {m : Nat} : ∀ {l : List (List UInt8)}, (∀ t ∈ l, t.length ≤ m) → (join c l).length ≤ l.length * (m + 1)
 | [], h=>by simp [join]
 | [t], h=>by
  have:=h t (by simp)
  simp [join]; omega
 | t :: u :: r, h=>by
  have h1:=h t (by simp)
  have h2:=join_len (c:=c) (l:=u :: r) (fun t ht=>h t (List.mem_cons_of_mem _ ht))
  show (t ++ c :: join c (u :: r)).length ≤ _
  simp only [List.length_append, List.length_cons, Nat.add_mul] at h2 ⊢
  omega
theorem attrsT_free {l : List ByteArray} (h : attrsOk none l = true) : (32 : UInt8) ∉ attrsT l:=by
 unfold attrsT
 split
 ·decide
 ·intro hm
  rcases join_mem hm with h1 | ⟨t, h1, h2⟩
  ·exact absurd h1 (by decide)
  ·obtain ⟨a, ha, rfl⟩:=List.mem_map.1 h1
   exact (ty_clean (ok_all _ _ h a ha)).2.1 h2
theorem attrsT_len {l : List ByteArray} (h : attrsOk none l = true) : (attrsT l).length ≤ 240:=by
 unfold attrsT
 split
 ·decide
 ·have h1:=join_len (c:=44) (m:=15) (l:=l.map bs) (fun t ht=>by
   obtain ⟨a, ha, rfl⟩:=List.mem_map.1 ht
   exact (ty_clean (ok_all _ _ h a ha)).1)
  have h2:=ok_few h
  rw [List.length_map] at h1
  omega
theorem map_mk_bs : ∀ l : List ByteArray, (l.map bs).map mk = l
 | []=>rfl
 | a :: r=>by
  show mk (bs a) :: _ = _
  rw [mk_bs', map_mk_bs r]
theorem attrsN_T {l : List ByteArray} (h : attrsOk none l = true) (n : Nat) (hn : 14 ≤ n) : attrsN n (attrsT l) = l:=by
 unfold attrsT
 split
 ·rename_i e
  rw [e]; rfl
 ·rename_i e
  unfold attrsN
  have hne : join 44 (l.map bs) ≠ [42]:=by
   intro h2
   have h3 : (42 : UInt8) ∈ join 44 (l.map bs):=by rw [h2]; simp
   rcases join_mem h3 with h1 | ⟨t, h1, h4⟩
   ·exact absurd h1 (by decide)
   ·obtain ⟨a, ha, rfl⟩:=List.mem_map.1 h1
    exact (ty_clean (ok_all _ _ h a ha)).2.2.2 h4
  rw [if_neg hne, split_join _ _ (by simpa using e) (fun x hx=>by
   obtain ⟨a, ha, rfl⟩:=List.mem_map.1 hx
   exact (ty_clean (ok_all _ _ h a ha)).2.2.1) (by rw [List.length_map]; have:=ok_few h; omega), map_mk_bs]
theorem isR_of {r : Rul} (h : isR r = true) : isRights (bs r.rights) = true ∧ isWho (bs r.who) = true ∧ attrsOk none r.attrs = true:=by
 unfold isR at h
 simpa only [Bool.and_eq_true] using h
theorem verb_free (d : Bool) : (32 : UInt8) ∉ verb d:=by cases d <;> decide
theorem reach_free (d : Bool) : (32 : UInt8) ∉ reach d:=by cases d <;> decide
theorem cand_pr {r : Rul} (h : isR r = true) (n : Nat) (hn : 14 ≤ n) : cand n (pr r) = some r:=by
 obtain ⟨d, R, s, W, l⟩:=r
 obtain ⟨h1, h2, h3⟩:=isR_of h
 have hr : (32 : UInt8) ∉ bs R:=fun hm=>absurd ((rights_of h1).2.2.1 _ hm) (by decide)
 unfold cand pr
 rw [cutAt_at _ (verb_free d)]
 show (match cutAt 32 (bs R ++ 32 :: _) with | none=>none | some (r, b)=>_) = _
 rw [cutAt_at _ hr]
 show (match cutAt 32 (reach s ++ 32 :: _) with | none=>none | some (r, b)=>_) = _
 rw [cutAt_at _ (reach_free s)]
 show (match cutAt 32 (attrsT l ++ 32 :: _) with | none=>none | some (r, b)=>_) = _
 rw [cutAt_at _ (attrsT_free h3)]
 show some (Rul.mk (decide (verb d = verb true)) (mk (bs R)) (decide (reach s = reach true)) (mk (bs W)) (attrsN n (attrsT l))) = _
 rw [attrsN_T h3 n hn, mk_bs', mk_bs']
 cases d <;> cases s <;> rfl
end Ru
end Go.Proofs.YtpnlalfdgngcdaaDoor
