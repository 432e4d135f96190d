import Derived.Test.YtconghaebebncaaGreatDoorZR21
import Derived.Test.YtconghaebebncaaGreatDoorZR16
set_option linter.unusedVariables false
set_option maxRecDepth 100000
namespace Go.Proofs.YtconghaebebncaaGreatDoor.Ms
open _root_.Go.Proofs.YtconghaebebncaaGreatDoor.Nm _root_.Go.Proofs.YtconghaebebncaaGreatDoor.Be
theorem no_of {s : ByteArray} (h : s.size = 0) : s = no:=by
 obtain ⟨d⟩:=s
 have : d = #[]:=Array.eq_empty_of_size_eq_zero h
 rw [this]
theorem subs_rest (n : Nat) : ∀ (r : List ByteArray) (i : Nat) (x : ByteArray) (l : List ByteArray), 1 ≤ i → i + r.length = n → r ≠ [] → (∀ s ∈ r.take (r.length - 1), s.size ≠ 0) → rdSubs x l no (subEls n i r) = x :: (l ++ r)
 | [], i, x, l, _, _, h, _=>absurd rfl h
 | [s], i, x, l, h1, h2, _, _=>by
  have h2' : i + 1 = n:=h2
  rw [subEls]
  by_cases h0 : s.size = 0
  ·rw [if_pos h0, subEls, rdSubs, no_of h0]
  ·rw [if_neg h0, subEls]
   have ht : partTag i n = 130:=by unfold partTag; rw [if_neg (by omega), if_pos (by omega)]
   rw [ht, txt, rdSubs]
   simp [tagE, bodyE, rdSubs]
 | s :: s' :: r, i, x, l, h1, h2, _, h4=>by
  have h2' : i + (r.length + 1 + 1) = n:=h2
  have h0 : s.size ≠ 0:=h4 s (by simp)
  rw [subEls, if_neg h0]
  have ht : partTag i n = 129:=by unfold partTag; rw [if_neg (by omega), if_neg (by omega)]
  have ih:=subs_rest n (s' :: r) (i + 1) x (l ++ [s]) (by omega) (by rw [List.length_cons]; omega) (by simp) (fun q hq=>h4 q (by
   have e1 : (s' :: r).length - 1 = r.length:=by simp
   have e2 : (s :: s' :: r).length - 1 = r.length + 1:=by simp
   rw [e1] at hq
   rw [e2, List.take_succ_cons]
   exact List.mem_cons_of_mem _ hq))
  rw [ht, txt, rdSubs]
  simp only [tagE, bodyE, if_neg (show ¬ (129 : Nat) = 128 by decide), if_true]
  rw [ih, List.append_assoc]; rfl
theorem subs_back {ss : List ByteArray} (h : Fi.subsOk ss = true) : rdSubs no [] no (subEls ss.length 0 ss) = ss:=by
 unfold Fi.subsOk at h
 simp only [Bool.and_eq_true, decide_eq_true_eq, List.all_eq_true] at h
 obtain ⟨⟨hl, _⟩, hmid, _, _⟩:=h
 match ss, hl with
 | s :: r, hl =>
  have hl' : 2 ≤ r.length + 1:=hl
  have hrest:=fun x=>subs_rest (s :: r).length r 1 x [] (by omega) (by rw [List.length_cons]; omega) (by intro e; rw [e] at hl'; simp at hl') (fun q hq=>by
   have e2 : (s :: r).length - 1 = (r.length - 1) + 1:=by rw [List.length_cons]; omega
   rw [e2, List.take_succ_cons, List.drop_succ_cons, List.drop_zero] at hmid
   exact hmid q hq)
  rw [subEls]
  by_cases h0 : s.size = 0
  ·rw [if_pos h0, hrest, no_of h0]; rfl
  ·rw [if_neg h0, show partTag 0 (s :: r).length = 128 from rfl, txt, rdSubs]
   simp only [tagE, bodyE, if_true]
   rw [hrest]; rfl
theorem rdFils_map : ∀ ks : List El, rdFils ks = ks.map rdFil
 | []=>by simp [rdFils]
 | e :: r=>by rw [rdFils, rdFils_map r, List.map_cons]
theorem fil_back (f : Fil) : Fi.frm f = true → rdFil (filEl f) = f:=by
 refine Fi.ind (p:=fun f=>Fi.frm f = true → rdFil (filEl f) = f) ?_ f
 intro k a v ss ks ih hf
 rw [Fi.frm] at hf
 by_cases hk : Fi.hasK k = true
 ·rw [if_pos hk] at hf
  simp only [Bool.and_eq_true, decide_eq_true_eq] at hf
  obtain ⟨h3, ha, hv, hs, hks⟩:=hf
  rw [Fi.frms_all, List.all_eq_true] at hks
  have hk' : k = 1 ∨ k = 2 ∨ k = 3:=by unfold Fi.hasK at hk; simp only [decide_eq_true_eq] at hk; omega
  have hmap : (ks.map filEl).map rdFil = ks:=by
   rw [List.map_map]
   refine (List.map_congr_left (g:=id) fun f hfm=>?_).trans (List.map_id _)
   exact ih f hfm (hks f hfm)
  have hkk : filKind (filTag k) = k:=by rcases hk' with rfl | rfl | rfl <;> decide
  rw [filEl, if_pos hk', filEls_map, lst, rdFil, hkk, if_pos hk', rdFils_map, hmap, no_of ha, no_of hv, List.eq_nil_of_length_eq_zero hs]
 ·rw [if_neg hk] at hf
  simp only [Bool.and_eq_true, decide_eq_true_eq] at hf
  obtain ⟨h48, hty, hks, hrest⟩:=hf
  have hkn:=List.eq_nil_of_length_eq_zero hks
  subst hkn
  have hkk : filKind (filTag k) = k:=by
   have : k = 4 ∨ k = 5 ∨ k = 6 ∨ k = 7 ∨ k = 8:=by omega
   rcases this with rfl | rfl | rfl | rfl | rfl <;> decide
  rw [filEl, if_neg (by omega)]
  by_cases h7 : k = 7
  ·subst h7
   rw [if_pos rfl] at hrest
   simp only [Bool.and_eq_true, decide_eq_true_eq] at hrest
   rw [if_pos rfl, txt, rdFil, hkk, if_neg (by omega), if_pos rfl, no_of hrest.1, List.eq_nil_of_length_eq_zero hrest.2]
  rw [if_neg h7] at hrest ⊢
  by_cases h8 : k = 8
  ·subst h8
   rw [if_pos rfl] at hrest
   simp only [Bool.and_eq_true, decide_eq_true_eq] at hrest
   rw [if_pos rfl, lst, rdFil, hkk, if_neg (by omega), if_neg h7, if_pos rfl, no_of hrest.1]
   have h9:=subs_back hrest.2
   simp only [List.getD_cons_zero, List.getD_cons_succ, txt, lst, bodyE, kidsE, h9]
  ·rw [if_neg h8] at hrest
   simp only [Bool.and_eq_true, decide_eq_true_eq] at hrest
   rw [if_neg h8, lst, rdFil, hkk, if_neg (by omega), if_neg h7, if_neg h8, List.eq_nil_of_length_eq_zero hrest.2]
   simp only [List.getD_cons_zero, List.getD_cons_succ, txt, bodyE]
theorem rdNum {n : Int} (h0 : -9223372036854775808 ≤ n) (h1 : n ≤ 9223372036854775807) : (rdI (bs (strOfNums (intB n)))).getD 0 = n:=by
 have h2:=rdI_int n (few_8 n h0 h1)
 have h3 : bs (strOfNums (intB n)) = bytesI (intB n):=by show (strOfNums (intB n)).data.toList = _; rw [strOfNums_data]; rfl
 rw [h3, h2]; rfl
theorem texts_back (t : Nat) (l : List ByteArray) : (l.map (txt t)).map bodyE = l:=by
 rw [List.map_map]
 exact (List.map_congr_left (g:=id) fun f hfm=>rfl).trans (List.map_id _)
theorem attr_back {d : Mo} (h : d.kind = 1) : rdAttr (attrEl d) = d:=by
 obtain ⟨k, a, v⟩:=d
 simp only at h
 subst h
 show Mo.mk 1 a ((v.map (txt 4)).map bodyE) = _
 rw [texts_back]
theorem mod_back {d : Mo} (h : okMo d) : rdMod (modEl d) = d:=by
 obtain ⟨k, a, v⟩:=d
 have h1 : 1 ≤ k:=h.1
 have h3 : k ≤ 3:=h.2.1
 show Mo.mk ((rdI (bs (strOfNums (intB (k - 1))))).getD 0 + 1) a ((v.map (txt 4)).map bodyE) = _
 rw [texts_back, rdNum (by omega) (by omega), Int.sub_add_cancel]
theorem opTag_back {m : Mg} (h : isM m = true) : opOf (opTag m.op m.ref) = (m.op, m.ref):=by
 have ho:=isM_op h
 by_cases h9 : m.op = 9
 ·obtain ⟨q1, q2, _⟩:=formed_result h9 (isM_open h).2.2.2.1
  have : m.ref = 1 ∨ m.ref = 3 ∨ m.ref = 4 ∨ m.ref = 5 ∨ m.ref = 6 ∨ m.ref = 7 ∨ m.ref = 8:=by omega
  rw [h9]
  rcases this with e | e | e | e | e | e | e <;> rw [e] <;> decide
 ·rw [isM_ref h h9]
  have : m.op = 1 ∨ m.op = 2 ∨ m.op = 3 ∨ m.op = 4 ∨ m.op = 5 ∨ m.op = 6 ∨ m.op = 7 ∨ m.op = 8 ∨ m.op = 10:=by omega
  rcases this with e | e | e | e | e | e | e | e | e <;> rw [e] <;> decide
theorem flag_back (b : Bool) : (decide ((bs (boolB b)).length = 1) && decide (bs (boolB b) ≠ [0])) = b:=by cases b <;> decide
theorem tagE_op (m : Mg) : tagE (opEl m) = opTag m.op m.ref:=by unfold opEl; split <;> rfl
theorem map_back {α β : Type} {f : α → β} {g : β → α} : ∀ {l : List α}, (∀ d ∈ l, g (f d) = d) → (l.map f).map g = l
 | [], _=>rfl
 | x :: l, h=>by rw [List.map_cons, List.map_cons, h x (by simp), map_back fun d hd=>h d (by simp [hd])]
theorem msg_back {m : Mg} (h : isM m = true) : rdM (msgEl m) = m:=by
 obtain ⟨i0, i1, hfo, hf, _⟩:=isM_open h
 have ho:=isM_op h
 have htag:=opTag_back h
 have hid : numAt (msgEl m) 0 = m.id:=rdNum (n:=m.id) (by omega) (by omega)
 have hk : kidE (msgEl m) 1 = opEl m:=rfl
 unfold rdM
 simp only [hid, hk, tagE_op, htag]
 have hsh : m = shapeR m:=by
  rw [← isR_isM] at h
  unfold isR at h
  simp only [Bool.and_eq_true, eqM_eq] at h
  exact h.2.2.1
 have num_at : ∀ (t : Nat) (n : Int), -9223372036854775808 ≤ n → n ≤ 9223372036854775807 → (rdI (bs (bodyE (num t n)))).getD 0 = n:=fun t n a b=>rdNum a b
 have hop : ∀ l, parts m = l → (m.op ≠ 2 ∧ m.op ≠ 6) → opEl m = lst (opTag m.op m.ref) l:=fun l e hne=>by unfold opEl; rw [if_neg (by omega), e]
 by_cases h1 : m.op = 1
 ·have hv:=formed_bind h1 hf
  have e1:=hop _ (show parts m = [num 2 m.ver, txt 4 m.dn, txt 128 m.pass] by unfold parts; rw [if_pos h1]) (by omega)
  rw [if_pos h1, e1]
  simp only [numAt, textAt, kidE, kidsE, lst, List.getD_cons_zero, List.getD_cons_succ]
  rw [num_at _ _ (by omega) (by omega)]
  conv=>rhs; rw [hsh]
  unfold shapeR
  rw [if_pos h1, isM_ref h (by omega)]
  rfl
 rw [if_neg h1]
 by_cases h3 : m.op = 3
 ·obtain ⟨q1, q2, q3, q4⟩:=formed_search h3 hf
  have e1:=hop _ (show parts m = [txt 4 m.dn, num 10 m.scope, num 10 0, num 2 m.size, num 2 0, flg false, filEl m.fil, lst 48 (m.wants.map (txt 4))] by unfold parts; rw [if_neg h1, if_pos h3]) (by omega)
  rw [if_pos h3, e1]
  simp only [numAt, textAt, kidE, kidsE, lst, List.getD_cons_zero, List.getD_cons_succ]
  rw [num_at _ _ (by omega) (by omega), num_at _ _ (by omega) (by omega), fil_back _ (fil_open q3).1, texts_back]
  conv=>rhs; rw [hsh]
  unfold shapeR
  rw [if_neg h1, if_pos h3, isM_ref h (by omega)]
  rfl
 rw [if_neg h3]
 by_cases h4 : m.op = 4
 ·obtain ⟨q1, q2, _⟩:=formed_mods (Or.inl h4) hf
  have e1:=hop _ (show parts m = [txt 4 m.dn, lst 48 (m.mods.map modEl)] by unfold parts; rw [if_neg h1, if_neg h3, if_pos h4]) (by omega)
  rw [if_pos h4, e1]
  simp only [textAt, kidE, kidsE, lst, List.getD_cons_zero, List.getD_cons_succ]
  rw [map_back fun d hd=>mod_back (q2 d hd)]
  conv=>rhs; rw [hsh]
  unfold shapeR
  rw [if_neg h1, if_neg h3, if_pos (Or.inl h4), isM_ref h (by omega)]
  rfl
 rw [if_neg h4]
 by_cases h5 : m.op = 5 ∨ m.op = 10
 ·obtain ⟨q1, q2, q3⟩:=formed_mods (Or.inr h5) hf
  have e1:=hop _ (show parts m = [txt 4 m.dn, lst 48 (m.mods.map attrEl)] by unfold parts; rw [if_neg h1, if_neg h3, if_neg h4, if_pos h5]) (by omega)
  rw [if_pos h5, e1]
  simp only [textAt, kidE, kidsE, lst, List.getD_cons_zero, List.getD_cons_succ]
  rw [map_back fun d hd=>attr_back (q3 (by omega) d hd)]
  conv=>rhs; rw [hsh]
  unfold shapeR
  rw [if_neg h1, if_neg h3, if_pos (Or.inr h5), isM_ref h (by omega)]
  rfl
 rw [if_neg h5]
 by_cases h6 : m.op = 6
 ·have e1 : opEl m = txt (opTag m.op m.ref) m.dn:=by unfold opEl; rw [if_pos (Or.inr h6)]
  rw [if_pos h6, e1]
  conv=>rhs; rw [hsh]
  unfold shapeR
  rw [if_neg h1, if_neg h3, if_neg (by omega), if_pos h6, isM_ref h (by omega)]
  rfl
 rw [if_neg h6]
 by_cases h7 : m.op = 7
 ·have e1:=hop _ (show parts m = [txt 4 m.dn, txt 4 m.rdn, flg m.del] ++ (if m.has then [txt 128 m.sup] else []) by unfold parts; rw [if_neg h1, if_neg h3, if_neg h4, if_neg h5, if_pos h7]) (by omega)
  rw [if_pos h7, e1]
  conv=>rhs; rw [hsh]
  unfold shapeR
  rw [if_neg h1, if_neg h3, if_neg (show ¬(m.op = 4 ∨ m.op = 5 ∨ m.op = 10) by omega), if_neg h6, if_pos h7, isM_ref h (by omega)]
  have hb:=flag_back m.del
  cases hs : m.has with
  | false =>
   simp only [Bool.false_eq_true, if_false, List.append_nil, textAt, flagAt, kidE, kidsE, lst, List.getD_cons_zero, List.getD_cons_succ, flg, txt, bodyE, hb]
   rfl
  | true =>
   simp only [if_true, List.cons_append, List.nil_append, textAt, flagAt, kidE, kidsE, lst, List.getD_cons_zero, List.getD_cons_succ, flg, txt, bodyE, hb]
   rfl
 rw [if_neg h7]
 by_cases h8 : m.op = 8
 ·have e1:=hop _ (show parts m = [txt 4 m.dn, lst 48 [txt 4 m.attr, txt 4 m.value]] by unfold parts; rw [if_neg h1, if_neg h3, if_neg h4, if_neg h5, if_neg h7, if_pos h8]) (by omega)
  rw [if_pos h8, e1]
  conv=>rhs; rw [hsh]
  unfold shapeR
  rw [if_neg h1, if_neg h3, if_neg (by omega), if_neg h6, if_neg h7, if_pos h8, isM_ref h (by omega)]
  rfl
 rw [if_neg h8]
 by_cases h9 : m.op = 9
 ·have hv:=formed_result h9 hf
  have e1:=hop _ (show parts m = [num 10 m.code, txt 4 m.matched, txt 4 no] by unfold parts; rw [if_neg h1, if_neg h3, if_neg h4, if_neg h5, if_neg h7, if_neg h8]) (by omega)
  rw [if_pos h9, e1]
  simp only [numAt, textAt, kidE, kidsE, lst, List.getD_cons_zero, List.getD_cons_succ]
  rw [num_at _ _ (by omega) (by omega)]
  conv=>rhs; rw [hsh]
  unfold shapeR
  rw [if_neg h1, if_neg h3, if_neg (by omega), if_neg h6, if_neg h7, if_neg h8, if_pos h9]
  rfl
 ·rw [if_neg h9]
  conv=>rhs; rw [hsh]
  unfold shapeR
  rw [if_neg h1, if_neg h3, if_neg (by omega), if_neg h6, if_neg h7, if_neg h8, if_neg h9, isM_ref h h9]
  rfl
theorem dec_enc {m : Mg} {s : List UInt8} (h : encM m = (s, 0)) : decM s = (m, 0):=by
 have h0:=h
 unfold encM at h
 split at h
 ·injection h with h1 h2; cases h2
 ·rename_i h1
  split at h
  ·injection h with h1 h2; cases h2
  ·rename_i h4
   split at h
   ·injection h with h1 h2; cases h2
   ·rename_i h2
    have hm : isM m = true:=by simpa using h1
    injection h with hs _
    have hg:=(msg_good hm).1
    have hlen:=enc_len (msgEl m)
    have hb:=back_any (msgEl m) hg.1 hg.2.1 (by omega) 20 (by omega) [] 0
    rw [List.append_nil, hs] at hb
    unfold decM
    rw [hb]
    simp only [msg_back hm, h0, if_true]
theorem encM_bad {m : Mg} (h : (encM m).2 ≠ 0) : (encM m).1 = []:=by
 unfold encM at h ⊢
 split
 ·rfl
 ·rename_i h1
  rw [if_neg h1] at h
  split
  ·rfl
  ·rename_i h2
   rw [if_neg h2] at h
   split
   ·rfl
   ·rename_i h3
    rw [if_neg h3] at h
    exact absurd rfl h
end Go.Proofs.YtconghaebebncaaGreatDoor.Ms
namespace Go.Proofs.YtconghaebebncaaGreatDoor.Ms
open Go.RowKit
section
variable {w : World} {P : Nat → Prop} {m : Mg} {cs : Array Value}
theorem MAt.set_op (h : MAt w P m cs) (x : Int) : MAt w P { m with op:=x } (cs.setIfInBounds 1 (.int .i64 x)):=by
 obtain ⟨x0, x1, x2, x3, x4, W, wc, M, mc, ds, rfl, hF, hW, hM, hT⟩:=h
 exact ⟨x0, x1, x2, x3, x4, W, wc, M, mc, ds, rfl, hF, hW, hM, hT⟩
theorem MAt.set_ref (h : MAt w P m cs) (x : Int) : MAt w P { m with ref:=x } (cs.setIfInBounds 2 (.int .i64 x)):=by
 obtain ⟨x0, x1, x2, x3, x4, W, wc, M, mc, ds, rfl, hF, hW, hM, hT⟩:=h
 exact ⟨x0, x1, x2, x3, x4, W, wc, M, mc, ds, rfl, hF, hW, hM, hT⟩
theorem MAt.set_ver (h : MAt w P m cs) (x : Int) : MAt w P { m with ver:=x } (cs.setIfInBounds 4 (.int .i64 x)):=by
 obtain ⟨x0, x1, x2, x3, x4, W, wc, M, mc, ds, rfl, hF, hW, hM, hT⟩:=h
 exact ⟨x0, x1, x2, x3, x4, W, wc, M, mc, ds, rfl, hF, hW, hM, hT⟩
theorem MAt.set_scope (h : MAt w P m cs) (x : Int) : MAt w P { m with scope:=x } (cs.setIfInBounds 6 (.int .i64 x)):=by
 obtain ⟨x0, x1, x2, x3, x4, W, wc, M, mc, ds, rfl, hF, hW, hM, hT⟩:=h
 exact ⟨x0, x1, x2, x3, x4, W, wc, M, mc, ds, rfl, hF, hW, hM, hT⟩
theorem MAt.set_size (h : MAt w P m cs) (x : Int) : MAt w P { m with size:=x } (cs.setIfInBounds 7 (.int .i64 x)):=by
 obtain ⟨x0, x1, x2, x3, x4, W, wc, M, mc, ds, rfl, hF, hW, hM, hT⟩:=h
 exact ⟨x0, x1, x2, x3, x4, W, wc, M, mc, ds, rfl, hF, hW, hM, hT⟩
theorem MAt.set_code (h : MAt w P m cs) (x : Int) : MAt w P { m with code:=x } (cs.setIfInBounds 21 (.int .i64 x)):=by
 obtain ⟨x0, x1, x2, x3, x4, W, wc, M, mc, ds, rfl, hF, hW, hM, hT⟩:=h
 exact ⟨x0, x1, x2, x3, x4, W, wc, M, mc, ds, rfl, hF, hW, hM, hT⟩
theorem MAt.set_del (h : MAt w P m cs) (x : Bool) : MAt w P { m with del:=x } (cs.setIfInBounds 16 (.bool x)):=by
 obtain ⟨x0, x1, x2, x3, x4, W, wc, M, mc, ds, rfl, hF, hW, hM, hT⟩:=h
 exact ⟨x0, x1, x2, x3, x4, W, wc, M, mc, ds, rfl, hF, hW, hM, hT⟩
theorem MAt.set_has (h : MAt w P m cs) (x : Bool) : MAt w P { m with has:=x } (cs.setIfInBounds 17 (.bool x)):=by
 obtain ⟨x0, x1, x2, x3, x4, W, wc, M, mc, ds, rfl, hF, hW, hM, hT⟩:=h
 exact ⟨x0, x1, x2, x3, x4, W, wc, M, mc, ds, rfl, hF, hW, hM, hT⟩
theorem MAt.set_dn (h : MAt w P m cs) (x : ByteArray) (hx : x.size ≤ maxLen) : MAt w P { m with dn:=x } (cs.setIfInBounds 3 (.string x)):=by
 obtain ⟨x0, x1, x2, x3, x4, W, wc, M, mc, ds, rfl, hF, hW, hM, hT⟩:=h
 exact ⟨x0, x1, x2, x3, x4, W, wc, M, mc, ds, rfl, hF, hW, hM, hx, hT.2.1, hT.2.2.1, hT.2.2.2.1, hT.2.2.2.2.1, hT.2.2.2.2.2.1, hT.2.2.2.2.2.2⟩
theorem MAt.set_pass (h : MAt w P m cs) (x : ByteArray) (hx : x.size ≤ maxLen) : MAt w P { m with pass:=x } (cs.setIfInBounds 5 (.string x)):=by
 obtain ⟨x0, x1, x2, x3, x4, W, wc, M, mc, ds, rfl, hF, hW, hM, hT⟩:=h
 exact ⟨x0, x1, x2, x3, x4, W, wc, M, mc, ds, rfl, hF, hW, hM, hT.1, hx, hT.2.2.1, hT.2.2.2.1, hT.2.2.2.2.1, hT.2.2.2.2.2.1, hT.2.2.2.2.2.2⟩
theorem MAt.set_rdn (h : MAt w P m cs) (x : ByteArray) (hx : x.size ≤ maxLen) : MAt w P { m with rdn:=x } (cs.setIfInBounds 15 (.string x)):=by
 obtain ⟨x0, x1, x2, x3, x4, W, wc, M, mc, ds, rfl, hF, hW, hM, hT⟩:=h
 exact ⟨x0, x1, x2, x3, x4, W, wc, M, mc, ds, rfl, hF, hW, hM, hT.1, hT.2.1, hx, hT.2.2.2.1, hT.2.2.2.2.1, hT.2.2.2.2.2.1, hT.2.2.2.2.2.2⟩
theorem MAt.set_sup (h : MAt w P m cs) (x : ByteArray) (hx : x.size ≤ maxLen) : MAt w P { m with sup:=x } (cs.setIfInBounds 18 (.string x)):=by
 obtain ⟨x0, x1, x2, x3, x4, W, wc, M, mc, ds, rfl, hF, hW, hM, hT⟩:=h
 exact ⟨x0, x1, x2, x3, x4, W, wc, M, mc, ds, rfl, hF, hW, hM, hT.1, hT.2.1, hT.2.2.1, hx, hT.2.2.2.2.1, hT.2.2.2.2.2.1, hT.2.2.2.2.2.2⟩
theorem MAt.set_attr (h : MAt w P m cs) (x : ByteArray) (hx : x.size ≤ maxLen) : MAt w P { m with attr:=x } (cs.setIfInBounds 19 (.string x)):=by
 obtain ⟨x0, x1, x2, x3, x4, W, wc, M, mc, ds, rfl, hF, hW, hM, hT⟩:=h
 exact ⟨x0, x1, x2, x3, x4, W, wc, M, mc, ds, rfl, hF, hW, hM, hT.1, hT.2.1, hT.2.2.1, hT.2.2.2.1, hx, hT.2.2.2.2.2.1, hT.2.2.2.2.2.2⟩
theorem MAt.set_value (h : MAt w P m cs) (x : ByteArray) (hx : x.size ≤ maxLen) : MAt w P { m with value:=x } (cs.setIfInBounds 20 (.string x)):=by
 obtain ⟨x0, x1, x2, x3, x4, W, wc, M, mc, ds, rfl, hF, hW, hM, hT⟩:=h
 exact ⟨x0, x1, x2, x3, x4, W, wc, M, mc, ds, rfl, hF, hW, hM, hT.1, hT.2.1, hT.2.2.1, hT.2.2.2.1, hT.2.2.2.2.1, hx, hT.2.2.2.2.2.2⟩
theorem MAt.set_matched (h : MAt w P m cs) (x : ByteArray) (hx : x.size ≤ maxLen) : MAt w P { m with matched:=x } (cs.setIfInBounds 22 (.string x)):=by
 obtain ⟨x0, x1, x2, x3, x4, W, wc, M, mc, ds, rfl, hF, hW, hM, hT⟩:=h
 exact ⟨x0, x1, x2, x3, x4, W, wc, M, mc, ds, rfl, hF, hW, hM, hT.1, hT.2.1, hT.2.2.1, hT.2.2.2.1, hT.2.2.2.2.1, hT.2.2.2.2.2.1, hx⟩
theorem MAt.set_wants (h : MAt w P m cs) (l : List ByteArray) (A : Option Addr) (c : Nat) (hA : Fi.StrsAt w P A l) (h1 : l.length ≤ maxLen) (h2 : l.length ≤ c) (h3 : ∀ s ∈ l, s.size ≤ maxLen) : MAt w P { m with wants:=l } (cs.setIfInBounds 13 (.slice A l.length c)):=by
 obtain ⟨x0, x1, x2, x3, x4, W, wc, M, mc, ds, rfl, hF, hW, hM, hT⟩:=h
 exact ⟨x0, x1, x2, x3, x4, A, c, M, mc, ds, rfl, hF, ⟨hA, h1, h2, h3⟩, hM, hT⟩
theorem MAt.set_mods (h : MAt w P m cs) (l : List Mo) (A : Option Addr) (c : Nat) (dd : Nat → List Value) (hA : MosAt w P A l dd) (h1 : l.length ≤ maxLen) (h2 : l.length ≤ c) : MAt w P { m with mods:=l } (cs.setIfInBounds 14 (.slice A l.length c)):=by
 obtain ⟨x0, x1, x2, x3, x4, W, wc, M, mc, ds, rfl, hF, hW, hM, hT⟩:=h
 exact ⟨x0, x1, x2, x3, x4, W, wc, A, c, dd, rfl, hF, hW, ⟨hA, h1, h2⟩, hT⟩
theorem MAt.set_fil (h : MAt w P m cs) (f : Fil) (y0 y1 y2 y3 y4 : Value) (hf : Fi.Lies w P f [y0, y1, y2, y3, y4]) :
  MAt w P { m with fil:=f } (((((cs.setIfInBounds 8 y0).setIfInBounds 9 y1).setIfInBounds 10 y2).setIfInBounds 11 y3).setIfInBounds 12 y4):=by
 obtain ⟨x0, x1, x2, x3, x4, W, wc, M, mc, ds, rfl, hF, hW, hM, hT⟩:=h
 exact ⟨y0, y1, y2, y3, y4, W, wc, M, mc, ds, rfl, hf, hW, hM, hT⟩
end
theorem id_cells (x : Int) : ∃ (cs zs : Array Value), zs.size = 23 ∧ (∀ (w : World) (P : Nat → Prop), MAt w P { zero with id:=x } cs) ∧ (∀ (w : World) (P : Nat → Prop), MAt w P zero zs) ∧
  zs = #[.int .i64 0, .int .i64 0, .int .i64 0, .string ⟨#[]⟩, .int .i64 0, .string ⟨#[]⟩, .int .i64 0, .int .i64 0, .int .i64 0, .string ⟨#[]⟩, .string ⟨#[]⟩, .slice none 0 0, .slice none 0 0, .slice none 0 0, .slice none 0 0, .string ⟨#[]⟩, .bool false, .bool false, .string ⟨#[]⟩, .string ⟨#[]⟩, .string ⟨#[]⟩, .int .i64 0, .string ⟨#[]⟩] ∧
  cs = #[.int .i64 x, .int .i64 0, .int .i64 0, .string ⟨#[]⟩, .int .i64 0, .string ⟨#[]⟩, .int .i64 0, .int .i64 0, .int .i64 0, .string ⟨#[]⟩, .string ⟨#[]⟩, .slice none 0 0, .slice none 0 0, .slice none 0 0, .slice none 0 0, .string ⟨#[]⟩, .bool false, .bool false, .string ⟨#[]⟩, .string ⟨#[]⟩, .string ⟨#[]⟩, .int .i64 0, .string ⟨#[]⟩] :=
 ⟨_, _, rfl,
  fun w P=>⟨_, _, _, _, _, none, 0, none, 0, fun _=>[], rfl, lies_noF w P, ⟨Fi.StrsAt.nil _ _ _, by simp [zero], by simp [zero], by simp [zero]⟩, ⟨MosAt.nil _ _ _ _, by simp [zero], by simp [zero]⟩, by refine ⟨?_, ?_, ?_, ?_, ?_, ?_, ?_⟩ <;> exact Nat.zero_le _⟩,
  fun w P=>⟨_, _, _, _, _, none, 0, none, 0, fun _=>[], rfl, lies_noF w P, ⟨Fi.StrsAt.nil _ _ _, by simp [zero], by simp [zero], by simp [zero]⟩, ⟨MosAt.nil _ _ _ _, by simp [zero], by simp [zero]⟩, by refine ⟨?_, ?_, ?_, ?_, ?_, ?_, ?_⟩ <;> exact Nat.zero_le _⟩, rfl, rfl⟩
theorem wpList_mark {P : Program} {w : World} {ops : Array Oper} {rest : List Oper} {o : Oper} {a : Act} {Q : Exit → Act → World → Prop} (q : Op) (hq : o.op = q) (h : wpList P ops Q (o :: rest) a w) : wpList P ops Q (o :: rest) a w:=h
theorem wpList_gives {P : Program} {w : World} {ops : Array Oper} {rest : List Oper} {o : Oper} {a : Act} {Q : Exit → Act → World → Prop} (hgd : o.guard = none) (q : Op) (hq : o.op = q) (v : Value) (hrun : (execOp a.eval o).run P w = .ok (.value v) w) (h : wpList P ops Q rest (a.put o.dst v) w) : wpList P ops Q (o :: rest) a w :=
 wpList_plain hgd fun K hK=>by
  unfold Oper.wp
  rw [hrun, Oper.upon_value]
  exact hK _ _ h
end Go.Proofs.YtconghaebebncaaGreatDoor.Ms
namespace Go.Proofs.YtconghaebebncaaGreatDoor.Ms
open _root_.Go.Proofs.YtconghaebebncaaGreatDoor.Be
theorem encM_len {m : Mg} {s : List UInt8} (h : encM m = (s, 0)) : s.length ≤ 4000:=by
 unfold encM at h
 split at h
 ·simp at h
 ·split at h
  ·simp at h
  ·split at h
   ·simp at h
   ·injection h with h1 _
    rw [← h1]
    omega
end Go.Proofs.YtconghaebebncaaGreatDoor.Ms
