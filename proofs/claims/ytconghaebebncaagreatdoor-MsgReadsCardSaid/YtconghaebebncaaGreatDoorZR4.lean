import Derived.Test.YtconghaebebncaaGreatDoorZR3
set_option linter.unusedVariables false
set_option maxRecDepth 100000
namespace Go.Proofs.YtconghaebebncaaGreatDoor.Ms
open _root_.Go.Proofs.YtconghaebebncaaGreatDoor.Nm _root_.Go.Proofs.YtconghaebebncaaGreatDoor.Be
theorem eqF_eq (f : Fil) : ∀ g, Fi.eqF f g = true ↔ f = g:=by
 refine Fi.ind (p:=fun f=>∀ g, Fi.eqF f g = true ↔ f = g) ?_ f
 intro k a v ss ks ih g
 obtain ⟨k', a', v', ss', ks'⟩:=g
 have key : ∀ l : List Fil, (∀ f ∈ l, ∀ g, Fi.eqF f g = true ↔ f = g) → ∀ l', Fi.eqFs l l' = true ↔ l = l':=by
  intro l
  induction l with
  | nil=>intro _ l'; cases l' <;> simp [Fi.eqFs]
  | cons x l ihl =>
   intro hl l'
   cases l' with
   | nil=>simp [Fi.eqFs]
   | cons y l' =>
    rw [Fi.eqFs, Bool.and_eq_true, hl x (by simp), ihl (fun f hf=>hl f (by simp [hf])), List.cons.injEq]
 rw [Fi.eqF]
 simp only [Bool.and_eq_true, decide_eq_true_eq, key ks ih, Fil.mk.injEq]
theorem eqMo_eq (a b : Mo) : eqMo a b = true ↔ a = b:=by
 obtain ⟨k, t, v⟩:=a
 obtain ⟨k', t', v'⟩:=b
 simp only [eqMo, Bool.and_eq_true, decide_eq_true_eq, Mo.mk.injEq]
theorem eqMos_eq : ∀ a b : List Mo, eqMos a b = true ↔ a = b
 | [], []=>by simp [eqMos]
 | [], _ :: _=>by simp [eqMos]
 | _ :: _, []=>by simp [eqMos]
 | x :: a, y :: b=>by rw [eqMos, Bool.and_eq_true, eqMo_eq, eqMos_eq a b, List.cons.injEq]
theorem eqMos_len : ∀ {a b : List Mo}, a.length ≠ b.length → eqMos a b = false
 | [], [], h=>absurd rfl h
 | [], _ :: _, _=>by simp [eqMos]
 | _ :: _, [], _=>by simp [eqMos]
 | x :: a, y :: b, h=>by simp [eqMos, eqMos_len (a:=a) (b:=b) (by simpa using h)]
theorem eqMos_drop {a b : List Mo} {i : Nat} (h : i < a.length) (h' : i < b.length) : eqMos (a.drop i) (b.drop i) = (eqMo a[i] b[i] && eqMos (a.drop (i + 1)) (b.drop (i + 1))):=by
 rw [List.drop_eq_getElem_cons h, List.drop_eq_getElem_cons h', eqMos]
theorem eqM_eq (a b : Mg) : eqM a b = true ↔ a = b:=by
 obtain ⟨a1, a2, a3, a4, a5, a6, a7, a8, a9, a10, a11, a12, a13, a14, a15, a16, a17, a18, a19⟩:=a
 obtain ⟨b1, b2, b3, b4, b5, b6, b7, b8, b9, b10, b11, b12, b13, b14, b15, b16, b17, b18, b19⟩:=b
 simp only [eqM, numsM, textsM, Bool.and_eq_true, decide_eq_true_eq, eqF_eq, eqMos_eq, Mg.mk.injEq, List.cons.injEq, and_true]
 constructor
 ·rintro ⟨⟨h1, h2, h3, h4, h5, h6, h7⟩, ⟨h8, h9, h10, h11, h12, h13, h14⟩, h15, h16, h17, h18, h19⟩
  exact ⟨h1, h2, h3, h8, h4, h9, h5, h6, h17, h18, h19, h10, h15, h16, h11, h12, h13, h7, h14⟩
 ·rintro ⟨h1, h2, h3, h8, h4, h9, h5, h6, h17, h18, h19, h10, h15, h16, h11, h12, h13, h7, h14⟩
  exact ⟨⟨h1, h2, h3, h4, h5, h6, h7⟩, ⟨h8, h9, h10, h11, h12, h13, h14⟩, h15, h16, h17, h18, h19⟩
theorem eqM_self (m : Mg) : eqM m m = true:=(eqM_eq m m).2 rfl
def noModR (any : Bool) (d : Mo) : Bool:=decide (d.kind < 1) || (decide (3 < d.kind) || ((!any && decide (d.kind ≠ 1)) || (isLong d.attr || !isList d.vals)))
def modsR (l : List Mo) (any : Bool) : Bool:=!l.any (noModR any) && decide (l.length ≤ 12)
def shapeR (m : Mg) : Mg :=
 let z : Mg:={ zero with id:=m.id, op:=m.op }
 if m.op = 1 then { z with ver:=m.ver, dn:=m.dn, pass:=m.pass }
 else if m.op = 3 then { z with dn:=m.dn, scope:=m.scope, size:=m.size, fil:=m.fil, wants:=m.wants }
 else if m.op = 4 ∨ m.op = 5 ∨ m.op = 10 then { z with dn:=m.dn, mods:=m.mods }
 else if m.op = 6 then { z with dn:=m.dn }
 else if m.op = 7 then { z with dn:=m.dn, rdn:=m.rdn, del:=m.del, has:=m.has, sup:=if m.has then m.sup else no }
 else if m.op = 8 then { z with dn:=m.dn, attr:=m.attr, value:=m.value }
 else if m.op = 9 then { z with ref:=m.ref, code:=m.code, matched:=m.matched }
 else z
def lastR (m : Mg) : Bool :=
 if m.op = 1 then within m.ver 1 127
 else if m.op = 3 then within m.scope 0 2 && (within m.size 0 2147483647 && Fi.isF m.fil)
 else if m.op = 9 then within m.ref 1 8 && (decide (m.ref ≠ 2) && within m.code 0 127)
 else true
def isR (m : Mg) : Bool :=
 within m.op 1 10 && (within m.id 0 2147483647 && (eqM m (shapeR m) && (isList (textsM m) && (isList m.wants && (modsR m.mods (decide (m.op = 4)) && lastR m)))))
theorem noModR_true (d : Mo) : noModR true d = noMod d:=by
 unfold noModR noMod within
 rw [Bool.eq_iff_iff]
 simp only [Bool.or_eq_true, decide_eq_true_eq, Bool.not_true, Bool.false_and, Bool.false_eq_true, false_or, Bool.not_eq_true', decide_eq_false_iff_not]
 constructor
 ·rintro (h | h | h)
  ·exact Or.inl (by omega)
  ·exact Or.inl (by omega)
  ·exact Or.inr h
 ·rintro (h | h)
  ·by_cases h1 : d.kind < 1
   ·exact Or.inl h1
   ·exact Or.inr (Or.inl (by omega))
  ·exact Or.inr (Or.inr h)
theorem noModR_false (d : Mo) : noModR false d = (takes d || noMod d):=by
 unfold noModR noMod within takes
 rw [Bool.eq_iff_iff]
 simp only [Bool.or_eq_true, decide_eq_true_eq, Bool.not_false, Bool.true_and, Bool.not_eq_true', decide_eq_false_iff_not]
 constructor
 ·rintro (h | h | h | h)
  ·exact Or.inl (by omega)
  ·exact Or.inl (by omega)
  ·exact Or.inl h
  ·exact Or.inr (Or.inr h)
 ·rintro (h | h | h)
  ·exact Or.inr (Or.inr (Or.inl h))
  ·by_cases h1 : d.kind < 1
   ·exact Or.inl h1
   ·exact Or.inr (Or.inl (by omega))
  ·exact Or.inr (Or.inr (Or.inr h))
theorem any_or {α : Type} (p q : α → Bool) : ∀ l : List α, l.any (fun d=>p d || q d) = (l.any p || l.any q)
 | []=>rfl
 | x :: l=>by
  rw [List.any_cons, List.any_cons, List.any_cons, any_or p q l]
  cases p x <;> cases q x <;> cases l.any p <;> rfl
theorem modsR_true (l : List Mo) : modsR l true = (decide (l.length ≤ 12) && !l.any noMod):=by
 unfold modsR
 rw [show noModR true = noMod from funext noModR_true, Bool.and_comm]
theorem modsR_false (l : List Mo) : modsR l false = (!l.any takes && (decide (l.length ≤ 12) && !l.any noMod)):=by
 unfold modsR
 rw [show noModR false = (fun d=>takes d || noMod d) from funext noModR_false, any_or]
 cases l.any takes <;> cases l.any noMod <;> cases decide (l.length ≤ 12) <;> rfl
theorem isList_texts (m : Mg) : isList (textsM m) = areShort (textsM m):=by
 unfold isList
 rw [decide_eq_true (by simp [textsM]), Bool.true_and]
theorem isList_nil : isList [] = true:=by decide
theorem mods_nil (any : Bool) : modsR [] any = true:=by cases any <;> decide
theorem isR_of {m : Mg} (he : m = shapeR m ↔ foreign m = zero) (hop : within m.op 1 10 = true)
  (hf : m = shapeR m → (isList m.wants = true ∧ modsR m.mods (decide (m.op = 4)) = true ∧ lastR m = true ↔ formed m = true)) : isR m = isM m:=by
 unfold isR isM
 rw [isList_texts, Bool.eq_iff_iff]
 simp only [Bool.and_eq_true, eqM_eq]
 rw [hop]
 constructor
 ·rintro ⟨_, h2, h3, h4, h5, h6, h7⟩
  exact ⟨h2, he.1 h3, (hf h3).1 ⟨h5, h6, h7⟩, h4⟩
 ·rintro ⟨h2, h3, h5, h4⟩
  have h3':=he.2 h3
  obtain ⟨q1, q2, q3⟩:=(hf h3').2 h5
  exact ⟨rfl, h2, h3', h4, q1, q2, q3⟩
theorem isR_isM (m : Mg) : isR m = isM m:=by
 by_cases h : 1 ≤ m.op ∧ m.op ≤ 10
 ·obtain ⟨a1, a2, a3, a4, a5, a6, a7, a8, a9, a10, a11, a12, a13, a14, a15, a16, a17, a18, a19⟩:=m
  simp only at h
  have hc : a2 = 1 ∨ a2 = 2 ∨ a2 = 3 ∨ a2 = 4 ∨ a2 = 5 ∨ a2 = 6 ∨ a2 = 7 ∨ a2 = 8 ∨ a2 = 9 ∨ a2 = 10:=by omega
  have n0 : ∀ l : List ByteArray, l = [] → isList l = true:=fun l e=>by rw [e]; exact isList_nil
  have m0 : ∀ (l : List Mo) (b : Bool), l = [] → modsR l b = true:=fun l b e=>by rw [e]; exact mods_nil b
  rcases hc with rfl | rfl | rfl | rfl | rfl | rfl | rfl | rfl | rfl | rfl
  ·refine isR_of (by simp [shapeR, foreign, zero]) rfl (fun e=>?_)
   all_goals simp [shapeR, zero] at e
   all_goals simp [formed, lastR, n0 a10 (by simp [e]), m0 a11 _ (by simp [e])]
  ·refine isR_of (by simp [shapeR, foreign, zero]) rfl (fun e=>?_)
   all_goals simp [shapeR, zero] at e
   all_goals simp [formed, lastR, n0 a10 (by simp [e]), m0 a11 _ (by simp [e])]
  ·refine isR_of (by simp [shapeR, foreign, zero]) rfl (fun e=>?_)
   all_goals simp [shapeR, zero] at e
   all_goals simp [formed, lastR, m0 a11 _ (by simp [e])]
   constructor
   ·rintro ⟨q1, q2, q3, q4⟩; exact ⟨q2, q3, q4, q1⟩
   ·rintro ⟨q2, q3, q4, q1⟩; exact ⟨q1, q2, q3, q4⟩
  ·refine isR_of (by simp [shapeR, foreign, zero]) rfl (fun e=>?_)
   all_goals simp [shapeR, zero] at e
   all_goals simp [formed, lastR, n0 a10 (by simp [e]), modsR_true]
  ·refine isR_of (by simp [shapeR, foreign, zero]) rfl (fun e=>?_)
   all_goals simp [shapeR, zero] at e
   all_goals simp [formed, lastR, n0 a10 (by simp [e]), modsR_false]
  ·refine isR_of (by simp [shapeR, foreign, zero]) rfl (fun e=>?_)
   all_goals simp [shapeR, zero] at e
   all_goals simp [formed, lastR, n0 a10 (by simp [e]), m0 a11 _ (by simp [e])]
  ·by_cases hs : a14 = true ∨ a15 = no
   ·refine isR_of (by rcases hs with rfl | rfl <;> simp [shapeR, foreign, zero]) rfl (fun e=>?_)
    simp [shapeR, zero] at e
    simp [formed, lastR, n0 a10 (by simp [e]), m0 a11 _ (by simp [e])]
    exact hs
   ·have h1 : a14 = false:=by cases a14 <;> simp_all
    subst h1
    have h2 : a15 ≠ no:=fun e=>hs (Or.inr e)
    simp [isR, isM, eqM_eq, shapeR, formed, zero, h2]
  ·refine isR_of (by simp [shapeR, foreign, zero]) rfl (fun e=>?_)
   all_goals simp [shapeR, zero] at e
   all_goals simp [formed, lastR, n0 a10 (by simp [e]), m0 a11 _ (by simp [e])]
  ·refine isR_of (by simp [shapeR, foreign, zero]) rfl (fun e=>?_)
   all_goals simp [shapeR, zero] at e
   all_goals simp [formed, lastR, n0 a10 (by simp [e]), m0 a11 _ (by simp [e])]
  ·refine isR_of (by simp [shapeR, foreign, zero]) rfl (fun e=>?_)
   all_goals simp [shapeR, zero] at e
   all_goals simp [formed, lastR, n0 a10 (by simp [e]), modsR_false]
 ·have e1 : within m.op 1 10 = false:=by unfold within; exact decide_eq_false h
  have e2 : formed m = false:=by
   unfold formed
   rw [if_neg (by omega), if_neg (by omega), if_neg (by omega), if_neg (by omega), if_neg (by omega), if_neg (by omega), decide_eq_false (by omega)]
  unfold isR isM
  rw [e1, e2]
  simp
end Go.Proofs.YtconghaebebncaaGreatDoor.Ms
namespace Go.Proofs.YtconghaebebncaaGreatDoor.Ms
open _root_.Go.Proofs.YtconghaebebncaaGreatDoor.Nm _root_.Go.Proofs.YtconghaebebncaaGreatDoor.Be
def good (d : Nat) (e : El) : Prop:=Be.formed e = true ∧ tags e = true ∧ fitS 20 400 d e = true
theorem good_txt {d t : Nat} {b : ByteArray} (h : (t % 32 != 31 && (t / 32 % 2 == 0 && decide (t ≤ 255))) = true) (hb : b.size ≤ 400) : good (d + 1) (txt t b):=by
 simp only [Bool.and_eq_true, bne_iff_ne, beq_iff_eq, decide_eq_true_eq] at h
 refine ⟨?_, ?_, ?_⟩
 ·simp [txt, Be.formed, h.1, h.2.1]
 ·simp [txt, tags, tagss, h.2.2]
 ·simp [txt, fitS, hb]
theorem good_num {d t : Nat} {n : Int} (h : (t % 32 != 31 && (t / 32 % 2 == 0 && decide (t ≤ 255))) = true) (h0 : -9223372036854775808 ≤ n) (h1 : n ≤ 9223372036854775807) : good (d + 1) (num t n):=by
 refine good_txt (b:=strOfNums (intB n)) h ?_
 rw [strOfNums_size, intB_len]
 have:=few_8 n h0 h1
 omega
theorem formeds_of : ∀ {ks : List El}, (∀ k ∈ ks, Be.formed k = true) → formeds ks = true
 | [], _=>by simp [formeds]
 | k :: ks, h=>by rw [formeds, h k (by simp), formeds_of (fun x hx=>h x (by simp [hx]))]; rfl
theorem good_lst {d t : Nat} {ks : List El} (h : (t % 32 != 31 && (t / 32 % 2 == 1 && decide (t ≤ 255))) = true) (hl : ks.length ≤ 20) (hk : ∀ k ∈ ks, good d k) : good (d + 1) (lst t ks):=by
 simp only [Bool.and_eq_true, bne_iff_ne, beq_iff_eq, decide_eq_true_eq] at h
 have h0 : no.size = 0:=rfl
 refine ⟨?_, ?_, ?_⟩
 ·simp [lst, Be.formed, h.1, h.2.1, h0, formeds_of fun k hk'=>(hk k hk').1]
 ·rw [lst, tags, tagss_of fun k hk'=>(hk k hk').2.1]
  simp [h.2.2]
 ·simp only [lst, fitS, h0, Bool.and_eq_true, decide_eq_true_eq, List.all_eq_true]
  exact ⟨hl, by omega, fun k hk'=>(hk k hk').2.2⟩
theorem good_more {d d' : Nat} {e : El} (hd : d ≤ d') (h : good d e) : good d' e:=⟨h.1, h.2.1, fitS_more (Nat.le_refl _) (Nat.le_refl _) hd h.2.2⟩
theorem len_txt (t : Nat) (b : ByteArray) : (enc (txt t b)).length ≤ b.size + 4:=by
 have h1:=enc_len (txt t b)
 have h2:=more_le (bodyLen (txt t b))
 have h3 : bodyLen (txt t b) = b.size:=by simp [txt, bodyLen, encs]
 omega
theorem len_num (t : Nat) (n : Int) (h0 : -9223372036854775808 ≤ n) (h1 : n ≤ 9223372036854775807) : (enc (num t n)).length ≤ 12:=by
 have h2:=len_txt t (strOfNums (intB n))
 rw [strOfNums_size, intB_len] at h2
 have:=few_8 n h0 h1
 show (enc (txt t _)).length ≤ _
 omega
theorem len_lst (t : Nat) (ks : List El) : (enc (lst t ks)).length ≤ (encs ks).length + 4:=by
 have h1:=enc_len (lst t ks)
 have h2:=more_le (bodyLen (lst t ks))
 have h3 : bodyLen (lst t ks) = (encs ks).length:=by
  show no.size + _ = _
  rw [show no.size = 0 from rfl, Nat.zero_add]
 omega
theorem encs_all (n : Nat) : ∀ ks : List El, (∀ k ∈ ks, (enc k).length ≤ n) → (encs ks).length ≤ n * ks.length
 | [], _=>by simp [encs]
 | k :: ks, h=>by
  have h1:=h k (by simp)
  have h2:=encs_all n ks (fun x hx=>h x (by simp [hx]))
  rw [encs, List.length_append, List.length_cons, Nat.mul_succ]
  omega
theorem subEls_len (n : Nat) : ∀ (l : List ByteArray) (i : Nat), (subEls n i l).length ≤ l.length
 | [], i=>by simp [subEls]
 | s :: r, i=>by
  have:=subEls_len n r (i + 1)
  rw [subEls]
  split
  ·rw [List.length_cons]; omega
  ·rw [List.length_cons, List.length_cons]; omega
theorem subEls_mem (n : Nat) : ∀ (l : List ByteArray) (i : Nat) (e : El), e ∈ subEls n i l → ∃ j, ∃ s ∈ l, e = txt (partTag j n) s
 | [], i, e, h=>by simp [subEls] at h
 | s :: r, i, e, h=>by
  rw [subEls] at h
  split at h
  ·obtain ⟨j, s', hs, he⟩:=subEls_mem n r (i + 1) e h
   exact ⟨j, s', by simp [hs], he⟩
  ·rcases List.mem_cons.1 h with rfl | h
   ·exact ⟨i, s, by simp, rfl⟩
   ·obtain ⟨j, s', hs, he⟩:=subEls_mem n r (i + 1) e h
    exact ⟨j, s', by simp [hs], he⟩
theorem partTag_cases (j n : Nat) : partTag j n = 128 ∨ partTag j n = 129 ∨ partTag j n = 130:=by
 unfold partTag
 split
 ·exact Or.inl rfl
 ·split
  ·exact Or.inr (Or.inr rfl)
  ·exact Or.inr (Or.inl rfl)
theorem good_part {d j n : Nat} {s : ByteArray} (hs : s.size ≤ 400) : good (d + 1) (txt (partTag j n) s):=by
 rcases partTag_cases j n with h | h | h <;> rw [h] <;> exact good_txt (by decide) hs
theorem filEls_map : ∀ ks : List Fil, filEls ks = ks.map filEl
 | []=>by simp [filEls]
 | f :: r=>by rw [filEls, filEls_map r, List.map_cons]
theorem type_size {a : ByteArray} (h : isType (bs a) = true) : a.size ≤ 16:=by
 unfold isType at h
 simp only [Bool.and_eq_true, decide_eq_true_eq] at h
 exact h.1
theorem tots_sum : ∀ (ks : List Fil) (g : Fil → Nat), (∀ f ∈ ks, g f ≤ 2000 * Fi.tot f) → (ks.map g).sum ≤ 2000 * Fi.tots ks
 | [], g, _=>by simp [Fi.tots]
 | f :: r, g, h=>by
  have h1:=h f (by simp)
  have h2:=tots_sum r g (fun x hx=>h x (by simp [hx]))
  rw [Fi.tots, List.map_cons, List.sum_cons]
  omega
theorem encs_sum : ∀ ks : List El, (encs ks).length = (ks.map fun k=>(enc k).length).sum
 | []=>by simp [encs]
 | k :: ks=>by rw [encs, List.length_append, encs_sum ks, List.map_cons, List.sum_cons]
theorem tot_mem {f : Fil} : ∀ {ks : List Fil}, f ∈ ks → Fi.tot f ≤ Fi.tots ks
 | k :: r, h=>by
  rw [Fi.tots]
  rcases List.mem_cons.1 h with rfl | h
  ·omega
  ·have:=tot_mem h; omega
theorem good_fil (f : Fil) : Fi.frm f = true → ∀ n, Fi.tot f ≤ n → n ≤ 20 → good (n + 3) (filEl f) ∧ (enc (filEl f)).length ≤ 2000 * Fi.tot f:=by
 refine Fi.ind (p:=fun f=>Fi.frm f = true → ∀ n, Fi.tot f ≤ n → n ≤ 20 → good (n + 3) (filEl f) ∧ (enc (filEl f)).length ≤ 2000 * Fi.tot f) ?_ f
 intro k a v ss ks ih hf n hn hn20
 rw [Fi.frm] at hf
 by_cases hk : Fi.hasK k = true
 ·rw [if_pos hk] at hf
  simp only [Bool.and_eq_true, decide_eq_true_eq] at hf
  obtain ⟨h3, _, _, _, hks⟩:=hf
  rw [Fi.frms_all, List.all_eq_true] at hks
  have hk' : k = 1 ∨ k = 2 ∨ k = 3:=by unfold Fi.hasK at hk; simp only [decide_eq_true_eq] at hk; omega
  rw [filEl, if_pos hk', filEls_map]
  rw [Fi.tot, if_pos hk] at hn ⊢
  have hlen:=Fi.tots_len ks
  have hg : ∀ e ∈ ks.map filEl, good (n + 2) e:=by
   intro e he
   obtain ⟨f, hfm, rfl⟩:=List.mem_map.1 he
   have h1:=tot_mem hfm
   exact good_more (by omega) (ih f hfm (hks f hfm) (n - 1) (by omega) (by omega)).1
  refine ⟨?_, ?_⟩
  ·rcases hk' with rfl | rfl | rfl
   ·exact good_lst (t:=filTag 1) (by decide) (by rw [List.length_map]; omega) hg
   ·exact good_lst (t:=filTag 2) (by decide) (by rw [List.length_map]; omega) hg
   ·exact good_lst (t:=filTag 3) (by decide) (by rw [List.length_map]; omega) hg
  ·have h1:=len_lst (filTag k) (ks.map filEl)
   have h2:=encs_sum (ks.map filEl)
   rw [List.map_map] at h2
   have h3:=tots_sum ks (fun f=>(enc (filEl f)).length) (fun f hfm=>by
    have h1:=tot_mem hfm
    exact (ih f hfm (hks f hfm) (n - 1) (by omega) (by omega)).2)
   have h4 : (ks.map ((fun k=>(enc k).length) ∘ filEl)).sum = (ks.map fun f=>(enc (filEl f)).length).sum:=rfl
   omega
 ·rw [if_neg hk] at hf
  simp only [Bool.and_eq_true, decide_eq_true_eq] at hf
  obtain ⟨h48, hty, _, hrest⟩:=hf
  have hsz:=type_size hty
  rw [Fi.tot, if_neg hk] at hn ⊢
  rw [filEl, if_neg (by omega)]
  have ga : ∀ d, good (d + 1) (txt 4 a):=fun d=>good_txt (by decide) (by omega)
  have la:=len_txt 4 a
  by_cases h7 : k = 7
  ·subst h7
   rw [if_pos rfl]
   have l7:=len_txt (filTag 7) a
   exact ⟨good_txt (t:=filTag 7) (by decide) (by omega), by omega⟩
  rw [if_neg h7] at hrest ⊢
  by_cases h8 : k = 8
  ·subst h8
   rw [if_pos rfl] at hrest ⊢
   obtain ⟨_, hs⟩:=by simpa only [Bool.and_eq_true, decide_eq_true_eq] using hrest
   unfold Fi.subsOk at hs
   simp only [Bool.and_eq_true, decide_eq_true_eq, List.all_eq_true] at hs
   obtain ⟨hl, _, h60, _⟩:=hs
   have hsl:=subEls_len ss.length ss 0
   have hm:=subEls_mem ss.length ss 0
   have gs : ∀ d, good (d + 2) (lst 48 (subEls ss.length 0 ss)):=fun d=>good_lst (by decide) (by omega) (fun e he=>by
    obtain ⟨j, s, hs, rfl⟩:=hm e he
    exact good_part (by have:=h60 s hs; omega))
   refine ⟨good_lst (t:=filTag 8) (by decide) (by simp) (fun e he=>?_), ?_⟩
   ·simp only [List.mem_cons, List.not_mem_nil, or_false] at he
    rcases he with rfl | rfl
    ·exact ga _
    ·exact gs n
   ·have h1:=len_lst (filTag 8) [txt 4 a, lst 48 (subEls ss.length 0 ss)]
    have h2:=len_lst 48 (subEls ss.length 0 ss)
    have h3:=encs_all 64 (subEls ss.length 0 ss) (fun e he=>by
     obtain ⟨j, s, hs, rfl⟩:=hm e he
     have h5:=len_txt (partTag j ss.length) s
     have h6:=h60 s hs
     omega)
    have h4 : (encs [txt 4 a, lst 48 (subEls ss.length 0 ss)]).length = (enc (txt 4 a)).length + (enc (lst 48 (subEls ss.length 0 ss))).length:=by simp [encs]
    omega
  ·rw [if_neg h8] at hrest ⊢
   obtain ⟨hv, _⟩:=by simpa only [Bool.and_eq_true, decide_eq_true_eq] using hrest
   have gv : ∀ d, good (d + 1) (txt 4 v):=fun d=>good_txt (by decide) (by omega)
   have lv:=len_txt 4 v
   have ht : k = 4 ∨ k = 5 ∨ k = 6:=by omega
   have hg : ∀ e ∈ [txt 4 a, txt 4 v], good (n + 2) e:=fun e he=>by
    simp only [List.mem_cons, List.not_mem_nil, or_false] at he
    rcases he with rfl | rfl
    ·exact ga _
    ·exact gv _
   refine ⟨?_, ?_⟩
   ·rcases ht with rfl | rfl | rfl
    ·exact good_lst (t:=filTag 4) (by decide) (by simp) hg
    ·exact good_lst (t:=filTag 5) (by decide) (by simp) hg
    ·exact good_lst (t:=filTag 6) (by decide) (by simp) hg
   ·have h1:=len_lst (filTag k) [txt 4 a, txt 4 v]
    have h4 : (encs [txt 4 a, txt 4 v]).length = (enc (txt 4 a)).length + (enc (txt 4 v)).length:=by simp [encs]
    omega
end Go.Proofs.YtconghaebebncaaGreatDoor.Ms
