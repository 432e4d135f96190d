import Derived.Test.YtconghaebebncaaGreatDoorZR1
import Derived.Test.YtconghaebebncaaGreatDoorZR2
import Derived.BigQuiet
import Derived.Laws.IdiomStrings
import Derived.KernelRfl
set_option linter.unusedVariables false
set_option maxRecDepth 100000
namespace Go.Proofs.YtconghaebebncaaGreatDoor.Be
mutual
def tags : El → Bool
 | .mk t _ ks=>decide (t ≤ 255) && tagss ks
def tagss : List El → Bool
 | []=>true
 | k :: ks=>tags k && tagss ks
end
theorem tagss_of : ∀ {l : List El}, (∀ k ∈ l, tags k = true) → tagss l = true
 | [], _=>by simp [tagss]
 | k :: l, h=>by simp [tagss, h k (by simp), tagss_of (l:=l) (fun x hx=>h x (by simp [hx]))]
theorem Lies.tags {w : World} {P : Nat → Prop} {e : El} {cs : List Value} (h : Lies w P e cs) : tags e = true:=by
 induction h with
 | mk tag body kids A c cs ht hb hl h3 hA hk ih =>
  rw [Proofs.YtconghaebebncaaGreatDoor.Be.tags]
  simp only [Bool.and_eq_true, decide_eq_true_eq]
  refine ⟨ht, tagss_of fun k hkm=>?_⟩
  obtain ⟨i, hi, rfl⟩:=List.getElem_of_mem hkm
  exact ih i hi
theorem u8n (n : Nat) (h : n < 256) : n.toUInt8.toNat = n:=by
 show n % 256 = n
 omega
theorem hd_encHead (t n : Nat) (r : List UInt8) (ht : t ≤ 255) (h31 : t % 32 ≠ 31) (hn : n ≤ 4000) : Sp.hd (encHead t n ++ r) = (2 + more n, n, 0):=by
 have e0:=u8n t (by omega)
 unfold encHead more
 by_cases h1 : n < 128
 ·rw [if_pos h1, if_pos h1]
  simp only [List.cons_append, List.nil_append, Sp.hd, e0, u8n n (by omega)]
  rw [if_neg h31, if_pos h1]
 ·rw [if_neg h1, if_neg h1]
  by_cases h2 : n < 256
  ·rw [if_pos h2, if_pos h2]
   simp only [List.cons_append, List.nil_append, Sp.hd, e0]
   rw [if_neg h31, if_neg (by decide), if_neg (by decide), if_neg (by simp)]
   have e1 : Sp.num ((n.toUInt8 :: r).take ((129 : UInt8).toNat - 128)) = n:=by
    show Sp.num ((n.toUInt8 :: r).take 1) = n
    simp only [List.take, Sp.num, List.foldl, u8n n h2]; omega
   rw [e1, if_neg (by omega)]
   rfl
  ·rw [if_neg h2, if_neg h2]
   simp only [List.cons_append, List.nil_append, Sp.hd, e0]
   rw [if_neg h31, if_neg (by decide), if_neg (by decide), if_neg (by simp)]
   have e1 : Sp.num (((n / 256).toUInt8 :: n.toUInt8 :: r).take ((130 : UInt8).toNat - 128)) = n:=by
    show Sp.num (((n / 256).toUInt8 :: n.toUInt8 :: r).take 2) = n
    have e2 : n.toUInt8.toNat = n % 256:=rfl
    simp only [List.take, Sp.num, List.foldl, u8n (n / 256) (by omega), e2]; omega
   rw [e1, if_neg (by omega)]
   rfl
theorem empty_of (b : ByteArray) (h : b.size = 0) : b = ⟨#[]⟩:=by
 cases b with
 | mk d =>
  congr 1
  exact Array.eq_empty_of_size_eq_zero h
theorem bytes_eta (b : ByteArray) : (⟨b.data.toList.toArray⟩ : ByteArray) = b:=by cases b; simp
theorem bodyLen_kid {t : Nat} {b : ByteArray} {ks : List El} {k : El} (hk : k ∈ ks) : bodyLen k ≤ bodyLen (.mk t b ks):=by
 obtain ⟨i, hi, rfl⟩:=List.getElem_of_mem hk
 have h1:=encs_take hi
 have h2:=encs_take_le ks (i + 1)
 rw [h1, List.length_append] at h2
 have h3:=enc_len ks[i]
 have h4 : bodyLen (.mk t b ks) = b.size + (encs ks).length:=rfl
 omega
theorem deps_kid : ∀ {ks : List El} {k : El}, k ∈ ks → dep k ≤ deps ks
 | [], _, h=>by cases h
 | x :: ks, k, h=>by
  rw [deps]
  rcases List.mem_cons.1 h with rfl | h
  ·exact Nat.le_max_left _ _
  ·exact Nat.le_trans (deps_kid h) (Nat.le_max_right _ _)
theorem formeds_kid : ∀ {ks : List El} {k : El}, formeds ks = true → k ∈ ks → formed k = true
 | [], _, _, h=>by cases h
 | x :: ks, k, hf, h=>by
  rw [formeds, Bool.and_eq_true] at hf
  rcases List.mem_cons.1 h with rfl | h
  ·exact hf.1
  ·exact formeds_kid hf.2 h
theorem tagss_kid : ∀ {ks : List El} {k : El}, tagss ks = true → k ∈ ks → tags k = true
 | [], _, _, h=>by cases h
 | x :: ks, k, hf, h=>by
  rw [tagss, Bool.and_eq_true] at hf
  rcases List.mem_cons.1 h with rfl | h
  ·exact hf.1
  ·exact tagss_kid hf.2 h
theorem enc_ge2 (e : El) : 2 ≤ (enc e).length:=by rw [enc_len]; omega
def Back (e : El) : Prop:=formed e = true → tags e = true → bodyLen e ≤ 4000 → ∀ f, dep e ≤ f → ∀ (tail : List UInt8) (a : Nat), rd f (enc e ++ tail) a = .ok e (enc e).length
theorem kids_back (f : Nat) : ∀ (ks : List El) (N a : Nat), (∀ k ∈ ks, ∀ (tail : List UInt8) (a : Nat), rd f (enc k ++ tail) a = .ok k (enc k).length) → (encs ks).length ≤ N → rdKids (rd f) N (encs ks) a = .ok ks
 | [], N, a, _, _=>by cases N <;> simp [rdKids, encs]
 | k :: ks, N, a, hk, hN=>by
  have h2:=enc_ge2 k
  rw [encs, List.length_append] at hN
  cases N with
  | zero=>omega
  | succ N =>
   rw [rdKids, encs, if_neg (by rw [List.length_append]; omega), hk k (by simp)]
   simp only []
   rw [List.drop_left, kids_back f ks N _ (fun x hx=>hk x (by simp [hx])) (by omega)]
theorem back_any (e : El) : Back e:=by
 refine El.ind ?_ e
 intro t b ks ih hf htg hB f hd tail a
 cases f with
 | zero=>simp [dep] at hd
 | succ f =>
 have ht : t ≤ 255:=by rw [tags] at htg; simp at htg; exact htg.1
 have htk : tagss ks = true:=by rw [tags] at htg; simp at htg; exact htg.2
 have h31 : t % 32 ≠ 31:=by
  intro h; rw [formed, if_pos h] at hf; cases hf
 rw [formed, if_neg h31] at hf
 have hn : b.size + (encs ks).length ≤ 4000:=hB
 have hbl : (b.data.toList ++ encs ks).length = b.size + (encs ks).length:=by rw [List.length_append]; rfl
 have hq : rdHead (decide (f + 1 < 20)) (enc (.mk t b ks) ++ tail) = (2 + more (b.size + (encs ks).length), b.size + (encs ks).length, 0):=by
  rw [enc, List.append_assoc]
  refine rdHead_fit (hd_encHead t _ _ ht h31 hn) ?_
  rw [List.length_append, encHead_len, List.length_append, hbl]; omega
 have hhd : ((enc (.mk t b ks) ++ tail).headD 0).toNat = t:=by
  rw [enc]
  unfold encHead
  split
  ·exact u8n t (by omega)
  ·split <;> exact u8n t (by omega)
 have hdrop : (enc (.mk t b ks) ++ tail).drop (2 + more (b.size + (encs ks).length)) = (b.data.toList ++ encs ks) ++ tail:=by
  rw [enc, List.append_assoc, ← encHead_len t, List.drop_left]
 have hlen : (enc (.mk t b ks)).length = 2 + more (b.size + (encs ks).length) + (b.size + (encs ks).length):=enc_len (.mk t b ks)
 have htake : ((b.data.toList ++ encs ks) ++ tail).take (b.size + (encs ks).length) = b.data.toList ++ encs ks:=by rw [← hbl, List.take_left]
 simp only [rd, hq, hhd, hdrop, htake]
 rw [if_neg (by simp), hlen]
 by_cases h2 : t / 32 % 2 = 0
 ·rw [if_pos h2] at hf ⊢
  have hks : ks = []:=List.eq_nil_of_length_eq_zero (by simpa using hf)
  subst hks
  simp only [encs, List.append_nil, bytes_eta]
 ·rw [if_neg h2] at hf ⊢
  by_cases h3 : b.size = 0
  ·have hb:=empty_of b h3
   subst hb
   rw [if_neg (by simpa using h3)] at hf
   have e1 : (⟨#[]⟩ : ByteArray).data.toList ++ encs ks = encs ks:=by simp
   rw [e1, kids_back f ks _ _ (fun k hk=>ih k hk (formeds_kid hf hk) (tagss_kid htk hk) (Nat.le_trans (bodyLen_kid (t:=t) (b:=⟨#[]⟩) hk) hB) f (by
    have:=deps_kid hk
    rw [dep] at hd
    omega)) (by show _ ≤ 0 + (encs ks).length; omega)]
  ·rw [if_pos h3] at hf; cases hf
end Go.Proofs.YtconghaebebncaaGreatDoor.Be
namespace Go.Proofs.YtconghaebebncaaGreatDoor
namespace Nm
abbrev Ava:=ByteArray × ByteArray
abbrev bs (b : ByteArray) : List UInt8:=b.data.toList
abbrev mk (l : List UInt8) : ByteArray:=⟨l.toArray⟩
def sm (c : UInt8) : UInt8:=if 65 ≤ c.toNat ∧ c.toNat ≤ 90 then c + 32 else c
def lower (l : List UInt8) : List UInt8:=l.map sm
def smallC (c : UInt8) : Bool:=decide (97 ≤ c.toNat ∧ c.toNat ≤ 122)
def typeC (c : UInt8) : Bool:=decide (97 ≤ c.toNat ∧ c.toNat ≤ 122 ∨ 48 ≤ c.toNat ∧ c.toNat ≤ 57 ∨ c.toNat = 45)
def isType (l : List UInt8) : Bool:=decide (l.length ≤ 16) && match l with
 | []=>false
 | c :: r=>smallC c && r.all typeC
def okAva (a : Ava) : Bool:=isType (bs a.1) && decide (1 ≤ a.2.size ∧ a.2.size ≤ 60)
def okFrom : List Ava → List Ava → Bool
 | _, []=>true
 | pre, a :: r=>okAva a && pre.all (fun b=>!decide (b.1 = a.1)) && okFrom (pre ++ [a]) r
def isRdn (r : List Ava) : Bool:=decide (1 ≤ r.length) && decide (r.length ≤ 4) && okFrom [] r
def special (c : UInt8) : Bool:=decide (c.toNat = 44 ∨ c.toNat = 43 ∨ c.toNat = 34 ∨ c.toNat = 92 ∨ c.toNat = 60 ∨ c.toNat = 62 ∨ c.toNat = 59)
def hexc (n : Nat) : UInt8:=if n < 10 then (48 + n).toUInt8 else (87 + n).toUInt8
def join (sep : UInt8) : List (List UInt8) → List UInt8
 | []=>[]
 | [x]=>x
 | x :: y :: r=>x ++ sep :: join sep (y :: r)
def dig (c : UInt8) : Option Nat :=
 if 48 ≤ c.toNat ∧ c.toNat ≤ 57 then some (c.toNat - 48)
 else if 97 ≤ c.toNat ∧ c.toNat ≤ 102 then some (c.toNat - 87)
 else if 65 ≤ c.toNat ∧ c.toNat ≤ 70 then some (c.toNat - 55)
 else none
def escOk (c : UInt8) : Bool:=special c || decide (c.toNat = 35 ∨ c.toNat = 61 ∨ c.toNat = 32)
def unE : List UInt8 → Option (UInt8 × Nat)
 | []=>none
 | c :: r=>if escOk c then some (c, 2) else match r with
  | []=>none
  | e :: _=>match dig c, dig e with
   | some h, some l=>some ((16 * h + l).toUInt8, 3)
   | _, _=>none
def unB (sp : UInt8 → Bool) (first : Bool) : List UInt8 → Option (UInt8 × Nat)
 | []=>none
 | c :: r=>if c = 92 then unE r else if sp c || first && decide (c.toNat = 35 ∨ c.toNat = 32) || r.isEmpty && decide (c.toNat = 32) then none else some (c, 1)
def unV (sp : UInt8 → Bool) : Nat → Bool → List UInt8 → Option (List UInt8)
 | 0, _, _=>some []
 | _ + 1, _, []=>some []
 | n + 1, f, c :: r=>match unB sp f (c :: r) with
  | none=>none
  | some (b, k)=>match unV sp n false ((c :: r).drop k) with
   | none=>none
   | some v=>some (b :: v)
def cons1 (x : List UInt8) : List (List UInt8) → List (List UInt8)
 | []=>[x]
 | y :: r=>(x ++ y) :: r
def cuts (sep : UInt8) : List UInt8 → List (List UInt8)
 | []=>[[]]
 | c :: r=>if c = 92 then (match r with
   | []=>[[c]]
   | d :: r'=>cons1 [c, d] (cuts sep r'))
  else if c = sep then [] :: cuts sep r else cons1 [c] (cuts sep r)
def eqAt : List UInt8 → Option Nat
 | []=>none
 | c :: r=>if c = 61 then some 0 else (eqAt r).map (· + 1)
def ava (p : List UInt8) : Option Ava:=match eqAt p with
 | none=>none
 | some k=>match unV special p.length true (p.drop (k + 1)) with
  | none=>none
  | some v=>some (mk (lower (p.take k)), mk v)
def avas : List (List UInt8) → Option (List Ava)
 | []=>some []
 | p :: r=>match ava p with
  | none=>none
  | some a=>match avas r with
   | none=>none
   | some l=>some (a :: l)
def ifRdn (r : List Ava) : Option (List Ava):=if isRdn r then some r else none
def rdn (s : List UInt8) : Option (List Ava):=(avas (cuts 43 s)).bind ifRdn
end Nm
end Go.Proofs.YtconghaebebncaaGreatDoor
namespace Go.Proofs.YtconghaebebncaaGreatDoor
inductive Fil where
 | mk (kind : Int) (attr value : ByteArray) (subs : List ByteArray) (kids : List Fil)
namespace Fi
open _root_.Go.Proofs.YtconghaebebncaaGreatDoor.Nm
theorem ind {p : Fil → Prop} (h : ∀ k a v ss ks, (∀ f ∈ ks, p f) → p (.mk k a v ss ks)) (f : Fil) : p f :=
 Fil.rec (motive_1:=p) (motive_2:=fun ks=>∀ f ∈ ks, p f) (fun k a v ss ks ih=>h k a v ss ks ih) (fun f hf=>by cases hf)
  (fun f ks hf hks x hx=>by
   rcases List.mem_cons.1 hx with rfl | hx
   ·exact hf
   ·exact hks x hx) f
mutual
def eqF : Fil → Fil → Bool
 | .mk k a v ss ks, .mk k' a' v' ss' ks'=>decide (k = k') && (decide (a = a') && (decide (v = v') && (decide (ss = ss') && eqFs ks ks')))
def eqFs : List Fil → List Fil → Bool
 | [], []=>true
 | f :: r, f' :: r'=>eqF f f' && eqFs r r'
 | _, _=>false
end
theorem eqFs_len : ∀ {l l' : List Fil}, l.length ≠ l'.length → eqFs l l' = false
 | [], [], h=>absurd rfl h
 | [], _ :: _, _=>by simp [eqFs]
 | _ :: _, [], _=>by simp [eqFs]
 | f :: l, f' :: l', h=>by simp [eqFs, eqFs_len (l:=l) (l':=l') (by simpa using h)]
theorem eqFs_drop {l l' : List Fil} {i : Nat} (h : i < l.length) (h' : i < l'.length) : eqFs (l.drop i) (l'.drop i) = (eqF l[i] l'[i] && eqFs (l.drop (i + 1)) (l'.drop (i + 1))):=by
 rw [List.drop_eq_getElem_cons h, List.drop_eq_getElem_cons h', eqFs]
def hasK (k : Int) : Bool:=decide (1 ≤ k ∧ k ≤ 3)
mutual
def tot : Fil → Nat
 | .mk k _ _ _ ks=>if hasK k then 1 + tots ks else 1
def tots : List Fil → Nat
 | []=>0
 | f :: r=>tot f + tots r
end
theorem tot_pos (f : Fil) : 1 ≤ tot f:=by
 obtain ⟨k, a, v, ss, ks⟩:=f
 rw [tot]
 split <;> omega
theorem tots_app : ∀ l l' : List Fil, tots (l ++ l') = tots l + tots l'
 | [], l'=>by simp [tots]
 | f :: r, l'=>by rw [List.cons_append, tots, tots, tots_app r l']; omega
theorem tots_len : ∀ l : List Fil, l.length ≤ tots l
 | []=>by simp
 | f :: r=>by have:=tots_len r; have:=tot_pos f; rw [tots, List.length_cons]; omega
def subsOk (ss : List ByteArray) : Bool :=
 decide (2 ≤ ss.length ∧ ss.length ≤ 20) && (((ss.take (ss.length - 1)).drop 1).all (fun s=>decide (s.size ≠ 0)) && (ss.all (fun s=>decide (s.size ≤ 60)) && ss.any (fun s=>decide (s.size ≠ 0))))
mutual
def frm : Fil → Bool
 | .mk k a v ss ks =>
  if hasK k then decide (k = 3 → ks.length = 1) && (decide (a.size = 0) && (decide (v.size = 0) && (decide (ss.length = 0) && frms ks)))
  else decide (4 ≤ k ∧ k ≤ 8) && (isType (bs a) && (decide (ks.length = 0) && (
   if k = 7 then decide (v.size = 0) && decide (ss.length = 0)
   else if k = 8 then decide (v.size = 0) && subsOk ss
   else decide (v.size ≤ 60) && decide (ss.length = 0))))
def frms : List Fil → Bool
 | []=>true
 | f :: r=>frm f && frms r
end
theorem frms_all : ∀ l : List Fil, frms l = l.all frm
 | []=>rfl
 | f :: r=>by rw [frms, frms_all r, List.all_cons]
theorem frms_drop {l : List Fil} {i : Nat} (h : i < l.length) : frms (l.drop i) = (frm l[i] && frms (l.drop (i + 1))):=by
 rw [List.drop_eq_getElem_cons h, frms]
def isF (f : Fil) : Bool:=decide (tot f ≤ 20) && frm f
def odd (c : UInt8) : Bool:=decide (c.toNat < 32 ∨ 126 < c.toNat ∨ c.toNat = 42 ∨ c.toNat = 40 ∨ c.toNat = 41 ∨ c.toNat = 92)
def escC (c : UInt8) : List UInt8:=if odd c then [92, hexc (c.toNat / 16), hexc (c.toNat % 16)] else [c]
def esc (l : List UInt8) : List UInt8:=l.flatMap escC
def stars : List ByteArray → List UInt8
 | []=>[]
 | s :: r=>42 :: (esc (bs s) ++ stars r)
def parts : List ByteArray → List UInt8
 | []=>[]
 | s :: r=>esc (bs s) ++ stars r
def upto (c : UInt8) : List UInt8 → List UInt8
 | []=>[]
 | b :: r=>if b = c then [] else b :: upto c r
def past (c : UInt8) : List UInt8 → List UInt8
 | []=>[]
 | b :: r=>if b = c then r else past c r
def dg (c : UInt8) : UInt8:=if 48 ≤ c.toNat ∧ c.toNat ≤ 57 then (c.toNat - 48).toUInt8 else if 97 ≤ c.toNat ∧ c.toNat ≤ 102 then (c.toNat - 87).toUInt8 else 255
def byte (a b : UInt8) : UInt8:=(dg a <<< 4) ||| dg b
def rv : Nat → List UInt8 → List UInt8
 | 0, _=>[]
 | _ + 1, []=>[]
 | n + 1, c :: r=>if c = 92 then (match r with
   | a :: b :: t=>byte a b :: rv n t
   | _=>c :: rv n r) else c :: rv n r
def split : Nat → List UInt8 → List (List UInt8)
 | 0, l=>[l]
 | n + 1, l=>if 42 ∈ l then upto 42 l :: split n (past 42 l) else [l]
def last (l : List UInt8) : Nat:=match l.getLast? with
 | none=>0
 | some c=>c.toNat
def kindOf (x y : List UInt8) : Int:=if last x = 62 then 5 else if last x = 60 then 6 else if y = [42] then 7 else if 42 ∈ y then 8 else 4
def trim (l : List UInt8) : List UInt8:=(l.reverse.dropWhile ([60, 62].contains ·)).reverse
def itemOf (k : Int) (x y : List UInt8) : Fil :=
 .mk k (mk (trim x)) (if k = 7 ∨ k = 8 then mk [] else mk (rv 61 y)) (if k = 8 then (split 20 y).map (fun l=>mk (rv 61 l)) else []) []
def item (l : List UInt8) : Fil:=itemOf (kindOf (upto 61 l) (past 61 l)) (upto 61 l) (past 61 l)
def lp (rd : Nat → List UInt8 → Option (Fil × List UInt8)) (k : Int) (m : Nat) : Nat → List Fil → List UInt8 → Option (Fil × List UInt8)
 | 0, _, _=>none
 | j + 1, ks, s=>if s.head? = some 41 then some (.mk k (mk []) (mk []) [] ks, s.tail) else match rd (m - (1 + tots ks)) s with
  | none=>none
  | some (f, r)=>lp rd k m j (ks ++ [f]) r
def rd : Nat → Nat → List UInt8 → Option (Fil × List UInt8)
 | 0, _, _=>none
 | n + 1, m, s=>if s.head? ≠ some 40 ∨ m = 0 then none
  else if s.tail.head? = some 38 then lp (rd n) 1 m m [] s.tail.tail
  else if s.tail.head? = some 124 then lp (rd n) 2 m m [] s.tail.tail
  else if s.tail.head? = some 33 then lp (rd n) 3 m m [] s.tail.tail
  else some (item (upto 41 s.tail), past 41 s.tail)
end Fi
end Go.Proofs.YtconghaebebncaaGreatDoor
namespace Go.Proofs.YtconghaebebncaaGreatDoor
structure Mo where
 kind : Int
 attr : ByteArray
 vals : List ByteArray
structure Mg where
 id : Int
 op : Int
 ref : Int
 dn : ByteArray
 ver : Int
 pass : ByteArray
 scope : Int
 size : Int
 fil : Fil
 wants : List ByteArray
 mods : List Mo
 rdn : ByteArray
 del : Bool
 has : Bool
 sup : ByteArray
 attr : ByteArray
 value : ByteArray
 code : Int
 matched : ByteArray
namespace Ms
open _root_.Go.Proofs.YtconghaebebncaaGreatDoor.Nm _root_.Go.Proofs.YtconghaebebncaaGreatDoor.Be
abbrev no : ByteArray:=⟨#[]⟩
def noF : Fil:=.mk 0 no no [] []
def zero : Mg:=⟨0, 0, 0, no, 0, no, 0, 0, noF, [], [], no, false, false, no, no, no, 0, no⟩
def eqMo (a b : Mo) : Bool:=decide (a.kind = b.kind) && (decide (a.attr = b.attr) && decide (a.vals = b.vals))
def eqMos : List Mo → List Mo → Bool
 | [], []=>true
 | a :: r, b :: s=>eqMo a b && eqMos r s
 | _, _=>false
def numsM (m : Mg) : List Int:=[m.id, m.op, m.ref, m.ver, m.scope, m.size, m.code]
def textsM (m : Mg) : List ByteArray:=[m.dn, m.pass, m.rdn, m.sup, m.attr, m.value, m.matched]
def eqM (a b : Mg) : Bool :=
 decide (numsM a = numsM b) && (decide (textsM a = textsM b) && (decide (a.del = b.del) && (decide (a.has = b.has) && (Fi.eqF a.fil b.fil && (decide (a.wants = b.wants) && eqMos a.mods b.mods)))))
def within (n a b : Int) : Bool:=decide (a ≤ n ∧ n ≤ b)
def isLong (s : ByteArray) : Bool:=decide (400 < s.size)
def areShort (l : List ByteArray) : Bool:=!l.any isLong
def isList (l : List ByteArray) : Bool:=decide (l.length ≤ 12) && areShort l
def noMod (d : Mo) : Bool:=!within d.kind 1 3 || (isLong d.attr || !isList d.vals)
def takes (d : Mo) : Bool:=decide (d.kind ≠ 1)
def foreign (m : Mg) : Mg :=
 let z : Mg:={ m with id:=0, op:=0 }
 if m.op = 2 then z
 else if m.op = 9 then { z with ref:=0, code:=0, matched:=no }
 else if m.op = 1 then { z with ver:=0, pass:=no, dn:=no }
 else if m.op = 3 then { z with scope:=0, size:=0, fil:=noF, wants:=[], dn:=no }
 else if m.op = 4 ∨ m.op = 5 ∨ m.op = 10 then { z with mods:=[], dn:=no }
 else if m.op = 7 then { z with rdn:=no, del:=false, has:=false, sup:=no, dn:=no }
 else if m.op = 8 then { z with attr:=no, value:=no, dn:=no }
 else { z with dn:=no }
def formed (m : Mg) : Bool :=
 if m.op = 1 then within m.ver 1 127
 else if m.op = 3 then within m.scope 0 2 && (within m.size 0 2147483647 && (Fi.isF m.fil && isList m.wants))
 else if m.op = 5 ∨ m.op = 10 then !m.mods.any takes && (decide (m.mods.length ≤ 12) && !m.mods.any noMod)
 else if m.op = 4 then decide (m.mods.length ≤ 12) && !m.mods.any noMod
 else if m.op = 7 then m.has || decide (m.sup = no)
 else if m.op = 9 then within m.ref 1 8 && (decide (m.ref ≠ 2) && within m.code 0 127)
 else decide (m.op = 2 ∨ m.op = 6 ∨ m.op = 8)
def isM (m : Mg) : Bool:=within m.id 0 2147483647 && (eqM (foreign m) zero && (formed m && areShort (textsM m)))
def txt (t : Nat) (b : ByteArray) : El:=.mk t b []
def num (t : Nat) (n : Int) : El:=.mk t (strOfNums (intB n)) []
def lst (t : Nat) (ks : List El) : El:=.mk t no ks
def boolB (b : Bool) : ByteArray:=if b then ⟨#[255]⟩ else ⟨#[0]⟩
def flg (b : Bool) : El:=txt 1 (boolB b)
def opTab : List (Int × Int × Nat) :=
 [(1, 0, 96), (2, 0, 66), (3, 0, 99), (4, 0, 102), (5, 0, 104), (6, 0, 74), (7, 0, 108), (8, 0, 110), (10, 0, 100), (9, 1, 97), (9, 3, 101), (9, 4, 103), (9, 5, 105), (9, 6, 107), (9, 7, 109), (9, 8, 111)]
def filTab : List (Int × Nat):=[(1, 160), (2, 161), (3, 162), (4, 163), (8, 164), (5, 165), (6, 166), (7, 135)]
def tagIn (op ref : Int) : List (Int × Int × Nat) → Nat
 | []=>0
 | r :: l=>if r.1 = op ∧ r.2.1 = ref then r.2.2 else tagIn op ref l
def opIn (t : Nat) : List (Int × Int × Nat) → Int × Int
 | []=>(0, 0)
 | r :: l=>if r.2.2 = t then (r.1, r.2.1) else opIn t l
def ftagIn (k : Int) : List (Int × Nat) → Nat
 | []=>0
 | r :: l=>if r.1 = k then r.2 else ftagIn k l
def kindIn (t : Nat) : List (Int × Nat) → Int
 | []=>0
 | r :: l=>if r.2 = t then r.1 else kindIn t l
def opTag (op ref : Int) : Nat:=tagIn op ref opTab
def opOf (t : Nat) : Int × Int:=opIn t opTab
def filTag (k : Int) : Nat:=ftagIn k filTab
def filKind (t : Nat) : Int:=kindIn t filTab
def partTag (i n : Nat) : Nat:=if i = 0 then 128 else if i = n - 1 then 130 else 129
def subEls (n : Nat) : Nat → List ByteArray → List El
 | _, []=>[]
 | i, s :: r=>if s.size = 0 then subEls n (i + 1) r else txt (partTag i n) s :: subEls n (i + 1) r
mutual
def filEl : Fil → El
 | .mk k a v ss ks =>
  if k = 1 ∨ k = 2 ∨ k = 3 then lst (filTag k) (filEls ks)
  else if k = 7 then txt (filTag k) a
  else if k = 8 then lst (filTag k) [txt 4 a, lst 48 (subEls ss.length 0 ss)]
  else lst (filTag k) [txt 4 a, txt 4 v]
def filEls : List Fil → List El
 | []=>[]
 | f :: r=>filEl f :: filEls r
end
def attrEl (d : Mo) : El:=lst 48 [txt 4 d.attr, lst 49 (d.vals.map (txt 4))]
def modEl (d : Mo) : El:=lst 48 [num 10 (d.kind - 1), attrEl d]
def parts (m : Mg) : List El :=
 if m.op = 1 then [num 2 m.ver, txt 4 m.dn, txt 128 m.pass]
 else if m.op = 3 then [txt 4 m.dn, num 10 m.scope, num 10 0, num 2 m.size, num 2 0, flg false, filEl m.fil, lst 48 (m.wants.map (txt 4))]
 else if m.op = 4 then [txt 4 m.dn, lst 48 (m.mods.map modEl)]
 else if m.op = 5 ∨ m.op = 10 then [txt 4 m.dn, lst 48 (m.mods.map attrEl)]
 else if m.op = 7 then [txt 4 m.dn, txt 4 m.rdn, flg m.del] ++ (if m.has then [txt 128 m.sup] else [])
 else if m.op = 8 then [txt 4 m.dn, lst 48 [txt 4 m.attr, txt 4 m.value]]
 else [num 10 m.code, txt 4 m.matched, txt 4 no]
def opEl (m : Mg) : El:=if m.op = 2 ∨ m.op = 6 then txt (opTag m.op m.ref) m.dn else lst (opTag m.op m.ref) (parts m)
def msgEl (m : Mg) : El:=lst 48 [num 2 m.id, opEl m]
def encM (m : Mg) : List UInt8 × Nat :=
 if isM m = false then ([], 14) else if 4000 < (enc (msgEl m)).length then ([], 13) else if 20 < dep (msgEl m) then ([], 12) else (enc (msgEl m), 0)
def bodyE : El → ByteArray
 | .mk _ b _=>b
def kidsE : El → List El
 | .mk _ _ ks=>ks
def tagE : El → Nat
 | .mk t _ _=>t
def noE : El:=.mk 0 no []
def kidE (e : El) (i : Nat) : El:=(kidsE e).getD i noE
def textAt (e : El) (i : Nat) : ByteArray:=bodyE (kidE e i)
def numAt (e : El) (i : Nat) : Int:=(rdI (bs (textAt e i))).getD 0
def flagAt (e : El) (i : Nat) : Bool:=decide ((bs (textAt e i)).length = 1) && decide (bs (textAt e i) ≠ [0])
def rdSubs : ByteArray → List ByteArray → ByteArray → List El → List ByteArray
 | x, l, y, []=>x :: (l ++ [y])
 | x, l, y, e :: r=>if tagE e = 128 then rdSubs (bodyE e) l y r else if tagE e = 129 then rdSubs x (l ++ [bodyE e]) y r else if tagE e = 130 then rdSubs x l (bodyE e) r else rdSubs x l y r
mutual
def rdFil : El → Fil
 | .mk t b ks =>
  if filKind t = 1 ∨ filKind t = 2 ∨ filKind t = 3 then .mk (filKind t) no no [] (rdFils ks)
  else if filKind t = 7 then .mk (filKind t) b no [] []
  else if filKind t = 8 then .mk (filKind t) (bodyE (ks.getD 0 noE)) no (rdSubs no [] no (kidsE (ks.getD 1 noE))) []
  else .mk (filKind t) (bodyE (ks.getD 0 noE)) (bodyE (ks.getD 1 noE)) [] []
def rdFils : List El → List Fil
 | []=>[]
 | e :: r=>rdFil e :: rdFils r
end
def rdAttr (e : El) : Mo:=⟨1, textAt e 0, (kidsE (kidE e 1)).map bodyE⟩
def rdMod (e : El) : Mo:={ rdAttr (kidE e 1) with kind:=numAt e 0 + 1 }
def rdM (e : El) : Mg :=
 let o:=kidE e 1
 let z : Mg:={ zero with id:=numAt e 0, op:=(opOf (tagE o)).1, ref:=(opOf (tagE o)).2 }
 if z.op = 1 then { z with ver:=numAt o 0, dn:=textAt o 1, pass:=textAt o 2 }
 else if z.op = 3 then { z with dn:=textAt o 0, scope:=numAt o 1, size:=numAt o 3, fil:=rdFil (kidE o 6), wants:=(kidsE (kidE o 7)).map bodyE }
 else if z.op = 4 then { z with dn:=textAt o 0, mods:=(kidsE (kidE o 1)).map rdMod }
 else if z.op = 5 ∨ z.op = 10 then { z with dn:=textAt o 0, mods:=(kidsE (kidE o 1)).map rdAttr }
 else if z.op = 6 then { z with dn:=bodyE o }
 else if z.op = 7 then { z with dn:=textAt o 0, rdn:=textAt o 1, del:=flagAt o 2, has:=decide (3 < (kidsE o).length), sup:=textAt o 3 }
 else if z.op = 8 then { z with dn:=textAt o 0, attr:=textAt (kidE o 1) 0, value:=textAt (kidE o 1) 1 }
 else if z.op = 9 then { z with code:=numAt o 0, matched:=textAt o 1 }
 else z
def decM (s : List UInt8) : Mg × Nat:=match rd 20 s 0 with
 | .bad _ x=>(zero, x)
 | .ok e _=>if (encM (rdM e)).1 = s then (rdM e, 0) else (zero, 14)
end Ms
end Go.Proofs.YtconghaebebncaaGreatDoor
namespace Go.Proofs.YtconghaebebncaaGreatDoor
open Go.RowKit
theorem ret_int {k : IntKind} {a b : Int} (h : a = b) : Ending.returned (.int k a) = .returned (.int k b):=by rw [h]
theorem ret_bool {a b : Bool} (h : a = b) : Ending.returned (.bool a) = .returned (.bool b):=by rw [h]
theorem ret_str {a b : ByteArray} (h : a = b) : Ending.returned (.string a) = .returned (.string b):=by rw [h]
theorem u8_lt (b : UInt8) : b.toNat < 256:=b.toNat_lt
end Go.Proofs.YtconghaebebncaaGreatDoor
namespace Go.Proofs.YtconghaebebncaaGreatDoor
open Go.RowKit
def Row (w : World) (g : Nat) (l : List UInt8) : Prop :=
 ∃ (cur : Array Value) (n m : Nat), w.heap[g]? = some (.cells cur 5 (n, m)) ∧ cur.size ≤ n ∧ l.length ≤ cur.size ∧ cur.toList.take l.length = l.map fun b=>Value.int .u8 (b.toNat : Int)
theorem Row.lt {w : World} {g : Nat} {l : List UInt8} (h : Row w g l) : g < w.heap.size:=by
 obtain ⟨cur, n, m, hg, _⟩:=h
 rcases Nat.lt_or_ge g w.heap.size with h' | h'
 ·exact h'
 ·simp [Array.getElem?_eq_none h'] at hg
theorem Row.past {w w' : World} {g : Nat} {l : List UInt8} (h : Row w g l) (hb : Below w.heap.size w w') : Row w' g l:=by
 have hlt:=h.lt
 obtain ⟨cur, n, m, hg, r⟩:=h
 exact ⟨cur, n, m, (hb.block g hlt).trans hg, r⟩
theorem Row.drew {w : World} {g : Nat} {l : List UInt8} (h : Row w g l) : Row w.drew g l:=h
theorem cell_of_mark (w : World) (g i : Nat) (cur : Array Value) (t : TypeId) (f : Nat × Nat) (h : w.heap[g]? = some (.cells cur t f)) : w.cell? ⟨g, i, none⟩ = cur[i]?:=by
 unfold World.cell?
 rw [h]
 simp
theorem Row.cell {w : World} {g : Nat} {l : List UInt8} (h : Row w g l) {i : Nat} {c : UInt8} (hi : l[i]? = some c) : w.cell? ⟨g, i, none⟩ = some (.int .u8 (c.toNat : Int)):=by
 obtain ⟨cur, n, m, hg, hn, hl, ht⟩:=h
 have hlt:=(List.getElem?_eq_some_iff.1 hi).1
 rw [cell_of_mark w g i cur _ _ hg]
 have h1 : (cur.toList.take l.length)[i]? = some (.int .u8 (c.toNat : Int)):=by
  rw [ht, List.getElem?_map, hi]
  rfl
 rw [List.getElem?_take_of_lt hlt] at h1
 simpa using h1
theorem Row.frozen {w : World} {g : Nat} {l : List UInt8} (h : Row w g l) {i : Nat} (hi : i < l.length) : w.frozen? ⟨g, i, none⟩ = false:=by
 obtain ⟨cur, n, m, hg, hn, hl, ht⟩:=h
 unfold World.frozen?
 rw [hg]
 simp
 omega
theorem Row.set_ {w : World} {g : Nat} {l : List UInt8} (h : Row w g l) (i : Nat) (c : UInt8) : Row (w.setCell ⟨g, i, none⟩ (.int .u8 (c.toNat : Int))) g (l.set i c):=by
 obtain ⟨cur, n, m, hg, hn, hl, ht⟩:=h
 refine ⟨cur.setIfInBounds i (.int .u8 (c.toNat : Int)), n, m, ?_, by simpa using hn, by simpa using hl, ?_⟩
 ·simp [World.setCell, Array.getElem?_modify, hg]
 ·rw [List.length_set, Array.toList_setIfInBounds, List.map_set, ← ht, List.take_set]
theorem row_of_string (s : ByteArray) (w : World) : ∃ cap w', (convert 9 40 (.string s)).run Tryz.prog w = .ok (.slice (some ⟨w.heap.size, 0, none⟩) s.size cap) w' ∧
  Row w' w.heap.size (Nm.bs s) ∧ Below w.heap.size w w' ∧ w'.heap.size = w.heap.size + 1:=by
 refine ⟨_, _, run_bytes_of_string (P:=Tryz.prog) w 9 40 5 s Tryz.underlying9 Tryz.underlying40 Tryz.underlying5, ?_, ?_, by simp⟩
 ·refine ⟨_, _, _, heap_alloc_new w.drew _, Nat.le_refl _, ?_, ?_⟩
  ·show s.size ≤ _
   simp [bytesRow]
  ·unfold bytesRow
   have e : ((s.data.map fun b=>Value.int .u8 (b.toNat : Int)).toList).length = (Nm.bs s).length:=by simp
   rw [Array.toList_append, ← e, List.take_left]
   simp
 ·exact ((Below.refl _ _).drew).alloc (by simp) _
theorem row_string {w : World} {g cap : Nat} {l : List UInt8} (h : Row w g l) : (convert 40 9 (.slice (some ⟨g, 0, none⟩) l.length cap)).run Tryz.prog w = .ok (.string (Nm.mk l)) w :=
 run_convert_bytes_back (P:=Tryz.prog) w 40 9 5 ⟨g, 0, none⟩ cap l Tryz.underlying40 Tryz.underlying5 Tryz.underlying9 (fun j hj=>by
  rw [Addr.add_lit, Nat.zero_add]
  exact h.cell (List.getElem?_eq_getElem hj))
end Go.Proofs.YtconghaebebncaaGreatDoor
namespace Go.Proofs.YtconghaebebncaaGreatDoor
namespace Fi
open _root_.Go.Proofs.YtconghaebebncaaGreatDoor.Nm
theorem mk_of (b : ByteArray) : mk (bs b) = b:=rfl
theorem size0 {b : ByteArray} (h : b.size = 0) : b = mk []:=by
 have : bs b = []:=List.eq_nil_of_length_eq_zero h
 rw [← mk_of b, this]
end Fi
end Go.Proofs.YtconghaebebncaaGreatDoor
