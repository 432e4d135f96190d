import Derived.Lib.Strings
import Derived.Below
import Derived.Laws.OwnMore
import Derived.Laws.Rows
import Derived.Lib.IndexBytes
import Derived.Laws.MathBits
import Derived.Laws.BytesArg
import Derived.KernelRfl
/- Names as lists of bytes: what a type, an AVA, a part, a name is, how it is printed, how it is read. Plain functions: nothing of the program is used here. -/
namespace Go.Proofs.YtconghaebebncaaGreatDoor
namespace Nm

/-- An AVA: its type, its value. -/
abbrev Ava := ByteArray × ByteArray
abbrev bs (b : ByteArray) : List UInt8 := b.data.toList
abbrev mk (l : List UInt8) : ByteArray := ⟨l.toArray⟩

def sm (c : UInt8) : UInt8 := if 65 ≤ c.toNat ∧ c.toNat ≤ 90 then c + 32 else c
def lower (l : List UInt8) : List UInt8 := l.map sm
def smallC (c : UInt8) : Bool := decide (97 ≤ c.toNat ∧ c.toNat ≤ 122)
def typeC (c : UInt8) : Bool := decide (97 ≤ c.toNat ∧ c.toNat ≤ 122 ∨ 48 ≤ c.toNat ∧ c.toNat ≤ 57 ∨ c.toNat = 45)
def isType (l : List UInt8) : Bool := decide (l.length ≤ 16) && match l with
  | [] => false
  | c :: r => smallC c && r.all typeC
def okAva (a : Ava) : Bool := isType (bs a.1) && decide (1 ≤ a.2.size ∧ a.2.size ≤ 60)
/-- The AVAs of the second list are right, behind those of the first. -/
def okFrom : List Ava → List Ava → Bool
  | _, [] => true
  | pre, a :: r => okAva a && pre.all (fun b => !decide (b.1 = a.1)) && okFrom (pre ++ [a]) r
def isRdn (r : List Ava) : Bool := decide (1 ≤ r.length) && decide (r.length ≤ 4) && okFrom [] r
def isDn (d : List (List Ava)) : Bool := decide (d.length ≤ 8) && d.all isRdn

/-- , + " \ < > ; -/
def special (c : UInt8) : Bool := decide (c.toNat = 44 ∨ c.toNat = 43 ∨ c.toNat = 34 ∨ c.toNat = 92 ∨ c.toNat = 60 ∨ c.toNat = 62 ∨ c.toNat = 59)
def hexc (n : Nat) : UInt8 := if n < 10 then (48 + n).toUInt8 else (87 + n).toUInt8
def escB (first last : Bool) (c : UInt8) : List UInt8 :=
  if c.toNat < 32 ∨ 126 < c.toNat then [92, hexc (c.toNat / 16), hexc (c.toNat % 16)]
  else if special c || first && decide (c.toNat = 35 ∨ c.toNat = 32) || last && decide (c.toNat = 32) then [92, c]
  else [c]
def escV : Bool → List UInt8 → List UInt8
  | _, [] => []
  | f, c :: r => escB f r.isEmpty c ++ escV false r
def prAva (a : Ava) : List UInt8 := bs a.1 ++ 61 :: escV true (bs a.2)
def join (sep : UInt8) : List (List UInt8) → List UInt8
  | [] => []
  | [x] => x
  | x :: y :: r => x ++ sep :: join sep (y :: r)
def prRdn (r : List Ava) : List UInt8 := join 43 (r.map prAva)
def prDn (d : List (List Ava)) : List UInt8 := join 44 (d.map prRdn)

def dig (c : UInt8) : Option Nat :=
  if 48 ≤ c.toNat ∧ c.toNat ≤ 57 then some (c.toNat - 48)
  else if 97 ≤ c.toNat ∧ c.toNat ≤ 102 then some (c.toNat - 87)
  else if 65 ≤ c.toNat ∧ c.toNat ≤ 70 then some (c.toNat - 55)
  else none
def escOk (c : UInt8) : Bool := special c || decide (c.toNat = 35 ∨ c.toNat = 61 ∨ c.toNat = 32)
/-- Behind a backslash: the byte, and how long its text is, the backslash counted. -/
def unE : List UInt8 → Option (UInt8 × Nat)
  | [] => none
  | c :: r => if escOk c then some (c, 2) else match r with
    | [] => none
    | e :: _ => match dig c, dig e with
      | some h, some l => some ((16 * h + l).toUInt8, 3)
      | _, _ => none
/-- The first byte of a value's text. -/
def unB (sp : UInt8 → Bool) (first : Bool) : List UInt8 → Option (UInt8 × Nat)
  | [] => none
  | c :: r => if c = 92 then unE r else if sp c || first && decide (c.toNat = 35 ∨ c.toNat = 32) || r.isEmpty && decide (c.toNat = 32) then none else some (c, 1)
/-- A value's text. -/
def unV (sp : UInt8 → Bool) : Nat → Bool → List UInt8 → Option (List UInt8)
  | 0, _, _ => some []
  | _ + 1, _, [] => some []
  | n + 1, f, c :: r => match unB sp f (c :: r) with
    | none => none
    | some (b, k) => match unV sp n false ((c :: r).drop k) with
      | none => none
      | some v => some (b :: v)

/-- Where the first sep is that no backslash is ahead of. -/
def pos (sep : UInt8) : List UInt8 → Option Nat
  | [] => none
  | c :: r => if c = 92 then (match r with
      | [] => none
      | _ :: r' => (pos sep r').map (· + 2))
    else if c = sep then some 0 else (pos sep r).map (· + 1)
def cons1 (x : List UInt8) : List (List UInt8) → List (List UInt8)
  | [] => [x]
  | y :: r => (x ++ y) :: r
def cuts (sep : UInt8) : List UInt8 → List (List UInt8)
  | [] => [[]]
  | c :: r => if c = 92 then (match r with
      | [] => [[c]]
      | d :: r' => cons1 [c, d] (cuts sep r'))
    else if c = sep then [] :: cuts sep r else cons1 [c] (cuts sep r)
def eqAt : List UInt8 → Option Nat
  | [] => none
  | c :: r => if c = 61 then some 0 else (eqAt r).map (· + 1)
/-- The text of an AVA. -/
def ava (p : List UInt8) : Option Ava := match eqAt p with
  | none => none
  | some k => match unV special p.length true (p.drop (k + 1)) with
    | none => none
    | some v => some (mk (lower (p.take k)), mk v)
def avas : List (List UInt8) → Option (List Ava)
  | [] => some []
  | p :: r => match ava p with
    | none => none
    | some a => match avas r with
      | none => none
      | some l => some (a :: l)
def ifRdn (r : List Ava) : Option (List Ava) := if isRdn r then some r else none
def rdn (s : List UInt8) : Option (List Ava) := (avas (cuts 43 s)).bind ifRdn
def rdns : List (List UInt8) → Option (List (List Ava))
  | [] => some []
  | p :: r => match rdn p with
    | none => none
    | some a => match rdns r with
      | none => none
      | some l => some (a :: l)
def ifDn (d : List (List Ava)) : Option (List (List Ava)) := if isDn d then some d else none
def dnm (s : List UInt8) : Option (List (List Ava)) := if s = [] then some [] else (rdns (cuts 44 s)).bind ifDn
end Nm
end Go.Proofs.YtconghaebebncaaGreatDoor

/- Filters as trees: how many nodes, what is a filter, its text, what is read of a text. Plain functions: nothing of the program is used here. -/
namespace Go.Proofs.YtconghaebebncaaGreatDoor
set_option linter.unusedVariables false

inductive Fil where
  | mk (kind : Int) (attr value : ByteArray) (subs : List ByteArray) (kids : List Fil)

namespace Fi
open Nm

theorem ind {p : Fil → Prop} (h : ∀ k a v ss ks, (∀ f ∈ ks, p f) → p (.mk k a v ss ks)) (f : Fil) : p f :=
  Fil.rec (motive_1 := p) (motive_2 := fun ks => ∀ f ∈ ks, p f) (fun k a v ss ks ih => h k a v ss ks ih) (fun f hf => by cases hf)
    (fun f ks hf hks x hx => by
      rcases List.mem_cons.1 hx with rfl | hx
      · exact hf
      · exact hks x hx) f

mutual
def eqF : Fil → Fil → Bool
  | .mk k a v ss ks, .mk k' a' v' ss' ks' => decide (k = k') && (decide (a = a') && (decide (v = v') && (decide (ss = ss') && eqFs ks ks')))
def eqFs : List Fil → List Fil → Bool
  | [], [] => true
  | f :: r, f' :: r' => eqF f f' && eqFs r r'
  | _, _ => false
end
theorem eqF_self (f : Fil) : eqF f f = true := by
  refine ind (p := fun f => eqF f f = true) ?_ f
  intro k a v ss ks ih
  have : ∀ l : List Fil, (∀ f ∈ l, eqF f f = true) → eqFs l l = true := by
    intro l hl
    induction l with
    | nil => simp [eqFs]
    | cons f l ihl => simp [eqFs, hl f (by simp), ihl (fun x hx => hl x (by simp [hx]))]
  simp [eqF, this ks ih]
theorem eqFs_len : ∀ {l l' : List Fil}, l.length ≠ l'.length → eqFs l l' = false
  | [], [], h => absurd rfl h
  | [], _ :: _, _ => by simp [eqFs]
  | _ :: _, [], _ => by simp [eqFs]
  | f :: l, f' :: l', h => by simp [eqFs, eqFs_len (l := l) (l' := l') (by simpa using h)]
theorem eqFs_drop {l l' : List Fil} {i : Nat} (h : i < l.length) (h' : i < l'.length) : eqFs (l.drop i) (l'.drop i) = (eqF l[i] l'[i] && eqFs (l.drop (i + 1)) (l'.drop (i + 1))) := by
  rw [List.drop_eq_getElem_cons h, List.drop_eq_getElem_cons h', eqFs]

/-- Kinds that have Kids. -/
def hasK (k : Int) : Bool := decide (1 ≤ k ∧ k ≤ 3)
mutual
/-- How many nodes. -/
def tot : Fil → Nat
  | .mk k _ _ _ ks => if hasK k then 1 + tots ks else 1
def tots : List Fil → Nat
  | [] => 0
  | f :: r => tot f + tots r
end
theorem tot_pos (f : Fil) : 1 ≤ tot f := by
  obtain ⟨k, a, v, ss, ks⟩ := f
  rw [tot]
  split <;> omega
theorem tots_app : ∀ l l' : List Fil, tots (l ++ l') = tots l + tots l'
  | [], l' => by simp [tots]
  | f :: r, l' => by rw [List.cons_append, tots, tots, tots_app r l']; omega
theorem tots_len : ∀ l : List Fil, l.length ≤ tots l
  | [] => by simp
  | f :: r => by have := tots_len r; have := tot_pos f; rw [tots, List.length_cons]; omega

/-- Subs that a filter may have. -/
def subsOk (ss : List ByteArray) : Bool :=
  decide (2 ≤ ss.length ∧ ss.length ≤ 20) && (((ss.take (ss.length - 1)).drop 1).all (fun s => decide (s.size ≠ 0)) && (ss.all (fun s => decide (s.size ≤ 60)) && ss.any (fun s => decide (s.size ≠ 0))))
mutual
/-- Each has what its kind has, and nothing else. -/
def frm : Fil → Bool
  | .mk k a v ss ks =>
    if hasK k then decide (k = 3 → ks.length = 1) && (decide (a.size = 0) && (decide (v.size = 0) && (decide (ss.length = 0) && frms ks)))
    else decide (4 ≤ k ∧ k ≤ 8) && (isType (bs a) && (decide (ks.length = 0) && (
      if k = 7 then decide (v.size = 0) && decide (ss.length = 0)
      else if k = 8 then decide (v.size = 0) && subsOk ss
      else decide (v.size ≤ 60) && decide (ss.length = 0))))
def frms : List Fil → Bool
  | [] => true
  | f :: r => frm f && frms r
end
theorem frms_all : ∀ l : List Fil, frms l = l.all frm
  | [] => rfl
  | f :: r => by rw [frms, frms_all r, List.all_cons]
theorem frms_drop {l : List Fil} {i : Nat} (h : i < l.length) : frms (l.drop i) = (frm l[i] && frms (l.drop (i + 1))) := by
  rw [List.drop_eq_getElem_cons h, frms]
def isF (f : Fil) : Bool := decide (tot f ≤ 20) && frm f

def sign (k : Int) : List UInt8 := if k = 1 then [38] else if k = 2 then [124] else if k = 3 then [33] else if k = 5 then [62, 61] else if k = 6 then [60, 61] else [61]
/-- What is told by its digits. -/
def odd (c : UInt8) : Bool := decide (c.toNat < 32 ∨ 126 < c.toNat ∨ c.toNat = 42 ∨ c.toNat = 40 ∨ c.toNat = 41 ∨ c.toNat = 92)
def escC (c : UInt8) : List UInt8 := if odd c then [92, hexc (c.toNat / 16), hexc (c.toNat % 16)] else [c]
def esc (l : List UInt8) : List UInt8 := l.flatMap escC
/-- The Subs from a place on: a star ahead of each but the first. -/
def stars : List ByteArray → List UInt8
  | [] => []
  | s :: r => 42 :: (esc (bs s) ++ stars r)
def parts : List ByteArray → List UInt8
  | [] => []
  | s :: r => esc (bs s) ++ stars r
mutual
/-- The text, of one that is a filter. -/
def pr : Fil → List UInt8
  | .mk k a v ss ks => 40 :: (bs a ++ (sign k ++ (prs ks ++ (parts ss ++ (esc (bs v) ++ ((if k = 7 then [42] else []) ++ [41]))))))
def prs : List Fil → List UInt8
  | [] => []
  | f :: r => pr f ++ prs r
end
theorem prs_app : ∀ l l' : List Fil, prs (l ++ l') = prs l ++ prs l'
  | [], l' => by simp [prs]
  | f :: r, l' => by rw [List.cons_append, prs, prs, prs_app r l', List.append_assoc]
def print (f : Fil) : List UInt8 := if isF f then pr f else []

/-- What is ahead of the first c, and what is behind it. -/
def upto (c : UInt8) : List UInt8 → List UInt8
  | [] => []
  | b :: r => if b = c then [] else b :: upto c r
def past (c : UInt8) : List UInt8 → List UInt8
  | [] => []
  | b :: r => if b = c then r else past c r
/-- What a digit counts; 255 where it is none. -/
def dg (c : UInt8) : UInt8 := if 48 ≤ c.toNat ∧ c.toNat ≤ 57 then (c.toNat - 48).toUInt8 else if 97 ≤ c.toNat ∧ c.toNat ≤ 102 then (c.toNat - 87).toUInt8 else 255
/-- The byte of two digits. -/
def byte (a b : UInt8) : UInt8 := (dg a <<< 4) ||| dg b
/-- A value's text, read as far as so many bytes. -/
def rv : Nat → List UInt8 → List UInt8
  | 0, _ => []
  | _ + 1, [] => []
  | n + 1, c :: r => if c = 92 then (match r with
      | a :: b :: t => byte a b :: rv n t
      | _ => c :: rv n r) else c :: rv n r
/-- Cut at stars, so many at most. -/
def split : Nat → List UInt8 → List (List UInt8)
  | 0, l => [l]
  | n + 1, l => if 42 ∈ l then upto 42 l :: split n (past 42 l) else [l]
def last (l : List UInt8) : Nat := match l.getLast? with
  | none => 0
  | some c => c.toNat
/-- The kind of what has no Kids, by what is ahead of the equals sign and what is behind it. -/
def kindOf (x y : List UInt8) : Int := if last x = 62 then 5 else if last x = 60 then 6 else if y = [42] then 7 else if 42 ∈ y then 8 else 4
/-- Without those at the end. -/
def trim (l : List UInt8) : List UInt8 := (l.reverse.dropWhile ([60, 62].contains ·)).reverse
def itemOf (k : Int) (x y : List UInt8) : Fil :=
  .mk k (mk (trim x)) (if k = 7 ∨ k = 8 then mk [] else mk (rv 61 y)) (if k = 8 then (split 20 y).map (fun l => mk (rv 61 l)) else []) []
def item (l : List UInt8) : Fil := itemOf (kindOf (upto 61 l) (past 61 l)) (upto 61 l) (past 61 l)
/-- Kids, one behind the other, up to the bracket: ks are those that there are. -/
def lp (rd : Nat → List UInt8 → Option (Fil × List UInt8)) (k : Int) (m : Nat) : Nat → List Fil → List UInt8 → Option (Fil × List UInt8)
  | 0, _, _ => none
  | j + 1, ks, s => if s.head? = some 41 then some (.mk k (mk []) (mk []) [] ks, s.tail) else match rd (m - (1 + tots ks)) s with
    | none => none
    | some (f, r) => lp rd k m j (ks ++ [f]) r
/-- The filter at the front, of at most m nodes. -/
def rd : Nat → Nat → List UInt8 → Option (Fil × List UInt8)
  | 0, _, _ => none
  | n + 1, m, s => if s.head? ≠ some 40 ∨ m = 0 then none
    else if s.tail.head? = some 38 then lp (rd n) 1 m m [] s.tail.tail
    else if s.tail.head? = some 124 then lp (rd n) 2 m m [] s.tail.tail
    else if s.tail.head? = some 33 then lp (rd n) 3 m m [] s.tail.tail
    else some (item (upto 41 s.tail), past 41 s.tail)
/-- The filter whose text s is. -/
def parse (s : List UInt8) : Option Fil := match rd 20 20 s with
  | none => none
  | some (f, _) => if print f = s then some f else none
end Fi
end Go.Proofs.YtconghaebebncaaGreatDoor

/- Plain functions on lists of bytes: the head of an element, numbers of several bytes. Nothing of the program is used here. -/
namespace Go.Proofs.YtconghaebebncaaGreatDoor
namespace Sp

/-- The number whose bytes these are, the highest first. -/
def num (l : List UInt8) : Nat := l.foldl (fun n b => 256 * n + b.toNat) 0

/-- P1.1: how many bytes tag and length are, how long the body is, the error. -/
def hd : List UInt8 → Nat × Nat × Nat
  | [] => (0, 0, 10)
  | t :: r =>
    if t.toNat % 32 = 31 then (0, 0, 14) else
    match r with
    | [] => (0, 0, 10)
    | b :: r =>
      if b.toNat < 128 then (2, b.toNat, 0)
      else if b.toNat = 128 ∨ 132 < b.toNat then (0, 0, 11)
      else if r.length < b.toNat - 128 then (0, 0, 10)
      else if 4000 < num (r.take (b.toNat - 128)) then (0, 0, 13)
      else (2 + (b.toNat - 128), num (r.take (b.toNat - 128)), 0)

end Sp
end Go.Proofs.YtconghaebebncaaGreatDoor

/- Elements as trees, and how they lie in memory: 'Lies w P e cs': the three cells cs of an element read as the tree e in the world w, through blocks of which P holds. -/
namespace Go.Proofs.YtconghaebebncaaGreatDoor.Be
open Go.RowKit
set_option linter.unusedVariables false

inductive El where
  | mk (tag : Nat) (body : ByteArray) (kids : List El)

theorem El.ind {p : El → Prop} (h : ∀ t b ks, (∀ k ∈ ks, p k) → p (.mk t b ks)) (e : El) : p e :=
  El.rec (motive_1 := p) (motive_2 := fun ks => ∀ k ∈ ks, p k) (fun t b ks ih => h t b ks ih) (fun k hk => by cases hk)
    (fun k ks hk hks x hx => by
      rcases List.mem_cons.1 hx with rfl | hx
      · exact hk
      · exact hks x hx) e

mutual
def eqEl : El → El → Bool
  | .mk t b ks, .mk t' b' ks' => decide (t = t') && (decide (b = b') && eqEls ks ks')
def eqEls : List El → List El → Bool
  | [], [] => true
  | k :: ks, k' :: ks' => eqEl k k' && eqEls ks ks'
  | _, _ => false
end
theorem eqEl_self (e : El) : eqEl e e = true := by
  refine El.ind (p := fun e => eqEl e e = true) ?_ e
  intro t b ks ih
  have : ∀ l : List El, (∀ k ∈ l, eqEl k k = true) → eqEls l l = true := by
    intro l hl
    induction l with
    | nil => simp [eqEls]
    | cons k l ihl => simp [eqEls, hl k (by simp), ihl (fun x hx => hl x (by simp [hx]))]
  simp [eqEl, this ks ih]
theorem eqEls_len : ∀ {l l' : List El}, l.length ≠ l'.length → eqEls l l' = false
  | [], [], h => absurd rfl h
  | [], _ :: _, _ => by simp [eqEls]
  | _ :: _, [], _ => by simp [eqEls]
  | k :: l, k' :: l', h => by simp [eqEls, eqEls_len (l := l) (l' := l') (by simpa using h)]
theorem eqEls_drop {l l' : List El} {i : Nat} (h : i < l.length) (h' : i < l'.length) : eqEls (l.drop i) (l'.drop i) = (eqEl l[i] l'[i] && eqEls (l.drop (i + 1)) (l'.drop (i + 1))) := by
  rw [List.drop_eq_getElem_cons h, List.drop_eq_getElem_cons h', eqEls]

theorem block_of_add (a : Addr) (n : Nat) : (a.add n).block = a.block := by unfold Addr.add; split <;> rfl
theorem add_of_add (a : Addr) (i j : Nat) : (a.add i).add j = a.add (i + j) := by
  unfold Addr.add
  by_cases hi : i = 0 <;> by_cases hj : j = 0 <;> simp [hi, hj, Nat.add_assoc]

theorem bat {B : Nat} {w w' : World} (hb : Below B w w') {b o : Nat} {v : Value} (h : b < B) (f : w.cell? ⟨b, o, none⟩ = some v) : w'.cell? ⟨b, o, none⟩ = some v := (hb.cell (p := ⟨b, o, none⟩) h).trans f
theorem batA {B : Nat} {w w' : World} (hb : Below B w w') {p : Addr} {v : Value} (h : p.block < B) (f : w.cell? p = some v) : w'.cell? p = some v := (hb.cell h).trans f

inductive Lies (w : World) (P : Nat → Prop) : El → List Value → Prop
  | mk (tag : Nat) (body : ByteArray) (kids : List El) (A : Option Addr) (c : Nat) (cs : Nat → List Value)
      (ht : tag ≤ 255) (hb : body.size ≤ maxLen) (hl : kids.length ≤ maxLen) (h3 : ∀ i, i < kids.length → (cs i).length = 3)
      (hA : 0 < kids.length → ∃ ad, A = some ad ∧ P ad.block ∧ ∀ i, i < kids.length → ∀ j u, (cs i)[j]? = some u → w.cell? (ad.add (i * 3 + j)) = some u)
      (hk : ∀ i (h : i < kids.length), Lies w P kids[i] (cs i)) :
      Lies w P (.mk tag body kids) [.int .u8 tag, .string body, .slice A kids.length c]

theorem Lies.imp {w w' : World} {P P' : Nat → Prop} {e : El} {cs : List Value} (h : Lies w P e cs) (hP : ∀ b, P b → P' b) (hw : ∀ p : Addr, P p.block → w'.cell? p = w.cell? p) : Lies w' P' e cs := by
  induction h with
  | mk tag body kids A c cs ht hb hl h3 hA hk ih =>
    refine .mk tag body kids A c cs ht hb hl h3 (fun h0 => ?_) ih
    obtain ⟨ad, e, hp, hc⟩ := hA h0
    exact ⟨ad, e, hP _ hp, fun i hi j u hu => (hw _ (by rw [block_of_add]; exact hp)).trans (hc i hi j u hu)⟩
theorem Lies.kept {w w' : World} {B : Nat} {e : El} {cs : List Value} (h : Lies w (· < B) e cs) (hb : Below B w w') : Lies w' (· < B) e cs :=
  h.imp (fun _ h => h) (fun p hp => hb.cell hp)
theorem Lies.more {w : World} {B B' : Nat} {e : El} {cs : List Value} (h : Lies w (· < B) e cs) (hb : B ≤ B') : Lies w (· < B') e cs :=
  h.imp (fun _ h => Nat.lt_of_lt_of_le h hb) (fun p hp => rfl)
theorem Lies.drew {w : World} {P : Nat → Prop} {e : El} {cs : List Value} (h : Lies w P e cs) : Lies w.drew P e cs := h.imp (fun _ h => h) (fun _ _ => rfl)
/-- At the size of the world itself: behind a call that leaves all that was there. -/
theorem Lies.past {w w' : World} {e : El} {cs : List Value} (h : Lies w (· < w.heap.size) e cs) (hb : Below w.heap.size w w') : Lies w' (· < w'.heap.size) e cs :=
  (h.kept hb).more hb.size
/-- The kids' cells: three each, one kid behind the other from A on. -/
def KidsAt (w : World) (P : Nat → Prop) (A : Option Addr) (ks : List El) (ds : Nat → List Value) : Prop :=
  (∀ i, i < ks.length → (ds i).length = 3) ∧
  (0 < ks.length → ∃ ad, A = some ad ∧ P ad.block ∧ ∀ i, i < ks.length → ∀ j u, (ds i)[j]? = some u → w.cell? (ad.add (i * 3 + j)) = some u) ∧
  ∀ i (h : i < ks.length), Lies w P ks[i] (ds i)
theorem KidsAt.imp {w w' : World} {P P' : Nat → Prop} {A : Option Addr} {ks : List El} {ds : Nat → List Value} (h : KidsAt w P A ks ds) (hP : ∀ b, P b → P' b) (hw : ∀ p : Addr, P p.block → w'.cell? p = w.cell? p) :
    KidsAt w' P' A ks ds := by
  refine ⟨h.1, fun h0 => ?_, fun i hi => (h.2.2 i hi).imp hP hw⟩
  obtain ⟨ad, e, hp, hc⟩ := h.2.1 h0
  exact ⟨ad, e, hP _ hp, fun i hi j u hu => (hw _ (by rw [block_of_add]; exact hp)).trans (hc i hi j u hu)⟩
theorem KidsAt.past {w w' : World} {A : Option Addr} {ks : List El} {ds : Nat → List Value} (h : KidsAt w (· < w.heap.size) A ks ds) (hb : Below w.heap.size w w') : KidsAt w' (· < w'.heap.size) A ks ds :=
  h.imp (fun _ h => Nat.lt_of_lt_of_le h hb.size) (fun p hp => hb.cell hp)
theorem Lies.open_ {w : World} {P : Nat → Prop} {t : Nat} {b : ByteArray} {ks : List El} {cs : List Value} (h : Lies w P (.mk t b ks) cs) :
    ∃ (A : Option Addr) (c : Nat) (ds : Nat → List Value), cs = [.int .u8 t, .string b, .slice A ks.length c] ∧ t ≤ 255 ∧ b.size ≤ maxLen ∧ ks.length ≤ maxLen ∧ KidsAt w P A ks ds := by
  cases h with
  | mk tag body kids A c cs ht hb hl h3 hA hk => exact ⟨A, c, cs, rfl, ht, hb, hl, h3, hA, hk⟩
theorem Lies.shut {w : World} {P : Nat → Prop} {t : Nat} {b : ByteArray} {ks : List El} {A : Option Addr} {c : Nat} {ds : Nat → List Value} (ht : t ≤ 255) (hb : b.size ≤ maxLen) (hl : ks.length ≤ maxLen) (h : KidsAt w P A ks ds) :
    Lies w P (.mk t b ks) [.int .u8 t, .string b, .slice A ks.length c] := .mk t b ks A c ds ht hb hl h.1 h.2.1 h.2.2
theorem Lies.leaf {w : World} {P : Nat → Prop} {t : Nat} {b : ByteArray} (ht : t ≤ 255) (hb : b.size ≤ maxLen) : Lies w P (.mk t b []) [.int .u8 t, .string b, .slice none 0 0] :=
  Lies.shut (ks := []) (A := none) (c := 0) (ds := fun _ => []) ht hb (by simp) ⟨fun i h => absurd h (by simp), fun h => absurd h (by simp), fun i h => absurd h (by simp)⟩
theorem add_one_two (a : Addr) (n i : Nat) (hi : 0 < i) : a.add (n + i) = ⟨(a.add n).block, (a.add n).off + i, none⟩ := by
  rw [← add_of_add]
  show Addr.add _ i = _
  unfold Addr.add
  rw [if_neg (by omega)]
/-- A kid's cells, one by one: in a later world, in which all that lay below is as it was. -/
theorem KidsAt.kid {w wr : World} {ks : List El} {A : Option Addr} {ds : Nat → List Value} (hK : KidsAt w (· < w.heap.size) A ks ds) (hb : Below w.heap.size w wr)
    {i : Nat} (h : i < ks.length) : ∃ ad x y z, A = some ad ∧ ad.block < w.heap.size ∧ wr.cell? (ad.add (i * 3)) = some x ∧ wr.cell? ⟨(ad.add (i * 3)).block, (ad.add (i * 3)).off + 1, none⟩ = some y ∧
      wr.cell? ⟨(ad.add (i * 3)).block, (ad.add (i * 3)).off + 2, none⟩ = some z ∧ Lies wr (· < wr.heap.size) ks[i] [x, y, z] := by
  obtain ⟨h3, hA, hk⟩ := hK
  obtain ⟨ad, e, hp, hc⟩ := hA (by omega)
  have hl := h3 i h
  have hx := hk i h
  match hd : ds i, hl, hx with
  | [x, y, z], _, hx =>
    have h0 := (hb.cell (by rw [block_of_add]; exact hp)).trans (hc i h 0 x (by rw [hd]; rfl))
    have h1 := (hb.cell (by rw [block_of_add]; exact hp)).trans (hc i h 1 y (by rw [hd]; rfl))
    have h2 := (hb.cell (by rw [block_of_add]; exact hp)).trans (hc i h 2 z (by rw [hd]; rfl))
    rw [add_one_two _ _ _ (by omega)] at h1 h2
    exact ⟨ad, x, y, z, e, hp, h0, h1, h2, hx.past hb⟩
theorem Lies.form {w : World} {P : Nat → Prop} {e : El} {cs : List Value} (h : Lies w P e cs) : ∃ (t : Nat) (b : ByteArray) (A : Option Addr) (n c : Nat), cs = [.int .u8 t, .string b, .slice A n c] := by
  cases h with
  | mk tag body kids A c cs ht hb hl h3 hA hk => exact ⟨_, _, _, _, _, rfl⟩
/-- .. each cell's make written out, so that it can be stored. -/
theorem KidsAt.kid5 {w wr : World} {ks : List El} {A : Option Addr} {ds : Nat → List Value} (hK : KidsAt w (· < w.heap.size) A ks ds) (hb : Below w.heap.size w wr)
    {i : Nat} (h : i < ks.length) : ∃ (ad : Addr) (t : Nat) (b : ByteArray) (A' : Option Addr) (n c : Nat), A = some ad ∧ ad.block < w.heap.size ∧ wr.cell? (ad.add (i * 3)) = some (.int .u8 t) ∧
      wr.cell? ⟨(ad.add (i * 3)).block, (ad.add (i * 3)).off + 1, none⟩ = some (.string b) ∧
      wr.cell? ⟨(ad.add (i * 3)).block, (ad.add (i * 3)).off + 2, none⟩ = some (.slice A' n c) ∧ Lies wr (· < wr.heap.size) ks[i] [.int .u8 t, .string b, .slice A' n c] := by
  obtain ⟨ad, x, y, z, e, hp, f0, f1, f2, hL⟩ := hK.kid hb h
  obtain ⟨t, b, A', n, c, hcs⟩ := hL.form
  simp only [List.cons.injEq, and_true] at hcs
  obtain ⟨rfl, rfl, rfl⟩ := hcs
  exact ⟨ad, t, b, A', n, c, e, hp, f0, f1, f2, hL⟩
theorem Lies.alloc {w : World} {e : El} {cs : List Value} (h : Lies w (· < w.heap.size) e cs) (o : Obj) : Lies (w.alloc o) (· < (w.alloc o).heap.size) e cs := h.past ((Below.refl _ _).alloc (Nat.le_refl _) o)
/-- Block g holds just the cells cs, of type t; none is frozen. -/
def Blk (w : World) (g : Nat) (t : TypeId) (cs : Array Value) : Prop := w.heap[g]? = some (.cells cs t (0, 0))
section
variable {w w' : World} {g : Nat} {t : TypeId} {cs : Array Value}
theorem Blk.lt (h : Blk w g t cs) : g < w.heap.size := by
  rcases Nat.lt_or_ge g w.heap.size with hlt | hge
  · exact hlt
  · unfold Blk at h; rw [Array.getElem?_eq_none hge] at h; cases h
theorem Blk.cell (h : Blk w g t cs) (i : Nat) : w.cell? ⟨g, i, none⟩ = cs[i]? := cell_of_row w g i cs t (0, 0) h
theorem Blk.frozen (h : Blk w g t cs) (i : Nat) : w.frozen? ⟨g, i, none⟩ = false := by
  unfold Blk at h
  simp [World.frozen?, h]
theorem Blk.new (w : World) (t : TypeId) (cs : Array Value) : Blk (w.alloc (.cells cs t)) w.heap.size t cs := heap_alloc_new w _
theorem Blk.past (h : Blk w g t cs) (hb : Below w.heap.size w w') : Blk w' g t cs := (hb.block g h.lt).trans h
theorem Blk.drew (h : Blk w g t cs) : Blk w.drew g t cs := h
theorem Blk.alloc (h : Blk w g t cs) (o : Obj) : Blk (w.alloc o) g t cs := (Below.heap_alloc w o g h.lt).trans h
theorem Blk.set_ (h : Blk w g t cs) (i : Nat) (u : Value) : Blk (w.setCell ⟨g, i, none⟩ u) g t (cs.setIfInBounds i u) := by
  unfold Blk at h ⊢
  simp [World.setCell, Array.getElem?_modify, h]
theorem Blk.far (h : Blk w g t cs) {p : Addr} (hp : g ≠ p.block) (u : Value) : Blk (w.setCell p u) g t cs := (Below.heap_setCell w p u g hp).trans h
theorem Blk.grown {row : Option Nat} (h : Blk w g t cs) (hb : w.grownBy w' row) (hg : some g ≠ row) : Blk w' g t cs := (hb.block g h.lt hg).trans h
theorem Blk.set3 {x y z x' y' z' : Value} (h : Blk w g t #[x, y, z]) : Blk (((w.setCell ⟨g, 0, none⟩ x').setCell ⟨g, 1, none⟩ y').setCell ⟨g, 2, none⟩ z') g t #[x', y', z'] := ((h.set_ 0 x').set_ 1 y').set_ 2 z'
end
end Go.Proofs.YtconghaebebncaaGreatDoor.Be

/- Plain functions on elements: whether they are formed, how deep, how long, their bytes. -/
namespace Go.Proofs.YtconghaebebncaaGreatDoor.Be
set_option linter.unusedVariables false

mutual
def formed : El → Bool
  | .mk t b ks => if t % 32 = 31 then false else if t / 32 % 2 = 0 then decide (ks.length = 0) else if b.size ≠ 0 then false else formeds ks
def formeds : List El → Bool
  | [] => true
  | k :: ks => formed k && formeds ks
end
mutual
def dep : El → Nat
  | .mk _ _ ks => deps ks + 1
def deps : List El → Nat
  | [] => 0
  | k :: ks => max (dep k) (deps ks)
end
def anyD (d : Nat) : List El → Bool
  | [] => false
  | k :: ks => decide (d < dep k) || anyD d ks
def more (n : Nat) : Nat := if n < 128 then 0 else if n < 256 then 1 else 2
mutual
def tsz : El → Nat
  | .mk _ b ks => tszs b.size ks
def tszs : Nat → List El → Nat
  | n, [] => n
  | n, k :: ks => if 4000 < n then n else tszs (n + (2 + more (tsz k) + tsz k)) ks
end
def encHead (t n : Nat) : List UInt8 :=
  if n < 128 then [t.toUInt8, n.toUInt8] else if n < 256 then [t.toUInt8, 129, n.toUInt8] else [t.toUInt8, 130, (n / 256).toUInt8, n.toUInt8]
mutual
def enc : El → List UInt8
  | .mk t b ks => encHead t (b.size + (encs ks).length) ++ (b.data.toList ++ encs ks)
def encs : List El → List UInt8
  | [] => []
  | k :: ks => enc k ++ encs ks
end
def bodyLen : El → Nat
  | .mk _ b ks => b.size + (encs ks).length
/-- P1.3: the bytes, the error. -/
def wr (e : El) : List UInt8 × Nat := if formed e = false then ([], 14) else if 20 < dep e then ([], 12) else if 4000 < bodyLen e then ([], 13) else (enc e, 0)
/-- No deeper than d, no more kids than K in a row, no body longer than L. -/
def fitS (K L : Nat) : Nat → El → Bool
  | 0, _ => false
  | d + 1, .mk t b ks => decide (ks.length ≤ K) && (decide (b.size ≤ L) && ks.all (fitS K L d))

theorem formeds_drop {l : List El} {i : Nat} (h : i < l.length) : formeds (l.drop i) = (formed l[i] && formeds (l.drop (i + 1))) := by
  rw [List.drop_eq_getElem_cons h, formeds]
theorem anyD_drop {d : Nat} {l : List El} {i : Nat} (h : i < l.length) : anyD d (l.drop i) = (decide (d < dep l[i]) || anyD d (l.drop (i + 1))) := by
  rw [List.drop_eq_getElem_cons h, anyD]
theorem tszs_drop {n : Nat} {l : List El} {i : Nat} (h : i < l.length) : tszs n (l.drop i) = if 4000 < n then n else tszs (n + (2 + more (tsz l[i]) + tsz l[i])) (l.drop (i + 1)) := by
  rw [List.drop_eq_getElem_cons h, tszs]
theorem encs_take {l : List El} {i : Nat} (h : i < l.length) : encs (l.take (i + 1)) = encs (l.take i) ++ enc l[i] := by
  have key : ∀ (a b : List El), encs (a ++ b) = encs a ++ encs b := by
    intro a b
    induction a with
    | nil => simp [encs]
    | cons x a ih => simp [encs, ih]
  rw [List.take_succ_eq_append_getElem h, key]
  simp [encs]
theorem encs_app : ∀ (a b : List El), encs (a ++ b) = encs a ++ encs b
  | [], b => by simp [encs]
  | x :: a, b => by simp [encs, encs_app a b]
theorem encs_take_le (l : List El) (i : Nat) : (encs (l.take i)).length ≤ (encs l).length := by
  have h := congrArg (fun x => (encs x).length) (List.take_append_drop i l)
  simp only [encs_app, List.length_append] at h
  omega
theorem anyD_deps (d : Nat) : ∀ l : List El, anyD d l = decide (d < deps l)
  | [] => by simp [anyD, deps]
  | k :: l => by
    rw [anyD, anyD_deps d l, deps]
    rw [Bool.eq_iff_iff]; simp; omega
theorem encHead_len (t n : Nat) : (encHead t n).length = 2 + more n := by
  unfold encHead more
  split
  · rfl
  · split <;> rfl
theorem enc_len (e : El) : (enc e).length = 2 + more (bodyLen e) + bodyLen e := by
  cases e with
  | mk t b ks =>
    rw [enc, List.length_append, encHead_len, bodyLen, List.length_append]
    have : b.data.toList.length = b.size := rfl
    omega
/-- The length that is reckoned, with its stop, is the true one where that is no greater than MaxSize; else it is above. -/
theorem tsz_body (e : El) : (bodyLen e ≤ 4000 → tsz e = bodyLen e) ∧ (4000 < bodyLen e → 4000 < tsz e) := by
  refine El.ind (p := fun e => (bodyLen e ≤ 4000 → tsz e = bodyLen e) ∧ (4000 < bodyLen e → 4000 < tsz e)) ?_ e
  intro t b ks ih
  have key : ∀ (l : List El) (n : Nat), (∀ k ∈ l, (bodyLen k ≤ 4000 → tsz k = bodyLen k) ∧ (4000 < bodyLen k → 4000 < tsz k)) →
      (n + (encs l).length ≤ 4000 → tszs n l = n + (encs l).length) ∧ (4000 < n + (encs l).length → 4000 < tszs n l) := by
    intro l
    induction l with
    | nil => intro n _; simp [tszs, encs]
    | cons k l ihl =>
      intro n hl
      have hk := hl k (by simp)
      have hr := fun m => ihl m (fun x hx => hl x (by simp [hx]))
      have he := enc_len k
      rw [tszs, encs, List.length_append]
      by_cases h1 : 4000 < n
      · rw [if_pos h1]; exact ⟨fun h => by omega, fun _ => h1⟩
      · rw [if_neg h1]
        by_cases h2 : bodyLen k ≤ 4000
        · rw [hk.1 h2]
          have h3 := hr (n + (2 + more (bodyLen k) + bodyLen k))
          exact ⟨fun h => by rw [h3.1 (by omega)]; omega, fun h => h3.2 (by omega)⟩
        · have h3 := hk.2 (by omega)
          refine ⟨fun h => by omega, fun _ => ?_⟩
          have h4 := hr (n + (2 + more (tsz k) + tsz k))
          by_cases h5 : n + (2 + more (tsz k) + tsz k) + (encs l).length ≤ 4000
          · omega
          · exact h4.2 (by omega)
  have := key ks b.size ih
  simp only [bodyLen, tsz]
  exact this
theorem more_le (n : Nat) : more n ≤ 2 := by
  unfold more
  split
  · omega
  · split <;> omega
theorem fitS_open {K L d t : Nat} {b : ByteArray} {ks : List El} (h : fitS K L (d + 1) (.mk t b ks) = true) : ks.length ≤ K ∧ b.size ≤ L ∧ ∀ i (hi : i < ks.length), fitS K L d ks[i] = true := by
  simp only [fitS, Bool.and_eq_true, decide_eq_true_eq, List.all_eq_true] at h
  exact ⟨h.1, h.2.1, fun i hi => h.2.2 _ (List.getElem_mem hi)⟩
theorem fitS_zero {K L : Nat} {e : El} (h : fitS K L 0 e = true) : False := by simp [fitS] at h
theorem fitS_more {K L K' L' : Nat} (hK : K ≤ K') (hL : L ≤ L') : ∀ {d d' : Nat} (_ : d ≤ d') {e : El}, fitS K L d e = true → fitS K' L' d' e = true
  | 0, _, _, e, h => absurd h (by simp [fitS])
  | d + 1, 0, hd, e, h => absurd hd (by omega)
  | d + 1, d' + 1, hd, .mk t b ks, h => by
    simp only [fitS, Bool.and_eq_true, decide_eq_true_eq, List.all_eq_true] at h ⊢
    exact ⟨by omega, by omega, fun k hk => fitS_more hK hL (d := d) (by omega) (h.2.2 k hk)⟩
theorem tsz_bound {K L : Nat} : ∀ {d : Nat} {e : El}, fitS K L d e = true → tsz e ≤ L + 4004 * d
  | 0, e, h => (fitS_zero h).elim
  | d + 1, .mk t b ks, h => by
    obtain ⟨_, hb, hk⟩ := fitS_open h
    have key : ∀ (l : List El) (n : Nat), (∀ k ∈ l, tsz k ≤ L + 4004 * d) → n ≤ L + 4004 * (d + 1) → tszs n l ≤ L + 4004 * (d + 1) := by
      intro l
      induction l with
      | nil => intro n _ h; simpa [tszs] using h
      | cons k l ihl =>
        intro n hl hn
        rw [tszs]
        by_cases h1 : 4000 < n
        · rw [if_pos h1]; exact hn
        · rw [if_neg h1]
          have := hl k (by simp)
          have hm := more_le (tsz k)
          exact ihl _ (fun x hx => hl x (by simp [hx])) (by omega)
    rw [tsz]
    refine key ks b.size (fun k hkm => ?_) (by omega)
    obtain ⟨i, hi, rfl⟩ := List.getElem_of_mem hkm
    exact tsz_bound (hk i hi)
end Go.Proofs.YtconghaebebncaaGreatDoor.Be

/- What Read answers, as a plain function on a list of bytes. -/
namespace Go.Proofs.YtconghaebebncaaGreatDoor.Be
set_option linter.unusedVariables false

inductive Res where
  | bad (p x : Nat)
  | ok (e : El) (n : Nat)
inductive RK where
  | bad (p x : Nat)
  | ok (ks : List El)
/-- Head's answer, and what becomes of it: short of bytes; within another element. -/
def rdHead (inner : Bool) (l : List UInt8) : Nat × Nat × Nat :=
  let x := if (Sp.hd l).2.2 = 0 ∧ l.length < (Sp.hd l).1 + (Sp.hd l).2.1 then 10 else (Sp.hd l).2.2
  ((Sp.hd l).1, (Sp.hd l).2.1, if x = 10 ∧ inner = true then 11 else x)
def rdKids (r : List UInt8 → Nat → Res) : Nat → List UInt8 → Nat → RK
  | 0, _, _ => .ok []
  | N + 1, l, a =>
    if l.length = 0 then .ok [] else
    match r l a with
    | .bad p x => .bad p x
    | .ok e n =>
      match rdKids r N (l.drop n) (a + n) with
      | .bad p x => .bad p x
      | .ok es => .ok (e :: es)
/-- P1.2: f: how many elements in elements there may still be; a: the place of l's first byte. -/
def rd : Nat → List UInt8 → Nat → Res
  | 0, _, a => .bad a 12
  | f + 1, l, a =>
    let q := rdHead (decide (f + 1 < 20)) l
    if q.2.2 ≠ 0 then .bad a q.2.2 else
    if (l.headD 0).toNat / 32 % 2 = 0 then .ok (.mk (l.headD 0).toNat ⟨((l.drop q.1).take q.2.1).toArray⟩ []) (q.1 + q.2.1) else
    match rdKids (rd f) q.2.1 ((l.drop q.1).take q.2.1) (a + q.1) with
    | .bad p x => .bad p x
    | .ok ks => .ok (.mk (l.headD 0).toNat ⟨#[]⟩ ks) (q.1 + q.2.1)
def pre (done : List El) : RK → RK
  | .bad p x => .bad p x
  | .ok ks => .ok (done ++ ks)
theorem pre_pre (a b : List El) (r : RK) : pre a (pre b r) = pre (a ++ b) r := by
  cases r <;> simp [pre]
theorem pre_nil (r : RK) : pre [] r = r := by cases r <;> simp [pre]

theorem hd_ok {l : List UInt8} {h n : Nat} (e : Sp.hd l = (h, n, 0)) : 2 ≤ h ∧ h ≤ 6 ∧ h ≤ l.length ∧ n ≤ 4000 := by
  cases l with
  | nil => simp [Sp.hd] at e
  | cons t r =>
    by_cases h1 : t.toNat % 32 = 31
    · simp [Sp.hd, h1] at e
    cases r with
    | nil => simp [Sp.hd, h1] at e
    | cons b r =>
      by_cases h2 : b.toNat < 128
      · simp only [Sp.hd, h1, h2, if_true, if_false, Prod.mk.injEq] at e
        simp; omega
      by_cases h3 : b.toNat = 128 ∨ 132 < b.toNat
      · simp [Sp.hd, h1, h2, h3] at e
      by_cases h4 : r.length < b.toNat - 128
      · simp [Sp.hd, h1, h2, h3, h4] at e
      by_cases h5 : 4000 < Sp.num (r.take (b.toNat - 128))
      · simp [Sp.hd, h1, h2, h3, h4, h5] at e
      · simp only [Sp.hd, h1, h2, h3, h4, h5, if_false, Prod.mk.injEq] at e
        simp; omega
/-- Head's error is one of its chapter; beside it there are zeros. -/
theorem hd_err (l : List UInt8) : (Sp.hd l).2.2 ≠ 0 → (Sp.hd l).1 = 0 ∧ (Sp.hd l).2.1 = 0 := by
  cases l with
  | nil => simp [Sp.hd]
  | cons t r =>
    by_cases h1 : t.toNat % 32 = 31
    · simp [Sp.hd, h1]
    cases r with
    | nil => simp [Sp.hd, h1]
    | cons b r =>
      by_cases h2 : b.toNat < 128
      · simp [Sp.hd, h1, h2]
      by_cases h3 : b.toNat = 128 ∨ 132 < b.toNat
      · simp [Sp.hd, h1, h2, h3]
      by_cases h4 : r.length < b.toNat - 128
      · simp [Sp.hd, h1, h2, h3, h4]
      by_cases h5 : 4000 < Sp.num (r.take (b.toNat - 128))
      · simp [Sp.hd, h1, h2, h3, h4, h5]
      · simp [Sp.hd, h1, h2, h3, h4, h5]
theorem rdHead_ok {inner : Bool} {l : List UInt8} {h n : Nat} (e : rdHead inner l = (h, n, 0)) : Sp.hd l = (h, n, 0) ∧ h + n ≤ l.length := by
  simp only [rdHead, Prod.mk.injEq] at e
  obtain ⟨e1, e2, e3⟩ := e
  by_cases c : (Sp.hd l).2.2 = 0 ∧ l.length < (Sp.hd l).1 + (Sp.hd l).2.1
  · rw [if_pos c] at e3
    cases inner <;> simp at e3
  · rw [if_neg c] at e3
    have e4 : (Sp.hd l).2.2 = 0 := by
      by_cases c2 : (Sp.hd l).2.2 = 10 ∧ inner = true
      · rw [if_pos c2] at e3; omega
      · rw [if_neg c2] at e3; exact e3
    refine ⟨?_, by omega⟩
    rw [← e1, ← e2, ← e4]
theorem rdHead_fit {i : Bool} {l : List UInt8} {h n : Nat} (e : Sp.hd l = (h, n, 0)) (hf : h + n ≤ l.length) : rdHead i l = (h, n, 0) := by
  have h1 : ¬ l.length < h + n := by omega
  simp [rdHead, e, h1]
theorem rdHead_past {i : Bool} {l : List UInt8} {h n : Nat} (e : Sp.hd l = (h, n, 0)) (hf : l.length < h + n) : rdHead i l = (h, n, if i = true then 11 else 10) := by
  simp [rdHead, e, hf]
theorem rdHead_short {i : Bool} {l : List UInt8} {h n : Nat} (e : Sp.hd l = (h, n, 10)) : rdHead i l = (h, n, if i = true then 11 else 10) := by
  unfold rdHead
  rw [e]
  simp
theorem rdHead_other {i : Bool} {l : List UInt8} {h n x : Nat} (e : Sp.hd l = (h, n, x)) (h0 : x ≠ 0) (h10 : x ≠ 10) : rdHead i l = (h, n, x) := by
  simp [rdHead, e, h0, h10]
theorem rd_ok : ∀ {f : Nat} {l : List UInt8} {a : Nat} {e : El} {n : Nat}, rd f l a = .ok e n → 2 ≤ n ∧ n ≤ l.length
  | 0, l, a, e, n, h => by simp [rd] at h
  | f + 1, l, a, e, n, h => by
    have key : ∃ hh nn, rdHead (decide (f + 1 < 20)) l = (hh, nn, 0) ∧ n = hh + nn := by
      simp only [rd] at h
      by_cases c : (rdHead (decide (f + 1 < 20)) l).2.2 = 0
      · refine ⟨_, _, by rw [← c], ?_⟩
        rw [if_neg (by simpa using c)] at h
        split at h
        · injection h with _ h2; exact h2.symm
        · split at h
          · simp at h
          · injection h with _ h2; exact h2.symm
      · rw [if_pos c] at h
        simp at h
    obtain ⟨hh, nn, hq, rfl⟩ := key
    obtain ⟨h1, h2⟩ := rdHead_ok hq
    have := hd_ok h1
    omega
theorem rdKids_bad {r : List UInt8 → Nat → Res} (hr : ∀ l a p x, r l a = .bad p x → x ≠ 0) : ∀ {N : Nat} {l : List UInt8} {a p x : Nat}, rdKids r N l a = .bad p x → x ≠ 0
  | 0, l, a, p, x, h => by simp [rdKids] at h
  | N + 1, l, a, p, x, h => by
    rw [rdKids] at h
    split at h
    · simp at h
    · split at h
      · rename_i p' x' hx
        injection h with h1 h2
        subst h2
        exact hr _ _ _ _ hx
      · split at h
        · rename_i p' x' hx
          injection h with h1 h2
          subst h2
          exact rdKids_bad hr hx
        · simp at h
theorem rd_bad : ∀ {f : Nat} {l : List UInt8} {a p x : Nat}, rd f l a = .bad p x → x ≠ 0
  | 0, l, a, p, x, h => by
    simp only [rd, Res.bad.injEq] at h
    omega
  | f + 1, l, a, p, x, h => by
    simp only [rd] at h
    split at h
    · rename_i hx
      injection h with h1 h2
      subst h2
      exact hx
    · split at h
      · simp at h
      · split at h
        · rename_i p' x' hx
          injection h with h1 h2
          subst h2
          exact rdKids_bad (fun l a p x => rd_bad) hx
        · simp at h
/-- Enough rounds are enough. -/
theorem rdKids_more (r : List UInt8 → Nat → Res) (hr : ∀ l a e n, r l a = .ok e n → 1 ≤ n) : ∀ (N M : Nat) (l : List UInt8) (a : Nat), l.length ≤ N → l.length ≤ M → rdKids r N l a = rdKids r M l a
  | 0, 0, _, _, _, _ => rfl
  | 0, M + 1, l, a, h, _ => by
    have : l.length = 0 := by omega
    simp [rdKids, this]
  | N + 1, 0, l, a, _, h => by
    have : l.length = 0 := by omega
    simp [rdKids, this]
  | N + 1, M + 1, l, a, h1, h2 => by
    rw [rdKids, rdKids]
    by_cases h0 : l.length = 0
    · rw [if_pos h0, if_pos h0]
    · rw [if_neg h0, if_neg h0]
      cases hx : r l a with
      | bad p x => rfl
      | ok e n =>
        have hn := hr _ _ _ _ hx
        have := rdKids_more r hr N M (l.drop n) (a + n) (by rw [List.length_drop]; omega) (by rw [List.length_drop]; omega)
        simp only [this]
theorem extract_mk (s : ByteArray) (i j : Nat) : s.extract i j = ⟨((s.data.toList.drop i).take (j - i)).toArray⟩ := by
  apply ByteArray.ext
  apply Array.toList_inj.1
  rw [Go.Lib.extract_data]
theorem take_drop_eq (l : List UInt8) (i n : Nat) : (l.take (i + n)).drop i = (l.drop i).take n := by
  rw [List.drop_take]
  congr 1
  omega
end Go.Proofs.YtconghaebebncaaGreatDoor.Be

/- What is written is read: on the plain functions. -/
namespace Go.Proofs.YtconghaebebncaaGreatDoor.Be
set_option linter.unusedVariables false

mutual
def tags : El → Bool
  | .mk t _ ks => decide (t ≤ 255) && tagss ks
def tagss : List El → Bool
  | [] => true
  | k :: ks => tags k && tagss ks
end
theorem tagss_of : ∀ {l : List El}, (∀ k ∈ l, tags k = true) → tagss l = true
  | [], _ => by simp [tagss]
  | k :: l, h => by simp [tagss, h k (by simp), tagss_of (l := l) (fun x hx => h x (by simp [hx]))]
theorem Lies.tags {w : World} {P : Nat → Prop} {e : El} {cs : List Value} (h : Lies w P e cs) : tags e = true := by
  induction h with
  | mk tag body kids A c cs ht hb hl h3 hA hk ih =>
    rw [Proofs.YtconghaebebncaaGreatDoor.Be.tags]
    simp only [Bool.and_eq_true, decide_eq_true_eq]
    refine ⟨ht, tagss_of fun k hkm => ?_⟩
    obtain ⟨i, hi, rfl⟩ := List.getElem_of_mem hkm
    exact ih i hi

theorem u8n (n : Nat) (h : n < 256) : n.toUInt8.toNat = n := by
  show n % 256 = n
  omega
theorem hd_encHead (t n : Nat) (r : List UInt8) (ht : t ≤ 255) (h31 : t % 32 ≠ 31) (hn : n ≤ 4000) : Sp.hd (encHead t n ++ r) = (2 + more n, n, 0) := by
  have e0 := u8n t (by omega)
  unfold encHead more
  by_cases h1 : n < 128
  · rw [if_pos h1, if_pos h1]
    simp only [List.cons_append, List.nil_append, Sp.hd, e0, u8n n (by omega)]
    rw [if_neg h31, if_pos h1]
  · rw [if_neg h1, if_neg h1]
    by_cases h2 : n < 256
    · rw [if_pos h2, if_pos h2]
      simp only [List.cons_append, List.nil_append, Sp.hd, e0]
      rw [if_neg h31, if_neg (by decide), if_neg (by decide), if_neg (by simp)]
      have e1 : Sp.num ((n.toUInt8 :: r).take ((129 : UInt8).toNat - 128)) = n := by
        show Sp.num ((n.toUInt8 :: r).take 1) = n
        simp only [List.take, Sp.num, List.foldl, u8n n h2]; omega
      rw [e1, if_neg (by omega)]
      rfl
    · rw [if_neg h2, if_neg h2]
      simp only [List.cons_append, List.nil_append, Sp.hd, e0]
      rw [if_neg h31, if_neg (by decide), if_neg (by decide), if_neg (by simp)]
      have e1 : Sp.num (((n / 256).toUInt8 :: n.toUInt8 :: r).take ((130 : UInt8).toNat - 128)) = n := by
        show Sp.num (((n / 256).toUInt8 :: n.toUInt8 :: r).take 2) = n
        have e2 : n.toUInt8.toNat = n % 256 := rfl
        simp only [List.take, Sp.num, List.foldl, u8n (n / 256) (by omega), e2]; omega
      rw [e1, if_neg (by omega)]
      rfl
/-- Cut off ahead of its end the head is short of bytes, or it is whole and the body isn't. -/
theorem hd_cut (t n : Nat) (r : List UInt8) (k : Nat) (ht : t ≤ 255) (h31 : t % 32 ≠ 31) (hn : n ≤ 4000) :
    Sp.hd ((encHead t n ++ r).take k) = (0, 0, 10) ∨ Sp.hd ((encHead t n ++ r).take k) = (2 + more n, n, 0) := by
  by_cases hk : k < 2 + more n
  · left
    have e0 := u8n t (by omega)
    rw [List.take_append_of_le_length (by rw [encHead_len]; omega)]
    unfold more at hk
    unfold encHead
    by_cases h1 : n < 128
    · rw [if_pos h1] at hk ⊢
      match k, hk with
      | 0, _ => simp [Sp.hd]
      | 1, _ => simp [Sp.hd, e0, h31]
      | k + 2, hk => omega
    · rw [if_neg h1] at hk ⊢
      by_cases h2 : n < 256
      · rw [if_pos h2] at hk ⊢
        match k, hk with
        | 0, _ => simp [Sp.hd]
        | 1, _ => simp [Sp.hd, e0, h31]
        | 2, _ => simp [Sp.hd, e0, h31]
        | k + 3, hk => omega
      · rw [if_neg h2] at hk ⊢
        match k, hk with
        | 0, _ => simp [Sp.hd]
        | 1, _ => simp [Sp.hd, e0, h31]
        | 2, _ => simp [Sp.hd, e0, h31]
        | 3, _ => simp [Sp.hd, e0, h31]
        | k + 4, hk => omega
  · right
    have : (encHead t n ++ r).take k = encHead t n ++ r.take (k - (2 + more n)) := by
      rw [List.take_append, encHead_len, List.take_of_length_le (by rw [encHead_len]; omega)]
    rw [this]
    exact hd_encHead t n _ ht h31 hn

theorem empty_of (b : ByteArray) (h : b.size = 0) : b = ⟨#[]⟩ := by
  cases b with
  | mk d =>
    congr 1
    exact Array.eq_empty_of_size_eq_zero h
theorem bytes_eta (b : ByteArray) : (⟨b.data.toList.toArray⟩ : ByteArray) = b := by cases b; simp
theorem bodyLen_kid {t : Nat} {b : ByteArray} {ks : List El} {k : El} (hk : k ∈ ks) : bodyLen k ≤ bodyLen (.mk t b ks) := by
  obtain ⟨i, hi, rfl⟩ := List.getElem_of_mem hk
  have h1 := encs_take hi
  have h2 := encs_take_le ks (i + 1)
  rw [h1, List.length_append] at h2
  have h3 := enc_len ks[i]
  have h4 : bodyLen (.mk t b ks) = b.size + (encs ks).length := rfl
  omega
theorem deps_kid : ∀ {ks : List El} {k : El}, k ∈ ks → dep k ≤ deps ks
  | [], _, h => by cases h
  | x :: ks, k, h => by
    rw [deps]
    rcases List.mem_cons.1 h with rfl | h
    · exact Nat.le_max_left _ _
    · exact Nat.le_trans (deps_kid h) (Nat.le_max_right _ _)
theorem formeds_kid : ∀ {ks : List El} {k : El}, formeds ks = true → k ∈ ks → formed k = true
  | [], _, _, h => by cases h
  | x :: ks, k, hf, h => by
    rw [formeds, Bool.and_eq_true] at hf
    rcases List.mem_cons.1 h with rfl | h
    · exact hf.1
    · exact formeds_kid hf.2 h
theorem tagss_kid : ∀ {ks : List El} {k : El}, tagss ks = true → k ∈ ks → tags k = true
  | [], _, _, h => by cases h
  | x :: ks, k, hf, h => by
    rw [tagss, Bool.and_eq_true] at hf
    rcases List.mem_cons.1 h with rfl | h
    · exact hf.1
    · exact tagss_kid hf.2 h
theorem enc_ge2 (e : El) : 2 ≤ (enc e).length := by rw [enc_len]; omega

def Back (e : El) : Prop := formed e = true → tags e = true → bodyLen e ≤ 4000 → ∀ f, dep e ≤ f → ∀ (tail : List UInt8) (a : Nat), rd f (enc e ++ tail) a = .ok e (enc e).length
theorem kids_back (f : Nat) : ∀ (ks : List El) (N a : Nat), (∀ k ∈ ks, ∀ (tail : List UInt8) (a : Nat), rd f (enc k ++ tail) a = .ok k (enc k).length) → (encs ks).length ≤ N → rdKids (rd f) N (encs ks) a = .ok ks
  | [], N, a, _, _ => by cases N <;> simp [rdKids, encs]
  | k :: ks, N, a, hk, hN => by
    have h2 := enc_ge2 k
    rw [encs, List.length_append] at hN
    cases N with
    | zero => omega
    | succ N =>
      rw [rdKids, encs, if_neg (by rw [List.length_append]; omega), hk k (by simp)]
      simp only []
      rw [List.drop_left, kids_back f ks N _ (fun x hx => hk x (by simp [hx])) (by omega)]
theorem back_any (e : El) : Back e := by
  refine El.ind ?_ e
  intro t b ks ih hf htg hB f hd tail a
  cases f with
  | zero => simp [dep] at hd
  | succ f =>
  have ht : t ≤ 255 := by rw [tags] at htg; simp at htg; exact htg.1
  have htk : tagss ks = true := by rw [tags] at htg; simp at htg; exact htg.2
  have h31 : t % 32 ≠ 31 := by
    intro h; rw [formed, if_pos h] at hf; cases hf
  rw [formed, if_neg h31] at hf
  have hn : b.size + (encs ks).length ≤ 4000 := hB
  have hbl : (b.data.toList ++ encs ks).length = b.size + (encs ks).length := by rw [List.length_append]; rfl
  have hq : rdHead (decide (f + 1 < 20)) (enc (.mk t b ks) ++ tail) = (2 + more (b.size + (encs ks).length), b.size + (encs ks).length, 0) := by
    rw [enc, List.append_assoc]
    refine rdHead_fit (hd_encHead t _ _ ht h31 hn) ?_
    rw [List.length_append, encHead_len, List.length_append, hbl]; omega
  have hhd : ((enc (.mk t b ks) ++ tail).headD 0).toNat = t := by
    rw [enc]
    unfold encHead
    split
    · exact u8n t (by omega)
    · split <;> exact u8n t (by omega)
  have hdrop : (enc (.mk t b ks) ++ tail).drop (2 + more (b.size + (encs ks).length)) = (b.data.toList ++ encs ks) ++ tail := by
    rw [enc, List.append_assoc, ← encHead_len t, List.drop_left]
  have hlen : (enc (.mk t b ks)).length = 2 + more (b.size + (encs ks).length) + (b.size + (encs ks).length) := enc_len (.mk t b ks)
  have htake : ((b.data.toList ++ encs ks) ++ tail).take (b.size + (encs ks).length) = b.data.toList ++ encs ks := by rw [← hbl, List.take_left]
  simp only [rd, hq, hhd, hdrop, htake]
  rw [if_neg (by simp), hlen]
  by_cases h2 : t / 32 % 2 = 0
  · rw [if_pos h2] at hf ⊢
    have hks : ks = [] := List.eq_nil_of_length_eq_zero (by simpa using hf)
    subst hks
    simp only [encs, List.append_nil, bytes_eta]
  · rw [if_neg h2] at hf ⊢
    by_cases h3 : b.size = 0
    · have hb := empty_of b h3
      subst hb
      rw [if_neg (by simpa using h3)] at hf
      have e1 : (⟨#[]⟩ : ByteArray).data.toList ++ encs ks = encs ks := by simp
      rw [e1, kids_back f ks _ _ (fun k hk => ih k hk (formeds_kid hf hk) (tagss_kid htk hk) (Nat.le_trans (bodyLen_kid (t := t) (b := ⟨#[]⟩) hk) hB) f (by
        have := deps_kid hk
        rw [dep] at hd
        omega)) (by show _ ≤ 0 + (encs ks).length; omega)]
    · rw [if_pos h3] at hf; cases hf
/-- Cut off: short of bytes. -/
theorem back_cut (e : El) (hf : formed e = true) (htg : tags e = true) (hB : bodyLen e ≤ 4000) (k a : Nat) (hk : k < (enc e).length) : rd 20 ((enc e).take k) a = .bad a 10 := by
  obtain ⟨t, b, ks⟩ := e
  have ht : t ≤ 255 := by rw [tags] at htg; simp at htg; exact htg.1
  have h31 : t % 32 ≠ 31 := by
    intro h; rw [formed, if_pos h] at hf; cases hf
  have hn : b.size + (encs ks).length ≤ 4000 := hB
  have hlen : (enc (.mk t b ks)).length = 2 + more (b.size + (encs ks).length) + (b.size + (encs ks).length) := enc_len (.mk t b ks)
  have hq : (rdHead (decide (19 + 1 < 20)) ((enc (.mk t b ks)).take k)).2.2 = 10 := by
    rcases hd_cut t (b.size + (encs ks).length) (b.data.toList ++ encs ks) k ht h31 hn with h | h
    · rw [enc, rdHead_short h]; rfl
    · rw [enc, rdHead_past h (by
        have : ((encHead t (b.size + (encs ks).length) ++ (b.data.toList ++ encs ks)).take k).length ≤ k := List.length_take_le _ _
        rw [hlen] at hk
        omega)]; rfl
  show rd (19 + 1) _ _ = _
  simp only [rd]
  rw [if_pos (by rw [hq]; decide), hq]
end Go.Proofs.YtconghaebebncaaGreatDoor.Be

/- Plain functions on numbers: two's complement in k bytes, the fewest bytes, the number that bytes say. Nothing of the program is used here. -/
namespace Go.Proofs.YtconghaebebncaaGreatDoor.Be
set_option linter.unusedVariables false

/-- How far n is from the sign's own bits: n, or -1 - n. -/
def mag (n : Int) : Nat := if 0 ≤ n then n.toNat else (-1 - n).toNat
/-- P2.1: the fewest bytes that tell n. -/
def few (n : Int) : Nat := bitLen (mag n) / 8 + 1
/-- n's k low bytes, the highest first. -/
def tc : Nat → Int → List Int
  | 0, _ => []
  | k + 1, n => (n / 256 ^ k % 256) :: tc k n
/-- P2.1: n's bytes. -/
def intB (n : Int) : List Int := tc (few n) n
/-- What bytes say behind the sign's own bits. -/
def say (n : Int) (l : List UInt8) : Int := l.foldl (fun n b => 256 * n + b.toNat) n
/-- The number that bytes say. -/
def sval : List UInt8 → Int
  | [] => 0
  | b :: r => say (if b.toNat < 128 then (b.toNat : Int) else (b.toNat : Int) - 256) r
/-- P2.1: the number that Int tells so. -/
def rdI (l : List UInt8) : Option Int := if l.length ≠ 0 ∧ l.length ≤ 8 ∧ few (sval l) = l.length then some (sval l) else none

theorem tc_len (k : Nat) (n : Int) : (tc k n).length = k := by
  induction k with
  | zero => rfl
  | succ k ih => simp [tc, ih]
theorem intB_len (n : Int) : (intB n).length = few n := tc_len _ _
theorem few_pos (n : Int) : 1 ≤ few n := by unfold few; omega
theorem mag_lt (n : Int) (p : Nat) : mag n < p ↔ -(p : Int) ≤ n ∧ n < p := by
  unfold mag; split <;> omega
theorem bitLen_lt (m j : Nat) : bitLen m < j + 1 ↔ m < 2 ^ j := by
  have h := bitLen_spec m
  constructor
  · intro hl
    exact Nat.lt_of_lt_of_le h.1 (Nat.pow_le_pow_right (by omega) (by omega))
  · intro hm
    by_cases h0 : m = 0
    · subst h0; simp [bitLen]
    · have h2 := h.2 h0
      have h3 : 2 ^ (bitLen m - 1) < 2 ^ j := Nat.lt_of_le_of_lt h2 hm
      have h4 := (Nat.pow_lt_pow_iff_right (a := 2) (by omega)).1 h3
      omega
theorem few_le (n : Int) (k : Nat) (hk : 1 ≤ k) : few n ≤ k ↔ -(2 ^ (8 * k - 1) : Int) ≤ n ∧ n < 2 ^ (8 * k - 1) := by
  have h1 := bitLen_lt (mag n) (8 * k - 1)
  have h2 := mag_lt n (2 ^ (8 * k - 1))
  push_cast at h2
  rw [← h2, ← h1]
  unfold few; omega
theorem few_8 (n : Int) (h0 : -9223372036854775808 ≤ n) (h1 : n ≤ 9223372036854775807) : few n ≤ 8 := by
  rw [few_le n 8 (by omega)]
  show -9223372036854775808 ≤ n ∧ n < 9223372036854775808
  omega
theorem say_app (n : Int) (l : List UInt8) (b : UInt8) : say n (l ++ [b]) = 256 * say n l + b.toNat := by
  unfold say; rw [List.foldl_append]; rfl
theorem say_bound (l : List UInt8) (n : Int) : n * 256 ^ l.length ≤ say n l ∧ say n l < (n + 1) * 256 ^ l.length := by
  induction l generalizing n with
  | nil => simp [say]; omega
  | cons b l ih =>
    have := ih (256 * n + b.toNat)
    have hb : b.toNat < 256 := b.toNat_lt
    have e : say n (b :: l) = say (256 * n + b.toNat) l := rfl
    rw [e, List.length_cons, Int.pow_succ]
    have hp : (0 : Int) < 256 ^ l.length := Int.pow_pos (by omega)
    generalize (256 : Int) ^ l.length = p at *
    constructor
    · refine Int.le_trans ?_ this.1
      have : n * (p * 256) = (256 * n) * p := by rw [Int.mul_comm p 256, ← Int.mul_assoc, Int.mul_comm n 256]
      rw [this]
      exact Int.mul_le_mul_of_nonneg_right (by omega) (by omega)
    · refine Int.lt_of_lt_of_le this.2 ?_
      have : (n + 1) * (p * 256) = (256 * n + 256) * p := by rw [Int.mul_comm p 256, ← Int.mul_assoc, Int.mul_comm (n + 1) 256, Int.mul_add]; rfl
      rw [this]
      exact Int.mul_le_mul_of_nonneg_right (by omega) (by omega)
/-- The low bytes of what bytes say are those bytes. -/
theorem tc_say : ∀ (l : List UInt8) (n : Int), tc l.length (say n l) = l.map fun b => (b.toNat : Int)
  | [], n => rfl
  | b :: l, n => by
    have hb : b.toNat < 256 := b.toNat_lt
    have e : say n (b :: l) = say (256 * n + b.toNat) l := rfl
    rw [List.length_cons, tc, e, tc_say l, List.map_cons]
    have h := say_bound l (256 * n + b.toNat)
    have hp : (0 : Int) < 256 ^ l.length := Int.pow_pos (by omega)
    have hd : say (256 * n + b.toNat) l / 256 ^ l.length = 256 * n + b.toNat := by
      apply Int.le_antisymm
      · have := (Int.ediv_lt_iff_lt_mul hp).2 h.2; omega
      · exact (Int.le_ediv_iff_mul_le hp).2 h.1
    rw [hd]
    congr 1
    omega
theorem sval_range : ∀ (l : List UInt8), l ≠ [] → -(2 ^ (8 * l.length - 1) : Int) ≤ sval l ∧ sval l < 2 ^ (8 * l.length - 1)
  | [], h => absurd rfl h
  | b :: l, _ => by
    have hb : b.toNat < 256 := b.toNat_lt
    have h := say_bound l (if b.toNat < 128 then (b.toNat : Int) else (b.toNat : Int) - 256)
    have e : (2 : Int) ^ (8 * (b :: l).length - 1) = 128 * 256 ^ l.length := by
      rw [List.length_cons, show 8 * (l.length + 1) - 1 = 7 + 8 * l.length by omega, Int.pow_add, Int.pow_mul]; rfl
    rw [e]
    show _ ≤ say _ l ∧ say _ l < _
    have hp : (0 : Int) < 256 ^ l.length := Int.pow_pos (by omega)
    generalize (256 : Int) ^ l.length = p at *
    generalize hx : (if b.toNat < 128 then (b.toNat : Int) else (b.toNat : Int) - 256) = x at *
    have hx1 : -128 ≤ x ∧ x + 1 ≤ 128 := by subst hx; split <;> omega
    constructor
    · refine Int.le_trans ?_ h.1
      have := Int.mul_le_mul_of_nonneg_right hx1.1 (show (0 : Int) ≤ p by omega)
      omega
    · refine Int.lt_of_lt_of_le h.2 ?_
      exact Int.mul_le_mul_of_nonneg_right hx1.2 (by omega)
theorem tc_sval : ∀ l : List UInt8, tc l.length (sval l) = l.map fun b => (b.toNat : Int)
  | [] => rfl
  | b :: l => by
    have hb : b.toNat < 256 := b.toNat_lt
    have h := tc_say l (if b.toNat < 128 then (b.toNat : Int) else (b.toNat : Int) - 256)
    have hB := say_bound l (if b.toNat < 128 then (b.toNat : Int) else (b.toNat : Int) - 256)
    have hp : (0 : Int) < 256 ^ l.length := Int.pow_pos (by omega)
    rw [List.length_cons, tc, List.map_cons]
    show _ / _ % _ :: tc l.length (say _ l) = _
    rw [h]
    have hd : say (if b.toNat < 128 then (b.toNat : Int) else (b.toNat : Int) - 256) l / 256 ^ l.length = (if b.toNat < 128 then (b.toNat : Int) else (b.toNat : Int) - 256) := by
      apply Int.le_antisymm
      · have := (Int.ediv_lt_iff_lt_mul hp).2 hB.2; omega
      · exact (Int.le_ediv_iff_mul_le hp).2 hB.1
    show say _ l / _ % _ :: _ = _
    rw [hd]
    congr 1
    split <;> omega
/-- Bytes, from whole numbers. -/
def bytesI (xs : List Int) : List UInt8 := xs.map fun n => UInt8.ofNat n.toNat
theorem ofNat_toNat (m : Nat) (h : m < 256) : (UInt8.ofNat m).toNat = m := by show m % 256 = m; omega
theorem tc_bytes : ∀ (k : Nat) (n : Int), (bytesI (tc k n)).map (fun b => (b.toNat : Int)) = tc k n
  | 0, n => rfl
  | k + 1, n => by
    rw [tc, bytesI, List.map_cons, List.map_cons]
    have h := tc_bytes k n
    unfold bytesI at h
    rw [h]
    congr 1
    rw [ofNat_toNat _ (by omega)]; omega
/-- What the k low bytes say behind what is above them is the number. -/
theorem say_tc : ∀ (k : Nat) (n : Int), say (n / 256 ^ k) (bytesI (tc k n)) = n
  | 0, n => by simp [tc, bytesI, say]
  | k + 1, n => by
    rw [tc, bytesI, List.map_cons]
    have h := say_tc k n
    show say (256 * (n / 256 ^ (k + 1)) + (UInt8.ofNat (n / 256 ^ k % 256).toNat).toNat) (bytesI (tc k n)) = n
    rw [ofNat_toNat _ (by omega)]
    have e : n / 256 ^ (k + 1) = n / 256 ^ k / 256 := by
      rw [Int.pow_succ, Int.ediv_ediv_of_nonneg (Int.le_of_lt (Int.pow_pos (by omega)))]
    rw [e]
    have : 256 * (n / 256 ^ k / 256) + ((n / 256 ^ k % 256).toNat : Int) = n / 256 ^ k := by omega
    rw [this, h]
theorem sval_tc (k : Nat) (n : Int) (hk : 1 ≤ k) (h : few n ≤ k) : sval (bytesI (tc k n)) = n := by
  obtain ⟨k, rfl⟩ : ∃ k', k = k' + 1 := ⟨k - 1, by omega⟩
  rw [few_le n _ hk] at h
  have e : (2 : Int) ^ (8 * (k + 1) - 1) = 128 * 256 ^ k := by
    rw [show 8 * (k + 1) - 1 = 7 + 8 * k by omega, Int.pow_add, Int.pow_mul]; rfl
  rw [e] at h
  have hp : (0 : Int) < 256 ^ k := Int.pow_pos (by omega)
  have h1 : n / 256 ^ k < 128 := (Int.ediv_lt_iff_lt_mul hp).2 h.2
  have h2 : -128 ≤ n / 256 ^ k := (Int.le_ediv_iff_mul_le hp).2 (by omega)
  have hs := say_tc k n
  rw [tc, bytesI, List.map_cons]
  show say _ (bytesI (tc k n)) = n
  rw [ofNat_toNat _ (by omega)]
  have : (if (n / 256 ^ k % 256).toNat < 128 then ((n / 256 ^ k % 256).toNat : Int) else ((n / 256 ^ k % 256).toNat : Int) - 256) = n / 256 ^ k := by
    split <;> omega
  rw [this, hs]
theorem bytesI_len (xs : List Int) : (bytesI xs).length = xs.length := by simp [bytesI]
theorem rdI_int (n : Int) (h : few n ≤ 8) : rdI (bytesI (intB n)) = some n := by
  have h1 := sval_tc (few n) n (few_pos n) (Nat.le_refl _)
  have h2 : (bytesI (intB n)).length = few n := by rw [bytesI_len, intB_len]
  have h3 := few_pos n
  unfold rdI
  rw [h2]
  have h4 : sval (bytesI (intB n)) = n := h1
  rw [h4, if_pos ⟨by omega, h, rfl⟩]
/-- .. and with a byte ahead of them that says nothing they say the same: so they are none. -/
theorem rdI_more (n : Int) (m : UInt8) (hm : m = if n < 0 then 255 else 0) : rdI (m :: bytesI (intB n)) = none := by
  have h0 := few_pos n
  have h1 : m :: bytesI (intB n) = bytesI (tc (few n + 1) n) := by
    rw [tc, bytesI, bytesI, List.map_cons]
    show _ = _ :: List.map _ (intB n)
    congr 1
    have h := (few_le n (few n) h0).1 (Nat.le_refl _)
    have hp : (2 : Int) ^ (8 * few n - 1) ≤ 256 ^ few n := by
      rw [show (256 : Int) = 2 ^ 8 by rfl, ← Int.pow_mul]
      have := Nat.pow_le_pow_right (n := 2) (by omega) (show 8 * few n - 1 ≤ 8 * few n by omega)
      exact_mod_cast this
    by_cases hn : n < 0
    · have : n / 256 ^ few n = -1 := by
        have hp0 : (0 : Int) < 256 ^ few n := Int.pow_pos (by omega)
        apply Int.le_antisymm
        · have := (Int.ediv_lt_iff_lt_mul hp0 (a := n) (b := 0)).2 (by omega); omega
        · exact (Int.le_ediv_iff_mul_le hp0).2 (by omega)
      rw [hm, if_pos hn, this]; rfl
    · have : n / 256 ^ few n = 0 := Int.ediv_eq_zero_of_lt (by omega) (by omega)
      rw [hm, if_neg hn, this]; rfl
  have h2 : sval (m :: bytesI (intB n)) = n := by rw [h1]; exact sval_tc _ n (by omega) (by omega)
  have h3 : (m :: bytesI (intB n)).length = few n + 1 := by rw [List.length_cons, bytesI_len, intB_len]
  unfold rdI
  rw [h2, h3, if_neg (by omega)]
/-- Int of what bytes say is those bytes, if they are as few as may be. -/
theorem intB_sval (l : List UInt8) (h : l ≠ []) : bytesI (intB (sval l)) = l ↔ few (sval l) = l.length := by
  constructor
  · intro e
    have := congrArg List.length e
    rwa [bytesI_len, intB_len] at this
  · intro e
    unfold intB
    rw [e, tc_sval]
    unfold bytesI
    rw [List.map_map]
    refine Eq.trans (List.map_congr_left (g := id) fun b _ => ?_) (List.map_id _)
    simp
theorem few_sval_le (l : List UInt8) (h : l ≠ []) : few (sval l) ≤ l.length := by
  have : 1 ≤ l.length := by cases l with
    | nil => exact absurd rfl h
    | cons => simp
  rw [few_le _ _ this]
  exact sval_range l h
end Go.Proofs.YtconghaebebncaaGreatDoor.Be

/- Messages as records: what is a message, its element, its bytes, what is read of an element. Plain functions: nothing of the program is used here. -/
namespace Go.Proofs.YtconghaebebncaaGreatDoor
set_option linter.unusedVariables false

/-- What is done to an attribute's values. -/
structure Mo where
  kind : Int
  attr : ByteArray
  vals : List ByteArray
/-- A message: all parts. -/
structure Mg where
  id : Int
  op : Int
  ref : Int
  dn : ByteArray
  ver : Int
  pass : ByteArray
  scope : Int
  size : Int
  fil : Fil
  wants : List ByteArray
  mods : List Mo
  rdn : ByteArray
  del : Bool
  has : Bool
  sup : ByteArray
  attr : ByteArray
  value : ByteArray
  code : Int
  matched : ByteArray

namespace Ms
open Nm Be

abbrev no : ByteArray := ⟨#[]⟩
def noF : Fil := .mk 0 no no [] []
def zero : Mg := ⟨0, 0, 0, no, 0, no, 0, 0, noF, [], [], no, false, false, no, no, no, 0, no⟩

def eqMo (a b : Mo) : Bool := decide (a.kind = b.kind) && (decide (a.attr = b.attr) && decide (a.vals = b.vals))
def eqMos : List Mo → List Mo → Bool
  | [], [] => true
  | a :: r, b :: s => eqMo a b && eqMos r s
  | _, _ => false
def numsM (m : Mg) : List Int := [m.id, m.op, m.ref, m.ver, m.scope, m.size, m.code]
def textsM (m : Mg) : List ByteArray := [m.dn, m.pass, m.rdn, m.sup, m.attr, m.value, m.matched]
/-- All parts alike. -/
def eqM (a b : Mg) : Bool :=
  decide (numsM a = numsM b) && (decide (textsM a = textsM b) && (decide (a.del = b.del) && (decide (a.has = b.has) && (Fi.eqF a.fil b.fil && (decide (a.wants = b.wants) && eqMos a.mods b.mods)))))

def within (n a b : Int) : Bool := decide (a ≤ n ∧ n ≤ b)
def isLong (s : ByteArray) : Bool := decide (400 < s.size)
def areShort (l : List ByteArray) : Bool := !l.any isLong
def isList (l : List ByteArray) : Bool := decide (l.length ≤ 12) && areShort l
def noMod (d : Mo) : Bool := !within d.kind 1 3 || (isLong d.attr || !isList d.vals)
def takes (d : Mo) : Bool := decide (d.kind ≠ 1)

/-- What m has and its Op hasn't. -/
def foreign (m : Mg) : Mg :=
  let z : Mg := { m with id := 0, op := 0 }
  if m.op = 2 then z
  else if m.op = 9 then { z with ref := 0, code := 0, matched := no }
  else if m.op = 1 then { z with ver := 0, pass := no, dn := no }
  else if m.op = 3 then { z with scope := 0, size := 0, fil := noF, wants := [], dn := no }
  else if m.op = 4 ∨ m.op = 5 ∨ m.op = 10 then { z with mods := [], dn := no }
  else if m.op = 7 then { z with rdn := no, del := false, has := false, sup := no, dn := no }
  else if m.op = 8 then { z with attr := no, value := no, dn := no }
  else { z with dn := no }
/-- What its Op has may be so. -/
def formed (m : Mg) : Bool :=
  if m.op = 1 then within m.ver 1 127
  else if m.op = 3 then within m.scope 0 2 && (within m.size 0 2147483647 && (Fi.isF m.fil && isList m.wants))
  else if m.op = 5 ∨ m.op = 10 then !m.mods.any takes && (decide (m.mods.length ≤ 12) && !m.mods.any noMod)
  else if m.op = 4 then decide (m.mods.length ≤ 12) && !m.mods.any noMod
  else if m.op = 7 then m.has || decide (m.sup = no)
  else if m.op = 9 then within m.ref 1 8 && (decide (m.ref ≠ 2) && within m.code 0 127)
  else decide (m.op = 2 ∨ m.op = 6 ∨ m.op = 8)
/-- P9.1. -/
def isM (m : Mg) : Bool := within m.id 0 2147483647 && (eqM (foreign m) zero && (formed m && areShort (textsM m)))

/-! ### Elements -/
def txt (t : Nat) (b : ByteArray) : El := .mk t b []
def num (t : Nat) (n : Int) : El := .mk t (strOfNums (intB n)) []
def lst (t : Nat) (ks : List El) : El := .mk t no ks
def boolB (b : Bool) : ByteArray := if b then ⟨#[255]⟩ else ⟨#[0]⟩
def flg (b : Bool) : El := txt 1 (boolB b)
def opTab : List (Int × Int × Nat) :=
  [(1, 0, 96), (2, 0, 66), (3, 0, 99), (4, 0, 102), (5, 0, 104), (6, 0, 74), (7, 0, 108), (8, 0, 110), (10, 0, 100), (9, 1, 97), (9, 3, 101), (9, 4, 103), (9, 5, 105), (9, 6, 107), (9, 7, 109), (9, 8, 111)]
def filTab : List (Int × Nat) := [(1, 160), (2, 161), (3, 162), (4, 163), (8, 164), (5, 165), (6, 166), (7, 135)]
def tagIn (op ref : Int) : List (Int × Int × Nat) → Nat
  | [] => 0
  | r :: l => if r.1 = op ∧ r.2.1 = ref then r.2.2 else tagIn op ref l
def opIn (t : Nat) : List (Int × Int × Nat) → Int × Int
  | [] => (0, 0)
  | r :: l => if r.2.2 = t then (r.1, r.2.1) else opIn t l
def ftagIn (k : Int) : List (Int × Nat) → Nat
  | [] => 0
  | r :: l => if r.1 = k then r.2 else ftagIn k l
def kindIn (t : Nat) : List (Int × Nat) → Int
  | [] => 0
  | r :: l => if r.2 = t then r.1 else kindIn t l
def opTag (op ref : Int) : Nat := tagIn op ref opTab
def opOf (t : Nat) : Int × Int := opIn t opTab
def filTag (k : Int) : Nat := ftagIn k filTab
def filKind (t : Nat) : Int := kindIn t filTab
/-- Of a part at place i of n parts. -/
def partTag (i n : Nat) : Nat := if i = 0 then 128 else if i = n - 1 then 130 else 129
def subEls (n : Nat) : Nat → List ByteArray → List El
  | _, [] => []
  | i, s :: r => if s.size = 0 then subEls n (i + 1) r else txt (partTag i n) s :: subEls n (i + 1) r
mutual
def filEl : Fil → El
  | .mk k a v ss ks =>
    if k = 1 ∨ k = 2 ∨ k = 3 then lst (filTag k) (filEls ks)
    else if k = 7 then txt (filTag k) a
    else if k = 8 then lst (filTag k) [txt 4 a, lst 48 (subEls ss.length 0 ss)]
    else lst (filTag k) [txt 4 a, txt 4 v]
def filEls : List Fil → List El
  | [] => []
  | f :: r => filEl f :: filEls r
end
def attrEl (d : Mo) : El := lst 48 [txt 4 d.attr, lst 49 (d.vals.map (txt 4))]
def modEl (d : Mo) : El := lst 48 [num 10 (d.kind - 1), attrEl d]
def parts (m : Mg) : List El :=
  if m.op = 1 then [num 2 m.ver, txt 4 m.dn, txt 128 m.pass]
  else if m.op = 3 then [txt 4 m.dn, num 10 m.scope, num 10 0, num 2 m.size, num 2 0, flg false, filEl m.fil, lst 48 (m.wants.map (txt 4))]
  else if m.op = 4 then [txt 4 m.dn, lst 48 (m.mods.map modEl)]
  else if m.op = 5 ∨ m.op = 10 then [txt 4 m.dn, lst 48 (m.mods.map attrEl)]
  else if m.op = 7 then [txt 4 m.dn, txt 4 m.rdn, flg m.del] ++ (if m.has then [txt 128 m.sup] else [])
  else if m.op = 8 then [txt 4 m.dn, lst 48 [txt 4 m.attr, txt 4 m.value]]
  else [num 10 m.code, txt 4 m.matched, txt 4 no]
def opEl (m : Mg) : El := if m.op = 2 ∨ m.op = 6 then txt (opTag m.op m.ref) m.dn else lst (opTag m.op m.ref) (parts m)
def msgEl (m : Mg) : El := lst 48 [num 2 m.id, opEl m]
/-- P9.2: the bytes, the error. -/
def encM (m : Mg) : List UInt8 × Nat :=
  if isM m = false then ([], 14) else if 4000 < (enc (msgEl m)).length then ([], 13) else if 20 < dep (msgEl m) then ([], 12) else (enc (msgEl m), 0)

/-! ### What is read of an element -/
def bodyE : El → ByteArray
  | .mk _ b _ => b
def kidsE : El → List El
  | .mk _ _ ks => ks
def tagE : El → Nat
  | .mk t _ _ => t
def noE : El := .mk 0 no []
def kidE (e : El) (i : Nat) : El := (kidsE e).getD i noE
def textAt (e : El) (i : Nat) : ByteArray := bodyE (kidE e i)
def numAt (e : El) (i : Nat) : Int := (rdI (bs (textAt e i))).getD 0
def flagAt (e : El) (i : Nat) : Bool := decide ((bs (textAt e i)).length = 1) && decide (bs (textAt e i) ≠ [0])
/-- The parts: the first one, those between, the last one. -/
def rdSubs : ByteArray → List ByteArray → ByteArray → List El → List ByteArray
  | x, l, y, [] => x :: (l ++ [y])
  | x, l, y, e :: r => if tagE e = 128 then rdSubs (bodyE e) l y r else if tagE e = 129 then rdSubs x (l ++ [bodyE e]) y r else if tagE e = 130 then rdSubs x l (bodyE e) r else rdSubs x l y r
mutual
def rdFil : El → Fil
  | .mk t b ks =>
    if filKind t = 1 ∨ filKind t = 2 ∨ filKind t = 3 then .mk (filKind t) no no [] (rdFils ks)
    else if filKind t = 7 then .mk (filKind t) b no [] []
    else if filKind t = 8 then .mk (filKind t) (bodyE (ks.getD 0 noE)) no (rdSubs no [] no (kidsE (ks.getD 1 noE))) []
    else .mk (filKind t) (bodyE (ks.getD 0 noE)) (bodyE (ks.getD 1 noE)) [] []
def rdFils : List El → List Fil
  | [] => []
  | e :: r => rdFil e :: rdFils r
end
def rdAttr (e : El) : Mo := ⟨1, textAt e 0, (kidsE (kidE e 1)).map bodyE⟩
def rdMod (e : El) : Mo := { rdAttr (kidE e 1) with kind := numAt e 0 + 1 }
def rdM (e : El) : Mg :=
  let o := kidE e 1
  let z : Mg := { zero with id := numAt e 0, op := (opOf (tagE o)).1, ref := (opOf (tagE o)).2 }
  if z.op = 1 then { z with ver := numAt o 0, dn := textAt o 1, pass := textAt o 2 }
  else if z.op = 3 then { z with dn := textAt o 0, scope := numAt o 1, size := numAt o 3, fil := rdFil (kidE o 6), wants := (kidsE (kidE o 7)).map bodyE }
  else if z.op = 4 then { z with dn := textAt o 0, mods := (kidsE (kidE o 1)).map rdMod }
  else if z.op = 5 ∨ z.op = 10 then { z with dn := textAt o 0, mods := (kidsE (kidE o 1)).map rdAttr }
  else if z.op = 6 then { z with dn := bodyE o }
  else if z.op = 7 then { z with dn := textAt o 0, rdn := textAt o 1, del := flagAt o 2, has := decide (3 < (kidsE o).length), sup := textAt o 3 }
  else if z.op = 8 then { z with dn := textAt o 0, attr := textAt (kidE o 1) 0, value := textAt (kidE o 1) 1 }
  else if z.op = 9 then { z with code := numAt o 0, matched := textAt o 1 }
  else z
/-- P9.3: the message, the error. -/
def decM (s : List UInt8) : Mg × Nat := match rd 20 s 0 with
  | .bad _ x => (zero, x)
  | .ok e _ => if (encM (rdM e)).1 = s then (rdM e, 0) else (zero, 14)
end Ms
end Go.Proofs.YtconghaebebncaaGreatDoor

/- Alike in all parts is the same; the reference's way of saying what is a message comes to the same. -/
namespace Go.Proofs.YtconghaebebncaaGreatDoor.Ms
open Nm Be
set_option linter.unusedVariables false
set_option maxRecDepth 100000

theorem eqF_eq (f : Fil) : ∀ g, Fi.eqF f g = true ↔ f = g := by
  refine Fi.ind (p := fun f => ∀ g, Fi.eqF f g = true ↔ f = g) ?_ f
  intro k a v ss ks ih g
  obtain ⟨k', a', v', ss', ks'⟩ := g
  have key : ∀ l : List Fil, (∀ f ∈ l, ∀ g, Fi.eqF f g = true ↔ f = g) → ∀ l', Fi.eqFs l l' = true ↔ l = l' := by
    intro l
    induction l with
    | nil => intro _ l'; cases l' <;> simp [Fi.eqFs]
    | cons x l ihl =>
      intro hl l'
      cases l' with
      | nil => simp [Fi.eqFs]
      | cons y l' =>
        rw [Fi.eqFs, Bool.and_eq_true, hl x (by simp), ihl (fun f hf => hl f (by simp [hf])), List.cons.injEq]
  rw [Fi.eqF]
  simp only [Bool.and_eq_true, decide_eq_true_eq, key ks ih, Fil.mk.injEq]
theorem eqMo_eq (a b : Mo) : eqMo a b = true ↔ a = b := by
  obtain ⟨k, t, v⟩ := a
  obtain ⟨k', t', v'⟩ := b
  simp only [eqMo, Bool.and_eq_true, decide_eq_true_eq, Mo.mk.injEq]
theorem eqMos_eq : ∀ a b : List Mo, eqMos a b = true ↔ a = b
  | [], [] => by simp [eqMos]
  | [], _ :: _ => by simp [eqMos]
  | _ :: _, [] => by simp [eqMos]
  | x :: a, y :: b => by rw [eqMos, Bool.and_eq_true, eqMo_eq, eqMos_eq a b, List.cons.injEq]
theorem eqMos_len : ∀ {a b : List Mo}, a.length ≠ b.length → eqMos a b = false
  | [], [], h => absurd rfl h
  | [], _ :: _, _ => by simp [eqMos]
  | _ :: _, [], _ => by simp [eqMos]
  | x :: a, y :: b, h => by simp [eqMos, eqMos_len (a := a) (b := b) (by simpa using h)]
theorem eqMos_drop {a b : List Mo} {i : Nat} (h : i < a.length) (h' : i < b.length) : eqMos (a.drop i) (b.drop i) = (eqMo a[i] b[i] && eqMos (a.drop (i + 1)) (b.drop (i + 1))) := by
  rw [List.drop_eq_getElem_cons h, List.drop_eq_getElem_cons h', eqMos]
theorem eqM_eq (a b : Mg) : eqM a b = true ↔ a = b := by
  obtain ⟨a1, a2, a3, a4, a5, a6, a7, a8, a9, a10, a11, a12, a13, a14, a15, a16, a17, a18, a19⟩ := a
  obtain ⟨b1, b2, b3, b4, b5, b6, b7, b8, b9, b10, b11, b12, b13, b14, b15, b16, b17, b18, b19⟩ := b
  simp only [eqM, numsM, textsM, Bool.and_eq_true, decide_eq_true_eq, eqF_eq, eqMos_eq, Mg.mk.injEq, List.cons.injEq, and_true]
  constructor
  · rintro ⟨⟨h1, h2, h3, h4, h5, h6, h7⟩, ⟨h8, h9, h10, h11, h12, h13, h14⟩, h15, h16, h17, h18, h19⟩
    exact ⟨h1, h2, h3, h8, h4, h9, h5, h6, h17, h18, h19, h10, h15, h16, h11, h12, h13, h7, h14⟩
  · rintro ⟨h1, h2, h3, h8, h4, h9, h5, h6, h17, h18, h19, h10, h15, h16, h11, h12, h13, h7, h14⟩
    exact ⟨⟨h1, h2, h3, h4, h5, h6, h7⟩, ⟨h8, h9, h10, h11, h12, h13, h14⟩, h15, h16, h17, h18, h19⟩
theorem eqM_self (m : Mg) : eqM m m = true := (eqM_eq m m).2 rfl
theorem eqM_comm (a b : Mg) : eqM a b = eqM b a := by
  rw [Bool.eq_iff_iff, eqM_eq, eqM_eq]
  exact ⟨fun h => h.symm, fun h => h.symm⟩

/-! ### The reference's way -/
def noModR (any : Bool) (d : Mo) : Bool := decide (d.kind < 1) || (decide (3 < d.kind) || ((!any && decide (d.kind ≠ 1)) || (isLong d.attr || !isList d.vals)))
def modsR (l : List Mo) (any : Bool) : Bool := !l.any (noModR any) && decide (l.length ≤ 12)
def shapeR (m : Mg) : Mg :=
  let z : Mg := { zero with id := m.id, op := m.op }
  if m.op = 1 then { z with ver := m.ver, dn := m.dn, pass := m.pass }
  else if m.op = 3 then { z with dn := m.dn, scope := m.scope, size := m.size, fil := m.fil, wants := m.wants }
  else if m.op = 4 ∨ m.op = 5 ∨ m.op = 10 then { z with dn := m.dn, mods := m.mods }
  else if m.op = 6 then { z with dn := m.dn }
  else if m.op = 7 then { z with dn := m.dn, rdn := m.rdn, del := m.del, has := m.has, sup := if m.has then m.sup else no }
  else if m.op = 8 then { z with dn := m.dn, attr := m.attr, value := m.value }
  else if m.op = 9 then { z with ref := m.ref, code := m.code, matched := m.matched }
  else z
def lastR (m : Mg) : Bool :=
  if m.op = 1 then within m.ver 1 127
  else if m.op = 3 then within m.scope 0 2 && (within m.size 0 2147483647 && Fi.isF m.fil)
  else if m.op = 9 then within m.ref 1 8 && (decide (m.ref ≠ 2) && within m.code 0 127)
  else true
def isR (m : Mg) : Bool :=
  within m.op 1 10 && (within m.id 0 2147483647 && (eqM m (shapeR m) && (isList (textsM m) && (isList m.wants && (modsR m.mods (decide (m.op = 4)) && lastR m)))))

theorem noModR_true (d : Mo) : noModR true d = noMod d := by
  unfold noModR noMod within
  rw [Bool.eq_iff_iff]
  simp only [Bool.or_eq_true, decide_eq_true_eq, Bool.not_true, Bool.false_and, Bool.false_eq_true, false_or, Bool.not_eq_true', decide_eq_false_iff_not]
  constructor
  · rintro (h | h | h)
    · exact Or.inl (by omega)
    · exact Or.inl (by omega)
    · exact Or.inr h
  · rintro (h | h)
    · by_cases h1 : d.kind < 1
      · exact Or.inl h1
      · exact Or.inr (Or.inl (by omega))
    · exact Or.inr (Or.inr h)
theorem noModR_false (d : Mo) : noModR false d = (takes d || noMod d) := by
  unfold noModR noMod within takes
  rw [Bool.eq_iff_iff]
  simp only [Bool.or_eq_true, decide_eq_true_eq, Bool.not_false, Bool.true_and, Bool.not_eq_true', decide_eq_false_iff_not]
  constructor
  · rintro (h | h | h | h)
    · exact Or.inl (by omega)
    · exact Or.inl (by omega)
    · exact Or.inl h
    · exact Or.inr (Or.inr h)
  · rintro (h | h | h)
    · exact Or.inr (Or.inr (Or.inl h))
    · by_cases h1 : d.kind < 1
      · exact Or.inl h1
      · exact Or.inr (Or.inl (by omega))
    · exact Or.inr (Or.inr (Or.inr h))
theorem any_or {α : Type} (p q : α → Bool) : ∀ l : List α, l.any (fun d => p d || q d) = (l.any p || l.any q)
  | [] => rfl
  | x :: l => by
    rw [List.any_cons, List.any_cons, List.any_cons, any_or p q l]
    cases p x <;> cases q x <;> cases l.any p <;> rfl
theorem modsR_true (l : List Mo) : modsR l true = (decide (l.length ≤ 12) && !l.any noMod) := by
  unfold modsR
  rw [show noModR true = noMod from funext noModR_true, Bool.and_comm]
theorem modsR_false (l : List Mo) : modsR l false = (!l.any takes && (decide (l.length ≤ 12) && !l.any noMod)) := by
  unfold modsR
  rw [show noModR false = (fun d => takes d || noMod d) from funext noModR_false, any_or]
  cases l.any takes <;> cases l.any noMod <;> cases decide (l.length ≤ 12) <;> rfl
theorem isList_texts (m : Mg) : isList (textsM m) = areShort (textsM m) := by
  unfold isList
  rw [decide_eq_true (by simp [textsM]), Bool.true_and]
theorem isList_nil : isList [] = true := by decide
theorem mods_nil (any : Bool) : modsR [] any = true := by cases any <;> decide
theorem isR_of {m : Mg} (he : m = shapeR m ↔ foreign m = zero) (hop : within m.op 1 10 = true)
    (hf : m = shapeR m → (isList m.wants = true ∧ modsR m.mods (decide (m.op = 4)) = true ∧ lastR m = true ↔ formed m = true)) : isR m = isM m := by
  unfold isR isM
  rw [isList_texts, Bool.eq_iff_iff]
  simp only [Bool.and_eq_true, eqM_eq]
  rw [hop]
  constructor
  · rintro ⟨_, h2, h3, h4, h5, h6, h7⟩
    exact ⟨h2, he.1 h3, (hf h3).1 ⟨h5, h6, h7⟩, h4⟩
  · rintro ⟨h2, h3, h5, h4⟩
    have h3' := he.2 h3
    obtain ⟨q1, q2, q3⟩ := (hf h3').2 h5
    exact ⟨rfl, h2, h3', h4, q1, q2, q3⟩
theorem isR_isM (m : Mg) : isR m = isM m := by
  by_cases h : 1 ≤ m.op ∧ m.op ≤ 10
  · obtain ⟨a1, a2, a3, a4, a5, a6, a7, a8, a9, a10, a11, a12, a13, a14, a15, a16, a17, a18, a19⟩ := m
    simp only at h
    have hc : a2 = 1 ∨ a2 = 2 ∨ a2 = 3 ∨ a2 = 4 ∨ a2 = 5 ∨ a2 = 6 ∨ a2 = 7 ∨ a2 = 8 ∨ a2 = 9 ∨ a2 = 10 := by omega
    have n0 : ∀ l : List ByteArray, l = [] → isList l = true := fun l e => by rw [e]; exact isList_nil
    have m0 : ∀ (l : List Mo) (b : Bool), l = [] → modsR l b = true := fun l b e => by rw [e]; exact mods_nil b
    rcases hc with rfl | rfl | rfl | rfl | rfl | rfl | rfl | rfl | rfl | rfl
    · refine isR_of (by simp [shapeR, foreign, zero]) rfl (fun e => ?_)
      all_goals simp [shapeR, zero] at e
      all_goals simp [formed, lastR, n0 a10 (by simp [e]), m0 a11 _ (by simp [e])]
    · refine isR_of (by simp [shapeR, foreign, zero]) rfl (fun e => ?_)
      all_goals simp [shapeR, zero] at e
      all_goals simp [formed, lastR, n0 a10 (by simp [e]), m0 a11 _ (by simp [e])]
    · refine isR_of (by simp [shapeR, foreign, zero]) rfl (fun e => ?_)
      all_goals simp [shapeR, zero] at e
      all_goals simp [formed, lastR, m0 a11 _ (by simp [e])]
      constructor
      · rintro ⟨q1, q2, q3, q4⟩; exact ⟨q2, q3, q4, q1⟩
      · rintro ⟨q2, q3, q4, q1⟩; exact ⟨q1, q2, q3, q4⟩
    · refine isR_of (by simp [shapeR, foreign, zero]) rfl (fun e => ?_)
      all_goals simp [shapeR, zero] at e
      all_goals simp [formed, lastR, n0 a10 (by simp [e]), modsR_true]
    · refine isR_of (by simp [shapeR, foreign, zero]) rfl (fun e => ?_)
      all_goals simp [shapeR, zero] at e
      all_goals simp [formed, lastR, n0 a10 (by simp [e]), modsR_false]
    · refine isR_of (by simp [shapeR, foreign, zero]) rfl (fun e => ?_)
      all_goals simp [shapeR, zero] at e
      all_goals simp [formed, lastR, n0 a10 (by simp [e]), m0 a11 _ (by simp [e])]
    · by_cases hs : a14 = true ∨ a15 = no
      · refine isR_of (by rcases hs with rfl | rfl <;> simp [shapeR, foreign, zero]) rfl (fun e => ?_)
        simp [shapeR, zero] at e
        simp [formed, lastR, n0 a10 (by simp [e]), m0 a11 _ (by simp [e])]
        exact hs
      · have h1 : a14 = false := by cases a14 <;> simp_all
        subst h1
        have h2 : a15 ≠ no := fun e => hs (Or.inr e)
        simp [isR, isM, eqM_eq, shapeR, formed, zero, h2]
    · refine isR_of (by simp [shapeR, foreign, zero]) rfl (fun e => ?_)
      all_goals simp [shapeR, zero] at e
      all_goals simp [formed, lastR, n0 a10 (by simp [e]), m0 a11 _ (by simp [e])]
    · refine isR_of (by simp [shapeR, foreign, zero]) rfl (fun e => ?_)
      all_goals simp [shapeR, zero] at e
      all_goals simp [formed, lastR, n0 a10 (by simp [e]), m0 a11 _ (by simp [e])]
    · refine isR_of (by simp [shapeR, foreign, zero]) rfl (fun e => ?_)
      all_goals simp [shapeR, zero] at e
      all_goals simp [formed, lastR, n0 a10 (by simp [e]), modsR_false]
  · have e1 : within m.op 1 10 = false := by unfold within; exact decide_eq_false h
    have e2 : formed m = false := by
      unfold formed
      rw [if_neg (by omega), if_neg (by omega), if_neg (by omega), if_neg (by omega), if_neg (by omega), if_neg (by omega), decide_eq_false (by omega)]
    unfold isR isM
    rw [e1, e2]
    simp
end Go.Proofs.YtconghaebebncaaGreatDoor.Ms

/- The element of what is a message: formed, no deeper, no longer than so much. -/
namespace Go.Proofs.YtconghaebebncaaGreatDoor.Ms
open Nm Be
set_option linter.unusedVariables false
set_option maxRecDepth 100000

/-- Formed, with tags that are bytes, of so many levels, of at most 20 kids and 400 bytes each. -/
def good (d : Nat) (e : El) : Prop := Be.formed e = true ∧ tags e = true ∧ fitS 20 400 d e = true
theorem good_txt {d t : Nat} {b : ByteArray} (h : (t % 32 != 31 && (t / 32 % 2 == 0 && decide (t ≤ 255))) = true) (hb : b.size ≤ 400) : good (d + 1) (txt t b) := by
  simp only [Bool.and_eq_true, bne_iff_ne, beq_iff_eq, decide_eq_true_eq] at h
  refine ⟨?_, ?_, ?_⟩
  · simp [txt, Be.formed, h.1, h.2.1]
  · simp [txt, tags, tagss, h.2.2]
  · simp [txt, fitS, hb]
theorem good_num {d t : Nat} {n : Int} (h : (t % 32 != 31 && (t / 32 % 2 == 0 && decide (t ≤ 255))) = true) (h0 : -9223372036854775808 ≤ n) (h1 : n ≤ 9223372036854775807) : good (d + 1) (num t n) := by
  refine good_txt (b := strOfNums (intB n)) h ?_
  rw [strOfNums_size, intB_len]
  have := few_8 n h0 h1
  omega
theorem formeds_of : ∀ {ks : List El}, (∀ k ∈ ks, Be.formed k = true) → formeds ks = true
  | [], _ => by simp [formeds]
  | k :: ks, h => by rw [formeds, h k (by simp), formeds_of (fun x hx => h x (by simp [hx]))]; rfl
theorem good_lst {d t : Nat} {ks : List El} (h : (t % 32 != 31 && (t / 32 % 2 == 1 && decide (t ≤ 255))) = true) (hl : ks.length ≤ 20) (hk : ∀ k ∈ ks, good d k) : good (d + 1) (lst t ks) := by
  simp only [Bool.and_eq_true, bne_iff_ne, beq_iff_eq, decide_eq_true_eq] at h
  have h0 : no.size = 0 := rfl
  refine ⟨?_, ?_, ?_⟩
  · simp [lst, Be.formed, h.1, h.2.1, h0, formeds_of fun k hk' => (hk k hk').1]
  · rw [lst, tags, tagss_of fun k hk' => (hk k hk').2.1]
    simp [h.2.2]
  · simp only [lst, fitS, h0, Bool.and_eq_true, decide_eq_true_eq, List.all_eq_true]
    exact ⟨hl, by omega, fun k hk' => (hk k hk').2.2⟩
theorem good_more {d d' : Nat} {e : El} (hd : d ≤ d') (h : good d e) : good d' e := ⟨h.1, h.2.1, fitS_more (Nat.le_refl _) (Nat.le_refl _) hd h.2.2⟩

theorem len_txt (t : Nat) (b : ByteArray) : (enc (txt t b)).length ≤ b.size + 4 := by
  have h1 := enc_len (txt t b)
  have h2 := more_le (bodyLen (txt t b))
  have h3 : bodyLen (txt t b) = b.size := by simp [txt, bodyLen, encs]
  omega
theorem len_num (t : Nat) (n : Int) (h0 : -9223372036854775808 ≤ n) (h1 : n ≤ 9223372036854775807) : (enc (num t n)).length ≤ 12 := by
  have h2 := len_txt t (strOfNums (intB n))
  rw [strOfNums_size, intB_len] at h2
  have := few_8 n h0 h1
  show (enc (txt t _)).length ≤ _
  omega
theorem len_lst (t : Nat) (ks : List El) : (enc (lst t ks)).length ≤ (encs ks).length + 4 := by
  have h1 := enc_len (lst t ks)
  have h2 := more_le (bodyLen (lst t ks))
  have h3 : bodyLen (lst t ks) = (encs ks).length := by
    show no.size + _ = _
    rw [show no.size = 0 from rfl, Nat.zero_add]
  omega
theorem encs_all (n : Nat) : ∀ ks : List El, (∀ k ∈ ks, (enc k).length ≤ n) → (encs ks).length ≤ n * ks.length
  | [], _ => by simp [encs]
  | k :: ks, h => by
    have h1 := h k (by simp)
    have h2 := encs_all n ks (fun x hx => h x (by simp [hx]))
    rw [encs, List.length_append, List.length_cons, Nat.mul_succ]
    omega

/-! ### Filters -/
theorem subEls_len (n : Nat) : ∀ (l : List ByteArray) (i : Nat), (subEls n i l).length ≤ l.length
  | [], i => by simp [subEls]
  | s :: r, i => by
    have := subEls_len n r (i + 1)
    rw [subEls]
    split
    · rw [List.length_cons]; omega
    · rw [List.length_cons, List.length_cons]; omega
theorem subEls_mem (n : Nat) : ∀ (l : List ByteArray) (i : Nat) (e : El), e ∈ subEls n i l → ∃ j, ∃ s ∈ l, e = txt (partTag j n) s
  | [], i, e, h => by simp [subEls] at h
  | s :: r, i, e, h => by
    rw [subEls] at h
    split at h
    · obtain ⟨j, s', hs, he⟩ := subEls_mem n r (i + 1) e h
      exact ⟨j, s', by simp [hs], he⟩
    · rcases List.mem_cons.1 h with rfl | h
      · exact ⟨i, s, by simp, rfl⟩
      · obtain ⟨j, s', hs, he⟩ := subEls_mem n r (i + 1) e h
        exact ⟨j, s', by simp [hs], he⟩
theorem partTag_cases (j n : Nat) : partTag j n = 128 ∨ partTag j n = 129 ∨ partTag j n = 130 := by
  unfold partTag
  split
  · exact Or.inl rfl
  · split
    · exact Or.inr (Or.inr rfl)
    · exact Or.inr (Or.inl rfl)
theorem good_part {d j n : Nat} {s : ByteArray} (hs : s.size ≤ 400) : good (d + 1) (txt (partTag j n) s) := by
  rcases partTag_cases j n with h | h | h <;> rw [h] <;> exact good_txt (by decide) hs
theorem filEls_map : ∀ ks : List Fil, filEls ks = ks.map filEl
  | [] => by simp [filEls]
  | f :: r => by rw [filEls, filEls_map r, List.map_cons]
theorem type_size {a : ByteArray} (h : isType (bs a) = true) : a.size ≤ 16 := by
  unfold isType at h
  simp only [Bool.and_eq_true, decide_eq_true_eq] at h
  exact h.1
theorem tots_sum : ∀ (ks : List Fil) (g : Fil → Nat), (∀ f ∈ ks, g f ≤ 2000 * Fi.tot f) → (ks.map g).sum ≤ 2000 * Fi.tots ks
  | [], g, _ => by simp [Fi.tots]
  | f :: r, g, h => by
    have h1 := h f (by simp)
    have h2 := tots_sum r g (fun x hx => h x (by simp [hx]))
    rw [Fi.tots, List.map_cons, List.sum_cons]
    omega
theorem encs_sum : ∀ ks : List El, (encs ks).length = (ks.map fun k => (enc k).length).sum
  | [] => by simp [encs]
  | k :: ks => by rw [encs, List.length_append, encs_sum ks, List.map_cons, List.sum_cons]
theorem tot_mem {f : Fil} : ∀ {ks : List Fil}, f ∈ ks → Fi.tot f ≤ Fi.tots ks
  | k :: r, h => by
    rw [Fi.tots]
    rcases List.mem_cons.1 h with rfl | h
    · omega
    · have := tot_mem h; omega
theorem good_fil (f : Fil) : Fi.frm f = true → ∀ n, Fi.tot f ≤ n → n ≤ 20 → good (n + 3) (filEl f) ∧ (enc (filEl f)).length ≤ 2000 * Fi.tot f := by
  refine Fi.ind (p := fun f => Fi.frm f = true → ∀ n, Fi.tot f ≤ n → n ≤ 20 → good (n + 3) (filEl f) ∧ (enc (filEl f)).length ≤ 2000 * Fi.tot f) ?_ f
  intro k a v ss ks ih hf n hn hn20
  rw [Fi.frm] at hf
  by_cases hk : Fi.hasK k = true
  · rw [if_pos hk] at hf
    simp only [Bool.and_eq_true, decide_eq_true_eq] at hf
    obtain ⟨h3, _, _, _, hks⟩ := hf
    rw [Fi.frms_all, List.all_eq_true] at hks
    have hk' : k = 1 ∨ k = 2 ∨ k = 3 := by unfold Fi.hasK at hk; simp only [decide_eq_true_eq] at hk; omega
    rw [filEl, if_pos hk', filEls_map]
    rw [Fi.tot, if_pos hk] at hn ⊢
    have hlen := Fi.tots_len ks
    have hg : ∀ e ∈ ks.map filEl, good (n + 2) e := by
      intro e he
      obtain ⟨f, hfm, rfl⟩ := List.mem_map.1 he
      have h1 := tot_mem hfm
      exact good_more (by omega) (ih f hfm (hks f hfm) (n - 1) (by omega) (by omega)).1
    refine ⟨?_, ?_⟩
    · rcases hk' with rfl | rfl | rfl
      · exact good_lst (t := filTag 1) (by decide) (by rw [List.length_map]; omega) hg
      · exact good_lst (t := filTag 2) (by decide) (by rw [List.length_map]; omega) hg
      · exact good_lst (t := filTag 3) (by decide) (by rw [List.length_map]; omega) hg
    · have h1 := len_lst (filTag k) (ks.map filEl)
      have h2 := encs_sum (ks.map filEl)
      rw [List.map_map] at h2
      have h3 := tots_sum ks (fun f => (enc (filEl f)).length) (fun f hfm => by
        have h1 := tot_mem hfm
        exact (ih f hfm (hks f hfm) (n - 1) (by omega) (by omega)).2)
      have h4 : (ks.map ((fun k => (enc k).length) ∘ filEl)).sum = (ks.map fun f => (enc (filEl f)).length).sum := rfl
      omega
  · rw [if_neg hk] at hf
    simp only [Bool.and_eq_true, decide_eq_true_eq] at hf
    obtain ⟨h48, hty, _, hrest⟩ := hf
    have hsz := type_size hty
    rw [Fi.tot, if_neg hk] at hn ⊢
    rw [filEl, if_neg (by omega)]
    have ga : ∀ d, good (d + 1) (txt 4 a) := fun d => good_txt (by decide) (by omega)
    have la := len_txt 4 a
    by_cases h7 : k = 7
    · subst h7
      rw [if_pos rfl]
      have l7 := len_txt (filTag 7) a
      exact ⟨good_txt (t := filTag 7) (by decide) (by omega), by omega⟩
    rw [if_neg h7] at hrest ⊢
    by_cases h8 : k = 8
    · subst h8
      rw [if_pos rfl] at hrest ⊢
      obtain ⟨_, hs⟩ := by simpa only [Bool.and_eq_true, decide_eq_true_eq] using hrest
      unfold Fi.subsOk at hs
      simp only [Bool.and_eq_true, decide_eq_true_eq, List.all_eq_true] at hs
      obtain ⟨hl, _, h60, _⟩ := hs
      have hsl := subEls_len ss.length ss 0
      have hm := subEls_mem ss.length ss 0
      have gs : ∀ d, good (d + 2) (lst 48 (subEls ss.length 0 ss)) := fun d => good_lst (by decide) (by omega) (fun e he => by
        obtain ⟨j, s, hs, rfl⟩ := hm e he
        exact good_part (by have := h60 s hs; omega))
      refine ⟨good_lst (t := filTag 8) (by decide) (by simp) (fun e he => ?_), ?_⟩
      · simp only [List.mem_cons, List.not_mem_nil, or_false] at he
        rcases he with rfl | rfl
        · exact ga _
        · exact gs n
      · have h1 := len_lst (filTag 8) [txt 4 a, lst 48 (subEls ss.length 0 ss)]
        have h2 := len_lst 48 (subEls ss.length 0 ss)
        have h3 := encs_all 64 (subEls ss.length 0 ss) (fun e he => by
          obtain ⟨j, s, hs, rfl⟩ := hm e he
          have h5 := len_txt (partTag j ss.length) s
          have h6 := h60 s hs
          omega)
        have h4 : (encs [txt 4 a, lst 48 (subEls ss.length 0 ss)]).length = (enc (txt 4 a)).length + (enc (lst 48 (subEls ss.length 0 ss))).length := by simp [encs]
        omega
    · rw [if_neg h8] at hrest ⊢
      obtain ⟨hv, _⟩ := by simpa only [Bool.and_eq_true, decide_eq_true_eq] using hrest
      have gv : ∀ d, good (d + 1) (txt 4 v) := fun d => good_txt (by decide) (by omega)
      have lv := len_txt 4 v
      have ht : k = 4 ∨ k = 5 ∨ k = 6 := by omega
      have hg : ∀ e ∈ [txt 4 a, txt 4 v], good (n + 2) e := fun e he => by
        simp only [List.mem_cons, List.not_mem_nil, or_false] at he
        rcases he with rfl | rfl
        · exact ga _
        · exact gv _
      refine ⟨?_, ?_⟩
      · rcases ht with rfl | rfl | rfl
        · exact good_lst (t := filTag 4) (by decide) (by simp) hg
        · exact good_lst (t := filTag 5) (by decide) (by simp) hg
        · exact good_lst (t := filTag 6) (by decide) (by simp) hg
      · have h1 := len_lst (filTag k) [txt 4 a, txt 4 v]
        have h4 : (encs [txt 4 a, txt 4 v]).length = (enc (txt 4 a)).length + (enc (txt 4 v)).length := by simp [encs]
        omega
end Go.Proofs.YtconghaebebncaaGreatDoor.Ms

/- What is a message, opened; its element is formed, and no deeper, no longer than so much. -/
namespace Go.Proofs.YtconghaebebncaaGreatDoor.Ms
open Nm Be
set_option linter.unusedVariables false
set_option maxRecDepth 100000

theorem fil_open {f : Fil} (h : Fi.isF f = true) : Fi.frm f = true ∧ Fi.tot f ≤ 20 := by
  unfold Fi.isF at h
  rw [Bool.and_eq_true, decide_eq_true_eq] at h
  exact ⟨h.2, h.1⟩
theorem within_open {n a b : Int} : within n a b = true ↔ a ≤ n ∧ n ≤ b := by unfold within; exact decide_eq_true_iff
theorem short_open {l : List ByteArray} : areShort l = true ↔ ∀ s ∈ l, s.size ≤ 400 := by
  unfold areShort isLong
  simp only [Bool.not_eq_true', List.any_eq_false, decide_eq_true_eq, Nat.not_lt]
theorem list_open {l : List ByteArray} : isList l = true ↔ l.length ≤ 12 ∧ ∀ s ∈ l, s.size ≤ 400 := by
  unfold isList
  rw [Bool.and_eq_true, decide_eq_true_eq, short_open]
/-- What a Mod may be. -/
def okMo (d : Mo) : Prop := 1 ≤ d.kind ∧ d.kind ≤ 3 ∧ d.attr.size ≤ 400 ∧ d.vals.length ≤ 12 ∧ ∀ s ∈ d.vals, s.size ≤ 400
theorem noMod_open {d : Mo} : noMod d = false ↔ okMo d := by
  unfold noMod okMo
  simp only [Bool.or_eq_false_iff, Bool.not_eq_false', within_open, list_open, isLong, decide_eq_false_iff_not, Nat.not_lt, and_assoc]
theorem mods_open {l : List Mo} : (!l.any noMod) = true ↔ ∀ d ∈ l, okMo d := by
  simp only [Bool.not_eq_true', List.any_eq_false, Bool.not_eq_true, noMod_open]
theorem takes_open {l : List Mo} : (!l.any takes) = true ↔ ∀ d ∈ l, d.kind = 1 := by
  simp only [Bool.not_eq_true', List.any_eq_false, takes, decide_eq_true_eq, Classical.not_not]
theorem isM_open {m : Mg} (h : isM m = true) : 0 ≤ m.id ∧ m.id ≤ 2147483647 ∧ foreign m = zero ∧ formed m = true ∧ (m.dn.size ≤ 400 ∧ m.pass.size ≤ 400 ∧ m.rdn.size ≤ 400 ∧ m.sup.size ≤ 400 ∧ m.attr.size ≤ 400 ∧ m.value.size ≤ 400 ∧ m.matched.size ≤ 400) := by
  unfold isM at h
  simp only [Bool.and_eq_true, eqM_eq, within_open, short_open, textsM, List.mem_cons, List.not_mem_nil, or_false, forall_eq_or_imp, forall_eq] at h
  exact ⟨h.1.1, h.1.2, h.2.1, h.2.2.1, h.2.2.2⟩
theorem isM_op {m : Mg} (h : isM m = true) : 1 ≤ m.op ∧ m.op ≤ 10 := by
  rw [← isR_isM] at h
  unfold isR at h
  simp only [Bool.and_eq_true, within_open] at h
  exact h.1
/-- An Of is there with a result alone. -/
theorem isM_ref {m : Mg} (h : isM m = true) (h9 : m.op ≠ 9) : m.ref = 0 := by
  have h1 := (isM_open h).2.2.1
  have h2 := congrArg Mg.ref h1
  unfold foreign zero at h2
  simp only [if_neg h9] at h2
  repeat' split at h2
  all_goals exact h2

/-! ### Each operation's own -/
theorem formed_bind {m : Mg} (h : m.op = 1) (hf : formed m = true) : 1 ≤ m.ver ∧ m.ver ≤ 127 := by
  unfold formed at hf
  rwa [if_pos h, within_open] at hf
theorem formed_search {m : Mg} (h : m.op = 3) (hf : formed m = true) : (0 ≤ m.scope ∧ m.scope ≤ 2) ∧ (0 ≤ m.size ∧ m.size ≤ 2147483647) ∧ Fi.isF m.fil = true ∧ (m.wants.length ≤ 12 ∧ ∀ s ∈ m.wants, s.size ≤ 400) := by
  unfold formed at hf
  rwa [if_neg (by omega), if_pos h, Bool.and_eq_true, Bool.and_eq_true, Bool.and_eq_true, within_open, within_open, list_open] at hf
theorem formed_mods {m : Mg} (h : m.op = 4 ∨ m.op = 5 ∨ m.op = 10) (hf : formed m = true) : m.mods.length ≤ 12 ∧ (∀ d ∈ m.mods, okMo d) ∧ (m.op ≠ 4 → ∀ d ∈ m.mods, d.kind = 1) := by
  unfold formed at hf
  rw [if_neg (by omega), if_neg (by omega)] at hf
  by_cases h4 : m.op = 4
  · rw [if_neg (by omega), if_pos h4, Bool.and_eq_true, decide_eq_true_eq, mods_open] at hf
    exact ⟨hf.1, hf.2, fun h => absurd h4 h⟩
  · rw [if_pos (by omega), Bool.and_eq_true, Bool.and_eq_true, decide_eq_true_eq, mods_open, takes_open] at hf
    exact ⟨hf.2.1, hf.2.2, fun _ => hf.1⟩
theorem formed_move {m : Mg} (h : m.op = 7) (hf : formed m = true) : m.has = true ∨ m.sup = no := by
  unfold formed at hf
  rwa [if_neg (by omega), if_neg (by omega), if_neg (by omega), if_neg (by omega), if_pos h, Bool.or_eq_true, decide_eq_true_eq] at hf
theorem formed_result {m : Mg} (h : m.op = 9) (hf : formed m = true) : (1 ≤ m.ref ∧ m.ref ≤ 8) ∧ m.ref ≠ 2 ∧ 0 ≤ m.code ∧ m.code ≤ 127 := by
  unfold formed at hf
  rwa [if_neg (by omega), if_neg (by omega), if_neg (by omega), if_neg (by omega), if_neg (by omega), if_pos h, Bool.and_eq_true, Bool.and_eq_true, within_open, decide_eq_true_eq, within_open] at hf

/-! ### Elements -/
theorem good_texts {d t : Nat} {l : List ByteArray} (h : (t % 32 != 31 && (t / 32 % 2 == 1 && decide (t ≤ 255))) = true) (hl : l.length ≤ 12) (hs : ∀ s ∈ l, s.size ≤ 400) : good (d + 2) (lst t (l.map (txt 4))) ∧ (enc (lst t (l.map (txt 4)))).length ≤ 5000 := by
  have hm : ∀ e ∈ l.map (txt 4), good (d + 1) e ∧ (enc e).length ≤ 404 := fun e he => by
    obtain ⟨s, hs', rfl⟩ := List.mem_map.1 he
    have h1 := hs s hs'
    have h2 := len_txt 4 s
    exact ⟨good_txt (by decide) h1, by omega⟩
  refine ⟨good_lst h (by rw [List.length_map]; omega) (fun e he => (hm e he).1), ?_⟩
  have h1 := len_lst t (l.map (txt 4))
  have h2 := encs_all 404 (l.map (txt 4)) (fun e he => (hm e he).2)
  rw [List.length_map] at h2
  omega
theorem good_attr {d : Nat} {o : Mo} (h : okMo o) : good (d + 3) (attrEl o) ∧ (enc (attrEl o)).length ≤ 5500 := by
  obtain ⟨_, _, ha, hl, hs⟩ := h
  have h1 := good_texts (d := d) (t := 49) (by decide) hl hs
  have h2 := len_txt 4 o.attr
  refine ⟨good_lst (by decide) (by simp) (fun e he => ?_), ?_⟩
  · simp only [List.mem_cons, List.not_mem_nil, or_false] at he
    rcases he with rfl | rfl
    · exact good_txt (by decide) ha
    · exact h1.1
  · have h3 := len_lst 48 [txt 4 o.attr, lst 49 (o.vals.map (txt 4))]
    have h4 : (encs [txt 4 o.attr, lst 49 (o.vals.map (txt 4))]).length = (enc (txt 4 o.attr)).length + (enc (lst 49 (o.vals.map (txt 4)))).length := by simp [encs]
    show (enc (lst 48 _)).length ≤ _
    omega
theorem good_mod {d : Nat} {o : Mo} (h : okMo o) : good (d + 4) (modEl o) ∧ (enc (modEl o)).length ≤ 6000 := by
  have h1 := good_attr (d := d) h
  obtain ⟨k1, k3, _⟩ := h
  have h2 := len_num 10 (o.kind - 1) (by omega) (by omega)
  refine ⟨good_lst (by decide) (by simp) (fun e he => ?_), ?_⟩
  · simp only [List.mem_cons, List.not_mem_nil, or_false] at he
    rcases he with rfl | rfl
    · exact good_num (by decide) (by omega) (by omega)
    · exact h1.1
  · have h3 := len_lst 48 [num 10 (o.kind - 1), attrEl o]
    have h4 : (encs [num 10 (o.kind - 1), attrEl o]).length = (enc (num 10 (o.kind - 1))).length + (enc (attrEl o)).length := by simp [encs]
    show (enc (lst 48 _)).length ≤ _
    omega
theorem flg_good {d : Nat} (b : Bool) : good (d + 1) (flg b) ∧ (enc (flg b)).length ≤ 5 := by
  have h1 : (boolB b).size = 1 := by cases b <;> rfl
  have h2 := len_txt 1 (boolB b)
  exact ⟨good_txt (t := 1) (b := boolB b) (by decide) (by omega), by show (enc (txt 1 (boolB b))).length ≤ 5; omega⟩
/-- All parts of what is a message. -/
theorem parts_good {m : Mg} (h : isM m = true) : (∀ e ∈ parts m, good 25 e ∧ (enc e).length ≤ 100000) ∧ (parts m).length ≤ 8 := by
  obtain ⟨_, _, _, hf, t1, t2, t3, t4, t5, t6, t7⟩ := isM_open h
  have ho := isM_op h
  have gt : ∀ (t : Nat) (b : ByteArray), (t % 32 != 31 && (t / 32 % 2 == 0 && decide (t ≤ 255))) = true → b.size ≤ 400 → good 25 (txt t b) ∧ (enc (txt t b)).length ≤ 100000 := fun t b hb hs =>
    ⟨good_txt hb hs, by have := len_txt t b; omega⟩
  have gn : ∀ (t : Nat) (n : Int), (t % 32 != 31 && (t / 32 % 2 == 0 && decide (t ≤ 255))) = true → 0 ≤ n → n ≤ 2147483647 → good 25 (num t n) ∧ (enc (num t n)).length ≤ 100000 := fun t n hb h0 h1 =>
    ⟨good_num hb (by omega) (by omega), by have := len_num t n (by omega) (by omega); omega⟩
  have gf : ∀ b, good 25 (flg b) ∧ (enc (flg b)).length ≤ 100000 := fun b => ⟨(flg_good b).1, by have := (flg_good (d := 0) b).2; omega⟩
  unfold parts
  by_cases h1 : m.op = 1
  · have := formed_bind h1 hf
    rw [if_pos h1]
    refine ⟨fun e he => ?_, by simp⟩
    simp only [List.mem_cons, List.not_mem_nil, or_false] at he
    rcases he with rfl | rfl | rfl
    · exact gn _ _ (by decide) (by omega) (by omega)
    · exact gt _ _ (by decide) t1
    · exact gt _ _ (by decide) t2
  rw [if_neg h1]
  by_cases h3 : m.op = 3
  · obtain ⟨q1, q2, q3, q4, q5⟩ := formed_search h3 hf
    obtain ⟨q6, q7⟩ := fil_open q3
    have q8 := good_fil m.fil q6 20 q7 (by omega)
    have q9 := good_texts (d := 23) (t := 48) (by decide) q4 q5
    rw [if_pos h3]
    refine ⟨fun e he => ?_, by simp⟩
    simp only [List.mem_cons, List.not_mem_nil, or_false] at he
    rcases he with rfl | rfl | rfl | rfl | rfl | rfl | rfl | rfl
    · exact gt _ _ (by decide) t1
    · exact gn _ _ (by decide) (by omega) (by omega)
    · exact gn _ _ (by decide) (by omega) (by omega)
    · exact gn _ _ (by decide) (by omega) (by omega)
    · exact gn _ _ (by decide) (by omega) (by omega)
    · exact gf _
    · exact ⟨good_more (by omega) q8.1, by have := q8.2; omega⟩
    · exact ⟨q9.1, by have := q9.2; omega⟩
  rw [if_neg h3]
  by_cases h4 : m.op = 4
  · obtain ⟨q1, q2, _⟩ := formed_mods (Or.inl h4) hf
    rw [if_pos h4]
    refine ⟨fun e he => ?_, by simp⟩
    simp only [List.mem_cons, List.not_mem_nil, or_false] at he
    rcases he with rfl | rfl
    · exact gt _ _ (by decide) t1
    · have hm : ∀ e ∈ m.mods.map modEl, good 24 e ∧ (enc e).length ≤ 6000 := fun e he => by
        obtain ⟨o, ho, rfl⟩ := List.mem_map.1 he
        exact good_mod (d := 20) (q2 o ho)
      refine ⟨good_lst (by decide) (by rw [List.length_map]; omega) (fun e he => (hm e he).1), ?_⟩
      have l1 := len_lst 48 (m.mods.map modEl)
      have l2 := encs_all 6000 (m.mods.map modEl) (fun e he => (hm e he).2)
      rw [List.length_map] at l2
      omega
  rw [if_neg h4]
  by_cases h5 : m.op = 5 ∨ m.op = 10
  · obtain ⟨q1, q2, _⟩ := formed_mods (Or.inr h5) hf
    rw [if_pos h5]
    refine ⟨fun e he => ?_, by simp⟩
    simp only [List.mem_cons, List.not_mem_nil, or_false] at he
    rcases he with rfl | rfl
    · exact gt _ _ (by decide) t1
    · have hm : ∀ e ∈ m.mods.map attrEl, good 24 e ∧ (enc e).length ≤ 5500 := fun e he => by
        obtain ⟨o, ho, rfl⟩ := List.mem_map.1 he
        exact good_attr (d := 21) (q2 o ho)
      refine ⟨good_lst (by decide) (by rw [List.length_map]; omega) (fun e he => (hm e he).1), ?_⟩
      have l1 := len_lst 48 (m.mods.map attrEl)
      have l2 := encs_all 5500 (m.mods.map attrEl) (fun e he => (hm e he).2)
      rw [List.length_map] at l2
      omega
  rw [if_neg h5]
  by_cases h7 : m.op = 7
  · rw [if_pos h7]
    refine ⟨fun e he => ?_, by split <;> simp⟩
    simp only [List.mem_append, List.mem_cons, List.not_mem_nil, or_false] at he
    rcases he with (rfl | rfl | rfl) | he
    · exact gt _ _ (by decide) t1
    · exact gt _ _ (by decide) t3
    · exact gf _
    · split at he
      · simp only [List.mem_cons, List.not_mem_nil, or_false] at he
        subst he
        exact gt _ _ (by decide) t4
      · simp at he
  rw [if_neg h7]
  by_cases h8 : m.op = 8
  · rw [if_pos h8]
    refine ⟨fun e he => ?_, by simp⟩
    simp only [List.mem_cons, List.not_mem_nil, or_false] at he
    rcases he with rfl | rfl
    · exact gt _ _ (by decide) t1
    · refine ⟨good_lst (by decide) (by simp) (fun e he => ?_), ?_⟩
      · simp only [List.mem_cons, List.not_mem_nil, or_false] at he
        rcases he with rfl | rfl
        · exact good_txt (by decide) t5
        · exact good_txt (by decide) t6
      · have l1 := len_lst 48 [txt 4 m.attr, txt 4 m.value]
        have l2 := len_txt 4 m.attr
        have l3 := len_txt 4 m.value
        have l4 : (encs [txt 4 m.attr, txt 4 m.value]).length = (enc (txt 4 m.attr)).length + (enc (txt 4 m.value)).length := by simp [encs]
        omega
  rw [if_neg h8]
  by_cases h9 : m.op = 9
  · have := formed_result h9 hf
    refine ⟨fun e he => ?_, by simp⟩
    simp only [List.mem_cons, List.not_mem_nil, or_false] at he
    rcases he with rfl | rfl | rfl
    · exact gn _ _ (by decide) (by omega) (by omega)
    · exact gt _ _ (by decide) t7
    · exact gt _ _ (by decide) (by decide)
  · have hc : m.code = 0 := by
      have h2 := congrArg Mg.code (isM_open h).2.2.1
      unfold foreign zero at h2
      simp only [if_neg h9] at h2
      repeat' split at h2
      all_goals exact h2
    refine ⟨fun e he => ?_, by simp⟩
    simp only [List.mem_cons, List.not_mem_nil, or_false] at he
    rcases he with rfl | rfl | rfl
    · exact gn _ _ (by decide) (by omega) (by omega)
    · exact gt _ _ (by decide) t7
    · exact gt _ _ (by decide) (by decide)
/-- The tag of an operation that is told by more than a name; of the others. -/
theorem opTag_more {m : Mg} (h : isM m = true) (h2 : m.op ≠ 2) (h6 : m.op ≠ 6) : (opTag m.op m.ref % 32 != 31 && (opTag m.op m.ref / 32 % 2 == 1 && decide (opTag m.op m.ref ≤ 255))) = true := by
  have ho := isM_op h
  by_cases h9 : m.op = 9
  · obtain ⟨q1, q2, _⟩ := formed_result h9 (isM_open h).2.2.2.1
    have : m.ref = 1 ∨ m.ref = 3 ∨ m.ref = 4 ∨ m.ref = 5 ∨ m.ref = 6 ∨ m.ref = 7 ∨ m.ref = 8 := by omega
    rw [h9]
    rcases this with e | e | e | e | e | e | e <;> rw [e] <;> decide
  · rw [isM_ref h h9]
    have : m.op = 1 ∨ m.op = 3 ∨ m.op = 4 ∨ m.op = 5 ∨ m.op = 7 ∨ m.op = 8 ∨ m.op = 10 := by omega
    rcases this with e | e | e | e | e | e | e <;> rw [e] <;> decide
theorem opTag_less {m : Mg} (h : isM m = true) (ho : m.op = 2 ∨ m.op = 6) : (opTag m.op m.ref % 32 != 31 && (opTag m.op m.ref / 32 % 2 == 0 && decide (opTag m.op m.ref ≤ 255))) = true := by
  rw [isM_ref h (by omega)]
  rcases ho with e | e <;> rw [e] <;> decide
theorem opTag_le {m : Mg} (h : isM m = true) : opTag m.op m.ref ≤ 255 := by
  by_cases ho : m.op = 2 ∨ m.op = 6
  · have := opTag_less h ho
    simp only [Bool.and_eq_true, decide_eq_true_eq] at this
    exact this.2.2
  · have := opTag_more h (by omega) (by omega)
    simp only [Bool.and_eq_true, decide_eq_true_eq] at this
    exact this.2.2
theorem op_good {m : Mg} (h : isM m = true) : good 26 (opEl m) ∧ (enc (opEl m)).length ≤ 900000 := by
  unfold opEl
  by_cases ho : m.op = 2 ∨ m.op = 6
  · rw [if_pos ho]
    have h1 := (isM_open h).2.2.2.2.1
    have h2 := len_txt (opTag m.op m.ref) m.dn
    exact ⟨good_txt (opTag_less h ho) h1, by omega⟩
  · rw [if_neg ho]
    obtain ⟨hp, hl⟩ := parts_good h
    refine ⟨good_lst (opTag_more h (by omega) (by omega)) (by omega) (fun e he => (hp e he).1), ?_⟩
    have l1 := len_lst (opTag m.op m.ref) (parts m)
    have l2 := encs_all 100000 (parts m) (fun e he => (hp e he).2)
    omega
theorem msg_good {m : Mg} (h : isM m = true) : good 27 (msgEl m) ∧ (enc (msgEl m)).length ≤ 1000000 := by
  obtain ⟨h0, h1, _⟩ := isM_open h
  have hp := op_good h
  refine ⟨good_lst (by decide) (by simp) (fun e he => ?_), ?_⟩
  · simp only [List.mem_cons, List.not_mem_nil, or_false] at he
    rcases he with rfl | rfl
    · exact good_num (by decide) (by omega) (by omega)
    · exact hp.1
  · have l1 := len_lst 48 [num 2 m.id, opEl m]
    have l2 := len_num 2 m.id (by omega) (by omega)
    have l4 : (encs [num 2 m.id, opEl m]).length = (enc (num 2 m.id)).length + (enc (opEl m)).length := by simp [encs]
    show (enc (lst 48 _)).length ≤ _
    omega
end Go.Proofs.YtconghaebebncaaGreatDoor.Ms

/- What is read of a message's element is the message; of its bytes, too. -/
namespace Go.Proofs.YtconghaebebncaaGreatDoor.Ms
open Nm Be
set_option linter.unusedVariables false
set_option maxRecDepth 100000

theorem no_of {s : ByteArray} (h : s.size = 0) : s = no := by
  obtain ⟨d⟩ := s
  have : d = #[] := Array.eq_empty_of_size_eq_zero h
  rw [this]
theorem subs_rest (n : Nat) : ∀ (r : List ByteArray) (i : Nat) (x : ByteArray) (l : List ByteArray), 1 ≤ i → i + r.length = n → r ≠ [] → (∀ s ∈ r.take (r.length - 1), s.size ≠ 0) → rdSubs x l no (subEls n i r) = x :: (l ++ r)
  | [], i, x, l, _, _, h, _ => absurd rfl h
  | [s], i, x, l, h1, h2, _, _ => by
    have h2' : i + 1 = n := h2
    rw [subEls]
    by_cases h0 : s.size = 0
    · rw [if_pos h0, subEls, rdSubs, no_of h0]
    · rw [if_neg h0, subEls]
      have ht : partTag i n = 130 := by unfold partTag; rw [if_neg (by omega), if_pos (by omega)]
      rw [ht, txt, rdSubs]
      simp [tagE, bodyE, rdSubs]
  | s :: s' :: r, i, x, l, h1, h2, _, h4 => by
    have h2' : i + (r.length + 1 + 1) = n := h2
    have h0 : s.size ≠ 0 := h4 s (by simp)
    rw [subEls, if_neg h0]
    have ht : partTag i n = 129 := by unfold partTag; rw [if_neg (by omega), if_neg (by omega)]
    have ih := subs_rest n (s' :: r) (i + 1) x (l ++ [s]) (by omega) (by rw [List.length_cons]; omega) (by simp) (fun q hq => h4 q (by
      have e1 : (s' :: r).length - 1 = r.length := by simp
      have e2 : (s :: s' :: r).length - 1 = r.length + 1 := by simp
      rw [e1] at hq
      rw [e2, List.take_succ_cons]
      exact List.mem_cons_of_mem _ hq))
    rw [ht, txt, rdSubs]
    simp only [tagE, bodyE, if_neg (show ¬ (129 : Nat) = 128 by decide), if_true]
    rw [ih, List.append_assoc]; rfl
theorem subs_back {ss : List ByteArray} (h : Fi.subsOk ss = true) : rdSubs no [] no (subEls ss.length 0 ss) = ss := by
  unfold Fi.subsOk at h
  simp only [Bool.and_eq_true, decide_eq_true_eq, List.all_eq_true] at h
  obtain ⟨⟨hl, _⟩, hmid, _, _⟩ := h
  match ss, hl with
  | s :: r, hl =>
    have hl' : 2 ≤ r.length + 1 := hl
    have hrest := fun x => subs_rest (s :: r).length r 1 x [] (by omega) (by rw [List.length_cons]; omega) (by intro e; rw [e] at hl'; simp at hl') (fun q hq => by
      have e2 : (s :: r).length - 1 = (r.length - 1) + 1 := by rw [List.length_cons]; omega
      rw [e2, List.take_succ_cons, List.drop_succ_cons, List.drop_zero] at hmid
      exact hmid q hq)
    rw [subEls]
    by_cases h0 : s.size = 0
    · rw [if_pos h0, hrest, no_of h0]; rfl
    · rw [if_neg h0, show partTag 0 (s :: r).length = 128 from rfl, txt, rdSubs]
      simp only [tagE, bodyE, if_true]
      rw [hrest]; rfl
theorem rdFils_map : ∀ ks : List El, rdFils ks = ks.map rdFil
  | [] => by simp [rdFils]
  | e :: r => by rw [rdFils, rdFils_map r, List.map_cons]
theorem fil_back (f : Fil) : Fi.frm f = true → rdFil (filEl f) = f := by
  refine Fi.ind (p := fun f => Fi.frm f = true → rdFil (filEl f) = f) ?_ f
  intro k a v ss ks ih hf
  rw [Fi.frm] at hf
  by_cases hk : Fi.hasK k = true
  · rw [if_pos hk] at hf
    simp only [Bool.and_eq_true, decide_eq_true_eq] at hf
    obtain ⟨h3, ha, hv, hs, hks⟩ := hf
    rw [Fi.frms_all, List.all_eq_true] at hks
    have hk' : k = 1 ∨ k = 2 ∨ k = 3 := by unfold Fi.hasK at hk; simp only [decide_eq_true_eq] at hk; omega
    have hmap : (ks.map filEl).map rdFil = ks := by
      rw [List.map_map]
      refine (List.map_congr_left (g := id) fun f hfm => ?_).trans (List.map_id _)
      exact ih f hfm (hks f hfm)
    have hkk : filKind (filTag k) = k := by rcases hk' with rfl | rfl | rfl <;> decide
    rw [filEl, if_pos hk', filEls_map, lst, rdFil, hkk, if_pos hk', rdFils_map, hmap, no_of ha, no_of hv, List.eq_nil_of_length_eq_zero hs]
  · rw [if_neg hk] at hf
    simp only [Bool.and_eq_true, decide_eq_true_eq] at hf
    obtain ⟨h48, hty, hks, hrest⟩ := hf
    have hkn := List.eq_nil_of_length_eq_zero hks
    subst hkn
    have hkk : filKind (filTag k) = k := by
      have : k = 4 ∨ k = 5 ∨ k = 6 ∨ k = 7 ∨ k = 8 := by omega
      rcases this with rfl | rfl | rfl | rfl | rfl <;> decide
    rw [filEl, if_neg (by omega)]
    by_cases h7 : k = 7
    · subst h7
      rw [if_pos rfl] at hrest
      simp only [Bool.and_eq_true, decide_eq_true_eq] at hrest
      rw [if_pos rfl, txt, rdFil, hkk, if_neg (by omega), if_pos rfl, no_of hrest.1, List.eq_nil_of_length_eq_zero hrest.2]
    rw [if_neg h7] at hrest ⊢
    by_cases h8 : k = 8
    · subst h8
      rw [if_pos rfl] at hrest
      simp only [Bool.and_eq_true, decide_eq_true_eq] at hrest
      rw [if_pos rfl, lst, rdFil, hkk, if_neg (by omega), if_neg h7, if_pos rfl, no_of hrest.1]
      have h9 := subs_back hrest.2
      simp only [List.getD_cons_zero, List.getD_cons_succ, txt, lst, bodyE, kidsE, h9]
    · rw [if_neg h8] at hrest
      simp only [Bool.and_eq_true, decide_eq_true_eq] at hrest
      rw [if_neg h8, lst, rdFil, hkk, if_neg (by omega), if_neg h7, if_neg h8, List.eq_nil_of_length_eq_zero hrest.2]
      simp only [List.getD_cons_zero, List.getD_cons_succ, txt, bodyE]

theorem rdNum {n : Int} (h0 : -9223372036854775808 ≤ n) (h1 : n ≤ 9223372036854775807) : (rdI (bs (strOfNums (intB n)))).getD 0 = n := by
  have h2 := rdI_int n (few_8 n h0 h1)
  have h3 : bs (strOfNums (intB n)) = bytesI (intB n) := by show (strOfNums (intB n)).data.toList = _; rw [strOfNums_data]; rfl
  rw [h3, h2]; rfl
theorem texts_back (t : Nat) (l : List ByteArray) : (l.map (txt t)).map bodyE = l := by
  rw [List.map_map]
  exact (List.map_congr_left (g := id) fun f hfm => rfl).trans (List.map_id _)
theorem attr_back {d : Mo} (h : d.kind = 1) : rdAttr (attrEl d) = d := by
  obtain ⟨k, a, v⟩ := d
  simp only at h
  subst h
  show Mo.mk 1 a ((v.map (txt 4)).map bodyE) = _
  rw [texts_back]
theorem mod_back {d : Mo} (h : okMo d) : rdMod (modEl d) = d := by
  obtain ⟨k, a, v⟩ := d
  have h1 : 1 ≤ k := h.1
  have h3 : k ≤ 3 := h.2.1
  show Mo.mk ((rdI (bs (strOfNums (intB (k - 1))))).getD 0 + 1) a ((v.map (txt 4)).map bodyE) = _
  rw [texts_back, rdNum (by omega) (by omega), Int.sub_add_cancel]
theorem opTag_back {m : Mg} (h : isM m = true) : opOf (opTag m.op m.ref) = (m.op, m.ref) := by
  have ho := isM_op h
  by_cases h9 : m.op = 9
  · obtain ⟨q1, q2, _⟩ := formed_result h9 (isM_open h).2.2.2.1
    have : m.ref = 1 ∨ m.ref = 3 ∨ m.ref = 4 ∨ m.ref = 5 ∨ m.ref = 6 ∨ m.ref = 7 ∨ m.ref = 8 := by omega
    rw [h9]
    rcases this with e | e | e | e | e | e | e <;> rw [e] <;> decide
  · rw [isM_ref h h9]
    have : m.op = 1 ∨ m.op = 2 ∨ m.op = 3 ∨ m.op = 4 ∨ m.op = 5 ∨ m.op = 6 ∨ m.op = 7 ∨ m.op = 8 ∨ m.op = 10 := by omega
    rcases this with e | e | e | e | e | e | e | e | e <;> rw [e] <;> decide
theorem flag_back (b : Bool) : (decide ((bs (boolB b)).length = 1) && decide (bs (boolB b) ≠ [0])) = b := by cases b <;> decide
theorem tagE_op (m : Mg) : tagE (opEl m) = opTag m.op m.ref := by unfold opEl; split <;> rfl
theorem map_back {α β : Type} {f : α → β} {g : β → α} : ∀ {l : List α}, (∀ d ∈ l, g (f d) = d) → (l.map f).map g = l
  | [], _ => rfl
  | x :: l, h => by rw [List.map_cons, List.map_cons, h x (by simp), map_back fun d hd => h d (by simp [hd])]

theorem msg_back {m : Mg} (h : isM m = true) : rdM (msgEl m) = m := by
  obtain ⟨i0, i1, hfo, hf, _⟩ := isM_open h
  have ho := isM_op h
  have htag := opTag_back h
  have hid : numAt (msgEl m) 0 = m.id := rdNum (n := m.id) (by omega) (by omega)
  have hk : kidE (msgEl m) 1 = opEl m := rfl
  unfold rdM
  simp only [hid, hk, tagE_op, htag]
  have hsh : m = shapeR m := by
    rw [← isR_isM] at h
    unfold isR at h
    simp only [Bool.and_eq_true, eqM_eq] at h
    exact h.2.2.1
  have num_at : ∀ (t : Nat) (n : Int), -9223372036854775808 ≤ n → n ≤ 9223372036854775807 → (rdI (bs (bodyE (num t n)))).getD 0 = n := fun t n a b => rdNum a b
  have hop : ∀ l, parts m = l → (m.op ≠ 2 ∧ m.op ≠ 6) → opEl m = lst (opTag m.op m.ref) l := fun l e hne => by unfold opEl; rw [if_neg (by omega), e]
  by_cases h1 : m.op = 1
  · have hv := formed_bind h1 hf
    have e1 := hop _ (show parts m = [num 2 m.ver, txt 4 m.dn, txt 128 m.pass] by unfold parts; rw [if_pos h1]) (by omega)
    rw [if_pos h1, e1]
    simp only [numAt, textAt, kidE, kidsE, lst, List.getD_cons_zero, List.getD_cons_succ]
    rw [num_at _ _ (by omega) (by omega)]
    conv => rhs; rw [hsh]
    unfold shapeR
    rw [if_pos h1, isM_ref h (by omega)]
    rfl
  rw [if_neg h1]
  by_cases h3 : m.op = 3
  · obtain ⟨q1, q2, q3, q4⟩ := formed_search h3 hf
    have e1 := hop _ (show parts m = [txt 4 m.dn, num 10 m.scope, num 10 0, num 2 m.size, num 2 0, flg false, filEl m.fil, lst 48 (m.wants.map (txt 4))] by unfold parts; rw [if_neg h1, if_pos h3]) (by omega)
    rw [if_pos h3, e1]
    simp only [numAt, textAt, kidE, kidsE, lst, List.getD_cons_zero, List.getD_cons_succ]
    rw [num_at _ _ (by omega) (by omega), num_at _ _ (by omega) (by omega), fil_back _ (fil_open q3).1, texts_back]
    conv => rhs; rw [hsh]
    unfold shapeR
    rw [if_neg h1, if_pos h3, isM_ref h (by omega)]
    rfl
  rw [if_neg h3]
  by_cases h4 : m.op = 4
  · obtain ⟨q1, q2, _⟩ := formed_mods (Or.inl h4) hf
    have e1 := hop _ (show parts m = [txt 4 m.dn, lst 48 (m.mods.map modEl)] by unfold parts; rw [if_neg h1, if_neg h3, if_pos h4]) (by omega)
    rw [if_pos h4, e1]
    simp only [textAt, kidE, kidsE, lst, List.getD_cons_zero, List.getD_cons_succ]
    rw [map_back fun d hd => mod_back (q2 d hd)]
    conv => rhs; rw [hsh]
    unfold shapeR
    rw [if_neg h1, if_neg h3, if_pos (Or.inl h4), isM_ref h (by omega)]
    rfl
  rw [if_neg h4]
  by_cases h5 : m.op = 5 ∨ m.op = 10
  · obtain ⟨q1, q2, q3⟩ := formed_mods (Or.inr h5) hf
    have e1 := hop _ (show parts m = [txt 4 m.dn, lst 48 (m.mods.map attrEl)] by unfold parts; rw [if_neg h1, if_neg h3, if_neg h4, if_pos h5]) (by omega)
    rw [if_pos h5, e1]
    simp only [textAt, kidE, kidsE, lst, List.getD_cons_zero, List.getD_cons_succ]
    rw [map_back fun d hd => attr_back (q3 (by omega) d hd)]
    conv => rhs; rw [hsh]
    unfold shapeR
    rw [if_neg h1, if_neg h3, if_pos (Or.inr h5), isM_ref h (by omega)]
    rfl
  rw [if_neg h5]
  by_cases h6 : m.op = 6
  · have e1 : opEl m = txt (opTag m.op m.ref) m.dn := by unfold opEl; rw [if_pos (Or.inr h6)]
    rw [if_pos h6, e1]
    conv => rhs; rw [hsh]
    unfold shapeR
    rw [if_neg h1, if_neg h3, if_neg (by omega), if_pos h6, isM_ref h (by omega)]
    rfl
  rw [if_neg h6]
  by_cases h7 : m.op = 7
  · have e1 := hop _ (show parts m = [txt 4 m.dn, txt 4 m.rdn, flg m.del] ++ (if m.has then [txt 128 m.sup] else []) by unfold parts; rw [if_neg h1, if_neg h3, if_neg h4, if_neg h5, if_pos h7]) (by omega)
    rw [if_pos h7, e1]
    conv => rhs; rw [hsh]
    unfold shapeR
    rw [if_neg h1, if_neg h3, if_neg (show ¬(m.op = 4 ∨ m.op = 5 ∨ m.op = 10) by omega), if_neg h6, if_pos h7, isM_ref h (by omega)]
    have hb := flag_back m.del
    cases hs : m.has with
    | false =>
      simp only [Bool.false_eq_true, if_false, List.append_nil, textAt, flagAt, kidE, kidsE, lst, List.getD_cons_zero, List.getD_cons_succ, flg, txt, bodyE, hb]
      rfl
    | true =>
      simp only [if_true, List.cons_append, List.nil_append, textAt, flagAt, kidE, kidsE, lst, List.getD_cons_zero, List.getD_cons_succ, flg, txt, bodyE, hb]
      rfl
  rw [if_neg h7]
  by_cases h8 : m.op = 8
  · have e1 := hop _ (show parts m = [txt 4 m.dn, lst 48 [txt 4 m.attr, txt 4 m.value]] by unfold parts; rw [if_neg h1, if_neg h3, if_neg h4, if_neg h5, if_neg h7, if_pos h8]) (by omega)
    rw [if_pos h8, e1]
    conv => rhs; rw [hsh]
    unfold shapeR
    rw [if_neg h1, if_neg h3, if_neg (by omega), if_neg h6, if_neg h7, if_pos h8, isM_ref h (by omega)]
    rfl
  rw [if_neg h8]
  by_cases h9 : m.op = 9
  · have hv := formed_result h9 hf
    have e1 := hop _ (show parts m = [num 10 m.code, txt 4 m.matched, txt 4 no] by unfold parts; rw [if_neg h1, if_neg h3, if_neg h4, if_neg h5, if_neg h7, if_neg h8]) (by omega)
    rw [if_pos h9, e1]
    simp only [numAt, textAt, kidE, kidsE, lst, List.getD_cons_zero, List.getD_cons_succ]
    rw [num_at _ _ (by omega) (by omega)]
    conv => rhs; rw [hsh]
    unfold shapeR
    rw [if_neg h1, if_neg h3, if_neg (by omega), if_neg h6, if_neg h7, if_neg h8, if_pos h9]
    rfl
  · rw [if_neg h9]
    conv => rhs; rw [hsh]
    unfold shapeR
    rw [if_neg h1, if_neg h3, if_neg (by omega), if_neg h6, if_neg h7, if_neg h8, if_neg h9, isM_ref h h9]
    rfl
/-- What was written is read. -/
theorem dec_enc {m : Mg} {s : List UInt8} (h : encM m = (s, 0)) : decM s = (m, 0) := by
  have h0 := h
  unfold encM at h
  split at h
  · injection h with h1 h2; cases h2
  · rename_i h1
    split at h
    · injection h with h1 h2; cases h2
    · rename_i h4
      split at h
      · injection h with h1 h2; cases h2
      · rename_i h2
        have hm : isM m = true := by simpa using h1
        injection h with hs _
        have hg := (msg_good hm).1
        have hlen := enc_len (msgEl m)
        have hb := back_any (msgEl m) hg.1 hg.2.1 (by omega) 20 (by omega) [] 0
        rw [List.append_nil, hs] at hb
        unfold decM
        rw [hb]
        simp only [msg_back hm, h0, if_true]
/-- Two messages have one text if they are one. -/
theorem enc_inj {m n : Mg} {s t : List UInt8} (h : encM m = (s, 0)) (h' : encM n = (t, 0)) : s = t ↔ m = n := by
  constructor
  · intro e
    have h1 := dec_enc h
    rw [e, dec_enc h'] at h1
    injection h1 with h1 _
    exact h1.symm
  · intro e
    rw [e, h'] at h
    injection h with h _
    exact h.symm
theorem encM_bad {m : Mg} (h : (encM m).2 ≠ 0) : (encM m).1 = [] := by
  unfold encM at h ⊢
  split
  · rfl
  · rename_i h1
    rw [if_neg h1] at h
    split
    · rfl
    · rename_i h2
      rw [if_neg h2] at h
      split
      · rfl
      · rename_i h3
        rw [if_neg h3] at h
        exact absurd rfl h
end Go.Proofs.YtconghaebebncaaGreatDoor.Ms

/- What is printed is read: plain. -/
namespace Go.Proofs.YtconghaebebncaaGreatDoor
set_option linter.unusedVariables false
set_option maxRecDepth 100000
namespace Fi
open Nm

theorem upto_at {c : UInt8} {x r : List UInt8} (h : c ∉ x) : upto c (x ++ c :: r) = x := by
  induction x with
  | nil => simp [upto]
  | cons b x ih =>
    simp only [List.mem_cons, not_or] at h
    rw [List.cons_append, upto, if_neg (fun e => h.1 e.symm), ih h.2]
theorem past_at {c : UInt8} {x r : List UInt8} (h : c ∉ x) : past c (x ++ c :: r) = r := by
  induction x with
  | nil => simp [past]
  | cons b x ih =>
    simp only [List.mem_cons, not_or] at h
    rw [List.cons_append, past, if_neg (fun e => h.1 e.symm), ih h.2]
theorem u8_nat {c d : UInt8} (h : c.toNat = d.toNat) : c = d := UInt8.toNat_inj.1 h
theorem type_mem {l : List UInt8} (h : isType l = true) {c : UInt8} (hc : c ∈ l) : 97 ≤ c.toNat ∧ c.toNat ≤ 122 ∨ 48 ≤ c.toNat ∧ c.toNat ≤ 57 ∨ c.toNat = 45 := by
  unfold isType at h
  cases l with
  | nil => cases hc
  | cons b r =>
    simp only [Bool.and_eq_true] at h
    rcases List.mem_cons.1 hc with rfl | hc
    · have := h.2.1
      unfold smallC at this
      rw [decide_eq_true_eq] at this
      omega
    · have := List.all_eq_true.1 h.2.2 c hc
      unfold typeC at this
      rw [decide_eq_true_eq] at this
      omega
theorem type_head {l : List UInt8} (h : isType l = true) : ∃ c r, l = c :: r ∧ 97 ≤ c.toNat ∧ c.toNat ≤ 122 ∧ l.length ≤ 16 := by
  unfold isType at h
  cases l with
  | nil => simp at h
  | cons b r =>
    simp only [Bool.and_eq_true, decide_eq_true_eq] at h
    have := h.2.1
    unfold smallC at this
    rw [decide_eq_true_eq] at this
    exact ⟨b, r, rfl, this.1, this.2, h.1⟩
theorem hexc_all : (List.range 16).all (fun n => decide (48 ≤ (hexc n).toNat ∧ (hexc n).toNat ≤ 57 ∨ 97 ≤ (hexc n).toNat ∧ (hexc n).toNat ≤ 102)) = true := by kernel_rfl
theorem hexc_of {n : Nat} (h : n < 16) : 48 ≤ (hexc n).toNat ∧ (hexc n).toNat ≤ 57 ∨ 97 ≤ (hexc n).toNat ∧ (hexc n).toNat ≤ 102 := by
  have := List.all_eq_true.1 hexc_all n (by simp [h])
  exact of_decide_eq_true this
theorem byte_all : (List.range 256).all (fun n => decide (byte (hexc (n / 16)) (hexc (n % 16)) = n.toUInt8)) = true := by kernel_rfl
theorem byte_of (c : UInt8) : byte (hexc (c.toNat / 16)) (hexc (c.toNat % 16)) = c := by
  have := List.all_eq_true.1 byte_all c.toNat (by simp [c.toNat_lt])
  have h := of_decide_eq_true this
  simpa using h
/-- No byte of a value's text is a bracket or a star. -/
theorem escC_mem {c b : UInt8} (h : b ∈ escC c) : b.toNat ≠ 40 ∧ b.toNat ≠ 41 ∧ b.toNat ≠ 42 := by
  unfold escC at h
  have h256 := c.toNat_lt
  split at h
  · have h1 := hexc_of (n := c.toNat / 16) (by omega)
    have h2 := hexc_of (n := c.toNat % 16) (by omega)
    simp only [List.mem_cons, List.not_mem_nil, or_false] at h
    rcases h with rfl | rfl | rfl
    · decide
    · omega
    · omega
  · rename_i ho
    have ho : odd c = false := by simpa using ho
    unfold odd at ho
    rw [decide_eq_false_iff_not] at ho
    simp only [List.mem_cons, List.not_mem_nil, or_false] at h
    subst h
    omega
theorem esc_mem {l : List UInt8} {b : UInt8} (h : b ∈ esc l) : b.toNat ≠ 40 ∧ b.toNat ≠ 41 ∧ b.toNat ≠ 42 := by
  unfold esc at h
  obtain ⟨c, _, hc⟩ := List.mem_flatMap.1 h
  exact escC_mem hc
theorem esc_no (l : List UInt8) : (42 : UInt8) ∉ esc l ∧ (41 : UInt8) ∉ esc l := ⟨fun h => (esc_mem h).2.2 rfl, fun h => (esc_mem h).2.1 rfl⟩
theorem esc_cons (c : UInt8) (l : List UInt8) : esc (c :: l) = escC c ++ esc l := by unfold esc; rw [List.flatMap_cons]
theorem escC_len (c : UInt8) : 1 ≤ (escC c).length ∧ (escC c).length ≤ 3 := by unfold escC; split <;> simp
theorem esc_len : ∀ l : List UInt8, l.length ≤ (esc l).length ∧ (esc l).length ≤ 3 * l.length
  | [] => by simp [esc]
  | c :: l => by
    have h1 := escC_len c
    have h2 := esc_len l
    rw [esc_cons, List.length_append, List.length_cons]
    omega
theorem rv_two (m : Nat) (a b : UInt8) (t : List UInt8) : rv (m + 1) (92 :: a :: b :: t) = byte a b :: rv m t := by simp [rv]
theorem rv_one (m : Nat) (c : UInt8) (r : List UInt8) (h : c ≠ 92) : rv (m + 1) (c :: r) = c :: rv m r := by
  rw [rv.eq_def]
  simp only
  rw [if_neg h]
theorem rv_esc : ∀ (l : List UInt8) (n : Nat), l.length ≤ n → rv n (esc l) = l
  | [], n, h => by cases n <;> simp [esc, rv]
  | c :: l, n, h => by
    obtain ⟨m, rfl⟩ : ∃ m, n = m + 1 := ⟨n - 1, by simp at h; omega⟩
    have ih := rv_esc l m (by simpa using h)
    rw [esc_cons]
    unfold escC
    split
    · show rv (m + 1) (92 :: hexc (c.toNat / 16) :: hexc (c.toNat % 16) :: esc l) = _
      rw [rv_two, byte_of, ih]
    · rename_i ho
      have ho : odd c = false := by simpa using ho
      unfold odd at ho
      rw [decide_eq_false_iff_not] at ho
      show rv (m + 1) (c :: esc l) = _
      rw [rv_one _ _ _ (by intro e; subst e; exact ho (by decide)), ih]
theorem split_parts : ∀ (ss : List ByteArray) (s : ByteArray) (n : Nat), ss.length ≤ n → split n (parts (s :: ss)) = (s :: ss).map (fun x => esc (bs x))
  | [], s, n, h => by
    show split n (esc (bs s) ++ []) = _
    rw [List.append_nil]
    cases n with
    | zero => rfl
    | succ n => rw [split, if_neg (esc_no _).1]; rfl
  | t :: ss, s, n, h => by
    obtain ⟨m, rfl⟩ : ∃ m, n = m + 1 := ⟨n - 1, by simp at h; omega⟩
    have ih := split_parts ss t m (by simpa using h)
    show split (m + 1) (esc (bs s) ++ 42 :: (esc (bs t) ++ stars ss)) = _
    rw [split, if_pos (by simp), upto_at (esc_no _).1, past_at (esc_no _).1]
    show _ :: split m (parts (t :: ss)) = _
    rw [ih]; rfl
theorem stars_mem : ∀ {ss : List ByteArray} {b : UInt8}, b ∈ stars ss → b.toNat ≠ 40 ∧ b.toNat ≠ 41
  | [], b, h => by cases h
  | s :: r, b, h => by
    rw [stars] at h
    rcases List.mem_cons.1 h with rfl | h
    · decide
    · rcases List.mem_append.1 h with h | h
      · have := esc_mem h; omega
      · exact stars_mem h
theorem parts_mem {ss : List ByteArray} {b : UInt8} (h : b ∈ parts ss) : b.toNat ≠ 40 ∧ b.toNat ≠ 41 := by
  cases ss with
  | nil => cases h
  | cons s r =>
    rcases List.mem_append.1 h with h | h
    · have := esc_mem h; omega
    · exact stars_mem h
theorem stars_len : ∀ ss : List ByteArray, ss.length ≤ (stars ss).length ∧ (ss.any (fun s => decide (s.size ≠ 0)) = true → ss.length + 1 ≤ (stars ss).length)
  | [] => by simp [stars]
  | s :: r => by
    obtain ⟨h1, h2⟩ := stars_len r
    have h3 := (esc_len (bs s)).1
    have h4 : (bs s).length = s.size := rfl
    rw [stars, List.length_cons, List.length_cons, List.length_append, List.any_cons]
    refine ⟨by omega, fun h => ?_⟩
    rw [Bool.or_eq_true] at h
    rcases h with h | h
    · rw [decide_eq_true_eq] at h; omega
    · have := h2 h; omega
theorem parts_two {ss : List ByteArray} (h : subsOk ss = true) : parts ss ≠ [42] ∧ 42 ∈ parts ss := by
  unfold subsOk at h
  simp only [Bool.and_eq_true, decide_eq_true_eq] at h
  obtain ⟨⟨h1, h2⟩, h3, h4, h5⟩ := h
  match ss, h1 with
  | s :: t :: r, _ =>
    constructor
    · intro e
      have hl : (parts (s :: t :: r)).length = 1 := by rw [e]; rfl
      have h6 := stars_len (t :: r)
      have h7 := (esc_len (bs s)).1
      have h8 : (bs s).length = s.size := rfl
      rw [parts, List.length_append] at hl
      rw [List.any_cons, Bool.or_eq_true] at h5
      simp only [List.length_cons] at h6
      rcases h5 with h5 | h5
      · rw [decide_eq_true_eq] at h5; omega
      · have := h6.2 h5; omega
    · rw [parts, stars]; simp
theorem last_snoc (x : List UInt8) (c : UInt8) : last (x ++ [c]) = c.toNat := by unfold last; simp
theorem last_type {x : List UInt8} (h : isType x = true) : last x ≠ 62 ∧ last x ≠ 60 := by
  obtain ⟨c, r, hx, _⟩ := type_head h
  unfold last
  cases hl : x.getLast? with
  | none => exact ⟨by decide, by decide⟩
  | some b =>
    have := type_mem h (List.mem_of_getLast? hl)
    show b.toNat ≠ 62 ∧ b.toNat ≠ 60
    exact ⟨by omega, by omega⟩
theorem trim_keep {x : List UInt8} (h : isType x = true) : trim x = x := by
  unfold trim
  have : x.reverse.dropWhile ([60, 62].contains ·) = x.reverse := by
    cases hr : x.reverse with
    | nil => rfl
    | cons b r =>
      have hb : b ∈ x := by rw [← List.mem_reverse, hr]; simp
      have := type_mem h hb
      rw [List.dropWhile_cons, if_neg]
      simp only [List.contains_cons, List.contains_nil, Bool.or_false, Bool.or_eq_true, beq_iff_eq, not_or]
      exact ⟨fun e => by subst e; revert this; decide, fun e => by subst e; revert this; decide⟩
  rw [this, List.reverse_reverse]
theorem trim_snoc {x : List UInt8} {c : UInt8} (h : isType x = true) (hc : c = 60 ∨ c = 62) : trim (x ++ [c]) = x := by
  have hk := trim_keep h
  unfold trim at hk ⊢
  rw [List.reverse_append, List.reverse_singleton, List.singleton_append, List.dropWhile_cons, if_pos (by rcases hc with rfl | rfl <;> rfl)]
  exact hk
theorem mk_of (b : ByteArray) : mk (bs b) = b := rfl
theorem size0 {b : ByteArray} (h : b.size = 0) : b = mk [] := by
  have : bs b = [] := List.eq_nil_of_length_eq_zero h
  rw [← mk_of b, this]
theorem type_no {x : List UInt8} (h : isType x = true) : (61 : UInt8) ∉ x ∧ (41 : UInt8) ∉ x := by
  constructor
  · intro e; have := type_mem h e; revert this; decide
  · intro e; have := type_mem h e; revert this; decide
theorem map_rv (ss : List ByteArray) (h : ss.all (fun s => decide (s.size ≤ 60)) = true) : (ss.map (fun x => esc (bs x))).map (fun l => mk (rv 61 l)) = ss := by
  rw [List.map_map]
  conv => rhs; rw [← List.map_id ss]
  apply List.map_congr_left
  intro s hs
  have := of_decide_eq_true (List.all_eq_true.1 h s hs)
  show mk (rv 61 (esc (bs s))) = s
  have hl : (bs s).length = s.size := rfl
  rw [rv_esc _ _ (by omega)]
/-- An item's text is read as it is. -/
theorem item_pr {k : Int} {a v : ByteArray} {ss : List ByteArray} (hk : hasK k = false) (h : frm (.mk k a v ss []) = true) :
    item (bs a ++ (sign k ++ (parts ss ++ (esc (bs v) ++ (if k = 7 then [42] else []))))) = .mk k a v ss [] := by
  rw [frm, hk] at h
  simp only [Bool.false_eq_true, if_false, Bool.and_eq_true, decide_eq_true_eq] at h
  obtain ⟨⟨k1, k2⟩, hT, _, hR⟩ := h
  have hno := type_no hT
  have hl := last_type hT
  unfold item
  have hv0 : v.size = 0 → esc (bs v) = [] := fun h => by rw [show bs v = [] from List.eq_nil_of_length_eq_zero h]; rfl
  have hs0 : ss.length = 0 → ss = [] := fun h => List.eq_nil_of_length_eq_zero h
  have hvl : (bs v).length = v.size := rfl
  rcases (show k = 4 ∨ k = 5 ∨ k = 6 ∨ k = 7 ∨ k = 8 by omega) with rfl | rfl | rfl | rfl | rfl
  · simp only [Int.reduceEq, if_false, Bool.and_eq_true, decide_eq_true_eq] at hR
    obtain ⟨h1, h2⟩ := hR
    obtain rfl := hs0 h2
    have e : bs a ++ (sign 4 ++ (parts [] ++ (esc (bs v) ++ (if (4 : Int) = 7 then [42] else [])))) = bs a ++ 61 :: esc (bs v) := by simp [sign, parts]
    rw [e, upto_at hno.1, past_at hno.1]
    have hkd : kindOf (bs a) (esc (bs v)) = 4 := by
      unfold kindOf
      rw [if_neg hl.1, if_neg hl.2, if_neg (by intro e; have := (esc_no (bs v)).1; rw [e] at this; simp at this), if_neg (esc_no _).1]
    rw [hkd]
    unfold itemOf
    rw [trim_keep hT, if_neg (by omega), if_neg (by omega), rv_esc _ _ (by omega)]
  · simp only [Int.reduceEq, if_false, Bool.and_eq_true, decide_eq_true_eq] at hR
    obtain ⟨h1, h2⟩ := hR
    obtain rfl := hs0 h2
    have e : bs a ++ (sign 5 ++ (parts [] ++ (esc (bs v) ++ (if (5 : Int) = 7 then [42] else [])))) = (bs a ++ [62]) ++ 61 :: esc (bs v) := by simp [sign, parts]
    have hno2 : (61 : UInt8) ∉ bs a ++ [62] := by
      rw [List.mem_append, not_or]
      exact ⟨hno.1, by decide⟩
    rw [e, upto_at hno2, past_at hno2]
    have hkd : kindOf (bs a ++ [62]) (esc (bs v)) = 5 := by unfold kindOf; rw [last_snoc]; rfl
    rw [hkd]
    unfold itemOf
    rw [trim_snoc hT (Or.inr rfl), if_neg (by omega), if_neg (by omega), rv_esc _ _ (by omega)]
  · simp only [Int.reduceEq, if_false, Bool.and_eq_true, decide_eq_true_eq] at hR
    obtain ⟨h1, h2⟩ := hR
    obtain rfl := hs0 h2
    have e : bs a ++ (sign 6 ++ (parts [] ++ (esc (bs v) ++ (if (6 : Int) = 7 then [42] else [])))) = (bs a ++ [60]) ++ 61 :: esc (bs v) := by simp [sign, parts]
    have hno2 : (61 : UInt8) ∉ bs a ++ [60] := by
      rw [List.mem_append, not_or]
      exact ⟨hno.1, by decide⟩
    rw [e, upto_at hno2, past_at hno2]
    have hkd : kindOf (bs a ++ [60]) (esc (bs v)) = 6 := by unfold kindOf; rw [last_snoc]; rfl
    rw [hkd]
    unfold itemOf
    rw [trim_snoc hT (Or.inl rfl), if_neg (by omega), if_neg (by omega), rv_esc _ _ (by omega)]
  · simp only [if_true, Bool.and_eq_true, decide_eq_true_eq] at hR
    obtain ⟨h1, h2⟩ := hR
    obtain rfl := hs0 h2
    have e : bs a ++ (sign 7 ++ (parts [] ++ (esc (bs v) ++ (if (7 : Int) = 7 then [42] else [])))) = bs a ++ 61 :: [42] := by rw [hv0 h1]; simp [sign, parts]
    rw [e, upto_at hno.1, past_at hno.1]
    have hkd : kindOf (bs a) [42] = 7 := by
      unfold kindOf
      rw [if_neg hl.1, if_neg hl.2, if_pos rfl]
    rw [hkd]
    unfold itemOf
    rw [trim_keep hT, if_pos (Or.inl rfl), if_neg (by omega), ← size0 h1]
  · simp only [Int.reduceEq, if_true, if_false, Bool.and_eq_true, decide_eq_true_eq] at hR
    obtain ⟨h1, h2⟩ := hR
    have e : bs a ++ (sign 8 ++ (parts ss ++ (esc (bs v) ++ (if (8 : Int) = 7 then [42] else [])))) = bs a ++ 61 :: parts ss := by rw [hv0 h1]; simp [sign]
    rw [e, upto_at hno.1, past_at hno.1]
    have hkd : kindOf (bs a) (parts ss) = 8 := by
      unfold kindOf
      rw [if_neg hl.1, if_neg hl.2, if_neg (parts_two h2).1, if_pos (parts_two h2).2]
    rw [hkd]
    unfold itemOf
    have h3 := h2
    unfold subsOk at h3
    simp only [Bool.and_eq_true, decide_eq_true_eq] at h3
    obtain ⟨⟨q1, q2⟩, q3, q4, q5⟩ := h3
    match ss, q1 with
    | s :: r, _ =>
      rw [trim_keep hT, if_pos (Or.inr rfl), if_pos rfl, split_parts r s 20 (by simp at q2; omega), map_rv _ q4, ← size0 h1]
/-- An item's text has no bracket. -/
theorem item_no {k : Int} {a v : ByteArray} {ss : List ByteArray} (hT : isType (bs a) = true) : (41 : UInt8) ∉ bs a ++ (sign k ++ (parts ss ++ (esc (bs v) ++ (if k = 7 then [42] else [])))) := by
  intro h
  rcases List.mem_append.1 h with h | h
  · exact (type_no hT).2 h
  rcases List.mem_append.1 h with h | h
  · unfold sign at h
    repeat' split at h
    all_goals revert h; decide
  rcases List.mem_append.1 h with h | h
  · exact (parts_mem h).2 rfl
  rcases List.mem_append.1 h with h | h
  · exact (esc_no _).2 h
  split at h
  · revert h; decide
  · cases h
theorem pr_head (f : Fil) : ∃ t, pr f = 40 :: t := by
  obtain ⟨k, a, v, ss, ks⟩ := f
  exact ⟨_, rfl⟩
theorem lp_pr (rd : Nat → List UInt8 → Option (Fil × List UInt8)) (k : Int) (m : Nat) (r : List UInt8) : ∀ (rest : List Fil) (j : Nat) (done : List Fil), rest.length < j → 1 + tots done + tots rest ≤ m →
    (∀ f ∈ rest, ∀ m' r', tot f ≤ m' → m' + 1 ≤ m → rd m' (pr f ++ r') = some (f, r')) → lp rd k m j done (prs rest ++ 41 :: r) = some (.mk k (mk []) (mk []) [] (done ++ rest), r)
  | [], j, done, hj, hm, h => by
    obtain ⟨i, rfl⟩ : ∃ i, j = i + 1 := ⟨j - 1, by omega⟩
    rw [prs, List.nil_append, lp, if_pos (show (41 :: r).head? = some 41 from rfl), List.append_nil]; rfl
  | f :: rest, j, done, hj, hm, h => by
    obtain ⟨i, rfl⟩ : ∃ i, j = i + 1 := ⟨j - 1, by omega⟩
    rw [tots] at hm
    obtain ⟨t, ht⟩ := pr_head f
    rw [prs, List.append_assoc, lp, if_neg (by rw [ht]; simp), h f (by simp) _ _ (by omega) (by omega)]
    simp only
    rw [lp_pr rd k m r rest i (done ++ [f]) (by simp at hj; omega) (by rw [tots_app, tots, tots]; omega) (fun g hg => h g (by simp [hg])), List.append_assoc]
    rfl
theorem frms_mem {l : List Fil} (h : frms l = true) {f : Fil} (hf : f ∈ l) : frm f = true := by
  rw [frms_all] at h
  exact List.all_eq_true.1 h f hf
theorem tots_mem {l : List Fil} {f : Fil} (hf : f ∈ l) : tot f ≤ tots l := by
  induction l with
  | nil => cases hf
  | cons g r ih =>
    rw [tots]
    rcases List.mem_cons.1 hf with rfl | hf
    · omega
    · have := ih hf; omega
theorem rd_pr (f : Fil) : frm f = true → ∀ (n m : Nat) (r : List UInt8), tot f ≤ m → m ≤ n → rd n m (pr f ++ r) = some (f, r) := by
  refine ind (p := fun f => frm f = true → ∀ (n m : Nat) (r : List UInt8), tot f ≤ m → m ≤ n → rd n m (pr f ++ r) = some (f, r)) ?_ f
  intro k a v ss ks ih hf n m r hm hn
  have hp := tot_pos (.mk k a v ss ks)
  obtain ⟨n, rfl⟩ : ∃ i, n = i + 1 := ⟨n - 1, by omega⟩
  cases hk : hasK k with
  | true =>
    have hf2 := hf
    rw [frm, hk] at hf2
    simp only [if_true, Bool.and_eq_true, decide_eq_true_eq] at hf2
    obtain ⟨h3, ha, hv, hs, hks⟩ := hf2
    rw [tot, hk] at hm
    simp only [if_true] at hm
    have hss : ss = [] := List.eq_nil_of_length_eq_zero hs
    have ea := size0 ha
    have ev := size0 hv
    subst hss
    have hL : ∀ r', lp (rd n) k m m [] (prs ks ++ 41 :: r') = some (.mk k a v [] ks, r') := fun r' => by
      rw [lp_pr (rd n) k m r' ks m [] (by have := tots_len ks; omega) (by rw [tots]; omega) (fun f hf m' r'' h1 h2 => ih f hf (frms_mem hks hf) n m' r'' h1 (by omega)), List.nil_append]
      rw [show Fil.mk k (mk []) (mk []) [] ks = Fil.mk k a v [] ks by rw [ea, ev]]
    have hk7 : k ≠ 7 := by unfold hasK at hk; rw [decide_eq_true_eq] at hk; omega
    have e : pr (.mk k a v [] ks) ++ r = 40 :: (sign k ++ (prs ks ++ 41 :: r)) := by
      rw [pr, if_neg hk7, show bs a = [] from List.eq_nil_of_length_eq_zero ha, show bs v = [] from List.eq_nil_of_length_eq_zero hv]
      simp [parts, esc]
    rw [e, rd, if_neg (by simp; omega)]
    unfold hasK at hk
    rw [decide_eq_true_eq] at hk
    rcases (show k = 1 ∨ k = 2 ∨ k = 3 by omega) with rfl | rfl | rfl
    · exact hL r
    · exact hL r
    · exact hL r
  | false =>
    have hf2 := hf
    rw [frm, hk] at hf2
    simp only [Bool.false_eq_true, if_false, Bool.and_eq_true, decide_eq_true_eq] at hf2
    obtain ⟨hkk, hT, hks, _⟩ := hf2
    have hks0 : ks = [] := List.eq_nil_of_length_eq_zero hks
    subst hks0
    have e : pr (.mk k a v ss []) ++ r = 40 :: ((bs a ++ (sign k ++ (parts ss ++ (esc (bs v) ++ (if k = 7 then [42] else []))))) ++ 41 :: r) := by
      rw [pr, prs]
      simp
    obtain ⟨c, q, hc, h97, h122, _⟩ := type_head hT
    rw [e, rd, if_neg (by rw [tot] at hp hm; simp; split at hm <;> omega)]
    have hh : ∀ d : UInt8, (d.toNat < 97) → (List.tail (40 :: ((bs a ++ (sign k ++ (parts ss ++ (esc (bs v) ++ (if k = 7 then [42] else []))))) ++ 41 :: r))).head? ≠ some d := by
      intro d hd
      rw [List.tail_cons, hc]
      simp only [List.cons_append, List.head?_cons, ne_eq, Option.some.injEq]
      intro e; subst e; omega
    rw [if_neg (hh 38 (by decide)), if_neg (by
      intro h
      rw [List.tail_cons, hc] at h
      simp only [List.cons_append, List.head?_cons, Option.some.injEq] at h
      subst h; revert h122; decide), if_neg (hh 33 (by decide)), List.tail_cons, upto_at (item_no hT), past_at (item_no hT), item_pr hk hf]

theorem isF_frm {f : Fil} (h : isF f = true) : frm f = true ∧ tot f ≤ 20 := by
  unfold isF at h
  simp only [Bool.and_eq_true, decide_eq_true_eq] at h
  exact ⟨h.2, h.1⟩
theorem print_of {f : Fil} (h : isF f = true) : print f = pr f := by unfold print; rw [if_pos h]
theorem parse_pr {f : Fil} (h : isF f = true) : parse (pr f) = some f := by
  obtain ⟨h1, h2⟩ := isF_frm h
  have := rd_pr f h1 20 20 [] h2 (Nat.le_refl _)
  rw [List.append_nil] at this
  unfold parse
  rw [this]
  simp only
  rw [if_pos (print_of h)]
/-- What is read is a filter that is printed so. -/
theorem parse_some {s : List UInt8} {f : Fil} (h : parse s = some f) : isF f = true ∧ pr f = s := by
  unfold parse at h
  cases hr : rd 20 20 s with
  | none => rw [hr] at h; cases h
  | some q =>
    obtain ⟨g, r⟩ := q
    rw [hr] at h
    simp only at h
    split at h
    · rename_i hp
      injection h with h
      subst h
      cases hi : isF g with
      | true => rw [print_of hi] at hp; exact ⟨rfl, hp⟩
      | false =>
        unfold print at hp
        rw [hi] at hp
        simp only [Bool.false_eq_true, if_false] at hp
        subst hp
        rw [rd, if_pos (Or.inl (by simp))] at hr
        cases hr
    · cases h
/-- Of two filters' texts none is the other's with something behind it. -/
theorem pr_cut {f g : Fil} {r : List UInt8} (hf : isF f = true) (hg : isF g = true) (h : pr f = pr g ++ r) : r = [] := by
  have h1 := rd_pr f (isF_frm hf).1 20 20 [] (isF_frm hf).2 (Nat.le_refl _)
  have h2 := rd_pr g (isF_frm hg).1 20 20 r (isF_frm hg).2 (Nat.le_refl _)
  rw [List.append_nil, h, h2] at h1
  injection h1 with h1
  injection h1 with h1 h2
theorem parse_more {f : Fil} {r : List UInt8} (hf : isF f = true) (hr : r ≠ []) : parse (pr f ++ r) = none := by
  cases hp : parse (pr f ++ r) with
  | none => rfl
  | some g =>
    obtain ⟨h1, h2⟩ := parse_some hp
    exact absurd (pr_cut h1 hf h2) hr
theorem parse_less {f : Fil} {x r : List UInt8} (hf : isF f = true) (h : pr f = x ++ r) (hr : r ≠ []) : parse x = none := by
  cases hp : parse x with
  | none => rfl
  | some g =>
    obtain ⟨h1, h2⟩ := parse_some hp
    rw [← h2] at h
    exact absurd (pr_cut hf h1 h) hr
end Fi
end Go.Proofs.YtconghaebebncaaGreatDoor
