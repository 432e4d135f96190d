/- Filters as trees: how many nodes, what is a filter, its text, what is read of a text. Plain functions: nothing of the program is used here. -/
import Derived.Test.YticfemheneljmaaDoorNSpec
namespace Go.Proofs.YticfemheneljmaaDoor
set_option linter.unusedVariables false

inductive Fil where
  | mk (kind : Int) (attr value : ByteArray) (subs : List ByteArray) (kids : List Fil)

namespace Fi
open Nm

theorem ind {p : Fil → Prop} (h : ∀ k a v ss ks, (∀ f ∈ ks, p f) → p (.mk k a v ss ks)) (f : Fil) : p f :=
  Fil.rec (motive_1 := p) (motive_2 := fun ks => ∀ f ∈ ks, p f) (fun k a v ss ks ih => h k a v ss ks ih) (fun f hf => by cases hf)
    (fun f ks hf hks x hx => by
      rcases List.mem_cons.1 hx with rfl | hx
      · exact hf
      · exact hks x hx) f

mutual
def eqF : Fil → Fil → Bool
  | .mk k a v ss ks, .mk k' a' v' ss' ks' => decide (k = k') && (decide (a = a') && (decide (v = v') && (decide (ss = ss') && eqFs ks ks')))
def eqFs : List Fil → List Fil → Bool
  | [], [] => true
  | f :: r, f' :: r' => eqF f f' && eqFs r r'
  | _, _ => false
end
theorem eqF_self (f : Fil) : eqF f f = true := by
  refine ind (p := fun f => eqF f f = true) ?_ f
  intro k a v ss ks ih
  have : ∀ l : List Fil, (∀ f ∈ l, eqF f f = true) → eqFs l l = true := by
    intro l hl
    induction l with
    | nil => simp [eqFs]
    | cons f l ihl => simp [eqFs, hl f (by simp), ihl (fun x hx => hl x (by simp [hx]))]
  simp [eqF, this ks ih]
theorem eqFs_len : ∀ {l l' : List Fil}, l.length ≠ l'.length → eqFs l l' = false
  | [], [], h => absurd rfl h
  | [], _ :: _, _ => by simp [eqFs]
  | _ :: _, [], _ => by simp [eqFs]
  | f :: l, f' :: l', h => by simp [eqFs, eqFs_len (l := l) (l' := l') (by simpa using h)]
theorem eqFs_drop {l l' : List Fil} {i : Nat} (h : i < l.length) (h' : i < l'.length) : eqFs (l.drop i) (l'.drop i) = (eqF l[i] l'[i] && eqFs (l.drop (i + 1)) (l'.drop (i + 1))) := by
  rw [List.drop_eq_getElem_cons h, List.drop_eq_getElem_cons h', eqFs]

/-- Kinds that have Kids. -/
def hasK (k : Int) : Bool := decide (1 ≤ k ∧ k ≤ 3)
mutual
/-- How many nodes. -/
def tot : Fil → Nat
  | .mk k _ _ _ ks => if hasK k then 1 + tots ks else 1
def tots : List Fil → Nat
  | [] => 0
  | f :: r => tot f + tots r
end
theorem tot_pos (f : Fil) : 1 ≤ tot f := by
  obtain ⟨k, a, v, ss, ks⟩ := f
  rw [tot]
  split <;> omega
theorem tots_app : ∀ l l' : List Fil, tots (l ++ l') = tots l + tots l'
  | [], l' => by simp [tots]
  | f :: r, l' => by rw [List.cons_append, tots, tots, tots_app r l']; omega
theorem tots_len : ∀ l : List Fil, l.length ≤ tots l
  | [] => by simp
  | f :: r => by have := tots_len r; have := tot_pos f; rw [tots, List.length_cons]; omega

/-- Subs that a filter may have. -/
def subsOk (ss : List ByteArray) : Bool :=
  decide (2 ≤ ss.length ∧ ss.length ≤ 20) && (((ss.take (ss.length - 1)).drop 1).all (fun s => decide (s.size ≠ 0)) && (ss.all (fun s => decide (s.size ≤ 60)) && ss.any (fun s => decide (s.size ≠ 0))))
mutual
/-- Each has what its kind has, and nothing else. -/
def frm : Fil → Bool
  | .mk k a v ss ks =>
    if hasK k then decide (k = 3 → ks.length = 1) && (decide (a.size = 0) && (decide (v.size = 0) && (decide (ss.length = 0) && frms ks)))
    else decide (4 ≤ k ∧ k ≤ 8) && (isType (bs a) && (decide (ks.length = 0) && (
      if k = 7 then decide (v.size = 0) && decide (ss.length = 0)
      else if k = 8 then decide (v.size = 0) && subsOk ss
      else decide (v.size ≤ 60) && decide (ss.length = 0))))
def frms : List Fil → Bool
  | [] => true
  | f :: r => frm f && frms r
end
theorem frms_all : ∀ l : List Fil, frms l = l.all frm
  | [] => rfl
  | f :: r => by rw [frms, frms_all r, List.all_cons]
theorem frms_drop {l : List Fil} {i : Nat} (h : i < l.length) : frms (l.drop i) = (frm l[i] && frms (l.drop (i + 1))) := by
  rw [List.drop_eq_getElem_cons h, frms]
def isF (f : Fil) : Bool := decide (tot f ≤ 20) && frm f

def sign (k : Int) : List UInt8 := if k = 1 then [38] else if k = 2 then [124] else if k = 3 then [33] else if k = 5 then [62, 61] else if k = 6 then [60, 61] else [61]
/-- What is told by its digits. -/
def odd (c : UInt8) : Bool := decide (c.toNat < 32 ∨ 126 < c.toNat ∨ c.toNat = 42 ∨ c.toNat = 40 ∨ c.toNat = 41 ∨ c.toNat = 92)
def escC (c : UInt8) : List UInt8 := if odd c then [92, hexc (c.toNat / 16), hexc (c.toNat % 16)] else [c]
def esc (l : List UInt8) : List UInt8 := l.flatMap escC
/-- The Subs from a place on: a star ahead of each but the first. -/
def stars : List ByteArray → List UInt8
  | [] => []
  | s :: r => 42 :: (esc (bs s) ++ stars r)
def parts : List ByteArray → List UInt8
  | [] => []
  | s :: r => esc (bs s) ++ stars r
mutual
/-- The text, of one that is a filter. -/
def pr : Fil → List UInt8
  | .mk k a v ss ks => 40 :: (bs a ++ (sign k ++ (prs ks ++ (parts ss ++ (esc (bs v) ++ ((if k = 7 then [42] else []) ++ [41]))))))
def prs : List Fil → List UInt8
  | [] => []
  | f :: r => pr f ++ prs r
end
theorem prs_app : ∀ l l' : List Fil, prs (l ++ l') = prs l ++ prs l'
  | [], l' => by simp [prs]
  | f :: r, l' => by rw [List.cons_append, prs, prs, prs_app r l', List.append_assoc]
def print (f : Fil) : List UInt8 := if isF f then pr f else []

/-- What is ahead of the first c, and what is behind it. -/
def upto (c : UInt8) : List UInt8 → List UInt8
  | [] => []
  | b :: r => if b = c then [] else b :: upto c r
def past (c : UInt8) : List UInt8 → List UInt8
  | [] => []
  | b :: r => if b = c then r else past c r
/-- What a digit counts; 255 where it is none. -/
def dg (c : UInt8) : UInt8 := if 48 ≤ c.toNat ∧ c.toNat ≤ 57 then (c.toNat - 48).toUInt8 else if 97 ≤ c.toNat ∧ c.toNat ≤ 102 then (c.toNat - 87).toUInt8 else 255
/-- The byte of two digits. -/
def byte (a b : UInt8) : UInt8 := (dg a <<< 4) ||| dg b
/-- A value's text, read as far as so many bytes. -/
def rv : Nat → List UInt8 → List UInt8
  | 0, _ => []
  | _ + 1, [] => []
  | n + 1, c :: r => if c = 92 then (match r with
      | a :: b :: t => byte a b :: rv n t
      | _ => c :: rv n r) else c :: rv n r
/-- Cut at stars, so many at most. -/
def split : Nat → List UInt8 → List (List UInt8)
  | 0, l => [l]
  | n + 1, l => if 42 ∈ l then upto 42 l :: split n (past 42 l) else [l]
def last (l : List UInt8) : Nat := match l.getLast? with
  | none => 0
  | some c => c.toNat
/-- The kind of what has no Kids, by what is ahead of the equals sign and what is behind it. -/
def kindOf (x y : List UInt8) : Int := if last x = 62 then 5 else if last x = 60 then 6 else if y = [42] then 7 else if 42 ∈ y then 8 else 4
/-- Without those at the end. -/
def trim (l : List UInt8) : List UInt8 := (l.reverse.dropWhile ([60, 62].contains ·)).reverse
def itemOf (k : Int) (x y : List UInt8) : Fil :=
  .mk k (mk (trim x)) (if k = 7 ∨ k = 8 then mk [] else mk (rv 61 y)) (if k = 8 then (split 20 y).map (fun l => mk (rv 61 l)) else []) []
def item (l : List UInt8) : Fil := itemOf (kindOf (upto 61 l) (past 61 l)) (upto 61 l) (past 61 l)
/-- Kids, one behind the other, up to the bracket: ks are those that there are. -/
def lp (rd : Nat → List UInt8 → Option (Fil × List UInt8)) (k : Int) (m : Nat) : Nat → List Fil → List UInt8 → Option (Fil × List UInt8)
  | 0, _, _ => none
  | j + 1, ks, s => if s.head? = some 41 then some (.mk k (mk []) (mk []) [] ks, s.tail) else match rd (m - (1 + tots ks)) s with
    | none => none
    | some (f, r) => lp rd k m j (ks ++ [f]) r
/-- The filter at the front, of at most m nodes. -/
def rd : Nat → Nat → List UInt8 → Option (Fil × List UInt8)
  | 0, _, _ => none
  | n + 1, m, s => if s.head? ≠ some 40 ∨ m = 0 then none
    else if s.tail.head? = some 38 then lp (rd n) 1 m m [] s.tail.tail
    else if s.tail.head? = some 124 then lp (rd n) 2 m m [] s.tail.tail
    else if s.tail.head? = some 33 then lp (rd n) 3 m m [] s.tail.tail
    else some (item (upto 41 s.tail), past 41 s.tail)
/-- The filter whose text s is. -/
def parse (s : List UInt8) : Option Fil := match rd 20 20 s with
  | none => none
  | some (f, _) => if print f = s then some f else none
end Fi
end Go.Proofs.YticfemheneljmaaDoor
