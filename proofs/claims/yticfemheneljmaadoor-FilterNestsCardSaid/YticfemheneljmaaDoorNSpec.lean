/- Names as lists of bytes: what a type, an AVA, a part, a name is, how it is printed, how it is read. Plain functions: nothing of the program is used here. -/
import Derived.Lib.Strings
namespace Go.Proofs.YticfemheneljmaaDoor
namespace Nm

/-- An AVA: its type, its value. -/
abbrev Ava := ByteArray × ByteArray
abbrev bs (b : ByteArray) : List UInt8 := b.data.toList
abbrev mk (l : List UInt8) : ByteArray := ⟨l.toArray⟩

def sm (c : UInt8) : UInt8 := if 65 ≤ c.toNat ∧ c.toNat ≤ 90 then c + 32 else c
def lower (l : List UInt8) : List UInt8 := l.map sm
def smallC (c : UInt8) : Bool := decide (97 ≤ c.toNat ∧ c.toNat ≤ 122)
def typeC (c : UInt8) : Bool := decide (97 ≤ c.toNat ∧ c.toNat ≤ 122 ∨ 48 ≤ c.toNat ∧ c.toNat ≤ 57 ∨ c.toNat = 45)
def isType (l : List UInt8) : Bool := decide (l.length ≤ 16) && match l with
  | [] => false
  | c :: r => smallC c && r.all typeC
def okAva (a : Ava) : Bool := isType (bs a.1) && decide (1 ≤ a.2.size ∧ a.2.size ≤ 60)
/-- The AVAs of the second list are right, behind those of the first. -/
def okFrom : List Ava → List Ava → Bool
  | _, [] => true
  | pre, a :: r => okAva a && pre.all (fun b => !decide (b.1 = a.1)) && okFrom (pre ++ [a]) r
def isRdn (r : List Ava) : Bool := decide (1 ≤ r.length) && decide (r.length ≤ 4) && okFrom [] r
def isDn (d : List (List Ava)) : Bool := decide (d.length ≤ 8) && d.all isRdn

/-- , + " \ < > ; -/
def special (c : UInt8) : Bool := decide (c.toNat = 44 ∨ c.toNat = 43 ∨ c.toNat = 34 ∨ c.toNat = 92 ∨ c.toNat = 60 ∨ c.toNat = 62 ∨ c.toNat = 59)
def hexc (n : Nat) : UInt8 := if n < 10 then (48 + n).toUInt8 else (87 + n).toUInt8
def escB (first last : Bool) (c : UInt8) : List UInt8 :=
  if c.toNat < 32 ∨ 126 < c.toNat then [92, hexc (c.toNat / 16), hexc (c.toNat % 16)]
  else if special c || first && decide (c.toNat = 35 ∨ c.toNat = 32) || last && decide (c.toNat = 32) then [92, c]
  else [c]
def escV : Bool → List UInt8 → List UInt8
  | _, [] => []
  | f, c :: r => escB f r.isEmpty c ++ escV false r
def prAva (a : Ava) : List UInt8 := bs a.1 ++ 61 :: escV true (bs a.2)
def join (sep : UInt8) : List (List UInt8) → List UInt8
  | [] => []
  | [x] => x
  | x :: y :: r => x ++ sep :: join sep (y :: r)
def prRdn (r : List Ava) : List UInt8 := join 43 (r.map prAva)
def prDn (d : List (List Ava)) : List UInt8 := join 44 (d.map prRdn)

def dig (c : UInt8) : Option Nat :=
  if 48 ≤ c.toNat ∧ c.toNat ≤ 57 then some (c.toNat - 48)
  else if 97 ≤ c.toNat ∧ c.toNat ≤ 102 then some (c.toNat - 87)
  else if 65 ≤ c.toNat ∧ c.toNat ≤ 70 then some (c.toNat - 55)
  else none
def escOk (c : UInt8) : Bool := special c || decide (c.toNat = 35 ∨ c.toNat = 61 ∨ c.toNat = 32)
/-- Behind a backslash: the byte, and how long its text is, the backslash counted. -/
def unE : List UInt8 → Option (UInt8 × Nat)
  | [] => none
  | c :: r => if escOk c then some (c, 2) else match r with
    | [] => none
    | e :: _ => match dig c, dig e with
      | some h, some l => some ((16 * h + l).toUInt8, 3)
      | _, _ => none
/-- The first byte of a value's text. -/
def unB (sp : UInt8 → Bool) (first : Bool) : List UInt8 → Option (UInt8 × Nat)
  | [] => none
  | c :: r => if c = 92 then unE r else if sp c || first && decide (c.toNat = 35 ∨ c.toNat = 32) || r.isEmpty && decide (c.toNat = 32) then none else some (c, 1)
/-- A value's text. -/
def unV (sp : UInt8 → Bool) : Nat → Bool → List UInt8 → Option (List UInt8)
  | 0, _, _ => some []
  | _ + 1, _, [] => some []
  | n + 1, f, c :: r => match unB sp f (c :: r) with
    | none => none
    | some (b, k) => match unV sp n false ((c :: r).drop k) with
      | none => none
      | some v => some (b :: v)

/-- Where the first sep is that no backslash is ahead of. -/
def pos (sep : UInt8) : List UInt8 → Option Nat
  | [] => none
  | c :: r => if c = 92 then (match r with
      | [] => none
      | _ :: r' => (pos sep r').map (· + 2))
    else if c = sep then some 0 else (pos sep r).map (· + 1)
def cons1 (x : List UInt8) : List (List UInt8) → List (List UInt8)
  | [] => [x]
  | y :: r => (x ++ y) :: r
def cuts (sep : UInt8) : List UInt8 → List (List UInt8)
  | [] => [[]]
  | c :: r => if c = 92 then (match r with
      | [] => [[c]]
      | d :: r' => cons1 [c, d] (cuts sep r'))
    else if c = sep then [] :: cuts sep r else cons1 [c] (cuts sep r)
def eqAt : List UInt8 → Option Nat
  | [] => none
  | c :: r => if c = 61 then some 0 else (eqAt r).map (· + 1)
/-- The text of an AVA. -/
def ava (p : List UInt8) : Option Ava := match eqAt p with
  | none => none
  | some k => match unV special p.length true (p.drop (k + 1)) with
    | none => none
    | some v => some (mk (lower (p.take k)), mk v)
def avas : List (List UInt8) → Option (List Ava)
  | [] => some []
  | p :: r => match ava p with
    | none => none
    | some a => match avas r with
      | none => none
      | some l => some (a :: l)
def ifRdn (r : List Ava) : Option (List Ava) := if isRdn r then some r else none
def rdn (s : List UInt8) : Option (List Ava) := (avas (cuts 43 s)).bind ifRdn
def rdns : List (List UInt8) → Option (List (List Ava))
  | [] => some []
  | p :: r => match rdn p with
    | none => none
    | some a => match rdns r with
      | none => none
      | some l => some (a :: l)
def ifDn (d : List (List Ava)) : Option (List (List Ava)) := if isDn d then some d else none
def dnm (s : List UInt8) : Option (List (List Ava)) := if s = [] then some [] else (rdns (cuts 44 s)).bind ifDn
end Nm
end Go.Proofs.YticfemheneljmaaDoor
