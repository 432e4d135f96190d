import Derived.Lib.Strings
import Derived.Test.YtconghaebebncaaGreatDoorProg
import Derived.Test.YtconghaebebncaaGreatDoorZT1
import Derived.WalkKit
import Derived.WalkSpells
import Derived.WalkLawsBesides
import Derived.Deep.QuietTactic
import Derived.BigQuiet
import Derived.Lib.Hide
import Derived.Laws.IdiomStrings
import Derived.Laws.BytesArg
import Derived.Laws.OwnMore
import Derived.Laws.Rows
import Derived.Below
import Derived.Lib.AppendStr
import Derived.Laws.AppendOwn
import Derived.Maps.AppendAt
import Derived.KernelRfl
namespace Go.Proofs.YtconghaebebncaaGreatDoor
namespace Nm
abbrev Ava := ByteArray × ByteArray
abbrev bs (b : ByteArray) : List UInt8 := b.data.toList
abbrev mk (l : List UInt8) : ByteArray := ⟨l.toArray⟩
def sm (c : UInt8) : UInt8 := if 65 ≤ c.toNat ∧ c.toNat ≤ 90 then c + 32 else c
def lower (l : List UInt8) : List UInt8 := l.map sm
def smallC (c : UInt8) : Bool := decide (97 ≤ c.toNat ∧ c.toNat ≤ 122)
def typeC (c : UInt8) : Bool := decide (97 ≤ c.toNat ∧ c.toNat ≤ 122 ∨ 48 ≤ c.toNat ∧ c.toNat ≤ 57 ∨ c.toNat = 45)
def isType (l : List UInt8) : Bool := decide (l.length ≤ 16) && match l with
 | [] => false
 | c :: r => smallC c && r.all typeC
def okAva (a : Ava) : Bool := isType (bs a.1) && decide (1 ≤ a.2.size ∧ a.2.size ≤ 60)
def okFrom : List Ava → List Ava → Bool
 | _, [] => true
 | pre, a :: r => okAva a && pre.all (fun b => !decide (b.1 = a.1)) && okFrom (pre ++ [a]) r
def isRdn (r : List Ava) : Bool := decide (1 ≤ r.length) && decide (r.length ≤ 4) && okFrom [] r
def special (c : UInt8) : Bool := decide (c.toNat = 44 ∨ c.toNat = 43 ∨ c.toNat = 34 ∨ c.toNat = 92 ∨ c.toNat = 60 ∨ c.toNat = 62 ∨ c.toNat = 59)
def hexc (n : Nat) : UInt8 := if n < 10 then (48 + n).toUInt8 else (87 + n).toUInt8
def join (sep : UInt8) : List (List UInt8) → List UInt8
 | [] => []
 | [x] => x
 | x :: y :: r => x ++ sep :: join sep (y :: r)
def dig (c : UInt8) : Option Nat :=
 if 48 ≤ c.toNat ∧ c.toNat ≤ 57 then some (c.toNat - 48)
 else if 97 ≤ c.toNat ∧ c.toNat ≤ 102 then some (c.toNat - 87)
 else if 65 ≤ c.toNat ∧ c.toNat ≤ 70 then some (c.toNat - 55)
 else none
def escOk (c : UInt8) : Bool := special c || decide (c.toNat = 35 ∨ c.toNat = 61 ∨ c.toNat = 32)
def unE : List UInt8 → Option (UInt8 × Nat)
 | [] => none
 | c :: r => if escOk c then some (c, 2) else match r with
  | [] => none
  | e :: _ => match dig c, dig e with
   | some h, some l => some ((16 * h + l).toUInt8, 3)
   | _, _ => none
def unB (sp : UInt8 → Bool) (first : Bool) : List UInt8 → Option (UInt8 × Nat)
 | [] => none
 | c :: r => if c = 92 then unE r else if sp c || first && decide (c.toNat = 35 ∨ c.toNat = 32) || r.isEmpty && decide (c.toNat = 32) then none else some (c, 1)
def unV (sp : UInt8 → Bool) : Nat → Bool → List UInt8 → Option (List UInt8)
 | 0, _, _ => some []
 | _ + 1, _, [] => some []
 | n + 1, f, c :: r => match unB sp f (c :: r) with
  | none => none
  | some (b, k) => match unV sp n false ((c :: r).drop k) with
   | none => none
   | some v => some (b :: v)
def cons1 (x : List UInt8) : List (List UInt8) → List (List UInt8)
 | [] => [x]
 | y :: r => (x ++ y) :: r
def cuts (sep : UInt8) : List UInt8 → List (List UInt8)
 | [] => [[]]
 | c :: r => if c = 92 then (match r with
   | [] => [[c]]
   | d :: r' => cons1 [c, d] (cuts sep r'))
  else if c = sep then [] :: cuts sep r else cons1 [c] (cuts sep r)
def eqAt : List UInt8 → Option Nat
 | [] => none
 | c :: r => if c = 61 then some 0 else (eqAt r).map (· + 1)
def ava (p : List UInt8) : Option Ava := match eqAt p with
 | none => none
 | some k => match unV special p.length true (p.drop (k + 1)) with
  | none => none
  | some v => some (mk (lower (p.take k)), mk v)
def avas : List (List UInt8) → Option (List Ava)
 | [] => some []
 | p :: r => match ava p with
  | none => none
  | some a => match avas r with
   | none => none
   | some l => some (a :: l)
def ifRdn (r : List Ava) : Option (List Ava) := if isRdn r then some r else none
def rdn (s : List UInt8) : Option (List Ava) := (avas (cuts 43 s)).bind ifRdn
end Nm
end Go.Proofs.YtconghaebebncaaGreatDoor
namespace Go.Proofs.YtconghaebebncaaGreatDoor
set_option linter.unusedVariables false
inductive Fil where
 | mk (kind : Int) (attr value : ByteArray) (subs : List ByteArray) (kids : List Fil)
namespace Fi
open _root_.Go.Proofs.YtconghaebebncaaGreatDoor.Nm
theorem ind {p : Fil → Prop} (h : ∀ k a v ss ks, (∀ f ∈ ks, p f) → p (.mk k a v ss ks)) (f : Fil) : p f :=
 Fil.rec (motive_1 := p) (motive_2 := fun ks => ∀ f ∈ ks, p f) (fun k a v ss ks ih => h k a v ss ks ih) (fun f hf => by cases hf)
  (fun f ks hf hks x hx => by
   rcases List.mem_cons.1 hx with rfl | hx
   ·exact hf
   ·exact hks x hx) f
mutual
def eqF : Fil → Fil → Bool
 | .mk k a v ss ks, .mk k' a' v' ss' ks' => decide (k = k') && (decide (a = a') && (decide (v = v') && (decide (ss = ss') && eqFs ks ks')))
def eqFs : List Fil → List Fil → Bool
 | [], [] => true
 | f :: r, f' :: r' => eqF f f' && eqFs r r'
 | _, _ => false
end
theorem eqFs_len : ∀ {l l' : List Fil}, l.length ≠ l'.length → eqFs l l' = false
 | [], [], h => absurd rfl h
 | [], _ :: _, _ => by simp [eqFs]
 | _ :: _, [], _ => by simp [eqFs]
 | f :: l, f' :: l', h => by simp [eqFs, eqFs_len (l := l) (l' := l') (by simpa using h)]
theorem eqFs_drop {l l' : List Fil} {i : Nat} (h : i < l.length) (h' : i < l'.length) : eqFs (l.drop i) (l'.drop i) = (eqF l[i] l'[i] && eqFs (l.drop (i + 1)) (l'.drop (i + 1))) := by
 rw [List.drop_eq_getElem_cons h, List.drop_eq_getElem_cons h', eqFs]
def hasK (k : Int) : Bool := decide (1 ≤ k ∧ k ≤ 3)
mutual
def tot : Fil → Nat
 | .mk k _ _ _ ks => if hasK k then 1 + tots ks else 1
def tots : List Fil → Nat
 | [] => 0
 | f :: r => tot f + tots r
end
theorem tot_pos (f : Fil) : 1 ≤ tot f := by
 obtain ⟨k, a, v, ss, ks⟩ := f
 rw [tot]
 split <;> omega
theorem tots_app : ∀ l l' : List Fil, tots (l ++ l') = tots l + tots l'
 | [], l' => by simp [tots]
 | f :: r, l' => by rw [List.cons_append, tots, tots, tots_app r l']; omega
theorem tots_len : ∀ l : List Fil, l.length ≤ tots l
 | [] => by simp
 | f :: r => by have := tots_len r; have := tot_pos f; rw [tots, List.length_cons]; omega
def subsOk (ss : List ByteArray) : Bool :=
 decide (2 ≤ ss.length ∧ ss.length ≤ 20) && (((ss.take (ss.length - 1)).drop 1).all (fun s => decide (s.size ≠ 0)) && (ss.all (fun s => decide (s.size ≤ 60)) && ss.any (fun s => decide (s.size ≠ 0))))
mutual
def frm : Fil → Bool
 | .mk k a v ss ks =>
  if hasK k then decide (k = 3 → ks.length = 1) && (decide (a.size = 0) && (decide (v.size = 0) && (decide (ss.length = 0) && frms ks)))
  else decide (4 ≤ k ∧ k ≤ 8) && (isType (bs a) && (decide (ks.length = 0) && (
   if k = 7 then decide (v.size = 0) && decide (ss.length = 0)
   else if k = 8 then decide (v.size = 0) && subsOk ss
   else decide (v.size ≤ 60) && decide (ss.length = 0))))
def frms : List Fil → Bool
 | [] => true
 | f :: r => frm f && frms r
end
theorem frms_all : ∀ l : List Fil, frms l = l.all frm
 | [] => rfl
 | f :: r => by rw [frms, frms_all r, List.all_cons]
theorem frms_drop {l : List Fil} {i : Nat} (h : i < l.length) : frms (l.drop i) = (frm l[i] && frms (l.drop (i + 1))) := by
 rw [List.drop_eq_getElem_cons h, frms]
def isF (f : Fil) : Bool := decide (tot f ≤ 20) && frm f
def odd (c : UInt8) : Bool := decide (c.toNat < 32 ∨ 126 < c.toNat ∨ c.toNat = 42 ∨ c.toNat = 40 ∨ c.toNat = 41 ∨ c.toNat = 92)
def escC (c : UInt8) : List UInt8 := if odd c then [92, hexc (c.toNat / 16), hexc (c.toNat % 16)] else [c]
def esc (l : List UInt8) : List UInt8 := l.flatMap escC
def stars : List ByteArray → List UInt8
 | [] => []
 | s :: r => 42 :: (esc (bs s) ++ stars r)
def parts : List ByteArray → List UInt8
 | [] => []
 | s :: r => esc (bs s) ++ stars r
def upto (c : UInt8) : List UInt8 → List UInt8
 | [] => []
 | b :: r => if b = c then [] else b :: upto c r
def past (c : UInt8) : List UInt8 → List UInt8
 | [] => []
 | b :: r => if b = c then r else past c r
def dg (c : UInt8) : UInt8 := if 48 ≤ c.toNat ∧ c.toNat ≤ 57 then (c.toNat - 48).toUInt8 else if 97 ≤ c.toNat ∧ c.toNat ≤ 102 then (c.toNat - 87).toUInt8 else 255
def byte (a b : UInt8) : UInt8 := (dg a <<< 4) ||| dg b
def rv : Nat → List UInt8 → List UInt8
 | 0, _ => []
 | _ + 1, [] => []
 | n + 1, c :: r => if c = 92 then (match r with
   | a :: b :: t => byte a b :: rv n t
   | _ => c :: rv n r) else c :: rv n r
def split : Nat → List UInt8 → List (List UInt8)
 | 0, l => [l]
 | n + 1, l => if 42 ∈ l then upto 42 l :: split n (past 42 l) else [l]
def last (l : List UInt8) : Nat := match l.getLast? with
 | none => 0
 | some c => c.toNat
def kindOf (x y : List UInt8) : Int := if last x = 62 then 5 else if last x = 60 then 6 else if y = [42] then 7 else if 42 ∈ y then 8 else 4
def trim (l : List UInt8) : List UInt8 := (l.reverse.dropWhile ([60, 62].contains ·)).reverse
def itemOf (k : Int) (x y : List UInt8) : Fil :=
 .mk k (mk (trim x)) (if k = 7 ∨ k = 8 then mk [] else mk (rv 61 y)) (if k = 8 then (split 20 y).map (fun l => mk (rv 61 l)) else []) []
def item (l : List UInt8) : Fil := itemOf (kindOf (upto 61 l) (past 61 l)) (upto 61 l) (past 61 l)
def lp (rd : Nat → List UInt8 → Option (Fil × List UInt8)) (k : Int) (m : Nat) : Nat → List Fil → List UInt8 → Option (Fil × List UInt8)
 | 0, _, _ => none
 | j + 1, ks, s => if s.head? = some 41 then some (.mk k (mk []) (mk []) [] ks, s.tail) else match rd (m - (1 + tots ks)) s with
  | none => none
  | some (f, r) => lp rd k m j (ks ++ [f]) r
def rd : Nat → Nat → List UInt8 → Option (Fil × List UInt8)
 | 0, _, _ => none
 | n + 1, m, s => if s.head? ≠ some 40 ∨ m = 0 then none
  else if s.tail.head? = some 38 then lp (rd n) 1 m m [] s.tail.tail
  else if s.tail.head? = some 124 then lp (rd n) 2 m m [] s.tail.tail
  else if s.tail.head? = some 33 then lp (rd n) 3 m m [] s.tail.tail
  else some (item (upto 41 s.tail), past 41 s.tail)
end Fi
end Go.Proofs.YtconghaebebncaaGreatDoor
namespace Go.Proofs.YtconghaebebncaaGreatDoor
open Go.RowKit
set_option linter.unusedVariables false
set_option maxRecDepth 100000
theorem ret_int {k : IntKind} {a b : Int} (h : a = b) : Ending.returned (.int k a) = .returned (.int k b) := by rw [h]
theorem ret_bool {a b : Bool} (h : a = b) : Ending.returned (.bool a) = .returned (.bool b) := by rw [h]
theorem ret_str {a b : ByteArray} (h : a = b) : Ending.returned (.string a) = .returned (.string b) := by rw [h]
theorem u8_lt (b : UInt8) : b.toNat < 256 := b.toNat_lt
end Go.Proofs.YtconghaebebncaaGreatDoor
namespace Go.Proofs.YtconghaebebncaaGreatDoor
open Go.RowKit
set_option linter.unusedVariables false
set_option maxRecDepth 100000
def Row (w : World) (g : Nat) (l : List UInt8) : Prop :=
 ∃ (cur : Array Value) (n m : Nat), w.heap[g]? = some (.cells cur 5 (n, m)) ∧ cur.size ≤ n ∧ l.length ≤ cur.size ∧ cur.toList.take l.length = l.map fun b => Value.int .u8 (b.toNat : Int)
theorem Row.lt {w : World} {g : Nat} {l : List UInt8} (h : Row w g l) : g < w.heap.size := by
 obtain ⟨cur, n, m, hg, _⟩ := h
 rcases Nat.lt_or_ge g w.heap.size with h' | h'
 ·exact h'
 ·simp [Array.getElem?_eq_none h'] at hg
theorem Row.past {w w' : World} {g : Nat} {l : List UInt8} (h : Row w g l) (hb : Below w.heap.size w w') : Row w' g l := by
 have hlt := h.lt
 obtain ⟨cur, n, m, hg, r⟩ := h
 exact ⟨cur, n, m, (hb.block g hlt).trans hg, r⟩
theorem Row.drew {w : World} {g : Nat} {l : List UInt8} (h : Row w g l) : Row w.drew g l := h
theorem cell_of_mark (w : World) (g i : Nat) (cur : Array Value) (t : TypeId) (f : Nat × Nat) (h : w.heap[g]? = some (.cells cur t f)) : w.cell? ⟨g, i, none⟩ = cur[i]? := by
 unfold World.cell?
 rw [h]
 simp
theorem Row.cell {w : World} {g : Nat} {l : List UInt8} (h : Row w g l) {i : Nat} {c : UInt8} (hi : l[i]? = some c) : w.cell? ⟨g, i, none⟩ = some (.int .u8 (c.toNat : Int)) := by
 obtain ⟨cur, n, m, hg, hn, hl, ht⟩ := h
 have hlt := (List.getElem?_eq_some_iff.1 hi).1
 rw [cell_of_mark w g i cur _ _ hg]
 have h1 : (cur.toList.take l.length)[i]? = some (.int .u8 (c.toNat : Int)) := by
  rw [ht, List.getElem?_map, hi]
  rfl
 rw [List.getElem?_take_of_lt hlt] at h1
 simpa using h1
theorem Row.frozen {w : World} {g : Nat} {l : List UInt8} (h : Row w g l) {i : Nat} (hi : i < l.length) : w.frozen? ⟨g, i, none⟩ = false := by
 obtain ⟨cur, n, m, hg, hn, hl, ht⟩ := h
 unfold World.frozen?
 rw [hg]
 simp
 omega
theorem Row.set_ {w : World} {g : Nat} {l : List UInt8} (h : Row w g l) (i : Nat) (c : UInt8) : Row (w.setCell ⟨g, i, none⟩ (.int .u8 (c.toNat : Int))) g (l.set i c) := by
 obtain ⟨cur, n, m, hg, hn, hl, ht⟩ := h
 refine ⟨cur.setIfInBounds i (.int .u8 (c.toNat : Int)), n, m, ?_, by simpa using hn, by simpa using hl, ?_⟩
 ·simp [World.setCell, Array.getElem?_modify, hg]
 ·rw [List.length_set, Array.toList_setIfInBounds, List.map_set, ← ht, List.take_set]
end Go.Proofs.YtconghaebebncaaGreatDoor
namespace Go.Proofs.YtconghaebebncaaGreatDoor
open Go.RowKit
set_option linter.unusedVariables false
set_option maxRecDepth 100000
theorem block_of_add (a : Addr) (n : Nat) : (a.add n).block = a.block := by unfold Addr.add; split <;> rfl
theorem add_of_add (a : Addr) (i j : Nat) : (a.add i).add j = a.add (i + j) := by
 unfold Addr.add
 by_cases hi : i = 0 <;> by_cases hj : j = 0 <;> simp [hi, hj, Nat.add_assoc]
theorem bat {B : Nat} {w w' : World} (hb : Below B w w') {b o : Nat} {v : Value} (h : b < B) (f : w.cell? ⟨b, o, none⟩ = some v) : w'.cell? ⟨b, o, none⟩ = some v := (hb.cell (p := ⟨b, o, none⟩) h).trans f
theorem batA {B : Nat} {w w' : World} (hb : Below B w w') {p : Addr} {v : Value} (h : p.block < B) (f : w.cell? p = some v) : w'.cell? p = some v := (hb.cell h).trans f
theorem cell_lt {w : World} {p : Addr} {v : Value} (h : w.cell? p = some v) : p.block < w.heap.size := by
 rcases Nat.lt_or_ge p.block w.heap.size with hlt | hge
 ·exact hlt
 ·simp [World.cell?, Array.getElem?_eq_none hge] at h
def Blk (w : World) (g : Nat) (t : TypeId) (cs : Array Value) : Prop := w.heap[g]? = some (.cells cs t (0, 0))
theorem Blk.lt {w : World} {g : Nat} {t : TypeId} {cs : Array Value} (h : Blk w g t cs) : g < w.heap.size := by
 rcases Nat.lt_or_ge g w.heap.size with hlt | hge
 ·exact hlt
 ·unfold Blk at h; rw [Array.getElem?_eq_none hge] at h; cases h
theorem Blk.cell {w : World} {g : Nat} {t : TypeId} {cs : Array Value} (h : Blk w g t cs) (i : Nat) : w.cell? ⟨g, i, none⟩ = cs[i]? := cell_of_row w g i cs t (0, 0) h
theorem Blk.frozen {w : World} {g : Nat} {t : TypeId} {cs : Array Value} (h : Blk w g t cs) (i : Nat) : w.frozen? ⟨g, i, none⟩ = false := by
 unfold Blk at h
 simp [World.frozen?, h]
theorem Blk.new (w : World) (t : TypeId) (cs : Array Value) : Blk (w.alloc (.cells cs t)) w.heap.size t cs := heap_alloc_new w _
theorem Blk.past {w w' : World} {g : Nat} {t : TypeId} {cs : Array Value} (h : Blk w g t cs) (hb : Below w.heap.size w w') : Blk w' g t cs := (hb.block g h.lt).trans h
theorem Blk.drew {w : World} {g : Nat} {t : TypeId} {cs : Array Value} (h : Blk w g t cs) : Blk w.drew g t cs := h
theorem Blk.alloc {w : World} {g : Nat} {t : TypeId} {cs : Array Value} (h : Blk w g t cs) (o : Obj) : Blk (w.alloc o) g t cs := (Below.heap_alloc w o g h.lt).trans h
theorem Blk.set_ {w : World} {g : Nat} {t : TypeId} {cs : Array Value} (h : Blk w g t cs) (i : Nat) (u : Value) : Blk (w.setCell ⟨g, i, none⟩ u) g t (cs.setIfInBounds i u) := by
 unfold Blk at h ⊢
 simp [World.setCell, Array.getElem?_modify, h]
theorem Blk.far {w : World} {g : Nat} {t : TypeId} {cs : Array Value} (h : Blk w g t cs) {p : Addr} (hp : g ≠ p.block) (u : Value) : Blk (w.setCell p u) g t cs := (Below.heap_setCell w p u g hp).trans h
theorem Blk.grown {w w' : World} {g : Nat} {t : TypeId} {cs : Array Value} {row : Option Nat} (h : Blk w g t cs) (hb : w.grownBy w' row) (hg : some g ≠ row) : Blk w' g t cs := (hb.block g h.lt hg).trans h
theorem infoP {P : Program} {t : TypeId} {z : Value} {m k : Nat} (h : (P.info? t).map (fun i => (i.zero, i.size, i.bytes)) = some (some z, m, k)) : ∃ i, P.info? t = some i ∧ i.zero = some z ∧ i.size = m ∧ i.bytes = k := by
 cases h1 : P.info? t with
 | none => rw [h1] at h; cases h
 | some i =>
  rw [h1] at h
  simp only [Option.map_some, Option.some.injEq, Prod.mk.injEq] at h
  exact ⟨i, rfl, h.1, h.2.1, h.2.2⟩
def Own (w : World) (base : Nat) (v : Value) (l : List UInt8) : Prop := w.ownsRow base 5 1 v l.length (Lib.byteCells l)
theorem own_past {w w' : World} {base : Nat} {e : TypeId} {size : Nat} {v : Value} {n : Nat} {xs : List Value} (h : w.ownsRow base e size v n xs) (hb : Below w.heap.size w w') : w'.ownsRow base e size v n xs := by
 obtain ⟨h1, h2⟩ := h
 refine ⟨h1, ?_⟩
 rcases h2 with h2 | ⟨g, cap, cur, hv, hg, hh, r⟩
 ·exact Or.inl h2
 ·have hlt : g < w.heap.size := by
   rcases Nat.lt_or_ge g w.heap.size with h' | h'
   ·exact h'
   ·simp [Array.getElem?_eq_none h'] at hh
  exact Or.inr ⟨g, cap, cur, hv, hg, (hb.block g hlt).trans hh, r⟩
theorem Own.past {w w' : World} {base : Nat} {v : Value} {l : List UInt8} (h : Own w base v l) (hb : Below w.heap.size w w') : Own w' base v l := own_past h hb
theorem Own.nil (w : World) (base : Nat) : Own w base (.slice none 0 0) [] := World.ownsRow_nil w base _ 1
theorem Own.drew {w : World} {base : Nat} {v : Value} {l : List UInt8} (h : Own w base v l) : Own w.drew base v l := h
theorem Own.alloc {w : World} {base : Nat} {v : Value} {l : List UInt8} (h : Own w base v l) (o : Obj) : Own (w.alloc o) base v l := h.past ((Below.refl _ _).alloc (Nat.le_refl _) o)
theorem Own.form {w : World} {base : Nat} {v : Value} {l : List UInt8} (h : Own w base v l) : ∃ A c, v = .slice A l.length c := by
 rcases h.2 with ⟨rfl, h0⟩ | ⟨g, cap, cur, rfl, _⟩
 ·exact ⟨none, 0, by rw [h0]⟩
 ·exact ⟨_, _, rfl⟩
theorem own_cell {w : World} {base g n cap : Nat} {t : TypeId} {size : Nat} {xs : List Value} (h : w.ownsRow base t size (.slice (some ⟨g, 0, none⟩) n cap) n xs) (j : Nat) (u : Value) (hj : xs[j]? = some u) : w.cell? ⟨g, j, none⟩ = some u := by
 rcases h.2 with ⟨e, _⟩ | ⟨g', cap', cur, e, hg, hh, hc, hm, hs, ht⟩
 ·cases e
 ·injection e with e1 e2 e3
  injection e1 with e1
  injection e1 with e1
  subst e1
  rw [cell_of_row w g j cur _ _ hh]
  have h1 : (cur.toList.take (n * size))[j]? = some u := by rw [ht]; exact hj
  have hjl : j < n * size := by
   have := (List.getElem?_eq_some_iff.1 h1).1
   simp at this; omega
  rw [List.getElem?_take_of_lt hjl] at h1
  simpa using h1
theorem Own.cell {w : World} {base g n cap : Nat} {l : List UInt8} (h : Own w base (.slice (some ⟨g, 0, none⟩) n cap) l) (hn : n = l.length) {i : Nat} {c : UInt8} (hi : l[i]? = some c) : w.cell? ⟨g, i, none⟩ = some (.int .u8 (c.toNat : Int)) := by
 subst hn
 exact own_cell h i _ (by rw [Lib.byteCells, List.getElem?_map, hi]; rfl)
theorem Own.string {w : World} {base : Nat} {v : Value} {l : List UInt8} (h : Own w base v l) : (convert 40 9 v).run Tryz.prog w = .ok (.string (Nm.mk l)) w := by
 rcases h.2 with ⟨rfl, h0⟩ | ⟨g, cap, cur, rfl, hg, hh, hc, hm, hs, ht⟩
 ·have : l = [] := List.eq_nil_of_length_eq_zero h0
  subst this
  exact run_convert_bytes_nil (P := Tryz.prog) w 40 5 Tryz.underlying40 Tryz.underlying5 0 0 9 Tryz.underlying9
 ·exact run_convert_bytes_back (P := Tryz.prog) w 40 9 5 ⟨g, 0, none⟩ cap l Tryz.underlying40 Tryz.underlying5 Tryz.underlying9 (fun j hj => by
   rw [Addr.add_lit, Nat.zero_add]
   exact Own.cell (cap := cap) ⟨h.1, Or.inr ⟨g, cap, cur, rfl, hg, hh, hc, hm, hs, ht⟩⟩ rfl (List.getElem?_eq_getElem hj))
end Go.Proofs.YtconghaebebncaaGreatDoor
namespace Go.Proofs.YtconghaebebncaaGreatDoor
set_option linter.unusedVariables false
set_option maxRecDepth 100000
namespace Fi
open _root_.Go.Proofs.YtconghaebebncaaGreatDoor.Nm
theorem mk_of (b : ByteArray) : mk (bs b) = b := rfl
theorem size0 {b : ByteArray} (h : b.size = 0) : b = mk [] := by
 have : bs b = [] := List.eq_nil_of_length_eq_zero h
 rw [← mk_of b, this]
end Fi
end Go.Proofs.YtconghaebebncaaGreatDoor
