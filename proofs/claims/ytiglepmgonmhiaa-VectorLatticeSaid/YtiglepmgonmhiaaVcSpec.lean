/- Vectors, said of lists of numbers: raised, joined, met; which is less, what is covered, the least. -/
import Derived.Test.YtiglepmgonmhiaaCsOrd
namespace Go.Proofs.Ytiglepmgonmhiaa.Cs
set_option linter.unusedVariables false

/-- A change's number. -/
structure Nm where
  t : Int
  s : Int
  r : Int
theorem Nm.ext {a b : Nm} (h1 : a.t = b.t) (h2 : a.s = b.s) (h3 : a.r = b.r) : a = b := by
  cases a; cases b; simp only at h1 h2 h3; subst h1 h2 h3; rfl
instance : DecidableEq Nm := fun a b =>
  if h : a.t = b.t ∧ a.s = b.s ∧ a.r = b.r then isTrue (Nm.ext h.1 h.2.1 h.2.2) else isFalse (fun e => h (by subst e; exact ⟨rfl, rfl, rfl⟩))
def Nm.zero : Nm := ⟨0, 0, 0⟩
def Nm.ok (a : Nm) : Prop := I64 a.t ∧ I64 a.s ∧ I64 a.r
def Nm.is (a : Nm) : Bool := isC a.t a.s a.r
def Nm.cmp (a b : Nm) : Int := cmpC a.t a.s a.r b.t b.s b.r
def later (a b : Nm) : Nm := if a.cmp b < 0 then b else a
def earlier (a b : Nm) : Nm := if b.cmp a < 0 then b else a
/-- Whether l is a vector. -/
def isV (l : List Nm) : Bool := decide (l.length ≤ 6) && decide (∀ i (h : i < l.length), l[i].r = i ∧ l[i].is = true)
/-- As it counts. -/
def cnt (l : List Nm) : List Nm := if isV l = true then l else []
def newV (n : Int) : List Nm := (List.range (max 0 (min n 6)).toNat).map fun (i : Nat) => (⟨0, 0, (i : Int)⟩ : Nm)
def at_ (l : List Nm) (i : Nat) : Nm := l.getD i Nm.zero
/-- Whether c has a place in l, and may be a number. -/
def fits (l : List Nm) (c : Nm) : Bool := c.is && decide (c.r < (l.length : Int))
def raise (v : List Nm) (c : Nm) : List Nm := if fits (cnt v) c = true then (cnt v).set c.r.toNat (later (at_ (cnt v) c.r.toNat) c) else cnt v
/-- The shorter one over the longer one. -/
def over : List Nm → List Nm → List Nm
  | x :: l, y :: s => later x y :: over l s
  | l, [] => l
  | [], _ => []
def join (a b : List Nm) : List Nm := if (cnt b).length < (cnt a).length then over (cnt a) (cnt b) else over (cnt b) (cnt a)
/-- The reference's way. -/
def rover : List Nm → List Nm → List Nm
  | x :: l, y :: s => later x y :: rover l s
  | l, [] => l
  | [], s => s
def meet (a b : List Nm) : List Nm := List.zipWith earlier (cnt a) (cnt b)
def leq (a b : List Nm) : Bool := decide (cnt (join a b) = cnt b)
def leqB (a b : List Nm) : Bool := decide (a.length ≤ b.length) && decide (∀ i (h : i < a.length), a[i].cmp (at_ b i) ≤ 0)
def covers (v : List Nm) (c : Nm) : Bool := decide (0 ≤ c.r) && (decide (c.r < ((cnt v).length : Int)) && decide (c.cmp (at_ (cnt v) c.r.toNat) ≤ 0))
def least (v : List Nm) : Nm := match cnt v with
  | [] => Nm.zero
  | x :: l => l.foldl earlier x

theorem isV_true {l : List Nm} (h : isV l = true) : l.length ≤ 6 ∧ ∀ i (h : i < l.length), l[i].r = i ∧ l[i].is = true := by
  unfold isV at h
  rw [Bool.and_eq_true] at h
  exact ⟨of_decide_eq_true h.1, of_decide_eq_true h.2⟩
theorem isV_of {l : List Nm} (h1 : l.length ≤ 6) (h2 : ∀ i (h : i < l.length), l[i].r = i ∧ l[i].is = true) : isV l = true := by
  unfold isV
  rw [decide_eq_true h1, decide_eq_true h2]
  rfl
theorem isV_long {l : List Nm} (h1 : 6 < l.length) : isV l = false := by
  unfold isV
  rw [decide_eq_false (by omega)]
  rfl
theorem isV_bad {l : List Nm} {i : Nat} (h : i < l.length) (h2 : l[i].r ≠ i ∨ l[i].is = false) : isV l = false := by
  cases hV : isV l with
  | false => rfl
  | true =>
    have h3 := (isV_true hV).2 i h
    rcases h2 with h2 | h2
    · exact absurd h3.1 h2
    · rw [h3.2] at h2; cases h2
theorem isV_nil : isV [] = true := by decide
theorem cnt_len (l : List Nm) : (cnt l).length ≤ 6 := by
  unfold cnt
  split
  · exact (isV_true ‹_›).1
  · simp
theorem cnt_is (l : List Nm) : isV (cnt l) = true := by
  unfold cnt
  split
  · assumption
  · decide
theorem cnt_of {l : List Nm} (h : isV l = true) : cnt l = l := by unfold cnt; rw [if_pos h]
theorem cnt_no {l : List Nm} (h : isV l = false) : cnt l = [] := by unfold cnt; rw [if_neg (by rw [h]; decide)]
theorem cnt_cnt (l : List Nm) : cnt (cnt l) = cnt l := cnt_of (cnt_is l)
theorem at_eq {l : List Nm} {i : Nat} (h : i < l.length) : at_ l i = l[i] := by
  unfold at_
  rw [List.getD_eq_getElem?_getD, List.getElem?_eq_getElem h]
  rfl
end Go.Proofs.Ytiglepmgonmhiaa.Cs
