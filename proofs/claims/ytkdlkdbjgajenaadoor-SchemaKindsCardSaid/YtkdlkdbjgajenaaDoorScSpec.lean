/- What attributes are: the table of types, which name finds which, which value is of which kind. Plain functions: nothing of the program is used here. -/
import Derived.Test.YtkdlkdbjgajenaaDoorNSpec
import Derived.Lib.TrimByte
import Derived.KernelRfl
namespace Go.Proofs.YtkdlkdbjgajenaaDoor
set_option linter.unusedVariables false
namespace Sc
open Nm

/-- A type: its name, its syntax, whether it has one value. -/
abbrev Ty := ByteArray × Nat × Bool
def tab : List Ty := [(⟨#[97, 99, 105]⟩, 2, false), (⟨#[99]⟩, 1, true), (⟨#[99, 110]⟩, 1, false), (⟨#[100, 99]⟩, 1, false),
  (⟨#[100, 101, 115, 99, 114, 105, 112, 116, 105, 111, 110]⟩, 1, false), (⟨#[101, 110, 116, 114, 121, 105, 100]⟩, 2, true), (⟨#[109, 97, 105, 108]⟩, 2, false),
  (⟨#[109, 101, 109, 98, 101, 114]⟩, 5, false), (⟨#[111]⟩, 1, false), (⟨#[111, 117]⟩, 1, false), (⟨#[115, 110]⟩, 1, false), (⟨#[116, 105, 116, 108, 101]⟩, 1, true),
  (⟨#[117, 105, 100]⟩, 1, false), (⟨#[117, 105, 100, 110, 117, 109, 98, 101, 114]⟩, 3, true), (⟨#[117, 115, 101, 114, 112, 97, 115, 115, 119, 111, 114, 100]⟩, 4, false)]
theorem tab_len : tab.length = 15 := rfl
/-- The type of the name x, among l. -/
def look (x : ByteArray) : List Ty → Option Ty
  | [] => none
  | t :: r => if t.1 = x then some t else look x r
def find (l : List UInt8) : Option Ty := look (mk (lower l)) tab
theorem look_step {x : ByteArray} {l : List Ty} {k : Nat} (h : k < l.length) : look x (l.drop k) = if l[k].1 = x then some l[k] else look x (l.drop (k + 1)) := by
  rw [List.drop_eq_getElem_cons h, look]
def unsign : List UInt8 → List UInt8
  | [] => []
  | c :: r => if c = 45 then r else c :: r
def digC (c : UInt8) : Bool := decide (48 ≤ c.toNat ∧ c.toNat ≤ 57)
def prC (c : UInt8) : Bool := decide (32 ≤ c.toNat ∧ c.toNat ≤ 126)
def int0 (l : List UInt8) : List UInt8 → Bool
  | [] => false
  | c :: r => decide (r.length < 15) && if c.toNat = 48 then decide (l = [48]) else (c :: r).all digC
def isInt (l : List UInt8) : Bool := int0 l (unsign l)
def fits (s : Nat) (l : List UInt8) : Bool :=
  if s = 1 then l.any (fun c => decide (c.toNat ≠ 32)) && l.all prC
  else if s = 2 then l.all prC
  else if s = 3 then isInt l
  else if s = 5 then (dnm l).isSome
  else true
def check (n v : List UInt8) : Nat := match find n with
  | none => 16
  | some t => if v = [] ∨ 60 < v.length ∨ fits t.2.1 v = false then 17 else 0

theorem tw : ∀ (l : List UInt8) (c : UInt8), c ∈ l.takeWhile (· == 32) → (c == 32) = true
  | [], c, h => by cases h
  | d :: r, c, h => by
    rw [List.takeWhile_cons] at h
    split at h
    · rcases List.mem_cons.1 h with rfl | h
      · assumption
      · exact tw r c h
    · cases h
/-- All blanks: nothing is left when they are cut off. -/
theorem trim_nil (l : List UInt8) : (Lib.trimB l 32).isEmpty = !l.any (fun c => decide (c.toNat ≠ 32)) := by
  have h1 : ∀ m : List UInt8, (m.dropWhile (· == 32)).isEmpty = m.all (· == 32) := fun m => by
    induction m with
    | nil => rfl
    | cons c r ih =>
      rw [List.dropWhile_cons, List.all_cons]
      cases hc : (c == 32)
      · simp
      · simpa using ih
  have h2 : ∀ m : List UInt8, m.all (· == 32) = true → m.dropWhile (· == 32) = [] := fun m h => by
    have := h1 m
    rw [h] at this
    simpa using this
  have h3 : (!l.any (fun c => decide (c.toNat ≠ 32))) = l.all (· == 32) := by
    rw [Bool.eq_iff_iff]
    simp only [Bool.not_eq_true', List.any_eq_false, List.all_eq_true, decide_eq_true_eq, beq_iff_eq]
    constructor
    · intro h c hc
      have := h c hc
      have h5 : c.toNat = 32 := by omega
      exact UInt8.toNat_inj.1 h5
    · intro h c hc h6
      rw [h c hc] at h6
      exact h6 rfl
  rw [h3]
  unfold Lib.trimB Lib.trimLeftB Lib.trimRightB
  rw [h1, List.all_reverse]
  cases hl : l.all (· == 32)
  · rw [Bool.eq_false_iff] at hl ⊢
    intro h
    apply hl
    have h4 := List.takeWhile_append_dropWhile (p := (· == (32 : UInt8))) (l := l.reverse)
    have h5 : l.reverse.all (· == 32) = true := by
      rw [← h4, List.all_append, h, Bool.and_true, List.all_eq_true]
      exact fun c hc => tw l.reverse c hc
    rwa [List.all_reverse] at h5
  · rw [h2 l.reverse (by rwa [List.all_reverse])]
    rfl
theorem unsign_len (l : List UInt8) : (unsign l).length ≤ l.length := by
  cases l with
  | nil => simp [unsign]
  | cons c r =>
    rw [unsign]
    split <;> simp
theorem trim_sign (l : List UInt8) : Lib.trimPrefix l [45] = unsign l := by
  cases l with
  | nil => rfl
  | cons c r =>
    rw [unsign]
    unfold Lib.trimPrefix Lib.hasPrefix
    by_cases h : c = 45
    · subst h
      simp
    · rw [if_neg h, if_neg]
      simp
      exact fun e => h e.symm
end Sc
end Go.Proofs.YtkdlkdbjgajenaaDoor
