/- VectorLattice: the operations of its last expression, by name; ways of a region that is proved part by part. -/
import Derived.Test.YtiglepmgonmhiaaVcForms
namespace Go.Proofs.Ytiglepmgonmhiaa.Cs
open Go.RowKit Go.Proofs.Ytiglepmgonmhiaa.Ms
set_option linter.unusedVariables false
set_option maxRecDepth 100000

/-- The operations of the region with this number. -/
def regOps (n : Nat) : Code → Option (Array Oper)
  | .region i ops _ => if i = n then some ops else none
  | .seq a b => match regOps n a with
    | some x => some x
    | none => regOps n b
  | .cond _ a b => match regOps n a with
    | some x => some x
    | none => regOps n b
  | .block _ b => regOps n b
  | .loop b => regOps n b
  | .scope b => regOps n b
  | _ => none
noncomputable def latOps : Array Oper := (Try.f4.body.bind (regOps 8)).getD #[]
theorem lat_size : latOps.size = 97 := by kernel_rfl
theorem f_leq {p : Bool} (A B : Option Addr) (c d : Nat) (la lb : List Nm) (h : leq la lb = p) (w : World) (hA : VecIn w A la) (hB : VecIn w B lb) : Calls Try.prog 18 #[.slice A la.length c, .slice B lb.length d] w fun e w' => e = .returned (.bool p) ∧ Below w.heap.size w w' := by
  have := Leq_any A B c d la lb w hA hB
  rw [h] at this
  exact this
theorem f_cov {p : Bool} (A : Option Addr) (c : Nat) (la : List Nm) (ct cs cr : Int) (h : covers la ⟨ct, cs, cr⟩ = p) (w : World) (hA : VecIn w A la) : Calls Try.prog 20 #[.slice A la.length c, cv ct cs cr] w fun e w' => e = .returned (.bool p) ∧ Below w.heap.size w w' := by
  have := Covers_any A c la ct cs cr w hA
  rw [h] at this
  exact this
theorem f_same (A B : Option Addr) (c d : Nat) (la lb : List Nm) (h : la = lb) (w : World) (hA : VecIn w A la) (hB : VecIn w B lb) : Calls Try.prog 24 #[.slice A la.length c, .slice B lb.length d] w fun e w' => e = .returned (.bool true) ∧ Below w.heap.size w w' := by
  have := Same_any A B c d la lb w hA hB
  rw [decide_eq_true (by rw [h])] at this
  exact this
/-- What stays: the number's box, the three vectors, what both are joined to and met to. -/
abbrev latS (w : World) (A : Option Addr) (a : List Nm) (B : Option Addr) (b : List Nm) (C : Option Addr) (c : List Nm) (J M : Option Addr) (dt ds dr : Int) : World → Prop := fun w' => Blk w' w.heap.size 25 (gc dt ds dr) ∧ VecIn w' A a ∧ VecIn w' B b ∧ VecIn w' C c ∧ VecIn w' J (join a b) ∧ VecIn w' M (meet a b)
section
variable {P : Program} {ops : Array Oper} {Q : Exit → Act → World → Prop} {md : Region.Mode} {S : World → Prop}
theorem Rg_end {fuel fuel' : Nat} {l l' : Array Bool} {a : Act} {w : World} (f : (Nat → Value) → Act) (hf : fuel' = fuel) (hl : l' = l) (ha : a = f (fun n => a.tmps.getD n undef)) (h : ∀ g, wpAnyH P md ops Q S fuel' l' (f g) w) : wpAnyH P md ops Q S fuel l a w := by
  subst hf hl
  rw [ha]
  exact h _
end
end Go.Proofs.Ytiglepmgonmhiaa.Cs
