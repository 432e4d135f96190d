import Derived.Test.YtpnlalfdgngcdaaDoorProg
import Derived.OrdersHeld
import Derived.Deep.RegionHeld
import Derived.WalkKit
import Derived.Laws.Rows
set_option linter.unusedVariables false
set_option maxRecDepth 100000
namespace Go.Proofs.YtpnlalfdgngcdaaDoor.Ms
end Go.Proofs.YtpnlalfdgngcdaaDoor.Ms
namespace Go.Proofs.YtpnlalfdgngcdaaDoor.Rg
open Go.RowKit
section
variable {P : Program} {ops : Array Oper} {Q : Exit → Act → World → Prop} {md : Region.Mode} {S : World → Prop} {fuel : Nat} {l : Array Bool} {a : Act} {w : World}
theorem take (i : Nat) {o : Oper} (v : Value) (hi : ops[i]? = some o) (hs : Region.noSelect ops = true) (hf : Region.free md ops l i = true) (hr : (Region.ready md ops l).contains i = true)
  (hQ : ∀ c a w, Q (.panic c) (a.put o.dst v) w → Q (.panic c) a w) (hw : Region.wanted o (yielded ops a.tmps) = true) (hy : ∀ w, S w → (execOp a.eval o).run P w = .ok (.value v) w) (hS : S w)
  (h : wpAnyH P md ops Q S fuel (l.setIfInBounds i true) (a.put o.dst v) w) : wpAnyH P md ops Q S (fuel + 1) l a w :=
 wpAnyH_take hi hs hf hr hQ (.inl ⟨hw, hy⟩) hS h
theorem frame (a' : Act) (ha : a = a') (h : wpAnyH P md ops Q S fuel l a' w) : wpAnyH P md ops Q S fuel l a w:=ha ▸ h
theorem call (i : Nat) {o : Oper} (hi : ops[i]? = some o) (hr : Region.ready md ops l = [i]) (hw : Region.wanted o (yielded ops a.tmps) = true) (f : FuncId) (args : Array Value)
  (hrun : (execOp a.eval o).run P w = .ok (.enter f args) w) {R : Ending → World → Prop} (hc : Calls P f args w R)
  (h : ∀ e w', R e w' → ∃ v, e = .returned v ∧ S w' ∧ wpAnyH P md ops Q S fuel (l.setIfInBounds i true) (a.put o.dst v) w') : wpAnyH P md ops Q S (fuel + 1) l a w :=
 wpAnyH_all hr (by simp) (fun j hj=>by
  obtain rfl:=List.mem_singleton.1 hj
  refine wpOp_step hi (fun K hK=>?_)
  rw [if_pos hw]
  unfold Oper.wp
  rw [hrun, Oper.upon_enter]
  refine hc.mono fun e w' hR=>?_
  obtain ⟨v, rfl, hS, hW⟩:=h e w' hR
  exact hK _ _ ⟨hS, hW⟩)
theorem run (i : Nat) {o : Oper} (hi : ops[i]? = some o) (hr : Region.ready md ops l = [i]) (hw : Region.wanted o (yielded ops a.tmps) = true) (v : Value) (w' : World)
  (hrun : (execOp a.eval o).run P w = .ok (.value v) w') (hS : S w') (h : wpAnyH P md ops Q S fuel (l.setIfInBounds i true) (a.put o.dst v) w') : wpAnyH P md ops Q S (fuel + 1) l a w :=
 wpAnyH_all hr (by simp) (fun j hj=>by
  obtain rfl:=List.mem_singleton.1 hj
  refine wpOp_step hi (fun K hK=>?_)
  rw [if_pos hw]
  unfold Oper.wp
  rw [hrun, Oper.upon_value]
  exact hK _ _ ⟨hS, h⟩)
theorem skip (i : Nat) {o : Oper} (hi : ops[i]? = some o) (hr : Region.ready md ops l = [i]) (hw : Region.wanted o (yielded ops a.tmps) = true) (w' : World)
  (hrun : (execOp a.eval o).run P w = .ok .skip w') (hS : S w') (h : wpAnyH P md ops Q S fuel (l.setIfInBounds i true) (a.put o.dst undef) w') : wpAnyH P md ops Q S (fuel + 1) l a w :=
 wpAnyH_all hr (by simp) (fun j hj=>by
  obtain rfl:=List.mem_singleton.1 hj
  refine wpOp_step hi (fun K hK=>?_)
  rw [if_pos hw]
  unfold Oper.wp
  rw [hrun, Oper.upon_skip]
  exact hK _ _ ⟨hS, h⟩)
def idleOne (ops : Array Oper) (o : Oper) (a : Act) : Option Act :=
 if Region.wanted o (yielded ops a.tmps) = true then
  match o.op with
  | .move x | .assign x=>some (a.put o.dst (a.eval x))
  | .pick c x y=>match a.eval c with
   | .bool true=>some (a.put o.dst (a.eval x))
   | .bool false=>some (a.put o.dst (a.eval y))
   | _=>none
  | _=>none
 else some (a.put o.dst undef)
def idleRun (ops : Array Oper) : List Nat → Act → Option Act
 | [], a=>some a
 | i :: is, a=>match ops[i]? with
  | some o=>(match idleOne ops o a with
   | some a'=>idleRun ops is a'
   | none=>none)
  | none=>none
def freeRun (md : Region.Mode) (ops : Array Oper) : List Nat → Array Bool → Bool
 | [], _=>true
 | i :: is, l=>Region.free md ops l i && ((Region.ready md ops l).contains i && freeRun md ops is (l.setIfInBounds i true))
def markRun : List Nat → Array Bool → Array Bool
 | [], l=>l
 | i :: is, l=>markRun is (l.setIfInBounds i true)
theorem idleOne_yields {o : Oper} {a' : Act} (h : idleOne ops o a = some a') : ∃ v, a' = a.put o.dst v ∧ YieldsIf P ops S o v a:=by
 unfold idleOne at h
 split at h
 ·rename_i hw
  split at h
  ·rename_i x hx
   exact ⟨_, (Option.some.inj h).symm, .inl ⟨hw, fun w _=>by unfold execOp; rw [hx]; rfl⟩⟩
  ·rename_i x hx
   exact ⟨_, (Option.some.inj h).symm, .inl ⟨hw, fun w _=>by unfold execOp; rw [hx]; rfl⟩⟩
  ·rename_i c x y hx
   split at h
   ·rename_i hc
    exact ⟨_, (Option.some.inj h).symm, .inl ⟨hw, fun w _=>by unfold execOp; rw [hx]; simp only [hc]; rfl⟩⟩
   ·rename_i hc
    exact ⟨_, (Option.some.inj h).symm, .inl ⟨hw, fun w _=>by unfold execOp; rw [hx]; simp only [hc]; rfl⟩⟩
   ·cases h
  ·cases h
 ·rename_i hw
  exact ⟨_, (Option.some.inj h).symm, .inr ⟨by simpa using hw, rfl⟩⟩
theorem idle (hs : Region.noSelect ops = true) (hQ : ∀ c a d v w, Q (.panic c) (a.put d v) w → Q (.panic c) a w) :
  ∀ (is : List Nat) (l : Array Bool) (a a' : Act) (fuel : Nat), freeRun md ops is l = true → idleRun ops is a = some a' → S w → wpAnyH P md ops Q S fuel (markRun is l) a' w → wpAnyH P md ops Q S (fuel + is.length) l a w
 | [], l, a, a', fuel, _, h, _, hK=>by
  obtain rfl:=Option.some.inj h
  exact hK
 | i :: is, l, a, a', fuel, hf, h, hS, hK=>by
  rw [idleRun] at h
  split at h
  ·rename_i o ho
   split at h
   ·rename_i a1 h1
    rw [freeRun, Bool.and_eq_true, Bool.and_eq_true] at hf
    obtain ⟨v, rfl, hy⟩:=idleOne_yields (P:=P) (S:=S) h1
    rw [List.length_cons, ← Nat.add_assoc]
    exact wpAnyH_take ho hs hf.1 hf.2.1 (fun c a w=>hQ c a _ _ w) hy hS (idle hs hQ is _ _ a' fuel hf.2.2 h hS hK)
   ·cases h
  ·cases h
end
def chk (md : Region.Mode) (ops : Array Oper) (l : Array Bool) (t : Array Value) (i : Nat) (d : Option Nat) : Bool :=
 match ops[i]? with
 | some o=>Region.noSelect ops && (Region.free md ops l i && ((Region.ready md ops l).contains i && (Region.wanted o (yielded ops t) && o.dst == d)))
 | none=>false
def chk1 (md : Region.Mode) (ops : Array Oper) (l : Array Bool) (t : Array Value) (i : Nat) (d : Option Nat) : Bool :=
 match ops[i]? with
 | some o=>decide (Region.ready md ops l = [i]) && (Region.wanted o (yielded ops t) && o.dst == d)
 | none=>false
theorem pu (l : List Value) (ds : List Deferred) (i : Nat) (v : Value) : Act.put ⟨l.toArray, ds⟩ (some i) v = ⟨(l.set i v).toArray, ds⟩:=by
 simp [Act.put, List.setIfInBounds_toArray]
section
variable {P : Program} {ops : Array Oper} {Q : Exit → Act → World → Prop} {md : Region.Mode} {S : World → Prop} {fuel : Nat} {l : Array Bool} {a : Act} {w : World}
theorem tk (i d : Nat) {o : Oper} (v : Value) (hi : ops[i]? = some o) (hc : chk md ops l a.tmps i (some d) = true) (hQ : ∀ c a w, Q (.panic c) (a.put (some d) v) w → Q (.panic c) a w) (hy : ∀ w, S w → (execOp a.eval o).run P w = .ok (.value v) w) (hS : S w)
  (h : wpAnyH P md ops Q S fuel (l.setIfInBounds i true) (a.put (some d) v) w) : wpAnyH P md ops Q S (fuel + 1) l a w:=by
 simp only [chk, hi, Bool.and_eq_true, beq_iff_eq] at hc
 obtain ⟨h1, h2, h3, h4, h5⟩:=hc
 exact take i v hi h1 h2 h3 (by rw [h5]; exact hQ) h4 hy hS (by rw [h5]; exact h)
theorem cl (i d : Nat) {o : Oper} (hi : ops[i]? = some o) (hc : chk1 md ops l a.tmps i (some d) = true) (f : FuncId) (args : Array Value)
  (hrun : (execOp a.eval o).run P w = .ok (.enter f args) w) {R : Ending → World → Prop} (hC : Calls P f args w R)
  (h : ∀ e w', R e w' → ∃ v, e = .returned v ∧ S w' ∧ wpAnyH P md ops Q S fuel (l.setIfInBounds i true) (a.put (some d) v) w') : wpAnyH P md ops Q S (fuel + 1) l a w:=by
 simp only [chk1, hi, Bool.and_eq_true, decide_eq_true_eq, beq_iff_eq] at hc
 obtain ⟨h1, h2, h3⟩:=hc
 exact call i hi h1 h2 f args hrun hC (by rw [h3]; exact h)
theorem sk (i : Nat) {o : Oper} (w' : World) (hi : ops[i]? = some o) (hc : chk1 md ops l a.tmps i none = true)
  (hrun : (execOp a.eval o).run P w = .ok .skip w') (hS : S w') (h : wpAnyH P md ops Q S fuel (l.setIfInBounds i true) a w') : wpAnyH P md ops Q S (fuel + 1) l a w:=by
 simp only [chk1, hi, Bool.and_eq_true, decide_eq_true_eq, beq_iff_eq] at hc
 obtain ⟨h1, h2, h3⟩:=hc
 exact skip i hi h1 h2 w' hrun hS (by rw [h3]; exact h)
end
def puts (a : Act) : List (Nat × Value) → Act
 | []=>a
 | p :: l=>puts (a.put (some p.1) p.2) l
section
variable {P : Program} {ops : Array Oper} {Q : Exit → Act → World → Prop} {md : Region.Mode} {S : World → Prop} {l : Array Bool} {a : Act} {w : World}
theorem idleP (is : List Nat) (ps : List (Nat × Value)) (fuel : Nat) (hs : Region.noSelect ops = true) (hQ : ∀ c a d v w, Q (.panic c) (a.put d v) w → Q (.panic c) a w) (hf : freeRun md ops is l = true) (h : idleRun ops is a = some (puts a ps)) (hS : S w)
  (hK : wpAnyH P md ops Q S fuel (markRun is l) (puts a ps) w) : wpAnyH P md ops Q S (fuel + is.length) l a w:=idle hs hQ is l a _ fuel hf h hS hK
end
end Go.Proofs.YtpnlalfdgngcdaaDoor.Rg
