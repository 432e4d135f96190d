import Derived.Test.YtconghaebebncaaGreatDoorProg
import Derived.OrdersHeld
import Derived.Deep.RegionHeld
import Derived.WalkKit
import Derived.Laws.Rows
import Derived.BigFrame
/- Regions that draw their order, step by step: an operation that is taken first; a call by its contract; what is passed over or only moves values, many at once. -/
namespace Go.Proofs.YtconghaebebncaaGreatDoor.Ms
/-- Short names of what often stands in slots. -/
abbrev ud : Value := undef
abbrev pt (b k : Nat) : Value := .pointer (some ⟨b, k, none⟩)
end Go.Proofs.YtconghaebebncaaGreatDoor.Ms
namespace Go.Proofs.YtconghaebebncaaGreatDoor.Rg
open Go.RowKit
set_option linter.unusedVariables false
set_option maxRecDepth 100000

section
variable {P : Program} {ops : Array Oper} {Q : Exit → Act → World → Prop} {md : Region.Mode} {S : World → Prop} {fuel : Nat} {l : Array Bool} {a : Act} {w : World}

/-- An operation that is wanted and yields v wherever S holds is taken first. -/
theorem take (i : Nat) {o : Oper} (v : Value) (hi : ops[i]? = some o) (hs : Region.noSelect ops = true) (hf : Region.free md ops l i = true) (hr : (Region.ready md ops l).contains i = true)
    (hQ : ∀ c a w, Q (.panic c) (a.put o.dst v) w → Q (.panic c) a w) (hw : Region.wanted o (yielded ops a.tmps) = true) (hy : ∀ w, S w → (execOp a.eval o).run P w = .ok (.value v) w) (hS : S w)
    (h : wpAnyH P md ops Q S fuel (l.setIfInBounds i true) (a.put o.dst v) w) : wpAnyH P md ops Q S (fuel + 1) l a w :=
  wpAnyH_take hi hs hf hr hQ (.inl ⟨hw, hy⟩) hS h
/-- The frame, said anew. -/
theorem frame (a' : Act) (ha : a = a') (h : wpAnyH P md ops Q S fuel l a' w) : wpAnyH P md ops Q S fuel l a w := ha ▸ h
/-- The one call that may come up, by its contract. -/
theorem call (i : Nat) {o : Oper} (hi : ops[i]? = some o) (hr : Region.ready md ops l = [i]) (hw : Region.wanted o (yielded ops a.tmps) = true) (f : FuncId) (args : Array Value)
    (hrun : (execOp a.eval o).run P w = .ok (.enter f args) w) {R : Ending → World → Prop} (hc : Calls P f args w R)
    (h : ∀ e w', R e w' → ∃ v, e = .returned v ∧ S w' ∧ wpAnyH P md ops Q S fuel (l.setIfInBounds i true) (a.put o.dst v) w') : wpAnyH P md ops Q S (fuel + 1) l a w :=
  wpAnyH_all hr (by simp) (fun j hj => by
    obtain rfl := List.mem_singleton.1 hj
    refine wpOp_step hi (fun K hK => ?_)
    rw [if_pos hw]
    unfold Oper.wp
    rw [hrun, Oper.upon_enter]
    refine hc.mono fun e w' hR => ?_
    obtain ⟨v, rfl, hS, hW⟩ := h e w' hR
    exact hK _ _ ⟨hS, hW⟩)
/-- The one operation that may come up yields v and leaves another world. -/
theorem run (i : Nat) {o : Oper} (hi : ops[i]? = some o) (hr : Region.ready md ops l = [i]) (hw : Region.wanted o (yielded ops a.tmps) = true) (v : Value) (w' : World)
    (hrun : (execOp a.eval o).run P w = .ok (.value v) w') (hS : S w') (h : wpAnyH P md ops Q S fuel (l.setIfInBounds i true) (a.put o.dst v) w') : wpAnyH P md ops Q S (fuel + 1) l a w :=
  wpAnyH_all hr (by simp) (fun j hj => by
    obtain rfl := List.mem_singleton.1 hj
    refine wpOp_step hi (fun K hK => ?_)
    rw [if_pos hw]
    unfold Oper.wp
    rw [hrun, Oper.upon_value]
    exact hK _ _ ⟨hS, h⟩)
/-- The one operation that may come up only leaves another world. -/
theorem skip (i : Nat) {o : Oper} (hi : ops[i]? = some o) (hr : Region.ready md ops l = [i]) (hw : Region.wanted o (yielded ops a.tmps) = true) (w' : World)
    (hrun : (execOp a.eval o).run P w = .ok .skip w') (hS : S w') (h : wpAnyH P md ops Q S fuel (l.setIfInBounds i true) (a.put o.dst undef) w') : wpAnyH P md ops Q S (fuel + 1) l a w :=
  wpAnyH_all hr (by simp) (fun j hj => by
    obtain rfl := List.mem_singleton.1 hj
    refine wpOp_step hi (fun K hK => ?_)
    rw [if_pos hw]
    unfold Oper.wp
    rw [hrun, Oper.upon_skip]
    exact hK _ _ ⟨hS, h⟩)
/-- What is passed over, or only moves values. -/
def idleOne (ops : Array Oper) (o : Oper) (a : Act) : Option Act :=
  if Region.wanted o (yielded ops a.tmps) = true then
    match o.op with
    | .move x | .assign x => some (a.put o.dst (a.eval x))
    | .pick c x y => match a.eval c with
      | .bool true => some (a.put o.dst (a.eval x))
      | .bool false => some (a.put o.dst (a.eval y))
      | _ => none
    | _ => none
  else some (a.put o.dst undef)
def idleRun (ops : Array Oper) : List Nat → Act → Option Act
  | [], a => some a
  | i :: is, a => match ops[i]? with
    | some o => (match idleOne ops o a with
      | some a' => idleRun ops is a'
      | none => none)
    | none => none
def freeRun (md : Region.Mode) (ops : Array Oper) : List Nat → Array Bool → Bool
  | [], _ => true
  | i :: is, l => Region.free md ops l i && ((Region.ready md ops l).contains i && freeRun md ops is (l.setIfInBounds i true))
def markRun : List Nat → Array Bool → Array Bool
  | [], l => l
  | i :: is, l => markRun is (l.setIfInBounds i true)
theorem idleOne_yields {o : Oper} {a' : Act} (h : idleOne ops o a = some a') : ∃ v, a' = a.put o.dst v ∧ YieldsIf P ops S o v a := by
  unfold idleOne at h
  split at h
  · rename_i hw
    split at h
    · rename_i x hx
      exact ⟨_, (Option.some.inj h).symm, .inl ⟨hw, fun w _ => by unfold execOp; rw [hx]; rfl⟩⟩
    · rename_i x hx
      exact ⟨_, (Option.some.inj h).symm, .inl ⟨hw, fun w _ => by unfold execOp; rw [hx]; rfl⟩⟩
    · rename_i c x y hx
      split at h
      · rename_i hc
        exact ⟨_, (Option.some.inj h).symm, .inl ⟨hw, fun w _ => by unfold execOp; rw [hx]; simp only [hc]; rfl⟩⟩
      · rename_i hc
        exact ⟨_, (Option.some.inj h).symm, .inl ⟨hw, fun w _ => by unfold execOp; rw [hx]; simp only [hc]; rfl⟩⟩
      · cases h
    · cases h
  · rename_i hw
    exact ⟨_, (Option.some.inj h).symm, .inr ⟨by simpa using hw, rfl⟩⟩
theorem idle (hs : Region.noSelect ops = true) (hQ : ∀ c a d v w, Q (.panic c) (a.put d v) w → Q (.panic c) a w) :
    ∀ (is : List Nat) (l : Array Bool) (a a' : Act) (fuel : Nat), freeRun md ops is l = true → idleRun ops is a = some a' → S w → wpAnyH P md ops Q S fuel (markRun is l) a' w → wpAnyH P md ops Q S (fuel + is.length) l a w
  | [], l, a, a', fuel, _, h, _, hK => by
    obtain rfl := Option.some.inj h
    exact hK
  | i :: is, l, a, a', fuel, hf, h, hS, hK => by
    rw [idleRun] at h
    split at h
    · rename_i o ho
      split at h
      · rename_i a1 h1
        rw [freeRun, Bool.and_eq_true, Bool.and_eq_true] at hf
        obtain ⟨v, rfl, hy⟩ := idleOne_yields (P := P) (S := S) h1
        rw [List.length_cons, ← Nat.add_assoc]
        exact wpAnyH_take ho hs hf.1 hf.2.1 (fun c a w => hQ c a _ _ w) hy hS (idle hs hQ is _ _ a' fuel hf.2.2 h hS hK)
      · cases h
    · cases h
end

end Go.Proofs.YtconghaebebncaaGreatDoor.Rg

/- Regions that keep their order, step by step: an operation that yields a value; a call by its contract; what is passed over or only moves values, many at once. -/
namespace Go.Proofs.YtconghaebebncaaGreatDoor.Pl
open Go.RowKit
set_option linter.unusedVariables false
set_option maxRecDepth 100000

/-- A walk's stop. -/
structure Stopped (p : Prop) : Prop where
  out : p
theorem stop {p : Prop} (h : Stopped p) : p := h.out
section
variable {P : Program} {ops : Array Oper} {Q : Exit → Act → World → Prop} {a : Act} {w : World} {o : Oper} {rest : List Oper}

/-- An operation yields v. -/
theorem take (v : Value) (hw : Region.wanted o (yielded ops a.tmps) = true) (hrun : (execOp a.eval o).run P w = .ok (.value v) w) (h : wpList P ops Q rest (a.put o.dst v) w) : wpList P ops Q (o :: rest) a w :=
  BigFrame.wpList_want hw fun K hK => by
    unfold Oper.wp
    rw [hrun, Oper.upon_value]
    exact hK _ _ h
/-- An operation yields v and leaves another world. -/
theorem run (v : Value) (w' : World) (hw : Region.wanted o (yielded ops a.tmps) = true) (hrun : (execOp a.eval o).run P w = .ok (.value v) w') (h : wpList P ops Q rest (a.put o.dst v) w') : wpList P ops Q (o :: rest) a w :=
  BigFrame.wpList_want hw fun K hK => by
    unfold Oper.wp
    rw [hrun, Oper.upon_value]
    exact hK _ _ h
/-- An operation only leaves another world. -/
theorem skip (w' : World) (hw : Region.wanted o (yielded ops a.tmps) = true) (hrun : (execOp a.eval o).run P w = .ok .skip w') (h : wpList P ops Q rest (a.put o.dst undef) w') : wpList P ops Q (o :: rest) a w :=
  BigFrame.wpList_want hw fun K hK => by
    unfold Oper.wp
    rw [hrun, Oper.upon_skip]
    exact hK _ _ h
/-- A call, by its contract. -/
theorem call (hw : Region.wanted o (yielded ops a.tmps) = true) (f : FuncId) (args : Array Value) (hrun : (execOp a.eval o).run P w = .ok (.enter f args) w) {R : Ending → World → Prop} (hc : Calls P f args w R)
    (h : ∀ e w', R e w' → ∃ v, e = .returned v ∧ wpList P ops Q rest (a.put o.dst v) w') : wpList P ops Q (o :: rest) a w :=
  BigFrame.wpList_want hw fun K hK => by
    unfold Oper.wp
    rw [hrun, Oper.upon_enter]
    refine hc.mono fun e w' hR => ?_
    obtain ⟨v, rfl, hW⟩ := h e w' hR
    exact hK _ _ hW
/-- The frame, said anew. -/
theorem frame {l : List Oper} (a' : Act) (ha : a = a') (h : wpList P ops Q l a' w) : wpList P ops Q l a w := ha ▸ h
theorem done (h : Q .normal a w) : wpList P ops Q [] a w := h
def idleOps (ops : Array Oper) : List Oper → Act → Option Act
  | [], a => some a
  | o :: l, a => match Rg.idleOne ops o a with
    | some a' => idleOps ops l a'
    | none => none
theorem idle : ∀ (n : Nat) (l : List Oper) (a a' : Act), idleOps ops (l.take n) a = some a' → wpList P ops Q (l.drop n) a' w → wpList P ops Q l a w
  | 0, l, a, a', h, hK => by
    obtain rfl := Option.some.inj h
    exact hK
  | n + 1, [], a, a', h, hK => by
    obtain rfl := Option.some.inj h
    exact hK
  | n + 1, o :: l, a, a', h, hK => by
    rw [List.take_succ_cons, idleOps] at h
    split at h
    · rename_i a1 h1
      have hrest := idle n l a1 a' h (by simpa using hK)
      obtain ⟨v, rfl, hy⟩ := Rg.idleOne_yields (P := P) (S := fun w' => w' = w) h1
      rcases hy with ⟨hw, hy⟩ | ⟨hw, rfl⟩
      · exact take v hw (hy w rfl) hrest
      · exact wpList_skip (by simpa using hw) hrest
    · cases h
theorem idle1 {o1 : Oper} {l : List Oper} {a : Act} (a' : Act) (h : idleOps ops [o1] a = some a') (hK : wpList P ops Q l a' w) : wpList P ops Q (o1 :: l) a w := idle 1 (o1 :: l) a a' h hK
theorem idle2 {o1 o2 : Oper} {l : List Oper} {a : Act} (a' : Act) (h : idleOps ops [o1, o2] a = some a') (hK : wpList P ops Q l a' w) : wpList P ops Q (o1 :: o2 :: l) a w := idle 2 (o1 :: o2 :: l) a a' h hK
/-- All that is left is passed over. -/
theorem rests {l : List Oper} (a' : Act) (h : idleOps ops l a = some a') (hK : Q .normal a' w) : wpList P ops Q l a w :=
  idle l.length l a a' (by rw [List.take_length]; exact h) (by rw [List.drop_length]; exact hK)
end
/-- The address of a slice's element. -/
theorem run_index {P : Program} {w : World} {ev : Operand → Value} {o : Oper} {x y : Operand} {t elem : TypeId} {ad : Addr} {n c q k : Nat} {i : TypeInfo} (hu : P.underlying t = some (.slice elem)) (hi : P.info? elem = some i) (hk : i.size = k)
    (ho : o.op = .indexAddr t x y) (hx : ev x = .slice (some ad) n c) (hy : ev y = .int .i64 q) (h : q < n) : (execOp ev o).run P w = .ok (.value (.pointer (some (ad.add (q * k))))) w := by
  unfold execOp
  have h1 : (0 : Int) ≤ (q : Int) ∧ (q : Int) < (n : Int) := by omega
  simp [ho, hx, hy, Instr.indexAt, asIntOf, underlying, hu, sizeOf, typeInfo, hi, hk, h1, h, Result.andThen]
end Go.Proofs.YtconghaebebncaaGreatDoor.Pl
