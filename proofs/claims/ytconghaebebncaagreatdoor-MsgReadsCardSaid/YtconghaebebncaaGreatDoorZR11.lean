import Derived.OrdersHeld
import Derived.Deep.RegionHeld
import Derived.BigFrame
import Derived.Test.YtconghaebebncaaGreatDoorZR9
set_option linter.unusedVariables false
set_option maxRecDepth 100000
namespace Go.Proofs.YtconghaebebncaaGreatDoor.Ms
abbrev ud : Value:=undef
abbrev pt (b k : Nat) : Value:=.pointer (some ⟨b, k, none⟩)
abbrev Nl : Value:=.slice none 0 0
abbrev Ns : Value:=.string ⟨#[]⟩
abbrev Iq (n : Int) : Value:=.int .i64 n
abbrev Ub (n : Int) : Value:=.int .u8 n
abbrev Bt : Value:=.bool true
abbrev Bf : Value:=.bool false
abbrev Sg (s : ByteArray) : Value:=.string s
abbrev Sl (A : Option Addr) (n c : Nat) : Value:=.slice A n c
abbrev Ag (cs : Array Value) : Value:=.agg cs
end Go.Proofs.YtconghaebebncaaGreatDoor.Ms
namespace Go.Proofs.YtconghaebebncaaGreatDoor.Rg
open Go.RowKit
section
variable {P : Program} {ops : Array Oper} {Q : Exit → Act → World → Prop} {md : Region.Mode} {S : World → Prop} {fuel : Nat} {l : Array Bool} {a : Act} {w : World}
theorem take (i : Nat) {o : Oper} (v : Value) (hi : ops[i]? = some o) (hs : Region.noSelect ops = true) (hf : Region.free md ops l i = true) (hr : (Region.ready md ops l).contains i = true)
  (hQ : ∀ c a w, Q (.panic c) (a.put o.dst v) w → Q (.panic c) a w) (hw : Region.wanted o (yielded ops a.tmps) = true) (hy : ∀ w, S w → (execOp a.eval o).run P w = .ok (.value v) w) (hS : S w)
  (h : wpAnyH P md ops Q S fuel (l.setIfInBounds i true) (a.put o.dst v) w) : wpAnyH P md ops Q S (fuel + 1) l a w :=
 wpAnyH_take hi hs hf hr hQ (.inl ⟨hw, hy⟩) hS h
theorem frame (a' : Act) (ha : a = a') (h : wpAnyH P md ops Q S fuel l a' w) : wpAnyH P md ops Q S fuel l a w:=ha ▸ h
theorem call (i : Nat) {o : Oper} (hi : ops[i]? = some o) (hr : Region.ready md ops l = [i]) (hw : Region.wanted o (yielded ops a.tmps) = true) (f : FuncId) (args : Array Value)
  (hrun : (execOp a.eval o).run P w = .ok (.enter f args) w) {R : Ending → World → Prop} (hc : Calls P f args w R)
  (h : ∀ e w', R e w' → ∃ v, e = .returned v ∧ S w' ∧ wpAnyH P md ops Q S fuel (l.setIfInBounds i true) (a.put o.dst v) w') : wpAnyH P md ops Q S (fuel + 1) l a w :=
 wpAnyH_all hr (by simp) (fun j hj=>by
  obtain rfl:=List.mem_singleton.1 hj
  refine wpOp_step hi (fun K hK=>?_)
  rw [if_pos hw]
  unfold Oper.wp
  rw [hrun, Oper.upon_enter]
  refine hc.mono fun e w' hR=>?_
  obtain ⟨v, rfl, hS, hW⟩:=h e w' hR
  exact hK _ _ ⟨hS, hW⟩)
theorem run (i : Nat) {o : Oper} (hi : ops[i]? = some o) (hr : Region.ready md ops l = [i]) (hw : Region.wanted o (yielded ops a.tmps) = true) (v : Value) (w' : World)
  (hrun : (execOp a.eval o).run P w = .ok (.value v) w') (hS : S w') (h : wpAnyH P md ops Q S fuel (l.setIfInBounds i true) (a.put o.dst v) w') : wpAnyH P md ops Q S (fuel + 1) l a w :=
 wpAnyH_all hr (by simp) (fun j hj=>by
  obtain rfl:=List.mem_singleton.1 hj
  refine wpOp_step hi (fun K hK=>?_)
  rw [if_pos hw]
  unfold Oper.wp
  rw [hrun, Oper.upon_value]
  exact hK _ _ ⟨hS, h⟩)
theorem skip (i : Nat) {o : Oper} (hi : ops[i]? = some o) (hr : Region.ready md ops l = [i]) (hw : Region.wanted o (yielded ops a.tmps) = true) (w' : World)
  (hrun : (execOp a.eval o).run P w = .ok .skip w') (hS : S w') (h : wpAnyH P md ops Q S fuel (l.setIfInBounds i true) (a.put o.dst undef) w') : wpAnyH P md ops Q S (fuel + 1) l a w :=
 wpAnyH_all hr (by simp) (fun j hj=>by
  obtain rfl:=List.mem_singleton.1 hj
  refine wpOp_step hi (fun K hK=>?_)
  rw [if_pos hw]
  unfold Oper.wp
  rw [hrun, Oper.upon_skip]
  exact hK _ _ ⟨hS, h⟩)
def idleOne (ops : Array Oper) (o : Oper) (a : Act) : Option Act :=
 if Region.wanted o (yielded ops a.tmps) = true then
  match o.op with
  | .move x | .assign x=>some (a.put o.dst (a.eval x))
  | .pick c x y=>match a.eval c with
   | .bool true=>some (a.put o.dst (a.eval x))
   | .bool false=>some (a.put o.dst (a.eval y))
   | _=>none
  | _=>none
 else some (a.put o.dst undef)
def idleRun (ops : Array Oper) : List Nat → Act → Option Act
 | [], a=>some a
 | i :: is, a=>match ops[i]? with
  | some o=>(match idleOne ops o a with
   | some a'=>idleRun ops is a'
   | none=>none)
  | none=>none
def freeRun (md : Region.Mode) (ops : Array Oper) : List Nat → Array Bool → Bool
 | [], _=>true
 | i :: is, l=>Region.free md ops l i && ((Region.ready md ops l).contains i && freeRun md ops is (l.setIfInBounds i true))
def markRun : List Nat → Array Bool → Array Bool
 | [], l=>l
 | i :: is, l=>markRun is (l.setIfInBounds i true)
theorem idleOne_yields {o : Oper} {a' : Act} (h : idleOne ops o a = some a') : ∃ v, a' = a.put o.dst v ∧ YieldsIf P ops S o v a:=by
 unfold idleOne at h
 split at h
 ·rename_i hw
  split at h
  ·rename_i x hx
   exact ⟨_, (Option.some.inj h).symm, .inl ⟨hw, fun w _=>by unfold execOp; rw [hx]; rfl⟩⟩
  ·rename_i x hx
   exact ⟨_, (Option.some.inj h).symm, .inl ⟨hw, fun w _=>by unfold execOp; rw [hx]; rfl⟩⟩
  ·rename_i c x y hx
   split at h
   ·rename_i hc
    exact ⟨_, (Option.some.inj h).symm, .inl ⟨hw, fun w _=>by unfold execOp; rw [hx]; simp only [hc]; rfl⟩⟩
   ·rename_i hc
    exact ⟨_, (Option.some.inj h).symm, .inl ⟨hw, fun w _=>by unfold execOp; rw [hx]; simp only [hc]; rfl⟩⟩
   ·cases h
  ·cases h
 ·rename_i hw
  exact ⟨_, (Option.some.inj h).symm, .inr ⟨by simpa using hw, rfl⟩⟩
theorem idle (hs : Region.noSelect ops = true) (hQ : ∀ c a d v w, Q (.panic c) (a.put d v) w → Q (.panic c) a w) :
  ∀ (is : List Nat) (l : Array Bool) (a a' : Act) (fuel : Nat), freeRun md ops is l = true → idleRun ops is a = some a' → S w → wpAnyH P md ops Q S fuel (markRun is l) a' w → wpAnyH P md ops Q S (fuel + is.length) l a w
 | [], l, a, a', fuel, _, h, _, hK=>by
  obtain rfl:=Option.some.inj h
  exact hK
 | i :: is, l, a, a', fuel, hf, h, hS, hK=>by
  rw [idleRun] at h
  split at h
  ·rename_i o ho
   split at h
   ·rename_i a1 h1
    rw [freeRun, Bool.and_eq_true, Bool.and_eq_true] at hf
    obtain ⟨v, rfl, hy⟩:=idleOne_yields (P:=P) (S:=S) h1
    rw [List.length_cons, ← Nat.add_assoc]
    exact wpAnyH_take ho hs hf.1 hf.2.1 (fun c a w=>hQ c a _ _ w) hy hS (idle hs hQ is _ _ a' fuel hf.2.2 h hS hK)
   ·cases h
  ·cases h
end
def chk (md : Region.Mode) (ops : Array Oper) (l : Array Bool) (t : Array Value) (i : Nat) (d : Option Nat) : Bool :=
 match ops[i]? with
 | some o=>Region.noSelect ops && (Region.free md ops l i && ((Region.ready md ops l).contains i && (Region.wanted o (yielded ops t) && o.dst == d)))
 | none=>false
def chk1 (md : Region.Mode) (ops : Array Oper) (l : Array Bool) (t : Array Value) (i : Nat) (d : Option Nat) : Bool :=
 match ops[i]? with
 | some o=>decide (Region.ready md ops l = [i]) && (Region.wanted o (yielded ops t) && o.dst == d)
 | none=>false
theorem pu (l : List Value) (ds : List Deferred) (i : Nat) (v : Value) : Act.put ⟨l.toArray, ds⟩ (some i) v = ⟨(l.set i v).toArray, ds⟩:=by
 simp [Act.put, List.setIfInBounds_toArray]
section
variable {P : Program} {ops : Array Oper} {Q : Exit → Act → World → Prop} {md : Region.Mode} {S : World → Prop} {fuel : Nat} {l : Array Bool} {a : Act} {w : World}
theorem tk (i d : Nat) {o : Oper} (v : Value) (hi : ops[i]? = some o) (hc : chk md ops l a.tmps i (some d) = true) (hQ : ∀ c a w, Q (.panic c) (a.put (some d) v) w → Q (.panic c) a w) (hy : ∀ w, S w → (execOp a.eval o).run P w = .ok (.value v) w) (hS : S w)
  (h : wpAnyH P md ops Q S fuel (l.setIfInBounds i true) (a.put (some d) v) w) : wpAnyH P md ops Q S (fuel + 1) l a w:=by
 simp only [chk, hi, Bool.and_eq_true, beq_iff_eq] at hc
 obtain ⟨h1, h2, h3, h4, h5⟩:=hc
 exact take i v hi h1 h2 h3 (by rw [h5]; exact hQ) h4 hy hS (by rw [h5]; exact h)
theorem cl (i d : Nat) {o : Oper} (hi : ops[i]? = some o) (hc : chk1 md ops l a.tmps i (some d) = true) (f : FuncId) (args : Array Value)
  (hrun : (execOp a.eval o).run P w = .ok (.enter f args) w) {R : Ending → World → Prop} (hC : Calls P f args w R)
  (h : ∀ e w', R e w' → ∃ v, e = .returned v ∧ S w' ∧ wpAnyH P md ops Q S fuel (l.setIfInBounds i true) (a.put (some d) v) w') : wpAnyH P md ops Q S (fuel + 1) l a w:=by
 simp only [chk1, hi, Bool.and_eq_true, decide_eq_true_eq, beq_iff_eq] at hc
 obtain ⟨h1, h2, h3⟩:=hc
 exact call i hi h1 h2 f args hrun hC (by rw [h3]; exact h)
theorem rn (i d : Nat) {o : Oper} (v : Value) (w' : World) (hi : ops[i]? = some o) (hc : chk1 md ops l a.tmps i (some d) = true)
  (hrun : (execOp a.eval o).run P w = .ok (.value v) w') (hS : S w') (h : wpAnyH P md ops Q S fuel (l.setIfInBounds i true) (a.put (some d) v) w') : wpAnyH P md ops Q S (fuel + 1) l a w:=by
 simp only [chk1, hi, Bool.and_eq_true, decide_eq_true_eq, beq_iff_eq] at hc
 obtain ⟨h1, h2, h3⟩:=hc
 exact run i hi h1 h2 v w' hrun hS (by rw [h3]; exact h)
theorem sk (i : Nat) {o : Oper} (w' : World) (hi : ops[i]? = some o) (hc : chk1 md ops l a.tmps i none = true)
  (hrun : (execOp a.eval o).run P w = .ok .skip w') (hS : S w') (h : wpAnyH P md ops Q S fuel (l.setIfInBounds i true) a w') : wpAnyH P md ops Q S (fuel + 1) l a w:=by
 simp only [chk1, hi, Bool.and_eq_true, decide_eq_true_eq, beq_iff_eq] at hc
 obtain ⟨h1, h2, h3⟩:=hc
 exact skip i hi h1 h2 w' hrun hS (by rw [h3]; exact h)
end
def puts (a : Act) : List (Nat × Value) → Act
 | []=>a
 | p :: l=>puts (a.put (some p.1) p.2) l
section
variable {P : Program} {ops : Array Oper} {Q : Exit → Act → World → Prop} {md : Region.Mode} {S : World → Prop} {l : Array Bool} {a : Act} {w : World}
theorem idleP (is : List Nat) (ps : List (Nat × Value)) (fuel : Nat) (hs : Region.noSelect ops = true) (hQ : ∀ c a d v w, Q (.panic c) (a.put d v) w → Q (.panic c) a w) (hf : freeRun md ops is l = true) (h : idleRun ops is a = some (puts a ps)) (hS : S w)
  (hK : wpAnyH P md ops Q S fuel (markRun is l) (puts a ps) w) : wpAnyH P md ops Q S (fuel + is.length) l a w:=idle hs hQ is l a _ fuel hf h hS hK
end
end Go.Proofs.YtconghaebebncaaGreatDoor.Rg
namespace Go.Proofs.YtconghaebebncaaGreatDoor.Fi
open Go.RowKit
def SaidRSame (f : Fil) : Prop:=∀ (g : Fil) (x0 x1 x2 x3 x4 y0 y1 y2 y3 y4 : Value) (w : World), Lies w (· < w.heap.size) f [x0, x1, x2, x3, x4] → Lies w (· < w.heap.size) g [y0, y1, y2, y3, y4] →
  Calls Tryz.prog 42 #[.agg #[x0, x1, x2, x3, x4], .agg #[y0, y1, y2, y3, y4]] w fun r w'=>r = .returned (.bool (eqF f g)) ∧ Below w.heap.size w w'
theorem eq_drop {l l' : List ByteArray} {i : Nat} (h : i < l.length) (h' : i < l'.length) : decide (l.drop i = l'.drop i) = (decide (l[i] = l'[i]) && decide (l.drop (i + 1) = l'.drop (i + 1))):=by
 rw [List.drop_eq_getElem_cons h, List.drop_eq_getElem_cons h', Bool.eq_iff_iff]
 simp only [decide_eq_true_eq, Bool.and_eq_true, List.cons.injEq]
set_option maxHeartbeats 4000000 in
theorem rsame_step (k : Int) (a v : ByteArray) (ss ss' : List ByteArray) (ks : List Fil) (ih : ∀ f ∈ ks, SaidRSame f) (ks' : List Fil) (S S' A A' : Option Addr) (sc sc' c c' : Nat) (ds ds' : Nat → List Value) (w : World)
  (hs : StrsAt w (· < w.heap.size) S ss) (hs' : StrsAt w (· < w.heap.size) S' ss') (hsl : ss.length ≤ maxLen)
  (hK : KidsAt w (· < w.heap.size) A ks ds) (hK' : KidsAt w (· < w.heap.size) A' ks' ds') (hl : ks.length ≤ maxLen) (hse : ss.length = ss'.length) (hke : ks.length = ks'.length) :
  Calls Tryz.prog 42 #[.agg #[.int .i64 k, .string a, .string v, .slice S ss.length sc, .slice A ks.length c], .agg #[.int .i64 k, .string a, .string v, .slice S' ss.length sc', .slice A' ks.length c']] w
   fun r w'=>r = .returned (.bool (decide (ss = ss') && eqFs ks ks')) ∧ Below w.heap.size w w':=by
 unfold maxLen at hl hsl
 have Ih:=Lib.hid ih
 have HSE:=Lib.hid hse
 have HKE:=Lib.hid hke
 have HS:=Lib.hid hs
 have HS':=Lib.hid hs'
 have hb0 : Below w.heap.size w ((w.alloc (.cells #[.int .i64 k, .string a, .string v, .slice S ss.length sc, .slice A ks.length c] 25)).alloc (.cells #[.int .i64 k, .string a, .string v, .slice S' ss.length sc', .slice A' ks.length c'] 25)) :=
  ((Below.refl _ _).alloc (Nat.le_refl _) _).alloc (by simp) _
 have B0 : Blk ((w.alloc (.cells #[.int .i64 k, .string a, .string v, .slice S ss.length sc, .slice A ks.length c] 25)).alloc (.cells #[.int .i64 k, .string a, .string v, .slice S' ss.length sc', .slice A' ks.length c'] 25)) w.heap.size 25 #[.int .i64 k, .string a, .string v, .slice S ss.length sc, .slice A ks.length c] :=
  (Blk.new w 25 #[.int .i64 k, .string a, .string v, .slice S ss.length sc, .slice A ks.length c]).alloc _
 have B1 : Blk ((w.alloc (.cells #[.int .i64 k, .string a, .string v, .slice S ss.length sc, .slice A ks.length c] 25)).alloc (.cells #[.int .i64 k, .string a, .string v, .slice S' ss.length sc', .slice A' ks.length c'] 25)) (w.heap.size + 1) 25 #[.int .i64 k, .string a, .string v, .slice S' ss.length sc', .slice A' ks.length c']:=by
  have:=Blk.new (w.alloc (.cells #[.int .i64 k, .string a, .string v, .slice S ss.length sc, .slice A ks.length c] 25)) 25 #[.int .i64 k, .string a, .string v, .slice S' ss.length sc', .slice A' ks.length c']
  simpa using this
 have HB0:=Lib.hid B0
 have HB1:=Lib.hid B1
 have Hb0:=Lib.hid hb0
 clear ih hse hke hs hs' B0 B1 hb0
 go_enter Tryz.func42, Tryz.ntmps42
 go_wp2_with fail
 go_loopw [5] (fun i wr=>∃ q : Nat, q ≤ ss.length ∧ i = .int .i64 q ∧ Hid (decide (ss = ss') = decide (ss.drop q = ss'.drop q)) ∧ Blk wr w.heap.size 25 #[.int .i64 k, .string a, .string v, .slice S ss.length sc, .slice A ks.length c] ∧ Blk wr (w.heap.size + 1) 25 #[.int .i64 k, .string a, .string v, .slice S' ss.length sc', .slice A' ks.length c'] ∧ Below w.heap.size w wr) (fun i wr=>ss.length - (intOf i).toNat)
 case atStart=>exact ⟨0, Nat.zero_le _, rfl, rfl, HB0.out, HB1.out, Hb0.out⟩
 case round =>
  obtain ⟨q, hq, rfl, hE, B, B', hb⟩:=hrel
  have b3 : wr.cell? ⟨w.heap.size, 3, none⟩ = some (.slice S ss.length sc):=B.cell 3
  have b3' : wr.cell? ⟨w.heap.size + 1, 3, none⟩ = some (.slice S' ss.length sc'):=B'.cell 3
  by_cases hlt : q < ss.length
  ·obtain ⟨b, o, rfl, hp, hc⟩:=HS.out.row' (by omega)
   obtain ⟨b', o', rfl, hp', hc'⟩:=HS'.out.row' (by have:=HSE.out; omega)
   have f0:=bat hb hp (hc q hlt)
   have f0':=bat hb hp' (hc' q (by have:=HSE.out; omega))
   have hE2:=hE.out
   rw [eq_drop hlt (by have:=HSE.out; omega)] at hE2
   generalize ss[q] = s at f0 hE2
   generalize ss'[q]'(by have:=HSE.out; omega) = s' at f0' hE2
   have HE:=Lib.hid hE2
   clear hE hE2 hc hc'
   by_cases hss : s = s'
   ·have h5 : (s.toList == s'.toList) = true:=by rw [toList_eq, decide_eq_true hss]
    have h6 : (s.toList != s'.toList) = false:=by unfold bne; rw [h5]; rfl
    have HF:=Lib.hid (show decide (s = s') = true by rw [decide_eq_true hss])
    clear hss
    go_wp2_with fail
    go_region
    all_goals
     go_wp2_with fail
     refine ⟨⟨q + 1, by omega, by go_num, by show _ = _; rw [HE.out, HF.out]; rfl, B, B', hb.drew⟩, by simp [intOf]; omega⟩
   ·have h5 : (s.toList == s'.toList) = false:=by rw [toList_eq, decide_eq_false hss]
    have h6 : (s.toList != s'.toList) = true:=by unfold bne; rw [h5]; rfl
    have HF:=Lib.hid (show decide (s = s') = false by rw [decide_eq_false hss])
    clear hss
    go_wp2_with fail
    go_region
    all_goals
     go_wp2_with fail
     go_ret
     refine ⟨ret_bool ?_, hb.drew⟩
     rw [HE.out, HF.out]; rfl
  ·have hE2:=hE.out
   rw [List.drop_eq_nil_of_le (by omega), List.drop_eq_nil_of_le (by have:=HSE.out; omega), decide_eq_true rfl] at hE2
   have HQ : Hid ((decide (ss = ss') && eqFs ks ks') = eqFs ks ks'):=by show _ = _; rw [hE2]; rfl
   clear hE hE2
   go_wp2_with fail
   go_loopw [6] (fun i wr=>∃ q : Nat, q ≤ ks.length ∧ i = .int .i64 q ∧ Hid ((decide (ss = ss') && eqFs ks ks') = eqFs (ks.drop q) (ks'.drop q)) ∧ Blk wr w.heap.size 25 #[.int .i64 k, .string a, .string v, .slice S ss.length sc, .slice A ks.length c] ∧ Blk wr (w.heap.size + 1) 25 #[.int .i64 k, .string a, .string v, .slice S' ss.length sc', .slice A' ks.length c'] ∧ Below w.heap.size w wr) (fun i wr=>ks.length - (intOf i).toNat)
   case atStart=>exact ⟨0, Nat.zero_le _, rfl, HQ, B, B', hb⟩
   case round =>
    clear b3 b3' B B' hb HQ hlt hq
    obtain ⟨q, hq, rfl, hE, B, B', hb⟩:=hrel
    have BB:=B'
    have hs:=hb.size
    have hblt:=B.lt
    have hblt':=B'.lt
    have b4 : wr.cell? ⟨w.heap.size, 4, none⟩ = some (.slice A ks.length c):=B.cell 4
    have b4' : wr.cell? ⟨w.heap.size + 1, 4, none⟩ = some (.slice A' ks.length c'):=B'.cell 4
    by_cases hlt : q < ks.length
    ·obtain ⟨ad, k', a', v', T', m', d', Q, n', e', rfl, hp, f0, f1, f2, f3, f4, hL⟩:=hK.kid hb hlt
     obtain ⟨ad2, k2, a2, v2, S2, m2, d2, B2, n2, e2, rfl, hp2, g0, g1, g2, g3, g4, hL2⟩:=hK'.kid hb (i:=q) (by have:=HKE.out; omega)
     have hE2:=hE.out
     rw [eqFs_drop hlt (by have:=HKE.out; omega)] at hE2
     have H:=Ih.out _ (List.getElem_mem hlt) _ _ _ _ _ _ _ _ _ _ _ _ hL.drew hL2.drew
     generalize eqF ks[q] (ks'[q]'(by have:=HKE.out; omega)) = t at hE2 H
     have HE:=Lib.hid hE2
     have HH:=Lib.hid H
     clear hE hE2 H hL hL2
     have q1 : (ad.add (q * 5)).block < wr.heap.size:=by rw [block_of_add]; omega
     have q2 : (ad2.add (q * 5)).block < wr.heap.size:=by rw [block_of_add]; omega
     cases t with
     | false =>
      go_wp2_with fail
      go_region_held3 (fun w'=>w'.cell? (ad.add (q * 5)) = some (.int .i64 k') ∧ w'.cell? ⟨(ad.add (q * 5)).block, (ad.add (q * 5)).off + 1, none⟩ = some (.string a') ∧ w'.cell? ⟨(ad.add (q * 5)).block, (ad.add (q * 5)).off + 2, none⟩ = some (.string v') ∧ w'.cell? ⟨(ad.add (q * 5)).block, (ad.add (q * 5)).off + 3, none⟩ = some (.slice T' m' d') ∧ w'.cell? ⟨(ad.add (q * 5)).block, (ad.add (q * 5)).off + 4, none⟩ = some (.slice Q n' e') ∧
       w'.cell? (ad2.add (q * 5)) = some (.int .i64 k2) ∧ w'.cell? ⟨(ad2.add (q * 5)).block, (ad2.add (q * 5)).off + 1, none⟩ = some (.string a2) ∧ w'.cell? ⟨(ad2.add (q * 5)).block, (ad2.add (q * 5)).off + 2, none⟩ = some (.string v2) ∧ w'.cell? ⟨(ad2.add (q * 5)).block, (ad2.add (q * 5)).off + 3, none⟩ = some (.slice S2 m2 d2) ∧ w'.cell? ⟨(ad2.add (q * 5)).block, (ad2.add (q * 5)).off + 4, none⟩ = some (.slice B2 n2 e2) ∧
       w'.cell? ⟨w.heap.size, 4, none⟩ = some (.slice (some ad) ks.length c) ∧ w'.cell? ⟨w.heap.size + 1, 4, none⟩ = some (.slice (some ad2) ks.length c')) (first | go_keep | exact ⟨batA hb2 q1 f0, bat hb2 q1 f1, bat hb2 q1 f2, bat hb2 q1 f3, bat hb2 q1 f4, batA hb2 q2 g0, bat hb2 q2 g1, bat hb2 q2 g2, bat hb2 q2 g3, bat hb2 q2 g4, bat hb2 (by show w.heap.size < wr.heap.size; omega) b4, bat hb2 (by show w.heap.size + 1 < wr.heap.size; omega) b4'⟩) (first | (go_at_call 42; refine HH.out.mono ?_; rintro e w1 ⟨rfl, hb2⟩))
      go_wp2_with fail
      have hb3:=hb.trans (Below.mono (B':=w.heap.size) ((Below.refl _ _).drew.trans hb2) (by show w.heap.size ≤ wr.heap.size; omega))
      go_ret
      refine ⟨ret_bool ?_, hb3⟩
      rw [HE.out]; rfl
     | true =>
      go_wp2_with fail
      go_region_held3 (fun w'=>w'.cell? (ad.add (q * 5)) = some (.int .i64 k') ∧ w'.cell? ⟨(ad.add (q * 5)).block, (ad.add (q * 5)).off + 1, none⟩ = some (.string a') ∧ w'.cell? ⟨(ad.add (q * 5)).block, (ad.add (q * 5)).off + 2, none⟩ = some (.string v') ∧ w'.cell? ⟨(ad.add (q * 5)).block, (ad.add (q * 5)).off + 3, none⟩ = some (.slice T' m' d') ∧ w'.cell? ⟨(ad.add (q * 5)).block, (ad.add (q * 5)).off + 4, none⟩ = some (.slice Q n' e') ∧
       w'.cell? (ad2.add (q * 5)) = some (.int .i64 k2) ∧ w'.cell? ⟨(ad2.add (q * 5)).block, (ad2.add (q * 5)).off + 1, none⟩ = some (.string a2) ∧ w'.cell? ⟨(ad2.add (q * 5)).block, (ad2.add (q * 5)).off + 2, none⟩ = some (.string v2) ∧ w'.cell? ⟨(ad2.add (q * 5)).block, (ad2.add (q * 5)).off + 3, none⟩ = some (.slice S2 m2 d2) ∧ w'.cell? ⟨(ad2.add (q * 5)).block, (ad2.add (q * 5)).off + 4, none⟩ = some (.slice B2 n2 e2) ∧
       w'.cell? ⟨w.heap.size, 4, none⟩ = some (.slice (some ad) ks.length c) ∧ w'.cell? ⟨w.heap.size + 1, 4, none⟩ = some (.slice (some ad2) ks.length c')) (first | go_keep | exact ⟨batA hb2 q1 f0, bat hb2 q1 f1, bat hb2 q1 f2, bat hb2 q1 f3, bat hb2 q1 f4, batA hb2 q2 g0, bat hb2 q2 g1, bat hb2 q2 g2, bat hb2 q2 g3, bat hb2 q2 g4, bat hb2 (by show w.heap.size < wr.heap.size; omega) b4, bat hb2 (by show w.heap.size + 1 < wr.heap.size; omega) b4'⟩) (first | (go_at_call 42; refine HH.out.mono ?_; rintro e w1 ⟨rfl, hb2⟩))
      go_wp2_with fail
      have hb3:=hb.trans (Below.mono (B':=w.heap.size) ((Below.refl _ _).drew.trans hb2) (by show w.heap.size ≤ wr.heap.size; omega))
      have C:=B.drew.past hb2
      have C':=Blk.past (Blk.drew BB) hb2
      go_roundw
      case rel=>exact ⟨q + 1, by omega, by go_num, HE.out, C, C', hb3⟩
      case measure=>simp [intOf]; omega
    ·have hE2:=hE.out
     rw [List.drop_eq_nil_of_le (by omega), List.drop_eq_nil_of_le (by have:=HKE.out; omega), eqFs] at hE2
     have HE:=Lib.hid hE2
     clear hE hE2
     go_wp2_with fail
     go_ret
     exact ⟨ret_bool HE.out.symm, hb⟩
set_option maxHeartbeats 4000000 in
theorem rsame_any (f : Fil) : SaidRSame f:=by
 refine ind ?_ f
 intro k a v ss ks ih g x0 x1 x2 x3 x4 y0 y1 y2 y3 y4 w hL hL'
 obtain ⟨k', a', v', ss', ks'⟩:=g
 obtain ⟨S, sc, A, c, ds, hcs, ha, hv, hsl, hsc, hs, hss, hl, hcl, hK⟩:=hL.open_
 obtain ⟨S', sc', A', c', ds', hcs', ha', hv', hsl', hsc', hs', hss', hl', hcl', hK'⟩:=hL'.open_
 simp only [List.cons.injEq, and_true] at hcs hcs'
 obtain ⟨rfl, rfl, rfl, rfl, rfl⟩:=hcs
 obtain ⟨rfl, rfl, rfl, rfl, rfl⟩:=hcs'
 have hr:=eqF_bool k k' a a' v v' ss ss' ks ks'
 have hb0 : Below w.heap.size w ((w.alloc (.cells #[.int .i64 k, .string a, .string v, .slice S ss.length sc, .slice A ks.length c] 25)).alloc (.cells #[.int .i64 k', .string a', .string v', .slice S' ss'.length sc', .slice A' ks'.length c'] 25)) :=
  ((Below.refl _ _).alloc (Nat.le_refl _) _).alloc (by simp) _
 by_cases hall : k = k' ∧ a = a' ∧ v = v' ∧ ss.length = ss'.length ∧ ks.length = ks'.length
 ·obtain ⟨rfl, rfl, rfl, h4, h5⟩:=hall
  have:=rsame_step k a v ss ss' ks ih ks' S S' A A' sc sc' c c' ds ds' w hs hs' hsl hK hK' hl h4 h5
  rw [← h4, ← h5]
  refine this.mono ?_
  rintro r w' ⟨rfl, h⟩
  refine ⟨ret_bool ?_, h⟩
  rw [hr, decide_eq_true (p:=k = k) rfl, decide_eq_true (p:=a = a) rfl, decide_eq_true (p:=v = v) rfl]; simp
 ·have HR:=Lib.hid (show eqF (.mk k a v ss ks) (.mk k' a' v' ss' ks') = false by
   rw [hr]
   cases h : (decide (k = k') && (decide (a = a') && (decide (v = v') && (decide (ss = ss') && eqFs ks ks')))) with
   | false=>rfl
   | true =>
    exfalso
    simp only [Bool.and_eq_true, decide_eq_true_eq] at h
    refine hall ⟨h.1, h.2.1, h.2.2.1, by rw [h.2.2.2.1], ?_⟩
    apply Classical.byContradiction
    intro hne
    rw [eqFs_len hne] at h
    exact absurd h.2.2.2.2 (by simp))
  have hcases : (k != k') = true ∨ (k != k') = false ∧ (a.toList == a'.toList) = false ∨ (k != k') = false ∧ (a.toList == a'.toList) = true ∧ (v.toList == v'.toList) = false ∨
    (k != k') = false ∧ (a.toList == a'.toList) = true ∧ (v.toList == v'.toList) = true ∧ ((ss.length : Int) != ss'.length) = true ∨
    (k != k') = false ∧ (a.toList == a'.toList) = true ∧ (v.toList == v'.toList) = true ∧ ((ss.length : Int) != ss'.length) = false ∧ ((ks.length : Int) != ks'.length) = true:=by
   unfold bne
   rw [toList_eq, toList_eq]
   by_cases h1 : k = k'
   ·by_cases h2 : a = a'
    ·by_cases h3 : v = v'
     ·by_cases h4 : ss.length = ss'.length
      ·have h5 : ks.length ≠ ks'.length:=fun h=>hall ⟨h1, h2, h3, h4, h⟩
       have e4 : ((ss.length : Int) == ss'.length) = true:=by rw [beq_iff_eq]; omega
       have e5 : ((ks.length : Int) == ks'.length) = false:=by rw [beq_eq_false_iff_ne]; omega
       simp [h1, h2, h3, e4, e5]
      ·have e4 : ((ss.length : Int) == ss'.length) = false:=by rw [beq_eq_false_iff_ne]; omega
       simp [h1, h2, h3, e4]
     ·simp [h1, h2, h3]
    ·simp [h1, h2]
   ·simp [h1]
  clear hr ih hL hL' hall hs hs' hss hss' hK hK'
  rcases hcases with h1 | ⟨h1, h2⟩ | ⟨h1, h2, h3⟩ | ⟨h1, h2, h3, h4⟩ | ⟨h1, h2, h3, h4, h5⟩
  all_goals
   go_enter Tryz.func42, Tryz.ntmps42
   go_wp2_with fail
   go_ret
   exact ⟨ret_bool HR.out.symm, hb0⟩
end Go.Proofs.YtconghaebebncaaGreatDoor.Fi
namespace Go.Proofs.YtconghaebebncaaGreatDoor.Pl
open Go.RowKit
section
variable {P : Program} {ops : Array Oper} {Q : Exit → Act → World → Prop} {a : Act} {w : World} {o : Oper} {rest : List Oper}
theorem take (v : Value) (hw : Region.wanted o (yielded ops a.tmps) = true) (hrun : (execOp a.eval o).run P w = .ok (.value v) w) (h : wpList P ops Q rest (a.put o.dst v) w) : wpList P ops Q (o :: rest) a w :=
 BigFrame.wpList_want hw fun K hK=>by
  unfold Oper.wp
  rw [hrun, Oper.upon_value]
  exact hK _ _ h
theorem run (v : Value) (w' : World) (hw : Region.wanted o (yielded ops a.tmps) = true) (hrun : (execOp a.eval o).run P w = .ok (.value v) w') (h : wpList P ops Q rest (a.put o.dst v) w') : wpList P ops Q (o :: rest) a w :=
 BigFrame.wpList_want hw fun K hK=>by
  unfold Oper.wp
  rw [hrun, Oper.upon_value]
  exact hK _ _ h
theorem skip (w' : World) (hw : Region.wanted o (yielded ops a.tmps) = true) (hrun : (execOp a.eval o).run P w = .ok .skip w') (h : wpList P ops Q rest (a.put o.dst undef) w') : wpList P ops Q (o :: rest) a w :=
 BigFrame.wpList_want hw fun K hK=>by
  unfold Oper.wp
  rw [hrun, Oper.upon_skip]
  exact hK _ _ h
theorem call (hw : Region.wanted o (yielded ops a.tmps) = true) (f : FuncId) (args : Array Value) (hrun : (execOp a.eval o).run P w = .ok (.enter f args) w) {R : Ending → World → Prop} (hc : Calls P f args w R)
  (h : ∀ e w', R e w' → ∃ v, e = .returned v ∧ wpList P ops Q rest (a.put o.dst v) w') : wpList P ops Q (o :: rest) a w :=
 BigFrame.wpList_want hw fun K hK=>by
  unfold Oper.wp
  rw [hrun, Oper.upon_enter]
  refine hc.mono fun e w' hR=>?_
  obtain ⟨v, rfl, hW⟩:=h e w' hR
  exact hK _ _ hW
theorem frame {l : List Oper} (a' : Act) (ha : a = a') (h : wpList P ops Q l a' w) : wpList P ops Q l a w:=ha ▸ h
theorem done (h : Q .normal a w) : wpList P ops Q [] a w:=h
def idleOps (ops : Array Oper) : List Oper → Act → Option Act
 | [], a=>some a
 | o :: l, a=>match Rg.idleOne ops o a with
  | some a'=>idleOps ops l a'
  | none=>none
theorem idle : ∀ (n : Nat) (l : List Oper) (a a' : Act), idleOps ops (l.take n) a = some a' → wpList P ops Q (l.drop n) a' w → wpList P ops Q l a w
 | 0, l, a, a', h, hK=>by
  obtain rfl:=Option.some.inj h
  exact hK
 | n + 1, [], a, a', h, hK=>by
  obtain rfl:=Option.some.inj h
  exact hK
 | n + 1, o :: l, a, a', h, hK=>by
  rw [List.take_succ_cons, idleOps] at h
  split at h
  ·rename_i a1 h1
   have hrest:=idle n l a1 a' h (by simpa using hK)
   obtain ⟨v, rfl, hy⟩:=Rg.idleOne_yields (P:=P) (S:=fun w'=>w' = w) h1
   rcases hy with ⟨hw, hy⟩ | ⟨hw, rfl⟩
   ·exact take v hw (hy w rfl) hrest
   ·exact wpList_skip (by simpa using hw) hrest
  ·cases h
theorem idle1 {o1 : Oper} {l : List Oper} {a : Act} (a' : Act) (h : idleOps ops [o1] a = some a') (hK : wpList P ops Q l a' w) : wpList P ops Q (o1 :: l) a w:=idle 1 (o1 :: l) a a' h hK
theorem idle2 {o1 o2 : Oper} {l : List Oper} {a : Act} (a' : Act) (h : idleOps ops [o1, o2] a = some a') (hK : wpList P ops Q l a' w) : wpList P ops Q (o1 :: o2 :: l) a w:=idle 2 (o1 :: o2 :: l) a a' h hK
theorem rests {l : List Oper} (a' : Act) (h : idleOps ops l a = some a') (hK : Q .normal a' w) : wpList P ops Q l a w :=
 idle l.length l a a' (by rw [List.take_length]; exact h) (by rw [List.drop_length]; exact hK)
end
theorem run_index {P : Program} {w : World} {ev : Operand → Value} {o : Oper} {x y : Operand} {t elem : TypeId} {ad : Addr} {n c q k : Nat} {i : TypeInfo} (hu : P.underlying t = some (.slice elem)) (hi : P.info? elem = some i) (hk : i.size = k)
  (ho : o.op = .indexAddr t x y) (hx : ev x = .slice (some ad) n c) (hy : ev y = .int .i64 q) (h : q < n) : (execOp ev o).run P w = .ok (.value (.pointer (some (ad.add (q * k))))) w:=by
 unfold execOp
 have h1 : (0 : Int) ≤ (q : Int) ∧ (q : Int) < (n : Int):=by omega
 simp [ho, hx, hy, Instr.indexAt, asIntOf, underlying, hu, sizeOf, typeInfo, hi, hk, h1, h, Result.andThen]
end Go.Proofs.YtconghaebebncaaGreatDoor.Pl
namespace Go.Proofs.YtconghaebebncaaGreatDoor.Ms
open Go.RowKit
set_option maxHeartbeats 4000000 in
theorem ralike_any (l l' : List ByteArray) (A A' : Option Addr) (c c' : Nat) (w : World) (hA : Fi.StrsAt w (· < w.heap.size) A l) (hA' : Fi.StrsAt w (· < w.heap.size) A' l') (hl : l.length ≤ maxLen) :
  Calls Tryz.prog 43 #[.slice A l.length c, .slice A' l'.length c'] w fun r w'=>r = .returned (.bool (decide (l = l'))) ∧ Below w.heap.size w w':=by
 unfold maxLen at hl
 by_cases hn : l.length = l'.length
 ·have HN:=Lib.hid hn
  have HS:=Lib.hid hA
  have HS':=Lib.hid hA'
  rw [← hn]
  clear hn hA hA'
  go_enter Tryz.func43, Tryz.ntmps43
  go_wp2_with fail
  go_loopw [5] (fun i wr=>∃ q : Nat, q ≤ l.length ∧ i = .int .i64 q ∧ Hid (decide (l = l') = decide (l.drop q = l'.drop q)) ∧ Below w.heap.size w wr) (fun i wr=>l.length - (intOf i).toNat)
  case atStart=>exact ⟨0, Nat.zero_le _, rfl, rfl, Below.refl _ _⟩
  case round =>
   obtain ⟨q, hq, rfl, hE, hb⟩:=hrel
   by_cases hlt : q < l.length
   ·obtain ⟨b, o, rfl, hp, hc⟩:=HS.out.row' (by omega)
    obtain ⟨b', o', rfl, hp', hc'⟩:=HS'.out.row' (by have:=HN.out; omega)
    have f0:=bat hb hp (hc q hlt)
    have f0':=bat hb hp' (hc' q (by have:=HN.out; omega))
    have hE2:=hE.out
    rw [Fi.eq_drop hlt (by have:=HN.out; omega)] at hE2
    generalize l[q] = s at f0 hE2
    generalize l'[q]'(by have:=HN.out; omega) = s' at f0' hE2
    have HE:=Lib.hid hE2
    clear hE hE2 hc hc'
    by_cases hss : s = s'
    ·have h5 : (s.toList == s'.toList) = true:=by rw [Fi.toList_eq, decide_eq_true hss]
     have h6 : (s.toList != s'.toList) = false:=by unfold bne; rw [h5]; rfl
     have HF:=Lib.hid (show decide (s = s') = true by rw [decide_eq_true hss])
     clear hss
     go_wp2_with fail
     go_region
     all_goals
      go_wp2_with fail
      refine ⟨⟨q + 1, by omega, by go_num, by show _ = _; rw [HE.out, HF.out]; rfl, hb.drew⟩, by simp [intOf]; omega⟩
    ·have h5 : (s.toList == s'.toList) = false:=by rw [Fi.toList_eq, decide_eq_false hss]
     have h6 : (s.toList != s'.toList) = true:=by unfold bne; rw [h5]; rfl
     have HF:=Lib.hid (show decide (s = s') = false by rw [decide_eq_false hss])
     clear hss
     go_wp2_with fail
     go_region
     all_goals
      go_wp2_with fail
      go_ret
      refine ⟨ret_bool ?_, hb.drew⟩
      rw [HE.out, HF.out]; rfl
   ·have hE2:=hE.out
    rw [List.drop_eq_nil_of_le (by omega), List.drop_eq_nil_of_le (by have:=HN.out; omega), decide_eq_true rfl] at hE2
    have HE:=Lib.hid hE2
    clear hE hE2
    go_wp2_with fail
    go_ret
    exact ⟨ret_bool HE.out.symm, hb⟩
 ·have hr:=Lib.hid (show decide (l = l') = false by rw [decide_eq_false]; rintro rfl; exact hn rfl)
  have h1 : ((l.length : Int) != l'.length) = true:=by rw [bne_iff_ne]; omega
  clear hn hA hA'
  go_enter Tryz.func43, Tryz.ntmps43
  go_wp2_with fail
  go_ret
  exact ⟨ret_bool hr.out.symm, Below.refl _ _⟩
end Go.Proofs.YtconghaebebncaaGreatDoor.Ms
