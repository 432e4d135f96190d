import Derived.OrdersHeld
import Derived.Deep.RegionHeld
import Derived.Test.YtbdpkfgllnbheaaGreatDoorZQ10
import Derived.Test.YtbdpkfgllnbheaaGreatDoorZQ14
import Derived.BigFrame
set_option linter.unusedVariables false
set_option maxRecDepth 100000
namespace Go.Proofs.YtbdpkfgllnbheaaGreatDoor.Ms
end Go.Proofs.YtbdpkfgllnbheaaGreatDoor.Ms
namespace Go.Proofs.YtbdpkfgllnbheaaGreatDoor.Rg
open Go.RowKit
section
variable {P : Program} {ops : Array Oper} {Q : Exit → Act → World → Prop} {md : Region.Mode} {S : World → Prop} {fuel : Nat} {l : Array Bool} {a : Act} {w : World}
theorem take (i : Nat) {o : Oper} (v : Value) (hi : ops[i]? = some o) (hs : Region.noSelect ops = true) (hf : Region.free md ops l i = true) (hr : (Region.ready md ops l).contains i = true)
  (hQ : ∀ c a w, Q (.panic c) (a.put o.dst v) w → Q (.panic c) a w) (hw : Region.wanted o (yielded ops a.tmps) = true) (hy : ∀ w, S w → (execOp a.eval o).run P w = .ok (.value v) w) (hS : S w)
  (h : wpAnyH P md ops Q S fuel (l.setIfInBounds i true) (a.put o.dst v) w) : wpAnyH P md ops Q S (fuel + 1) l a w :=
 wpAnyH_take hi hs hf hr hQ (.inl ⟨hw, hy⟩) hS h
theorem frame (a' : Act) (ha : a = a') (h : wpAnyH P md ops Q S fuel l a' w) : wpAnyH P md ops Q S fuel l a w:=ha ▸ h
theorem call (i : Nat) {o : Oper} (hi : ops[i]? = some o) (hr : Region.ready md ops l = [i]) (hw : Region.wanted o (yielded ops a.tmps) = true) (f : FuncId) (args : Array Value)
  (hrun : (execOp a.eval o).run P w = .ok (.enter f args) w) {R : Ending → World → Prop} (hc : Calls P f args w R)
  (h : ∀ e w', R e w' → ∃ v, e = .returned v ∧ S w' ∧ wpAnyH P md ops Q S fuel (l.setIfInBounds i true) (a.put o.dst v) w') : wpAnyH P md ops Q S (fuel + 1) l a w :=
 wpAnyH_all hr (by simp) (fun j hj=>by
  obtain rfl:=List.mem_singleton.1 hj
  refine wpOp_step hi (fun K hK=>?_)
  rw [if_pos hw]
  unfold Oper.wp
  rw [hrun, Oper.upon_enter]
  refine hc.mono fun e w' hR=>?_
  obtain ⟨v, rfl, hS, hW⟩:=h e w' hR
  exact hK _ _ ⟨hS, hW⟩)
theorem run (i : Nat) {o : Oper} (hi : ops[i]? = some o) (hr : Region.ready md ops l = [i]) (hw : Region.wanted o (yielded ops a.tmps) = true) (v : Value) (w' : World)
  (hrun : (execOp a.eval o).run P w = .ok (.value v) w') (hS : S w') (h : wpAnyH P md ops Q S fuel (l.setIfInBounds i true) (a.put o.dst v) w') : wpAnyH P md ops Q S (fuel + 1) l a w :=
 wpAnyH_all hr (by simp) (fun j hj=>by
  obtain rfl:=List.mem_singleton.1 hj
  refine wpOp_step hi (fun K hK=>?_)
  rw [if_pos hw]
  unfold Oper.wp
  rw [hrun, Oper.upon_value]
  exact hK _ _ ⟨hS, h⟩)
theorem skip (i : Nat) {o : Oper} (hi : ops[i]? = some o) (hr : Region.ready md ops l = [i]) (hw : Region.wanted o (yielded ops a.tmps) = true) (w' : World)
  (hrun : (execOp a.eval o).run P w = .ok .skip w') (hS : S w') (h : wpAnyH P md ops Q S fuel (l.setIfInBounds i true) (a.put o.dst undef) w') : wpAnyH P md ops Q S (fuel + 1) l a w :=
 wpAnyH_all hr (by simp) (fun j hj=>by
  obtain rfl:=List.mem_singleton.1 hj
  refine wpOp_step hi (fun K hK=>?_)
  rw [if_pos hw]
  unfold Oper.wp
  rw [hrun, Oper.upon_skip]
  exact hK _ _ ⟨hS, h⟩)
def idleOne (ops : Array Oper) (o : Oper) (a : Act) : Option Act :=
 if Region.wanted o (yielded ops a.tmps) = true then
  match o.op with
  | .move x | .assign x=>some (a.put o.dst (a.eval x))
  | .pick c x y=>match a.eval c with
   | .bool true=>some (a.put o.dst (a.eval x))
   | .bool false=>some (a.put o.dst (a.eval y))
   | _=>none
  | _=>none
 else some (a.put o.dst undef)
def idleRun (ops : Array Oper) : List Nat → Act → Option Act
 | [], a=>some a
 | i :: is, a=>match ops[i]? with
  | some o=>(match idleOne ops o a with
   | some a'=>idleRun ops is a'
   | none=>none)
  | none=>none
def freeRun (md : Region.Mode) (ops : Array Oper) : List Nat → Array Bool → Bool
 | [], _=>true
 | i :: is, l=>Region.free md ops l i && ((Region.ready md ops l).contains i && freeRun md ops is (l.setIfInBounds i true))
def markRun : List Nat → Array Bool → Array Bool
 | [], l=>l
 | i :: is, l=>markRun is (l.setIfInBounds i true)
theorem idleOne_yields {o : Oper} {a' : Act} (h : idleOne ops o a = some a') : ∃ v, a' = a.put o.dst v ∧ YieldsIf P ops S o v a:=by
 unfold idleOne at h
 split at h
 ·rename_i hw
  split at h
  ·rename_i x hx
   exact ⟨_, (Option.some.inj h).symm, .inl ⟨hw, fun w _=>by unfold execOp; rw [hx]; rfl⟩⟩
  ·rename_i x hx
   exact ⟨_, (Option.some.inj h).symm, .inl ⟨hw, fun w _=>by unfold execOp; rw [hx]; rfl⟩⟩
  ·rename_i c x y hx
   split at h
   ·rename_i hc
    exact ⟨_, (Option.some.inj h).symm, .inl ⟨hw, fun w _=>by unfold execOp; rw [hx]; simp only [hc]; rfl⟩⟩
   ·rename_i hc
    exact ⟨_, (Option.some.inj h).symm, .inl ⟨hw, fun w _=>by unfold execOp; rw [hx]; simp only [hc]; rfl⟩⟩
   ·cases h
  ·cases h
 ·rename_i hw
  exact ⟨_, (Option.some.inj h).symm, .inr ⟨by simpa using hw, rfl⟩⟩
theorem idle (hs : Region.noSelect ops = true) (hQ : ∀ c a d v w, Q (.panic c) (a.put d v) w → Q (.panic c) a w) :
  ∀ (is : List Nat) (l : Array Bool) (a a' : Act) (fuel : Nat), freeRun md ops is l = true → idleRun ops is a = some a' → S w → wpAnyH P md ops Q S fuel (markRun is l) a' w → wpAnyH P md ops Q S (fuel + is.length) l a w
 | [], l, a, a', fuel, _, h, _, hK=>by
  obtain rfl:=Option.some.inj h
  exact hK
 | i :: is, l, a, a', fuel, hf, h, hS, hK=>by
  rw [idleRun] at h
  split at h
  ·rename_i o ho
   split at h
   ·rename_i a1 h1
    rw [freeRun, Bool.and_eq_true, Bool.and_eq_true] at hf
    obtain ⟨v, rfl, hy⟩:=idleOne_yields (P:=P) (S:=S) h1
    rw [List.length_cons, ← Nat.add_assoc]
    exact wpAnyH_take ho hs hf.1 hf.2.1 (fun c a w=>hQ c a _ _ w) hy hS (idle hs hQ is _ _ a' fuel hf.2.2 h hS hK)
   ·cases h
  ·cases h
end
def chk (md : Region.Mode) (ops : Array Oper) (l : Array Bool) (t : Array Value) (i : Nat) (d : Option Nat) : Bool :=
 match ops[i]? with
 | some o=>Region.noSelect ops && (Region.free md ops l i && ((Region.ready md ops l).contains i && (Region.wanted o (yielded ops t) && o.dst == d)))
 | none=>false
def chk1 (md : Region.Mode) (ops : Array Oper) (l : Array Bool) (t : Array Value) (i : Nat) (d : Option Nat) : Bool :=
 match ops[i]? with
 | some o=>decide (Region.ready md ops l = [i]) && (Region.wanted o (yielded ops t) && o.dst == d)
 | none=>false
theorem pu (l : List Value) (ds : List Deferred) (i : Nat) (v : Value) : Act.put ⟨l.toArray, ds⟩ (some i) v = ⟨(l.set i v).toArray, ds⟩:=by
 simp [Act.put, List.setIfInBounds_toArray]
section
variable {P : Program} {ops : Array Oper} {Q : Exit → Act → World → Prop} {md : Region.Mode} {S : World → Prop} {fuel : Nat} {l : Array Bool} {a : Act} {w : World}
theorem tk (i d : Nat) {o : Oper} (v : Value) (hi : ops[i]? = some o) (hc : chk md ops l a.tmps i (some d) = true) (hQ : ∀ c a w, Q (.panic c) (a.put (some d) v) w → Q (.panic c) a w) (hy : ∀ w, S w → (execOp a.eval o).run P w = .ok (.value v) w) (hS : S w)
  (h : wpAnyH P md ops Q S fuel (l.setIfInBounds i true) (a.put (some d) v) w) : wpAnyH P md ops Q S (fuel + 1) l a w:=by
 simp only [chk, hi, Bool.and_eq_true, beq_iff_eq] at hc
 obtain ⟨h1, h2, h3, h4, h5⟩:=hc
 exact take i v hi h1 h2 h3 (by rw [h5]; exact hQ) h4 hy hS (by rw [h5]; exact h)
theorem cl (i d : Nat) {o : Oper} (hi : ops[i]? = some o) (hc : chk1 md ops l a.tmps i (some d) = true) (f : FuncId) (args : Array Value)
  (hrun : (execOp a.eval o).run P w = .ok (.enter f args) w) {R : Ending → World → Prop} (hC : Calls P f args w R)
  (h : ∀ e w', R e w' → ∃ v, e = .returned v ∧ S w' ∧ wpAnyH P md ops Q S fuel (l.setIfInBounds i true) (a.put (some d) v) w') : wpAnyH P md ops Q S (fuel + 1) l a w:=by
 simp only [chk1, hi, Bool.and_eq_true, decide_eq_true_eq, beq_iff_eq] at hc
 obtain ⟨h1, h2, h3⟩:=hc
 exact call i hi h1 h2 f args hrun hC (by rw [h3]; exact h)
theorem rn (i d : Nat) {o : Oper} (v : Value) (w' : World) (hi : ops[i]? = some o) (hc : chk1 md ops l a.tmps i (some d) = true)
  (hrun : (execOp a.eval o).run P w = .ok (.value v) w') (hS : S w') (h : wpAnyH P md ops Q S fuel (l.setIfInBounds i true) (a.put (some d) v) w') : wpAnyH P md ops Q S (fuel + 1) l a w:=by
 simp only [chk1, hi, Bool.and_eq_true, decide_eq_true_eq, beq_iff_eq] at hc
 obtain ⟨h1, h2, h3⟩:=hc
 exact run i hi h1 h2 v w' hrun hS (by rw [h3]; exact h)
theorem sk (i : Nat) {o : Oper} (w' : World) (hi : ops[i]? = some o) (hc : chk1 md ops l a.tmps i none = true)
  (hrun : (execOp a.eval o).run P w = .ok .skip w') (hS : S w') (h : wpAnyH P md ops Q S fuel (l.setIfInBounds i true) a w') : wpAnyH P md ops Q S (fuel + 1) l a w:=by
 simp only [chk1, hi, Bool.and_eq_true, decide_eq_true_eq, beq_iff_eq] at hc
 obtain ⟨h1, h2, h3⟩:=hc
 exact skip i hi h1 h2 w' hrun hS (by rw [h3]; exact h)
end
def puts (a : Act) : List (Nat × Value) → Act
 | []=>a
 | p :: l=>puts (a.put (some p.1) p.2) l
section
variable {P : Program} {ops : Array Oper} {Q : Exit → Act → World → Prop} {md : Region.Mode} {S : World → Prop} {l : Array Bool} {a : Act} {w : World}
theorem idleP (is : List Nat) (ps : List (Nat × Value)) (fuel : Nat) (hs : Region.noSelect ops = true) (hQ : ∀ c a d v w, Q (.panic c) (a.put d v) w → Q (.panic c) a w) (hf : freeRun md ops is l = true) (h : idleRun ops is a = some (puts a ps)) (hS : S w)
  (hK : wpAnyH P md ops Q S fuel (markRun is l) (puts a ps) w) : wpAnyH P md ops Q S (fuel + is.length) l a w:=idle hs hQ is l a _ fuel hf h hS hK
end
end Go.Proofs.YtbdpkfgllnbheaaGreatDoor.Rg
namespace Go.Proofs.YtbdpkfgllnbheaaGreatDoor.Ch
open Go.RowKit
theorem toList_eq (a b : ByteArray) : (a.toList == b.toList) = decide (a = b):=by
 rw [Bool.eq_iff_iff]
 simp only [beq_iff_eq, decide_eq_true_eq]
 constructor
 ·intro h
  have : a.data.toList = b.data.toList:=by simpa [ByteArray.toList_eq] using h
  cases a; cases b
  simp only [ByteArray.mk.injEq]
  simpa using this
 ·intro h; rw [h]
theorem StrsAt.row' {w : World} {P : Nat → Prop} {A : Option Addr} {ss : List ByteArray} (h : StrsAt w P A ss) (h0 : 0 < ss.length) : ∃ b o, A = some ⟨b, o, none⟩ ∧ P b ∧ ∀ i (h : i < ss.length), w.cell? ⟨b, o + i, none⟩ = some (.string ss[i]):=by
 obtain ⟨ad, e, hp, hc⟩:=h h0
 have h1:=hc 0 h0
 obtain ⟨b, o, sp⟩:=ad
 have hs : sp = none:=by
  unfold Addr.add at h1
  rw [if_pos rfl] at h1
  unfold World.cell? at h1
  split at h1
  ·cases sp with
   | none=>rfl
   | some x=>simp at h1
  ·cases h1
 subst hs
 refine ⟨b, o, e, hp, fun i hi=>?_⟩
 have:=hc i hi
 rwa [Addr.add_lit] at this
theorem drewN_below (B n : Nat) (w : World) : Below B w (w.drewN n):=⟨rfl, rfl, rfl, Nat.le_refl _, fun _ _=>rfl⟩
theorem eqS_any (ss ss' : List ByteArray) (S S' : Option Addr) (c c' : Nat) (w : World) (h : StrsAt w (· < w.heap.size) S ss) (h' : StrsAt w (· < w.heap.size) S' ss') (hl : ss.length ≤ maxLen) (hl' : ss'.length ≤ maxLen) :
  Calls Tryz.prog 64 #[.slice S ss.length c, .slice S' ss'.length c'] w fun e w'=>e = .returned (.bool (decide (ss = ss'))) ∧ Below w.heap.size w w':=by
 unfold maxLen at hl hl'
 by_cases hn : ss.length = ss'.length
 ·by_cases h0 : ss.length = 0
  ·rw [h0]
   refine (Tryz.slices_Equal_string_empty S S' c ss'.length c' w (by omega)).mono ?_
   rintro e w' ⟨rfl, rfl⟩
   refine ⟨ret_bool ?_, Below.refl _ _⟩
   rw [decide_eq_true (by omega), List.eq_nil_of_length_eq_zero h0, List.eq_nil_of_length_eq_zero (l:=ss') (by omega)]; rfl
  ·obtain ⟨b, o, rfl, hb, hc⟩:=h.row' (by omega)
   obtain ⟨b', o', rfl, hb', hc'⟩:=h'.row' (by omega)
   refine (Tryz.slices_Equal_string b o ss.length c b' o' ss'.length c' ss ss' w (Nat.le_refl _) (Nat.le_refl _) (by omega) (by omega) (fun j hj=>?_) (fun j hj=>?_)).mono ?_
   ·rw [hc j hj, List.getD_eq_getElem?_getD, List.getElem?_eq_getElem hj, Option.getD_some]
   ·rw [hc' j hj, List.getD_eq_getElem?_getD, List.getElem?_eq_getElem hj, Option.getD_some]
   ·rintro e w' ⟨rfl, q, rfl⟩
    exact ⟨by rw [List.take_length, List.take_length], drewN_below _ _ _⟩
 ·refine (Tryz.slices_Equal_string_lens S S' ss.length c ss'.length c' w hn).mono ?_
  rintro e w' ⟨rfl, rfl⟩
  exact ⟨ret_bool (by rw [decide_eq_false]; intro e; exact hn (by rw [e])), Below.refl _ _⟩
end Go.Proofs.YtbdpkfgllnbheaaGreatDoor.Ch
namespace Go.Proofs.YtbdpkfgllnbheaaGreatDoor.Ch
open Go.RowKit
def good (d : Nat) (e : Be.El) : Prop:=Be.fitS 20 2000 d e = true
theorem good_leaf {t : Nat} {b : ByteArray} (h : b.size ≤ 2000) (d : Nat) : good (d + 1) (txt t b):=by
 unfold good txt
 simp [Be.fitS, h]
theorem good_lst {t : Nat} {ks : List Be.El} {d : Nat} (hl : ks.length ≤ 20) (h : ∀ k ∈ ks, good d k) : good (d + 1) (lst t ks):=by
 unfold good lst
 simp only [Be.fitS, Bool.and_eq_true, decide_eq_true_eq, List.all_eq_true]
 exact ⟨hl, by decide, h⟩
theorem below_el {w w1 : World} {o : Obj} {x y z : Value} (hb1 : Below (w.alloc o).heap.size (w.alloc o) w1) : Below w.heap.size w (((w1.setCell ⟨w.heap.size, 0, none⟩ x).setCell ⟨w.heap.size, 1, none⟩ y).setCell ⟨w.heap.size, 2, none⟩ z) :=
 ((((((Below.refl w.heap.size w).alloc (Nat.le_refl _) _).trans (hb1.mono (by simp))).setCell (p:=⟨w.heap.size, 0, none⟩) (Nat.le_refl _) _).setCell (p:=⟨w.heap.size, 1, none⟩) (Nat.le_refl _) _).setCell (p:=⟨w.heap.size, 2, none⟩) (Nat.le_refl _) _)
set_option maxHeartbeats 400000 in
theorem text_any (s : ByteArray) (w : World) (hs : s.size ≤ 281474976710656) :
  Calls Tryz.prog 44 #[.string s] w fun e w'=>e = .returned (.agg #[.int .u8 4, .string s, .slice none 0 0]) ∧ Below w.heap.size w w':=by
 go_enter Tryz.func44, Tryz.ntmps44
 go_wp2_with fail
 refine (Be.Text_any 4 s _ hs).mono ?_
 rintro e w1 ⟨rfl, hb1⟩
 have B1:=(Blk.new w 53 #[.int .u8 0, .string ⟨#[]⟩, .slice none 0 0]).past hb1
 have c0 : w1.cell? ⟨w.heap.size, 0, none⟩ = some (.int .u8 0):=B1.cell 0
 have c1 : w1.cell? ⟨w.heap.size, 1, none⟩ = some (.string ⟨#[]⟩):=B1.cell 1
 have c2 : w1.cell? ⟨w.heap.size, 2, none⟩ = some (.slice none 0 0):=B1.cell 2
 have g0:=B1.frozen 0
 have g1:=B1.frozen 1
 have g2:=B1.frozen 2
 go_wp2_with fail
 exact bodyPost_ret (Be.res_el rfl _ _ w.heap.size _ _ _ rfl (Be.Blk.set3 B1)) rfl ⟨rfl, below_el hb1⟩
set_option maxHeartbeats 400000 in
theorem number_any (n : Int) (w : World) (h0 : -9223372036854775808 ≤ n) (h1 : n ≤ 9223372036854775807) :
  Calls Tryz.prog 43 #[.int .i64 n] w fun e w'=>e = .returned (.agg #[.int .u8 2, .string (strOfNums (Be.intB n)), .slice none 0 0]) ∧ Below w.heap.size w w':=by
 go_enter Tryz.func43, Tryz.ntmps43
 go_wp2_with fail
 refine (Be.Number_any 2 n _ h0 h1).mono ?_
 rintro e w1 ⟨rfl, hb1⟩
 have B1:=(Blk.new w 53 #[.int .u8 0, .string ⟨#[]⟩, .slice none 0 0]).past hb1
 have c0 : w1.cell? ⟨w.heap.size, 0, none⟩ = some (.int .u8 0):=B1.cell 0
 have c1 : w1.cell? ⟨w.heap.size, 1, none⟩ = some (.string ⟨#[]⟩):=B1.cell 1
 have c2 : w1.cell? ⟨w.heap.size, 2, none⟩ = some (.slice none 0 0):=B1.cell 2
 have g0:=B1.frozen 0
 have g1:=B1.frozen 1
 have g2:=B1.frozen 2
 go_wp2_with fail
 exact bodyPost_ret (Be.res_el rfl _ _ w.heap.size _ _ _ rfl (Be.Blk.set3 B1)) rfl ⟨rfl, below_el hb1⟩
theorem boolB_eq (b : Bool) : Be.boolB b = boolB b:=by cases b <;> rfl
def NewLst (w : World) (t : Nat) (ks : List Be.El) (r : Ending) (w' : World) : Prop :=
 ∃ (A : Option Addr) (c : Nat) (ds : Nat → List Value), r = .returned (.agg #[.int .u8 (t : Nat), .string ⟨#[]⟩, .slice A ks.length c]) ∧ Below w.heap.size w w' ∧ Be.KidsAt w' (fun b=>w.heap.size ≤ b ∧ b < w'.heap.size) A ks ds
def NewEl (w : World) (e : Be.El) (r : Ending) (w' : World) : Prop :=
 ∃ (t : Nat) (b : ByteArray) (A : Option Addr) (n c : Nat), r = .returned (.agg #[.int .u8 (t : Nat), .string b, .slice A n c]) ∧ Below w.heap.size w w' ∧ Be.Lies w' (fun b=>w.heap.size ≤ b ∧ b < w'.heap.size) e [.int .u8 (t : Nat), .string b, .slice A n c]
theorem good_fits {ks : List Be.El} {d : Nat} (h : ∀ k ∈ ks, good d k) : ∀ i (hi : i < ks.length), Be.fitS 20 2000 d ks[i] = true:=fun i hi=>h _ (List.getElem_mem hi)
theorem list_any (t : Nat) (ht : t ≤ 255) (ks : List Be.El) (d : Nat) (A : Option Addr) (c : Nat) (ds : Nat → List Value) (w : World) (hl : ks.length ≤ 20) (hg : ∀ k ∈ ks, good d k) (hK : Be.KidsAt w (· < w.heap.size) A ks ds) :
  Calls Tryz.prog 87 #[.int .u8 (t : Nat), .slice A ks.length c] w (NewLst w t ks):=by
 refine (Be.List_any t ht ks 20 2000 d A c ds w hl (by omega) (by omega) (good_fits hg) hK).mono ?_
 rintro r w' ⟨x, y, z, rfl, hb, hL⟩
 obtain ⟨A', c', ds', hcs, _, _, _, hK'⟩:=hL.open_
 simp only [List.cons.injEq, and_true] at hcs
 obtain ⟨rfl, rfl, rfl⟩:=hcs
 exact ⟨A', c', ds', rfl, hb, hK'⟩
theorem NewLst.el {w w' : World} {t : Nat} {ks : List Be.El} {r : Ending} (ht : t ≤ 255) (hl : ks.length ≤ 20) (h : NewLst w t ks r w') : NewEl w (lst t ks) r w':=by
 obtain ⟨A, c, ds, rfl, hb, hK⟩:=h
 exact ⟨t, _, A, ks.length, c, rfl, hb, Be.Lies.shut ht (by decide) (by unfold maxLen; omega) hK⟩
theorem fresh_set {w1 : World} {P P' : Nat → Prop} {g : Nat} {A : Option Addr} {ks : List Be.El} {ds : Nat → List Value} {x y z : Value} (h : Be.KidsAt w1 P A ks ds) (hP : ∀ b, P b → b ≠ g ∧ P' b) :
  Be.KidsAt (((w1.setCell ⟨g, 0, none⟩ x).setCell ⟨g, 1, none⟩ y).setCell ⟨g, 2, none⟩ z) P' A ks ds:=by
 refine h.imp (fun b hb=>(hP b hb).2) (fun p hp=>?_)
 have hpb:=(hP _ hp).1
 rw [World.cell?_setCell_other _ _ _ _ (fun e=>hpb (by rw [← e])), World.cell?_setCell_other _ _ _ _ (fun e=>hpb (by rw [← e])), World.cell?_setCell_other _ _ _ _ (fun e=>hpb (by rw [← e]))]
theorem new_lst {w w1 : World} {P : Nat → Prop} {t : Nat} {A : Option Addr} {ks : List Be.El} {ds : Nat → List Value} {c : Nat} (hb : Below w.heap.size w w1) (h : Be.KidsAt w1 P A ks ds) (hP : ∀ b, P b → w.heap.size < b ∧ b < w1.heap.size) :
  NewLst w t ks (.returned (.agg #[.int .u8 (t : Nat), .string ⟨#[]⟩, .slice A ks.length c])) (((w1.setCell ⟨w.heap.size, 0, none⟩ (.int .u8 (t : Nat))).setCell ⟨w.heap.size, 1, none⟩ (.string ⟨#[]⟩)).setCell ⟨w.heap.size, 2, none⟩ (.slice A ks.length c)):=by
 refine ⟨A, c, ds, rfl, ((hb.setCell (p:=⟨w.heap.size, 0, none⟩) (Nat.le_refl _) _).setCell (p:=⟨w.heap.size, 1, none⟩) (Nat.le_refl _) _).setCell (p:=⟨w.heap.size, 2, none⟩) (Nat.le_refl _) _, fresh_set h fun b hb'=>?_⟩
 have:=hP b hb'
 exact ⟨by omega, by omega, by simpa [World.setCell] using this.2⟩
theorem NewEl.lst {w w' : World} {t : Nat} {ks : List Be.El} {r : Ending} (h : NewLst w t ks r w') (ht : t ≤ 255) (hl : ks.length ≤ 20) : NewEl w (lst t ks) r w':=h.el ht hl
set_option maxHeartbeats 1000000 in
theorem seq_any (ks : List Be.El) (d : Nat) (A : Option Addr) (c : Nat) (ds : Nat → List Value) (w : World) (hl : ks.length ≤ 20) (hg : ∀ k ∈ ks, good d k) (hK : Be.KidsAt w (· < w.heap.size) A ks ds) :
  Calls Tryz.prog 49 #[.slice A ks.length c] w (NewLst w 48 ks):=by
 have HL:=Lib.hid (list_any 48 (by decide) ks d A c ds (w.alloc (.cells #[.int .u8 0, .string ⟨#[]⟩, .slice none 0 0] 53)) hl hg (hK.past ((Below.refl _ _).alloc (Nat.le_refl _) _)))
 clear hK hg
 go_enter Tryz.func49, Tryz.ntmps49
 go_wp2_with fail
 refine HL.out.mono ?_
 rintro e w1 ⟨A', c', ds', rfl, hb1, hK1⟩
 have B1:=(Blk.new w 53 #[.int .u8 0, .string ⟨#[]⟩, .slice none 0 0]).past hb1
 have c0 : w1.cell? ⟨w.heap.size, 0, none⟩ = some (.int .u8 0):=B1.cell 0
 have c1 : w1.cell? ⟨w.heap.size, 1, none⟩ = some (.string ⟨#[]⟩):=B1.cell 1
 have c2 : w1.cell? ⟨w.heap.size, 2, none⟩ = some (.slice none 0 0):=B1.cell 2
 have g0:=B1.frozen 0
 have g1:=B1.frozen 1
 have g2:=B1.frozen 2
 have HK1:=Lib.hid hK1
 clear hK1
 go_wp2_with fail
 exact bodyPost_ret (Be.res_el rfl _ _ w.heap.size _ _ _ rfl (Be.Blk.set3 B1)) rfl (new_lst (((Below.refl w.heap.size w).alloc (Nat.le_refl _) _).trans (hb1.mono (by simp))) HK1.out (fun b hb=>⟨by have:=hb.1; simp at this; omega, hb.2⟩))
theorem lies_leaf {w : World} {P : Nat → Prop} {t : Nat} {b : ByteArray} (ht : t ≤ 255) (hb : b.size ≤ 281474976710656) : Be.Lies w P (txt t b) [.int .u8 (t : Nat), .string b, .slice none 0 0]:=Be.Lies.leaf ht (by unfold maxLen; omega)
theorem num_size {n : Int} (h0 : -9223372036854775808 ≤ n) (h1 : n ≤ 9223372036854775807) : (strOfNums (Be.intB n)).size ≤ 281474976710656:=by
 rw [strOfNums_size, Be.intB_len]
 have:=Be.few_8 n h0 h1
 omega
theorem lies_num {w : World} {P : Nat → Prop} {t : Nat} {n : Int} (ht : t ≤ 255) (h0 : -9223372036854775808 ≤ n) (h1 : n ≤ 9223372036854775807) : Be.Lies w P (num t n) [.int .u8 (t : Nat), .string (strOfNums (Be.intB n)), .slice none 0 0] :=
 Be.Lies.leaf ht (by have:=num_size h0 h1; unfold maxLen; omega)
def Fr (w0 : World) (g1 : Nat) (t1 : TypeId) (cs : Array Value) (g2 : Nat) (w : World) : Prop:=Blk w g1 t1 cs ∧ (∃ x y z, Blk w g2 53 #[x, y, z]) ∧ Below w0.heap.size w0 w
theorem Fr.past {w0 w w' : World} {g1 g2 : Nat} {t1 : TypeId} {cs : Array Value} (h : Fr w0 g1 t1 cs g2 w) (hb : Below w.heap.size w w') : Fr w0 g1 t1 cs g2 w':=by
 obtain ⟨h1, ⟨x, y, z, h2⟩, h3⟩:=h
 exact ⟨h1.past hb, ⟨x, y, z, h2.past hb⟩, h3.trans (hb.mono h3.size)⟩
theorem Fr.drew {w0 w : World} {g1 g2 : Nat} {t1 : TypeId} {cs : Array Value} (h : Fr w0 g1 t1 cs g2 w) : Fr w0 g1 t1 cs g2 w.drew:=h.past (Below.refl _ _).drew
theorem Fr.alloc {w0 w : World} {g1 g2 : Nat} {t1 : TypeId} {cs : Array Value} (h : Fr w0 g1 t1 cs g2 w) (o : Obj) : Fr w0 g1 t1 cs g2 (w.alloc o):=h.past ((Below.refl _ _).alloc (Nat.le_refl _) o)
theorem Fr.new (w : World) (t1 : TypeId) (cs : Array Value) (x y z : Value) : Fr w w.heap.size t1 cs (w.heap.size + 1) ((w.alloc (.cells cs t1)).alloc (.cells #[x, y, z] 53)):=by
 have F1:=Blk.new (w.alloc (.cells cs t1)) 53 #[x, y, z]
 rw [show (w.alloc (.cells cs t1)).heap.size = w.heap.size + 1 by simp] at F1
 exact ⟨(Blk.new w _ _).alloc _, ⟨x, y, z, F1⟩, ((Below.refl _ _).alloc (Nat.le_refl _) _).alloc (by simp) _⟩
theorem Fr.store {w0 w : World} {g1 g2 : Nat} {t1 : TypeId} {cs : Array Value} (h : Fr w0 g1 t1 cs g2 w) (hne : g1 ≠ g2) (hg : w0.heap.size ≤ g2) (x y z : Value) : Fr w0 g1 t1 cs g2 (w.setRow g2 #[x, y, z]):=by
 obtain ⟨h1, ⟨x', y', z', h2⟩, h3⟩:=h
 exact ⟨(setRow_other w g2 g1 _ hne).trans h1, ⟨x, y, z, setRow_heap w g2 _ _ _ _ h2⟩, below_setRow h3 hg _⟩
theorem infoE3 : (Tryz.prog.info? 53).map (·.size) = some 3:=by kernel_rfl
end Go.Proofs.YtbdpkfgllnbheaaGreatDoor.Ch
namespace Go.Proofs.YtbdpkfgllnbheaaGreatDoor.Rg
open Go.RowKit
def chk2 (md : Region.Mode) (ops : Array Oper) (l : Array Bool) (t : Array Value) (i j d e : Nat) : Bool :=
 match ops[i]?, ops[j]? with
 | some o, some q=>decide (Region.ready md ops l = [i, j]) && (Region.wanted o (yielded ops t) && (Region.wanted q (yielded ops t) && (o.dst == some d && q.dst == some e)))
 | _, _=>false
section
variable {P : Program} {ops : Array Oper} {Q : Exit → Act → World → Prop} {md : Region.Mode} {S : World → Prop} {fuel : Nat} {l : Array Bool} {a : Act} {w : World}
theorem fk (i j d e : Nat) {o q : Oper} (hi : ops[i]? = some o) (hj : ops[j]? = some q) (hc : chk2 md ops l a.tmps i j d e = true) (f : FuncId) (args : Array Value)
  (hrun : (execOp a.eval o).run P w = .ok (.enter f args) w) (v : Value) (w2 : World) (hrun2 : (execOp a.eval q).run P w = .ok (.value v) w2) (hS2 : S w2)
  (h2 : wpAnyH P md ops Q S fuel (l.setIfInBounds j true) (a.put (some e) v) w2) {R : Ending → World → Prop} (hC : Calls P f args w R)
  (h : ∀ e w', R e w' → ∃ v, e = .returned v ∧ S w' ∧ wpAnyH P md ops Q S fuel (l.setIfInBounds i true) (a.put (some d) v) w') : wpAnyH P md ops Q S (fuel + 1) l a w:=by
 simp only [chk2, hi, hj, Bool.and_eq_true, decide_eq_true_eq, beq_iff_eq] at hc
 obtain ⟨h1, h3, h4, h5, h6⟩:=hc
 refine wpAnyH_all h1 (by simp) (fun k hk=>?_)
 rcases List.mem_cons.1 hk with rfl | hk
 ·refine wpOp_step hi (fun K hK=>?_)
  rw [if_pos h3]
  unfold Oper.wp
  rw [hrun, Oper.upon_enter]
  refine hC.mono fun e w' hR=>?_
  obtain ⟨v, rfl, hS, hW⟩:=h e w' hR
  exact hK _ _ ⟨hS, by rw [h5]; exact hW⟩
 ·obtain rfl:=List.mem_singleton.1 hk
  refine wpOp_step hj (fun K hK=>?_)
  rw [if_pos h4]
  unfold Oper.wp
  rw [hrun2, Oper.upon_value]
  exact hK _ _ ⟨hS2, by rw [h6]; exact h2⟩
theorem rn2 (i j d e : Nat) {o q : Oper} (v u : Value) (w1 : World) (hi : ops[i]? = some o) (hj : ops[j]? = some q) (hc : chk2 md ops l a.tmps i j d e = true)
  (hrun : (execOp a.eval o).run P w = .ok (.value v) w1) (hrun2 : (execOp a.eval q).run P w = .ok (.value u) w1) (hS1 : S w1)
  (h1 : wpAnyH P md ops Q S fuel (l.setIfInBounds i true) (a.put (some d) v) w1) (h2 : wpAnyH P md ops Q S fuel (l.setIfInBounds j true) (a.put (some e) u) w1) : wpAnyH P md ops Q S (fuel + 1) l a w:=by
 simp only [chk2, hi, hj, Bool.and_eq_true, decide_eq_true_eq, beq_iff_eq] at hc
 obtain ⟨hr, h3, h4, h5, h6⟩:=hc
 refine wpAnyH_all hr (by simp) (fun k hk=>?_)
 rcases List.mem_cons.1 hk with rfl | hk
 ·refine wpOp_step hi (fun K hK=>?_)
  rw [if_pos h3]
  unfold Oper.wp
  rw [hrun, Oper.upon_value, h5]
  exact hK _ _ ⟨hS1, h1⟩
 ·obtain rfl:=List.mem_singleton.1 hk
  refine wpOp_step hj (fun K hK=>?_)
  rw [if_pos h4]
  unfold Oper.wp
  rw [hrun2, Oper.upon_value, h6]
  exact hK _ _ ⟨hS1, h2⟩
theorem st {fuel' : Nat} {l' : Array Bool} {a' : Act} (hf : fuel' = fuel) (hl : l = l') (ha : a = a') (h : wpAnyH P md ops Q S fuel' l' a' w) : wpAnyH P md ops Q S fuel l a w:=by
 subst hf hl ha
 exact h
end
def regOps (n : Nat) : Code → Option (Array Oper)
 | .region i ops _=>if i = n then some ops else none
 | .seq a b=>match regOps n a with
  | some x=>some x
  | none=>regOps n b
 | .cond _ a b=>match regOps n a with
  | some x=>some x
  | none=>regOps n b
 | .block _ b=>regOps n b
 | .loop b=>regOps n b
 | .scope b=>regOps n b
 | _=>none
end Go.Proofs.YtbdpkfgllnbheaaGreatDoor.Rg
namespace Go.Proofs.YtbdpkfgllnbheaaGreatDoor.Pl
open Go.RowKit
section
variable {P : Program} {ops : Array Oper} {Q : Exit → Act → World → Prop} {a : Act} {w : World} {o : Oper} {rest : List Oper}
theorem take (v : Value) (hw : Region.wanted o (yielded ops a.tmps) = true) (hrun : (execOp a.eval o).run P w = .ok (.value v) w) (h : wpList P ops Q rest (a.put o.dst v) w) : wpList P ops Q (o :: rest) a w :=
 BigFrame.wpList_want hw fun K hK=>by
  unfold Oper.wp
  rw [hrun, Oper.upon_value]
  exact hK _ _ h
theorem run (v : Value) (w' : World) (hw : Region.wanted o (yielded ops a.tmps) = true) (hrun : (execOp a.eval o).run P w = .ok (.value v) w') (h : wpList P ops Q rest (a.put o.dst v) w') : wpList P ops Q (o :: rest) a w :=
 BigFrame.wpList_want hw fun K hK=>by
  unfold Oper.wp
  rw [hrun, Oper.upon_value]
  exact hK _ _ h
theorem skip (w' : World) (hw : Region.wanted o (yielded ops a.tmps) = true) (hrun : (execOp a.eval o).run P w = .ok .skip w') (h : wpList P ops Q rest (a.put o.dst undef) w') : wpList P ops Q (o :: rest) a w :=
 BigFrame.wpList_want hw fun K hK=>by
  unfold Oper.wp
  rw [hrun, Oper.upon_skip]
  exact hK _ _ h
theorem call (hw : Region.wanted o (yielded ops a.tmps) = true) (f : FuncId) (args : Array Value) (hrun : (execOp a.eval o).run P w = .ok (.enter f args) w) {R : Ending → World → Prop} (hc : Calls P f args w R)
  (h : ∀ e w', R e w' → ∃ v, e = .returned v ∧ wpList P ops Q rest (a.put o.dst v) w') : wpList P ops Q (o :: rest) a w :=
 BigFrame.wpList_want hw fun K hK=>by
  unfold Oper.wp
  rw [hrun, Oper.upon_enter]
  refine hc.mono fun e w' hR=>?_
  obtain ⟨v, rfl, hW⟩:=h e w' hR
  exact hK _ _ hW
theorem frame {l : List Oper} (a' : Act) (ha : a = a') (h : wpList P ops Q l a' w) : wpList P ops Q l a w:=ha ▸ h
theorem done (h : Q .normal a w) : wpList P ops Q [] a w:=h
def idleOps (ops : Array Oper) : List Oper → Act → Option Act
 | [], a=>some a
 | o :: l, a=>match Rg.idleOne ops o a with
  | some a'=>idleOps ops l a'
  | none=>none
theorem idle : ∀ (n : Nat) (l : List Oper) (a a' : Act), idleOps ops (l.take n) a = some a' → wpList P ops Q (l.drop n) a' w → wpList P ops Q l a w
 | 0, l, a, a', h, hK=>by
  obtain rfl:=Option.some.inj h
  exact hK
 | n + 1, [], a, a', h, hK=>by
  obtain rfl:=Option.some.inj h
  exact hK
 | n + 1, o :: l, a, a', h, hK=>by
  rw [List.take_succ_cons, idleOps] at h
  split at h
  ·rename_i a1 h1
   have hrest:=idle n l a1 a' h (by simpa using hK)
   obtain ⟨v, rfl, hy⟩:=Rg.idleOne_yields (P:=P) (S:=fun w'=>w' = w) h1
   rcases hy with ⟨hw, hy⟩ | ⟨hw, rfl⟩
   ·exact take v hw (hy w rfl) hrest
   ·exact wpList_skip (by simpa using hw) hrest
  ·cases h
end
theorem run_index {P : Program} {w : World} {ev : Operand → Value} {o : Oper} {x y : Operand} {t elem : TypeId} {ad : Addr} {n c q k : Nat} {i : TypeInfo} (hu : P.underlying t = some (.slice elem)) (hi : P.info? elem = some i) (hk : i.size = k)
  (ho : o.op = .indexAddr t x y) (hx : ev x = .slice (some ad) n c) (hy : ev y = .int .i64 q) (h : q < n) : (execOp ev o).run P w = .ok (.value (.pointer (some (ad.add (q * k))))) w:=by
 unfold execOp
 have h1 : (0 : Int) ≤ (q : Int) ∧ (q : Int) < (n : Int):=by omega
 simp [ho, hx, hy, Instr.indexAt, asIntOf, underlying, hu, sizeOf, typeInfo, hi, hk, h1, h, Result.andThen]
end Go.Proofs.YtbdpkfgllnbheaaGreatDoor.Pl
