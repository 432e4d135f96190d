import Derived.Test.YtconghaebebncaaGreatDoorZT9
import Derived.Test.YtconghaebebncaaGreatDoorProg
import Derived.OrdersHeld
import Derived.Deep.RegionHeld
import Derived.WalkKit
import Derived.Laws.Rows
import Derived.BigFrame
import Derived.Test.YtconghaebebncaaGreatDoorZT5
namespace Go.Proofs.YtconghaebebncaaGreatDoor.Ms
open Go.RowKit
set_option linter.unusedVariables false
set_option maxRecDepth 100000
def NewRow (t : TypeId) (cs : Array Value) (w : World) (r : Ending) (w' : World) : Prop :=
 ∃ g, r = .returned (.slice (some ⟨g, 0, none⟩) cs.size cs.size) ∧ Blk w' g t cs ∧ w.heap.size ≤ g ∧ Below w.heap.size w w'
set_option maxHeartbeats 1000000 in
theorem texts_any (m : Mg) (cs : Array Value) (w : World) (h : MAt w (· < w.heap.size) m cs) :
  Calls Tryz.prog 31 #[.agg cs] w (NewRow 9 #[.string m.dn, .string m.pass, .string m.rdn, .string m.sup, .string m.attr, .string m.value, .string m.matched] w) := by
 have B := Box.new h
 have hb0 := (Below.refl w.heap.size w).alloc (Nat.le_refl _) (.cells cs 28)
 have c3 := (B.1.cell 3).trans h.g3
 have c5 := (B.1.cell 5).trans h.g5
 have c15 := (B.1.cell 15).trans h.g15
 have c18 := (B.1.cell 18).trans h.g18
 have c19 := (B.1.cell 19).trans h.g19
 have c20 := (B.1.cell 20).trans h.g20
 have c22 := (B.1.cell 22).trans h.g22
 have HB := Lib.hid hb0
 clear h B hb0
 go_enter Tryz.func31, Tryz.ntmps31
 go_wp2_with fail
 go_ret
 refine ⟨w.heap.size + 1, rfl, ?_, Nat.le_succ _, HB.out.alloc HB.out.size _⟩
 have := Blk.new (w.alloc (.cells cs 28)) 9 #[.string m.dn, .string m.pass, .string m.rdn, .string m.sup, .string m.attr, .string m.value, .string m.matched]
 rwa [show (w.alloc (.cells cs 28)).heap.size = w.heap.size + 1 by simp] at this
set_option maxHeartbeats 1000000 in
theorem numbers_any (m : Mg) (cs : Array Value) (w : World) (h : MAt w (· < w.heap.size) m cs) :
  Calls Tryz.prog 37 #[.agg cs] w (NewRow 3 #[.int .i64 m.id, .int .i64 m.op, .int .i64 m.ref, .int .i64 m.ver, .int .i64 m.scope, .int .i64 m.size, .int .i64 m.code] w) := by
 have B := Box.new h
 have hb0 := (Below.refl w.heap.size w).alloc (Nat.le_refl _) (.cells cs 28)
 have c0 := (B.1.cell 0).trans h.g0
 have c1 := (B.1.cell 1).trans h.g1
 have c2 := (B.1.cell 2).trans h.g2
 have c4 := (B.1.cell 4).trans h.g4
 have c6 := (B.1.cell 6).trans h.g6
 have c7 := (B.1.cell 7).trans h.g7
 have c21 := (B.1.cell 21).trans h.g21
 have HB := Lib.hid hb0
 clear h B hb0
 go_enter Tryz.func37, Tryz.ntmps37
 go_wp2_with fail
 go_ret
 refine ⟨w.heap.size + 1, rfl, ?_, Nat.le_succ _, HB.out.alloc HB.out.size _⟩
 have := Blk.new (w.alloc (.cells cs 28)) 3 #[.int .i64 m.id, .int .i64 m.op, .int .i64 m.ref, .int .i64 m.ver, .int .i64 m.scope, .int .i64 m.size, .int .i64 m.code]
 rwa [show (w.alloc (.cells cs 28)).heap.size = w.heap.size + 1 by simp] at this
theorem rowS {w : World} {g : Nat} {m : Mg} (h : Blk w g 9 #[.string m.dn, .string m.pass, .string m.rdn, .string m.sup, .string m.attr, .string m.value, .string m.matched]) : Fi.StrsAt w (· < w.heap.size) (some ⟨g, 0, none⟩) (textsM m) := by
 intro _
 refine ⟨_, rfl, h.lt, fun i hi => ?_⟩
 have h7 : i < 7 := hi
 rw [Addr.add_lit, Nat.zero_add, h.cell i]
 match i, h7 with
 | 0, _ => rfl
 | 1, _ => rfl
 | 2, _ => rfl
 | 3, _ => rfl
 | 4, _ => rfl
 | 5, _ => rfl
 | 6, _ => rfl
set_option maxHeartbeats 400000 in
theorem eqS_texts (m n : Mg) (g g' : Nat) (w : World) (h : Blk w g 9 #[.string m.dn, .string m.pass, .string m.rdn, .string m.sup, .string m.attr, .string m.value, .string m.matched])
  (h' : Blk w g' 9 #[.string n.dn, .string n.pass, .string n.rdn, .string n.sup, .string n.attr, .string n.value, .string n.matched]) :
  Calls Tryz.prog 38 #[.slice (some ⟨g, 0, none⟩) 7 7, .slice (some ⟨g', 0, none⟩) 7 7] w fun e w' => e = .returned (.bool (decide (textsM m = textsM n))) ∧ Below w.heap.size w w' :=
 Fi.eqS_any (textsM m) (textsM n) _ _ 7 7 w (rowS h) (rowS h') (by show 7 ≤ _; decide) (by show 7 ≤ _; decide)
theorem cellI {w : World} {g : Nat} {m : Mg} (h : Blk w g 3 #[.int .i64 m.id, .int .i64 m.op, .int .i64 m.ref, .int .i64 m.ver, .int .i64 m.scope, .int .i64 m.size, .int .i64 m.code]) (j : Nat) (hj : j < 7) :
  w.cell? ⟨g, 0 + j, none⟩ = some (.int .i64 ((numsM m).getD j 0)) := by
 rw [Nat.zero_add, h.cell j]
 match j, hj with
 | 0, _ => rfl
 | 1, _ => rfl
 | 2, _ => rfl
 | 3, _ => rfl
 | 4, _ => rfl
 | 5, _ => rfl
 | 6, _ => rfl
set_option maxHeartbeats 400000 in
theorem eqI_nums (m n : Mg) (g g' : Nat) (w : World) (h : Blk w g 3 #[.int .i64 m.id, .int .i64 m.op, .int .i64 m.ref, .int .i64 m.ver, .int .i64 m.scope, .int .i64 m.size, .int .i64 m.code])
  (h' : Blk w g' 3 #[.int .i64 n.id, .int .i64 n.op, .int .i64 n.ref, .int .i64 n.ver, .int .i64 n.scope, .int .i64 n.size, .int .i64 n.code]) :
  Calls Tryz.prog 36 #[.slice (some ⟨g, 0, none⟩) 7 7, .slice (some ⟨g', 0, none⟩) 7 7] w fun e w' => e = .returned (.bool (decide (numsM m = numsM n))) ∧ Below w.heap.size w w' := by
 refine (Tryz.slices_Equal_int g 0 7 7 g' 0 7 7 (numsM m) (numsM n) w (by show 7 ≤ 7; decide) (by show 7 ≤ 7; decide) (by omega) (by omega) (fun j hj => cellI h j hj) (fun j hj => cellI h' j hj)).mono ?_
 rintro e w' ⟨rfl, q, rfl⟩
 refine ⟨ret_bool ?_, Fi.drewN_below _ _ _⟩
 rw [List.take_of_length_le (by show 7 ≤ 7; decide), List.take_of_length_le (by show 7 ≤ 7; decide), Bool.eq_iff_iff]
 simp
end Go.Proofs.YtconghaebebncaaGreatDoor.Ms
namespace Go.Proofs.YtconghaebebncaaGreatDoor.Ms
open Go.RowKit
set_option linter.unusedVariables false
set_option maxRecDepth 100000
set_option maxHeartbeats 4000000 in
theorem sameMo_any (a b : Mo) (V V' : Option Addr) (vc vc' : Nat) (w : World) (h : MoAt w (· < w.heap.size) a [.int .i64 a.kind, .string a.attr, .slice V a.vals.length vc]) (h' : MoAt w (· < w.heap.size) b [.int .i64 b.kind, .string b.attr, .slice V' b.vals.length vc']) :
  Calls Tryz.prog 41 #[.agg #[.int .i64 a.kind, .string a.attr, .slice V a.vals.length vc], .agg #[.int .i64 b.kind, .string b.attr, .slice V' b.vals.length vc']] w fun e w' => e = .returned (.bool (eqMo a b)) ∧ Below w.heap.size w w' := by
 obtain ⟨V1, vc1, e, h2, h3, h4, h5, h6⟩ := h
 simp only [List.cons.injEq, Value.slice.injEq, true_and, and_true] at e
 obtain ⟨rfl, rfl⟩ := e
 obtain ⟨V2, vc2, e, k2, k3, k4, k5, k6⟩ := h'
 simp only [List.cons.injEq, Value.slice.injEq, true_and, and_true] at e
 obtain ⟨rfl, rfl⟩ := e
 obtain ⟨k, t, v⟩ := a
 obtain ⟨k', t', v'⟩ := b
 simp only at h2 h3 h4 h5 h6 k2 k3 k4 k5 k6 ⊢
 have hb0 : Below w.heap.size w ((w.alloc (.cells #[.int .i64 k, .string t, .slice V v.length vc] 48)).alloc (.cells #[.int .i64 k', .string t', .slice V' v'.length vc'] 48)) := ((Below.refl _ _).alloc (Nat.le_refl _) _).alloc (by simp) _
 have hr : eqMo ⟨k, t, v⟩ ⟨k', t', v'⟩ = (decide (k = k') && (decide (t = t') && decide (v = v'))) := rfl
 have HS := Lib.hid (Fi.eqS_any v v' V V' vc vc' _ (h5.past hb0) (k5.past hb0) h3 k3)
 clear h2 h3 h4 h5 h6 k2 k3 k4 k5 k6
 by_cases h1 : k = k'
 ·subst h1
  by_cases h2 : t = t'
  ·subst h2
   rw [decide_eq_true (p := k = k) rfl, decide_eq_true (p := t = t) rfl, Bool.true_and, Bool.true_and] at hr
   have q2 : (t.toList == t.toList) = true := by rw [Fi.toList_eq]; simp
   have HR := Lib.hid hr
   clear hr
   go_enter Tryz.func41, Tryz.ntmps41
   go_wp2_with fail
   refine HS.out.mono ?_
   rintro e w1 ⟨rfl, hb1⟩
   go_wp2_with fail
   go_ret
   exact ⟨ret_bool HR.out.symm, hb0.trans (hb1.mono hb0.size)⟩
  ·rw [decide_eq_true (p := k = k) rfl, decide_eq_false h2, Bool.true_and, Bool.false_and] at hr
   have q2 : (t.toList == t'.toList) = false := by rw [Fi.toList_eq, decide_eq_false h2]
   have HR := Lib.hid hr
   clear hr h2
   go_enter Tryz.func41, Tryz.ntmps41
   go_wp2_with fail
   go_ret
   exact ⟨ret_bool HR.out.symm, hb0⟩
 ·rw [decide_eq_false h1, Bool.false_and] at hr
  have q1 : (k == k') = false := by rw [beq_eq_false_iff_ne]; exact h1
  have HR := Lib.hid hr
  clear hr h1
  go_enter Tryz.func41, Tryz.ntmps41
  go_wp2_with fail
  go_ret
  exact ⟨ret_bool HR.out.symm, hb0⟩
theorem MoAt.alloc {w : World} {d : Mo} {cs : List Value} (h : MoAt w (· < w.heap.size) d cs) (o : Obj) : MoAt (w.alloc o) (· < (w.alloc o).heap.size) d cs := h.past ((Below.refl _ _).alloc (Nat.le_refl _) o)
set_option maxHeartbeats 4000000 in
theorem eqMos_any (l l' : List Mo) (A A' : Option Addr) (c c' : Nat) (ds ds' : Nat → List Value) (w : World) (hM : MosAt w (· < w.heap.size) A l ds) (hM' : MosAt w (· < w.heap.size) A' l' ds') (hl : l.length ≤ maxLen) (hl' : l'.length ≤ maxLen) :
  Calls Tryz.prog 40 #[.slice A l.length c, .slice A' l'.length c', .func (.func 41) #[] #[]] w
   fun r w' => r = .returned (.bool (eqMos l l')) ∧ Below w.heap.size w w' := by
 unfold maxLen at hl hl'
 by_cases hn : l.length = l'.length
 ·have HN := Lib.hid hn
  have Ih := Lib.hid sameMo_any
  rw [← hn]
  clear hn hl'
  go_enter Tryz.func40, Tryz.ntmps40
  go_wp2_with fail
  go_loopw [17] (fun i wr => ∃ q : Nat, q ≤ l.length ∧ i = .int .i64 q ∧ Hid (eqMos l l' = eqMos (l.drop q) (l'.drop q)) ∧ Below w.heap.size w wr) (fun i wr => l.length - (intOf i).toNat)
  case atStart => exact ⟨0, Nat.zero_le _, rfl, rfl, Below.refl _ _⟩
  case round =>
   obtain ⟨q, hq, rfl, hE, hb⟩ := hrel
   have hs := hb.size
   by_cases hlt : q < l.length
   ·obtain ⟨ad, V, vc, rfl, hp, f0, f1, f2, hL⟩ := hM.kid hb hlt
    have hb0 := hb.alloc hs (.cells #[.int .i64 l[q].kind, .string l[q].attr, .slice V l[q].vals.length vc] 48)
    obtain ⟨ad2, V2, vc2, rfl, hp2, g0, g1, g2, hL2⟩ := hM'.kid hb0 (i := q) (by have := HN.out; omega)
    have hb1 := hb0.alloc (by simp; omega) (.cells #[.int .i64 (l'[q]'(by have := HN.out; omega)).kind, .string (l'[q]'(by have := HN.out; omega)).attr, .slice V2 (l'[q]'(by have := HN.out; omega)).vals.length vc2] 48)
    have hE2 := hE.out
    rw [eqMos_drop hlt (by have := HN.out; omega)] at hE2
    have H := Ih.out l[q] (l'[q]'(by have := HN.out; omega)) V V2 vc vc2 _ ((hL.alloc (.cells #[.int .i64 l[q].kind, .string l[q].attr, .slice V l[q].vals.length vc] 48)).alloc (.cells #[.int .i64 (l'[q]'(by have := HN.out; omega)).kind, .string (l'[q]'(by have := HN.out; omega)).attr, .slice V2 (l'[q]'(by have := HN.out; omega)).vals.length vc2] 48))
     (hL2.alloc (.cells #[.int .i64 (l'[q]'(by have := HN.out; omega)).kind, .string (l'[q]'(by have := HN.out; omega)).attr, .slice V2 (l'[q]'(by have := HN.out; omega)).vals.length vc2] 48))
    generalize eqMo l[q] (l'[q]'(by have := HN.out; omega)) = t at hE2 H
    generalize l[q] = d at f0 f1 f2 g0 g1 g2 H hb1 hL hL2 hb0
    generalize (l'[q]'(by have := HN.out; omega)) = d2 at g0 g1 g2 H hb1 hL2
    have HE := Lib.hid hE2
    have HH := Lib.hid H
    clear hE hE2 H hL hL2 hb0
    cases t with
    | false =>
     go_wp2_with fail
     refine HH.out.mono ?_
     rintro e w1 ⟨rfl, hb2⟩
     have hb3 := hb1.trans (hb2.mono (by simp; omega))
     go_wp2_with fail
     go_ret
     refine ⟨ret_bool ?_, hb3⟩
     rw [HE.out]; rfl
    | true =>
     go_wp2_with fail
     refine HH.out.mono ?_
     rintro e w1 ⟨rfl, hb2⟩
     have hb3 := hb1.trans (hb2.mono (by simp; omega))
     go_wp2_with fail
     refine ⟨⟨q + 1, by omega, by go_num, HE.out, hb3⟩, by simp [intOf]; omega⟩
   ·have hE2 := hE.out
    rw [List.drop_eq_nil_of_le (by omega), List.drop_eq_nil_of_le (by have := HN.out; omega), eqMos] at hE2
    have HE := Lib.hid hE2
    clear hE hE2
    go_wp2_with fail
    go_ret
    exact ⟨ret_bool HE.out.symm, hb⟩
 ·have hr := Lib.hid (eqMos_len hn)
  have h1 : ((l.length : Int) != l'.length) = true := by rw [bne_iff_ne]; omega
  clear hn
  go_enter Tryz.func40, Tryz.ntmps40
  go_wp2_with fail
  go_ret
  exact ⟨ret_bool hr.out.symm, Below.refl _ _⟩
end Go.Proofs.YtconghaebebncaaGreatDoor.Ms
namespace Go.Proofs.YtconghaebebncaaGreatDoor.Ms
abbrev ud : Value := undef
abbrev pt (b k : Nat) : Value := .pointer (some ⟨b, k, none⟩)
abbrev Nl : Value := .slice none 0 0
abbrev Ns : Value := .string ⟨#[]⟩
abbrev Iq (n : Int) : Value := .int .i64 n
abbrev Ub (n : Int) : Value := .int .u8 n
abbrev Bt : Value := .bool true
abbrev Bf : Value := .bool false
abbrev Sg (s : ByteArray) : Value := .string s
abbrev Sl (A : Option Addr) (n c : Nat) : Value := .slice A n c
abbrev Ag (cs : Array Value) : Value := .agg cs
end Go.Proofs.YtconghaebebncaaGreatDoor.Ms
namespace Go.Proofs.YtconghaebebncaaGreatDoor.Rg
open Go.RowKit
set_option linter.unusedVariables false
set_option maxRecDepth 100000
section
variable {P : Program} {ops : Array Oper} {Q : Exit → Act → World → Prop} {md : Region.Mode} {S : World → Prop} {fuel : Nat} {l : Array Bool} {a : Act} {w : World}
theorem take (i : Nat) {o : Oper} (v : Value) (hi : ops[i]? = some o) (hs : Region.noSelect ops = true) (hf : Region.free md ops l i = true) (hr : (Region.ready md ops l).contains i = true)
  (hQ : ∀ c a w, Q (.panic c) (a.put o.dst v) w → Q (.panic c) a w) (hw : Region.wanted o (yielded ops a.tmps) = true) (hy : ∀ w, S w → (execOp a.eval o).run P w = .ok (.value v) w) (hS : S w)
  (h : wpAnyH P md ops Q S fuel (l.setIfInBounds i true) (a.put o.dst v) w) : wpAnyH P md ops Q S (fuel + 1) l a w :=
 wpAnyH_take hi hs hf hr hQ (.inl ⟨hw, hy⟩) hS h
theorem frame (a' : Act) (ha : a = a') (h : wpAnyH P md ops Q S fuel l a' w) : wpAnyH P md ops Q S fuel l a w := ha ▸ h
theorem call (i : Nat) {o : Oper} (hi : ops[i]? = some o) (hr : Region.ready md ops l = [i]) (hw : Region.wanted o (yielded ops a.tmps) = true) (f : FuncId) (args : Array Value)
  (hrun : (execOp a.eval o).run P w = .ok (.enter f args) w) {R : Ending → World → Prop} (hc : Calls P f args w R)
  (h : ∀ e w', R e w' → ∃ v, e = .returned v ∧ S w' ∧ wpAnyH P md ops Q S fuel (l.setIfInBounds i true) (a.put o.dst v) w') : wpAnyH P md ops Q S (fuel + 1) l a w :=
 wpAnyH_all hr (by simp) (fun j hj => by
  obtain rfl := List.mem_singleton.1 hj
  refine wpOp_step hi (fun K hK => ?_)
  rw [if_pos hw]
  unfold Oper.wp
  rw [hrun, Oper.upon_enter]
  refine hc.mono fun e w' hR => ?_
  obtain ⟨v, rfl, hS, hW⟩ := h e w' hR
  exact hK _ _ ⟨hS, hW⟩)
theorem run (i : Nat) {o : Oper} (hi : ops[i]? = some o) (hr : Region.ready md ops l = [i]) (hw : Region.wanted o (yielded ops a.tmps) = true) (v : Value) (w' : World)
  (hrun : (execOp a.eval o).run P w = .ok (.value v) w') (hS : S w') (h : wpAnyH P md ops Q S fuel (l.setIfInBounds i true) (a.put o.dst v) w') : wpAnyH P md ops Q S (fuel + 1) l a w :=
 wpAnyH_all hr (by simp) (fun j hj => by
  obtain rfl := List.mem_singleton.1 hj
  refine wpOp_step hi (fun K hK => ?_)
  rw [if_pos hw]
  unfold Oper.wp
  rw [hrun, Oper.upon_value]
  exact hK _ _ ⟨hS, h⟩)
theorem skip (i : Nat) {o : Oper} (hi : ops[i]? = some o) (hr : Region.ready md ops l = [i]) (hw : Region.wanted o (yielded ops a.tmps) = true) (w' : World)
  (hrun : (execOp a.eval o).run P w = .ok .skip w') (hS : S w') (h : wpAnyH P md ops Q S fuel (l.setIfInBounds i true) (a.put o.dst undef) w') : wpAnyH P md ops Q S (fuel + 1) l a w :=
 wpAnyH_all hr (by simp) (fun j hj => by
  obtain rfl := List.mem_singleton.1 hj
  refine wpOp_step hi (fun K hK => ?_)
  rw [if_pos hw]
  unfold Oper.wp
  rw [hrun, Oper.upon_skip]
  exact hK _ _ ⟨hS, h⟩)
def idleOne (ops : Array Oper) (o : Oper) (a : Act) : Option Act :=
 if Region.wanted o (yielded ops a.tmps) = true then
  match o.op with
  | .move x | .assign x => some (a.put o.dst (a.eval x))
  | .pick c x y => match a.eval c with
   | .bool true => some (a.put o.dst (a.eval x))
   | .bool false => some (a.put o.dst (a.eval y))
   | _ => none
  | _ => none
 else some (a.put o.dst undef)
def idleRun (ops : Array Oper) : List Nat → Act → Option Act
 | [], a => some a
 | i :: is, a => match ops[i]? with
  | some o => (match idleOne ops o a with
   | some a' => idleRun ops is a'
   | none => none)
  | none => none
def freeRun (md : Region.Mode) (ops : Array Oper) : List Nat → Array Bool → Bool
 | [], _ => true
 | i :: is, l => Region.free md ops l i && ((Region.ready md ops l).contains i && freeRun md ops is (l.setIfInBounds i true))
def markRun : List Nat → Array Bool → Array Bool
 | [], l => l
 | i :: is, l => markRun is (l.setIfInBounds i true)
theorem idleOne_yields {o : Oper} {a' : Act} (h : idleOne ops o a = some a') : ∃ v, a' = a.put o.dst v ∧ YieldsIf P ops S o v a := by
 unfold idleOne at h
 split at h
 ·rename_i hw
  split at h
  ·rename_i x hx
   exact ⟨_, (Option.some.inj h).symm, .inl ⟨hw, fun w _ => by unfold execOp; rw [hx]; rfl⟩⟩
  ·rename_i x hx
   exact ⟨_, (Option.some.inj h).symm, .inl ⟨hw, fun w _ => by unfold execOp; rw [hx]; rfl⟩⟩
  ·rename_i c x y hx
   split at h
   ·rename_i hc
    exact ⟨_, (Option.some.inj h).symm, .inl ⟨hw, fun w _ => by unfold execOp; rw [hx]; simp only [hc]; rfl⟩⟩
   ·rename_i hc
    exact ⟨_, (Option.some.inj h).symm, .inl ⟨hw, fun w _ => by unfold execOp; rw [hx]; simp only [hc]; rfl⟩⟩
   ·cases h
  ·cases h
 ·rename_i hw
  exact ⟨_, (Option.some.inj h).symm, .inr ⟨by simpa using hw, rfl⟩⟩
theorem idle (hs : Region.noSelect ops = true) (hQ : ∀ c a d v w, Q (.panic c) (a.put d v) w → Q (.panic c) a w) :
  ∀ (is : List Nat) (l : Array Bool) (a a' : Act) (fuel : Nat), freeRun md ops is l = true → idleRun ops is a = some a' → S w → wpAnyH P md ops Q S fuel (markRun is l) a' w → wpAnyH P md ops Q S (fuel + is.length) l a w
 | [], l, a, a', fuel, _, h, _, hK => by
  obtain rfl := Option.some.inj h
  exact hK
 | i :: is, l, a, a', fuel, hf, h, hS, hK => by
  rw [idleRun] at h
  split at h
  ·rename_i o ho
   split at h
   ·rename_i a1 h1
    rw [freeRun, Bool.and_eq_true, Bool.and_eq_true] at hf
    obtain ⟨v, rfl, hy⟩ := idleOne_yields (P := P) (S := S) h1
    rw [List.length_cons, ← Nat.add_assoc]
    exact wpAnyH_take ho hs hf.1 hf.2.1 (fun c a w => hQ c a _ _ w) hy hS (idle hs hQ is _ _ a' fuel hf.2.2 h hS hK)
   ·cases h
  ·cases h
end
end Go.Proofs.YtconghaebebncaaGreatDoor.Rg
namespace Go.Proofs.YtconghaebebncaaGreatDoor.Pl
open Go.RowKit
set_option linter.unusedVariables false
set_option maxRecDepth 100000
section
variable {P : Program} {ops : Array Oper} {Q : Exit → Act → World → Prop} {a : Act} {w : World} {o : Oper} {rest : List Oper}
theorem take (v : Value) (hw : Region.wanted o (yielded ops a.tmps) = true) (hrun : (execOp a.eval o).run P w = .ok (.value v) w) (h : wpList P ops Q rest (a.put o.dst v) w) : wpList P ops Q (o :: rest) a w :=
 BigFrame.wpList_want hw fun K hK => by
  unfold Oper.wp
  rw [hrun, Oper.upon_value]
  exact hK _ _ h
theorem run (v : Value) (w' : World) (hw : Region.wanted o (yielded ops a.tmps) = true) (hrun : (execOp a.eval o).run P w = .ok (.value v) w') (h : wpList P ops Q rest (a.put o.dst v) w') : wpList P ops Q (o :: rest) a w :=
 BigFrame.wpList_want hw fun K hK => by
  unfold Oper.wp
  rw [hrun, Oper.upon_value]
  exact hK _ _ h
theorem skip (w' : World) (hw : Region.wanted o (yielded ops a.tmps) = true) (hrun : (execOp a.eval o).run P w = .ok .skip w') (h : wpList P ops Q rest (a.put o.dst undef) w') : wpList P ops Q (o :: rest) a w :=
 BigFrame.wpList_want hw fun K hK => by
  unfold Oper.wp
  rw [hrun, Oper.upon_skip]
  exact hK _ _ h
theorem call (hw : Region.wanted o (yielded ops a.tmps) = true) (f : FuncId) (args : Array Value) (hrun : (execOp a.eval o).run P w = .ok (.enter f args) w) {R : Ending → World → Prop} (hc : Calls P f args w R)
  (h : ∀ e w', R e w' → ∃ v, e = .returned v ∧ wpList P ops Q rest (a.put o.dst v) w') : wpList P ops Q (o :: rest) a w :=
 BigFrame.wpList_want hw fun K hK => by
  unfold Oper.wp
  rw [hrun, Oper.upon_enter]
  refine hc.mono fun e w' hR => ?_
  obtain ⟨v, rfl, hW⟩ := h e w' hR
  exact hK _ _ hW
theorem frame {l : List Oper} (a' : Act) (ha : a = a') (h : wpList P ops Q l a' w) : wpList P ops Q l a w := ha ▸ h
theorem done (h : Q .normal a w) : wpList P ops Q [] a w := h
def idleOps (ops : Array Oper) : List Oper → Act → Option Act
 | [], a => some a
 | o :: l, a => match Rg.idleOne ops o a with
  | some a' => idleOps ops l a'
  | none => none
theorem idle : ∀ (n : Nat) (l : List Oper) (a a' : Act), idleOps ops (l.take n) a = some a' → wpList P ops Q (l.drop n) a' w → wpList P ops Q l a w
 | 0, l, a, a', h, hK => by
  obtain rfl := Option.some.inj h
  exact hK
 | n + 1, [], a, a', h, hK => by
  obtain rfl := Option.some.inj h
  exact hK
 | n + 1, o :: l, a, a', h, hK => by
  rw [List.take_succ_cons, idleOps] at h
  split at h
  ·rename_i a1 h1
   have hrest := idle n l a1 a' h (by simpa using hK)
   obtain ⟨v, rfl, hy⟩ := Rg.idleOne_yields (P := P) (S := fun w' => w' = w) h1
   rcases hy with ⟨hw, hy⟩ | ⟨hw, rfl⟩
   ·exact take v hw (hy w rfl) hrest
   ·exact wpList_skip (by simpa using hw) hrest
  ·cases h
theorem idle1 {o1 : Oper} {l : List Oper} {a : Act} (a' : Act) (h : idleOps ops [o1] a = some a') (hK : wpList P ops Q l a' w) : wpList P ops Q (o1 :: l) a w := idle 1 (o1 :: l) a a' h hK
theorem idle2 {o1 o2 : Oper} {l : List Oper} {a : Act} (a' : Act) (h : idleOps ops [o1, o2] a = some a') (hK : wpList P ops Q l a' w) : wpList P ops Q (o1 :: o2 :: l) a w := idle 2 (o1 :: o2 :: l) a a' h hK
theorem rests {l : List Oper} (a' : Act) (h : idleOps ops l a = some a') (hK : Q .normal a' w) : wpList P ops Q l a w :=
 idle l.length l a a' (by rw [List.take_length]; exact h) (by rw [List.drop_length]; exact hK)
end
theorem run_index {P : Program} {w : World} {ev : Operand → Value} {o : Oper} {x y : Operand} {t elem : TypeId} {ad : Addr} {n c q k : Nat} {i : TypeInfo} (hu : P.underlying t = some (.slice elem)) (hi : P.info? elem = some i) (hk : i.size = k)
  (ho : o.op = .indexAddr t x y) (hx : ev x = .slice (some ad) n c) (hy : ev y = .int .i64 q) (h : q < n) : (execOp ev o).run P w = .ok (.value (.pointer (some (ad.add (q * k))))) w := by
 unfold execOp
 have h1 : (0 : Int) ≤ (q : Int) ∧ (q : Int) < (n : Int) := by omega
 simp [ho, hx, hy, Instr.indexAt, asIntOf, underlying, hu, sizeOf, typeInfo, hi, hk, h1, h, Result.andThen]
end Go.Proofs.YtconghaebebncaaGreatDoor.Pl
namespace Go.Proofs.YtconghaebebncaaGreatDoor.Ms
open Go.RowKit
set_option linter.unusedVariables false
set_option maxRecDepth 100000
set_option maxHeartbeats 4000000 in
theorem ralike_any (l l' : List ByteArray) (A A' : Option Addr) (c c' : Nat) (w : World) (hA : Fi.StrsAt w (· < w.heap.size) A l) (hA' : Fi.StrsAt w (· < w.heap.size) A' l') (hl : l.length ≤ maxLen) :
  Calls Tryz.prog 43 #[.slice A l.length c, .slice A' l'.length c'] w fun r w' => r = .returned (.bool (decide (l = l'))) ∧ Below w.heap.size w w' := by
 unfold maxLen at hl
 by_cases hn : l.length = l'.length
 ·have HN := Lib.hid hn
  have HS := Lib.hid hA
  have HS' := Lib.hid hA'
  rw [← hn]
  clear hn hA hA'
  go_enter Tryz.func43, Tryz.ntmps43
  go_wp2_with fail
  go_loopw [5] (fun i wr => ∃ q : Nat, q ≤ l.length ∧ i = .int .i64 q ∧ Hid (decide (l = l') = decide (l.drop q = l'.drop q)) ∧ Below w.heap.size w wr) (fun i wr => l.length - (intOf i).toNat)
  case atStart => exact ⟨0, Nat.zero_le _, rfl, rfl, Below.refl _ _⟩
  case round =>
   obtain ⟨q, hq, rfl, hE, hb⟩ := hrel
   by_cases hlt : q < l.length
   ·obtain ⟨b, o, rfl, hp, hc⟩ := HS.out.row' (by omega)
    obtain ⟨b', o', rfl, hp', hc'⟩ := HS'.out.row' (by have := HN.out; omega)
    have f0 := bat hb hp (hc q hlt)
    have f0' := bat hb hp' (hc' q (by have := HN.out; omega))
    have hE2 := hE.out
    rw [Fi.eq_drop hlt (by have := HN.out; omega)] at hE2
    generalize l[q] = s at f0 hE2
    generalize l'[q]'(by have := HN.out; omega) = s' at f0' hE2
    have HE := Lib.hid hE2
    clear hE hE2 hc hc'
    by_cases hss : s = s'
    ·have h5 : (s.toList == s'.toList) = true := by rw [Fi.toList_eq, decide_eq_true hss]
     have h6 : (s.toList != s'.toList) = false := by unfold bne; rw [h5]; rfl
     have HF := Lib.hid (show decide (s = s') = true by rw [decide_eq_true hss])
     clear hss
     go_wp2_with fail
     go_region
     all_goals
      go_wp2_with fail
      refine ⟨⟨q + 1, by omega, by go_num, by show _ = _; rw [HE.out, HF.out]; rfl, hb.drew⟩, by simp [intOf]; omega⟩
    ·have h5 : (s.toList == s'.toList) = false := by rw [Fi.toList_eq, decide_eq_false hss]
     have h6 : (s.toList != s'.toList) = true := by unfold bne; rw [h5]; rfl
     have HF := Lib.hid (show decide (s = s') = false by rw [decide_eq_false hss])
     clear hss
     go_wp2_with fail
     go_region
     all_goals
      go_wp2_with fail
      go_ret
      refine ⟨ret_bool ?_, hb.drew⟩
      rw [HE.out, HF.out]; rfl
   ·have hE2 := hE.out
    rw [List.drop_eq_nil_of_le (by omega), List.drop_eq_nil_of_le (by have := HN.out; omega), decide_eq_true rfl] at hE2
    have HE := Lib.hid hE2
    clear hE hE2
    go_wp2_with fail
    go_ret
    exact ⟨ret_bool HE.out.symm, hb⟩
 ·have hr := Lib.hid (show decide (l = l') = false by rw [decide_eq_false]; rintro rfl; exact hn rfl)
  have h1 : ((l.length : Int) != l'.length) = true := by rw [bne_iff_ne]; omega
  clear hn hA hA'
  go_enter Tryz.func43, Tryz.ntmps43
  go_wp2_with fail
  go_ret
  exact ⟨ret_bool hr.out.symm, Below.refl _ _⟩
end Go.Proofs.YtconghaebebncaaGreatDoor.Ms
