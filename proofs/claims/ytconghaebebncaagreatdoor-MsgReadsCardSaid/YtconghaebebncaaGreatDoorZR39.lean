import Derived.Test.YtconghaebebncaaGreatDoorZR38
set_option linter.unusedVariables false
set_option maxRecDepth 100000
namespace Go.Proofs.YtconghaebebncaaGreatDoor.Fi
open Go.RowKit
def Gath (w : World) (base : Nat) (v : Value) (xs : List Value) (done : List Fil) : Prop :=
 w.ownsRow base 25 5 v done.length xs ∧ ∀ i (h : i < done.length), Lies w (fun b=>base ≤ b ∧ b < w.heap.size ∧ v.ownBlock ≠ some b) done[i] ((xs.drop (i * 5)).take 5)
theorem Gath.nil (w : World) (base : Nat) : Gath w base (.slice none 0 0) [] []:=⟨World.ownsRow_nil _ _ _ _, fun i h=>absurd h (by simp)⟩
theorem Gath.past {w w' : World} {base : Nat} {v : Value} {xs : List Value} {done : List Fil} (h : Gath w base v xs done) (hb : Below w.heap.size w w') : Gath w' base v xs done :=
 ⟨own_past h.1 hb, fun i hi=>(h.2 i hi).imp (fun b hb'=>⟨hb'.1, Nat.lt_of_lt_of_le hb'.2.1 hb.size, hb'.2.2⟩) (fun p hp=>hb.cell hp.2.1)⟩
theorem Gath.alloc {w : World} {base : Nat} {v : Value} {xs : List Value} {done : List Fil} (h : Gath w base v xs done) (o : Obj) : Gath (w.alloc o) base v xs done:=h.past ((Below.refl _ _).alloc (Nat.le_refl _) o)
theorem Gath.drew {w : World} {base : Nat} {v : Value} {xs : List Value} {done : List Fil} (h : Gath w base v xs done) : Gath w.drew base v xs done:=h.past (Below.refl _ _).drew
theorem Gath.form {w : World} {base : Nat} {v : Value} {xs : List Value} {done : List Fil} (h : Gath w base v xs done) : ∃ (A : Option Addr) (c : Nat), v = .slice A done.length c ∧ done.length ≤ c:=by
 rcases h.1.2 with ⟨rfl, h0⟩ | ⟨g, cap, cur, rfl, _, _, hc, _⟩
 ·exact ⟨none, 0, by rw [h0], by omega⟩
 ·exact ⟨_, _, rfl, hc⟩
theorem Gath.step {w w' : World} {base : Nat} {v v' : Value} {xs ys : List Value} {done : List Fil} {e : Fil} (h : Gath w base v xs done) (hys : ys.length = 5)
  (hl : Lies w (fun b=>base ≤ b ∧ b < w.heap.size ∧ v.ownBlock ≠ some b) e ys) (hown : w'.ownsRow base 25 5 v' (done.length + 1) (xs ++ ys))
  (hg : w.grownBy w' v.ownBlock) (hat : v'.ownBlock = v.ownBlock ∨ v'.ownBlock = some w.heap.size) : Gath w' base v' (xs ++ ys) (done ++ [e]):=by
 have hxl : xs.length = done.length * 5:=h.1.1
 have keep : ∀ {e : Fil} {cs : List Value}, Lies w (fun b=>base ≤ b ∧ b < w.heap.size ∧ v.ownBlock ≠ some b) e cs → Lies w' (fun b=>base ≤ b ∧ b < w'.heap.size ∧ v'.ownBlock ≠ some b) e cs:=by
  intro e cs hl
  refine hl.imp (fun b hb=>⟨hb.1, Nat.lt_of_lt_of_le hb.2.1 hg.size, ?_⟩) (fun p hp=>World.cell?_of_block (hg.block p.block hp.2.1 (fun e=>hp.2.2 e.symm)))
  rcases hat with h' | h'
  ·rw [h']; exact hb.2.2
  ·rw [h']; intro h''; injection h'' with h''; have:=hb.2.1; omega
 refine ⟨by simpa using hown, fun i hi=>?_⟩
 rw [List.length_append, List.length_singleton] at hi
 by_cases hlt : i < done.length
 ·have e1 : ((xs ++ ys).drop (i * 5)).take 5 = (xs.drop (i * 5)).take 5:=by
   rw [List.drop_append_of_le_length (by omega), List.take_append_of_le_length (by rw [List.length_drop]; omega)]
  rw [e1, List.getElem_append_left hlt]
  exact keep (h.2 i hlt)
 ·have hi' : i = done.length:=by omega
  subst hi'
  have e1 : ((xs ++ ys).drop (done.length * 5)).take 5 = ys:=by
   rw [← hxl, List.drop_left, List.take_of_length_le (by omega)]
  rw [e1, List.getElem_append_right (Nat.le_refl _)]
  simpa using keep hl
theorem Gath.shut {w : World} {base : Nat} {v : Value} {xs : List Value} {done : List Fil} (h : Gath w base v xs done) :
  ∃ (A : Option Addr) (c : Nat) (ds : Nat → List Value), v = .slice A done.length c ∧ done.length ≤ c ∧ KidsAt w (fun b=>base ≤ b ∧ b < w.heap.size) A done ds:=by
 have hxl : xs.length = done.length * 5:=h.1.1
 obtain ⟨A, c, rfl, hc⟩:=h.form
 refine ⟨A, c, fun i=>(xs.drop (i * 5)).take 5, rfl, hc, fun i hi=>?_, fun h0=>?_, fun i hi=>?_⟩
 ·rw [List.length_take, List.length_drop]; omega
 ·obtain ⟨g, cap, hv, hg, hlt⟩:=World.ownsRow.form h.1 h0
  have hA : A = some ⟨g, 0, none⟩:=by injection hv
  subst hA
  refine ⟨_, rfl, ⟨hg, hlt⟩, fun i hi j u hu=>?_⟩
  refine World.ownsRow.cells h.1 (g:=g) rfl (i * 5 + j) u ?_
  by_cases hj : j < 5
  ·rw [List.getElem?_take_of_lt hj, List.getElem?_drop] at hu
   exact hu
  ·rw [List.getElem?_eq_none (by rw [List.length_take]; omega)] at hu
   cases hu
 ·exact (h.2 i hi).imp (fun b hb=>⟨hb.1, hb.2.1⟩) (fun _ _=>rfl)
theorem infoFil : (Tryz.prog.info? 25).map (fun i=>(i.zero, i.size, i.bytes)) = some (some (.agg #[.int .i64 0, .string ⟨#[]⟩, .string ⟨#[]⟩, .slice none 0 0, .slice none 0 0]), 5, 88):=by kernel_rfl
end Go.Proofs.YtconghaebebncaaGreatDoor.Fi
namespace Go.Proofs.YtconghaebebncaaGreatDoor.Ms
open Go.RowKit
def GathM (w : World) (base : Nat) (v : Value) (xs : List Value) (done : List Mo) : Prop :=
 w.ownsRow base 48 3 v done.length xs ∧ ∀ i (h : i < done.length), MoAt w (fun b=>base ≤ b ∧ b < w.heap.size ∧ v.ownBlock ≠ some b) done[i] ((xs.drop (i * 3)).take 3)
theorem GathM.nil (w : World) (base : Nat) : GathM w base (.slice none 0 0) [] []:=⟨World.ownsRow_nil _ _ _ _, fun i h=>absurd h (by simp)⟩
theorem GathM.past {w w' : World} {base : Nat} {v : Value} {xs : List Value} {done : List Mo} (h : GathM w base v xs done) (hb : Below w.heap.size w w') : GathM w' base v xs done :=
 ⟨own_past h.1 hb, fun i hi=>(h.2 i hi).imp (fun b hb'=>⟨hb'.1, Nat.lt_of_lt_of_le hb'.2.1 hb.size, hb'.2.2⟩) (fun p hp=>hb.cell hp.2.1)⟩
theorem GathM.alloc {w : World} {base : Nat} {v : Value} {xs : List Value} {done : List Mo} (h : GathM w base v xs done) (o : Obj) : GathM (w.alloc o) base v xs done:=h.past ((Below.refl _ _).alloc (Nat.le_refl _) o)
theorem GathM.step {w w' : World} {base : Nat} {v v' : Value} {xs ys : List Value} {done : List Mo} {e : Mo} (h : GathM w base v xs done) (hys : ys.length = 3)
  (hl : MoAt w (fun b=>base ≤ b ∧ b < w.heap.size ∧ v.ownBlock ≠ some b) e ys) (hown : w'.ownsRow base 48 3 v' (done.length + 1) (xs ++ ys))
  (hg : w.grownBy w' v.ownBlock) (hat : v'.ownBlock = v.ownBlock ∨ v'.ownBlock = some w.heap.size) : GathM w' base v' (xs ++ ys) (done ++ [e]):=by
 have hxl : xs.length = done.length * 3:=h.1.1
 have keep : ∀ {e : Mo} {cs : List Value}, MoAt w (fun b=>base ≤ b ∧ b < w.heap.size ∧ v.ownBlock ≠ some b) e cs → MoAt w' (fun b=>base ≤ b ∧ b < w'.heap.size ∧ v'.ownBlock ≠ some b) e cs:=by
  intro e cs hl
  refine hl.imp (fun b hb=>⟨hb.1, Nat.lt_of_lt_of_le hb.2.1 hg.size, ?_⟩) (fun p hp=>World.cell?_of_block (hg.block p.block hp.2.1 (fun e=>hp.2.2 e.symm)))
  rcases hat with h' | h'
  ·rw [h']; exact hb.2.2
  ·rw [h']; intro h''; injection h'' with h''; have:=hb.2.1; omega
 refine ⟨by simpa using hown, fun i hi=>?_⟩
 rw [List.length_append, List.length_singleton] at hi
 by_cases hlt : i < done.length
 ·have e1 : ((xs ++ ys).drop (i * 3)).take 3 = (xs.drop (i * 3)).take 3:=by
   rw [List.drop_append_of_le_length (by omega), List.take_append_of_le_length (by rw [List.length_drop]; omega)]
  rw [e1, List.getElem_append_left hlt]
  exact keep (h.2 i hlt)
 ·have hi' : i = done.length:=by omega
  subst hi'
  have e1 : ((xs ++ ys).drop (done.length * 3)).take 3 = ys:=by
   rw [← hxl, List.drop_left, List.take_of_length_le (by omega)]
  rw [e1, List.getElem_append_right (Nat.le_refl _)]
  simpa using keep hl
theorem freshM {w w1 : World} {base : Nat} {v : Value} {xs : List Value} {done : List Mo} {P : Nat → Prop} {e : Mo} {cs : List Value} (hG : GathM w base v xs done) (hbase : base ≤ w.heap.size) (h : MoAt w1 P e cs) (hP : ∀ b, P b → w.heap.size ≤ b ∧ b < w1.heap.size) :
  MoAt w1 (fun b=>base ≤ b ∧ b < w1.heap.size ∧ v.ownBlock ≠ some b) e cs :=
 h.imp (fun b hb=>⟨Nat.le_trans hbase (hP b hb).1, (hP b hb).2, fun e=>by have:=(hG.1.lt b e).2; have:=(hP b hb).1; omega⟩) (fun _ _=>rfl)
def NewMos (w : World) (l : List Mo) (r : Ending) (w' : World) : Prop :=
 ∃ (A : Option Addr) (c : Nat) (ds : Nat → List Value), r = .returned (.slice A l.length c) ∧ Below w.heap.size w w' ∧ l.length ≤ c ∧ MosAt w' (fun b=>w.heap.size ≤ b ∧ b < w'.heap.size) A l ds
theorem GathM.shut {w : World} {base : Nat} {v : Value} {xs : List Value} {done : List Mo} (h : GathM w base v xs done) :
  ∃ (A : Option Addr) (c : Nat) (ds : Nat → List Value), v = .slice A done.length c ∧ done.length ≤ c ∧ MosAt w (fun b=>base ≤ b ∧ b < w.heap.size) A done ds:=by
 have hf : ∃ (A : Option Addr) (c : Nat), v = .slice A done.length c ∧ done.length ≤ c:=by
  rcases h.1.2 with ⟨rfl, h0⟩ | ⟨g, cap, cur, rfl, _, _, hc, _⟩
  ·exact ⟨none, 0, by rw [h0], by omega⟩
  ·exact ⟨_, _, rfl, hc⟩
 obtain ⟨A, c, rfl, hc⟩:=hf
 refine ⟨A, c, fun i=>(xs.drop (i * 3)).take 3, rfl, hc, fun h0=>?_, fun i hi=>?_⟩
 ·obtain ⟨g, cap, hv, hg, hlt⟩:=World.ownsRow.form h.1 h0
  have hA : A = some ⟨g, 0, none⟩:=by injection hv
  subst hA
  refine ⟨_, rfl, ⟨hg, hlt⟩, fun i hi j u hu=>?_⟩
  refine World.ownsRow.cells h.1 (g:=g) rfl (i * 3 + j) u ?_
  by_cases hj : j < 3
  ·rw [List.getElem?_take_of_lt hj, List.getElem?_drop] at hu
   exact hu
  ·rw [List.getElem?_eq_none (by rw [List.length_take]; omega)] at hu
   cases hu
 ·exact (h.2 i hi).imp (fun b hb=>⟨hb.1, hb.2.1⟩) (fun _ _=>rfl)
theorem infoMo : (Tryz.prog.info? 48).map (fun i=>(i.zero, i.size, i.bytes)) = some (some (.agg #[.int .i64 0, .string ⟨#[]⟩, .slice none 0 0]), 3, 48):=by kernel_rfl
theorem wpList_pushM {w : World} {ops : Array Oper} {rest : List Oper} {o : Oper} {a : Act} {Q : Exit → Act → World → Prop} (hgd : o.guard = none) (sl x : Operand)
  (ho : o.op = .call { callee:=.builtin .append, args:=#[sl, x], argTypes:=#[26, 26] })
  (base : Nat) (v : Value) (xs : List Value) (done : List Mo) (hs : a.eval sl = v) (hG : GathM w base v xs done) (g : Nat) (hx : a.eval x = .slice (some ⟨g, 0, none⟩) 1 1)
  {e : Mo} {p q r : Value} (hB : Blk w g 48 #[p, q, r]) (hL : MoAt w (fun b=>base ≤ b ∧ b < w.heap.size ∧ v.ownBlock ≠ some b) e [p, q, r]) (hl : done.length < 1000000) (hbase : base ≤ w.heap.size)
  (h : ∀ v' w', GathM w' base v' (xs ++ [p, q, r]) (done ++ [e]) → Below base w w' → wpList Tryz.prog ops Q rest (a.put o.dst v') w') : wpList Tryz.prog ops Q (o :: rest) a w:=by
 obtain ⟨i0, hi, hz0, hz1, hz2⟩:=infoP infoMo
 refine wpList_append_own_at w hgd sl x 26 ho base 48 i0 _ 3 48 Tryz.underlying26 hi hz0 hz1 hz2 rfl (by decide) v done.length xs hs hG.1 ⟨g, 0, none⟩ 1 1 [p, q, r] hx rfl (fun j u hj=>?_) (fun u hu=>?_) (by unfold maxLen; omega) (by omega) hbase (fun v' w' hown' hgr _ hat=>?_)
 ·rw [Addr.add_lit, Nat.zero_add, hB.cell j]
  simpa using hj
 ·obtain ⟨V, vc, hcs, _⟩:=hL
  simp only [List.cons.injEq, and_true] at hcs
  obtain ⟨rfl, rfl, rfl⟩:=hcs
  simp at hu
  rcases hu with rfl | rfl | rfl <;> rfl
 ·exact h v' w' (hG.step rfl hL hown' hgr hat) ((Below.refl _ _).grown hgr hbase (fun k hk=>(hG.1.lt k hk).1))
set_option maxHeartbeats 4000000 in
theorem eachOfA_any (e : Be.El) (t : Nat) (b : ByteArray) (A : Option Addr) (n c : Nat) (w : World) (hfew : Few e) (hL : Be.Lies w (· < w.heap.size) e [.int .u8 (t : Nat), .string b, .slice A n c]) :
  Calls Tryz.prog 98 #[.agg #[.int .u8 (t : Nat), .string b, .slice A n c], .func (.func 100) #[] #[]] w (NewMos w ((kidsE e).map rdAttr)):=by
 obtain ⟨rfl, -, -, -, ds, hK⟩:=kids_of hL
 have hlen:=hfew.len
 have hfk : ∀ k ∈ kidsE e, Few k:=by
  cases e
  exact hfew.open_.2.2
 have hb0:=(Below.refl w.heap.size w).alloc (Nat.le_refl _) (.cells #[.int .u8 (t : Nat), .string b, .slice A (kidsE e).length c] 57)
 have hbW:=Lib.hid hb0
 have HK:=Lib.hid hK
 obtain ⟨l, hl⟩ : ∃ l, l = (kidsE e).map rdAttr:=⟨_, rfl⟩
 have hmt:=map_take rdAttr (kidsE e)
 rw [← hl] at hmt ⊢
 have HM:=Lib.hid hmt
 generalize kidsE e = ks at hlen HK HM hK hbW hb0 hl hmt hL hfk ⊢
 have HFK:=Lib.hid hfk
 clear hK hb0 hl hmt hL hfew hfk
 go_enter Tryz.func98, Tryz.ntmps98
 go_wp2_with fail
 go_loopw [5, 11] (fun v i wr=>∃ (q : Nat) (xs : List Value), q ≤ ks.length ∧ i = .int .i64 q ∧ Hid (GathM wr w.heap.size v xs (l.take q)) ∧ Below w.heap.size w wr) (fun v i wr=>ks.length - (intOf i).toNat)
 case atStart=>exact ⟨0, [], Nat.zero_le _, rfl, GathM.nil _ _, hbW.out⟩
 case round =>
  obtain ⟨q, xs, hq, rfl, hG, hb⟩:=hrel
  have hsz:=hb.size
  by_cases hlt : q < ks.length
  ·obtain ⟨ad, t1, b1, A1, n1, c1, rfl, hp, f0, f1, f2, hL⟩:=HK.out.kid5 hb hlt
   have hb1:=hb.alloc hsz (.cells #[.int .u8 (t1 : Nat), .string b1, .slice A1 n1 c1] 57)
   have HC:=Lib.hid (readAttr_any ks[q] t1 b1 A1 n1 c1 _ (HFK.out _ (List.getElem_mem hlt)) (hL.past ((Below.refl _ _).alloc (Nat.le_refl _) (.cells #[.int .u8 (t1 : Nat), .string b1, .slice A1 n1 c1] 57))))
   have HG:=Lib.hid (hG.out.alloc (.cells #[.int .u8 (t1 : Nat), .string b1, .slice A1 n1 c1] 57))
   have hmt:=Lib.hid (HM.out.2 q hlt)
   have hll:=HM.out.1
   generalize rdAttr ks[q] = d at HC hmt
   clear hL hG hb
   go_wp2_with fail
   refine HC.out.mono ?_
   rintro e w1 ⟨V, vc, rfl, hb2, hM1⟩
   have hb3:=hb1.trans (hb2.mono hb1.size)
   have hz:=hb3.size
   have hzz:=hb1.size
   have hbA:=(Below.refl w1.heap.size w1).alloc (Nat.le_refl _) (.cells #[.int .i64 d.kind, .string d.attr, .slice V d.vals.length vc] 48)
   have HB:=Lib.hid (Blk.new w1 48 #[.int .i64 d.kind, .string d.attr, .slice V d.vals.length vc])
   have HG1:=Lib.hid ((HG.out.past hb2).alloc (.cells #[.int .i64 d.kind, .string d.attr, .slice V d.vals.length vc] 48))
   have hM2:=freshM HG.out hzz hM1 (fun _ h=>h)
   have HL:=Lib.hid (hM2.imp (fun b hb'=>(⟨hb'.1, Nat.lt_of_lt_of_le hb'.2.1 hbA.size, hb'.2.2⟩ : w.heap.size ≤ b ∧ b < (w1.alloc (.cells #[.int .i64 d.kind, .string d.attr, .slice V d.vals.length vc] 48)).heap.size ∧ _)) (fun p hp=>hbA.cell hp.2.1))
   have hz2 : w.heap.size ≤ (w1.alloc (.cells #[.int .i64 d.kind, .string d.attr, .slice V d.vals.length vc] 48)).heap.size:=by simp; omega
   have hdl : (l.take q).length < 1000000:=by rw [List.length_take]; omega
   clear hb1 hb2 hll hM1 hM2 hbA hzz
   go_wp2_with (at_builtin; go_loud (refine wpList_pushM rfl _ _ rfl w.heap.size _ _ _ rfl HG1.out w1.heap.size rfl HB.out HL.out hdl hz2 ?_))
   intro v' w2 hG2 hb4
   rw [← hmt.out] at hG2
   have HG2:=Lib.hid hG2
   have hb5:=(hb3.alloc hz (.cells #[.int .i64 d.kind, .string d.attr, .slice V d.vals.length vc] 48)).trans hb4
   clear hG2
   go_wp2_with fail
   refine ⟨⟨q + 1, _, by omega, by go_num, HG2, hb5⟩, by simp [intOf]; omega⟩
  ·have hq2 : q = ks.length:=by omega
   subst hq2
   have hG1:=hG.out
   rw [List.take_of_length_le (by rw [HM.out.1]; omega)] at hG1
   obtain ⟨A', c', dd, rfl, hc', hS⟩:=hG1.shut
   have HS:=Lib.hid hS
   clear hG hG1 hS
   go_wp2_with fail
   go_ret
   exact ⟨_, _, _, rfl, hb, hc', HS.out⟩
set_option maxHeartbeats 4000000 in
theorem eachOfM_any (e : Be.El) (t : Nat) (b : ByteArray) (A : Option Addr) (n c : Nat) (w : World) (hfew : Few e) (hL : Be.Lies w (· < w.heap.size) e [.int .u8 (t : Nat), .string b, .slice A n c]) :
  Calls Tryz.prog 98 #[.agg #[.int .u8 (t : Nat), .string b, .slice A n c], .func (.func 99) #[] #[]] w (NewMos w ((kidsE e).map rdModW)):=by
 obtain ⟨rfl, -, -, -, ds, hK⟩:=kids_of hL
 have hlen:=hfew.len
 have hfk : ∀ k ∈ kidsE e, Few k:=by
  cases e
  exact hfew.open_.2.2
 have hb0:=(Below.refl w.heap.size w).alloc (Nat.le_refl _) (.cells #[.int .u8 (t : Nat), .string b, .slice A (kidsE e).length c] 57)
 have hbW:=Lib.hid hb0
 have HK:=Lib.hid hK
 obtain ⟨l, hl⟩ : ∃ l, l = (kidsE e).map rdModW:=⟨_, rfl⟩
 have hmt:=map_take rdModW (kidsE e)
 rw [← hl] at hmt ⊢
 have HM:=Lib.hid hmt
 generalize kidsE e = ks at hlen HK HM hK hbW hb0 hl hmt hL hfk ⊢
 have HFK:=Lib.hid hfk
 clear hK hb0 hl hmt hL hfew hfk
 go_enter Tryz.func98, Tryz.ntmps98
 go_wp2_with fail
 go_loopw [5, 11] (fun v i wr=>∃ (q : Nat) (xs : List Value), q ≤ ks.length ∧ i = .int .i64 q ∧ Hid (GathM wr w.heap.size v xs (l.take q)) ∧ Below w.heap.size w wr) (fun v i wr=>ks.length - (intOf i).toNat)
 case atStart=>exact ⟨0, [], Nat.zero_le _, rfl, GathM.nil _ _, hbW.out⟩
 case round =>
  obtain ⟨q, xs, hq, rfl, hG, hb⟩:=hrel
  have hsz:=hb.size
  by_cases hlt : q < ks.length
  ·obtain ⟨ad, t1, b1, A1, n1, c1, rfl, hp, f0, f1, f2, hL⟩:=HK.out.kid5 hb hlt
   have hb1:=hb.alloc hsz (.cells #[.int .u8 (t1 : Nat), .string b1, .slice A1 n1 c1] 57)
   have HC:=Lib.hid (readMod_any ks[q] t1 b1 A1 n1 c1 _ (HFK.out _ (List.getElem_mem hlt)) (hL.past ((Below.refl _ _).alloc (Nat.le_refl _) (.cells #[.int .u8 (t1 : Nat), .string b1, .slice A1 n1 c1] 57))))
   have HG:=Lib.hid (hG.out.alloc (.cells #[.int .u8 (t1 : Nat), .string b1, .slice A1 n1 c1] 57))
   have hmt:=Lib.hid (HM.out.2 q hlt)
   have hll:=HM.out.1
   generalize rdModW ks[q] = d at HC hmt
   clear hL hG hb
   go_wp2_with fail
   refine HC.out.mono ?_
   rintro e w1 ⟨V, vc, rfl, hb2, hM1⟩
   have hb3:=hb1.trans (hb2.mono hb1.size)
   have hz:=hb3.size
   have hzz:=hb1.size
   have hbA:=(Below.refl w1.heap.size w1).alloc (Nat.le_refl _) (.cells #[.int .i64 d.kind, .string d.attr, .slice V d.vals.length vc] 48)
   have HB:=Lib.hid (Blk.new w1 48 #[.int .i64 d.kind, .string d.attr, .slice V d.vals.length vc])
   have HG1:=Lib.hid ((HG.out.past hb2).alloc (.cells #[.int .i64 d.kind, .string d.attr, .slice V d.vals.length vc] 48))
   have hM2:=freshM HG.out hzz hM1 (fun _ h=>h)
   have HL:=Lib.hid (hM2.imp (fun b hb'=>(⟨hb'.1, Nat.lt_of_lt_of_le hb'.2.1 hbA.size, hb'.2.2⟩ : w.heap.size ≤ b ∧ b < (w1.alloc (.cells #[.int .i64 d.kind, .string d.attr, .slice V d.vals.length vc] 48)).heap.size ∧ _)) (fun p hp=>hbA.cell hp.2.1))
   have hz2 : w.heap.size ≤ (w1.alloc (.cells #[.int .i64 d.kind, .string d.attr, .slice V d.vals.length vc] 48)).heap.size:=by simp; omega
   have hdl : (l.take q).length < 1000000:=by rw [List.length_take]; omega
   clear hb1 hb2 hll hM1 hM2 hbA hzz
   go_wp2_with (at_builtin; go_loud (refine wpList_pushM rfl _ _ rfl w.heap.size _ _ _ rfl HG1.out w1.heap.size rfl HB.out HL.out hdl hz2 ?_))
   intro v' w2 hG2 hb4
   rw [← hmt.out] at hG2
   have HG2:=Lib.hid hG2
   have hb5:=(hb3.alloc hz (.cells #[.int .i64 d.kind, .string d.attr, .slice V d.vals.length vc] 48)).trans hb4
   clear hG2
   go_wp2_with fail
   refine ⟨⟨q + 1, _, by omega, by go_num, HG2, hb5⟩, by simp [intOf]; omega⟩
  ·have hq2 : q = ks.length:=by omega
   subst hq2
   have hG1:=hG.out
   rw [List.take_of_length_le (by rw [HM.out.1]; omega)] at hG1
   obtain ⟨A', c', dd, rfl, hc', hS⟩:=hG1.shut
   have HS:=Lib.hid hS
   clear hG hG1 hS
   go_wp2_with fail
   go_ret
   exact ⟨_, _, _, rfl, hb, hc', HS.out⟩
end Go.Proofs.YtconghaebebncaaGreatDoor.Ms
namespace Go.Proofs.YtconghaebebncaaGreatDoor.Ms
open Go.RowKit
def NewFil (w : World) (f : Fil) (r : Ending) (w' : World) : Prop :=
 ∃ (k : Int) (a v : ByteArray) (S : Option Addr) (m sc : Nat) (A : Option Addr) (n c : Nat), r = .returned (.agg #[.int .i64 k, .string a, .string v, .slice S m sc, .slice A n c]) ∧ Below w.heap.size w w' ∧
  Fi.Lies w' (fun b=>w.heap.size ≤ b ∧ b < w'.heap.size) f [.int .i64 k, .string a, .string v, .slice S m sc, .slice A n c]
def NewFils (w : World) (l : List Fil) (r : Ending) (w' : World) : Prop :=
 ∃ (A : Option Addr) (c : Nat) (ds : Nat → List Value), r = .returned (.slice A l.length c) ∧ Below w.heap.size w w' ∧ l.length ≤ c ∧ Fi.KidsAt w' (fun b=>w.heap.size ≤ b ∧ b < w'.heap.size) A l ds
def SaidRF (e : Be.El) : Prop:=∀ (t : Nat) (b : ByteArray) (A : Option Addr) (n c : Nat) (w : World), Few e → Glob w → Be.Lies w (· < w.heap.size) e [.int .u8 (t : Nat), .string b, .slice A n c] →
  Calls Tryz.prog 95 #[.agg #[.int .u8 (t : Nat), .string b, .slice A n c]] w (NewFil w (rdFil e))
theorem wpList_pushF {w : World} {ops : Array Oper} {rest : List Oper} {o : Oper} {a : Act} {Q : Exit → Act → World → Prop} (hgd : o.guard = none) (sl x : Operand)
  (ho : o.op = .call { callee:=.builtin .append, args:=#[sl, x], argTypes:=#[23, 23] })
  (base : Nat) (v : Value) (xs : List Value) (done : List Fil) (hs : a.eval sl = v) (hG : Fi.Gath w base v xs done) (g : Nat) (hx : a.eval x = .slice (some ⟨g, 0, none⟩) 1 1)
  {e : Fil} {p q r s t : Value} (hB : Blk w g 25 #[p, q, r, s, t]) (hL : Fi.Lies w (fun b=>base ≤ b ∧ b < w.heap.size ∧ v.ownBlock ≠ some b) e [p, q, r, s, t]) (hl : done.length < 1000000) (hbase : base ≤ w.heap.size)
  (h : ∀ v' w', Fi.Gath w' base v' (xs ++ [p, q, r, s, t]) (done ++ [e]) → Below base w w' → wpList Tryz.prog ops Q rest (a.put o.dst v') w') : wpList Tryz.prog ops Q (o :: rest) a w:=by
 obtain ⟨i0, hi, hz0, hz1, hz2⟩:=infoP Fi.infoFil
 refine wpList_append_own_at w hgd sl x 23 ho base 25 i0 _ 5 88 Tryz.underlying23 hi hz0 hz1 hz2 rfl (by decide) v done.length xs hs hG.1 ⟨g, 0, none⟩ 1 1 [p, q, r, s, t] hx rfl (fun j u hj=>?_) (fun u hu=>?_) (by unfold maxLen; omega) (by omega) hbase (fun v' w' hown' hgr _ hat=>?_)
 ·rw [Addr.add_lit, Nat.zero_add, hB.cell j]
  simpa using hj
 ·obtain ⟨k', a', v', S', m', sc', A', n', c', hcs⟩:=hL.form
  simp only [List.cons.injEq, and_true] at hcs
  obtain ⟨rfl, rfl, rfl, rfl, rfl⟩:=hcs
  simp at hu
  rcases hu with rfl | rfl | rfl | rfl | rfl <;> rfl
 ·exact h v' w' (hG.step rfl hL hown' hgr hat) ((Below.refl _ _).grown hgr hbase (fun k hk=>(hG.1.lt k hk).1))
theorem freshF {w w1 : World} {base : Nat} {v : Value} {xs : List Value} {done : List Fil} {P : Nat → Prop} {e : Fil} {cs : List Value} (hG : Fi.Gath w base v xs done) (hbase : base ≤ w.heap.size) (h : Fi.Lies w1 P e cs) (hP : ∀ b, P b → w.heap.size ≤ b ∧ b < w1.heap.size) :
  Fi.Lies w1 (fun b=>base ≤ b ∧ b < w1.heap.size ∧ v.ownBlock ≠ some b) e cs :=
 h.imp (fun b hb=>⟨Nat.le_trans hbase (hP b hb).1, (hP b hb).2, fun e=>by have:=(hG.1.lt b e).2; have:=(hP b hb).1; omega⟩) (fun _ _=>rfl)
set_option maxHeartbeats 4000000 in
theorem eachOfF_any (e : Be.El) (ih : ∀ k ∈ kidsE e, SaidRF k) (t : Nat) (b : ByteArray) (A : Option Addr) (n c : Nat) (w : World) (hfew : Few e) (hGl : Glob w) (hL : Be.Lies w (· < w.heap.size) e [.int .u8 (t : Nat), .string b, .slice A n c]) :
  Calls Tryz.prog 128 #[.agg #[.int .u8 (t : Nat), .string b, .slice A n c], .func (.func 95) #[] #[]] w (NewFils w (rdFils (kidsE e))):=by
 obtain ⟨rfl, -, -, -, ds, hK⟩:=kids_of hL
 have hlen:=hfew.len
 have hfk : ∀ k ∈ kidsE e, Few k:=by
  cases e
  exact hfew.open_.2.2
 have hb0:=(Below.refl w.heap.size w).alloc (Nat.le_refl _) (.cells #[.int .u8 (t : Nat), .string b, .slice A (kidsE e).length c] 57)
 have hbW:=Lib.hid hb0
 have HK:=Lib.hid hK
 obtain ⟨l, hl⟩ : ∃ l, l = rdFils (kidsE e):=⟨_, rfl⟩
 have hmt:=map_take rdFil (kidsE e)
 rw [← rdFils_map, ← hl] at hmt
 rw [← hl]
 have HM:=Lib.hid hmt
 generalize kidsE e = ks at hlen HK HM hK hbW hb0 hl hmt hL hfk ih ⊢
 have HFK:=Lib.hid hfk
 have Ih:=Lib.hid ih
 have HGl:=Lib.hid hGl
 clear hK hb0 hl hmt hL hfew hfk ih hGl
 go_enter Tryz.func128, Tryz.ntmps128
 go_wp2_with fail
 go_loopw [5, 11] (fun v i wr=>∃ (q : Nat) (xs : List Value), q ≤ ks.length ∧ i = .int .i64 q ∧ Hid (Fi.Gath wr w.heap.size v xs (l.take q)) ∧ Below w.heap.size w wr) (fun v i wr=>ks.length - (intOf i).toNat)
 case atStart=>exact ⟨0, [], Nat.zero_le _, rfl, Fi.Gath.nil _ _, hbW.out⟩
 case round =>
  obtain ⟨q, xs, hq, rfl, hG, hb⟩:=hrel
  have hsz:=hb.size
  by_cases hlt : q < ks.length
  ·obtain ⟨ad, t1, b1, A1, n1, c1, rfl, hp, f0, f1, f2, hL⟩:=HK.out.kid5 hb hlt
   have hb1:=hb.alloc hsz (.cells #[.int .u8 (t1 : Nat), .string b1, .slice A1 n1 c1] 57)
   have HC:=Lib.hid (Ih.out ks[q] (List.getElem_mem hlt) t1 b1 A1 n1 c1 _ (HFK.out _ (List.getElem_mem hlt)) (HGl.out.past hb1) (hL.past ((Below.refl _ _).alloc (Nat.le_refl _) (.cells #[.int .u8 (t1 : Nat), .string b1, .slice A1 n1 c1] 57))))
   have HG:=Lib.hid (hG.out.alloc (.cells #[.int .u8 (t1 : Nat), .string b1, .slice A1 n1 c1] 57))
   have hmt:=Lib.hid (HM.out.2 q hlt)
   have hll:=HM.out.1
   generalize rdFil ks[q] = d at HC hmt
   clear hL hG hb
   go_wp2_with fail
   refine HC.out.mono ?_
   rintro e w1 ⟨k2, a2, v2, S2, m2, sc2, A2, n2, c2, rfl, hb2, hM1⟩
   have hb3:=hb1.trans (hb2.mono hb1.size)
   have hz:=hb3.size
   have hzz:=hb1.size
   have hbA:=(Below.refl w1.heap.size w1).alloc (Nat.le_refl _) (.cells #[.int .i64 k2, .string a2, .string v2, .slice S2 m2 sc2, .slice A2 n2 c2] 25)
   have HB:=Lib.hid (Blk.new w1 25 #[.int .i64 k2, .string a2, .string v2, .slice S2 m2 sc2, .slice A2 n2 c2])
   have HG1:=Lib.hid ((HG.out.past hb2).alloc (.cells #[.int .i64 k2, .string a2, .string v2, .slice S2 m2 sc2, .slice A2 n2 c2] 25))
   have hM2:=freshF HG.out hzz hM1 (fun _ h=>h)
   have HL:=Lib.hid (hM2.imp (fun b hb'=>(⟨hb'.1, Nat.lt_of_lt_of_le hb'.2.1 hbA.size, hb'.2.2⟩ : w.heap.size ≤ b ∧ b < (w1.alloc (.cells #[.int .i64 k2, .string a2, .string v2, .slice S2 m2 sc2, .slice A2 n2 c2] 25)).heap.size ∧ _)) (fun p hp=>hbA.cell hp.2.1))
   have hz2 : w.heap.size ≤ (w1.alloc (.cells #[.int .i64 k2, .string a2, .string v2, .slice S2 m2 sc2, .slice A2 n2 c2] 25)).heap.size:=by simp; omega
   have hdl : (l.take q).length < 1000000:=by rw [List.length_take]; omega
   clear hb1 hb2 hll hM1 hM2 hbA hzz
   go_wp2_with (at_builtin; go_loud (refine wpList_pushF rfl _ _ rfl w.heap.size _ _ _ rfl HG1.out w1.heap.size rfl HB.out HL.out hdl hz2 ?_))
   intro v' w2 hG2 hb4
   rw [← hmt.out] at hG2
   have HG2:=Lib.hid hG2
   have hb5:=(hb3.alloc hz (.cells #[.int .i64 k2, .string a2, .string v2, .slice S2 m2 sc2, .slice A2 n2 c2] 25)).trans hb4
   clear hG2
   go_wp2_with fail
   refine ⟨⟨q + 1, _, by omega, by go_num, HG2, hb5⟩, by simp [intOf]; omega⟩
  ·have hq2 : q = ks.length:=by omega
   subst hq2
   have hG1:=hG.out
   rw [List.take_of_length_le (by rw [HM.out.1]; omega)] at hG1
   obtain ⟨A', c', dd, rfl, hc', hS⟩:=hG1.shut
   have HS:=Lib.hid hS
   clear hG hG1 hS
   go_wp2_with fail
   go_ret
   exact ⟨_, _, _, rfl, hb, hc', HS.out⟩
end Go.Proofs.YtconghaebebncaaGreatDoor.Ms
