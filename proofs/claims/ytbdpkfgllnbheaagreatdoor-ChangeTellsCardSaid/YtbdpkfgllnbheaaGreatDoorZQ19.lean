import Derived.Test.YtbdpkfgllnbheaaGreatDoorZQ18
set_option linter.unusedVariables false
set_option maxRecDepth 100000
namespace Go.Proofs.YtbdpkfgllnbheaaGreatDoor.Ch
open Go.RowKit
theorem OwnS_shut {w : World} {base : Nat} {v : Value} {ps : List ByteArray} (h : OwnS w base v ps) :
  ∃ (A : Option Addr) (c : Nat), v = .slice A ps.length c ∧ ps.length ≤ c ∧ StrsAt w (fun b=>base ≤ b ∧ b < w.heap.size) A ps:=by
 have h':=h
 rcases h'.2 with ⟨rfl, h0⟩ | ⟨g, cap, cur, rfl, _, _, hc, _⟩
 ·refine ⟨none, 0, by rw [h0], by omega, fun h1=>by omega⟩
 ·refine ⟨_, _, rfl, hc, fun h0=>?_⟩
  obtain ⟨g', cap', hv, hg, hlt⟩:=World.ownsRow.form h h0
  injection hv with hv1 hv2 hv3
  injection hv1 with hv1
  injection hv1 with hv1
  subst hv1
  refine ⟨_, rfl, ⟨hg, hlt⟩, fun i hi=>?_⟩
  have:=World.ownsRow.cells h (g:=g) rfl i (.string ps[i]) (by rw [List.getElem?_map, List.getElem?_eq_getElem hi]; rfl)
  exact this
theorem own_grown {w w' : World} {base : Nat} {e : TypeId} {size : Nat} {v : Value} {n : Nat} {xs : List Value} {row : Option Nat} (h : w.ownsRow base e size v n xs) (hg : w.grownBy w' row) (hne : ∀ g, v.ownBlock = some g → some g ≠ row) : w'.ownsRow base e size v n xs:=by
 refine ⟨h.1, ?_⟩
 rcases h.2 with hn | ⟨g, cap, cur, rfl, hb, hB, hr⟩
 ·exact .inl hn
 ·refine .inr ⟨g, cap, cur, rfl, hb, (hg.block g ?_ (hne g rfl)).trans hB, hr⟩
  rcases Nat.lt_or_ge g w.heap.size with hlt | hge
  ·exact hlt
  ·rw [Array.getElem?_eq_none hge] at hB; cases hB
theorem own_two {w : World} {base base' : Nat} {e e' : TypeId} {size size' : Nat} {v v' : Value} {n n' : Nat} {xs xs' : List Value} (h : w.ownsRow base e size v n xs) (h' : w.ownsRow base' e' size' v' n' xs') (ht : e ≠ e') : ∀ g, v.ownBlock = some g → some g ≠ v'.ownBlock:=by
 intro g hg e9
 rcases h.2 with ⟨rfl, _⟩ | ⟨g1, cap, cur, rfl, hb, hB, hr⟩
 ·cases hg
 rcases h'.2 with ⟨rfl, _⟩ | ⟨g2, cap', cur', rfl, hb', hB', hr'⟩
 ·cases e9
 have e1 : g1 = g:=Option.some.inj hg
 have e2 : g = g2:=Option.some.inj e9
 subst e1 e2
 rw [hB] at hB'
 injection hB' with h9
 injection h9 with _ h9 _
 exact ht h9
def MoOwn (w : World) (base : Nat) (d : Mo) (cs : List Value) : Prop :=
 ∃ V : Value, cs = [.int .i64 d.kind, .string d.attr, V] ∧ OwnS w base V d.vals ∧ d.attr.size ≤ maxLen ∧ d.vals.length ≤ maxLen ∧ ∀ s ∈ d.vals, s.size ≤ maxLen
theorem MoOwn.past {w w' : World} {base : Nat} {d : Mo} {cs : List Value} (h : MoOwn w base d cs) (hb : Below w.heap.size w w') : MoOwn w' base d cs:=by
 obtain ⟨V, h1, h2, h3⟩:=h
 exact ⟨V, h1, h2.past hb, h3⟩
theorem MoOwn.more {w : World} {base base' : Nat} {d : Mo} {cs : List Value} (h : MoOwn w base d cs) (hb : base' ≤ base) : MoOwn w base' d cs:=by
 obtain ⟨V, h1, h2, h3⟩:=h
 exact ⟨V, h1, own_more h2 hb, h3⟩
theorem MoOwn.at {w : World} {base : Nat} {d : Mo} {cs : List Value} (h : MoOwn w base d cs) : MoAt w (fun b=>base ≤ b ∧ b < w.heap.size) d cs:=by
 obtain ⟨V, rfl, h2, h3, h4, h5⟩:=h
 obtain ⟨A, c, rfl, hc, hS⟩:=OwnS_shut h2
 exact ⟨A, c, rfl, h3, h4, hc, hS, h5⟩
theorem MoOwn.len {w : World} {base : Nat} {d : Mo} {cs : List Value} (h : MoOwn w base d cs) : cs.length = 3:=by obtain ⟨V, rfl, _⟩:=h; rfl
theorem MoOwn.one {w : World} {base : Nat} {d : Mo} {cs : List Value} (h : MoOwn w base d cs) : ∀ u ∈ cs, u.oneCell' = true:=by
 obtain ⟨V, rfl, h2, _⟩:=h
 obtain ⟨A, c, rfl, _⟩:=OwnS_shut h2
 intro u hu
 simp at hu
 rcases hu with rfl | rfl | rfl <;> rfl
def GathO (w : World) (base : Nat) (v : Value) (xs : List Value) (done : List Mo) : Prop :=
 w.ownsRow base 44 3 v done.length xs ∧ ∀ i (h : i < done.length), MoOwn w base done[i] ((xs.drop (i * 3)).take 3)
theorem GathO.nil (w : World) (base : Nat) : GathO w base (.slice none 0 0) [] []:=⟨World.ownsRow_nil _ _ _ _, fun i h=>absurd h (by simp)⟩
theorem GathO.past {w w' : World} {base : Nat} {v : Value} {xs : List Value} {done : List Mo} (h : GathO w base v xs done) (hb : Below w.heap.size w w') : GathO w' base v xs done :=
 ⟨own_past h.1 hb, fun i hi=>(h.2 i hi).past hb⟩
theorem GathO.alloc {w : World} {base : Nat} {v : Value} {xs : List Value} {done : List Mo} (h : GathO w base v xs done) (o : Obj) : GathO (w.alloc o) base v xs done:=h.past ((Below.refl _ _).alloc (Nat.le_refl _) o)
theorem GathO.step {w w' : World} {base : Nat} {v v' : Value} {xs ys : List Value} {done : List Mo} {e : Mo} (h : GathO w base v xs done)
  (hl : MoOwn w base e ys) (hown : w'.ownsRow base 44 3 v' (done.length + 1) (xs ++ ys))
  (hg : w.grownBy w' v.ownBlock) : GathO w' base v' (xs ++ ys) (done ++ [e]):=by
 have hxl : xs.length = done.length * 3:=h.1.1
 have hys:=hl.len
 have keep : ∀ {e : Mo} {cs : List Value}, MoOwn w base e cs → MoOwn w' base e cs:=by
  intro e cs hl
  obtain ⟨V, h1, h2, h3⟩:=hl
  exact ⟨V, h1, own_grown h2 hg (own_two h2 h.1 (by decide)), h3⟩
 refine ⟨by simpa using hown, fun i hi=>?_⟩
 rw [List.length_append, List.length_singleton] at hi
 by_cases hlt : i < done.length
 ·have e1 : ((xs ++ ys).drop (i * 3)).take 3 = (xs.drop (i * 3)).take 3:=by
   rw [List.drop_append_of_le_length (by omega), List.take_append_of_le_length (by rw [List.length_drop]; omega)]
  rw [e1, List.getElem_append_left hlt]
  exact keep (h.2 i hlt)
 ·have hi' : i = done.length:=by omega
  subst hi'
  have e1 : ((xs ++ ys).drop (done.length * 3)).take 3 = ys:=by
   rw [← hxl, List.drop_left, List.take_of_length_le (by omega)]
  rw [e1, List.getElem_append_right (Nat.le_refl _)]
  simpa using keep hl
theorem GathO.shut {w : World} {base : Nat} {v : Value} {xs : List Value} {done : List Mo} (h : GathO w base v xs done) :
  ∃ (A : Option Addr) (c : Nat) (ds : Nat → List Value), v = .slice A done.length c ∧ done.length ≤ c ∧ MosAt w (fun b=>base ≤ b ∧ b < w.heap.size) A done ds:=by
 have hf : ∃ (A : Option Addr) (c : Nat), v = .slice A done.length c ∧ done.length ≤ c:=by
  rcases h.1.2 with ⟨rfl, h0⟩ | ⟨g, cap, cur, rfl, _, _, hc, _⟩
  ·exact ⟨none, 0, by rw [h0], by omega⟩
  ·exact ⟨_, _, rfl, hc⟩
 obtain ⟨A, c, rfl, hc⟩:=hf
 refine ⟨A, c, fun i=>(xs.drop (i * 3)).take 3, rfl, hc, fun h0=>?_, fun i hi=>(h.2 i hi).at⟩
 obtain ⟨g, cap, hv, hg, hlt⟩:=World.ownsRow.form h.1 h0
 have hA : A = some ⟨g, 0, none⟩:=by injection hv
 subst hA
 refine ⟨_, rfl, ⟨hg, hlt⟩, fun i hi j u hu=>?_⟩
 refine World.ownsRow.cells h.1 (g:=g) rfl (i * 3 + j) u ?_
 by_cases hj : j < 3
 ·rw [List.getElem?_take_of_lt hj, List.getElem?_drop] at hu
  exact hu
 ·rw [List.getElem?_eq_none (by rw [List.length_take]; omega)] at hu
  cases hu
theorem infoMo : (Tryz.prog.info? 44).map (fun i=>(i.zero, i.size, i.bytes)) = some (some (.agg #[.int .i64 0, .string ⟨#[]⟩, .slice none 0 0]), 3, 48):=by kernel_rfl
theorem wpList_pushM {w : World} {ops : Array Oper} {rest : List Oper} {o : Oper} {a : Act} {Q : Exit → Act → World → Prop} (hgd : o.guard = none) (sl x : Operand)
  (ho : o.op = .call { callee:=.builtin .append, args:=#[sl, x], argTypes:=#[26, 26] })
  (base : Nat) (v : Value) (xs : List Value) (done : List Mo) (hs : a.eval sl = v) (hG : GathO w base v xs done) (g : Nat) (hx : a.eval x = .slice (some ⟨g, 0, none⟩) 1 1)
  {e : Mo} {p q r : Value} (hB : Blk w g 44 #[p, q, r]) (hL : MoOwn w base e [p, q, r]) (hl : done.length < 1000000) (hbase : base ≤ w.heap.size)
  (h : ∀ v' w', GathO w' base v' (xs ++ [p, q, r]) (done ++ [e]) → Below base w w' → wpList Tryz.prog ops Q rest (a.put o.dst v') w') : wpList Tryz.prog ops Q (o :: rest) a w:=by
 obtain ⟨i0, hi, hz0, hz1, hz2⟩:=infoP infoMo
 refine wpList_append_own_at w hgd sl x 26 ho base 44 i0 _ 3 48 Tryz.underlying26 hi hz0 hz1 hz2 rfl (by decide) v done.length xs hs hG.1 ⟨g, 0, none⟩ 1 1 [p, q, r] hx rfl (fun j u hj=>?_) hL.one (by unfold maxLen; omega) (by omega) hbase (fun v' w' hown' hgr _ hat=>?_)
 ·rw [Addr.add_lit, Nat.zero_add, hB.cell j]
  simpa using hj
 ·exact h v' w' (hG.step hL hown' hgr) ((Below.refl _ _).grown hgr hbase (fun k hk=>(hG.1.lt k hk).1))
theorem wpList_pushV {w : World} {ops : Array Oper} {rest : List Oper} {o : Oper} {a : Act} {Q : Exit → Act → World → Prop} (hgd : o.guard = none) (sl x : Operand)
  (ho : o.op = .call { callee:=.builtin .append, args:=#[sl, x], argTypes:=#[24, 24] })
  (base : Nat) (v : Value) (r : List Nm.Ava) (hs : a.eval sl = v) (hown : OwnA w base v r) (g : Nat) (p q : ByteArray) (hx : a.eval x = .slice (some ⟨g, 0, none⟩) 1 1)
  (hB : Blk w g 41 #[.string p, .string q]) (hl : r.length ≤ 1099511627776) (hbase : base ≤ w.heap.size)
  (h : ∀ v' w', OwnA w' base v' (r ++ [(p, q)]) → Below base w w' → wpList Tryz.prog ops Q rest (a.put o.dst v') w') : wpList Tryz.prog ops Q (o :: rest) a w:=by
 obtain ⟨i0, hi, hz0, hz1, hz2⟩:=infoP infoA
 refine wpList_append_own_at w hgd sl x 24 ho base 41 i0 (.agg #[.string ⟨#[]⟩, .string ⟨#[]⟩]) 2 32 Tryz.underlying24 hi hz0 hz1 hz2 rfl (by decide) v r.length _ hs hown ⟨g, 0, none⟩ 1 1 [.string p, .string q] hx rfl (fun j u hj=>?_) (fun u hu=>?_) (by unfold maxLen; omega) (by omega) hbase (fun v' w' hown' hgr _ _=>h v' w' ?_ ?_)
 ·rw [Addr.add_lit, Nat.zero_add, hB.cell j]
  simpa using hj
 ·simp at hu
  rcases hu with rfl | rfl <;> rfl
 ·unfold OwnA
  rw [List.length_append, avaCells_app]
  exact hown'
 ·exact (Below.refl _ _).grown hgr hbase (fun k hk=>(hown.lt k hk).1)
def NewS (w : World) (l : List ByteArray) (r : Ending) (w' : World) : Prop:=∃ (A : Option Addr) (c : Nat), r = .returned (.slice A l.length c) ∧ Below w.heap.size w w' ∧ OwnS w' w.heap.size (.slice A l.length c) l
def NewM (w : World) (l : List Mo) (r : Ending) (w' : World) : Prop:=∃ (A : Option Addr) (c : Nat) (xs : List Value), r = .returned (.slice A l.length c) ∧ Below w.heap.size w w' ∧ GathO w' w.heap.size (.slice A l.length c) xs l
def NewA (w : World) (l : List Nm.Ava) (r : Ending) (w' : World) : Prop:=∃ (A : Option Addr) (c : Nat), r = .returned (.slice A l.length c) ∧ Below w.heap.size w w' ∧ OwnA w' w.heap.size (.slice A l.length c) l
theorem NewS.of {w w' : World} {l : List ByteArray} {V : Value} (hb : Below w.heap.size w w') (h : OwnS w' w.heap.size V l) : NewS w l (.returned V) w':=by
 obtain ⟨A, c, rfl, _⟩:=OwnS_shut h
 exact ⟨A, c, rfl, hb, h⟩
theorem NewM.of {w w' : World} {l : List Mo} {V : Value} {xs : List Value} (hb : Below w.heap.size w w') (h : GathO w' w.heap.size V xs l) : NewM w l (.returned V) w':=by
 obtain ⟨A, c, ds, rfl, _⟩:=h.shut
 exact ⟨A, c, xs, rfl, hb, h⟩
theorem NewA.of {w w' : World} {l : List Nm.Ava} {V : Value} (hb : Below w.heap.size w w') (h : OwnA w' w.heap.size V l) : NewA w l (.returned V) w':=by
 obtain ⟨A, c, rfl, _⟩:=h.rdn
 exact ⟨A, c, rfl, hb, h⟩
def NewMo (w : World) (d : Mo) (r : Ending) (w' : World) : Prop:=∃ p q v : Value, r = .returned (.agg #[p, q, v]) ∧ Below w.heap.size w w' ∧ MoOwn w' w.heap.size d [p, q, v]
def GOwn (w : World) (base : Nat) (c : Cg) (cs : Array Value) : Prop :=
 ∃ (R M : Value) (xs : List Value), cs = #[.int .i64 c.csn.t, .int .i64 c.csn.s, .int .i64 c.csn.r, .int .i64 c.kind, .int .i64 c.id.t, .int .i64 c.id.s, .int .i64 c.id.r, .int .i64 c.par.t, .int .i64 c.par.s, .int .i64 c.par.r, R, .bool c.del, M] ∧
  OwnA w base R c.rdn ∧ GathO w base M xs c.mods ∧ c.rdn.length ≤ maxLen ∧ c.mods.length ≤ maxLen
theorem GOwn.past {w w' : World} {base : Nat} {c : Cg} {cs : Array Value} (h : GOwn w base c cs) (hb : Below w.heap.size w w') : GOwn w' base c cs:=by
 obtain ⟨R, M, xs, h1, h2, h3, h4⟩:=h
 exact ⟨R, M, xs, h1, h2.past hb, h3.past hb, h4⟩
theorem GOwn.at {w : World} {base : Nat} {c : Cg} {cs : Array Value} (h : GOwn w base c cs) : GAt w (fun b=>base ≤ b ∧ b < w.heap.size) c cs:=by
 obtain ⟨R, M, xs, rfl, h2, h3, h4, h5⟩:=h
 obtain ⟨A, c1, rfl, k1, k2⟩:=h2.rdn
 obtain ⟨B, c2, ds, rfl, k3, k4⟩:=h3.shut
 exact ⟨A, c1, B, c2, ds, rfl, ⟨k2, h4, k1⟩, k4, h5, k3⟩
def NewG (w : World) (c : Cg) (r : Ending) (w' : World) : Prop:=∃ cs : Array Value, r = .returned (.agg cs) ∧ Below w.heap.size w w' ∧ GOwn w' w.heap.size c cs
end Go.Proofs.YtbdpkfgllnbheaaGreatDoor.Ch
namespace Go.Proofs.YtbdpkfgllnbheaaGreatDoor.Ch
open Go.RowKit
def Fx (w0 : World) (g : Nat) (s : TypeId) (cs : Array Value) (r : Nat) (t : TypeId) (n : Nat) (w : World) : Prop:=Blk w g s cs ∧ (∃ ds, ds.size = n ∧ Blk w r t ds) ∧ Below w0.heap.size w0 w
theorem Fx.past {w0 w w' : World} {g r n : Nat} {s t : TypeId} {cs : Array Value} (h : Fx w0 g s cs r t n w) (hb : Below w.heap.size w w') : Fx w0 g s cs r t n w':=by
 obtain ⟨h1, ⟨ds, h0, h2⟩, h3⟩:=h
 exact ⟨h1.past hb, ⟨ds, h0, h2.past hb⟩, h3.trans (hb.mono h3.size)⟩
theorem Fx.drew {w0 w : World} {g r n : Nat} {s t : TypeId} {cs : Array Value} (h : Fx w0 g s cs r t n w) : Fx w0 g s cs r t n w.drew:=h.past (Below.refl _ _).drew
theorem Fx.alloc {w0 w : World} {g r n : Nat} {s t : TypeId} {cs : Array Value} (h : Fx w0 g s cs r t n w) (o : Obj) : Fx w0 g s cs r t n (w.alloc o):=h.past ((Below.refl _ _).alloc (Nat.le_refl _) o)
theorem Fx.new (w : World) (s : TypeId) (cs ds : Array Value) (t : TypeId) : Fx w w.heap.size s cs (w.heap.size + 1) t ds.size ((w.alloc (.cells cs s)).alloc (.cells ds t)) :=
 ⟨(Blk.new w _ _).alloc _, ⟨ds, rfl, new2 w cs ds s t⟩, ((Below.refl _ _).alloc (Nat.le_refl _) _).alloc (by simp) _⟩
theorem Fx.row {w0 w : World} {g r n : Nat} {s t : TypeId} {cs : Array Value} (h : Fx w0 g s cs r t n w) (hne : g ≠ r) (hg : w0.heap.size ≤ r) (ds : Array Value) (hn : ds.size = n) : Fx w0 g s cs r t n (w.setRow r ds):=by
 obtain ⟨h1, ⟨ds', h0, h2⟩, h3⟩:=h
 exact ⟨(setRow_other w r g _ hne).trans h1, ⟨ds, hn, setRow_heap w r _ _ _ _ h2⟩, below_setRow h3 hg _⟩
theorem Fx.lt {w0 w : World} {g r n : Nat} {s t : TypeId} {cs : Array Value} (h : Fx w0 g s cs r t n w) : r < w.heap.size:=by
 obtain ⟨_, ⟨_, _, h2⟩, _⟩:=h
 exact h2.lt
theorem run_storeRow {w0 w : World} {g r n : Nat} {s t : TypeId} {cs ds : Array Value} {ev : Operand → Value} {o : Oper} {p q : Operand} (h : Fx w0 g s cs r t n w) (hn : ds.size = n) (hi : (Tryz.prog.info? t).map (·.size) = some n) (h1 : ds.all (·.oneCell') = true)
  (ho : o.op = .store t p q) (hp : ev p = .pointer (some ⟨r, 0, none⟩)) (hq : ev q = .agg ds) : (execOp ev o).run Tryz.prog w = .ok .skip (w.setRow r ds):=by
 obtain ⟨_, ⟨ds', h0, h2⟩, _⟩:=h
 unfold execOp
 simp only [ho, hp, hq, Instr.storeAt, Instr.sureAddr, Sem.run_bind, Sem.run_pure, Result.andThen_ok, run_storeVar_row w r _ t ds' ds h2 (by rw [hi, hn]) (by rw [h0, hn]) h1]
theorem run_loadRow {P : Program} {ev : Operand → Value} {o : Oper} {x : Operand} {w : World} {g : Nat} {t ty : TypeId} {cs : Array Value} {d : TypeDesc} (ho : o.op = .load ty x) (hx : ev x = .pointer (some ⟨g, 0, none⟩)) (h : Blk w g t cs)
  (hu : P.underlying ty = some d) (hd : (match d with | .struct _ | .array _ _=>true | _=>false) = true) (hi : (P.info? ty).map (·.size) = some cs.size) : (execOp ev o).run P w = .ok (.value (.agg cs)) w:=by
 unfold execOp
 simp only [ho, hx, Instr.loadAt, Instr.sureAddr, Sem.run_bind, Sem.run_pure, Result.andThen_ok, run_loadVar_row w g t ty cs (0, 0) d h hu hd hi]
theorem infoO3 : (Tryz.prog.info? 44).map (·.size) = some 3:=by kernel_rfl
theorem infoA2 : (Tryz.prog.info? 41).map (·.size) = some 2:=by kernel_rfl
theorem own_set {w : World} {base : Nat} {e : TypeId} {size : Nat} {v : Value} {n : Nat} {xs : List Value} (h : w.ownsRow base e size v n xs) {r : Nat} (hr : r < base) (ds : Array Value) : (w.setRow r ds).ownsRow base e size v n xs:=by
 refine ⟨h.1, ?_⟩
 rcases h.2 with hn | ⟨g, cap, cur, rfl, hb, hB, hr'⟩
 ·exact .inl hn
 ·exact .inr ⟨g, cap, cur, rfl, hb, (setRow_other w r g _ (by omega)).trans hB, hr'⟩
theorem MoOwn.set_ {w : World} {base : Nat} {d : Mo} {cs : List Value} (h : MoOwn w base d cs) {r : Nat} (hr : r < base) (ds : Array Value) : MoOwn (w.setRow r ds) base d cs:=by
 obtain ⟨V, h1, h2, h3⟩:=h
 exact ⟨V, h1, own_set h2 hr ds, h3⟩
theorem GathO.set_ {w : World} {base : Nat} {v : Value} {xs : List Value} {done : List Mo} (h : GathO w base v xs done) {r : Nat} (hr : r < base) (ds : Array Value) : GathO (w.setRow r ds) base v xs done :=
 ⟨own_set h.1 hr ds, fun i hi=>(h.2 i hi).set_ hr ds⟩
theorem GathO.more {w : World} {base base' : Nat} {v : Value} {xs : List Value} {done : List Mo} (h : GathO w base v xs done) (hb : base' ≤ base) : GathO w base' v xs done :=
 ⟨own_more h.1 hb, fun i hi=>(h.2 i hi).more hb⟩
theorem own_setC {w : World} {base : Nat} {e : TypeId} {size : Nat} {v : Value} {n : Nat} {xs : List Value} (h : w.ownsRow base e size v n xs) {p : Addr} (hr : p.block < base) (u : Value) : (w.setCell p u).ownsRow base e size v n xs:=by
 refine ⟨h.1, ?_⟩
 rcases h.2 with hn | ⟨g, cap, cur, rfl, hb, hB, hr'⟩
 ·exact .inl hn
 ·exact .inr ⟨g, cap, cur, rfl, hb, (Below.heap_setCell w p u g (by omega)).trans hB, hr'⟩
theorem MoOwn.setC {w : World} {base : Nat} {d : Mo} {cs : List Value} (h : MoOwn w base d cs) {p : Addr} (hr : p.block < base) (u : Value) : MoOwn (w.setCell p u) base d cs:=by
 obtain ⟨V, h1, h2, h3⟩:=h
 exact ⟨V, h1, own_setC h2 hr u, h3⟩
theorem GathO.setC {w : World} {base : Nat} {v : Value} {xs : List Value} {done : List Mo} (h : GathO w base v xs done) {p : Addr} (hr : p.block < base) (u : Value) : GathO (w.setCell p u) base v xs done :=
 ⟨own_setC h.1 hr u, fun i hi=>(h.2 i hi).setC hr u⟩
theorem OwnA.one {w : World} {base : Nat} {v : Value} {r : List Nm.Ava} (h : OwnA w base v r) : v.oneCell' = true:=by obtain ⟨A, c, rfl, _⟩:=h.rdn; rfl
theorem GathO.one {w : World} {base : Nat} {v : Value} {xs : List Value} {done : List Mo} (h : GathO w base v xs done) : v.oneCell' = true:=by obtain ⟨A, c, ds, rfl, _⟩:=h.shut; rfl
theorem map_take {α β : Type} (f : α → β) (l : List α) : (l.map f).length = l.length ∧ ∀ i (h : i < l.length), (l.map f).take (i + 1) = (l.map f).take i ++ [f l[i]] :=
 ⟨List.length_map _, fun i h=>by rw [← List.map_take, ← List.map_take, List.take_succ_eq_append_getElem h, List.map_append]; rfl⟩
theorem take_one {α : Type} (l : List α) (i : Nat) (h : i < l.length) : l.take (i + 1) = l.take i ++ [l[i]]:=List.take_succ_eq_append_getElem h
abbrev zcs : Array Value:=#[.int .i64 0, .int .i64 0, .int .i64 0, .int .i64 0, .int .i64 0, .int .i64 0, .int .i64 0, .int .i64 0, .int .i64 0, .int .i64 0, .slice none 0 0, .bool false, .slice none 0 0]
end Go.Proofs.YtbdpkfgllnbheaaGreatDoor.Ch
namespace Go.Proofs.YtbdpkfgllnbheaaGreatDoor.Ch
open Go.RowKit
def NewKids (w : World) (ks : List Be.El) (r : Ending) (w' : World) : Prop :=
 ∃ (A : Option Addr) (c : Nat) (ds : Nat → List Value), r = .returned (.slice A ks.length c) ∧ Below w.heap.size w w' ∧ Be.KidsAt w' (fun b=>w.heap.size ≤ b ∧ b < w'.heap.size) A ks ds
theorem wpList_pushE {w : World} {ops : Array Oper} {rest : List Oper} {o : Oper} {a : Act} {Q : Exit → Act → World → Prop} (hgd : o.guard = none) (sl x : Operand)
  (ho : o.op = .call { callee:=.builtin .append, args:=#[sl, x], argTypes:=#[51, 51] })
  (base : Nat) (v : Value) (xs : List Value) (done : List Be.El) (hs : a.eval sl = v) (hG : Be.Gath w base v xs done) (g : Nat) (hx : a.eval x = .slice (some ⟨g, 0, none⟩) 1 1)
  {e : Be.El} {p q r : Value} (hB : Blk w g 53 #[p, q, r]) (hone : ∀ u ∈ [p, q, r], u.oneCell' = true) (hL : Be.Lies w (fun b=>base ≤ b ∧ b < w.heap.size ∧ v.ownBlock ≠ some b) e [p, q, r]) (hl : done.length < 1000000) (hbase : base ≤ w.heap.size)
  (h : ∀ v' w', Be.Gath w' base v' (xs ++ [p, q, r]) (done ++ [e]) → Below base w w' → wpList Tryz.prog ops Q rest (a.put o.dst v') w') : wpList Tryz.prog ops Q (o :: rest) a w:=by
 obtain ⟨i0, hi, hz0, hz1, hz2⟩:=infoP Be.infoElV
 refine wpList_append_own_at w hgd sl x 51 ho base 53 i0 _ 3 48 Tryz.underlying51 hi hz0 hz1 hz2 rfl (by decide) v done.length xs hs hG.1 ⟨g, 0, none⟩ 1 1 [p, q, r] hx rfl (fun j u hj=>?_) hone (by unfold maxLen; omega) (by omega) hbase (fun v' w' hown' hgr _ hat=>?_)
 ·rw [Addr.add_lit, Nat.zero_add, hB.cell j]
  simpa using hj
 ·exact h v' w' (hG.step hL hown' hgr hat) ((Below.refl _ _).grown hgr hbase (fun k hk=>(hG.1.lt k hk).1))
theorem fresh_own {w w1 : World} {base : Nat} {v : Value} {xs : List Value} {done : List Be.El} {P : Nat → Prop} {e : Be.El} {cs : List Value} (hG : Be.Gath w base v xs done) (hbase : base ≤ w.heap.size) (h : Be.Lies w1 P e cs) (hP : ∀ b, P b → w.heap.size ≤ b ∧ b < w1.heap.size) :
  Be.Lies w1 (fun b=>base ≤ b ∧ b < w1.heap.size ∧ v.ownBlock ≠ some b) e cs :=
 h.imp (fun b hb=>⟨Nat.le_trans hbase (hP b hb).1, (hP b hb).2, fun e=>by have:=(hG.1.lt b e).2; have:=(hP b hb).1; omega⟩) (fun _ _=>rfl)
theorem one3 {t : Int} {b : ByteArray} {A : Option Addr} {n c : Nat} : ∀ u ∈ [Value.int .u8 t, .string b, .slice A n c], u.oneCell' = true:=by
 intro u hu
 simp at hu
 rcases hu with rfl | rfl | rfl <;> rfl
theorem take_len {α : Type} {ks : List α} {q n : Nat} (h : ks.length = n) (hq : q ≤ n) (hn : n ≤ 1000) : (ks.take q).length < 1000000:=by rw [List.length_take]; omega
theorem Gath_tell {w w' : World} {v : Value} {xs : List Value} {ks : List Be.El} {n : Nat} (hlen : ks.length = n) (hb : Below w.heap.size w w') (hG : Be.Gath w' w.heap.size v xs (ks.take n)) : NewKids w ks (.returned v) w':=by
 rw [List.take_of_length_le (by omega)] at hG
 obtain ⟨A, c, ds, rfl, hK⟩:=hG.shut
 exact ⟨A, c, ds, rfl, hb, hK⟩
set_option maxHeartbeats 2000000 in
theorem eachT_any (A : Option Addr) (c : Nat) (l : List ByteArray) (w : World) (hl : l.length ≤ 1000) (hs : ∀ s ∈ l, s.size ≤ 281474976710656) (hA : StrsAt w (· < w.heap.size) A l) :
  Calls Tryz.prog 88 #[.slice A l.length c, .func (.func 44) #[] #[]] w (NewKids w (l.map (txt 4))):=by
 have HA:=Lib.hid hA
 have HS:=Lib.hid hs
 obtain ⟨ks, hks⟩ : ∃ ks, ks = l.map (txt 4):=⟨_, rfl⟩
 have hmt:=map_take (txt 4) l
 rw [← hks] at hmt ⊢
 have HM:=Lib.hid hmt
 clear hA hs hks hmt
 go_enter Tryz.func88, Tryz.ntmps88
 go_wp2_with fail
 go_loopw [5, 10] (fun v i wr=>∃ (q : Nat) (xs : List Value), q ≤ l.length ∧ i = .int .i64 q ∧ Hid (Be.Gath wr w.heap.size v xs (ks.take q)) ∧ Below w.heap.size w wr) (fun v i wr=>l.length - (intOf i).toNat)
 case atStart=>exact ⟨0, [], Nat.zero_le _, rfl, Be.Gath.nil _ _, Below.refl _ _⟩
 case round =>
  obtain ⟨q, xs, hq, rfl, hG, hb⟩:=hrel
  have hsz:=hb.size
  by_cases hlt : q < l.length
  ·obtain ⟨ad, rfl, hp, hc⟩:=HA.out (by omega)
   have f0:=batA hb (by rw [block_of_add]; exact hp) (hc q hlt)
   have hsq:=HS.out _ (List.getElem_mem hlt)
   have hdl:=take_len HM.out.1 hq hl
   have hmt:=Lib.hid (HM.out.2 q hlt)
   generalize l[q] = s at f0 hsq hmt
   clear hc
   go_wp2_with fail
   refine (text_any s wr hsq).mono ?_
   rintro e w1 ⟨rfl, hb1⟩
   have HB:=Lib.hid (Blk.new w1 53 #[.int .u8 4, .string s, .slice none 0 0])
   have HG1:=Lib.hid ((hG.out.past hb1).alloc (.cells #[.int .u8 4, .string s, .slice none 0 0] 53))
   have hbw:=hb.trans (hb1.mono hsz)
   have hz:=hbw.size
   have hz2 : w.heap.size ≤ (w1.alloc (.cells #[.int .u8 4, .string s, .slice none 0 0] 53)).heap.size:=by simp; omega
   clear hG hb hb1
   go_wp2_with (at_builtin; go_loud (refine wpList_pushE rfl _ _ rfl w.heap.size _ _ _ rfl HG1.out w1.heap.size rfl HB.out one3 (lies_leaf (by decide) hsq) hdl hz2 ?_))
   intro v' w2 hG2 hb2
   rw [← hmt.out] at hG2
   have HG2:=Lib.hid hG2
   have hb3:=(hbw.alloc hz (.cells #[.int .u8 4, .string s, .slice none 0 0] 53)).trans hb2
   clear hG2
   go_wp2_with fail
   refine ⟨⟨q + 1, _, by omega, by go_num, HG2, hb3⟩, by simp [intOf]; omega⟩
  ·have hq2 : q = l.length:=by omega
   subst hq2
   have HE:=Lib.hid (Gath_tell HM.out.1 hb hG.out)
   clear hG
   go_wp2_with fail
   go_ret
   exact HE.out
end Go.Proofs.YtbdpkfgllnbheaaGreatDoor.Ch
