import Derived.Test.YtpnlalfdgngcdaaDoorZA5
set_option linter.unusedVariables false
set_option maxRecDepth 100000
namespace Go.Proofs.YtpnlalfdgngcdaaDoor
open Go.RowKit
theorem infoA : (Tryd.prog.info? 83).map (fun i=>(i.zero, i.size, i.bytes)) = some (some (.agg #[.string ⟨#[]⟩, .string ⟨#[]⟩]), 2, 32):=by kernel_rfl
theorem infoR : (Tryd.prog.info? 60).map (fun i=>(i.zero, i.size, i.bytes)) = some (some (.slice none 0 0), 1, 24):=by kernel_rfl
def avaCells (r : List Nm.Ava) : List Value:=r.flatMap fun a=>[.string a.1, .string a.2]
theorem avaCells_app (r q : List Nm.Ava) : avaCells (r ++ q) = avaCells r ++ avaCells q:=by simp [avaCells]
theorem avaCells_at (r : List Nm.Ava) (i : Nat) (h : i < r.length) : (avaCells r)[i * 2]? = some (.string r[i].1) ∧ (avaCells r)[i * 2 + 1]? = some (.string r[i].2):=by
 induction r generalizing i with
 | nil=>simp at h
 | cons a r ih =>
  have e : avaCells (a :: r) = [Value.string a.1, .string a.2] ++ avaCells r:=rfl
  cases i with
  | zero=>exact ⟨rfl, rfl⟩
  | succ i =>
   obtain ⟨h1, h2⟩:=ih i (by simpa using h)
   rw [e, show (i + 1) * 2 = 2 + i * 2 by omega, List.getElem?_append_right (by simp), List.getElem?_append_right (by simp; omega)]
   simp only [List.length_cons, List.length_nil, List.getElem_cons_succ]
   rw [show 2 + i * 2 - (0 + 1 + 1) = i * 2 by omega, show 2 + i * 2 + 1 - (0 + 1 + 1) = i * 2 + 1 by omega]
   exact ⟨h1, h2⟩
def OwnA (w : World) (base : Nat) (v : Value) (r : List Nm.Ava) : Prop:=w.ownsRow base 83 2 v r.length (avaCells r)
theorem OwnA.past {w w' : World} {base : Nat} {v : Value} {r : List Nm.Ava} (h : OwnA w base v r) (hb : Below w.heap.size w w') : OwnA w' base v r:=own_past h hb
theorem OwnA.nil (w : World) (base : Nat) : OwnA w base (.slice none 0 0) []:=World.ownsRow_nil w base _ 2
theorem OwnA.alloc {w : World} {base : Nat} {v : Value} {r : List Nm.Ava} (h : OwnA w base v r) (o : Obj) : OwnA (w.alloc o) base v r:=h.past ((Below.refl _ _).alloc (Nat.le_refl _) o)
theorem OwnA.rdn {w : World} {base : Nat} {v : Value} {r : List Nm.Ava} (h : OwnA w base v r) : ∃ A c, v = .slice A r.length c ∧ r.length ≤ c ∧ RAt w (fun b=>base ≤ b ∧ b < w.heap.size) A r:=by
 have h9:=h
 rcases h.2 with ⟨rfl, h0⟩ | ⟨g, cap, cur, rfl, hg, hh, hc, hm, hs, ht⟩
 ·refine ⟨none, 0, by rw [h0], by omega, fun h1=>by omega⟩
 ·refine ⟨_, _, rfl, hc, fun h1=>⟨⟨g, 0, none⟩, rfl, ⟨hg, ?_⟩, fun i hi=>?_⟩⟩
  ·rcases Nat.lt_or_ge g w.heap.size with h' | h'
   ·exact h'
   ·simp [Array.getElem?_eq_none h'] at hh
  ·obtain ⟨e1, e2⟩:=avaCells_at r i hi
   rw [Addr.add_lit, Addr.add_lit, Nat.zero_add, Nat.zero_add]
   exact ⟨own_cell h9 _ _ e1, own_cell h9 _ _ e2⟩
theorem wpList_pushA {w : World} {ops : Array Oper} {rest : List Oper} {o : Oper} {a : Act} {Q : Exit → Act → World → Prop} (hgd : o.guard = none) (sl x : Operand)
  (ho : o.op = .call { callee:=.builtin .append, args:=#[sl, x], argTypes:=#[60, 60] })
  (base : Nat) (v : Value) (r : List Nm.Ava) (hs : a.eval sl = v) (hown : OwnA w base v r) (g : Nat) (p q : ByteArray) (hx : a.eval x = .slice (some ⟨g, 0, none⟩) 1 1)
  (hB : Blk w g 83 #[.string p, .string q]) (hl : r.length ≤ 1099511627776) (hbase : base ≤ w.heap.size)
  (h : ∀ v' w', OwnA w' base v' (r ++ [(p, q)]) → Below base w w' → w.grownBy w' v.ownBlock → wpList Tryd.prog ops Q rest (a.put o.dst v') w') : wpList Tryd.prog ops Q (o :: rest) a w:=by
 obtain ⟨i0, hi, hz0, hz1, hz2⟩:=infoP infoA
 refine wpList_append_own w hgd sl x 60 ho base 83 i0 (.agg #[.string ⟨#[]⟩, .string ⟨#[]⟩]) 2 32 Tryd.underlying60 hi hz0 hz1 hz2 rfl (by decide) v r.length _ hs hown ⟨g, 0, none⟩ 1 1 [.string p, .string q] hx rfl (fun j u hj=>?_) (fun u hu=>?_) (by unfold maxLen; omega) (by omega) hbase (fun v' w' hown' hgr _=>h v' w' ?_ ?_ hgr)
 ·rw [Addr.add_lit, Nat.zero_add, hB.cell j]
  simpa using hj
 ·simp at hu
  rcases hu with rfl | rfl <;> rfl
 ·unfold OwnA
  rw [List.length_append, avaCells_app]
  exact hown'
 ·exact (Below.refl _ _).grown hgr hbase (fun k hk=>(hown.lt k hk).1)
def OwnD (w : World) (base : Nat) (v : Value) (d : List (List Nm.Ava)) : Prop :=
 ∃ cs : List Value, w.ownsRow base 60 1 v d.length cs ∧ ∀ i (h : i < d.length), ∃ A c, cs[i]? = some (.slice A d[i].length c) ∧ d[i].length ≤ c ∧ RAt w (fun b=>base ≤ b ∧ b < w.heap.size ∧ v.ownBlock ≠ some b) A d[i]
theorem OwnD.nil (w : World) (base : Nat) : OwnD w base (.slice none 0 0) []:=⟨[], World.ownsRow_nil w base _ 1, fun i h=>absurd h (by simp)⟩
theorem OwnD.past {w w' : World} {base : Nat} {v : Value} {d : List (List Nm.Ava)} (h : OwnD w base v d) (hb : Below w.heap.size w w') : OwnD w' base v d:=by
 obtain ⟨cs, h1, h2⟩:=h
 refine ⟨cs, own_past h1 hb, fun i hi=>?_⟩
 obtain ⟨A, c, h3, h4, h5⟩:=h2 i hi
 exact ⟨A, c, h3, h4, h5.imp (fun b hb'=>⟨hb'.1, Nat.lt_of_lt_of_le hb'.2.1 hb.size, hb'.2.2⟩) (fun p hp=>hb.cell hp.2.1)⟩
theorem OwnD.alloc {w : World} {base : Nat} {v : Value} {d : List (List Nm.Ava)} (h : OwnD w base v d) (o : Obj) : OwnD (w.alloc o) base v d:=h.past ((Below.refl _ _).alloc (Nat.le_refl _) o)
theorem OwnD.lt {w : World} {base : Nat} {v : Value} {d : List (List Nm.Ava)} (h : OwnD w base v d) : ∀ g, v.ownBlock = some g → base ≤ g ∧ g < w.heap.size:=by
 obtain ⟨cs, h1, _⟩:=h
 exact fun g hg=>h1.lt g hg
theorem OwnD.form3 {w : World} {base : Nat} {v : Value} {d : List (List Nm.Ava)} (h : OwnD w base v d) : ∃ A c, v = .slice A d.length c:=by
 obtain ⟨cs, h1, _⟩:=h
 rcases h1.2 with ⟨rfl, h0⟩ | ⟨g, cap, cur, rfl, _⟩
 ·exact ⟨none, 0, by rw [h0]⟩
 ·exact ⟨_, _, rfl⟩
theorem OwnD.dn {w : World} {base : Nat} {v : Value} {d : List (List Nm.Ava)} (h : OwnD w base v d) : ∃ A c, v = .slice A d.length c ∧ d.length ≤ c ∧ DAt w (fun b=>base ≤ b ∧ b < w.heap.size) A d:=by
 obtain ⟨cs, h1, h2⟩:=h
 have h9:=h1
 rcases h1.2 with ⟨rfl, h0⟩ | ⟨g, cap, cur, rfl, hg, hh, hc, hm, hs, ht⟩
 ·refine ⟨none, 0, by rw [h0], by omega, fun h1=>by omega⟩
 ·refine ⟨_, _, rfl, hc, fun h1=>⟨⟨g, 0, none⟩, rfl, ⟨hg, ?_⟩, fun i hi=>?_⟩⟩
  ·rcases Nat.lt_or_ge g w.heap.size with h' | h'
   ·exact h'
   ·simp [Array.getElem?_eq_none h'] at hh
  ·obtain ⟨A, c, e1, e2, e3⟩:=h2 i hi
   refine ⟨A, c, ?_, e2, e3.imp (fun b hb=>⟨hb.1, hb.2.1⟩) (fun _ _=>rfl)⟩
   rw [Addr.add_lit, Nat.zero_add]
   exact own_cell h9 _ _ e1
theorem wpList_pushD {w : World} {ops : Array Oper} {rest : List Oper} {o : Oper} {a : Act} {Q : Exit → Act → World → Prop} (hgd : o.guard = none) (sl x : Operand)
  (ho : o.op = .call { callee:=.builtin .append, args:=#[sl, x], argTypes:=#[43, 43] })
  (base : Nat) (v : Value) (d : List (List Nm.Ava)) (hs : a.eval sl = v) (hown : OwnD w base v d) (g : Nat) (A : Option Addr) (r : List Nm.Ava) (n c : Nat) (hx : a.eval x = .slice (some ⟨g, 0, none⟩) 1 1)
  (hB : Blk w g 60 #[.slice A n c]) (hn : n = r.length) (hc : r.length ≤ c) (hR : RAt w (fun b=>base ≤ b ∧ b < w.heap.size ∧ v.ownBlock ≠ some b) A r) (hl : d.length ≤ 1099511627776) (hbase : base ≤ w.heap.size)
  (h : ∀ v' w', OwnD w' base v' (d ++ [r]) → Below base w w' → wpList Tryd.prog ops Q rest (a.put o.dst v') w') : wpList Tryd.prog ops Q (o :: rest) a w:=by
 subst hn
 obtain ⟨i0, hi, hz0, hz1, hz2⟩:=infoP infoR
 obtain ⟨cs, h1, h2⟩:=hown
 refine wpList_append_own_at w hgd sl x 43 ho base 60 i0 (.slice none 0 0) 1 24 Tryd.underlying43 hi hz0 hz1 hz2 rfl (by decide) v d.length cs hs h1 ⟨g, 0, none⟩ 1 1 [.slice A r.length c] hx rfl (fun j u hj=>?_) (fun u hu=>?_) (by unfold maxLen; omega) (by omega) hbase (fun v' w' hown' hgr _ hat=>h v' w' ?_ ?_)
 ·rw [Addr.add_lit, Nat.zero_add, hB.cell j]
  simpa using hj
 ·simp at hu
  subst hu; rfl
 ·have hkeep : ∀ (A : Option Addr) (q : List Nm.Ava), RAt w (fun b=>base ≤ b ∧ b < w.heap.size ∧ v.ownBlock ≠ some b) A q → RAt w' (fun b=>base ≤ b ∧ b < w'.heap.size ∧ v'.ownBlock ≠ some b) A q:=fun A q hq=>by
   refine hq.imp (fun b hb=>⟨hb.1, Nat.lt_of_lt_of_le hb.2.1 hgr.size, ?_⟩) (fun p hp=>World.cell?_of_block (hgr.block p.block hp.2.1 (fun e=>hp.2.2 e.symm)))
   rcases hat with e | e
   ·rw [e]; exact hb.2.2
   ·rw [e]
    intro e2
    simp only [Option.some.injEq] at e2
    omega
  refine ⟨cs ++ [.slice A r.length c], by rw [List.length_append]; exact hown', fun i hi=>?_⟩
  have hcl : cs.length = d.length:=by have:=h1.1; omega
  by_cases hid : i < d.length
  ·obtain ⟨A2, c2, e1, e2, e3⟩:=h2 i hid
   rw [List.getElem_append_left hid]
   exact ⟨A2, c2, by rw [List.getElem?_append_left (by omega)]; exact e1, e2, hkeep _ _ e3⟩
  ·have hie : i = d.length:=by rw [List.length_append, List.length_singleton] at hi; omega
   subst hie
   have e9 : (d ++ [r])[d.length] = r:=by simp
   rw [e9]
   exact ⟨A, c, by rw [List.getElem?_append_right (by omega), hcl]; simp, hc, hkeep _ _ hR⟩
 ·exact (Below.refl _ _).grown hgr hbase (fun k hk=>(h1.lt k hk).1)
end Go.Proofs.YtpnlalfdgngcdaaDoor
