import Derived.Test.YtbdpkfgllnbheaaGreatDoorZQ19
import Derived.OneCell
set_option linter.unusedVariables false
set_option maxRecDepth 100000
namespace Go.Proofs.YtbdpkfgllnbheaaGreatDoor.Ch
open Go.RowKit
theorem own_ne {w : World} {base : Nat} {e t : TypeId} {size : Nat} {v : Value} {n : Nat} {xs : List Value} (h : w.ownsRow base e size v n xs) {g : Nat} {cs : Array Value} (hB : Blk w g t cs) (ht : e ≠ t) : some g ≠ v.ownBlock:=by
 intro e9
 rcases h.2 with ⟨rfl, _⟩ | ⟨g1, cap, cur, rfl, hb, hB', hr⟩
 ·cases e9
 have e1 : g = g1:=Option.some.inj e9
 subst e1
 have h9:=hB.symm.trans hB'
 injection h9 with h9
 injection h9 with _ h9 _
 exact ht h9.symm
theorem own_box {w : World} {base : Nat} {e t : TypeId} {size : Nat} {v : Value} {n : Nat} {xs : List Value} (h : w.ownsRow base e size v n xs) {g : Nat} {cs : Array Value} (hB : Blk w g t cs) (ht : e ≠ t) (k : Nat) (u : Value) : (w.setCell ⟨g, k, none⟩ u).ownsRow base e size v n xs :=
 ownsRow_setCell_other h (fun e9=>own_ne h hB ht e9.symm) u
theorem GathO.box {w : World} {base : Nat} {v : Value} {xs : List Value} {done : List Mo} (h : GathO w base v xs done) {g : Nat} {cs : Array Value} (hB : Blk w g 28 cs) (k : Nat) (u : Value) : GathO (w.setCell ⟨g, k, none⟩ u) base v xs done:=by
 refine ⟨own_box h.1 hB (by decide) k u, fun i hi=>?_⟩
 obtain ⟨V, h1, h2, h3⟩:=h.2 i hi
 exact ⟨V, h1, own_box h2 hB (by decide) k u, h3⟩
theorem GathO.grownA {w w' : World} {base : Nat} {v : Value} {xs : List Value} {done : List Mo} (h : GathO w base v xs done) {base' : Nat} {u : Value} {r : List Nm.Ava} (hA : OwnA w base' u r) (hg : w.grownBy w' u.ownBlock) : GathO w' base v xs done:=by
 refine ⟨own_grown h.1 hg (own_two h.1 hA (by decide)), fun i hi=>?_⟩
 obtain ⟨V, h1, h2, h3⟩:=h.2 i hi
 exact ⟨V, h1, own_grown h2 hg (own_two h2 hA (by decide)), h3⟩
theorem wpList_pushM2 {w : World} {ops : Array Oper} {rest : List Oper} {o : Oper} {a : Act} {Q : Exit → Act → World → Prop} (hgd : o.guard = none) (sl x : Operand)
  (ho : o.op = .call { callee:=.builtin .append, args:=#[sl, x], argTypes:=#[26, 26] })
  (base : Nat) (v : Value) (xs : List Value) (done : List Mo) (hs : a.eval sl = v) (hG : GathO w base v xs done) (g : Nat) (hx : a.eval x = .slice (some ⟨g, 0, none⟩) 1 1)
  {e : Mo} {p q r : Value} (hB : Blk w g 44 #[p, q, r]) (hL : MoOwn w base e [p, q, r]) (hl : done.length < 1000000) (hbase : base ≤ w.heap.size)
  (h : ∀ v' w', GathO w' base v' (xs ++ [p, q, r]) (done ++ [e]) → w.grownBy w' v.ownBlock → Below base w w' → wpList Tryz.prog ops Q rest (a.put o.dst v') w') : wpList Tryz.prog ops Q (o :: rest) a w:=by
 obtain ⟨i0, hi, hz0, hz1, hz2⟩:=infoP infoMo
 refine wpList_append_own_at w hgd sl x 26 ho base 44 i0 _ 3 48 Tryz.underlying26 hi hz0 hz1 hz2 rfl (by decide) v done.length xs hs hG.1 ⟨g, 0, none⟩ 1 1 [p, q, r] hx rfl (fun j u hj=>?_) hL.one (by unfold maxLen; omega) (by omega) hbase (fun v' w' hown' hgr _ hat=>?_)
 ·rw [Addr.add_lit, Nat.zero_add, hB.cell j]
  simpa using hj
 ·exact h v' w' (hG.step hL hown' hgr) hgr ((Below.refl _ _).grown hgr hbase (fun k hk=>(hG.1.lt k hk).1))
theorem wpList_pushV2 {w : World} {ops : Array Oper} {rest : List Oper} {o : Oper} {a : Act} {Q : Exit → Act → World → Prop} (hgd : o.guard = none) (sl x : Operand)
  (ho : o.op = .call { callee:=.builtin .append, args:=#[sl, x], argTypes:=#[25, 25] })
  (base : Nat) (v : Value) (r : List Nm.Ava) (hs : a.eval sl = v) (hown : OwnA w base v r) (g : Nat) (p q : ByteArray) (hx : a.eval x = .slice (some ⟨g, 0, none⟩) 1 1)
  (hB : Blk w g 41 #[.string p, .string q]) (hl : r.length ≤ 1099511627776) (hbase : base ≤ w.heap.size)
  (h : ∀ v' w', OwnA w' base v' (r ++ [(p, q)]) → w.grownBy w' v.ownBlock → Below base w w' → wpList Tryz.prog ops Q rest (a.put o.dst v') w') : wpList Tryz.prog ops Q (o :: rest) a w:=by
 obtain ⟨i0, hi, hz0, hz1, hz2⟩:=infoP infoA
 refine wpList_append_own_at w hgd sl x 25 ho base 41 i0 (.agg #[.string ⟨#[]⟩, .string ⟨#[]⟩]) 2 32 Tryz.underlying25 hi hz0 hz1 hz2 rfl (by decide) v r.length _ hs hown ⟨g, 0, none⟩ 1 1 [.string p, .string q] hx rfl (fun j u hj=>?_) (fun u hu=>?_) (by unfold maxLen; omega) (by omega) hbase (fun v' w' hown' hgr _ _=>h v' w' ?_ hgr ?_)
 ·rw [Addr.add_lit, Nat.zero_add, hB.cell j]
  simpa using hj
 ·simp at hu
  rcases hu with rfl | rfl <;> rfl
 ·unfold OwnA
  rw [List.length_append, avaCells_app]
  exact hown'
 ·exact (Below.refl _ _).grown hgr hbase (fun k hk=>(hown.lt k hk).1)
theorem ownS_one {w : World} {base : Nat} {s : ByteArray} {g : Nat} (hB : Blk w g 9 #[.string s]) (hb : base ≤ g) : OwnS w base (.slice (some ⟨g, 0, none⟩) 1 1) [s] :=
 ⟨rfl, .inr ⟨g, 1, _, rfl, hb, hB, Nat.le_refl _, by unfold maxLen; omega, rfl, rfl⟩⟩
end Go.Proofs.YtbdpkfgllnbheaaGreatDoor.Ch
