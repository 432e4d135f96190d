import Derived.Test.YtbdpkfgllnbheaaGreatDoorZQ4
import Derived.Lib.AppendStr
import Derived.Laws.AppendOwn
import Derived.Maps.AppendAt
import Derived.ProofKit
import Derived.Deep.Strs
import Derived.Lib.SmallJoins
import Derived.Deep.LoopGhost
set_option linter.unusedVariables false
set_option maxRecDepth 100000
namespace Go.Proofs.YtbdpkfgllnbheaaGreatDoor
open Go.RowKit
theorem block_of_add (a : Addr) (n : Nat) : (a.add n).block = a.block:=by unfold Addr.add; split <;> rfl
theorem add_of_add (a : Addr) (i j : Nat) : (a.add i).add j = a.add (i + j):=by
 unfold Addr.add
 by_cases hi : i = 0 <;> by_cases hj : j = 0 <;> simp [hi, hj, Nat.add_assoc]
theorem bat {B : Nat} {w w' : World} (hb : Below B w w') {b o : Nat} {v : Value} (h : b < B) (f : w.cell? ⟨b, o, none⟩ = some v) : w'.cell? ⟨b, o, none⟩ = some v:=(hb.cell (p:=⟨b, o, none⟩) h).trans f
theorem batA {B : Nat} {w w' : World} (hb : Below B w w') {p : Addr} {v : Value} (h : p.block < B) (f : w.cell? p = some v) : w'.cell? p = some v:=(hb.cell h).trans f
theorem cell_lt {w : World} {p : Addr} {v : Value} (h : w.cell? p = some v) : p.block < w.heap.size:=by
 rcases Nat.lt_or_ge p.block w.heap.size with hlt | hge
 ·exact hlt
 ·simp [World.cell?, Array.getElem?_eq_none hge] at h
def Blk (w : World) (g : Nat) (t : TypeId) (cs : Array Value) : Prop:=w.heap[g]? = some (.cells cs t (0, 0))
theorem Blk.lt {w : World} {g : Nat} {t : TypeId} {cs : Array Value} (h : Blk w g t cs) : g < w.heap.size:=by
 rcases Nat.lt_or_ge g w.heap.size with hlt | hge
 ·exact hlt
 ·unfold Blk at h; rw [Array.getElem?_eq_none hge] at h; cases h
theorem Blk.cell {w : World} {g : Nat} {t : TypeId} {cs : Array Value} (h : Blk w g t cs) (i : Nat) : w.cell? ⟨g, i, none⟩ = cs[i]?:=cell_of_row w g i cs t (0, 0) h
theorem Blk.frozen {w : World} {g : Nat} {t : TypeId} {cs : Array Value} (h : Blk w g t cs) (i : Nat) : w.frozen? ⟨g, i, none⟩ = false:=by
 unfold Blk at h
 simp [World.frozen?, h]
theorem Blk.new (w : World) (t : TypeId) (cs : Array Value) : Blk (w.alloc (.cells cs t)) w.heap.size t cs:=heap_alloc_new w _
theorem Blk.newd (w : World) (t : TypeId) (cs : Array Value) : Blk (w.alloc (.cells cs t)).drew w.heap.size t cs:=heap_alloc_new w _
theorem Blk.past {w w' : World} {g : Nat} {t : TypeId} {cs : Array Value} (h : Blk w g t cs) (hb : Below w.heap.size w w') : Blk w' g t cs:=(hb.block g h.lt).trans h
theorem Blk.drew {w : World} {g : Nat} {t : TypeId} {cs : Array Value} (h : Blk w g t cs) : Blk w.drew g t cs:=h
theorem Blk.alloc {w : World} {g : Nat} {t : TypeId} {cs : Array Value} (h : Blk w g t cs) (o : Obj) : Blk (w.alloc o) g t cs:=(Below.heap_alloc w o g h.lt).trans h
theorem Blk.set_ {w : World} {g : Nat} {t : TypeId} {cs : Array Value} (h : Blk w g t cs) (i : Nat) (u : Value) : Blk (w.setCell ⟨g, i, none⟩ u) g t (cs.setIfInBounds i u):=by
 unfold Blk at h ⊢
 simp [World.setCell, Array.getElem?_modify, h]
theorem Blk.far {w : World} {g : Nat} {t : TypeId} {cs : Array Value} (h : Blk w g t cs) {p : Addr} (hp : g ≠ p.block) (u : Value) : Blk (w.setCell p u) g t cs:=(Below.heap_setCell w p u g hp).trans h
theorem Blk.grown {w w' : World} {g : Nat} {t : TypeId} {cs : Array Value} {row : Option Nat} (h : Blk w g t cs) (hb : w.grownBy w' row) (hg : some g ≠ row) : Blk w' g t cs:=(hb.block g h.lt hg).trans h
theorem info8 : (Tryz.prog.info? 5).map (fun i=>(i.zero, i.size, i.bytes)) = some (some (.int .u8 0), 1, 1):=by kernel_rfl
theorem infoP {P : Program} {t : TypeId} {z : Value} {m k : Nat} (h : (P.info? t).map (fun i=>(i.zero, i.size, i.bytes)) = some (some z, m, k)) : ∃ i, P.info? t = some i ∧ i.zero = some z ∧ i.size = m ∧ i.bytes = k:=by
 cases h1 : P.info? t with
 | none=>rw [h1] at h; cases h
 | some i =>
  rw [h1] at h
  simp only [Option.map_some, Option.some.injEq, Prod.mk.injEq] at h
  exact ⟨i, rfl, h.1, h.2.1, h.2.2⟩
def Own (w : World) (base : Nat) (v : Value) (l : List UInt8) : Prop:=w.ownsRow base 5 1 v l.length (Lib.byteCells l)
theorem own_past {w w' : World} {base : Nat} {e : TypeId} {size : Nat} {v : Value} {n : Nat} {xs : List Value} (h : w.ownsRow base e size v n xs) (hb : Below w.heap.size w w') : w'.ownsRow base e size v n xs:=by
 obtain ⟨h1, h2⟩:=h
 refine ⟨h1, ?_⟩
 rcases h2 with h2 | ⟨g, cap, cur, hv, hg, hh, r⟩
 ·exact Or.inl h2
 ·have hlt : g < w.heap.size:=by
   rcases Nat.lt_or_ge g w.heap.size with h' | h'
   ·exact h'
   ·simp [Array.getElem?_eq_none h'] at hh
  exact Or.inr ⟨g, cap, cur, hv, hg, (hb.block g hlt).trans hh, r⟩
theorem own_more {w : World} {base base' : Nat} {e : TypeId} {size : Nat} {v : Value} {n : Nat} {xs : List Value} (h : w.ownsRow base e size v n xs) (hb : base' ≤ base) : w.ownsRow base' e size v n xs:=by
 obtain ⟨h1, h2⟩:=h
 refine ⟨h1, ?_⟩
 rcases h2 with h2 | ⟨g, cap, cur, hv, hg, r⟩
 ·exact Or.inl h2
 ·exact Or.inr ⟨g, cap, cur, hv, by omega, r⟩
theorem Own.past {w w' : World} {base : Nat} {v : Value} {l : List UInt8} (h : Own w base v l) (hb : Below w.heap.size w w') : Own w' base v l:=own_past h hb
theorem Own.nil (w : World) (base : Nat) : Own w base (.slice none 0 0) []:=World.ownsRow_nil w base _ 1
theorem Own.drew {w : World} {base : Nat} {v : Value} {l : List UInt8} (h : Own w base v l) : Own w.drew base v l:=h
theorem Own.alloc {w : World} {base : Nat} {v : Value} {l : List UInt8} (h : Own w base v l) (o : Obj) : Own (w.alloc o) base v l:=h.past ((Below.refl _ _).alloc (Nat.le_refl _) o)
theorem Own.form {w : World} {base : Nat} {v : Value} {l : List UInt8} (h : Own w base v l) : ∃ A c, v = .slice A l.length c:=by
 rcases h.2 with ⟨rfl, h0⟩ | ⟨g, cap, cur, rfl, _⟩
 ·exact ⟨none, 0, by rw [h0]⟩
 ·exact ⟨_, _, rfl⟩
theorem Own.ne {w : World} {base : Nat} {v : Value} {l : List UInt8} {g : Nat} {t : TypeId} {cs : Array Value} (h : Own w base v l) (hB : Blk w g t cs) (ht : t ≠ 5) : some g ≠ v.ownBlock:=by
 rcases h.2 with ⟨rfl, _⟩ | ⟨g', cap', cur, rfl, hg, hh, _⟩
 ·simp [Value.ownBlock]
 ·intro e
  simp only [Value.ownBlock, Option.some.injEq] at e
  subst e
  unfold Blk at hB
  rw [hB] at hh
  simp only [Option.some.injEq, Obj.cells.injEq] at hh
  exact ht hh.2.1
theorem own_cell {w : World} {base g n cap : Nat} {t : TypeId} {size : Nat} {xs : List Value} (h : w.ownsRow base t size (.slice (some ⟨g, 0, none⟩) n cap) n xs) (j : Nat) (u : Value) (hj : xs[j]? = some u) : w.cell? ⟨g, j, none⟩ = some u:=by
 rcases h.2 with ⟨e, _⟩ | ⟨g', cap', cur, e, hg, hh, hc, hm, hs, ht⟩
 ·cases e
 ·injection e with e1 e2 e3
  injection e1 with e1
  injection e1 with e1
  subst e1
  rw [cell_of_row w g j cur _ _ hh]
  have h1 : (cur.toList.take (n * size))[j]? = some u:=by rw [ht]; exact hj
  have hjl : j < n * size:=by
   have:=(List.getElem?_eq_some_iff.1 h1).1
   simp at this; omega
  rw [List.getElem?_take_of_lt hjl] at h1
  simpa using h1
theorem Own.cell {w : World} {base g n cap : Nat} {l : List UInt8} (h : Own w base (.slice (some ⟨g, 0, none⟩) n cap) l) (hn : n = l.length) {i : Nat} {c : UInt8} (hi : l[i]? = some c) : w.cell? ⟨g, i, none⟩ = some (.int .u8 (c.toNat : Int)):=by
 subst hn
 exact own_cell h i _ (by rw [Lib.byteCells, List.getElem?_map, hi]; rfl)
theorem Own.form3 {w : World} {base : Nat} {v : Value} {l : List UInt8} (h : Own w base v l) : ∃ A n c, v = .slice A n c:=by
 obtain ⟨A, c, e⟩:=h.form
 exact ⟨A, _, c, e⟩
theorem Own.string {w : World} {base : Nat} {v : Value} {l : List UInt8} (h : Own w base v l) : (convert 36 9 v).run Tryz.prog w = .ok (.string (Nm.mk l)) w:=by
 rcases h.2 with ⟨rfl, h0⟩ | ⟨g, cap, cur, rfl, hg, hh, hc, hm, hs, ht⟩
 ·have : l = []:=List.eq_nil_of_length_eq_zero h0
  subst this
  exact run_convert_bytes_nil (P:=Tryz.prog) w 36 5 Tryz.underlying36 Tryz.underlying5 0 0 9 Tryz.underlying9
 ·exact run_convert_bytes_back (P:=Tryz.prog) w 36 9 5 ⟨g, 0, none⟩ cap l Tryz.underlying36 Tryz.underlying5 Tryz.underlying9 (fun j hj=>by
   rw [Addr.add_lit, Nat.zero_add]
   exact Own.cell (cap:=cap) ⟨h.1, Or.inr ⟨g, cap, cur, rfl, hg, hh, hc, hm, hs, ht⟩⟩ rfl (List.getElem?_eq_getElem hj))
theorem wpList_push {w : World} {ops : Array Oper} {rest : List Oper} {o : Oper} {a : Act} {Q : Exit → Act → World → Prop} (hgd : o.guard = none) (sl x : Operand)
  (ho : o.op = .call { callee:=.builtin .append, args:=#[sl, x], argTypes:=#[36, 36] })
  (base : Nat) (v : Value) (l : List UInt8) (hs : a.eval sl = v) (hown : Own w base v l) (g m c : Nat) (news : List UInt8) (hx : a.eval x = .slice (some ⟨g, 0, none⟩) m c) (hm : m = news.length)
  (hB : Blk w g 5 (Lib.byteCells news).toArray) (hl : l.length + news.length ≤ 1099511627776) (hbase : base ≤ w.heap.size)
  (h : ∀ v' w', Own w' base v' (l ++ news) → Below base w w' → w.grownBy w' v.ownBlock → wpList Tryz.prog ops Q rest (a.put o.dst v') w') : wpList Tryz.prog ops Q (o :: rest) a w:=by
 subst hm
 obtain ⟨i0, hi, hz0, hz1, hz2⟩:=infoP info8
 refine wpList_append_own w hgd sl x 36 ho base 5 i0 (.int .u8 0) 1 1 Tryz.underlying36 hi hz0 hz1 hz2 rfl (by decide) v l.length _ hs hown ⟨g, 0, none⟩ news.length c (Lib.byteCells news) hx (by rw [Lib.byteCells_length, Nat.mul_one]) (fun j u hj=>?_) (fun u hu=>?_) (by unfold maxLen; omega) (by omega) hbase (fun v' w' hown' hgr _=>h v' w' ?_ ?_ hgr)
 ·rw [Addr.add_lit, Nat.zero_add, hB.cell j]
  simpa using hj
 ·obtain ⟨b, _, rfl⟩:=List.mem_map.1 hu
  rfl
 ·unfold Own
  rw [List.length_append, Lib.byteCells_append]
  exact hown'
 ·exact (Below.refl _ _).grown hgr hbase (fun k hk=>(hown.lt k hk).1)
theorem wpList_pushS {w : World} {ops : Array Oper} {rest : List Oper} {o : Oper} {a : Act} {Q : Exit → Act → World → Prop} (hgd : o.guard = none) (sl x : Operand)
  (ho : o.op = .call { callee:=.builtin .append, args:=#[sl, x], argTypes:=#[36, 9] })
  (base : Nat) (v : Value) (l : List UInt8) (hs : a.eval sl = v) (hown : Own w base v l) (s : ByteArray) (hx : a.eval x = .string s)
  (hl : l.length + s.size ≤ 1099511627776) (hbase : base ≤ w.heap.size)
  (h : ∀ v' w', Own w' base v' (l ++ Nm.bs s) → Below base w w' → w.grownBy w' v.ownBlock → wpList Tryz.prog ops Q rest (a.put o.dst v') w') : wpList Tryz.prog ops Q (o :: rest) a w:=by
 obtain ⟨i0, hi, hz0, hz1, hz2⟩:=infoP info8
 refine Lib.wpList_append_own_string w hgd sl x 36 9 ho base 5 i0 Tryz.underlying36 Tryz.underlying9 hi hz0 hz1 hz2 v l.length _ hs hown s hx (by unfold maxLen; omega) (by omega) hbase (fun v' w' hown' hgr _=>h v' w' ?_ ?_ hgr)
 ·unfold Own
  rw [List.length_append, Lib.byteCells_append]
  rw [Lib.strCells_eq] at hown'
  exact hown'
 ·exact (Below.refl _ _).grown hgr hbase (fun k hk=>(hown.lt k hk).1)
theorem step_push {w : World} {ops : Array Oper} {o : Oper} {a : Act} {K : Act → World → Prop} {Q : Exit → Act → World → Prop} {E : Prop} (hgd : o.guard = none) (sl x : Operand)
  (ho : o.op = .call { callee:=.builtin .append, args:=#[sl, x], argTypes:=#[36, 36] })
  (base : Nat) (v : Value) (l : List UInt8) (hs : a.eval sl = v) (hown : Own w base v l) (g m c : Nat) (news : List UInt8) (hx : a.eval x = .slice (some ⟨g, 0, none⟩) m c) (hm : m = news.length)
  (hB : Blk w g 5 (Lib.byteCells news).toArray) (hl : l.length + news.length ≤ 1099511627776) (hbase : base ≤ w.heap.size)
  (h : ∀ v' w', Own w' base v' (l ++ news) → Below base w w' → w.grownBy w' v.ownBlock → K (a.put o.dst v') w') :
  if Region.wanted o (yielded ops a.tmps) = true then Oper.wp Tryz.prog o a w K Q else E:=by
 have hw : Region.wanted o (yielded ops a.tmps) = true:=by simp [Region.wanted, hgd]
 rw [if_pos hw]
 subst hm
 obtain ⟨i0, hi, hz0, hz1, hz2⟩:=infoP info8
 refine wp_append_own w sl x 36 ho base 5 i0 (.int .u8 0) 1 1 Tryz.underlying36 hi hz0 hz1 hz2 rfl (by decide) v l.length _ hs hown ⟨g, 0, none⟩ news.length c (Lib.byteCells news) hx (by rw [Lib.byteCells_length, Nat.mul_one]) (fun j u hj=>?_) (fun u hu=>?_) (by unfold maxLen; omega) (by omega) hbase (fun v' w' hown' hgr _=>h v' w' ?_ ?_ hgr)
 ·rw [Addr.add_lit, Nat.zero_add, hB.cell j]
  simpa using hj
 ·obtain ⟨b, _, rfl⟩:=List.mem_map.1 hu
  rfl
 ·unfold Own
  rw [List.length_append, Lib.byteCells_append]
  exact hown'
 ·exact (Below.refl _ _).grown hgr hbase (fun k hk=>(hown.lt k hk).1)
end Go.Proofs.YtbdpkfgllnbheaaGreatDoor
namespace Go.Proofs.YtbdpkfgllnbheaaGreatDoor
open Go.RowKit
def RAt (w : World) (P : Nat → Prop) (A : Option Addr) (r : List Nm.Ava) : Prop :=
 0 < r.length → ∃ ad, A = some ad ∧ P ad.block ∧ ∀ i (h : i < r.length), w.cell? (ad.add (i * 2)) = some (.string r[i].1) ∧ w.cell? (ad.add (i * 2 + 1)) = some (.string r[i].2)
theorem RAt.nil (w : World) (P : Nat → Prop) (A : Option Addr) : RAt w P A []:=fun h=>absurd h (by simp)
theorem RAt.imp {w w' : World} {P P' : Nat → Prop} {A : Option Addr} {r : List Nm.Ava} (h : RAt w P A r) (hP : ∀ b, P b → P' b) (hw : ∀ p : Addr, P p.block → w'.cell? p = w.cell? p) : RAt w' P' A r:=fun h0=>by
 obtain ⟨ad, e, hp, hc⟩:=h h0
 exact ⟨ad, e, hP _ hp, fun i hi=>⟨(hw _ (by rw [block_of_add]; exact hp)).trans (hc i hi).1, (hw _ (by rw [block_of_add]; exact hp)).trans (hc i hi).2⟩⟩
theorem RAt.past {w w' : World} {A : Option Addr} {r : List Nm.Ava} (h : RAt w (· < w.heap.size) A r) (hb : Below w.heap.size w w') : RAt w' (· < w'.heap.size) A r :=
 h.imp (fun b hb'=>Nat.lt_of_lt_of_le hb' hb.size) (fun p hp=>hb.cell hp)
theorem RAt.take {w : World} {P : Nat → Prop} {A : Option Addr} {r : List Nm.Ava} (h : RAt w P A r) (k : Nat) : RAt w P A (r.take k):=fun h0=>by
 rw [List.length_take] at h0
 obtain ⟨ad, e, hp, hc⟩:=h (by omega)
 refine ⟨ad, e, hp, fun i hi=>?_⟩
 have hi' : i < r.length:=by rw [List.length_take] at hi; omega
 simp only [List.getElem_take]
 exact hc i hi'
theorem RAt.drew {w : World} {P : Nat → Prop} {A : Option Addr} {r : List Nm.Ava} (h : RAt w P A r) : RAt w.drew P A r:=h
theorem add_odd (a : Addr) (n : Nat) : a.add (n + 1) = ⟨(a.add n).block, (a.add n).off + 1, none⟩:=by
 rw [← add_of_add]
 show Addr.add _ 1 = _
 unfold Addr.add
 rw [if_neg (by omega)]
theorem RAt.kid {w wr : World} {A : Option Addr} {r : List Nm.Ava} (h : RAt w (· < w.heap.size) A r) (hb : Below w.heap.size w wr) {i : Nat} (hi : i < r.length) :
  ∃ ad, A = some ad ∧ ad.block < w.heap.size ∧ wr.cell? (ad.add (i * 2)) = some (.string r[i].1) ∧ wr.cell? ⟨(ad.add (i * 2)).block, (ad.add (i * 2)).off + 1, none⟩ = some (.string r[i].2):=by
 obtain ⟨ad, e, hp, hc⟩:=h (by omega)
 obtain ⟨h0, h1⟩:=hc i hi
 have g0:=(hb.cell (by rw [block_of_add]; exact hp)).trans h0
 have g1:=(hb.cell (by rw [block_of_add]; exact hp)).trans h1
 rw [add_odd] at g1
 exact ⟨ad, e, hp, g0, g1⟩
def DAt (w : World) (P : Nat → Prop) (A : Option Addr) (d : List (List Nm.Ava)) : Prop :=
 0 < d.length → ∃ ad, A = some ad ∧ P ad.block ∧ ∀ i (h : i < d.length), ∃ A' c, w.cell? (ad.add i) = some (.slice A' d[i].length c) ∧ d[i].length ≤ c ∧ RAt w P A' d[i]
theorem DAt.nil (w : World) (P : Nat → Prop) (A : Option Addr) : DAt w P A []:=fun h=>absurd h (by simp)
theorem DAt.imp {w w' : World} {P P' : Nat → Prop} {A : Option Addr} {d : List (List Nm.Ava)} (h : DAt w P A d) (hP : ∀ b, P b → P' b) (hw : ∀ p : Addr, P p.block → w'.cell? p = w.cell? p) : DAt w' P' A d:=fun h0=>by
 obtain ⟨ad, e, hp, hc⟩:=h h0
 refine ⟨ad, e, hP _ hp, fun i hi=>?_⟩
 obtain ⟨A', c, h1, h3, h2⟩:=hc i hi
 exact ⟨A', c, (hw _ (by rw [block_of_add]; exact hp)).trans h1, h3, h2.imp hP hw⟩
theorem DAt.past {w w' : World} {A : Option Addr} {d : List (List Nm.Ava)} (h : DAt w (· < w.heap.size) A d) (hb : Below w.heap.size w w') : DAt w' (· < w'.heap.size) A d :=
 h.imp (fun b hb'=>Nat.lt_of_lt_of_le hb' hb.size) (fun p hp=>hb.cell hp)
theorem DAt.drew {w : World} {P : Nat → Prop} {A : Option Addr} {d : List (List Nm.Ava)} (h : DAt w P A d) : DAt w.drew P A d:=h
theorem DAt.kid {w wr : World} {A : Option Addr} {d : List (List Nm.Ava)} (h : DAt w (· < w.heap.size) A d) (hb : Below w.heap.size w wr) {i : Nat} (hi : i < d.length) :
  ∃ ad A' c, A = some ad ∧ ad.block < w.heap.size ∧ wr.cell? (ad.add i) = some (.slice A' d[i].length c) ∧ d[i].length ≤ c ∧ RAt wr (· < wr.heap.size) A' d[i]:=by
 obtain ⟨ad, e, hp, hc⟩:=h (by omega)
 obtain ⟨A', c, h0, h2, h1⟩:=hc i hi
 exact ⟨ad, A', c, e, hp, (hb.cell (by rw [block_of_add]; exact hp)).trans h0, h2, h1.past hb⟩
end Go.Proofs.YtbdpkfgllnbheaaGreatDoor
namespace Go.Proofs.YtbdpkfgllnbheaaGreatDoor
open Go.ChangeShapes Go.WideShapes Go.RowKit Go.Deep
theorem cellsA : Tryz.prog.cellsOf 41 = 2:=by kernel_rfl
theorem cellsStr : Tryz.prog.cellsOf 9 = 1:=by kernel_rfl
theorem ava_of_trod {H : Type} {enc : TypeId × Value → H} {w : World} {base : Nat} {spare : Nat → Bool} {held : Bool} {fuel : Nat} {cs : List Value} {x : DataW H × List MemPlace}
  (h : DataW.trod enc Tryz.prog w base spare held fuel 41 cs = some x) : ∃ a : Nm.Ava, cs = [.string a.1, .string a.2]:=by
 obtain ⟨xs, n, rfl, _, hl, hlen, hg⟩:=DataW.trod_struct Tryz.underlying41 h
 rw [cellsA] at hl
 match cs, hl with
 | [c0, c1], _ =>
  have g0:=hg 0 _ rfl
  have g1:=hg 1 _ rfl
  have l2 : xs.length = 2:=hlen
  match xs, l2 with
  | [y0, y1], _ =>
  have g0' : DataW.trod enc Tryz.prog w base spare held n 9 [c0] = some y0:=by simpa [cellsStr] using g0
  have g1' : DataW.trod enc Tryz.prog w base spare held n 9 [c1] = some y1:=by simpa [cellsStr] using g1
  obtain ⟨s, hs, _, _⟩:=DataW.trod_string Tryz.underlying9 g0'
  obtain ⟨s', hs', _, _⟩:=DataW.trod_string Tryz.underlying9 g1'
  simp only [List.cons.injEq, and_true] at hs hs'
  subst hs hs'
  exact ⟨(s, s'), rfl⟩
theorem rdn_of_trod {H : Type} {enc : TypeId × Value → H} {w : World} {base : Nat} {spare : Nat → Bool} {held : Bool} {fuel : Nat} {cs : List Value} {x : DataW H × List MemPlace}
  (h : DataW.trod enc Tryz.prog w base spare held fuel 25 cs = some x) : ∃ (r : List Nm.Ava) (A : Option Addr) (c : Nat), cs = [.slice A r.length c] ∧ r.length ≤ c ∧ r.length ≤ maxLen ∧ RAt w (· < w.heap.size) A r:=by
 rcases DataW.trod_slice Tryz.underlying25 h with ⟨hc, _⟩ | ⟨ad, len, cap, elems, rest, m, hm, hc, _, _, hlc, hcm, hel, hev, _, _⟩
 ·exact ⟨[], none, 0, hc, Nat.le_refl _, Nat.zero_le _, RAt.nil _ _ _⟩
 ·have one : ∀ i, i < len → ∃ a : Nm.Ava, w.cell? (ad.add (i * 2)) = some (.string a.1) ∧ w.cell? (ad.add (i * 2 + 1)) = some (.string a.2):=by
   intro i hi
   have h1:=hev i hi
   rw [cellsA] at h1
   have h2 : elems[i]? = some (elems[i]'(by omega)):=List.getElem?_eq_getElem (by omega)
   rw [h2, Option.bind_eq_some_iff] at h1
   obtain ⟨cs', hcs', hof⟩:=h1
   obtain ⟨_, hl', hcell⟩:=World.cells?_some hcs'
   obtain ⟨a, rfl⟩:=ava_of_trod hof
   have e0:=hcell 0 (by simp)
   have e1:=hcell 1 (by simp)
   rw [Go.Deep.add_add] at e0 e1
   exact ⟨a, e0, e1⟩
  have : Inhabited Nm.Ava:=⟨(⟨#[]⟩, ⟨#[]⟩)⟩
  obtain ⟨q, hq⟩:=choose_lt one
  have hkl : ((List.range len).map q).length = len:=by simp
  refine ⟨(List.range len).map q, some ad, cap, by rw [hkl]; exact hc, by rw [hkl]; exact hlc, by rw [hkl]; omega, fun h0=>⟨ad, rfl, ?_, fun i hi=>?_⟩⟩
  ·rw [hkl] at h0
   have:=cell_lt (hq 0 h0).1
   rwa [block_of_add] at this
  ·rw [hkl] at hi
   simpa using hq i hi
end Go.Proofs.YtbdpkfgllnbheaaGreatDoor
namespace Go.Proofs.YtbdpkfgllnbheaaGreatDoor
open Go.RowKit
theorem toList_inj' (a b : ByteArray) : (a.toList == b.toList) = decide (a = b):=by
 rw [Bool.eq_iff_iff]
 simp only [beq_iff_eq, decide_eq_true_eq]
 constructor
 ·intro h
  have : a.data.toList = b.data.toList:=by simpa [ByteArray.toList_eq] using h
  cases a; cases b
  simp only [ByteArray.mk.injEq]
  simpa using this
 ·intro h; rw [h]
set_option maxHeartbeats 400000 in
theorem clo_any (x y z : ByteArray) (g : Nat) (w : World) (h : w.cell? ⟨g, 0, none⟩ = some (.string z)) :
  Calls Tryz.prog 117 #[.agg #[.string x, .string y], .pointer (some ⟨g, 0, none⟩)] w fun e w'=>e = .returned (.bool (decide (x = z))) ∧ Below w.heap.size w w':=by
 have hlt:=cell_lt h
 have h' : (w.alloc (.cells #[.string x, .string y] 41)).cell? ⟨g, 0, none⟩ = some (.string z):=bat ((Below.refl _ _).alloc (Nat.le_refl _) _) hlt h
 go_enter Tryz.func117, Tryz.ntmps117
 go_wp2_with fail
 go_ret
 exact ⟨ret_bool (toList_inj' x z), (Below.refl _ _).alloc (Nat.le_refl _) _⟩
def hasT (r : List Nm.Ava) (z : ByteArray) : Bool:=r.any fun b=>decide (b.1 = z)
theorem hasT_step {r : List Nm.Ava} {z : ByteArray} {k : Nat} (h : k < r.length) : hasT (r.take (k + 1)) z = (hasT (r.take k) z || decide (r[k].1 = z)):=by
 unfold hasT
 rw [List.take_succ_eq_append_getElem h, List.any_append]
 simp
theorem hasT_at {r : List Nm.Ava} {z : ByteArray} {k : Nat} (h : k < r.length) (he : r[k].1 = z) : hasT r z = true:=by
 unfold hasT
 rw [List.any_eq_true]
 exact ⟨r[k], List.getElem_mem h, by simp [he]⟩
set_option maxHeartbeats 1000000 in
theorem index_any (r : List Nm.Ava) (A : Option Addr) (c : Nat) (z : ByteArray) (g : Nat) (w : World) (hg : w.cell? ⟨g, 0, none⟩ = some (.string z)) (hr : RAt w (· < w.heap.size) A r) (hl : r.length ≤ maxLen) :
  Calls Tryz.prog 121 #[.slice A r.length c, .func (.func 117) #[] #[.pointer (some ⟨g, 0, none⟩)]] w fun e w'=>∃ n : Int, e = .returned (.int .i64 n) ∧ decide (0 ≤ n) = hasT r z ∧ Below w.heap.size w w':=by
 unfold maxLen at hl
 have CC:=Lib.hid (fun x y w=>clo_any x y z g w)
 have hlt:=cell_lt hg
 go_enter Tryz.func121, Tryz.ntmps121
 go_wp2_with fail
 go_loopw [8] (fun i wr=>∃ k : Nat, k ≤ r.length ∧ i = .int .i64 k ∧ Hid (hasT (r.take k) z = false) ∧ Below w.heap.size w wr) (fun i wr=>r.length - (intOf i).toNat)
 case atStart=>exact ⟨0, Nat.zero_le _, rfl, rfl, Below.refl _ _⟩
 case round =>
  obtain ⟨k, hk, rfl, hE, hb⟩:=hrel
  have hs:=hb.size
  by_cases hlt2 : k < r.length
  ·obtain ⟨ad, rfl, hp, f0, f1⟩:=hr.kid hb hlt2
   have hg2:=bat hb hlt hg
   have hS:=Lib.hid (hasT_step (z:=z) hlt2)
   have hA:=Lib.hid (fun he=>hasT_at (r:=r) (z:=z) hlt2 he)
   obtain ⟨x, hx⟩ : ∃ x, x = r[k].1:=⟨_, rfl⟩
   obtain ⟨y, hy⟩ : ∃ y, y = r[k].2:=⟨_, rfl⟩
   rw [← hx] at f0 hS hA
   rw [← hy] at f1
   clear hx hy
   by_cases hxz : x = z
   ·have D:=CC.out x y wr hg2
    rw [decide_eq_true hxz] at D
    have HD:=Lib.hid D
    have HX:=Lib.hid hxz
    clear D hxz
    go_wp2_with fail
    refine HD.out.mono ?_
    rintro e w1 ⟨rfl, hb1⟩
    go_wp2_with fail
    go_ret
    refine ⟨_, rfl, ?_, hb.trans (hb1.mono hs)⟩
    rw [hA.out HX.out, decide_eq_true_eq]
    omega
   ·have D:=CC.out x y wr hg2
    rw [decide_eq_false hxz] at D
    have HD:=Lib.hid D
    have HX:=Lib.hid hxz
    clear D hxz
    go_wp2_with fail
    refine HD.out.mono ?_
    rintro e w1 ⟨rfl, hb1⟩
    go_wp2_with fail
    go_roundw
    case rel =>
     refine ⟨k + 1, by omega, by go_num, ?_, hb.trans (hb1.mono hs)⟩
     show _ = _
     rw [hS.out, hE.out, decide_eq_false HX.out]
     rfl
    case measure=>simp [intOf]; omega
  ·have hk2 : k = r.length:=by omega
   have hE2:=hE.out
   rw [hk2, List.take_length] at hE2
   have HE:=Lib.hid hE2
   clear hE hE2 hk2
   go_wp2_with fail
   go_ret
   refine ⟨_, rfl, ?_, hb⟩
   rw [HE.out]
   rfl
set_option maxHeartbeats 400000 in
theorem contains_any (r : List Nm.Ava) (A : Option Addr) (c : Nat) (z : ByteArray) (g : Nat) (w : World) (hg : w.cell? ⟨g, 0, none⟩ = some (.string z)) (hr : RAt w (· < w.heap.size) A r) (hl : r.length ≤ maxLen) :
  Calls Tryz.prog 89 #[.slice A r.length c, .func (.func 117) #[] #[.pointer (some ⟨g, 0, none⟩)]] w fun e w'=>e = .returned (.bool (hasT r z)) ∧ Below w.heap.size w w':=by
 have C:=Lib.hid (index_any r A c z g w hg hr hl)
 go_enter Tryz.func89, Tryz.ntmps89
 go_wp2_with fail
 refine C.out.mono ?_
 rintro e w1 ⟨n, rfl, hn, hb1⟩
 have HN:=Lib.hid hn
 clear hn
 go_wp2_with fail
 go_ret
 exact ⟨ret_bool HN.out, hb1⟩
end Go.Proofs.YtbdpkfgllnbheaaGreatDoor
