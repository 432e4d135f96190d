import Derived.Test.YtpnlalfdgngcdaaDoorZA3
import Derived.Lib.AppendStr
import Derived.Laws.AppendOwn
import Derived.Maps.AppendAt
set_option linter.unusedVariables false
set_option maxRecDepth 100000
namespace Go.Proofs.YtpnlalfdgngcdaaDoor
open Go.RowKit
theorem block_of_add (a : Addr) (n : Nat) : (a.add n).block = a.block:=by unfold Addr.add; split <;> rfl
theorem add_of_add (a : Addr) (i j : Nat) : (a.add i).add j = a.add (i + j):=by
 unfold Addr.add
 by_cases hi : i = 0 <;> by_cases hj : j = 0 <;> simp [hi, hj, Nat.add_assoc]
theorem bat {B : Nat} {w w' : World} (hb : Below B w w') {b o : Nat} {v : Value} (h : b < B) (f : w.cell? ⟨b, o, none⟩ = some v) : w'.cell? ⟨b, o, none⟩ = some v:=(hb.cell (p:=⟨b, o, none⟩) h).trans f
theorem batA {B : Nat} {w w' : World} (hb : Below B w w') {p : Addr} {v : Value} (h : p.block < B) (f : w.cell? p = some v) : w'.cell? p = some v:=(hb.cell h).trans f
theorem cell_lt {w : World} {p : Addr} {v : Value} (h : w.cell? p = some v) : p.block < w.heap.size:=by
 rcases Nat.lt_or_ge p.block w.heap.size with hlt | hge
 ·exact hlt
 ·simp [World.cell?, Array.getElem?_eq_none hge] at h
def Blk (w : World) (g : Nat) (t : TypeId) (cs : Array Value) : Prop:=w.heap[g]? = some (.cells cs t (0, 0))
theorem Blk.lt {w : World} {g : Nat} {t : TypeId} {cs : Array Value} (h : Blk w g t cs) : g < w.heap.size:=by
 rcases Nat.lt_or_ge g w.heap.size with hlt | hge
 ·exact hlt
 ·unfold Blk at h; rw [Array.getElem?_eq_none hge] at h; cases h
theorem Blk.cell {w : World} {g : Nat} {t : TypeId} {cs : Array Value} (h : Blk w g t cs) (i : Nat) : w.cell? ⟨g, i, none⟩ = cs[i]?:=cell_of_row w g i cs t (0, 0) h
theorem Blk.frozen {w : World} {g : Nat} {t : TypeId} {cs : Array Value} (h : Blk w g t cs) (i : Nat) : w.frozen? ⟨g, i, none⟩ = false:=by
 unfold Blk at h
 simp [World.frozen?, h]
theorem Blk.new (w : World) (t : TypeId) (cs : Array Value) : Blk (w.alloc (.cells cs t)) w.heap.size t cs:=heap_alloc_new w _
theorem Blk.newd (w : World) (t : TypeId) (cs : Array Value) : Blk (w.alloc (.cells cs t)).drew w.heap.size t cs:=heap_alloc_new w _
theorem Blk.past {w w' : World} {g : Nat} {t : TypeId} {cs : Array Value} (h : Blk w g t cs) (hb : Below w.heap.size w w') : Blk w' g t cs:=(hb.block g h.lt).trans h
theorem Blk.drew {w : World} {g : Nat} {t : TypeId} {cs : Array Value} (h : Blk w g t cs) : Blk w.drew g t cs:=h
theorem Blk.alloc {w : World} {g : Nat} {t : TypeId} {cs : Array Value} (h : Blk w g t cs) (o : Obj) : Blk (w.alloc o) g t cs:=(Below.heap_alloc w o g h.lt).trans h
theorem Blk.set_ {w : World} {g : Nat} {t : TypeId} {cs : Array Value} (h : Blk w g t cs) (i : Nat) (u : Value) : Blk (w.setCell ⟨g, i, none⟩ u) g t (cs.setIfInBounds i u):=by
 unfold Blk at h ⊢
 simp [World.setCell, Array.getElem?_modify, h]
theorem Blk.far {w : World} {g : Nat} {t : TypeId} {cs : Array Value} (h : Blk w g t cs) {p : Addr} (hp : g ≠ p.block) (u : Value) : Blk (w.setCell p u) g t cs:=(Below.heap_setCell w p u g hp).trans h
theorem Blk.grown {w w' : World} {g : Nat} {t : TypeId} {cs : Array Value} {row : Option Nat} (h : Blk w g t cs) (hb : w.grownBy w' row) (hg : some g ≠ row) : Blk w' g t cs:=(hb.block g h.lt hg).trans h
theorem info8 : (Tryd.prog.info? 5).map (fun i=>(i.zero, i.size, i.bytes)) = some (some (.int .u8 0), 1, 1):=by kernel_rfl
theorem infoP {P : Program} {t : TypeId} {z : Value} {m k : Nat} (h : (P.info? t).map (fun i=>(i.zero, i.size, i.bytes)) = some (some z, m, k)) : ∃ i, P.info? t = some i ∧ i.zero = some z ∧ i.size = m ∧ i.bytes = k:=by
 cases h1 : P.info? t with
 | none=>rw [h1] at h; cases h
 | some i =>
  rw [h1] at h
  simp only [Option.map_some, Option.some.injEq, Prod.mk.injEq] at h
  exact ⟨i, rfl, h.1, h.2.1, h.2.2⟩
def Own (w : World) (base : Nat) (v : Value) (l : List UInt8) : Prop:=w.ownsRow base 5 1 v l.length (Lib.byteCells l)
theorem own_past {w w' : World} {base : Nat} {e : TypeId} {size : Nat} {v : Value} {n : Nat} {xs : List Value} (h : w.ownsRow base e size v n xs) (hb : Below w.heap.size w w') : w'.ownsRow base e size v n xs:=by
 obtain ⟨h1, h2⟩:=h
 refine ⟨h1, ?_⟩
 rcases h2 with h2 | ⟨g, cap, cur, hv, hg, hh, r⟩
 ·exact Or.inl h2
 ·have hlt : g < w.heap.size:=by
   rcases Nat.lt_or_ge g w.heap.size with h' | h'
   ·exact h'
   ·simp [Array.getElem?_eq_none h'] at hh
  exact Or.inr ⟨g, cap, cur, hv, hg, (hb.block g hlt).trans hh, r⟩
theorem Own.past {w w' : World} {base : Nat} {v : Value} {l : List UInt8} (h : Own w base v l) (hb : Below w.heap.size w w') : Own w' base v l:=own_past h hb
theorem Own.nil (w : World) (base : Nat) : Own w base (.slice none 0 0) []:=World.ownsRow_nil w base _ 1
theorem Own.drew {w : World} {base : Nat} {v : Value} {l : List UInt8} (h : Own w base v l) : Own w.drew base v l:=h
theorem Own.alloc {w : World} {base : Nat} {v : Value} {l : List UInt8} (h : Own w base v l) (o : Obj) : Own (w.alloc o) base v l:=h.past ((Below.refl _ _).alloc (Nat.le_refl _) o)
theorem Own.form {w : World} {base : Nat} {v : Value} {l : List UInt8} (h : Own w base v l) : ∃ A c, v = .slice A l.length c:=by
 rcases h.2 with ⟨rfl, h0⟩ | ⟨g, cap, cur, rfl, _⟩
 ·exact ⟨none, 0, by rw [h0]⟩
 ·exact ⟨_, _, rfl⟩
theorem Own.ne {w : World} {base : Nat} {v : Value} {l : List UInt8} {g : Nat} {t : TypeId} {cs : Array Value} (h : Own w base v l) (hB : Blk w g t cs) (ht : t ≠ 5) : some g ≠ v.ownBlock:=by
 rcases h.2 with ⟨rfl, _⟩ | ⟨g', cap', cur, rfl, hg, hh, _⟩
 ·simp [Value.ownBlock]
 ·intro e
  simp only [Value.ownBlock, Option.some.injEq] at e
  subst e
  unfold Blk at hB
  rw [hB] at hh
  simp only [Option.some.injEq, Obj.cells.injEq] at hh
  exact ht hh.2.1
theorem own_cell {w : World} {base g n cap : Nat} {t : TypeId} {size : Nat} {xs : List Value} (h : w.ownsRow base t size (.slice (some ⟨g, 0, none⟩) n cap) n xs) (j : Nat) (u : Value) (hj : xs[j]? = some u) : w.cell? ⟨g, j, none⟩ = some u:=by
 rcases h.2 with ⟨e, _⟩ | ⟨g', cap', cur, e, hg, hh, hc, hm, hs, ht⟩
 ·cases e
 ·injection e with e1 e2 e3
  injection e1 with e1
  injection e1 with e1
  subst e1
  rw [cell_of_row w g j cur _ _ hh]
  have h1 : (cur.toList.take (n * size))[j]? = some u:=by rw [ht]; exact hj
  have hjl : j < n * size:=by
   have:=(List.getElem?_eq_some_iff.1 h1).1
   simp at this; omega
  rw [List.getElem?_take_of_lt hjl] at h1
  simpa using h1
theorem Own.cell {w : World} {base g n cap : Nat} {l : List UInt8} (h : Own w base (.slice (some ⟨g, 0, none⟩) n cap) l) (hn : n = l.length) {i : Nat} {c : UInt8} (hi : l[i]? = some c) : w.cell? ⟨g, i, none⟩ = some (.int .u8 (c.toNat : Int)):=by
 subst hn
 exact own_cell h i _ (by rw [Lib.byteCells, List.getElem?_map, hi]; rfl)
theorem Own.form3 {w : World} {base : Nat} {v : Value} {l : List UInt8} (h : Own w base v l) : ∃ A n c, v = .slice A n c:=by
 obtain ⟨A, c, e⟩:=h.form
 exact ⟨A, _, c, e⟩
theorem Own.string {w : World} {base : Nat} {v : Value} {l : List UInt8} (h : Own w base v l) : (convert 72 9 v).run Tryd.prog w = .ok (.string (Nm.mk l)) w:=by
 rcases h.2 with ⟨rfl, h0⟩ | ⟨g, cap, cur, rfl, hg, hh, hc, hm, hs, ht⟩
 ·have : l = []:=List.eq_nil_of_length_eq_zero h0
  subst this
  exact run_convert_bytes_nil (P:=Tryd.prog) w 72 5 Tryd.underlying72 Tryd.underlying5 0 0 9 Tryd.underlying9
 ·exact run_convert_bytes_back (P:=Tryd.prog) w 72 9 5 ⟨g, 0, none⟩ cap l Tryd.underlying72 Tryd.underlying5 Tryd.underlying9 (fun j hj=>by
   rw [Addr.add_lit, Nat.zero_add]
   exact Own.cell (cap:=cap) ⟨h.1, Or.inr ⟨g, cap, cur, rfl, hg, hh, hc, hm, hs, ht⟩⟩ rfl (List.getElem?_eq_getElem hj))
theorem wpList_push {w : World} {ops : Array Oper} {rest : List Oper} {o : Oper} {a : Act} {Q : Exit → Act → World → Prop} (hgd : o.guard = none) (sl x : Operand)
  (ho : o.op = .call { callee:=.builtin .append, args:=#[sl, x], argTypes:=#[72, 72] })
  (base : Nat) (v : Value) (l : List UInt8) (hs : a.eval sl = v) (hown : Own w base v l) (g m c : Nat) (news : List UInt8) (hx : a.eval x = .slice (some ⟨g, 0, none⟩) m c) (hm : m = news.length)
  (hB : Blk w g 5 (Lib.byteCells news).toArray) (hl : l.length + news.length ≤ 1099511627776) (hbase : base ≤ w.heap.size)
  (h : ∀ v' w', Own w' base v' (l ++ news) → Below base w w' → w.grownBy w' v.ownBlock → wpList Tryd.prog ops Q rest (a.put o.dst v') w') : wpList Tryd.prog ops Q (o :: rest) a w:=by
 subst hm
 obtain ⟨i0, hi, hz0, hz1, hz2⟩:=infoP info8
 refine wpList_append_own w hgd sl x 72 ho base 5 i0 (.int .u8 0) 1 1 Tryd.underlying72 hi hz0 hz1 hz2 rfl (by decide) v l.length _ hs hown ⟨g, 0, none⟩ news.length c (Lib.byteCells news) hx (by rw [Lib.byteCells_length, Nat.mul_one]) (fun j u hj=>?_) (fun u hu=>?_) (by unfold maxLen; omega) (by omega) hbase (fun v' w' hown' hgr _=>h v' w' ?_ ?_ hgr)
 ·rw [Addr.add_lit, Nat.zero_add, hB.cell j]
  simpa using hj
 ·obtain ⟨b, _, rfl⟩:=List.mem_map.1 hu
  rfl
 ·unfold Own
  rw [List.length_append, Lib.byteCells_append]
  exact hown'
 ·exact (Below.refl _ _).grown hgr hbase (fun k hk=>(hown.lt k hk).1)
theorem wpList_pushS {w : World} {ops : Array Oper} {rest : List Oper} {o : Oper} {a : Act} {Q : Exit → Act → World → Prop} (hgd : o.guard = none) (sl x : Operand)
  (ho : o.op = .call { callee:=.builtin .append, args:=#[sl, x], argTypes:=#[72, 9] })
  (base : Nat) (v : Value) (l : List UInt8) (hs : a.eval sl = v) (hown : Own w base v l) (s : ByteArray) (hx : a.eval x = .string s)
  (hl : l.length + s.size ≤ 1099511627776) (hbase : base ≤ w.heap.size)
  (h : ∀ v' w', Own w' base v' (l ++ Nm.bs s) → Below base w w' → w.grownBy w' v.ownBlock → wpList Tryd.prog ops Q rest (a.put o.dst v') w') : wpList Tryd.prog ops Q (o :: rest) a w:=by
 obtain ⟨i0, hi, hz0, hz1, hz2⟩:=infoP info8
 refine Lib.wpList_append_own_string w hgd sl x 72 9 ho base 5 i0 Tryd.underlying72 Tryd.underlying9 hi hz0 hz1 hz2 v l.length _ hs hown s hx (by unfold maxLen; omega) (by omega) hbase (fun v' w' hown' hgr _=>h v' w' ?_ ?_ hgr)
 ·unfold Own
  rw [List.length_append, Lib.byteCells_append]
  rw [Lib.strCells_eq] at hown'
  exact hown'
 ·exact (Below.refl _ _).grown hgr hbase (fun k hk=>(hown.lt k hk).1)
theorem step_push {w : World} {ops : Array Oper} {o : Oper} {a : Act} {K : Act → World → Prop} {Q : Exit → Act → World → Prop} {E : Prop} (hgd : o.guard = none) (sl x : Operand)
  (ho : o.op = .call { callee:=.builtin .append, args:=#[sl, x], argTypes:=#[72, 72] })
  (base : Nat) (v : Value) (l : List UInt8) (hs : a.eval sl = v) (hown : Own w base v l) (g m c : Nat) (news : List UInt8) (hx : a.eval x = .slice (some ⟨g, 0, none⟩) m c) (hm : m = news.length)
  (hB : Blk w g 5 (Lib.byteCells news).toArray) (hl : l.length + news.length ≤ 1099511627776) (hbase : base ≤ w.heap.size)
  (h : ∀ v' w', Own w' base v' (l ++ news) → Below base w w' → w.grownBy w' v.ownBlock → K (a.put o.dst v') w') :
  if Region.wanted o (yielded ops a.tmps) = true then Oper.wp Tryd.prog o a w K Q else E:=by
 have hw : Region.wanted o (yielded ops a.tmps) = true:=by simp [Region.wanted, hgd]
 rw [if_pos hw]
 subst hm
 obtain ⟨i0, hi, hz0, hz1, hz2⟩:=infoP info8
 refine wp_append_own w sl x 72 ho base 5 i0 (.int .u8 0) 1 1 Tryd.underlying72 hi hz0 hz1 hz2 rfl (by decide) v l.length _ hs hown ⟨g, 0, none⟩ news.length c (Lib.byteCells news) hx (by rw [Lib.byteCells_length, Nat.mul_one]) (fun j u hj=>?_) (fun u hu=>?_) (by unfold maxLen; omega) (by omega) hbase (fun v' w' hown' hgr _=>h v' w' ?_ ?_ hgr)
 ·rw [Addr.add_lit, Nat.zero_add, hB.cell j]
  simpa using hj
 ·obtain ⟨b, _, rfl⟩:=List.mem_map.1 hu
  rfl
 ·unfold Own
  rw [List.length_append, Lib.byteCells_append]
  exact hown'
 ·exact (Below.refl _ _).grown hgr hbase (fun k hk=>(hown.lt k hk).1)
end Go.Proofs.YtpnlalfdgngcdaaDoor
