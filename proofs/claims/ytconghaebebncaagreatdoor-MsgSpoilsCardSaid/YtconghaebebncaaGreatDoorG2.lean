import Derived.Test.YtconghaebebncaaGreatDoorProg
import Derived.Test.YtconghaebebncaaGreatDoorG1
import Derived.Test.YtconghaebebncaaGreatDoorShelf
import Derived.WalkKit
import Derived.WalkSpells
import Derived.WalkLawsBesides
import Derived.Deep.QuietTactic
import Derived.BigQuiet
import Derived.Lib.Hide
import Derived.Laws.IdiomStrings
import Derived.Laws.BytesArg
import Derived.Laws.OwnMore
import Derived.Laws.Rows
import Derived.Below
import Derived.Lib.AppendStr
import Derived.Laws.AppendOwn
import Derived.Maps.AppendAt
import Derived.Deep.LoopGhost
/- What all texts import; small laws of what is returned. -/
namespace Go.Proofs.YtconghaebebncaaGreatDoor
open Go.RowKit
set_option linter.unusedVariables false
set_option maxRecDepth 100000

theorem ret_int {k : IntKind} {a b : Int} (h : a = b) : Ending.returned (.int k a) = .returned (.int k b) := by rw [h]
theorem ret_bool {a b : Bool} (h : a = b) : Ending.returned (.bool a) = .returned (.bool b) := by rw [h]
theorem ret_str {a b : ByteArray} (h : a = b) : Ending.returned (.string a) = .returned (.string b) := by rw [h]
theorem u8_lt (b : UInt8) : b.toNat < 256 := b.toNat_lt
end Go.Proofs.YtconghaebebncaaGreatDoor

/- A row of bytes that a conversion made: its cells, its mark. -/
namespace Go.Proofs.YtconghaebebncaaGreatDoor
open Go.RowKit
set_option linter.unusedVariables false
set_option maxRecDepth 100000

/-- Block g holds the bytes l from its head on; none of its cells is frozen. -/
def Row (w : World) (g : Nat) (l : List UInt8) : Prop :=
  ∃ (cur : Array Value) (n m : Nat), w.heap[g]? = some (.cells cur 5 (n, m)) ∧ cur.size ≤ n ∧ l.length ≤ cur.size ∧ cur.toList.take l.length = l.map fun b => Value.int .u8 (b.toNat : Int)
theorem Row.lt {w : World} {g : Nat} {l : List UInt8} (h : Row w g l) : g < w.heap.size := by
  obtain ⟨cur, n, m, hg, _⟩ := h
  rcases Nat.lt_or_ge g w.heap.size with h' | h'
  · exact h'
  · simp [Array.getElem?_eq_none h'] at hg
theorem Row.past {w w' : World} {g : Nat} {l : List UInt8} (h : Row w g l) (hb : Below w.heap.size w w') : Row w' g l := by
  have hlt := h.lt
  obtain ⟨cur, n, m, hg, r⟩ := h
  exact ⟨cur, n, m, (hb.block g hlt).trans hg, r⟩
theorem Row.drew {w : World} {g : Nat} {l : List UInt8} (h : Row w g l) : Row w.drew g l := h
theorem cell_of_mark (w : World) (g i : Nat) (cur : Array Value) (t : TypeId) (f : Nat × Nat) (h : w.heap[g]? = some (.cells cur t f)) : w.cell? ⟨g, i, none⟩ = cur[i]? := by
  unfold World.cell?
  rw [h]
  simp
theorem Row.cell {w : World} {g : Nat} {l : List UInt8} (h : Row w g l) {i : Nat} {c : UInt8} (hi : l[i]? = some c) : w.cell? ⟨g, i, none⟩ = some (.int .u8 (c.toNat : Int)) := by
  obtain ⟨cur, n, m, hg, hn, hl, ht⟩ := h
  have hlt := (List.getElem?_eq_some_iff.1 hi).1
  rw [cell_of_mark w g i cur _ _ hg]
  have h1 : (cur.toList.take l.length)[i]? = some (.int .u8 (c.toNat : Int)) := by
    rw [ht, List.getElem?_map, hi]
    rfl
  rw [List.getElem?_take_of_lt hlt] at h1
  simpa using h1
theorem Row.frozen {w : World} {g : Nat} {l : List UInt8} (h : Row w g l) {i : Nat} (hi : i < l.length) : w.frozen? ⟨g, i, none⟩ = false := by
  obtain ⟨cur, n, m, hg, hn, hl, ht⟩ := h
  unfold World.frozen?
  rw [hg]
  simp
  omega
theorem Row.set_ {w : World} {g : Nat} {l : List UInt8} (h : Row w g l) (i : Nat) (c : UInt8) : Row (w.setCell ⟨g, i, none⟩ (.int .u8 (c.toNat : Int))) g (l.set i c) := by
  obtain ⟨cur, n, m, hg, hn, hl, ht⟩ := h
  refine ⟨cur.setIfInBounds i (.int .u8 (c.toNat : Int)), n, m, ?_, by simpa using hn, by simpa using hl, ?_⟩
  · simp [World.setCell, Array.getElem?_modify, hg]
  · rw [List.length_set, Array.toList_setIfInBounds, List.map_set, ← ht, List.take_set]
theorem row_of_string (s : ByteArray) (w : World) : ∃ cap w', (convert 9 40 (.string s)).run Tryz.prog w = .ok (.slice (some ⟨w.heap.size, 0, none⟩) s.size cap) w' ∧
    Row w' w.heap.size (Nm.bs s) ∧ Below w.heap.size w w' ∧ w'.heap.size = w.heap.size + 1 := by
  refine ⟨_, _, run_bytes_of_string (P := Tryz.prog) w 9 40 5 s Tryz.underlying9 Tryz.underlying40 Tryz.underlying5, ?_, ?_, by simp⟩
  · refine ⟨_, _, _, heap_alloc_new w.drew _, Nat.le_refl _, ?_, ?_⟩
    · show s.size ≤ _
      simp [bytesRow]
    · unfold bytesRow
      have e : ((s.data.map fun b => Value.int .u8 (b.toNat : Int)).toList).length = (Nm.bs s).length := by simp
      rw [Array.toList_append, ← e, List.take_left]
      simp
  · exact ((Below.refl _ _).drew).alloc (by simp) _
/-- The row made a string. -/
theorem row_string {w : World} {g cap : Nat} {l : List UInt8} (h : Row w g l) : (convert 40 9 (.slice (some ⟨g, 0, none⟩) l.length cap)).run Tryz.prog w = .ok (.string (Nm.mk l)) w :=
  run_convert_bytes_back (P := Tryz.prog) w 40 9 5 ⟨g, 0, none⟩ cap l Tryz.underlying40 Tryz.underlying5 Tryz.underlying9 (fun j hj => by
    rw [Addr.add_lit, Nat.zero_add]
    exact h.cell (List.getElem?_eq_getElem hj))
end Go.Proofs.YtconghaebebncaaGreatDoor

/- Blocks known whole, carried through what a walk does; a row of bytes that the call owns, and append behind it. -/
namespace Go.Proofs.YtconghaebebncaaGreatDoor
open Go.RowKit
set_option linter.unusedVariables false
set_option maxRecDepth 100000

theorem block_of_add (a : Addr) (n : Nat) : (a.add n).block = a.block := by unfold Addr.add; split <;> rfl
theorem add_of_add (a : Addr) (i j : Nat) : (a.add i).add j = a.add (i + j) := by
  unfold Addr.add
  by_cases hi : i = 0 <;> by_cases hj : j = 0 <;> simp [hi, hj, Nat.add_assoc]
theorem bat {B : Nat} {w w' : World} (hb : Below B w w') {b o : Nat} {v : Value} (h : b < B) (f : w.cell? ⟨b, o, none⟩ = some v) : w'.cell? ⟨b, o, none⟩ = some v := (hb.cell (p := ⟨b, o, none⟩) h).trans f
theorem batA {B : Nat} {w w' : World} (hb : Below B w w') {p : Addr} {v : Value} (h : p.block < B) (f : w.cell? p = some v) : w'.cell? p = some v := (hb.cell h).trans f
theorem cell_lt {w : World} {p : Addr} {v : Value} (h : w.cell? p = some v) : p.block < w.heap.size := by
  rcases Nat.lt_or_ge p.block w.heap.size with hlt | hge
  · exact hlt
  · simp [World.cell?, Array.getElem?_eq_none hge] at h
/-- Block g holds just the cells cs, of type t; none is frozen. -/
def Blk (w : World) (g : Nat) (t : TypeId) (cs : Array Value) : Prop := w.heap[g]? = some (.cells cs t (0, 0))
theorem Blk.lt {w : World} {g : Nat} {t : TypeId} {cs : Array Value} (h : Blk w g t cs) : g < w.heap.size := by
  rcases Nat.lt_or_ge g w.heap.size with hlt | hge
  · exact hlt
  · unfold Blk at h; rw [Array.getElem?_eq_none hge] at h; cases h
theorem Blk.cell {w : World} {g : Nat} {t : TypeId} {cs : Array Value} (h : Blk w g t cs) (i : Nat) : w.cell? ⟨g, i, none⟩ = cs[i]? := cell_of_row w g i cs t (0, 0) h
theorem Blk.frozen {w : World} {g : Nat} {t : TypeId} {cs : Array Value} (h : Blk w g t cs) (i : Nat) : w.frozen? ⟨g, i, none⟩ = false := by
  unfold Blk at h
  simp [World.frozen?, h]
theorem Blk.new (w : World) (t : TypeId) (cs : Array Value) : Blk (w.alloc (.cells cs t)) w.heap.size t cs := heap_alloc_new w _
theorem Blk.newd (w : World) (t : TypeId) (cs : Array Value) : Blk (w.alloc (.cells cs t)).drew w.heap.size t cs := heap_alloc_new w _
theorem Blk.past {w w' : World} {g : Nat} {t : TypeId} {cs : Array Value} (h : Blk w g t cs) (hb : Below w.heap.size w w') : Blk w' g t cs := (hb.block g h.lt).trans h
theorem Blk.drew {w : World} {g : Nat} {t : TypeId} {cs : Array Value} (h : Blk w g t cs) : Blk w.drew g t cs := h
theorem Blk.alloc {w : World} {g : Nat} {t : TypeId} {cs : Array Value} (h : Blk w g t cs) (o : Obj) : Blk (w.alloc o) g t cs := (Below.heap_alloc w o g h.lt).trans h
theorem Blk.set_ {w : World} {g : Nat} {t : TypeId} {cs : Array Value} (h : Blk w g t cs) (i : Nat) (u : Value) : Blk (w.setCell ⟨g, i, none⟩ u) g t (cs.setIfInBounds i u) := by
  unfold Blk at h ⊢
  simp [World.setCell, Array.getElem?_modify, h]
theorem Blk.far {w : World} {g : Nat} {t : TypeId} {cs : Array Value} (h : Blk w g t cs) {p : Addr} (hp : g ≠ p.block) (u : Value) : Blk (w.setCell p u) g t cs := (Below.heap_setCell w p u g hp).trans h
theorem Blk.grown {w w' : World} {g : Nat} {t : TypeId} {cs : Array Value} {row : Option Nat} (h : Blk w g t cs) (hb : w.grownBy w' row) (hg : some g ≠ row) : Blk w' g t cs := (hb.block g h.lt hg).trans h

theorem info8 : (Tryz.prog.info? 5).map (fun i => (i.zero, i.size, i.bytes)) = some (some (.int .u8 0), 1, 1) := by kernel_rfl
theorem infoP {P : Program} {t : TypeId} {z : Value} {m k : Nat} (h : (P.info? t).map (fun i => (i.zero, i.size, i.bytes)) = some (some z, m, k)) : ∃ i, P.info? t = some i ∧ i.zero = some z ∧ i.size = m ∧ i.bytes = k := by
  cases h1 : P.info? t with
  | none => rw [h1] at h; cases h
  | some i =>
    rw [h1] at h
    simp only [Option.map_some, Option.some.injEq, Prod.mk.injEq] at h
    exact ⟨i, rfl, h.1, h.2.1, h.2.2⟩

/-- v is a slice of bytes that holds l, in a row from base on that the call owns. -/
def Own (w : World) (base : Nat) (v : Value) (l : List UInt8) : Prop := w.ownsRow base 5 1 v l.length (Lib.byteCells l)
theorem own_past {w w' : World} {base : Nat} {e : TypeId} {size : Nat} {v : Value} {n : Nat} {xs : List Value} (h : w.ownsRow base e size v n xs) (hb : Below w.heap.size w w') : w'.ownsRow base e size v n xs := by
  obtain ⟨h1, h2⟩ := h
  refine ⟨h1, ?_⟩
  rcases h2 with h2 | ⟨g, cap, cur, hv, hg, hh, r⟩
  · exact Or.inl h2
  · have hlt : g < w.heap.size := by
      rcases Nat.lt_or_ge g w.heap.size with h' | h'
      · exact h'
      · simp [Array.getElem?_eq_none h'] at hh
    exact Or.inr ⟨g, cap, cur, hv, hg, (hb.block g hlt).trans hh, r⟩
theorem own_more {w : World} {base base' : Nat} {e : TypeId} {size : Nat} {v : Value} {n : Nat} {xs : List Value} (h : w.ownsRow base e size v n xs) (hb : base' ≤ base) : w.ownsRow base' e size v n xs := by
  obtain ⟨h1, h2⟩ := h
  refine ⟨h1, ?_⟩
  rcases h2 with h2 | ⟨g, cap, cur, hv, hg, r⟩
  · exact Or.inl h2
  · exact Or.inr ⟨g, cap, cur, hv, by omega, r⟩
theorem Own.past {w w' : World} {base : Nat} {v : Value} {l : List UInt8} (h : Own w base v l) (hb : Below w.heap.size w w') : Own w' base v l := own_past h hb
theorem Own.nil (w : World) (base : Nat) : Own w base (.slice none 0 0) [] := World.ownsRow_nil w base _ 1
theorem Own.drew {w : World} {base : Nat} {v : Value} {l : List UInt8} (h : Own w base v l) : Own w.drew base v l := h
theorem Own.alloc {w : World} {base : Nat} {v : Value} {l : List UInt8} (h : Own w base v l) (o : Obj) : Own (w.alloc o) base v l := h.past ((Below.refl _ _).alloc (Nat.le_refl _) o)
theorem Own.form {w : World} {base : Nat} {v : Value} {l : List UInt8} (h : Own w base v l) : ∃ A c, v = .slice A l.length c := by
  rcases h.2 with ⟨rfl, h0⟩ | ⟨g, cap, cur, rfl, _⟩
  · exact ⟨none, 0, by rw [h0]⟩
  · exact ⟨_, _, rfl⟩
/-- A row of bytes and a block of another type are two blocks. -/
theorem Own.ne {w : World} {base : Nat} {v : Value} {l : List UInt8} {g : Nat} {t : TypeId} {cs : Array Value} (h : Own w base v l) (hB : Blk w g t cs) (ht : t ≠ 5) : some g ≠ v.ownBlock := by
  rcases h.2 with ⟨rfl, _⟩ | ⟨g', cap', cur, rfl, hg, hh, _⟩
  · simp [Value.ownBlock]
  · intro e
    simp only [Value.ownBlock, Option.some.injEq] at e
    subst e
    unfold Blk at hB
    rw [hB] at hh
    simp only [Option.some.injEq, Obj.cells.injEq] at hh
    exact ht hh.2.1
theorem own_cell {w : World} {base g n cap : Nat} {t : TypeId} {size : Nat} {xs : List Value} (h : w.ownsRow base t size (.slice (some ⟨g, 0, none⟩) n cap) n xs) (j : Nat) (u : Value) (hj : xs[j]? = some u) : w.cell? ⟨g, j, none⟩ = some u := by
  rcases h.2 with ⟨e, _⟩ | ⟨g', cap', cur, e, hg, hh, hc, hm, hs, ht⟩
  · cases e
  · injection e with e1 e2 e3
    injection e1 with e1
    injection e1 with e1
    subst e1
    rw [cell_of_row w g j cur _ _ hh]
    have h1 : (cur.toList.take (n * size))[j]? = some u := by rw [ht]; exact hj
    have hjl : j < n * size := by
      have := (List.getElem?_eq_some_iff.1 h1).1
      simp at this; omega
    rw [List.getElem?_take_of_lt hjl] at h1
    simpa using h1
theorem Own.cell {w : World} {base g n cap : Nat} {l : List UInt8} (h : Own w base (.slice (some ⟨g, 0, none⟩) n cap) l) (hn : n = l.length) {i : Nat} {c : UInt8} (hi : l[i]? = some c) : w.cell? ⟨g, i, none⟩ = some (.int .u8 (c.toNat : Int)) := by
  subst hn
  exact own_cell h i _ (by rw [Lib.byteCells, List.getElem?_map, hi]; rfl)
theorem Own.form3 {w : World} {base : Nat} {v : Value} {l : List UInt8} (h : Own w base v l) : ∃ A n c, v = .slice A n c := by
  obtain ⟨A, c, e⟩ := h.form
  exact ⟨A, _, c, e⟩
theorem Own.string {w : World} {base : Nat} {v : Value} {l : List UInt8} (h : Own w base v l) : (convert 40 9 v).run Tryz.prog w = .ok (.string (Nm.mk l)) w := by
  rcases h.2 with ⟨rfl, h0⟩ | ⟨g, cap, cur, rfl, hg, hh, hc, hm, hs, ht⟩
  · have : l = [] := List.eq_nil_of_length_eq_zero h0
    subst this
    exact run_convert_bytes_nil (P := Tryz.prog) w 40 5 Tryz.underlying40 Tryz.underlying5 0 0 9 Tryz.underlying9
  · exact run_convert_bytes_back (P := Tryz.prog) w 40 9 5 ⟨g, 0, none⟩ cap l Tryz.underlying40 Tryz.underlying5 Tryz.underlying9 (fun j hj => by
      rw [Addr.add_lit, Nat.zero_add]
      exact Own.cell (cap := cap) ⟨h.1, Or.inr ⟨g, cap, cur, rfl, hg, hh, hc, hm, hs, ht⟩⟩ rfl (List.getElem?_eq_getElem hj))

/-- append(v, x...), x a slice of the bytes news. -/
theorem wpList_push {w : World} {ops : Array Oper} {rest : List Oper} {o : Oper} {a : Act} {Q : Exit → Act → World → Prop} (hgd : o.guard = none) (sl x : Operand)
    (ho : o.op = .call { callee := .builtin .append, args := #[sl, x], argTypes := #[40, 40] })
    (base : Nat) (v : Value) (l : List UInt8) (hs : a.eval sl = v) (hown : Own w base v l) (g m c : Nat) (news : List UInt8) (hx : a.eval x = .slice (some ⟨g, 0, none⟩) m c) (hm : m = news.length)
    (hB : Blk w g 5 (Lib.byteCells news).toArray) (hl : l.length + news.length ≤ 1099511627776) (hbase : base ≤ w.heap.size)
    (h : ∀ v' w', Own w' base v' (l ++ news) → Below base w w' → w.grownBy w' v.ownBlock → wpList Tryz.prog ops Q rest (a.put o.dst v') w') : wpList Tryz.prog ops Q (o :: rest) a w := by
  subst hm
  obtain ⟨i0, hi, hz0, hz1, hz2⟩ := infoP info8
  refine wpList_append_own w hgd sl x 40 ho base 5 i0 (.int .u8 0) 1 1 Tryz.underlying40 hi hz0 hz1 hz2 rfl (by decide) v l.length _ hs hown ⟨g, 0, none⟩ news.length c (Lib.byteCells news) hx (by rw [Lib.byteCells_length, Nat.mul_one]) (fun j u hj => ?_) (fun u hu => ?_) (by unfold maxLen; omega) (by omega) hbase (fun v' w' hown' hgr _ => h v' w' ?_ ?_ hgr)
  · rw [Addr.add_lit, Nat.zero_add, hB.cell j]
    simpa using hj
  · obtain ⟨b, _, rfl⟩ := List.mem_map.1 hu
    rfl
  · unfold Own
    rw [List.length_append, Lib.byteCells_append]
    exact hown'
  · exact (Below.refl _ _).grown hgr hbase (fun k hk => (hown.lt k hk).1)
/-- append(v, s...), s a string. -/
theorem wpList_pushS {w : World} {ops : Array Oper} {rest : List Oper} {o : Oper} {a : Act} {Q : Exit → Act → World → Prop} (hgd : o.guard = none) (sl x : Operand)
    (ho : o.op = .call { callee := .builtin .append, args := #[sl, x], argTypes := #[40, 9] })
    (base : Nat) (v : Value) (l : List UInt8) (hs : a.eval sl = v) (hown : Own w base v l) (s : ByteArray) (hx : a.eval x = .string s)
    (hl : l.length + s.size ≤ 1099511627776) (hbase : base ≤ w.heap.size)
    (h : ∀ v' w', Own w' base v' (l ++ Nm.bs s) → Below base w w' → w.grownBy w' v.ownBlock → wpList Tryz.prog ops Q rest (a.put o.dst v') w') : wpList Tryz.prog ops Q (o :: rest) a w := by
  obtain ⟨i0, hi, hz0, hz1, hz2⟩ := infoP info8
  refine Lib.wpList_append_own_string w hgd sl x 40 9 ho base 5 i0 Tryz.underlying40 Tryz.underlying9 hi hz0 hz1 hz2 v l.length _ hs hown s hx (by unfold maxLen; omega) (by omega) hbase (fun v' w' hown' hgr _ => h v' w' ?_ ?_ hgr)
  · unfold Own
    rw [List.length_append, Lib.byteCells_append]
    rw [Lib.strCells_eq] at hown'
    exact hown'
  · exact (Below.refl _ _).grown hgr hbase (fun k hk => (hown.lt k hk).1)
/-- append(v, x...) within a region that draws. -/
theorem step_push {w : World} {ops : Array Oper} {o : Oper} {a : Act} {K : Act → World → Prop} {Q : Exit → Act → World → Prop} {E : Prop} (hgd : o.guard = none) (sl x : Operand)
    (ho : o.op = .call { callee := .builtin .append, args := #[sl, x], argTypes := #[40, 40] })
    (base : Nat) (v : Value) (l : List UInt8) (hs : a.eval sl = v) (hown : Own w base v l) (g m c : Nat) (news : List UInt8) (hx : a.eval x = .slice (some ⟨g, 0, none⟩) m c) (hm : m = news.length)
    (hB : Blk w g 5 (Lib.byteCells news).toArray) (hl : l.length + news.length ≤ 1099511627776) (hbase : base ≤ w.heap.size)
    (h : ∀ v' w', Own w' base v' (l ++ news) → Below base w w' → w.grownBy w' v.ownBlock → K (a.put o.dst v') w') :
    if Region.wanted o (yielded ops a.tmps) = true then Oper.wp Tryz.prog o a w K Q else E := by
  have hw : Region.wanted o (yielded ops a.tmps) = true := by simp [Region.wanted, hgd]
  rw [if_pos hw]
  subst hm
  obtain ⟨i0, hi, hz0, hz1, hz2⟩ := infoP info8
  refine wp_append_own w sl x 40 ho base 5 i0 (.int .u8 0) 1 1 Tryz.underlying40 hi hz0 hz1 hz2 rfl (by decide) v l.length _ hs hown ⟨g, 0, none⟩ news.length c (Lib.byteCells news) hx (by rw [Lib.byteCells_length, Nat.mul_one]) (fun j u hj => ?_) (fun u hu => ?_) (by unfold maxLen; omega) (by omega) hbase (fun v' w' hown' hgr _ => h v' w' ?_ ?_ hgr)
  · rw [Addr.add_lit, Nat.zero_add, hB.cell j]
    simpa using hj
  · obtain ⟨b, _, rfl⟩ := List.mem_map.1 hu
    rfl
  · unfold Own
    rw [List.length_append, Lib.byteCells_append]
    exact hown'
  · exact (Below.refl _ _).grown hgr hbase (fun k hk => (hown.lt k hk).1)
end Go.Proofs.YtconghaebebncaaGreatDoor

/- What IsType answers, the reference's beside the program's. -/
namespace Go.Proofs.YtconghaebebncaaGreatDoor
open Go.RowKit
set_option linter.unusedVariables false
set_option maxRecDepth 100000

def tyR : Bool → List UInt8 → Bool
  | _, [] => true
  | f, c :: r => (if f then Nm.smallC c else Nm.typeC c) && tyR false r
theorem tyR_all (l : List UInt8) : tyR false l = l.all Nm.typeC := by
  induction l with
  | nil => rfl
  | cons c r ih => simp [tyR, ih]
theorem isType_tyR (l : List UInt8) : Nm.isType l = (decide (l.length ≤ 16) && (!l.isEmpty && tyR true l)) := by
  unfold Nm.isType
  cases l with
  | nil => rfl
  | cons c r => simp [tyR, tyR_all]
theorem size_eq (s : ByteArray) : s.data.toList.length = s.size := rfl
theorem drop_at {s : ByteArray} {k : Nat} (h : k < s.size) : s.data.toList.drop k = s[k] :: s.data.toList.drop (k + 1) := List.drop_eq_getElem_cons (show k < s.data.toList.length from h)
theorem isE (s : ByteArray) : s.toList.isEmpty = decide (s.size = 0) := by
  rw [Bool.eq_iff_iff]
  simp only [List.isEmpty_iff, decide_eq_true_eq]
  rw [ByteArray.toList_eq]
  constructor
  · intro h; rw [← size_eq, h]; rfl
  · intro h; exact List.eq_nil_of_length_eq_zero h
theorem nil_of (s : ByteArray) (h : s.size = 0) : s.toList = [] := by
  have := isE s
  simpa [h] using this
theorem nilD_of (s : ByteArray) (h : s.size = 0) : s.data.toList = [] := List.eq_nil_of_length_eq_zero h
theorem isE_of (s : ByteArray) (h : 0 < s.size) : s.toList.isEmpty = false := by
  rw [isE]
  simp only [decide_eq_false_iff_not]; omega
/-- A byte that isn't one of a type, at its place. -/
theorem tyC_not (k : Nat) (c : UInt8) (h : ¬ (97 ≤ c.toNat ∧ c.toNat ≤ 122 ∨ k ≠ 0 ∧ (48 ≤ c.toNat ∧ c.toNat ≤ 57 ∨ c.toNat = 45))) : (if decide (k = 0) = true then Nm.smallC c else Nm.typeC c) = false := by
  unfold Nm.smallC Nm.typeC
  split
  · simp_all
  · have : k ≠ 0 := by simpa using ‹¬ decide (k = 0) = true›
    rw [decide_eq_false_iff_not]
    omega
theorem tyC_is (k : Nat) (c : UInt8) (h : 97 ≤ c.toNat ∧ c.toNat ≤ 122 ∨ k ≠ 0 ∧ (48 ≤ c.toNat ∧ c.toNat ≤ 57 ∨ c.toNat = 45)) : (if decide (k = 0) = true then Nm.smallC c else Nm.typeC c) = true := by
  unfold Nm.smallC Nm.typeC
  split
  · have : k = 0 := by simpa using ‹decide (k = 0) = true›
    rw [decide_eq_true_eq]
    omega
  · rw [decide_eq_true_eq]
    omega
theorem isED_of (s : ByteArray) (h : 0 < s.size) : s.data.toList.isEmpty = false := by
  have := isE_of s h
  simpa [ByteArray.toList_eq] using this

set_option maxHeartbeats 400000 in
theorem isType_any (s : ByteArray) (w : World) :
    Calls Tryz.prog 120 #[.string s] w fun e w' => e = .returned (.bool (Nm.isType s.data.toList)) ∧ w = w' := by
  have hT := Lib.hid (isType_tyR s.data.toList)
  by_cases h0 : s.size = 0
  · have h1 := nil_of s h0
    have h2 := Lib.hid (nilD_of s h0)
    clear h0
    go_enter Tryz.func120, Tryz.ntmps120
    go_wp2_with fail
    go_ret
    refine ⟨ret_bool ?_, rfl⟩
    rw [hT.out, h2.out]; rfl
  have h1 := isE_of s (by omega)
  have h3 := Lib.hid (isED_of s (by omega))
  by_cases h2 : 16 < (s.size : Int)
  · clear h0
    go_enter Tryz.func120, Tryz.ntmps120
    go_wp2_with fail
    go_ret
    refine ⟨ret_bool ?_, rfl⟩
    rw [hT.out, size_eq, decide_eq_false (by omega)]; rfl
  have h2' : (s.size : Int) ≤ 16 := by omega
  have hR := Lib.hid (show Nm.isType s.data.toList = tyR (decide (0 = 0)) (s.data.toList.drop 0) by
    rw [hT.out, h3.out, size_eq, decide_eq_true (by omega)]; rfl)
  clear hT h0 h2 h3
  go_enter Tryz.func120, Tryz.ntmps120
  go_wp2_with fail
  go_loopw [14] (fun i wr => ∃ k : Nat, k ≤ s.size ∧ i = .int .i64 k ∧ Hid (Nm.isType s.data.toList = tyR (decide (k = 0)) (s.data.toList.drop k)) ∧ w = wr) (fun i wr => s.size - (intOf i).toNat)
  case atStart => exact ⟨0, Nat.zero_le _, rfl, hR, rfl⟩
  case round =>
    obtain ⟨k, hk, rfl, hE, rfl⟩ := hrel
    by_cases hlt : k < s.size
    · have hD := hE.out
      rw [drop_at hlt, tyR] at hD
      have HD := Lib.hid hD
      have hc := u8_lt s[k]
      clear hE hD hR
      go_wp2_with fail
      all_goals first
        | (go_ret
           refine ⟨ret_bool ?_, rfl⟩
           rw [HD.out]
           clear HD
           simp only [beq_iff_eq, beq_eq_false_iff_ne, ne_eq] at *
           rw [tyC_not _ _ (by omega)]
           rfl)
        | (refine ⟨⟨k + 1, by omega, by go_num, ?_, trivial⟩, by simp [intOf]; omega⟩
           show _ = _
           rw [HD.out]
           clear HD
           simp only [beq_iff_eq, beq_eq_false_iff_ne, ne_eq] at *
           rw [tyC_is _ _ (by omega)]
           rfl)
    · go_wp2_with fail
      go_ret
      refine ⟨ret_bool ?_, rfl⟩
      have : k = s.size := by omega
      rw [hE.out, this, ← size_eq, List.drop_length]
      rfl

theorem isType_all (s : ByteArray) (h : 0 < s.size) : Nm.isType s.data.toList = (decide (s.size ≤ 16) && (Nm.smallC s[0] && s.data.toList.all Nm.typeC)) := by
  have h1 := drop_at (s := s) (k := 0) h
  rw [List.drop_zero] at h1
  have h2 : Nm.smallC s[0] = (Nm.smallC s[0] && Nm.typeC s[0]) := by
    unfold Nm.smallC Nm.typeC
    rw [Bool.eq_iff_iff]
    simp only [Bool.and_eq_true, decide_eq_true_eq]
    omega
  rw [isType_tyR, size_eq, h1]
  simp only [tyR, List.isEmpty_cons, Bool.not_false, Bool.true_and, if_true, List.all_cons, ← Bool.and_assoc]
  rw [tyR_all]
  rw [Bool.and_assoc (decide (s.size ≤ 16)) (Nm.smallC s[0]) (Nm.typeC s[0]), ← h2]
set_option maxHeartbeats 400000 in
theorem rIsType_any (s : ByteArray) (w : World) :
    Calls Tryz.prog 88 #[.string s] w fun e w' => e = .returned (.bool (Nm.isType s.data.toList)) ∧ w = w' := by
  by_cases h0 : s.size = 0
  · have h2 := Lib.hid (show Nm.isType s.data.toList = false by rw [nilD_of s h0]; rfl)
    have h0' : (s.size : Int) < 1 := by omega
    clear h0
    go_enter Tryz.func88, Tryz.ntmps88
    go_wp2_with fail
    go_ret
    refine ⟨ret_bool ?_, rfl⟩
    rw [h2.out]
  have hT := isType_all s (by omega)
  by_cases h2 : 16 < (s.size : Int)
  · have h3 := Lib.hid (show Nm.isType s.data.toList = false by rw [hT, decide_eq_false (by omega)]; rfl)
    have h0' : 1 ≤ (s.size : Int) := by omega
    clear h0 hT
    go_enter Tryz.func88, Tryz.ntmps88
    go_wp2_with fail
    go_ret
    refine ⟨ret_bool ?_, rfl⟩
    rw [h3.out]
  have h2' : (s.size : Int) ≤ 16 := by omega
  have h0' : 1 ≤ (s.size : Int) := by omega
  have h0s : 0 < s.size := by omega
  rw [decide_eq_true (by omega), Bool.true_and] at hT
  have hc := u8_lt s[0]
  by_cases h4 : Nm.smallC s[0] = false
  · have h3 := Lib.hid (show Nm.isType s.data.toList = false by rw [hT, h4]; rfl)
    have h5 : (s[0].toNat : Int) < 97 ∨ 97 ≤ (s[0].toNat : Int) ∧ 122 < (s[0].toNat : Int) := by unfold Nm.smallC at h4; rw [decide_eq_false_iff_not] at h4; omega
    clear h0 hT h2 h4
    rcases h5 with h5 | ⟨h5, h6⟩
    all_goals
      go_enter Tryz.func88, Tryz.ntmps88
      go_wp2_with fail
      go_ret
      refine ⟨ret_bool ?_, rfl⟩
      rw [h3.out]
  · have h4' : Nm.smallC s[0] = true := by simpa using h4
    have h5 : 97 ≤ (s[0].toNat : Int) ∧ (s[0].toNat : Int) ≤ 122 := by unfold Nm.smallC at h4'; rw [decide_eq_true_eq] at h4'; omega
    obtain ⟨h5, h6⟩ := h5
    rw [h4', Bool.true_and] at hT
    have hR := Lib.hid (show Nm.isType s.data.toList = (s.data.toList.drop 0).all Nm.typeC from hT)
    clear h0 hT h2 h4 h4'
    go_enter Tryz.func88, Tryz.ntmps88
    go_wp2_with fail
    go_loopw [3] (fun i wr => ∃ k : Nat, k ≤ s.size ∧ i = .int .i64 k ∧ Hid (Nm.isType s.data.toList = (s.data.toList.drop k).all Nm.typeC) ∧ w = wr) (fun i wr => s.size - (intOf i).toNat)
    case atStart => exact ⟨0, Nat.zero_le _, rfl, hR, rfl⟩
    case round =>
      obtain ⟨k, hk, rfl, hE, rfl⟩ := hrel
      by_cases hlt : k < s.size
      · have hD := hE.out
        rw [drop_at hlt, List.all_cons] at hD
        have HD := Lib.hid hD
        have hc := u8_lt s[k]
        clear hE hD hR
        go_wp2_with fail
        all_goals first
          | (go_ret
             refine ⟨ret_bool ?_, rfl⟩
             rw [HD.out]
             clear HD
             simp only [bne_iff_ne, ne_eq] at *
             rw [show Nm.typeC s[k] = false by unfold Nm.typeC; rw [decide_eq_false_iff_not]; omega]
             rfl)
          | (refine ⟨⟨k + 1, by omega, by go_num, ?_, trivial⟩, by simp [intOf]; omega⟩
             show _ = _
             rw [HD.out]
             clear HD
             try simp only [bne_eq_false_iff_eq] at *
             rw [show Nm.typeC s[k] = true by unfold Nm.typeC; rw [decide_eq_true_eq]; omega]
             rfl)
      · go_wp2_with fail
        go_ret
        refine ⟨ret_bool ?_, rfl⟩
        have : k = s.size := by omega
        rw [hE.out, this, ← size_eq, List.drop_length]
        rfl
end Go.Proofs.YtconghaebebncaaGreatDoor

/- Strings and their lists of bytes. -/
namespace Go.Proofs.YtconghaebebncaaGreatDoor
open Go.RowKit
set_option linter.unusedVariables false
set_option maxRecDepth 100000

theorem ext1 (s : ByteArray) (k : Nat) (h : k < s.size) : s.extract k (k + 1) = ⟨#[s[k]]⟩ := by
  apply ByteArray.ext
  apply Array.toList_inj.1
  rw [Lib.extract_data]
  have : s.data.toList.drop k = s[k] :: s.data.toList.drop (k + 1) := drop_at h
  rw [this, Nat.add_sub_cancel_left]
  rfl
theorem mk_bs (q : ByteArray) : Nm.mk (Nm.bs q) = q := rfl
theorem one_size (c : UInt8) : (⟨#[c]⟩ : ByteArray).size = 1 := rfl
theorem bs_one (q : ByteArray) (c : UInt8) : Nm.bs (q ++ ⟨#[c]⟩) = Nm.bs q ++ [c] := by
  show (q ++ ⟨#[c]⟩ : ByteArray).data.toList = _
  rw [ByteArray.data_append, Array.toList_append]
theorem bs_app (q p : ByteArray) : Nm.bs (q ++ p) = Nm.bs q ++ Nm.bs p := by
  show (q ++ p : ByteArray).data.toList = _
  rw [ByteArray.data_append, Array.toList_append]
theorem bs_two (q : ByteArray) (b c : UInt8) : Nm.bs (q ++ ⟨#[b]⟩ ++ ⟨#[c]⟩) = Nm.bs q ++ [b, c] := by
  rw [bs_one, bs_one, List.append_assoc]
  rfl
theorem hex2_size (a b : UInt8) : (⟨#[a, b]⟩ : ByteArray).size = 2 := rfl
theorem bs_hex (q : ByteArray) (a b c : UInt8) : Nm.bs (q ++ ⟨#[a]⟩ ++ ⟨#[b, c]⟩) = Nm.bs q ++ [a, b, c] := by
  rw [bs_app, bs_one, List.append_assoc]
  rfl
end Go.Proofs.YtconghaebebncaaGreatDoor

/- A row of strings that the call owns; append behind it. -/
namespace Go.Proofs.YtconghaebebncaaGreatDoor
open Go.RowKit
set_option linter.unusedVariables false
set_option maxRecDepth 100000

theorem infoS : (Tryz.prog.info? 9).map (fun i => (i.zero, i.size, i.bytes)) = some (some (.string ⟨#[]⟩), 1, 16) := by kernel_rfl
/-- v is a slice of the strings ps, in a row from base on that the call owns. -/
def OwnS (w : World) (base : Nat) (v : Value) (ps : List ByteArray) : Prop := w.ownsRow base 9 1 v ps.length (ps.map Value.string)
theorem OwnS.past {w w' : World} {base : Nat} {v : Value} {ps : List ByteArray} (h : OwnS w base v ps) (hb : Below w.heap.size w w') : OwnS w' base v ps := own_past h hb
theorem OwnS.nil (w : World) (base : Nat) : OwnS w base (.slice none 0 0) [] := World.ownsRow_nil w base _ 1
theorem OwnS.alloc {w : World} {base : Nat} {v : Value} {ps : List ByteArray} (h : OwnS w base v ps) (o : Obj) : OwnS (w.alloc o) base v ps := h.past ((Below.refl _ _).alloc (Nat.le_refl _) o)
theorem OwnS.form3 {w : World} {base : Nat} {v : Value} {ps : List ByteArray} (h : OwnS w base v ps) : ∃ A n c, v = .slice A n c := by
  rcases h.2 with ⟨rfl, h0⟩ | ⟨g, cap, cur, rfl, _⟩
  · exact ⟨none, 0, 0, rfl⟩
  · exact ⟨_, _, _, rfl⟩
/-- append(v, s) within a region that draws: s a string. -/
theorem step_pushW {w : World} {ops : Array Oper} {o : Oper} {a : Act} {K : Act → World → Prop} {Q : Exit → Act → World → Prop} {E : Prop} (hgd : o.guard = none) (sl x : Operand)
    (ho : o.op = .call { callee := .builtin .append, args := #[sl, x], argTypes := #[22, 22] })
    (base : Nat) (v : Value) (ps : List ByteArray) (hs : a.eval sl = v) (hown : OwnS w base v ps) (g : Nat) (t : ByteArray) (hx : a.eval x = .slice (some ⟨g, 0, none⟩) 1 1)
    (hB : Blk w g 9 #[.string t]) (hl : ps.length ≤ 1099511627776) (hbase : base ≤ w.heap.size)
    (h : ∀ v' w', OwnS w' base v' (ps ++ [t]) → Below base w w' → K (a.put o.dst v') w') :
    if Region.wanted o (yielded ops a.tmps) = true then Oper.wp Tryz.prog o a w K Q else E := by
  have hw : Region.wanted o (yielded ops a.tmps) = true := by simp [Region.wanted, hgd]
  rw [if_pos hw]
  obtain ⟨i0, hi, hz0, hz1, hz2⟩ := infoP infoS
  refine wp_append_own w sl x 22 ho base 9 i0 (.string ⟨#[]⟩) 1 16 Tryz.underlying22 hi hz0 hz1 hz2 rfl (by decide) v ps.length _ hs hown ⟨g, 0, none⟩ 1 1 [.string t] hx rfl (fun j u hj => ?_) (fun u hu => ?_) (by unfold maxLen; omega) (by omega) hbase (fun v' w' hown' hgr _ => h v' w' ?_ ?_)
  · rw [Addr.add_lit, Nat.zero_add, hB.cell j]
    simpa using hj
  · simp at hu; subst hu; rfl
  · unfold OwnS
    rw [List.length_append, List.map_append]
    exact hown'
  · exact (Below.refl _ _).grown hgr hbase (fun k hk => (hown.lt k hk).1)
theorem wpList_pushW {w : World} {ops : Array Oper} {rest : List Oper} {o : Oper} {a : Act} {Q : Exit → Act → World → Prop} (hgd : o.guard = none) (sl x : Operand)
    (ho : o.op = .call { callee := .builtin .append, args := #[sl, x], argTypes := #[22, 22] })
    (base : Nat) (v : Value) (ps : List ByteArray) (hs : a.eval sl = v) (hown : OwnS w base v ps) (g : Nat) (t : ByteArray) (hx : a.eval x = .slice (some ⟨g, 0, none⟩) 1 1)
    (hB : Blk w g 9 #[.string t]) (hl : ps.length ≤ 1099511627776) (hbase : base ≤ w.heap.size)
    (h : ∀ v' w', OwnS w' base v' (ps ++ [t]) → Below base w w' → wpList Tryz.prog ops Q rest (a.put o.dst v') w') : wpList Tryz.prog ops Q (o :: rest) a w := by
  obtain ⟨i0, hi, hz0, hz1, hz2⟩ := infoP infoS
  refine wpList_append_own w hgd sl x 22 ho base 9 i0 (.string ⟨#[]⟩) 1 16 Tryz.underlying22 hi hz0 hz1 hz2 rfl (by decide) v ps.length _ hs hown ⟨g, 0, none⟩ 1 1 [.string t] hx rfl (fun j u hj => ?_) (fun u hu => ?_) (by unfold maxLen; omega) (by omega) hbase (fun v' w' hown' hgr _ => h v' w' ?_ ?_)
  · rw [Addr.add_lit, Nat.zero_add, hB.cell j]
    simpa using hj
  · simp at hu; subst hu; rfl
  · unfold OwnS
    rw [List.length_append, List.map_append]
    exact hown'
  · exact (Below.refl _ _).grown hgr hbase (fun k hk => (hown.lt k hk).1)
end Go.Proofs.YtconghaebebncaaGreatDoor

/- How filters lie in memory: 'Lies w P f cs': the five cells cs of a filter read as the tree f in the world w, through blocks of which P holds. -/
namespace Go.Proofs.YtconghaebebncaaGreatDoor.Fi
open Go.RowKit
set_option linter.unusedVariables false
set_option maxRecDepth 100000

/-- Strings, one a cell, from A on. -/
def StrsAt (w : World) (P : Nat → Prop) (A : Option Addr) (ss : List ByteArray) : Prop :=
  0 < ss.length → ∃ ad, A = some ad ∧ P ad.block ∧ ∀ i (h : i < ss.length), w.cell? (ad.add i) = some (.string ss[i])
theorem StrsAt.imp {w w' : World} {P P' : Nat → Prop} {A : Option Addr} {ss : List ByteArray} (h : StrsAt w P A ss) (hP : ∀ b, P b → P' b) (hw : ∀ p : Addr, P p.block → w'.cell? p = w.cell? p) : StrsAt w' P' A ss := by
  intro h0
  obtain ⟨ad, e, hp, hc⟩ := h h0
  exact ⟨ad, e, hP _ hp, fun i hi => (hw _ (by rw [block_of_add]; exact hp)).trans (hc i hi)⟩
theorem StrsAt.nil (w : World) (P : Nat → Prop) (A : Option Addr) : StrsAt w P A [] := fun h => absurd h (by simp)
theorem StrsAt.past {w w' : World} {A : Option Addr} {ss : List ByteArray} (h : StrsAt w (· < w.heap.size) A ss) (hb : Below w.heap.size w w') : StrsAt w' (· < w'.heap.size) A ss :=
  h.imp (fun _ h => Nat.lt_of_lt_of_le h hb.size) (fun p hp => hb.cell hp)

inductive Lies (w : World) (P : Nat → Prop) : Fil → List Value → Prop
  | mk (k : Int) (a v : ByteArray) (ss : List ByteArray) (ks : List Fil) (S : Option Addr) (sc : Nat) (A : Option Addr) (c : Nat) (cs : Nat → List Value)
      (ha : a.size ≤ maxLen) (hv : v.size ≤ maxLen) (hsl : ss.length ≤ maxLen) (hsc : ss.length ≤ sc) (hs : StrsAt w P S ss) (hss : ∀ s ∈ ss, s.size ≤ maxLen)
      (hl : ks.length ≤ maxLen) (hcl : ks.length ≤ c) (h5 : ∀ i, i < ks.length → (cs i).length = 5)
      (hA : 0 < ks.length → ∃ ad, A = some ad ∧ P ad.block ∧ ∀ i, i < ks.length → ∀ j u, (cs i)[j]? = some u → w.cell? (ad.add (i * 5 + j)) = some u)
      (hk : ∀ i (h : i < ks.length), Lies w P ks[i] (cs i)) :
      Lies w P (.mk k a v ss ks) [.int .i64 k, .string a, .string v, .slice S ss.length sc, .slice A ks.length c]

theorem Lies.imp {w w' : World} {P P' : Nat → Prop} {f : Fil} {cs : List Value} (h : Lies w P f cs) (hP : ∀ b, P b → P' b) (hw : ∀ p : Addr, P p.block → w'.cell? p = w.cell? p) : Lies w' P' f cs := by
  induction h with
  | mk k a v ss ks S sc A c cs ha hv hsl hsc hs hss hl hcl h5 hA hk ih =>
    refine .mk k a v ss ks S sc A c cs ha hv hsl hsc (hs.imp hP hw) hss hl hcl h5 (fun h0 => ?_) ih
    obtain ⟨ad, e, hp, hc⟩ := hA h0
    exact ⟨ad, e, hP _ hp, fun i hi j u hu => (hw _ (by rw [block_of_add]; exact hp)).trans (hc i hi j u hu)⟩
theorem Lies.kept {w w' : World} {B : Nat} {f : Fil} {cs : List Value} (h : Lies w (· < B) f cs) (hb : Below B w w') : Lies w' (· < B) f cs :=
  h.imp (fun _ h => h) (fun p hp => hb.cell hp)
theorem Lies.drew {w : World} {P : Nat → Prop} {f : Fil} {cs : List Value} (h : Lies w P f cs) : Lies w.drew P f cs := h.imp (fun _ h => h) (fun _ _ => rfl)
/-- At the size of the world itself: behind a call that leaves all that was there. -/
theorem Lies.past {w w' : World} {f : Fil} {cs : List Value} (h : Lies w (· < w.heap.size) f cs) (hb : Below w.heap.size w w') : Lies w' (· < w'.heap.size) f cs :=
  h.imp (fun _ h => Nat.lt_of_lt_of_le h hb.size) (fun p hp => hb.cell hp)
theorem Lies.alloc {w : World} {f : Fil} {cs : List Value} (h : Lies w (· < w.heap.size) f cs) (o : Obj) : Lies (w.alloc o) (· < (w.alloc o).heap.size) f cs := h.past ((Below.refl _ _).alloc (Nat.le_refl _) o)
/-- The kids' cells: five each, one kid behind the other from A on. -/
def KidsAt (w : World) (P : Nat → Prop) (A : Option Addr) (ks : List Fil) (ds : Nat → List Value) : Prop :=
  (∀ i, i < ks.length → (ds i).length = 5) ∧
  (0 < ks.length → ∃ ad, A = some ad ∧ P ad.block ∧ ∀ i, i < ks.length → ∀ j u, (ds i)[j]? = some u → w.cell? (ad.add (i * 5 + j)) = some u) ∧
  ∀ i (h : i < ks.length), Lies w P ks[i] (ds i)
theorem KidsAt.imp {w w' : World} {P P' : Nat → Prop} {A : Option Addr} {ks : List Fil} {ds : Nat → List Value} (h : KidsAt w P A ks ds) (hP : ∀ b, P b → P' b) (hw : ∀ p : Addr, P p.block → w'.cell? p = w.cell? p) :
    KidsAt w' P' A ks ds := by
  refine ⟨h.1, fun h0 => ?_, fun i hi => (h.2.2 i hi).imp hP hw⟩
  obtain ⟨ad, e, hp, hc⟩ := h.2.1 h0
  exact ⟨ad, e, hP _ hp, fun i hi j u hu => (hw _ (by rw [block_of_add]; exact hp)).trans (hc i hi j u hu)⟩
theorem KidsAt.past {w w' : World} {A : Option Addr} {ks : List Fil} {ds : Nat → List Value} (h : KidsAt w (· < w.heap.size) A ks ds) (hb : Below w.heap.size w w') : KidsAt w' (· < w'.heap.size) A ks ds :=
  h.imp (fun _ h => Nat.lt_of_lt_of_le h hb.size) (fun p hp => hb.cell hp)
theorem KidsAt.nil (w : World) (P : Nat → Prop) (A : Option Addr) (ds : Nat → List Value) : KidsAt w P A [] ds :=
  ⟨fun i h => absurd h (by simp), fun h => absurd h (by simp), fun i h => absurd h (by simp)⟩
theorem Lies.open_ {w : World} {P : Nat → Prop} {k : Int} {a v : ByteArray} {ss : List ByteArray} {ks : List Fil} {cs : List Value} (h : Lies w P (.mk k a v ss ks) cs) :
    ∃ (S : Option Addr) (sc : Nat) (A : Option Addr) (c : Nat) (ds : Nat → List Value), cs = [.int .i64 k, .string a, .string v, .slice S ss.length sc, .slice A ks.length c] ∧ a.size ≤ maxLen ∧ v.size ≤ maxLen ∧ ss.length ≤ maxLen ∧ ss.length ≤ sc ∧ StrsAt w P S ss ∧ (∀ s ∈ ss, s.size ≤ maxLen) ∧
      ks.length ≤ maxLen ∧ ks.length ≤ c ∧ KidsAt w P A ks ds := by
  cases h with
  | mk k a v ss ks S sc A c cs ha hv hsl hsc hs hss hl hcl h5 hA hk => exact ⟨S, sc, A, c, cs, rfl, ha, hv, hsl, hsc, hs, hss, hl, hcl, h5, hA, hk⟩
theorem Lies.shut {w : World} {P : Nat → Prop} {k : Int} {a v : ByteArray} {ss : List ByteArray} {ks : List Fil} {S : Option Addr} {sc : Nat} {A : Option Addr} {c : Nat} {ds : Nat → List Value}
    (ha : a.size ≤ maxLen) (hv : v.size ≤ maxLen) (hsl : ss.length ≤ maxLen) (hsc : ss.length ≤ sc) (hs : StrsAt w P S ss) (hss : ∀ s ∈ ss, s.size ≤ maxLen) (hl : ks.length ≤ maxLen) (hcl : ks.length ≤ c) (h : KidsAt w P A ks ds) :
    Lies w P (.mk k a v ss ks) [.int .i64 k, .string a, .string v, .slice S ss.length sc, .slice A ks.length c] := .mk k a v ss ks S sc A c ds ha hv hsl hsc hs hss hl hcl h.1 h.2.1 h.2.2
theorem add_next (a : Addr) (n i : Nat) (hi : 0 < i) : a.add (n + i) = ⟨(a.add n).block, (a.add n).off + i, none⟩ := by
  rw [← add_of_add]
  show Addr.add _ i = _
  unfold Addr.add
  rw [if_neg (by omega)]
theorem Lies.form {w : World} {P : Nat → Prop} {f : Fil} {cs : List Value} (h : Lies w P f cs) : ∃ (k : Int) (a v : ByteArray) (S : Option Addr) (m d : Nat) (A : Option Addr) (n c : Nat), cs = [.int .i64 k, .string a, .string v, .slice S m d, .slice A n c] := by
  cases h with
  | mk k a v ss ks S sc A c cs ha hv hsl hsc hs hss hl hcl h5 hA hk => exact ⟨_, _, _, _, _, _, _, _, _, rfl⟩
/-- A kid's cells, each one's make written out: in a later world, in which all that lay below is as it was. -/
theorem KidsAt.kid {w wr : World} {ks : List Fil} {A : Option Addr} {ds : Nat → List Value} (hK : KidsAt w (· < w.heap.size) A ks ds) (hb : Below w.heap.size w wr)
    {i : Nat} (h : i < ks.length) : ∃ (ad : Addr) (k : Int) (a v : ByteArray) (S : Option Addr) (m d : Nat) (A' : Option Addr) (n c : Nat), A = some ad ∧ ad.block < w.heap.size ∧ wr.cell? (ad.add (i * 5)) = some (.int .i64 k) ∧
      wr.cell? ⟨(ad.add (i * 5)).block, (ad.add (i * 5)).off + 1, none⟩ = some (.string a) ∧
      wr.cell? ⟨(ad.add (i * 5)).block, (ad.add (i * 5)).off + 2, none⟩ = some (.string v) ∧
      wr.cell? ⟨(ad.add (i * 5)).block, (ad.add (i * 5)).off + 3, none⟩ = some (.slice S m d) ∧
      wr.cell? ⟨(ad.add (i * 5)).block, (ad.add (i * 5)).off + 4, none⟩ = some (.slice A' n c) ∧ Lies wr (· < wr.heap.size) ks[i] [.int .i64 k, .string a, .string v, .slice S m d, .slice A' n c] := by
  obtain ⟨h5, hA, hk⟩ := hK
  obtain ⟨ad, e, hp, hc⟩ := hA (by omega)
  have hx := hk i h
  obtain ⟨k, a, v, S, m, d, A', n, c, hd⟩ := hx.form
  have hcc : ∀ j u, (ds i)[j]? = some u → wr.cell? (ad.add (i * 5 + j)) = some u := fun j u hu => (hb.cell (by rw [block_of_add]; exact hp)).trans (hc i h j u hu)
  rw [hd] at hcc hx
  have h0 := hcc 0 _ rfl
  have h1 := hcc 1 _ rfl
  have h2 := hcc 2 _ rfl
  have h3 := hcc 3 _ rfl
  have h4 := hcc 4 _ rfl
  rw [add_next _ _ _ (by omega)] at h1 h2 h3 h4
  exact ⟨ad, k, a, v, S, m, d, A', n, c, e, hp, h0, h1, h2, h3, h4, hx.past hb⟩
end Go.Proofs.YtconghaebebncaaGreatDoor.Fi

/- What fewFilter answers: whether a filter is looked at. -/
namespace Go.Proofs.YtconghaebebncaaGreatDoor.Fi
open Go.RowKit
set_option linter.unusedVariables false
set_option maxRecDepth 100000

def few : Nat → Fil → Bool
  | 0, _ => false
  | n + 1, .mk k a v ss ks => decide (ks.length ≤ 8) && (decide (a.size ≤ 30) && (decide (v.size ≤ 80) && (decide (ss.length ≤ 24) && (ss.all (fun s => decide (s.size ≤ 80)) && ks.all (few n)))))
theorem all_drop {α : Type} {p : α → Bool} {l : List α} {i : Nat} (h : i < l.length) : (l.drop i).all p = (p l[i] && (l.drop (i + 1)).all p) := by
  rw [List.drop_eq_getElem_cons h, List.all_cons]
def SaidFew (f : Fil) : Prop := ∀ (n : Nat) (d : Int) (x0 x1 x2 x3 x4 : Value) (w : World), Hid (d = 13 - n) → 0 ≤ d → d ≤ 13 → Lies w (· < w.heap.size) f [x0, x1, x2, x3, x4] →
    Calls Tryz.prog 19 #[.agg #[x0, x1, x2, x3, x4], .int .i64 d] w fun r w' => r = .returned (.bool (few n f)) ∧ Below w.heap.size w w'

set_option maxHeartbeats 2000000 in
theorem few_any (f : Fil) : SaidFew f := by
  refine ind ?_ f
  intro k a v ss ks ih n d x0 x1 x2 x3 x4 w hf hd0 hd hL
  obtain ⟨S, sc, A, c, ds, hcs, ha, hv, hsl, hsc, hs, hss, hl, hcl, hK⟩ := hL.open_
  simp only [List.cons.injEq, and_true] at hcs
  obtain ⟨rfl, rfl, rfl, rfl, rfl⟩ := hcs
  unfold maxLen at hl ha hv hsl
  cases n with
  | zero =>
    have hr := Lib.hid (show few 0 (.mk k a v ss ks) = false by simp [few])
    have hd12 : 12 < d := by have := hf.out; omega
    clear ih
    go_enter Tryz.func19, Tryz.ntmps19
    go_wp2_with fail
    go_ret
    rw [hr.out]
    exact ⟨rfl, (Below.refl _ _).alloc (Nat.le_refl _) _⟩
  | succ n =>
  have hd12 : d ≤ 12 := by have := hf.out; omega
  have hbad : (8 < (ks.length : Int) ∨ (ks.length : Int) ≤ 8 ∧ 30 < (a.size : Int) ∨ (ks.length : Int) ≤ 8 ∧ (a.size : Int) ≤ 30 ∧ 80 < (v.size : Int) ∨ (ks.length : Int) ≤ 8 ∧ (a.size : Int) ≤ 30 ∧ (v.size : Int) ≤ 80 ∧ 24 < (ss.length : Int)) →
      few (n + 1) (.mk k a v ss ks) = false := by
    intro h
    unfold few
    rcases h with h | ⟨_, h⟩ | ⟨_, _, h⟩ | ⟨_, _, _, h⟩
    · rw [decide_eq_false (by omega)]; rfl
    · rw [decide_eq_false (p := a.size ≤ 30) (by omega)]; simp
    · rw [decide_eq_false (p := v.size ≤ 80) (by omega)]; simp
    · rw [decide_eq_false (p := ss.length ≤ 24) (by omega)]; simp
  by_cases hb : (8 < (ks.length : Int) ∨ (ks.length : Int) ≤ 8 ∧ 30 < (a.size : Int) ∨ (ks.length : Int) ≤ 8 ∧ (a.size : Int) ≤ 30 ∧ 80 < (v.size : Int) ∨ (ks.length : Int) ≤ 8 ∧ (a.size : Int) ≤ 30 ∧ (v.size : Int) ≤ 80 ∧ 24 < (ss.length : Int))
  · have hr := Lib.hid (hbad hb)
    clear ih hbad
    rcases hb with h1 | ⟨h1, h2⟩ | ⟨h1, h2, h3⟩ | ⟨h1, h2, h3, h4⟩
    all_goals
      go_enter Tryz.func19, Tryz.ntmps19
      go_wp2_with fail
      go_ret
      rw [hr.out]
      exact ⟨rfl, (Below.refl _ _).alloc (Nat.le_refl _) _⟩
  have h1 : (ks.length : Int) ≤ 8 := by omega
  have h2 : (a.size : Int) ≤ 30 := by omega
  have h3 : (v.size : Int) ≤ 80 := by omega
  have h4 : (ss.length : Int) ≤ 24 := by omega
  have hr := Lib.hid (show few (n + 1) (.mk k a v ss ks) = (ss.all (fun s => decide (s.size ≤ 80)) && ks.all (few n)) by
    unfold few
    rw [decide_eq_true (by omega), decide_eq_true (p := a.size ≤ 30) (by omega), decide_eq_true (p := v.size ≤ 80) (by omega), decide_eq_true (p := ss.length ≤ 24) (by omega)]
    simp)
  have Ih := Lib.hid ih
  have HS := Lib.hid hs
  clear ih hbad hb hL hs
  go_enter Tryz.func19, Tryz.ntmps19
  go_wp2_with fail
  go_loopw [5] (fun i wr => ∃ q : Nat, q ≤ ss.length ∧ i = .int .i64 q ∧ Hid (ss.all (fun s => decide (s.size ≤ 80)) = (ss.drop q).all (fun s => decide (s.size ≤ 80))) ∧ wr = w.alloc (.cells #[.int .i64 k, .string a, .string v, .slice S ss.length sc, .slice A ks.length c] 25)) (fun i wr => ss.length - (intOf i).toNat)
  case atStart => exact ⟨0, Nat.zero_le _, rfl, rfl, rfl⟩
  case round =>
    obtain ⟨q, hq, rfl, hE, rfl⟩ := hrel
    have hb0 : Below w.heap.size w (w.alloc (.cells #[.int .i64 k, .string a, .string v, .slice S ss.length sc, .slice A ks.length c] 25)) := (Below.refl _ _).alloc (Nat.le_refl _) _
    by_cases hlt : q < ss.length
    · obtain ⟨ad, rfl, hp, hc⟩ := HS.out (by omega)
      have f0 := batA hb0 (by rw [block_of_add]; exact hp) (hc q hlt)
      have hE2 := hE.out
      rw [all_drop hlt] at hE2
      generalize ss[q] = s at f0 hE2
      have HE := Lib.hid hE2
      clear hE hE2 hc
      by_cases h80 : 80 < (s.size : Int)
      · go_wp2_with fail
        go_ret
        refine ⟨ret_bool ?_, hb0⟩
        rw [hr.out, HE.out, decide_eq_false (by omega)]; rfl
      · have h80' : (s.size : Int) ≤ 80 := by omega
        clear h80
        go_wp2_with fail
        refine ⟨⟨q + 1, by omega, by go_num, ?_, trivial⟩, by simp [intOf]; omega⟩
        show _ = _
        rw [HE.out, decide_eq_true (by omega)]; rfl
    · have hE2 := hE.out
      rw [List.drop_eq_nil_of_le (by omega), List.all_nil] at hE2
      have HR := Lib.hid (show few (n + 1) (.mk k a v ss ks) = ks.all (few n) by rw [hr.out, hE2]; rfl)
      have hq2 : q = ss.length := by omega
      subst hq2
      clear hE hE2 hr hb0
      go_wp2_with fail
      go_loopw [6] (fun i wr => ∃ q : Nat, q ≤ ks.length ∧ i = .int .i64 q ∧ Hid (few (n + 1) (.mk k a v ss ks) = (ks.drop q).all (few n)) ∧ Blk wr w.heap.size 25 #[.int .i64 k, .string a, .string v, .slice S ss.length sc, .slice A ks.length c] ∧ Below w.heap.size w wr) (fun i wr => ks.length - (intOf i).toNat)
      case atStart => exact ⟨0, Nat.zero_le _, rfl, HR, Blk.new _ _ _, (Below.refl _ _).alloc (Nat.le_refl _) _⟩
      case round =>
        obtain ⟨q, hq, rfl, hE, B, hb⟩ := hrel
        have hs := hb.size
        have hblt := B.lt
        have b4 : wr.cell? ⟨w.heap.size, 4, none⟩ = some (.slice A ks.length c) := B.cell 4
        by_cases hlt : q < ks.length
        · obtain ⟨ad, k', a', v', S', m', d', A', n', c', rfl, hp, f0, f1, f2, f3, f4, hL⟩ := hK.kid hb hlt
          have hE2 := hE.out
          rw [all_drop hlt] at hE2
          have H := Ih.out _ (List.getElem_mem hlt) n (d + 1) _ _ _ _ _ wr (by show _ = _; have := hf.out; omega) (by omega) (by omega) hL
          generalize few n ks[q] = t at hE2 H
          have HE := Lib.hid hE2
          have HH := Lib.hid H
          clear hE hE2 H hL
          go_wp2_with fail
          refine HH.out.mono ?_
          rintro e w1 ⟨rfl, hb1⟩
          have hb2 := hb.trans (hb1.mono hs)
          have B1 := B.past hb1
          clear hb1
          cases t with
          | false =>
            go_wp2_with fail
            go_ret
            refine ⟨ret_bool ?_, hb2⟩
            rw [HE.out]; rfl
          | true =>
            go_wp2_with fail
            refine ⟨⟨q + 1, by omega, by go_num, HE.out, B1, hb2⟩, by simp [intOf]; omega⟩
        · have hE2 := hE.out
          rw [List.drop_eq_nil_of_le (by omega), List.all_nil] at hE2
          have HE := Lib.hid hE2
          clear hE hE2
          go_wp2_with fail
          go_ret
          exact ⟨ret_bool HE.out.symm, hb⟩
end Go.Proofs.YtconghaebebncaaGreatDoor.Fi
