/- A row of bytes that a conversion made: its cells, its mark. -/
import Derived.Test.YticfemheneljmaaDoorNBase
import Derived.Laws.IdiomStrings
import Derived.Laws.BytesArg
import Derived.Laws.OwnMore
import Derived.Laws.Rows
import Derived.Below
namespace Go.Proofs.YticfemheneljmaaDoor
open Go.RowKit
set_option linter.unusedVariables false
set_option maxRecDepth 100000

/-- Block g holds the bytes l from its head on; none of its cells is frozen. -/
def Row (w : World) (g : Nat) (l : List UInt8) : Prop :=
  ∃ (cur : Array Value) (n m : Nat), w.heap[g]? = some (.cells cur 5 (n, m)) ∧ cur.size ≤ n ∧ l.length ≤ cur.size ∧ cur.toList.take l.length = l.map fun b => Value.int .u8 (b.toNat : Int)
theorem Row.lt {w : World} {g : Nat} {l : List UInt8} (h : Row w g l) : g < w.heap.size := by
  obtain ⟨cur, n, m, hg, _⟩ := h
  rcases Nat.lt_or_ge g w.heap.size with h' | h'
  · exact h'
  · simp [Array.getElem?_eq_none h'] at hg
theorem Row.past {w w' : World} {g : Nat} {l : List UInt8} (h : Row w g l) (hb : Below w.heap.size w w') : Row w' g l := by
  have hlt := h.lt
  obtain ⟨cur, n, m, hg, r⟩ := h
  exact ⟨cur, n, m, (hb.block g hlt).trans hg, r⟩
theorem Row.drew {w : World} {g : Nat} {l : List UInt8} (h : Row w g l) : Row w.drew g l := h
theorem cell_of_mark (w : World) (g i : Nat) (cur : Array Value) (t : TypeId) (f : Nat × Nat) (h : w.heap[g]? = some (.cells cur t f)) : w.cell? ⟨g, i, none⟩ = cur[i]? := by
  unfold World.cell?
  rw [h]
  simp
theorem Row.cell {w : World} {g : Nat} {l : List UInt8} (h : Row w g l) {i : Nat} {c : UInt8} (hi : l[i]? = some c) : w.cell? ⟨g, i, none⟩ = some (.int .u8 (c.toNat : Int)) := by
  obtain ⟨cur, n, m, hg, hn, hl, ht⟩ := h
  have hlt := (List.getElem?_eq_some_iff.1 hi).1
  rw [cell_of_mark w g i cur _ _ hg]
  have h1 : (cur.toList.take l.length)[i]? = some (.int .u8 (c.toNat : Int)) := by
    rw [ht, List.getElem?_map, hi]
    rfl
  rw [List.getElem?_take_of_lt hlt] at h1
  simpa using h1
theorem Row.frozen {w : World} {g : Nat} {l : List UInt8} (h : Row w g l) {i : Nat} (hi : i < l.length) : w.frozen? ⟨g, i, none⟩ = false := by
  obtain ⟨cur, n, m, hg, hn, hl, ht⟩ := h
  unfold World.frozen?
  rw [hg]
  simp
  omega
theorem Row.set_ {w : World} {g : Nat} {l : List UInt8} (h : Row w g l) (i : Nat) (c : UInt8) : Row (w.setCell ⟨g, i, none⟩ (.int .u8 (c.toNat : Int))) g (l.set i c) := by
  obtain ⟨cur, n, m, hg, hn, hl, ht⟩ := h
  refine ⟨cur.setIfInBounds i (.int .u8 (c.toNat : Int)), n, m, ?_, by simpa using hn, by simpa using hl, ?_⟩
  · simp [World.setCell, Array.getElem?_modify, hg]
  · rw [List.length_set, Array.toList_setIfInBounds, List.map_set, ← ht, List.take_set]
theorem row_of_string (s : ByteArray) (w : World) : ∃ cap w', (convert 9 36 (.string s)).run Tryd.prog w = .ok (.slice (some ⟨w.heap.size, 0, none⟩) s.size cap) w' ∧
    Row w' w.heap.size (Nm.bs s) ∧ Below w.heap.size w w' ∧ w'.heap.size = w.heap.size + 1 := by
  refine ⟨_, _, run_bytes_of_string (P := Tryd.prog) w 9 36 5 s Tryd.underlying9 Tryd.underlying36 Tryd.underlying5, ?_, ?_, by simp⟩
  · refine ⟨_, _, _, heap_alloc_new w.drew _, Nat.le_refl _, ?_, ?_⟩
    · show s.size ≤ _
      simp [bytesRow]
    · unfold bytesRow
      have e : ((s.data.map fun b => Value.int .u8 (b.toNat : Int)).toList).length = (Nm.bs s).length := by simp
      rw [Array.toList_append, ← e, List.take_left]
      simp
  · exact ((Below.refl _ _).drew).alloc (by simp) _
/-- The row made a string. -/
theorem row_string {w : World} {g cap : Nat} {l : List UInt8} (h : Row w g l) : (convert 36 9 (.slice (some ⟨g, 0, none⟩) l.length cap)).run Tryd.prog w = .ok (.string (Nm.mk l)) w :=
  run_convert_bytes_back (P := Tryd.prog) w 36 9 5 ⟨g, 0, none⟩ cap l Tryd.underlying36 Tryd.underlying5 Tryd.underlying9 (fun j hj => by
    rw [Addr.add_lit, Nat.zero_add]
    exact h.cell (List.getElem?_eq_getElem hj))
end Go.Proofs.YticfemheneljmaaDoor
