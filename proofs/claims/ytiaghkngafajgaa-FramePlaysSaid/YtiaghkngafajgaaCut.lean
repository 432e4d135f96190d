/- A Cutter in memory: a box that holds a slice of bytes, somewhere in a row of its own; what turns no other block; append of a string's bytes behind such a slice. -/
import Derived.Test.YtiaghkngafajgaaHead
import Derived.Test.YtiaghkngafajgaaEl
import Derived.Lib.AppendStr
import Derived.Lib.UnsafeStr
import Derived.Lib.Hide
import Derived.Laws.BytesArg
namespace Go.Proofs.Ytiaghkngafajgaa
open Go.RowKit
set_option linter.unusedVariables false
set_option maxRecDepth 100000

/-- But for the blocks of S all that was there is as it was. -/
structure Kept (S : Nat → Prop) (w w' : World) : Prop where
  os : w'.os = w.os
  tape : w'.tape = w.tape
  output : w'.output = w.output
  size : w.heap.size ≤ w'.heap.size
  block : ∀ k, k < w.heap.size → ¬ S k → w'.heap[k]? = w.heap[k]?
theorem Kept.refl (S : Nat → Prop) (w : World) : Kept S w w := ⟨rfl, rfl, rfl, Nat.le_refl _, fun _ _ _ => rfl⟩
theorem Kept.trans {S T : Nat → Prop} {a b c : World} (h : Kept S a b) (k : Kept T b c) (hT : ∀ i, i < a.heap.size → T i → S i) : Kept S a c :=
  ⟨k.os.trans h.os, k.tape.trans h.tape, k.output.trans h.output, Nat.le_trans h.size k.size, fun i hi hS => (k.block i (Nat.lt_of_lt_of_le hi h.size) (fun t => hS (hT i hi t))).trans (h.block i hi hS)⟩
theorem Kept.of_below {w w' : World} (S : Nat → Prop) (h : Below w.heap.size w w') : Kept S w w' := ⟨h.os, h.tape, h.output, h.size, fun k hk _ => h.block k hk⟩
theorem Kept.below {S : Nat → Prop} {B : Nat} {w w' : World} (h : Kept S w w') (hB : B ≤ w.heap.size) (hS : ∀ k, S k → B ≤ k) : Below B w w' :=
  ⟨h.os, h.tape, h.output, h.size, fun k hk => h.block k (by omega) (fun s => by have := hS k s; omega)⟩
theorem Kept.blk {S : Nat → Prop} {w w' : World} {g : Nat} {t : TypeId} {cs : Array Value} (h : Kept S w w') (hb : Blk w g t cs) (hS : ¬ S g) : Blk w' g t cs := (h.block g hb.lt hS).trans hb
/-- The two blocks of a Cutter. -/
def Two (p g : Nat) (k : Nat) : Prop := k = p ∨ k = g

/-- v is a slice that holds the bytes l, in block g; nothing of that block is frozen. -/
def Held (w : World) (v : Value) (g : Nat) (l : List UInt8) : Prop :=
  (v = .slice none 0 0 ∧ l = []) ∨
  ∃ (o cap : Nat) (cur : Array Value), v = .slice (some ⟨g, o, none⟩) l.length cap ∧ w.heap[g]? = some (.cells cur 5 (0, 0)) ∧ l.length ≤ cap ∧ o + cap ≤ cur.size ∧ (cur.toList.drop o).take l.length = Lib.byteCells l
theorem Held.of_eq {w w' : World} {v : Value} {g : Nat} {l : List UInt8} (h : Held w v g l) (e : w'.heap[g]? = w.heap[g]?) : Held w' v g l := by
  rcases h with h | ⟨o, cap, cur, hv, hg, r⟩
  · exact Or.inl h
  · exact Or.inr ⟨o, cap, cur, hv, e.trans hg, r⟩
theorem Held.slice {w : World} {v : Value} {g : Nat} {l : List UInt8} (h : Held w v g l) : ∃ A n c, v = .slice A n c := by
  rcases h with ⟨rfl, _⟩ | ⟨o, cap, cur, rfl, _⟩
  · exact ⟨_, _, _, rfl⟩
  · exact ⟨_, _, _, rfl⟩
theorem Held.len {w : World} {A : Option Addr} {n c : Nat} {g : Nat} {l : List UInt8} (h : Held w (.slice A n c) g l) : n = l.length := by
  rcases h with ⟨hv, rfl⟩ | ⟨o, cap, cur, hv, _⟩
  · injection hv
  · injection hv
theorem Held.le_cap {w : World} {A : Option Addr} {n c : Nat} {g : Nat} {l : List UInt8} (h : Held w (.slice A n c) g l) : l.length ≤ c := by
  rcases h with ⟨hv, rfl⟩ | ⟨o, cap, cur, hv, _, hc, _⟩
  · simp
  · injection hv with _ _ e; omega
/-- Each byte's cell. -/
theorem held_cell {w : World} {g o : Nat} {cur : Array Value} {l : List UInt8} {n : Nat} (hg : w.heap[g]? = some (.cells cur 5 (0, 0))) (ht : (cur.toList.drop o).take n = Lib.byteCells l) (hn : n = l.length) (i : Nat) (hi : i < l.length) :
    w.cell? ⟨g, o + i, none⟩ = some (.int .u8 (l[i]).toNat) := by
  subst hn
  rw [cell_of_row w g (o + i) cur _ _ hg]
  have h1 : ((cur.toList.drop o).take l.length)[i]? = some (.int .u8 (l[i]).toNat) := by
    rw [ht, Lib.byteCells, List.getElem?_map, List.getElem?_eq_getElem hi]
    rfl
  rw [List.getElem?_take_of_lt hi, List.getElem?_drop] at h1
  simpa using h1
theorem byteCells_nums (l : List UInt8) : Lib.byteCells l = (l.map fun b => (b.toNat : Int)).map (Value.int .u8) := by simp [Lib.byteCells]
theorem str_nums (l : List UInt8) : strOfNums (l.map fun b => (b.toNat : Int)) = ⟨l.toArray⟩ := by
  unfold strOfNums
  congr 2
  rw [List.map_map]
  conv => rhs; rw [← List.map_id l]
  congr 1
  funext b
  simp
/-- Bytes in the midst of a row, made a string. -/
theorem conv_mid (w : World) (g o cap : Nat) (l : List UInt8) (hc : ∀ i (hi : i < l.length), w.cell? ⟨g, o + i, none⟩ = some (.int .u8 (l[i]).toNat)) :
    (convert 23 9 (.slice (some ⟨g, o, none⟩) l.length cap)).run Try.prog w = .ok (.string ⟨l.toArray⟩) w := by
  have := run_convert_bytes_arg (P := Try.prog) w 23 5 Try.underlying23 Try.underlying5 g o l.length cap (l.map fun b => (b.toNat : Int)) (by simp) (fun i hi => by
    rw [hc i hi]
    simp [List.getD, List.getElem?_eq_getElem hi]) 9 Try.underlying9
  rw [this, str_nums]
theorem conv_nil (w : World) : (convert 23 9 (.slice none 0 0)).run Try.prog w = .ok (.string ⟨#[]⟩) w :=
  run_convert_bytes_nil (P := Try.prog) w 23 5 Try.underlying23 Try.underlying5 0 0 9 Try.underlying9

theorem info8 : (Try.prog.info? 5).map (fun i => (i.zero, i.size, i.bytes)) = some (some (.int .u8 0), 1, 1) := by kernel_rfl

/-- append(v, s...), whether there is room or not. -/
theorem run_append_held (w : World) (ty : TypeId) (v : Value) (g : Nat) (l : List UInt8) (h : Held w v g l) (s : ByteArray) (hl : l.length + s.size ≤ 140737488355328) :
    ∃ v' w' g', (Builtin.append_ #[23, 9] ty #[v, .string s]).run Try.prog w = .ok v' w' ∧ Held w' v' g' (l ++ s.data.toList) ∧ w.grownBy w' v.ownBlock ∧ (g' = g ∧ (v = .slice none 0 0 → v' = .slice none 0 0) ∨ w.heap.size ≤ g' ∧ g' < w'.heap.size) := by
  obtain ⟨i, hi, hz, hs1, hb1⟩ := info_parts info8
  have hss : s.data.toList.length = s.size := rfl
  rcases h with ⟨rfl, rfl⟩ | ⟨o, cap, cur, rfl, hg, hc, hoc, ht⟩
  · obtain ⟨v', w', hr, hown, hgr, hnil⟩ := Lib.run_append_own_string (P := Try.prog) w w.heap.size 23 9 ty 5 i Try.underlying23 Try.underlying9 hi hz hs1 hb1 (.slice none 0 0) 0 [] (World.ownsRow_nil w _ _ 1) s (by unfold maxLen; simp at hl; omega) (by simpa using hl) (Nat.le_refl _)
    rcases hown.2 with ⟨rfl, h0⟩ | ⟨g', cap, cur, rfl, hbg, hg', hnc, hcm, hcs, htake⟩
    · have h0' : s.data.toList = [] := List.eq_nil_of_length_eq_zero (by omega)
      exact ⟨_, w', g, hr, Or.inl ⟨rfl, by simp [h0']⟩, hgr, Or.inl ⟨rfl, fun _ => rfl⟩⟩
    · refine ⟨_, w', g', hr, Or.inr ⟨0, cap, cur, by simp [hss], hg', by simp [hss]; omega, by simp at hcs; omega, ?_⟩, hgr, Or.inr ⟨hbg, ?_⟩⟩
      · have : cur.toList.take (0 + s.size) = Lib.strCells s := by simpa using htake
        simp only [List.nil_append, List.drop_zero, hss]
        rw [show s.size = 0 + s.size by omega, this]
        exact Lib.strCells_eq s
      · rcases Nat.lt_or_ge g' w'.heap.size with hlt | hge
        · exact hlt
        · simp [Array.getElem?_eq_none hge] at hg'
  · by_cases hroom : l.length + s.size ≤ cap
    · have hf := Lib.run_firstCells_string (P := Try.prog) w 1 s
      have hst := run_storeCells_at Try.prog g (o + l.length) 5 (Lib.strCells s) 0 cur w hg (by rw [Lib.strCells_length]; omega) (Lib.strCells_oneCell s)
      simp only [Nat.add_zero, Lib.strCells_length] at hst
      have hr : (Builtin.append_ #[23, 9] ty #[.slice (some ⟨g, o, none⟩) l.length cap, .string s]).run Try.prog w =
          .ok (.slice (some ⟨g, o, none⟩) (l.length + s.size) cap) (w.setRow g (cur.toList.take (o + l.length) ++ Lib.strCells s ++ cur.toList.drop (o + l.length + s.size)).toArray) := by
        simp [Builtin.append_, run_underlying Try.underlying23, run_underlying Try.underlying9, sizeOf, typeInfo, hi, hs1, Builtin.lenOf, hroom, hf, Addr.add_lit, hst]
      refine ⟨_, _, g, hr, Or.inr ⟨o, cap, _, by simp [hss], setRow_heap w g cur _ _ _ hg, by simp [hss]; omega, ?_, ?_⟩, ⟨rfl, rfl, rfl, by simp, fun k _ hk => setRow_other w g k _ (fun e => hk (by simp [e, Value.ownBlock]))⟩, Or.inl ⟨rfl, fun e => by cases e⟩⟩
      · simp only [List.size_toArray, List.length_append, List.length_take, List.length_drop, Array.length_toList, Lib.strCells_length]
        omega
      · rw [Lib.byteCells_append, ← Lib.strCells_eq, ← ht]
        have e1 : (cur.toList.take (o + l.length) ++ Lib.strCells s ++ cur.toList.drop (o + l.length + s.size)).drop o = (cur.toList.drop o).take l.length ++ Lib.strCells s ++ cur.toList.drop (o + l.length + s.size) := by
          have h9 : o ≤ (cur.toList.take (o + l.length)).length := by simp; omega
          rw [List.append_assoc, List.drop_append_of_le_length h9, List.drop_take, Nat.add_sub_cancel_left, List.append_assoc]
        show List.take (l ++ s.data.toList).length (List.drop o (cur.toList.take (o + l.length) ++ Lib.strCells s ++ cur.toList.drop (o + l.length + s.size))) = _
        rw [e1]
        have e2 : (l ++ s.data.toList).length = ((cur.toList.drop o).take l.length ++ Lib.strCells s).length := by
          rw [List.length_append, List.length_append, Lib.strCells_length, ht, Lib.byteCells_length]; omega
        rw [e2, List.take_left]
    · have hr := Lib.run_append_grow_string (P := Try.prog) w 23 9 ty 5 i (.int .u8 0) Try.underlying23 Try.underlying9 hi hz ⟨g, o, none⟩ l.length cap (Lib.byteCells l) (by rw [Lib.byteCells_length, hs1, Nat.mul_one]) (fun j u hj => by
          rw [Addr.add_lit]
          have hjl : j < l.length := by
            have := (List.getElem?_eq_some_iff.1 hj).1
            rwa [Lib.byteCells_length] at this
          rw [held_cell hg ht rfl j hjl, ← hj, Lib.byteCells, List.getElem?_map, List.getElem?_eq_getElem hjl]
          rfl) s (by omega) (by omega) (by rw [hb1]; exact growslice_fits (by omega) (by omega))
      have hge := grownCap_ge w (l.length + s.size) cap 5
      refine ⟨_, _, w.heap.size, hr, Or.inr ⟨0, grownCap w (l.length + s.size) cap 5, _, by simp [hss], heap_alloc_new w.drew _, by simp [hss]; exact hge, ?_, ?_⟩, ⟨rfl, rfl, rfl, by simp, fun k hk _ => Below.heap_alloc w.drew _ k hk⟩, Or.inr ⟨Nat.le_refl _, by simp⟩⟩
      · have hz1 : (Value.int IntKind.u8 0).cells.size = 1 := rfl
        simp only [Array.size_append, List.size_toArray, size_zeroCells, hz1, Lib.byteCells_length, Lib.strCells_length]
        omega
      · simp only [Array.toList_append, List.drop_zero]
        rw [Lib.byteCells_append, ← Lib.strCells_eq]
        have e2 : (l ++ s.data.toList).length = (Lib.byteCells l ++ Lib.strCells s).length := by
          rw [List.length_append, List.length_append, Lib.strCells_length, Lib.byteCells_length]; omega
        rw [e2]
        exact List.take_left

/-- The operation, for the walk. -/
theorem wpList_append_held {w : World} {ops : Array Oper} {rest : List Oper} {o : Oper} {a : Act} {Q : Exit → Act → World → Prop} (hgd : o.guard = none) (sl x : Operand)
    (ho : o.op = .call { callee := .builtin .append, args := #[sl, x], argTypes := #[23, 9] })
    (v : Value) (g : Nat) (l : List UInt8) (hs : a.eval sl = v) (hh : Held w v g l) (s : ByteArray) (hx : a.eval x = .string s) (hl : l.length + s.size ≤ 140737488355328)
    (h : ∀ v' w' g', Held w' v' g' (l ++ s.data.toList) → w.grownBy w' v.ownBlock → (g' = g ∧ (v = .slice none 0 0 → v' = .slice none 0 0) ∨ w.heap.size ≤ g' ∧ g' < w'.heap.size) → wpList Try.prog ops Q rest (a.put o.dst v') w') : wpList Try.prog ops Q (o :: rest) a w := by
  refine wpList_plain hgd fun K hK => ?_
  obtain ⟨v', w', g', hr, h2, h3, h4⟩ := run_append_held w o.type v g l hh s hl
  unfold Oper.wp execOp
  simp only [ho, resolve, invoke, builtin, Sem.run_bind, Sem.run_pure, Result.andThen_ok, List.map_toArray, List.map_cons, List.map_nil, hs, hx, hr]
  exact hK _ _ (h v' w' g' h2 h3 h4)

theorem Held.own {w : World} {v : Value} {g : Nat} {l : List UInt8} (h : Held w v g l) : v.ownBlock = none ∧ v = .slice none 0 0 ∨ v.ownBlock = some g := by
  rcases h with ⟨rfl, _⟩ | ⟨o, cap, cur, rfl, _⟩
  · exact Or.inl ⟨rfl, rfl⟩
  · exact Or.inr rfl
/-- The Cutter whose box is block p holds the bytes l, in block g (p itself as long as it holds nil). -/
structure Cut (w : World) (p g : Nat) (l : List UInt8) : Prop where
  box : ∃ v, Blk w p 48 #[v] ∧ Held w v g l ∧ (p = g → v = .slice none 0 0)
  room : l.length ≤ 16000
  lt2 : g < w.heap.size
/-- Where neither of its blocks was touched a Cutter is as it was. -/
theorem Cut.kept {S : Nat → Prop} {w w' : World} {p g : Nat} {l : List UInt8} (h : Cut w p g l) (k : Kept S w w') (hp : ¬ S p) (hg : ¬ S g) : Cut w' p g l := by
  obtain ⟨⟨v, hb, hh, hn⟩, hr, hlt⟩ := h
  refine ⟨⟨v, k.blk hb hp, ?_, hn⟩, hr, Nat.lt_of_lt_of_le hlt k.size⟩
  rcases hh with hh | ⟨o, cap, cur, hv, hgg, r⟩
  · exact Or.inl hh
  · have hlt : g < w.heap.size := by
      rcases Nat.lt_or_ge g w.heap.size with h' | h'
      · exact h'
      · simp [Array.getElem?_eq_none h'] at hgg
    exact Or.inr ⟨o, cap, cur, hv, (k.block g hlt hg).trans hgg, r⟩
theorem Cut.past {w w' : World} {p g : Nat} {l : List UInt8} (h : Cut w p g l) (hb : Below w.heap.size w w') : Cut w' p g l := h.kept (Kept.of_below (fun _ => False) hb) (fun h => h) (fun h => h)
theorem Cut.lt {w : World} {p g : Nat} {l : List UInt8} (h : Cut w p g l) : p < w.heap.size := by
  obtain ⟨v, hb, _⟩ := h.box
  exact hb.lt
end Go.Proofs.Ytiaghkngafajgaa
