/- A row of strings that the call owns; append behind it. -/
import Derived.Test.YticfemheneljmaaDoorNMem
import Derived.Test.YticfemheneljmaaDoorNStr
namespace Go.Proofs.YticfemheneljmaaDoor
open Go.RowKit
set_option linter.unusedVariables false
set_option maxRecDepth 100000

theorem infoS : (Tryd.prog.info? 9).map (fun i => (i.zero, i.size, i.bytes)) = some (some (.string ⟨#[]⟩), 1, 16) := by kernel_rfl
/-- v is a slice of the strings ps, in a row from base on that the call owns. -/
def OwnS (w : World) (base : Nat) (v : Value) (ps : List ByteArray) : Prop := w.ownsRow base 9 1 v ps.length (ps.map Value.string)
theorem OwnS.past {w w' : World} {base : Nat} {v : Value} {ps : List ByteArray} (h : OwnS w base v ps) (hb : Below w.heap.size w w') : OwnS w' base v ps := own_past h hb
theorem OwnS.nil (w : World) (base : Nat) : OwnS w base (.slice none 0 0) [] := World.ownsRow_nil w base _ 1
theorem OwnS.alloc {w : World} {base : Nat} {v : Value} {ps : List ByteArray} (h : OwnS w base v ps) (o : Obj) : OwnS (w.alloc o) base v ps := h.past ((Below.refl _ _).alloc (Nat.le_refl _) o)
theorem OwnS.form3 {w : World} {base : Nat} {v : Value} {ps : List ByteArray} (h : OwnS w base v ps) : ∃ A n c, v = .slice A n c := by
  rcases h.2 with ⟨rfl, h0⟩ | ⟨g, cap, cur, rfl, _⟩
  · exact ⟨none, 0, 0, rfl⟩
  · exact ⟨_, _, _, rfl⟩
/-- append(v, s) within a region that draws: s a string. -/
theorem step_pushW {w : World} {ops : Array Oper} {o : Oper} {a : Act} {K : Act → World → Prop} {Q : Exit → Act → World → Prop} {E : Prop} (hgd : o.guard = none) (sl x : Operand)
    (ho : o.op = .call { callee := .builtin .append, args := #[sl, x], argTypes := #[22, 22] })
    (base : Nat) (v : Value) (ps : List ByteArray) (hs : a.eval sl = v) (hown : OwnS w base v ps) (g : Nat) (t : ByteArray) (hx : a.eval x = .slice (some ⟨g, 0, none⟩) 1 1)
    (hB : Blk w g 9 #[.string t]) (hl : ps.length ≤ 1099511627776) (hbase : base ≤ w.heap.size)
    (h : ∀ v' w', OwnS w' base v' (ps ++ [t]) → Below base w w' → K (a.put o.dst v') w') :
    if Region.wanted o (yielded ops a.tmps) = true then Oper.wp Tryd.prog o a w K Q else E := by
  have hw : Region.wanted o (yielded ops a.tmps) = true := by simp [Region.wanted, hgd]
  rw [if_pos hw]
  obtain ⟨i0, hi, hz0, hz1, hz2⟩ := infoP infoS
  refine wp_append_own w sl x 22 ho base 9 i0 (.string ⟨#[]⟩) 1 16 Tryd.underlying22 hi hz0 hz1 hz2 rfl (by decide) v ps.length _ hs hown ⟨g, 0, none⟩ 1 1 [.string t] hx rfl (fun j u hj => ?_) (fun u hu => ?_) (by unfold maxLen; omega) (by omega) hbase (fun v' w' hown' hgr _ => h v' w' ?_ ?_)
  · rw [Addr.add_lit, Nat.zero_add, hB.cell j]
    simpa using hj
  · simp at hu; subst hu; rfl
  · unfold OwnS
    rw [List.length_append, List.map_append]
    exact hown'
  · exact (Below.refl _ _).grown hgr hbase (fun k hk => (hown.lt k hk).1)
theorem wpList_pushW {w : World} {ops : Array Oper} {rest : List Oper} {o : Oper} {a : Act} {Q : Exit → Act → World → Prop} (hgd : o.guard = none) (sl x : Operand)
    (ho : o.op = .call { callee := .builtin .append, args := #[sl, x], argTypes := #[22, 22] })
    (base : Nat) (v : Value) (ps : List ByteArray) (hs : a.eval sl = v) (hown : OwnS w base v ps) (g : Nat) (t : ByteArray) (hx : a.eval x = .slice (some ⟨g, 0, none⟩) 1 1)
    (hB : Blk w g 9 #[.string t]) (hl : ps.length ≤ 1099511627776) (hbase : base ≤ w.heap.size)
    (h : ∀ v' w', OwnS w' base v' (ps ++ [t]) → Below base w w' → wpList Tryd.prog ops Q rest (a.put o.dst v') w') : wpList Tryd.prog ops Q (o :: rest) a w := by
  obtain ⟨i0, hi, hz0, hz1, hz2⟩ := infoP infoS
  refine wpList_append_own w hgd sl x 22 ho base 9 i0 (.string ⟨#[]⟩) 1 16 Tryd.underlying22 hi hz0 hz1 hz2 rfl (by decide) v ps.length _ hs hown ⟨g, 0, none⟩ 1 1 [.string t] hx rfl (fun j u hj => ?_) (fun u hu => ?_) (by unfold maxLen; omega) (by omega) hbase (fun v' w' hown' hgr _ => h v' w' ?_ ?_)
  · rw [Addr.add_lit, Nat.zero_add, hB.cell j]
    simpa using hj
  · simp at hu; subst hu; rfl
  · unfold OwnS
    rw [List.length_append, List.map_append]
    exact hown'
  · exact (Below.refl _ _).grown hgr hbase (fun k hk => (hown.lt k hk).1)
end Go.Proofs.YticfemheneljmaaDoor
