/- Single operations on vectors: made, copied, appended to. -/
import Derived.Test.YtiglepmgonmhiaaVcMem
import Derived.Tactics
namespace Go.Proofs.Ytiglepmgonmhiaa.Cs
open Go.RowKit
set_option linter.unusedVariables false
set_option maxRecDepth 100000

/-- m zeros, of which the first i have their places. -/
def begun (m i : Nat) : List Nm := (List.range m).map fun (k : Nat) => if k < i then ⟨0, 0, (k : Int)⟩ else Nm.zero
theorem begun_len (m i : Nat) : (begun m i).length = m := by simp [begun]
theorem begun_all (m : Nat) : begun m m = (List.range m).map fun (k : Nat) => (⟨0, 0, (k : Int)⟩ : Nm) := by
  unfold begun
  apply List.map_congr_left
  intro k hk
  rw [if_pos (List.mem_range.1 hk)]
theorem begun_all' (n : Int) (m : Nat) (h : (max 0 (min n 6)).toNat = m) : begun m m = newV n := by
  rw [begun_all]
  unfold newV
  rw [h]
theorem made_zeros (m : Nat) (h : m ≤ 6) : madeCells #[.int .i64 0, .int .i64 0, .int .i64 0] (m * 3) = (flat (begun m 0)).toArray := by
  obtain rfl | rfl | rfl | rfl | rfl | rfl | rfl : m = 0 ∨ m = 1 ∨ m = 2 ∨ m = 3 ∨ m = 4 ∨ m = 5 ∨ m = 6 := by omega
  all_goals kernel_rfl
theorem begun_step (m i : Nat) (h : m ≤ 6) (hi : i < m) : (flat (begun m i)).toArray.setIfInBounds (i * 3 + 2) (.int .i64 (i : Int)) = (flat (begun m (i + 1))).toArray := by
  obtain rfl | rfl | rfl | rfl | rfl | rfl | rfl : m = 0 ∨ m = 1 ∨ m = 2 ∨ m = 3 ∨ m = 4 ∨ m = 5 ∨ m = 6 := by omega
  all_goals
    have hh : i = 0 ∨ i = 1 ∨ i = 2 ∨ i = 3 ∨ i = 4 ∨ i = 5 := by omega
    rcases hh with rfl | rfl | rfl | rfl | rfl | rfl
    all_goals first | rfl | (exfalso; omega)
/-- make of a vector. -/
theorem make_vec (m : Nat) (h : m ≤ 6) (w : World) :
    (Instr.makeSlice 23 (.int .i64 (m : Int)) (.int .i64 (m : Int))).run Try.prog w = .ok (.slice (some ⟨w.heap.size, 0, none⟩) m m) (w.alloc (.cells (flat (begun m 0)).toArray 25)) := by
  obtain ⟨i0, hi, hz0, hz1, hz2⟩ := infoParts infoN
  have hr := run_make (P := Try.prog) w 23 25 i0 _ Try.underlying23 hi hz0 .i64 .i64 m m (by omega) (by omega) (by rw [hz2]; omega) (by omega)
  simp only [Int.toNat_natCast, hz1] at hr
  rw [← made_zeros m h]
  exact hr
theorem run_copy_vec (w : World) (ty : TypeId) (g dCap c : Nat) (A : Option Addr) (l : List Nm) (cur : Array Value) (hB : Blk w g 25 cur) (hs : cur.size = l.length * 3) (hV : VecIn w A l) :
    ∃ w', (Builtin.copy_ #[23, 23] ty #[.slice (some ⟨g, 0, none⟩) l.length dCap, .slice A l.length c]).run Try.prog w = .ok (goInt l.length) w' ∧ Blk w' g 25 (flat l).toArray ∧ Below g w w' ∧ w'.heap.size = w.heap.size := by
  obtain ⟨i0, hi, hz0, hz1, hz2⟩ := infoParts infoN
  by_cases h0 : 0 < l.length
  · obtain ⟨ad, rfl, hp, hc⟩ := hV h0
    have hsrc : ∀ j v, (flat l)[j]? = some v → w.cell? (ad.add j) = some v := by
      intro j v hv
      have hj : j < (flat l).length := (List.getElem?_eq_some_iff.1 hv).1
      rw [flat_len] at hj
      have h3 : j / 3 < l.length := by omega
      obtain ⟨h1, h2, h4⟩ := flat_at l (j / 3) h3
      have hr : j % 3 = 0 ∨ j % 3 = 1 ∨ j % 3 = 2 := by omega
      rcases hr with hr | hr | hr
      · have e : j = j / 3 * 3 + 0 := by omega
        have := hc (j / 3) h3 0 _ rfl
        rw [← e] at this
        rw [this]
        rw [e] at hv
        exact h1.symm.trans hv
      · have e : j = j / 3 * 3 + 1 := by omega
        have := hc (j / 3) h3 1 _ rfl
        rw [← e] at this
        rw [this]
        rw [e] at hv
        exact h2.symm.trans hv
      · have e : j = j / 3 * 3 + 2 := by omega
        have := hc (j / 3) h3 2 _ rfl
        rw [← e] at this
        rw [this]
        rw [e] at hv
        exact h4.symm.trans hv
    have hl := run_loadCells_list (P := Try.prog) w ad (flat l) hsrc
    have hst := run_storeCells_at Try.prog g 0 25 (flat l) 0 cur w hB (by rw [flat_len]; omega) (flat_one l)
    rw [flat_len] at hl hst
    have hrow : (cur.toList.take (0 + 0) ++ flat l ++ cur.toList.drop (0 + 0 + l.length * 3)).toArray = (flat l).toArray := by
      have : cur.toList.drop (0 + 0 + l.length * 3) = [] := List.drop_eq_nil_of_le (by simp [hs])
      rw [this]
      simp
    rw [hrow] at hst
    refine ⟨w.setRow g (flat l).toArray, ?_, setRow_heap w g _ _ _ _ hB, ⟨rfl, rfl, rfl, by simp [World.setRow], fun k hk => setRow_other w g k _ (by omega)⟩, by simp [World.setRow]⟩
    simp [Builtin.copy_, run_underlying Try.underlying23, Builtin.lenOf, Builtin.firstCells, sizeOf, typeInfo, hi, hz1, hl, hst]
  · have e : l = [] := List.eq_nil_of_length_eq_zero (by omega)
    subst e
    have hcur : cur = #[] := by
      apply Array.eq_empty_of_size_eq_zero
      simpa using hs
    subst hcur
    refine ⟨w, ?_, hB, Below.refl _ _, rfl⟩
    have hl : ∀ (x : Addr), (loadCells x 0).run Try.prog w = .ok #[] w := fun x => by simpa using run_loadCells_list (P := Try.prog) w x [] (by simp)
    cases A <;> simp [Builtin.copy_, run_underlying Try.underlying23, Builtin.lenOf, Builtin.firstCells, sizeOf, typeInfo, hi, storeCells, hl]
theorem wpList_copy_vec {w : World} {ops : Array Oper} {rest : List Oper} {o : Oper} {a : Act} {Q : Exit → Act → World → Prop} (hgd : o.guard = none) (d s : Operand)
    (ho : o.op = .call { callee := .builtin .copy, args := #[d, s], argTypes := #[23, 23] })
    (g dCap c : Nat) (A : Option Addr) (l : List Nm) (cur : Array Value) (hd : a.eval d = .slice (some ⟨g, 0, none⟩) l.length dCap) (hx : a.eval s = .slice A l.length c)
    (hB : Blk w g 25 cur) (hs : cur.size = l.length * 3) (hV : VecIn w A l)
    (h : ∀ w', Blk w' g 25 (flat l).toArray → Below g w w' → w'.heap.size = w.heap.size → wpList Try.prog ops Q rest (a.put o.dst (goInt l.length)) w') : wpList Try.prog ops Q (o :: rest) a w := by
  refine wpList_plain hgd fun K hK => ?_
  obtain ⟨w', hrun, h1, h2, h3⟩ := run_copy_vec w o.type g dCap c A l cur hB hs hV
  unfold Oper.wp
  simp [execOp, ho, resolve, invoke, builtin, hd, hx, hrun, Result.andThen]
  exact hK _ _ (h w' h1 h2 h3)
/-- append(v, x). -/
theorem wpList_pushV {w : World} {ops : Array Oper} {rest : List Oper} {o : Oper} {a : Act} {Q : Exit → Act → World → Prop} (hgd : o.guard = none) (sl x : Operand)
    (ho : o.op = .call { callee := .builtin .append, args := #[sl, x], argTypes := #[23, 23] })
    (base : Nat) (v : Value) (l : List Nm) (hs : a.eval sl = v) (hown : OwnV w base v l) (g : Nat) (p : Nm) (hx : a.eval x = .slice (some ⟨g, 0, none⟩) 1 1)
    (hB : Blk w g 25 (gc p.t p.s p.r)) (hl : l.length ≤ 1000) (hbase : base ≤ w.heap.size)
    (h : ∀ v' w', OwnV w' base v' (l ++ [p]) → Below base w w' → w.grownBy w' v.ownBlock → wpList Try.prog ops Q rest (a.put o.dst v') w') : wpList Try.prog ops Q (o :: rest) a w := by
  obtain ⟨i0, hi, hz0, hz1, hz2⟩ := infoParts infoN
  refine wpList_append_own w hgd sl x 23 ho base 25 i0 (.agg #[.int .i64 0, .int .i64 0, .int .i64 0]) 3 24 Try.underlying23 hi hz0 hz1 hz2 rfl (by decide) v l.length _ hs hown ⟨g, 0, none⟩ 1 1 p.cs hx rfl (fun j u hj => ?_) (fun u hu => ?_) (by unfold maxLen; omega) (by omega) hbase (fun v' w' hown' hgr _ => h v' w' ?_ ?_ hgr)
  · rw [Addr.add_lit, Nat.zero_add, hB.cell j]
    simpa using hj
  · simp at hu
    rcases hu with rfl | rfl | rfl <;> rfl
  · unfold OwnV
    rw [List.length_append, flat_app]
    exact hown'
  · exact (Below.refl _ _).grown hgr hbase (fun k hk => (hown.lt k hk).1)
/-- append(nil, l...). -/
theorem wpList_allV {w : World} {ops : Array Oper} {rest : List Oper} {o : Oper} {a : Act} {Q : Exit → Act → World → Prop} (hgd : o.guard = none) (sl x : Operand)
    (ho : o.op = .call { callee := .builtin .append, args := #[sl, x], argTypes := #[23, 23] })
    (base : Nat) (hs : a.eval sl = .slice none 0 0) (A : Option Addr) (c : Nat) (l : List Nm) (hx : a.eval x = .slice A l.length c) (hV : VecIn w A l) (hl : l.length ≤ 1000) (hbase : base ≤ w.heap.size)
    (h : ∀ v' w', OwnV w' base v' l → Below base w w' → wpList Try.prog ops Q rest (a.put o.dst v') w') : wpList Try.prog ops Q (o :: rest) a w := by
  obtain ⟨i0, hi, hz0, hz1, hz2⟩ := infoParts infoN
  by_cases h0 : 0 < l.length
  · obtain ⟨ad, rfl, hp, hc⟩ := hV h0
    refine wpList_append_own w hgd sl x 23 ho base 25 i0 (.agg #[.int .i64 0, .int .i64 0, .int .i64 0]) 3 24 Try.underlying23 hi hz0 hz1 hz2 rfl (by decide) (.slice none 0 0) 0 [] hs (World.ownsRow_nil w base _ 3) ad l.length c (flat l) hx (flat_len l) ?_ (flat_one l) (by unfold maxLen; omega) (by omega) hbase (fun v' w' hown' hgr _ => h v' w' ?_ ?_)
    · intro j v hv
      have hj : j < (flat l).length := (List.getElem?_eq_some_iff.1 hv).1
      rw [flat_len] at hj
      have h3 : j / 3 < l.length := by omega
      obtain ⟨h1, h2, h4⟩ := flat_at l (j / 3) h3
      have hr : j % 3 = 0 ∨ j % 3 = 1 ∨ j % 3 = 2 := by omega
      rcases hr with hr | hr | hr
      · have e : j = j / 3 * 3 + 0 := by omega
        have := hc (j / 3) h3 0 _ rfl
        rw [← e] at this
        rw [this]
        rw [e] at hv
        exact h1.symm.trans hv
      · have e : j = j / 3 * 3 + 1 := by omega
        have := hc (j / 3) h3 1 _ rfl
        rw [← e] at this
        rw [this]
        rw [e] at hv
        exact h2.symm.trans hv
      · have e : j = j / 3 * 3 + 2 := by omega
        have := hc (j / 3) h3 2 _ rfl
        rw [← e] at this
        rw [this]
        rw [e] at hv
        exact h4.symm.trans hv
    · have := hown'
      rw [Nat.zero_add, List.nil_append] at this
      exact this
    · exact (Below.refl _ _).grown hgr hbase (fun k hk => by simp [Value.ownBlock] at hk)
  · have e : l = [] := List.eq_nil_of_length_eq_zero (by omega)
    subst e
    refine wpList_plain hgd fun K hK => ?_
    have hl0 : ∀ (x : Addr), (loadCells x 0).run Try.prog w = .ok #[] w := fun x => by simpa using run_loadCells_list (P := Try.prog) w x [] (by simp)
    have hrun : (Builtin.append_ #[23, 23] o.type #[.slice none 0 0, .slice A 0 c]).run Try.prog w = .ok (.slice none 0 0) w := by
      cases A <;> simp [Builtin.append_, run_underlying Try.underlying23, sizeOf, typeInfo, hi, Builtin.lenOf, Builtin.firstCells, hl0]
    have hx' : a.eval x = .slice A 0 c := hx
    unfold Oper.wp
    simp [execOp, ho, resolve, invoke, builtin, hs, hx', hrun, Result.andThen]
    exact hK _ _ (h _ w (OwnV.nil w base) (Below.refl _ _))
end Go.Proofs.Ytiglepmgonmhiaa.Cs
