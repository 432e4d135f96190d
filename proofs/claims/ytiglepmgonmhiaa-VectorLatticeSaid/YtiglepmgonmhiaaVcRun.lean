/- What single operations yield: a number that is loaded out of a row, one that is stored into it. -/
import Derived.Test.YtiglepmgonmhiaaVcOwn
import Derived.Test.YtiglepmgonmhiaaRg
import Derived.Test.YtiglepmgonmhiaaPl
import Derived.Deep.MidRow
namespace Go.Proofs.Ytiglepmgonmhiaa.Cs
open Go.RowKit
set_option linter.unusedVariables false
set_option maxRecDepth 100000

/-- The number x lies at p. -/
def At3 (w : World) (p : Addr) (x : Nm) : Prop := w.cell? p = some (.int .i64 x.t) ∧ w.cell? ⟨p.block, p.off + 1, none⟩ = some (.int .i64 x.s) ∧ w.cell? ⟨p.block, p.off + 2, none⟩ = some (.int .i64 x.r)
theorem At3.past {w w' : World} {p : Addr} {x : Nm} (h : At3 w p x) {B : Nat} (hp : p.block < B) (hb : Below B w w') : At3 w' p x :=
  ⟨(hb.cell (p := p) hp).trans h.1, (hb.cell (p := ⟨p.block, p.off + 1, none⟩) hp).trans h.2.1, (hb.cell (p := ⟨p.block, p.off + 2, none⟩) hp).trans h.2.2⟩
theorem VecIn.at3 {w : World} {A : Option Addr} {l : List Nm} (h : VecIn w A l) {i : Nat} (hi : i < l.length) : ∃ (ad : Addr), A = some ad ∧ ad.block < w.heap.size ∧ At3 w (ad.add (i * 3)) l[i] := by
  obtain ⟨ad, e, hp, h0, h1, h2⟩ := h.cells hi
  exact ⟨ad, e, hp, h0, h1, h2⟩
theorem add_lit0 (g k : Nat) : (⟨g, 0, none⟩ : Addr).add k = ⟨g, k, none⟩ := by rw [Addr.add_lit, Nat.zero_add]
/-- The k-th one in a row. -/
theorem row_at3 {w : World} {g k : Nat} {l : List Nm} {tl : List Value} (h : Blk w g 25 (flat l ++ tl).toArray) (hk : k < l.length) : At3 w ⟨g, k * 3, none⟩ l[k] := by
  obtain ⟨h1, h2, h3⟩ := flat_at l k hk
  have hfl := flat_len l
  refine ⟨?_, ?_, ?_⟩
  · rw [h.cell, List.getElem?_toArray, List.getElem?_append_left (by omega)]; exact h1
  · show w.cell? ⟨g, k * 3 + 1, none⟩ = _
    rw [h.cell, List.getElem?_toArray, List.getElem?_append_left (by omega)]; exact h2
  · show w.cell? ⟨g, k * 3 + 2, none⟩ = _
    rw [h.cell, List.getElem?_toArray, List.getElem?_append_left (by omega)]; exact h3
theorem box_at3 {w : World} {g : Nat} {ty : TypeId} {x : Nm} (h : Blk w g ty (gc x.t x.s x.r)) : At3 w ⟨g, 0, none⟩ x := ⟨h.cell 0, h.cell 1, h.cell 2⟩
theorem VecIn.row {w : World} {g : Nat} {l : List Nm} {tl : List Value} (h : Blk w g 25 (flat l ++ tl).toArray) : VecIn w (some ⟨g, 0, none⟩) l := by
  intro h0
  refine ⟨_, rfl, h.lt, fun i hi j u hu => ?_⟩
  rw [add_lit0]
  obtain ⟨h1, h2, h3⟩ := row_at3 h hi
  have hj : j < 3 := by
    have := (List.getElem?_eq_some_iff.1 hu).1
    simpa using this
  match j, hj, hu with
  | 0, _, hu => simp at hu; subst hu; exact h1
  | 1, _, hu => simp at hu; subst hu; exact h2
  | 2, _, hu => simp at hu; subst hu; exact h3
/-- The number x stored at the k-th place of a row. -/
def store3 (w : World) (g k : Nat) (x : Nm) : World := ((w.setCell ⟨g, k * 3, none⟩ (.int .i64 x.t)).setCell ⟨g, k * 3 + 1, none⟩ (.int .i64 x.s)).setCell ⟨g, k * 3 + 2, none⟩ (.int .i64 x.r)
theorem store3_blk {w : World} {g k : Nat} {l : List Nm} {tl : List Value} (h : Blk w g 25 (flat l ++ tl).toArray) (hk : k < l.length) (x : Nm) : Blk (store3 w g k x) g 25 (flat (l.set k x) ++ tl).toArray := by
  have := ((h.set_ (k * 3) (.int .i64 x.t)).set_ (k * 3 + 1) (.int .i64 x.s)).set_ (k * 3 + 2) (.int .i64 x.r)
  rw [flat_set l tl k hk x] at this
  exact this
theorem store3_below {w0 w : World} {B g : Nat} (hb : Below B w0 w) (hg : B ≤ g) (k : Nat) (x : Nm) : Below B w0 (store3 w g k x) :=
  ((hb.setCell (p := ⟨g, k * 3, none⟩) hg _).setCell (p := ⟨g, k * 3 + 1, none⟩) hg _).setCell (p := ⟨g, k * 3 + 2, none⟩) hg _
theorem store3_far {w : World} {g b : Nat} {ty : TypeId} {cs : Array Value} (h : Blk w b ty cs) (hne : b ≠ g) (k : Nat) (x : Nm) : Blk (store3 w g k x) b ty cs :=
  ((h.far (p := ⟨g, k * 3, none⟩) hne _).far (p := ⟨g, k * 3 + 1, none⟩) hne _).far (p := ⟨g, k * 3 + 2, none⟩) hne _
theorem store3_at3 {w : World} {g k : Nat} {x y : Nm} {p : Addr} (h : At3 w p y) (hne : p.block ≠ g) : At3 (store3 w g k x) p y := by
  have e : ∀ (w : World) (q : Addr) (j : Nat) (u : Value), q.block ≠ g → (w.setCell ⟨g, j, none⟩ u).cell? q = w.cell? q := fun w q j u hq => World.cell?_setCell_other w _ _ u (fun e => hq (by rw [← e]))
  unfold store3
  exact ⟨by rw [e _ _ _ _ hne, e _ _ _ _ hne, e _ _ _ _ hne]; exact h.1, by rw [e _ ⟨p.block, _, none⟩ _ _ hne, e _ ⟨p.block, _, none⟩ _ _ hne, e _ ⟨p.block, _, none⟩ _ _ hne]; exact h.2.1, by rw [e _ ⟨p.block, _, none⟩ _ _ hne, e _ ⟨p.block, _, none⟩ _ _ hne, e _ ⟨p.block, _, none⟩ _ _ hne]; exact h.2.2⟩
theorem store3_size (w : World) (g k : Nat) (x : Nm) : (store3 w g k x).heap.size = w.heap.size := by simp [store3, World.setCell]

theorem VecIn.store3 {w : World} {A : Option Addr} {l : List Nm} (h : VecIn w A l) {g k : Nat} {x : Nm} (hne : 0 < l.length → ∀ ad, A = some ad → ad.block ≠ g) : VecIn (store3 w g k x) A l := by
  intro h0
  obtain ⟨ad, e, hp, hc⟩ := h h0
  have hn := hne h0 ad e
  refine ⟨ad, e, by rw [store3_size]; exact hp, fun i hi j u hu => ?_⟩
  have e : ∀ (w : World) (q : Addr) (j : Nat) (u : Value), q.block ≠ g → (w.setCell ⟨g, j, none⟩ u).cell? q = w.cell? q := fun w q j u hq => World.cell?_setCell_other w _ _ u (fun e => hq (by rw [← e]))
  have hb : (ad.add (i * 3 + j)).block ≠ g := by rw [block_of_add]; exact hn
  show (Cs.store3 w g k x).cell? _ = _
  unfold Cs.store3
  rw [e _ _ _ _ hb, e _ _ _ _ hb, e _ _ _ _ hb]
  exact hc i hi j u hu
theorem VecIn.grown {w w' : World} {A : Option Addr} {l : List Nm} {row : Option Nat} (h : VecIn w A l) (hg : w.grownBy w' row) (hne : 0 < l.length → ∀ ad, A = some ad → some ad.block ≠ row) : VecIn w' A l := by
  intro h0
  obtain ⟨ad, e, hp, hc⟩ := h h0
  refine ⟨ad, e, Nat.lt_of_lt_of_le hp hg.size, fun i hi j u hu => ?_⟩
  exact hg.cell (hc i hi j u hu) (by rw [block_of_add]; exact hne h0 ad e)
/-- append(v, x), and where the new row lies. -/
theorem wpList_pushAt {w : World} {ops : Array Oper} {rest : List Oper} {o : Oper} {a : Act} {Q : Exit → Act → World → Prop} (hgd : o.guard = none) (sl x : Operand)
    (ho : o.op = .call { callee := .builtin .append, args := #[sl, x], argTypes := #[23, 23] })
    (base : Nat) (v : Value) (l : List Nm) (hs : a.eval sl = v) (hown : OwnV w base v l) (g : Nat) (p : Nm) (hx : a.eval x = .slice (some ⟨g, 0, none⟩) 1 1)
    (hB : Blk w g 25 (gc p.t p.s p.r)) (hl : l.length ≤ 1000) (hbase : base ≤ w.heap.size)
    (h : ∀ v' w', OwnV w' base v' (l ++ [p]) → Below base w w' → w.grownBy w' v.ownBlock → (v'.ownBlock = v.ownBlock ∨ v'.ownBlock = some w.heap.size) → wpList Try.prog ops Q rest (a.put o.dst v') w') : wpList Try.prog ops Q (o :: rest) a w := by
  obtain ⟨i0, hi, hz0, hz1, hz2⟩ := infoParts infoN
  refine wpList_append_own_at w hgd sl x 23 ho base 25 i0 (.agg #[.int .i64 0, .int .i64 0, .int .i64 0]) 3 24 Try.underlying23 hi hz0 hz1 hz2 rfl (by decide) v l.length _ hs hown ⟨g, 0, none⟩ 1 1 p.cs hx rfl (fun j u hj => ?_) (fun u hu => ?_) (by unfold maxLen; omega) (by omega) hbase (fun v' w' hown' hgr _ hat => h v' w' ?_ ?_ hgr hat)
  · rw [Addr.add_lit, Nat.zero_add, hB.cell j]
    simpa using hj
  · simp at hu
    rcases hu with rfl | rfl | rfl <;> rfl
  · unfold OwnV
    rw [List.length_append, flat_app]
    exact hown'
  · exact (Below.refl _ _).grown hgr hbase (fun k hk => (hown.lt k hk).1)

section
variable {ev : Operand → Value} {o : Oper} {x y : Operand} {w : World}
theorem run_cell {P : Program} {t : TypeId} {p : Addr} {v : Value} (ho : o.op = .load t x) (hx : ev x = .pointer (some p)) (hagg : (isAgg t).run P w = .ok false w) (hc : w.cell? p = some v) :
    (execOp ev o).run P w = .ok (.value v) w := by
  unfold execOp
  simp [ho, hx, Instr.loadAt, Instr.sureAddr, loadVar, hagg, hc, Result.andThen]
theorem run_leq_t {P : Program} {t u : TypeId} {a b : Int} (ho : o.op = .binOp .leq t x y u) (hx : ev x = .int .i64 a) (hy : ev y = .int .i64 b) (h : a ≤ b) : (execOp ev o).run P w = .ok (.value (.bool true)) w := by
  unfold execOp
  simp [ho, hx, hy, eqGuard, binOp, go_sem, h]
theorem run_leq_f {P : Program} {t u : TypeId} {a b : Int} (ho : o.op = .binOp .leq t x y u) (hx : ev x = .int .i64 a) (hy : ev y = .int .i64 b) (h : b < a) : (execOp ev o).run P w = .ok (.value (.bool false)) w := by
  unfold execOp
  simp [ho, hx, hy, eqGuard, binOp, go_sem, h]
theorem run_gtr_t {P : Program} {t u : TypeId} {a b : Int} (ho : o.op = .binOp .gtr t x y u) (hx : ev x = .int .i64 a) (hy : ev y = .int .i64 b) (h : b < a) : (execOp ev o).run P w = .ok (.value (.bool true)) w := by
  unfold execOp
  simp [ho, hx, hy, eqGuard, binOp, go_sem, h]
theorem run_gtr_f {P : Program} {t u : TypeId} {a b : Int} (ho : o.op = .binOp .gtr t x y u) (hx : ev x = .int .i64 a) (hy : ev y = .int .i64 b) (h : a ≤ b) : (execOp ev o).run P w = .ok (.value (.bool false)) w := by
  unfold execOp
  simp [ho, hx, hy, eqGuard, binOp, go_sem, h]
theorem run_at3 {p : Addr} {n : Nm} (ho : o.op = .load 25 x) (hx : ev x = .pointer (some p)) (h : At3 w p n) : (execOp ev o).run Try.prog w = .ok (.value n.v) w := by
  obtain ⟨i0, hi, hz0, hz1, hz2⟩ := infoParts infoN
  have hl := run_loadCells_list (P := Try.prog) w p n.cs (fun j v hv => by
    match j, hv with
    | 0, hv => simp at hv; subst hv; exact h.1
    | 1, hv => simp at hv; subst hv; exact h.2.1
    | 2, hv => simp at hv; subst hv; exact h.2.2
    | j + 3, hv => simp at hv)
  have hagg : (isAgg 25).run Try.prog w = .ok true w := by
    unfold isAgg
    rw [Sem.run_bind, run_underlying Try.underlying25 w]
    rfl
  have hl3 : (loadCells p 3).run Try.prog w = .ok n.cs.toArray w := hl
  unfold execOp
  simp [ho, hx, Instr.loadAt, Instr.sureAddr, loadVar, hagg, sizeOf, typeInfo, hi, hz1, hl3, Result.andThen]
theorem run_idx {ad : Addr} {n c q : Nat} (ho : o.op = .indexAddr 23 x y) (hx : ev x = .slice (some ad) n c) (hy : ev y = .int .i64 q) (h : q < n) : (execOp ev o).run Try.prog w = .ok (.value (.pointer (some (ad.add (q * 3))))) w := by
  obtain ⟨i0, hi, hz0, hz1, hz2⟩ := infoParts infoN
  exact Pl.run_index Try.underlying23 hi hz1 ho hx hy h
theorem run_idx0 {g n c q : Nat} (ho : o.op = .indexAddr 23 x y) (hx : ev x = .slice (some ⟨g, 0, none⟩) n c) (hy : ev y = .int .i64 q) (h : q < n) : (execOp ev o).run Try.prog w = .ok (.value (.pointer (some ⟨g, q * 3, none⟩))) w := by
  have := run_idx (w := w) ho hx hy h
  rw [add_lit0] at this
  exact this
theorem run_store3 {g k : Nat} {n : Nm} {l : List Nm} {tl : List Value} (ho : o.op = .store 25 x y) (hx : ev x = .pointer (some ⟨g, k * 3, none⟩)) (hy : ev y = n.v) (hB : Blk w g 25 (flat l ++ tl).toArray) (hk : k < l.length) :
    (execOp ev o).run Try.prog w = .ok .skip (store3 w g k n) := by
  have hfl := flat_len l
  have ht : w.there g (k * 3) 3 := by
    intro j hj
    refine ⟨?_, hB.frozen _⟩
    rw [hB.cell, List.getElem?_toArray, List.getElem?_append_left (by omega), List.getElem?_eq_getElem (by omega)]
    rfl
  have hs := run_storeAt_mid (P := Try.prog) w g (k * 3) 25 #[.int .i64 n.t, .int .i64 n.s, .int .i64 n.r] ht (by kernel_rfl) (by kernel_rfl)
  unfold execOp
  simp only [ho, hx, hy, Sem.run_bind, hs, Result.andThen_ok, Sem.run_pure]
  rfl
end
end Go.Proofs.Ytiglepmgonmhiaa.Cs
