/- How messages lie in memory: 'MAt w m cs': the twenty-three cells cs of a message read as the record m in the world w; loads and stores of such rows whole. -/
import Derived.Test.YtconghaebebncaaGreatDoorG1
import Derived.Test.YtconghaebebncaaGreatDoorFlSame
import Derived.Deep.MidRow
import Derived.Laws.CopyOwn
import Derived.Laws.ResultCell
namespace Go.Proofs.YtconghaebebncaaGreatDoor.Ms
open Go.RowKit
set_option linter.unusedVariables false
set_option maxRecDepth 100000

/-! ### Mods -/
def MoAt (w : World) (P : Nat → Prop) (d : Mo) (cs : List Value) : Prop :=
  ∃ (V : Option Addr) (vc : Nat), cs = [.int .i64 d.kind, .string d.attr, .slice V d.vals.length vc] ∧ d.attr.size ≤ maxLen ∧ d.vals.length ≤ maxLen ∧ d.vals.length ≤ vc ∧ Fi.StrsAt w P V d.vals ∧ ∀ s ∈ d.vals, s.size ≤ maxLen
theorem MoAt.imp {w w' : World} {P P' : Nat → Prop} {d : Mo} {cs : List Value} (h : MoAt w P d cs) (hP : ∀ b, P b → P' b) (hw : ∀ p : Addr, P p.block → w'.cell? p = w.cell? p) : MoAt w' P' d cs := by
  obtain ⟨V, vc, h1, h2, h3, h4, h5, h6⟩ := h
  exact ⟨V, vc, h1, h2, h3, h4, h5.imp hP hw, h6⟩
theorem MoAt.past {w w' : World} {d : Mo} {cs : List Value} (h : MoAt w (· < w.heap.size) d cs) (hb : Below w.heap.size w w') : MoAt w' (· < w'.heap.size) d cs :=
  h.imp (fun _ h => Nat.lt_of_lt_of_le h hb.size) (fun p hp => hb.cell hp)
/-- Mods, three cells each, one behind the other from A on. -/
def MosAt (w : World) (P : Nat → Prop) (A : Option Addr) (ds : List Mo) (cs : Nat → List Value) : Prop :=
  (0 < ds.length → ∃ ad, A = some ad ∧ P ad.block ∧ ∀ i, i < ds.length → ∀ j u, (cs i)[j]? = some u → w.cell? (ad.add (i * 3 + j)) = some u) ∧ ∀ i (h : i < ds.length), MoAt w P ds[i] (cs i)
theorem MosAt.imp {w w' : World} {P P' : Nat → Prop} {A : Option Addr} {ds : List Mo} {cs : Nat → List Value} (h : MosAt w P A ds cs) (hP : ∀ b, P b → P' b) (hw : ∀ p : Addr, P p.block → w'.cell? p = w.cell? p) : MosAt w' P' A ds cs := by
  refine ⟨fun h0 => ?_, fun i hi => (h.2 i hi).imp hP hw⟩
  obtain ⟨ad, e, hp, hc⟩ := h.1 h0
  exact ⟨ad, e, hP _ hp, fun i hi j u hu => (hw _ (by rw [block_of_add]; exact hp)).trans (hc i hi j u hu)⟩
theorem MosAt.past {w w' : World} {A : Option Addr} {ds : List Mo} {cs : Nat → List Value} (h : MosAt w (· < w.heap.size) A ds cs) (hb : Below w.heap.size w w') : MosAt w' (· < w'.heap.size) A ds cs :=
  h.imp (fun _ h => Nat.lt_of_lt_of_le h hb.size) (fun p hp => hb.cell hp)
theorem MosAt.nil (w : World) (P : Nat → Prop) (A : Option Addr) (cs : Nat → List Value) : MosAt w P A [] cs := ⟨fun h => absurd h (by simp), fun i h => absurd h (by simp)⟩
/-- A Mod's cells: in a later world, in which all that lay below is as it was. -/
theorem MosAt.kid {w wr : World} {ds : List Mo} {A : Option Addr} {cs : Nat → List Value} (h : MosAt w (· < w.heap.size) A ds cs) (hb : Below w.heap.size w wr) {i : Nat} (hi : i < ds.length) :
    ∃ (ad : Addr) (V : Option Addr) (vc : Nat), A = some ad ∧ ad.block < w.heap.size ∧ wr.cell? (ad.add (i * 3)) = some (.int .i64 ds[i].kind) ∧ wr.cell? ⟨(ad.add (i * 3)).block, (ad.add (i * 3)).off + 1, none⟩ = some (.string ds[i].attr) ∧
      wr.cell? ⟨(ad.add (i * 3)).block, (ad.add (i * 3)).off + 2, none⟩ = some (.slice V ds[i].vals.length vc) ∧ MoAt wr (· < wr.heap.size) ds[i] [.int .i64 ds[i].kind, .string ds[i].attr, .slice V ds[i].vals.length vc] := by
  obtain ⟨hA, hk⟩ := h
  obtain ⟨ad, e, hp, hc⟩ := hA (by omega)
  have hx := hk i hi
  obtain ⟨V, vc, hd, _⟩ := hx
  have hx := hk i hi
  have hcc : ∀ j u, (cs i)[j]? = some u → wr.cell? (ad.add (i * 3 + j)) = some u := fun j u hu => (hb.cell (by rw [block_of_add]; exact hp)).trans (hc i hi j u hu)
  rw [hd] at hcc hx
  have h0 := hcc 0 _ rfl
  have h1 := hcc 1 _ rfl
  have h2 := hcc 2 _ rfl
  rw [Fi.add_next _ _ _ (by omega)] at h1 h2
  exact ⟨ad, V, vc, e, hp, h0, h1, h2, hx.past hb⟩

/-! ### Messages -/
def MAt (w : World) (P : Nat → Prop) (m : Mg) (cs : Array Value) : Prop :=
  ∃ (x0 x1 x2 x3 x4 : Value) (W : Option Addr) (wc : Nat) (M : Option Addr) (mc : Nat) (ds : Nat → List Value),
    cs = #[.int .i64 m.id, .int .i64 m.op, .int .i64 m.ref, .string m.dn, .int .i64 m.ver, .string m.pass, .int .i64 m.scope, .int .i64 m.size, x0, x1, x2, x3, x4,
      .slice W m.wants.length wc, .slice M m.mods.length mc, .string m.rdn, .bool m.del, .bool m.has, .string m.sup, .string m.attr, .string m.value, .int .i64 m.code, .string m.matched] ∧
    Fi.Lies w P m.fil [x0, x1, x2, x3, x4] ∧
    (Fi.StrsAt w P W m.wants ∧ m.wants.length ≤ maxLen ∧ m.wants.length ≤ wc ∧ ∀ s ∈ m.wants, s.size ≤ maxLen) ∧
    (MosAt w P M m.mods ds ∧ m.mods.length ≤ maxLen ∧ m.mods.length ≤ mc) ∧
    (m.dn.size ≤ maxLen ∧ m.pass.size ≤ maxLen ∧ m.rdn.size ≤ maxLen ∧ m.sup.size ≤ maxLen ∧ m.attr.size ≤ maxLen ∧ m.value.size ≤ maxLen ∧ m.matched.size ≤ maxLen)
theorem MAt.imp {w w' : World} {P P' : Nat → Prop} {m : Mg} {cs : Array Value} (h : MAt w P m cs) (hP : ∀ b, P b → P' b) (hw : ∀ p : Addr, P p.block → w'.cell? p = w.cell? p) : MAt w' P' m cs := by
  obtain ⟨x0, x1, x2, x3, x4, W, wc, M, mc, ds, e, hF, ⟨hW, hW'⟩, ⟨hM, hM'⟩, hT⟩ := h
  exact ⟨x0, x1, x2, x3, x4, W, wc, M, mc, ds, e, hF.imp hP hw, ⟨hW.imp hP hw, hW'⟩, ⟨hM.imp hP hw, hM'⟩, hT⟩
theorem MAt.past {w w' : World} {m : Mg} {cs : Array Value} (h : MAt w (· < w.heap.size) m cs) (hb : Below w.heap.size w w') : MAt w' (· < w'.heap.size) m cs :=
  h.imp (fun _ h => Nat.lt_of_lt_of_le h hb.size) (fun p hp => hb.cell hp)
/-- Of what is new: all of it is there. -/
theorem MAt.old {w : World} {B : Nat} {m : Mg} {cs : Array Value} (h : MAt w (fun b => B ≤ b ∧ b < w.heap.size) m cs) : MAt w (· < w.heap.size) m cs := h.imp (fun _ h => h.2) (fun _ _ => rfl)
section
variable {w : World} {P : Nat → Prop} {m : Mg} {cs : Array Value}
theorem MAt.size (h : MAt w P m cs) : cs.size = 23 := by obtain ⟨_, _, _, _, _, _, _, _, _, _, rfl, _⟩ := h; rfl
theorem MAt.g0 (h : MAt w P m cs) : cs[0]? = some (.int .i64 m.id) := by obtain ⟨_, _, _, _, _, _, _, _, _, _, rfl, _⟩ := h; rfl
theorem MAt.g1 (h : MAt w P m cs) : cs[1]? = some (.int .i64 m.op) := by obtain ⟨_, _, _, _, _, _, _, _, _, _, rfl, _⟩ := h; rfl
theorem MAt.g2 (h : MAt w P m cs) : cs[2]? = some (.int .i64 m.ref) := by obtain ⟨_, _, _, _, _, _, _, _, _, _, rfl, _⟩ := h; rfl
theorem MAt.g3 (h : MAt w P m cs) : cs[3]? = some (.string m.dn) := by obtain ⟨_, _, _, _, _, _, _, _, _, _, rfl, _⟩ := h; rfl
theorem MAt.g4 (h : MAt w P m cs) : cs[4]? = some (.int .i64 m.ver) := by obtain ⟨_, _, _, _, _, _, _, _, _, _, rfl, _⟩ := h; rfl
theorem MAt.g5 (h : MAt w P m cs) : cs[5]? = some (.string m.pass) := by obtain ⟨_, _, _, _, _, _, _, _, _, _, rfl, _⟩ := h; rfl
theorem MAt.g6 (h : MAt w P m cs) : cs[6]? = some (.int .i64 m.scope) := by obtain ⟨_, _, _, _, _, _, _, _, _, _, rfl, _⟩ := h; rfl
theorem MAt.g7 (h : MAt w P m cs) : cs[7]? = some (.int .i64 m.size) := by obtain ⟨_, _, _, _, _, _, _, _, _, _, rfl, _⟩ := h; rfl
theorem MAt.g15 (h : MAt w P m cs) : cs[15]? = some (.string m.rdn) := by obtain ⟨_, _, _, _, _, _, _, _, _, _, rfl, _⟩ := h; rfl
theorem MAt.g16 (h : MAt w P m cs) : cs[16]? = some (.bool m.del) := by obtain ⟨_, _, _, _, _, _, _, _, _, _, rfl, _⟩ := h; rfl
theorem MAt.g17 (h : MAt w P m cs) : cs[17]? = some (.bool m.has) := by obtain ⟨_, _, _, _, _, _, _, _, _, _, rfl, _⟩ := h; rfl
theorem MAt.g18 (h : MAt w P m cs) : cs[18]? = some (.string m.sup) := by obtain ⟨_, _, _, _, _, _, _, _, _, _, rfl, _⟩ := h; rfl
theorem MAt.g19 (h : MAt w P m cs) : cs[19]? = some (.string m.attr) := by obtain ⟨_, _, _, _, _, _, _, _, _, _, rfl, _⟩ := h; rfl
theorem MAt.g20 (h : MAt w P m cs) : cs[20]? = some (.string m.value) := by obtain ⟨_, _, _, _, _, _, _, _, _, _, rfl, _⟩ := h; rfl
theorem MAt.g21 (h : MAt w P m cs) : cs[21]? = some (.int .i64 m.code) := by obtain ⟨_, _, _, _, _, _, _, _, _, _, rfl, _⟩ := h; rfl
theorem MAt.g22 (h : MAt w P m cs) : cs[22]? = some (.string m.matched) := by obtain ⟨_, _, _, _, _, _, _, _, _, _, rfl, _⟩ := h; rfl
theorem MAt.gF (h : MAt w P m cs) : ∃ x0 x1 x2 x3 x4, cs[8]? = some x0 ∧ cs[9]? = some x1 ∧ cs[10]? = some x2 ∧ cs[11]? = some x3 ∧ cs[12]? = some x4 ∧ Fi.Lies w P m.fil [x0, x1, x2, x3, x4] := by
  obtain ⟨_, _, _, _, _, _, _, _, _, _, rfl, hF, _⟩ := h
  exact ⟨_, _, _, _, _, rfl, rfl, rfl, rfl, rfl, hF⟩
theorem MAt.gW (h : MAt w P m cs) : ∃ W wc, cs[13]? = some (.slice W m.wants.length wc) ∧ Fi.StrsAt w P W m.wants ∧ m.wants.length ≤ maxLen ∧ m.wants.length ≤ wc ∧ ∀ s ∈ m.wants, s.size ≤ maxLen := by
  obtain ⟨_, _, _, _, _, _, _, _, _, _, rfl, _, hW, _⟩ := h
  exact ⟨_, _, rfl, hW⟩
theorem MAt.gM (h : MAt w P m cs) : ∃ M mc ds, cs[14]? = some (.slice M m.mods.length mc) ∧ MosAt w P M m.mods ds ∧ m.mods.length ≤ maxLen ∧ m.mods.length ≤ mc := by
  obtain ⟨_, _, _, _, _, _, _, _, _, _, rfl, _, _, hM, _⟩ := h
  exact ⟨_, _, _, rfl, hM⟩
theorem MAt.sizes (h : MAt w P m cs) : m.dn.size ≤ maxLen ∧ m.pass.size ≤ maxLen ∧ m.rdn.size ≤ maxLen ∧ m.sup.size ≤ maxLen ∧ m.attr.size ≤ maxLen ∧ m.value.size ≤ maxLen ∧ m.matched.size ≤ maxLen := by
  obtain ⟨_, _, _, _, _, _, _, _, _, _, _, _, _, _, hT⟩ := h
  exact hT
theorem MAt.one (h : MAt w P m cs) : cs.all (·.oneCell') = true := by
  obtain ⟨x0, x1, x2, x3, x4, _, _, _, _, _, rfl, hF, _⟩ := h
  obtain ⟨k, a, v, S, m, d, A, n, c, hcs⟩ := hF.form
  simp only [List.cons.injEq, and_true] at hcs
  obtain ⟨rfl, rfl, rfl, rfl, rfl⟩ := hcs
  simp [Value.oneCell']
end
theorem infoM : (Tryz.prog.info? 28).map (·.size) = some 23 := by kernel_rfl
theorem infoF5 : (Tryz.prog.info? 25).map (·.size) = some 5 := by kernel_rfl
/-- A message in a box, and as a record. -/
def Box (w : World) (g : Nat) (m : Mg) (cs : Array Value) : Prop := Blk w g 28 cs ∧ MAt w (· < w.heap.size) m cs
theorem Box.past {w w' : World} {g : Nat} {m : Mg} {cs : Array Value} (h : Box w g m cs) (hb : Below w.heap.size w w') : Box w' g m cs := ⟨h.1.past hb, h.2.past hb⟩
theorem Box.new {w : World} {m : Mg} {cs : Array Value} (h : MAt w (· < w.heap.size) m cs) : Box (w.alloc (.cells cs 28)) w.heap.size m cs :=
  ⟨Blk.new _ _ _, h.past ((Below.refl _ _).alloc (Nat.le_refl _) _)⟩
/-- The load of a whole message, under a name: 'attribute [local go_sem ↓] loadAtMsg' in a walk's text keeps the walk from opening it cell by cell. -/
def loadMsg (v : Value) : Sem Value := Instr.loadAt 28 v
theorem loadAtMsg (v : Value) : Instr.loadAt 28 v = loadMsg v := rfl
/-- The whole message is loaded. -/
theorem Box.load {w : World} {g : Nat} {m : Mg} {cs : Array Value} (h : Box w g m cs) : (loadMsg (.pointer (some ⟨g, 0, none⟩))).run Tryz.prog w = .ok (.agg cs) w := by
  unfold loadMsg
  simp only [Instr.loadAt, Instr.sureAddr, Sem.run_bind, Sem.run_pure, Result.andThen_ok, run_loadVar_row w g _ 28 cs (0, 0) _ h.1 Tryz.underlying28 rfl (by rw [infoM, h.2.size])]
/-- Its filter is. -/
theorem Box.loadF {w : World} {g : Nat} {m : Mg} {cs : Array Value} (h : Box w g m cs) : ∃ x0 x1 x2 x3 x4, Fi.Lies w (· < w.heap.size) m.fil [x0, x1, x2, x3, x4] ∧
    w.cell? ⟨g, 8, none⟩ = some x0 ∧ w.cell? ⟨g, 9, none⟩ = some x1 ∧ w.cell? ⟨g, 10, none⟩ = some x2 ∧ w.cell? ⟨g, 11, none⟩ = some x3 ∧ w.cell? ⟨g, 12, none⟩ = some x4 := by
  obtain ⟨x0, x1, x2, x3, x4, e0, e1, e2, e3, e4, hF⟩ := h.2.gF
  exact ⟨x0, x1, x2, x3, x4, hF, (h.1.cell 8).trans e0, (h.1.cell 9).trans e1, (h.1.cell 10).trans e2, (h.1.cell 11).trans e3, (h.1.cell 12).trans e4⟩
theorem wpList_loadM {w : World} {ops : Array Oper} {rest : List Oper} {o : Oper} {a : Act} {Q : Exit → Act → World → Prop} (hgd : o.guard = none) (x : Operand) (ho : o.op = .load 28 x)
    (g : Nat) (hx : a.eval x = .pointer (some ⟨g, 0, none⟩)) (m : Mg) (cs : Array Value) (h : Box w g m cs) (hK : wpList Tryz.prog ops Q rest (a.put o.dst (.agg cs)) w) : wpList Tryz.prog ops Q (o :: rest) a w :=
  wpList_load_row hgd _ x ho g hx _ cs (0, 0) _ h.1 Tryz.underlying28 rfl (by rw [infoM, h.2.size]) hK
/-- A lone result of a message's cells in a box. -/
theorem res_msg {fn : Func} {p : Tmp} (h : fn.results = #[.cell p 28]) (tmps : Array Value) (w : World) (g : Nat) (m : Mg) (cs : Array Value) (hp : tmps.getD p undef = .pointer (some ⟨g, 0, none⟩)) (hB : Box w g m cs) :
    (results fn tmps).run Tryz.prog w = .ok (.agg cs) w :=
  results_cell_row h tmps w g _ cs (0, 0) _ hp hB.1 Tryz.underlying28 rfl (by rw [infoM, hB.2.size])
/-- Another message is stored into a box that is younger than all of it. -/
theorem wpList_storeM {w w0 : World} {ops : Array Oper} {rest : List Oper} {o : Oper} {a : Act} {Q : Exit → Act → World → Prop} (hgd : o.guard = none) (x y : Operand) (ho : o.op = .store 28 x y)
    (g : Nat) (hx : a.eval x = .pointer (some ⟨g, 0, none⟩)) (m : Mg) (cs : Array Value) (hy : a.eval y = .agg cs) (old : Array Value) (hg : Blk w g 28 old) (hold : old.size = 23) (h : MAt w0 (· < w0.heap.size) m cs)
    (hb : Below w0.heap.size w0 w) (hB : w0.heap.size ≤ g)
    (hK : ∀ w', w'.heap.size = w.heap.size → Box w' g m cs → (∀ k, k ≠ g → w'.heap[k]? = w.heap[k]?) → (∀ B, B ≤ g → Below B w w') → wpList Tryz.prog ops Q rest (a.put o.dst undef) w') : wpList Tryz.prog ops Q (o :: rest) a w := by
  have hb' : ∀ B, B ≤ g → Below B w (w.setRow g cs) := fun B hB => below_setRow (Below.refl _ _) hB cs
  exact wpList_store_row hgd _ x y ho g cs hx hy _ old hg (by rw [infoM, h.size]) (by rw [hold, h.size]) h.one
    (hK _ (size_setRow _ _ _) ⟨setRow_heap w g old cs _ _ hg, h.past (hb.trans (hb' _ hB))⟩ (fun k hk => setRow_other w g k cs hk) hb')
/-! ### Runs of loads, for regions that are written out step by step -/
theorem run_loadM {ev : Operand → Value} {o : Oper} {x : Operand} {w : World} {g : Nat} {m : Mg} {cs : Array Value} (ho : o.op = .load 28 x) (hx : ev x = .pointer (some ⟨g, 0, none⟩)) (h : Box w g m cs) :
    (execOp ev o).run Tryz.prog w = .ok (.value (.agg cs)) w := by
  have hl := h.load
  unfold loadMsg at hl
  unfold execOp
  simp only [ho, hx, Sem.run_bind, hl, Result.andThen_ok, Sem.run_pure]
theorem run_cell {P : Program} {ev : Operand → Value} {o : Oper} {x : Operand} {t : TypeId} {p : Addr} {v : Value} {w : World} (ho : o.op = .load t x) (hx : ev x = .pointer (some p)) (hagg : (isAgg t).run P w = .ok false w) (hc : w.cell? p = some v) :
    (execOp ev o).run P w = .ok (.value v) w := by
  unfold execOp
  simp [ho, hx, Instr.loadAt, Instr.sureAddr, loadVar, hagg, hc, Result.andThen]
theorem run_loadF {ev : Operand → Value} {o : Oper} {x : Operand} {w : World} {b k : Nat} {x0 x1 x2 x3 x4 : Value} (ho : o.op = .load 25 x) (hx : ev x = .pointer (some ⟨b, k, none⟩))
    (h0 : w.cell? ⟨b, k, none⟩ = some x0) (h1 : w.cell? ⟨b, k + 1, none⟩ = some x1) (h2 : w.cell? ⟨b, k + 2, none⟩ = some x2) (h3 : w.cell? ⟨b, k + 3, none⟩ = some x3) (h4 : w.cell? ⟨b, k + 4, none⟩ = some x4) :
    (execOp ev o).run Tryz.prog w = .ok (.value (.agg #[x0, x1, x2, x3, x4])) w := by
  have hr : w.rangeAt b k [x0, x1, x2, x3, x4] := by
    intro j v hv
    match j with
    | 0 => injection hv with hv; subst hv; exact h0
    | 1 => injection hv with hv; subst hv; exact h1
    | 2 => injection hv with hv; subst hv; exact h2
    | 3 => injection hv with hv; subst hv; exact h3
    | 4 => injection hv with hv; subst hv; exact h4
    | j + 5 => cases hv
  have hl := run_loadAt_mid w b k 25 _ _ hr Tryz.underlying25 rfl infoF5
  unfold execOp
  simp only [ho, hx, Sem.run_bind, hl, Result.andThen_ok, Sem.run_pure]
end Go.Proofs.YtconghaebebncaaGreatDoor.Ms
