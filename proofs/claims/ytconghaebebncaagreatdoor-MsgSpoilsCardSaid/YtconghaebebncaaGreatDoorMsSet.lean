/- A message's cells, one of which is stored anew; the cells of a message with an ID alone. -/
import Derived.Test.YtconghaebebncaaGreatDoorMsFor
namespace Go.Proofs.YtconghaebebncaaGreatDoor.Ms
open Go.RowKit
set_option linter.unusedVariables false
set_option maxRecDepth 100000

section
variable {w : World} {P : Nat → Prop} {m : Mg} {cs : Array Value}
theorem MAt.set_id (h : MAt w P m cs) (x : Int) : MAt w P { m with id := x } (cs.setIfInBounds 0 (.int .i64 x)) := by
  obtain ⟨x0, x1, x2, x3, x4, W, wc, M, mc, ds, rfl, hF, hW, hM, hT⟩ := h
  exact ⟨x0, x1, x2, x3, x4, W, wc, M, mc, ds, rfl, hF, hW, hM, hT⟩
theorem MAt.set_op (h : MAt w P m cs) (x : Int) : MAt w P { m with op := x } (cs.setIfInBounds 1 (.int .i64 x)) := by
  obtain ⟨x0, x1, x2, x3, x4, W, wc, M, mc, ds, rfl, hF, hW, hM, hT⟩ := h
  exact ⟨x0, x1, x2, x3, x4, W, wc, M, mc, ds, rfl, hF, hW, hM, hT⟩
theorem MAt.set_ref (h : MAt w P m cs) (x : Int) : MAt w P { m with ref := x } (cs.setIfInBounds 2 (.int .i64 x)) := by
  obtain ⟨x0, x1, x2, x3, x4, W, wc, M, mc, ds, rfl, hF, hW, hM, hT⟩ := h
  exact ⟨x0, x1, x2, x3, x4, W, wc, M, mc, ds, rfl, hF, hW, hM, hT⟩
theorem MAt.set_ver (h : MAt w P m cs) (x : Int) : MAt w P { m with ver := x } (cs.setIfInBounds 4 (.int .i64 x)) := by
  obtain ⟨x0, x1, x2, x3, x4, W, wc, M, mc, ds, rfl, hF, hW, hM, hT⟩ := h
  exact ⟨x0, x1, x2, x3, x4, W, wc, M, mc, ds, rfl, hF, hW, hM, hT⟩
theorem MAt.set_scope (h : MAt w P m cs) (x : Int) : MAt w P { m with scope := x } (cs.setIfInBounds 6 (.int .i64 x)) := by
  obtain ⟨x0, x1, x2, x3, x4, W, wc, M, mc, ds, rfl, hF, hW, hM, hT⟩ := h
  exact ⟨x0, x1, x2, x3, x4, W, wc, M, mc, ds, rfl, hF, hW, hM, hT⟩
theorem MAt.set_size (h : MAt w P m cs) (x : Int) : MAt w P { m with size := x } (cs.setIfInBounds 7 (.int .i64 x)) := by
  obtain ⟨x0, x1, x2, x3, x4, W, wc, M, mc, ds, rfl, hF, hW, hM, hT⟩ := h
  exact ⟨x0, x1, x2, x3, x4, W, wc, M, mc, ds, rfl, hF, hW, hM, hT⟩
theorem MAt.set_code (h : MAt w P m cs) (x : Int) : MAt w P { m with code := x } (cs.setIfInBounds 21 (.int .i64 x)) := by
  obtain ⟨x0, x1, x2, x3, x4, W, wc, M, mc, ds, rfl, hF, hW, hM, hT⟩ := h
  exact ⟨x0, x1, x2, x3, x4, W, wc, M, mc, ds, rfl, hF, hW, hM, hT⟩
theorem MAt.set_del (h : MAt w P m cs) (x : Bool) : MAt w P { m with del := x } (cs.setIfInBounds 16 (.bool x)) := by
  obtain ⟨x0, x1, x2, x3, x4, W, wc, M, mc, ds, rfl, hF, hW, hM, hT⟩ := h
  exact ⟨x0, x1, x2, x3, x4, W, wc, M, mc, ds, rfl, hF, hW, hM, hT⟩
theorem MAt.set_has (h : MAt w P m cs) (x : Bool) : MAt w P { m with has := x } (cs.setIfInBounds 17 (.bool x)) := by
  obtain ⟨x0, x1, x2, x3, x4, W, wc, M, mc, ds, rfl, hF, hW, hM, hT⟩ := h
  exact ⟨x0, x1, x2, x3, x4, W, wc, M, mc, ds, rfl, hF, hW, hM, hT⟩
theorem MAt.set_dn (h : MAt w P m cs) (x : ByteArray) (hx : x.size ≤ maxLen) : MAt w P { m with dn := x } (cs.setIfInBounds 3 (.string x)) := by
  obtain ⟨x0, x1, x2, x3, x4, W, wc, M, mc, ds, rfl, hF, hW, hM, hT⟩ := h
  exact ⟨x0, x1, x2, x3, x4, W, wc, M, mc, ds, rfl, hF, hW, hM, hx, hT.2.1, hT.2.2.1, hT.2.2.2.1, hT.2.2.2.2.1, hT.2.2.2.2.2.1, hT.2.2.2.2.2.2⟩
theorem MAt.set_pass (h : MAt w P m cs) (x : ByteArray) (hx : x.size ≤ maxLen) : MAt w P { m with pass := x } (cs.setIfInBounds 5 (.string x)) := by
  obtain ⟨x0, x1, x2, x3, x4, W, wc, M, mc, ds, rfl, hF, hW, hM, hT⟩ := h
  exact ⟨x0, x1, x2, x3, x4, W, wc, M, mc, ds, rfl, hF, hW, hM, hT.1, hx, hT.2.2.1, hT.2.2.2.1, hT.2.2.2.2.1, hT.2.2.2.2.2.1, hT.2.2.2.2.2.2⟩
theorem MAt.set_rdn (h : MAt w P m cs) (x : ByteArray) (hx : x.size ≤ maxLen) : MAt w P { m with rdn := x } (cs.setIfInBounds 15 (.string x)) := by
  obtain ⟨x0, x1, x2, x3, x4, W, wc, M, mc, ds, rfl, hF, hW, hM, hT⟩ := h
  exact ⟨x0, x1, x2, x3, x4, W, wc, M, mc, ds, rfl, hF, hW, hM, hT.1, hT.2.1, hx, hT.2.2.2.1, hT.2.2.2.2.1, hT.2.2.2.2.2.1, hT.2.2.2.2.2.2⟩
theorem MAt.set_sup (h : MAt w P m cs) (x : ByteArray) (hx : x.size ≤ maxLen) : MAt w P { m with sup := x } (cs.setIfInBounds 18 (.string x)) := by
  obtain ⟨x0, x1, x2, x3, x4, W, wc, M, mc, ds, rfl, hF, hW, hM, hT⟩ := h
  exact ⟨x0, x1, x2, x3, x4, W, wc, M, mc, ds, rfl, hF, hW, hM, hT.1, hT.2.1, hT.2.2.1, hx, hT.2.2.2.2.1, hT.2.2.2.2.2.1, hT.2.2.2.2.2.2⟩
theorem MAt.set_attr (h : MAt w P m cs) (x : ByteArray) (hx : x.size ≤ maxLen) : MAt w P { m with attr := x } (cs.setIfInBounds 19 (.string x)) := by
  obtain ⟨x0, x1, x2, x3, x4, W, wc, M, mc, ds, rfl, hF, hW, hM, hT⟩ := h
  exact ⟨x0, x1, x2, x3, x4, W, wc, M, mc, ds, rfl, hF, hW, hM, hT.1, hT.2.1, hT.2.2.1, hT.2.2.2.1, hx, hT.2.2.2.2.2.1, hT.2.2.2.2.2.2⟩
theorem MAt.set_value (h : MAt w P m cs) (x : ByteArray) (hx : x.size ≤ maxLen) : MAt w P { m with value := x } (cs.setIfInBounds 20 (.string x)) := by
  obtain ⟨x0, x1, x2, x3, x4, W, wc, M, mc, ds, rfl, hF, hW, hM, hT⟩ := h
  exact ⟨x0, x1, x2, x3, x4, W, wc, M, mc, ds, rfl, hF, hW, hM, hT.1, hT.2.1, hT.2.2.1, hT.2.2.2.1, hT.2.2.2.2.1, hx, hT.2.2.2.2.2.2⟩
theorem MAt.set_matched (h : MAt w P m cs) (x : ByteArray) (hx : x.size ≤ maxLen) : MAt w P { m with matched := x } (cs.setIfInBounds 22 (.string x)) := by
  obtain ⟨x0, x1, x2, x3, x4, W, wc, M, mc, ds, rfl, hF, hW, hM, hT⟩ := h
  exact ⟨x0, x1, x2, x3, x4, W, wc, M, mc, ds, rfl, hF, hW, hM, hT.1, hT.2.1, hT.2.2.1, hT.2.2.2.1, hT.2.2.2.2.1, hT.2.2.2.2.2.1, hx⟩
theorem MAt.set_wants (h : MAt w P m cs) (l : List ByteArray) (A : Option Addr) (c : Nat) (hA : Fi.StrsAt w P A l) (h1 : l.length ≤ maxLen) (h2 : l.length ≤ c) (h3 : ∀ s ∈ l, s.size ≤ maxLen) : MAt w P { m with wants := l } (cs.setIfInBounds 13 (.slice A l.length c)) := by
  obtain ⟨x0, x1, x2, x3, x4, W, wc, M, mc, ds, rfl, hF, hW, hM, hT⟩ := h
  exact ⟨x0, x1, x2, x3, x4, A, c, M, mc, ds, rfl, hF, ⟨hA, h1, h2, h3⟩, hM, hT⟩
theorem MAt.set_mods (h : MAt w P m cs) (l : List Mo) (A : Option Addr) (c : Nat) (dd : Nat → List Value) (hA : MosAt w P A l dd) (h1 : l.length ≤ maxLen) (h2 : l.length ≤ c) : MAt w P { m with mods := l } (cs.setIfInBounds 14 (.slice A l.length c)) := by
  obtain ⟨x0, x1, x2, x3, x4, W, wc, M, mc, ds, rfl, hF, hW, hM, hT⟩ := h
  exact ⟨x0, x1, x2, x3, x4, W, wc, A, c, dd, rfl, hF, hW, ⟨hA, h1, h2⟩, hT⟩
theorem MAt.set_fil (h : MAt w P m cs) (f : Fil) (y0 y1 y2 y3 y4 : Value) (hf : Fi.Lies w P f [y0, y1, y2, y3, y4]) :
    MAt w P { m with fil := f } (((((cs.setIfInBounds 8 y0).setIfInBounds 9 y1).setIfInBounds 10 y2).setIfInBounds 11 y3).setIfInBounds 12 y4) := by
  obtain ⟨x0, x1, x2, x3, x4, W, wc, M, mc, ds, rfl, hF, hW, hM, hT⟩ := h
  exact ⟨y0, y1, y2, y3, y4, W, wc, M, mc, ds, rfl, hf, hW, hM, hT⟩
end
/-- The cells of a message with an ID alone: what they are, how they are built, what lay there before. -/
theorem id_cells (x : Int) : ∃ (cs zs : Array Value), zs.size = 23 ∧ (∀ (w : World) (P : Nat → Prop), MAt w P { zero with id := x } cs) ∧ (∀ (w : World) (P : Nat → Prop), MAt w P zero zs) ∧
    zs = #[.int .i64 0, .int .i64 0, .int .i64 0, .string ⟨#[]⟩, .int .i64 0, .string ⟨#[]⟩, .int .i64 0, .int .i64 0, .int .i64 0, .string ⟨#[]⟩, .string ⟨#[]⟩, .slice none 0 0, .slice none 0 0, .slice none 0 0, .slice none 0 0, .string ⟨#[]⟩, .bool false, .bool false, .string ⟨#[]⟩, .string ⟨#[]⟩, .string ⟨#[]⟩, .int .i64 0, .string ⟨#[]⟩] ∧
    cs = #[.int .i64 x, .int .i64 0, .int .i64 0, .string ⟨#[]⟩, .int .i64 0, .string ⟨#[]⟩, .int .i64 0, .int .i64 0, .int .i64 0, .string ⟨#[]⟩, .string ⟨#[]⟩, .slice none 0 0, .slice none 0 0, .slice none 0 0, .slice none 0 0, .string ⟨#[]⟩, .bool false, .bool false, .string ⟨#[]⟩, .string ⟨#[]⟩, .string ⟨#[]⟩, .int .i64 0, .string ⟨#[]⟩] :=
  ⟨_, _, rfl,
    fun w P => ⟨_, _, _, _, _, none, 0, none, 0, fun _ => [], rfl, lies_noF w P, ⟨Fi.StrsAt.nil _ _ _, by simp [zero], by simp [zero], by simp [zero]⟩, ⟨MosAt.nil _ _ _ _, by simp [zero], by simp [zero]⟩, by refine ⟨?_, ?_, ?_, ?_, ?_, ?_, ?_⟩ <;> exact Nat.zero_le _⟩,
    fun w P => ⟨_, _, _, _, _, none, 0, none, 0, fun _ => [], rfl, lies_noF w P, ⟨Fi.StrsAt.nil _ _ _, by simp [zero], by simp [zero], by simp [zero]⟩, ⟨MosAt.nil _ _ _ _, by simp [zero], by simp [zero]⟩, by refine ⟨?_, ?_, ?_, ?_, ?_, ?_, ?_⟩ <;> exact Nat.zero_le _⟩, rfl, rfl⟩
/-- Nothing but a look at which operation it is (a tactic's attempt fails here at once). -/
theorem wpList_mark {P : Program} {w : World} {ops : Array Oper} {rest : List Oper} {o : Oper} {a : Act} {Q : Exit → Act → World → Prop} (q : Op) (hq : o.op = q) (h : wpList P ops Q (o :: rest) a w) : wpList P ops Q (o :: rest) a w := h
/-- An operation that yields a value, its run given. -/
theorem wpList_gives {P : Program} {w : World} {ops : Array Oper} {rest : List Oper} {o : Oper} {a : Act} {Q : Exit → Act → World → Prop} (hgd : o.guard = none) (q : Op) (hq : o.op = q) (v : Value) (hrun : (execOp a.eval o).run P w = .ok (.value v) w) (h : wpList P ops Q rest (a.put o.dst v) w) : wpList P ops Q (o :: rest) a w :=
  wpList_plain hgd fun K hK => by
    unfold Oper.wp
    rw [hrun, Oper.upon_value]
    exact hK _ _ h
end Go.Proofs.YtconghaebebncaaGreatDoor.Ms
