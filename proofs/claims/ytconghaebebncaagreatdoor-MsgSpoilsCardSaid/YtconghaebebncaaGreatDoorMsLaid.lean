/- What is laid when a call begins: the type error's handle, the two tables of tags; a world in which it is. -/
import Derived.Test.YtconghaebebncaaGreatDoorMsTags
import Derived.Test.YtconghaebebncaaGreatDoorRows
import Derived.ChangeSame
import Derived.ChangeVars
import Derived.OpenShut
import Derived.LaidLaws
import Derived.LaidHandle
import Derived.FnData
import Derived.LaidMore
import Derived.Stop.Joined
namespace Go.Proofs.YtconghaebebncaaGreatDoor.Ms
open Go.ChangeShapes Go.WideShapes Go.RowKit
set_option linter.unusedVariables false
set_option maxRecDepth 100000

section
variable {H : Type} {enc : TypeId × Value → H} {w : World} {base : Nat} {sp : Nat → Bool} {held : Bool} {fuel : Nat} {cs : List Value} {p : List MemPlace}
theorem lit_int {t : TypeId} {k : IntKind} {n : Int} {c : Value} (ht : Tryz.prog.underlying t = some (.int k)) (h : DataW.trod enc Tryz.prog w base sp held fuel t [c] = some (.lit (.int k n), p)) : c = .int k n := by
  obtain ⟨z, h1, h2, _⟩ := DataW.trod_int ht h
  simp only [List.cons.injEq, and_true] at h1
  simp only [Prod.mk.injEq, DataW.lit.injEq, Lit.int.injEq, true_and] at h2
  rw [h1, h2.1]
theorem cellsI8 : Tryz.prog.cellsOf 5 = 1 := by kernel_rfl
theorem cellsI64 : Tryz.prog.cellsOf 3 = 1 := by kernel_rfl
theorem cellsOp : Tryz.prog.cellsOf 173 = 3 := by kernel_rfl
theorem cellsFi : Tryz.prog.cellsOf 193 = 2 := by kernel_rfl
theorem op_row {r : Int × Int × Nat} (h : DataW.trod enc Tryz.prog w base sp held fuel 173 cs = some (.agg [.lit (.int .i64 r.1), .lit (.int .i64 r.2.1), .lit (.int .u8 r.2.2)], p)) : cs = [.int .i64 r.1, .int .i64 r.2.1, .int .u8 r.2.2] := by
  obtain ⟨xs, n, rfl, hx, hl, hlen, hg⟩ := DataW.trod_struct Tryz.underlying173 h
  rw [cellsOp] at hl
  match cs, hl with
  | [c0, c1, c2], _ =>
    have l3 : xs.length = 3 := hlen
    match xs, l3 with
    | [y0, y1, y2], _ =>
    have g0 : DataW.trod enc Tryz.prog w base sp held n 3 (([c0, c1, c2].drop 0).take (Tryz.prog.cellsOf 3)) = [y0, y1, y2][0]? := hg 0 _ rfl
    have g1 : DataW.trod enc Tryz.prog w base sp held n 3 (([c0, c1, c2].drop 1).take (Tryz.prog.cellsOf 3)) = [y0, y1, y2][1]? := hg 1 _ rfl
    have g2 : DataW.trod enc Tryz.prog w base sp held n 5 (([c0, c1, c2].drop 2).take (Tryz.prog.cellsOf 5)) = [y0, y1, y2][2]? := hg 2 _ rfl
    rw [cellsI64] at g0 g1
    rw [cellsI8] at g2
    simp only [Prod.mk.injEq, DataW.agg.injEq, List.map_cons, List.map_nil, List.cons.injEq, and_true] at hx
    obtain ⟨⟨h0, h1, h2⟩, _⟩ := hx
    obtain ⟨d0, q0⟩ := y0
    obtain ⟨d1, q1⟩ := y1
    obtain ⟨d2, q2⟩ := y2
    simp only at h0 h1 h2
    subst h0 h1 h2
    rw [lit_int Tryz.underlying3 g0, lit_int Tryz.underlying3 g1, lit_int Tryz.underlying5 g2]
theorem fil_row {r : Int × Nat} (h : DataW.trod enc Tryz.prog w base sp held fuel 193 cs = some (.agg [.lit (.int .i64 r.1), .lit (.int .u8 r.2)], p)) : cs = [.int .i64 r.1, .int .u8 r.2] := by
  obtain ⟨xs, n, rfl, hx, hl, hlen, hg⟩ := DataW.trod_struct Tryz.underlying193 h
  rw [cellsFi] at hl
  match cs, hl with
  | [c0, c1], _ =>
    have l2 : xs.length = 2 := hlen
    match xs, l2 with
    | [y0, y1], _ =>
    have g0 : DataW.trod enc Tryz.prog w base sp held n 3 (([c0, c1].drop 0).take (Tryz.prog.cellsOf 3)) = [y0, y1][0]? := hg 0 _ rfl
    have g1 : DataW.trod enc Tryz.prog w base sp held n 5 (([c0, c1].drop 1).take (Tryz.prog.cellsOf 5)) = [y0, y1][1]? := hg 1 _ rfl
    rw [cellsI64] at g0
    rw [cellsI8] at g1
    simp only [Prod.mk.injEq, DataW.agg.injEq, List.map_cons, List.map_nil, List.cons.injEq, and_true] at hx
    obtain ⟨⟨h0, h1⟩, _⟩ := hx
    obtain ⟨d0, q0⟩ := y0
    obtain ⟨d1, q1⟩ := y1
    simp only at h0 h1
    subst h0 h1
    rw [lit_int Tryz.underlying3 g0, lit_int Tryz.underlying5 g1]
end
/-- Rows of k cells each, one behind the other. -/
theorem rows_flat {α : Type} (k : Nat) (g : α → List Value) : ∀ (l : List α) (cs : List Value), cs.length = l.length * k → (∀ i (h : i < l.length), (cs.drop (i * k)).take k = g l[i]) → cs = l.flatMap g
  | [], cs, hl, _ => by
    have : cs.length = 0 := by simpa using hl
    simpa using this
  | a :: l, cs, hl, h => by
    have h0 := h 0 (by simp)
    rw [Nat.zero_mul, List.drop_zero] at h0
    have hr := rows_flat k g l (cs.drop k) (by rw [List.length_drop, hl, List.length_cons, Nat.add_mul]; omega) (fun i hi => by
      have := h (i + 1) (by simp; omega)
      rw [List.drop_drop, show k + i * k = (i + 1) * k by rw [Nat.add_mul]; omega]
      simpa using this)
    rw [List.flatMap_cons, ← hr, ← show cs.take k = g a from h0, List.take_append_drop]
theorem opsAt : (Rows.laid_prefect_msg_operations : DataW Unit) = .agg (opTab.map fun r => .agg [.lit (.int .i64 r.1), .lit (.int .i64 r.2.1), .lit (.int .u8 r.2.2)]) := by rfl
theorem filsAt : (Rows.laid_prefect_msg_filters : DataW Unit) = .agg (filTab.map fun r => .agg [.lit (.int .i64 r.1), .lit (.int .u8 r.2)]) := by rfl
/-- What is laid. -/
def laidL : List (String × DataW Unit) := [("errors.errorType", Rows.laid_errors_errorType), ("prefect/msg.operations", Rows.laid_prefect_msg_operations), ("prefect/msg.filters", Rows.laid_prefect_msg_filters)]
theorem rtN : (Tryz.prog.cutTypes.find? (·.1 == "internal/reflectlite.rtype")).map (·.2) = some 151 := by kernel_rfl
theorem etN : Tryz.prog.globalNamed "errors.errorType" = some 0 := by kernel_rfl
theorem opN' : Tryz.prog.globalNamed "prefect/msg.operations" = some 1 := by kernel_rfl
theorem fiN : Tryz.prog.globalNamed "prefect/msg.filters" = some 2 := by kernel_rfl
theorem tySize : Tryz.prog.types.size = Tryz.prog.types.toList.length := by simp
theorem oneRow : ((List.range Tryz.prog.types.size).filter fun t => Tryz.prog.rowNamed t [101, 114, 114, 111, 114]) = [51] := by kernel_rfl
theorem glob_of_laid {W : World} (h : laidMetH Tryz.prog laidL W) : Glob W := by
  have h' : laidMet Tryz.prog [("prefect/msg.operations", Rows.laid_prefect_msg_operations), ("prefect/msg.filters", Rows.laid_prefect_msg_filters)] W ∧ handlesMet Tryz.prog [("errors.errorType", Rows.laid_errors_errorType)] W := h
  suffices hall : W.cell? ⟨0, 0, none⟩ = some (.iface 151 (.agg #[typeHandle Tryz.prog 51])) ∧ W.rangeAt 1 0 opCells ∧ W.rangeAt 2 0 filCells from
    ⟨by have h0 : W.cell? ⟨2, 0, none⟩ = some (.int .i64 1) := hall.2.2 0 _ rfl; have := cell_lt h0; exact this, hall⟩
  refine ⟨?_, ?_, ?_⟩
  · obtain ⟨name, u, ty, e1, e2, e3, e4, e5⟩ := h'.2 _ (List.mem_singleton.2 rfl)
    have en : name = [101, 114, 114, 111, 114] := (Option.some.inj e1).symm
    subst en
    obtain rfl := Option.some.inj (rtN.symm.trans e2)
    have hm : ty ∈ (List.range Tryz.prog.types.size).filter fun t => Tryz.prog.rowNamed t [101, 114, 114, 111, 114] := List.mem_filter.2 ⟨List.mem_range.2 e3, e4⟩
    rw [oneRow] at hm
    obtain rfl := List.mem_singleton.1 hm
    simpa using World.var?_cell etN e5 0
  · obtain ⟨ps, ⟨g, t, cs, fuel, p, q, h1, h2, h3, h4, h5, _⟩, _⟩ := h'.1
    obtain rfl := Option.some.inj (opN'.symm.trans h1)
    have ht : t = 174 := Option.some.inj (h2.symm.trans (by kernel_rfl))
    subst ht
    rw [opsAt] at h4
    obtain ⟨xs, m, rfl, hx, hl, hlen, hg⟩ := DataW.trod_array Tryz.underlying174 h4
    have hxs : xs.map (·.1) = opTab.map fun r => (.agg [.lit (.int .i64 r.1), .lit (.int .i64 r.2.1), .lit (.int .u8 r.2.2)] : DataW Unit) := by
      have := congrArg Prod.fst hx
      simpa using this.symm
    have hflat : cs.toList = opCells := rows_flat 3 _ opTab cs.toList (by rw [hl]; kernel_rfl) (fun i hi => by
      have hi16 : i < 16 := hi
      have h6 := hg i hi16
      rw [cellsOp] at h6
      have h7 : xs[i]? = some (xs[i]'(by omega)) := List.getElem?_eq_getElem (by omega)
      have h8 : (xs.map (·.1))[i]? = some (xs[i]'(by omega)).1 := by rw [List.getElem?_map, h7]; rfl
      rw [hxs, List.getElem?_map, List.getElem?_eq_getElem hi] at h8
      rw [h7] at h6
      generalize xs[i]'(by omega) = y at h6 h8
      obtain ⟨d, q⟩ := y
      have h9 := Option.some.inj h8
      simp only at h9
      subst h9
      exact op_row h6)
    intro j v hv
    rw [Nat.zero_add, World.var?_cell opN' h3 j, ← hv, ← hflat]
    simp
  · obtain ⟨ps, ⟨g0, t0, cs0, fuel0, p0, q0, _, _, _, _, ⟨g, t, cs, fuel, p, q, h1, h2, h3, h4, h5, _⟩, _⟩, _⟩ := h'.1
    obtain rfl := Option.some.inj (fiN.symm.trans h1)
    have ht : t = 194 := Option.some.inj (h2.symm.trans (by kernel_rfl))
    subst ht
    rw [filsAt] at h4
    obtain ⟨xs, m, rfl, hx, hl, hlen, hg⟩ := DataW.trod_array Tryz.underlying194 h4
    have hxs : xs.map (·.1) = filTab.map fun r => (.agg [.lit (.int .i64 r.1), .lit (.int .u8 r.2)] : DataW Unit) := by
      have := congrArg Prod.fst hx
      simpa using this.symm
    have hflat : cs.toList = filCells := rows_flat 2 _ filTab cs.toList (by rw [hl]; kernel_rfl) (fun i hi => by
      have hi8 : i < 8 := hi
      have h6 := hg i hi8
      rw [cellsFi] at h6
      have h7 : xs[i]? = some (xs[i]'(by omega)) := List.getElem?_eq_getElem (by omega)
      have h8 : (xs.map (·.1))[i]? = some (xs[i]'(by omega)).1 := by rw [List.getElem?_map, h7]; rfl
      rw [hxs, List.getElem?_map, List.getElem?_eq_getElem hi] at h8
      rw [h7] at h6
      generalize xs[i]'(by omega) = y at h6 h8
      obtain ⟨d, q⟩ := y
      have h9 := Option.some.inj h8
      simp only at h9
      subst h9
      exact fil_row h6)
    intro j v hv
    rw [Nat.zero_add, World.var?_cell fiN h3 j, ← hv, ← hflat]
    simp
/-- A world in which all is laid. -/
noncomputable def wit (os : Os) : World :=
  let w0 := World.holding Tryz.prog os ⟨#[], #[], []⟩
  let put (h : Array Obj) (g : Nat) (cs : Array Value) : Array Obj := h.modify g fun
    | .cells _ t frozen => .cells cs t frozen
    | o => o
  { w0 with heap := put (put (put w0.heap 0 #[.iface 151 (.agg #[typeHandle Tryz.prog 51])]) 1 opCells.toArray) 2 filCells.toArray }
theorem wit_met (os : Os) (args : Array Value) : laidMetH Tryz.prog laidL ((wit os).forCall (fun _ _ => 0) ⟨#[], args, []⟩).memory :=
  laidMetH_of_parts (laidMet_of_run' 9 (by kernel_rfl) (by kernel_rfl)) (by kernel_rfl)
end Go.Proofs.YtconghaebebncaaGreatDoor.Ms
