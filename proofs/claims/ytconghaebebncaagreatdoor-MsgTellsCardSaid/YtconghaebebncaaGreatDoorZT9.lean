import Derived.Test.YtconghaebebncaaGreatDoorZT7
import Derived.Test.YtconghaebebncaaGreatDoorZT4
import Derived.Deep.MidRow
import Derived.Laws.CopyOwn
import Derived.Laws.ResultCell
import Derived.Test.YtconghaebebncaaGreatDoorZT8
namespace Go.Proofs.YtconghaebebncaaGreatDoor.Ms
open Go.RowKit
set_option linter.unusedVariables false
set_option maxRecDepth 100000
def MoAt (w : World) (P : Nat → Prop) (d : Mo) (cs : List Value) : Prop :=
 ∃ (V : Option Addr) (vc : Nat), cs = [.int .i64 d.kind, .string d.attr, .slice V d.vals.length vc] ∧ d.attr.size ≤ maxLen ∧ d.vals.length ≤ maxLen ∧ d.vals.length ≤ vc ∧ Fi.StrsAt w P V d.vals ∧ ∀ s ∈ d.vals, s.size ≤ maxLen
theorem MoAt.imp {w w' : World} {P P' : Nat → Prop} {d : Mo} {cs : List Value} (h : MoAt w P d cs) (hP : ∀ b, P b → P' b) (hw : ∀ p : Addr, P p.block → w'.cell? p = w.cell? p) : MoAt w' P' d cs := by
 obtain ⟨V, vc, h1, h2, h3, h4, h5, h6⟩ := h
 exact ⟨V, vc, h1, h2, h3, h4, h5.imp hP hw, h6⟩
theorem MoAt.past {w w' : World} {d : Mo} {cs : List Value} (h : MoAt w (· < w.heap.size) d cs) (hb : Below w.heap.size w w') : MoAt w' (· < w'.heap.size) d cs :=
 h.imp (fun _ h => Nat.lt_of_lt_of_le h hb.size) (fun p hp => hb.cell hp)
def MosAt (w : World) (P : Nat → Prop) (A : Option Addr) (ds : List Mo) (cs : Nat → List Value) : Prop :=
 (0 < ds.length → ∃ ad, A = some ad ∧ P ad.block ∧ ∀ i, i < ds.length → ∀ j u, (cs i)[j]? = some u → w.cell? (ad.add (i * 3 + j)) = some u) ∧ ∀ i (h : i < ds.length), MoAt w P ds[i] (cs i)
theorem MosAt.imp {w w' : World} {P P' : Nat → Prop} {A : Option Addr} {ds : List Mo} {cs : Nat → List Value} (h : MosAt w P A ds cs) (hP : ∀ b, P b → P' b) (hw : ∀ p : Addr, P p.block → w'.cell? p = w.cell? p) : MosAt w' P' A ds cs := by
 refine ⟨fun h0 => ?_, fun i hi => (h.2 i hi).imp hP hw⟩
 obtain ⟨ad, e, hp, hc⟩ := h.1 h0
 exact ⟨ad, e, hP _ hp, fun i hi j u hu => (hw _ (by rw [block_of_add]; exact hp)).trans (hc i hi j u hu)⟩
theorem MosAt.past {w w' : World} {A : Option Addr} {ds : List Mo} {cs : Nat → List Value} (h : MosAt w (· < w.heap.size) A ds cs) (hb : Below w.heap.size w w') : MosAt w' (· < w'.heap.size) A ds cs :=
 h.imp (fun _ h => Nat.lt_of_lt_of_le h hb.size) (fun p hp => hb.cell hp)
theorem MosAt.nil (w : World) (P : Nat → Prop) (A : Option Addr) (cs : Nat → List Value) : MosAt w P A [] cs := ⟨fun h => absurd h (by simp), fun i h => absurd h (by simp)⟩
theorem MosAt.kid {w wr : World} {ds : List Mo} {A : Option Addr} {cs : Nat → List Value} (h : MosAt w (· < w.heap.size) A ds cs) (hb : Below w.heap.size w wr) {i : Nat} (hi : i < ds.length) :
  ∃ (ad : Addr) (V : Option Addr) (vc : Nat), A = some ad ∧ ad.block < w.heap.size ∧ wr.cell? (ad.add (i * 3)) = some (.int .i64 ds[i].kind) ∧ wr.cell? ⟨(ad.add (i * 3)).block, (ad.add (i * 3)).off + 1, none⟩ = some (.string ds[i].attr) ∧
   wr.cell? ⟨(ad.add (i * 3)).block, (ad.add (i * 3)).off + 2, none⟩ = some (.slice V ds[i].vals.length vc) ∧ MoAt wr (· < wr.heap.size) ds[i] [.int .i64 ds[i].kind, .string ds[i].attr, .slice V ds[i].vals.length vc] := by
 obtain ⟨hA, hk⟩ := h
 obtain ⟨ad, e, hp, hc⟩ := hA (by omega)
 have hx := hk i hi
 obtain ⟨V, vc, hd, _⟩ := hx
 have hx := hk i hi
 have hcc : ∀ j u, (cs i)[j]? = some u → wr.cell? (ad.add (i * 3 + j)) = some u := fun j u hu => (hb.cell (by rw [block_of_add]; exact hp)).trans (hc i hi j u hu)
 rw [hd] at hcc hx
 have h0 := hcc 0 _ rfl
 have h1 := hcc 1 _ rfl
 have h2 := hcc 2 _ rfl
 rw [Fi.add_next _ _ _ (by omega)] at h1 h2
 exact ⟨ad, V, vc, e, hp, h0, h1, h2, hx.past hb⟩
def MAt (w : World) (P : Nat → Prop) (m : Mg) (cs : Array Value) : Prop :=
 ∃ (x0 x1 x2 x3 x4 : Value) (W : Option Addr) (wc : Nat) (M : Option Addr) (mc : Nat) (ds : Nat → List Value),
  cs = #[.int .i64 m.id, .int .i64 m.op, .int .i64 m.ref, .string m.dn, .int .i64 m.ver, .string m.pass, .int .i64 m.scope, .int .i64 m.size, x0, x1, x2, x3, x4,
   .slice W m.wants.length wc, .slice M m.mods.length mc, .string m.rdn, .bool m.del, .bool m.has, .string m.sup, .string m.attr, .string m.value, .int .i64 m.code, .string m.matched] ∧
  Fi.Lies w P m.fil [x0, x1, x2, x3, x4] ∧
  (Fi.StrsAt w P W m.wants ∧ m.wants.length ≤ maxLen ∧ m.wants.length ≤ wc ∧ ∀ s ∈ m.wants, s.size ≤ maxLen) ∧
  (MosAt w P M m.mods ds ∧ m.mods.length ≤ maxLen ∧ m.mods.length ≤ mc) ∧
  (m.dn.size ≤ maxLen ∧ m.pass.size ≤ maxLen ∧ m.rdn.size ≤ maxLen ∧ m.sup.size ≤ maxLen ∧ m.attr.size ≤ maxLen ∧ m.value.size ≤ maxLen ∧ m.matched.size ≤ maxLen)
theorem MAt.imp {w w' : World} {P P' : Nat → Prop} {m : Mg} {cs : Array Value} (h : MAt w P m cs) (hP : ∀ b, P b → P' b) (hw : ∀ p : Addr, P p.block → w'.cell? p = w.cell? p) : MAt w' P' m cs := by
 obtain ⟨x0, x1, x2, x3, x4, W, wc, M, mc, ds, e, hF, ⟨hW, hW'⟩, ⟨hM, hM'⟩, hT⟩ := h
 exact ⟨x0, x1, x2, x3, x4, W, wc, M, mc, ds, e, hF.imp hP hw, ⟨hW.imp hP hw, hW'⟩, ⟨hM.imp hP hw, hM'⟩, hT⟩
theorem MAt.past {w w' : World} {m : Mg} {cs : Array Value} (h : MAt w (· < w.heap.size) m cs) (hb : Below w.heap.size w w') : MAt w' (· < w'.heap.size) m cs :=
 h.imp (fun _ h => Nat.lt_of_lt_of_le h hb.size) (fun p hp => hb.cell hp)
theorem MAt.old {w : World} {B : Nat} {m : Mg} {cs : Array Value} (h : MAt w (fun b => B ≤ b ∧ b < w.heap.size) m cs) : MAt w (· < w.heap.size) m cs := h.imp (fun _ h => h.2) (fun _ _ => rfl)
section
variable {w : World} {P : Nat → Prop} {m : Mg} {cs : Array Value}
theorem MAt.size (h : MAt w P m cs) : cs.size = 23 := by obtain ⟨_, _, _, _, _, _, _, _, _, _, rfl, _⟩ := h; rfl
theorem MAt.g0 (h : MAt w P m cs) : cs[0]? = some (.int .i64 m.id) := by obtain ⟨_, _, _, _, _, _, _, _, _, _, rfl, _⟩ := h; rfl
theorem MAt.g1 (h : MAt w P m cs) : cs[1]? = some (.int .i64 m.op) := by obtain ⟨_, _, _, _, _, _, _, _, _, _, rfl, _⟩ := h; rfl
theorem MAt.g2 (h : MAt w P m cs) : cs[2]? = some (.int .i64 m.ref) := by obtain ⟨_, _, _, _, _, _, _, _, _, _, rfl, _⟩ := h; rfl
theorem MAt.g3 (h : MAt w P m cs) : cs[3]? = some (.string m.dn) := by obtain ⟨_, _, _, _, _, _, _, _, _, _, rfl, _⟩ := h; rfl
theorem MAt.g4 (h : MAt w P m cs) : cs[4]? = some (.int .i64 m.ver) := by obtain ⟨_, _, _, _, _, _, _, _, _, _, rfl, _⟩ := h; rfl
theorem MAt.g5 (h : MAt w P m cs) : cs[5]? = some (.string m.pass) := by obtain ⟨_, _, _, _, _, _, _, _, _, _, rfl, _⟩ := h; rfl
theorem MAt.g6 (h : MAt w P m cs) : cs[6]? = some (.int .i64 m.scope) := by obtain ⟨_, _, _, _, _, _, _, _, _, _, rfl, _⟩ := h; rfl
theorem MAt.g7 (h : MAt w P m cs) : cs[7]? = some (.int .i64 m.size) := by obtain ⟨_, _, _, _, _, _, _, _, _, _, rfl, _⟩ := h; rfl
theorem MAt.g15 (h : MAt w P m cs) : cs[15]? = some (.string m.rdn) := by obtain ⟨_, _, _, _, _, _, _, _, _, _, rfl, _⟩ := h; rfl
theorem MAt.g16 (h : MAt w P m cs) : cs[16]? = some (.bool m.del) := by obtain ⟨_, _, _, _, _, _, _, _, _, _, rfl, _⟩ := h; rfl
theorem MAt.g17 (h : MAt w P m cs) : cs[17]? = some (.bool m.has) := by obtain ⟨_, _, _, _, _, _, _, _, _, _, rfl, _⟩ := h; rfl
theorem MAt.g18 (h : MAt w P m cs) : cs[18]? = some (.string m.sup) := by obtain ⟨_, _, _, _, _, _, _, _, _, _, rfl, _⟩ := h; rfl
theorem MAt.g19 (h : MAt w P m cs) : cs[19]? = some (.string m.attr) := by obtain ⟨_, _, _, _, _, _, _, _, _, _, rfl, _⟩ := h; rfl
theorem MAt.g20 (h : MAt w P m cs) : cs[20]? = some (.string m.value) := by obtain ⟨_, _, _, _, _, _, _, _, _, _, rfl, _⟩ := h; rfl
theorem MAt.g21 (h : MAt w P m cs) : cs[21]? = some (.int .i64 m.code) := by obtain ⟨_, _, _, _, _, _, _, _, _, _, rfl, _⟩ := h; rfl
theorem MAt.g22 (h : MAt w P m cs) : cs[22]? = some (.string m.matched) := by obtain ⟨_, _, _, _, _, _, _, _, _, _, rfl, _⟩ := h; rfl
theorem MAt.gF (h : MAt w P m cs) : ∃ x0 x1 x2 x3 x4, cs[8]? = some x0 ∧ cs[9]? = some x1 ∧ cs[10]? = some x2 ∧ cs[11]? = some x3 ∧ cs[12]? = some x4 ∧ Fi.Lies w P m.fil [x0, x1, x2, x3, x4] := by
 obtain ⟨_, _, _, _, _, _, _, _, _, _, rfl, hF, _⟩ := h
 exact ⟨_, _, _, _, _, rfl, rfl, rfl, rfl, rfl, hF⟩
theorem MAt.gW (h : MAt w P m cs) : ∃ W wc, cs[13]? = some (.slice W m.wants.length wc) ∧ Fi.StrsAt w P W m.wants ∧ m.wants.length ≤ maxLen ∧ m.wants.length ≤ wc ∧ ∀ s ∈ m.wants, s.size ≤ maxLen := by
 obtain ⟨_, _, _, _, _, _, _, _, _, _, rfl, _, hW, _⟩ := h
 exact ⟨_, _, rfl, hW⟩
theorem MAt.gM (h : MAt w P m cs) : ∃ M mc ds, cs[14]? = some (.slice M m.mods.length mc) ∧ MosAt w P M m.mods ds ∧ m.mods.length ≤ maxLen ∧ m.mods.length ≤ mc := by
 obtain ⟨_, _, _, _, _, _, _, _, _, _, rfl, _, _, hM, _⟩ := h
 exact ⟨_, _, _, rfl, hM⟩
theorem MAt.sizes (h : MAt w P m cs) : m.dn.size ≤ maxLen ∧ m.pass.size ≤ maxLen ∧ m.rdn.size ≤ maxLen ∧ m.sup.size ≤ maxLen ∧ m.attr.size ≤ maxLen ∧ m.value.size ≤ maxLen ∧ m.matched.size ≤ maxLen := by
 obtain ⟨_, _, _, _, _, _, _, _, _, _, _, _, _, _, hT⟩ := h
 exact hT
theorem MAt.one (h : MAt w P m cs) : cs.all (·.oneCell') = true := by
 obtain ⟨x0, x1, x2, x3, x4, _, _, _, _, _, rfl, hF, _⟩ := h
 obtain ⟨k, a, v, S, m, d, A, n, c, hcs⟩ := hF.form
 simp only [List.cons.injEq, and_true] at hcs
 obtain ⟨rfl, rfl, rfl, rfl, rfl⟩ := hcs
 simp [Value.oneCell']
end
theorem infoM : (Tryz.prog.info? 28).map (·.size) = some 23 := by kernel_rfl
theorem infoF5 : (Tryz.prog.info? 25).map (·.size) = some 5 := by kernel_rfl
def Box (w : World) (g : Nat) (m : Mg) (cs : Array Value) : Prop := Blk w g 28 cs ∧ MAt w (· < w.heap.size) m cs
theorem Box.past {w w' : World} {g : Nat} {m : Mg} {cs : Array Value} (h : Box w g m cs) (hb : Below w.heap.size w w') : Box w' g m cs := ⟨h.1.past hb, h.2.past hb⟩
theorem Box.new {w : World} {m : Mg} {cs : Array Value} (h : MAt w (· < w.heap.size) m cs) : Box (w.alloc (.cells cs 28)) w.heap.size m cs :=
 ⟨Blk.new _ _ _, h.past ((Below.refl _ _).alloc (Nat.le_refl _) _)⟩
def loadMsg (v : Value) : Sem Value := Instr.loadAt 28 v
theorem loadAtMsg (v : Value) : Instr.loadAt 28 v = loadMsg v := rfl
theorem Box.load {w : World} {g : Nat} {m : Mg} {cs : Array Value} (h : Box w g m cs) : (loadMsg (.pointer (some ⟨g, 0, none⟩))).run Tryz.prog w = .ok (.agg cs) w := by
 unfold loadMsg
 simp only [Instr.loadAt, Instr.sureAddr, Sem.run_bind, Sem.run_pure, Result.andThen_ok, run_loadVar_row w g _ 28 cs (0, 0) _ h.1 Tryz.underlying28 rfl (by rw [infoM, h.2.size])]
theorem Box.loadF {w : World} {g : Nat} {m : Mg} {cs : Array Value} (h : Box w g m cs) : ∃ x0 x1 x2 x3 x4, Fi.Lies w (· < w.heap.size) m.fil [x0, x1, x2, x3, x4] ∧
  w.cell? ⟨g, 8, none⟩ = some x0 ∧ w.cell? ⟨g, 9, none⟩ = some x1 ∧ w.cell? ⟨g, 10, none⟩ = some x2 ∧ w.cell? ⟨g, 11, none⟩ = some x3 ∧ w.cell? ⟨g, 12, none⟩ = some x4 := by
 obtain ⟨x0, x1, x2, x3, x4, e0, e1, e2, e3, e4, hF⟩ := h.2.gF
 exact ⟨x0, x1, x2, x3, x4, hF, (h.1.cell 8).trans e0, (h.1.cell 9).trans e1, (h.1.cell 10).trans e2, (h.1.cell 11).trans e3, (h.1.cell 12).trans e4⟩
theorem run_loadM {ev : Operand → Value} {o : Oper} {x : Operand} {w : World} {g : Nat} {m : Mg} {cs : Array Value} (ho : o.op = .load 28 x) (hx : ev x = .pointer (some ⟨g, 0, none⟩)) (h : Box w g m cs) :
  (execOp ev o).run Tryz.prog w = .ok (.value (.agg cs)) w := by
 have hl := h.load
 unfold loadMsg at hl
 unfold execOp
 simp only [ho, hx, Sem.run_bind, hl, Result.andThen_ok, Sem.run_pure]
theorem run_cell {P : Program} {ev : Operand → Value} {o : Oper} {x : Operand} {t : TypeId} {p : Addr} {v : Value} {w : World} (ho : o.op = .load t x) (hx : ev x = .pointer (some p)) (hagg : (isAgg t).run P w = .ok false w) (hc : w.cell? p = some v) :
  (execOp ev o).run P w = .ok (.value v) w := by
 unfold execOp
 simp [ho, hx, Instr.loadAt, Instr.sureAddr, loadVar, hagg, hc, Result.andThen]
theorem run_loadF {ev : Operand → Value} {o : Oper} {x : Operand} {w : World} {b k : Nat} {x0 x1 x2 x3 x4 : Value} (ho : o.op = .load 25 x) (hx : ev x = .pointer (some ⟨b, k, none⟩))
  (h0 : w.cell? ⟨b, k, none⟩ = some x0) (h1 : w.cell? ⟨b, k + 1, none⟩ = some x1) (h2 : w.cell? ⟨b, k + 2, none⟩ = some x2) (h3 : w.cell? ⟨b, k + 3, none⟩ = some x3) (h4 : w.cell? ⟨b, k + 4, none⟩ = some x4) :
  (execOp ev o).run Tryz.prog w = .ok (.value (.agg #[x0, x1, x2, x3, x4])) w := by
 have hr : w.rangeAt b k [x0, x1, x2, x3, x4] := by
  intro j v hv
  match j with
  | 0 => injection hv with hv; subst hv; exact h0
  | 1 => injection hv with hv; subst hv; exact h1
  | 2 => injection hv with hv; subst hv; exact h2
  | 3 => injection hv with hv; subst hv; exact h3
  | 4 => injection hv with hv; subst hv; exact h4
  | j + 5 => cases hv
 have hl := run_loadAt_mid w b k 25 _ _ hr Tryz.underlying25 rfl infoF5
 unfold execOp
 simp only [ho, hx, Sem.run_bind, hl, Result.andThen_ok, Sem.run_pure]
end Go.Proofs.YtconghaebebncaaGreatDoor.Ms
namespace Go.Proofs.YtconghaebebncaaGreatDoor.Ms
open Go.RowKit
set_option linter.unusedVariables false
set_option maxRecDepth 100000
theorem within_any (n a b : Int) (w : World) : Calls Tryz.prog 27 #[.int .i64 n, .int .i64 a, .int .i64 b] w fun e w' => e = .returned (.bool (within n a b)) ∧ w = w' := by
 by_cases h1 : a ≤ n
 ·by_cases h2 : n ≤ b
  ·have hr := Lib.hid (show within n a b = true by unfold within; exact decide_eq_true ⟨h1, h2⟩)
   go_enter Tryz.func27, Tryz.ntmps27
   go_wp2_with fail
   go_ret
   exact ⟨ret_bool hr.out.symm, rfl⟩
  ·have hr := Lib.hid (show within n a b = false by unfold within; exact decide_eq_false (fun h => h2 h.2))
   go_enter Tryz.func27, Tryz.ntmps27
   go_wp2_with fail
   go_ret
   exact ⟨ret_bool hr.out.symm, rfl⟩
 ·have hr := Lib.hid (show within n a b = false by unfold within; exact decide_eq_false (fun h => h1 h.1))
  go_enter Tryz.func27, Tryz.ntmps27
  go_wp2_with fail
  go_ret
  exact ⟨ret_bool hr.out.symm, rfl⟩
theorem isLong_any (s : ByteArray) (w : World) (hs : s.size ≤ maxLen) : Calls Tryz.prog 66 #[.string s] w fun e w' => e = .returned (.bool (isLong s)) ∧ w = w' := by
 unfold maxLen at hs
 by_cases h1 : 400 < (s.size : Int)
 ·have hr := Lib.hid (show isLong s = true by unfold isLong; exact decide_eq_true (by omega))
  go_enter Tryz.func66, Tryz.ntmps66
  go_wp2_with fail
  go_ret
  exact ⟨ret_bool hr.out.symm, rfl⟩
 ·have hr := Lib.hid (show isLong s = false by unfold isLong; exact decide_eq_false (by omega))
  have h2 : (s.size : Int) ≤ 400 := by omega
  clear h1
  go_enter Tryz.func66, Tryz.ntmps66
  go_wp2_with fail
  go_ret
  exact ⟨ret_bool (by rw [hr.out]; exact decide_eq_false (by omega)), rfl⟩
theorem any_drop {α : Type} {p : α → Bool} {l : List α} {i : Nat} (h : i < l.length) : (l.drop i).any p = (p l[i] || (l.drop (i + 1)).any p) := by
 rw [List.drop_eq_getElem_cons h, List.any_cons]
set_option maxHeartbeats 1000000 in
theorem indexL_any (A : Option Addr) (c : Nat) (l : List ByteArray) (w : World) (hl : l.length ≤ maxLen) (hs : ∀ s ∈ l, s.size ≤ maxLen) (hA : Fi.StrsAt w (· < w.heap.size) A l) :
  Calls Tryz.prog 87 #[.slice A l.length c, .func (.func 66) #[] #[]] w fun e w' => (∃ i : Int, e = .returned (.int .i64 i) ∧ (decide (0 ≤ i) = l.any isLong)) ∧ w = w' := by
 unfold maxLen at hl
 have HA := Lib.hid hA
 have HS := Lib.hid hs
 clear hA hs
 go_enter Tryz.func87, Tryz.ntmps87
 go_wp2_with fail
 go_loop [8] (fun i => ∃ q : Nat, q ≤ l.length ∧ i = .int .i64 q ∧ Hid (l.any isLong = (l.drop q).any isLong)) (fun i => l.length - (intOf i).toNat)
 case atStart => exact ⟨0, Nat.zero_le _, rfl, rfl⟩
 case round =>
  obtain ⟨q, hq, rfl, hE⟩ := hrel
  by_cases hlt : q < l.length
  ·obtain ⟨ad, rfl, hp, hc⟩ := HA.out (by omega)
   have f0 := hc q hlt
   have hE2 := hE.out
   rw [any_drop hlt] at hE2
   have C := isLong_any l[q] w (HS.out _ (List.getElem_mem hlt))
   generalize l[q] = s at f0 hE2 C
   generalize isLong s = b at hE2 C
   have HE := Lib.hid hE2
   have HC := Lib.hid C
   clear hE hE2 hc C
   cases b
   ·go_wp2_with fail
    refine HC.out.mono ?_
    rintro e w1 ⟨rfl, rfl⟩
    go_wp2_with fail
    go_round
    case rel => exact ⟨q + 1, by omega, by go_num, HE.out⟩
    case measure => simp [intOf]; omega
   ·go_wp2_with fail
    refine HC.out.mono ?_
    rintro e w1 ⟨rfl, rfl⟩
    go_wp2_with fail
    go_ret
    refine ⟨⟨_, rfl, ?_⟩, rfl⟩
    rw [HE.out, decide_eq_true (by omega)]; rfl
  ·have hE2 := hE.out
   rw [List.drop_eq_nil_of_le (by omega), List.any_nil] at hE2
   have HE := Lib.hid hE2
   clear hE hE2
   go_wp2_with fail
   go_ret
   refine ⟨⟨_, rfl, ?_⟩, rfl⟩
   rw [HE.out]; rfl
set_option maxHeartbeats 400000 in
theorem longs_any (A : Option Addr) (c : Nat) (l : List ByteArray) (w : World) (hl : l.length ≤ maxLen) (hs : ∀ s ∈ l, s.size ≤ maxLen) (hA : Fi.StrsAt w (· < w.heap.size) A l) :
  Calls Tryz.prog 65 #[.slice A l.length c, .func (.func 66) #[] #[]] w fun e w' => e = .returned (.bool (l.any isLong)) ∧ w = w' := by
 have HI := Lib.hid (indexL_any A c l w hl hs hA)
 clear hl hs hA
 go_enter Tryz.func65, Tryz.ntmps65
 go_wp2_with fail
 refine HI.out.mono ?_
 rintro e w1 ⟨⟨i, rfl, hi⟩, rfl⟩
 have HE := Lib.hid hi
 clear hi
 go_wp2_with fail
 go_ret
 exact ⟨ret_bool HE.out, rfl⟩
set_option maxHeartbeats 400000 in
theorem areShort_any (A : Option Addr) (c : Nat) (l : List ByteArray) (w : World) (hl : l.length ≤ maxLen) (hs : ∀ s ∈ l, s.size ≤ maxLen) (hA : Fi.StrsAt w (· < w.heap.size) A l) :
  Calls Tryz.prog 30 #[.slice A l.length c] w fun e w' => e = .returned (.bool (areShort l)) ∧ w = w' := by
 have HI := Lib.hid (longs_any A c l w hl hs hA)
 clear hl hs hA
 go_enter Tryz.func30, Tryz.ntmps30
 go_wp2_with fail
 refine HI.out.mono ?_
 rintro e w1 ⟨rfl, rfl⟩
 go_wp2_with fail
 go_ret
 exact ⟨rfl, rfl⟩
set_option maxHeartbeats 400000 in
theorem isList_any (A : Option Addr) (c : Nat) (l : List ByteArray) (w : World) (hl : l.length ≤ maxLen) (hs : ∀ s ∈ l, s.size ≤ maxLen) (hA : Fi.StrsAt w (· < w.heap.size) A l) :
  Calls Tryz.prog 61 #[.slice A l.length c] w fun e w' => e = .returned (.bool (isList l)) ∧ w = w' := by
 have HI := Lib.hid (areShort_any A c l w hl hs hA)
 clear hs hA
 unfold maxLen at hl
 by_cases h1 : (l.length : Int) ≤ 12
 ·have hr := Lib.hid (show isList l = areShort l by unfold isList; rw [decide_eq_true (by omega)]; rfl)
  go_enter Tryz.func61, Tryz.ntmps61
  go_wp2_with fail
  refine HI.out.mono ?_
  rintro e w1 ⟨rfl, rfl⟩
  go_wp2_with fail
  go_ret
  exact ⟨ret_bool hr.out.symm, rfl⟩
 ·have hr := Lib.hid (show isList l = false by unfold isList; rw [decide_eq_false (by omega)]; rfl)
  have h2 : 12 < (l.length : Int) := by omega
  clear h1
  go_enter Tryz.func61, Tryz.ntmps61
  go_wp2_with fail
  go_ret
  exact ⟨ret_bool hr.out.symm, rfl⟩
set_option maxHeartbeats 400000 in
theorem takes_any (d : Mo) (V : Option Addr) (vc : Nat) (w : World) :
  Calls Tryz.prog 63 #[.agg #[.int .i64 d.kind, .string d.attr, .slice V d.vals.length vc]] w fun e w' => e = .returned (.bool (takes d)) ∧ Below w.heap.size w w' := by
 have hr := Lib.hid (show (d.kind != 1) = takes d by unfold takes; rw [Bool.eq_iff_iff]; simp)
 go_enter Tryz.func63, Tryz.ntmps63
 go_wp2_with fail
 go_ret
 exact ⟨ret_bool hr.out, (Below.refl _ _).alloc (Nat.le_refl _) _⟩
set_option maxHeartbeats 1000000 in
theorem noMod_any (d : Mo) (V : Option Addr) (vc : Nat) (w : World) (h : MoAt w (· < w.heap.size) d [.int .i64 d.kind, .string d.attr, .slice V d.vals.length vc]) :
  Calls Tryz.prog 64 #[.agg #[.int .i64 d.kind, .string d.attr, .slice V d.vals.length vc]] w fun e w' => e = .returned (.bool (noMod d)) ∧ Below w.heap.size w w' := by
 have hb0 := (Below.refl w.heap.size w).alloc (Nat.le_refl _) (.cells #[.int .i64 d.kind, .string d.attr, .slice V d.vals.length vc] 48)
 have h' := h.past hb0
 obtain ⟨V', vc', e, h2, h3, h4, h5, h6⟩ := h'
 simp only [List.cons.injEq, Value.slice.injEq, true_and, and_true] at e
 obtain ⟨rfl, rfl⟩ := e
 have HW := Lib.hid (within_any d.kind 1 3 (w.alloc (.cells #[.int .i64 d.kind, .string d.attr, .slice V d.vals.length vc] 48)))
 have HL := Lib.hid (isLong_any d.attr (w.alloc (.cells #[.int .i64 d.kind, .string d.attr, .slice V d.vals.length vc] 48)) h2)
 have HV := Lib.hid (isList_any V vc d.vals (w.alloc (.cells #[.int .i64 d.kind, .string d.attr, .slice V d.vals.length vc] 48)) h3 h6 h5)
 have hn : noMod d = (!within d.kind 1 3 || (isLong d.attr || !isList d.vals)) := rfl
 generalize within d.kind 1 3 = a at HW hn
 generalize isLong d.attr = b at HL hn
 generalize isList d.vals = c at HV hn
 have HN := Lib.hid hn
 clear h h2 h3 h4 h5 h6 hn
 go_enter Tryz.func64, Tryz.ntmps64
 go_wp2_with fail
 refine HW.out.mono ?_
 rintro e w1 ⟨rfl, rfl⟩
 cases a
 ·go_wp2_with fail
  go_ret
  exact ⟨ret_bool HN.out.symm, hb0⟩
 go_wp2_with fail
 refine HL.out.mono ?_
 rintro e w1 ⟨rfl, rfl⟩
 cases b
 ·go_wp2_with fail
  refine HV.out.mono ?_
  rintro e w1 ⟨rfl, rfl⟩
  go_wp2_with fail
  go_ret
  exact ⟨ret_bool HN.out.symm, hb0⟩
 ·go_wp2_with fail
  go_ret
  exact ⟨ret_bool HN.out.symm, hb0⟩
def IndexPost (b : Bool) (w : World) (e : Ending) (w' : World) : Prop := (∃ i : Int, e = .returned (.int .i64 i) ∧ (decide (0 ≤ i) = b)) ∧ Below w.heap.size w w'
set_option maxHeartbeats 2000000 in
theorem indexT_any
  (A : Option Addr) (c : Nat) (l : List Mo) (cs : Nat → List Value) (w : World) (hl : l.length ≤ maxLen) (hA : MosAt w (· < w.heap.size) A l cs) :
  Calls Tryz.prog 86 #[.slice A l.length c, .func (.func 63) #[] #[]] w (IndexPost (l.any takes) w) := by
 unfold maxLen at hl
 have HF := Lib.hid (fun (d : Mo) (V : Option Addr) (vc : Nat) (w : World) (_ : MoAt w (· < w.heap.size) d [.int .i64 d.kind, .string d.attr, .slice V d.vals.length vc]) => takes_any d V vc w)
 go_enter Tryz.func86, Tryz.ntmps86
 go_wp2_with fail
 go_loopw [8] (fun i wr => ∃ q : Nat, q ≤ l.length ∧ i = .int .i64 q ∧ Hid (l.any takes = (l.drop q).any takes) ∧ Below w.heap.size w wr) (fun i wr => l.length - (intOf i).toNat)
 case atStart => exact ⟨0, Nat.zero_le _, rfl, rfl, Below.refl _ _⟩
 case round =>
  obtain ⟨q, hq, rfl, hE, hb⟩ := hrel
  have hs := hb.size
  by_cases hlt : q < l.length
  ·obtain ⟨ad, V, vc, rfl, hp, f0, f1, f2, hM⟩ := hA.kid hb hlt
   have hE2 := hE.out
   rw [any_drop hlt] at hE2
   have C := HF.out l[q] V vc wr hM
   generalize l[q] = d at f0 f1 f2 hE2 C hM
   generalize takes d = b at hE2 C
   have HE := Lib.hid hE2
   have HC := Lib.hid C
   clear hE hE2 C hM
   cases b
   ·go_wp2_with fail
    refine HC.out.mono ?_
    rintro e w1 ⟨rfl, hb1⟩
    go_wp2_with fail
    refine ⟨⟨q + 1, by omega, by go_num, HE.out, hb.trans (hb1.mono hs)⟩, by simp [intOf]; omega⟩
   ·go_wp2_with fail
    refine HC.out.mono ?_
    rintro e w1 ⟨rfl, hb1⟩
    go_wp2_with fail
    go_ret
    refine ⟨⟨_, rfl, ?_⟩, hb.trans (hb1.mono hs)⟩
    rw [HE.out, decide_eq_true (by omega)]; rfl
  ·have hE2 := hE.out
   rw [List.drop_eq_nil_of_le (by omega), List.any_nil] at hE2
   have HE := Lib.hid hE2
   clear hE hE2
   go_wp2_with fail
   go_ret
   refine ⟨⟨_, rfl, ?_⟩, hb⟩
   rw [HE.out]; rfl
set_option maxHeartbeats 400000 in
theorem containsT_any
  (A : Option Addr) (c : Nat) (l : List Mo) (cs : Nat → List Value) (w : World) (hl : l.length ≤ maxLen) (hA : MosAt w (· < w.heap.size) A l cs) :
  Calls Tryz.prog 62 #[.slice A l.length c, .func (.func 63) #[] #[]] w fun e w' => e = .returned (.bool (l.any takes)) ∧ Below w.heap.size w w' := by
 have HI := Lib.hid (indexT_any A c l cs w hl hA)
 clear hl hA
 go_enter Tryz.func62, Tryz.ntmps62
 go_wp2_with fail
 refine HI.out.mono ?_
 rintro e w1 ⟨⟨i, rfl, hi⟩, hb⟩
 have HE := Lib.hid hi
 clear hi
 go_wp2_with fail
 go_ret
 exact ⟨ret_bool HE.out, hb⟩
set_option maxHeartbeats 2000000 in
theorem indexN_any
  (A : Option Addr) (c : Nat) (l : List Mo) (cs : Nat → List Value) (w : World) (hl : l.length ≤ maxLen) (hA : MosAt w (· < w.heap.size) A l cs) :
  Calls Tryz.prog 86 #[.slice A l.length c, .func (.func 64) #[] #[]] w (IndexPost (l.any noMod) w) := by
 unfold maxLen at hl
 have HF := Lib.hid (fun (d : Mo) (V : Option Addr) (vc : Nat) (w : World) (h : MoAt w (· < w.heap.size) d [.int .i64 d.kind, .string d.attr, .slice V d.vals.length vc]) => noMod_any (d : Mo) (V : Option Addr) (vc : Nat) (w : World) (h : MoAt w (· < w.heap.size) d [.int .i64 d.kind, .string d.attr, .slice V d.vals.length vc]))
 go_enter Tryz.func86, Tryz.ntmps86
 go_wp2_with fail
 go_loopw [8] (fun i wr => ∃ q : Nat, q ≤ l.length ∧ i = .int .i64 q ∧ Hid (l.any noMod = (l.drop q).any noMod) ∧ Below w.heap.size w wr) (fun i wr => l.length - (intOf i).toNat)
 case atStart => exact ⟨0, Nat.zero_le _, rfl, rfl, Below.refl _ _⟩
 case round =>
  obtain ⟨q, hq, rfl, hE, hb⟩ := hrel
  have hs := hb.size
  by_cases hlt : q < l.length
  ·obtain ⟨ad, V, vc, rfl, hp, f0, f1, f2, hM⟩ := hA.kid hb hlt
   have hE2 := hE.out
   rw [any_drop hlt] at hE2
   have C := HF.out l[q] V vc wr hM
   generalize l[q] = d at f0 f1 f2 hE2 C hM
   generalize noMod d = b at hE2 C
   have HE := Lib.hid hE2
   have HC := Lib.hid C
   clear hE hE2 C hM
   cases b
   ·go_wp2_with fail
    refine HC.out.mono ?_
    rintro e w1 ⟨rfl, hb1⟩
    go_wp2_with fail
    refine ⟨⟨q + 1, by omega, by go_num, HE.out, hb.trans (hb1.mono hs)⟩, by simp [intOf]; omega⟩
   ·go_wp2_with fail
    refine HC.out.mono ?_
    rintro e w1 ⟨rfl, hb1⟩
    go_wp2_with fail
    go_ret
    refine ⟨⟨_, rfl, ?_⟩, hb.trans (hb1.mono hs)⟩
    rw [HE.out, decide_eq_true (by omega)]; rfl
  ·have hE2 := hE.out
   rw [List.drop_eq_nil_of_le (by omega), List.any_nil] at hE2
   have HE := Lib.hid hE2
   clear hE hE2
   go_wp2_with fail
   go_ret
   refine ⟨⟨_, rfl, ?_⟩, hb⟩
   rw [HE.out]; rfl
set_option maxHeartbeats 400000 in
theorem containsN_any
  (A : Option Addr) (c : Nat) (l : List Mo) (cs : Nat → List Value) (w : World) (hl : l.length ≤ maxLen) (hA : MosAt w (· < w.heap.size) A l cs) :
  Calls Tryz.prog 62 #[.slice A l.length c, .func (.func 64) #[] #[]] w fun e w' => e = .returned (.bool (l.any noMod)) ∧ Below w.heap.size w w' := by
 have HI := Lib.hid (indexN_any A c l cs w hl hA)
 clear hl hA
 go_enter Tryz.func62, Tryz.ntmps62
 go_wp2_with fail
 refine HI.out.mono ?_
 rintro e w1 ⟨⟨i, rfl, hi⟩, hb⟩
 have HE := Lib.hid hi
 clear hi
 go_wp2_with fail
 go_ret
 exact ⟨ret_bool HE.out, hb⟩
end Go.Proofs.YtconghaebebncaaGreatDoor.Ms
