import Derived.Test.YtconghaebebncaaGreatDoorZR7
import Derived.Deep.MidRow
import Derived.Laws.CopyOwn
import Derived.Laws.ResultCell
set_option linter.unusedVariables false
set_option maxRecDepth 100000
namespace Go.Proofs.YtconghaebebncaaGreatDoor.Ms
open Go.RowKit
def MoAt (w : World) (P : Nat → Prop) (d : Mo) (cs : List Value) : Prop :=
 ∃ (V : Option Addr) (vc : Nat), cs = [.int .i64 d.kind, .string d.attr, .slice V d.vals.length vc] ∧ d.attr.size ≤ maxLen ∧ d.vals.length ≤ maxLen ∧ d.vals.length ≤ vc ∧ Fi.StrsAt w P V d.vals ∧ ∀ s ∈ d.vals, s.size ≤ maxLen
theorem MoAt.imp {w w' : World} {P P' : Nat → Prop} {d : Mo} {cs : List Value} (h : MoAt w P d cs) (hP : ∀ b, P b → P' b) (hw : ∀ p : Addr, P p.block → w'.cell? p = w.cell? p) : MoAt w' P' d cs:=by
 obtain ⟨V, vc, h1, h2, h3, h4, h5, h6⟩:=h
 exact ⟨V, vc, h1, h2, h3, h4, h5.imp hP hw, h6⟩
theorem MoAt.past {w w' : World} {d : Mo} {cs : List Value} (h : MoAt w (· < w.heap.size) d cs) (hb : Below w.heap.size w w') : MoAt w' (· < w'.heap.size) d cs :=
 h.imp (fun _ h=>Nat.lt_of_lt_of_le h hb.size) (fun p hp=>hb.cell hp)
def MosAt (w : World) (P : Nat → Prop) (A : Option Addr) (ds : List Mo) (cs : Nat → List Value) : Prop :=
 (0 < ds.length → ∃ ad, A = some ad ∧ P ad.block ∧ ∀ i, i < ds.length → ∀ j u, (cs i)[j]? = some u → w.cell? (ad.add (i * 3 + j)) = some u) ∧ ∀ i (h : i < ds.length), MoAt w P ds[i] (cs i)
theorem MosAt.imp {w w' : World} {P P' : Nat → Prop} {A : Option Addr} {ds : List Mo} {cs : Nat → List Value} (h : MosAt w P A ds cs) (hP : ∀ b, P b → P' b) (hw : ∀ p : Addr, P p.block → w'.cell? p = w.cell? p) : MosAt w' P' A ds cs:=by
 refine ⟨fun h0=>?_, fun i hi=>(h.2 i hi).imp hP hw⟩
 obtain ⟨ad, e, hp, hc⟩:=h.1 h0
 exact ⟨ad, e, hP _ hp, fun i hi j u hu=>(hw _ (by rw [block_of_add]; exact hp)).trans (hc i hi j u hu)⟩
theorem MosAt.past {w w' : World} {A : Option Addr} {ds : List Mo} {cs : Nat → List Value} (h : MosAt w (· < w.heap.size) A ds cs) (hb : Below w.heap.size w w') : MosAt w' (· < w'.heap.size) A ds cs :=
 h.imp (fun _ h=>Nat.lt_of_lt_of_le h hb.size) (fun p hp=>hb.cell hp)
theorem MosAt.nil (w : World) (P : Nat → Prop) (A : Option Addr) (cs : Nat → List Value) : MosAt w P A [] cs:=⟨fun h=>absurd h (by simp), fun i h=>absurd h (by simp)⟩
theorem MosAt.kid {w wr : World} {ds : List Mo} {A : Option Addr} {cs : Nat → List Value} (h : MosAt w (· < w.heap.size) A ds cs) (hb : Below w.heap.size w wr) {i : Nat} (hi : i < ds.length) :
  ∃ (ad : Addr) (V : Option Addr) (vc : Nat), A = some ad ∧ ad.block < w.heap.size ∧ wr.cell? (ad.add (i * 3)) = some (.int .i64 ds[i].kind) ∧ wr.cell? ⟨(ad.add (i * 3)).block, (ad.add (i * 3)).off + 1, none⟩ = some (.string ds[i].attr) ∧
   wr.cell? ⟨(ad.add (i * 3)).block, (ad.add (i * 3)).off + 2, none⟩ = some (.slice V ds[i].vals.length vc) ∧ MoAt wr (· < wr.heap.size) ds[i] [.int .i64 ds[i].kind, .string ds[i].attr, .slice V ds[i].vals.length vc]:=by
 obtain ⟨hA, hk⟩:=h
 obtain ⟨ad, e, hp, hc⟩:=hA (by omega)
 have hx:=hk i hi
 obtain ⟨V, vc, hd, _⟩:=hx
 have hx:=hk i hi
 have hcc : ∀ j u, (cs i)[j]? = some u → wr.cell? (ad.add (i * 3 + j)) = some u:=fun j u hu=>(hb.cell (by rw [block_of_add]; exact hp)).trans (hc i hi j u hu)
 rw [hd] at hcc hx
 have h0:=hcc 0 _ rfl
 have h1:=hcc 1 _ rfl
 have h2:=hcc 2 _ rfl
 rw [Fi.add_next _ _ _ (by omega)] at h1 h2
 exact ⟨ad, V, vc, e, hp, h0, h1, h2, hx.past hb⟩
def MAt (w : World) (P : Nat → Prop) (m : Mg) (cs : Array Value) : Prop :=
 ∃ (x0 x1 x2 x3 x4 : Value) (W : Option Addr) (wc : Nat) (M : Option Addr) (mc : Nat) (ds : Nat → List Value),
  cs = #[.int .i64 m.id, .int .i64 m.op, .int .i64 m.ref, .string m.dn, .int .i64 m.ver, .string m.pass, .int .i64 m.scope, .int .i64 m.size, x0, x1, x2, x3, x4,
   .slice W m.wants.length wc, .slice M m.mods.length mc, .string m.rdn, .bool m.del, .bool m.has, .string m.sup, .string m.attr, .string m.value, .int .i64 m.code, .string m.matched] ∧
  Fi.Lies w P m.fil [x0, x1, x2, x3, x4] ∧
  (Fi.StrsAt w P W m.wants ∧ m.wants.length ≤ maxLen ∧ m.wants.length ≤ wc ∧ ∀ s ∈ m.wants, s.size ≤ maxLen) ∧
  (MosAt w P M m.mods ds ∧ m.mods.length ≤ maxLen ∧ m.mods.length ≤ mc) ∧
  (m.dn.size ≤ maxLen ∧ m.pass.size ≤ maxLen ∧ m.rdn.size ≤ maxLen ∧ m.sup.size ≤ maxLen ∧ m.attr.size ≤ maxLen ∧ m.value.size ≤ maxLen ∧ m.matched.size ≤ maxLen)
theorem MAt.imp {w w' : World} {P P' : Nat → Prop} {m : Mg} {cs : Array Value} (h : MAt w P m cs) (hP : ∀ b, P b → P' b) (hw : ∀ p : Addr, P p.block → w'.cell? p = w.cell? p) : MAt w' P' m cs:=by
 obtain ⟨x0, x1, x2, x3, x4, W, wc, M, mc, ds, e, hF, ⟨hW, hW'⟩, ⟨hM, hM'⟩, hT⟩:=h
 exact ⟨x0, x1, x2, x3, x4, W, wc, M, mc, ds, e, hF.imp hP hw, ⟨hW.imp hP hw, hW'⟩, ⟨hM.imp hP hw, hM'⟩, hT⟩
theorem MAt.past {w w' : World} {m : Mg} {cs : Array Value} (h : MAt w (· < w.heap.size) m cs) (hb : Below w.heap.size w w') : MAt w' (· < w'.heap.size) m cs :=
 h.imp (fun _ h=>Nat.lt_of_lt_of_le h hb.size) (fun p hp=>hb.cell hp)
theorem MAt.old {w : World} {B : Nat} {m : Mg} {cs : Array Value} (h : MAt w (fun b=>B ≤ b ∧ b < w.heap.size) m cs) : MAt w (· < w.heap.size) m cs:=h.imp (fun _ h=>h.2) (fun _ _=>rfl)
section
variable {w : World} {P : Nat → Prop} {m : Mg} {cs : Array Value}
theorem MAt.size (h : MAt w P m cs) : cs.size = 23:=by obtain ⟨_, _, _, _, _, _, _, _, _, _, rfl, _⟩:=h; rfl
theorem MAt.g0 (h : MAt w P m cs) : cs[0]? = some (.int .i64 m.id):=by obtain ⟨_, _, _, _, _, _, _, _, _, _, rfl, _⟩:=h; rfl
theorem MAt.g1 (h : MAt w P m cs) : cs[1]? = some (.int .i64 m.op):=by obtain ⟨_, _, _, _, _, _, _, _, _, _, rfl, _⟩:=h; rfl
theorem MAt.g2 (h : MAt w P m cs) : cs[2]? = some (.int .i64 m.ref):=by obtain ⟨_, _, _, _, _, _, _, _, _, _, rfl, _⟩:=h; rfl
theorem MAt.g3 (h : MAt w P m cs) : cs[3]? = some (.string m.dn):=by obtain ⟨_, _, _, _, _, _, _, _, _, _, rfl, _⟩:=h; rfl
theorem MAt.g4 (h : MAt w P m cs) : cs[4]? = some (.int .i64 m.ver):=by obtain ⟨_, _, _, _, _, _, _, _, _, _, rfl, _⟩:=h; rfl
theorem MAt.g5 (h : MAt w P m cs) : cs[5]? = some (.string m.pass):=by obtain ⟨_, _, _, _, _, _, _, _, _, _, rfl, _⟩:=h; rfl
theorem MAt.g6 (h : MAt w P m cs) : cs[6]? = some (.int .i64 m.scope):=by obtain ⟨_, _, _, _, _, _, _, _, _, _, rfl, _⟩:=h; rfl
theorem MAt.g7 (h : MAt w P m cs) : cs[7]? = some (.int .i64 m.size):=by obtain ⟨_, _, _, _, _, _, _, _, _, _, rfl, _⟩:=h; rfl
theorem MAt.g15 (h : MAt w P m cs) : cs[15]? = some (.string m.rdn):=by obtain ⟨_, _, _, _, _, _, _, _, _, _, rfl, _⟩:=h; rfl
theorem MAt.g16 (h : MAt w P m cs) : cs[16]? = some (.bool m.del):=by obtain ⟨_, _, _, _, _, _, _, _, _, _, rfl, _⟩:=h; rfl
theorem MAt.g17 (h : MAt w P m cs) : cs[17]? = some (.bool m.has):=by obtain ⟨_, _, _, _, _, _, _, _, _, _, rfl, _⟩:=h; rfl
theorem MAt.g18 (h : MAt w P m cs) : cs[18]? = some (.string m.sup):=by obtain ⟨_, _, _, _, _, _, _, _, _, _, rfl, _⟩:=h; rfl
theorem MAt.g19 (h : MAt w P m cs) : cs[19]? = some (.string m.attr):=by obtain ⟨_, _, _, _, _, _, _, _, _, _, rfl, _⟩:=h; rfl
theorem MAt.g20 (h : MAt w P m cs) : cs[20]? = some (.string m.value):=by obtain ⟨_, _, _, _, _, _, _, _, _, _, rfl, _⟩:=h; rfl
theorem MAt.g21 (h : MAt w P m cs) : cs[21]? = some (.int .i64 m.code):=by obtain ⟨_, _, _, _, _, _, _, _, _, _, rfl, _⟩:=h; rfl
theorem MAt.g22 (h : MAt w P m cs) : cs[22]? = some (.string m.matched):=by obtain ⟨_, _, _, _, _, _, _, _, _, _, rfl, _⟩:=h; rfl
theorem MAt.gF (h : MAt w P m cs) : ∃ x0 x1 x2 x3 x4, cs[8]? = some x0 ∧ cs[9]? = some x1 ∧ cs[10]? = some x2 ∧ cs[11]? = some x3 ∧ cs[12]? = some x4 ∧ Fi.Lies w P m.fil [x0, x1, x2, x3, x4]:=by
 obtain ⟨_, _, _, _, _, _, _, _, _, _, rfl, hF, _⟩:=h
 exact ⟨_, _, _, _, _, rfl, rfl, rfl, rfl, rfl, hF⟩
theorem MAt.gW (h : MAt w P m cs) : ∃ W wc, cs[13]? = some (.slice W m.wants.length wc) ∧ Fi.StrsAt w P W m.wants ∧ m.wants.length ≤ maxLen ∧ m.wants.length ≤ wc ∧ ∀ s ∈ m.wants, s.size ≤ maxLen:=by
 obtain ⟨_, _, _, _, _, _, _, _, _, _, rfl, _, hW, _⟩:=h
 exact ⟨_, _, rfl, hW⟩
theorem MAt.gM (h : MAt w P m cs) : ∃ M mc ds, cs[14]? = some (.slice M m.mods.length mc) ∧ MosAt w P M m.mods ds ∧ m.mods.length ≤ maxLen ∧ m.mods.length ≤ mc:=by
 obtain ⟨_, _, _, _, _, _, _, _, _, _, rfl, _, _, hM, _⟩:=h
 exact ⟨_, _, _, rfl, hM⟩
theorem MAt.sizes (h : MAt w P m cs) : m.dn.size ≤ maxLen ∧ m.pass.size ≤ maxLen ∧ m.rdn.size ≤ maxLen ∧ m.sup.size ≤ maxLen ∧ m.attr.size ≤ maxLen ∧ m.value.size ≤ maxLen ∧ m.matched.size ≤ maxLen:=by
 obtain ⟨_, _, _, _, _, _, _, _, _, _, _, _, _, _, hT⟩:=h
 exact hT
theorem MAt.one (h : MAt w P m cs) : cs.all (·.oneCell') = true:=by
 obtain ⟨x0, x1, x2, x3, x4, _, _, _, _, _, rfl, hF, _⟩:=h
 obtain ⟨k, a, v, S, m, d, A, n, c, hcs⟩:=hF.form
 simp only [List.cons.injEq, and_true] at hcs
 obtain ⟨rfl, rfl, rfl, rfl, rfl⟩:=hcs
 simp [Value.oneCell']
end
theorem infoM : (Tryz.prog.info? 28).map (·.size) = some 23:=by kernel_rfl
theorem infoF5 : (Tryz.prog.info? 25).map (·.size) = some 5:=by kernel_rfl
def Box (w : World) (g : Nat) (m : Mg) (cs : Array Value) : Prop:=Blk w g 28 cs ∧ MAt w (· < w.heap.size) m cs
theorem Box.past {w w' : World} {g : Nat} {m : Mg} {cs : Array Value} (h : Box w g m cs) (hb : Below w.heap.size w w') : Box w' g m cs:=⟨h.1.past hb, h.2.past hb⟩
theorem Box.new {w : World} {m : Mg} {cs : Array Value} (h : MAt w (· < w.heap.size) m cs) : Box (w.alloc (.cells cs 28)) w.heap.size m cs :=
 ⟨Blk.new _ _ _, h.past ((Below.refl _ _).alloc (Nat.le_refl _) _)⟩
def loadMsg (v : Value) : Sem Value:=Instr.loadAt 28 v
theorem loadAtMsg (v : Value) : Instr.loadAt 28 v = loadMsg v:=rfl
theorem Box.load {w : World} {g : Nat} {m : Mg} {cs : Array Value} (h : Box w g m cs) : (loadMsg (.pointer (some ⟨g, 0, none⟩))).run Tryz.prog w = .ok (.agg cs) w:=by
 unfold loadMsg
 simp only [Instr.loadAt, Instr.sureAddr, Sem.run_bind, Sem.run_pure, Result.andThen_ok, run_loadVar_row w g _ 28 cs (0, 0) _ h.1 Tryz.underlying28 rfl (by rw [infoM, h.2.size])]
theorem Box.loadF {w : World} {g : Nat} {m : Mg} {cs : Array Value} (h : Box w g m cs) : ∃ x0 x1 x2 x3 x4, Fi.Lies w (· < w.heap.size) m.fil [x0, x1, x2, x3, x4] ∧
  w.cell? ⟨g, 8, none⟩ = some x0 ∧ w.cell? ⟨g, 9, none⟩ = some x1 ∧ w.cell? ⟨g, 10, none⟩ = some x2 ∧ w.cell? ⟨g, 11, none⟩ = some x3 ∧ w.cell? ⟨g, 12, none⟩ = some x4:=by
 obtain ⟨x0, x1, x2, x3, x4, e0, e1, e2, e3, e4, hF⟩:=h.2.gF
 exact ⟨x0, x1, x2, x3, x4, hF, (h.1.cell 8).trans e0, (h.1.cell 9).trans e1, (h.1.cell 10).trans e2, (h.1.cell 11).trans e3, (h.1.cell 12).trans e4⟩
theorem run_loadM {ev : Operand → Value} {o : Oper} {x : Operand} {w : World} {g : Nat} {m : Mg} {cs : Array Value} (ho : o.op = .load 28 x) (hx : ev x = .pointer (some ⟨g, 0, none⟩)) (h : Box w g m cs) :
  (execOp ev o).run Tryz.prog w = .ok (.value (.agg cs)) w:=by
 have hl:=h.load
 unfold loadMsg at hl
 unfold execOp
 simp only [ho, hx, Sem.run_bind, hl, Result.andThen_ok, Sem.run_pure]
theorem run_cell {P : Program} {ev : Operand → Value} {o : Oper} {x : Operand} {t : TypeId} {p : Addr} {v : Value} {w : World} (ho : o.op = .load t x) (hx : ev x = .pointer (some p)) (hagg : (isAgg t).run P w = .ok false w) (hc : w.cell? p = some v) :
  (execOp ev o).run P w = .ok (.value v) w:=by
 unfold execOp
 simp [ho, hx, Instr.loadAt, Instr.sureAddr, loadVar, hagg, hc, Result.andThen]
theorem run_loadF {ev : Operand → Value} {o : Oper} {x : Operand} {w : World} {b k : Nat} {x0 x1 x2 x3 x4 : Value} (ho : o.op = .load 25 x) (hx : ev x = .pointer (some ⟨b, k, none⟩))
  (h0 : w.cell? ⟨b, k, none⟩ = some x0) (h1 : w.cell? ⟨b, k + 1, none⟩ = some x1) (h2 : w.cell? ⟨b, k + 2, none⟩ = some x2) (h3 : w.cell? ⟨b, k + 3, none⟩ = some x3) (h4 : w.cell? ⟨b, k + 4, none⟩ = some x4) :
  (execOp ev o).run Tryz.prog w = .ok (.value (.agg #[x0, x1, x2, x3, x4])) w:=by
 have hr : w.rangeAt b k [x0, x1, x2, x3, x4]:=by
  intro j v hv
  match j with
  | 0=>injection hv with hv; subst hv; exact h0
  | 1=>injection hv with hv; subst hv; exact h1
  | 2=>injection hv with hv; subst hv; exact h2
  | 3=>injection hv with hv; subst hv; exact h3
  | 4=>injection hv with hv; subst hv; exact h4
  | j + 5=>cases hv
 have hl:=run_loadAt_mid w b k 25 _ _ hr Tryz.underlying25 rfl infoF5
 unfold execOp
 simp only [ho, hx, Sem.run_bind, hl, Result.andThen_ok, Sem.run_pure]
end Go.Proofs.YtconghaebebncaaGreatDoor.Ms
namespace Go.Proofs.YtconghaebebncaaGreatDoor.Ms
open Go.ChangeShapes Go.WideShapes Go.RowKit Go.Deep
theorem cellsM : Tryz.prog.cellsOf 28 = 23:=by kernel_rfl
theorem cellsMo : Tryz.prog.cellsOf 48 = 3:=by kernel_rfl
theorem cellsB : Tryz.prog.cellsOf 4 = 1:=by kernel_rfl
theorem cellsMs : Tryz.prog.cellsOf 26 = 1:=by kernel_rfl
section
variable {H : Type} {enc : TypeId × Value → H} {w : World} {base : Nat} {spare : Nat → Bool} {held : Bool} {fuel : Nat} {cs : List Value} {x : DataW H × List MemPlace}
theorem mod_of_trod (h : DataW.trod enc Tryz.prog w base spare held fuel 48 cs = some x) : ∃ d : Mo, MoAt w (· < w.heap.size) d cs:=by
 obtain ⟨xs, n, rfl, _, hl, hlen, hg⟩:=DataW.trod_struct Tryz.underlying48 h
 rw [cellsMo] at hl
 match cs, hl with
 | [c0, c1, c2], _ =>
  have g0:=hg 0 _ rfl
  have g1:=hg 1 _ rfl
  have g2:=hg 2 _ rfl
  have l3 : xs.length = 3:=hlen
  match xs, l3 with
  | [y0, y1, y2], _ =>
  have g0' : DataW.trod enc Tryz.prog w base spare held n 3 [c0] = some y0:=by simpa [Fi.cellsI] using g0
  have g1' : DataW.trod enc Tryz.prog w base spare held n 9 [c1] = some y1:=by simpa [Fi.cellsSt] using g1
  have g2' : DataW.trod enc Tryz.prog w base spare held n 22 [c2] = some y2:=by simpa [Fi.cellsSs] using g2
  obtain ⟨a, ha, _, _⟩:=DataW.trod_int Tryz.underlying3 g0'
  obtain ⟨s, hs, _, hsz⟩:=DataW.trod_string Tryz.underlying9 g1'
  obtain ⟨ss, S, sc, hss, hsc, hsl, hsz2, hsa⟩:=Fi.strs_of_trod g2'
  simp only [List.cons.injEq, and_true] at ha hs hss
  subst ha hs hss
  exact ⟨⟨a, s, ss⟩, S, sc, rfl, hsz, hsl, hsc, hsa, hsz2⟩
theorem mods_of_trod (h : DataW.trod enc Tryz.prog w base spare held fuel 26 cs = some x) :
  ∃ (l : List Mo) (M : Option Addr) (c : Nat) (dd : Nat → List Value), cs = [.slice M l.length c] ∧ l.length ≤ c ∧ l.length ≤ maxLen ∧ MosAt w (· < w.heap.size) M l dd:=by
 rcases DataW.trod_slice Tryz.underlying26 h with ⟨hc, _⟩ | ⟨ad, len, cap, elems, rest, m, hm, hc, _, _, hlc, hcm, hel, hev, _, _⟩
 ·exact ⟨[], none, 0, fun _=>[], hc, Nat.le_refl _, Nat.zero_le _, MosAt.nil _ _ _ _⟩
 ·have one : ∀ i, i < len → ∃ (q : Mo × List Value), q.2.length = 3 ∧ (∀ j u, q.2[j]? = some u → w.cell? (ad.add (i * 3 + j)) = some u) ∧ MoAt w (· < w.heap.size) q.1 q.2:=by
   intro i hi
   have h1:=hev i hi
   rw [cellsMo] at h1
   have h2 : elems[i]? = some (elems[i]'(by omega)):=List.getElem?_eq_getElem (by omega)
   rw [h2, Option.bind_eq_some_iff] at h1
   obtain ⟨cs', hcs', hof⟩:=h1
   obtain ⟨_, hl', hcell⟩:=World.cells?_some hcs'
   obtain ⟨d, hd⟩:=mod_of_trod hof
   refine ⟨(d, cs'), hl', fun j u hu=>?_, hd⟩
   have hj : j < 3:=by
    have h9 : j < cs'.length:=(List.getElem?_eq_some_iff.1 hu).1
    omega
   have:=hcell j hj
   rw [Go.Deep.add_add] at this
   rw [this]
   exact hu
  have : Inhabited (Mo × List Value):=⟨(⟨0, ⟨#[]⟩, []⟩, [])⟩
  obtain ⟨q, hq⟩:=choose_lt one
  have hkl : ((List.range len).map fun i=>(q i).1).length = len:=by simp
  refine ⟨(List.range len).map fun i=>(q i).1, some ad, cap, fun i=>(q i).2, by rw [hkl]; exact hc, by rw [hkl]; exact hlc, by rw [hkl]; omega, fun h0=>⟨ad, rfl, ?_, fun i hi=>?_⟩, fun i hi=>?_⟩
  ·have h0' : 0 < len:=by rw [hkl] at h0; exact h0
   have hz:=hq 0 h0'
   have hl0 : (q 0).2.length = 3:=hz.1
   have:=hz.2.1 0 ((q 0).2[0]'(by omega)) (List.getElem?_eq_getElem (by omega))
   have hb:=cell_lt this
   rwa [block_of_add] at hb
  ·exact (hq i (by rw [hkl] at hi; exact hi)).2.1
  ·have hi' : i < len:=by rw [hkl] at hi; exact hi
   have:=(hq i hi').2.2
   simpa using this
set_option maxHeartbeats 4000000 in
theorem msg_of_trod (h : DataW.trod enc Tryz.prog w base spare held fuel 28 cs = some x) : ∃ m : Mg, MAt w (· < w.heap.size) m cs.toArray:=by
 obtain ⟨xs, n, rfl, _, hl, hlen, hg⟩:=DataW.trod_struct Tryz.underlying28 h
 rw [cellsM] at hl
 match cs, hl with
 | [c0, c1, c2, c3, c4, c5, c6, c7, c8, c9, c10, c11, c12, c13, c14, c15, c16, c17, c18, c19, c20, c21, c22], _ =>
  have g0:=hg 0 _ rfl
  have g1:=hg 1 _ rfl
  have g2:=hg 2 _ rfl
  have g3:=hg 3 _ rfl
  have g4:=hg 4 _ rfl
  have g5:=hg 5 _ rfl
  have g6:=hg 6 _ rfl
  have g7:=hg 7 _ rfl
  have g8:=hg 8 _ rfl
  have g9:=hg 9 _ rfl
  have g10:=hg 10 _ rfl
  have g11:=hg 11 _ rfl
  have g12:=hg 12 _ rfl
  have g13:=hg 13 _ rfl
  have g14:=hg 14 _ rfl
  have g15:=hg 15 _ rfl
  have g16:=hg 16 _ rfl
  have g17:=hg 17 _ rfl
  have g18:=hg 18 _ rfl
  have l19 : xs.length = 19:=hlen
  match xs, l19 with
  | [y0, y1, y2, y3, y4, y5, y6, y7, y8, y9, y10, y11, y12, y13, y14, y15, y16, y17, y18], _ =>
  have g0' : DataW.trod enc Tryz.prog w base spare held n 3 [c0] = some y0:=by
   have h9 : DataW.trod enc Tryz.prog w base spare held n 3 (([c0, c1, c2, c3, c4, c5, c6, c7, c8, c9, c10, c11, c12, c13, c14, c15, c16, c17, c18, c19, c20, c21, c22].drop 0).take (Tryz.prog.cellsOf 3)) = [y0, y1, y2, y3, y4, y5, y6, y7, y8, y9, y10, y11, y12, y13, y14, y15, y16, y17, y18][0]?:=g0
   rw [Fi.cellsI] at h9
   exact h9
  have g1' : DataW.trod enc Tryz.prog w base spare held n 3 [c1] = some y1:=by
   have h9 : DataW.trod enc Tryz.prog w base spare held n 3 (([c0, c1, c2, c3, c4, c5, c6, c7, c8, c9, c10, c11, c12, c13, c14, c15, c16, c17, c18, c19, c20, c21, c22].drop 1).take (Tryz.prog.cellsOf 3)) = [y0, y1, y2, y3, y4, y5, y6, y7, y8, y9, y10, y11, y12, y13, y14, y15, y16, y17, y18][1]?:=g1
   rw [Fi.cellsI] at h9
   exact h9
  have g2' : DataW.trod enc Tryz.prog w base spare held n 3 [c2] = some y2:=by
   have h9 : DataW.trod enc Tryz.prog w base spare held n 3 (([c0, c1, c2, c3, c4, c5, c6, c7, c8, c9, c10, c11, c12, c13, c14, c15, c16, c17, c18, c19, c20, c21, c22].drop 2).take (Tryz.prog.cellsOf 3)) = [y0, y1, y2, y3, y4, y5, y6, y7, y8, y9, y10, y11, y12, y13, y14, y15, y16, y17, y18][2]?:=g2
   rw [Fi.cellsI] at h9
   exact h9
  have g3' : DataW.trod enc Tryz.prog w base spare held n 9 [c3] = some y3:=by
   have h9 : DataW.trod enc Tryz.prog w base spare held n 9 (([c0, c1, c2, c3, c4, c5, c6, c7, c8, c9, c10, c11, c12, c13, c14, c15, c16, c17, c18, c19, c20, c21, c22].drop 3).take (Tryz.prog.cellsOf 9)) = [y0, y1, y2, y3, y4, y5, y6, y7, y8, y9, y10, y11, y12, y13, y14, y15, y16, y17, y18][3]?:=g3
   rw [Fi.cellsSt] at h9
   exact h9
  have g4' : DataW.trod enc Tryz.prog w base spare held n 3 [c4] = some y4:=by
   have h9 : DataW.trod enc Tryz.prog w base spare held n 3 (([c0, c1, c2, c3, c4, c5, c6, c7, c8, c9, c10, c11, c12, c13, c14, c15, c16, c17, c18, c19, c20, c21, c22].drop 4).take (Tryz.prog.cellsOf 3)) = [y0, y1, y2, y3, y4, y5, y6, y7, y8, y9, y10, y11, y12, y13, y14, y15, y16, y17, y18][4]?:=g4
   rw [Fi.cellsI] at h9
   exact h9
  have g5' : DataW.trod enc Tryz.prog w base spare held n 9 [c5] = some y5:=by
   have h9 : DataW.trod enc Tryz.prog w base spare held n 9 (([c0, c1, c2, c3, c4, c5, c6, c7, c8, c9, c10, c11, c12, c13, c14, c15, c16, c17, c18, c19, c20, c21, c22].drop 5).take (Tryz.prog.cellsOf 9)) = [y0, y1, y2, y3, y4, y5, y6, y7, y8, y9, y10, y11, y12, y13, y14, y15, y16, y17, y18][5]?:=g5
   rw [Fi.cellsSt] at h9
   exact h9
  have g6' : DataW.trod enc Tryz.prog w base spare held n 3 [c6] = some y6:=by
   have h9 : DataW.trod enc Tryz.prog w base spare held n 3 (([c0, c1, c2, c3, c4, c5, c6, c7, c8, c9, c10, c11, c12, c13, c14, c15, c16, c17, c18, c19, c20, c21, c22].drop 6).take (Tryz.prog.cellsOf 3)) = [y0, y1, y2, y3, y4, y5, y6, y7, y8, y9, y10, y11, y12, y13, y14, y15, y16, y17, y18][6]?:=g6
   rw [Fi.cellsI] at h9
   exact h9
  have g7' : DataW.trod enc Tryz.prog w base spare held n 3 [c7] = some y7:=by
   have h9 : DataW.trod enc Tryz.prog w base spare held n 3 (([c0, c1, c2, c3, c4, c5, c6, c7, c8, c9, c10, c11, c12, c13, c14, c15, c16, c17, c18, c19, c20, c21, c22].drop 7).take (Tryz.prog.cellsOf 3)) = [y0, y1, y2, y3, y4, y5, y6, y7, y8, y9, y10, y11, y12, y13, y14, y15, y16, y17, y18][7]?:=g7
   rw [Fi.cellsI] at h9
   exact h9
  have g8' : DataW.trod enc Tryz.prog w base spare held n 25 [c8, c9, c10, c11, c12] = some y8:=by
   have h9 : DataW.trod enc Tryz.prog w base spare held n 25 (([c0, c1, c2, c3, c4, c5, c6, c7, c8, c9, c10, c11, c12, c13, c14, c15, c16, c17, c18, c19, c20, c21, c22].drop 8).take (Tryz.prog.cellsOf 25)) = [y0, y1, y2, y3, y4, y5, y6, y7, y8, y9, y10, y11, y12, y13, y14, y15, y16, y17, y18][8]?:=g8
   rw [Fi.cellsF] at h9
   exact h9
  have g9' : DataW.trod enc Tryz.prog w base spare held n 22 [c13] = some y9:=by
   have h9 : DataW.trod enc Tryz.prog w base spare held n 22 (([c0, c1, c2, c3, c4, c5, c6, c7, c8, c9, c10, c11, c12, c13, c14, c15, c16, c17, c18, c19, c20, c21, c22].drop 13).take (Tryz.prog.cellsOf 22)) = [y0, y1, y2, y3, y4, y5, y6, y7, y8, y9, y10, y11, y12, y13, y14, y15, y16, y17, y18][9]?:=g9
   rw [Fi.cellsSs] at h9
   exact h9
  have g10' : DataW.trod enc Tryz.prog w base spare held n 26 [c14] = some y10:=by
   have h9 : DataW.trod enc Tryz.prog w base spare held n 26 (([c0, c1, c2, c3, c4, c5, c6, c7, c8, c9, c10, c11, c12, c13, c14, c15, c16, c17, c18, c19, c20, c21, c22].drop 14).take (Tryz.prog.cellsOf 26)) = [y0, y1, y2, y3, y4, y5, y6, y7, y8, y9, y10, y11, y12, y13, y14, y15, y16, y17, y18][10]?:=g10
   rw [cellsMs] at h9
   exact h9
  have g11' : DataW.trod enc Tryz.prog w base spare held n 9 [c15] = some y11:=by
   have h9 : DataW.trod enc Tryz.prog w base spare held n 9 (([c0, c1, c2, c3, c4, c5, c6, c7, c8, c9, c10, c11, c12, c13, c14, c15, c16, c17, c18, c19, c20, c21, c22].drop 15).take (Tryz.prog.cellsOf 9)) = [y0, y1, y2, y3, y4, y5, y6, y7, y8, y9, y10, y11, y12, y13, y14, y15, y16, y17, y18][11]?:=g11
   rw [Fi.cellsSt] at h9
   exact h9
  have g12' : DataW.trod enc Tryz.prog w base spare held n 4 [c16] = some y12:=by
   have h9 : DataW.trod enc Tryz.prog w base spare held n 4 (([c0, c1, c2, c3, c4, c5, c6, c7, c8, c9, c10, c11, c12, c13, c14, c15, c16, c17, c18, c19, c20, c21, c22].drop 16).take (Tryz.prog.cellsOf 4)) = [y0, y1, y2, y3, y4, y5, y6, y7, y8, y9, y10, y11, y12, y13, y14, y15, y16, y17, y18][12]?:=g12
   rw [cellsB] at h9
   exact h9
  have g13' : DataW.trod enc Tryz.prog w base spare held n 4 [c17] = some y13:=by
   have h9 : DataW.trod enc Tryz.prog w base spare held n 4 (([c0, c1, c2, c3, c4, c5, c6, c7, c8, c9, c10, c11, c12, c13, c14, c15, c16, c17, c18, c19, c20, c21, c22].drop 17).take (Tryz.prog.cellsOf 4)) = [y0, y1, y2, y3, y4, y5, y6, y7, y8, y9, y10, y11, y12, y13, y14, y15, y16, y17, y18][13]?:=g13
   rw [cellsB] at h9
   exact h9
  have g14' : DataW.trod enc Tryz.prog w base spare held n 9 [c18] = some y14:=by
   have h9 : DataW.trod enc Tryz.prog w base spare held n 9 (([c0, c1, c2, c3, c4, c5, c6, c7, c8, c9, c10, c11, c12, c13, c14, c15, c16, c17, c18, c19, c20, c21, c22].drop 18).take (Tryz.prog.cellsOf 9)) = [y0, y1, y2, y3, y4, y5, y6, y7, y8, y9, y10, y11, y12, y13, y14, y15, y16, y17, y18][14]?:=g14
   rw [Fi.cellsSt] at h9
   exact h9
  have g15' : DataW.trod enc Tryz.prog w base spare held n 9 [c19] = some y15:=by
   have h9 : DataW.trod enc Tryz.prog w base spare held n 9 (([c0, c1, c2, c3, c4, c5, c6, c7, c8, c9, c10, c11, c12, c13, c14, c15, c16, c17, c18, c19, c20, c21, c22].drop 19).take (Tryz.prog.cellsOf 9)) = [y0, y1, y2, y3, y4, y5, y6, y7, y8, y9, y10, y11, y12, y13, y14, y15, y16, y17, y18][15]?:=g15
   rw [Fi.cellsSt] at h9
   exact h9
  have g16' : DataW.trod enc Tryz.prog w base spare held n 9 [c20] = some y16:=by
   have h9 : DataW.trod enc Tryz.prog w base spare held n 9 (([c0, c1, c2, c3, c4, c5, c6, c7, c8, c9, c10, c11, c12, c13, c14, c15, c16, c17, c18, c19, c20, c21, c22].drop 20).take (Tryz.prog.cellsOf 9)) = [y0, y1, y2, y3, y4, y5, y6, y7, y8, y9, y10, y11, y12, y13, y14, y15, y16, y17, y18][16]?:=g16
   rw [Fi.cellsSt] at h9
   exact h9
  have g17' : DataW.trod enc Tryz.prog w base spare held n 3 [c21] = some y17:=by
   have h9 : DataW.trod enc Tryz.prog w base spare held n 3 (([c0, c1, c2, c3, c4, c5, c6, c7, c8, c9, c10, c11, c12, c13, c14, c15, c16, c17, c18, c19, c20, c21, c22].drop 21).take (Tryz.prog.cellsOf 3)) = [y0, y1, y2, y3, y4, y5, y6, y7, y8, y9, y10, y11, y12, y13, y14, y15, y16, y17, y18][17]?:=g17
   rw [Fi.cellsI] at h9
   exact h9
  have g18' : DataW.trod enc Tryz.prog w base spare held n 9 [c22] = some y18:=by
   have h9 : DataW.trod enc Tryz.prog w base spare held n 9 (([c0, c1, c2, c3, c4, c5, c6, c7, c8, c9, c10, c11, c12, c13, c14, c15, c16, c17, c18, c19, c20, c21, c22].drop 22).take (Tryz.prog.cellsOf 9)) = [y0, y1, y2, y3, y4, y5, y6, y7, y8, y9, y10, y11, y12, y13, y14, y15, y16, y17, y18][18]?:=g18
   rw [Fi.cellsSt] at h9
   exact h9
  obtain ⟨a0, e0, _, _⟩:=DataW.trod_int Tryz.underlying3 g0'
  obtain ⟨a1, e1, _, _⟩:=DataW.trod_int Tryz.underlying3 g1'
  obtain ⟨a2, e2, _, _⟩:=DataW.trod_int Tryz.underlying3 g2'
  obtain ⟨a3, e3, _, z3⟩:=DataW.trod_string Tryz.underlying9 g3'
  obtain ⟨a4, e4, _, _⟩:=DataW.trod_int Tryz.underlying3 g4'
  obtain ⟨a5, e5, _, z5⟩:=DataW.trod_string Tryz.underlying9 g5'
  obtain ⟨a6, e6, _, _⟩:=DataW.trod_int Tryz.underlying3 g6'
  obtain ⟨a7, e7, _, _⟩:=DataW.trod_int Tryz.underlying3 g7'
  obtain ⟨f, hF⟩:=Fi.fil_of_trod n n (Nat.le_refl _) _ _ g8'
  obtain ⟨W, WA, wc, e9, hW1, hW2, hW3, hW4⟩:=Fi.strs_of_trod g9'
  obtain ⟨M, MA, mc, dd, e10, hM1, hM2, hM3⟩:=mods_of_trod g10'
  obtain ⟨a11, e11, _, z11⟩:=DataW.trod_string Tryz.underlying9 g11'
  obtain ⟨a12, e12, _⟩:=DataW.trod_bool Tryz.underlying4 g12'
  obtain ⟨a13, e13, _⟩:=DataW.trod_bool Tryz.underlying4 g13'
  obtain ⟨a14, e14, _, z14⟩:=DataW.trod_string Tryz.underlying9 g14'
  obtain ⟨a15, e15, _, z15⟩:=DataW.trod_string Tryz.underlying9 g15'
  obtain ⟨a16, e16, _, z16⟩:=DataW.trod_string Tryz.underlying9 g16'
  obtain ⟨a17, e17, _, _⟩:=DataW.trod_int Tryz.underlying3 g17'
  obtain ⟨a18, e18, _, z18⟩:=DataW.trod_string Tryz.underlying9 g18'
  simp only [List.cons.injEq, and_true] at e0 e1 e2 e3 e4 e5 e6 e7 e9 e10 e11 e12 e13 e14 e15 e16 e17 e18
  subst e0 e1 e2 e3 e4 e5 e6 e7 e9 e10 e11 e12 e13 e14 e15 e16 e17 e18
  exact ⟨⟨a0, a1, a2, a3, a4, a5, a6, a7, f, W, M, a11, a12, a13, a14, a15, a16, a17, a18⟩, c8, c9, c10, c11, c12, WA, wc, MA, mc, dd, rfl, hF, ⟨hW4, hW2, hW1, hW3⟩, ⟨hM3, hM2, hM1⟩, z3, z5, z11, z14, z15, z16, z18⟩
end
theorem open_msg {H : Type} {enc : TypeId × Value → H} {w : World} {base : Nat} {spare : Nat → Bool} {held : Bool} {r : Reach} {b0 : Nat} {v : Value} {d : DataW H} {p : List MemPlace}
  (hv : Value.okWide Tryz.prog w r b0 28 v) (h : DataW.Trod enc Tryz.prog w base spare held 28 v d p) :
  ∃ (m : Mg) (cs : Array Value), v = .agg cs ∧ MAt w (· < w.heap.size) m cs:=by
 obtain ⟨cs, rfl, hsz⟩:=okWide_struct Tryz.underlying28 hv
 obtain ⟨fuel, hf⟩:=h
 obtain ⟨m, hm⟩:=msg_of_trod hf
 exact ⟨m, cs, rfl, hm⟩
end Go.Proofs.YtconghaebebncaaGreatDoor.Ms
