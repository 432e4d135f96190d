import Derived.Test.YtbdpkfgllnbheaaGreatDoorZQ9
import Derived.Deep.MidRow
import Derived.Laws.CopyOwn
import Derived.Laws.ResultCell
import Derived.OpenShut
set_option linter.unusedVariables false
set_option maxRecDepth 100000
namespace Go.Proofs.YtbdpkfgllnbheaaGreatDoor
open Go.RowKit
theorem infoA : (Tryz.prog.info? 41).map (fun i=>(i.zero, i.size, i.bytes)) = some (some (.agg #[.string ⟨#[]⟩, .string ⟨#[]⟩]), 2, 32):=by kernel_rfl
theorem infoR : (Tryz.prog.info? 25).map (fun i=>(i.zero, i.size, i.bytes)) = some (some (.slice none 0 0), 1, 24):=by kernel_rfl
def avaCells (r : List Nm.Ava) : List Value:=r.flatMap fun a=>[.string a.1, .string a.2]
theorem avaCells_app (r q : List Nm.Ava) : avaCells (r ++ q) = avaCells r ++ avaCells q:=by simp [avaCells]
theorem avaCells_at (r : List Nm.Ava) (i : Nat) (h : i < r.length) : (avaCells r)[i * 2]? = some (.string r[i].1) ∧ (avaCells r)[i * 2 + 1]? = some (.string r[i].2):=by
 induction r generalizing i with
 | nil=>simp at h
 | cons a r ih =>
  have e : avaCells (a :: r) = [Value.string a.1, .string a.2] ++ avaCells r:=rfl
  cases i with
  | zero=>exact ⟨rfl, rfl⟩
  | succ i =>
   obtain ⟨h1, h2⟩:=ih i (by simpa using h)
   rw [e, show (i + 1) * 2 = 2 + i * 2 by omega, List.getElem?_append_right (by simp), List.getElem?_append_right (by simp; omega)]
   simp only [List.length_cons, List.length_nil, List.getElem_cons_succ]
   rw [show 2 + i * 2 - (0 + 1 + 1) = i * 2 by omega, show 2 + i * 2 + 1 - (0 + 1 + 1) = i * 2 + 1 by omega]
   exact ⟨h1, h2⟩
def OwnA (w : World) (base : Nat) (v : Value) (r : List Nm.Ava) : Prop:=w.ownsRow base 41 2 v r.length (avaCells r)
theorem OwnA.past {w w' : World} {base : Nat} {v : Value} {r : List Nm.Ava} (h : OwnA w base v r) (hb : Below w.heap.size w w') : OwnA w' base v r:=own_past h hb
theorem OwnA.nil (w : World) (base : Nat) : OwnA w base (.slice none 0 0) []:=World.ownsRow_nil w base _ 2
theorem OwnA.alloc {w : World} {base : Nat} {v : Value} {r : List Nm.Ava} (h : OwnA w base v r) (o : Obj) : OwnA (w.alloc o) base v r:=h.past ((Below.refl _ _).alloc (Nat.le_refl _) o)
theorem OwnA.rdn {w : World} {base : Nat} {v : Value} {r : List Nm.Ava} (h : OwnA w base v r) : ∃ A c, v = .slice A r.length c ∧ r.length ≤ c ∧ RAt w (fun b=>base ≤ b ∧ b < w.heap.size) A r:=by
 have h9:=h
 rcases h.2 with ⟨rfl, h0⟩ | ⟨g, cap, cur, rfl, hg, hh, hc, hm, hs, ht⟩
 ·refine ⟨none, 0, by rw [h0], by omega, fun h1=>by omega⟩
 ·refine ⟨_, _, rfl, hc, fun h1=>⟨⟨g, 0, none⟩, rfl, ⟨hg, ?_⟩, fun i hi=>?_⟩⟩
  ·rcases Nat.lt_or_ge g w.heap.size with h' | h'
   ·exact h'
   ·simp [Array.getElem?_eq_none h'] at hh
  ·obtain ⟨e1, e2⟩:=avaCells_at r i hi
   rw [Addr.add_lit, Addr.add_lit, Nat.zero_add, Nat.zero_add]
   exact ⟨own_cell h9 _ _ e1, own_cell h9 _ _ e2⟩
theorem wpList_pushA {w : World} {ops : Array Oper} {rest : List Oper} {o : Oper} {a : Act} {Q : Exit → Act → World → Prop} (hgd : o.guard = none) (sl x : Operand)
  (ho : o.op = .call { callee:=.builtin .append, args:=#[sl, x], argTypes:=#[25, 25] })
  (base : Nat) (v : Value) (r : List Nm.Ava) (hs : a.eval sl = v) (hown : OwnA w base v r) (g : Nat) (p q : ByteArray) (hx : a.eval x = .slice (some ⟨g, 0, none⟩) 1 1)
  (hB : Blk w g 41 #[.string p, .string q]) (hl : r.length ≤ 1099511627776) (hbase : base ≤ w.heap.size)
  (h : ∀ v' w', OwnA w' base v' (r ++ [(p, q)]) → Below base w w' → w.grownBy w' v.ownBlock → wpList Tryz.prog ops Q rest (a.put o.dst v') w') : wpList Tryz.prog ops Q (o :: rest) a w:=by
 obtain ⟨i0, hi, hz0, hz1, hz2⟩:=infoP infoA
 refine wpList_append_own w hgd sl x 25 ho base 41 i0 (.agg #[.string ⟨#[]⟩, .string ⟨#[]⟩]) 2 32 Tryz.underlying25 hi hz0 hz1 hz2 rfl (by decide) v r.length _ hs hown ⟨g, 0, none⟩ 1 1 [.string p, .string q] hx rfl (fun j u hj=>?_) (fun u hu=>?_) (by unfold maxLen; omega) (by omega) hbase (fun v' w' hown' hgr _=>h v' w' ?_ ?_ hgr)
 ·rw [Addr.add_lit, Nat.zero_add, hB.cell j]
  simpa using hj
 ·simp at hu
  rcases hu with rfl | rfl <;> rfl
 ·unfold OwnA
  rw [List.length_append, avaCells_app]
  exact hown'
 ·exact (Below.refl _ _).grown hgr hbase (fun k hk=>(hown.lt k hk).1)
def OwnD (w : World) (base : Nat) (v : Value) (d : List (List Nm.Ava)) : Prop :=
 ∃ cs : List Value, w.ownsRow base 25 1 v d.length cs ∧ ∀ i (h : i < d.length), ∃ A c, cs[i]? = some (.slice A d[i].length c) ∧ d[i].length ≤ c ∧ RAt w (fun b=>base ≤ b ∧ b < w.heap.size ∧ v.ownBlock ≠ some b) A d[i]
theorem OwnD.nil (w : World) (base : Nat) : OwnD w base (.slice none 0 0) []:=⟨[], World.ownsRow_nil w base _ 1, fun i h=>absurd h (by simp)⟩
theorem OwnD.past {w w' : World} {base : Nat} {v : Value} {d : List (List Nm.Ava)} (h : OwnD w base v d) (hb : Below w.heap.size w w') : OwnD w' base v d:=by
 obtain ⟨cs, h1, h2⟩:=h
 refine ⟨cs, own_past h1 hb, fun i hi=>?_⟩
 obtain ⟨A, c, h3, h4, h5⟩:=h2 i hi
 exact ⟨A, c, h3, h4, h5.imp (fun b hb'=>⟨hb'.1, Nat.lt_of_lt_of_le hb'.2.1 hb.size, hb'.2.2⟩) (fun p hp=>hb.cell hp.2.1)⟩
theorem OwnD.alloc {w : World} {base : Nat} {v : Value} {d : List (List Nm.Ava)} (h : OwnD w base v d) (o : Obj) : OwnD (w.alloc o) base v d:=h.past ((Below.refl _ _).alloc (Nat.le_refl _) o)
theorem OwnD.lt {w : World} {base : Nat} {v : Value} {d : List (List Nm.Ava)} (h : OwnD w base v d) : ∀ g, v.ownBlock = some g → base ≤ g ∧ g < w.heap.size:=by
 obtain ⟨cs, h1, _⟩:=h
 exact fun g hg=>h1.lt g hg
theorem OwnD.form3 {w : World} {base : Nat} {v : Value} {d : List (List Nm.Ava)} (h : OwnD w base v d) : ∃ A c, v = .slice A d.length c:=by
 obtain ⟨cs, h1, _⟩:=h
 rcases h1.2 with ⟨rfl, h0⟩ | ⟨g, cap, cur, rfl, _⟩
 ·exact ⟨none, 0, by rw [h0]⟩
 ·exact ⟨_, _, rfl⟩
theorem OwnD.dn {w : World} {base : Nat} {v : Value} {d : List (List Nm.Ava)} (h : OwnD w base v d) : ∃ A c, v = .slice A d.length c ∧ d.length ≤ c ∧ DAt w (fun b=>base ≤ b ∧ b < w.heap.size) A d:=by
 obtain ⟨cs, h1, h2⟩:=h
 have h9:=h1
 rcases h1.2 with ⟨rfl, h0⟩ | ⟨g, cap, cur, rfl, hg, hh, hc, hm, hs, ht⟩
 ·refine ⟨none, 0, by rw [h0], by omega, fun h1=>by omega⟩
 ·refine ⟨_, _, rfl, hc, fun h1=>⟨⟨g, 0, none⟩, rfl, ⟨hg, ?_⟩, fun i hi=>?_⟩⟩
  ·rcases Nat.lt_or_ge g w.heap.size with h' | h'
   ·exact h'
   ·simp [Array.getElem?_eq_none h'] at hh
  ·obtain ⟨A, c, e1, e2, e3⟩:=h2 i hi
   refine ⟨A, c, ?_, e2, e3.imp (fun b hb=>⟨hb.1, hb.2.1⟩) (fun _ _=>rfl)⟩
   rw [Addr.add_lit, Nat.zero_add]
   exact own_cell h9 _ _ e1
theorem wpList_pushD {w : World} {ops : Array Oper} {rest : List Oper} {o : Oper} {a : Act} {Q : Exit → Act → World → Prop} (hgd : o.guard = none) (sl x : Operand)
  (ho : o.op = .call { callee:=.builtin .append, args:=#[sl, x], argTypes:=#[128, 128] })
  (base : Nat) (v : Value) (d : List (List Nm.Ava)) (hs : a.eval sl = v) (hown : OwnD w base v d) (g : Nat) (A : Option Addr) (r : List Nm.Ava) (n c : Nat) (hx : a.eval x = .slice (some ⟨g, 0, none⟩) 1 1)
  (hB : Blk w g 25 #[.slice A n c]) (hn : n = r.length) (hc : r.length ≤ c) (hR : RAt w (fun b=>base ≤ b ∧ b < w.heap.size ∧ v.ownBlock ≠ some b) A r) (hl : d.length ≤ 1099511627776) (hbase : base ≤ w.heap.size)
  (h : ∀ v' w', OwnD w' base v' (d ++ [r]) → Below base w w' → wpList Tryz.prog ops Q rest (a.put o.dst v') w') : wpList Tryz.prog ops Q (o :: rest) a w:=by
 subst hn
 obtain ⟨i0, hi, hz0, hz1, hz2⟩:=infoP infoR
 obtain ⟨cs, h1, h2⟩:=hown
 refine wpList_append_own_at w hgd sl x 128 ho base 25 i0 (.slice none 0 0) 1 24 Tryz.underlying128 hi hz0 hz1 hz2 rfl (by decide) v d.length cs hs h1 ⟨g, 0, none⟩ 1 1 [.slice A r.length c] hx rfl (fun j u hj=>?_) (fun u hu=>?_) (by unfold maxLen; omega) (by omega) hbase (fun v' w' hown' hgr _ hat=>h v' w' ?_ ?_)
 ·rw [Addr.add_lit, Nat.zero_add, hB.cell j]
  simpa using hj
 ·simp at hu
  subst hu; rfl
 ·have hkeep : ∀ (A : Option Addr) (q : List Nm.Ava), RAt w (fun b=>base ≤ b ∧ b < w.heap.size ∧ v.ownBlock ≠ some b) A q → RAt w' (fun b=>base ≤ b ∧ b < w'.heap.size ∧ v'.ownBlock ≠ some b) A q:=fun A q hq=>by
   refine hq.imp (fun b hb=>⟨hb.1, Nat.lt_of_lt_of_le hb.2.1 hgr.size, ?_⟩) (fun p hp=>World.cell?_of_block (hgr.block p.block hp.2.1 (fun e=>hp.2.2 e.symm)))
   rcases hat with e | e
   ·rw [e]; exact hb.2.2
   ·rw [e]
    intro e2
    simp only [Option.some.injEq] at e2
    omega
  refine ⟨cs ++ [.slice A r.length c], by rw [List.length_append]; exact hown', fun i hi=>?_⟩
  have hcl : cs.length = d.length:=by have:=h1.1; omega
  by_cases hid : i < d.length
  ·obtain ⟨A2, c2, e1, e2, e3⟩:=h2 i hid
   rw [List.getElem_append_left hid]
   exact ⟨A2, c2, by rw [List.getElem?_append_left (by omega)]; exact e1, e2, hkeep _ _ e3⟩
  ·have hie : i = d.length:=by rw [List.length_append, List.length_singleton] at hi; omega
   subst hie
   have e9 : (d ++ [r])[d.length] = r:=by simp
   rw [e9]
   exact ⟨A, c, by rw [List.getElem?_append_right (by omega), hcl]; simp, hc, hkeep _ _ hR⟩
 ·exact (Below.refl _ _).grown hgr hbase (fun k hk=>(h1.lt k hk).1)
end Go.Proofs.YtbdpkfgllnbheaaGreatDoor
namespace Go.Proofs.YtbdpkfgllnbheaaGreatDoor.Ch
open Go.RowKit
def StrsAt (w : World) (P : Nat → Prop) (A : Option Addr) (ss : List ByteArray) : Prop :=
 0 < ss.length → ∃ ad, A = some ad ∧ P ad.block ∧ ∀ i (h : i < ss.length), w.cell? (ad.add i) = some (.string ss[i])
theorem StrsAt.imp {w w' : World} {P P' : Nat → Prop} {A : Option Addr} {ss : List ByteArray} (h : StrsAt w P A ss) (hP : ∀ b, P b → P' b) (hw : ∀ p : Addr, P p.block → w'.cell? p = w.cell? p) : StrsAt w' P' A ss:=by
 intro h0
 obtain ⟨ad, e, hp, hc⟩:=h h0
 exact ⟨ad, e, hP _ hp, fun i hi=>(hw _ (by rw [block_of_add]; exact hp)).trans (hc i hi)⟩
theorem StrsAt.nil (w : World) (P : Nat → Prop) (A : Option Addr) : StrsAt w P A []:=fun h=>absurd h (by simp)
theorem StrsAt.past {w w' : World} {A : Option Addr} {ss : List ByteArray} (h : StrsAt w (· < w.heap.size) A ss) (hb : Below w.heap.size w w') : StrsAt w' (· < w'.heap.size) A ss :=
 h.imp (fun _ h=>Nat.lt_of_lt_of_le h hb.size) (fun p hp=>hb.cell hp)
theorem StrsAt.alloc {w : World} {A : Option Addr} {ss : List ByteArray} (h : StrsAt w (· < w.heap.size) A ss) (o : Obj) : StrsAt (w.alloc o) (· < (w.alloc o).heap.size) A ss:=h.past ((Below.refl _ _).alloc (Nat.le_refl _) o)
theorem add_next (a : Addr) (n i : Nat) (hi : 0 < i) : a.add (n + i) = ⟨(a.add n).block, (a.add n).off + i, none⟩:=by
 rw [← add_of_add]
 show Addr.add _ i = _
 unfold Addr.add
 rw [if_neg (by omega)]
def MoAt (w : World) (P : Nat → Prop) (d : Mo) (cs : List Value) : Prop :=
 ∃ (V : Option Addr) (vc : Nat), cs = [.int .i64 d.kind, .string d.attr, .slice V d.vals.length vc] ∧ d.attr.size ≤ maxLen ∧ d.vals.length ≤ maxLen ∧ d.vals.length ≤ vc ∧ StrsAt w P V d.vals ∧ ∀ s ∈ d.vals, s.size ≤ maxLen
theorem MoAt.imp {w w' : World} {P P' : Nat → Prop} {d : Mo} {cs : List Value} (h : MoAt w P d cs) (hP : ∀ b, P b → P' b) (hw : ∀ p : Addr, P p.block → w'.cell? p = w.cell? p) : MoAt w' P' d cs:=by
 obtain ⟨V, vc, h1, h2, h3, h4, h5, h6⟩:=h
 exact ⟨V, vc, h1, h2, h3, h4, h5.imp hP hw, h6⟩
theorem MoAt.past {w w' : World} {d : Mo} {cs : List Value} (h : MoAt w (· < w.heap.size) d cs) (hb : Below w.heap.size w w') : MoAt w' (· < w'.heap.size) d cs :=
 h.imp (fun _ h=>Nat.lt_of_lt_of_le h hb.size) (fun p hp=>hb.cell hp)
def MosAt (w : World) (P : Nat → Prop) (A : Option Addr) (ds : List Mo) (cs : Nat → List Value) : Prop :=
 (0 < ds.length → ∃ ad, A = some ad ∧ P ad.block ∧ ∀ i, i < ds.length → ∀ j u, (cs i)[j]? = some u → w.cell? (ad.add (i * 3 + j)) = some u) ∧ ∀ i (h : i < ds.length), MoAt w P ds[i] (cs i)
theorem MosAt.imp {w w' : World} {P P' : Nat → Prop} {A : Option Addr} {ds : List Mo} {cs : Nat → List Value} (h : MosAt w P A ds cs) (hP : ∀ b, P b → P' b) (hw : ∀ p : Addr, P p.block → w'.cell? p = w.cell? p) : MosAt w' P' A ds cs:=by
 refine ⟨fun h0=>?_, fun i hi=>(h.2 i hi).imp hP hw⟩
 obtain ⟨ad, e, hp, hc⟩:=h.1 h0
 exact ⟨ad, e, hP _ hp, fun i hi j u hu=>(hw _ (by rw [block_of_add]; exact hp)).trans (hc i hi j u hu)⟩
theorem MosAt.past {w w' : World} {A : Option Addr} {ds : List Mo} {cs : Nat → List Value} (h : MosAt w (· < w.heap.size) A ds cs) (hb : Below w.heap.size w w') : MosAt w' (· < w'.heap.size) A ds cs :=
 h.imp (fun _ h=>Nat.lt_of_lt_of_le h hb.size) (fun p hp=>hb.cell hp)
theorem MosAt.nil (w : World) (P : Nat → Prop) (A : Option Addr) (cs : Nat → List Value) : MosAt w P A [] cs:=⟨fun h=>absurd h (by simp), fun i h=>absurd h (by simp)⟩
theorem MosAt.kid {w wr : World} {ds : List Mo} {A : Option Addr} {cs : Nat → List Value} (h : MosAt w (· < w.heap.size) A ds cs) (hb : Below w.heap.size w wr) {i : Nat} (hi : i < ds.length) :
  ∃ (ad : Addr) (V : Option Addr) (vc : Nat), A = some ad ∧ ad.block < w.heap.size ∧ wr.cell? (ad.add (i * 3)) = some (.int .i64 ds[i].kind) ∧ wr.cell? ⟨(ad.add (i * 3)).block, (ad.add (i * 3)).off + 1, none⟩ = some (.string ds[i].attr) ∧
   wr.cell? ⟨(ad.add (i * 3)).block, (ad.add (i * 3)).off + 2, none⟩ = some (.slice V ds[i].vals.length vc) ∧ MoAt wr (· < wr.heap.size) ds[i] [.int .i64 ds[i].kind, .string ds[i].attr, .slice V ds[i].vals.length vc]:=by
 obtain ⟨hA, hk⟩:=h
 obtain ⟨ad, e, hp, hc⟩:=hA (by omega)
 have hx:=hk i hi
 obtain ⟨V, vc, hd, _⟩:=hx
 have hx:=hk i hi
 have hcc : ∀ j u, (cs i)[j]? = some u → wr.cell? (ad.add (i * 3 + j)) = some u:=fun j u hu=>(hb.cell (by rw [block_of_add]; exact hp)).trans (hc i hi j u hu)
 rw [hd] at hcc hx
 have h0:=hcc 0 _ rfl
 have h1:=hcc 1 _ rfl
 have h2:=hcc 2 _ rfl
 rw [add_next _ _ _ (by omega)] at h1 h2
 exact ⟨ad, V, vc, e, hp, h0, h1, h2, hx.past hb⟩
theorem MosAt.alloc {w : World} {A : Option Addr} {ds : List Mo} {cs : Nat → List Value} (h : MosAt w (· < w.heap.size) A ds cs) (o : Obj) : MosAt (w.alloc o) (· < (w.alloc o).heap.size) A ds cs:=h.past ((Below.refl _ _).alloc (Nat.le_refl _) o)
theorem MoAt.alloc {w : World} {d : Mo} {cs : List Value} (h : MoAt w (· < w.heap.size) d cs) (o : Obj) : MoAt (w.alloc o) (· < (w.alloc o).heap.size) d cs:=h.past ((Below.refl _ _).alloc (Nat.le_refl _) o)
theorem _root_.Go.Proofs.YtbdpkfgllnbheaaGreatDoor.RAt.alloc {w : World} {A : Option Addr} {r : List Nm.Ava} (h : RAt w (· < w.heap.size) A r) (o : Obj) : RAt (w.alloc o) (· < (w.alloc o).heap.size) A r:=h.past ((Below.refl _ _).alloc (Nat.le_refl _) o)
abbrev gcs (c : Cg) (R : Option Addr) (rc : Nat) (M : Option Addr) (mc : Nat) : Array Value :=
 #[.int .i64 c.csn.t, .int .i64 c.csn.s, .int .i64 c.csn.r, .int .i64 c.kind, .int .i64 c.id.t, .int .i64 c.id.s, .int .i64 c.id.r, .int .i64 c.par.t, .int .i64 c.par.s, .int .i64 c.par.r, .slice R c.rdn.length rc, .bool c.del, .slice M c.mods.length mc]
def GAt (w : World) (P : Nat → Prop) (c : Cg) (cs : Array Value) : Prop :=
 ∃ (R : Option Addr) (rc : Nat) (M : Option Addr) (mc : Nat) (ds : Nat → List Value), cs = gcs c R rc M mc ∧
  (RAt w P R c.rdn ∧ c.rdn.length ≤ maxLen ∧ c.rdn.length ≤ rc) ∧ (MosAt w P M c.mods ds ∧ c.mods.length ≤ maxLen ∧ c.mods.length ≤ mc)
theorem GAt.imp {w w' : World} {P P' : Nat → Prop} {c : Cg} {cs : Array Value} (h : GAt w P c cs) (hP : ∀ b, P b → P' b) (hw : ∀ p : Addr, P p.block → w'.cell? p = w.cell? p) : GAt w' P' c cs:=by
 obtain ⟨R, rc, M, mc, ds, e, ⟨hR, hR'⟩, ⟨hM, hM'⟩⟩:=h
 exact ⟨R, rc, M, mc, ds, e, ⟨hR.imp hP hw, hR'⟩, ⟨hM.imp hP hw, hM'⟩⟩
theorem GAt.past {w w' : World} {c : Cg} {cs : Array Value} (h : GAt w (· < w.heap.size) c cs) (hb : Below w.heap.size w w') : GAt w' (· < w'.heap.size) c cs :=
 h.imp (fun _ h=>Nat.lt_of_lt_of_le h hb.size) (fun p hp=>hb.cell hp)
theorem GAt.alloc {w : World} {c : Cg} {cs : Array Value} (h : GAt w (· < w.heap.size) c cs) (o : Obj) : GAt (w.alloc o) (· < (w.alloc o).heap.size) c cs:=h.past ((Below.refl _ _).alloc (Nat.le_refl _) o)
theorem GAt.old {w : World} {B : Nat} {c : Cg} {cs : Array Value} (h : GAt w (fun b=>B ≤ b ∧ b < w.heap.size) c cs) : GAt w (· < w.heap.size) c cs:=h.imp (fun _ h=>h.2) (fun _ _=>rfl)
section
variable {w : World} {P : Nat → Prop} {c : Cg} {cs : Array Value}
theorem GAt.size (h : GAt w P c cs) : cs.size = 13:=by obtain ⟨_, _, _, _, _, rfl, _⟩:=h; rfl
theorem GAt.g0 (h : GAt w P c cs) : cs[0]? = some (.int .i64 c.csn.t):=by obtain ⟨_, _, _, _, _, rfl, _⟩:=h; rfl
theorem GAt.g1 (h : GAt w P c cs) : cs[1]? = some (.int .i64 c.csn.s):=by obtain ⟨_, _, _, _, _, rfl, _⟩:=h; rfl
theorem GAt.g2 (h : GAt w P c cs) : cs[2]? = some (.int .i64 c.csn.r):=by obtain ⟨_, _, _, _, _, rfl, _⟩:=h; rfl
theorem GAt.g3 (h : GAt w P c cs) : cs[3]? = some (.int .i64 c.kind):=by obtain ⟨_, _, _, _, _, rfl, _⟩:=h; rfl
theorem GAt.g4 (h : GAt w P c cs) : cs[4]? = some (.int .i64 c.id.t):=by obtain ⟨_, _, _, _, _, rfl, _⟩:=h; rfl
theorem GAt.g6 (h : GAt w P c cs) : cs[6]? = some (.int .i64 c.id.r):=by obtain ⟨_, _, _, _, _, rfl, _⟩:=h; rfl
theorem GAt.g7 (h : GAt w P c cs) : cs[7]? = some (.int .i64 c.par.t):=by obtain ⟨_, _, _, _, _, rfl, _⟩:=h; rfl
theorem GAt.gM (h : GAt w P c cs) : ∃ M mc ds, cs[12]? = some (.slice M c.mods.length mc) ∧ MosAt w P M c.mods ds ∧ c.mods.length ≤ maxLen ∧ c.mods.length ≤ mc:=by
 obtain ⟨_, _, _, _, _, rfl, _, hM⟩:=h
 exact ⟨_, _, _, rfl, hM⟩
theorem GAt.one (h : GAt w P c cs) : cs.all (·.oneCell') = true:=by
 obtain ⟨_, _, _, _, _, rfl, _⟩:=h
 simp [Value.oneCell']
end
theorem infoG : (Tryz.prog.info? 28).map (·.size) = some 13:=by kernel_rfl
theorem infoC3 : (Tryz.prog.info? 23).map (·.size) = some 3:=by kernel_rfl
def Box (w : World) (g : Nat) (c : Cg) (cs : Array Value) : Prop:=Blk w g 28 cs ∧ GAt w (· < w.heap.size) c cs
theorem Box.past {w w' : World} {g : Nat} {c : Cg} {cs : Array Value} (h : Box w g c cs) (hb : Below w.heap.size w w') : Box w' g c cs:=⟨h.1.past hb, h.2.past hb⟩
theorem Box.new {w : World} {c : Cg} {cs : Array Value} (h : GAt w (· < w.heap.size) c cs) : Box (w.alloc (.cells cs 28)) w.heap.size c cs :=
 ⟨Blk.new _ _ _, h.alloc _⟩
def loadG (v : Value) : Sem Value:=Instr.loadAt 28 v
theorem loadAtG (v : Value) : Instr.loadAt 28 v = loadG v:=rfl
theorem Box.load {w : World} {g : Nat} {c : Cg} {cs : Array Value} (h : Box w g c cs) : (loadG (.pointer (some ⟨g, 0, none⟩))).run Tryz.prog w = .ok (.agg cs) w:=by
 unfold loadG
 simp only [Instr.loadAt, Instr.sureAddr, Sem.run_bind, Sem.run_pure, Result.andThen_ok, run_loadVar_row w g _ 28 cs (0, 0) _ h.1 Tryz.underlying28 rfl (by rw [infoG, h.2.size])]
theorem run_loadG {ev : Operand → Value} {o : Oper} {x : Operand} {w : World} {g : Nat} {c : Cg} {cs : Array Value} (ho : o.op = .load 28 x) (hx : ev x = .pointer (some ⟨g, 0, none⟩)) (h : Box w g c cs) :
  (execOp ev o).run Tryz.prog w = .ok (.value (.agg cs)) w:=by
 have hl:=h.load
 unfold loadG at hl
 unfold execOp
 simp only [ho, hx, Sem.run_bind, hl, Result.andThen_ok, Sem.run_pure]
theorem run_cell {P : Program} {ev : Operand → Value} {o : Oper} {x : Operand} {t : TypeId} {p : Addr} {v : Value} {w : World} (ho : o.op = .load t x) (hx : ev x = .pointer (some p)) (hagg : (isAgg t).run P w = .ok false w) (hc : w.cell? p = some v) :
  (execOp ev o).run P w = .ok (.value v) w:=by
 unfold execOp
 simp [ho, hx, Instr.loadAt, Instr.sureAddr, loadVar, hagg, hc, Result.andThen]
theorem run_loadC {ev : Operand → Value} {o : Oper} {x : Operand} {w : World} {b k : Nat} {x0 x1 x2 : Value} (ho : o.op = .load 23 x) (hx : ev x = .pointer (some ⟨b, k, none⟩))
  (h0 : w.cell? ⟨b, k, none⟩ = some x0) (h1 : w.cell? ⟨b, k + 1, none⟩ = some x1) (h2 : w.cell? ⟨b, k + 2, none⟩ = some x2) :
  (execOp ev o).run Tryz.prog w = .ok (.value (.agg #[x0, x1, x2])) w:=by
 have hr : w.rangeAt b k [x0, x1, x2]:=by
  intro j v hv
  match j with
  | 0=>injection hv with hv; subst hv; exact h0
  | 1=>injection hv with hv; subst hv; exact h1
  | 2=>injection hv with hv; subst hv; exact h2
  | j + 3=>cases hv
 have hl:=run_loadAt_mid w b k 23 _ _ hr Tryz.underlying23 rfl infoC3
 unfold execOp
 simp only [ho, hx, Sem.run_bind, hl, Result.andThen_ok, Sem.run_pure]
end Go.Proofs.YtbdpkfgllnbheaaGreatDoor.Ch
namespace Go.Proofs.YtbdpkfgllnbheaaGreatDoor.Ch
open Go.ChangeShapes Go.WideShapes Go.RowKit Go.Deep
theorem cellsG : Tryz.prog.cellsOf 28 = 13:=by kernel_rfl
theorem cellsCsn : Tryz.prog.cellsOf 23 = 3:=by kernel_rfl
theorem cells64 : Tryz.prog.cellsOf 2 = 1:=by kernel_rfl
theorem cellsI : Tryz.prog.cellsOf 3 = 1:=by kernel_rfl
theorem cellsSt : Tryz.prog.cellsOf 9 = 1:=by kernel_rfl
theorem cellsSs : Tryz.prog.cellsOf 42 = 1:=by kernel_rfl
theorem cellsMo : Tryz.prog.cellsOf 44 = 3:=by kernel_rfl
theorem cellsB : Tryz.prog.cellsOf 4 = 1:=by kernel_rfl
theorem cellsMs : Tryz.prog.cellsOf 26 = 1:=by kernel_rfl
theorem cellsRd : Tryz.prog.cellsOf 25 = 1:=by kernel_rfl
theorem strs_of_trod {H : Type} {enc : TypeId × Value → H} {w : World} {base : Nat} {spare : Nat → Bool} {held : Bool} {fuel : Nat} {cs : List Value} {x : DataW H × List MemPlace}
  (h : DataW.trod enc Tryz.prog w base spare held fuel 42 cs = some x) : ∃ (ss : List ByteArray) (S : Option Addr) (c : Nat), cs = [.slice S ss.length c] ∧ ss.length ≤ c ∧ ss.length ≤ maxLen ∧ (∀ s ∈ ss, s.size ≤ maxLen) ∧ StrsAt w (· < w.heap.size) S ss:=by
 rcases DataW.trod_slice Tryz.underlying42 h with ⟨hc, _⟩ | ⟨ad, len, cap, elems, rest, m, hm, hc, _, _, hlc, hcm, hel, hev, _, _⟩
 ·exact ⟨[], none, 0, hc, Nat.le_refl _, Nat.zero_le _, fun s hs=>by simp at hs, StrsAt.nil _ _ _⟩
 ·have one : ∀ i, i < len → ∃ a : ByteArray, a.size ≤ maxLen ∧ w.cell? (ad.add i) = some (.string a):=by
   intro i hi
   have h1:=hev i hi
   rw [cellsSt] at h1
   have h2 : elems[i]? = some (elems[i]'(by omega)):=List.getElem?_eq_getElem (by omega)
   rw [h2, Option.bind_eq_some_iff] at h1
   obtain ⟨cs', hcs', hof⟩:=h1
   obtain ⟨_, hl', hcell⟩:=World.cells?_some hcs'
   obtain ⟨s, rfl, _, hsz⟩:=DataW.trod_string Tryz.underlying9 hof
   have e0:=hcell 0 (by simp)
   rw [Go.Deep.add_add, Nat.mul_one] at e0
   exact ⟨s, hsz, e0⟩
  have : Inhabited ByteArray:=⟨⟨#[]⟩⟩
  obtain ⟨q, hq⟩:=choose_lt one
  have hkl : ((List.range len).map q).length = len:=by simp
  refine ⟨(List.range len).map q, some ad, cap, by rw [hkl]; exact hc, by rw [hkl]; exact hlc, by rw [hkl]; omega, fun s hs=>?_, fun h0=>⟨ad, rfl, ?_, fun i hi=>?_⟩⟩
  ·obtain ⟨i, hi, rfl⟩:=List.mem_map.1 hs
   exact (hq i (List.mem_range.1 hi)).1
  ·rw [hkl] at h0
   have:=cell_lt (hq 0 h0).2
   rwa [block_of_add] at this
  ·rw [hkl] at hi
   simpa using (hq i hi).2
section
variable {H : Type} {enc : TypeId × Value → H} {w : World} {base : Nat} {spare : Nat → Bool} {held : Bool} {fuel : Nat} {cs : List Value} {x : DataW H × List MemPlace}
theorem csn_of_trod (h : DataW.trod enc Tryz.prog w base spare held fuel 23 cs = some x) : ∃ c : Cn, cs = [.int .i64 c.t, .int .i64 c.s, .int .i64 c.r]:=by
 obtain ⟨xs, n, rfl, _, hl, hlen, hg⟩:=DataW.trod_struct Tryz.underlying23 h
 rw [cellsCsn] at hl
 match cs, hl with
 | [c0, c1, c2], _ =>
  have l3 : xs.length = 3:=hlen
  match xs, l3 with
  | [y0, y1, y2], _ =>
  have g0' : DataW.trod enc Tryz.prog w base spare held n 2 [c0] = some y0:=by simpa [cells64] using hg 0 _ rfl
  have g1' : DataW.trod enc Tryz.prog w base spare held n 3 [c1] = some y1:=by simpa [cellsI] using hg 1 _ rfl
  have g2' : DataW.trod enc Tryz.prog w base spare held n 3 [c2] = some y2:=by simpa [cellsI] using hg 2 _ rfl
  obtain ⟨a, ha, _, _⟩:=DataW.trod_int Tryz.underlying2 g0'
  obtain ⟨b, hb, _, _⟩:=DataW.trod_int Tryz.underlying3 g1'
  obtain ⟨c, hc, _, _⟩:=DataW.trod_int Tryz.underlying3 g2'
  simp only [List.cons.injEq, and_true] at ha hb hc
  subst ha hb hc
  exact ⟨⟨a, b, c⟩, rfl⟩
theorem mod_of_trod (h : DataW.trod enc Tryz.prog w base spare held fuel 44 cs = some x) : ∃ d : Mo, MoAt w (· < w.heap.size) d cs:=by
 obtain ⟨xs, n, rfl, _, hl, hlen, hg⟩:=DataW.trod_struct Tryz.underlying44 h
 rw [cellsMo] at hl
 match cs, hl with
 | [c0, c1, c2], _ =>
  have g0:=hg 0 _ rfl
  have g1:=hg 1 _ rfl
  have g2:=hg 2 _ rfl
  have l3 : xs.length = 3:=hlen
  match xs, l3 with
  | [y0, y1, y2], _ =>
  have g0' : DataW.trod enc Tryz.prog w base spare held n 3 [c0] = some y0:=by simpa [cellsI] using g0
  have g1' : DataW.trod enc Tryz.prog w base spare held n 9 [c1] = some y1:=by simpa [cellsSt] using g1
  have g2' : DataW.trod enc Tryz.prog w base spare held n 42 [c2] = some y2:=by simpa [cellsSs] using g2
  obtain ⟨a, ha, _, _⟩:=DataW.trod_int Tryz.underlying3 g0'
  obtain ⟨s, hs, _, hsz⟩:=DataW.trod_string Tryz.underlying9 g1'
  obtain ⟨ss, S, sc, hss, hsc, hsl, hsz2, hsa⟩:=strs_of_trod g2'
  simp only [List.cons.injEq, and_true] at ha hs hss
  subst ha hs hss
  exact ⟨⟨a, s, ss⟩, S, sc, rfl, hsz, hsl, hsc, hsa, hsz2⟩
theorem mods_of_trod (h : DataW.trod enc Tryz.prog w base spare held fuel 26 cs = some x) :
  ∃ (l : List Mo) (M : Option Addr) (c : Nat) (dd : Nat → List Value), cs = [.slice M l.length c] ∧ l.length ≤ c ∧ l.length ≤ maxLen ∧ MosAt w (· < w.heap.size) M l dd:=by
 rcases DataW.trod_slice Tryz.underlying26 h with ⟨hc, _⟩ | ⟨ad, len, cap, elems, rest, m, hm, hc, _, _, hlc, hcm, hel, hev, _, _⟩
 ·exact ⟨[], none, 0, fun _=>[], hc, Nat.le_refl _, Nat.zero_le _, MosAt.nil _ _ _ _⟩
 ·have one : ∀ i, i < len → ∃ (q : Mo × List Value), q.2.length = 3 ∧ (∀ j u, q.2[j]? = some u → w.cell? (ad.add (i * 3 + j)) = some u) ∧ MoAt w (· < w.heap.size) q.1 q.2:=by
   intro i hi
   have h1:=hev i hi
   rw [cellsMo] at h1
   have h2 : elems[i]? = some (elems[i]'(by omega)):=List.getElem?_eq_getElem (by omega)
   rw [h2, Option.bind_eq_some_iff] at h1
   obtain ⟨cs', hcs', hof⟩:=h1
   obtain ⟨_, hl', hcell⟩:=World.cells?_some hcs'
   obtain ⟨d, hd⟩:=mod_of_trod hof
   refine ⟨(d, cs'), hl', fun j u hu=>?_, hd⟩
   have hj : j < 3:=by
    have h9 : j < cs'.length:=(List.getElem?_eq_some_iff.1 hu).1
    omega
   have:=hcell j hj
   rw [Go.Deep.add_add] at this
   rw [this]
   exact hu
  have : Inhabited (Mo × List Value):=⟨(⟨0, ⟨#[]⟩, []⟩, [])⟩
  obtain ⟨q, hq⟩:=choose_lt one
  have hkl : ((List.range len).map fun i=>(q i).1).length = len:=by simp
  refine ⟨(List.range len).map fun i=>(q i).1, some ad, cap, fun i=>(q i).2, by rw [hkl]; exact hc, by rw [hkl]; exact hlc, by rw [hkl]; omega, fun h0=>⟨ad, rfl, ?_, fun i hi=>?_⟩, fun i hi=>?_⟩
  ·have h0' : 0 < len:=by rw [hkl] at h0; exact h0
   have hz:=hq 0 h0'
   have hl0 : (q 0).2.length = 3:=hz.1
   have:=hz.2.1 0 ((q 0).2[0]'(by omega)) (List.getElem?_eq_getElem (by omega))
   have hb:=cell_lt this
   rwa [block_of_add] at hb
  ·exact (hq i (by rw [hkl] at hi; exact hi)).2.1
  ·have hi' : i < len:=by rw [hkl] at hi; exact hi
   have:=(hq i hi').2.2
   simpa using this
set_option maxHeartbeats 4000000 in
theorem change_of_trod (h : DataW.trod enc Tryz.prog w base spare held fuel 28 cs = some x) : ∃ c : Cg, GAt w (· < w.heap.size) c cs.toArray:=by
 obtain ⟨xs, n, rfl, _, hl, hlen, hg⟩:=DataW.trod_struct Tryz.underlying28 h
 rw [cellsG] at hl
 match cs, hl with
 | [c0, c1, c2, c3, c4, c5, c6, c7, c8, c9, c10, c11, c12], _ =>
  have l7 : xs.length = 7:=hlen
  match xs, l7 with
  | [y0, y1, y2, y3, y4, y5, y6], _ =>
  have g0' : DataW.trod enc Tryz.prog w base spare held n 23 [c0, c1, c2] = some y0:=by
   have h9 : DataW.trod enc Tryz.prog w base spare held n 23 (([c0, c1, c2, c3, c4, c5, c6, c7, c8, c9, c10, c11, c12].drop 0).take (Tryz.prog.cellsOf 23)) = [y0, y1, y2, y3, y4, y5, y6][0]?:=hg 0 _ rfl
   rw [cellsCsn] at h9
   exact h9
  have g1' : DataW.trod enc Tryz.prog w base spare held n 3 [c3] = some y1:=by
   have h9 : DataW.trod enc Tryz.prog w base spare held n 3 (([c0, c1, c2, c3, c4, c5, c6, c7, c8, c9, c10, c11, c12].drop 3).take (Tryz.prog.cellsOf 3)) = [y0, y1, y2, y3, y4, y5, y6][1]?:=hg 1 _ rfl
   rw [cellsI] at h9
   exact h9
  have g2' : DataW.trod enc Tryz.prog w base spare held n 23 [c4, c5, c6] = some y2:=by
   have h9 : DataW.trod enc Tryz.prog w base spare held n 23 (([c0, c1, c2, c3, c4, c5, c6, c7, c8, c9, c10, c11, c12].drop 4).take (Tryz.prog.cellsOf 23)) = [y0, y1, y2, y3, y4, y5, y6][2]?:=hg 2 _ rfl
   rw [cellsCsn] at h9
   exact h9
  have g3' : DataW.trod enc Tryz.prog w base spare held n 23 [c7, c8, c9] = some y3:=by
   have h9 : DataW.trod enc Tryz.prog w base spare held n 23 (([c0, c1, c2, c3, c4, c5, c6, c7, c8, c9, c10, c11, c12].drop 7).take (Tryz.prog.cellsOf 23)) = [y0, y1, y2, y3, y4, y5, y6][3]?:=hg 3 _ rfl
   rw [cellsCsn] at h9
   exact h9
  have g4' : DataW.trod enc Tryz.prog w base spare held n 25 [c10] = some y4:=by
   have h9 : DataW.trod enc Tryz.prog w base spare held n 25 (([c0, c1, c2, c3, c4, c5, c6, c7, c8, c9, c10, c11, c12].drop 10).take (Tryz.prog.cellsOf 25)) = [y0, y1, y2, y3, y4, y5, y6][4]?:=hg 4 _ rfl
   rw [cellsRd] at h9
   exact h9
  have g5' : DataW.trod enc Tryz.prog w base spare held n 4 [c11] = some y5:=by
   have h9 : DataW.trod enc Tryz.prog w base spare held n 4 (([c0, c1, c2, c3, c4, c5, c6, c7, c8, c9, c10, c11, c12].drop 11).take (Tryz.prog.cellsOf 4)) = [y0, y1, y2, y3, y4, y5, y6][5]?:=hg 5 _ rfl
   rw [cellsB] at h9
   exact h9
  have g6' : DataW.trod enc Tryz.prog w base spare held n 26 [c12] = some y6:=by
   have h9 : DataW.trod enc Tryz.prog w base spare held n 26 (([c0, c1, c2, c3, c4, c5, c6, c7, c8, c9, c10, c11, c12].drop 12).take (Tryz.prog.cellsOf 26)) = [y0, y1, y2, y3, y4, y5, y6][6]?:=hg 6 _ rfl
   rw [cellsMs] at h9
   exact h9
  obtain ⟨a0, e0⟩:=csn_of_trod g0'
  obtain ⟨a1, e1, _, _⟩:=DataW.trod_int Tryz.underlying3 g1'
  obtain ⟨a2, e2⟩:=csn_of_trod g2'
  obtain ⟨a3, e3⟩:=csn_of_trod g3'
  obtain ⟨r, R, rc, e4, hR1, hR2, hR3⟩:=rdn_of_trod g4'
  obtain ⟨a5, e5, _⟩:=DataW.trod_bool Tryz.underlying4 g5'
  obtain ⟨M, MA, mc, dd, e6, hM1, hM2, hM3⟩:=mods_of_trod g6'
  simp only [List.cons.injEq, and_true] at e0 e1 e2 e3 e4 e5 e6
  obtain ⟨rfl, rfl, rfl⟩:=e0
  obtain ⟨rfl, rfl, rfl⟩:=e2
  obtain ⟨rfl, rfl, rfl⟩:=e3
  subst e1 e4 e5 e6
  exact ⟨⟨a0, a1, a2, a3, r, a5, M⟩, R, rc, MA, mc, dd, rfl, ⟨hR3, hR2, hR1⟩, hM3, hM2, hM1⟩
end
theorem open_change {H : Type} {enc : TypeId × Value → H} {w : World} {base : Nat} {spare : Nat → Bool} {held : Bool} {r : Reach} {b0 : Nat} {v : Value} {d : DataW H} {p : List MemPlace}
  (hv : Value.okWide Tryz.prog w r b0 28 v) (h : DataW.Trod enc Tryz.prog w base spare held 28 v d p) :
  ∃ (c : Cg) (cs : Array Value), v = .agg cs ∧ GAt w (· < w.heap.size) c cs:=by
 obtain ⟨cs, rfl, hsz⟩:=okWide_struct Tryz.underlying28 hv
 obtain ⟨fuel, hf⟩:=h
 obtain ⟨c, hc⟩:=change_of_trod hf
 exact ⟨c, cs, rfl, hc⟩
end Go.Proofs.YtbdpkfgllnbheaaGreatDoor.Ch
