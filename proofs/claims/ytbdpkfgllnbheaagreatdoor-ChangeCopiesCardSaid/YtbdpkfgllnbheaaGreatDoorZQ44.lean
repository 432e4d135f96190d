import Derived.Test.YtbdpkfgllnbheaaGreatDoorZQ39
set_option linter.unusedVariables false
set_option maxRecDepth 100000
namespace Go.Proofs.YtbdpkfgllnbheaaGreatDoor.Ch
open Go.RowKit
structure Kpt (lo hi : Nat) (w w' : World) : Prop where
 os : w'.os = w.os
 tape : w'.tape = w.tape
 output : w'.output = w.output
 size : w'.heap.size = w.heap.size
 out : ∀ b, ¬ (lo ≤ b ∧ b < hi) → w'.heap[b]? = w.heap[b]?
 form : ∀ g t cs, Blk w g t cs → ∃ cs', Blk w' g t cs' ∧ cs'.size = cs.size ∧ (t = 44 → ∀ i, cs'[i * 3 + 2]? = cs[i * 3 + 2]?)
theorem Kpt.refl (lo hi : Nat) (w : World) : Kpt lo hi w w:=⟨rfl, rfl, rfl, rfl, fun _ _=>rfl, fun g t cs h=>⟨cs, h, rfl, fun _ _=>rfl⟩⟩
theorem Kpt.trans {lo hi : Nat} {a b c : World} (h : Kpt lo hi a b) (k : Kpt lo hi b c) : Kpt lo hi a c:=by
 refine ⟨k.os.trans h.os, k.tape.trans h.tape, k.output.trans h.output, k.size.trans h.size, fun g hg=>(k.out g hg).trans (h.out g hg), fun g t cs hB=>?_⟩
 obtain ⟨c1, b1, s1, m1⟩:=h.form g t cs hB
 obtain ⟨c2, b2, s2, m2⟩:=k.form g t c1 b1
 exact ⟨c2, b2, s2.trans s1, fun e i=>(m2 e i).trans (m1 e i)⟩
theorem Kpt.drew {lo hi : Nat} {a b : World} (h : Kpt lo hi a b) : Kpt lo hi a b.drew:=⟨h.os, h.tape, h.output, h.size, h.out, h.form⟩
theorem Kpt.set_ {lo hi : Nat} {w w' : World} (h : Kpt lo hi w w') {g : Nat} {t : TypeId} {cs : Array Value} (hB : Blk w g t cs) (h1 : lo ≤ g) (h2 : g < hi) (k : Nat) (hk : t = 44 → ∀ i, k ≠ i * 3 + 2) (u : Value) : Kpt lo hi w (w'.setCell ⟨g, k, none⟩ u):=by
 obtain ⟨c0, b0, s0, m0⟩:=h.form g t cs hB
 refine h.trans ⟨rfl, rfl, rfl, by simp [World.setCell], fun b hb=>Below.heap_setCell _ _ _ _ (fun e=>hb (by rw [e]; exact ⟨h1, h2⟩)), fun g' t' cs' hB'=>?_⟩
 by_cases e : g' = g
 ·subst e
  have e2:=hB'.symm.trans b0
  injection e2 with e2
  injection e2 with e3 e4 _
  subst e3 e4
  refine ⟨_, hB'.set_ k u, by simp, fun e i=>?_⟩
  rw [Array.getElem?_setIfInBounds_ne (hk e i)]
 ·exact ⟨cs', hB'.far (p:=⟨g, k, none⟩) e u, rfl, fun _ _=>rfl⟩
theorem Kpt.below {lo hi B : Nat} {w w' : World} (h : Kpt lo hi w w') (hB : B ≤ lo) : Below B w w' :=
 ⟨h.os, h.tape, h.output, Nat.le_of_eq h.size.symm, fun k hk=>h.out k (fun e=>by omega)⟩
theorem Kpt.cell {lo hi : Nat} {w w' : World} (h : Kpt lo hi w w') {p : Addr} (hp : ¬ (lo ≤ p.block ∧ p.block < hi)) : w'.cell? p = w.cell? p:=World.cell?_of_block (h.out _ hp)
theorem Kpt.blk {lo hi : Nat} {w w' : World} (h : Kpt lo hi w w') {g : Nat} {t : TypeId} {cs : Array Value} (hB : Blk w g t cs) (hg : ¬ (lo ≤ g ∧ g < hi)) : Blk w' g t cs:=(h.out g hg).trans hB
theorem Kpt.gat {lo hi : Nat} {w w' : World} (h : Kpt lo hi w w') {c : Cg} {cs : Array Value} (hG : GAt w (fun b=>b < w.heap.size ∧ ¬ (lo ≤ b ∧ b < hi)) c cs) : GAt w' (fun b=>b < w'.heap.size ∧ ¬ (lo ≤ b ∧ b < hi)) c cs :=
 hG.imp (fun b hb=>by rw [h.size]; exact hb) (fun p hp=>h.cell hp.2)
def RowF (w : World) (lo hi : Nat) (A : Option Addr) (t : TypeId) (n k : Nat) : Prop:=0 < n → ∃ g cur, A = some ⟨g, 0, none⟩ ∧ lo ≤ g ∧ g < hi ∧ Blk w g t cur ∧ n * k ≤ cur.size
theorem RowF.of {w : World} {base : Nat} {t : TypeId} {k : Nat} {A : Option Addr} {n c : Nat} {xs : List Value} (h : w.ownsRow base t k (.slice A n c) n xs) : RowF w base w.heap.size A t n k:=by
 intro h0
 rcases h.2 with ⟨_, h1⟩ | ⟨g, cap, cur, hv, hb, hB, hc, _, hs, _⟩
 ·omega
 ·injection hv with h1 _ _
  have hB' : Blk w g t cur:=hB
  exact ⟨g, cur, h1, hb, hB'.lt, hB', by rw [hs]; exact Nat.mul_le_mul_right k hc⟩
theorem RowF.past {w w' : World} {lo hi : Nat} {A : Option Addr} {t : TypeId} {n k : Nat} (h : RowF w lo hi A t n k) (hw : w.heap.size ≥ hi) (hb : Below w.heap.size w w') : RowF w' lo hi A t n k:=by
 intro h0
 obtain ⟨g, cur, h1, h2, h3, h4, h5⟩:=h h0
 exact ⟨g, cur, h1, h2, h3, h4.past hb, h5⟩
def AFor (w : World) (lo hi : Nat) (c : Cg) (R M : Option Addr) : Prop :=
 RowF w lo hi R 41 c.rdn.length 2 ∧ (0 < c.mods.length → ∃ m cur, M = some ⟨m, 0, none⟩ ∧ lo ≤ m ∧ m < hi ∧ Blk w m 44 cur ∧ c.mods.length * 3 ≤ cur.size ∧
  ∀ i (h : i < c.mods.length), ∃ V vc, cur[i * 3 + 2]? = some (.slice V c.mods[i].vals.length vc) ∧ RowF w lo hi V 9 c.mods[i].vals.length 1)
theorem AFor.past {w w' : World} {lo hi : Nat} {c : Cg} {R M : Option Addr} (h : AFor w lo hi c R M) (hw : w.heap.size ≥ hi) (hb : Below w.heap.size w w') : AFor w' lo hi c R M:=by
 refine ⟨h.1.past hw hb, fun h0=>?_⟩
 obtain ⟨m, cur, h1, h2, h3, h4, h5, h6⟩:=h.2 h0
 refine ⟨m, cur, h1, h2, h3, h4.past hb, h5, fun i hi=>?_⟩
 obtain ⟨V, vc, h7, h8⟩:=h6 i hi
 exact ⟨V, vc, h7, h8.past hw hb⟩
theorem GOwn.form {w : World} {base : Nat} {c : Cg} {cs : Array Value} (h : GOwn w base c cs) : ∃ R rc M mc, cs = gcs c R rc M mc ∧ AFor w base w.heap.size c R M:=by
 obtain ⟨R, M, xs, rfl, h2, h3, h4, h5⟩:=h
 obtain ⟨A, c1, rfl, k1, k2⟩:=h2.rdn
 obtain ⟨B, c2, ds, rfl, k3, k4⟩:=h3.shut
 refine ⟨A, c1, B, c2, rfl, RowF.of h2, fun h0=>?_⟩
 have hg:=h3.1
 rcases h3.1.2 with ⟨_, h1⟩ | ⟨g, cap, cur, hv, hb, hB, hc, _, hs, hx⟩
 ·omega
 injection hv with e1 _ _
 subst e1
 have hB' : Blk w g 44 cur:=hB
 have hl : c.mods.length * 3 ≤ cur.size:=by rw [hs]; exact Nat.mul_le_mul_right 3 hc
 refine ⟨g, cur, rfl, hb, hB'.lt, hB', hl, fun i hi=>?_⟩
 obtain ⟨V, hd, hO, _⟩:=h3.2 i hi
 obtain ⟨A', c', rfl, _⟩:=OwnS_shut hO
 refine ⟨A', c', ?_, RowF.of hO⟩
 have e2 : ((xs.drop (i * 3)).take 3)[2]? = some (.slice A' c.mods[i].vals.length c'):=by rw [hd]; rfl
 rw [List.getElem?_take_of_lt (by omega), List.getElem?_drop, ← hx, List.getElem?_take_of_lt (by omega), Array.getElem?_toList] at e2
 exact e2
end Go.Proofs.YtbdpkfgllnbheaaGreatDoor.Ch
