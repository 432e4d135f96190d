/- How filters lie in memory: 'Lies w P f cs': the five cells cs of a filter read as the tree f in the world w, through blocks of which P holds. -/
import Derived.Test.YticfemheneljmaaDoorNMem
import Derived.Test.YticfemheneljmaaDoorNStr
import Derived.Test.YticfemheneljmaaDoorFlSpec
namespace Go.Proofs.YticfemheneljmaaDoor.Fi
open Go.RowKit
set_option linter.unusedVariables false
set_option maxRecDepth 100000

/-- Strings, one a cell, from A on. -/
def StrsAt (w : World) (P : Nat → Prop) (A : Option Addr) (ss : List ByteArray) : Prop :=
  0 < ss.length → ∃ ad, A = some ad ∧ P ad.block ∧ ∀ i (h : i < ss.length), w.cell? (ad.add i) = some (.string ss[i])
theorem StrsAt.imp {w w' : World} {P P' : Nat → Prop} {A : Option Addr} {ss : List ByteArray} (h : StrsAt w P A ss) (hP : ∀ b, P b → P' b) (hw : ∀ p : Addr, P p.block → w'.cell? p = w.cell? p) : StrsAt w' P' A ss := by
  intro h0
  obtain ⟨ad, e, hp, hc⟩ := h h0
  exact ⟨ad, e, hP _ hp, fun i hi => (hw _ (by rw [block_of_add]; exact hp)).trans (hc i hi)⟩
theorem StrsAt.nil (w : World) (P : Nat → Prop) (A : Option Addr) : StrsAt w P A [] := fun h => absurd h (by simp)
theorem StrsAt.past {w w' : World} {A : Option Addr} {ss : List ByteArray} (h : StrsAt w (· < w.heap.size) A ss) (hb : Below w.heap.size w w') : StrsAt w' (· < w'.heap.size) A ss :=
  h.imp (fun _ h => Nat.lt_of_lt_of_le h hb.size) (fun p hp => hb.cell hp)

inductive Lies (w : World) (P : Nat → Prop) : Fil → List Value → Prop
  | mk (k : Int) (a v : ByteArray) (ss : List ByteArray) (ks : List Fil) (S : Option Addr) (sc : Nat) (A : Option Addr) (c : Nat) (cs : Nat → List Value)
      (ha : a.size ≤ maxLen) (hv : v.size ≤ maxLen) (hsl : ss.length ≤ maxLen) (hsc : ss.length ≤ sc) (hs : StrsAt w P S ss) (hss : ∀ s ∈ ss, s.size ≤ maxLen)
      (hl : ks.length ≤ maxLen) (hcl : ks.length ≤ c) (h5 : ∀ i, i < ks.length → (cs i).length = 5)
      (hA : 0 < ks.length → ∃ ad, A = some ad ∧ P ad.block ∧ ∀ i, i < ks.length → ∀ j u, (cs i)[j]? = some u → w.cell? (ad.add (i * 5 + j)) = some u)
      (hk : ∀ i (h : i < ks.length), Lies w P ks[i] (cs i)) :
      Lies w P (.mk k a v ss ks) [.int .i64 k, .string a, .string v, .slice S ss.length sc, .slice A ks.length c]

theorem Lies.imp {w w' : World} {P P' : Nat → Prop} {f : Fil} {cs : List Value} (h : Lies w P f cs) (hP : ∀ b, P b → P' b) (hw : ∀ p : Addr, P p.block → w'.cell? p = w.cell? p) : Lies w' P' f cs := by
  induction h with
  | mk k a v ss ks S sc A c cs ha hv hsl hsc hs hss hl hcl h5 hA hk ih =>
    refine .mk k a v ss ks S sc A c cs ha hv hsl hsc (hs.imp hP hw) hss hl hcl h5 (fun h0 => ?_) ih
    obtain ⟨ad, e, hp, hc⟩ := hA h0
    exact ⟨ad, e, hP _ hp, fun i hi j u hu => (hw _ (by rw [block_of_add]; exact hp)).trans (hc i hi j u hu)⟩
theorem Lies.kept {w w' : World} {B : Nat} {f : Fil} {cs : List Value} (h : Lies w (· < B) f cs) (hb : Below B w w') : Lies w' (· < B) f cs :=
  h.imp (fun _ h => h) (fun p hp => hb.cell hp)
theorem Lies.drew {w : World} {P : Nat → Prop} {f : Fil} {cs : List Value} (h : Lies w P f cs) : Lies w.drew P f cs := h.imp (fun _ h => h) (fun _ _ => rfl)
/-- At the size of the world itself: behind a call that leaves all that was there. -/
theorem Lies.past {w w' : World} {f : Fil} {cs : List Value} (h : Lies w (· < w.heap.size) f cs) (hb : Below w.heap.size w w') : Lies w' (· < w'.heap.size) f cs :=
  h.imp (fun _ h => Nat.lt_of_lt_of_le h hb.size) (fun p hp => hb.cell hp)
theorem Lies.alloc {w : World} {f : Fil} {cs : List Value} (h : Lies w (· < w.heap.size) f cs) (o : Obj) : Lies (w.alloc o) (· < (w.alloc o).heap.size) f cs := h.past ((Below.refl _ _).alloc (Nat.le_refl _) o)
/-- The kids' cells: five each, one kid behind the other from A on. -/
def KidsAt (w : World) (P : Nat → Prop) (A : Option Addr) (ks : List Fil) (ds : Nat → List Value) : Prop :=
  (∀ i, i < ks.length → (ds i).length = 5) ∧
  (0 < ks.length → ∃ ad, A = some ad ∧ P ad.block ∧ ∀ i, i < ks.length → ∀ j u, (ds i)[j]? = some u → w.cell? (ad.add (i * 5 + j)) = some u) ∧
  ∀ i (h : i < ks.length), Lies w P ks[i] (ds i)
theorem KidsAt.imp {w w' : World} {P P' : Nat → Prop} {A : Option Addr} {ks : List Fil} {ds : Nat → List Value} (h : KidsAt w P A ks ds) (hP : ∀ b, P b → P' b) (hw : ∀ p : Addr, P p.block → w'.cell? p = w.cell? p) :
    KidsAt w' P' A ks ds := by
  refine ⟨h.1, fun h0 => ?_, fun i hi => (h.2.2 i hi).imp hP hw⟩
  obtain ⟨ad, e, hp, hc⟩ := h.2.1 h0
  exact ⟨ad, e, hP _ hp, fun i hi j u hu => (hw _ (by rw [block_of_add]; exact hp)).trans (hc i hi j u hu)⟩
theorem KidsAt.past {w w' : World} {A : Option Addr} {ks : List Fil} {ds : Nat → List Value} (h : KidsAt w (· < w.heap.size) A ks ds) (hb : Below w.heap.size w w') : KidsAt w' (· < w'.heap.size) A ks ds :=
  h.imp (fun _ h => Nat.lt_of_lt_of_le h hb.size) (fun p hp => hb.cell hp)
theorem KidsAt.nil (w : World) (P : Nat → Prop) (A : Option Addr) (ds : Nat → List Value) : KidsAt w P A [] ds :=
  ⟨fun i h => absurd h (by simp), fun h => absurd h (by simp), fun i h => absurd h (by simp)⟩
theorem Lies.open_ {w : World} {P : Nat → Prop} {k : Int} {a v : ByteArray} {ss : List ByteArray} {ks : List Fil} {cs : List Value} (h : Lies w P (.mk k a v ss ks) cs) :
    ∃ (S : Option Addr) (sc : Nat) (A : Option Addr) (c : Nat) (ds : Nat → List Value), cs = [.int .i64 k, .string a, .string v, .slice S ss.length sc, .slice A ks.length c] ∧ a.size ≤ maxLen ∧ v.size ≤ maxLen ∧ ss.length ≤ maxLen ∧ ss.length ≤ sc ∧ StrsAt w P S ss ∧ (∀ s ∈ ss, s.size ≤ maxLen) ∧
      ks.length ≤ maxLen ∧ ks.length ≤ c ∧ KidsAt w P A ks ds := by
  cases h with
  | mk k a v ss ks S sc A c cs ha hv hsl hsc hs hss hl hcl h5 hA hk => exact ⟨S, sc, A, c, cs, rfl, ha, hv, hsl, hsc, hs, hss, hl, hcl, h5, hA, hk⟩
theorem Lies.shut {w : World} {P : Nat → Prop} {k : Int} {a v : ByteArray} {ss : List ByteArray} {ks : List Fil} {S : Option Addr} {sc : Nat} {A : Option Addr} {c : Nat} {ds : Nat → List Value}
    (ha : a.size ≤ maxLen) (hv : v.size ≤ maxLen) (hsl : ss.length ≤ maxLen) (hsc : ss.length ≤ sc) (hs : StrsAt w P S ss) (hss : ∀ s ∈ ss, s.size ≤ maxLen) (hl : ks.length ≤ maxLen) (hcl : ks.length ≤ c) (h : KidsAt w P A ks ds) :
    Lies w P (.mk k a v ss ks) [.int .i64 k, .string a, .string v, .slice S ss.length sc, .slice A ks.length c] := .mk k a v ss ks S sc A c ds ha hv hsl hsc hs hss hl hcl h.1 h.2.1 h.2.2
theorem add_next (a : Addr) (n i : Nat) (hi : 0 < i) : a.add (n + i) = ⟨(a.add n).block, (a.add n).off + i, none⟩ := by
  rw [← add_of_add]
  show Addr.add _ i = _
  unfold Addr.add
  rw [if_neg (by omega)]
theorem Lies.form {w : World} {P : Nat → Prop} {f : Fil} {cs : List Value} (h : Lies w P f cs) : ∃ (k : Int) (a v : ByteArray) (S : Option Addr) (m d : Nat) (A : Option Addr) (n c : Nat), cs = [.int .i64 k, .string a, .string v, .slice S m d, .slice A n c] := by
  cases h with
  | mk k a v ss ks S sc A c cs ha hv hsl hsc hs hss hl hcl h5 hA hk => exact ⟨_, _, _, _, _, _, _, _, _, rfl⟩
/-- A kid's cells, each one's make written out: in a later world, in which all that lay below is as it was. -/
theorem KidsAt.kid {w wr : World} {ks : List Fil} {A : Option Addr} {ds : Nat → List Value} (hK : KidsAt w (· < w.heap.size) A ks ds) (hb : Below w.heap.size w wr)
    {i : Nat} (h : i < ks.length) : ∃ (ad : Addr) (k : Int) (a v : ByteArray) (S : Option Addr) (m d : Nat) (A' : Option Addr) (n c : Nat), A = some ad ∧ ad.block < w.heap.size ∧ wr.cell? (ad.add (i * 5)) = some (.int .i64 k) ∧
      wr.cell? ⟨(ad.add (i * 5)).block, (ad.add (i * 5)).off + 1, none⟩ = some (.string a) ∧
      wr.cell? ⟨(ad.add (i * 5)).block, (ad.add (i * 5)).off + 2, none⟩ = some (.string v) ∧
      wr.cell? ⟨(ad.add (i * 5)).block, (ad.add (i * 5)).off + 3, none⟩ = some (.slice S m d) ∧
      wr.cell? ⟨(ad.add (i * 5)).block, (ad.add (i * 5)).off + 4, none⟩ = some (.slice A' n c) ∧ Lies wr (· < wr.heap.size) ks[i] [.int .i64 k, .string a, .string v, .slice S m d, .slice A' n c] := by
  obtain ⟨h5, hA, hk⟩ := hK
  obtain ⟨ad, e, hp, hc⟩ := hA (by omega)
  have hx := hk i h
  obtain ⟨k, a, v, S, m, d, A', n, c, hd⟩ := hx.form
  have hcc : ∀ j u, (ds i)[j]? = some u → wr.cell? (ad.add (i * 5 + j)) = some u := fun j u hu => (hb.cell (by rw [block_of_add]; exact hp)).trans (hc i h j u hu)
  rw [hd] at hcc hx
  have h0 := hcc 0 _ rfl
  have h1 := hcc 1 _ rfl
  have h2 := hcc 2 _ rfl
  have h3 := hcc 3 _ rfl
  have h4 := hcc 4 _ rfl
  rw [add_next _ _ _ (by omega)] at h1 h2 h3 h4
  exact ⟨ad, k, a, v, S, m, d, A', n, c, e, hp, h0, h1, h2, h3, h4, hx.past hb⟩
end Go.Proofs.YticfemheneljmaaDoor.Fi
