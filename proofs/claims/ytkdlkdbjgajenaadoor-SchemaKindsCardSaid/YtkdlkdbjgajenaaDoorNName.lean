/- How parts and names lie in memory: AVAs one behind the other; parts, each a slice of AVAs. -/
import Derived.Test.YtkdlkdbjgajenaaDoorNMem
namespace Go.Proofs.YtkdlkdbjgajenaaDoor
open Go.RowKit
set_option linter.unusedVariables false
set_option maxRecDepth 100000

/-- The AVAs r lie one behind the other from A on, in a block of which P holds. -/
def RAt (w : World) (P : Nat → Prop) (A : Option Addr) (r : List Nm.Ava) : Prop :=
  0 < r.length → ∃ ad, A = some ad ∧ P ad.block ∧ ∀ i (h : i < r.length), w.cell? (ad.add (i * 2)) = some (.string r[i].1) ∧ w.cell? (ad.add (i * 2 + 1)) = some (.string r[i].2)
theorem RAt.nil (w : World) (P : Nat → Prop) (A : Option Addr) : RAt w P A [] := fun h => absurd h (by simp)
theorem RAt.imp {w w' : World} {P P' : Nat → Prop} {A : Option Addr} {r : List Nm.Ava} (h : RAt w P A r) (hP : ∀ b, P b → P' b) (hw : ∀ p : Addr, P p.block → w'.cell? p = w.cell? p) : RAt w' P' A r := fun h0 => by
  obtain ⟨ad, e, hp, hc⟩ := h h0
  exact ⟨ad, e, hP _ hp, fun i hi => ⟨(hw _ (by rw [block_of_add]; exact hp)).trans (hc i hi).1, (hw _ (by rw [block_of_add]; exact hp)).trans (hc i hi).2⟩⟩
theorem RAt.past {w w' : World} {A : Option Addr} {r : List Nm.Ava} (h : RAt w (· < w.heap.size) A r) (hb : Below w.heap.size w w') : RAt w' (· < w'.heap.size) A r :=
  h.imp (fun b hb' => Nat.lt_of_lt_of_le hb' hb.size) (fun p hp => hb.cell hp)
theorem RAt.take {w : World} {P : Nat → Prop} {A : Option Addr} {r : List Nm.Ava} (h : RAt w P A r) (k : Nat) : RAt w P A (r.take k) := fun h0 => by
  rw [List.length_take] at h0
  obtain ⟨ad, e, hp, hc⟩ := h (by omega)
  refine ⟨ad, e, hp, fun i hi => ?_⟩
  have hi' : i < r.length := by rw [List.length_take] at hi; omega
  simp only [List.getElem_take]
  exact hc i hi'
theorem RAt.drew {w : World} {P : Nat → Prop} {A : Option Addr} {r : List Nm.Ava} (h : RAt w P A r) : RAt w.drew P A r := h
theorem add_odd (a : Addr) (n : Nat) : a.add (n + 1) = ⟨(a.add n).block, (a.add n).off + 1, none⟩ := by
  rw [← add_of_add]
  show Addr.add _ 1 = _
  unfold Addr.add
  rw [if_neg (by omega)]
/-- One AVA's cells, in a later world. -/
theorem RAt.kid {w wr : World} {A : Option Addr} {r : List Nm.Ava} (h : RAt w (· < w.heap.size) A r) (hb : Below w.heap.size w wr) {i : Nat} (hi : i < r.length) :
    ∃ ad, A = some ad ∧ ad.block < w.heap.size ∧ wr.cell? (ad.add (i * 2)) = some (.string r[i].1) ∧ wr.cell? ⟨(ad.add (i * 2)).block, (ad.add (i * 2)).off + 1, none⟩ = some (.string r[i].2) := by
  obtain ⟨ad, e, hp, hc⟩ := h (by omega)
  obtain ⟨h0, h1⟩ := hc i hi
  have g0 := (hb.cell (by rw [block_of_add]; exact hp)).trans h0
  have g1 := (hb.cell (by rw [block_of_add]; exact hp)).trans h1
  rw [add_odd] at g1
  exact ⟨ad, e, hp, g0, g1⟩
/-- The parts d lie one behind the other from A on, each a slice. -/
def DAt (w : World) (P : Nat → Prop) (A : Option Addr) (d : List (List Nm.Ava)) : Prop :=
  0 < d.length → ∃ ad, A = some ad ∧ P ad.block ∧ ∀ i (h : i < d.length), ∃ A' c, w.cell? (ad.add i) = some (.slice A' d[i].length c) ∧ d[i].length ≤ c ∧ RAt w P A' d[i]
theorem DAt.nil (w : World) (P : Nat → Prop) (A : Option Addr) : DAt w P A [] := fun h => absurd h (by simp)
theorem DAt.imp {w w' : World} {P P' : Nat → Prop} {A : Option Addr} {d : List (List Nm.Ava)} (h : DAt w P A d) (hP : ∀ b, P b → P' b) (hw : ∀ p : Addr, P p.block → w'.cell? p = w.cell? p) : DAt w' P' A d := fun h0 => by
  obtain ⟨ad, e, hp, hc⟩ := h h0
  refine ⟨ad, e, hP _ hp, fun i hi => ?_⟩
  obtain ⟨A', c, h1, h3, h2⟩ := hc i hi
  exact ⟨A', c, (hw _ (by rw [block_of_add]; exact hp)).trans h1, h3, h2.imp hP hw⟩
theorem DAt.past {w w' : World} {A : Option Addr} {d : List (List Nm.Ava)} (h : DAt w (· < w.heap.size) A d) (hb : Below w.heap.size w w') : DAt w' (· < w'.heap.size) A d :=
  h.imp (fun b hb' => Nat.lt_of_lt_of_le hb' hb.size) (fun p hp => hb.cell hp)
theorem DAt.drew {w : World} {P : Nat → Prop} {A : Option Addr} {d : List (List Nm.Ava)} (h : DAt w P A d) : DAt w.drew P A d := h
/-- One part's cell, in a later world. -/
theorem DAt.kid {w wr : World} {A : Option Addr} {d : List (List Nm.Ava)} (h : DAt w (· < w.heap.size) A d) (hb : Below w.heap.size w wr) {i : Nat} (hi : i < d.length) :
    ∃ ad A' c, A = some ad ∧ ad.block < w.heap.size ∧ wr.cell? (ad.add i) = some (.slice A' d[i].length c) ∧ d[i].length ≤ c ∧ RAt wr (· < wr.heap.size) A' d[i] := by
  obtain ⟨ad, e, hp, hc⟩ := h (by omega)
  obtain ⟨A', c, h0, h2, h1⟩ := hc i hi
  exact ⟨ad, A', c, e, hp, (hb.cell (by rw [block_of_add]; exact hp)).trans h0, h2, h1.past hb⟩
end Go.Proofs.YtkdlkdbjgajenaaDoor
