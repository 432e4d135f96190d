/- Filters that are gathered one by one into a row that the call owns. -/
import Derived.Test.YtconghaebebncaaGreatDoorG2
import Derived.Maps.AppendAt
import Derived.Deep.AppendLies
import Derived.Laws.ResultCell
namespace Go.Proofs.YtconghaebebncaaGreatDoor.Fi
open Go.RowKit
set_option linter.unusedVariables false
set_option maxRecDepth 100000

/-- The kids that have been read so far: the slice v owns their cells xs; what hangs on them lies in other blocks from base on. -/
def Gath (w : World) (base : Nat) (v : Value) (xs : List Value) (done : List Fil) : Prop :=
  w.ownsRow base 25 5 v done.length xs ∧ ∀ i (h : i < done.length), Lies w (fun b => base ≤ b ∧ b < w.heap.size ∧ v.ownBlock ≠ some b) done[i] ((xs.drop (i * 5)).take 5)
theorem Gath.nil (w : World) (base : Nat) : Gath w base (.slice none 0 0) [] [] := ⟨World.ownsRow_nil _ _ _ _, fun i h => absurd h (by simp)⟩
theorem Gath.past {w w' : World} {base : Nat} {v : Value} {xs : List Value} {done : List Fil} (h : Gath w base v xs done) (hb : Below w.heap.size w w') : Gath w' base v xs done :=
  ⟨own_past h.1 hb, fun i hi => (h.2 i hi).imp (fun b hb' => ⟨hb'.1, Nat.lt_of_lt_of_le hb'.2.1 hb.size, hb'.2.2⟩) (fun p hp => hb.cell hp.2.1)⟩
theorem Gath.alloc {w : World} {base : Nat} {v : Value} {xs : List Value} {done : List Fil} (h : Gath w base v xs done) (o : Obj) : Gath (w.alloc o) base v xs done := h.past ((Below.refl _ _).alloc (Nat.le_refl _) o)
theorem Gath.drew {w : World} {base : Nat} {v : Value} {xs : List Value} {done : List Fil} (h : Gath w base v xs done) : Gath w.drew base v xs done := h.past (Below.refl _ _).drew
theorem Gath.form {w : World} {base : Nat} {v : Value} {xs : List Value} {done : List Fil} (h : Gath w base v xs done) : ∃ (A : Option Addr) (c : Nat), v = .slice A done.length c ∧ done.length ≤ c := by
  rcases h.1.2 with ⟨rfl, h0⟩ | ⟨g, cap, cur, rfl, _, _, hc, _⟩
  · exact ⟨none, 0, by rw [h0], by omega⟩
  · exact ⟨_, _, rfl, hc⟩
/-- One more, behind the append. -/
theorem Gath.step {w w' : World} {base : Nat} {v v' : Value} {xs ys : List Value} {done : List Fil} {e : Fil} (h : Gath w base v xs done) (hys : ys.length = 5)
    (hl : Lies w (fun b => base ≤ b ∧ b < w.heap.size ∧ v.ownBlock ≠ some b) e ys) (hown : w'.ownsRow base 25 5 v' (done.length + 1) (xs ++ ys))
    (hg : w.grownBy w' v.ownBlock) (hat : v'.ownBlock = v.ownBlock ∨ v'.ownBlock = some w.heap.size) : Gath w' base v' (xs ++ ys) (done ++ [e]) := by
  have hxl : xs.length = done.length * 5 := h.1.1
  have keep : ∀ {e : Fil} {cs : List Value}, Lies w (fun b => base ≤ b ∧ b < w.heap.size ∧ v.ownBlock ≠ some b) e cs → Lies w' (fun b => base ≤ b ∧ b < w'.heap.size ∧ v'.ownBlock ≠ some b) e cs := by
    intro e cs hl
    refine hl.imp (fun b hb => ⟨hb.1, Nat.lt_of_lt_of_le hb.2.1 hg.size, ?_⟩) (fun p hp => World.cell?_of_block (hg.block p.block hp.2.1 (fun e => hp.2.2 e.symm)))
    rcases hat with h' | h'
    · rw [h']; exact hb.2.2
    · rw [h']; intro h''; injection h'' with h''; have := hb.2.1; omega
  refine ⟨by simpa using hown, fun i hi => ?_⟩
  rw [List.length_append, List.length_singleton] at hi
  by_cases hlt : i < done.length
  · have e1 : ((xs ++ ys).drop (i * 5)).take 5 = (xs.drop (i * 5)).take 5 := by
      rw [List.drop_append_of_le_length (by omega), List.take_append_of_le_length (by rw [List.length_drop]; omega)]
    rw [e1, List.getElem_append_left hlt]
    exact keep (h.2 i hlt)
  · have hi' : i = done.length := by omega
    subst hi'
    have e1 : ((xs ++ ys).drop (done.length * 5)).take 5 = ys := by
      rw [← hxl, List.drop_left, List.take_of_length_le (by omega)]
    rw [e1, List.getElem_append_right (Nat.le_refl _)]
    simpa using keep hl
/-- What has been gathered is a slice of filters. -/
theorem Gath.shut {w : World} {base : Nat} {v : Value} {xs : List Value} {done : List Fil} (h : Gath w base v xs done) :
    ∃ (A : Option Addr) (c : Nat) (ds : Nat → List Value), v = .slice A done.length c ∧ done.length ≤ c ∧ KidsAt w (fun b => base ≤ b ∧ b < w.heap.size) A done ds := by
  have hxl : xs.length = done.length * 5 := h.1.1
  obtain ⟨A, c, rfl, hc⟩ := h.form
  refine ⟨A, c, fun i => (xs.drop (i * 5)).take 5, rfl, hc, fun i hi => ?_, fun h0 => ?_, fun i hi => ?_⟩
  · rw [List.length_take, List.length_drop]; omega
  · obtain ⟨g, cap, hv, hg, hlt⟩ := World.ownsRow.form h.1 h0
    have hA : A = some ⟨g, 0, none⟩ := by injection hv
    subst hA
    refine ⟨_, rfl, ⟨hg, hlt⟩, fun i hi j u hu => ?_⟩
    refine World.ownsRow.cells h.1 (g := g) rfl (i * 5 + j) u ?_
    by_cases hj : j < 5
    · rw [List.getElem?_take_of_lt hj, List.getElem?_drop] at hu
      exact hu
    · rw [List.getElem?_eq_none (by rw [List.length_take]; omega)] at hu
      cases hu
  · exact (h.2 i hi).imp (fun b hb => ⟨hb.1, hb.2.1⟩) (fun _ _ => rfl)
theorem infoFil : (Tryz.prog.info? 25).map (fun i => (i.zero, i.size, i.bytes)) = some (some (.agg #[.int .i64 0, .string ⟨#[]⟩, .string ⟨#[]⟩, .slice none 0 0, .slice none 0 0]), 5, 88) := by kernel_rfl
end Go.Proofs.YtconghaebebncaaGreatDoor.Fi
