/- Filters that are gathered one by one into a row that the call owns; read: plain facts. -/
import Derived.Test.YticfemheneljmaaDoorFlItem
import Derived.Maps.AppendAt
import Derived.Deep.AppendLies
import Derived.Laws.ResultCell
namespace Go.Proofs.YticfemheneljmaaDoor.Fi
open Go.RowKit
set_option linter.unusedVariables false
set_option maxRecDepth 100000

/-- The kids that have been read so far: the slice v owns their cells xs; what hangs on them lies in other blocks from base on. -/
def Gath (w : World) (base : Nat) (v : Value) (xs : List Value) (done : List Fil) : Prop :=
  w.ownsRow base 25 5 v done.length xs ∧ ∀ i (h : i < done.length), Lies w (fun b => base ≤ b ∧ b < w.heap.size ∧ v.ownBlock ≠ some b) done[i] ((xs.drop (i * 5)).take 5)
theorem Gath.nil (w : World) (base : Nat) : Gath w base (.slice none 0 0) [] [] := ⟨World.ownsRow_nil _ _ _ _, fun i h => absurd h (by simp)⟩
theorem Gath.past {w w' : World} {base : Nat} {v : Value} {xs : List Value} {done : List Fil} (h : Gath w base v xs done) (hb : Below w.heap.size w w') : Gath w' base v xs done :=
  ⟨own_past h.1 hb, fun i hi => (h.2 i hi).imp (fun b hb' => ⟨hb'.1, Nat.lt_of_lt_of_le hb'.2.1 hb.size, hb'.2.2⟩) (fun p hp => hb.cell hp.2.1)⟩
theorem Gath.alloc {w : World} {base : Nat} {v : Value} {xs : List Value} {done : List Fil} (h : Gath w base v xs done) (o : Obj) : Gath (w.alloc o) base v xs done := h.past ((Below.refl _ _).alloc (Nat.le_refl _) o)
theorem Gath.drew {w : World} {base : Nat} {v : Value} {xs : List Value} {done : List Fil} (h : Gath w base v xs done) : Gath w.drew base v xs done := h.past (Below.refl _ _).drew
theorem Gath.set_ {w : World} {base : Nat} {v : Value} {xs : List Value} {done : List Fil} (h : Gath w base v xs done) {p : Addr} (hp : p.block < base) (u : Value) : Gath (w.setCell p u) base v xs done :=
  ⟨own_set h.1 hp u, fun i hi => (h.2 i hi).imp (fun b hb' => ⟨hb'.1, by simpa [World.setCell] using hb'.2.1, hb'.2.2⟩) (fun q hq => World.cell?_setCell_other w p q u (fun e => by subst e; have := hq.1; omega))⟩
theorem Gath.form {w : World} {base : Nat} {v : Value} {xs : List Value} {done : List Fil} (h : Gath w base v xs done) : ∃ (A : Option Addr) (c : Nat), v = .slice A done.length c ∧ done.length ≤ c := by
  rcases h.1.2 with ⟨rfl, h0⟩ | ⟨g, cap, cur, rfl, _, _, hc, _⟩
  · exact ⟨none, 0, by rw [h0], by omega⟩
  · exact ⟨_, _, rfl, hc⟩
/-- One more, behind the append. -/
theorem Gath.step {w w' : World} {base : Nat} {v v' : Value} {xs ys : List Value} {done : List Fil} {e : Fil} (h : Gath w base v xs done) (hys : ys.length = 5)
    (hl : Lies w (fun b => base ≤ b ∧ b < w.heap.size ∧ v.ownBlock ≠ some b) e ys) (hown : w'.ownsRow base 25 5 v' (done.length + 1) (xs ++ ys))
    (hg : w.grownBy w' v.ownBlock) (hat : v'.ownBlock = v.ownBlock ∨ v'.ownBlock = some w.heap.size) : Gath w' base v' (xs ++ ys) (done ++ [e]) := by
  have hxl : xs.length = done.length * 5 := h.1.1
  have keep : ∀ {e : Fil} {cs : List Value}, Lies w (fun b => base ≤ b ∧ b < w.heap.size ∧ v.ownBlock ≠ some b) e cs → Lies w' (fun b => base ≤ b ∧ b < w'.heap.size ∧ v'.ownBlock ≠ some b) e cs := by
    intro e cs hl
    refine hl.imp (fun b hb => ⟨hb.1, Nat.lt_of_lt_of_le hb.2.1 hg.size, ?_⟩) (fun p hp => World.cell?_of_block (hg.block p.block hp.2.1 (fun e => hp.2.2 e.symm)))
    rcases hat with h' | h'
    · rw [h']; exact hb.2.2
    · rw [h']; intro h''; injection h'' with h''; have := hb.2.1; omega
  refine ⟨by simpa using hown, fun i hi => ?_⟩
  rw [List.length_append, List.length_singleton] at hi
  by_cases hlt : i < done.length
  · have e1 : ((xs ++ ys).drop (i * 5)).take 5 = (xs.drop (i * 5)).take 5 := by
      rw [List.drop_append_of_le_length (by omega), List.take_append_of_le_length (by rw [List.length_drop]; omega)]
    rw [e1, List.getElem_append_left hlt]
    exact keep (h.2 i hlt)
  · have hi' : i = done.length := by omega
    subst hi'
    have e1 : ((xs ++ ys).drop (done.length * 5)).take 5 = ys := by
      rw [← hxl, List.drop_left, List.take_of_length_le (by omega)]
    rw [e1, List.getElem_append_right (Nat.le_refl _)]
    simpa using keep hl
/-- What has been gathered is a slice of filters. -/
theorem Gath.shut {w : World} {base : Nat} {v : Value} {xs : List Value} {done : List Fil} (h : Gath w base v xs done) :
    ∃ (A : Option Addr) (c : Nat) (ds : Nat → List Value), v = .slice A done.length c ∧ done.length ≤ c ∧ KidsAt w (fun b => base ≤ b ∧ b < w.heap.size) A done ds := by
  have hxl : xs.length = done.length * 5 := h.1.1
  obtain ⟨A, c, rfl, hc⟩ := h.form
  refine ⟨A, c, fun i => (xs.drop (i * 5)).take 5, rfl, hc, fun i hi => ?_, fun h0 => ?_, fun i hi => ?_⟩
  · rw [List.length_take, List.length_drop]; omega
  · obtain ⟨g, cap, hv, hg, hlt⟩ := World.ownsRow.form h.1 h0
    have hA : A = some ⟨g, 0, none⟩ := by injection hv
    subst hA
    refine ⟨_, rfl, ⟨hg, hlt⟩, fun i hi j u hu => ?_⟩
    refine World.ownsRow.cells h.1 (g := g) rfl (i * 5 + j) u ?_
    by_cases hj : j < 5
    · rw [List.getElem?_take_of_lt hj, List.getElem?_drop] at hu
      exact hu
    · rw [List.getElem?_eq_none (by rw [List.length_take]; omega)] at hu
      cases hu
  · exact (h.2 i hi).imp (fun b hb => ⟨hb.1, hb.2.1⟩) (fun _ _ => rfl)
theorem infoFil : (Tryd.prog.info? 25).map (fun i => (i.zero, i.size, i.bytes)) = some (some (.agg #[.int .i64 0, .string ⟨#[]⟩, .string ⟨#[]⟩, .slice none 0 0, .slice none 0 0]), 5, 88) := by kernel_rfl

theorem lp_tot {g : Nat → List UInt8 → Option (Fil × List UInt8)} {k : Int} {m : Nat} (hk : hasK k = true) (hg : ∀ m' s f r, g m' s = some (f, r) → tot f ≤ m' ∧ r.length ≤ s.length) :
    ∀ (j : Nat) (ks : List Fil) (s : List UInt8) (f : Fil) (r : List UInt8), 1 + tots ks ≤ m → lp g k m j ks s = some (f, r) → tot f ≤ m ∧ r.length ≤ s.length
  | 0, ks, s, f, r, hm, h => by cases h
  | j + 1, ks, s, f, r, hm, h => by
    rw [lp] at h
    split at h
    · injection h with h
      injection h with h1 h2
      subst h1 h2
      rw [tot, hk, if_pos rfl]
      exact ⟨hm, by rw [List.length_tail]; omega⟩
    · cases hr : g (m - (1 + tots ks)) s with
      | none => rw [hr] at h; cases h
      | some q =>
        obtain ⟨e, t⟩ := q
        rw [hr] at h
        simp only at h
        obtain ⟨h1, h2⟩ := hg _ _ _ _ hr
        have := tot_pos e
        have := lp_tot hk hg j (ks ++ [e]) t f r (by rw [tots_app, tots, tots]; omega) h
        exact ⟨this.1, by omega⟩
theorem tot_item (l : List UInt8) : tot (item l) = 1 := by
  unfold item itemOf
  rw [tot]
  split
  · rfl
  · rfl
theorem rd_tot : ∀ (n m : Nat) (s : List UInt8) (f : Fil) (r : List UInt8), rd n m s = some (f, r) → tot f ≤ m ∧ r.length ≤ s.length
  | 0, m, s, f, r, h => by cases h
  | n + 1, m, s, f, r, h => by
    rw [rd] at h
    have hs1 : s.tail.length ≤ s.length := by rw [List.length_tail]; omega
    have hs2 : s.tail.tail.length ≤ s.length := by rw [List.length_tail]; omega
    split at h
    · cases h
    · rename_i h0
      have hm : 1 ≤ m := by
        rcases Nat.eq_zero_or_pos m with h1 | h1
        · exact absurd (Or.inr h1) h0
        · exact h1
      have hL : ∀ k, hasK k = true → lp (rd n) k m m [] s.tail.tail = some (f, r) → tot f ≤ m ∧ r.length ≤ s.length := fun k hk h => by
        have := lp_tot hk (fun m' s f r h => rd_tot n m' s f r h) m [] _ f r (by rw [tots]; omega) h
        exact ⟨this.1, by omega⟩
      split at h
      · exact hL 1 rfl h
      · split at h
        · exact hL 2 rfl h
        · split at h
          · exact hL 3 rfl h
          · injection h with h
            injection h with h1 h2
            subst h1 h2
            rw [tot_item]
            have := past_len 41 s.tail
            exact ⟨hm, by omega⟩
end Go.Proofs.YticfemheneljmaaDoor.Fi
