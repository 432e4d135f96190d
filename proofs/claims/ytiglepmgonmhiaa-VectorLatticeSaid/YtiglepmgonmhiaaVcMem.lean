/- Vectors in memory: as they came in, and in rows of the call's own. -/
import Derived.Test.YtiglepmgonmhiaaCsBase
import Derived.Test.YtiglepmgonmhiaaVcSpec
import Derived.Laws.AppendOwn
import Derived.Maps.AppendAt
import Derived.Laws.CopyRow
import Derived.Laws.IdiomCopy
import Derived.Laws.MakeOwn
namespace Go.Proofs.Ytiglepmgonmhiaa.Cs
open Go.RowKit
set_option linter.unusedVariables false
set_option maxRecDepth 100000

abbrev Nm.cs (a : Nm) : List Value := [.int .i64 a.t, .int .i64 a.s, .int .i64 a.r]
abbrev Nm.v (a : Nm) : Value := cv a.t a.s a.r
def flat (l : List Nm) : List Value := l.flatMap Nm.cs
theorem flat_cons (a : Nm) (l : List Nm) : flat (a :: l) = .int .i64 a.t :: .int .i64 a.s :: .int .i64 a.r :: flat l := rfl
theorem flat_len (l : List Nm) : (flat l).length = l.length * 3 := by
  induction l with
  | nil => rfl
  | cons a l ih =>
    rw [flat_cons]
    simp only [List.length_cons, ih]
    omega
theorem flat_app (l m : List Nm) : flat (l ++ m) = flat l ++ flat m := by simp [flat]
theorem flat_at (l : List Nm) (i : Nat) (h : i < l.length) : (flat l)[i * 3]? = some (.int .i64 l[i].t) ∧ (flat l)[i * 3 + 1]? = some (.int .i64 l[i].s) ∧ (flat l)[i * 3 + 2]? = some (.int .i64 l[i].r) := by
  induction l generalizing i with
  | nil => simp at h
  | cons a l ih =>
    rw [flat_cons]
    cases i with
    | zero => exact ⟨rfl, rfl, rfl⟩
    | succ i =>
      obtain ⟨h1, h2, h3⟩ := ih i (by simpa using h)
      rw [show (i + 1) * 3 = i * 3 + 3 by omega, show i * 3 + 3 + 1 = i * 3 + 1 + 3 by omega, show i * 3 + 3 + 2 = i * 3 + 2 + 3 by omega]
      simp only [List.getElem?_cons_succ, List.getElem_cons_succ]
      exact ⟨h1, h2, h3⟩
theorem flat_one (l : List Nm) : ∀ v ∈ flat l, v.oneCell' = true := by
  induction l with
  | nil => intro v hv; simp [flat] at hv
  | cons a l ih =>
    intro v hv
    rw [flat_cons] at hv
    simp only [List.mem_cons] at hv
    rcases hv with rfl | rfl | rfl | hv
    · rfl
    · rfl
    · rfl
    · exact ih v hv
theorem flat_setL (l : List Nm) (tl : List Value) (k : Nat) (hk : k < l.length) (x : Nm) : (((flat l ++ tl).set (k * 3) (.int .i64 x.t)).set (k * 3 + 1) (.int .i64 x.s)).set (k * 3 + 2) (.int .i64 x.r) = flat (l.set k x) ++ tl := by
  induction l generalizing k with
  | nil => simp at hk
  | cons a l ih =>
    cases k with
    | zero => rfl
    | succ k =>
      have h := ih k (by simpa using hk)
      rw [show (k + 1) * 3 = k * 3 + 1 + 1 + 1 by omega, show k * 3 + 1 + 1 + 1 + 1 = k * 3 + 1 + 1 + 1 + 1 by omega, show k * 3 + 1 + 1 + 1 + 2 = k * 3 + 2 + 1 + 1 + 1 by omega]
      simp only [flat_cons, List.set_cons_succ, List.cons_append]
      rw [← h]
theorem flat_set (l : List Nm) (tl : List Value) (k : Nat) (hk : k < l.length) (x : Nm) : (((flat l ++ tl).toArray.setIfInBounds (k * 3) (.int .i64 x.t)).setIfInBounds (k * 3 + 1) (.int .i64 x.s)).setIfInBounds (k * 3 + 2) (.int .i64 x.r) = (flat (l.set k x) ++ tl).toArray := by
  rw [← flat_setL l tl k hk x]
  simp [List.setIfInBounds_toArray]

/-- The numbers l lie one behind the other from A on. -/
def VecIn (w : World) (A : Option Addr) (l : List Nm) : Prop :=
  0 < l.length → ∃ ad, A = some ad ∧ ad.block < w.heap.size ∧ ∀ i (h : i < l.length) (j : Nat) u, (l[i].cs)[j]? = some u → w.cell? (ad.add (i * 3 + j)) = some u
theorem VecIn.nil (w : World) (A : Option Addr) : VecIn w A [] := fun h => absurd h (by simp)
theorem VecIn.past {w w' : World} {A : Option Addr} {l : List Nm} (h : VecIn w A l) (hb : Below w.heap.size w w') : VecIn w' A l := by
  intro h0
  obtain ⟨ad, e, hp, hc⟩ := h h0
  exact ⟨ad, e, Nat.lt_of_lt_of_le hp hb.size, fun i hi j u hu => (hb.cell (by rw [block_of_add]; exact hp)).trans (hc i hi j u hu)⟩
theorem add_next (a : Addr) (n i : Nat) (hi : 0 < i) : a.add (n + i) = ⟨(a.add n).block, (a.add n).off + i, none⟩ := by
  unfold Addr.add
  by_cases h : n = 0 <;> simp [h] <;> omega
/-- The cells of the i-th one. -/
theorem VecIn.cells {w : World} {A : Option Addr} {l : List Nm} (h : VecIn w A l) {i : Nat} (hi : i < l.length) :
    ∃ (ad : Addr), A = some ad ∧ ad.block < w.heap.size ∧ w.cell? (ad.add (i * 3)) = some (.int .i64 l[i].t) ∧ w.cell? ⟨(ad.add (i * 3)).block, (ad.add (i * 3)).off + 1, none⟩ = some (.int .i64 l[i].s) ∧
      w.cell? ⟨(ad.add (i * 3)).block, (ad.add (i * 3)).off + 2, none⟩ = some (.int .i64 l[i].r) := by
  obtain ⟨ad, e, hp, hc⟩ := h (by omega)
  have h0 := hc i hi 0 _ rfl
  have h1 := hc i hi 1 _ rfl
  have h2 := hc i hi 2 _ rfl
  rw [add_next _ _ _ (by omega)] at h1 h2
  exact ⟨ad, e, hp, h0, h1, h2⟩
/-- v is a slice of the numbers l in a row from base on that the call owns. -/
def OwnV (w : World) (base : Nat) (v : Value) (l : List Nm) : Prop := w.ownsRow base 25 3 v l.length (flat l)
theorem own_past {w w' : World} {base : Nat} {e : TypeId} {n k : Nat} {v : Value} {xs : List Value} (h : w.ownsRow base e k v n xs) (hb : Below w.heap.size w w') : w'.ownsRow base e k v n xs :=
  h.kept (row := none) ⟨hb.os, hb.tape, hb.output, hb.size, fun k hk _ => hb.block k hk⟩ (by cases hv : v.ownBlock <;> simp)
theorem OwnV.past {w w' : World} {base : Nat} {v : Value} {l : List Nm} (h : OwnV w base v l) (hb : Below w.heap.size w w') : OwnV w' base v l := own_past h hb
theorem OwnV.nil (w : World) (base : Nat) : OwnV w base (.slice none 0 0) [] := World.ownsRow_nil w base _ 3
/-- The row's block. -/
theorem OwnV.blk {w : World} {base : Nat} {v : Value} {l : List Nm} (h : OwnV w base v l) (h0 : 0 < l.length) :
    ∃ g c tl, v = .slice (some ⟨g, 0, none⟩) l.length c ∧ base ≤ g ∧ l.length ≤ c ∧ c ≤ maxLen ∧ (flat l ++ tl).length = c * 3 ∧ Blk w g 25 (flat l ++ tl).toArray := by
  rcases h.2 with ⟨rfl, h1⟩ | ⟨g, cap, cur, rfl, hg, hh, hc, hm, hs, ht⟩
  · omega
  · have e : flat l ++ cur.toList.drop (l.length * 3) = cur.toList := by rw [← ht, List.take_append_drop]
    refine ⟨g, cap, cur.toList.drop (l.length * 3), rfl, hg, hc, hm, ?_, ?_⟩
    · rw [e]; simpa using hs
    · rw [e]; exact hh
theorem OwnV.of_blk {w : World} {base g c : Nat} {l : List Nm} {tl : List Value} (hg : base ≤ g) (hc : l.length ≤ c) (hm : c ≤ maxLen) (hs : (flat l ++ tl).length = c * 3) (hB : Blk w g 25 (flat l ++ tl).toArray) : OwnV w base (.slice (some ⟨g, 0, none⟩) l.length c) l := by
  refine ⟨flat_len l, .inr ⟨g, c, _, rfl, hg, hB, hc, hm, by simpa using hs, ?_⟩⟩
  rw [← flat_len l]
  exact List.take_left
theorem OwnV.cap {w : World} {base n c : Nat} {A : Option Addr} {l : List Nm} (h : OwnV w base (.slice A n c) l) : l.length ≤ c := by
  rcases h.2 with ⟨h1, h2⟩ | ⟨g, cap, cur, h1, hg, hh, hc, hm, hs, ht⟩
  · omega
  · injection h1 with h1 h2 h3
    omega
theorem OwnV.form {w : World} {base : Nat} {v : Value} {l : List Nm} (h : OwnV w base v l) : ∃ A c, v = .slice A l.length c ∧ VecIn w A l := by
  by_cases h0 : 0 < l.length
  · obtain ⟨g, c, tl, rfl, hg, hc, hm, hs, hB⟩ := h.blk h0
    refine ⟨_, _, rfl, fun _ => ⟨_, rfl, hB.lt, fun i hi j u hu => ?_⟩⟩
    have e : (⟨g, 0, none⟩ : Addr).add (i * 3 + j) = ⟨g, i * 3 + j, none⟩ := by rw [Addr.add_lit, Nat.zero_add]
    rw [e, hB.cell]
    obtain ⟨h1, h2, h3⟩ := flat_at l i hi
    have hj : j < 3 := by
      have := (List.getElem?_eq_some_iff.1 hu).1
      simpa using this
    have hfl := flat_len l
    have hl : (flat l ++ tl).toArray[i * 3 + j]? = (flat l)[i * 3 + j]? := by
      rw [List.getElem?_toArray, List.getElem?_append_left (by omega)]
    rw [hl]
    match j, hj, hu with
    | 0, _, hu => simpa using h1.trans hu
    | 1, _, hu => simpa using h2.trans hu
    | 2, _, hu => simpa using h3.trans hu
  · have e : l = [] := List.eq_nil_of_length_eq_zero (by omega)
    subst e
    rcases h.2 with ⟨rfl, h1⟩ | ⟨g, cap, cur, rfl, hg, hh, hc, hm, hs, ht⟩
    · exact ⟨_, _, rfl, VecIn.nil w _⟩
    · exact ⟨_, _, rfl, VecIn.nil w _⟩
theorem infoN : (Try.prog.info? 25).map (fun i => (i.zero, i.size, i.bytes)) = some (some (.agg #[.int .i64 0, .int .i64 0, .int .i64 0]), 3, 24) := by kernel_rfl
theorem infoParts {P : Program} {e : TypeId} {z : Option Value} {s b : Nat} (h : (P.info? e).map (fun i => (i.zero, i.size, i.bytes)) = some (z, s, b)) : ∃ i, P.info? e = some i ∧ i.zero = z ∧ i.size = s ∧ i.bytes = b := by
  cases e : P.info? e with
  | none => rw [e] at h; cases h
  | some i => rw [e] at h; injection h with h; injection h with h1 h2; injection h2 with h2 h3; exact ⟨i, rfl, h1, h2, h3⟩
end Go.Proofs.Ytiglepmgonmhiaa.Cs
