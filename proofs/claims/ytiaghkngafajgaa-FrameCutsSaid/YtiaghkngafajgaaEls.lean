/- A slice of elements that came in as data. -/
import Derived.Test.YtiaghkngafajgaaOpen
namespace Go.Proofs.Ytiaghkngafajgaa
open Go.ChangeShapes Go.WideShapes Go.RowKit Go.Deep
set_option linter.unusedVariables false

/-- The elements ks lie in the slice's first len places. -/
def ElsIn (w : World) (A : Option Addr) (len : Nat) (ks : List El) : Prop := ks.length = len ∧ ∃ ds, KidsAt w (· < w.heap.size) A ks ds
theorem open_els {H : Type} {enc : TypeId × Value → H} {w : World} {base : Nat} {spare : Nat → Bool} {held : Bool} {r : Reach} {b0 : Nat} {v : Value} {d : DataW H} {p : List MemPlace}
    (hv : Value.okWide Try.prog w r b0 39 v) (h : DataW.Trod enc Try.prog w base spare held 39 v d p) :
    ∃ (A : Option Addr) (len cap : Nat) (ks : List El), v = .slice A len cap ∧ ElsIn w A len ks := by
  obtain ⟨a, len, cap, rfl⟩ := okWide_slice Try.underlying39 hv
  obtain ⟨fuel, hf⟩ := h
  rcases DataW.trod_slice Try.underlying39 hf with ⟨hc, _⟩ | ⟨ad, len', cap', elems, rest, m, hm, hc, _, _, hlc, hcm, hel, hev, _, _⟩
  · have hc' : (Value.slice a len cap) = .slice none 0 0 := by simpa [Value.cells] using hc
    injection hc' with h1 h2 h3
    subst h1 h2 h3
    exact ⟨_, _, _, [], rfl, rfl, fun _ => [], fun i h => absurd h (by simp), fun h => absurd h (by simp), fun i h => absurd h (by simp)⟩
  · have hc' : (Value.slice a len cap) = .slice (some ad) len' cap' := by simpa [Value.cells] using hc
    injection hc' with h1 h2 h3
    subst h1 h2 h3
    have one : ∀ i, i < len → ∃ (q : El × List Value), q.2.length = 3 ∧ (∀ j u, q.2[j]? = some u → w.cell? (ad.add (i * 3 + j)) = some u) ∧ Lies w (· < w.heap.size) q.1 q.2 := by
      intro i hi
      have h1 := hev i hi
      rw [cellsEl] at h1
      have h2 : elems[i]? = some (elems[i]'(by omega)) := List.getElem?_eq_getElem (by omega)
      rw [h2, Option.bind_eq_some_iff] at h1
      obtain ⟨cs', hcs', hof⟩ := h1
      obtain ⟨_, hl', hcell⟩ := World.cells?_some hcs'
      obtain ⟨e, t', b', A', n', c', hcs, hlies⟩ := lies_of_trod m m (Nat.le_refl _) cs' _ hof
      refine ⟨(e, cs'), hl', fun j u hu => ?_, hlies⟩
      have hj : j < 3 := by
        have h9 : j < cs'.length := (List.getElem?_eq_some_iff.1 hu).1
        omega
      have := hcell j hj
      rw [Go.Deep.add_add] at this
      rw [this]
      exact hu
    have : Inhabited (El × List Value) := ⟨(.mk 0 ⟨#[]⟩ [], [])⟩
    obtain ⟨q, hq⟩ := choose_lt one
    have hkl : ((List.range len).map fun i => (q i).1).length = len := by simp
    refine ⟨some ad, len, cap, (List.range len).map fun i => (q i).1, rfl, hkl, fun i => (q i).2, fun i hi => (hq i (by rw [hkl] at hi; exact hi)).1, fun h0 => ⟨ad, rfl, ?_, fun i hi => (hq i (by rw [hkl] at hi; exact hi)).2.1⟩, fun i hi => ?_⟩
    · have h0' : 0 < len := by rw [hkl] at h0; exact h0
      have hz := hq 0 h0'
      have hl0 : (q 0).2.length = 3 := hz.1
      have := hz.2.1 0 ((q 0).2[0]'(by omega)) (List.getElem?_eq_getElem (by omega))
      have hb := cell_lt this
      rwa [block_of_add] at hb
    · have hi' : i < len := by rw [hkl] at hi; exact hi
      have := (hq i hi').2.2
      simpa using this
end Go.Proofs.Ytiaghkngafajgaa
