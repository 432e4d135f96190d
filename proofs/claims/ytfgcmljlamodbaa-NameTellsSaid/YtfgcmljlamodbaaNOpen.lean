/- Parts and names that came in as data. -/
import Derived.Test.YtfgcmljlamodbaaNName
import Derived.Test.YtfgcmljlamodbaaNMem
import Derived.ProofKit
import Derived.Deep.Strs
import Derived.Lib.SmallJoins
namespace Go.Proofs.Ytfgcmljlamodbaa
open Go.ChangeShapes Go.WideShapes Go.RowKit Go.Deep
set_option linter.unusedVariables false

theorem cellsA : Try.prog.cellsOf 47 = 2 := by kernel_rfl
theorem cellsR : Try.prog.cellsOf 25 = 1 := by kernel_rfl
theorem cellsStr : Try.prog.cellsOf 9 = 1 := by kernel_rfl
theorem ava_of_trod {H : Type} {enc : TypeId × Value → H} {w : World} {base : Nat} {spare : Nat → Bool} {held : Bool} {fuel : Nat} {cs : List Value} {x : DataW H × List MemPlace}
    (h : DataW.trod enc Try.prog w base spare held fuel 47 cs = some x) : ∃ a : Nm.Ava, cs = [.string a.1, .string a.2] := by
  obtain ⟨xs, n, rfl, _, hl, hlen, hg⟩ := DataW.trod_struct Try.underlying47 h
  rw [cellsA] at hl
  match cs, hl with
  | [c0, c1], _ =>
    have g0 := hg 0 _ rfl
    have g1 := hg 1 _ rfl
    have l2 : xs.length = 2 := hlen
    match xs, l2 with
    | [y0, y1], _ =>
    have g0' : DataW.trod enc Try.prog w base spare held n 9 [c0] = some y0 := by simpa [cellsStr] using g0
    have g1' : DataW.trod enc Try.prog w base spare held n 9 [c1] = some y1 := by simpa [cellsStr] using g1
    obtain ⟨s, hs, _, _⟩ := DataW.trod_string Try.underlying9 g0'
    obtain ⟨s', hs', _, _⟩ := DataW.trod_string Try.underlying9 g1'
    simp only [List.cons.injEq, and_true] at hs hs'
    subst hs hs'
    exact ⟨(s, s'), rfl⟩
theorem rdn_of_trod {H : Type} {enc : TypeId × Value → H} {w : World} {base : Nat} {spare : Nat → Bool} {held : Bool} {fuel : Nat} {cs : List Value} {x : DataW H × List MemPlace}
    (h : DataW.trod enc Try.prog w base spare held fuel 25 cs = some x) : ∃ (r : List Nm.Ava) (A : Option Addr) (c : Nat), cs = [.slice A r.length c] ∧ r.length ≤ c ∧ r.length ≤ maxLen ∧ RAt w (· < w.heap.size) A r := by
  rcases DataW.trod_slice Try.underlying25 h with ⟨hc, _⟩ | ⟨ad, len, cap, elems, rest, m, hm, hc, _, _, hlc, hcm, hel, hev, _, _⟩
  · exact ⟨[], none, 0, hc, Nat.le_refl _, Nat.zero_le _, RAt.nil _ _ _⟩
  · have one : ∀ i, i < len → ∃ a : Nm.Ava, w.cell? (ad.add (i * 2)) = some (.string a.1) ∧ w.cell? (ad.add (i * 2 + 1)) = some (.string a.2) := by
      intro i hi
      have h1 := hev i hi
      rw [cellsA] at h1
      have h2 : elems[i]? = some (elems[i]'(by omega)) := List.getElem?_eq_getElem (by omega)
      rw [h2, Option.bind_eq_some_iff] at h1
      obtain ⟨cs', hcs', hof⟩ := h1
      obtain ⟨_, hl', hcell⟩ := World.cells?_some hcs'
      obtain ⟨a, rfl⟩ := ava_of_trod hof
      have e0 := hcell 0 (by simp)
      have e1 := hcell 1 (by simp)
      rw [Go.Deep.add_add] at e0 e1
      exact ⟨a, e0, e1⟩
    have : Inhabited Nm.Ava := ⟨(⟨#[]⟩, ⟨#[]⟩)⟩
    obtain ⟨q, hq⟩ := choose_lt one
    have hkl : ((List.range len).map q).length = len := by simp
    refine ⟨(List.range len).map q, some ad, cap, by rw [hkl]; exact hc, by rw [hkl]; exact hlc, by rw [hkl]; omega, fun h0 => ⟨ad, rfl, ?_, fun i hi => ?_⟩⟩
    · rw [hkl] at h0
      have := cell_lt (hq 0 h0).1
      rwa [block_of_add] at this
    · rw [hkl] at hi
      simpa using hq i hi
theorem open_rdn {H : Type} {enc : TypeId × Value → H} {w : World} {base : Nat} {spare : Nat → Bool} {held : Bool} {r : Reach} {b0 : Nat} {v : Value} {d : DataW H} {p : List MemPlace}
    (hv : Value.okWide Try.prog w r b0 25 v) (h : DataW.Trod enc Try.prog w base spare held 25 v d p) :
    ∃ (r : List Nm.Ava) (A : Option Addr) (c : Nat), v = .slice A r.length c ∧ r.length ≤ c ∧ r.length ≤ maxLen ∧ RAt w (· < w.heap.size) A r := by
  obtain ⟨a, len, cap, rfl⟩ := okWide_slice Try.underlying25 hv
  obtain ⟨fuel, hf⟩ := h
  obtain ⟨r, A, c, hc, h1⟩ := rdn_of_trod hf
  have hc' : (Value.slice a len cap) = .slice A r.length c := by simpa [Value.cells] using hc
  exact ⟨r, A, c, hc', h1⟩
theorem open_dn {H : Type} {enc : TypeId × Value → H} {w : World} {base : Nat} {spare : Nat → Bool} {held : Bool} {r : Reach} {b0 : Nat} {v : Value} {d : DataW H} {p : List MemPlace}
    (hv : Value.okWide Try.prog w r b0 23 v) (h : DataW.Trod enc Try.prog w base spare held 23 v d p) :
    ∃ (l : List (List Nm.Ava)) (A : Option Addr) (c : Nat), v = .slice A l.length c ∧ l.length ≤ c ∧ l.length ≤ maxLen ∧ (∀ r ∈ l, r.length ≤ maxLen) ∧ DAt w (· < w.heap.size) A l := by
  obtain ⟨a, len, cap, rfl⟩ := okWide_slice Try.underlying23 hv
  obtain ⟨fuel, hf⟩ := h
  rcases DataW.trod_slice Try.underlying23 hf with ⟨hc, _⟩ | ⟨ad, len', cap', elems, rest, m, hm, hc, _, _, hlc, hcm, hel, hev, _, _⟩
  · have hc' : (Value.slice a len cap) = .slice none 0 0 := by simpa [Value.cells] using hc
    exact ⟨[], none, 0, hc', Nat.le_refl _, Nat.zero_le _, fun r hr => by simp at hr, DAt.nil _ _ _⟩
  · have hc' : (Value.slice a len cap) = .slice (some ad) len' cap' := by simpa [Value.cells] using hc
    injection hc' with h1 h2 h3
    subst h1 h2 h3
    have one : ∀ i, i < len → ∃ q : List Nm.Ava, q.length ≤ maxLen ∧ ∃ A' c, w.cell? (ad.add i) = some (.slice A' q.length c) ∧ q.length ≤ c ∧ RAt w (· < w.heap.size) A' q := by
      intro i hi
      have h1 := hev i hi
      rw [cellsR] at h1
      have h2 : elems[i]? = some (elems[i]'(by omega)) := List.getElem?_eq_getElem (by omega)
      rw [h2, Option.bind_eq_some_iff] at h1
      obtain ⟨cs', hcs', hof⟩ := h1
      obtain ⟨_, hl', hcell⟩ := World.cells?_some hcs'
      obtain ⟨r, A', c', rfl, k1, k2, k3⟩ := rdn_of_trod hof
      have e0 := hcell 0 (by simp)
      rw [Go.Deep.add_add, Nat.mul_one] at e0
      exact ⟨r, k2, A', c', e0, k1, k3⟩
    obtain ⟨q, hq⟩ := choose_lt one
    have hkl : ((List.range len).map q).length = len := by simp
    refine ⟨(List.range len).map q, some ad, cap, by rw [hkl], by rw [hkl]; exact hlc, by rw [hkl]; omega, fun r hr => ?_, fun h0 => ⟨ad, rfl, ?_, fun i hi => ?_⟩⟩
    · obtain ⟨i, hi, rfl⟩ := List.mem_map.1 hr
      exact (hq i (List.mem_range.1 hi)).1
    · rw [hkl] at h0
      obtain ⟨_, A', c', e, _⟩ := hq 0 h0
      have := cell_lt e
      rwa [block_of_add] at this
    · rw [hkl] at hi
      have := (hq i hi).2
      simpa using this
end Go.Proofs.Ytfgcmljlamodbaa
