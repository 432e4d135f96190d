/- Slices of strings and of bytes, that came in as data. -/
import Derived.Test.YtiaghkngafajgaaEl
import Derived.Test.YtiaghkngafajgaaProg
import Derived.ProofKit
import Derived.SliceStrings
import Derived.ChangeSlices
namespace Go.Proofs.Ytiaghkngafajgaa
open Go.ChangeShapes Go.WideShapes Go.RowKit
set_option linter.unusedVariables false

/-- The strings ss lie one behind the other from A on. -/
def StrsAt (w : World) (A : Option Addr) (ss : List ByteArray) : Prop :=
  0 < ss.length → ∃ ad, A = some ad ∧ ad.block < w.heap.size ∧ ∀ i (h : i < ss.length), w.cell? (ad.add i) = some (.string ss[i])
theorem StrsAt.kid {w wr : World} {A : Option Addr} {ss : List ByteArray} (h : StrsAt w A ss) (hb : Below w.heap.size w wr) {i : Nat} (hi : i < ss.length) :
    ∃ ad, A = some ad ∧ ad.block < w.heap.size ∧ wr.cell? (ad.add i) = some (.string ss[i]) := by
  obtain ⟨ad, e, hp, hc⟩ := h (by omega)
  exact ⟨ad, e, hp, batA hb (by rw [block_of_add]; exact hp) (hc i hi)⟩
theorem StrsAt.at_ {w wr : World} {ad : Addr} {ss : List ByteArray} (h : StrsAt w (some ad) ss) (hb : Below w.heap.size w wr) {i : Nat} (hi : i < ss.length) : wr.cell? (ad.add i) = some (.string ss[i]) := by
  obtain ⟨ad', e, hp, hc⟩ := h.kid hb hi
  injection e with e
  rw [e]; exact hc
/-- ss lies in the slice's first len places; each string has a length that there may be. -/
def StrsIn (w : World) (A : Option Addr) (len : Nat) (ss : List ByteArray) : Prop := ss.length = len ∧ StrsAt w A ss ∧ ∀ s ∈ ss, s.size ≤ maxLen
theorem strs_lt {w : World} {p : Addr} {v : Value} (h : w.cell? p = some v) : p.block < w.heap.size := by
  rcases Nat.lt_or_ge p.block w.heap.size with hlt | hge
  · exact hlt
  · simp [World.cell?, Array.getElem?_eq_none hge] at h
theorem open_strs {H : Type} {enc : TypeId × Value → H} {w : World} {base : Nat} {spare : Nat → Bool} {held : Bool} {r : Reach} {b0 : Nat} {v : Value} {d : DataW H} {p : List MemPlace}
    (hv : Value.okWide Try.prog w r b0 22 v) (h : DataW.Trod enc Try.prog w base spare held 22 v d p) :
    ∃ (A : Option Addr) (len cap : Nat) (ss : List ByteArray), v = .slice A len cap ∧ StrsIn w A len ss := by
  obtain ⟨a, len, cap, rfl⟩ := okWide_slice Try.underlying22 hv
  obtain ⟨fuel, hf⟩ := h
  rcases open_strings Try.underlying22 Try.underlying9 (by kernel_rfl) hf with ⟨hc, _⟩ | ⟨ad, len', cap', ss, hc, _, hlc, hcm, hl, _, hcell, hsz⟩
  · refine ⟨_, _, _, [], rfl, ?_⟩
    have hc' : (Value.slice a len cap) = .slice none 0 0 := by simpa [Value.cells] using hc
    injection hc' with h1 h2 h3
    subst h1 h2 h3
    exact ⟨rfl, fun h => absurd h (by simp), fun s hs => by simp at hs⟩
  · refine ⟨_, _, _, ss.take len', rfl, ?_⟩
    have hc' : (Value.slice a len cap) = .slice (some ad) len' cap' := by simpa [Value.cells] using hc
    injection hc' with h1 h2 h3
    subst h1 h2 h3
    have hle : len ≤ ss.length := by rw [hl]; split <;> omega
    have hcl : ∀ i (hi : i < (ss.take len).length), w.cell? (ad.add i) = some (.string (ss.take len)[i]) := by
      intro i hi
      rw [List.length_take] at hi
      rw [hcell i (by omega)]
      congr 2
      simp [List.getD, List.getElem?_eq_getElem (show i < ss.length by omega)]
    refine ⟨by rw [List.length_take]; omega, fun h0 => ⟨ad, rfl, ?_, hcl⟩, fun s hs => hsz s (List.mem_of_mem_take hs)⟩
    have := strs_lt (hcl 0 h0)
    rwa [block_of_add] at this
/-- The numbers xs lie one behind the other from A on: bytes. -/
def NumsAt (w : World) (A : Option Addr) (xs : List Int) : Prop :=
  (∀ x ∈ xs, 0 ≤ x ∧ x ≤ 255) ∧ (0 < xs.length → ∃ ad, A = some ad ∧ ad.block < w.heap.size ∧ ∀ i (h : i < xs.length), w.cell? (ad.add i) = some (.int .u8 xs[i]))
theorem NumsAt.kid {w wr : World} {A : Option Addr} {xs : List Int} (h : NumsAt w A xs) (hb : Below w.heap.size w wr) {i : Nat} (hi : i < xs.length) :
    ∃ ad, A = some ad ∧ ad.block < w.heap.size ∧ wr.cell? (ad.add i) = some (.int .u8 xs[i]) ∧ 0 ≤ xs[i] ∧ xs[i] ≤ 255 := by
  obtain ⟨ad, e, hp, hc⟩ := h.2 (by omega)
  have := h.1 xs[i] (List.getElem_mem hi)
  exact ⟨ad, e, hp, batA hb (by rw [block_of_add]; exact hp) (hc i hi), this.1, this.2⟩
/-- xs lies in the slice's first len places. -/
def NumsIn (w : World) (A : Option Addr) (len : Nat) (xs : List Int) : Prop := xs.length = len ∧ NumsAt w A xs
theorem wfu8 {a : Int} (h : (Lit.int .u8 a).wf = true) : 0 ≤ a ∧ a ≤ 255 := by simpa [Lit.wf, IntKind.min, IntKind.max, IntKind.signed, IntKind.bits] using h
theorem open_nums {H : Type} {enc : TypeId × Value → H} {w : World} {base : Nat} {spare : Nat → Bool} {held : Bool} {r : Reach} {b0 : Nat} {v : Value} {d : DataW H} {p : List MemPlace}
    (hv : Value.okWide Try.prog w r b0 23 v) (h : DataW.Trod enc Try.prog w base spare held 23 v d p) :
    ∃ (A : Option Addr) (len cap : Nat) (xs : List Int), v = .slice A len cap ∧ NumsIn w A len xs ∧ len ≤ maxLen := by
  obtain ⟨a, len, cap, rfl⟩ := okWide_slice Try.underlying23 hv
  obtain ⟨fuel, hf⟩ := h
  rcases open_ints Try.underlying23 Try.underlying5 (by kernel_rfl) hf with ⟨hc, _⟩ | ⟨ad, len', cap', zs, hc, _, hlc, hcm, hl, _, hcell, hwf⟩
  · refine ⟨_, _, _, [], rfl, ?_, ?_⟩
    · have hc' : (Value.slice a len cap) = .slice none 0 0 := by simpa [Value.cells] using hc
      injection hc' with h1 h2 h3
      subst h1 h2 h3
      exact ⟨rfl, fun x hx => absurd hx (by simp), fun h => absurd h (by simp)⟩
    · have hc' : (Value.slice a len cap) = .slice none 0 0 := by simpa [Value.cells] using hc
      injection hc' with h1 h2 h3
      subst h2
      unfold maxLen; omega
  · refine ⟨_, _, _, zs.take len', rfl, ?_, ?_⟩
    · have hc' : (Value.slice a len cap) = .slice (some ad) len' cap' := by simpa [Value.cells] using hc
      injection hc' with h1 h2 h3
      subst h1 h2 h3
      have hle : len ≤ zs.length := by rw [hl]; split <;> omega
      have hcl : ∀ i (hi : i < (zs.take len).length), w.cell? (ad.add i) = some (.int .u8 (zs.take len)[i]) := by
        intro i hi
        rw [List.length_take] at hi
        have e : zs.getD i 0 = (zs.take len)[i]'(by rw [List.length_take]; omega) := by rw [List.getElem_take]; simp [List.getD, List.getElem?_eq_getElem (show i < zs.length by omega)]
        rw [hcell i (by omega), e]
      refine ⟨by rw [List.length_take]; omega, fun x hx => wfu8 (hwf x (List.mem_of_mem_take hx)), fun h0 => ⟨ad, rfl, ?_, hcl⟩⟩
      have := strs_lt (hcl 0 h0)
      rwa [block_of_add] at this
    · have hc' : (Value.slice a len cap) = .slice (some ad) len' cap' := by simpa [Value.cells] using hc
      injection hc' with h1 h2 h3
      omega
end Go.Proofs.Ytiaghkngafajgaa
