/- Slices of bytes that came in as data. -/
import Derived.Test.YticfemheneljmaaDoorFlMem
import Derived.Test.YticfemheneljmaaDoorProg
import Derived.ProofKit
import Derived.SliceStrings
import Derived.ChangeSlices
namespace Go.Proofs.YticfemheneljmaaDoor.Fi
open Go.ChangeShapes Go.WideShapes Go.RowKit
set_option linter.unusedVariables false
set_option maxRecDepth 100000

/-- The numbers xs lie one behind the other from A on: bytes. -/
def NumsAt (w : World) (A : Option Addr) (xs : List Int) : Prop :=
  (∀ x ∈ xs, 0 ≤ x ∧ x ≤ 255) ∧ (0 < xs.length → ∃ ad, A = some ad ∧ ad.block < w.heap.size ∧ ∀ i (h : i < xs.length), w.cell? (ad.add i) = some (.int .u8 xs[i]))
theorem NumsAt.kid {w wr : World} {A : Option Addr} {xs : List Int} (h : NumsAt w A xs) (hb : Below w.heap.size w wr) {i : Nat} (hi : i < xs.length) :
    ∃ ad, A = some ad ∧ ad.block < w.heap.size ∧ wr.cell? (ad.add i) = some (.int .u8 xs[i]) ∧ 0 ≤ xs[i] ∧ xs[i] ≤ 255 := by
  obtain ⟨ad, e, hp, hc⟩ := h.2 (by omega)
  have := h.1 xs[i] (List.getElem_mem hi)
  exact ⟨ad, e, hp, batA hb (by rw [block_of_add]; exact hp) (hc i hi), this.1, this.2⟩
/-- xs lies in the slice's first len places. -/
def NumsIn (w : World) (A : Option Addr) (len : Nat) (xs : List Int) : Prop := xs.length = len ∧ NumsAt w A xs
theorem wfu8 {a : Int} (h : (Lit.int .u8 a).wf = true) : 0 ≤ a ∧ a ≤ 255 := by simpa [Lit.wf, IntKind.min, IntKind.max, IntKind.signed, IntKind.bits] using h
theorem open_nums {H : Type} {enc : TypeId × Value → H} {w : World} {base : Nat} {spare : Nat → Bool} {held : Bool} {r : Reach} {b0 : Nat} {v : Value} {d : DataW H} {p : List MemPlace}
    (hv : Value.okWide Tryd.prog w r b0 36 v) (h : DataW.Trod enc Tryd.prog w base spare held 36 v d p) :
    ∃ (A : Option Addr) (len cap : Nat) (xs : List Int), v = .slice A len cap ∧ NumsIn w A len xs ∧ len ≤ maxLen := by
  obtain ⟨a, len, cap, rfl⟩ := okWide_slice Tryd.underlying36 hv
  obtain ⟨fuel, hf⟩ := h
  rcases open_ints Tryd.underlying36 Tryd.underlying5 (by kernel_rfl) hf with ⟨hc, _⟩ | ⟨ad, len', cap', zs, hc, _, hlc, hcm, hl, _, hcell, hwf⟩
  · refine ⟨_, _, _, [], rfl, ?_, ?_⟩
    · have hc' : (Value.slice a len cap) = .slice none 0 0 := by simpa [Value.cells] using hc
      injection hc' with h1 h2 h3
      subst h1 h2 h3
      exact ⟨rfl, fun x hx => absurd hx (by simp), fun h => absurd h (by simp)⟩
    · have hc' : (Value.slice a len cap) = .slice none 0 0 := by simpa [Value.cells] using hc
      injection hc' with h1 h2 h3
      subst h2
      unfold maxLen; omega
  · refine ⟨_, _, _, zs.take len', rfl, ?_, ?_⟩
    · have hc' : (Value.slice a len cap) = .slice (some ad) len' cap' := by simpa [Value.cells] using hc
      injection hc' with h1 h2 h3
      subst h1 h2 h3
      have hle : len ≤ zs.length := by rw [hl]; split <;> omega
      have hcl : ∀ i (hi : i < (zs.take len).length), w.cell? (ad.add i) = some (.int .u8 (zs.take len)[i]) := by
        intro i hi
        rw [List.length_take] at hi
        have e : zs.getD i 0 = (zs.take len)[i]'(by rw [List.length_take]; omega) := by rw [List.getElem_take]; simp [List.getD, List.getElem?_eq_getElem (show i < zs.length by omega)]
        rw [hcell i (by omega), e]
      refine ⟨by rw [List.length_take]; omega, fun x hx => wfu8 (hwf x (List.mem_of_mem_take hx)), fun h0 => ⟨ad, rfl, ?_, hcl⟩⟩
      have := cell_lt (hcl 0 h0)
      rwa [block_of_add] at this
    · have hc' : (Value.slice a len cap) = .slice (some ad) len' cap' := by simpa [Value.cells] using hc
      injection hc' with h1 h2 h3
      omega
end Go.Proofs.YticfemheneljmaaDoor.Fi
