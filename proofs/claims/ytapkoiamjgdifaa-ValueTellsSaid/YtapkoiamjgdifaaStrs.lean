/- A slice of strings that came in as data. -/
import Derived.Test.YtapkoiamjgdifaaRowsW
import Derived.ProofKit
import Derived.SliceStrings
namespace Go.Proofs.Ytapkoiamjgdifaa
open Go.ChangeShapes Go.WideShapes Go.RowKit
set_option linter.unusedVariables false

/-- ss lies in the slice's first len places; each string has a length that there may be. -/
def StrsIn (w : World) (A : Option Addr) (len : Nat) (ss : List ByteArray) : Prop := ss.length = len ∧ StrsAt w A ss ∧ ∀ s ∈ ss, s.size ≤ maxLen
theorem strs_lt {w : World} {p : Addr} {v : Value} (h : w.cell? p = some v) : p.block < w.heap.size := by
  rcases Nat.lt_or_ge p.block w.heap.size with hlt | hge
  · exact hlt
  · simp [World.cell?, Array.getElem?_eq_none hge] at h
theorem open_strs {H : Type} {enc : TypeId × Value → H} {w : World} {base : Nat} {spare : Nat → Bool} {held : Bool} {r : Reach} {b0 : Nat} {v : Value} {d : DataW H} {p : List MemPlace}
    (hv : Value.okWide Try.prog w r b0 51 v) (h : DataW.Trod enc Try.prog w base spare held 51 v d p) :
    ∃ (A : Option Addr) (len cap : Nat) (ss : List ByteArray), v = .slice A len cap ∧ StrsIn w A len ss := by
  obtain ⟨a, len, cap, rfl⟩ := okWide_slice Try.underlying51 hv
  obtain ⟨fuel, hf⟩ := h
  rcases open_strings Try.underlying51 Try.underlying9 (by kernel_rfl) hf with ⟨hc, _⟩ | ⟨ad, len', cap', ss, hc, _, hlc, hcm, hl, _, hcell, hsz⟩
  · refine ⟨_, _, _, [], rfl, ?_⟩
    have hc' : (Value.slice a len cap) = .slice none 0 0 := by simpa [Value.cells] using hc
    injection hc' with h1 h2 h3
    subst h1 h2 h3
    exact ⟨rfl, fun h => absurd h (by simp), fun s hs => by simp at hs⟩
  · refine ⟨_, _, _, ss.take len', rfl, ?_⟩
    have hc' : (Value.slice a len cap) = .slice (some ad) len' cap' := by simpa [Value.cells] using hc
    injection hc' with h1 h2 h3
    subst h1 h2 h3
    have hle : len ≤ ss.length := by rw [hl]; split <;> omega
    have hcl : ∀ i (hi : i < (ss.take len).length), w.cell? (ad.add i) = some (.string (ss.take len)[i]) := by
      intro i hi
      rw [List.length_take] at hi
      rw [hcell i (by omega)]
      congr 2
      simp [List.getD, List.getElem?_eq_getElem (show i < ss.length by omega)]
    refine ⟨by rw [List.length_take]; omega, fun h0 => ⟨ad, rfl, ?_, hcl⟩, fun s hs => hsz s (List.mem_of_mem_take hs)⟩
    have := strs_lt (hcl 0 h0)
    rwa [block_of_add] at this
theorem walk_BerRows (w : World) (A : Option Addr) (len cap : Nat) (ss : List ByteArray) (h : StrsIn w A len ss) (tg : Int) (htg : (Lit.int .u8 tg).wf = true) :
    Calls Try.prog 8 #[.slice A len cap, .int .u8 tg] w fun r w' => r = .returned (.bool true) ∧ Below w.heap.size w w' := by
  obtain ⟨rfl, hS, hm⟩ := h
  obtain ⟨h0, h1⟩ := wf_u8 htg
  by_cases hl : 12 < (ss.length : Int)
  · exact rows_many A cap ss tg w hl
  · exact rows_few A cap ss tg w h0 h1 hS (by omega)
end Go.Proofs.Ytapkoiamjgdifaa
