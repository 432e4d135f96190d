/- A slice of strings that came in as data, of the reach that every claim's form gives: no string longer than 2^47 - 4096 bytes. -/
import Derived.Test.YtapkoiamjgdifaaStrs
import Derived.SizedLaws
import Derived.Test.YtapkoiamjgdifaaVTellsW
namespace Go.Proofs.Ytapkoiamjgdifaa
open Go.ChangeShapes Go.WideShapes Go.RowKit
set_option linter.unusedVariables false

theorem weights_strs {H : Type} (e : TypeId) : ∀ (l : List ByteArray) (s : ByteArray), s ∈ l → s.data.toList.length ∈ DataW.weightsAll (H := H) Try.prog e (strs l)
  | [], s, h => by cases h
  | x :: l, s, h => by
    show s.data.toList.length ∈ DataW.weights Try.prog e (.lit (.string x.data.toList)) ++ DataW.weightsAll Try.prog e (strs l)
    rcases List.mem_cons.1 h with rfl | h
    · simp [DataW.weights]
    · exact List.mem_append_right _ (weights_strs e l s h)
/-- A reading's part weighs no more than the reach. -/
theorem weigh {H : Type} {ts : List TypeId} {ds : List (DataW H)} (h : (DataW.weightsEach Try.prog ts ds).all (· ≤ reachBytes) = true) {j : Nat} {t : TypeId} {d : DataW H} (ht : ts[j]? = some t) (hd : ds[j]? = some d) :
    ∀ n ∈ DataW.weights Try.prog t d, n ≤ reachBytes := fun n hn => by
  have := List.all_eq_true.1 h _ (DataW.weights_mem_each ht hd n hn)
  simpa using this
theorem open_strs_sized {H : Type} {enc : TypeId × Value → H} {w : World} {base : Nat} {spare : Nat → Bool} {held : Bool} {r : Reach} {b0 : Nat} {v : Value} {d : DataW H} {p : List MemPlace}
    (hv : Value.okWide Try.prog w r b0 51 v) (h : DataW.Trod enc Try.prog w base spare held 51 v d p) (hw : ∀ n ∈ DataW.weights Try.prog 51 d, n ≤ reachBytes) :
    ∃ (A : Option Addr) (len cap : Nat) (ss : List ByteArray), v = .slice A len cap ∧ StrsIn w A len ss ∧ ∀ s ∈ ss, s.size ≤ 140737488351232 := by
  obtain ⟨a, len, cap, rfl⟩ := okWide_slice Try.underlying51 hv
  obtain ⟨fuel, hf⟩ := h
  rcases open_strings Try.underlying51 Try.underlying9 (by kernel_rfl) hf with ⟨hc, _⟩ | ⟨ad, len', cap', ss, hc, _, hlc, hcm, hl, hx, hcell, hsz⟩
  · refine ⟨_, _, _, [], rfl, ?_, fun s hs => by simp at hs⟩
    have hc' : (Value.slice a len cap) = .slice none 0 0 := by simpa [Value.cells] using hc
    injection hc' with h1 h2 h3
    subst h1 h2 h3
    exact ⟨rfl, fun h => absurd h (by simp), fun s hs => by simp at hs⟩
  · refine ⟨_, _, _, ss.take len', rfl, ?_, ?_⟩
    · have hc' : (Value.slice a len cap) = .slice (some ad) len' cap' := by simpa [Value.cells] using hc
      injection hc' with h1 h2 h3
      subst h1 h2 h3
      have hle : len ≤ ss.length := by rw [hl]; split <;> omega
      have hcl : ∀ i (hi : i < (ss.take len).length), w.cell? (ad.add i) = some (.string (ss.take len)[i]) := by
        intro i hi
        rw [List.length_take] at hi
        rw [hcell i (by omega)]
        congr 2
        simp [List.getD, List.getElem?_eq_getElem (show i < ss.length by omega)]
      refine ⟨by rw [List.length_take]; omega, fun h0 => ⟨ad, rfl, ?_, hcl⟩, fun s hs => hsz s (List.mem_of_mem_take hs)⟩
      have := strs_lt (hcl 0 h0)
      rwa [block_of_add] at this
    · intro s hs
      injection hx with hd _
      subst hd
      have hm := weights_strs (H := H) 9 _ s hs
      have := hw s.data.toList.length (by
        simp only [DataW.weights, Try.underlying51]
        exact List.mem_cons_of_mem _ (List.mem_append_left _ hm))
      have e : reachBytes = 140737488351232 := by decide
      have e2 : s.data.toList.length = s.size := rfl
      omega
theorem walk_ValueTells (w : World) (n : Int) (hn : (Lit.int .i64 n).wf = true) (s : ByteArray) (_hs : s.size ≤ maxLen) (b : Bool) (tg : Int) (ht : (Lit.int .u8 tg).wf = true) (A : Option Addr) (len cap : Nat) (ss : List ByteArray) (h : StrsIn w A len ss) (hz : ∀ s ∈ ss, s.size ≤ 140737488351232) :
    Calls Try.prog 10 #[.int .i64 n, .string s, .bool b, .int .u8 tg, .slice A len cap] w fun r w' => r = .returned (.bool true) ∧ Below w.heap.size w w' := by
  obtain ⟨rfl, hS, hm⟩ := h
  obtain ⟨h0, h1⟩ := wf_u8 ht
  have h2 : -9223372036854775808 ≤ n ∧ n ≤ 9223372036854775807 := by simpa [Lit.wf, IntKind.min, IntKind.max, IntKind.signed, IntKind.bits] using hn
  by_cases hl : 100 < (s.size : Int) ∨ 20 < (ss.length : Int)
  · exact tells_long n s b tg A cap ss w hl
  · obtain ⟨t, rfl⟩ := Int.eq_ofNat_of_zero_le h0
    exact tells_go n s b t A cap ss w h2.1 h2.2 (by omega) (by omega) (by omega) hS hz
end Go.Proofs.Ytapkoiamjgdifaa
