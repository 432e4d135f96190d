/- Numbers, and vectors of them, that came in as data. -/
import Derived.Test.YtiglepmgonmhiaaVcMem
import Derived.ProofKit
import Derived.OpenShut
import Derived.Deep.Strs
import Derived.Lib.SmallJoins
namespace Go.Proofs.Ytiglepmgonmhiaa.Cs
open Go.ChangeShapes Go.WideShapes Go.RowKit Go.Deep
set_option linter.unusedVariables false
set_option maxRecDepth 100000

theorem cellsCsn : Try.prog.cellsOf 25 = 3 := by kernel_rfl
theorem cells64 : Try.prog.cellsOf 2 = 1 := by kernel_rfl
theorem cellsI : Try.prog.cellsOf 3 = 1 := by kernel_rfl
theorem wf64' {n : Int} (h : (Lit.int .i64 n).wf = true) : I64 n := by
  simpa [I64, Lit.wf, IntKind.min, IntKind.max, IntKind.signed, IntKind.bits] using h
section
variable {H : Type} {enc : TypeId × Value → H} {w : World} {base : Nat} {spare : Nat → Bool} {held : Bool}
theorem int_of_trod {fuel : Nat} {t : TypeId} {c : Value} {x : DataW H × List MemPlace} (ht : Try.prog.underlying t = some (.int .i64)) (h : DataW.trod enc Try.prog w base spare held fuel t [c] = some x) : ∃ n, c = .int .i64 n ∧ I64 n := by
  obtain ⟨n, hn, _, hwf⟩ := DataW.trod_int ht h
  simp only [List.cons.injEq, and_true] at hn
  exact ⟨n, hn, wf64' hwf⟩
theorem csn_of_trod {fuel : Nat} {cs : List Value} {x : DataW H × List MemPlace} (h : DataW.trod enc Try.prog w base spare held fuel 25 cs = some x) : ∃ t s r, cs = [.int .i64 t, .int .i64 s, .int .i64 r] ∧ I64 t ∧ I64 s ∧ I64 r := by
  obtain ⟨xs, n, rfl, _, hl, hlen, hg⟩ := DataW.trod_struct Try.underlying25 h
  rw [cellsCsn] at hl
  match cs, hl with
  | [c0, c1, c2], _ =>
    have l3 : xs.length = 3 := hlen
    match xs, l3 with
    | [y0, y1, y2], _ =>
    have g0' : DataW.trod enc Try.prog w base spare held n 2 [c0] = some y0 := by simpa [cells64] using hg 0 _ rfl
    have g1' : DataW.trod enc Try.prog w base spare held n 3 [c1] = some y1 := by simpa [cellsI] using hg 1 _ rfl
    have g2' : DataW.trod enc Try.prog w base spare held n 3 [c2] = some y2 := by simpa [cellsI] using hg 2 _ rfl
    obtain ⟨a, rfl, ha⟩ := int_of_trod Try.underlying2 g0'
    obtain ⟨b, rfl, hb⟩ := int_of_trod Try.underlying3 g1'
    obtain ⟨c, rfl, hc⟩ := int_of_trod Try.underlying3 g2'
    exact ⟨a, b, c, rfl, ha, hb, hc⟩
theorem open_csn {r : Reach} {b0 : Nat} {v : Value} {d : DataW H} {p : List MemPlace}
    (hv : Value.okWide Try.prog w r b0 25 v) (h : DataW.Trod enc Try.prog w base spare held 25 v d p) :
    ∃ t s r, v = cv t s r ∧ I64 t ∧ I64 s ∧ I64 r := by
  obtain ⟨cs, rfl, hsz⟩ := okWide_struct Try.underlying25 hv
  obtain ⟨fuel, hf⟩ := h
  obtain ⟨t, s, r, hcs, h1, h2, h3⟩ := csn_of_trod hf
  have hcs' : cs.toList = [.int .i64 t, .int .i64 s, .int .i64 r] := hcs
  have : cs = #[.int .i64 t, .int .i64 s, .int .i64 r] := Array.toList_inj.1 hcs'
  subst this
  exact ⟨t, s, r, rfl, h1, h2, h3⟩
theorem open_row {T : TypeId} (hu : Try.prog.underlying T = some (.slice 25)) {r : Reach} {b0 : Nat} {v : Value} {d : DataW H} {p : List MemPlace}
    (hv : Value.okWide Try.prog w r b0 T v) (h : DataW.Trod enc Try.prog w base spare held T v d p) :
    ∃ (A : Option Addr) (c : Nat) (l : List Nm), v = .slice A l.length c ∧ VecIn w A l ∧ l.length ≤ c := by
  obtain ⟨a, len, cap, rfl⟩ := okWide_slice hu hv
  obtain ⟨fuel, hf⟩ := h
  rcases DataW.trod_slice hu hf with ⟨hc, _⟩ | ⟨ad, len', cap', elems, rest, m, hm, hc, _, _, hlc, hcm, hel, hev, _, _⟩
  · have hc' : (Value.slice a len cap) = .slice none 0 0 := by simpa [Value.cells] using hc
    injection hc' with h1 h2 h3
    subst h1 h2 h3
    exact ⟨_, _, [], rfl, VecIn.nil w _, Nat.le_refl _⟩
  · have hc' : (Value.slice a len cap) = .slice (some ad) len' cap' := by simpa [Value.cells] using hc
    injection hc' with h1 h2 h3
    subst h1 h2 h3
    have one : ∀ i, i < len → ∃ (q : Nm), ∀ (j : Nat) u, (q.cs)[j]? = some u → w.cell? (ad.add (i * 3 + j)) = some u := by
      intro i hi
      have h1 := hev i hi
      rw [cellsCsn] at h1
      have h2 : elems[i]? = some (elems[i]'(by omega)) := List.getElem?_eq_getElem (by omega)
      rw [h2, Option.bind_eq_some_iff] at h1
      obtain ⟨cs', hcs', hof⟩ := h1
      obtain ⟨_, hl', hcell⟩ := World.cells?_some hcs'
      obtain ⟨t, s, r, hk, _, _, _⟩ := csn_of_trod hof
      refine ⟨⟨t, s, r⟩, fun j u hu => ?_⟩
      have hu' : cs'[j]? = some u := by rw [hk]; exact hu
      have hj : j < 3 := by
        have h9 : j < cs'.length := (List.getElem?_eq_some_iff.1 hu').1
        omega
      have := hcell j hj
      rw [Go.Deep.add_add] at this
      rw [this]
      exact hu'
    have : Inhabited Nm := ⟨⟨0, 0, 0⟩⟩
    obtain ⟨q, hq⟩ := choose_lt one
    have hkl : ((List.range len).map q).length = len := by simp
    refine ⟨some ad, cap, (List.range len).map q, by rw [hkl], fun h0 => ⟨ad, rfl, ?_, fun i hi j u hu => ?_⟩, by rw [hkl]; exact hlc⟩
    · have h0' : 0 < len := by rw [hkl] at h0; exact h0
      have := (hq 0 h0') 0 _ rfl
      have hb := cell_lt this
      rwa [block_of_add] at hb
    · have hi' : i < len := by rw [hkl] at hi; exact hi
      refine hq i hi' j u ?_
      simpa using hu
end
end Go.Proofs.Ytiglepmgonmhiaa.Cs
