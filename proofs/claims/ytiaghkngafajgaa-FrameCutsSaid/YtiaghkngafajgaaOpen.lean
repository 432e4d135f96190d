/- An element that came in as data lies in memory as a tree. -/
import Derived.Test.YtiaghkngafajgaaEl
import Derived.Test.YtiaghkngafajgaaProg
import Derived.ProofKit
import Derived.Deep.Strs
import Derived.Lib.SmallJoins
namespace Go.Proofs.Ytiaghkngafajgaa
open Go.ChangeShapes Go.WideShapes Go.RowKit Go.Deep
set_option linter.unusedVariables false

theorem cell_lt {w : World} {p : Addr} {v : Value} (h : w.cell? p = some v) : p.block < w.heap.size := by
  rcases Nat.lt_or_ge p.block w.heap.size with hlt | hge
  · exact hlt
  · simp [World.cell?, Array.getElem?_eq_none hge] at h
theorem cellsEl : Try.prog.cellsOf 41 = 3 := by kernel_rfl
theorem cells8 : Try.prog.cellsOf 5 = 1 := by kernel_rfl
theorem cellsS : Try.prog.cellsOf 9 = 1 := by kernel_rfl
theorem cellsK : Try.prog.cellsOf 39 = 1 := by kernel_rfl

theorem lies_of_trod {H : Type} {enc : TypeId × Value → H} {w : World} {base : Nat} {spare : Nat → Bool} {held : Bool} : ∀ (N fuel : Nat), fuel ≤ N → ∀ (cs : List Value) (x : DataW H × List MemPlace),
    DataW.trod enc Try.prog w base spare held fuel 41 cs = some x → ∃ (e : El) (t : Nat) (b : ByteArray) (A : Option Addr) (n c : Nat), cs = [.int .u8 t, .string b, .slice A n c] ∧ Lies w (· < w.heap.size) e cs := by
  intro N
  induction N with
  | zero =>
    intro fuel hf cs x h
    obtain rfl : fuel = 0 := by omega
    simp [DataW.trod] at h
  | succ N ih =>
    intro fuel hf cs x h
    obtain ⟨xs, n, rfl, _, hl, hlen, hg⟩ := DataW.trod_struct Try.underlying41 h
    rw [cellsEl] at hl
    match cs, hl with
    | [c0, c1, c2], _ =>
      have g0 := hg 0 _ rfl
      have g1 := hg 1 _ rfl
      have g2 := hg 2 _ rfl
      have l3 : xs.length = 3 := hlen
      match xs, l3 with
      | [y0, y1, y2], _ =>
      have g0' : DataW.trod enc Try.prog w base spare held n 5 [c0] = some y0 := by simpa [cells8] using g0
      have g1' : DataW.trod enc Try.prog w base spare held n 9 [c1] = some y1 := by simpa [cellsS] using g1
      have g2' : DataW.trod enc Try.prog w base spare held n 39 [c2] = some y2 := by simpa [cellsK] using g2
      obtain ⟨a, ha, _, hwf⟩ := DataW.trod_int Try.underlying5 g0'
      obtain ⟨s, hs, _, hsz⟩ := DataW.trod_string Try.underlying9 g1'
      have hab : 0 ≤ a ∧ a ≤ 255 := by simpa [Lit.wf, IntKind.min, IntKind.max, IntKind.signed, IntKind.bits] using hwf
      obtain ⟨t, rfl⟩ := Int.eq_ofNat_of_zero_le hab.1
      simp only [List.cons.injEq, and_true] at ha hs
      subst ha hs
      rcases DataW.trod_slice Try.underlying39 g2' with ⟨hc, _⟩ | ⟨ad, len, cap, elems, rest, m, hm, hc, _, _, hlc, hcm, hel, hev, _, _⟩
      · simp only [List.cons.injEq, and_true] at hc
        subst hc
        exact ⟨.mk t s [], t, s, none, 0, 0, rfl, Lies.leaf (by omega) hsz⟩
      · simp only [List.cons.injEq, and_true] at hc
        subst hc
        have one : ∀ i, i < len → ∃ (q : El × List Value), q.2.length = 3 ∧ (∀ j u, q.2[j]? = some u → w.cell? (ad.add (i * 3 + j)) = some u) ∧ Lies w (· < w.heap.size) q.1 q.2 := by
          intro i hi
          have h1 := hev i hi
          rw [cellsEl] at h1
          have h2 : elems[i]? = some (elems[i]'(by omega)) := List.getElem?_eq_getElem (by omega)
          rw [h2, Option.bind_eq_some_iff] at h1
          obtain ⟨cs', hcs', hof⟩ := h1
          obtain ⟨_, hl', hcell⟩ := World.cells?_some hcs'
          obtain ⟨e, t', b', A', n', c', hcs, hlies⟩ := ih m (by omega) cs' _ hof
          refine ⟨(e, cs'), hl', fun j u hu => ?_, hlies⟩
          have hj : j < 3 := by
            have h9 : j < cs'.length := (List.getElem?_eq_some_iff.1 hu).1
            omega
          have := hcell j hj
          rw [Go.Deep.add_add] at this
          rw [this]
          exact hu
        have : Inhabited (El × List Value) := ⟨(.mk 0 ⟨#[]⟩ [], [])⟩
        obtain ⟨q, hq⟩ := choose_lt one
        have hkl : ((List.range len).map fun i => (q i).1).length = len := by simp
        refine ⟨.mk t s ((List.range len).map fun i => (q i).1), t, s, some ad, len, cap, rfl, ?_⟩
        have key := Lies.shut (w := w) (P := (· < w.heap.size)) (t := t) (b := s) (ks := (List.range len).map fun i => (q i).1) (A := some ad) (c := cap) (ds := fun i => (q i).2) (by omega) hsz (by rw [hkl]; omega) (by
          refine ⟨fun i hi => (hq i (by rw [hkl] at hi; exact hi)).1, fun h0 => ⟨ad, rfl, ?_, fun i hi => (hq i (by rw [hkl] at hi; exact hi)).2.1⟩, fun i hi => ?_⟩
          · have h0' : 0 < len := by rw [hkl] at h0; exact h0
            have hz := hq 0 h0'
            have hl0 : (q 0).2.length = 3 := hz.1
            have := hz.2.1 0 ((q 0).2[0]'(by omega)) (List.getElem?_eq_getElem (by omega))
            have hb := cell_lt this
            rwa [block_of_add] at hb
          · have hi' : i < len := by rw [hkl] at hi; exact hi
            have := (hq i hi').2.2
            simpa using this)
        rw [hkl] at key
        exact key

theorem open_el {H : Type} {enc : TypeId × Value → H} {w : World} {base : Nat} {spare : Nat → Bool} {held : Bool} {r : Reach} {b0 : Nat} {v : Value} {d : DataW H} {p : List MemPlace}
    (hv : Value.okWide Try.prog w r b0 41 v) (h : DataW.Trod enc Try.prog w base spare held 41 v d p) :
    ∃ (e : El) (x y z : Value), v = .agg #[x, y, z] ∧ Lies w (· < w.heap.size) e [x, y, z] := by
  obtain ⟨cs, rfl, hsz⟩ := okWide_struct Try.underlying41 hv
  obtain ⟨fuel, hf⟩ := h
  obtain ⟨e, t, b, A, n, c, hcs, hl⟩ := lies_of_trod fuel fuel (Nat.le_refl _) _ _ hf
  have hcs' : cs.toList = [.int .u8 t, .string b, .slice A n c] := hcs
  have : cs = #[.int .u8 t, .string b, .slice A n c] := by
    apply Array.toList_inj.1
    exact hcs'
  subst this
  exact ⟨e, _, _, _, rfl, hl⟩
end Go.Proofs.Ytiaghkngafajgaa
