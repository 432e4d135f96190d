/- A filter that came in as data lies in memory as a tree. -/
import Derived.Test.YtconghaebebncaaGreatDoorG2
import Derived.Test.YtconghaebebncaaGreatDoorProg
import Derived.ProofKit
import Derived.Deep.Strs
import Derived.Lib.SmallJoins
namespace Go.Proofs.YtconghaebebncaaGreatDoor.Fi
open Go.ChangeShapes Go.WideShapes Go.RowKit Go.Deep
set_option linter.unusedVariables false
set_option maxRecDepth 100000

theorem cellsF : Tryz.prog.cellsOf 25 = 5 := by kernel_rfl
theorem cellsI : Tryz.prog.cellsOf 3 = 1 := by kernel_rfl
theorem cellsSt : Tryz.prog.cellsOf 9 = 1 := by kernel_rfl
theorem cellsSs : Tryz.prog.cellsOf 22 = 1 := by kernel_rfl
theorem cellsKs : Tryz.prog.cellsOf 23 = 1 := by kernel_rfl

theorem strs_of_trod {H : Type} {enc : TypeId × Value → H} {w : World} {base : Nat} {spare : Nat → Bool} {held : Bool} {fuel : Nat} {cs : List Value} {x : DataW H × List MemPlace}
    (h : DataW.trod enc Tryz.prog w base spare held fuel 22 cs = some x) : ∃ (ss : List ByteArray) (S : Option Addr) (c : Nat), cs = [.slice S ss.length c] ∧ ss.length ≤ c ∧ ss.length ≤ maxLen ∧ (∀ s ∈ ss, s.size ≤ maxLen) ∧ StrsAt w (· < w.heap.size) S ss := by
  rcases DataW.trod_slice Tryz.underlying22 h with ⟨hc, _⟩ | ⟨ad, len, cap, elems, rest, m, hm, hc, _, _, hlc, hcm, hel, hev, _, _⟩
  · exact ⟨[], none, 0, hc, Nat.le_refl _, Nat.zero_le _, fun s hs => by simp at hs, StrsAt.nil _ _ _⟩
  · have one : ∀ i, i < len → ∃ a : ByteArray, a.size ≤ maxLen ∧ w.cell? (ad.add i) = some (.string a) := by
      intro i hi
      have h1 := hev i hi
      rw [cellsSt] at h1
      have h2 : elems[i]? = some (elems[i]'(by omega)) := List.getElem?_eq_getElem (by omega)
      rw [h2, Option.bind_eq_some_iff] at h1
      obtain ⟨cs', hcs', hof⟩ := h1
      obtain ⟨_, hl', hcell⟩ := World.cells?_some hcs'
      obtain ⟨s, rfl, _, hsz⟩ := DataW.trod_string Tryz.underlying9 hof
      have e0 := hcell 0 (by simp)
      rw [Go.Deep.add_add, Nat.mul_one] at e0
      exact ⟨s, hsz, e0⟩
    have : Inhabited ByteArray := ⟨⟨#[]⟩⟩
    obtain ⟨q, hq⟩ := choose_lt one
    have hkl : ((List.range len).map q).length = len := by simp
    refine ⟨(List.range len).map q, some ad, cap, by rw [hkl]; exact hc, by rw [hkl]; exact hlc, by rw [hkl]; omega, fun s hs => ?_, fun h0 => ⟨ad, rfl, ?_, fun i hi => ?_⟩⟩
    · obtain ⟨i, hi, rfl⟩ := List.mem_map.1 hs
      exact (hq i (List.mem_range.1 hi)).1
    · rw [hkl] at h0
      have := cell_lt (hq 0 h0).2
      rwa [block_of_add] at this
    · rw [hkl] at hi
      simpa using (hq i hi).2

theorem fil_of_trod {H : Type} {enc : TypeId × Value → H} {w : World} {base : Nat} {spare : Nat → Bool} {held : Bool} : ∀ (N fuel : Nat), fuel ≤ N → ∀ (cs : List Value) (x : DataW H × List MemPlace),
    DataW.trod enc Tryz.prog w base spare held fuel 25 cs = some x → ∃ (f : Fil), Lies w (· < w.heap.size) f cs := by
  intro N
  induction N with
  | zero =>
    intro fuel hf cs x h
    obtain rfl : fuel = 0 := by omega
    simp [DataW.trod] at h
  | succ N ih =>
    intro fuel hf cs x h
    obtain ⟨xs, n, rfl, _, hl, hlen, hg⟩ := DataW.trod_struct Tryz.underlying25 h
    rw [cellsF] at hl
    match cs, hl with
    | [c0, c1, c2, c3, c4], _ =>
      have g0 := hg 0 _ rfl
      have g1 := hg 1 _ rfl
      have g2 := hg 2 _ rfl
      have g3 := hg 3 _ rfl
      have g4 := hg 4 _ rfl
      have l5 : xs.length = 5 := hlen
      match xs, l5 with
      | [y0, y1, y2, y3, y4], _ =>
      have g0' : DataW.trod enc Tryz.prog w base spare held n 3 [c0] = some y0 := by simpa [cellsI] using g0
      have g1' : DataW.trod enc Tryz.prog w base spare held n 9 [c1] = some y1 := by simpa [cellsI, cellsSt] using g1
      have g2' : DataW.trod enc Tryz.prog w base spare held n 9 [c2] = some y2 := by simpa [cellsI, cellsSt] using g2
      have g3' : DataW.trod enc Tryz.prog w base spare held n 22 [c3] = some y3 := by simpa [cellsI, cellsSt, cellsSs] using g3
      have g4' : DataW.trod enc Tryz.prog w base spare held n 23 [c4] = some y4 := by simpa [cellsI, cellsSt, cellsSs, cellsKs] using g4
      obtain ⟨a, ha, _, _⟩ := DataW.trod_int Tryz.underlying3 g0'
      obtain ⟨s, hs, _, hsz⟩ := DataW.trod_string Tryz.underlying9 g1'
      obtain ⟨v, hv, _, hvz⟩ := DataW.trod_string Tryz.underlying9 g2'
      obtain ⟨ss, S, sc, hss, hsc, hsl, hsz2, hsa⟩ := strs_of_trod g3'
      simp only [List.cons.injEq, and_true] at ha hs hv hss
      subst ha hs hv hss
      rcases DataW.trod_slice Tryz.underlying23 g4' with ⟨hc, _⟩ | ⟨ad, len, cap, elems, rest, m, hm, hc, _, _, hlc, hcm, hel, hev, _, _⟩
      · simp only [List.cons.injEq, and_true] at hc
        subst hc
        exact ⟨.mk a s v ss [], Lies.shut (ks := []) (A := none) (c := 0) (ds := fun _ => []) hsz hvz hsl hsc hsa hsz2 (by simp) (by simp) (KidsAt.nil _ _ _ _)⟩
      · simp only [List.cons.injEq, and_true] at hc
        subst hc
        have one : ∀ i, i < len → ∃ (q : Fil × List Value), q.2.length = 5 ∧ (∀ j u, q.2[j]? = some u → w.cell? (ad.add (i * 5 + j)) = some u) ∧ Lies w (· < w.heap.size) q.1 q.2 := by
          intro i hi
          have h1 := hev i hi
          rw [cellsF] at h1
          have h2 : elems[i]? = some (elems[i]'(by omega)) := List.getElem?_eq_getElem (by omega)
          rw [h2, Option.bind_eq_some_iff] at h1
          obtain ⟨cs', hcs', hof⟩ := h1
          obtain ⟨_, hl', hcell⟩ := World.cells?_some hcs'
          obtain ⟨f, hlies⟩ := ih m (by omega) cs' _ hof
          refine ⟨(f, cs'), hl', fun j u hu => ?_, hlies⟩
          have hj : j < 5 := by
            have h9 : j < cs'.length := (List.getElem?_eq_some_iff.1 hu).1
            omega
          have := hcell j hj
          rw [Go.Deep.add_add] at this
          rw [this]
          exact hu
        have : Inhabited (Fil × List Value) := ⟨(.mk 0 ⟨#[]⟩ ⟨#[]⟩ [] [], [])⟩
        obtain ⟨q, hq⟩ := choose_lt one
        have hkl : ((List.range len).map fun i => (q i).1).length = len := by simp
        refine ⟨.mk a s v ss ((List.range len).map fun i => (q i).1), ?_⟩
        have key := Lies.shut (w := w) (P := (· < w.heap.size)) (k := a) (a := s) (v := v) (ss := ss) (ks := (List.range len).map fun i => (q i).1) (A := some ad) (c := cap) (ds := fun i => (q i).2) hsz hvz hsl hsc hsa hsz2 (by rw [hkl]; omega) (by rw [hkl]; exact hlc) (by
          refine ⟨fun i hi => (hq i (by rw [hkl] at hi; exact hi)).1, fun h0 => ⟨ad, rfl, ?_, fun i hi => (hq i (by rw [hkl] at hi; exact hi)).2.1⟩, fun i hi => ?_⟩
          · have h0' : 0 < len := by rw [hkl] at h0; exact h0
            have hz := hq 0 h0'
            have hl0 : (q 0).2.length = 5 := hz.1
            have := hz.2.1 0 ((q 0).2[0]'(by omega)) (List.getElem?_eq_getElem (by omega))
            have hb := cell_lt this
            rwa [block_of_add] at hb
          · have hi' : i < len := by rw [hkl] at hi; exact hi
            have := (hq i hi').2.2
            simpa using this)
        rw [hkl] at key
        exact key

theorem open_fil {H : Type} {enc : TypeId × Value → H} {w : World} {base : Nat} {spare : Nat → Bool} {held : Bool} {r : Reach} {b0 : Nat} {v : Value} {d : DataW H} {p : List MemPlace}
    (hv : Value.okWide Tryz.prog w r b0 25 v) (h : DataW.Trod enc Tryz.prog w base spare held 25 v d p) :
    ∃ (f : Fil) (x0 x1 x2 x3 x4 : Value), v = .agg #[x0, x1, x2, x3, x4] ∧ Lies w (· < w.heap.size) f [x0, x1, x2, x3, x4] := by
  obtain ⟨cs, rfl, hsz⟩ := okWide_struct Tryz.underlying25 hv
  obtain ⟨fuel, hf⟩ := h
  obtain ⟨f, hl⟩ := fil_of_trod fuel fuel (Nat.le_refl _) _ _ hf
  obtain ⟨k, a, v, S, m, d, A, n, c, hcs⟩ := hl.form
  have hcs' : cs.toList = [.int .i64 k, .string a, .string v, .slice S m d, .slice A n c] := hcs
  have : cs = #[.int .i64 k, .string a, .string v, .slice S m d, .slice A n c] := by
    apply Array.toList_inj.1
    exact hcs'
  subst this
  exact ⟨f, _, _, _, _, _, rfl, hl⟩
end Go.Proofs.YtconghaebebncaaGreatDoor.Fi
