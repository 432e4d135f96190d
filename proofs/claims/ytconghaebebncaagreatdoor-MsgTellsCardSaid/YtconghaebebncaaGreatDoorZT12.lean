import Derived.Test.YtconghaebebncaaGreatDoorZT3
import Derived.Test.YtconghaebebncaaGreatDoorZT9
namespace Go.Proofs.YtconghaebebncaaGreatDoor.Ms
open Go.ChangeShapes Go.WideShapes Go.RowKit Go.Deep
set_option linter.unusedVariables false
set_option maxRecDepth 100000
theorem cellsM : Tryz.prog.cellsOf 28 = 23 := by kernel_rfl
theorem cellsMo : Tryz.prog.cellsOf 48 = 3 := by kernel_rfl
theorem cellsB : Tryz.prog.cellsOf 4 = 1 := by kernel_rfl
theorem cellsMs : Tryz.prog.cellsOf 26 = 1 := by kernel_rfl
section
variable {H : Type} {enc : TypeId × Value → H} {w : World} {base : Nat} {spare : Nat → Bool} {held : Bool} {fuel : Nat} {cs : List Value} {x : DataW H × List MemPlace}
theorem mod_of_trod (h : DataW.trod enc Tryz.prog w base spare held fuel 48 cs = some x) : ∃ d : Mo, MoAt w (· < w.heap.size) d cs := by
 obtain ⟨xs, n, rfl, _, hl, hlen, hg⟩ := DataW.trod_struct Tryz.underlying48 h
 rw [cellsMo] at hl
 match cs, hl with
 | [c0, c1, c2], _ =>
  have g0 := hg 0 _ rfl
  have g1 := hg 1 _ rfl
  have g2 := hg 2 _ rfl
  have l3 : xs.length = 3 := hlen
  match xs, l3 with
  | [y0, y1, y2], _ =>
  have g0' : DataW.trod enc Tryz.prog w base spare held n 3 [c0] = some y0 := by simpa [Fi.cellsI] using g0
  have g1' : DataW.trod enc Tryz.prog w base spare held n 9 [c1] = some y1 := by simpa [Fi.cellsSt] using g1
  have g2' : DataW.trod enc Tryz.prog w base spare held n 22 [c2] = some y2 := by simpa [Fi.cellsSs] using g2
  obtain ⟨a, ha, _, _⟩ := DataW.trod_int Tryz.underlying3 g0'
  obtain ⟨s, hs, _, hsz⟩ := DataW.trod_string Tryz.underlying9 g1'
  obtain ⟨ss, S, sc, hss, hsc, hsl, hsz2, hsa⟩ := Fi.strs_of_trod g2'
  simp only [List.cons.injEq, and_true] at ha hs hss
  subst ha hs hss
  exact ⟨⟨a, s, ss⟩, S, sc, rfl, hsz, hsl, hsc, hsa, hsz2⟩
theorem mods_of_trod (h : DataW.trod enc Tryz.prog w base spare held fuel 26 cs = some x) :
  ∃ (l : List Mo) (M : Option Addr) (c : Nat) (dd : Nat → List Value), cs = [.slice M l.length c] ∧ l.length ≤ c ∧ l.length ≤ maxLen ∧ MosAt w (· < w.heap.size) M l dd := by
 rcases DataW.trod_slice Tryz.underlying26 h with ⟨hc, _⟩ | ⟨ad, len, cap, elems, rest, m, hm, hc, _, _, hlc, hcm, hel, hev, _, _⟩
 ·exact ⟨[], none, 0, fun _ => [], hc, Nat.le_refl _, Nat.zero_le _, MosAt.nil _ _ _ _⟩
 ·have one : ∀ i, i < len → ∃ (q : Mo × List Value), q.2.length = 3 ∧ (∀ j u, q.2[j]? = some u → w.cell? (ad.add (i * 3 + j)) = some u) ∧ MoAt w (· < w.heap.size) q.1 q.2 := by
   intro i hi
   have h1 := hev i hi
   rw [cellsMo] at h1
   have h2 : elems[i]? = some (elems[i]'(by omega)) := List.getElem?_eq_getElem (by omega)
   rw [h2, Option.bind_eq_some_iff] at h1
   obtain ⟨cs', hcs', hof⟩ := h1
   obtain ⟨_, hl', hcell⟩ := World.cells?_some hcs'
   obtain ⟨d, hd⟩ := mod_of_trod hof
   refine ⟨(d, cs'), hl', fun j u hu => ?_, hd⟩
   have hj : j < 3 := by
    have h9 : j < cs'.length := (List.getElem?_eq_some_iff.1 hu).1
    omega
   have := hcell j hj
   rw [Go.Deep.add_add] at this
   rw [this]
   exact hu
  have : Inhabited (Mo × List Value) := ⟨(⟨0, ⟨#[]⟩, []⟩, [])⟩
  obtain ⟨q, hq⟩ := choose_lt one
  have hkl : ((List.range len).map fun i => (q i).1).length = len := by simp
  refine ⟨(List.range len).map fun i => (q i).1, some ad, cap, fun i => (q i).2, by rw [hkl]; exact hc, by rw [hkl]; exact hlc, by rw [hkl]; omega, fun h0 => ⟨ad, rfl, ?_, fun i hi => ?_⟩, fun i hi => ?_⟩
  ·have h0' : 0 < len := by rw [hkl] at h0; exact h0
   have hz := hq 0 h0'
   have hl0 : (q 0).2.length = 3 := hz.1
   have := hz.2.1 0 ((q 0).2[0]'(by omega)) (List.getElem?_eq_getElem (by omega))
   have hb := cell_lt this
   rwa [block_of_add] at hb
  ·exact (hq i (by rw [hkl] at hi; exact hi)).2.1
  ·have hi' : i < len := by rw [hkl] at hi; exact hi
   have := (hq i hi').2.2
   simpa using this
set_option maxHeartbeats 4000000 in
theorem msg_of_trod (h : DataW.trod enc Tryz.prog w base spare held fuel 28 cs = some x) : ∃ m : Mg, MAt w (· < w.heap.size) m cs.toArray := by
 obtain ⟨xs, n, rfl, _, hl, hlen, hg⟩ := DataW.trod_struct Tryz.underlying28 h
 rw [cellsM] at hl
 match cs, hl with
 | [c0, c1, c2, c3, c4, c5, c6, c7, c8, c9, c10, c11, c12, c13, c14, c15, c16, c17, c18, c19, c20, c21, c22], _ =>
  have g0 := hg 0 _ rfl
  have g1 := hg 1 _ rfl
  have g2 := hg 2 _ rfl
  have g3 := hg 3 _ rfl
  have g4 := hg 4 _ rfl
  have g5 := hg 5 _ rfl
  have g6 := hg 6 _ rfl
  have g7 := hg 7 _ rfl
  have g8 := hg 8 _ rfl
  have g9 := hg 9 _ rfl
  have g10 := hg 10 _ rfl
  have g11 := hg 11 _ rfl
  have g12 := hg 12 _ rfl
  have g13 := hg 13 _ rfl
  have g14 := hg 14 _ rfl
  have g15 := hg 15 _ rfl
  have g16 := hg 16 _ rfl
  have g17 := hg 17 _ rfl
  have g18 := hg 18 _ rfl
  have l19 : xs.length = 19 := hlen
  match xs, l19 with
  | [y0, y1, y2, y3, y4, y5, y6, y7, y8, y9, y10, y11, y12, y13, y14, y15, y16, y17, y18], _ =>
  have g0' : DataW.trod enc Tryz.prog w base spare held n 3 [c0] = some y0 := by
   have h9 : DataW.trod enc Tryz.prog w base spare held n 3 (([c0, c1, c2, c3, c4, c5, c6, c7, c8, c9, c10, c11, c12, c13, c14, c15, c16, c17, c18, c19, c20, c21, c22].drop 0).take (Tryz.prog.cellsOf 3)) = [y0, y1, y2, y3, y4, y5, y6, y7, y8, y9, y10, y11, y12, y13, y14, y15, y16, y17, y18][0]? := g0
   rw [Fi.cellsI] at h9
   exact h9
  have g1' : DataW.trod enc Tryz.prog w base spare held n 3 [c1] = some y1 := by
   have h9 : DataW.trod enc Tryz.prog w base spare held n 3 (([c0, c1, c2, c3, c4, c5, c6, c7, c8, c9, c10, c11, c12, c13, c14, c15, c16, c17, c18, c19, c20, c21, c22].drop 1).take (Tryz.prog.cellsOf 3)) = [y0, y1, y2, y3, y4, y5, y6, y7, y8, y9, y10, y11, y12, y13, y14, y15, y16, y17, y18][1]? := g1
   rw [Fi.cellsI] at h9
   exact h9
  have g2' : DataW.trod enc Tryz.prog w base spare held n 3 [c2] = some y2 := by
   have h9 : DataW.trod enc Tryz.prog w base spare held n 3 (([c0, c1, c2, c3, c4, c5, c6, c7, c8, c9, c10, c11, c12, c13, c14, c15, c16, c17, c18, c19, c20, c21, c22].drop 2).take (Tryz.prog.cellsOf 3)) = [y0, y1, y2, y3, y4, y5, y6, y7, y8, y9, y10, y11, y12, y13, y14, y15, y16, y17, y18][2]? := g2
   rw [Fi.cellsI] at h9
   exact h9
  have g3' : DataW.trod enc Tryz.prog w base spare held n 9 [c3] = some y3 := by
   have h9 : DataW.trod enc Tryz.prog w base spare held n 9 (([c0, c1, c2, c3, c4, c5, c6, c7, c8, c9, c10, c11, c12, c13, c14, c15, c16, c17, c18, c19, c20, c21, c22].drop 3).take (Tryz.prog.cellsOf 9)) = [y0, y1, y2, y3, y4, y5, y6, y7, y8, y9, y10, y11, y12, y13, y14, y15, y16, y17, y18][3]? := g3
   rw [Fi.cellsSt] at h9
   exact h9
  have g4' : DataW.trod enc Tryz.prog w base spare held n 3 [c4] = some y4 := by
   have h9 : DataW.trod enc Tryz.prog w base spare held n 3 (([c0, c1, c2, c3, c4, c5, c6, c7, c8, c9, c10, c11, c12, c13, c14, c15, c16, c17, c18, c19, c20, c21, c22].drop 4).take (Tryz.prog.cellsOf 3)) = [y0, y1, y2, y3, y4, y5, y6, y7, y8, y9, y10, y11, y12, y13, y14, y15, y16, y17, y18][4]? := g4
   rw [Fi.cellsI] at h9
   exact h9
  have g5' : DataW.trod enc Tryz.prog w base spare held n 9 [c5] = some y5 := by
   have h9 : DataW.trod enc Tryz.prog w base spare held n 9 (([c0, c1, c2, c3, c4, c5, c6, c7, c8, c9, c10, c11, c12, c13, c14, c15, c16, c17, c18, c19, c20, c21, c22].drop 5).take (Tryz.prog.cellsOf 9)) = [y0, y1, y2, y3, y4, y5, y6, y7, y8, y9, y10, y11, y12, y13, y14, y15, y16, y17, y18][5]? := g5
   rw [Fi.cellsSt] at h9
   exact h9
  have g6' : DataW.trod enc Tryz.prog w base spare held n 3 [c6] = some y6 := by
   have h9 : DataW.trod enc Tryz.prog w base spare held n 3 (([c0, c1, c2, c3, c4, c5, c6, c7, c8, c9, c10, c11, c12, c13, c14, c15, c16, c17, c18, c19, c20, c21, c22].drop 6).take (Tryz.prog.cellsOf 3)) = [y0, y1, y2, y3, y4, y5, y6, y7, y8, y9, y10, y11, y12, y13, y14, y15, y16, y17, y18][6]? := g6
   rw [Fi.cellsI] at h9
   exact h9
  have g7' : DataW.trod enc Tryz.prog w base spare held n 3 [c7] = some y7 := by
   have h9 : DataW.trod enc Tryz.prog w base spare held n 3 (([c0, c1, c2, c3, c4, c5, c6, c7, c8, c9, c10, c11, c12, c13, c14, c15, c16, c17, c18, c19, c20, c21, c22].drop 7).take (Tryz.prog.cellsOf 3)) = [y0, y1, y2, y3, y4, y5, y6, y7, y8, y9, y10, y11, y12, y13, y14, y15, y16, y17, y18][7]? := g7
   rw [Fi.cellsI] at h9
   exact h9
  have g8' : DataW.trod enc Tryz.prog w base spare held n 25 [c8, c9, c10, c11, c12] = some y8 := by
   have h9 : DataW.trod enc Tryz.prog w base spare held n 25 (([c0, c1, c2, c3, c4, c5, c6, c7, c8, c9, c10, c11, c12, c13, c14, c15, c16, c17, c18, c19, c20, c21, c22].drop 8).take (Tryz.prog.cellsOf 25)) = [y0, y1, y2, y3, y4, y5, y6, y7, y8, y9, y10, y11, y12, y13, y14, y15, y16, y17, y18][8]? := g8
   rw [Fi.cellsF] at h9
   exact h9
  have g9' : DataW.trod enc Tryz.prog w base spare held n 22 [c13] = some y9 := by
   have h9 : DataW.trod enc Tryz.prog w base spare held n 22 (([c0, c1, c2, c3, c4, c5, c6, c7, c8, c9, c10, c11, c12, c13, c14, c15, c16, c17, c18, c19, c20, c21, c22].drop 13).take (Tryz.prog.cellsOf 22)) = [y0, y1, y2, y3, y4, y5, y6, y7, y8, y9, y10, y11, y12, y13, y14, y15, y16, y17, y18][9]? := g9
   rw [Fi.cellsSs] at h9
   exact h9
  have g10' : DataW.trod enc Tryz.prog w base spare held n 26 [c14] = some y10 := by
   have h9 : DataW.trod enc Tryz.prog w base spare held n 26 (([c0, c1, c2, c3, c4, c5, c6, c7, c8, c9, c10, c11, c12, c13, c14, c15, c16, c17, c18, c19, c20, c21, c22].drop 14).take (Tryz.prog.cellsOf 26)) = [y0, y1, y2, y3, y4, y5, y6, y7, y8, y9, y10, y11, y12, y13, y14, y15, y16, y17, y18][10]? := g10
   rw [cellsMs] at h9
   exact h9
  have g11' : DataW.trod enc Tryz.prog w base spare held n 9 [c15] = some y11 := by
   have h9 : DataW.trod enc Tryz.prog w base spare held n 9 (([c0, c1, c2, c3, c4, c5, c6, c7, c8, c9, c10, c11, c12, c13, c14, c15, c16, c17, c18, c19, c20, c21, c22].drop 15).take (Tryz.prog.cellsOf 9)) = [y0, y1, y2, y3, y4, y5, y6, y7, y8, y9, y10, y11, y12, y13, y14, y15, y16, y17, y18][11]? := g11
   rw [Fi.cellsSt] at h9
   exact h9
  have g12' : DataW.trod enc Tryz.prog w base spare held n 4 [c16] = some y12 := by
   have h9 : DataW.trod enc Tryz.prog w base spare held n 4 (([c0, c1, c2, c3, c4, c5, c6, c7, c8, c9, c10, c11, c12, c13, c14, c15, c16, c17, c18, c19, c20, c21, c22].drop 16).take (Tryz.prog.cellsOf 4)) = [y0, y1, y2, y3, y4, y5, y6, y7, y8, y9, y10, y11, y12, y13, y14, y15, y16, y17, y18][12]? := g12
   rw [cellsB] at h9
   exact h9
  have g13' : DataW.trod enc Tryz.prog w base spare held n 4 [c17] = some y13 := by
   have h9 : DataW.trod enc Tryz.prog w base spare held n 4 (([c0, c1, c2, c3, c4, c5, c6, c7, c8, c9, c10, c11, c12, c13, c14, c15, c16, c17, c18, c19, c20, c21, c22].drop 17).take (Tryz.prog.cellsOf 4)) = [y0, y1, y2, y3, y4, y5, y6, y7, y8, y9, y10, y11, y12, y13, y14, y15, y16, y17, y18][13]? := g13
   rw [cellsB] at h9
   exact h9
  have g14' : DataW.trod enc Tryz.prog w base spare held n 9 [c18] = some y14 := by
   have h9 : DataW.trod enc Tryz.prog w base spare held n 9 (([c0, c1, c2, c3, c4, c5, c6, c7, c8, c9, c10, c11, c12, c13, c14, c15, c16, c17, c18, c19, c20, c21, c22].drop 18).take (Tryz.prog.cellsOf 9)) = [y0, y1, y2, y3, y4, y5, y6, y7, y8, y9, y10, y11, y12, y13, y14, y15, y16, y17, y18][14]? := g14
   rw [Fi.cellsSt] at h9
   exact h9
  have g15' : DataW.trod enc Tryz.prog w base spare held n 9 [c19] = some y15 := by
   have h9 : DataW.trod enc Tryz.prog w base spare held n 9 (([c0, c1, c2, c3, c4, c5, c6, c7, c8, c9, c10, c11, c12, c13, c14, c15, c16, c17, c18, c19, c20, c21, c22].drop 19).take (Tryz.prog.cellsOf 9)) = [y0, y1, y2, y3, y4, y5, y6, y7, y8, y9, y10, y11, y12, y13, y14, y15, y16, y17, y18][15]? := g15
   rw [Fi.cellsSt] at h9
   exact h9
  have g16' : DataW.trod enc Tryz.prog w base spare held n 9 [c20] = some y16 := by
   have h9 : DataW.trod enc Tryz.prog w base spare held n 9 (([c0, c1, c2, c3, c4, c5, c6, c7, c8, c9, c10, c11, c12, c13, c14, c15, c16, c17, c18, c19, c20, c21, c22].drop 20).take (Tryz.prog.cellsOf 9)) = [y0, y1, y2, y3, y4, y5, y6, y7, y8, y9, y10, y11, y12, y13, y14, y15, y16, y17, y18][16]? := g16
   rw [Fi.cellsSt] at h9
   exact h9
  have g17' : DataW.trod enc Tryz.prog w base spare held n 3 [c21] = some y17 := by
   have h9 : DataW.trod enc Tryz.prog w base spare held n 3 (([c0, c1, c2, c3, c4, c5, c6, c7, c8, c9, c10, c11, c12, c13, c14, c15, c16, c17, c18, c19, c20, c21, c22].drop 21).take (Tryz.prog.cellsOf 3)) = [y0, y1, y2, y3, y4, y5, y6, y7, y8, y9, y10, y11, y12, y13, y14, y15, y16, y17, y18][17]? := g17
   rw [Fi.cellsI] at h9
   exact h9
  have g18' : DataW.trod enc Tryz.prog w base spare held n 9 [c22] = some y18 := by
   have h9 : DataW.trod enc Tryz.prog w base spare held n 9 (([c0, c1, c2, c3, c4, c5, c6, c7, c8, c9, c10, c11, c12, c13, c14, c15, c16, c17, c18, c19, c20, c21, c22].drop 22).take (Tryz.prog.cellsOf 9)) = [y0, y1, y2, y3, y4, y5, y6, y7, y8, y9, y10, y11, y12, y13, y14, y15, y16, y17, y18][18]? := g18
   rw [Fi.cellsSt] at h9
   exact h9
  obtain ⟨a0, e0, _, _⟩ := DataW.trod_int Tryz.underlying3 g0'
  obtain ⟨a1, e1, _, _⟩ := DataW.trod_int Tryz.underlying3 g1'
  obtain ⟨a2, e2, _, _⟩ := DataW.trod_int Tryz.underlying3 g2'
  obtain ⟨a3, e3, _, z3⟩ := DataW.trod_string Tryz.underlying9 g3'
  obtain ⟨a4, e4, _, _⟩ := DataW.trod_int Tryz.underlying3 g4'
  obtain ⟨a5, e5, _, z5⟩ := DataW.trod_string Tryz.underlying9 g5'
  obtain ⟨a6, e6, _, _⟩ := DataW.trod_int Tryz.underlying3 g6'
  obtain ⟨a7, e7, _, _⟩ := DataW.trod_int Tryz.underlying3 g7'
  obtain ⟨f, hF⟩ := Fi.fil_of_trod n n (Nat.le_refl _) _ _ g8'
  obtain ⟨W, WA, wc, e9, hW1, hW2, hW3, hW4⟩ := Fi.strs_of_trod g9'
  obtain ⟨M, MA, mc, dd, e10, hM1, hM2, hM3⟩ := mods_of_trod g10'
  obtain ⟨a11, e11, _, z11⟩ := DataW.trod_string Tryz.underlying9 g11'
  obtain ⟨a12, e12, _⟩ := DataW.trod_bool Tryz.underlying4 g12'
  obtain ⟨a13, e13, _⟩ := DataW.trod_bool Tryz.underlying4 g13'
  obtain ⟨a14, e14, _, z14⟩ := DataW.trod_string Tryz.underlying9 g14'
  obtain ⟨a15, e15, _, z15⟩ := DataW.trod_string Tryz.underlying9 g15'
  obtain ⟨a16, e16, _, z16⟩ := DataW.trod_string Tryz.underlying9 g16'
  obtain ⟨a17, e17, _, _⟩ := DataW.trod_int Tryz.underlying3 g17'
  obtain ⟨a18, e18, _, z18⟩ := DataW.trod_string Tryz.underlying9 g18'
  simp only [List.cons.injEq, and_true] at e0 e1 e2 e3 e4 e5 e6 e7 e9 e10 e11 e12 e13 e14 e15 e16 e17 e18
  subst e0 e1 e2 e3 e4 e5 e6 e7 e9 e10 e11 e12 e13 e14 e15 e16 e17 e18
  exact ⟨⟨a0, a1, a2, a3, a4, a5, a6, a7, f, W, M, a11, a12, a13, a14, a15, a16, a17, a18⟩, c8, c9, c10, c11, c12, WA, wc, MA, mc, dd, rfl, hF, ⟨hW4, hW2, hW1, hW3⟩, ⟨hM3, hM2, hM1⟩, z3, z5, z11, z14, z15, z16, z18⟩
end
theorem open_msg {H : Type} {enc : TypeId × Value → H} {w : World} {base : Nat} {spare : Nat → Bool} {held : Bool} {r : Reach} {b0 : Nat} {v : Value} {d : DataW H} {p : List MemPlace}
  (hv : Value.okWide Tryz.prog w r b0 28 v) (h : DataW.Trod enc Tryz.prog w base spare held 28 v d p) :
  ∃ (m : Mg) (cs : Array Value), v = .agg cs ∧ MAt w (· < w.heap.size) m cs := by
 obtain ⟨cs, rfl, hsz⟩ := okWide_struct Tryz.underlying28 hv
 obtain ⟨fuel, hf⟩ := h
 obtain ⟨m, hm⟩ := msg_of_trod hf
 exact ⟨m, cs, rfl, hm⟩
end Go.Proofs.YtconghaebebncaaGreatDoor.Ms
