import Derived.Test.YtpnlalfdgngcdaaDoorZA11
import Derived.ProofKit
import Derived.OpenShut
import Derived.Deep.Strs
import Derived.Lib.SmallJoins
set_option linter.unusedVariables false
set_option maxRecDepth 100000
namespace Go.Proofs.YtpnlalfdgngcdaaDoor.Ru
open Go.ChangeShapes Go.WideShapes Go.RowKit Go.Deep
theorem cellsG : Tryd.prog.cellsOf 24 = 5:=by kernel_rfl
theorem cellsSt : Tryd.prog.cellsOf 9 = 1:=by kernel_rfl
theorem cellsSs : Tryd.prog.cellsOf 22 = 1:=by kernel_rfl
theorem cellsB : Tryd.prog.cellsOf 4 = 1:=by kernel_rfl
theorem no_spare {w : World} {ad : Addr} {v : Value} (h1 : w.cell? ad = some v) : ∃ b o, ad = ⟨b, o, none⟩:=by
 obtain ⟨b, o, sp⟩:=ad
 have hs : sp = none:=by
  unfold World.cell? at h1
  split at h1
  ·cases sp with
   | none=>rfl
   | some x=>simp at h1
  ·cases h1
 exact ⟨b, o, by rw [hs]⟩
theorem strs_of_trod {H : Type} {enc : TypeId × Value → H} {w : World} {base : Nat} {spare : Nat → Bool} {held : Bool} {fuel : Nat} {cs : List Value} {x : DataW H × List MemPlace}
  (h : DataW.trod enc Tryd.prog w base spare held fuel 22 cs = some x) : ∃ (ss : List ByteArray) (S : Option Addr) (c : Nat), cs = [.slice S ss.length c] ∧ ss.length ≤ c ∧ ss.length ≤ maxLen ∧ (∀ s ∈ ss, s.size ≤ maxLen) ∧ StrsAt w (· < w.heap.size) S ss:=by
 rcases DataW.trod_slice Tryd.underlying22 h with ⟨hc, _⟩ | ⟨ad, len, cap, elems, rest, m, hm, hc, _, _, hlc, hcm, hel, hev, _, _⟩
 ·exact ⟨[], none, 0, hc, Nat.le_refl _, Nat.zero_le _, fun s hs=>by simp at hs, StrsAt.nil _ _ _⟩
 ·have one : ∀ i, i < len → ∃ a : ByteArray, a.size ≤ maxLen ∧ w.cell? (ad.add i) = some (.string a):=by
   intro i hi
   have h1:=hev i hi
   rw [cellsSt] at h1
   have h2 : elems[i]? = some (elems[i]'(by omega)):=List.getElem?_eq_getElem (by omega)
   rw [h2, Option.bind_eq_some_iff] at h1
   obtain ⟨cs', hcs', hof⟩:=h1
   obtain ⟨_, hl', hcell⟩:=World.cells?_some hcs'
   obtain ⟨s, rfl, _, hsz⟩:=DataW.trod_string Tryd.underlying9 hof
   have e0:=hcell 0 (by simp)
   rw [Go.Deep.add_add, Nat.mul_one] at e0
   exact ⟨s, hsz, e0⟩
  have : Inhabited ByteArray:=⟨⟨#[]⟩⟩
  obtain ⟨q, hq⟩:=choose_lt one
  have hkl : ((List.range len).map q).length = len:=by simp
  refine ⟨(List.range len).map q, some ad, cap, by rw [hkl]; exact hc, by rw [hkl]; exact hlc, by rw [hkl]; omega, fun s hs=>?_, fun h0=>?_⟩
  ·obtain ⟨i, hi, rfl⟩:=List.mem_map.1 hs
   exact (hq i (List.mem_range.1 hi)).1
  ·rw [hkl] at h0
   have hz:=(hq 0 h0).2
   have e0 : ad.add 0 = ad:=by unfold Addr.add; rw [if_pos rfl]
   rw [e0] at hz
   obtain ⟨b, o, rfl⟩:=no_spare hz
   refine ⟨b, o, rfl, cell_lt hz, fun i hi=>?_⟩
   rw [hkl] at hi
   have:=(hq i hi).2
   rw [Addr.add_lit] at this
   simpa using this
theorem rule_of_trod {H : Type} {enc : TypeId × Value → H} {w : World} {base : Nat} {spare : Nat → Bool} {held : Bool} {fuel : Nat} {cs : List Value} {x : DataW H × List MemPlace}
  (h : DataW.trod enc Tryd.prog w base spare held fuel 24 cs = some x) : ∃ (r : Rul) (A : Option Addr) (c : Nat), cs = [.bool r.deny, .string r.rights, .bool r.sub, .string r.who, .slice A r.attrs.length c] ∧ r.rights.size ≤ maxLen ∧ r.who.size ≤ maxLen ∧ r.attrs.length ≤ c ∧ r.attrs.length ≤ maxLen ∧ (∀ s ∈ r.attrs, s.size ≤ maxLen) ∧ StrsAt w (· < w.heap.size) A r.attrs:=by
 obtain ⟨xs, n, rfl, _, hl, hlen, hg⟩:=DataW.trod_struct Tryd.underlying24 h
 rw [cellsG] at hl
 match cs, hl with
 | [c0, c1, c2, c3, c4], _ =>
  have l5 : xs.length = 5:=hlen
  match xs, l5 with
  | [y0, y1, y2, y3, y4], _ =>
  have g0' : DataW.trod enc Tryd.prog w base spare held n 4 [c0] = some y0:=by simpa [cellsB] using hg 0 _ rfl
  have g1' : DataW.trod enc Tryd.prog w base spare held n 9 [c1] = some y1:=by simpa [cellsSt] using hg 1 _ rfl
  have g2' : DataW.trod enc Tryd.prog w base spare held n 4 [c2] = some y2:=by simpa [cellsB] using hg 2 _ rfl
  have g3' : DataW.trod enc Tryd.prog w base spare held n 9 [c3] = some y3:=by simpa [cellsSt] using hg 3 _ rfl
  have g4' : DataW.trod enc Tryd.prog w base spare held n 22 [c4] = some y4:=by simpa [cellsSs] using hg 4 _ rfl
  obtain ⟨a0, e0, _⟩:=DataW.trod_bool Tryd.underlying4 g0'
  obtain ⟨a1, e1, _, z1⟩:=DataW.trod_string Tryd.underlying9 g1'
  obtain ⟨a2, e2, _⟩:=DataW.trod_bool Tryd.underlying4 g2'
  obtain ⟨a3, e3, _, z3⟩:=DataW.trod_string Tryd.underlying9 g3'
  obtain ⟨ss, S, sc, e4, h1, h2, h3, h4⟩:=strs_of_trod g4'
  simp only [List.cons.injEq, and_true] at e0 e1 e2 e3 e4
  subst e0 e1 e2 e3 e4
  exact ⟨⟨a0, a1, a2, a3, ss⟩, S, sc, rfl, z1, z3, h1, h2, h3, h4⟩
structure RuIn (w : World) (r : Rul) (A : Option Addr) (c : Nat) : Prop where
 zr : r.rights.size ≤ maxLen
 zw : r.who.size ≤ maxLen
 cap : r.attrs.length ≤ c
 len : r.attrs.length ≤ maxLen
 each : ∀ x ∈ r.attrs, x.size ≤ maxLen
 str : StrsAt w (· < w.heap.size) A r.attrs
theorem open_rule {H : Type} {enc : TypeId × Value → H} {w : World} {base : Nat} {spare : Nat → Bool} {held : Bool} {r : Reach} {b0 : Nat} {v : Value} {d : DataW H} {p : List MemPlace}
  (hv : Value.okWide Tryd.prog w r b0 24 v) (h : DataW.Trod enc Tryd.prog w base spare held 24 v d p) :
  ∃ (c : Rul) (A : Option Addr) (n : Nat), v = .agg #[.bool c.deny, .string c.rights, .bool c.sub, .string c.who, .slice A c.attrs.length n] ∧ RuIn w c A n:=by
 obtain ⟨cs, rfl, hsz⟩:=okWide_struct Tryd.underlying24 hv
 obtain ⟨fuel, hf⟩:=h
 obtain ⟨c, A, n, hc, h1, h2, h3, h4, h5, h6⟩:=rule_of_trod hf
 refine ⟨c, A, n, ?_, ⟨h1, h2, h3, h4, h5, h6⟩⟩
 have hc : cs.toList = [.bool c.deny, .string c.rights, .bool c.sub, .string c.who, .slice A c.attrs.length n]:=hc
 rw [← Array.toArray_toList (xs:=cs), hc]
end Go.Proofs.YtpnlalfdgngcdaaDoor.Ru
