import Derived.ProofKit
import Derived.OpenShut
import Derived.Deep.Strs
import Derived.Lib.SmallJoins
import Derived.Test.YtbnebpdpeegpbaaDoorZR8
set_option linter.unusedVariables false
set_option maxRecDepth 100000
namespace Go.Proofs.YtbnebpdpeegpbaaDoor.Cs
open Go.ChangeShapes Go.WideShapes Go.RowKit Go.Deep
theorem cellsCsn : Tryd.prog.cellsOf 23 = 3:=by kernel_rfl
theorem cellsStep : Tryd.prog.cellsOf 40 = 5:=by kernel_rfl
theorem cells64 : Tryd.prog.cellsOf 2 = 1:=by kernel_rfl
theorem cellsI : Tryd.prog.cellsOf 3 = 1:=by kernel_rfl
theorem wf64' {n : Int} (h : (Lit.int .i64 n).wf = true) : I64 n:=by
 simpa [I64, Lit.wf, IntKind.min, IntKind.max, IntKind.signed, IntKind.bits] using h
structure St where
 wh : Int
 nw : Int
 t : Int
 s : Int
 r : Int
abbrev St.cs (k : St) : List Value:=[.int .i64 k.wh, .int .i64 k.nw, .int .i64 k.t, .int .i64 k.s, .int .i64 k.r]
def St.ok (k : St) : Prop:=I64 k.wh ∧ I64 k.nw ∧ I64 k.t ∧ I64 k.s ∧ I64 k.r
section
variable {H : Type} {enc : TypeId × Value → H} {w : World} {base : Nat} {spare : Nat → Bool} {held : Bool}
theorem int_of_trod {fuel : Nat} {t : TypeId} {c : Value} {x : DataW H × List MemPlace} (ht : Tryd.prog.underlying t = some (.int .i64)) (h : DataW.trod enc Tryd.prog w base spare held fuel t [c] = some x) : ∃ n, c = .int .i64 n ∧ I64 n:=by
 obtain ⟨n, hn, _, hwf⟩:=DataW.trod_int ht h
 simp only [List.cons.injEq, and_true] at hn
 exact ⟨n, hn, wf64' hwf⟩
theorem csn_of_trod {fuel : Nat} {cs : List Value} {x : DataW H × List MemPlace} (h : DataW.trod enc Tryd.prog w base spare held fuel 23 cs = some x) : ∃ t s r, cs = [.int .i64 t, .int .i64 s, .int .i64 r] ∧ I64 t ∧ I64 s ∧ I64 r:=by
 obtain ⟨xs, n, rfl, _, hl, hlen, hg⟩:=DataW.trod_struct Tryd.underlying23 h
 rw [cellsCsn] at hl
 match cs, hl with
 | [c0, c1, c2], _ =>
  have l3 : xs.length = 3:=hlen
  match xs, l3 with
  | [y0, y1, y2], _ =>
  have g0' : DataW.trod enc Tryd.prog w base spare held n 2 [c0] = some y0:=by simpa [cells64] using hg 0 _ rfl
  have g1' : DataW.trod enc Tryd.prog w base spare held n 3 [c1] = some y1:=by simpa [cellsI] using hg 1 _ rfl
  have g2' : DataW.trod enc Tryd.prog w base spare held n 3 [c2] = some y2:=by simpa [cellsI] using hg 2 _ rfl
  obtain ⟨a, rfl, ha⟩:=int_of_trod Tryd.underlying2 g0'
  obtain ⟨b, rfl, hb⟩:=int_of_trod Tryd.underlying3 g1'
  obtain ⟨c, rfl, hc⟩:=int_of_trod Tryd.underlying3 g2'
  exact ⟨a, b, c, rfl, ha, hb, hc⟩
theorem step_of_trod {fuel : Nat} {cs : List Value} {x : DataW H × List MemPlace} (h : DataW.trod enc Tryd.prog w base spare held fuel 40 cs = some x) : ∃ k : St, cs = k.cs ∧ k.ok:=by
 obtain ⟨xs, n, rfl, _, hl, hlen, hg⟩:=DataW.trod_struct Tryd.underlying40 h
 rw [cellsStep] at hl
 match cs, hl with
 | [c0, c1, c2, c3, c4], _ =>
  have l3 : xs.length = 3:=hlen
  match xs, l3 with
  | [y0, y1, y2], _ =>
  have g0' : DataW.trod enc Tryd.prog w base spare held n 3 [c0] = some y0:=by simpa [cellsI] using hg 0 _ rfl
  have g1' : DataW.trod enc Tryd.prog w base spare held n 2 [c1] = some y1:=by simpa [cells64] using hg 1 _ rfl
  have g2' : DataW.trod enc Tryd.prog w base spare held n 23 [c2, c3, c4] = some y2:=by simpa [cellsCsn] using hg 2 _ rfl
  obtain ⟨a, rfl, ha⟩:=int_of_trod Tryd.underlying3 g0'
  obtain ⟨b, rfl, hb⟩:=int_of_trod Tryd.underlying2 g1'
  obtain ⟨t, s, r, hc, h1, h2, h3⟩:=csn_of_trod g2'
  simp only [List.cons.injEq, and_true] at hc
  obtain ⟨rfl, rfl, rfl⟩:=hc
  exact ⟨⟨a, b, t, s, r⟩, rfl, ha, hb, h1, h2, h3⟩
def StepsIn (w : World) (A : Option Addr) (ks : List St) : Prop :=
 (∀ k ∈ ks, k.ok) ∧ (0 < ks.length → ∃ ad, A = some ad ∧ ad.block < w.heap.size ∧ ∀ i (h : i < ks.length) (j : Nat) u, (ks[i].cs)[j]? = some u → w.cell? (ad.add (i * 5 + j)) = some u)
theorem add_next (a : Addr) (n i : Nat) (hi : 0 < i) : a.add (n + i) = ⟨(a.add n).block, (a.add n).off + i, none⟩:=by
 unfold Addr.add
 by_cases h : n = 0 <;> simp [h] <;> omega
theorem StepsIn.kid {w wr : World} {A : Option Addr} {ks : List St} (h : StepsIn w A ks) (hb : Below w.heap.size w wr) {i : Nat} (hi : i < ks.length) :
  ∃ (ad : Addr) (k : St), k = ks[i] ∧ k.ok ∧ A = some ad ∧ ad.block < w.heap.size ∧ wr.cell? (ad.add (i * 5)) = some (.int .i64 k.wh) ∧ wr.cell? ⟨(ad.add (i * 5)).block, (ad.add (i * 5)).off + 1, none⟩ = some (.int .i64 k.nw) ∧
   wr.cell? ⟨(ad.add (i * 5)).block, (ad.add (i * 5)).off + 2, none⟩ = some (.int .i64 k.t) ∧ wr.cell? ⟨(ad.add (i * 5)).block, (ad.add (i * 5)).off + 3, none⟩ = some (.int .i64 k.s) ∧ wr.cell? ⟨(ad.add (i * 5)).block, (ad.add (i * 5)).off + 4, none⟩ = some (.int .i64 k.r):=by
 obtain ⟨hk, hA⟩:=h
 obtain ⟨ad, e, hp, hc⟩:=hA (by omega)
 have hcc : ∀ (j : Nat) u, (ks[i].cs)[j]? = some u → wr.cell? (ad.add (i * 5 + j)) = some u:=fun j u hu=>(hb.cell (by rw [block_of_add]; exact hp)).trans (hc i hi j u hu)
 have h0:=hcc 0 _ rfl
 have h1:=hcc 1 _ rfl
 have h2:=hcc 2 _ rfl
 have h3:=hcc 3 _ rfl
 have h4:=hcc 4 _ rfl
 rw [add_next _ _ _ (by omega)] at h1 h2 h3 h4
 exact ⟨ad, _, rfl, hk _ (List.getElem_mem hi), e, hp, h0, h1, h2, h3, h4⟩
theorem open_steps {r : Reach} {b0 : Nat} {v : Value} {d : DataW H} {p : List MemPlace}
  (hv : Value.okWide Tryd.prog w r b0 32 v) (h : DataW.Trod enc Tryd.prog w base spare held 32 v d p) :
  ∃ (A : Option Addr) (c : Nat) (ks : List St), v = .slice A ks.length c ∧ StepsIn w A ks:=by
 obtain ⟨a, len, cap, rfl⟩:=okWide_slice Tryd.underlying32 hv
 obtain ⟨fuel, hf⟩:=h
 rcases DataW.trod_slice Tryd.underlying32 hf with ⟨hc, _⟩ | ⟨ad, len', cap', elems, rest, m, hm, hc, _, _, hlc, hcm, hel, hev, _, _⟩
 ·have hc' : (Value.slice a len cap) = .slice none 0 0:=by simpa [Value.cells] using hc
  injection hc' with h1 h2 h3
  subst h1 h2 h3
  exact ⟨_, _, [], rfl, fun k hk=>by simp at hk, fun h=>absurd h (by simp)⟩
 ·have hc' : (Value.slice a len cap) = .slice (some ad) len' cap':=by simpa [Value.cells] using hc
  injection hc' with h1 h2 h3
  subst h1 h2 h3
  have one : ∀ i, i < len → ∃ (q : St), q.ok ∧ ∀ (j : Nat) u, (q.cs)[j]? = some u → w.cell? (ad.add (i * 5 + j)) = some u:=by
   intro i hi
   have h1:=hev i hi
   rw [cellsStep] at h1
   have h2 : elems[i]? = some (elems[i]'(by omega)):=List.getElem?_eq_getElem (by omega)
   rw [h2, Option.bind_eq_some_iff] at h1
   obtain ⟨cs', hcs', hof⟩:=h1
   obtain ⟨_, hl', hcell⟩:=World.cells?_some hcs'
   obtain ⟨k, hk, hok⟩:=step_of_trod hof
   refine ⟨k, hok, fun j u hu=>?_⟩
   rw [← hk] at hu
   have hj : j < 5:=by
    have h9 : j < cs'.length:=(List.getElem?_eq_some_iff.1 hu).1
    omega
   have:=hcell j hj
   rw [Go.Deep.add_add] at this
   rw [this]
   exact hu
  have : Inhabited St:=⟨⟨0, 0, 0, 0, 0⟩⟩
  obtain ⟨q, hq⟩:=choose_lt one
  have hkl : ((List.range len).map q).length = len:=by simp
  refine ⟨some ad, cap, (List.range len).map q, by rw [hkl], fun k hk=>?_, fun h0=>⟨ad, rfl, ?_, fun i hi j u hu=>?_⟩⟩
  ·obtain ⟨i, hi, rfl⟩:=List.mem_map.1 hk
   exact (hq i (List.mem_range.1 hi)).1
  ·have h0' : 0 < len:=by rw [hkl] at h0; exact h0
   have:=(hq 0 h0').2 0 _ rfl
   have hb:=cell_lt this
   rwa [block_of_add] at hb
  ·have hi' : i < len:=by rw [hkl] at hi; exact hi
   refine (hq i hi').2 j u ?_
   simpa using hu
end
end Go.Proofs.YtbnebpdpeegpbaaDoor.Cs
namespace Go.Proofs.YtbnebpdpeegpbaaDoor.Cs
open Go.RowKit
theorem StepsIn.at_ {w : World} {A : Option Addr} {ks : List St} (h : StepsIn w A ks) {i : Nat} (hi : i < ks.length) :
  ∃ (ad : Addr) (k : St), k.ok ∧ A = some ad ∧ ∀ wr, Below w.heap.size w wr → wr.cell? (ad.add (i * 5)) = some (.int .i64 k.wh) ∧ wr.cell? ⟨(ad.add (i * 5)).block, (ad.add (i * 5)).off + 1, none⟩ = some (.int .i64 k.nw) ∧
   wr.cell? ⟨(ad.add (i * 5)).block, (ad.add (i * 5)).off + 2, none⟩ = some (.int .i64 k.t) ∧ wr.cell? ⟨(ad.add (i * 5)).block, (ad.add (i * 5)).off + 3, none⟩ = some (.int .i64 k.s) ∧ wr.cell? ⟨(ad.add (i * 5)).block, (ad.add (i * 5)).off + 4, none⟩ = some (.int .i64 k.r):=by
 obtain ⟨ad, k, hk, hok, e, hp, _⟩:=h.kid (Below.refl _ w) hi
 refine ⟨ad, k, hok, e, fun wr hb=>?_⟩
 obtain ⟨ad2, k2, hk2, hok2, e2, hp2, r⟩:=h.kid hb hi
 obtain rfl:=Option.some.inj (e.symm.trans e2)
 rw [hk, ← hk2]
 exact r
def Ok (t s : Int) : Prop:=0 ≤ t ∧ t ≤ 1099511627776 ∧ 0 ≤ s ∧ s ≤ 65535
theorem Ok.nxt {t s now T S : Int} (h : Ok t s) (hN : Cs.nxt t s now = (T, S)) (hT : T ≤ 1099511627776) : Ok T S:=by
 obtain ⟨h1, h2, h3, h4⟩:=h
 rcases nxt_cases t s now with ⟨a, e⟩ | ⟨a, b, e⟩ | ⟨a, b, e⟩
 all_goals
  rw [e] at hN
  injection hN with e1 e2
  subst e1 e2
  exact ⟨by omega, by omega, by omega, by omega⟩
theorem Ok.seen {t s T S R X Y : Int} (h : Ok t s) (hS : Cs.seen t s T S R = (X, Y)) : Ok X Y:=by
 unfold Cs.seen at hS
 split at hS
 ·rename_i h1
  injection hS with e1 e2
  subst e1 e2
  obtain ⟨a, b, c, d, _⟩:=isC_true h1.1
  exact ⟨a, b, c, d⟩
 ·injection hS with e1 e2
  subst e1 e2
  exact h
end Go.Proofs.YtbnebpdpeegpbaaDoor.Cs
