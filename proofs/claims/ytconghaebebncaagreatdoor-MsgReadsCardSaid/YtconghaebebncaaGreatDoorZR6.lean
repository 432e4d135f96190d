import Derived.Test.YtconghaebebncaaGreatDoorZR5
import Derived.ProofKit
import Derived.Deep.Strs
import Derived.Lib.SmallJoins
import Derived.Deep.RegionHeld3
set_option linter.unusedVariables false
set_option maxRecDepth 100000
namespace Go.Proofs.YtconghaebebncaaGreatDoor.Fi
open Go.RowKit
def StrsAt (w : World) (P : Nat → Prop) (A : Option Addr) (ss : List ByteArray) : Prop :=
 0 < ss.length → ∃ ad, A = some ad ∧ P ad.block ∧ ∀ i (h : i < ss.length), w.cell? (ad.add i) = some (.string ss[i])
theorem StrsAt.imp {w w' : World} {P P' : Nat → Prop} {A : Option Addr} {ss : List ByteArray} (h : StrsAt w P A ss) (hP : ∀ b, P b → P' b) (hw : ∀ p : Addr, P p.block → w'.cell? p = w.cell? p) : StrsAt w' P' A ss:=by
 intro h0
 obtain ⟨ad, e, hp, hc⟩:=h h0
 exact ⟨ad, e, hP _ hp, fun i hi=>(hw _ (by rw [block_of_add]; exact hp)).trans (hc i hi)⟩
theorem StrsAt.nil (w : World) (P : Nat → Prop) (A : Option Addr) : StrsAt w P A []:=fun h=>absurd h (by simp)
theorem StrsAt.past {w w' : World} {A : Option Addr} {ss : List ByteArray} (h : StrsAt w (· < w.heap.size) A ss) (hb : Below w.heap.size w w') : StrsAt w' (· < w'.heap.size) A ss :=
 h.imp (fun _ h=>Nat.lt_of_lt_of_le h hb.size) (fun p hp=>hb.cell hp)
inductive Lies (w : World) (P : Nat → Prop) : Fil → List Value → Prop
 | mk (k : Int) (a v : ByteArray) (ss : List ByteArray) (ks : List Fil) (S : Option Addr) (sc : Nat) (A : Option Addr) (c : Nat) (cs : Nat → List Value)
   (ha : a.size ≤ maxLen) (hv : v.size ≤ maxLen) (hsl : ss.length ≤ maxLen) (hsc : ss.length ≤ sc) (hs : StrsAt w P S ss) (hss : ∀ s ∈ ss, s.size ≤ maxLen)
   (hl : ks.length ≤ maxLen) (hcl : ks.length ≤ c) (h5 : ∀ i, i < ks.length → (cs i).length = 5)
   (hA : 0 < ks.length → ∃ ad, A = some ad ∧ P ad.block ∧ ∀ i, i < ks.length → ∀ j u, (cs i)[j]? = some u → w.cell? (ad.add (i * 5 + j)) = some u)
   (hk : ∀ i (h : i < ks.length), Lies w P ks[i] (cs i)) :
   Lies w P (.mk k a v ss ks) [.int .i64 k, .string a, .string v, .slice S ss.length sc, .slice A ks.length c]
theorem Lies.imp {w w' : World} {P P' : Nat → Prop} {f : Fil} {cs : List Value} (h : Lies w P f cs) (hP : ∀ b, P b → P' b) (hw : ∀ p : Addr, P p.block → w'.cell? p = w.cell? p) : Lies w' P' f cs:=by
 induction h with
 | mk k a v ss ks S sc A c cs ha hv hsl hsc hs hss hl hcl h5 hA hk ih =>
  refine .mk k a v ss ks S sc A c cs ha hv hsl hsc (hs.imp hP hw) hss hl hcl h5 (fun h0=>?_) ih
  obtain ⟨ad, e, hp, hc⟩:=hA h0
  exact ⟨ad, e, hP _ hp, fun i hi j u hu=>(hw _ (by rw [block_of_add]; exact hp)).trans (hc i hi j u hu)⟩
theorem Lies.kept {w w' : World} {B : Nat} {f : Fil} {cs : List Value} (h : Lies w (· < B) f cs) (hb : Below B w w') : Lies w' (· < B) f cs :=
 h.imp (fun _ h=>h) (fun p hp=>hb.cell hp)
theorem Lies.drew {w : World} {P : Nat → Prop} {f : Fil} {cs : List Value} (h : Lies w P f cs) : Lies w.drew P f cs:=h.imp (fun _ h=>h) (fun _ _=>rfl)
theorem Lies.past {w w' : World} {f : Fil} {cs : List Value} (h : Lies w (· < w.heap.size) f cs) (hb : Below w.heap.size w w') : Lies w' (· < w'.heap.size) f cs :=
 h.imp (fun _ h=>Nat.lt_of_lt_of_le h hb.size) (fun p hp=>hb.cell hp)
theorem Lies.alloc {w : World} {f : Fil} {cs : List Value} (h : Lies w (· < w.heap.size) f cs) (o : Obj) : Lies (w.alloc o) (· < (w.alloc o).heap.size) f cs:=h.past ((Below.refl _ _).alloc (Nat.le_refl _) o)
def KidsAt (w : World) (P : Nat → Prop) (A : Option Addr) (ks : List Fil) (ds : Nat → List Value) : Prop :=
 (∀ i, i < ks.length → (ds i).length = 5) ∧
 (0 < ks.length → ∃ ad, A = some ad ∧ P ad.block ∧ ∀ i, i < ks.length → ∀ j u, (ds i)[j]? = some u → w.cell? (ad.add (i * 5 + j)) = some u) ∧
 ∀ i (h : i < ks.length), Lies w P ks[i] (ds i)
theorem KidsAt.imp {w w' : World} {P P' : Nat → Prop} {A : Option Addr} {ks : List Fil} {ds : Nat → List Value} (h : KidsAt w P A ks ds) (hP : ∀ b, P b → P' b) (hw : ∀ p : Addr, P p.block → w'.cell? p = w.cell? p) :
  KidsAt w' P' A ks ds:=by
 refine ⟨h.1, fun h0=>?_, fun i hi=>(h.2.2 i hi).imp hP hw⟩
 obtain ⟨ad, e, hp, hc⟩:=h.2.1 h0
 exact ⟨ad, e, hP _ hp, fun i hi j u hu=>(hw _ (by rw [block_of_add]; exact hp)).trans (hc i hi j u hu)⟩
theorem KidsAt.past {w w' : World} {A : Option Addr} {ks : List Fil} {ds : Nat → List Value} (h : KidsAt w (· < w.heap.size) A ks ds) (hb : Below w.heap.size w w') : KidsAt w' (· < w'.heap.size) A ks ds :=
 h.imp (fun _ h=>Nat.lt_of_lt_of_le h hb.size) (fun p hp=>hb.cell hp)
theorem KidsAt.nil (w : World) (P : Nat → Prop) (A : Option Addr) (ds : Nat → List Value) : KidsAt w P A [] ds :=
 ⟨fun i h=>absurd h (by simp), fun h=>absurd h (by simp), fun i h=>absurd h (by simp)⟩
theorem Lies.open_ {w : World} {P : Nat → Prop} {k : Int} {a v : ByteArray} {ss : List ByteArray} {ks : List Fil} {cs : List Value} (h : Lies w P (.mk k a v ss ks) cs) :
  ∃ (S : Option Addr) (sc : Nat) (A : Option Addr) (c : Nat) (ds : Nat → List Value), cs = [.int .i64 k, .string a, .string v, .slice S ss.length sc, .slice A ks.length c] ∧ a.size ≤ maxLen ∧ v.size ≤ maxLen ∧ ss.length ≤ maxLen ∧ ss.length ≤ sc ∧ StrsAt w P S ss ∧ (∀ s ∈ ss, s.size ≤ maxLen) ∧
   ks.length ≤ maxLen ∧ ks.length ≤ c ∧ KidsAt w P A ks ds:=by
 cases h with
 | mk k a v ss ks S sc A c cs ha hv hsl hsc hs hss hl hcl h5 hA hk=>exact ⟨S, sc, A, c, cs, rfl, ha, hv, hsl, hsc, hs, hss, hl, hcl, h5, hA, hk⟩
theorem Lies.shut {w : World} {P : Nat → Prop} {k : Int} {a v : ByteArray} {ss : List ByteArray} {ks : List Fil} {S : Option Addr} {sc : Nat} {A : Option Addr} {c : Nat} {ds : Nat → List Value}
  (ha : a.size ≤ maxLen) (hv : v.size ≤ maxLen) (hsl : ss.length ≤ maxLen) (hsc : ss.length ≤ sc) (hs : StrsAt w P S ss) (hss : ∀ s ∈ ss, s.size ≤ maxLen) (hl : ks.length ≤ maxLen) (hcl : ks.length ≤ c) (h : KidsAt w P A ks ds) :
  Lies w P (.mk k a v ss ks) [.int .i64 k, .string a, .string v, .slice S ss.length sc, .slice A ks.length c]:=.mk k a v ss ks S sc A c ds ha hv hsl hsc hs hss hl hcl h.1 h.2.1 h.2.2
theorem add_next (a : Addr) (n i : Nat) (hi : 0 < i) : a.add (n + i) = ⟨(a.add n).block, (a.add n).off + i, none⟩:=by
 rw [← add_of_add]
 show Addr.add _ i = _
 unfold Addr.add
 rw [if_neg (by omega)]
theorem Lies.form {w : World} {P : Nat → Prop} {f : Fil} {cs : List Value} (h : Lies w P f cs) : ∃ (k : Int) (a v : ByteArray) (S : Option Addr) (m d : Nat) (A : Option Addr) (n c : Nat), cs = [.int .i64 k, .string a, .string v, .slice S m d, .slice A n c]:=by
 cases h with
 | mk k a v ss ks S sc A c cs ha hv hsl hsc hs hss hl hcl h5 hA hk=>exact ⟨_, _, _, _, _, _, _, _, _, rfl⟩
theorem KidsAt.kid {w wr : World} {ks : List Fil} {A : Option Addr} {ds : Nat → List Value} (hK : KidsAt w (· < w.heap.size) A ks ds) (hb : Below w.heap.size w wr)
  {i : Nat} (h : i < ks.length) : ∃ (ad : Addr) (k : Int) (a v : ByteArray) (S : Option Addr) (m d : Nat) (A' : Option Addr) (n c : Nat), A = some ad ∧ ad.block < w.heap.size ∧ wr.cell? (ad.add (i * 5)) = some (.int .i64 k) ∧
   wr.cell? ⟨(ad.add (i * 5)).block, (ad.add (i * 5)).off + 1, none⟩ = some (.string a) ∧
   wr.cell? ⟨(ad.add (i * 5)).block, (ad.add (i * 5)).off + 2, none⟩ = some (.string v) ∧
   wr.cell? ⟨(ad.add (i * 5)).block, (ad.add (i * 5)).off + 3, none⟩ = some (.slice S m d) ∧
   wr.cell? ⟨(ad.add (i * 5)).block, (ad.add (i * 5)).off + 4, none⟩ = some (.slice A' n c) ∧ Lies wr (· < wr.heap.size) ks[i] [.int .i64 k, .string a, .string v, .slice S m d, .slice A' n c]:=by
 obtain ⟨h5, hA, hk⟩:=hK
 obtain ⟨ad, e, hp, hc⟩:=hA (by omega)
 have hx:=hk i h
 obtain ⟨k, a, v, S, m, d, A', n, c, hd⟩:=hx.form
 have hcc : ∀ j u, (ds i)[j]? = some u → wr.cell? (ad.add (i * 5 + j)) = some u:=fun j u hu=>(hb.cell (by rw [block_of_add]; exact hp)).trans (hc i h j u hu)
 rw [hd] at hcc hx
 have h0:=hcc 0 _ rfl
 have h1:=hcc 1 _ rfl
 have h2:=hcc 2 _ rfl
 have h3:=hcc 3 _ rfl
 have h4:=hcc 4 _ rfl
 rw [add_next _ _ _ (by omega)] at h1 h2 h3 h4
 exact ⟨ad, k, a, v, S, m, d, A', n, c, e, hp, h0, h1, h2, h3, h4, hx.past hb⟩
end Go.Proofs.YtconghaebebncaaGreatDoor.Fi
namespace Go.Proofs.YtconghaebebncaaGreatDoor.Fi
open Go.ChangeShapes Go.WideShapes Go.RowKit Go.Deep
theorem cellsF : Tryz.prog.cellsOf 25 = 5:=by kernel_rfl
theorem cellsI : Tryz.prog.cellsOf 3 = 1:=by kernel_rfl
theorem cellsSt : Tryz.prog.cellsOf 9 = 1:=by kernel_rfl
theorem cellsSs : Tryz.prog.cellsOf 22 = 1:=by kernel_rfl
theorem cellsKs : Tryz.prog.cellsOf 23 = 1:=by kernel_rfl
theorem strs_of_trod {H : Type} {enc : TypeId × Value → H} {w : World} {base : Nat} {spare : Nat → Bool} {held : Bool} {fuel : Nat} {cs : List Value} {x : DataW H × List MemPlace}
  (h : DataW.trod enc Tryz.prog w base spare held fuel 22 cs = some x) : ∃ (ss : List ByteArray) (S : Option Addr) (c : Nat), cs = [.slice S ss.length c] ∧ ss.length ≤ c ∧ ss.length ≤ maxLen ∧ (∀ s ∈ ss, s.size ≤ maxLen) ∧ StrsAt w (· < w.heap.size) S ss:=by
 rcases DataW.trod_slice Tryz.underlying22 h with ⟨hc, _⟩ | ⟨ad, len, cap, elems, rest, m, hm, hc, _, _, hlc, hcm, hel, hev, _, _⟩
 ·exact ⟨[], none, 0, hc, Nat.le_refl _, Nat.zero_le _, fun s hs=>by simp at hs, StrsAt.nil _ _ _⟩
 ·have one : ∀ i, i < len → ∃ a : ByteArray, a.size ≤ maxLen ∧ w.cell? (ad.add i) = some (.string a):=by
   intro i hi
   have h1:=hev i hi
   rw [cellsSt] at h1
   have h2 : elems[i]? = some (elems[i]'(by omega)):=List.getElem?_eq_getElem (by omega)
   rw [h2, Option.bind_eq_some_iff] at h1
   obtain ⟨cs', hcs', hof⟩:=h1
   obtain ⟨_, hl', hcell⟩:=World.cells?_some hcs'
   obtain ⟨s, rfl, _, hsz⟩:=DataW.trod_string Tryz.underlying9 hof
   have e0:=hcell 0 (by simp)
   rw [Go.Deep.add_add, Nat.mul_one] at e0
   exact ⟨s, hsz, e0⟩
  have : Inhabited ByteArray:=⟨⟨#[]⟩⟩
  obtain ⟨q, hq⟩:=choose_lt one
  have hkl : ((List.range len).map q).length = len:=by simp
  refine ⟨(List.range len).map q, some ad, cap, by rw [hkl]; exact hc, by rw [hkl]; exact hlc, by rw [hkl]; omega, fun s hs=>?_, fun h0=>⟨ad, rfl, ?_, fun i hi=>?_⟩⟩
  ·obtain ⟨i, hi, rfl⟩:=List.mem_map.1 hs
   exact (hq i (List.mem_range.1 hi)).1
  ·rw [hkl] at h0
   have:=cell_lt (hq 0 h0).2
   rwa [block_of_add] at this
  ·rw [hkl] at hi
   simpa using (hq i hi).2
theorem fil_of_trod {H : Type} {enc : TypeId × Value → H} {w : World} {base : Nat} {spare : Nat → Bool} {held : Bool} : ∀ (N fuel : Nat), fuel ≤ N → ∀ (cs : List Value) (x : DataW H × List MemPlace),
  DataW.trod enc Tryz.prog w base spare held fuel 25 cs = some x → ∃ (f : Fil), Lies w (· < w.heap.size) f cs:=by
 intro N
 induction N with
 | zero =>
  intro fuel hf cs x h
  obtain rfl : fuel = 0:=by omega
  simp [DataW.trod] at h
 | succ N ih =>
  intro fuel hf cs x h
  obtain ⟨xs, n, rfl, _, hl, hlen, hg⟩:=DataW.trod_struct Tryz.underlying25 h
  rw [cellsF] at hl
  match cs, hl with
  | [c0, c1, c2, c3, c4], _ =>
   have g0:=hg 0 _ rfl
   have g1:=hg 1 _ rfl
   have g2:=hg 2 _ rfl
   have g3:=hg 3 _ rfl
   have g4:=hg 4 _ rfl
   have l5 : xs.length = 5:=hlen
   match xs, l5 with
   | [y0, y1, y2, y3, y4], _ =>
   have g0' : DataW.trod enc Tryz.prog w base spare held n 3 [c0] = some y0:=by simpa [cellsI] using g0
   have g1' : DataW.trod enc Tryz.prog w base spare held n 9 [c1] = some y1:=by simpa [cellsI, cellsSt] using g1
   have g2' : DataW.trod enc Tryz.prog w base spare held n 9 [c2] = some y2:=by simpa [cellsI, cellsSt] using g2
   have g3' : DataW.trod enc Tryz.prog w base spare held n 22 [c3] = some y3:=by simpa [cellsI, cellsSt, cellsSs] using g3
   have g4' : DataW.trod enc Tryz.prog w base spare held n 23 [c4] = some y4:=by simpa [cellsI, cellsSt, cellsSs, cellsKs] using g4
   obtain ⟨a, ha, _, _⟩:=DataW.trod_int Tryz.underlying3 g0'
   obtain ⟨s, hs, _, hsz⟩:=DataW.trod_string Tryz.underlying9 g1'
   obtain ⟨v, hv, _, hvz⟩:=DataW.trod_string Tryz.underlying9 g2'
   obtain ⟨ss, S, sc, hss, hsc, hsl, hsz2, hsa⟩:=strs_of_trod g3'
   simp only [List.cons.injEq, and_true] at ha hs hv hss
   subst ha hs hv hss
   rcases DataW.trod_slice Tryz.underlying23 g4' with ⟨hc, _⟩ | ⟨ad, len, cap, elems, rest, m, hm, hc, _, _, hlc, hcm, hel, hev, _, _⟩
   ·simp only [List.cons.injEq, and_true] at hc
    subst hc
    exact ⟨.mk a s v ss [], Lies.shut (ks:=[]) (A:=none) (c:=0) (ds:=fun _=>[]) hsz hvz hsl hsc hsa hsz2 (by simp) (by simp) (KidsAt.nil _ _ _ _)⟩
   ·simp only [List.cons.injEq, and_true] at hc
    subst hc
    have one : ∀ i, i < len → ∃ (q : Fil × List Value), q.2.length = 5 ∧ (∀ j u, q.2[j]? = some u → w.cell? (ad.add (i * 5 + j)) = some u) ∧ Lies w (· < w.heap.size) q.1 q.2:=by
     intro i hi
     have h1:=hev i hi
     rw [cellsF] at h1
     have h2 : elems[i]? = some (elems[i]'(by omega)):=List.getElem?_eq_getElem (by omega)
     rw [h2, Option.bind_eq_some_iff] at h1
     obtain ⟨cs', hcs', hof⟩:=h1
     obtain ⟨_, hl', hcell⟩:=World.cells?_some hcs'
     obtain ⟨f, hlies⟩:=ih m (by omega) cs' _ hof
     refine ⟨(f, cs'), hl', fun j u hu=>?_, hlies⟩
     have hj : j < 5:=by
      have h9 : j < cs'.length:=(List.getElem?_eq_some_iff.1 hu).1
      omega
     have:=hcell j hj
     rw [Go.Deep.add_add] at this
     rw [this]
     exact hu
    have : Inhabited (Fil × List Value):=⟨(.mk 0 ⟨#[]⟩ ⟨#[]⟩ [] [], [])⟩
    obtain ⟨q, hq⟩:=choose_lt one
    have hkl : ((List.range len).map fun i=>(q i).1).length = len:=by simp
    refine ⟨.mk a s v ss ((List.range len).map fun i=>(q i).1), ?_⟩
    have key:=Lies.shut (w:=w) (P:=(· < w.heap.size)) (k:=a) (a:=s) (v:=v) (ss:=ss) (ks:=(List.range len).map fun i=>(q i).1) (A:=some ad) (c:=cap) (ds:=fun i=>(q i).2) hsz hvz hsl hsc hsa hsz2 (by rw [hkl]; omega) (by rw [hkl]; exact hlc) (by
     refine ⟨fun i hi=>(hq i (by rw [hkl] at hi; exact hi)).1, fun h0=>⟨ad, rfl, ?_, fun i hi=>(hq i (by rw [hkl] at hi; exact hi)).2.1⟩, fun i hi=>?_⟩
     ·have h0' : 0 < len:=by rw [hkl] at h0; exact h0
      have hz:=hq 0 h0'
      have hl0 : (q 0).2.length = 5:=hz.1
      have:=hz.2.1 0 ((q 0).2[0]'(by omega)) (List.getElem?_eq_getElem (by omega))
      have hb:=cell_lt this
      rwa [block_of_add] at hb
     ·have hi' : i < len:=by rw [hkl] at hi; exact hi
      have:=(hq i hi').2.2
      simpa using this)
    rw [hkl] at key
    exact key
end Go.Proofs.YtconghaebebncaaGreatDoor.Fi
namespace Go.Proofs.YtconghaebebncaaGreatDoor.Fi
open Go.RowKit
set_option maxHeartbeats 400000 in
theorem hasKids_any (k : Int) (w : World) : Calls Tryz.prog 144 #[.int .i64 k] w fun e w'=>e = .returned (.bool (hasK k)) ∧ w = w':=by
 by_cases h : k = 1 ∨ k = 2 ∨ k = 3
 ·have hr:=Lib.hid (show hasK k = true by unfold hasK; rw [decide_eq_true_eq]; omega)
  rcases h with rfl | rfl | rfl
  all_goals
   go_enter Tryz.func144, Tryz.ntmps144
   go_wp2_with fail
   go_ret
   exact ⟨ret_bool hr.out.symm, rfl⟩
 ·have hr:=Lib.hid (show hasK k = false by unfold hasK; rw [decide_eq_false_iff_not]; omega)
  have h1 : (k == 1) = false:=by rw [beq_eq_false_iff_ne]; omega
  have h2 : (k == 2) = false:=by rw [beq_eq_false_iff_ne]; omega
  have h3 : (k == 3) = false:=by rw [beq_eq_false_iff_ne]; omega
  clear h
  go_enter Tryz.func144, Tryz.ntmps144
  go_wp2_with fail
  go_ret
  exact ⟨ret_bool hr.out.symm, rfl⟩
theorem tots_take {l : List Fil} {i : Nat} (h : i < l.length) : tots (l.take (i + 1)) = tots (l.take i) + tot l[i]:=by
 rw [List.take_succ_eq_append_getElem h, tots_app, tots, tots]; omega
theorem tots_take_le (l : List Fil) (i : Nat) : tots (l.take i) ≤ tots l:=by
 have:=tots_app (l.take i) (l.drop i)
 rw [List.take_append_drop] at this
 omega
def SaidCount (f : Fil) : Prop:=∀ (m : Int) (x0 x1 x2 x3 x4 : Value) (w : World), 1 ≤ m → m ≤ 21 → Lies w (· < w.heap.size) f [x0, x1, x2, x3, x4] →
  Calls Tryz.prog 118 #[.agg #[x0, x1, x2, x3, x4], .int .i64 m] w fun r w'=>r = .returned (.int .i64 (min (tot f : Int) m)) ∧ Below w.heap.size w w'
set_option maxHeartbeats 2000000 in
theorem count_any (f : Fil) : SaidCount f:=by
 refine ind ?_ f
 intro k a v ss ks ih m x0 x1 x2 x3 x4 w h1 h21 hL
 obtain ⟨S, sc, A, c, ds, hcs, ha, hv, hsl, hsc, hs, hss, hl, hcl, hK⟩:=hL.open_
 simp only [List.cons.injEq, and_true] at hcs
 obtain ⟨rfl, rfl, rfl, rfl, rfl⟩:=hcs
 unfold maxLen at hl
 have CH:=fun w=>hasKids_any k w
 cases hk : hasK k with
 | false =>
  have hr:=Lib.hid (show min (tot (.mk k a v ss ks) : Int) m = 1 by rw [tot, hk]; simp; omega)
  rw [hk] at CH
  have HC:=Lib.hid CH
  clear ih CH hk
  go_enter Tryz.func118, Tryz.ntmps118
  go_wp2_with fail
  refine (HC.out _).mono ?_
  rintro e w1 ⟨rfl, rfl⟩
  go_wp2_with fail
  go_ret
  rw [hr.out]
  exact ⟨rfl, (Below.refl _ _).alloc (Nat.le_refl _) _⟩
 | true =>
  have hr:=Lib.hid (show (tot (.mk k a v ss ks) : Int) = 1 + tots ks by rw [tot, hk]; simp)
  rw [hk] at CH
  have HC:=Lib.hid CH
  have Ih:=Lib.hid ih
  clear ih CH hk hs hss hL
  go_enter Tryz.func118, Tryz.ntmps118
  go_wp2_with fail
  refine (HC.out _).mono ?_
  rintro e w1 ⟨rfl, rfl⟩
  go_wp2_with fail
  go_loopw [5, 16] (fun n i wr=>∃ (q : Nat) (N : Int), q ≤ ks.length ∧ i = .int .i64 q ∧ n = .int .i64 N ∧ Hid (N = min (1 + (tots (ks.take q) : Int)) m) ∧ Below w.heap.size w wr) (fun n i wr=>ks.length - (intOf i).toNat)
  case atStart=>exact ⟨0, 1, Nat.zero_le _, rfl, rfl, by show _ = _; rw [List.take_zero, tots]; omega, (Below.refl _ _).alloc (Nat.le_refl _) _⟩
  case round =>
   obtain ⟨q, N, hq, rfl, rfl, hN, hb⟩:=hrel
   have hs:=hb.size
   have hN2:=hN.out
   have hN1 : 1 ≤ N:=by omega
   have hNm : N ≤ m:=by omega
   by_cases hlt : q < ks.length
   ·obtain ⟨ad, k', a', v', S', m', d', A', n', c', rfl, hp, f0, f1, f2, f3, f4, hL⟩:=hK.kid hb hlt
    have hT:=tots_take hlt
    have hTl:=tots_take_le ks (q + 1)
    have H:=Ih.out _ (List.getElem_mem hlt) (m - N) (.int .i64 k') (.string a') (.string v') (.slice S' m' d') (.slice A' n' c') (wr.alloc (.cells #[.int .i64 k', .string a', .string v', .slice S' m' d', .slice A' n' c'] 25))
    generalize tot ks[q] = t at hT H
    have hb0:=hb.alloc hs (.cells #[.int .i64 k', .string a', .string v', .slice S' m' d', .slice A' n' c'] 25)
    by_cases hNe : N = m
    ·subst hNe
     have HR:=Lib.hid (show min (tot (.mk k a v ss ks) : Int) N = N by rw [hr.out]; omega)
     clear H hN hN2 hT hTl
     go_wp2_with fail
     go_ret
     rw [HR.out]
     exact ⟨rfl, hb0⟩
    ·have hne : (N == m) = false:=by rw [beq_eq_false_iff_ne]; exact hNe
     have HH:=Lib.hid (H (by omega) (by omega) (hL.alloc _))
     have HT:=Lib.hid (show min (t : Int) (m - N) + N = min (1 + (tots (ks.take (q + 1)) : Int)) m ∧ 0 ≤ min (t : Int) (m - N) by omega)
     generalize min (t : Int) (m - N) = T at HH HT
     have ht0:=HT.out.2
     have htm : N + T ≤ 21:=by have:=HT.out.1; omega
     clear H hN hN2 hT hTl hL hNe
     go_wp2_with fail
     refine HH.out.mono ?_
     rintro e w1 ⟨rfl, hb1⟩
     have hb2:=hb0.trans (hb1.mono (by simp; omega))
     go_wp2_with fail
     refine ⟨⟨q + 1, N + T, by omega, by go_num, by go_num, ?_, hb2⟩, by simp [intOf]; omega⟩
     show _ = _
     have:=HT.out.1
     omega
   ·have HR:=Lib.hid (show min (tot (.mk k a v ss ks) : Int) m = N by
     have e : ks.take q = ks:=List.take_of_length_le (by omega)
     rw [e] at hN2
     rw [hr.out, hN2])
    clear hN hN2
    go_wp2_with fail
    go_ret
    rw [HR.out]
    exact ⟨rfl, hb⟩
def SaidRCount (f : Fil) : Prop:=∀ (x0 x1 x2 x3 x4 : Value) (w : World), Lies w (· < w.heap.size) f [x0, x1, x2, x3, x4] →
  Calls Tryz.prog 67 #[.agg #[x0, x1, x2, x3, x4]] w fun r w'=>r = .returned (.int .i64 (min (tot f : Int) 21)) ∧ Below w.heap.size w w'
set_option maxHeartbeats 2000000 in
theorem rcount_any (f : Fil) : SaidRCount f:=by
 refine ind ?_ f
 intro k a v ss ks ih x0 x1 x2 x3 x4 w hL
 obtain ⟨S, sc, A, c, ds, hcs, ha, hv, hsl, hsc, hs, hss, hl, hcl, hK⟩:=hL.open_
 simp only [List.cons.injEq, and_true] at hcs
 obtain ⟨rfl, rfl, rfl, rfl, rfl⟩:=hcs
 unfold maxLen at hl
 by_cases hk : 1 ≤ k ∧ k ≤ 3
 ·obtain ⟨hk1, hk2⟩:=hk
  have hr:=Lib.hid (show (tot (.mk k a v ss ks) : Int) = 1 + tots ks by rw [tot, show hasK k = true by unfold hasK; rw [decide_eq_true_eq]; exact ⟨hk1, hk2⟩]; simp)
  have Ih:=Lib.hid ih
  clear ih hs hss hL
  go_enter Tryz.func67, Tryz.ntmps67
  go_wp2_with fail
  go_loopw [3, 4] (fun n i wr=>∃ (q : Nat) (N : Int), q ≤ ks.length ∧ i = .int .i64 q ∧ n = .int .i64 N ∧ 1 ≤ N ∧ N ≤ 41 ∧ Hid (min N 21 = min (1 + (tots (ks.take q) : Int)) 21) ∧ Blk wr w.heap.size 25 #[.int .i64 k, .string a, .string v, .slice S ss.length sc, .slice A ks.length c] ∧ Below w.heap.size w wr) (fun n i wr=>ks.length - (intOf i).toNat)
  case atStart=>exact ⟨0, 1, Nat.zero_le _, rfl, rfl, by omega, by omega, by show _ = _; rw [List.take_zero, tots]; omega, Blk.new _ _ _, (Below.refl _ _).alloc (Nat.le_refl _) _⟩
  case round =>
   obtain ⟨q, N, hq, rfl, rfl, hN1, hN41, hN, B, hb⟩:=hrel
   have hs:=hb.size
   have hblt:=B.lt
   have hN2:=hN.out
   have b4 : wr.cell? ⟨w.heap.size, 4, none⟩ = some (.slice A ks.length c):=B.cell 4
   by_cases hlt : q < ks.length
   ·have hltz : (q : Int) < ks.length:=by omega
    by_cases hN20 : N ≤ 20
    ·obtain ⟨ad, k', a', v', S', m', d', A', n', c', rfl, hp, f0, f1, f2, f3, f4, hL⟩:=hK.kid hb hlt
     have hT:=tots_take hlt
     have H:=Ih.out _ (List.getElem_mem hlt) _ _ _ _ _ wr hL
     generalize tot ks[q] = t at hT H
     have HH:=Lib.hid H
     have HT:=Lib.hid (show min (N + min (t : Int) 21) 21 = min (1 + (tots (ks.take (q + 1)) : Int)) 21 ∧ 0 ≤ min (t : Int) 21 ∧ min (t : Int) 21 ≤ 21 by omega)
     generalize min (t : Int) 21 = T at HH HT
     obtain ⟨_, ht0, ht1⟩:=HT.out
     clear H hN hN2 hT hL
     go_wp2_with fail
     refine HH.out.mono ?_
     rintro e w1 ⟨rfl, hb1⟩
     have hb2:=hb.trans (hb1.mono hs)
     have B1:=B.past hb1
     go_wp2_with fail
     refine ⟨⟨q + 1, N + T, by omega, by go_num, by go_num, by omega, by omega, HT.out.1, B1, hb2⟩, by simp [intOf]; omega⟩
    ·have hTl:=tots_take_le ks q
     have HR:=Lib.hid (show min (tot (.mk k a v ss ks) : Int) 21 = min N 21 by rw [hr.out]; omega)
     have hN20' : 20 < N:=by omega
     clear hN hN2 hTl hN20
     go_wp2_with fail
     go_ret
     rw [HR.out]
     exact ⟨by first | rfl | (congr 2 <;> omega), hb⟩
   ·have HR:=Lib.hid (show min (tot (.mk k a v ss ks) : Int) 21 = min N 21 by
     have e : ks.take q = ks:=List.take_of_length_le (by omega)
     rw [e] at hN2
     rw [hr.out, hN2])
    clear hN hN2
    go_wp2_with fail
    go_ret
    rw [HR.out]
    exact ⟨by first | rfl | (congr 2 <;> omega), hb⟩
 ·have hr:=Lib.hid (show (tot (.mk k a v ss ks) : Int) = 1 by rw [tot, show hasK k = false by unfold hasK; rw [decide_eq_false_iff_not]; exact hk]; simp)
  have hk' : k < 1 ∨ 1 ≤ k ∧ 3 < k:=by omega
  clear ih hk
  rcases hk' with h1 | ⟨h1, h2⟩
  all_goals
   go_enter Tryz.func67, Tryz.ntmps67
   go_wp2_with fail
   go_ret
   rw [hr.out]
   exact ⟨rfl, (Below.refl _ _).alloc (Nat.le_refl _) _⟩
set_option maxHeartbeats 400000 in
theorem Count_any (f : Fil) (x0 x1 x2 x3 x4 : Value) (w : World) (hL : Lies w (· < w.heap.size) f [x0, x1, x2, x3, x4]) :
  Calls Tryz.prog 84 #[.agg #[x0, x1, x2, x3, x4]] w fun r w'=>r = .returned (.int .i64 (min (tot f : Int) 21)) ∧ Below w.heap.size w w':=by
 obtain ⟨k, a, v, S, m, d, A, n, c, hcs⟩:=hL.form
 simp only [List.cons.injEq, and_true] at hcs
 obtain ⟨rfl, rfl, rfl, rfl, rfl⟩:=hcs
 have H:=Lib.hid (count_any f 21 _ _ _ _ _ _ (by omega) (by omega) (hL.alloc (.cells #[.int .i64 k, .string a, .string v, .slice S m d, .slice A n c] 25)))
 generalize min (tot f : Int) 21 = T at H ⊢
 clear hL
 go_enter Tryz.func84, Tryz.ntmps84
 go_wp2_with fail
 refine H.out.mono ?_
 rintro e w1 ⟨rfl, hb1⟩
 go_wp2_with fail
 go_ret
 exact ⟨rfl, ((Below.refl _ _).alloc (Nat.le_refl _) _).trans (hb1.mono (by simp))⟩
end Go.Proofs.YtconghaebebncaaGreatDoor.Fi
