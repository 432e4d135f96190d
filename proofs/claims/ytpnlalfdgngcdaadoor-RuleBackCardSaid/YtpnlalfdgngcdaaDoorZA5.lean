import Derived.Test.YtpnlalfdgngcdaaDoorZA4
import Derived.Deep.LoopGhost
set_option linter.unusedVariables false
set_option maxRecDepth 100000
namespace Go.Proofs.YtpnlalfdgngcdaaDoor
open Go.RowKit
def RAt (w : World) (P : Nat → Prop) (A : Option Addr) (r : List Nm.Ava) : Prop :=
 0 < r.length → ∃ ad, A = some ad ∧ P ad.block ∧ ∀ i (h : i < r.length), w.cell? (ad.add (i * 2)) = some (.string r[i].1) ∧ w.cell? (ad.add (i * 2 + 1)) = some (.string r[i].2)
theorem RAt.nil (w : World) (P : Nat → Prop) (A : Option Addr) : RAt w P A []:=fun h=>absurd h (by simp)
theorem RAt.imp {w w' : World} {P P' : Nat → Prop} {A : Option Addr} {r : List Nm.Ava} (h : RAt w P A r) (hP : ∀ b, P b → P' b) (hw : ∀ p : Addr, P p.block → w'.cell? p = w.cell? p) : RAt w' P' A r:=fun h0=>by
 obtain ⟨ad, e, hp, hc⟩:=h h0
 exact ⟨ad, e, hP _ hp, fun i hi=>⟨(hw _ (by rw [block_of_add]; exact hp)).trans (hc i hi).1, (hw _ (by rw [block_of_add]; exact hp)).trans (hc i hi).2⟩⟩
theorem RAt.past {w w' : World} {A : Option Addr} {r : List Nm.Ava} (h : RAt w (· < w.heap.size) A r) (hb : Below w.heap.size w w') : RAt w' (· < w'.heap.size) A r :=
 h.imp (fun b hb'=>Nat.lt_of_lt_of_le hb' hb.size) (fun p hp=>hb.cell hp)
theorem RAt.take {w : World} {P : Nat → Prop} {A : Option Addr} {r : List Nm.Ava} (h : RAt w P A r) (k : Nat) : RAt w P A (r.take k):=fun h0=>by
 rw [List.length_take] at h0
 obtain ⟨ad, e, hp, hc⟩:=h (by omega)
 refine ⟨ad, e, hp, fun i hi=>?_⟩
 have hi' : i < r.length:=by rw [List.length_take] at hi; omega
 simp only [List.getElem_take]
 exact hc i hi'
theorem RAt.drew {w : World} {P : Nat → Prop} {A : Option Addr} {r : List Nm.Ava} (h : RAt w P A r) : RAt w.drew P A r:=h
theorem add_odd (a : Addr) (n : Nat) : a.add (n + 1) = ⟨(a.add n).block, (a.add n).off + 1, none⟩:=by
 rw [← add_of_add]
 show Addr.add _ 1 = _
 unfold Addr.add
 rw [if_neg (by omega)]
theorem RAt.kid {w wr : World} {A : Option Addr} {r : List Nm.Ava} (h : RAt w (· < w.heap.size) A r) (hb : Below w.heap.size w wr) {i : Nat} (hi : i < r.length) :
  ∃ ad, A = some ad ∧ ad.block < w.heap.size ∧ wr.cell? (ad.add (i * 2)) = some (.string r[i].1) ∧ wr.cell? ⟨(ad.add (i * 2)).block, (ad.add (i * 2)).off + 1, none⟩ = some (.string r[i].2):=by
 obtain ⟨ad, e, hp, hc⟩:=h (by omega)
 obtain ⟨h0, h1⟩:=hc i hi
 have g0:=(hb.cell (by rw [block_of_add]; exact hp)).trans h0
 have g1:=(hb.cell (by rw [block_of_add]; exact hp)).trans h1
 rw [add_odd] at g1
 exact ⟨ad, e, hp, g0, g1⟩
def DAt (w : World) (P : Nat → Prop) (A : Option Addr) (d : List (List Nm.Ava)) : Prop :=
 0 < d.length → ∃ ad, A = some ad ∧ P ad.block ∧ ∀ i (h : i < d.length), ∃ A' c, w.cell? (ad.add i) = some (.slice A' d[i].length c) ∧ d[i].length ≤ c ∧ RAt w P A' d[i]
theorem DAt.nil (w : World) (P : Nat → Prop) (A : Option Addr) : DAt w P A []:=fun h=>absurd h (by simp)
theorem DAt.imp {w w' : World} {P P' : Nat → Prop} {A : Option Addr} {d : List (List Nm.Ava)} (h : DAt w P A d) (hP : ∀ b, P b → P' b) (hw : ∀ p : Addr, P p.block → w'.cell? p = w.cell? p) : DAt w' P' A d:=fun h0=>by
 obtain ⟨ad, e, hp, hc⟩:=h h0
 refine ⟨ad, e, hP _ hp, fun i hi=>?_⟩
 obtain ⟨A', c, h1, h3, h2⟩:=hc i hi
 exact ⟨A', c, (hw _ (by rw [block_of_add]; exact hp)).trans h1, h3, h2.imp hP hw⟩
theorem DAt.past {w w' : World} {A : Option Addr} {d : List (List Nm.Ava)} (h : DAt w (· < w.heap.size) A d) (hb : Below w.heap.size w w') : DAt w' (· < w'.heap.size) A d :=
 h.imp (fun b hb'=>Nat.lt_of_lt_of_le hb' hb.size) (fun p hp=>hb.cell hp)
theorem DAt.drew {w : World} {P : Nat → Prop} {A : Option Addr} {d : List (List Nm.Ava)} (h : DAt w P A d) : DAt w.drew P A d:=h
theorem DAt.kid {w wr : World} {A : Option Addr} {d : List (List Nm.Ava)} (h : DAt w (· < w.heap.size) A d) (hb : Below w.heap.size w wr) {i : Nat} (hi : i < d.length) :
  ∃ ad A' c, A = some ad ∧ ad.block < w.heap.size ∧ wr.cell? (ad.add i) = some (.slice A' d[i].length c) ∧ d[i].length ≤ c ∧ RAt wr (· < wr.heap.size) A' d[i]:=by
 obtain ⟨ad, e, hp, hc⟩:=h (by omega)
 obtain ⟨A', c, h0, h2, h1⟩:=hc i hi
 exact ⟨ad, A', c, e, hp, (hb.cell (by rw [block_of_add]; exact hp)).trans h0, h2, h1.past hb⟩
end Go.Proofs.YtpnlalfdgngcdaaDoor
namespace Go.Proofs.YtpnlalfdgngcdaaDoor
open Go.RowKit
theorem toList_inj' (a b : ByteArray) : (a.toList == b.toList) = decide (a = b):=by
 rw [Bool.eq_iff_iff]
 simp only [beq_iff_eq, decide_eq_true_eq]
 constructor
 ·intro h
  have : a.data.toList = b.data.toList:=by simpa [ByteArray.toList_eq] using h
  cases a; cases b
  simp only [ByteArray.mk.injEq]
  simpa using this
 ·intro h; rw [h]
set_option maxHeartbeats 400000 in
theorem clo_any (x y z : ByteArray) (g : Nat) (w : World) (h : w.cell? ⟨g, 0, none⟩ = some (.string z)) :
  Calls Tryd.prog 79 #[.agg #[.string x, .string y], .pointer (some ⟨g, 0, none⟩)] w fun e w'=>e = .returned (.bool (decide (x = z))) ∧ Below w.heap.size w w':=by
 have hlt:=cell_lt h
 have h' : (w.alloc (.cells #[.string x, .string y] 83)).cell? ⟨g, 0, none⟩ = some (.string z):=bat ((Below.refl _ _).alloc (Nat.le_refl _) _) hlt h
 go_enter Tryd.func79, Tryd.ntmps79
 go_wp2_with fail
 go_ret
 exact ⟨ret_bool (toList_inj' x z), (Below.refl _ _).alloc (Nat.le_refl _) _⟩
def hasT (r : List Nm.Ava) (z : ByteArray) : Bool:=r.any fun b=>decide (b.1 = z)
theorem hasT_step {r : List Nm.Ava} {z : ByteArray} {k : Nat} (h : k < r.length) : hasT (r.take (k + 1)) z = (hasT (r.take k) z || decide (r[k].1 = z)):=by
 unfold hasT
 rw [List.take_succ_eq_append_getElem h, List.any_append]
 simp
theorem hasT_at {r : List Nm.Ava} {z : ByteArray} {k : Nat} (h : k < r.length) (he : r[k].1 = z) : hasT r z = true:=by
 unfold hasT
 rw [List.any_eq_true]
 exact ⟨r[k], List.getElem_mem h, by simp [he]⟩
set_option maxHeartbeats 1000000 in
theorem index_any (r : List Nm.Ava) (A : Option Addr) (c : Nat) (z : ByteArray) (g : Nat) (w : World) (hg : w.cell? ⟨g, 0, none⟩ = some (.string z)) (hr : RAt w (· < w.heap.size) A r) (hl : r.length ≤ maxLen) :
  Calls Tryd.prog 90 #[.slice A r.length c, .func (.func 79) #[] #[.pointer (some ⟨g, 0, none⟩)]] w fun e w'=>∃ n : Int, e = .returned (.int .i64 n) ∧ decide (0 ≤ n) = hasT r z ∧ Below w.heap.size w w':=by
 unfold maxLen at hl
 have CC:=Lib.hid (fun x y w=>clo_any x y z g w)
 have hlt:=cell_lt hg
 go_enter Tryd.func90, Tryd.ntmps90
 go_wp2_with fail
 go_loopw [8] (fun i wr=>∃ k : Nat, k ≤ r.length ∧ i = .int .i64 k ∧ Hid (hasT (r.take k) z = false) ∧ Below w.heap.size w wr) (fun i wr=>r.length - (intOf i).toNat)
 case atStart=>exact ⟨0, Nat.zero_le _, rfl, rfl, Below.refl _ _⟩
 case round =>
  obtain ⟨k, hk, rfl, hE, hb⟩:=hrel
  have hs:=hb.size
  by_cases hlt2 : k < r.length
  ·obtain ⟨ad, rfl, hp, f0, f1⟩:=hr.kid hb hlt2
   have hg2:=bat hb hlt hg
   have hS:=Lib.hid (hasT_step (z:=z) hlt2)
   have hA:=Lib.hid (fun he=>hasT_at (r:=r) (z:=z) hlt2 he)
   obtain ⟨x, hx⟩ : ∃ x, x = r[k].1:=⟨_, rfl⟩
   obtain ⟨y, hy⟩ : ∃ y, y = r[k].2:=⟨_, rfl⟩
   rw [← hx] at f0 hS hA
   rw [← hy] at f1
   clear hx hy
   by_cases hxz : x = z
   ·have D:=CC.out x y wr hg2
    rw [decide_eq_true hxz] at D
    have HD:=Lib.hid D
    have HX:=Lib.hid hxz
    clear D hxz
    go_wp2_with fail
    refine HD.out.mono ?_
    rintro e w1 ⟨rfl, hb1⟩
    go_wp2_with fail
    go_ret
    refine ⟨_, rfl, ?_, hb.trans (hb1.mono hs)⟩
    rw [hA.out HX.out, decide_eq_true_eq]
    omega
   ·have D:=CC.out x y wr hg2
    rw [decide_eq_false hxz] at D
    have HD:=Lib.hid D
    have HX:=Lib.hid hxz
    clear D hxz
    go_wp2_with fail
    refine HD.out.mono ?_
    rintro e w1 ⟨rfl, hb1⟩
    go_wp2_with fail
    go_roundw
    case rel =>
     refine ⟨k + 1, by omega, by go_num, ?_, hb.trans (hb1.mono hs)⟩
     show _ = _
     rw [hS.out, hE.out, decide_eq_false HX.out]
     rfl
    case measure=>simp [intOf]; omega
  ·have hk2 : k = r.length:=by omega
   have hE2:=hE.out
   rw [hk2, List.take_length] at hE2
   have HE:=Lib.hid hE2
   clear hE hE2 hk2
   go_wp2_with fail
   go_ret
   refine ⟨_, rfl, ?_, hb⟩
   rw [HE.out]
   rfl
set_option maxHeartbeats 400000 in
theorem contains_any (r : List Nm.Ava) (A : Option Addr) (c : Nat) (z : ByteArray) (g : Nat) (w : World) (hg : w.cell? ⟨g, 0, none⟩ = some (.string z)) (hr : RAt w (· < w.heap.size) A r) (hl : r.length ≤ maxLen) :
  Calls Tryd.prog 81 #[.slice A r.length c, .func (.func 79) #[] #[.pointer (some ⟨g, 0, none⟩)]] w fun e w'=>e = .returned (.bool (hasT r z)) ∧ Below w.heap.size w w':=by
 have C:=Lib.hid (index_any r A c z g w hg hr hl)
 go_enter Tryd.func81, Tryd.ntmps81
 go_wp2_with fail
 refine C.out.mono ?_
 rintro e w1 ⟨n, rfl, hn, hb1⟩
 have HN:=Lib.hid hn
 clear hn
 go_wp2_with fail
 go_ret
 exact ⟨ret_bool HN.out, hb1⟩
end Go.Proofs.YtpnlalfdgngcdaaDoor
