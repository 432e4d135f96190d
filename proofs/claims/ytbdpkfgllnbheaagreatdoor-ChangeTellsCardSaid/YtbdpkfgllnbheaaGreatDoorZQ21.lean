import Derived.Test.YtbdpkfgllnbheaaGreatDoorZQ6
import Derived.Test.YtbdpkfgllnbheaaGreatDoorZQ7
set_option linter.unusedVariables false
set_option maxRecDepth 100000
namespace Go.Proofs.YtbdpkfgllnbheaaGreatDoor
open Go.RowKit
theorem okFrom_step {r : List Nm.Ava} {k : Nat} (h : k < r.length) : Nm.okFrom (r.take k) (r.drop k) = (Nm.okAva r[k] && !hasT (r.take k) r[k].1 && Nm.okFrom (r.take (k + 1)) (r.drop (k + 1))):=by
 rw [List.drop_eq_getElem_cons h, Nm.okFrom, List.take_succ_eq_append_getElem h]
 congr 2
 unfold hasT
 rw [Bool.eq_iff_iff]
 simp
theorem okAva_of (a : Nm.Ava) : Nm.okAva a = (Nm.isType (Nm.bs a.1) && !(a.2.toList == []) && !decide (60 < (a.2.size : Int))):=by
 unfold Nm.okAva
 have : (a.2.toList == []) = decide (a.2.size = 0):=by
  have:=isE a.2
  rw [← this]
  cases a.2.toList <;> rfl
 rw [this, Bool.and_assoc]
 congr 1
 rw [Bool.eq_iff_iff]
 simp only [Bool.and_eq_true, Bool.not_eq_true', decide_eq_true_eq, decide_eq_false_iff_not]
 omega
set_option maxHeartbeats 1000000 in
theorem isRdn_any (r : List Nm.Ava) (A : Option Addr) (c : Nat) (w : World) (hr : RAt w (· < w.heap.size) A r) (hl : r.length ≤ maxLen) (hcap : r.length ≤ c) :
  Calls Tryz.prog 85 #[.slice A r.length c] w fun e w'=>e = .returned (.bool (Nm.isRdn r)) ∧ Below w.heap.size w w':=by
 unfold maxLen at hl
 by_cases h0 : (r.length : Int) = 0 ∨ ((r.length : Int) == 0) = false ∧ 4 < (r.length : Int)
 ·have hF:=Lib.hid (show Nm.isRdn r = false by
   unfold Nm.isRdn
   rcases h0 with h | ⟨_, h⟩
   ·rw [decide_eq_false (by omega)]; rfl
   ·rw [decide_eq_false (p:=r.length ≤ 4) (by omega)]; simp)
  rcases h0 with h0 | ⟨h0, h1⟩
  all_goals
   go_enter Tryz.func85, Tryz.ntmps85
   go_wp2_with fail
   go_ret
   exact ⟨ret_bool hF.out.symm, Below.refl _ _⟩
 have h1 : ((r.length : Int) == 0) = false:=by rw [beq_eq_false_iff_ne]; omega
 have h2 : (r.length : Int) ≤ 4:=by
  rcases Int.lt_or_le 4 (r.length : Int) with h | h
  ·exact absurd (Or.inr ⟨h1, h⟩) h0
  ·exact h
 have hF:=Lib.hid (show Nm.isRdn r = Nm.okFrom (r.take 0) (r.drop 0) by
  unfold Nm.isRdn
  rw [decide_eq_true (by omega), decide_eq_true (by omega)]; rfl)
 have hmf : ∀ (fn : Fn) (first cap : Array Value) (w : World), (Instr.makeFunc fn first cap).run Tryz.prog w = .ok (.func fn first cap) w:=fun _ _ _ _=>rfl
 clear h0
 go_enter Tryz.func85, Tryz.ntmps85
 go_wp2_with fail
 go_loopw [16] (fun i wr=>∃ k : Nat, k ≤ r.length ∧ i = .int .i64 k ∧ Hid (Nm.isRdn r = Nm.okFrom (r.take k) (r.drop k)) ∧ Below w.heap.size w wr) (fun i wr=>r.length - (intOf i).toNat)
 case atStart=>exact ⟨0, Nat.zero_le _, rfl, hF, Below.refl _ _⟩
 case round =>
  obtain ⟨k, hk, rfl, hE, hb⟩:=hrel
  have hs:=hb.size
  by_cases hlt : k < r.length
  ·obtain ⟨ad, rfl, hp, f0, f1⟩:=hr.kid hb hlt
   have hE2:=hE.out
   rw [okFrom_step hlt, okAva_of] at hE2
   have hrk:=((hr.take k).past hb).past ((Below.refl _ _).alloc (Nat.le_refl _) (.cells #[.string r[k].1, .string r[k].2] 41))
   obtain ⟨x, hx⟩ : ∃ x, x = r[k].1:=⟨_, rfl⟩
   obtain ⟨y, hy⟩ : ∃ y, y = r[k].2:=⟨_, rfl⟩
   rw [← hx, ← hy] at hrk hE2
   rw [← hx] at f0
   rw [← hy] at f1
   clear hx hy
   have hbw:=hb.alloc hs (.cells #[.string x, .string y] 41)
   have bx : Blk (wr.alloc (.cells #[.string x, .string y] 41)) wr.heap.size 41 #[.string x, .string y]:=Blk.new wr _ _
   have CT:=isType_any x (wr.alloc (.cells #[.string x, .string y] 41))
   have CC:=fun c=>contains_any (r.take k) (some ad) c x wr.heap.size (wr.alloc (.cells #[.string x, .string y] 41)) (bx.cell 0) hrk (by rw [List.length_take]; unfold maxLen; omega)
   rw [show (r.take k).length = k by rw [List.length_take]; omega] at CC
   clear hE hrk hF
   obtain ⟨tt, htt⟩ : ∃ tt, tt = Nm.isType (Nm.bs x):=⟨_, rfl⟩
   obtain ⟨uu, huu⟩ : ∃ uu, uu = hasT (r.take k) x:=⟨_, rfl⟩
   obtain ⟨vv, hvv⟩ : ∃ vv, vv = Nm.okFrom (r.take (k + 1)) (r.drop (k + 1)):=⟨_, rfl⟩
   have HV:=Lib.hid hvv
   rw [← htt, ← huu, ← hvv] at hE2
   rw [← htt] at CT
   rw [← huu] at CC
   have HCC:=Lib.hid CC
   have HCT:=Lib.hid CT
   have HE:=Lib.hid hE2
   have hkc : k ≤ c:=by omega
   clear htt huu hvv CC CT hE2
   cases tt
   ·go_wp2_with fail
    refine HCT.out.mono ?_
    rintro e w1 ⟨rfl, rfl⟩
    go_wp2_with fail
    go_ret
    refine ⟨ret_bool ?_, hbw⟩
    rw [HE.out]; rfl
   rcases Bool.eq_false_or_eq_true uu with rfl | rfl
   ·go_wp2_with fail
    refine HCT.out.mono ?_
    rintro e w1 ⟨rfl, rfl⟩
    go_wp2_with fail
    refine (HCC.out _).mono ?_
    rintro e w1 ⟨rfl, hb1⟩
    go_wp2_with fail
    go_ret
    refine ⟨ret_bool ?_, hbw.trans (hb1.mono (by simp; omega))⟩
    rw [HE.out]; simp
   have q0 : (wr.alloc (.cells #[.string x, .string y] 41)).cell? ⟨wr.heap.size, 1, none⟩ = some (.string y):=bx.cell 1
   by_cases hy0 : y.toList = []
   ·go_wp2_with fail
    refine HCT.out.mono ?_
    rintro e w1 ⟨rfl, rfl⟩
    go_wp2_with fail
    refine (HCC.out _).mono ?_
    rintro e w1 ⟨rfl, hb1⟩
    have q1 : w1.cell? ⟨wr.heap.size, 1, none⟩ = some (.string y):=bat hb1 (by simp) q0
    go_wp2_with fail
    go_ret
    refine ⟨ret_bool ?_, hbw.trans (hb1.mono (by simp; omega))⟩
    rw [HE.out, hy0]; simp
   have hy1 : y.toList.isEmpty = false:=by simpa using hy0
   by_cases hy2 : 60 < (y.size : Int)
   ·go_wp2_with fail
    refine HCT.out.mono ?_
    rintro e w1 ⟨rfl, rfl⟩
    go_wp2_with fail
    refine (HCC.out _).mono ?_
    rintro e w1 ⟨rfl, hb1⟩
    have q1 : w1.cell? ⟨wr.heap.size, 1, none⟩ = some (.string y):=bat hb1 (by simp) q0
    go_wp2_with fail
    go_ret
    refine ⟨ret_bool ?_, hbw.trans (hb1.mono (by simp; omega))⟩
    rw [HE.out, decide_eq_true hy2]; simp
   ·have HY : Hid ((y.toList == []) = false ∧ decide (60 < (y.size : Int)) = false):=⟨by rw [beq_eq_false_iff_ne]; exact hy0, decide_eq_false hy2⟩
    have hy2' : (y.size : Int) ≤ 60:=by omega
    clear hy0 hy2
    go_wp2_with fail
    refine HCT.out.mono ?_
    rintro e w1 ⟨rfl, rfl⟩
    go_wp2_with fail
    refine (HCC.out _).mono ?_
    rintro e w1 ⟨rfl, hb1⟩
    have q1 : w1.cell? ⟨wr.heap.size, 1, none⟩ = some (.string y):=bat hb1 (by simp) q0
    go_wp2_with fail
    go_roundw
    case rel =>
     refine ⟨k + 1, by omega, by go_num, ?_, hbw.trans (hb1.mono (by simp; omega))⟩
     show _ = _
     rw [HE.out, HY.out.1, HY.out.2, HV.out]
     rfl
    case measure=>simp [intOf]; omega
  ·have hk2 : k = r.length:=by omega
   have hE2:=hE.out
   rw [hk2, List.drop_length] at hE2
   have HE:=Lib.hid hE2
   clear hE hE2 hk2
   go_wp2_with fail
   go_ret
   refine ⟨ret_bool ?_, hb⟩
   rw [HE.out]
   rfl
theorem all_step {d : List (List Nm.Ava)} {k : Nat} (h : k < d.length) : (d.drop k).all Nm.isRdn = (Nm.isRdn d[k] && (d.drop (k + 1)).all Nm.isRdn):=by
 rw [List.drop_eq_getElem_cons h, List.all_cons]
end Go.Proofs.YtbdpkfgllnbheaaGreatDoor
namespace Go.Proofs.YtbdpkfgllnbheaaGreatDoor
open Go.RowKit
set_option maxHeartbeats 1000000 in
theorem rIsRdn_any (r : List Nm.Ava) (A : Option Addr) (c : Nat) (w : World) (hr : RAt w (· < w.heap.size) A r) (hl : r.length ≤ maxLen) :
  Calls Tryz.prog 61 #[.slice A r.length c] w fun e w'=>e = .returned (.bool (Nm.isRdn r)) ∧ Below w.heap.size w w':=by
 unfold maxLen at hl
 by_cases h0 : (r.length : Int) < 1 ∨ 1 ≤ (r.length : Int) ∧ 4 < (r.length : Int)
 ·have hF:=Lib.hid (show Nm.isRdn r = false by
   unfold Nm.isRdn
   rcases h0 with h | ⟨_, h⟩
   ·rw [decide_eq_false (by omega)]; rfl
   ·rw [decide_eq_false (p:=r.length ≤ 4) (by omega)]; simp)
  rcases h0 with h0 | ⟨h0, h1⟩
  all_goals
   go_enter Tryz.func61, Tryz.ntmps61
   go_wp2_with fail
   go_ret
   exact ⟨ret_bool hF.out.symm, Below.refl _ _⟩
 have h1 : 1 ≤ (r.length : Int):=by omega
 have h2 : (r.length : Int) ≤ 4:=by omega
 have hF:=Lib.hid (show Nm.isRdn r = Nm.okFrom (r.take 0) (r.drop 0) by
  unfold Nm.isRdn
  rw [decide_eq_true (by omega), decide_eq_true (by omega)]; rfl)
 obtain ⟨ad, rfl, hp, hc0⟩:=hr (by omega)
 have HC:=Lib.hid hc0
 clear h0 hr hc0
 go_enter Tryz.func61, Tryz.ntmps61
 go_wp2_with fail
 go_loopw [3] (fun i wr=>∃ k : Nat, k ≤ r.length ∧ i = .int .i64 k ∧ Hid (Nm.isRdn r = Nm.okFrom (r.take k) (r.drop k)) ∧ Below w.heap.size w wr) (fun i wr=>r.length - (intOf i).toNat)
 case atStart=>exact ⟨0, Nat.zero_le _, rfl, hF, Below.refl _ _⟩
 case round =>
  obtain ⟨k, hk, rfl, hE, hb⟩:=hrel
  by_cases hlt : k < r.length
  ·obtain ⟨g0, g1⟩:=HC.out k hlt
   rw [add_odd] at g1
   have hpk : (ad.add (k * 2)).block < w.heap.size:=by rw [block_of_add]; exact hp
   have G0:=Lib.hid g0
   have f0:=batA hb hpk g0
   have f1:=bat hb hpk g1
   clear g0 g1
   have hE2:=hE.out
   rw [okFrom_step hlt, okAva_of] at hE2
   obtain ⟨x, hx⟩ : ∃ x, x = r[k].1:=⟨_, rfl⟩
   obtain ⟨y, hy⟩ : ∃ y, y = r[k].2:=⟨_, rfl⟩
   rw [← hx, ← hy] at hE2
   rw [← hx] at f0 G0
   rw [← hy] at f1
   have CT:=fun w=>rIsType_any x w
   obtain ⟨tt, htt⟩ : ∃ tt, tt = Nm.isType (Nm.bs x):=⟨_, rfl⟩
   rw [← htt] at hE2 CT
   have HCT:=Lib.hid CT
   have HE:=Lib.hid hE2
   have HY:=Lib.hid (isE y)
   clear htt CT hE2 hx hy hE hF
   cases tt
   ·go_wp2_with fail
    refine (HCT.out _).mono ?_
    rintro e w1 ⟨rfl, rfl⟩
    go_wp2_with fail
    go_ret
    refine ⟨ret_bool ?_, hb⟩
    rw [HE.out]; rfl
   by_cases hy1 : (y.size : Int) < 1
   ·go_wp2_with fail
    refine (HCT.out _).mono ?_
    rintro e w1 ⟨rfl, rfl⟩
    go_wp2_with fail
    go_ret
    refine ⟨ret_bool ?_, hb⟩
    rw [HE.out, nil_of y (by omega)]; simp
   have hy1' : 1 ≤ (y.size : Int):=by omega
   by_cases hy2 : 60 < (y.size : Int)
   ·go_wp2_with fail
    refine (HCT.out _).mono ?_
    rintro e w1 ⟨rfl, rfl⟩
    go_wp2_with fail
    go_ret
    refine ⟨ret_bool ?_, hb⟩
    rw [HE.out, decide_eq_true hy2]; simp
   have hy2' : (y.size : Int) ≤ 60:=by omega
   have HE3 : Hid (Nm.isRdn r = (!hasT (r.take k) x && Nm.okFrom (r.take (k + 1)) (r.drop (k + 1)))):=by
    show _ = _
    have e1 : (y.toList == []) = false:=by
     have:=isE_of y (by omega)
     rw [beq_eq_false_iff_ne]
     intro h; rw [h] at this; cases this
    rw [HE.out, e1, decide_eq_false hy2]; rfl
   clear HE HY hy1 hy2
   go_wp2_with fail
   refine (HCT.out _).mono ?_
   rintro e w1 ⟨rfl, rfl⟩
   go_wp2_with fail
   go_loopw [4] (fun j wz=>∃ jj : Nat, jj ≤ k ∧ j = .int .i64 jj ∧ Hid (hasT (r.take jj) x = false) ∧ Below w.heap.size w wz) (fun j wz=>k - (intOf j).toNat)
   case atStart=>exact ⟨0, Nat.zero_le _, rfl, rfl, hb⟩
   case round =>
    obtain ⟨jj, hj, rfl, hJ, hb2⟩:=hrel
    by_cases hjl : (jj : Int) < k
    ·have hjr : jj < r.length:=by omega
     have q0:=batA hb2 (by rw [block_of_add]; exact hp) (HC.out jj hjr).1
     have x0:=batA hb2 hpk G0.out
     have q0d : wr.drew.cell? (ad.add (jj * 2)) = some (.string r[jj].1):=q0
     have x0d : wr.drew.cell? (ad.add (k * 2)) = some (.string x):=x0
     have hS:=Lib.hid (hasT_step (z:=x) hjr)
     have hA : Hid (r[jj].1 = x → hasT (r.take k) x = true):=fun he=>hasT_at (r:=r.take k) (k:=jj) (by rw [List.length_take]; omega) (by rw [List.getElem_take]; exact he)
     obtain ⟨z, hz⟩ : ∃ z, z = r[jj].1:=⟨_, rfl⟩
     have HZ:=Lib.hid hz
     rw [← hz] at q0 q0d hS hA
     clear hz f0 f1
     have hb3:=hb2.drew
     by_cases hzx : z = x
     ·have e1 : (z.toList == x.toList) = true:=by rw [toList_inj', decide_eq_true hzx]
      have HX:=Lib.hid hzx
      clear hzx
      go_wp2_with fail
      go_region
      go_wp2_with fail
      go_ret
      refine ⟨ret_bool ?_, hb3⟩
      rw [HE3.out, hA.out HX.out]; rfl
     ·have e1 : (z.toList == x.toList) = false:=by rw [toList_inj', decide_eq_false hzx]
      have HX:=Lib.hid hzx
      clear hzx
      go_wp2_with fail
      go_region
      go_wp2_with fail
      go_roundw
      case rel =>
       refine ⟨jj + 1, by omega, by go_num, ?_, hb3⟩
       show _ = _
       rw [hS.out, hJ.out, decide_eq_false HX.out]
       rfl
      case measure=>simp [intOf]; omega
    ·have hjk : jj = k:=by omega
     subst hjk
     go_wp2_with fail
     refine ⟨⟨jj + 1, by omega, by go_num, ?_, hb2⟩, by simp [intOf]; omega⟩
     show _ = _
     rw [HE3.out, hJ.out]
     rfl
  ·have hk2 : k = r.length:=by omega
   have hE2:=hE.out
   rw [hk2, List.drop_length] at hE2
   have HE:=Lib.hid hE2
   clear hE hE2 hk2
   go_wp2_with fail
   go_ret
   refine ⟨ret_bool ?_, hb⟩
   rw [HE.out]
   rfl
set_option maxHeartbeats 1000000 in
theorem rIsDn_any (d : List (List Nm.Ava)) (A : Option Addr) (c : Nat) (w : World) (hd : DAt w (· < w.heap.size) A d) (hl : d.length ≤ maxLen) (hk : ∀ r ∈ d, r.length ≤ maxLen) :
  Calls Tryz.prog 132 #[.slice A d.length c] w fun e w'=>e = .returned (.bool (Nm.isDn d)) ∧ Below w.heap.size w w':=by
 unfold maxLen at hl
 have C:=Lib.hid rIsRdn_any
 have HK:=Lib.hid (fun (k : Nat) (h : k < d.length)=>hk d[k] (List.getElem_mem h))
 clear hk
 by_cases h0 : 8 < (d.length : Int)
 ·have hF:=Lib.hid (show Nm.isDn d = false by unfold Nm.isDn; rw [decide_eq_false (by omega)]; rfl)
  go_enter Tryz.func132, Tryz.ntmps132
  go_wp2_with fail
  go_ret
  exact ⟨ret_bool hF.out.symm, Below.refl _ _⟩
 have h1 : (d.length : Int) ≤ 8:=by omega
 have hF:=Lib.hid (show Nm.isDn d = (d.drop 0).all Nm.isRdn by unfold Nm.isDn; rw [decide_eq_true (by omega)]; rfl)
 clear h0
 go_enter Tryz.func132, Tryz.ntmps132
 go_wp2_with fail
 go_loopw [3] (fun i wr=>∃ k : Nat, k ≤ d.length ∧ i = .int .i64 k ∧ Hid (Nm.isDn d = (d.drop k).all Nm.isRdn) ∧ Below w.heap.size w wr) (fun i wr=>d.length - (intOf i).toNat)
 case atStart=>exact ⟨0, Nat.zero_le _, rfl, hF, Below.refl _ _⟩
 case round =>
  obtain ⟨k, hk, rfl, hE, hb⟩:=hrel
  have hs:=hb.size
  by_cases hlt : k < d.length
  ·obtain ⟨ad, A', c', rfl, hp, f0, hc', hR⟩:=hd.kid hb hlt
   have hE2:=hE.out
   rw [all_step hlt] at hE2
   have CR:=C.out d[k] A' c' wr hR (HK.out k hlt)
   obtain ⟨m, hm⟩ : ∃ m, m = d[k].length:=⟨_, rfl⟩
   rw [← hm] at f0 CR
   obtain ⟨tt, htt⟩ : ∃ tt, tt = Nm.isRdn d[k]:=⟨_, rfl⟩
   rw [← htt] at hE2 CR
   have HE:=Lib.hid hE2
   have HC:=Lib.hid CR
   clear hm htt hE hE2 CR hR hF hc'
   cases tt
   ·go_wp2_with fail
    refine HC.out.mono ?_
    rintro e w1 ⟨rfl, hb1⟩
    go_wp2_with fail
    go_ret
    refine ⟨ret_bool ?_, hb.trans (hb1.mono hs)⟩
    rw [HE.out]; rfl
   ·go_wp2_with fail
    refine HC.out.mono ?_
    rintro e w1 ⟨rfl, hb1⟩
    go_wp2_with fail
    go_roundw
    case rel =>
     refine ⟨k + 1, by omega, by go_num, ?_, hb.trans (hb1.mono hs)⟩
     show _ = _
     rw [HE.out]; rfl
    case measure=>simp [intOf]; omega
  ·have hk2 : k = d.length:=by omega
   have hE2:=hE.out
   rw [hk2, List.drop_length] at hE2
   have HE:=Lib.hid hE2
   clear hE hE2 hk2
   go_wp2_with fail
   go_ret
   refine ⟨ret_bool ?_, hb⟩
   rw [HE.out]
   rfl
end Go.Proofs.YtbdpkfgllnbheaaGreatDoor
namespace Go.Proofs.YtbdpkfgllnbheaaGreatDoor
open Go.RowKit
theorem same_drop {a b : List Nm.Ava} {k : Nat} (h : k < a.length) (h2 : k < b.length) : decide (a.drop k = b.drop k) = (decide (a[k] = b[k]) && decide (a.drop (k + 1) = b.drop (k + 1))):=by
 rw [List.drop_eq_getElem_cons h, List.drop_eq_getElem_cons h2, Bool.eq_iff_iff]
 simp only [decide_eq_true_eq, Bool.and_eq_true, List.cons.injEq]
set_option maxHeartbeats 2000000 in
theorem sameR_any (a b : List Nm.Ava) (A B : Option Addr) (c c' : Nat) (w : World) (ha : RAt w (· < w.heap.size) A a) (hb : RAt w (· < w.heap.size) B b) (hl : a.length ≤ maxLen) :
  Calls Tryz.prog 34 #[.slice A a.length c, .slice B b.length c'] w fun e w'=>e = .returned (.bool (decide (a = b))) ∧ Below w.heap.size w w':=by
 unfold maxLen at hl
 by_cases hlen : a.length = b.length
 ·have H0 : Hid (decide (a = b) = decide (a.drop 0 = b.drop 0)):=rfl
  rw [← hlen]
  have HL:=Lib.hid hlen
  clear hlen
  go_enter Tryz.func34, Tryz.ntmps34
  go_wp2_with fail
  go_loopw [5] (fun i wr=>∃ k : Nat, k ≤ a.length ∧ i = .int .i64 k ∧ Hid (decide (a = b) = decide (a.drop k = b.drop k)) ∧ Below w.heap.size w wr) (fun i wr=>a.length - (intOf i).toNat)
  case atStart=>exact ⟨0, Nat.zero_le _, rfl, H0, Below.refl _ _⟩
  case round =>
   obtain ⟨k, hk, rfl, hE, hbw⟩:=hrel
   have hs:=hbw.size
   by_cases hlt : k < a.length
   ·have hltb : k < b.length:=by rw [← HL.out]; exact hlt
    obtain ⟨ad, rfl, hp, f0, f1⟩:=ha.kid hbw hlt
    obtain ⟨bd, rfl, hq, g0, g1⟩:=hb.kid hbw hltb
    have hE2:=hE.out
    rw [same_drop hlt hltb] at hE2
    have e0 : decide (a[k] = b[k]) = (decide (a[k].1 = b[k].1) && decide (a[k].2 = b[k].2)):=by
     rw [Bool.eq_iff_iff]
     simp only [decide_eq_true_eq, Bool.and_eq_true]
     exact Prod.ext_iff
    rw [e0] at hE2
    generalize a[k].1 = x at f0 hE2
    generalize a[k].2 = y at f1 hE2
    generalize b[k].1 = x' at g0 hE2
    generalize b[k].2 = y' at g1 hE2
    have HE:=Lib.hid hE2
    clear hE hE2 e0 H0
    have f0d : wr.drew.cell? (ad.add (k * 2)) = some (.string x):=f0
    have f1d : wr.drew.cell? ⟨(ad.add (k * 2)).block, (ad.add (k * 2)).off + 1, none⟩ = some (.string y):=f1
    have g0d : wr.drew.cell? (bd.add (k * 2)) = some (.string x'):=g0
    have g1d : wr.drew.cell? ⟨(bd.add (k * 2)).block, (bd.add (k * 2)).off + 1, none⟩ = some (.string y'):=g1
    have hbd:=hbw.drew
    have hcase : (x = x' ∧ y = y') ∨ (x = x' ∧ ¬ y.toList = y'.toList ∧ Hid (decide (a = b) = false)) ∨ (¬ x.toList = x'.toList ∧ Hid (decide (a = b) = false)):=by
     by_cases hx : x = x'
     ·by_cases hy : y = y'
      ·exact Or.inl ⟨hx, hy⟩
      ·refine Or.inr (Or.inl ⟨hx, ?_, ?_⟩)
       ·have:=toList_inj' y y'
        rw [decide_eq_false hy] at this
        simpa using this
       ·show _ = _
        rw [HE.out, decide_eq_false hy]; simp
     ·refine Or.inr (Or.inr ⟨?_, ?_⟩)
      ·have:=toList_inj' x x'
       rw [decide_eq_false hx] at this
       simpa using this
      ·show _ = _
       rw [HE.out, decide_eq_false hx]; simp
    rcases hcase with ⟨rfl, rfl⟩ | ⟨rfl, hy, HF⟩ | ⟨hx, HF⟩
    ·clear f0 f1 g0 g1
     go_wp2_with fail
     go_region
     go_wp2_with fail
     go_roundw
     case rel =>
      refine ⟨k + 1, by omega, by go_num, ?_, hbd⟩
      show _ = _
      rw [HE.out]; simp
     case measure=>simp [intOf]; omega
    all_goals
     clear f0 f1 g0 g1
     go_wp2_with fail
     go_region
     go_wp2_with fail
     go_ret
     exact ⟨ret_bool HF.out.symm, hbd⟩
   ·have hk2 : k = a.length:=by omega
    have hE2:=hE.out
    rw [hk2, List.drop_length, HL.out, List.drop_length] at hE2
    have HE:=Lib.hid hE2
    clear hE hE2 hk2
    go_wp2_with fail
    go_ret
    refine ⟨ret_bool ?_, hbw⟩
    rw [HE.out]; rfl
 ·have HR : Hid (decide (a = b) = false):=by
   show _ = _
   rw [decide_eq_false_iff_not]
   intro h; exact hlen (by rw [h])
  have hne : ((a.length : Int) != b.length) = true:=by rw [bne_iff_ne]; omega
  clear hlen
  go_enter Tryz.func34, Tryz.ntmps34
  go_wp2_with fail
  go_ret
  exact ⟨ret_bool HR.out.symm, Below.refl _ _⟩
end Go.Proofs.YtbdpkfgllnbheaaGreatDoor
