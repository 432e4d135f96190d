import Derived.Test.YtpnlalfdgngcdaaDoorZA6
set_option linter.unusedVariables false
set_option maxRecDepth 100000
namespace Go.Proofs.YtpnlalfdgngcdaaDoor
open Go.RowKit
set_option maxHeartbeats 1000000 in
theorem rIsRdn_any (r : List Nm.Ava) (A : Option Addr) (c : Nat) (w : World) (hr : RAt w (· < w.heap.size) A r) (hl : r.length ≤ maxLen) :
  Calls Tryd.prog 45 #[.slice A r.length c] w fun e w'=>e = .returned (.bool (Nm.isRdn r)) ∧ Below w.heap.size w w':=by
 unfold maxLen at hl
 by_cases h0 : (r.length : Int) < 1 ∨ 1 ≤ (r.length : Int) ∧ 4 < (r.length : Int)
 ·have hF:=Lib.hid (show Nm.isRdn r = false by
   unfold Nm.isRdn
   rcases h0 with h | ⟨_, h⟩
   ·rw [decide_eq_false (by omega)]; rfl
   ·rw [decide_eq_false (p:=r.length ≤ 4) (by omega)]; simp)
  rcases h0 with h0 | ⟨h0, h1⟩
  all_goals
   go_enter Tryd.func45, Tryd.ntmps45
   go_wp2_with fail
   go_ret
   exact ⟨ret_bool hF.out.symm, Below.refl _ _⟩
 have h1 : 1 ≤ (r.length : Int):=by omega
 have h2 : (r.length : Int) ≤ 4:=by omega
 have hF:=Lib.hid (show Nm.isRdn r = Nm.okFrom (r.take 0) (r.drop 0) by
  unfold Nm.isRdn
  rw [decide_eq_true (by omega), decide_eq_true (by omega)]; rfl)
 obtain ⟨ad, rfl, hp, hc0⟩:=hr (by omega)
 have HC:=Lib.hid hc0
 clear h0 hr hc0
 go_enter Tryd.func45, Tryd.ntmps45
 go_wp2_with fail
 go_loopw [3] (fun i wr=>∃ k : Nat, k ≤ r.length ∧ i = .int .i64 k ∧ Hid (Nm.isRdn r = Nm.okFrom (r.take k) (r.drop k)) ∧ Below w.heap.size w wr) (fun i wr=>r.length - (intOf i).toNat)
 case atStart=>exact ⟨0, Nat.zero_le _, rfl, hF, Below.refl _ _⟩
 case round =>
  obtain ⟨k, hk, rfl, hE, hb⟩:=hrel
  by_cases hlt : k < r.length
  ·obtain ⟨g0, g1⟩:=HC.out k hlt
   rw [add_odd] at g1
   have hpk : (ad.add (k * 2)).block < w.heap.size:=by rw [block_of_add]; exact hp
   have G0:=Lib.hid g0
   have f0:=batA hb hpk g0
   have f1:=bat hb hpk g1
   clear g0 g1
   have hE2:=hE.out
   rw [okFrom_step hlt, okAva_of] at hE2
   obtain ⟨x, hx⟩ : ∃ x, x = r[k].1:=⟨_, rfl⟩
   obtain ⟨y, hy⟩ : ∃ y, y = r[k].2:=⟨_, rfl⟩
   rw [← hx, ← hy] at hE2
   rw [← hx] at f0 G0
   rw [← hy] at f1
   have CT:=fun w=>rIsType_any x w
   obtain ⟨tt, htt⟩ : ∃ tt, tt = Nm.isType (Nm.bs x):=⟨_, rfl⟩
   rw [← htt] at hE2 CT
   have HCT:=Lib.hid CT
   have HE:=Lib.hid hE2
   have HY:=Lib.hid (isE y)
   clear htt CT hE2 hx hy hE hF
   cases tt
   ·go_wp2_with fail
    refine (HCT.out _).mono ?_
    rintro e w1 ⟨rfl, rfl⟩
    go_wp2_with fail
    go_ret
    refine ⟨ret_bool ?_, hb⟩
    rw [HE.out]; rfl
   by_cases hy1 : (y.size : Int) < 1
   ·go_wp2_with fail
    refine (HCT.out _).mono ?_
    rintro e w1 ⟨rfl, rfl⟩
    go_wp2_with fail
    go_ret
    refine ⟨ret_bool ?_, hb⟩
    rw [HE.out, nil_of y (by omega)]; simp
   have hy1' : 1 ≤ (y.size : Int):=by omega
   by_cases hy2 : 60 < (y.size : Int)
   ·go_wp2_with fail
    refine (HCT.out _).mono ?_
    rintro e w1 ⟨rfl, rfl⟩
    go_wp2_with fail
    go_ret
    refine ⟨ret_bool ?_, hb⟩
    rw [HE.out, decide_eq_true hy2]; simp
   have hy2' : (y.size : Int) ≤ 60:=by omega
   have HE3 : Hid (Nm.isRdn r = (!hasT (r.take k) x && Nm.okFrom (r.take (k + 1)) (r.drop (k + 1)))):=by
    show _ = _
    have e1 : (y.toList == []) = false:=by
     have:=isE_of y (by omega)
     rw [beq_eq_false_iff_ne]
     intro h; rw [h] at this; cases this
    rw [HE.out, e1, decide_eq_false hy2]; rfl
   clear HE HY hy1 hy2
   go_wp2_with fail
   refine (HCT.out _).mono ?_
   rintro e w1 ⟨rfl, rfl⟩
   go_wp2_with fail
   go_loopw [4] (fun j wz=>∃ jj : Nat, jj ≤ k ∧ j = .int .i64 jj ∧ Hid (hasT (r.take jj) x = false) ∧ Below w.heap.size w wz) (fun j wz=>k - (intOf j).toNat)
   case atStart=>exact ⟨0, Nat.zero_le _, rfl, rfl, hb⟩
   case round =>
    obtain ⟨jj, hj, rfl, hJ, hb2⟩:=hrel
    by_cases hjl : (jj : Int) < k
    ·have hjr : jj < r.length:=by omega
     have q0:=batA hb2 (by rw [block_of_add]; exact hp) (HC.out jj hjr).1
     have x0:=batA hb2 hpk G0.out
     have q0d : wr.drew.cell? (ad.add (jj * 2)) = some (.string r[jj].1):=q0
     have x0d : wr.drew.cell? (ad.add (k * 2)) = some (.string x):=x0
     have hS:=Lib.hid (hasT_step (z:=x) hjr)
     have hA : Hid (r[jj].1 = x → hasT (r.take k) x = true):=fun he=>hasT_at (r:=r.take k) (k:=jj) (by rw [List.length_take]; omega) (by rw [List.getElem_take]; exact he)
     obtain ⟨z, hz⟩ : ∃ z, z = r[jj].1:=⟨_, rfl⟩
     have HZ:=Lib.hid hz
     rw [← hz] at q0 q0d hS hA
     clear hz f0 f1
     have hb3:=hb2.drew
     by_cases hzx : z = x
     ·have e1 : (z.toList == x.toList) = true:=by rw [toList_inj', decide_eq_true hzx]
      have HX:=Lib.hid hzx
      clear hzx
      go_wp2_with fail
      go_region
      go_wp2_with fail
      go_ret
      refine ⟨ret_bool ?_, hb3⟩
      rw [HE3.out, hA.out HX.out]; rfl
     ·have e1 : (z.toList == x.toList) = false:=by rw [toList_inj', decide_eq_false hzx]
      have HX:=Lib.hid hzx
      clear hzx
      go_wp2_with fail
      go_region
      go_wp2_with fail
      go_roundw
      case rel =>
       refine ⟨jj + 1, by omega, by go_num, ?_, hb3⟩
       show _ = _
       rw [hS.out, hJ.out, decide_eq_false HX.out]
       rfl
      case measure=>simp [intOf]; omega
    ·have hjk : jj = k:=by omega
     subst hjk
     go_wp2_with fail
     refine ⟨⟨jj + 1, by omega, by go_num, ?_, hb2⟩, by simp [intOf]; omega⟩
     show _ = _
     rw [HE3.out, hJ.out]
     rfl
  ·have hk2 : k = r.length:=by omega
   have hE2:=hE.out
   rw [hk2, List.drop_length] at hE2
   have HE:=Lib.hid hE2
   clear hE hE2 hk2
   go_wp2_with fail
   go_ret
   refine ⟨ret_bool ?_, hb⟩
   rw [HE.out]
   rfl
set_option maxHeartbeats 1000000 in
theorem rIsDn_any (d : List (List Nm.Ava)) (A : Option Addr) (c : Nat) (w : World) (hd : DAt w (· < w.heap.size) A d) (hl : d.length ≤ maxLen) (hk : ∀ r ∈ d, r.length ≤ maxLen) :
  Calls Tryd.prog 31 #[.slice A d.length c] w fun e w'=>e = .returned (.bool (Nm.isDn d)) ∧ Below w.heap.size w w':=by
 unfold maxLen at hl
 have C:=Lib.hid rIsRdn_any
 have HK:=Lib.hid (fun (k : Nat) (h : k < d.length)=>hk d[k] (List.getElem_mem h))
 clear hk
 by_cases h0 : 8 < (d.length : Int)
 ·have hF:=Lib.hid (show Nm.isDn d = false by unfold Nm.isDn; rw [decide_eq_false (by omega)]; rfl)
  go_enter Tryd.func31, Tryd.ntmps31
  go_wp2_with fail
  go_ret
  exact ⟨ret_bool hF.out.symm, Below.refl _ _⟩
 have h1 : (d.length : Int) ≤ 8:=by omega
 have hF:=Lib.hid (show Nm.isDn d = (d.drop 0).all Nm.isRdn by unfold Nm.isDn; rw [decide_eq_true (by omega)]; rfl)
 clear h0
 go_enter Tryd.func31, Tryd.ntmps31
 go_wp2_with fail
 go_loopw [3] (fun i wr=>∃ k : Nat, k ≤ d.length ∧ i = .int .i64 k ∧ Hid (Nm.isDn d = (d.drop k).all Nm.isRdn) ∧ Below w.heap.size w wr) (fun i wr=>d.length - (intOf i).toNat)
 case atStart=>exact ⟨0, Nat.zero_le _, rfl, hF, Below.refl _ _⟩
 case round =>
  obtain ⟨k, hk, rfl, hE, hb⟩:=hrel
  have hs:=hb.size
  by_cases hlt : k < d.length
  ·obtain ⟨ad, A', c', rfl, hp, f0, hc', hR⟩:=hd.kid hb hlt
   have hE2:=hE.out
   rw [all_step hlt] at hE2
   have CR:=C.out d[k] A' c' wr hR (HK.out k hlt)
   obtain ⟨m, hm⟩ : ∃ m, m = d[k].length:=⟨_, rfl⟩
   rw [← hm] at f0 CR
   obtain ⟨tt, htt⟩ : ∃ tt, tt = Nm.isRdn d[k]:=⟨_, rfl⟩
   rw [← htt] at hE2 CR
   have HE:=Lib.hid hE2
   have HC:=Lib.hid CR
   clear hm htt hE hE2 CR hR hF hc'
   cases tt
   ·go_wp2_with fail
    refine HC.out.mono ?_
    rintro e w1 ⟨rfl, hb1⟩
    go_wp2_with fail
    go_ret
    refine ⟨ret_bool ?_, hb.trans (hb1.mono hs)⟩
    rw [HE.out]; rfl
   ·go_wp2_with fail
    refine HC.out.mono ?_
    rintro e w1 ⟨rfl, hb1⟩
    go_wp2_with fail
    go_roundw
    case rel =>
     refine ⟨k + 1, by omega, by go_num, ?_, hb.trans (hb1.mono hs)⟩
     show _ = _
     rw [HE.out]; rfl
    case measure=>simp [intOf]; omega
  ·have hk2 : k = d.length:=by omega
   have hE2:=hE.out
   rw [hk2, List.drop_length] at hE2
   have HE:=Lib.hid hE2
   clear hE hE2 hk2
   go_wp2_with fail
   go_ret
   refine ⟨ret_bool ?_, hb⟩
   rw [HE.out]
   rfl
end Go.Proofs.YtpnlalfdgngcdaaDoor
