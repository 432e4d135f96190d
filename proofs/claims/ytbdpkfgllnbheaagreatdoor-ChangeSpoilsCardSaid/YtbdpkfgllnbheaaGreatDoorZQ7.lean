import Derived.Test.YtbdpkfgllnbheaaGreatDoorZQ4
import Derived.Deep.LoopGhost
import Derived.Deep.RegionHeld3
set_option linter.unusedVariables false
set_option maxRecDepth 100000
namespace Go.Proofs.YtbdpkfgllnbheaaGreatDoor
open Go.RowKit
def tyR : Bool → List UInt8 → Bool
 | _, []=>true
 | f, c :: r=>(if f then Nm.smallC c else Nm.typeC c) && tyR false r
theorem tyR_all (l : List UInt8) : tyR false l = l.all Nm.typeC:=by
 induction l with
 | nil=>rfl
 | cons c r ih=>simp [tyR, ih]
theorem isType_tyR (l : List UInt8) : Nm.isType l = (decide (l.length ≤ 16) && (!l.isEmpty && tyR true l)):=by
 unfold Nm.isType
 cases l with
 | nil=>rfl
 | cons c r=>simp [tyR, tyR_all]
theorem size_eq (s : ByteArray) : s.data.toList.length = s.size:=rfl
theorem drop_at {s : ByteArray} {k : Nat} (h : k < s.size) : s.data.toList.drop k = s[k] :: s.data.toList.drop (k + 1):=List.drop_eq_getElem_cons (show k < s.data.toList.length from h)
theorem isE (s : ByteArray) : s.toList.isEmpty = decide (s.size = 0):=by
 rw [Bool.eq_iff_iff]
 simp only [List.isEmpty_iff, decide_eq_true_eq]
 rw [ByteArray.toList_eq]
 constructor
 ·intro h; rw [← size_eq, h]; rfl
 ·intro h; exact List.eq_nil_of_length_eq_zero h
theorem nil_of (s : ByteArray) (h : s.size = 0) : s.toList = []:=by
 have:=isE s
 simpa [h] using this
theorem nilD_of (s : ByteArray) (h : s.size = 0) : s.data.toList = []:=List.eq_nil_of_length_eq_zero h
theorem isE_of (s : ByteArray) (h : 0 < s.size) : s.toList.isEmpty = false:=by
 rw [isE]
 simp only [decide_eq_false_iff_not]; omega
theorem tyC_not (k : Nat) (c : UInt8) (h : ¬ (97 ≤ c.toNat ∧ c.toNat ≤ 122 ∨ k ≠ 0 ∧ (48 ≤ c.toNat ∧ c.toNat ≤ 57 ∨ c.toNat = 45))) : (if decide (k = 0) = true then Nm.smallC c else Nm.typeC c) = false:=by
 unfold Nm.smallC Nm.typeC
 split
 ·simp_all
 ·have : k ≠ 0:=by simpa using ‹¬ decide (k = 0) = true›
  rw [decide_eq_false_iff_not]
  omega
theorem tyC_is (k : Nat) (c : UInt8) (h : 97 ≤ c.toNat ∧ c.toNat ≤ 122 ∨ k ≠ 0 ∧ (48 ≤ c.toNat ∧ c.toNat ≤ 57 ∨ c.toNat = 45)) : (if decide (k = 0) = true then Nm.smallC c else Nm.typeC c) = true:=by
 unfold Nm.smallC Nm.typeC
 split
 ·have : k = 0:=by simpa using ‹decide (k = 0) = true›
  rw [decide_eq_true_eq]
  omega
 ·rw [decide_eq_true_eq]
  omega
theorem isED_of (s : ByteArray) (h : 0 < s.size) : s.data.toList.isEmpty = false:=by
 have:=isE_of s h
 simpa [ByteArray.toList_eq] using this
set_option maxHeartbeats 400000 in
theorem isType_any (s : ByteArray) (w : World) :
  Calls Tryz.prog 118 #[.string s] w fun e w'=>e = .returned (.bool (Nm.isType s.data.toList)) ∧ w = w':=by
 have hT:=Lib.hid (isType_tyR s.data.toList)
 by_cases h0 : s.size = 0
 ·have h1:=nil_of s h0
  have h2:=Lib.hid (nilD_of s h0)
  clear h0
  go_enter Tryz.func118, Tryz.ntmps118
  go_wp2_with fail
  go_ret
  refine ⟨ret_bool ?_, rfl⟩
  rw [hT.out, h2.out]; rfl
 have h1:=isE_of s (by omega)
 have h3:=Lib.hid (isED_of s (by omega))
 by_cases h2 : 16 < (s.size : Int)
 ·clear h0
  go_enter Tryz.func118, Tryz.ntmps118
  go_wp2_with fail
  go_ret
  refine ⟨ret_bool ?_, rfl⟩
  rw [hT.out, size_eq, decide_eq_false (by omega)]; rfl
 have h2' : (s.size : Int) ≤ 16:=by omega
 have hR:=Lib.hid (show Nm.isType s.data.toList = tyR (decide (0 = 0)) (s.data.toList.drop 0) by
  rw [hT.out, h3.out, size_eq, decide_eq_true (by omega)]; rfl)
 clear hT h0 h2 h3
 go_enter Tryz.func118, Tryz.ntmps118
 go_wp2_with fail
 go_loopw [14] (fun i wr=>∃ k : Nat, k ≤ s.size ∧ i = .int .i64 k ∧ Hid (Nm.isType s.data.toList = tyR (decide (k = 0)) (s.data.toList.drop k)) ∧ w = wr) (fun i wr=>s.size - (intOf i).toNat)
 case atStart=>exact ⟨0, Nat.zero_le _, rfl, hR, rfl⟩
 case round =>
  obtain ⟨k, hk, rfl, hE, rfl⟩:=hrel
  by_cases hlt : k < s.size
  ·have hD:=hE.out
   rw [drop_at hlt, tyR] at hD
   have HD:=Lib.hid hD
   have hc:=u8_lt s[k]
   clear hE hD hR
   go_wp2_with fail
   all_goals first
    |(go_ret
      refine ⟨ret_bool ?_, rfl⟩
      rw [HD.out]
      clear HD
      simp only [beq_iff_eq, beq_eq_false_iff_ne, ne_eq] at *
      rw [tyC_not _ _ (by omega)]
      rfl)
    |(refine ⟨⟨k + 1, by omega, by go_num, ?_, trivial⟩, by simp [intOf]; omega⟩
      show _ = _
      rw [HD.out]
      clear HD
      simp only [beq_iff_eq, beq_eq_false_iff_ne, ne_eq] at *
      rw [tyC_is _ _ (by omega)]
      rfl)
  ·go_wp2_with fail
   go_ret
   refine ⟨ret_bool ?_, rfl⟩
   have : k = s.size:=by omega
   rw [hE.out, this, ← size_eq, List.drop_length]
   rfl
theorem isType_all (s : ByteArray) (h : 0 < s.size) : Nm.isType s.data.toList = (decide (s.size ≤ 16) && (Nm.smallC s[0] && s.data.toList.all Nm.typeC)):=by
 have h1:=drop_at (s:=s) (k:=0) h
 rw [List.drop_zero] at h1
 have h2 : Nm.smallC s[0] = (Nm.smallC s[0] && Nm.typeC s[0]):=by
  unfold Nm.smallC Nm.typeC
  rw [Bool.eq_iff_iff]
  simp only [Bool.and_eq_true, decide_eq_true_eq]
  omega
 rw [isType_tyR, size_eq, h1]
 simp only [tyR, List.isEmpty_cons, Bool.not_false, Bool.true_and, if_true, List.all_cons, ← Bool.and_assoc]
 rw [tyR_all]
 rw [Bool.and_assoc (decide (s.size ≤ 16)) (Nm.smallC s[0]) (Nm.typeC s[0]), ← h2]
set_option maxHeartbeats 400000 in
theorem rIsType_any (s : ByteArray) (w : World) :
  Calls Tryz.prog 96 #[.string s] w fun e w'=>e = .returned (.bool (Nm.isType s.data.toList)) ∧ w = w':=by
 by_cases h0 : s.size = 0
 ·have h2:=Lib.hid (show Nm.isType s.data.toList = false by rw [nilD_of s h0]; rfl)
  have h0' : (s.size : Int) < 1:=by omega
  clear h0
  go_enter Tryz.func96, Tryz.ntmps96
  go_wp2_with fail
  go_ret
  refine ⟨ret_bool ?_, rfl⟩
  rw [h2.out]
 have hT:=isType_all s (by omega)
 by_cases h2 : 16 < (s.size : Int)
 ·have h3:=Lib.hid (show Nm.isType s.data.toList = false by rw [hT, decide_eq_false (by omega)]; rfl)
  have h0' : 1 ≤ (s.size : Int):=by omega
  clear h0 hT
  go_enter Tryz.func96, Tryz.ntmps96
  go_wp2_with fail
  go_ret
  refine ⟨ret_bool ?_, rfl⟩
  rw [h3.out]
 have h2' : (s.size : Int) ≤ 16:=by omega
 have h0' : 1 ≤ (s.size : Int):=by omega
 have h0s : 0 < s.size:=by omega
 rw [decide_eq_true (by omega), Bool.true_and] at hT
 have hc:=u8_lt s[0]
 by_cases h4 : Nm.smallC s[0] = false
 ·have h3:=Lib.hid (show Nm.isType s.data.toList = false by rw [hT, h4]; rfl)
  have h5 : (s[0].toNat : Int) < 97 ∨ 97 ≤ (s[0].toNat : Int) ∧ 122 < (s[0].toNat : Int):=by unfold Nm.smallC at h4; rw [decide_eq_false_iff_not] at h4; omega
  clear h0 hT h2 h4
  rcases h5 with h5 | ⟨h5, h6⟩
  all_goals
   go_enter Tryz.func96, Tryz.ntmps96
   go_wp2_with fail
   go_ret
   refine ⟨ret_bool ?_, rfl⟩
   rw [h3.out]
 ·have h4' : Nm.smallC s[0] = true:=by simpa using h4
  have h5 : 97 ≤ (s[0].toNat : Int) ∧ (s[0].toNat : Int) ≤ 122:=by unfold Nm.smallC at h4'; rw [decide_eq_true_eq] at h4'; omega
  obtain ⟨h5, h6⟩:=h5
  rw [h4', Bool.true_and] at hT
  have hR:=Lib.hid (show Nm.isType s.data.toList = (s.data.toList.drop 0).all Nm.typeC from hT)
  clear h0 hT h2 h4 h4'
  go_enter Tryz.func96, Tryz.ntmps96
  go_wp2_with fail
  go_loopw [3] (fun i wr=>∃ k : Nat, k ≤ s.size ∧ i = .int .i64 k ∧ Hid (Nm.isType s.data.toList = (s.data.toList.drop k).all Nm.typeC) ∧ w = wr) (fun i wr=>s.size - (intOf i).toNat)
  case atStart=>exact ⟨0, Nat.zero_le _, rfl, hR, rfl⟩
  case round =>
   obtain ⟨k, hk, rfl, hE, rfl⟩:=hrel
   by_cases hlt : k < s.size
   ·have hD:=hE.out
    rw [drop_at hlt, List.all_cons] at hD
    have HD:=Lib.hid hD
    have hc:=u8_lt s[k]
    clear hE hD hR
    go_wp2_with fail
    all_goals first
     |(go_ret
       refine ⟨ret_bool ?_, rfl⟩
       rw [HD.out]
       clear HD
       simp only [bne_iff_ne, ne_eq] at *
       rw [show Nm.typeC s[k] = false by unfold Nm.typeC; rw [decide_eq_false_iff_not]; omega]
       rfl)
     |(refine ⟨⟨k + 1, by omega, by go_num, ?_, trivial⟩, by simp [intOf]; omega⟩
       show _ = _
       rw [HD.out]
       clear HD
       try simp only [bne_eq_false_iff_eq] at *
       rw [show Nm.typeC s[k] = true by unfold Nm.typeC; rw [decide_eq_true_eq]; omega]
       rfl)
   ·go_wp2_with fail
    go_ret
    refine ⟨ret_bool ?_, rfl⟩
    have : k = s.size:=by omega
    rw [hE.out, this, ← size_eq, List.drop_length]
    rfl
end Go.Proofs.YtbdpkfgllnbheaaGreatDoor
namespace Go.Proofs.YtbdpkfgllnbheaaGreatDoor
open Go.RowKit
def lowSt (l : List UInt8) (k : Nat) : List UInt8:=(l.take k).map Nm.sm ++ l.drop k
theorem lowSt_len (l : List UInt8) (k : Nat) : (lowSt l k).length = l.length:=by
 unfold lowSt
 rw [List.length_append, List.length_map, List.length_take, List.length_drop]
 omega
theorem lowSt_at (l : List UInt8) (k : Nat) (h : k < l.length) : (lowSt l k)[k]? = some l[k]:=by
 unfold lowSt
 rw [List.getElem?_append_right (by simp; omega)]
 simp [List.length_take, Nat.min_eq_left (Nat.le_of_lt h), List.getElem?_eq_getElem h]
theorem lowSt_set (l : List UInt8) (k : Nat) (h : k < l.length) : (lowSt l k).set k (Nm.sm l[k]) = lowSt l (k + 1):=by
 unfold lowSt
 have e1 : ((l.take k).map Nm.sm).length = k:=by simp; omega
 rw [List.set_append_right _ _ (by omega), e1, Nat.sub_self, List.drop_eq_getElem_cons h, List.set_cons_zero, List.take_succ_eq_append_getElem h, List.map_append, List.append_assoc]
 rfl
theorem lowSt_same (l : List UInt8) (k : Nat) (h : k < l.length) (he : Nm.sm l[k] = l[k]) : lowSt l k = lowSt l (k + 1):=by
 rw [← lowSt_set l k h, he]
 have:=lowSt_at l k h
 obtain ⟨h1, h2⟩:=List.getElem?_eq_some_iff.1 this
 conv=>rhs; rw [← h2]
 rw [List.set_getElem_self]
theorem lowSt_end (l : List UInt8) : lowSt l l.length = Nm.lower l:=by
 unfold lowSt Nm.lower
 simp
set_option maxHeartbeats 400000 in
theorem lower_any (s : ByteArray) (w : World) (hs : s.size ≤ 1099511627776) :
  Calls Tryz.prog 92 #[.string s] w fun e w'=>e = .returned (.string (Nm.mk (Nm.lower (Nm.bs s)))) ∧ Below w.heap.size w w':=by
 obtain ⟨cap, w1, hc, hR, hb, hsz⟩:=row_of_string s w
 go_enter Tryz.func92, Tryz.ntmps92
 go_wp2_with fail
 go_loopw [10] (fun i wr=>∃ k : Nat, k ≤ s.size ∧ i = .int .i64 k ∧ Row wr w.heap.size (lowSt (Nm.bs s) k) ∧ Below w.heap.size w wr) (fun i wr=>s.size - (intOf i).toNat)
 case atStart=>exact ⟨0, Nat.zero_le _, rfl, hR, hb⟩
 case round =>
  obtain ⟨k, hk, rfl, hR, hb⟩:=hrel
  by_cases hlt : k < s.size
  ·have c0:=hR.cell (lowSt_at _ k hlt)
   have f0 : wr.frozen? ⟨w.heap.size, k, none⟩ = false:=hR.frozen (by rw [lowSt_len]; exact hlt)
   have C1:=Lib.hid (small_any (Nm.bs s)[k])
   have HS:=Lib.hid (lowSt_set (Nm.bs s) k hlt)
   have hR2:=Lib.hid (hR.set_ k (Nm.sm (Nm.bs s)[k]))
   clear hR
   go_wp2_with fail
   refine (C1.out _).mono ?_
   rintro r w2 ⟨rfl, rfl⟩
   go_wp2_with fail
   go_roundw
   case rel =>
    refine ⟨k + 1, by omega, by go_num, ?_, hb.setCell (p:=⟨w.heap.size, k, none⟩) (Nat.le_refl _) _⟩
    rw [← HS.out]
    exact hR2.out
   case measure=>simp [intOf]; omega
  ·have hk2 : k = s.size:=by omega
   have E:=row_string (cap:=cap) hR
   rw [lowSt_len, hk2, ← size_eq, lowSt_end] at E
   rw [size_eq] at E
   go_wp2_with fail
   go_ret
   exact ⟨rfl, hb⟩
set_option maxHeartbeats 400000 in
theorem rlower_any (s : ByteArray) (w : World) (hs : s.size ≤ 1099511627776) :
  Calls Tryz.prog 100 #[.string s] w fun e w'=>e = .returned (.string (Nm.mk (Nm.lower (Nm.bs s)))) ∧ Below w.heap.size w w':=by
 obtain ⟨cap, w1, hc, hR, hb, hsz⟩:=row_of_string s w
 go_enter Tryz.func100, Tryz.ntmps100
 go_wp2_with fail
 go_loopw [4] (fun i wr=>∃ k : Nat, k ≤ s.size ∧ i = .int .i64 k ∧ Row wr w.heap.size (lowSt (Nm.bs s) k) ∧ Below w.heap.size w wr) (fun i wr=>s.size - (intOf i).toNat)
 case atStart=>exact ⟨0, Nat.zero_le _, rfl, hR, hb⟩
 case round =>
  obtain ⟨k, hk, rfl, hR, hb⟩:=hrel
  by_cases hlt : k < s.size
  ·have c0:=hR.cell (lowSt_at _ k hlt)
   have f0 : wr.frozen? ⟨w.heap.size, k, none⟩ = false:=hR.frozen (by rw [lowSt_len]; exact hlt)
   have HS:=Lib.hid (lowSt_set (Nm.bs s) k hlt)
   have HN:=Lib.hid (sm_nat (Nm.bs s)[k])
   have hR2:=Lib.hid (hR.set_ k (Nm.sm (Nm.bs s)[k]))
   obtain ⟨c, hc9⟩ : ∃ c, c = (Nm.bs s)[k]:=⟨_, rfl⟩
   rw [← hc9] at c0 HS HN hR2
   have h256:=u8_lt c
   by_cases h9 : 65 ≤ (c.toNat : Int) ∧ (c.toNat : Int) ≤ 90
   ·have HN2:=Lib.hid (show (c.toNat : Int) + 32 = (Nm.sm c).toNat by rw [HN.out, if_pos (by omega)]; omega)
    obtain ⟨h5, h6⟩:=h9
    clear hR hc9
    go_wp2_with fail
    refine ⟨⟨k + 1, by omega, by go_num, ?_, hb.setCell (p:=⟨w.heap.size, k, none⟩) (Nat.le_refl _) _⟩, by simp [intOf]; omega⟩
    rw [HN2.out, ← HS.out]
    exact hR2.out
   ·have HN2:=Lib.hid (show Nm.sm c = c by unfold Nm.sm; rw [if_neg (by omega)])
    have h9' : (c.toNat : Int) < 65 ∨ 65 ≤ (c.toNat : Int) ∧ 90 < (c.toNat : Int):=by omega
    have fin : Hid (Row wr w.heap.size (lowSt (Nm.bs s) (k + 1))):=by
     show Row _ _ _
     rw [← lowSt_same (Nm.bs s) k hlt (by rw [← hc9]; exact HN2.out)]
     exact hR
    clear hR hR2 HS HN HN2 hc9 h9
    rcases h9' with h5 | ⟨h5, h6⟩
    all_goals
     go_wp2_with fail
     refine ⟨⟨k + 1, by omega, by go_num, fin.out, hb⟩, by simp [intOf]; omega⟩
  ·have hk2 : k = s.size:=by omega
   have E:=row_string (cap:=cap) hR
   rw [lowSt_len, hk2, ← size_eq, lowSt_end] at E
   rw [size_eq] at E
   go_wp2_with fail
   go_ret
   exact ⟨rfl, hb⟩
end Go.Proofs.YtbdpkfgllnbheaaGreatDoor
