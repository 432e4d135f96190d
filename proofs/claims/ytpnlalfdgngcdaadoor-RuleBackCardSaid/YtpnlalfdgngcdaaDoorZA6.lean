import Derived.Test.YtpnlalfdgngcdaaDoorZA5
set_option linter.unusedVariables false
set_option maxRecDepth 100000
namespace Go.Proofs.YtpnlalfdgngcdaaDoor
open Go.RowKit
def tyR : Bool → List UInt8 → Bool
 | _, []=>true
 | f, c :: r=>(if f then Nm.smallC c else Nm.typeC c) && tyR false r
theorem tyR_all (l : List UInt8) : tyR false l = l.all Nm.typeC:=by
 induction l with
 | nil=>rfl
 | cons c r ih=>simp [tyR, ih]
theorem isType_tyR (l : List UInt8) : Nm.isType l = (decide (l.length ≤ 16) && (!l.isEmpty && tyR true l)):=by
 unfold Nm.isType
 cases l with
 | nil=>rfl
 | cons c r=>simp [tyR, tyR_all]
theorem size_eq (s : ByteArray) : s.data.toList.length = s.size:=rfl
theorem drop_at {s : ByteArray} {k : Nat} (h : k < s.size) : s.data.toList.drop k = s[k] :: s.data.toList.drop (k + 1):=List.drop_eq_getElem_cons (show k < s.data.toList.length from h)
theorem isE (s : ByteArray) : s.toList.isEmpty = decide (s.size = 0):=by
 rw [Bool.eq_iff_iff]
 simp only [List.isEmpty_iff, decide_eq_true_eq]
 rw [ByteArray.toList_eq]
 constructor
 ·intro h; rw [← size_eq, h]; rfl
 ·intro h; exact List.eq_nil_of_length_eq_zero h
theorem nil_of (s : ByteArray) (h : s.size = 0) : s.toList = []:=by
 have:=isE s
 simpa [h] using this
theorem nilD_of (s : ByteArray) (h : s.size = 0) : s.data.toList = []:=List.eq_nil_of_length_eq_zero h
theorem isE_of (s : ByteArray) (h : 0 < s.size) : s.toList.isEmpty = false:=by
 rw [isE]
 simp only [decide_eq_false_iff_not]; omega
theorem tyC_not (k : Nat) (c : UInt8) (h : ¬ (97 ≤ c.toNat ∧ c.toNat ≤ 122 ∨ k ≠ 0 ∧ (48 ≤ c.toNat ∧ c.toNat ≤ 57 ∨ c.toNat = 45))) : (if decide (k = 0) = true then Nm.smallC c else Nm.typeC c) = false:=by
 unfold Nm.smallC Nm.typeC
 split
 ·simp_all
 ·have : k ≠ 0:=by simpa using ‹¬ decide (k = 0) = true›
  rw [decide_eq_false_iff_not]
  omega
theorem tyC_is (k : Nat) (c : UInt8) (h : 97 ≤ c.toNat ∧ c.toNat ≤ 122 ∨ k ≠ 0 ∧ (48 ≤ c.toNat ∧ c.toNat ≤ 57 ∨ c.toNat = 45)) : (if decide (k = 0) = true then Nm.smallC c else Nm.typeC c) = true:=by
 unfold Nm.smallC Nm.typeC
 split
 ·have : k = 0:=by simpa using ‹decide (k = 0) = true›
  rw [decide_eq_true_eq]
  omega
 ·rw [decide_eq_true_eq]
  omega
theorem isED_of (s : ByteArray) (h : 0 < s.size) : s.data.toList.isEmpty = false:=by
 have:=isE_of s h
 simpa [ByteArray.toList_eq] using this
set_option maxHeartbeats 400000 in
theorem isType_any (s : ByteArray) (w : World) :
  Calls Tryd.prog 80 #[.string s] w fun e w'=>e = .returned (.bool (Nm.isType s.data.toList)) ∧ w = w':=by
 have hT:=Lib.hid (isType_tyR s.data.toList)
 by_cases h0 : s.size = 0
 ·have h1:=nil_of s h0
  have h2:=Lib.hid (nilD_of s h0)
  clear h0
  go_enter Tryd.func80, Tryd.ntmps80
  go_wp2_with fail
  go_ret
  refine ⟨ret_bool ?_, rfl⟩
  rw [hT.out, h2.out]; rfl
 have h1:=isE_of s (by omega)
 have h3:=Lib.hid (isED_of s (by omega))
 by_cases h2 : 16 < (s.size : Int)
 ·clear h0
  go_enter Tryd.func80, Tryd.ntmps80
  go_wp2_with fail
  go_ret
  refine ⟨ret_bool ?_, rfl⟩
  rw [hT.out, size_eq, decide_eq_false (by omega)]; rfl
 have h2' : (s.size : Int) ≤ 16:=by omega
 have hR:=Lib.hid (show Nm.isType s.data.toList = tyR (decide (0 = 0)) (s.data.toList.drop 0) by
  rw [hT.out, h3.out, size_eq, decide_eq_true (by omega)]; rfl)
 clear hT h0 h2 h3
 go_enter Tryd.func80, Tryd.ntmps80
 go_wp2_with fail
 go_loopw [14] (fun i wr=>∃ k : Nat, k ≤ s.size ∧ i = .int .i64 k ∧ Hid (Nm.isType s.data.toList = tyR (decide (k = 0)) (s.data.toList.drop k)) ∧ w = wr) (fun i wr=>s.size - (intOf i).toNat)
 case atStart=>exact ⟨0, Nat.zero_le _, rfl, hR, rfl⟩
 case round =>
  obtain ⟨k, hk, rfl, hE, rfl⟩:=hrel
  by_cases hlt : k < s.size
  ·have hD:=hE.out
   rw [drop_at hlt, tyR] at hD
   have HD:=Lib.hid hD
   have hc:=u8_lt s[k]
   clear hE hD hR
   go_wp2_with fail
   all_goals first
    |(go_ret
      refine ⟨ret_bool ?_, rfl⟩
      rw [HD.out]
      clear HD
      simp only [beq_iff_eq, beq_eq_false_iff_ne, ne_eq] at *
      rw [tyC_not _ _ (by omega)]
      rfl)
    |(refine ⟨⟨k + 1, by omega, by go_num, ?_, trivial⟩, by simp [intOf]; omega⟩
      show _ = _
      rw [HD.out]
      clear HD
      simp only [beq_iff_eq, beq_eq_false_iff_ne, ne_eq] at *
      rw [tyC_is _ _ (by omega)]
      rfl)
  ·go_wp2_with fail
   go_ret
   refine ⟨ret_bool ?_, rfl⟩
   have : k = s.size:=by omega
   rw [hE.out, this, ← size_eq, List.drop_length]
   rfl
theorem isType_all (s : ByteArray) (h : 0 < s.size) : Nm.isType s.data.toList = (decide (s.size ≤ 16) && (Nm.smallC s[0] && s.data.toList.all Nm.typeC)):=by
 have h1:=drop_at (s:=s) (k:=0) h
 rw [List.drop_zero] at h1
 have h2 : Nm.smallC s[0] = (Nm.smallC s[0] && Nm.typeC s[0]):=by
  unfold Nm.smallC Nm.typeC
  rw [Bool.eq_iff_iff]
  simp only [Bool.and_eq_true, decide_eq_true_eq]
  omega
 rw [isType_tyR, size_eq, h1]
 simp only [tyR, List.isEmpty_cons, Bool.not_false, Bool.true_and, if_true, List.all_cons, ← Bool.and_assoc]
 rw [tyR_all]
 rw [Bool.and_assoc (decide (s.size ≤ 16)) (Nm.smallC s[0]) (Nm.typeC s[0]), ← h2]
set_option maxHeartbeats 400000 in
theorem rIsType_any (s : ByteArray) (w : World) :
  Calls Tryd.prog 60 #[.string s] w fun e w'=>e = .returned (.bool (Nm.isType s.data.toList)) ∧ w = w':=by
 by_cases h0 : s.size = 0
 ·have h2:=Lib.hid (show Nm.isType s.data.toList = false by rw [nilD_of s h0]; rfl)
  have h0' : (s.size : Int) < 1:=by omega
  clear h0
  go_enter Tryd.func60, Tryd.ntmps60
  go_wp2_with fail
  go_ret
  refine ⟨ret_bool ?_, rfl⟩
  rw [h2.out]
 have hT:=isType_all s (by omega)
 by_cases h2 : 16 < (s.size : Int)
 ·have h3:=Lib.hid (show Nm.isType s.data.toList = false by rw [hT, decide_eq_false (by omega)]; rfl)
  have h0' : 1 ≤ (s.size : Int):=by omega
  clear h0 hT
  go_enter Tryd.func60, Tryd.ntmps60
  go_wp2_with fail
  go_ret
  refine ⟨ret_bool ?_, rfl⟩
  rw [h3.out]
 have h2' : (s.size : Int) ≤ 16:=by omega
 have h0' : 1 ≤ (s.size : Int):=by omega
 have h0s : 0 < s.size:=by omega
 rw [decide_eq_true (by omega), Bool.true_and] at hT
 have hc:=u8_lt s[0]
 by_cases h4 : Nm.smallC s[0] = false
 ·have h3:=Lib.hid (show Nm.isType s.data.toList = false by rw [hT, h4]; rfl)
  have h5 : (s[0].toNat : Int) < 97 ∨ 97 ≤ (s[0].toNat : Int) ∧ 122 < (s[0].toNat : Int):=by unfold Nm.smallC at h4; rw [decide_eq_false_iff_not] at h4; omega
  clear h0 hT h2 h4
  rcases h5 with h5 | ⟨h5, h6⟩
  all_goals
   go_enter Tryd.func60, Tryd.ntmps60
   go_wp2_with fail
   go_ret
   refine ⟨ret_bool ?_, rfl⟩
   rw [h3.out]
 ·have h4' : Nm.smallC s[0] = true:=by simpa using h4
  have h5 : 97 ≤ (s[0].toNat : Int) ∧ (s[0].toNat : Int) ≤ 122:=by unfold Nm.smallC at h4'; rw [decide_eq_true_eq] at h4'; omega
  obtain ⟨h5, h6⟩:=h5
  rw [h4', Bool.true_and] at hT
  have hR:=Lib.hid (show Nm.isType s.data.toList = (s.data.toList.drop 0).all Nm.typeC from hT)
  clear h0 hT h2 h4 h4'
  go_enter Tryd.func60, Tryd.ntmps60
  go_wp2_with fail
  go_loopw [3] (fun i wr=>∃ k : Nat, k ≤ s.size ∧ i = .int .i64 k ∧ Hid (Nm.isType s.data.toList = (s.data.toList.drop k).all Nm.typeC) ∧ w = wr) (fun i wr=>s.size - (intOf i).toNat)
  case atStart=>exact ⟨0, Nat.zero_le _, rfl, hR, rfl⟩
  case round =>
   obtain ⟨k, hk, rfl, hE, rfl⟩:=hrel
   by_cases hlt : k < s.size
   ·have hD:=hE.out
    rw [drop_at hlt, List.all_cons] at hD
    have HD:=Lib.hid hD
    have hc:=u8_lt s[k]
    clear hE hD hR
    go_wp2_with fail
    all_goals first
     |(go_ret
       refine ⟨ret_bool ?_, rfl⟩
       rw [HD.out]
       clear HD
       simp only [bne_iff_ne, ne_eq] at *
       rw [show Nm.typeC s[k] = false by unfold Nm.typeC; rw [decide_eq_false_iff_not]; omega]
       rfl)
     |(refine ⟨⟨k + 1, by omega, by go_num, ?_, trivial⟩, by simp [intOf]; omega⟩
       show _ = _
       rw [HD.out]
       clear HD
       try simp only [bne_eq_false_iff_eq] at *
       rw [show Nm.typeC s[k] = true by unfold Nm.typeC; rw [decide_eq_true_eq]; omega]
       rfl)
   ·go_wp2_with fail
    go_ret
    refine ⟨ret_bool ?_, rfl⟩
    have : k = s.size:=by omega
    rw [hE.out, this, ← size_eq, List.drop_length]
    rfl
end Go.Proofs.YtpnlalfdgngcdaaDoor
namespace Go.Proofs.YtpnlalfdgngcdaaDoor
open Go.RowKit
theorem okFrom_step {r : List Nm.Ava} {k : Nat} (h : k < r.length) : Nm.okFrom (r.take k) (r.drop k) = (Nm.okAva r[k] && !hasT (r.take k) r[k].1 && Nm.okFrom (r.take (k + 1)) (r.drop (k + 1))):=by
 rw [List.drop_eq_getElem_cons h, Nm.okFrom, List.take_succ_eq_append_getElem h]
 congr 2
 unfold hasT
 rw [Bool.eq_iff_iff]
 simp
theorem okAva_of (a : Nm.Ava) : Nm.okAva a = (Nm.isType (Nm.bs a.1) && !(a.2.toList == []) && !decide (60 < (a.2.size : Int))):=by
 unfold Nm.okAva
 have : (a.2.toList == []) = decide (a.2.size = 0):=by
  have:=isE a.2
  rw [← this]
  cases a.2.toList <;> rfl
 rw [this, Bool.and_assoc]
 congr 1
 rw [Bool.eq_iff_iff]
 simp only [Bool.and_eq_true, Bool.not_eq_true', decide_eq_true_eq, decide_eq_false_iff_not]
 omega
set_option maxHeartbeats 1000000 in
theorem isRdn_any (r : List Nm.Ava) (A : Option Addr) (c : Nat) (w : World) (hr : RAt w (· < w.heap.size) A r) (hl : r.length ≤ maxLen) (hcap : r.length ≤ c) :
  Calls Tryd.prog 68 #[.slice A r.length c] w fun e w'=>e = .returned (.bool (Nm.isRdn r)) ∧ Below w.heap.size w w':=by
 unfold maxLen at hl
 by_cases h0 : (r.length : Int) = 0 ∨ ((r.length : Int) == 0) = false ∧ 4 < (r.length : Int)
 ·have hF:=Lib.hid (show Nm.isRdn r = false by
   unfold Nm.isRdn
   rcases h0 with h | ⟨_, h⟩
   ·rw [decide_eq_false (by omega)]; rfl
   ·rw [decide_eq_false (p:=r.length ≤ 4) (by omega)]; simp)
  rcases h0 with h0 | ⟨h0, h1⟩
  all_goals
   go_enter Tryd.func68, Tryd.ntmps68
   go_wp2_with fail
   go_ret
   exact ⟨ret_bool hF.out.symm, Below.refl _ _⟩
 have h1 : ((r.length : Int) == 0) = false:=by rw [beq_eq_false_iff_ne]; omega
 have h2 : (r.length : Int) ≤ 4:=by
  rcases Int.lt_or_le 4 (r.length : Int) with h | h
  ·exact absurd (Or.inr ⟨h1, h⟩) h0
  ·exact h
 have hF:=Lib.hid (show Nm.isRdn r = Nm.okFrom (r.take 0) (r.drop 0) by
  unfold Nm.isRdn
  rw [decide_eq_true (by omega), decide_eq_true (by omega)]; rfl)
 have hmf : ∀ (fn : Fn) (first cap : Array Value) (w : World), (Instr.makeFunc fn first cap).run Tryd.prog w = .ok (.func fn first cap) w:=fun _ _ _ _=>rfl
 clear h0
 go_enter Tryd.func68, Tryd.ntmps68
 go_wp2_with fail
 go_loopw [16] (fun i wr=>∃ k : Nat, k ≤ r.length ∧ i = .int .i64 k ∧ Hid (Nm.isRdn r = Nm.okFrom (r.take k) (r.drop k)) ∧ Below w.heap.size w wr) (fun i wr=>r.length - (intOf i).toNat)
 case atStart=>exact ⟨0, Nat.zero_le _, rfl, hF, Below.refl _ _⟩
 case round =>
  obtain ⟨k, hk, rfl, hE, hb⟩:=hrel
  have hs:=hb.size
  by_cases hlt : k < r.length
  ·obtain ⟨ad, rfl, hp, f0, f1⟩:=hr.kid hb hlt
   have hE2:=hE.out
   rw [okFrom_step hlt, okAva_of] at hE2
   have hrk:=((hr.take k).past hb).past ((Below.refl _ _).alloc (Nat.le_refl _) (.cells #[.string r[k].1, .string r[k].2] 83))
   obtain ⟨x, hx⟩ : ∃ x, x = r[k].1:=⟨_, rfl⟩
   obtain ⟨y, hy⟩ : ∃ y, y = r[k].2:=⟨_, rfl⟩
   rw [← hx, ← hy] at hrk hE2
   rw [← hx] at f0
   rw [← hy] at f1
   clear hx hy
   have hbw:=hb.alloc hs (.cells #[.string x, .string y] 83)
   have bx : Blk (wr.alloc (.cells #[.string x, .string y] 83)) wr.heap.size 83 #[.string x, .string y]:=Blk.new wr _ _
   have CT:=isType_any x (wr.alloc (.cells #[.string x, .string y] 83))
   have CC:=fun c=>contains_any (r.take k) (some ad) c x wr.heap.size (wr.alloc (.cells #[.string x, .string y] 83)) (bx.cell 0) hrk (by rw [List.length_take]; unfold maxLen; omega)
   rw [show (r.take k).length = k by rw [List.length_take]; omega] at CC
   clear hE hrk hF
   obtain ⟨tt, htt⟩ : ∃ tt, tt = Nm.isType (Nm.bs x):=⟨_, rfl⟩
   obtain ⟨uu, huu⟩ : ∃ uu, uu = hasT (r.take k) x:=⟨_, rfl⟩
   obtain ⟨vv, hvv⟩ : ∃ vv, vv = Nm.okFrom (r.take (k + 1)) (r.drop (k + 1)):=⟨_, rfl⟩
   have HV:=Lib.hid hvv
   rw [← htt, ← huu, ← hvv] at hE2
   rw [← htt] at CT
   rw [← huu] at CC
   have HCC:=Lib.hid CC
   have HCT:=Lib.hid CT
   have HE:=Lib.hid hE2
   have hkc : k ≤ c:=by omega
   clear htt huu hvv CC CT hE2
   cases tt
   ·go_wp2_with fail
    refine HCT.out.mono ?_
    rintro e w1 ⟨rfl, rfl⟩
    go_wp2_with fail
    go_ret
    refine ⟨ret_bool ?_, hbw⟩
    rw [HE.out]; rfl
   rcases Bool.eq_false_or_eq_true uu with rfl | rfl
   ·go_wp2_with fail
    refine HCT.out.mono ?_
    rintro e w1 ⟨rfl, rfl⟩
    go_wp2_with fail
    refine (HCC.out _).mono ?_
    rintro e w1 ⟨rfl, hb1⟩
    go_wp2_with fail
    go_ret
    refine ⟨ret_bool ?_, hbw.trans (hb1.mono (by simp; omega))⟩
    rw [HE.out]; simp
   have q0 : (wr.alloc (.cells #[.string x, .string y] 83)).cell? ⟨wr.heap.size, 1, none⟩ = some (.string y):=bx.cell 1
   by_cases hy0 : y.toList = []
   ·go_wp2_with fail
    refine HCT.out.mono ?_
    rintro e w1 ⟨rfl, rfl⟩
    go_wp2_with fail
    refine (HCC.out _).mono ?_
    rintro e w1 ⟨rfl, hb1⟩
    have q1 : w1.cell? ⟨wr.heap.size, 1, none⟩ = some (.string y):=bat hb1 (by simp) q0
    go_wp2_with fail
    go_ret
    refine ⟨ret_bool ?_, hbw.trans (hb1.mono (by simp; omega))⟩
    rw [HE.out, hy0]; simp
   have hy1 : y.toList.isEmpty = false:=by simpa using hy0
   by_cases hy2 : 60 < (y.size : Int)
   ·go_wp2_with fail
    refine HCT.out.mono ?_
    rintro e w1 ⟨rfl, rfl⟩
    go_wp2_with fail
    refine (HCC.out _).mono ?_
    rintro e w1 ⟨rfl, hb1⟩
    have q1 : w1.cell? ⟨wr.heap.size, 1, none⟩ = some (.string y):=bat hb1 (by simp) q0
    go_wp2_with fail
    go_ret
    refine ⟨ret_bool ?_, hbw.trans (hb1.mono (by simp; omega))⟩
    rw [HE.out, decide_eq_true hy2]; simp
   ·have HY : Hid ((y.toList == []) = false ∧ decide (60 < (y.size : Int)) = false):=⟨by rw [beq_eq_false_iff_ne]; exact hy0, decide_eq_false hy2⟩
    have hy2' : (y.size : Int) ≤ 60:=by omega
    clear hy0 hy2
    go_wp2_with fail
    refine HCT.out.mono ?_
    rintro e w1 ⟨rfl, rfl⟩
    go_wp2_with fail
    refine (HCC.out _).mono ?_
    rintro e w1 ⟨rfl, hb1⟩
    have q1 : w1.cell? ⟨wr.heap.size, 1, none⟩ = some (.string y):=bat hb1 (by simp) q0
    go_wp2_with fail
    go_roundw
    case rel =>
     refine ⟨k + 1, by omega, by go_num, ?_, hbw.trans (hb1.mono (by simp; omega))⟩
     show _ = _
     rw [HE.out, HY.out.1, HY.out.2, HV.out]
     rfl
    case measure=>simp [intOf]; omega
  ·have hk2 : k = r.length:=by omega
   have hE2:=hE.out
   rw [hk2, List.drop_length] at hE2
   have HE:=Lib.hid hE2
   clear hE hE2 hk2
   go_wp2_with fail
   go_ret
   refine ⟨ret_bool ?_, hb⟩
   rw [HE.out]
   rfl
theorem all_step {d : List (List Nm.Ava)} {k : Nat} (h : k < d.length) : (d.drop k).all Nm.isRdn = (Nm.isRdn d[k] && (d.drop (k + 1)).all Nm.isRdn):=by
 rw [List.drop_eq_getElem_cons h, List.all_cons]
end Go.Proofs.YtpnlalfdgngcdaaDoor
