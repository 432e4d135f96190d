import Derived.Test.YtpnlalfdgngcdaaDoorZA7
import Derived.Laws.ResultCell
set_option linter.unusedVariables false
set_option maxRecDepth 100000
namespace Go.Proofs.YtpnlalfdgngcdaaDoor
open Go.RowKit
def lowSt (l : List UInt8) (k : Nat) : List UInt8:=(l.take k).map Nm.sm ++ l.drop k
theorem lowSt_len (l : List UInt8) (k : Nat) : (lowSt l k).length = l.length:=by
 unfold lowSt
 rw [List.length_append, List.length_map, List.length_take, List.length_drop]
 omega
theorem lowSt_at (l : List UInt8) (k : Nat) (h : k < l.length) : (lowSt l k)[k]? = some l[k]:=by
 unfold lowSt
 rw [List.getElem?_append_right (by simp; omega)]
 simp [List.length_take, Nat.min_eq_left (Nat.le_of_lt h), List.getElem?_eq_getElem h]
theorem lowSt_set (l : List UInt8) (k : Nat) (h : k < l.length) : (lowSt l k).set k (Nm.sm l[k]) = lowSt l (k + 1):=by
 unfold lowSt
 have e1 : ((l.take k).map Nm.sm).length = k:=by simp; omega
 rw [List.set_append_right _ _ (by omega), e1, Nat.sub_self, List.drop_eq_getElem_cons h, List.set_cons_zero, List.take_succ_eq_append_getElem h, List.map_append, List.append_assoc]
 rfl
theorem lowSt_same (l : List UInt8) (k : Nat) (h : k < l.length) (he : Nm.sm l[k] = l[k]) : lowSt l k = lowSt l (k + 1):=by
 rw [← lowSt_set l k h, he]
 have:=lowSt_at l k h
 obtain ⟨h1, h2⟩:=List.getElem?_eq_some_iff.1 this
 conv=>rhs; rw [← h2]
 rw [List.set_getElem_self]
theorem lowSt_end (l : List UInt8) : lowSt l l.length = Nm.lower l:=by
 unfold lowSt Nm.lower
 simp
set_option maxHeartbeats 400000 in
theorem lower_any (s : ByteArray) (w : World) (hs : s.size ≤ 1099511627776) :
  Calls Tryd.prog 55 #[.string s] w fun e w'=>e = .returned (.string (Nm.mk (Nm.lower (Nm.bs s)))) ∧ Below w.heap.size w w':=by
 obtain ⟨cap, w1, hc, hR, hb, hsz⟩:=row_of_string s w
 go_enter Tryd.func55, Tryd.ntmps55
 go_wp2_with fail
 go_loopw [10] (fun i wr=>∃ k : Nat, k ≤ s.size ∧ i = .int .i64 k ∧ Row wr w.heap.size (lowSt (Nm.bs s) k) ∧ Below w.heap.size w wr) (fun i wr=>s.size - (intOf i).toNat)
 case atStart=>exact ⟨0, Nat.zero_le _, rfl, hR, hb⟩
 case round =>
  obtain ⟨k, hk, rfl, hR, hb⟩:=hrel
  by_cases hlt : k < s.size
  ·have c0:=hR.cell (lowSt_at _ k hlt)
   have f0 : wr.frozen? ⟨w.heap.size, k, none⟩ = false:=hR.frozen (by rw [lowSt_len]; exact hlt)
   have C1:=Lib.hid (small_any (Nm.bs s)[k])
   have HS:=Lib.hid (lowSt_set (Nm.bs s) k hlt)
   have hR2:=Lib.hid (hR.set_ k (Nm.sm (Nm.bs s)[k]))
   clear hR
   go_wp2_with fail
   refine (C1.out _).mono ?_
   rintro r w2 ⟨rfl, rfl⟩
   go_wp2_with fail
   go_roundw
   case rel =>
    refine ⟨k + 1, by omega, by go_num, ?_, hb.setCell (p:=⟨w.heap.size, k, none⟩) (Nat.le_refl _) _⟩
    rw [← HS.out]
    exact hR2.out
   case measure=>simp [intOf]; omega
  ·have hk2 : k = s.size:=by omega
   have E:=row_string (cap:=cap) hR
   rw [lowSt_len, hk2, ← size_eq, lowSt_end] at E
   rw [size_eq] at E
   go_wp2_with fail
   go_ret
   exact ⟨rfl, hb⟩
set_option maxHeartbeats 400000 in
theorem rlower_any (s : ByteArray) (w : World) (hs : s.size ≤ 1099511627776) :
  Calls Tryd.prog 28 #[.string s] w fun e w'=>e = .returned (.string (Nm.mk (Nm.lower (Nm.bs s)))) ∧ Below w.heap.size w w':=by
 obtain ⟨cap, w1, hc, hR, hb, hsz⟩:=row_of_string s w
 go_enter Tryd.func28, Tryd.ntmps28
 go_wp2_with fail
 go_loopw [4] (fun i wr=>∃ k : Nat, k ≤ s.size ∧ i = .int .i64 k ∧ Row wr w.heap.size (lowSt (Nm.bs s) k) ∧ Below w.heap.size w wr) (fun i wr=>s.size - (intOf i).toNat)
 case atStart=>exact ⟨0, Nat.zero_le _, rfl, hR, hb⟩
 case round =>
  obtain ⟨k, hk, rfl, hR, hb⟩:=hrel
  by_cases hlt : k < s.size
  ·have c0:=hR.cell (lowSt_at _ k hlt)
   have f0 : wr.frozen? ⟨w.heap.size, k, none⟩ = false:=hR.frozen (by rw [lowSt_len]; exact hlt)
   have HS:=Lib.hid (lowSt_set (Nm.bs s) k hlt)
   have HN:=Lib.hid (sm_nat (Nm.bs s)[k])
   have hR2:=Lib.hid (hR.set_ k (Nm.sm (Nm.bs s)[k]))
   obtain ⟨c, hc9⟩ : ∃ c, c = (Nm.bs s)[k]:=⟨_, rfl⟩
   rw [← hc9] at c0 HS HN hR2
   have h256:=u8_lt c
   by_cases h9 : 65 ≤ (c.toNat : Int) ∧ (c.toNat : Int) ≤ 90
   ·have HN2:=Lib.hid (show (c.toNat : Int) + 32 = (Nm.sm c).toNat by rw [HN.out, if_pos (by omega)]; omega)
    obtain ⟨h5, h6⟩:=h9
    clear hR hc9
    go_wp2_with fail
    refine ⟨⟨k + 1, by omega, by go_num, ?_, hb.setCell (p:=⟨w.heap.size, k, none⟩) (Nat.le_refl _) _⟩, by simp [intOf]; omega⟩
    rw [HN2.out, ← HS.out]
    exact hR2.out
   ·have HN2:=Lib.hid (show Nm.sm c = c by unfold Nm.sm; rw [if_neg (by omega)])
    have h9' : (c.toNat : Int) < 65 ∨ 65 ≤ (c.toNat : Int) ∧ 90 < (c.toNat : Int):=by omega
    have fin : Hid (Row wr w.heap.size (lowSt (Nm.bs s) (k + 1))):=by
     show Row _ _ _
     rw [← lowSt_same (Nm.bs s) k hlt (by rw [← hc9]; exact HN2.out)]
     exact hR
    clear hR hR2 HS HN HN2 hc9 h9
    rcases h9' with h5 | ⟨h5, h6⟩
    all_goals
     go_wp2_with fail
     refine ⟨⟨k + 1, by omega, by go_num, fin.out, hb⟩, by simp [intOf]; omega⟩
  ·have hk2 : k = s.size:=by omega
   have E:=row_string (cap:=cap) hR
   rw [lowSt_len, hk2, ← size_eq, lowSt_end] at E
   rw [size_eq] at E
   go_wp2_with fail
   go_ret
   exact ⟨rfl, hb⟩
end Go.Proofs.YtpnlalfdgngcdaaDoor
namespace Go.Proofs.YtpnlalfdgngcdaaDoor
open Go.RowKit
def findV : Option Sc.Ty → Value
 | none=>.tuple #[.agg #[.string ⟨#[]⟩, .int .i64 0, .bool false], .bool false]
 | some t=>.tuple #[.agg #[.string t.1, .int .i64 t.2.1, .bool t.2.2], .bool true]
theorem Blk.set3 {w : World} {g : Nat} {t : TypeId} {x y z x' y' z' : Value} (h : Blk w g t #[x, y, z]) : Blk (((w.setCell ⟨g, 0, none⟩ x').setCell ⟨g, 1, none⟩ y').setCell ⟨g, 2, none⟩ z') g t #[x', y', z']:=((h.set_ 0 x').set_ 1 y').set_ 2 z'
theorem below3 {w w' : World} {B g : Nat} (h : Below B w w') (hg : B ≤ g) (x y z : Value) : Below B w (((w'.setCell ⟨g, 0, none⟩ x).setCell ⟨g, 1, none⟩ y).setCell ⟨g, 2, none⟩ z) :=
 ((h.setCell (p:=⟨g, 0, none⟩) hg x).setCell (p:=⟨g, 1, none⟩) hg y).setCell (p:=⟨g, 2, none⟩) hg z
theorem res_ty {fn : Func} {p u : Tmp} (h : fn.results = #[.cell p 39, .tmp u]) (tmps : Array Value) (w : World) (g : Nat) (x y z v : Value) (hp : tmps.getD p undef = .pointer (some ⟨g, 0, none⟩)) (hv : tmps.getD u undef = v) (hB : Blk w g 39 #[x, y, z]) :
  (results fn tmps).run Tryd.prog w = .ok (.tuple #[.agg #[x, y, z], v]) w:=by
 rw [results_cell_tmp h, hp, hv]
 have e:=run_loadVar_row (P:=Tryd.prog) w g 39 39 #[x, y, z] (0, 0) _ hB Tryd.underlying39 rfl (by kernel_rfl)
 show (((loadVar 39 ⟨g, 0, none⟩).run Tryd.prog w).andThen fun v1 w₂=>Result.ok (Value.tuple #[v1, v]) w₂) = _
 rw [e]
 rfl
set_option maxHeartbeats 2000000 in
theorem find_any (s : ByteArray) (w : World) (hs : s.size ≤ 1099511627776) :
  Calls Tryd.prog 40 #[.string s] w fun e w'=>e = .returned (findV (Sc.find (Nm.bs s))) ∧ Below w.heap.size w w':=by
 have CL:=Lib.hid (fun w=>lower_any s w hs)
 have CA:=Lib.hid all_any
 obtain ⟨X, hX⟩ : ∃ X, X = Nm.mk (Nm.lower (Nm.bs s)):=⟨_, rfl⟩
 rw [← hX] at CL
 obtain ⟨R, hR⟩ : ∃ R, R = Sc.find (Nm.bs s):=⟨_, rfl⟩
 rw [← hR]
 have H0 : Hid (R = Sc.look X (Sc.tab.drop 0)):=by
  show _ = _
  rw [hR, hX]; rfl
 clear hR hX
 go_enter Tryd.func40, Tryd.ntmps40
 go_wp2_with fail
 refine (CL.out _).mono ?_
 rintro r w1 ⟨rfl, hb1⟩
 go_wp2_with fail
 refine (CA.out _).mono ?_
 rintro r w2 ⟨rfl, hT, hb2⟩
 have hs1:=hb1.size
 have hs2:=hb2.size
 have B0 : Blk w2 w.heap.size 39 #[.string ⟨#[]⟩, .int .i64 0, .bool false]:=((Blk.new w _ _).past hb1).past (hb2.mono (Nat.le_refl _))
 have hbw : Below w.heap.size w w2:=((Below.refl _ _).alloc (Nat.le_refl _) _).trans ((hb1.mono (by simp)).trans (hb2.mono (by simp at hs1; omega)))
 have hg : w.heap.size < w1.heap.size:=by simp at hs1; omega
 obtain ⟨gt, hgt⟩ : ∃ gt, gt = w1.heap.size:=⟨_, rfl⟩
 rw [← hgt] at hT hg ⊢
 have hgl:=hT.lt (by decide)
 clear hgt hb1 hb2 hs1 hs2
 go_wp2_with fail
 go_loopw [10] (fun i wr=>∃ k : Nat, k ≤ 15 ∧ i = .int .i64 k ∧ Hid (R = Sc.look X (Sc.tab.drop k)) ∧ Blk wr w.heap.size 39 #[.string ⟨#[]⟩, .int .i64 0, .bool false] ∧ TAt wr gt Sc.tab ∧ gt < wr.heap.size ∧ Below w.heap.size w wr) (fun i wr=>15 - (intOf i).toNat)
 case atStart=>exact ⟨0, by omega, rfl, H0, B0, hT, hgl, hbw⟩
 case round =>
  obtain ⟨k, hk, rfl, hE, hB, hT, hgl, hbw⟩:=hrel
  by_cases hlt : k < 15
  ·have hk3 : k < Sc.tab.length:=hlt
   obtain ⟨c0, c1, c2⟩:=hT k hk3
   have hD:=hE.out
   rw [Sc.look_step hk3] at hD
   obtain ⟨⟨n, sy, sg⟩, hn⟩ : ∃ q : Sc.Ty, q = Sc.tab[k]:=⟨_, rfl⟩
   rw [← hn] at hD c0 c1 c2
   have HD:=Lib.hid hD
   have B1:=hB.alloc (.cells #[.string n, .int .i64 sy, .bool sg] 39)
   have b0 : (wr.alloc (.cells #[.string n, .int .i64 sy, .bool sg] 39)).cell? ⟨w.heap.size, 0, none⟩ = some (.string ⟨#[]⟩):=B1.cell 0
   have b1 : (wr.alloc (.cells #[.string n, .int .i64 sy, .bool sg] 39)).cell? ⟨w.heap.size, 1, none⟩ = some (.int .i64 0):=B1.cell 1
   have b2 : (wr.alloc (.cells #[.string n, .int .i64 sy, .bool sg] 39)).cell? ⟨w.heap.size, 2, none⟩ = some (.bool false):=B1.cell 2
   have f0:=B1.frozen 0
   have f1:=B1.frozen 1
   have f2:=B1.frozen 2
   have hw2:=hbw.alloc hbw.size (.cells #[.string n, .int .i64 sy, .bool sg] 39)
   have HT:=Lib.hid (hT.past (Nat.lt_of_lt_of_le hgl (Nat.le_refl _)) ((Below.refl wr.heap.size wr).alloc (Nat.le_refl _) (.cells #[.string n, .int .i64 sy, .bool sg] 39)))
   clear hD hE hn H0 hT CA CL B0 hB
   by_cases he : n = X
   ·have hq : (n.toList == X.toList) = true:=by rw [toList_inj', decide_eq_true he]
    have HR:=Lib.hid (show R = some (n, sy, sg) by rw [HD.out, if_pos he])
    clear he HD HT
    go_wp2_with fail
    refine bodyPost_ret (res_ty rfl _ _ w.heap.size _ _ _ _ rfl rfl B1.set3) rfl ⟨?_, below3 hw2 (Nat.le_refl _) _ _ _⟩
    rw [HR.out]
    rfl
   ·have hq : (n.toList == X.toList) = false:=by rw [toList_inj', decide_eq_false he]
    have HR:=Lib.hid (show R = Sc.look X (Sc.tab.drop (k + 1)) by rw [HD.out, if_neg he])
    clear he HD
    go_wp2_with fail
    refine ⟨⟨k + 1, by omega, by go_num, HR, B1, HT.out, by simp; omega, hw2⟩, by simp [intOf]; omega⟩
  ·have hk2 : k = 15:=by omega
   have HR:=Lib.hid (show R = none by rw [hE.out, hk2]; rfl)
   have b0 : wr.cell? ⟨w.heap.size, 0, none⟩ = some (.string ⟨#[]⟩):=hB.cell 0
   have b1 : wr.cell? ⟨w.heap.size, 1, none⟩ = some (.int .i64 0):=hB.cell 1
   have b2 : wr.cell? ⟨w.heap.size, 2, none⟩ = some (.bool false):=hB.cell 2
   have f0:=hB.frozen 0
   have f1:=hB.frozen 1
   have f2:=hB.frozen 2
   clear hE hT CA CL H0
   go_wp2_with fail
   refine bodyPost_ret (res_ty rfl _ _ w.heap.size _ _ _ _ rfl rfl hB.set3) rfl ⟨?_, below3 hbw (Nat.le_refl _) _ _ _⟩
   rw [HR.out]
   rfl
end Go.Proofs.YtpnlalfdgngcdaaDoor
