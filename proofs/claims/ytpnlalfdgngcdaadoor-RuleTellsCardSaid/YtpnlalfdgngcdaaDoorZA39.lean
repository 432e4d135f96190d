import Derived.Test.YtpnlalfdgngcdaaDoorZA10
set_option linter.unusedVariables false
set_option maxRecDepth 100000
namespace Go.Proofs.YtpnlalfdgngcdaaDoor
open Go.RowKit
set_option maxHeartbeats 2000000 in
theorem rfind_any (s : ByteArray) (w : World) (hs : s.size ≤ 1099511627776) :
  Calls Tryd.prog 16 #[.string s] w fun e w'=>e = .returned (findV (Sc.find (Nm.bs s))) ∧ Below w.heap.size w w':=by
 have CL:=Lib.hid (fun w=>rlower_any s w hs)
 have CA:=Lib.hid rall_any
 obtain ⟨X, hX⟩ : ∃ X, X = Nm.mk (Nm.lower (Nm.bs s)):=⟨_, rfl⟩
 rw [← hX] at CL
 obtain ⟨R, hR⟩ : ∃ R, R = Sc.find (Nm.bs s):=⟨_, rfl⟩
 rw [← hR]
 have H0 : Hid (R = Sc.look X (Sc.tab.drop 0)):=by
  show _ = _
  rw [hR, hX]; rfl
 clear hR hX
 go_enter Tryd.func16, Tryd.ntmps16
 go_wp2_with fail
 refine (CA.out _).mono ?_
 rintro r w2 ⟨rfl, hT, hb2⟩
 have hs2:=hb2.size
 have B0 : Blk w2 w.heap.size 39 #[.string ⟨#[]⟩, .int .i64 0, .bool false]:=(Blk.new w _ _).past hb2
 have hbw : Below w.heap.size w w2:=((Below.refl _ _).alloc (Nat.le_refl _) _).trans (hb2.mono (by simp))
 have hg : w.heap.size < (w.alloc (.cells #[.string ⟨#[]⟩, .int .i64 0, .bool false] 39)).heap.size:=by simp
 obtain ⟨gt, hgt⟩ : ∃ gt, gt = (w.alloc (.cells #[.string ⟨#[]⟩, .int .i64 0, .bool false] 39)).heap.size:=⟨_, rfl⟩
 rw [← hgt] at hT hg ⊢
 have hgl:=hT.lt (by decide)
 clear hgt hb2 hs2
 go_wp2_with fail
 go_loopw [5] (fun i wr=>∃ k : Nat, k ≤ 15 ∧ i = .int .i64 k ∧ Hid (R = Sc.look X (Sc.tab.drop k)) ∧ Blk wr w.heap.size 39 #[.string ⟨#[]⟩, .int .i64 0, .bool false] ∧ TAt wr gt Sc.tab ∧ gt < wr.heap.size ∧ Below w.heap.size w wr) (fun i wr=>15 - (intOf i).toNat)
 case atStart=>exact ⟨0, by omega, rfl, H0, B0, hT, hgl, hbw⟩
 case round =>
  obtain ⟨k, hk, rfl, hE, hB, hT, hgl, hbw⟩:=hrel
  by_cases hlt : k < 15
  ·have hk3 : k < Sc.tab.length:=hlt
   obtain ⟨c0, c1, c2⟩:=hT k hk3
   have hD:=hE.out
   rw [Sc.look_step hk3] at hD
   obtain ⟨⟨n, sy, sg⟩, hn⟩ : ∃ q : Sc.Ty, q = Sc.tab[k]:=⟨_, rfl⟩
   rw [← hn] at hD c0 c1 c2
   have HD:=Lib.hid hD
   have HT:=Lib.hid hT
   have HC1:=Lib.hid c1
   have HC2:=Lib.hid c2
   have c0d : wr.drew.cell? ⟨gt, k * 3, none⟩ = some (.string n):=c0
   have HB:=Lib.hid hB
   clear hD hE hn H0 hT CA B0 hB c1 c2 c0
   have hgld : gt < wr.drew.heap.size:=hgl
   have hcase : n = X ∨ n ≠ X:=Classical.em _
   rcases hcase with he | he
   ·have hq : (n.toList == X.toList) = true:=by rw [toList_inj', decide_eq_true he]
    have HR:=Lib.hid (show R = some (n, sy, sg) by rw [HD.out, if_pos he])
    clear he HD
    go_wp2_with fail
    go_region_held3 (fun w'=>w'.cell? ⟨gt, k * 3, none⟩ = some (.string n)) (first | go_keep | exact bat hb1 hgld c0d) (first | (go_at_call 28; refine (CL.out _).mono ?_; rintro e w1 ⟨rfl, hb1⟩))
    have hbx:=hbw.drew.trans (hb1.mono hbw.size)
    have B1:=HB.out.drew.past hb1
    have a0 : w1.cell? ⟨gt, k * 3, none⟩ = some (.string n):=bat hb1 hgld c0d
    have a1 : w1.cell? ⟨gt, k * 3 + 1, none⟩ = some (.int .i64 sy):=bat hb1 hgld HC1.out
    have a2 : w1.cell? ⟨gt, k * 3 + 2, none⟩ = some (.bool sg):=bat hb1 hgld HC2.out
    have b0 : w1.cell? ⟨w.heap.size, 0, none⟩ = some (.string ⟨#[]⟩):=B1.cell 0
    have b1 : w1.cell? ⟨w.heap.size, 1, none⟩ = some (.int .i64 0):=B1.cell 1
    have b2 : w1.cell? ⟨w.heap.size, 2, none⟩ = some (.bool false):=B1.cell 2
    have f0:=B1.frozen 0
    have f1:=B1.frozen 1
    have f2:=B1.frozen 2
    clear HC1 HC2 HB HT CL c0d
    go_wp2_with fail
    refine bodyPost_ret (res_ty rfl _ _ w.heap.size _ _ _ _ rfl rfl B1.set3) rfl ⟨?_, below3 hbx (Nat.le_refl _) _ _ _⟩
    rw [HR.out]
    rfl
   ·have hq : (n.toList == X.toList) = false:=by rw [toList_inj', decide_eq_false he]
    have HR:=Lib.hid (show R = Sc.look X (Sc.tab.drop (k + 1)) by rw [HD.out, if_neg he])
    clear he HD
    go_wp2_with fail
    go_region_held3 (fun w'=>w'.cell? ⟨gt, k * 3, none⟩ = some (.string n)) (first | go_keep | exact bat hb1 hgld c0d) (first | (go_at_call 28; refine (CL.out _).mono ?_; rintro e w1 ⟨rfl, hb1⟩))
    have hbx:=hbw.drew.trans (hb1.mono hbw.size)
    have B1:=HB.out.drew.past hb1
    have hz:=hb1.size
    have HT1:=Lib.hid (TAt.past (w:=wr.drew) HT.out hgld hb1)
    clear HC1 HC2 HB HT CL c0d
    go_wp2_with fail
    refine ⟨⟨k + 1, by omega, by go_num, HR, B1, HT1.out, by omega, hbx⟩, by simp [intOf]; omega⟩
  ·have hk2 : k = 15:=by omega
   have HR:=Lib.hid (show R = none by rw [hE.out, hk2]; rfl)
   have b0 : wr.cell? ⟨w.heap.size, 0, none⟩ = some (.string ⟨#[]⟩):=hB.cell 0
   have b1 : wr.cell? ⟨w.heap.size, 1, none⟩ = some (.int .i64 0):=hB.cell 1
   have b2 : wr.cell? ⟨w.heap.size, 2, none⟩ = some (.bool false):=hB.cell 2
   have f0:=hB.frozen 0
   have f1:=hB.frozen 1
   have f2:=hB.frozen 2
   clear hE hT CA CL H0
   go_wp2_with fail
   refine bodyPost_ret (res_ty rfl _ _ w.heap.size _ _ _ _ rfl rfl hB.set3) rfl ⟨?_, below3 hbw (Nat.le_refl _) _ _ _⟩
   rw [HR.out]
   rfl
end Go.Proofs.YtpnlalfdgngcdaaDoor
