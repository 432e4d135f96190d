import Derived.Test.YtbdpkfgllnbheaaGreatDoorZQ9
set_option linter.unusedVariables false
set_option maxRecDepth 100000
namespace Go.Proofs.YtbdpkfgllnbheaaGreatDoor
open Go.RowKit
theorem tail_of (s : ByteArray) : Nm.bs (s.extract 1 s.size) = (Nm.bs s).drop 1:=by
 show (s.extract 1 s.size).data.toList = _
 rw [Lib.extract_data]
 rw [List.take_of_length_le]
 rw [List.length_drop, size_eq]
 omega
theorem rint_tail (L D : List UInt8) (c : UInt8) (h : D = c :: D.drop 1) (hn : c.toNat = 48 → (L = [48] ↔ D = [48])) :
  Sc.int0 L D = (decide (D.length ≤ 15) && (!(decide (1 < D.length) && decide (c.toNat = 48)) && D.all Sc.digC)):=by
 have h1 : Sc.int0 L D = (decide ((D.drop 1).length < 15) && if c.toNat = 48 then decide (L = [48]) else D.all Sc.digC):=by
  conv=>lhs; rw [h]
  rw [Sc.int0]
  rw [← h]
 have h2 : D.length = (D.drop 1).length + 1:=by
  conv=>lhs; rw [h]
  simp
 rw [h1]
 have e1 : decide ((D.drop 1).length < 15) = decide (D.length ≤ 15):=by rw [decide_eq_decide]; omega
 rw [e1]
 congr 1
 by_cases h48 : c.toNat = 48
 ·rw [if_pos h48, decide_eq_true h48, Bool.and_true]
  rw [decide_eq_decide.2 (hn h48)]
  by_cases h3 : 1 < D.length
  ·rw [decide_eq_true h3, decide_eq_false]
   ·rfl
   ·intro e
    rw [e] at h3
    simp at h3
  ·have h4 : D.drop 1 = []:=List.eq_nil_of_length_eq_zero (by omega)
   have h5 : D = [c]:=by rw [h4] at h; exact h
   have h6 : c = 48:=UInt8.toNat_inj.1 (by rw [h48]; rfl)
   rw [decide_eq_false h3, h5, h6]
   rfl
 ·rw [if_neg h48, decide_eq_false h48, Bool.and_false]
  rfl
theorem rint_cases (n : Nat) (c : UInt8) : 15 < (n : Int) ∨ (n : Int) ≤ 15 ∧ 1 < (n : Int) ∧ ((c.toNat : Int) == 48) = true ∨ (n : Int) ≤ 15 ∧ 1 < (n : Int) ∧ ((c.toNat : Int) == 48) = false ∨ (n : Int) ≤ 1:=by
 by_cases h1 : 15 < (n : Int)
 ·exact Or.inl h1
 ·by_cases h2 : 1 < (n : Int)
  ·cases h3 : ((c.toNat : Int) == 48)
   ·exact Or.inr (Or.inr (Or.inl ⟨by omega, h2, rfl⟩))
   ·exact Or.inr (Or.inl ⟨by omega, h2, rfl⟩)
  ·exact Or.inr (Or.inr (Or.inr (by omega)))
set_option maxHeartbeats 4000000 in
theorem risInt_any (s : ByteArray) (w : World) (hs : s.size ≤ 1000000000) :
  Calls Tryz.prog 97 #[.string s] w fun e w'=>e = .returned (.bool (Sc.isInt (Nm.bs s))) ∧ w = w':=by
 obtain ⟨R, hR⟩ : ∃ R, R = Sc.isInt (Nm.bs s):=⟨_, rfl⟩
 rw [← hR]
 by_cases h0 : s.size = 0
 ·have HF:=Lib.hid (show R = false by rw [hR, show Nm.bs s = [] from nilD_of s h0]; rfl)
  have h1 : (s.size : Int) = 0:=by omega
  clear h0 hR
  go_enter Tryz.func97, Tryz.ntmps97
  go_wp2_with fail
  go_ret
  exact ⟨ret_bool HF.out.symm, rfl⟩
 have hd:=drop_at (s:=s) (k:=0) (by omega)
 rw [List.drop_zero] at hd
 obtain ⟨f, hf⟩ : ∃ f, f = s[0]:=⟨_, rfl⟩
 have hfr : ∀ h, s[0]'h = f:=fun _=>hf.symm
 rw [← hf] at hd
 have hd2 : Nm.bs s = f :: (Nm.bs s).drop 1:=hd
 clear hd hf
 have hp0 : 0 < (s.size : Int):=by omega
 by_cases h45 : f = 45
 ·have h46 : ((f.toNat : Int) == 45) = true:=by rw [h45]; rfl
  have hun : Sc.unsign (Nm.bs s) = (Nm.bs s).drop 1:=by
   conv=>lhs; rw [hd2]
   rw [Sc.unsign, if_pos h45]
  obtain ⟨D, hD⟩ : ∃ D, D = s.extract 1 s.size:=⟨_, rfl⟩
  have hbs : Nm.bs D = (Nm.bs s).drop 1:=by rw [hD]; exact tail_of s
  have hDs : D.size = s.size - 1:=by rw [← size_eq, show D.data.toList = Nm.bs D from rfl, hbs, List.length_drop, size_eq]
  have hR2 : R = Sc.int0 (Nm.bs s) (Nm.bs D):=by rw [hR, hbs, ← hun]; rfl
  have hne : Nm.bs s ≠ [48]:=by
   intro e
   rw [hd2, h45] at e
   injection e with e1
   exact absurd e1 (by decide)
  have hzero:=eq_zero_s D
  have hqD:=toList_inj' D ⟨#[48]⟩
  rw [ByteArray.toList_eq ⟨#[48]⟩] at hqD
  have hqE : (⟨#[48]⟩ : ByteArray).data.toList = [48]:=rfl
  rw [hqE] at hqD
  by_cases hz : Nm.bs D = [48]
  ·have HF:=Lib.hid (show R = false by rw [hR2, hz, Sc.int0]; simp [hne])
   have hq : (D.toList == [48]) = true:=by rw [hqD, hzero, decide_eq_true hz]
   clear hR hR2 hz hqD hzero hne hbs hun hd2 h45 hDs
   go_enter Tryz.func97, Tryz.ntmps97
   have hsl:=hD.symm
   clear hD
   go_wp2_with fail
   go_ret
   exact ⟨ret_bool HF.out.symm, rfl⟩
  have hq : (D.toList == [48]) = false:=by rw [hqD, hzero, decide_eq_false hz]
  by_cases h1 : D.size = 0
  ·have HF:=Lib.hid (show R = false by rw [hR2, show Nm.bs D = [] from nilD_of D h1]; rfl)
   have h2 : (D.size : Int) = 0:=by omega
   clear hR hR2 hz hqD hzero hne hbs hun hd2 h45 hDs h1
   go_enter Tryz.func97, Tryz.ntmps97
   have hsl:=hD.symm
   clear hD
   go_wp2_with fail
   go_ret
   exact ⟨ret_bool HF.out.symm, rfl⟩
  have hd3:=drop_at (s:=D) (k:=0) (by omega)
  rw [List.drop_zero] at hd3
  obtain ⟨c, hc⟩ : ∃ c, c = D[0]:=⟨_, rfl⟩
  have hcr : ∀ h, D[0]'h = c:=fun _=>hc.symm
  rw [← hc] at hd3
  have HR : Hid (R = (decide (D.size ≤ 15) && (!(decide (1 < D.size) && decide (c.toNat = 48)) && (Nm.bs D).all Sc.digC))):=by
   show _ = _
   rw [hR2]
   exact rint_tail (Nm.bs s) (Nm.bs D) c hd3 (fun _=>⟨fun e=>absurd e hne, fun e=>absurd e hz⟩)
  clear hR hR2 hz hqD hzero hne hbs hun hd2 h45 hd3 hc
  go_enter Tryz.func97, Tryz.ntmps97
  have hsl:=hD.symm
  clear hD
  have hcs:=rint_cases D.size c
  have hpos : 1 ≤ (D.size : Int):=by omega
  rcases hcs with h3 | ⟨h3, h4, h5⟩ | ⟨h3, h4, h5⟩ | h3
  ·have HF:=Lib.hid (show R = false by rw [HR.out, decide_eq_false (by omega)]; rfl)
   clear HR
   go_wp2_with fail
   go_ret
   exact ⟨ret_bool HF.out.symm, rfl⟩
  ·have HF:=Lib.hid (show R = false by rw [HR.out, decide_eq_true (p:=1 < D.size) (by omega), decide_eq_true (p:=c.toNat = 48) (by simp at h5; omega)]; simp)
   clear HR
   go_wp2_with fail
   go_ret
   exact ⟨ret_bool HF.out.symm, rfl⟩
  ·have HF : Hid (R = (Nm.bs D).all Sc.digC):=by
    show _ = _
    rw [HR.out, decide_eq_true (p:=D.size ≤ 15) (by omega), decide_eq_false (p:=c.toNat = 48) (by simp at h5; omega)]; simp
   clear HR
   have h15 : D.size ≤ 15:=by omega
   have H0 : Hid (R = ((Nm.bs D).drop 0).all Sc.digC):=HF.out
   clear HF
   go_wp2_with fail
   go_loopw [4] (fun i wr=>∃ k : Nat, k ≤ D.size ∧ i = .int .i64 k ∧ Hid (R = ((Nm.bs D).drop k).all Sc.digC) ∧ w = wr) (fun i wr=>D.size - (intOf i).toNat)
   case atStart=>exact ⟨0, Nat.zero_le _, rfl, H0, rfl⟩
   case round =>
    obtain ⟨k, hk, rfl, hE, rfl⟩:=hrel
    by_cases hlt : k < D.size
    ·have hD:=hE.out
     rw [drop_at hlt, List.all_cons] at hD
     obtain ⟨b, hb⟩ : ∃ b, b = D[k]:=⟨_, rfl⟩
     have hbr : ∀ h, D[k]'h = b:=fun _=>hb.symm
     rw [← hb] at hD
     have HD:=Lib.hid hD
     have h256:=u8_lt b
     clear hE hD H0 hb
     have hcase : (b.toNat : Int) < 48 ∨ 48 ≤ (b.toNat : Int) ∧ 57 < (b.toNat : Int) ∨ 48 ≤ (b.toNat : Int) ∧ (b.toNat : Int) ≤ 57:=by omega
     rcases hcase with h6 | ⟨h6, h7⟩ | ⟨h6, h7⟩
     ·have HR:=Lib.hid (show R = false by rw [HD.out, Sc.digC, decide_eq_false (by omega)]; rfl)
      clear HD
      go_wp2_with fail
      go_ret
      exact ⟨ret_bool HR.out.symm, rfl⟩
     ·have HR:=Lib.hid (show R = false by rw [HD.out, Sc.digC, decide_eq_false (by omega)]; rfl)
      clear HD
      go_wp2_with fail
      go_ret
      exact ⟨ret_bool HR.out.symm, rfl⟩
     ·have HR:=Lib.hid (show R = ((Nm.bs D).drop (k + 1)).all Sc.digC by rw [HD.out, Sc.digC, decide_eq_true (by omega)]; rfl)
      clear HD
      go_wp2_with fail
      refine ⟨⟨k + 1, by omega, by go_num, HR, trivial⟩, by simp [intOf]; omega⟩
    ·have hk2 : k = D.size:=by omega
     have HR:=Lib.hid (show R = true by rw [hE.out, hk2, ← size_eq, List.drop_length]; rfl)
     clear hE
     go_wp2_with fail
     go_ret
     exact ⟨ret_bool HR.out.symm, rfl⟩
  ·have HF : Hid (R = (Nm.bs D).all Sc.digC):=by
    show _ = _
    rw [HR.out, decide_eq_true (p:=D.size ≤ 15) (by omega), decide_eq_false (p:=1 < D.size) (by omega)]; simp
   clear HR
   have h15 : D.size ≤ 15:=by omega
   have H0 : Hid (R = ((Nm.bs D).drop 0).all Sc.digC):=HF.out
   clear HF
   go_wp2_with fail
   go_loopw [4] (fun i wr=>∃ k : Nat, k ≤ D.size ∧ i = .int .i64 k ∧ Hid (R = ((Nm.bs D).drop k).all Sc.digC) ∧ w = wr) (fun i wr=>D.size - (intOf i).toNat)
   case atStart=>exact ⟨0, Nat.zero_le _, rfl, H0, rfl⟩
   case round =>
    obtain ⟨k, hk, rfl, hE, rfl⟩:=hrel
    by_cases hlt : k < D.size
    ·have hD:=hE.out
     rw [drop_at hlt, List.all_cons] at hD
     obtain ⟨b, hb⟩ : ∃ b, b = D[k]:=⟨_, rfl⟩
     have hbr : ∀ h, D[k]'h = b:=fun _=>hb.symm
     rw [← hb] at hD
     have HD:=Lib.hid hD
     have h256:=u8_lt b
     clear hE hD H0 hb
     have hcase : (b.toNat : Int) < 48 ∨ 48 ≤ (b.toNat : Int) ∧ 57 < (b.toNat : Int) ∨ 48 ≤ (b.toNat : Int) ∧ (b.toNat : Int) ≤ 57:=by omega
     rcases hcase with h6 | ⟨h6, h7⟩ | ⟨h6, h7⟩
     ·have HR:=Lib.hid (show R = false by rw [HD.out, Sc.digC, decide_eq_false (by omega)]; rfl)
      clear HD
      go_wp2_with fail
      go_ret
      exact ⟨ret_bool HR.out.symm, rfl⟩
     ·have HR:=Lib.hid (show R = false by rw [HD.out, Sc.digC, decide_eq_false (by omega)]; rfl)
      clear HD
      go_wp2_with fail
      go_ret
      exact ⟨ret_bool HR.out.symm, rfl⟩
     ·have HR:=Lib.hid (show R = ((Nm.bs D).drop (k + 1)).all Sc.digC by rw [HD.out, Sc.digC, decide_eq_true (by omega)]; rfl)
      clear HD
      go_wp2_with fail
      refine ⟨⟨k + 1, by omega, by go_num, HR, trivial⟩, by simp [intOf]; omega⟩
    ·have hk2 : k = D.size:=by omega
     have HR:=Lib.hid (show R = true by rw [hE.out, hk2, ← size_eq, List.drop_length]; rfl)
     clear hE
     go_wp2_with fail
     go_ret
     exact ⟨ret_bool HR.out.symm, rfl⟩
 ·have h46 : ((f.toNat : Int) == 45) = false:=by
   rw [beq_eq_false_iff_ne]
   intro e
   exact h45 (UInt8.toNat_inj.1 (by show f.toNat = 45; omega))
  have hun : Sc.unsign (Nm.bs s) = Nm.bs s:=by
   conv=>lhs; rw [hd2]
   rw [Sc.unsign, if_neg h45, ← hd2]
  have hR2 : R = Sc.int0 (Nm.bs s) (Nm.bs s):=by
   rw [hR]
   unfold Sc.isInt
   rw [hun]
  have HR : Hid (R = (decide (s.size ≤ 15) && (!(decide (1 < s.size) && decide (f.toNat = 48)) && (Nm.bs s).all Sc.digC))):=by
   show _ = _
   rw [hR2]
   exact rint_tail (Nm.bs s) (Nm.bs s) f hd2 (fun _=>Iff.rfl)
  obtain ⟨c, hc⟩ : ∃ c, c = f:=⟨_, rfl⟩
  subst hc
  clear hR hR2 hun hd2 h45
  go_enter Tryz.func97, Tryz.ntmps97
  have hcs:=rint_cases s.size c
  have hpos : 1 ≤ (s.size : Int):=by omega
  rcases hcs with h3 | ⟨h3, h4, h5⟩ | ⟨h3, h4, h5⟩ | h3
  ·have HF:=Lib.hid (show R = false by rw [HR.out, decide_eq_false (by omega)]; rfl)
   clear HR
   go_wp2_with fail
   go_ret
   exact ⟨ret_bool HF.out.symm, rfl⟩
  ·have HF:=Lib.hid (show R = false by rw [HR.out, decide_eq_true (p:=1 < s.size) (by omega), decide_eq_true (p:=c.toNat = 48) (by simp at h5; omega)]; simp)
   clear HR
   go_wp2_with fail
   go_ret
   exact ⟨ret_bool HF.out.symm, rfl⟩
  ·have HF : Hid (R = (Nm.bs s).all Sc.digC):=by
    show _ = _
    rw [HR.out, decide_eq_true (p:=s.size ≤ 15) (by omega), decide_eq_false (p:=c.toNat = 48) (by simp at h5; omega)]; simp
   clear HR
   have h15 : s.size ≤ 15:=by omega
   have H0 : Hid (R = ((Nm.bs s).drop 0).all Sc.digC):=HF.out
   clear HF
   go_wp2_with fail
   go_loopw [4] (fun i wr=>∃ k : Nat, k ≤ s.size ∧ i = .int .i64 k ∧ Hid (R = ((Nm.bs s).drop k).all Sc.digC) ∧ w = wr) (fun i wr=>s.size - (intOf i).toNat)
   case atStart=>exact ⟨0, Nat.zero_le _, rfl, H0, rfl⟩
   case round =>
    obtain ⟨k, hk, rfl, hE, rfl⟩:=hrel
    by_cases hlt : k < s.size
    ·have hD:=hE.out
     rw [drop_at hlt, List.all_cons] at hD
     obtain ⟨b, hb⟩ : ∃ b, b = s[k]:=⟨_, rfl⟩
     have hbr : ∀ h, s[k]'h = b:=fun _=>hb.symm
     rw [← hb] at hD
     have HD:=Lib.hid hD
     have h256:=u8_lt b
     clear hE hD H0 hb
     have hcase : (b.toNat : Int) < 48 ∨ 48 ≤ (b.toNat : Int) ∧ 57 < (b.toNat : Int) ∨ 48 ≤ (b.toNat : Int) ∧ (b.toNat : Int) ≤ 57:=by omega
     rcases hcase with h6 | ⟨h6, h7⟩ | ⟨h6, h7⟩
     ·have HR:=Lib.hid (show R = false by rw [HD.out, Sc.digC, decide_eq_false (by omega)]; rfl)
      clear HD
      go_wp2_with fail
      go_ret
      exact ⟨ret_bool HR.out.symm, rfl⟩
     ·have HR:=Lib.hid (show R = false by rw [HD.out, Sc.digC, decide_eq_false (by omega)]; rfl)
      clear HD
      go_wp2_with fail
      go_ret
      exact ⟨ret_bool HR.out.symm, rfl⟩
     ·have HR:=Lib.hid (show R = ((Nm.bs s).drop (k + 1)).all Sc.digC by rw [HD.out, Sc.digC, decide_eq_true (by omega)]; rfl)
      clear HD
      go_wp2_with fail
      refine ⟨⟨k + 1, by omega, by go_num, HR, trivial⟩, by simp [intOf]; omega⟩
    ·have hk2 : k = s.size:=by omega
     have HR:=Lib.hid (show R = true by rw [hE.out, hk2, ← size_eq, List.drop_length]; rfl)
     clear hE
     go_wp2_with fail
     go_ret
     exact ⟨ret_bool HR.out.symm, rfl⟩
  ·have HF : Hid (R = (Nm.bs s).all Sc.digC):=by
    show _ = _
    rw [HR.out, decide_eq_true (p:=s.size ≤ 15) (by omega), decide_eq_false (p:=1 < s.size) (by omega)]; simp
   clear HR
   have h15 : s.size ≤ 15:=by omega
   have H0 : Hid (R = ((Nm.bs s).drop 0).all Sc.digC):=HF.out
   clear HF
   go_wp2_with fail
   go_loopw [4] (fun i wr=>∃ k : Nat, k ≤ s.size ∧ i = .int .i64 k ∧ Hid (R = ((Nm.bs s).drop k).all Sc.digC) ∧ w = wr) (fun i wr=>s.size - (intOf i).toNat)
   case atStart=>exact ⟨0, Nat.zero_le _, rfl, H0, rfl⟩
   case round =>
    obtain ⟨k, hk, rfl, hE, rfl⟩:=hrel
    by_cases hlt : k < s.size
    ·have hD:=hE.out
     rw [drop_at hlt, List.all_cons] at hD
     obtain ⟨b, hb⟩ : ∃ b, b = s[k]:=⟨_, rfl⟩
     have hbr : ∀ h, s[k]'h = b:=fun _=>hb.symm
     rw [← hb] at hD
     have HD:=Lib.hid hD
     have h256:=u8_lt b
     clear hE hD H0 hb
     have hcase : (b.toNat : Int) < 48 ∨ 48 ≤ (b.toNat : Int) ∧ 57 < (b.toNat : Int) ∨ 48 ≤ (b.toNat : Int) ∧ (b.toNat : Int) ≤ 57:=by omega
     rcases hcase with h6 | ⟨h6, h7⟩ | ⟨h6, h7⟩
     ·have HR:=Lib.hid (show R = false by rw [HD.out, Sc.digC, decide_eq_false (by omega)]; rfl)
      clear HD
      go_wp2_with fail
      go_ret
      exact ⟨ret_bool HR.out.symm, rfl⟩
     ·have HR:=Lib.hid (show R = false by rw [HD.out, Sc.digC, decide_eq_false (by omega)]; rfl)
      clear HD
      go_wp2_with fail
      go_ret
      exact ⟨ret_bool HR.out.symm, rfl⟩
     ·have HR:=Lib.hid (show R = ((Nm.bs s).drop (k + 1)).all Sc.digC by rw [HD.out, Sc.digC, decide_eq_true (by omega)]; rfl)
      clear HD
      go_wp2_with fail
      refine ⟨⟨k + 1, by omega, by go_num, HR, trivial⟩, by simp [intOf]; omega⟩
    ·have hk2 : k = s.size:=by omega
     have HR:=Lib.hid (show R = true by rw [hE.out, hk2, ← size_eq, List.drop_length]; rfl)
     clear hE
     go_wp2_with fail
     go_ret
     exact ⟨ret_bool HR.out.symm, rfl⟩
end Go.Proofs.YtbdpkfgllnbheaaGreatDoor
