/- What within and IsInt answer, the reference's IsInt beside the program's. -/
import Derived.Test.YtkdlkdbjgajenaaDoorNHas
import Derived.Test.YtkdlkdbjgajenaaDoorNType
import Derived.Test.YtkdlkdbjgajenaaDoorNStr
import Derived.Test.YtkdlkdbjgajenaaDoorScSpec
import Derived.Deep.LoopGhost
namespace Go.Proofs.YtkdlkdbjgajenaaDoor
open Go.RowKit
set_option linter.unusedVariables false
set_option maxRecDepth 100000

theorem bs_inj {a b : ByteArray} : a = b ↔ Nm.bs a = Nm.bs b := by
  constructor
  · intro h; rw [h]
  · intro h
    refine ByteArray.ext ?_
    exact Array.toList_inj.1 h
theorem eq_zero_s (s : ByteArray) : decide (s = (⟨#[48]⟩ : ByteArray)) = decide (Nm.bs s = [48]) := by
  rw [Bool.eq_iff_iff, decide_eq_true_eq, decide_eq_true_eq, bs_inj]
set_option maxHeartbeats 400000 in
theorem within_any (s : ByteArray) (lo hi : Nat) (w : World) (h1 : lo < 256) (h2 : hi < 256) (hs : s.size ≤ 1000000000) :
    Calls Tryd.prog 20 #[.string s, .int .u8 lo, .int .u8 hi] w fun e w' => e = .returned (.bool ((Nm.bs s).all fun c => decide (lo ≤ c.toNat ∧ c.toNat ≤ hi))) ∧ w = w' := by
  obtain ⟨F, hF⟩ : ∃ F, F = (fun c : UInt8 => decide (lo ≤ c.toNat ∧ c.toNat ≤ hi)) := ⟨_, rfl⟩
  rw [← hF]
  have HF : Hid (∀ c, F c = decide (lo ≤ c.toNat ∧ c.toNat ≤ hi)) := fun c => by rw [hF]
  clear hF
  obtain ⟨R, hR⟩ : ∃ R, R = (Nm.bs s).all F := ⟨_, rfl⟩
  rw [← hR]
  have H0 : Hid (R = ((Nm.bs s).drop 0).all F) := hR
  clear hR
  go_enter Tryd.func20, Tryd.ntmps20
  go_wp2_with fail
  go_loopw [10] (fun i wr => ∃ k : Nat, k ≤ s.size ∧ i = .int .i64 k ∧ Hid (R = ((Nm.bs s).drop k).all F) ∧ w = wr) (fun i wr => s.size - (intOf i).toNat)
  case atStart => exact ⟨0, Nat.zero_le _, rfl, H0, rfl⟩
  case round =>
    obtain ⟨k, hk, rfl, hE, rfl⟩ := hrel
    by_cases hlt : k < s.size
    · have hD := hE.out
      rw [drop_at hlt, List.all_cons] at hD
      obtain ⟨c, hc⟩ : ∃ c, c = s[k] := ⟨_, rfl⟩
      have hcr : ∀ h, s[k]'h = c := fun _ => hc.symm
      rw [← hc] at hD
      have HD := Lib.hid hD
      have h256 := u8_lt c
      clear hE hD H0 hc
      have hcase : (c.toNat : Int) < lo ∨ (lo : Int) ≤ c.toNat ∧ (hi : Int) < c.toNat ∨ (lo : Int) ≤ c.toNat ∧ (c.toNat : Int) ≤ hi := by omega
      rcases hcase with h3 | ⟨h3, h4⟩ | ⟨h3, h4⟩
      · have HR := Lib.hid (show R = false by rw [HD.out, HF.out, decide_eq_false (by omega)]; rfl)
        clear HD HF
        go_wp2_with fail
        go_ret
        exact ⟨ret_bool HR.out.symm, rfl⟩
      · have HR := Lib.hid (show R = false by rw [HD.out, HF.out, decide_eq_false (by omega)]; rfl)
        clear HD HF
        go_wp2_with fail
        go_ret
        exact ⟨ret_bool HR.out.symm, rfl⟩
      · have HR := Lib.hid (show R = ((Nm.bs s).drop (k + 1)).all F by rw [HD.out, HF.out, decide_eq_true (by omega)]; rfl)
        clear HD
        go_wp2_with fail
        refine ⟨⟨k + 1, by omega, by go_num, HR, trivial⟩, by simp [intOf]; omega⟩
    · have hk2 : k = s.size := by omega
      have HR := Lib.hid (show R = true by rw [hE.out, hk2, ← size_eq, List.drop_length]; rfl)
      clear hE
      go_wp2_with fail
      go_ret
      exact ⟨ret_bool HR.out.symm, rfl⟩
theorem within_dig (s : ByteArray) (w : World) (hs : s.size ≤ 1000000000) :
    Calls Tryd.prog 20 #[.string s, .int .u8 48, .int .u8 57] w fun e w' => e = .returned (.bool ((Nm.bs s).all Sc.digC)) ∧ w = w' := by
  refine (within_any s 48 57 w (by decide) (by decide) hs).mono fun e w' h => ?_
  exact h
theorem within_pr (s : ByteArray) (w : World) (hs : s.size ≤ 1000000000) :
    Calls Tryd.prog 20 #[.string s, .int .u8 32, .int .u8 126] w fun e w' => e = .returned (.bool ((Nm.bs s).all Sc.prC)) ∧ w = w' := by
  refine (within_any s 32 126 w (by decide) (by decide) hs).mono fun e w' h => ?_
  exact h
theorem trim_any (s : ByteArray) (w : World) :
    Calls Tryd.prog 19 #[.string s, .string ⟨#[45]⟩] w fun e w' => e = .returned (.string (Nm.mk (Sc.unsign (Nm.bs s)))) ∧ w = w' :=
  (Tryd.strings_TrimPrefix s ⟨#[45]⟩ w).mono fun e w' h => by
    obtain ⟨h1, h2⟩ := h
    rw [show (⟨#[45]⟩ : ByteArray).data.toList = [45] from rfl, show s.data.toList = Nm.bs s from rfl, Sc.trim_sign] at h1
    exact ⟨h1, h2.symm⟩
set_option maxHeartbeats 400000 in
theorem isInt_any (s : ByteArray) (w : World) :
    Calls Tryd.prog 11 #[.string s] w fun e w' => e = .returned (.bool (Sc.isInt (Nm.bs s))) ∧ w = w' := by
  have CT := Lib.hid (trim_any s)
  have CW := Lib.hid within_dig
  obtain ⟨R, hR⟩ : ∃ R, R = Sc.isInt (Nm.bs s) := ⟨_, rfl⟩
  rw [← hR]
  obtain ⟨D, hD⟩ : ∃ D, D = Nm.mk (Sc.unsign (Nm.bs s)) := ⟨_, rfl⟩
  rw [← hD] at CT
  have hD2 : Nm.bs D = Sc.unsign (Nm.bs s) := by rw [hD]
  have hR2 : R = Sc.int0 (Nm.bs s) (Nm.bs D) := by rw [hR, hD2]; rfl
  have hz := eq_zero_s s
  have HR := Lib.hid hR2
  have HZ := Lib.hid hz
  clear hR hD hD2 hR2 hz
  go_enter Tryd.func11, Tryd.ntmps11
  go_wp2_with fail
  refine (CT.out _).mono ?_
  rintro r w1 ⟨rfl, rfl⟩
  by_cases h0 : D.size = 0
  · have h1 := nil_of D h0
    have HF := Lib.hid (show R = false by rw [HR.out, show Nm.bs D = [] from nilD_of D h0]; rfl)
    clear h0 HR
    go_wp2_with fail
    go_ret
    exact ⟨ret_bool HF.out.symm, rfl⟩
  have h1 := isE_of D (by omega)
  have hd := drop_at (s := D) (k := 0) (by omega)
  rw [List.drop_zero] at hd
  have hl : (D.data.toList.drop 1).length = D.size - 1 := by rw [List.length_drop, size_eq]
  obtain ⟨c, hc⟩ : ∃ c, c = D[0] := ⟨_, rfl⟩
  have hcr : ∀ h, D[0]'h = c := fun _ => hc.symm
  rw [← hc] at hd
  have HR2 := Lib.hid (show R = (decide ((D.data.toList.drop 1).length < 15) && if c.toNat = 48 then decide (Nm.bs s = [48]) else (Nm.bs D).all Sc.digC) by
    rw [HR.out, show Nm.bs D = c :: D.data.toList.drop 1 from hd]; rfl)
  clear hc HR hd
  by_cases h2 : 15 < (D.size : Int)
  · have HF := Lib.hid (show R = false by rw [HR2.out, hl, decide_eq_false (by omega)]; rfl)
    clear hl HR2
    go_wp2_with fail
    go_ret
    exact ⟨ret_bool HF.out.symm, rfl⟩
  have h2' : (D.size : Int) ≤ 15 := by omega
  have HR3 := Lib.hid (show R = if c.toNat = 48 then decide (Nm.bs s = [48]) else (Nm.bs D).all Sc.digC by
    rw [HR2.out, hl, decide_eq_true (by omega)]; rfl)
  have h3 : 0 < (D.size : Int) := by omega
  clear h2 hl HR2
  by_cases h4 : (c.toNat : Int) = 48
  · have h5 : ((c.toNat : Int) == 48) = true := by simpa using h4
    have HF := Lib.hid (show R = decide (Nm.bs s = [48]) by rw [HR3.out, if_pos (by omega)])
    clear HR3 h4
    go_wp2_with fail
    go_ret
    exact ⟨ret_bool (by rw [HF.out, ← HZ.out, ← toList_inj', ByteArray.toList_eq ⟨#[48]⟩]), rfl⟩
  · have h5 : ((c.toNat : Int) == 48) = false := by simpa using h4
    have HF := Lib.hid (show R = (Nm.bs D).all Sc.digC by rw [HR3.out, if_neg (by omega)])
    have CD := fun w => CW.out D w (by omega)
    obtain ⟨Q, hQ⟩ : ∃ Q, Q = (Nm.bs D).all Sc.digC := ⟨_, rfl⟩
    rw [← hQ] at CD
    have HF := Lib.hid (show R = Q by rw [HF.out, hQ])
    have HD := Lib.hid CD
    clear HR3 h4 hQ CD CW
    go_wp2_with fail
    refine (HD.out _).mono ?_
    rintro r w1 ⟨rfl, rfl⟩
    go_wp2_with fail
    go_ret
    exact ⟨ret_bool HF.out.symm, rfl⟩
end Go.Proofs.YtkdlkdbjgajenaaDoor
