/- What fits and Check answer. -/
import Derived.Test.YtkdlkdbjgajenaaDoorScFind
import Derived.Test.YtkdlkdbjgajenaaDoorNParseD
namespace Go.Proofs.YtkdlkdbjgajenaaDoor
open Go.RowKit
set_option linter.unusedVariables false
set_option maxRecDepth 100000

/-- What is asked of a parse here: whether there is an error. -/
theorem parseD_err (s : ByteArray) (w : World) (hs : s.size ≤ 1000000000) (B : Bool) (h : (Nm.dnm (Nm.bs s)).isSome = B) :
    Calls Tryd.prog 23 #[.string s] w fun r w' => ∃ A l c, r = .returned (.tuple #[.slice A l c, .int .i64 (if B then 0 else 15)]) ∧ Below w.heap.size w w' := by
  refine (parseD_any s w hs).mono fun e w' hp => ?_
  cases hd : Nm.dnm (Nm.bs s) with
  | none =>
    rw [hd] at h hp
    obtain ⟨rfl, hb⟩ := hp
    subst h
    exact ⟨none, 0, 0, rfl, hb⟩
  | some d =>
    rw [hd] at h hp
    obtain ⟨A, c, rfl, _, _, hb⟩ := hp
    subst h
    exact ⟨A, _, c, rfl, hb⟩
theorem trimb_any (s : ByteArray) (w : World) (hs : s.size ≤ 1000000000) :
    Calls Tryd.prog 22 #[.string s, .string ⟨#[32]⟩] w fun e w' => e = .returned (.string (Nm.mk (Lib.trimB (Nm.bs s) 32))) ∧ Below w.heap.size w w' :=
  (Tryd.strings_Trim_one s 32 (by decide) w (by omega)).mono fun e w' h => by
    obtain ⟨h1, h2⟩ := h
    refine ⟨h1, ?_⟩
    rcases h2 with rfl | rfl
    · exact Below.refl _ _
    · exact (Below.refl _ _).drew
set_option maxHeartbeats 2000000 in
theorem fits_any (sy : Nat) (v : ByteArray) (w : World) (hv : v.size ≤ 1000000000) :
    Calls Tryd.prog 17 #[.int .i64 sy, .string v] w fun e w' => e = .returned (.bool (Sc.fits sy (Nm.bs v))) ∧ Below w.heap.size w w' := by
  have CT := Lib.hid (fun w => trimb_any v w hv)
  have CW := fun w => within_pr v w hv
  have CI := fun w => isInt_any v w
  have CP := Lib.hid (fun w => parseD_err v w hv)
  obtain ⟨R, hR⟩ : ∃ R, R = Sc.fits sy (Nm.bs v) := ⟨_, rfl⟩
  rw [← hR]
  obtain ⟨Q, hQ⟩ : ∃ Q, Q = (Nm.bs v).all Sc.prC := ⟨_, rfl⟩
  obtain ⟨I, hI⟩ : ∃ I, I = Sc.isInt (Nm.bs v) := ⟨_, rfl⟩
  obtain ⟨T, hT⟩ : ∃ T, T = Nm.mk (Lib.trimB (Nm.bs v) 32) := ⟨_, rfl⟩
  rw [← hT] at CT
  rw [← hQ] at CW
  rw [← hI] at CI
  have CW := Lib.hid CW
  have CI := Lib.hid CI
  have hE : T.toList.isEmpty = !(Nm.bs v).any (fun c => decide (c.toNat ≠ 32)) := by
    rw [ByteArray.toList_eq, hT]
    exact Sc.trim_nil (Nm.bs v)
  by_cases h1 : sy = 1
  · subst h1
    have hR1 : R = ((Nm.bs v).any (fun c => decide (c.toNat ≠ 32)) && Q) := by rw [hR, hQ]; rfl
    cases hA : (Nm.bs v).any (fun c => decide (c.toNat ≠ 32))
    · rw [hA] at hE hR1
      have HF := Lib.hid (show R = false from hR1)
      simp only [Bool.not_false] at hE
      clear hR hQ hI hT hR1 hA
      go_enter Tryd.func17, Tryd.ntmps17
      go_wp2_with fail
      refine (CT.out _).mono ?_
      rintro r w1 ⟨rfl, hb1⟩
      go_wp2_with fail
      go_ret
      exact ⟨ret_bool HF.out.symm, hb1⟩
    · rw [hA] at hE hR1
      have HF := Lib.hid (show R = Q by rw [hR1]; rfl)
      simp only [Bool.not_true] at hE
      clear hR hQ hI hT hR1 hA
      go_enter Tryd.func17, Tryd.ntmps17
      go_wp2_with fail
      refine (CT.out _).mono ?_
      rintro r w1 ⟨rfl, hb1⟩
      go_wp2_with fail
      refine (CW.out _).mono ?_
      rintro r w2 ⟨rfl, rfl⟩
      go_wp2_with fail
      go_ret
      exact ⟨ret_bool HF.out.symm, hb1⟩
  by_cases h2 : sy = 2
  · subst h2
    have HF := Lib.hid (show R = Q by rw [hR, hQ]; rfl)
    clear hR hQ hI hT hE h1
    go_enter Tryd.func17, Tryd.ntmps17
    go_wp2_with fail
    refine (CW.out _).mono ?_
    rintro r w2 ⟨rfl, rfl⟩
    go_wp2_with fail
    go_ret
    exact ⟨ret_bool HF.out.symm, Below.refl _ _⟩
  by_cases h3 : sy = 3
  · subst h3
    have HF := Lib.hid (show R = I by rw [hR, hI]; rfl)
    clear hR hQ hI hT hE h1 h2
    go_enter Tryd.func17, Tryd.ntmps17
    go_wp2_with fail
    refine (CI.out _).mono ?_
    rintro r w2 ⟨rfl, rfl⟩
    go_wp2_with fail
    go_ret
    exact ⟨ret_bool HF.out.symm, Below.refl _ _⟩
  by_cases h5 : sy = 5
  · subst h5
    obtain ⟨B, hB⟩ : ∃ B, (Nm.dnm (Nm.bs v)).isSome = B := ⟨_, rfl⟩
    have HF := Lib.hid (show R = B by rw [hR, ← hB]; rfl)
    have CB := Lib.hid (fun w => CP.out w B hB)
    clear hR hQ hI hT hE h1 h2 h3 hB
    cases B
    · have HF := Lib.hid (show R = false from HF.out)
      have CB2 : Hid (∀ w, Calls Tryd.prog 23 #[.string v] w fun r w' => ∃ A l c, r = .returned (.tuple #[.slice A l c, .int .i64 15]) ∧ Below w.heap.size w w') := CB.out
      clear CB
      go_enter Tryd.func17, Tryd.ntmps17
      go_wp2_with fail
      refine (CB2.out _).mono ?_
      rintro r w2 ⟨A, l, c, rfl, hb2⟩
      go_wp2_with fail
      go_ret
      exact ⟨ret_bool HF.out.symm, hb2⟩
    · have HF := Lib.hid (show R = true from HF.out)
      have CB2 : Hid (∀ w, Calls Tryd.prog 23 #[.string v] w fun r w' => ∃ A l c, r = .returned (.tuple #[.slice A l c, .int .i64 0]) ∧ Below w.heap.size w w') := CB.out
      clear CB
      go_enter Tryd.func17, Tryd.ntmps17
      go_wp2_with fail
      refine (CB2.out _).mono ?_
      rintro r w2 ⟨A, l, c, rfl, hb2⟩
      go_wp2_with fail
      go_ret
      exact ⟨ret_bool HF.out.symm, hb2⟩
  · have HF := Lib.hid (show R = true by rw [hR, Sc.fits, if_neg h1, if_neg h2, if_neg h3, if_neg h5])
    have e1 : ((sy : Int) == 1) = false := by rw [beq_eq_false_iff_ne]; omega
    have e2 : ((sy : Int) == 2) = false := by rw [beq_eq_false_iff_ne]; omega
    have e3 : ((sy : Int) == 3) = false := by rw [beq_eq_false_iff_ne]; omega
    have e5 : ((sy : Int) == 5) = false := by rw [beq_eq_false_iff_ne]; omega
    clear hR hQ hI hT hE h1 h2 h3 h5
    go_enter Tryd.func17, Tryd.ntmps17
    go_wp2_with fail
    go_ret
    exact ⟨ret_bool HF.out.symm, Below.refl _ _⟩
theorem tab_nat : ∀ (x : ByteArray) (l : List Sc.Ty) (t : Sc.Ty), Sc.look x l = some t → t ∈ l
  | x, [], t, h => by cases h
  | x, u :: r, t, h => by
    rw [Sc.look] at h
    split at h
    · injection h with h; rw [h]; exact List.mem_cons_self ..
    · exact List.mem_cons_of_mem _ (tab_nat x r t h)
theorem check_some {n v : List UInt8} {t : Sc.Ty} (h : Sc.find n = some t) : Sc.check n v = if v = [] ∨ 60 < v.length ∨ Sc.fits t.2.1 v = false then 17 else 0 := by
  unfold Sc.check
  rw [h]
theorem check_none {n v : List UInt8} (h : Sc.find n = none) : Sc.check n v = 16 := by
  unfold Sc.check
  rw [h]
set_option maxHeartbeats 2000000 in
theorem check_any (n v : ByteArray) (w : World) (hn : n.size ≤ 1099511627776) :
    Calls Tryd.prog 9 #[.string n, .string v] w fun e w' => e = .returned (.int .i64 (Sc.check (Nm.bs n) (Nm.bs v) : Nat)) ∧ Below w.heap.size w w' := by
  have CF := Lib.hid (fun w => find_any n w hn)
  obtain ⟨R, hR⟩ : ∃ R, R = Sc.check (Nm.bs n) (Nm.bs v) := ⟨_, rfl⟩
  rw [← hR]
  cases hf : Sc.find (Nm.bs n) with
  | none =>
    rw [hf] at CF
    have HF := Lib.hid (show (R : Int) = 16 by rw [hR, check_none hf]; rfl)
    have C2 : Hid (∀ w, Calls Tryd.prog 7 #[.string n] w fun e w' => e = .returned (.tuple #[.agg #[.string ⟨#[]⟩, .int .i64 0, .bool false], .bool false]) ∧ Below w.heap.size w w') := CF.out
    clear hR hf CF
    go_enter Tryd.func9, Tryd.ntmps9
    go_wp2_with fail
    refine (C2.out _).mono ?_
    rintro r w1 ⟨rfl, hb1⟩
    go_wp2_with fail
    go_ret
    exact ⟨ret_int HF.out.symm, hb1.alloc hb1.size _⟩
  | some t =>
    rw [hf] at CF
    obtain ⟨x, sy, sg⟩ := t
    have hR2 : R = if Nm.bs v = [] ∨ 60 < (Nm.bs v).length ∨ Sc.fits sy (Nm.bs v) = false then 17 else 0 := by rw [hR, check_some hf]
    have C2 : Hid (∀ w, Calls Tryd.prog 7 #[.string n] w fun e w' => e = .returned (.tuple #[.agg #[.string x, .int .i64 sy, .bool sg], .bool true]) ∧ Below w.heap.size w w') := CF.out
    clear hR hf CF
    rw [size_eq] at hR2
    by_cases h0 : v.size = 0
    · have h1 := nil_of v h0
      have HF := Lib.hid (show (R : Int) = 17 by rw [hR2, if_pos (Or.inl (nilD_of v h0))]; rfl)
      clear hR2 h0
      go_enter Tryd.func9, Tryd.ntmps9
      go_wp2_with fail
      refine (C2.out _).mono ?_
      rintro r w1 ⟨rfl, hb1⟩
      go_wp2_with fail
      go_ret
      exact ⟨ret_int HF.out.symm, hb1.alloc hb1.size _⟩
    have h1 := isE_of v (by omega)
    by_cases h60 : 60 < (v.size : Int)
    · have HF := Lib.hid (show (R : Int) = 17 by rw [hR2, if_pos (Or.inr (Or.inl (by omega)))]; rfl)
      clear hR2 h0
      go_enter Tryd.func9, Tryd.ntmps9
      go_wp2_with fail
      refine (C2.out _).mono ?_
      rintro r w1 ⟨rfl, hb1⟩
      go_wp2_with fail
      go_ret
      exact ⟨ret_int HF.out.symm, hb1.alloc hb1.size _⟩
    have h60' : (v.size : Int) ≤ 60 := by omega
    have hne : Nm.bs v ≠ [] := by
      intro e
      have := size_eq v
      rw [show v.data.toList = [] from e] at this
      simp at this
      omega
    have CV := fun w => fits_any sy v w (by omega)
    cases hq : Sc.fits sy (Nm.bs v)
    · rw [hq] at CV hR2
      have CV := Lib.hid CV
      have HF := Lib.hid (show (R : Int) = 17 by rw [hR2, if_pos (Or.inr (Or.inr rfl))]; rfl)
      clear hR2 h0 hne h60 hq
      go_enter Tryd.func9, Tryd.ntmps9
      go_wp2_with fail
      refine (C2.out _).mono ?_
      rintro r w1 ⟨rfl, hb1⟩
      have hs1 := hb1.size
      go_wp2_with fail
      refine (CV.out _).mono ?_
      rintro r w2 ⟨rfl, hb2⟩
      go_wp2_with fail
      go_ret
      exact ⟨ret_int HF.out.symm, (hb1.alloc hs1 _).trans (hb2.mono (by simp; omega))⟩
    · rw [hq] at CV hR2
      have CV := Lib.hid CV
      have HF := Lib.hid (show (R : Int) = 0 by rw [hR2, if_neg (by rintro (h | h | h); exact hne h; omega; cases h)]; rfl)
      clear hR2 h0 hne h60 hq
      go_enter Tryd.func9, Tryd.ntmps9
      go_wp2_with fail
      refine (C2.out _).mono ?_
      rintro r w1 ⟨rfl, hb1⟩
      have hs1 := hb1.size
      go_wp2_with fail
      refine (CV.out _).mono ?_
      rintro r w2 ⟨rfl, hb2⟩
      go_wp2_with fail
      go_ret
      exact ⟨ret_int HF.out.symm, (hb1.alloc hs1 _).trans (hb2.mono (by simp; omega))⟩
end Go.Proofs.YtkdlkdbjgajenaaDoor
