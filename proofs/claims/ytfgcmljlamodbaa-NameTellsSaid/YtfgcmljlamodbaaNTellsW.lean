/- NameTells: the walk. -/
import Derived.Test.YtfgcmljlamodbaaNKnown
import Derived.Test.YtfgcmljlamodbaaNFew
import Derived.Test.YtfgcmljlamodbaaNRIs
import Derived.Test.YtfgcmljlamodbaaNRPr
import Derived.Test.YtfgcmljlamodbaaNRParseD
namespace Go.Proofs.Ytfgcmljlamodbaa
open Go.RowKit
set_option linter.unusedVariables false
set_option maxRecDepth 100000

/-- What is read, and how: the two ways' answers in one form. -/
def errI (B : Bool) : Int := if B then 0 else 15
def dnL (s : ByteArray) : List (List Nm.Ava) := (Nm.dnm (Nm.bs s)).getD []
def rdnL (s : ByteArray) : List Nm.Ava := (Nm.rdn (Nm.bs s)).getD []
theorem dnL_is (s : ByteArray) : (dnL s).length ≤ maxLen ∧ ∀ r ∈ dnL s, r.length ≤ maxLen := by
  unfold dnL Nm.dnm
  unfold maxLen
  by_cases h0 : Nm.bs s = []
  · rw [if_pos h0]
    exact ⟨Nat.zero_le _, fun r hr => by simp at hr⟩
  rw [if_neg h0]
  cases h1 : Nm.rdns (Nm.cuts 44 (Nm.bs s)) with
  | none => exact ⟨Nat.zero_le _, fun r hr => by simp at hr⟩
  | some d =>
    show ((Nm.ifDn d).getD []).length ≤ _ ∧ ∀ r ∈ (Nm.ifDn d).getD [], _
    unfold Nm.ifDn
    cases h2 : Nm.isDn d with
    | false =>
      rw [if_neg (by decide)]
      exact ⟨Nat.zero_le _, fun r hr => by simp at hr⟩
    | true =>
      rw [if_pos rfl]
      obtain ⟨h8, ho⟩ := Nm.isDn_all h2
      refine ⟨?_, fun r hr => ?_⟩
      · show d.length ≤ _
        omega
      · have := Nm.isRdn_all (ho r hr)
        omega
theorem rdnL_is (s : ByteArray) : (rdnL s).length ≤ maxLen := by
  unfold rdnL maxLen
  cases h2 : Nm.rdn (Nm.bs s) with
  | none => exact Nat.zero_le _
  | some r =>
    have := Nm.isRdn_all (Nm.rdn_is h2)
    show r.length ≤ _
    omega
theorem tparseD (s : ByteArray) (w : World) (hs : s.size ≤ 1000000000) :
    Calls Try.prog 15 #[.string s] w fun r w' => ∃ A c, r = .returned (.tuple #[.slice A (dnL s).length c, .int .i64 (errI (Nm.dnm (Nm.bs s)).isSome)]) ∧ DAt w' (· < w'.heap.size) A (dnL s) ∧ Below w.heap.size w w' := by
  refine (parseD_any s w hs).mono fun e w' hp => ?_
  unfold dnL
  cases hd : Nm.dnm (Nm.bs s) with
  | none =>
    rw [hd] at hp
    obtain ⟨rfl, hb⟩ := hp
    exact ⟨none, 0, rfl, DAt.nil _ _ _, hb⟩
  | some d =>
    rw [hd] at hp
    obtain ⟨A, c, rfl, _, h, hb⟩ := hp
    exact ⟨A, c, rfl, h.imp (fun b h => h.2) (fun _ _ => rfl), hb⟩
theorem trparseD (s : ByteArray) (w : World) (hs : s.size ≤ 1000000000) :
    Calls Try.prog 16 #[.string s] w fun r w' => ∃ A c, r = .returned (.tuple #[.slice A (dnL s).length c, .bool (Nm.dnm (Nm.bs s)).isSome]) ∧ DAt w' (· < w'.heap.size) A (dnL s) ∧ Below w.heap.size w w' := by
  refine (rparseD_any s w hs).mono fun e w' hp => ?_
  unfold dnL
  cases hd : Nm.dnm (Nm.bs s) with
  | none =>
    rw [hd] at hp
    obtain ⟨rfl, hb⟩ := hp
    exact ⟨none, 0, rfl, DAt.nil _ _ _, hb⟩
  | some d =>
    rw [hd] at hp
    obtain ⟨A, c, rfl, _, h, hb⟩ := hp
    exact ⟨A, c, rfl, h.imp (fun b h => h.2) (fun _ _ => rfl), hb⟩
theorem tparseR (s : ByteArray) (w : World) (hs : s.size ≤ 1000000000) :
    Calls Try.prog 17 #[.string s] w fun r w' => ∃ A c, r = .returned (.tuple #[.slice A (rdnL s).length c, .int .i64 (errI (Nm.rdn (Nm.bs s)).isSome)]) ∧ RAt w' (· < w'.heap.size) A (rdnL s) ∧ Below w.heap.size w w' := by
  refine (parseR_any s w hs).mono fun e w' hp => ?_
  unfold rdnL
  cases hd : Nm.rdn (Nm.bs s) with
  | none =>
    rw [hd] at hp
    obtain ⟨rfl, hb⟩ := hp
    exact ⟨none, 0, rfl, RAt.nil _ _ _, hb⟩
  | some d =>
    rw [hd] at hp
    obtain ⟨A, c, rfl, _, h, hb⟩ := hp
    exact ⟨A, c, rfl, h.imp (fun b h => h.2) (fun _ _ => rfl), hb⟩
theorem trparseR (s : ByteArray) (w : World) (hs : s.size ≤ 1000000000) :
    Calls Try.prog 18 #[.string s] w fun r w' => ∃ A c, r = .returned (.tuple #[.slice A (rdnL s).length c, .bool (Nm.rdn (Nm.bs s)).isSome]) ∧ RAt w' (· < w'.heap.size) A (rdnL s) ∧ Below w.heap.size w w' := by
  refine (rparseR_any s w hs).mono fun e w' hp => ?_
  unfold rdnL
  cases hd : Nm.rdn (Nm.bs s) with
  | none =>
    rw [hd] at hp
    obtain ⟨rfl, hb⟩ := hp
    exact ⟨none, 0, rfl, RAt.nil _ _ _, hb⟩
  | some d =>
    rw [hd] at hp
    obtain ⟨A, c, rfl, _, h, hb⟩ := hp
    exact ⟨A, c, rfl, h.imp (fun b h => h.2) (fun _ _ => rfl), hb⟩
set_option maxHeartbeats 16000000 in
theorem tells_go (d : List (List Nm.Ava)) (r : List Nm.Ava) (s : ByteArray) (A B : Option Addr) (c c' : Nat) (w : World) (hd : DAt w (· < w.heap.size) A d) (hr : RAt w (· < w.heap.size) B r) (hdl : d.length ≤ maxLen) (hrl : r.length ≤ maxLen) (hdk : ∀ r ∈ d, r.length ≤ maxLen) (hrc : r.length ≤ c') :
    Calls Try.prog 3 #[.slice A d.length c, .slice B r.length c', .string s] w fun r w' => r = .returned (.bool true) ∧ Below w.heap.size w w' := by
  have HDK := Lib.hid hdk
  have HDL := Lib.hid hdl
  have HRL := Lib.hid hrl
  have HRC := Lib.hid hrc
  have HD := Lib.hid hd
  have HR := Lib.hid hr
  clear hd hr hdk hdl hrl hrc
  go_enter Try.func3, Try.ntmps3
  go_wp2_with fail
  refine (nknown_any _).mono ?_
  rintro q w1 ⟨rfl, hb⟩
  have HD1 := Lib.hid (HD.out.past hb)
  have HR1 := Lib.hid (HR.out.past hb)
  have HB1 := Lib.hid hb
  clear hb HD HR
  go_wp2_with fail
  refine (few_any d A c w1 HD1.out HDL.out HDK.out).mono ?_
  rintro q w2 ⟨rfl, hb⟩
  have HD2 := Lib.hid (HD1.out.past hb)
  have HR2 := Lib.hid (HR1.out.past hb)
  have HB2 := Lib.hid (HB1.out.trans (hb.mono HB1.out.size))
  clear hb HD1 HR1 HB1
  cases hf1 : fewD d
  · go_wp2_with fail
    go_ret
    exact ⟨rfl, HB2.out⟩
  clear hf1
  go_wp2_with fail
  refine (fewR_any r B c' w2 HR2.out HRL.out).mono ?_
  rintro q w3 ⟨rfl, hb⟩
  have HD3 := Lib.hid (HD2.out.past hb)
  have HR3 := Lib.hid (HR2.out.past hb)
  have HB3 := Lib.hid (HB2.out.trans (hb.mono HB2.out.size))
  clear hb HD2 HR2 HB2
  cases hf1 : fewR r
  · go_wp2_with fail
    go_ret
    exact ⟨rfl, HB3.out⟩
  clear hf1
  by_cases hs : 400 < (s.size : Int)
  · go_wp2_with fail
    go_ret
    exact ⟨rfl, HB3.out⟩
  have hs' : (s.size : Int) ≤ 400 := by omega
  have HSZ := Lib.hid (show s.size ≤ 1000000000 by omega)
  have HL := Lib.hid (dnL_is s)
  have HM := Lib.hid (rdnL_is s)
  have C1 := Lib.hid (fun w => tparseD s w HSZ.out)
  have C2 := Lib.hid (fun w => trparseD s w HSZ.out)
  have C3 := Lib.hid (fun w => tparseR s w HSZ.out)
  have C4 := Lib.hid (fun w => trparseR s w HSZ.out)
  have HE : Hid ((errI (Nm.dnm (Nm.bs s)).isSome = 0 ∧ (Nm.dnm (Nm.bs s)).isSome = true ∨ errI (Nm.dnm (Nm.bs s)).isSome = 15 ∧ (Nm.dnm (Nm.bs s)).isSome = false)) := by
    show _ ∨ _
    cases (Nm.dnm (Nm.bs s)).isSome
    · exact Or.inr ⟨rfl, rfl⟩
    · exact Or.inl ⟨rfl, rfl⟩
  have HF : Hid ((errI (Nm.rdn (Nm.bs s)).isSome = 0 ∧ (Nm.rdn (Nm.bs s)).isSome = true ∨ errI (Nm.rdn (Nm.bs s)).isSome = 15 ∧ (Nm.rdn (Nm.bs s)).isSome = false)) := by
    show _ ∨ _
    cases (Nm.rdn (Nm.bs s)).isSome
    · exact Or.inr ⟨rfl, rfl⟩
    · exact Or.inl ⟨rfl, rfl⟩
  generalize (errI (Nm.dnm (Nm.bs s)).isSome) = E1 at C1 HE
  generalize (errI (Nm.rdn (Nm.bs s)).isSome) = E3 at C3 HF
  generalize (Nm.dnm (Nm.bs s)).isSome = k1 at C2 HE
  generalize (Nm.rdn (Nm.bs s)).isSome = k3 at C4 HF
  generalize dnL s = x1 at C1 C2 HL
  generalize rdnL s = x3 at C3 C4 HM
  clear hs
  go_wp2_with fail
  clear hs'
  refine (rIsDn_any d A c w3 HD3.out HDL.out HDK.out).mono ?_
  rintro q w4 ⟨rfl, hb⟩
  have HD4 := Lib.hid (HD3.out.past hb)
  have HR4 := Lib.hid (HR3.out.past hb)
  have HB4 := Lib.hid (HB3.out.trans (hb.mono HB3.out.size))
  clear hb HD3 HR3 HB3
  cases hbd : Nm.isDn d
  focus
    have HW : Hid (Nm.mk (prDnV d) = ⟨#[]⟩) := by
      show _ = _
      unfold prDnV
      rw [if_neg (by rw [hbd]; decide)]
    clear hbd
    obtain ⟨wa, rfl⟩ : ∃ wa, wa = w4 := ⟨_, rfl⟩
    have HDa := HD4
    have HRa := HR4
    have HBa := HB4
    clear HD4 HR4 HB4
    go_wp2_with fail
  rotate_left
  focus
    have HW : Hid (Nm.mk (prDnV d) = Nm.mk (Nm.prDn d)) := by
      show _ = _
      unfold prDnV
      rw [if_pos hbd]
    go_wp2_with fail
    refine (rprDn_any d A c w4 HD4.out hbd).mono ?_
    rintro q wa ⟨rfl, hb⟩
    have HDa := Lib.hid (HD4.out.past hb)
    have HRa := Lib.hid (HR4.out.past hb)
    have HBa := Lib.hid (HB4.out.trans (hb.mono HB4.out.size))
    clear hb HD4 HR4 HB4 hbd
    go_wp2_with fail
  rotate_left
  all_goals
    refine (rIsRdn_any r B c' wa HRa.out HRL.out).mono ?_
    rintro q w5 ⟨rfl, hb⟩
    have HD5 := Lib.hid (HDa.out.past hb)
    have HR5 := Lib.hid (HRa.out.past hb)
    have HB5 := Lib.hid (HBa.out.trans (hb.mono HBa.out.size))
    clear hb HDa HRa HBa
    cases hbd : Nm.isRdn r
    focus
      have HV : Hid (Nm.mk (prRdnV r) = ⟨#[]⟩) := by
        show _ = _
        unfold prRdnV
        rw [if_neg (by rw [hbd]; decide)]
      clear hbd
      obtain ⟨wb, rfl⟩ : ∃ wb, wb = w5 := ⟨_, rfl⟩
      have HDb := HD5
      have HRb := HR5
      have HBb := HB5
      clear HD5 HR5 HB5
      go_wp2_with fail
    rotate_left
    focus
      have HV : Hid (Nm.mk (prRdnV r) = Nm.mk (Nm.prRdn r)) := by
        show _ = _
        unfold prRdnV
        rw [if_pos hbd]
      go_wp2_with fail
      refine (rprRdn_any r B c' w5 HR5.out hbd).mono ?_
      rintro q wb ⟨rfl, hb⟩
      have HDb := Lib.hid (HD5.out.past hb)
      have HRb := Lib.hid (HR5.out.past hb)
      have HBb := Lib.hid (HB5.out.trans (hb.mono HB5.out.size))
      clear hb HD5 HR5 HB5 hbd
      go_wp2_with fail
    rotate_left
  all_goals
    refine (C1.out wb).mono ?_
    rintro q w6 ⟨A1, c1, rfl, hX, hb⟩
    have HD6 := Lib.hid (HDb.out.past hb)
    have HR6 := Lib.hid (HRb.out.past hb)
    have HB6 := Lib.hid (HBb.out.trans (hb.mono HBb.out.size))
    have HX6 := Lib.hid hX
    clear hb HDb HRb HBb hX C1
    go_wp2_with fail
    refine (C2.out w6).mono ?_
    rintro q w7 ⟨A2, c2, rfl, hX, hb⟩
    have HD7 := Lib.hid (HD6.out.past hb)
    have HR7 := Lib.hid (HR6.out.past hb)
    have HB7 := Lib.hid (HB6.out.trans (hb.mono HB6.out.size))
    have HX7 := Lib.hid (HX6.out.past hb)
    have HY7 := Lib.hid hX
    clear hb HD6 HR6 HB6 HX6 hX C2
    go_wp2_with fail
    refine (C3.out w7).mono ?_
    rintro q w8 ⟨A3, c3, rfl, hX, hb⟩
    have HD8 := Lib.hid (HD7.out.past hb)
    have HR8 := Lib.hid (HR7.out.past hb)
    have HB8 := Lib.hid (HB7.out.trans (hb.mono HB7.out.size))
    have HX8 := Lib.hid (HX7.out.past hb)
    have HY8 := Lib.hid (HY7.out.past hb)
    have HU8 := Lib.hid hX
    clear hb HD7 HR7 HB7 HX7 HY7 hX C3
    go_wp2_with fail
    refine (C4.out w8).mono ?_
    rintro q w9 ⟨A4, c4, rfl, hX, hb⟩
    have HD9 := Lib.hid (HD8.out.past hb)
    have HR9 := Lib.hid (HR8.out.past hb)
    have HB9 := Lib.hid (HB8.out.trans (hb.mono HB8.out.size))
    have HX9 := Lib.hid (HX8.out.past hb)
    have HY9 := Lib.hid (HY8.out.past hb)
    have HU9 := Lib.hid (HU8.out.past hb)
    have HV9 := Lib.hid hX
    clear hb HD8 HR8 HB8 HX8 HY8 HU8 hX C4
    have he := HE.out
    have hf := HF.out
    clear HE HF
    rcases he with ⟨rfl, rfl⟩ | ⟨rfl, rfl⟩ <;> rcases hf with ⟨rfl, rfl⟩ | ⟨rfl, rfl⟩
  all_goals
    go_wp2_with fail
    have S1 := same_any x1 x1 A1 A2 c1 c2 w9 HX9.out HY9.out HL.out.1 HL.out.2
    rw [decide_eq_true rfl] at S1
    refine S1.mono ?_
    clear S1
    rintro q w10 ⟨rfl, hb⟩
    have HD10 := Lib.hid (HD9.out.past hb)
    have HR10 := Lib.hid (HR9.out.past hb)
    have HB10 := Lib.hid (HB9.out.trans (hb.mono HB9.out.size))
    have HU10 := Lib.hid (HU9.out.past hb)
    have HV10 := Lib.hid (HV9.out.past hb)
    clear hb HD9 HR9 HB9 HX9 HY9 HU9 HV9
    go_wp2_with fail
    have S1 := sameR_any x3 x3 A3 A4 c3 c4 w10 HU10.out HV10.out HM.out
    rw [decide_eq_true rfl] at S1
    refine S1.mono ?_
    clear S1
    rintro q w11 ⟨rfl, hb⟩
    have HD11 := Lib.hid (HD10.out.past hb)
    have HR11 := Lib.hid (HR10.out.past hb)
    have HB11 := Lib.hid (HB10.out.trans (hb.mono HB10.out.size))
    clear hb HD10 HR10 HB10 HU10 HV10
    go_wp2_with fail
    refine (isDn_any d A c w11 HD11.out HDL.out HDK.out).mono ?_
    rintro q w12 ⟨rfl, hb⟩
    have HB12 := Lib.hid (HB11.out.trans (hb.mono HB11.out.size))
    have HD12 := Lib.hid (HD11.out.past hb)
    have HR12 := Lib.hid (HR11.out.past hb)
    clear hb HD11 HR11 HB11
    go_wp2_with fail
    refine (rIsDn_any d A c w12 HD12.out HDL.out HDK.out).mono ?_
    rintro q w13 ⟨rfl, hb⟩
    have HB13 := Lib.hid (HB12.out.trans (hb.mono HB12.out.size))
    have HD13 := Lib.hid (HD12.out.past hb)
    have HR13 := Lib.hid (HR12.out.past hb)
    clear hb HD12 HR12 HB12
    go_wp2_with fail
    refine (isRdn_any r B c' w13 HR13.out HRL.out HRC.out).mono ?_
    rintro q w14 ⟨rfl, hb⟩
    have HB14 := Lib.hid (HB13.out.trans (hb.mono HB13.out.size))
    have HD14 := Lib.hid (HD13.out.past hb)
    have HR14 := Lib.hid (HR13.out.past hb)
    clear hb HD13 HR13 HB13
    go_wp2_with fail
    refine (rIsRdn_any r B c' w14 HR14.out HRL.out).mono ?_
    rintro q w15 ⟨rfl, hb⟩
    have HB15 := Lib.hid (HB14.out.trans (hb.mono HB14.out.size))
    have HD15 := Lib.hid (HD14.out.past hb)
    have HR15 := Lib.hid (HR14.out.past hb)
    clear hb HD14 HR14 HB14
    go_wp2_with fail
    have S1 := prDn_any d A c w15 HD15.out HDL.out HDK.out
    rw [HW.out] at S1
    refine S1.mono ?_
    clear S1
    rintro q w16 ⟨rfl, hb⟩
    have HB16 := Lib.hid (HB15.out.trans (hb.mono HB15.out.size))
    have HD16 := Lib.hid (HD15.out.past hb)
    have HR16 := Lib.hid (HR15.out.past hb)
    clear hb HD15 HR15 HB15
    go_wp2_with fail
    have S1 := prRdn_any r B c' w16 HR16.out HRL.out HRC.out
    rw [HV.out] at S1
    refine S1.mono ?_
    clear S1
    rintro q w17 ⟨rfl, hb⟩
    have HB17 := Lib.hid (HB16.out.trans (hb.mono HB16.out.size))
    have HD17 := Lib.hid (HD16.out.past hb)
    have HR17 := Lib.hid (HR16.out.past hb)
    clear hb HD16 HR16 HB16
    go_wp2_with fail
    refine (isType_any s w17).mono ?_
    rintro q v ⟨rfl, rfl⟩
    go_wp2_with fail
    refine (rIsType_any s w17).mono ?_
    rintro q v ⟨rfl, rfl⟩
    go_wp2_with fail
    refine (lower_any s w17 (by have := HSZ.out; omega)).mono ?_
    rintro q w18 ⟨rfl, hb⟩
    have HB18 := Lib.hid (HB17.out.trans (hb.mono HB17.out.size))
    clear hb HB17
    go_wp2_with fail
    refine (rlower_any s w18 (by have := HSZ.out; omega)).mono ?_
    rintro q w19 ⟨rfl, hb⟩
    have HB19 := Lib.hid (HB18.out.trans (hb.mono HB18.out.size))
    clear hb HB18
    go_wp2_with fail
    go_ret
    exact ⟨rfl, HB19.out⟩
theorem walk_NameTells (w : World) (d : List (List Nm.Ava)) (A : Option Addr) (c : Nat) (h1 : d.length ≤ c) (hdl : d.length ≤ maxLen) (hdk : ∀ r ∈ d, r.length ≤ maxLen) (hd : DAt w (· < w.heap.size) A d) (r : List Nm.Ava) (B : Option Addr) (c' : Nat) (hrc : r.length ≤ c') (hrl : r.length ≤ maxLen) (hr : RAt w (· < w.heap.size) B r) (s : ByteArray) (hs : s.size ≤ maxLen) :
    Calls Try.prog 3 #[.slice A d.length c, .slice B r.length c', .string s] w fun r w' => r = .returned (.bool true) ∧ Below w.heap.size w w' := tells_go d r s A B c c' w hd hr hdl hrl hdk hrc
end Go.Proofs.Ytfgcmljlamodbaa
