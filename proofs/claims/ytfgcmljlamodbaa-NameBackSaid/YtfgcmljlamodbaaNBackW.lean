/- NameBack: the walk. -/
import Derived.Test.YtfgcmljlamodbaaNCasesW
import Derived.Test.YtfgcmljlamodbaaNBackSp
import Derived.Test.YtfgcmljlamodbaaNFew
namespace Go.Proofs.Ytfgcmljlamodbaa
open Go.RowKit
set_option linter.unusedVariables false
set_option maxRecDepth 100000

theorem dn_short {d : List (List Nm.Ava)} (h : Nm.isDn d = true) : d.length ≤ maxLen ∧ ∀ r ∈ d, r.length ≤ maxLen := by
  obtain ⟨h8, ho⟩ := Nm.isDn_all h
  unfold maxLen
  refine ⟨by omega, fun r hr => ?_⟩
  have := Nm.isRdn_all (ho r hr)
  omega
theorem DAt.left {w : World} {P : Nat → Prop} {A : Option Addr} {d e : List (List Nm.Ava)} (h : DAt w P A (d ++ e)) : DAt w P A d := fun h0 => by
  obtain ⟨ad, e1, hp, hc⟩ := h (by rw [List.length_append]; omega)
  refine ⟨ad, e1, hp, fun i hi => ?_⟩
  have := hc i (by rw [List.length_append]; omega)
  rw [List.getElem_append_left hi] at this
  exact this
theorem DAt.right {w : World} {P : Nat → Prop} {ad : Addr} {d e : List (List Nm.Ava)} (h : DAt w P (some ad) (d ++ e)) : DAt w P (some (ad.add d.length)) e := fun h0 => by
  obtain ⟨ad', e1, hp, hc⟩ := h (by rw [List.length_append]; omega)
  injection e1 with e1
  subst e1
  refine ⟨_, rfl, by rw [block_of_add]; exact hp, fun i hi => ?_⟩
  have := hc (d.length + i) (by rw [List.length_append]; omega)
  rw [add_of_add]
  simpa using this
set_option maxHeartbeats 8000000 in
theorem back_go (d e : List (List Nm.Ava)) (A B : Option Addr) (c c' : Nat) (w : World) (hd : DAt w (· < w.heap.size) A d) (he : DAt w (· < w.heap.size) B e) (hdl : d.length ≤ maxLen) (hel : e.length ≤ maxLen) (hdk : ∀ r ∈ d, r.length ≤ maxLen) (hek : ∀ r ∈ e, r.length ≤ maxLen) :
    Calls Try.prog 4 #[.slice A d.length c, .slice B e.length c'] w fun r w' => r = .returned (.bool true) ∧ Below w.heap.size w w' := by
  have HDK := Lib.hid hdk
  have HEK := Lib.hid hek
  have HDL := Lib.hid hdl
  have HEL := Lib.hid hel
  have HD := Lib.hid hd
  have HE := Lib.hid he
  clear hd he hdk hek hdl hel
  go_enter Try.func4, Try.ntmps4
  go_wp2_with fail
  refine (nknown_any _).mono ?_
  rintro r w1 ⟨rfl, hb⟩
  have HD1 := Lib.hid (HD.out.past hb)
  have HE1 := Lib.hid (HE.out.past hb)
  have HB1 := Lib.hid hb
  clear hb HD HE
  go_wp2_with fail
  refine (few_any d A c w1 HD1.out HDL.out HDK.out).mono ?_
  rintro r w2 ⟨rfl, hb⟩
  have HD2 := Lib.hid (HD1.out.past hb)
  have HE2 := Lib.hid (HE1.out.past hb)
  have HB2 := Lib.hid (HB1.out.trans (hb.mono HB1.out.size))
  clear hb HD1 HE1 HB1
  cases hf1 : fewD d
  · go_wp2_with fail
    go_ret
    exact ⟨rfl, HB2.out⟩
  clear hf1
  go_wp2_with fail
  refine (few_any e B c' w2 HE2.out HEL.out HEK.out).mono ?_
  rintro r w3 ⟨rfl, hb⟩
  have HD3 := Lib.hid (HD2.out.past hb)
  have HE3 := Lib.hid (HE2.out.past hb)
  have HB3 := Lib.hid (HB2.out.trans (hb.mono HB2.out.size))
  clear hb HD2 HE2 HB2
  cases hf1 : fewD e
  · go_wp2_with fail
    go_ret
    exact ⟨rfl, HB3.out⟩
  clear hf1
  go_wp2_with fail
  refine (isDn_any d A c w3 HD3.out HDL.out HDK.out).mono ?_
  rintro r w4 ⟨rfl, hb⟩
  have HD4 := Lib.hid (HD3.out.past hb)
  have HE4 := Lib.hid (HE3.out.past hb)
  have HB4 := Lib.hid (HB3.out.trans (hb.mono HB3.out.size))
  clear hb HD3 HE3 HB3
  cases hi1 : Nm.isDn d
  · go_wp2_with fail
    go_ret
    exact ⟨rfl, HB4.out⟩
  have HI1 := Lib.hid hi1
  clear hi1
  go_wp2_with fail
  refine (isDn_any e B c' w4 HE4.out HEL.out HEK.out).mono ?_
  rintro r w5 ⟨rfl, hb⟩
  have HD5 := Lib.hid (HD4.out.past hb)
  have HE5 := Lib.hid (HE4.out.past hb)
  have HB5 := Lib.hid (HB4.out.trans (hb.mono HB4.out.size))
  clear hb HD4 HE4 HB4
  cases hi2 : Nm.isDn e
  · go_wp2_with fail
    go_ret
    exact ⟨rfl, HB5.out⟩
  have HI2 := Lib.hid hi2
  clear hi2
  go_wp2_with fail
  refine (prDn_any d A c w5 HD5.out HDL.out HDK.out).mono ?_
  rintro r w6 ⟨rfl, hb⟩
  have HD6 := Lib.hid (HD5.out.past hb)
  have HE6 := Lib.hid (HE5.out.past hb)
  have HB6 := Lib.hid (HB5.out.trans (hb.mono HB5.out.size))
  clear hb HD5 HE5 HB5
  obtain ⟨S, hS⟩ : ∃ S, S = Nm.mk (prDnV d) := ⟨_, rfl⟩
  rw [← hS]
  have hS2 : S = Nm.mk (Nm.prDn d) := by rw [hS]; unfold prDnV; rw [if_pos HI1.out]
  have HS := Lib.hid hS2
  have HZ := Lib.hid (show S.size ≤ 6344 by rw [hS2]; exact Nm.prDn_le HI1.out)
  have HX := Lib.hid (show Nm.dnm (Nm.bs S) = some d by rw [hS2]; exact Nm.dnm_prDn HI1.out)
  clear hS hS2
  go_wp2_with fail
  refine (HX.out ▸ parseD_any S w6 (by have := HZ.out; omega)).mono ?_
  rintro r w7 ⟨AX, cX, rfl, hcX, hX, hb⟩
  have HD7 := Lib.hid (HD6.out.past hb)
  have HE7 := Lib.hid (HE6.out.past hb)
  have HB7 := Lib.hid (HB6.out.trans (hb.mono HB6.out.size))
  have HX7 := Lib.hid (hX.imp (w' := w7) (P' := (· < w7.heap.size)) (fun b h => h.2) (fun _ _ => rfl))
  clear hb HD6 HE6 HB6 hX
  go_wp2_with fail
  refine ((decide_eq_true (p := d = d) rfl) ▸ same_any d d AX A cX c w7 HX7.out HD7.out HDL.out HDK.out : Calls Try.prog 19 #[.slice AX d.length cX, .slice A d.length c] w7 fun e w' => e = .returned (.bool true) ∧ Below w7.heap.size w7 w').mono ?_
  rintro r w8 ⟨rfl, hb⟩
  have HE8 := Lib.hid (HE7.out.past hb)
  have HD8 := Lib.hid (HD7.out.past hb)
  have HB8 := Lib.hid (HB7.out.trans (hb.mono HB7.out.size))
  clear hb HD7 HE7 HB7 HX7
  by_cases h0 : d = []
  · subst h0
    have h1 : S = ⟨#[]⟩ := by rw [HS.out]; rfl
    subst h1
    go_wp2_with fail
    go_ret
    exact ⟨rfl, HB8.out⟩
  have HS0 := Lib.hid (show 0 < S.size by
    rw [HS.out]
    exact List.length_pos_iff.2 (Nm.prDn_ne (Nm.isDn_all HI1.out).2 h0))
  have hs1 := isE_of S HS0.out
  have hn : ((d.length : Int) == 0) = false := by
    have : d.length ≠ 0 := fun h => h0 (List.length_eq_zero_iff.1 h)
    rw [beq_eq_false_iff_ne]
    omega
  by_cases h2 : e = []
  · subst h2
    go_wp2_with fail
    go_ret
    exact ⟨rfl, HB8.out⟩
  have hn2 : ((e.length : Int) == 0) = false := by
    have : e.length ≠ 0 := fun h => h2 (List.length_eq_zero_iff.1 h)
    rw [beq_eq_false_iff_ne]
    omega
  have HH0 := Lib.hid h0
  have HH2 := Lib.hid h2
  clear h0 h2
  have hsz : ¬ (9223372036854775807 < S.size + 1) := by have := HZ.out; omega
  go_wp2_with fail
  refine (prDn_any e B c' w8 HE8.out HEL.out HEK.out).mono ?_
  rintro r w9 ⟨rfl, hb⟩
  have HD9 := Lib.hid (HD8.out.past hb)
  have HE9 := Lib.hid (HE8.out.past hb)
  have HB9 := Lib.hid (HB8.out.trans (hb.mono HB8.out.size))
  clear hb HD8 HE8 HB8
  obtain ⟨R, hR⟩ : ∃ R, R = Nm.mk (prDnV e) := ⟨_, rfl⟩
  rw [← hR]
  have hR2 : R = Nm.mk (Nm.prDn e) := by rw [hR]; unfold prDnV; rw [if_pos HI2.out]
  have hRz : R.size ≤ 6344 := by rw [hR2]; exact Nm.prDn_le HI2.out
  have hsz2 : ¬ (9223372036854775807 < S.size + 1 + R.size) := by have := HZ.out; omega
  obtain ⟨T, hT⟩ : ∃ T, T = S ++ (⟨#[44]⟩ : ByteArray) ++ R := ⟨_, rfl⟩
  have hT2 : Nm.bs T = Nm.prDn d ++ 44 :: Nm.prDn e := by
    rw [hT, HS.out, hR2]
    show ((Nm.mk (Nm.prDn d) ++ (⟨#[44]⟩ : ByteArray)) ++ Nm.mk (Nm.prDn e)).data.toList = _
    rw [ByteArray.data_append, ByteArray.data_append]
    simp
  have hTz : T.size ≤ 1000000000 := by
    have h1 := HZ.out
    rw [hT, ByteArray.size_append, ByteArray.size_append]
    show S.size + 1 + R.size ≤ _
    omega
  have HT2 := Lib.hid (show Nm.dnm (Nm.bs T) = if d.length + e.length ≤ 8 then some (d ++ e) else none by rw [hT2, Nm.dnm_two HI1.out HI2.out HH0.out HH2.out])
  have HTz := Lib.hid hTz
  clear hR hR2 hRz hT2 hTz
  have PT : Hid (∀ w, Calls Try.prog 15 #[.string (S ++ (⟨#[44]⟩ : ByteArray) ++ R)] w (DnPost w.heap.size w (if d.length + e.length ≤ 8 then some (d ++ e) else none))) := fun w => by
    rw [← HT2.out, ← hT]
    exact parseD_any T w HTz.out
  clear hT
  have h80 : Hid (d.length ≤ 8 ∧ e.length ≤ 8) := ⟨(Nm.isDn_all HI1.out).1, (Nm.isDn_all HI2.out).1⟩
  go_wp2_with fail
  refine (PT.out _).mono ?_
  by_cases h8 : d.length + e.length ≤ 8
  · rw [if_pos h8]
    rintro r w10 ⟨AY, cY, rfl, hcY, hY, hb⟩
    have HD10 := Lib.hid (HD9.out.past hb)
    have HE10 := Lib.hid (HE9.out.past hb)
    have HB10 := Lib.hid (HB9.out.trans (hb.mono HB9.out.size))
    have HY := Lib.hid (hY.imp (w' := w10) (P' := (· < w10.heap.size)) (fun b h => h.2) (fun _ _ => rfl))
    clear hb HD9 HE9 HB9 hY
    have hl : (d ++ e).length = d.length + e.length := List.length_append
    rw [hl] at hcY ⊢
    obtain ⟨ad, rfl, _, _⟩ := HY.out (by
      rw [hl]
      have := List.length_pos_iff.2 HH0.out
      omega)
    have h8' : (d.length : Int) + e.length ≤ 8 := by omega
    go_wp2_with fail
    refine ((decide_eq_true (p := d = d) rfl) ▸ same_any d d (some ad) A cY c w10 HY.out.left HD10.out HDL.out HDK.out : Calls Try.prog 19 #[.slice (some ad) d.length cY, .slice A d.length c] w10 fun e w' => e = .returned (.bool true) ∧ Below w10.heap.size w10 w').mono ?_
    rintro r w11 ⟨rfl, hb⟩
    have HE11 := Lib.hid (HE10.out.past hb)
    have HY11 := Lib.hid (HY.out.right.past hb)
    have HB11 := Lib.hid (HB10.out.trans (hb.mono HB10.out.size))
    clear hb HD10 HE10 HB10 HY
    have hcn : ¬ (cY = d.length) := by
      have := List.length_pos_iff.2 HH2.out
      omega
    go_wp2_with fail
    refine ((decide_eq_true (p := e = e) rfl) ▸ same_any e e (some (ad.add d.length)) B (cY - d.length) c' w11 HY11.out HE11.out HEL.out HEK.out : Calls Try.prog 19 #[.slice (some (ad.add d.length)) e.length (cY - d.length), .slice B e.length c'] w11 fun e w' => e = .returned (.bool true) ∧ Below w11.heap.size w11 w').mono ?_
    rintro r w12 ⟨rfl, hb⟩
    have HB12 := Lib.hid (HB11.out.trans (hb.mono HB11.out.size))
    clear hb HE11 HY11 HB11
    go_wp2_with fail
    go_ret
    exact ⟨rfl, HB12.out⟩
  · rw [if_neg h8]
    rintro r w10 ⟨rfl, hb⟩
    have HB10 := Lib.hid (HB9.out.trans (hb.mono HB9.out.size))
    have h8' : 8 < (d.length : Int) + e.length := by omega
    have := h80.out
    clear hb HD9 HE9 HB9
    go_wp2_with fail
    go_ret
    exact ⟨rfl, HB10.out⟩
theorem walk_NameBack (w : World) (d : List (List Nm.Ava)) (A : Option Addr) (c : Nat) (h1 : d.length ≤ c) (hdl : d.length ≤ maxLen) (hdk : ∀ r ∈ d, r.length ≤ maxLen) (hd : DAt w (· < w.heap.size) A d) (e : List (List Nm.Ava)) (B : Option Addr) (c' : Nat) (h2 : e.length ≤ c') (hel : e.length ≤ maxLen) (hek : ∀ r ∈ e, r.length ≤ maxLen) (he : DAt w (· < w.heap.size) B e) :
    Calls Try.prog 4 #[.slice A d.length c, .slice B e.length c'] w fun r w' => r = .returned (.bool true) ∧ Below w.heap.size w w' := back_go d e A B c c' w hd he hdl hel hdk hek
end Go.Proofs.Ytfgcmljlamodbaa
