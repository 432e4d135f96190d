/- As it counts; a copy; whether two are alike. -/
import Derived.Test.YtiglepmgonmhiaaVcIs
import Derived.Test.YtiglepmgonmhiaaVcNew
namespace Go.Proofs.Ytiglepmgonmhiaa.Cs
open Go.RowKit
set_option linter.unusedVariables false
set_option maxRecDepth 100000

theorem counted_any (A : Option Addr) (c : Nat) (l : List Nm) (w : World) (hV : VecIn w A l) : Calls Try.prog 29 #[.slice A l.length c] w fun e w' => ∃ A' c', e = .returned (.slice A' (cnt l).length c') ∧ VecIn w' A' (cnt l) ∧ Below w.heap.size w w' := by
  have C := Is_any A c l
  have HV := Lib.hid hV
  by_cases hI : isV l = true
  · rw [hI] at C
    rw [cnt_of hI]
    have C := Lib.hid C
    clear hI hV
    go_enter Try.func29, Try.ntmps29
    go_wp2_with fail
    refine (C.out _ HV.out).mono ?_
    rintro e w1 ⟨rfl, hb⟩
    go_wp2_with fail
    go_ret
    exact ⟨_, _, rfl, HV.out.past hb, hb⟩
  · have hI : isV l = false := by simpa using hI
    rw [hI] at C
    rw [cnt_no hI]
    have C := Lib.hid C
    clear hI hV
    go_enter Try.func29, Try.ntmps29
    go_wp2_with fail
    refine (C.out _ HV.out).mono ?_
    rintro e w1 ⟨rfl, hb⟩
    go_wp2_with fail
    go_ret
    exact ⟨_, _, rfl, VecIn.nil _ _, hb⟩
theorem copied_any (A : Option Addr) (c : Nat) (l : List Nm) (w : World) (hV : VecIn w A l) (h6 : l.length ≤ 6) : Calls Try.prog 28 #[.slice A l.length c] w fun e w' => ∃ v, e = .returned v ∧ OwnV w' w.heap.size v l ∧ Below w.heap.size w w' := by
  have hmk := make_vec l.length h6
  have HV := Lib.hid (hV.past ((Below.refl _ _).alloc (Nat.le_refl _) (.cells (flat (begun l.length 0)).toArray 25)))
  have BN := Lib.hid (Blk.new w 25 (flat (begun l.length 0)).toArray)
  have HS := Lib.hid (show (flat (begun l.length 0)).toArray.size = l.length * 3 by simp [flat_len, begun_len])
  have H6 := Lib.hid h6
  have HB := Lib.hid ((Below.refl w.heap.size w).alloc (Nat.le_refl _) (.cells (flat (begun l.length 0)).toArray 25))
  obtain ⟨w1, hrun, hB1, hb1, hs1⟩ := run_copy_vec (w.alloc (.cells (flat (begun l.length 0)).toArray 25)) 3 w.heap.size l.length c A l _ BN.out HS.out HV.out
  have HO := Lib.hid (OwnV.of_row (base := w.heap.size) rfl (Nat.le_refl _) (by have := H6.out; omega) hB1)
  have Hb := Lib.hid (HB.out.trans hb1)
  clear hB1 hb1 hs1 BN HV HS HB hV h6
  go_enter Try.func28, Try.ntmps28
  go_wp2_with fail
  go_ret
  exact ⟨_, rfl, HO.out, Hb.out⟩
theorem Own_any (A : Option Addr) (c : Nat) (l : List Nm) (w : World) (hV : VecIn w A l) (hl : l.length ≤ 1000) : Calls Try.prog 25 #[.slice A l.length c] w fun e w' => ∃ v, e = .returned v ∧ OwnV w' w.heap.size v (cnt l) ∧ Below w.heap.size w w' := by
  have C := fun w hV => rIs_any A c l w hV hl
  have HV := Lib.hid hV
  have HL := Lib.hid hl
  by_cases hI : isV l = true
  · rw [hI] at C
    rw [cnt_of hI]
    have C := Lib.hid C
    clear hI hV hl
    go_enter Try.func25, Try.ntmps25
    go_wp2_with fail
    refine (C.out _ HV.out).mono ?_
    rintro e w1 ⟨rfl, hb⟩
    have HV1 := Lib.hid (HV.out.past hb)
    have Hb := Lib.hid hb
    clear hb HV C
    go_wp2_with (at_builtin; go_loud (refine wpList_allV rfl _ _ rfl w.heap.size rfl A c l rfl HV1.out HL.out Hb.out.size ?_))
    intro v2 w2 hO hb2
    have HO := Lib.hid hO
    have Hb2 := Lib.hid (Hb.out.trans hb2)
    clear hO hb2 Hb HV1
    go_wp2_with fail
    go_ret
    exact ⟨_, rfl, HO.out, Hb2.out⟩
  · have hI : isV l = false := by simpa using hI
    rw [hI] at C
    rw [cnt_no hI]
    have C := Lib.hid C
    clear hI hV hl
    go_enter Try.func25, Try.ntmps25
    go_wp2_with fail
    refine (C.out _ HV.out).mono ?_
    rintro e w1 ⟨rfl, hb⟩
    go_wp2_with fail
    go_ret
    exact ⟨_, rfl, OwnV.nil _ _, hb⟩
end Go.Proofs.Ytiglepmgonmhiaa.Cs
