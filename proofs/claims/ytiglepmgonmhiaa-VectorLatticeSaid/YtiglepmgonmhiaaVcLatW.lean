/- VectorLattice: the walk. -/
import Derived.Test.YtiglepmgonmhiaaVcLatA
import Derived.Test.YtiglepmgonmhiaaVcLatP
import Derived.Test.YtiglepmgonmhiaaVcLatQ
import Derived.Test.YtiglepmgonmhiaaVcLatC
import Derived.Test.YtiglepmgonmhiaaVcLatD
import Derived.Test.YtiglepmgonmhiaaVcLatE
import Derived.Test.YtiglepmgonmhiaaVcLatG
import Derived.Deep.Cut
namespace Go.Proofs.Ytiglepmgonmhiaa.Cs
open Go.RowKit Go.Proofs.Ytiglepmgonmhiaa.Ms
set_option linter.unusedVariables false
set_option maxRecDepth 100000

set_option maxHeartbeats 8000000 in
theorem walk_VectorLattice (w : World) (A : Option Addr) (ca : Nat) (a : List Nm) (hA : VecIn w A a) (hca : a.length ≤ ca) (B : Option Addr) (cb : Nat) (b : List Nm) (hB : VecIn w B b) (hcb : b.length ≤ cb) (C : Option Addr) (cc : Nat) (c : List Nm) (hC : VecIn w C c) (hcc : c.length ≤ cc) (dt ds dr : Int) :
    Calls Try.prog 4 #[.slice A a.length ca, .slice B b.length cb, .slice C c.length cc, cv dt ds dr] w fun r w' => r = .returned (.bool true) ∧ Below w.heap.size w w' := by
  have HK := Lib.hid known_any
  have BX := Blk.new w 25 (gc dt ds dr)
  have hb0 := (Below.refl w.heap.size w).alloc (Nat.le_refl _) (.cells (gc dt ds dr) 25)
  have HA := Lib.hid (hA.past ((Below.refl _ _).alloc (Nat.le_refl _) (.cells (gc dt ds dr) 25)))
  have HB := Lib.hid (hB.past ((Below.refl _ _).alloc (Nat.le_refl _) (.cells (gc dt ds dr) 25)))
  have HC := Lib.hid (hC.past ((Below.refl _ _).alloc (Nat.le_refl _) (.cells (gc dt ds dr) 25)))
  clear hA hB hC hca hcb hcc
  obtain ⟨Ia, hIa⟩ : ∃ I, Hid (I = isV a) := ⟨_, rfl⟩
  obtain ⟨Ib, hIb⟩ : ∃ I, Hid (I = isV b) := ⟨_, rfl⟩
  obtain ⟨Ic, hIc⟩ : ∃ I, Hid (I = isV c) := ⟨_, rfl⟩
  have CIa := Is_any A ca a
  have CIb := Is_any B cb b
  have CIc := Is_any C cc c
  rw [← hIa.out] at CIa
  rw [← hIb.out] at CIb
  rw [← hIc.out] at CIc
  have CIa := Lib.hid CIa
  have CIb := Lib.hid CIb
  have CIc := Lib.hid CIc
  go_enter Try.func4, Try.ntmps4
  go_wp2_with fail
  refine (HK.out _).mono ?_
  rintro e w1 ⟨rfl, hb1⟩
  have HA1 := Lib.hid (HA.out.past hb1)
  have HB1 := Lib.hid (HB.out.past hb1)
  have HC1 := Lib.hid (HC.out.past hb1)
  have BX1 := Lib.hid (BX.past hb1)
  have Hb := Lib.hid (hb0.trans (hb1.mono hb0.size))
  clear hb1 hb0 HA HB HC BX HK
  go_wp2_with fail
  refine (CIa.out _ HA1.out).mono ?_
  rintro e w2 ⟨rfl, hb⟩
  have HA1' := Lib.hid (HA1.out.past hb)
  have HB1' := Lib.hid (HB1.out.past hb)
  have HC1' := Lib.hid (HC1.out.past hb)
  have BX1' := Lib.hid (BX1.out.past hb)
  have Hb' := Lib.hid (Hb.out.trans (hb.mono Hb.out.size))
  clear hb HA1 HB1 HC1 BX1 Hb
  have HA1 := HA1'
  have HB1 := HB1'
  have HC1 := HC1'
  have BX1 := BX1'
  have Hb := Hb'
  clear HA1' HB1' HC1' BX1' Hb'
  clear CIa
  cases Ia
  · go_wp2_with fail
    go_ret
    exact ⟨rfl, Hb.out⟩
  go_wp2_with fail
  refine (CIb.out _ HB1.out).mono ?_
  rintro e w3 ⟨rfl, hb⟩
  have HA1' := Lib.hid (HA1.out.past hb)
  have HB1' := Lib.hid (HB1.out.past hb)
  have HC1' := Lib.hid (HC1.out.past hb)
  have BX1' := Lib.hid (BX1.out.past hb)
  have Hb' := Lib.hid (Hb.out.trans (hb.mono Hb.out.size))
  clear hb HA1 HB1 HC1 BX1 Hb
  have HA1 := HA1'
  have HB1 := HB1'
  have HC1 := HC1'
  have BX1 := BX1'
  have Hb := Hb'
  clear HA1' HB1' HC1' BX1' Hb'
  clear CIb
  cases Ib
  · go_wp2_with fail
    go_ret
    exact ⟨rfl, Hb.out⟩
  go_wp2_with fail
  refine (CIc.out _ HC1.out).mono ?_
  rintro e w4 ⟨rfl, hb⟩
  have HA1' := Lib.hid (HA1.out.past hb)
  have HB1' := Lib.hid (HB1.out.past hb)
  have HC1' := Lib.hid (HC1.out.past hb)
  have BX1' := Lib.hid (BX1.out.past hb)
  have Hb' := Lib.hid (Hb.out.trans (hb.mono Hb.out.size))
  clear hb HA1 HB1 HC1 BX1 Hb
  have HA1 := HA1'
  have HB1 := HB1'
  have HC1 := HC1'
  have BX1 := BX1'
  have Hb := Hb'
  clear HA1' HB1' HC1' BX1' Hb'
  clear CIc
  cases Ic
  · go_wp2_with fail
    go_ret
    exact ⟨rfl, Hb.out⟩
  by_cases hab : (a.length : Int) = b.length
  case neg =>
    have h1 : ((a.length : Int) != b.length) = true := bne_iff_ne.2 hab
    go_wp2_with fail
    go_ret
    exact ⟨rfl, Hb.out⟩
  by_cases hbc : (b.length : Int) = c.length
  case neg =>
    have h1 : ((a.length : Int) != b.length) = false := by simp [hab]
    have h2 : ((b.length : Int) != c.length) = true := bne_iff_ne.2 hbc
    clear hab
    go_wp2_with fail
    go_ret
    exact ⟨rfl, Hb.out⟩
  have h1 : ((a.length : Int) != b.length) = false := by simp [hab]
  have h2 : ((b.length : Int) != c.length) = false := by simp [hbc]
  have Va := Lib.hid (show Vn a.length a from ⟨hIa.out.symm, rfl⟩)
  have Vb := Lib.hid (show Vn a.length b from ⟨hIb.out.symm, by omega⟩)
  have Vc := Lib.hid (show Vn a.length c from ⟨hIc.out.symm, by omega⟩)
  clear hab hbc hIa hIb hIc
  go_wp2_with fail
  refine (Join_any A B ca cb a b _ HA1.out HB1.out).mono ?_
  rintro e w5 ⟨J, j, rfl, hJ, hb⟩
  have HJ := Lib.hid hJ
  clear hJ
  have HA1' := Lib.hid (HA1.out.past hb)
  have HB1' := Lib.hid (HB1.out.past hb)
  have HC1' := Lib.hid (HC1.out.past hb)
  have BX1' := Lib.hid (BX1.out.past hb)
  have Hb' := Lib.hid (Hb.out.trans (hb.mono Hb.out.size))
  clear hb HA1 HB1 HC1 BX1 Hb
  have HA1 := HA1'
  have HB1 := HB1'
  have HC1 := HC1'
  have BX1 := BX1'
  have Hb := Hb'
  clear HA1' HB1' HC1' BX1' Hb'
  go_wp2_with fail
  refine (Meet_any A B ca cb a b _ HA1.out HB1.out).mono ?_
  rintro e w6 ⟨M, m, rfl, hM, hb⟩
  have HM := Lib.hid hM
  clear hM
  have HA1' := Lib.hid (HA1.out.past hb)
  have HB1' := Lib.hid (HB1.out.past hb)
  have HC1' := Lib.hid (HC1.out.past hb)
  have BX1' := Lib.hid (BX1.out.past hb)
  have HJ' := Lib.hid (HJ.out.past hb)
  have Hb' := Lib.hid (Hb.out.trans (hb.mono Hb.out.size))
  clear hb HA1 HB1 HC1 BX1 HJ Hb
  have HA1 := HA1'
  have HB1 := HB1'
  have HC1 := HC1'
  have BX1 := BX1'
  have HJ := HJ'
  have Hb := Hb'
  clear HA1' HB1' HC1' BX1' HJ' Hb'
  have h9 := True.intro
  obtain ⟨p, hp⟩ : ∃ p : Bool, Hid (p = (leq a c && leq b c)) := ⟨_, rfl⟩
  go_upto_region 6 with fail
  go_cut [11] from 48 (fun s wx => s = .bool p ∧ Hid (VecIn wx A a) ∧ Hid (VecIn wx B b) ∧ Hid (VecIn wx C c) ∧ Hid (VecIn wx J (join a b)) ∧ Hid (VecIn wx M (meet a b)) ∧ Hid (Blk wx w.heap.size 25 (gc dt ds dr)) ∧ Hid (Below w.heap.size w wx))
  case first =>
    by_cases hq1 : leq a c = true
    · have hp : p = (leq b c) := by rw [hp.out, hq1, Bool.true_and]
      have Hp := Lib.hid hp
      have Hq1 := Lib.hid hq1
      clear hp hq1
      go_wp2_with fail
      refine (f_leq A C ca cc a c Hq1.out _ HA1.out HC1.out).mono ?_
      rintro e x1 ⟨rfl, hb⟩
      have HA1' := Lib.hid (HA1.out.past hb)
      have HB1' := Lib.hid (HB1.out.past hb)
      have HC1' := Lib.hid (HC1.out.past hb)
      have BX1' := Lib.hid (BX1.out.past hb)
      have HJ' := Lib.hid (HJ.out.past hb)
      have HM' := Lib.hid (HM.out.past hb)
      have Hb' := Lib.hid (Hb.out.trans (hb.mono Hb.out.size))
      clear hb HA1 HB1 HC1 BX1 HJ HM Hb
      have HA1 := HA1'
      have HB1 := HB1'
      have HC1 := HC1'
      have BX1 := BX1'
      have HJ := HJ'
      have HM := HM'
      have Hb := Hb'
      clear HA1' HB1' HC1' BX1' HJ' HM' Hb'
      go_wp2_with fail
      refine (f_leq B C cb cc b c rfl _ HB1.out HC1.out).mono ?_
      rintro e x2 ⟨rfl, hb⟩
      have HA1' := Lib.hid (HA1.out.past hb)
      have HB1' := Lib.hid (HB1.out.past hb)
      have HC1' := Lib.hid (HC1.out.past hb)
      have BX1' := Lib.hid (BX1.out.past hb)
      have HJ' := Lib.hid (HJ.out.past hb)
      have HM' := Lib.hid (HM.out.past hb)
      have Hb' := Lib.hid (Hb.out.trans (hb.mono Hb.out.size))
      clear hb HA1 HB1 HC1 BX1 HJ HM Hb
      have HA1 := HA1'
      have HB1 := HB1'
      have HC1 := HC1'
      have BX1 := BX1'
      have HJ := HJ'
      have HM := HM'
      have Hb := Hb'
      clear HA1' HB1' HC1' BX1' HJ' HM' Hb'
      go_wp2_with fail
      go_meet
      exact ⟨by rw [Hp.out], HA1, HB1, HC1, HJ, HM, BX1, Hb⟩
    · have hq2 : leq a c = false := by simpa using hq1
      have Hp := Lib.hid (show p = false by rw [hp.out, hq2, Bool.false_and])
      have Hq1 := Lib.hid hq2
      clear hq1 hq2
      go_wp2_with fail
      refine (f_leq A C ca cc a c Hq1.out _ HA1.out HC1.out).mono ?_
      rintro e x1 ⟨rfl, hb⟩
      have HA1' := Lib.hid (HA1.out.past hb)
      have HB1' := Lib.hid (HB1.out.past hb)
      have HC1' := Lib.hid (HC1.out.past hb)
      have BX1' := Lib.hid (BX1.out.past hb)
      have HJ' := Lib.hid (HJ.out.past hb)
      have HM' := Lib.hid (HM.out.past hb)
      have Hb' := Lib.hid (Hb.out.trans (hb.mono Hb.out.size))
      clear hb HA1 HB1 HC1 BX1 HJ HM Hb
      have HA1 := HA1'
      have HB1 := HB1'
      have HC1 := HC1'
      have BX1 := BX1'
      have HJ := HJ'
      have HM := HM'
      have Hb := Hb'
      clear HA1' HB1' HC1' BX1' HJ' HM' Hb'
      go_wp2_with fail
      go_meet
      exact ⟨by rw [Hp.out], HA1, HB1, HC1, HJ, HM, BX1, Hb⟩
  case rest =>
    obtain ⟨rfl, HA1', HB1', HC1', HJ', HM', BX1', Hb'⟩ := hcut
    clear HA1 HB1 HC1 HJ HM BX1 Hb
    have HA1 := HA1'
    have HB1 := HB1'
    have HC1 := HC1'
    have HJ := HJ'
    have HM := HM'
    have BX1 := BX1'
    have Hb := Hb'
    clear HA1' HB1' HC1' HJ' HM' BX1' Hb'
    obtain ⟨q, hq⟩ : ∃ p : Bool, Hid (p = (leq c a && leq c b)) := ⟨_, rfl⟩
    go_upto_region 7 with fail
    go_cut [12] from 13 (fun s wx => s = .bool q ∧ Hid (VecIn wx A a) ∧ Hid (VecIn wx B b) ∧ Hid (VecIn wx C c) ∧ Hid (VecIn wx J (join a b)) ∧ Hid (VecIn wx M (meet a b)) ∧ Hid (Blk wx w.heap.size 25 (gc dt ds dr)) ∧ Hid (Below w.heap.size w wx))
    case first =>
      by_cases hq1 : leq c a = true
      · have hp : q = (leq c b) := by rw [hq.out, hq1, Bool.true_and]
        have Hp := Lib.hid hp
        have Hq1 := Lib.hid hq1
        clear hp hq1
        go_wp2_with fail
        refine (f_leq C A cc ca c a Hq1.out _ HC1.out HA1.out).mono ?_
        rintro e x1 ⟨rfl, hb⟩
        have HA1' := Lib.hid (HA1.out.past hb)
        have HB1' := Lib.hid (HB1.out.past hb)
        have HC1' := Lib.hid (HC1.out.past hb)
        have BX1' := Lib.hid (BX1.out.past hb)
        have HJ' := Lib.hid (HJ.out.past hb)
        have HM' := Lib.hid (HM.out.past hb)
        have Hb' := Lib.hid (Hb.out.trans (hb.mono Hb.out.size))
        clear hb HA1 HB1 HC1 BX1 HJ HM Hb
        have HA1 := HA1'
        have HB1 := HB1'
        have HC1 := HC1'
        have BX1 := BX1'
        have HJ := HJ'
        have HM := HM'
        have Hb := Hb'
        clear HA1' HB1' HC1' BX1' HJ' HM' Hb'
        go_wp2_with fail
        refine (f_leq C B cc cb c b rfl _ HC1.out HB1.out).mono ?_
        rintro e x2 ⟨rfl, hb⟩
        have HA1' := Lib.hid (HA1.out.past hb)
        have HB1' := Lib.hid (HB1.out.past hb)
        have HC1' := Lib.hid (HC1.out.past hb)
        have BX1' := Lib.hid (BX1.out.past hb)
        have HJ' := Lib.hid (HJ.out.past hb)
        have HM' := Lib.hid (HM.out.past hb)
        have Hb' := Lib.hid (Hb.out.trans (hb.mono Hb.out.size))
        clear hb HA1 HB1 HC1 BX1 HJ HM Hb
        have HA1 := HA1'
        have HB1 := HB1'
        have HC1 := HC1'
        have BX1 := BX1'
        have HJ := HJ'
        have HM := HM'
        have Hb := Hb'
        clear HA1' HB1' HC1' BX1' HJ' HM' Hb'
        go_wp2_with fail
        go_meet
        exact ⟨by rw [Hp.out], HA1, HB1, HC1, HJ, HM, BX1, Hb⟩
      · have hq2 : leq c a = false := by simpa using hq1
        have Hp := Lib.hid (show q = false by rw [hq.out, hq2, Bool.false_and])
        have Hq1 := Lib.hid hq2
        clear hq1 hq2
        go_wp2_with fail
        refine (f_leq C A cc ca c a Hq1.out _ HC1.out HA1.out).mono ?_
        rintro e x1 ⟨rfl, hb⟩
        have HA1' := Lib.hid (HA1.out.past hb)
        have HB1' := Lib.hid (HB1.out.past hb)
        have HC1' := Lib.hid (HC1.out.past hb)
        have BX1' := Lib.hid (BX1.out.past hb)
        have HJ' := Lib.hid (HJ.out.past hb)
        have HM' := Lib.hid (HM.out.past hb)
        have Hb' := Lib.hid (Hb.out.trans (hb.mono Hb.out.size))
        clear hb HA1 HB1 HC1 BX1 HJ HM Hb
        have HA1 := HA1'
        have HB1 := HB1'
        have HC1 := HC1'
        have BX1 := BX1'
        have HJ := HJ'
        have HM := HM'
        have Hb := Hb'
        clear HA1' HB1' HC1' BX1' HJ' HM' Hb'
        go_wp2_with fail
        go_meet
        exact ⟨by rw [Hp.out], HA1, HB1, HC1, HJ, HM, BX1, Hb⟩
    case rest =>
      obtain ⟨rfl, HA1', HB1', HC1', HJ', HM', BX1', Hb'⟩ := hcut
      clear HA1 HB1 HC1 HJ HM BX1 Hb
      have HA1 := HA1'
      have HB1 := HB1'
      have HC1 := HC1'
      have HJ := HJ'
      have HM := HM'
      have BX1 := BX1'
      have Hb := Hb'
      clear HA1' HB1' HC1' HJ' HM' BX1' Hb'
      go_wp2_with fail
      refine wp_region_noPanic ?_
      refine wp_region_held_drew (S := latS w A a B b C c J M dt ds dr) (by kernel_rfl) ⟨BX1.out.drew, HA1.out.past (Below.refl _ _).drew, HB1.out.past (Below.refl _ _).drew, HC1.out.past (Below.refl _ _).drew, HJ.out.past (Below.refl _ _).drew, HM.out.past (Below.refl _ _).drew⟩ (fun hHeld => ?_)
      refine Rg_end (fun (g : Nat → Value) => (⟨#[Sl A a.length ca, Sl B b.length cb, Sl C c.length cc, (g 3), (g 4), (g 5), (g 6), pt w.heap.size 0, (g 8), Sl J (join a b).length j, Sl M (meet a b).length m, .bool p, .bool q, (g 13), (g 14), (g 15), (g 16), (g 17), (g 18), (g 19), (g 20), (g 21), (g 22), (g 23), (g 24), (g 25), (g 26), (g 27), (g 28), (g 29), (g 30), (g 31), (g 32), (g 33), (g 34), (g 35), (g 36), (g 37), (g 38), (g 39), (g 40), (g 41), (g 42), (g 43), (g 44), (g 45), (g 46), (g 47), (g 48), (g 49), (g 50), (g 51), (g 52), (g 53), (g 54), (g 55), (g 56), (g 57), (g 58), (g 59), (g 60), (g 61), (g 62), (g 63), (g 64), (g 65), (g 66), (g 67), (g 68), (g 69), (g 70), (g 71), (g 72), (g 73), (g 74), (g 75), (g 76), (g 77), (g 78), (g 79), (g 80), (g 81), (g 82), (g 83), (g 84), (g 85), (g 86), (g 87), (g 88), (g 89), (g 90), (g 91), (g 92), (g 93), (g 94), (g 95), (g 96), (g 97), (g 98), (g 99), (g 100), (g 101), (g 102), (g 103), (g 104), (g 105), (g 106), (g 107), (g 108), (g 109), (g 110), (g 111), (g 112), (g 113), (g 114), (g 115), (g 116), (g 117), (g 118), (g 119), (g 120), (g 121), (g 122), (g 123), (g 124), (g 125), (g 126), (g 127), (g 128), (g 129), (g 130), (g 131), (g 132), (g 133), (g 134), (g 135), (g 136), (g 137), (g 138), (g 139), (g 140), (g 141), (g 142), (g 143), (g 144), (g 145), (g 146), (g 147), (g 148), (g 149), (g 150), (g 151), (g 152), (g 153), (g 154), (g 155), (g 156), (g 157), (g 158), (g 159)], []⟩ : Act)) (by kernel_rfl) (by kernel_rfl) (by kernel_rfl) (fun g => ?_) (fuel' := 97) (l' := #[false, false, false, false, false, false, false, false, false, false, false, false, false, false, false, false, false, false, false, false, false, false, false, false, false, false, false, false, false, false, false, false, false, false, false, false, false, false, false, false, false, false, false, false, false, false, false, false, false, false, false, false, false, false, false, false, false, false, false, false, false, false, false, false, false, false, false, false, false, false, false, false, false, false, false, false, false, false, false, false, false, false, false, false, false, false, false, false, false, false, false, false, false, false, false, false, false])
      refine lat_A w A ca a B cb b C cc c J j M m dt ds dr p q Va Vb Vc hp hq (fun _ _ _ _ h => h) g _ hHeld (Hb.out.drew) (fun g0 y0 hH0 hB0 => ?_)
      refine lat_P w A ca a B cb b C cc c J j M m dt ds dr p q Va Vb Vc hp hq (fun _ _ _ _ h => h) g0 _ hH0 (hB0) (fun g1 y1 hH1 hB1 => ?_)
      refine lat_Q w A ca a B cb b C cc c J j M m dt ds dr p q Va Vb Vc hp hq (fun _ _ _ _ h => h) g1 _ hH1 (hB1) (fun g2 y2 hH2 hB2 => ?_)
      refine lat_C w A ca a B cb b C cc c J j M m dt ds dr p q Va Vb Vc hp hq (fun _ _ _ _ h => h) g2 _ hH2 (hB2) (fun g3 y3 hH3 hB3 => ?_)
      refine lat_D w A ca a B cb b C cc c J j M m dt ds dr p q Va Vb Vc hp hq (fun _ _ _ _ h => h) g3 _ hH3 (hB3) (fun g4 y4 hH4 hB4 => ?_)
      refine lat_E w A ca a B cb b C cc c J j M m dt ds dr p q Va Vb Vc hp hq (fun _ _ _ _ h => h) g4 _ hH4 (hB4) (fun g5 y5 hH5 hB5 => ?_)
      refine lat_G w A ca a B cb b C cc c J j M m dt ds dr p q Va Vb Vc hp hq (fun _ _ _ _ h => h) g5 _ hH5 (hB5) (fun g6 y6 hH6 hB6 => ?_)
      refine Rg.frame { tmps := #[.slice A a.length ca, .slice B b.length cb, .slice C c.length cc, (g6 3), (g6 4), (g6 5), (g6 6), .pointer (some ⟨w.heap.size, 0, none⟩), .bool true, .slice J (join a b).length j, .slice M (meet a b).length m, .bool p, .bool q, (g6 13), (g6 14), (g6 15), (g6 16), (g6 17), (g6 18), (g6 19), (g6 20), (g6 21), (g6 22), (g6 23), (g6 24), (g6 25), (g6 26), (g6 27), (g6 28), (g6 29), (g6 30), (g6 31), (g6 32), (g6 33), (g6 34), (g6 35), (g6 36), (g6 37), (g6 38), (g6 39), (g6 40), (g6 41), (g6 42), (g6 43), (g6 44), (g6 45), (g6 46), (g6 47), (g6 48), (g6 49), (g6 50), (g6 51), (g6 52), (g6 53), (g6 54), (g6 55), (g6 56), (g6 57), (g6 58), (g6 59), (g6 60), (g6 61), (g6 62), (g6 63), (g6 64), (g6 65), (g6 66), (g6 67), (g6 68), (g6 69), (g6 70), (g6 71), (g6 72), (g6 73), (g6 74), (g6 75), (g6 76), (g6 77), (g6 78), (g6 79), (g6 80), (g6 81), (g6 82), (g6 83), (g6 84), (g6 85), (g6 86), (g6 87), (g6 88), (g6 89), (g6 90), (g6 91), (g6 92), (g6 93), (g6 94), (g6 95), (g6 96), (g6 97), (g6 98), (g6 99), (g6 100), (g6 101), (g6 102), (g6 103), (g6 104), (g6 105), (g6 106), (g6 107), (g6 108), (g6 109), (g6 110), (g6 111), (g6 112), (g6 113), (g6 114), (g6 115), (g6 116), (g6 117), (g6 118), (g6 119), (g6 120), (g6 121), (g6 122), (g6 123), (g6 124), (g6 125), (g6 126), (g6 127), (g6 128), (g6 129), (g6 130), (g6 131), (g6 132), (g6 133), (g6 134), (g6 135), (g6 136), (g6 137), (g6 138), (g6 139), (g6 140), (g6 141), (g6 142), (g6 143), (g6 144), (g6 145), (g6 146), (g6 147), (g6 148), (g6 149), (g6 150), (g6 151), (g6 152), (g6 153), (g6 154), (g6 155), (g6 156), (g6 157), (g6 158), (g6 159)], defers := [] } (by kernel_rfl) ?_
      refine wpAnyH_done (by kernel_rfl) ?_ _
      refine NoPanic.normal ?_
      have Hy := Lib.hid hB6
      go_wp2_with fail
      go_ret
      exact ⟨rfl, Hy.out⟩
end Go.Proofs.Ytiglepmgonmhiaa.Cs
