/- What the examples ask, 'known': true. -/
import Derived.Test.YtiglepmgonmhiaaVcRaise
import Derived.Test.YtiglepmgonmhiaaVcCov
import Derived.Test.YtiglepmgonmhiaaVcLeast
namespace Go.Proofs.Ytiglepmgonmhiaa.Cs
open Go.RowKit
set_option linter.unusedVariables false
set_option maxRecDepth 100000

def v0 : List Nm := [⟨0, 0, 0⟩, ⟨0, 0, 1⟩]
def w0 : List Nm := [⟨0, 0, 0⟩, ⟨5, 0, 1⟩]
theorem VecIn.at_ {w : World} {ad : Addr} {l : List Nm} (h : VecIn w (some ad) l) {i : Nat} (hi : i < l.length) : At3 w (ad.add (i * 3)) l[i] := by
  obtain ⟨ad', e, _, h3⟩ := h.at3 hi
  injection e with e
  subst e
  exact h3
theorem k_new (w : World) : Calls Try.prog 8 #[.int .i64 2] w fun e w' => ∃ ad c, e = .returned (.slice (some ad) 2 c) ∧ VecIn w' (some ad) v0 ∧ Below w.heap.size w w' := by
  refine (New_any 2 w).mono fun e w' ⟨v, h1, h2, h3⟩ => ?_
  rw [show newV 2 = v0 by kernel_rfl] at h2
  obtain ⟨A, c, h4, h5⟩ := h2.form
  obtain ⟨ad, rfl, -, -⟩ := h5.at3 (i := 0) (by decide)
  exact ⟨ad, c, by rw [h1, h4]; rfl, h5, h3⟩
theorem k_raise (ad : Addr) (c : Nat) (w : World) (h : VecIn w (some ad) v0) : Calls Try.prog 12 #[.slice (some ad) 2 c, cv 5 0 1] w fun e w' => ∃ ad' c', e = .returned (.slice (some ad') 2 c') ∧ VecIn w' (some ad') w0 ∧ Below w.heap.size w w' ∧ 2 ≤ c' := by
  refine (Raise_any (some ad) c v0 5 0 1 w h).mono fun e w' ⟨A, c', h1, h2, h3, h4⟩ => ?_
  rw [show raise v0 ⟨5, 0, 1⟩ = w0 by kernel_rfl] at h1 h2 h4
  obtain ⟨ad, rfl, -, -⟩ := h2.at3 (i := 0) (by decide)
  exact ⟨ad, c', h1, h2, h3, h4.1⟩
theorem k_leq1 (a b : Addr) (c d : Nat) (w : World) (h : VecIn w (some a) v0) (k : VecIn w (some b) w0) : Calls Try.prog 18 #[.slice (some a) 2 c, .slice (some b) 2 d] w fun e w' => e = .returned (.bool true) ∧ Below w.heap.size w w' := by
  have := Leq_any (some a) (some b) c d v0 w0 w h k
  rw [show leq v0 w0 = true by kernel_rfl] at this
  exact this
theorem k_leq2 (a b : Addr) (c d : Nat) (w : World) (h : VecIn w (some a) w0) (k : VecIn w (some b) v0) : Calls Try.prog 18 #[.slice (some a) 2 c, .slice (some b) 2 d] w fun e w' => e = .returned (.bool false) ∧ Below w.heap.size w w' := by
  have := Leq_any (some a) (some b) c d w0 v0 w h k
  rw [show leq w0 v0 = false by kernel_rfl] at this
  exact this
theorem k_cov1 (a : Addr) (c : Nat) (w : World) (h : VecIn w (some a) w0) : Calls Try.prog 20 #[.slice (some a) 2 c, cv 5 0 1] w fun e w' => e = .returned (.bool true) ∧ Below w.heap.size w w' := by
  have := Covers_any (some a) c w0 5 0 1 w h
  rw [show covers w0 ⟨5, 0, 1⟩ = true by kernel_rfl] at this
  exact this
theorem k_cov2 (a : Addr) (c : Nat) (w : World) (h : VecIn w (some a) w0) : Calls Try.prog 20 #[.slice (some a) 2 c, cv 6 0 1] w fun e w' => e = .returned (.bool false) ∧ Below w.heap.size w w' := by
  have := Covers_any (some a) c w0 6 0 1 w h
  rw [show covers w0 ⟨6, 0, 1⟩ = false by kernel_rfl] at this
  exact this
theorem k_least (a : Addr) (c : Nat) (hc : 2 ≤ c) (w : World) (h : VecIn w (some a) w0) : Calls Try.prog 22 #[.slice (some a) 2 c] w fun e w' => e = .returned (cv 0 0 0) ∧ Below w.heap.size w w' := by
  have := Least_any (some a) c w0 w h hc
  rw [show least w0 = ⟨0, 0, 0⟩ by kernel_rfl] at this
  exact this
theorem k_is (a : Addr) (c : Nat) (w : World) (h : VecIn w (some a) w0) : Calls Try.prog 10 #[.slice (some a) 2 c] w fun e w' => e = .returned (.bool true) ∧ Below w.heap.size w w' := by
  have := Is_any (some a) c w0 w h
  rw [show isV w0 = true by kernel_rfl] at this
  exact this
theorem k_join (a b : Addr) (c d : Nat) (w : World) (h : VecIn w (some a) v0) (k : VecIn w (some b) w0) : Calls Try.prog 14 #[.slice (some a) 2 c, .slice (some b) 2 d] w fun e w' => ∃ A' c', e = .returned (.slice A' 2 c') ∧ VecIn w' A' w0 ∧ Below w.heap.size w w' := by
  have := Join_any (some a) (some b) c d v0 w0 w h k
  rw [show join v0 w0 = w0 by kernel_rfl] at this
  exact this
theorem k_meet (a b : Addr) (c d : Nat) (w : World) (h : VecIn w (some a) v0) (k : VecIn w (some b) w0) : Calls Try.prog 16 #[.slice (some a) 2 c, .slice (some b) 2 d] w fun e w' => ∃ A' c', e = .returned (.slice A' 2 c') ∧ VecIn w' A' v0 ∧ Below w.heap.size w w' := by
  have := Meet_any (some a) (some b) c d v0 w0 w h k
  rw [show meet v0 w0 = v0 by kernel_rfl] at this
  exact this
theorem k_same1 (A : Option Addr) (b : Addr) (c d : Nat) (w : World) (h : VecIn w A w0) (k : VecIn w (some b) w0) : Calls Try.prog 24 #[.slice A 2 c, .slice (some b) 2 d] w fun e w' => e = .returned (.bool true) ∧ Below w.heap.size w w' := by
  have := Same_any A (some b) c d w0 w0 w h k
  rw [decide_eq_true rfl] at this
  exact this
theorem k_same2 (A : Option Addr) (b : Addr) (c d : Nat) (w : World) (h : VecIn w A v0) (k : VecIn w (some b) v0) : Calls Try.prog 24 #[.slice A 2 c, .slice (some b) 2 d] w fun e w' => e = .returned (.bool true) ∧ Below w.heap.size w w' := by
  have := Same_any A (some b) c d v0 v0 w h k
  rw [decide_eq_true rfl] at this
  exact this
set_option maxHeartbeats 4000000 in
theorem known_any (w : World) : Calls Try.prog 6 #[] w fun r w' => r = .returned (.bool true) ∧ Below w.heap.size w w' := by
  have K1 := Lib.hid k_new
  have K2 := Lib.hid k_raise
  go_enter Try.func6, Try.ntmps6
  go_wp2_with fail
  refine (K1.out _).mono ?_
  rintro e w1 ⟨a, c, rfl, hV1, hb1⟩
  have HV1 := Lib.hid hV1
  have Hb1 := Lib.hid hb1
  clear hV1 hb1 K1
  go_wp2_with fail
  refine (K2.out a c _ HV1.out).mono ?_
  rintro e w2 ⟨b, d, rfl, hV2, hb2, hd⟩
  have HV := Lib.hid (HV1.out.past hb2)
  have HW := Lib.hid hV2
  have HB := Lib.hid (Hb1.out.trans (hb2.mono Hb1.out.size))
  have HD := Lib.hid hd
  have f1 := (HW.out.at_ (i := 1) (by decide)).1
  have f0 := (HV.out.at_ (i := 1) (by decide)).1
  rw [show b.add (1 * 3) = ⟨b.block, b.off + 3, none⟩ by simp [Addr.add]] at f1
  rw [show a.add (1 * 3) = ⟨a.block, a.off + 3, none⟩ by simp [Addr.add]] at f0
  have f1 : w2.cell? ⟨b.block, b.off + 3, none⟩ = some (.int .i64 5) := f1
  have f0 : w2.cell? ⟨a.block, a.off + 3, none⟩ = some (.int .i64 0) := f0
  clear hV2 hb2 hd K2 HV1 Hb1
  have KC := Lib.hid (k_leq1 a b c d _ HV.out HW.out)
  go_wp2_with fail
  refine KC.out.mono ?_
  rintro e w3 ⟨rfl, hb⟩
  have HV' := Lib.hid (HV.out.past hb)
  have HW' := Lib.hid (HW.out.past hb)
  have HB' := Lib.hid (HB.out.trans (hb.mono HB.out.size))
  clear hb HV HW HB KC f0 f1
  have HV := HV'
  have HW := HW'
  have HB := HB'
  clear HV' HW' HB'
  have KC := Lib.hid (k_leq2 b a d c _ HW.out HV.out)
  go_wp2_with fail
  refine KC.out.mono ?_
  rintro e w4 ⟨rfl, hb⟩
  have HV' := Lib.hid (HV.out.past hb)
  have HW' := Lib.hid (HW.out.past hb)
  have HB' := Lib.hid (HB.out.trans (hb.mono HB.out.size))
  clear hb HV HW HB KC
  have HV := HV'
  have HW := HW'
  have HB := HB'
  clear HV' HW' HB'
  have KC := Lib.hid (k_cov1 b d _ HW.out)
  go_wp2_with fail
  refine KC.out.mono ?_
  rintro e w5 ⟨rfl, hb⟩
  have HV' := Lib.hid (HV.out.past hb)
  have HW' := Lib.hid (HW.out.past hb)
  have HB' := Lib.hid (HB.out.trans (hb.mono HB.out.size))
  clear hb HV HW HB KC
  have HV := HV'
  have HW := HW'
  have HB := HB'
  clear HV' HW' HB'
  have KC := Lib.hid (k_cov2 b d _ HW.out)
  go_wp2_with fail
  refine KC.out.mono ?_
  rintro e w6 ⟨rfl, hb⟩
  have HV' := Lib.hid (HV.out.past hb)
  have HW' := Lib.hid (HW.out.past hb)
  have HB' := Lib.hid (HB.out.trans (hb.mono HB.out.size))
  clear hb HV HW HB KC
  have HV := HV'
  have HW := HW'
  have HB := HB'
  clear HV' HW' HB'
  have KC := Lib.hid (k_least b d HD.out _ HW.out)
  go_wp2_with fail
  refine KC.out.mono ?_
  rintro e w7 ⟨rfl, hb⟩
  have HV' := Lib.hid (HV.out.past hb)
  have HW' := Lib.hid (HW.out.past hb)
  have HB' := Lib.hid (HB.out.trans (hb.mono HB.out.size))
  clear hb HV HW HB KC
  have HV := HV'
  have HW := HW'
  have HB := HB'
  clear HV' HW' HB'
  have KC := Lib.hid (k_is b d _ HW.out)
  go_wp2_with fail
  refine KC.out.mono ?_
  rintro e w8 ⟨rfl, hb⟩
  have HV' := Lib.hid (HV.out.past hb)
  have HW' := Lib.hid (HW.out.past hb)
  have HB' := Lib.hid (HB.out.trans (hb.mono HB.out.size))
  clear hb HV HW HB KC
  have HV := HV'
  have HW := HW'
  have HB := HB'
  clear HV' HW' HB'
  have KC := Lib.hid (k_join a b c d _ HV.out HW.out)
  go_wp2_with fail
  refine KC.out.mono ?_
  rintro e w9 ⟨J, j, rfl, hJ, hb⟩
  have HV' := Lib.hid (HV.out.past hb)
  have HW' := Lib.hid (HW.out.past hb)
  have HB' := Lib.hid (HB.out.trans (hb.mono HB.out.size))
  have HJ := Lib.hid hJ
  clear hb HV HW HB KC hJ
  have HV := HV'
  have HW := HW'
  have HB := HB'
  clear HV' HW' HB'
  have KC := Lib.hid (k_same1 J b j d _ HJ.out HW.out)
  go_wp2_with fail
  refine KC.out.mono ?_
  rintro e w10 ⟨rfl, hb⟩
  have HV' := Lib.hid (HV.out.past hb)
  have HW' := Lib.hid (HW.out.past hb)
  have HB' := Lib.hid (HB.out.trans (hb.mono HB.out.size))
  clear hb HV HW HB KC
  have HV := HV'
  have HW := HW'
  have HB := HB'
  clear HV' HW' HB'
  have KC := Lib.hid (k_meet a b c d _ HV.out HW.out)
  go_wp2_with fail
  refine KC.out.mono ?_
  rintro e w11 ⟨M, m, rfl, hM, hb⟩
  have HV' := Lib.hid (HV.out.past hb)
  have HW' := Lib.hid (HW.out.past hb)
  have HB' := Lib.hid (HB.out.trans (hb.mono HB.out.size))
  have HM := Lib.hid hM
  clear hb HV HW HB KC hM
  have HV := HV'
  have HW := HW'
  have HB := HB'
  clear HV' HW' HB'
  have KC := Lib.hid (k_same2 M a m c _ HM.out HV.out)
  go_wp2_with fail
  refine KC.out.mono ?_
  rintro e w12 ⟨rfl, hb⟩
  have HV' := Lib.hid (HV.out.past hb)
  have HW' := Lib.hid (HW.out.past hb)
  have HB' := Lib.hid (HB.out.trans (hb.mono HB.out.size))
  clear hb HV HW HB KC
  have HV := HV'
  have HW := HW'
  have HB := HB'
  clear HV' HW' HB'
  go_wp2_with fail
  go_ret
  exact ⟨rfl, HB.out⟩
end Go.Proofs.Ytiglepmgonmhiaa.Cs
