/- 'known' of layer 4 answers true. -/
import Derived.Test.YtfgcmljlamodbaaNParseD
import Derived.Test.YtfgcmljlamodbaaNPr
import Derived.Test.YtfgcmljlamodbaaNSame
import Derived.KernelRfl
namespace Go.Proofs.Ytfgcmljlamodbaa
open Go.RowKit
set_option linter.unusedVariables false
set_option maxRecDepth 100000

/-- CN=a\, b,ou=x+uid=\c3y -/
def kt1 : ByteArray := ⟨#[67, 78, 61, 97, 92, 44, 32, 98, 44, 111, 117, 61, 120, 43, 117, 105, 100, 61, 92, 99, 51, 121]⟩
def kd : List (List Nm.Ava) := [[(⟨#[99, 110]⟩, ⟨#[97, 44, 32, 98]⟩)], [(⟨#[111, 117]⟩, ⟨#[120]⟩), (⟨#[117, 105, 100]⟩, ⟨#[195, 121]⟩)]]
def kr : List Nm.Ava := [(⟨#[99, 110]⟩, ⟨#[97]⟩)]
theorem nk1 : Nm.dnm (Nm.bs kt1) = some kd := by kernel_rfl
theorem nk2 : Nm.dnm (Nm.bs ⟨#[99, 110, 61, 32, 97]⟩) = none := by kernel_rfl
theorem nk3 : Nm.rdn (Nm.bs ⟨#[99, 110, 61, 97]⟩) = some kr := by kernel_rfl
theorem nk4 : Nm.mk (prDnV kd) = ⟨#[99, 110, 61, 97, 92, 44, 32, 98, 44, 111, 117, 61, 120, 43, 117, 105, 100, 61, 92, 99, 51, 121]⟩ := by kernel_rfl
theorem nk5 : Nm.mk (prRdnV kr) = ⟨#[99, 110, 61, 97]⟩ := by kernel_rfl
theorem nk6 : Nm.isDn kd = true := by kernel_rfl
theorem nk7 : Nm.isRdn kr = true := by kernel_rfl
theorem nk8 : Nm.isType (Nm.bs ⟨#[99, 110]⟩) = true := by kernel_rfl
theorem nk9 : Nm.mk (Nm.lower (Nm.bs ⟨#[97, 66]⟩)) = ⟨#[97, 98]⟩ := by kernel_rfl
theorem add_zero' (a : Addr) : a.add 0 = a := by unfold Addr.add; simp
theorem kd_open {w : World} {P : Nat → Prop} {A : Option Addr} (h : DAt w P A kd) : ∃ ad a0 c0 a1 c1, A = some ad ∧ P ad.block ∧ P a0.block ∧ P a1.block ∧ 1 ≤ c0 ∧ 2 ≤ c1 ∧ w.cell? ad = some (.slice (some a0) 1 c0) ∧ w.cell? ⟨ad.block, ad.off + 1, none⟩ = some (.slice (some a1) 2 c1) ∧
    w.cell? a0 = some (.string ⟨#[99, 110]⟩) ∧ w.cell? ⟨a0.block, a0.off + 1, none⟩ = some (.string ⟨#[97, 44, 32, 98]⟩) ∧ w.cell? ⟨a1.block, a1.off + 3, none⟩ = some (.string ⟨#[195, 121]⟩) := by
  obtain ⟨ad, rfl, hp, hc⟩ := h (by decide)
  obtain ⟨A0, c0, e0, l0, r0⟩ := hc 0 (by decide)
  obtain ⟨A1, c1, e1, l1, r1⟩ := hc 1 (by decide)
  obtain ⟨a0, rfl, hp0, hc0⟩ := r0 (by decide)
  obtain ⟨a1, rfl, hp1, hc1⟩ := r1 (by decide)
  obtain ⟨x0, x1⟩ := hc0 0 (by decide)
  obtain ⟨y0, y1⟩ := hc1 1 (by decide)
  rw [add_zero'] at e0
  rw [add_odd, show 0 * 2 = 0 from rfl, add_zero'] at x1
  rw [show 0 * 2 = 0 from rfl, add_zero'] at x0
  have y2 : w.cell? ⟨a1.block, a1.off + 3, none⟩ = some (.string ⟨#[195, 121]⟩) := y1
  have e2 : w.cell? ⟨ad.block, ad.off + 1, none⟩ = some (.slice (some a1) 2 c1) := e1
  exact ⟨ad, a0, c0, a1, c1, rfl, hp, hp0, hp1, l0, l1, e0, e2, x0, x1, y2⟩
set_option maxHeartbeats 8000000 in
theorem nknown_any (w : World) : Calls Try.prog 8 #[] w fun r w' => r = .returned (.bool true) ∧ Below w.heap.size w w' := by
  have C1 := Lib.hid (fun w => nk1 ▸ parseD_any kt1 w (by decide))
  have C2 := Lib.hid (fun w => nk2 ▸ parseD_any ⟨#[99, 110, 61, 32, 97]⟩ w (by decide))
  have C3 := Lib.hid (fun w => nk3 ▸ parseR_any ⟨#[99, 110, 61, 97]⟩ w (by decide))
  go_enter Try.func8, Try.ntmps8
  go_wp2_with fail
  refine (C1.out _).mono ?_
  rintro r w1 ⟨A, c, rfl, hc, hD, hb1⟩
  have HD := Lib.hid hD
  clear hD
  go_wp2_with fail
  refine (C2.out _).mono ?_
  rintro r w2 ⟨rfl, hb2⟩
  go_wp2_with fail
  refine (C3.out _).mono ?_
  rintro r w3 ⟨A', c', rfl, hc', hR, hb3⟩
  have hs1 := hb1.size
  have hs2 := hb2.size
  have hs3 := hb3.size
  have hb13 := hb2.trans (hb3.mono hs2)
  have hbw := hb1.trans (hb13.mono hs1)
  have hD3 := HD.out.imp (w' := w3) (P' := (· < w3.heap.size)) (fun b h => by omega) (fun p hp => hb13.cell hp.2)
  have HD3 := Lib.hid hD3
  have HR3 := Lib.hid (hR.imp (w' := w3) (P' := (· < w3.heap.size)) (fun b h => h.2) (fun _ _ => rfl))
  obtain ⟨ad, a0, c0, a1, c1, rfl, p1, p2, p3, l0, l1, e0, e1, x0, x1, y1⟩ := kd_open hD3
  have k2 : kd.length = 2 := rfl
  have k1 : kr.length = 1 := rfl
  rw [k2] at hc ⊢
  rw [k1] at hc' ⊢
  have CP : Hid (∀ w, DAt w (· < w.heap.size) (some ad) kd → Calls Try.prog 23 #[.slice (some ad) 2 c] w fun e w' => e = .returned (.string ⟨#[99, 110, 61, 97, 92, 44, 32, 98, 44, 111, 117, 61, 120, 43, 117, 105, 100, 61, 92, 99, 51, 121]⟩) ∧ Below w.heap.size w w') := fun w h => nk4 ▸ prDn_any kd (some ad) c w h (by decide) (by decide)
  have CQ : Hid (∀ w, RAt w (· < w.heap.size) A' kr → Calls Try.prog 24 #[.slice A' 1 c'] w fun e w' => e = .returned (.string ⟨#[99, 110, 61, 97]⟩) ∧ Below w.heap.size w w') := fun w h => nk5 ▸ prRdn_any kr A' c' w h (by decide) hc'
  have CD : Hid (∀ w, DAt w (· < w.heap.size) (some ad) kd → Calls Try.prog 21 #[.slice (some ad) 2 c] w fun e w' => e = .returned (.bool true) ∧ Below w.heap.size w w') := fun w h => nk6 ▸ isDn_any kd (some ad) c w h (by decide) (by decide)
  have CE : Hid (∀ w, RAt w (· < w.heap.size) A' kr → Calls Try.prog 22 #[.slice A' 1 c'] w fun e w' => e = .returned (.bool true) ∧ Below w.heap.size w w') := fun w h => nk7 ▸ isRdn_any kr A' c' w h (by decide) hc'
  have CN : Hid (∀ w, Calls Try.prog 22 #[.slice none 0 0] w fun e w' => e = .returned (.bool false) ∧ Below w.heap.size w w') := fun w => isRdn_any [] none 0 w (RAt.nil _ _ _) (by decide) (by decide)
  have CT : Hid (∀ w, Calls Try.prog 25 #[.string ⟨#[99, 110]⟩] w fun e w' => e = .returned (.bool true) ∧ w = w') := fun w => nk8 ▸ isType_any ⟨#[99, 110]⟩ w
  have CL : Hid (∀ w, Calls Try.prog 27 #[.string ⟨#[97, 66]⟩] w fun e w' => e = .returned (.string ⟨#[97, 98]⟩) ∧ Below w.heap.size w w') := fun w => nk9 ▸ lower_any ⟨#[97, 66]⟩ w (by decide)
  clear hR hD3 HD C1 C2 C3 hb1 hb2 hb3
  go_wp2_with fail
  refine (CP.out _ HD3.out).mono ?_
  rintro r w4 ⟨rfl, hb4⟩
  have HD4 := Lib.hid (HD3.out.past hb4)
  have HR4 := Lib.hid (HR3.out.past hb4)
  have hb5 := hbw.trans (hb4.mono (by omega))
  have hs4 := hb4.size
  clear HD3 HR3 hb4 e0 e1 x0 x1 y1 CP
  go_wp2_with fail
  refine (CQ.out _ HR4.out).mono ?_
  rintro r w5 ⟨rfl, hb6⟩
  have HD5 := Lib.hid (HD4.out.past hb6)
  have HR5 := Lib.hid (HR4.out.past hb6)
  have hb7 := hb5.trans (hb6.mono (by omega))
  have hs5 := hb6.size
  clear HD4 HR4 hb6 hb5 CQ
  go_wp2_with fail
  refine (CD.out _ HD5.out).mono ?_
  rintro r w6 ⟨rfl, hb8⟩
  have HR6 := Lib.hid (HR5.out.past hb8)
  have hb9 := hb7.trans (hb8.mono (by omega))
  have hs6 := hb8.size
  clear HD5 HR5 hb8 hb7 CD
  go_wp2_with fail
  refine (CE.out _ HR6.out).mono ?_
  rintro r w7 ⟨rfl, hb10⟩
  have hb11 := hb9.trans (hb10.mono (by omega))
  have hs7 := hb10.size
  clear HR6 hb9 hb10 CE
  go_wp2_with fail
  refine (CN.out _).mono ?_
  rintro r w8 ⟨rfl, hb12⟩
  have hb14 := hb11.trans (hb12.mono (by omega))
  have hs8 := hb12.size
  clear hb11 hb12 CN
  go_wp2_with fail
  refine (CT.out _).mono ?_
  rintro r w9 ⟨rfl, rfl⟩
  go_wp2_with fail
  refine (CL.out _).mono ?_
  rintro r w10 ⟨rfl, hb15⟩
  have hb16 := hb14.trans (hb15.mono (by omega))
  clear hb14 hb15 CL
  go_wp2_with fail
  go_ret
  exact ⟨rfl, hb16⟩
end Go.Proofs.Ytfgcmljlamodbaa
