/- NameCases: the walk. -/
import Derived.Test.YtfgcmljlamodbaaNKnown
import Derived.Test.YtfgcmljlamodbaaNCaseSp
namespace Go.Proofs.Ytfgcmljlamodbaa
open Go.RowKit
set_option linter.unusedVariables false
set_option maxRecDepth 100000

/-- A new row of bytes made a string: the row's cells at block g of whatever world. -/
theorem conv_blk (w : World) (g n : Nat) (l : List UInt8) (hn : n = l.length) (h : Blk w g 5 (Lib.byteCells l).toArray) :
    (convert 45 9 (.slice (some ⟨g, 0, none⟩) n n)).run Try.prog w = .ok (.string (Nm.mk l)) w := by
  subst hn
  refine run_convert_bytes_back (P := Try.prog) w 45 9 5 ⟨g, 0, none⟩ _ l Try.underlying45 Try.underlying5 Try.underlying9 (fun j hj => ?_)
  rw [Addr.add_lit, Nat.zero_add, h.cell j]
  simp only [List.getElem?_toArray, Lib.byteCells, List.getElem?_map, List.getElem?_eq_getElem hj]
  rfl
theorem one_open {w : World} {P : Nat → Prop} {A : Option Addr} {x y : ByteArray} (h : DAt w P A [[(x, y)]]) : ∃ ad a0 c0, A = some ad ∧ P ad.block ∧ P a0.block ∧ 1 ≤ c0 ∧ w.cell? ad = some (.slice (some a0) 1 c0) ∧ w.cell? a0 = some (.string x) ∧ w.cell? ⟨a0.block, a0.off + 1, none⟩ = some (.string y) := by
  obtain ⟨ad, rfl, hp, hc⟩ := h (by simp)
  obtain ⟨A0, c0, e0, l0, r0⟩ := hc 0 (by simp)
  obtain ⟨a0, rfl, hp0, hc0⟩ := r0 (by simp)
  obtain ⟨x0, x1⟩ := hc0 0 (by simp)
  rw [add_zero'] at e0
  rw [add_odd, show 0 * 2 = 0 from rfl, add_zero'] at x1
  rw [show 0 * 2 = 0 from rfl, add_zero'] at x0
  exact ⟨ad, a0, c0, rfl, hp, hp0, l0, e0, x0, x1⟩
theorem wf_u8 {a : Int} (h : (Lit.int .u8 a).wf = true) : 0 ≤ a ∧ a ≤ 255 := by simpa [Lit.wf, IntKind.min, IntKind.max, IntKind.signed, IntKind.bits] using h
set_option maxHeartbeats 8000000 in
theorem cases_go (a b v : Int) (m n p : Nat) (w : World) (ha : 0 ≤ a ∧ a ≤ 255) (hb : 0 ≤ b ∧ b ≤ 255) (hv : 0 ≤ v ∧ v ≤ 255) (hm : a % 26 = m) (hn : b % 10 = n) (hp : v % 26 = p) :
    Calls Try.prog 6 #[.int .u8 a, .int .u8 b, .int .u8 v] w fun r w' => r = .returned (.bool true) ∧ Below w.heap.size w w' := by
  obtain ⟨hK, hT⟩ := Nm.cases_of m n p (by omega) (by omega) (by omega)
  obtain ⟨t1, ht1⟩ : ∃ t1 : UInt8, t1 = (97 + m).toUInt8 := ⟨_, rfl⟩
  obtain ⟨b1, hb1⟩ : ∃ b1 : UInt8, b1 = (65 + m).toUInt8 := ⟨_, rfl⟩
  obtain ⟨n1, hn1⟩ : ∃ n1 : UInt8, n1 = (48 + n).toUInt8 := ⟨_, rfl⟩
  obtain ⟨v1, hv1⟩ : ∃ v1 : UInt8, v1 = (65 + p).toUInt8 := ⟨_, rfl⟩
  obtain ⟨v2, hv2⟩ : ∃ v2 : UInt8, v2 = (97 + p).toUInt8 := ⟨_, rfl⟩
  rw [← ht1, ← hn1, ← hb1, ← hv1, ← hv2] at hK
  rw [← hb1, ← hn1] at hT
  have e1 : 97 + a % 26 = (t1.toNat : Int) := by rw [ht1, UInt8.toNat_ofNat']; omega
  have e2 : 65 + a % 26 = (b1.toNat : Int) := by rw [hb1, UInt8.toNat_ofNat']; omega
  have e3 : 48 + b % 10 = (n1.toNat : Int) := by rw [hn1, UInt8.toNat_ofNat']; omega
  have e4 : 65 + v % 26 = (v1.toNat : Int) := by rw [hv1, UInt8.toNat_ofNat']; omega
  have e5 : 97 + v % 26 = (v2.toNat : Int) := by rw [hv2, UInt8.toNat_ofNat']; omega
  clear ht1 hb1 hn1 hv1 hv2 hm hn hp
  obtain ⟨ha0, ha1⟩ := ha
  obtain ⟨hb0, hb1⟩ := hb
  obtain ⟨hv0, hv1⟩ := hv
  have CV := Lib.hid conv_blk
  go_enter Try.func6, Try.ntmps6
  go_wp2_with fail
  refine (nknown_any _).mono ?_
  rintro r w1 ⟨rfl, hbw⟩
  have X1 := CV.out (w1.alloc (.cells #[.int .u8 t1.toNat, .int .u8 n1.toNat, .int .u8 45] 5)) w1.heap.size 3 [t1, n1, 45] rfl (Blk.new w1 _ _)
  obtain ⟨wa, hwa⟩ : ∃ wa, wa = w1.alloc (.cells #[.int .u8 t1.toNat, .int .u8 n1.toNat, .int .u8 45] 5) := ⟨_, rfl⟩
  obtain ⟨wb, hwb⟩ : ∃ wb, wb = wa.alloc (.cells #[.int .u8 b1.toNat, .int .u8 n1.toNat, .int .u8 45] 5) := ⟨_, rfl⟩
  obtain ⟨wc, hwc⟩ : ∃ wc, wc = wb.alloc (.cells #[.int .u8 v1.toNat, .int .u8 v2.toNat] 5) := ⟨_, rfl⟩
  have ga : wa.heap.size = w1.heap.size + 1 := by rw [hwa]; simp
  have gb : wb.heap.size = w1.heap.size + 1 + 1 := by rw [hwb]; simp [ga]
  have X2 := CV.out wb wa.heap.size 3 [b1, n1, 45] rfl (by rw [hwb]; exact Blk.new wa _ _)
  have X3 := CV.out wc wb.heap.size 2 [v1, v2] rfl (by rw [hwc]; exact Blk.new wb _ _)
  have hbc : Below w1.heap.size w1 wc := by
    rw [hwc, hwb, hwa]
    exact (((Below.refl _ _).alloc (Nat.le_refl _) _).alloc (by simp) _).alloc (by simp; omega) _
  have HBC := Lib.hid (hbw.trans (hbc.mono hbw.size))
  rw [ga] at X2
  rw [gb] at X3
  have Z1 : (Nm.mk [b1, n1, 45]).size = 3 := rfl
  have Z2 : (Nm.mk [t1, n1, 45]).size = 3 := rfl
  have Z3 : (Nm.mk [v1, v2]).size = 2 := rfl
  have Z4 : ((⟨#[61]⟩ : ByteArray)).size = 1 := rfl
  have Z5 : ((⟨#[44]⟩ : ByteArray)).size = 1 := rfl
  have Z6 : ((⟨#[43]⟩ : ByteArray)).size = 1 := rfl
  clear ga gb hbc
  subst hwa hwb hwc
  clear hbw
  have CP := Lib.hid parseD_any
  have D1 := hK.d1
  have D2 := hK.d2
  have D3 := hK.d3
  have PR := hK.pr
  have LW := hK.low
  have TY := hK.typ
  clear hK CV
  obtain ⟨av, hav⟩ : ∃ av : Nm.Ava, av = (Nm.mk [t1, n1, 45], Nm.mk [v1, v2]) := ⟨_, rfl⟩
  rw [← hav] at D1 D2 PR
  have E1 : Nm.dnm (Nm.bs (Nm.mk [b1, n1, 45] ++ ⟨#[61]⟩ ++ Nm.mk [v1, v2])) = some [[av]] := by rw [← D1]; rfl
  have E2 : Nm.dnm (Nm.bs (Nm.mk [t1, n1, 45] ++ ⟨#[61]⟩ ++ Nm.mk [v1, v2] ++ ⟨#[44]⟩ ++ Nm.mk [b1, n1, 45] ++ ⟨#[61]⟩ ++ Nm.mk [v1, v2])) = some [[av], [av]] := by rw [← D2]; rfl
  have E3 : Nm.dnm (Nm.bs (Nm.mk [t1, n1, 45] ++ ⟨#[61]⟩ ++ Nm.mk [v1, v2] ++ ⟨#[43]⟩ ++ Nm.mk [b1, n1, 45] ++ ⟨#[61]⟩ ++ Nm.mk [v1, v2])) = none := by rw [← D3]; rfl
  have E4 : Nm.mk (prDnV [[av]]) = Nm.mk [t1, n1, 45] ++ ⟨#[61]⟩ ++ Nm.mk [v1, v2] := by rw [PR]; rfl
  have E5 : Nm.isType (Nm.bs (Nm.mk [t1, n1, 45])) = true := TY
  have E6 : Nm.isType (Nm.bs (Nm.mk [b1, n1, 45])) = false := hT
  have E7 : Nm.mk (Nm.lower (Nm.bs (Nm.mk [b1, n1, 45]))) = Nm.mk [t1, n1, 45] := congrArg Nm.mk LW
  have P1 : Hid (∀ w, Calls Try.prog 15 #[.string (Nm.mk [b1, n1, 45] ++ ⟨#[61]⟩ ++ Nm.mk [v1, v2])] w (DnPost w.heap.size w (some [[av]]))) := fun w => E1 ▸ parseD_any _ w (by simp only [ByteArray.size_append, Z1, Z3, Z4]; decide)
  have P2 : Hid (∀ w, Calls Try.prog 15 #[.string (Nm.mk [t1, n1, 45] ++ ⟨#[61]⟩ ++ Nm.mk [v1, v2] ++ ⟨#[44]⟩ ++ Nm.mk [b1, n1, 45] ++ ⟨#[61]⟩ ++ Nm.mk [v1, v2])] w (DnPost w.heap.size w (some [[av], [av]]))) := fun w => E2 ▸ parseD_any _ w (by simp only [ByteArray.size_append, Z1, Z2, Z3, Z4, Z5]; decide)
  have P3 : Hid (∀ w, Calls Try.prog 15 #[.string (Nm.mk [t1, n1, 45] ++ ⟨#[61]⟩ ++ Nm.mk [v1, v2] ++ ⟨#[43]⟩ ++ Nm.mk [b1, n1, 45] ++ ⟨#[61]⟩ ++ Nm.mk [v1, v2])] w (DnPost w.heap.size w none)) := fun w => E3 ▸ parseD_any _ w (by simp only [ByteArray.size_append, Z1, Z2, Z3, Z4, Z6]; decide)
  clear E1 E2 E3 D1 D2 D3 PR LW TY hT CP
  go_wp2_with fail
  refine (P1.out _).mono ?_
  rintro r w2 ⟨A, c, rfl, hc, hD, hb1⟩
  have HB1 := Lib.hid (HBC.out.trans (hb1.mono HBC.out.size))
  have HD1 := Lib.hid (hD.imp (w' := w2) (P' := (· < w2.heap.size)) (fun b h => h.2) (fun _ _ => rfl))
  clear hD hb1 HBC X1 X2 X3 P1
  go_wp2_with fail
  refine (P2.out _).mono ?_
  rintro r w3 ⟨A', c', rfl, hc', hD, hb2⟩
  have HD2 := Lib.hid (HD1.out.past hb2)
  have HB2 := Lib.hid (HB1.out.trans (hb2.mono HB1.out.size))
  clear hD hb2 HD1 HB1 P2
  go_wp2_with fail
  refine (P3.out _).mono ?_
  rintro r w4 ⟨rfl, hb3⟩
  have HD3 := Lib.hid (HD2.out.past hb3)
  have HB3 := Lib.hid (HB2.out.trans (hb3.mono HB2.out.size))
  clear hb3 HD2 HB2 P3
  have HD4 := HD3.out
  rw [hav] at HD4
  obtain ⟨ad, a0, c0, rfl, q1, q2, l0, x0, x1, x2⟩ := one_open HD4
  clear HD4
  go_wp2_with fail
  refine ((E4 ▸ prDn_any [[av]] (some ad) c w4 HD3.out (by show 1 ≤ maxLen; unfold maxLen; omega) (fun r hr => by rw [List.mem_singleton.1 hr]; show 1 ≤ maxLen; unfold maxLen; omega) : Calls Try.prog 23 #[.slice (some ad) 1 c] w4 fun e w' => e = .returned (.string (Nm.mk [t1, n1, 45] ++ ⟨#[61]⟩ ++ Nm.mk [v1, v2])) ∧ Below w4.heap.size w4 w')).mono ?_
  rintro r w5 ⟨rfl, hb4⟩
  have HB4 := Lib.hid (HB3.out.trans (hb4.mono HB3.out.size))
  clear hb4 x0 x1 x2 q1 q2 HD3 HB3 E4
  go_wp2_with fail
  refine ((E5 ▸ isType_any (Nm.mk [t1, n1, 45]) w5 : Calls Try.prog 25 #[.string (Nm.mk [t1, n1, 45])] w5 fun e w' => e = .returned (.bool true) ∧ w5 = w')).mono ?_
  rintro r w6 ⟨rfl, rfl⟩
  go_wp2_with fail
  refine ((E6 ▸ isType_any (Nm.mk [b1, n1, 45]) w5 : Calls Try.prog 25 #[.string (Nm.mk [b1, n1, 45])] w5 fun e w' => e = .returned (.bool false) ∧ w5 = w')).mono ?_
  rintro r w6 ⟨rfl, rfl⟩
  go_wp2_with fail
  refine ((E7 ▸ lower_any (Nm.mk [b1, n1, 45]) w5 (by rw [Z1]; omega) : Calls Try.prog 27 #[.string (Nm.mk [b1, n1, 45])] w5 fun e w' => e = .returned (.string (Nm.mk [t1, n1, 45])) ∧ Below w5.heap.size w5 w')).mono ?_
  rintro r w6 ⟨rfl, hb5⟩
  have HB5 := Lib.hid (HB4.out.trans (hb5.mono HB4.out.size))
  clear hb5 HB4 E5 E6 E7
  go_wp2_with fail
  go_ret
  exact ⟨rfl, HB5.out⟩
theorem walk_NameCases (a : Int) (ha : (Lit.int .u8 a).wf = true) (b : Int) (hb : (Lit.int .u8 b).wf = true) (v : Int) (hv : (Lit.int .u8 v).wf = true) (w : World) :
    Calls Try.prog 6 #[.int .u8 a, .int .u8 b, .int .u8 v] w fun r w' => r = .returned (.bool true) ∧ Below w.heap.size w w' := by
  have h1 := wf_u8 ha
  have h2 := wf_u8 hb
  have h3 := wf_u8 hv
  exact cases_go a b v (a % 26).toNat (b % 10).toNat (v % 26).toNat w h1 h2 h3 (by omega) (by omega) (by omega)
end Go.Proofs.Ytfgcmljlamodbaa
