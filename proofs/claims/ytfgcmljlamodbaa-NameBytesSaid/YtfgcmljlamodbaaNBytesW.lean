/- NameBytes: the walk. -/
import Derived.Test.YtfgcmljlamodbaaNCasesW
import Derived.Test.YtfgcmljlamodbaaNBackSp
namespace Go.Proofs.Ytfgcmljlamodbaa
open Go.RowKit
set_option linter.unusedVariables false
set_option maxRecDepth 100000

theorem dat_one (v : World) (x y : ByteArray) : DAt ((v.alloc (.cells #[.string x, .string y] 47)).alloc (.cells #[.slice (some ⟨v.heap.size, 0, none⟩) 1 1] 25))
    (· < ((v.alloc (.cells #[.string x, .string y] 47)).alloc (.cells #[.slice (some ⟨v.heap.size, 0, none⟩) 1 1] 25)).heap.size) (some ⟨v.heap.size + 1, 0, none⟩) [[(x, y)]] := fun _ => by
  have B1 := Blk.new v 47 #[.string x, .string y]
  have B2 := Blk.new (v.alloc (.cells #[.string x, .string y] 47)) 25 #[.slice (some ⟨v.heap.size, 0, none⟩) 1 1]
  have B3 := B1.alloc (.cells #[.slice (some ⟨v.heap.size, 0, none⟩) 1 1] 25)
  have e1 : (v.alloc (.cells #[.string x, .string y] 47)).heap.size = v.heap.size + 1 := by simp
  rw [e1] at B2
  refine ⟨_, rfl, by simp, fun i hi => ?_⟩
  have h0 : i = 0 := by simpa using hi
  subst h0
  refine ⟨some ⟨v.heap.size, 0, none⟩, 1, ?_, by simp, fun _ => ⟨_, rfl, by simp; omega, fun j hj => ?_⟩⟩
  · rw [add_zero', B2.cell]; rfl
  · have h1 : j = 0 := by simpa using hj
    subst h1
    rw [show 0 * 2 = 0 from rfl, add_zero', B3.cell, show ((⟨v.heap.size, 0, none⟩ : Addr).add (0 + 1)) = ⟨v.heap.size, 1, none⟩ from rfl, B3.cell]
    exact ⟨rfl, rfl⟩
/-- The text behind k rounds. -/
def hexT (a b c : UInt8) (k : Nat) : List UInt8 := [99, 110, 61] ++ (Nm.hex3 a b c).take (3 * k)
theorem hexT_step (a b c : UInt8) {k : Nat} (hk : k < 3) : ∃ d, (∀ h, (Nm.mk [a, b, c])[k]'h = d) ∧ hexT a b c (k + 1) = hexT a b c k ++ [92, Nm.hexU (d.toNat / 16), Nm.hexc (d.toNat % 16)] := by
  match k, hk with
  | 0, _ => exact ⟨a, fun _ => rfl, rfl⟩
  | 1, _ => exact ⟨b, fun _ => rfl, rfl⟩
  | 2, _ => exact ⟨c, fun _ => rfl, rfl⟩
def hexB : ByteArray := ⟨#[48, 49, 50, 51, 52, 53, 54, 55, 56, 57, 65, 66, 67, 68, 69, 70]⟩
theorem hexx_all : (List.range 16).all (fun n => decide ((hexB.extract n (n + 1)).data.toList = [Nm.hexU n] ∧ (hexS.extract n (n + 1)).data.toList = [Nm.hexc n])) = true := by kernel_rfl
theorem hexT_cat (a b c d : UInt8) (k : Nat) (T : ByteArray) (hT : T = Nm.mk (hexT a b c k)) (hS : hexT a b c (k + 1) = hexT a b c k ++ [92, Nm.hexU (d.toNat / 16), Nm.hexc (d.toNat % 16)]) :
    T ++ ⟨#[92]⟩ ++ (⟨#[48, 49, 50, 51, 52, 53, 54, 55, 56, 57, 65, 66, 67, 68, 69, 70]⟩ : ByteArray).extract (d.toNat / 16) (d.toNat / 16 + 1) ++ (⟨#[48, 49, 50, 51, 52, 53, 54, 55, 56, 57, 97, 98, 99, 100, 101, 102]⟩ : ByteArray).extract (d.toNat % 16) (d.toNat % 16 + 1) = Nm.mk (hexT a b c (k + 1)) := by
  have h256 := u8_lt d
  have h1 := (of_decide_eq_true (List.all_eq_true.1 hexx_all (d.toNat / 16) (by simp; omega))).1
  have h2 := (of_decide_eq_true (List.all_eq_true.1 hexx_all (d.toNat % 16) (by simp; omega))).2
  have e1 : (⟨#[48, 49, 50, 51, 52, 53, 54, 55, 56, 57, 65, 66, 67, 68, 69, 70]⟩ : ByteArray).extract (d.toNat / 16) (d.toNat / 16 + 1) = Nm.mk [Nm.hexU (d.toNat / 16)] := by
    rw [← h1]; rfl
  have e2 : (⟨#[48, 49, 50, 51, 52, 53, 54, 55, 56, 57, 97, 98, 99, 100, 101, 102]⟩ : ByteArray).extract (d.toNat % 16) (d.toNat % 16 + 1) = Nm.mk [Nm.hexc (d.toNat % 16)] := by
    rw [← h2]; rfl
  rw [e1, e2, hS, hT]
  refine ByteArray.ext ?_
  rw [ByteArray.data_append, ByteArray.data_append, ByteArray.data_append]
  refine Array.toList_inj.1 ?_
  simp
theorem same_cn (a b c : UInt8) (A B : Option Addr) (n m : Nat) (w : World) (hA : DAt w (· < w.heap.size) A (Nm.cn3 a b c)) (hB : DAt w (· < w.heap.size) B [[(⟨#[99, 110]⟩, Nm.mk [a, b, c])]]) :
    Calls Try.prog 19 #[.slice A 1 n, .slice B 1 m] w fun e w' => e = .returned (.bool true) ∧ Below w.heap.size w w' := by
  have h := same_any (Nm.cn3 a b c) (Nm.cn3 a b c) A B n m w hA hB (by show 1 ≤ maxLen; unfold maxLen; omega) (fun r hr => by rw [List.mem_singleton.1 hr]; show 1 ≤ maxLen; unfold maxLen; omega)
  rw [decide_eq_true rfl] at h
  exact h
set_option maxHeartbeats 8000000 in
theorem bytes_go (a b c : UInt8) (w : World) :
    Calls Try.prog 5 #[.int .u8 a.toNat, .int .u8 b.toNat, .int .u8 c.toNat] w fun r w' => r = .returned (.bool true) ∧ Below w.heap.size w w' := by
  have CV := Lib.hid conv_blk
  have PR := congrArg Nm.mk (show prDnV (Nm.cn3 a b c) = Nm.prDn (Nm.cn3 a b c) by unfold prDnV; rw [if_pos (Nm.cn3_ok a b c)])
  have D1 := Nm.cn3_back a b c
  have D2 := Nm.cn3_hex a b c
  go_enter Try.func5, Try.ntmps5
  go_wp2_with fail
  refine (nknown_any _).mono ?_
  rintro r w1 ⟨rfl, hbw⟩
  obtain ⟨wa, hwa⟩ : ∃ wa, wa = w1.alloc (.cells #[.int .u8 a.toNat, .int .u8 b.toNat, .int .u8 c.toNat] 5) := ⟨_, rfl⟩
  have ga : wa.heap.size = w1.heap.size + 1 := by rw [hwa]; simp
  have X1 := CV.out wa w1.heap.size 3 [a, b, c] rfl (by rw [hwa]; exact Blk.new w1 _ _)
  have HD := Lib.hid (dat_one wa ⟨#[99, 110]⟩ (Nm.mk [a, b, c]))
  have HB := Lib.hid (hbw.trans (((show Below w1.heap.size w1 ((wa.alloc (.cells #[.string ⟨#[99, 110]⟩, .string (Nm.mk [a, b, c])] 47)).alloc (.cells #[.slice (some ⟨wa.heap.size, 0, none⟩) 1 1] 25)) by
    rw [hwa]
    exact (((Below.refl _ _).alloc (Nat.le_refl _) _).alloc (by simp) _).alloc (by simp; omega) _)).mono hbw.size))
  rw [ga] at HD HB
  clear hbw ga
  subst hwa
  go_wp2_with fail
  refine ((PR ▸ prDn_any (Nm.cn3 a b c) _ 1 _ HD.out (by show 1 ≤ maxLen; unfold maxLen; omega) (fun r hr => by rw [List.mem_singleton.1 hr]; show 1 ≤ maxLen; unfold maxLen; omega) : Calls Try.prog 23 #[.slice (some ⟨w1.heap.size + 1 + 1, 0, none⟩) 1 1] _ fun e w' => e = .returned (.string (Nm.mk (Nm.prDn (Nm.cn3 a b c)))) ∧ Below _ _ w')).mono ?_
  rintro r w2 ⟨rfl, hb1⟩
  have HD2 := Lib.hid (HD.out.past hb1)
  have HB2 := Lib.hid (HB.out.trans (hb1.mono HB.out.size))
  clear hb1 HD HB X1
  go_wp2_with fail
  refine ((show Nm.dnm (Nm.bs (Nm.mk (Nm.prDn (Nm.cn3 a b c)))) = some (Nm.cn3 a b c) from D1) ▸ parseD_any (Nm.mk (Nm.prDn (Nm.cn3 a b c))) w2 (by have := Nm.prDn_le (Nm.cn3_ok a b c); show (Nm.prDn (Nm.cn3 a b c)).length ≤ _; omega)).mono ?_
  rintro r w3 ⟨A, cA, rfl, hc, hD, hb2⟩
  have HX := Lib.hid (hD.imp (w' := w3) (P' := (· < w3.heap.size)) (fun b h => h.2) (fun _ _ => rfl))
  have HD3 := Lib.hid (HD2.out.past hb2)
  have HB3 := Lib.hid (HB2.out.trans (hb2.mono HB2.out.size))
  clear hb2 hD HD2 HB2
  have l1 : (Nm.cn3 a b c).length = 1 := rfl
  rw [l1] at hc ⊢
  clear l1 PR D1 CV
  go_wp2_with fail
  go_loopw [11, 12] (fun s i wr => ∃ k : Nat, k ≤ 3 ∧ i = .int .i64 k ∧ s = .string (Nm.mk (hexT a b c k)) ∧ Below w3.heap.size w3 wr) (fun s i wr => 3 - (intOf i).toNat)
  case atStart => exact ⟨0, by omega, rfl, rfl, Below.refl _ _⟩
  case round =>
    obtain ⟨k, hk, rfl, rfl, hbr⟩ := hrel
    have HBR := Lib.hid hbr
    clear hbr
    obtain ⟨T, hT⟩ : ∃ T, T = Nm.mk (hexT a b c k) := ⟨_, rfl⟩
    have hTs : T.size ≤ 12 := by
      rw [hT]
      show (hexT a b c k).length ≤ 12
      unfold hexT Nm.hex3
      simp
      omega
    rw [← hT]
    have HT := Lib.hid hT
    clear hT
    go_wp2_with fail
    · rename_i hk3
      obtain ⟨d, hd, hS⟩ := hexT_step a b c (k := k) (by omega)
      have h256 := u8_lt d
      have g0 : 0 ≤ (d.toNat : Int) / 16 := by omega
      have g1 : (d.toNat : Int) / 16 < 16 := by omega
      have g2 : (d.toNat : Int) % 16 < 16 := by omega
      have g3 : 0 ≤ (d.toNat : Int) % 16 := by omega
      have g4 : bits .and .u8 (d.toNat : Int) 15 = (d.toNat : Int) % 16 := and15 d
      have Z1 : (Nm.mk [a, b, c]).size = 3 := rfl
      have k0 : ¬ (9223372036854775807 < T.size + 1) := by omega
      have k1 : ¬ (9223372036854775807 < T.size + 2) := by omega
      have k2 : ¬ (9223372036854775807 < T.size + 1 + 1) := by omega
      go_region
      rw [hexT_cat a b c d k T HT.out hS]
      clear k0 k1 k2 hTs HT hS hd
      go_wp2_with fail
      refine ⟨⟨k + 1, by omega, rfl, rfl, HBR.out.drew⟩, ?_⟩
      show 3 - ((k : Int) + 1).toNat < 3 - (k : Int).toNat
      omega
    · have hk3 : k = 3 := by omega
      subst hk3
      have T2 : Nm.dnm (Nm.bs T) = some (Nm.cn3 a b c) := by
        rw [HT.out, ← D2]
        rfl
      have CP : Hid (Calls Try.prog 15 #[.string T] wr (DnPost wr.heap.size wr (some (Nm.cn3 a b c)))) := T2 ▸ parseD_any T wr (by omega)
      clear D2 T2
      refine CP.out.mono ?_
      rintro r w4 ⟨A', c', rfl, hc', hD, hb⟩
      have HX4 := Lib.hid ((HX.out.past HBR.out).past hb)
      have HD4 := Lib.hid ((HD3.out.past HBR.out).past hb)
      have HY4 := Lib.hid (hD.imp (w' := w4) (P' := (· < w4.heap.size)) (fun b h => h.2) (fun _ _ => rfl))
      have HB4 := Lib.hid ((HB3.out.trans (HBR.out.mono HB3.out.size)).trans (hb.mono (Nat.le_trans HB3.out.size HBR.out.size)))
      clear hb hD HX HD3 HB3 HBR HT hTs CP
      have l1 : (Nm.cn3 a b c).length = 1 := rfl
      rw [l1] at hc' ⊢
      clear l1
      go_wp2_with fail
      refine (same_cn a b c _ _ _ _ w4 HX4.out HD4.out).mono ?_
      rintro r w5 ⟨rfl, hb⟩
      have HD5 := Lib.hid (HD4.out.past hb)
      have HY5 := Lib.hid (HY4.out.past hb)
      have HB5 := Lib.hid (HB4.out.trans (hb.mono HB4.out.size))
      clear hb HD4 HX4 HY4 HB4
      go_wp2_with fail
      refine (same_cn a b c _ _ _ _ w5 HY5.out HD5.out).mono ?_
      rintro r w6 ⟨rfl, hb⟩
      have HB6 := Lib.hid (HB5.out.trans (hb.mono HB5.out.size))
      clear hb HD5 HY5 HB5
      go_wp2_with fail
      go_ret
      exact ⟨rfl, HB6.out⟩
theorem u8_of {a : Int} (h : 0 ≤ a ∧ a ≤ 255) : ∃ c : UInt8, a = c.toNat := ⟨a.toNat.toUInt8, by rw [UInt8.toNat_ofNat']; omega⟩
theorem walk_NameBytes (a : Int) (ha : (Lit.int .u8 a).wf = true) (b : Int) (hb : (Lit.int .u8 b).wf = true) (c : Int) (hc : (Lit.int .u8 c).wf = true) (w : World) :
    Calls Try.prog 5 #[.int .u8 a, .int .u8 b, .int .u8 c] w fun r w' => r = .returned (.bool true) ∧ Below w.heap.size w w' := by
  obtain ⟨x, rfl⟩ := u8_of (wf_u8 ha)
  obtain ⟨y, rfl⟩ := u8_of (wf_u8 hb)
  obtain ⟨z, rfl⟩ := u8_of (wf_u8 hc)
  exact bytes_go x y z w
end Go.Proofs.Ytfgcmljlamodbaa
