/- The reference's Head answers the plain function Sp.hd, too. -/
import Derived.Test.YtiaghkngafajgaaHead
import Derived.Lib.Hide
namespace Go.Proofs.Ytiaghkngafajgaa
open Go.RowKit
set_option linter.unusedVariables false
set_option maxRecDepth 100000

theorem num_snoc (l : List UInt8) (c : UInt8) : Sp.num (l ++ [c]) = 256 * Sp.num l + c.toNat := by simp [Sp.num, List.foldl_append]

set_option maxHeartbeats 400000 in
theorem rhead_0 (s : ByteArray) (w : World) (h0 : s.size = 0) :
    Calls Try.prog 18 #[.string s] w fun e w' => e = .returned (.tuple #[.int .i64 0, .int .i64 0, .int .i64 10]) ∧ Below w.heap.size w w' := by
  have h0 : ((s.size : Int) == 0) = true := by simp [h0]
  go_enter Try.func18, Try.ntmps18
  go_wp2_with fail
  go_ret3
  exact ⟨rfl, Below.refl _ _⟩
set_option maxHeartbeats 400000 in
theorem rhead_1 (s : ByteArray) (w : World) (h0 : 0 < s.size) (ht : ((s[0].toNat : Int) % 32 == 31) = true) :
    Calls Try.prog 18 #[.string s] w fun e w' => e = .returned (.tuple #[.int .i64 0, .int .i64 0, .int .i64 14]) ∧ Below w.heap.size w w' := by
  have h1 : ((s.size : Int) == 0) = false := beq_eq_false_iff_ne.2 (by omega)
  have hb := u8_lt s[0]
  go_enter Try.func18, Try.ntmps18
  go_wp2_with fail
  go_ret3
  exact ⟨rfl, Below.refl _ _⟩
set_option maxHeartbeats 400000 in
theorem rhead_2 (s : ByteArray) (w : World) (h0 : 0 < s.size) (ht : ((s[0].toNat : Int) % 32 == 31) = false) (hs : s.size = 1) :
    Calls Try.prog 18 #[.string s] w fun e w' => e = .returned (.tuple #[.int .i64 0, .int .i64 0, .int .i64 10]) ∧ Below w.heap.size w w' := by
  have h1 : ((s.size : Int) == 0) = false := beq_eq_false_iff_ne.2 (by omega)
  have h2 : ((s.size : Int) == 1) = true := by simp [hs]
  have hb := u8_lt s[0]
  clear hs
  go_enter Try.func18, Try.ntmps18
  go_wp2_with fail
  go_ret3
  exact ⟨rfl, Below.refl _ _⟩
set_option maxHeartbeats 400000 in
theorem rhead_3 (s : ByteArray) (w : World) (h0 : 1 < s.size) (h00 : 0 < s.size) (ht : ((s[0].toNat : Int) % 32 == 31) = false) (hb : (s[1].toNat : Int) < 128) :
    Calls Try.prog 18 #[.string s] w fun e w' => e = .returned (.tuple #[.int .i64 2, .int .i64 s[1].toNat, .int .i64 0]) ∧ Below w.heap.size w w' := by
  have h1 : ((s.size : Int) == 0) = false := beq_eq_false_iff_ne.2 (by omega)
  have h2 : ((s.size : Int) == 1) = false := beq_eq_false_iff_ne.2 (by omega)
  have hb0 := u8_lt s[0]
  go_enter Try.func18, Try.ntmps18
  go_wp2_with fail
  go_region
  go_wp2_with fail
  go_ret3
  exact ⟨rfl, (Below.refl _ _).drew⟩
set_option maxHeartbeats 400000 in
theorem rhead_4 (s : ByteArray) (w : World) (h0 : 1 < s.size) (h00 : 0 < s.size) (ht : ((s[0].toNat : Int) % 32 == 31) = false) (hb1 : (128 : Int) ≤ s[1].toNat) (hb : (s[1].toNat : Int) - 128 < 1) :
    Calls Try.prog 18 #[.string s] w fun e w' => e = .returned (.tuple #[.int .i64 0, .int .i64 0, .int .i64 11]) ∧ Below w.heap.size w w' := by
  have h1 : ((s.size : Int) == 0) = false := beq_eq_false_iff_ne.2 (by omega)
  have h2 : ((s.size : Int) == 1) = false := beq_eq_false_iff_ne.2 (by omega)
  have hb0 := u8_lt s[0]
  go_enter Try.func18, Try.ntmps18
  go_wp2_with fail
  go_ret3
  exact ⟨rfl, (Below.refl _ _)⟩
set_option maxHeartbeats 400000 in
theorem rhead_5 (s : ByteArray) (w : World) (h0 : 1 < s.size) (h00 : 0 < s.size) (ht : ((s[0].toNat : Int) % 32 == 31) = false) (hb1 : (128 : Int) ≤ s[1].toNat) (hb : 4 < (s[1].toNat : Int) - 128) :
    Calls Try.prog 18 #[.string s] w fun e w' => e = .returned (.tuple #[.int .i64 0, .int .i64 0, .int .i64 11]) ∧ Below w.heap.size w w' := by
  have h1 : ((s.size : Int) == 0) = false := beq_eq_false_iff_ne.2 (by omega)
  have h2 : ((s.size : Int) == 1) = false := beq_eq_false_iff_ne.2 (by omega)
  have hb0 := u8_lt s[0]
  have hb2 := u8_lt s[1]
  go_enter Try.func18, Try.ntmps18
  go_wp2_with fail
  go_ret3
  exact ⟨rfl, (Below.refl _ _)⟩
set_option maxHeartbeats 400000 in
theorem rhead_6 (s : ByteArray) (w : World) (h : s.size ≤ 1099511627776) (h0 : 1 < s.size) (h00 : 0 < s.size) (ht : ((s[0].toNat : Int) % 32 == 31) = false) (hb1 : (128 : Int) < s[1].toNat) (hb : (s[1].toNat : Int) - 128 ≤ 4) (hs : (s.size : Int) < 2 + (s[1].toNat - 128)) :
    Calls Try.prog 18 #[.string s] w fun e w' => e = .returned (.tuple #[.int .i64 0, .int .i64 0, .int .i64 10]) ∧ Below w.heap.size w w' := by
  have h1 : ((s.size : Int) == 0) = false := beq_eq_false_iff_ne.2 (by omega)
  have h2 : ((s.size : Int) == 1) = false := beq_eq_false_iff_ne.2 (by omega)
  have hb0 := u8_lt s[0]
  have hb2 := u8_lt s[1]
  go_enter Try.func18, Try.ntmps18
  go_wp2_with fail
  go_ret3
  exact ⟨rfl, (Below.refl _ _)⟩
def rh7 (m : Nat) (b : Int) : Value := .tuple #[.int .i64 (if 4000 < m then 0 else 2 + b), .int .i64 (if 4000 < m then 0 else m), .int .i64 (if 4000 < m then 13 else 0)]
set_option maxHeartbeats 1000000 in
theorem rhead_7 (s : ByteArray) (w : World) (h : s.size ≤ 1099511627776) (h0 : 1 < s.size) (h00 : 0 < s.size) (ht : ((s[0].toNat : Int) % 32 == 31) = false) (hb1 : (128 : Int) < s[1].toNat) (hb : (s[1].toNat : Int) - 128 ≤ 4) (hs : 2 + ((s[1].toNat : Int) - 128) ≤ s.size)
    (m : Nat) (hm : m = Sp.num ((s.data.toList.drop 2).take (s[1].toNat - 128))) :
    Calls Try.prog 18 #[.string s] w fun e w' => e = .returned (rh7 m ((s[1].toNat : Int) - 128)) ∧ Below w.heap.size w w' := by
  have h1 : ((s.size : Int) == 0) = false := beq_eq_false_iff_ne.2 (by omega)
  have h2 : ((s.size : Int) == 1) = false := beq_eq_false_iff_ne.2 (by omega)
  have hb0 := u8_lt s[0]
  have hb2 := u8_lt s[1]
  have Hm := Lib.hid hm
  clear hm
  go_enter Try.func18, Try.ntmps18
  go_wp2_with fail
  go_loop [6, 7] (fun z i => ∃ (k : Nat) (v : Nat), (k : Int) ≤ (s[1].toNat : Int) - 128 ∧ i = .int .i64 k ∧ z = .int .i64 v ∧ v ≤ 4294967295 ∧ Hid (v = Sp.num ((s.data.toList.drop 2).take k))) (fun z i => 5 - (intOf i).toNat)
  case atStart => exact ⟨0, 0, by omega, rfl, rfl, by omega, rfl⟩
  case round =>
    obtain ⟨k, v, hk, rfl, rfl, hv, hE⟩ := hrel
    by_cases hlt : (k : Int) < (s[1].toNat : Int) - 128
    · have hk4 : k < 4 := by omega
      have hsk : 2 + k < s.size := by omega
      have hbk := u8_lt s[2 + k]
      have hv2 : v < 256 ^ k := by
        rw [hE.out]
        refine Nat.lt_of_lt_of_le (num_lt _) (Nat.pow_le_pow_right (by omega) (List.length_take_le _ _))
      have hv3 : v ≤ 16777215 := by
        have : (256 : Nat) ^ k ≤ 256 ^ 3 := Nat.pow_le_pow_right (by omega) (by omega)
        have h3 : (256 : Nat) ^ 3 = 16777216 := by decide
        omega
      have hEn : Hid (256 * v + s[2 + k].toNat = Sp.num ((s.data.toList.drop 2).take (k + 1))) := by
        show _ = _
        have hl : k < (s.data.toList.drop 2).length := by rw [List.length_drop]; show k < s.size - 2; omega
        rw [List.take_succ_eq_append_getElem hl, num_snoc, ← hE.out]
        congr 2
        rw [List.getElem_drop]
        rfl
      clear hv2
      go_wp2_with fail
      go_round
      case rel => exact ⟨k + 1, 256 * v + s[2 + k].toNat, by omega, by go_num, by go_num, by omega, hEn⟩
      case measure => simp [intOf]; omega
    · have hke : k = s[1].toNat - 128 := by omega
      have hvm : v = m := by rw [hE.out, Hm.out, hke]
      by_cases h4 : (4000 : Int) < v
      · have hr := Lib.hid (show (4000 < m) from by omega)
        have Hke := Lib.hid hke
        clear hke hvm
        go_wp2_with fail
        go_ret3
        unfold rh7
        rw [if_pos hr.out, if_pos hr.out, if_pos hr.out]
        exact ⟨rfl, Below.refl _ _⟩
      · have hr := Lib.hid (show ¬ (4000 < m) from by omega)
        have Hvm := Lib.hid hvm
        have Hke := Lib.hid hke
        clear hke hvm
        go_wp2_with fail
        go_ret3
        unfold rh7
        rw [if_neg hr.out, if_neg hr.out, if_neg hr.out, ← Hvm.out]
        exact ⟨rfl, Below.refl _ _⟩

theorem beq31 (t : UInt8) : (((t.toNat : Int) % 32) == 31) = decide (t.toNat % 32 = 31) := by
  rw [Bool.eq_iff_iff]; simp; omega
theorem rHead_any (s : ByteArray) (w : World) (h : s.size ≤ 1099511627776) :
    Calls Try.prog 18 #[.string s] w fun e w' => e = .returned (hdV s.data.toList) ∧ Below w.heap.size w w' := by
  have hsz : s.data.toList.length = s.size := rfl
  cases hl : s.data.toList with
  | nil =>
    rw [hl] at hsz
    exact (rhead_0 s w hsz.symm).mono fun e w' ⟨he, hb⟩ => ⟨he.trans (ret_hd (a := 0) (b := 0) (c := 10) rfl rfl rfl rfl), hb⟩
  | cons t r =>
    rw [hl] at hsz
    simp only [List.length_cons] at hsz
    have h00 : 0 < s.size := by omega
    have e0 : s[0] = t := get_of s _ hl 0 h00 t rfl
    by_cases ht : t.toNat % 32 = 31
    · exact (rhead_1 s w h00 (by rw [e0, beq31]; simp [ht])).mono fun e w' ⟨he, hb⟩ => ⟨he.trans (ret_hd (a := 0) (b := 0) (c := 14) (by simp [Sp.hd, ht]) rfl rfl rfl), hb⟩
    have ht' : ((s[0].toNat : Int) % 32 == 31) = false := by rw [e0, beq31]; simp [ht]
    cases r with
    | nil => exact (rhead_2 s w h00 ht' (by simp at hsz; omega)).mono fun e w' ⟨he, hb⟩ => ⟨he.trans (ret_hd (a := 0) (b := 0) (c := 10) (by simp [Sp.hd, ht]) rfl rfl rfl), hb⟩
    | cons b r =>
      simp only [List.length_cons] at hsz
      have h0 : 1 < s.size := by omega
      have e1 : s[1] = b := get_of s _ hl 1 h0 b rfl
      have hb := u8_lt b
      by_cases c1 : b.toNat < 128
      · exact (rhead_3 s w h0 h00 ht' (by rw [e1]; omega)).mono fun e w' ⟨he, hb⟩ => ⟨he.trans (ret_hd (a := 2) (b := b.toNat) (c := 0) (by simp [Sp.hd, ht, c1]) rfl (by rw [e1]) rfl), hb⟩
      by_cases c2 : b.toNat = 128
      · exact (rhead_4 s w h0 h00 ht' (by rw [e1]; omega) (by rw [e1]; omega)).mono fun e w' ⟨he, hb⟩ => ⟨he.trans (ret_hd (a := 0) (b := 0) (c := 11) (by simp [Sp.hd, ht, c2]) rfl rfl rfl), hb⟩
      by_cases c3 : 132 < b.toNat
      · exact (rhead_5 s w h0 h00 ht' (by rw [e1]; omega) (by rw [e1]; omega)).mono fun e w' ⟨he, hb⟩ => ⟨he.trans (ret_hd (a := 0) (b := 0) (c := 11) (by simp [Sp.hd, ht, c1, c3]) rfl rfl rfl), hb⟩
      by_cases c4 : r.length < b.toNat - 128
      · exact (rhead_6 s w h h0 h00 ht' (by rw [e1]; omega) (by rw [e1]; omega) (by rw [e1]; omega)).mono fun e w' ⟨he, hb⟩ =>
          ⟨he.trans (ret_hd (a := 0) (b := 0) (c := 10) (by simp [Sp.hd, ht, c1, c2, c3, c4]) rfl rfl rfl), hb⟩
      have hx : (s.data.toList.drop 2).take (s[1].toNat - 128) = r.take (b.toNat - 128) := by rw [hl, e1]; rfl
      refine (rhead_7 s w h h0 h00 ht' (by rw [e1]; omega) (by rw [e1]; omega) (by rw [e1]; omega) _ rfl).mono fun e w' ⟨he, hb⟩ => ⟨he.trans ?_, hb⟩
      unfold rh7
      rw [hx]
      by_cases c5 : 4000 < Sp.num (r.take (b.toNat - 128))
      · simp only [if_pos c5]
        exact ret_hd (a := 0) (b := 0) (c := 13) (by simp [Sp.hd, ht, c1, c2, c3, c4, c5]) rfl rfl rfl
      · simp only [if_neg c5]
        exact ret_hd (a := 2 + (b.toNat - 128)) (b := Sp.num (r.take (b.toNat - 128))) (c := 0) (by simp [Sp.hd, ht, c1, c2, c3, c4, c5]) (by rw [e1]; omega) rfl rfl
end Go.Proofs.Ytiaghkngafajgaa
