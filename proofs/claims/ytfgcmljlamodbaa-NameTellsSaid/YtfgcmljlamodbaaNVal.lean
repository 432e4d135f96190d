/- What appendValue answers: a value's text behind what was there; the reference's value. -/
import Derived.Test.YtfgcmljlamodbaaNEsc
namespace Go.Proofs.Ytfgcmljlamodbaa
open Go.RowKit
set_option linter.unusedVariables false
set_option maxRecDepth 100000

theorem escV_step (f : Bool) (s : ByteArray) (k : Nat) (h : k < s.size) : Nm.escV f ((Nm.bs s).drop k) = Nm.escB f ((k : Int) == s.size - 1) s[k] ++ Nm.escV false ((Nm.bs s).drop (k + 1)) := by
  have h1 := drop_at h
  have h2 : ((Nm.bs s).drop (k + 1)).isEmpty = ((k : Int) == s.size - 1) := by
    rw [Bool.eq_iff_iff, List.isEmpty_iff, List.drop_eq_nil_iff, beq_iff_eq, size_eq]
    omega
  show Nm.escV f (s.data.toList.drop k) = _
  rw [h1, Nm.escV, ← h2]
set_option maxHeartbeats 1000000 in
theorem appV_any (base : Nat) (v : Value) (l : List UInt8) (s : ByteArray) (w : World) (h : Own w base v l) (hl : l.length ≤ 100000000) (hs : s.size ≤ 100000000) (hb : base ≤ w.heap.size) :
    Calls Try.prog 36 #[v, .string s] w fun e w' => ∃ v', e = .returned v' ∧ Own w' base v' (l ++ Nm.escV true (Nm.bs s)) ∧ Below base w w' := by
  have C := Lib.hid appB_any
  go_enter Try.func36, Try.ntmps36
  go_wp2_with fail
  go_loopw [0, 8] (fun b i wr => ∃ (k : Nat) (l1 : List UInt8), k ≤ s.size ∧ i = .int .i64 k ∧ Own wr base b l1 ∧ Hid (l ++ Nm.escV true (Nm.bs s) = l1 ++ Nm.escV ((k : Int) == 0) ((Nm.bs s).drop k)) ∧ l1.length ≤ 100000000 + 3 * k ∧ Below base w wr) (fun b i wr => s.size - (intOf i).toNat)
  case atStart => exact ⟨0, l, Nat.zero_le _, rfl, h, rfl, by omega, Below.refl _ _⟩
  case round =>
    obtain ⟨k, l1, hk, rfl, hO, hE, hl1, hb1⟩ := hrel
    have hs1 := hb1.size
    by_cases hlt : k < s.size
    · have hE2 := hE.out
      rw [escV_step _ s k hlt, ← List.append_assoc] at hE2
      have HE := Lib.hid hE2
      have hlen := escB_len ((k : Int) == 0) ((k : Int) == s.size - 1) s[k]
      have HO := Lib.hid hO
      clear hE hE2 hO
      go_wp2_with fail
      refine (C.out base _ l1 s[k] _ _ _ HO.out (by omega) (by omega)).mono ?_
      rintro r w2 ⟨v2, rfl, hO2, hb2⟩
      obtain ⟨A2, n2, c2, rfl⟩ := hO2.form3
      have HO2 := Lib.hid hO2
      clear hO2
      go_wp2_with fail
      go_roundw
      case rel =>
        refine ⟨k + 1, _, by omega, by go_num, HO2.out, ?_, by rw [List.length_append]; omega, hb1.trans hb2⟩
        show _ = _
        rw [HE.out]
        have e1 : (((k + 1 : Nat) : Int) == 0) = false := by rw [beq_eq_false_iff_ne]; omega
        rw [e1]
      case measure => simp [intOf]; omega
    · have hk2 : k = s.size := by omega
      have hE2 := hE.out
      rw [hk2, ← size_eq, List.drop_length, Nm.escV, List.append_nil] at hE2
      have HE := Lib.hid hE2
      clear hE hE2 hk2
      go_wp2_with fail
      go_ret
      exact ⟨_, rfl, by rw [HE.out]; exact hO, hb1⟩
end Go.Proofs.Ytfgcmljlamodbaa
