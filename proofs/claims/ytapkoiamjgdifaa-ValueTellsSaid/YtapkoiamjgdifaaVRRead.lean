/- The reference's ReadInt answers the plain function rdI. -/
import Derived.Test.YtapkoiamjgdifaaVRead
import Derived.Test.YtapkoiamjgdifaaVRInt
namespace Go.Proofs.Ytapkoiamjgdifaa
open Go.RowKit
set_option linter.unusedVariables false
set_option maxRecDepth 100000

theorem sval_snoc (l : List UInt8) (b : UInt8) (h : l ≠ []) : sval (l ++ [b]) = 256 * sval l + b.toNat := by
  cases l with
  | nil => exact absurd rfl h
  | cons a r => exact say_app _ r b
theorem sval_take {l : List UInt8} {k : Nat} (hk : 1 ≤ k) (h : k < l.length) : sval (l.take (k + 1)) = 256 * sval (l.take k) + l[k].toNat := by
  rw [List.take_succ_eq_append_getElem h, sval_snoc]
  intro e
  have := congrArg List.length e
  rw [List.length_take, List.length_nil] at this
  omega
theorem sval_small {l : List UInt8} {k : Nat} (hk : 1 ≤ k) (h : k < l.length) (h8 : l.length ≤ 8) : -36028797018963968 ≤ sval (l.take k) ∧ sval (l.take k) ≤ 36028797018963967 := by
  have hl : (l.take k).length = k := by rw [List.length_take]; omega
  have hr := sval_range (l.take k) (by intro e; rw [e] at hl; simp at hl; omega)
  rw [hl] at hr
  have hp : (2 : Int) ^ (8 * k - 1) ≤ 36028797018963968 := by
    have := Nat.pow_le_pow_right (n := 2) (by omega) (show 8 * k - 1 ≤ 55 by omega)
    have h3 : (2 : Nat) ^ 55 = 36028797018963968 := by decide
    rw [h3] at this
    have h4 : ((2 ^ (8 * k - 1) : Nat) : Int) ≤ 36028797018963968 := by omega
    rwa [Int.natCast_pow] at h4
  omega
theorem or_at (s : ByteArray) (k : Nat) (hk : 1 ≤ k) (h : k < s.size) (h8 : s.size ≤ 8) (x : Int) (hx : x = sval (s.data.toList.take k)) :
    bits .or .i64 (wrap64 (x * 256)) (wrap64 (s[k].toNat : Int)) = sval (s.data.toList.take (k + 1)) := by
  have hl : s.data.toList.length = s.size := rfl
  have hs := sval_small (l := s.data.toList) hk (by omega) (by omega)
  rw [hx, or_next _ s[k] hs.1 hs.2, sval_take hk (by omega)]
  rfl
theorem first_i8 (b : UInt8) : wrap64 (IntKind.i8.wrap (b.toNat : Int)) = if b.toNat < 128 then (b.toNat : Int) else (b.toNat : Int) - 256 := by
  have hb := u8_lt b
  have : IntKind.i8.wrap (b.toNat : Int) = ((b.toNat : Int) + 128) % 256 - 128 := by
    simp [IntKind.wrap, IntKind.bits, IntKind.signed]
    split <;> omega
  rw [this]
  unfold wrap64
  split <;> omega

set_option maxHeartbeats 1000000 in
theorem rread_go (s : ByteArray) (w : World) (h0 : 1 ≤ s.size) (h8 : s.size ≤ 8) :
    Calls Try.prog 27 #[.string s] w fun e w' => e = .returned (rdV s.data.toList) ∧ Below w.heap.size w w' := by
  have hlen : s.data.toList.length = s.size := rfl
  have hsv := sval_i64 (l := s.data.toList) (by omega) (by omega)
  have HI := Lib.hid (fun w => RInt_any (sval s.data.toList) w hsv.1 hsv.2)
  have hne : s.data.toList ≠ [] := by intro e; rw [e] at hlen; simp at hlen; omega
  have HB := Lib.hid (intB_sval s.data.toList hne)
  have HG := Lib.hid (fun h => rdV_some (rdI_ok (l := s.data.toList) (by omega) (by omega) h))
  have HN := Lib.hid (fun h => rdV_none (rdI_bad (l := s.data.toList) h))
  have HO := Lib.hid (fun k hk h => or_at s k hk h h8)
  have HF : Hid (∀ h, wrap64 (IntKind.i8.wrap ((s[0]'h).toNat : Int)) = sval (s.data.toList.take 1)) := fun h => by
    rw [first_i8]
    obtain ⟨b, r, hl⟩ : ∃ b r, s.data.toList = b :: r := by
      match s.data.toList, hne with
      | b :: r, _ => exact ⟨b, r, rfl⟩
    rw [get_of s _ hl 0 h b rfl, hl]
    rfl
  have HS := Lib.hid hsv
  clear hsv hne
  go_enter Try.func27, Try.ntmps27
  go_wp2_with fail
  go_loopw [4, 5] (fun n i wr => ∃ (k : Nat) (x : Int), 1 ≤ k ∧ k ≤ s.size ∧ n = .int .i64 x ∧ i = .int .i64 k ∧ Hid (x = sval (s.data.toList.take k)) ∧ Below w.heap.size w wr) (fun n i wr => s.size - (intOf i).toNat)
  case atStart => exact ⟨1, _, by omega, h0, rfl, rfl, HF.out _, Below.refl _ _⟩
  case round =>
    obtain ⟨k, x, hk, hks, rfl, rfl, hx, hb⟩ := hrel
    by_cases hlt : k < s.size
    · go_wp2_with fail
      go_roundw
      case rel => exact ⟨k + 1, _, by omega, by omega, rfl, by go_num, HO.out k hk hlt x hx.out, hb⟩
      case measure => simp [intOf]; omega
    · have hks2 : k = s.size := by omega
      have hxs : x = sval s.data.toList := by
        rw [hx.out, hks2, ← hlen, List.take_length]
      subst hxs
      by_cases hf : few (sval s.data.toList) = s.data.toList.length
      · have hcmp : ((strOfNums (intB (sval s.data.toList))).toList == s.toList) = true := by
          rw [beq_iff_eq, Go.Lib.toList_data, Go.Lib.toList_data]
          exact HB.out.2 hf
        have HR := Lib.hid (HG.out hf)
        clear HB HG HN hx hks2
        go_wp2_with fail
        refine (HI.out _).mono ?_
        rintro e w1 ⟨rfl, hb1⟩
        go_wp2_with fail
        go_ret2
        rw [HR.out]
        exact ⟨rfl, hb.trans (hb1.mono hb.size)⟩
      · have hcmp : ((strOfNums (intB (sval s.data.toList))).toList == s.toList) = false := by
          rw [beq_eq_false_iff_ne, Go.Lib.toList_data, Go.Lib.toList_data]
          exact fun h => hf (HB.out.1 h)
        have HR := Lib.hid (HN.out hf)
        clear HB HG HN hx hks2
        go_wp2_with fail
        refine (HI.out _).mono ?_
        rintro e w1 ⟨rfl, hb1⟩
        go_wp2_with fail
        go_ret2
        rw [HR.out]
        exact ⟨rfl, hb.trans (hb1.mono hb.size)⟩
set_option maxHeartbeats 1000000 in
theorem rread_0 (s : ByteArray) (w : World) (h : s.size < 1) :
    Calls Try.prog 27 #[.string s] w fun e w' => e = .returned (rdV s.data.toList) ∧ Below w.heap.size w w' := by
  have hl : s.data.toList = [] := List.eq_nil_of_length_eq_zero (show s.size = 0 by omega)
  have HR : Hid (rdV s.data.toList = .tuple #[.int .i64 0, .bool false]) := by rw [hl]; rfl
  clear hl
  go_enter Try.func27, Try.ntmps27
  go_wp2_with fail
  go_ret2
  rw [HR.out]
  exact ⟨rfl, Below.refl _ _⟩
set_option maxHeartbeats 1000000 in
theorem rread_9 (s : ByteArray) (w : World) (h : 8 < s.size) :
    Calls Try.prog 27 #[.string s] w fun e w' => e = .returned (rdV s.data.toList) ∧ Below w.heap.size w w' := by
  have HR := Lib.hid (rdV_none (rdI_long (l := s.data.toList) h))
  have h1 : ¬ s.size < 1 := by omega
  go_enter Try.func27, Try.ntmps27
  go_wp2_with fail
  go_ret2
  rw [HR.out]
  exact ⟨rfl, Below.refl _ _⟩
theorem RReadInt_any (s : ByteArray) (w : World) :
    Calls Try.prog 27 #[.string s] w fun e w' => e = .returned (rdV s.data.toList) ∧ Below w.heap.size w w' := by
  by_cases h9 : 8 < s.size
  · exact rread_9 s w h9
  by_cases h0 : s.size < 1
  · exact rread_0 s w h0
  · exact rread_go s w (by omega) (by omega)
end Go.Proofs.Ytapkoiamjgdifaa
