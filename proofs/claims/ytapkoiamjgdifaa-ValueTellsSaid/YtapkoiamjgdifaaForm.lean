/- What formed, deeper, bodySize, moreLength answer: the plain functions formed, dep, tsz, more. -/
import Derived.Test.YtapkoiamjgdifaaHead
import Derived.Test.YtapkoiamjgdifaaElSpec
import Derived.Deep.LoopGhost
import Derived.Lib.Hide
namespace Go.Proofs.Ytapkoiamjgdifaa
open Go.RowKit
set_option linter.unusedVariables false
set_option maxRecDepth 100000

theorem isCons_eq (t : Nat) (h : t ≤ 255) : (bits .and .u8 (t : Int) 32 != 0) = decide (t / 32 % 2 = 1) := by
  have h1 : bits .and .u8 (t : Int) 32 = ((t &&& 32 : Nat) : Int) := u8_and_nat t 32 (by omega) (by omega)
  have h2 : t &&& 32 = t / 32 % 2 * 32 := nat_bit 5 t
  rw [h1, h2, Bool.eq_iff_iff]
  simp
  omega
theorem isCons_true (t : Nat) (w : World) (h1 : t ≤ 255) (hc : t / 32 % 2 = 1) :
    Calls Try.prog 51 #[.int .u8 t] w fun e w' => e = .returned (.bool true) ∧ w = w' := by
  refine (isCons_any t w (by omega) (by omega)).mono ?_
  rintro e w' ⟨rfl, rfl⟩
  exact ⟨by rw [isCons_eq t h1]; simp [hc], rfl⟩
theorem isCons_false (t : Nat) (w : World) (h1 : t ≤ 255) (hc : t / 32 % 2 = 0) :
    Calls Try.prog 51 #[.int .u8 t] w fun e w' => e = .returned (.bool false) ∧ w = w' := by
  refine (isCons_any t w (by omega) (by omega)).mono ?_
  rintro e w' ⟨rfl, rfl⟩
  exact ⟨by rw [isCons_eq t h1]; simp [hc], rfl⟩
theorem isTag_true (t : Nat) (w : World) (h1 : t ≤ 255) (hc : t % 32 ≠ 31) :
    Calls Try.prog 41 #[.int .u8 t] w fun e w' => e = .returned (.bool true) ∧ w = w' := by
  refine (isTag_any t w (by omega) (by omega)).mono ?_
  rintro e w' ⟨rfl, rfl⟩
  exact ⟨ret_bool (by rw [bne_iff_ne]; omega), rfl⟩
theorem isTag_false (t : Nat) (w : World) (h1 : t ≤ 255) (hc : t % 32 = 31) :
    Calls Try.prog 41 #[.int .u8 t] w fun e w' => e = .returned (.bool false) ∧ w = w' := by
  refine (isTag_any t w (by omega) (by omega)).mono ?_
  rintro e w' ⟨rfl, rfl⟩
  exact ⟨ret_bool (by rw [bne_eq_false_iff_eq]; omega), rfl⟩

def SaidFormed (e : El) : Prop := ∀ (x y z : Value) (w : World), Lies w (· < w.heap.size) e [x, y, z] →
    Calls Try.prog 52 #[.agg #[x, y, z]] w fun r w' => r = .returned (.bool (formed e)) ∧ Below w.heap.size w w'

set_option maxHeartbeats 1000000 in
theorem formed_step (t : Nat) (ht : t ≤ 255) (b : ByteArray) (ks : List El) (ih : ∀ k ∈ ks, SaidFormed k) (A : Option Addr) (c : Nat) (ds : Nat → List Value) (w : World)
    (hK : KidsAt w (· < w.heap.size) A ks ds) (hl : ks.length ≤ maxLen) (h1 : t % 32 ≠ 31) (h2 : t / 32 % 2 = 1) (h3 : b.size = 0) :
    Calls Try.prog 52 #[.agg #[.int .u8 t, .string b, .slice A ks.length c]] w
      fun r w' => r = .returned (.bool (formeds ks)) ∧ Below w.heap.size w w' := by
  unfold maxLen at hl
  have Ih := Lib.hid ih
  have H1 := Lib.hid h1
  have H2 := Lib.hid h2
  have h4 : b.toList = [] := by
    have : b.data.toList = [] := List.eq_nil_of_length_eq_zero h3
    simpa [ByteArray.toList_eq] using this
  clear ih h1 h2 h3
  go_enter Try.func52, Try.ntmps52
  go_wp2_with (first | (go_at_call 41; refine (isTag_true t _ ht H1.out).mono ?_; rintro e w' ⟨rfl, rfl⟩) | (go_at_call 51; refine (isCons_true t _ ht H2.out).mono ?_; rintro e w' ⟨rfl, rfl⟩))
  go_loopw [23] (fun i wr => ∃ k : Nat, k ≤ ks.length ∧ i = .int .i64 k ∧ Hid (formeds ks = formeds (ks.drop k)) ∧ Below w.heap.size w wr) (fun i wr => ks.length - (intOf i).toNat)
  case atStart => exact ⟨0, Nat.zero_le _, rfl, rfl, (Below.refl _ _).alloc (Nat.le_refl _) _⟩
  case round =>
    obtain ⟨k, hk, rfl, hE, hb⟩ := hrel
    by_cases hlt : k < ks.length
    · obtain ⟨ad, t', b', A', n', c', rfl, hp, f0, f1, f2, hL⟩ := hK.kid5 hb hlt
      have hs := hb.size
      have hD := Lib.hid (formeds_drop hlt)
      have hb0 : Below w.heap.size w (wr.alloc (.cells #[.int .u8 t', .string b', .slice A' n' c'] 25)) := hb.alloc hs _
      have H := Ih.out _ (List.getElem_mem hlt) _ _ _ _ (hL.alloc (.cells #[.int .u8 t', .string b', .slice A' n' c'] 25))
      go_wp2_with fail
      refine H.mono ?_
      rintro e w1 ⟨rfl, hb1⟩
      clear H
      have hb2 := hb0.trans (hb1.mono (by simp; omega))
      go_wp2_with fail
      · have hx : formed ks[k] = false := by
          have h0 : (!formed ks[k]) = true := by assumption
          simpa using h0
        go_ret
        refine ⟨ret_bool ?_, hb2⟩
        rw [hE.out, hD.out, hx]; rfl
      · have hx : formed ks[k] = true := by
          have h0 : (!formed ks[k]) = false := by assumption
          simpa using h0
        go_roundw
        case rel =>
          refine ⟨k + 1, by omega, by go_num, ?_, hb2⟩
          show _ = _
          rw [hE.out, hD.out, hx]; rfl
        case measure => simp [intOf]; omega
    · go_wp2_with fail
      go_ret
      refine ⟨ret_bool ?_, hb⟩
      have : k = ks.length := by omega
      rw [hE.out, this, List.drop_length]; rfl

set_option maxHeartbeats 1000000 in
theorem formed_any (e : El) : SaidFormed e := by
  refine El.ind ?_ e
  intro t b ks ih x y z w hL
  obtain ⟨A, c, ds, hcs, ht, hb, hl, hK⟩ := hL.open_
  simp only [List.cons.injEq, and_true] at hcs
  obtain ⟨rfl, rfl, rfl⟩ := hcs
  by_cases h1 : t % 32 = 31
  · have hr := Lib.hid (show formed (.mk t b ks) = false by simp [formed, h1])
    have H1 := Lib.hid h1
    clear h1 ih
    go_enter Try.func52, Try.ntmps52
    go_wp2_with (go_at_call 41; refine (isTag_false t _ ht H1.out).mono ?_; rintro e w' ⟨rfl, rfl⟩)
    go_ret
    rw [hr.out]
    exact ⟨rfl, (Below.refl _ _).alloc (Nat.le_refl _) _⟩
  by_cases h2 : t / 32 % 2 = 0
  · have hr := Lib.hid (show formed (.mk t b ks) = decide (ks.length = 0) by simp [formed, h1, h2])
    have H1 := Lib.hid h1
    have H2 := Lib.hid h2
    unfold maxLen at hl
    clear h1 h2 ih
    go_enter Try.func52, Try.ntmps52
    go_wp2_with (first | (go_at_call 41; refine (isTag_true t _ ht H1.out).mono ?_; rintro e w' ⟨rfl, rfl⟩) | (go_at_call 51; refine (isCons_false t _ ht H2.out).mono ?_; rintro e w' ⟨rfl, rfl⟩))
    go_ret
    rw [hr.out]
    refine ⟨ret_bool ?_, (Below.refl _ _).alloc (Nat.le_refl _) _⟩
    rw [Bool.eq_iff_iff]; simp
  have h2' : t / 32 % 2 = 1 := by omega
  by_cases h3 : b.size = 0
  · refine (formed_step t ht b ks ih A c ds w hK hl h1 h2' h3).mono ?_
    rintro e w' ⟨rfl, h⟩
    exact ⟨by simp [formed, h1, h2, h3], h⟩
  · have hr := Lib.hid (show formed (.mk t b ks) = false by simp [formed, h1, h2, h3])
    have H1 := Lib.hid h1
    have H2 := Lib.hid h2'
    have h4 : b.toList.isEmpty = false := by
      rw [List.isEmpty_eq_false_iff]
      intro h
      apply h3
      have h5 : b.data.toList = [] := by simpa [ByteArray.toList_eq] using h
      have : b.data.toList.length = b.size := rfl
      rw [h5] at this
      simpa using this.symm
    have h5 : (b.toList != []) = true := by rw [bne_iff_ne]; intro h; rw [h] at h4; simp at h4
    clear h1 h2 h2' h3 ih
    go_enter Try.func52, Try.ntmps52
    go_wp2_with (first | (go_at_call 41; refine (isTag_true t _ ht H1.out).mono ?_; rintro e w' ⟨rfl, rfl⟩) | (go_at_call 51; refine (isCons_true t _ ht H2.out).mono ?_; rintro e w' ⟨rfl, rfl⟩))
    go_ret
    rw [hr.out]
    exact ⟨rfl, (Below.refl _ _).alloc (Nat.le_refl _) _⟩
end Go.Proofs.Ytapkoiamjgdifaa
