/- What Lower answers, the reference's beside the program's. -/
import Derived.Test.YtkdlkdbjgajenaaDoorNType
import Derived.Test.YtkdlkdbjgajenaaDoorNRow
import Derived.Deep.RegionHeld3
namespace Go.Proofs.YtkdlkdbjgajenaaDoor
open Go.RowKit
set_option linter.unusedVariables false
set_option maxRecDepth 100000

/-- How far the row is. -/
def lowSt (l : List UInt8) (k : Nat) : List UInt8 := (l.take k).map Nm.sm ++ l.drop k
theorem lowSt_len (l : List UInt8) (k : Nat) : (lowSt l k).length = l.length := by
  unfold lowSt
  rw [List.length_append, List.length_map, List.length_take, List.length_drop]
  omega
theorem lowSt_at (l : List UInt8) (k : Nat) (h : k < l.length) : (lowSt l k)[k]? = some l[k] := by
  unfold lowSt
  rw [List.getElem?_append_right (by simp; omega)]
  simp [List.length_take, Nat.min_eq_left (Nat.le_of_lt h), List.getElem?_eq_getElem h]
theorem lowSt_set (l : List UInt8) (k : Nat) (h : k < l.length) : (lowSt l k).set k (Nm.sm l[k]) = lowSt l (k + 1) := by
  unfold lowSt
  have e1 : ((l.take k).map Nm.sm).length = k := by simp; omega
  rw [List.set_append_right _ _ (by omega), e1, Nat.sub_self, List.drop_eq_getElem_cons h, List.set_cons_zero, List.take_succ_eq_append_getElem h, List.map_append, List.append_assoc]
  rfl
theorem lowSt_same (l : List UInt8) (k : Nat) (h : k < l.length) (he : Nm.sm l[k] = l[k]) : lowSt l k = lowSt l (k + 1) := by
  rw [← lowSt_set l k h, he]
  have := lowSt_at l k h
  obtain ⟨h1, h2⟩ := List.getElem?_eq_some_iff.1 this
  conv => rhs; rw [← h2]
  rw [List.set_getElem_self]
theorem lowSt_end (l : List UInt8) : lowSt l l.length = Nm.lower l := by
  unfold lowSt Nm.lower
  simp

set_option maxHeartbeats 400000 in
theorem lower_any (s : ByteArray) (w : World) (hs : s.size ≤ 1099511627776) :
    Calls Tryd.prog 15 #[.string s] w fun e w' => e = .returned (.string (Nm.mk (Nm.lower (Nm.bs s)))) ∧ Below w.heap.size w w' := by
  obtain ⟨cap, w1, hc, hR, hb, hsz⟩ := row_of_string s w
  go_enter Tryd.func15, Tryd.ntmps15
  go_wp2_with fail
  go_loopw [10] (fun i wr => ∃ k : Nat, k ≤ s.size ∧ i = .int .i64 k ∧ Row wr w.heap.size (lowSt (Nm.bs s) k) ∧ Below w.heap.size w wr) (fun i wr => s.size - (intOf i).toNat)
  case atStart => exact ⟨0, Nat.zero_le _, rfl, hR, hb⟩
  case round =>
    obtain ⟨k, hk, rfl, hR, hb⟩ := hrel
    by_cases hlt : k < s.size
    · have c0 := hR.cell (lowSt_at _ k hlt)
      have f0 : wr.frozen? ⟨w.heap.size, k, none⟩ = false := hR.frozen (by rw [lowSt_len]; exact hlt)
      have C1 := Lib.hid (small_any (Nm.bs s)[k])
      have HS := Lib.hid (lowSt_set (Nm.bs s) k hlt)
      have hR2 := Lib.hid (hR.set_ k (Nm.sm (Nm.bs s)[k]))
      clear hR
      go_wp2_with fail
      refine (C1.out _).mono ?_
      rintro r w2 ⟨rfl, rfl⟩
      go_wp2_with fail
      go_roundw
      case rel =>
        refine ⟨k + 1, by omega, by go_num, ?_, hb.setCell (p := ⟨w.heap.size, k, none⟩) (Nat.le_refl _) _⟩
        rw [← HS.out]
        exact hR2.out
      case measure => simp [intOf]; omega
    · have hk2 : k = s.size := by omega
      have E := row_string (cap := cap) hR
      rw [lowSt_len, hk2, ← size_eq, lowSt_end] at E
      rw [size_eq] at E
      go_wp2_with fail
      go_ret
      exact ⟨rfl, hb⟩
set_option maxHeartbeats 400000 in
theorem rlower_any (s : ByteArray) (w : World) (hs : s.size ≤ 1099511627776) :
    Calls Tryd.prog 16 #[.string s] w fun e w' => e = .returned (.string (Nm.mk (Nm.lower (Nm.bs s)))) ∧ Below w.heap.size w w' := by
  obtain ⟨cap, w1, hc, hR, hb, hsz⟩ := row_of_string s w
  go_enter Tryd.func16, Tryd.ntmps16
  go_wp2_with fail
  go_loopw [4] (fun i wr => ∃ k : Nat, k ≤ s.size ∧ i = .int .i64 k ∧ Row wr w.heap.size (lowSt (Nm.bs s) k) ∧ Below w.heap.size w wr) (fun i wr => s.size - (intOf i).toNat)
  case atStart => exact ⟨0, Nat.zero_le _, rfl, hR, hb⟩
  case round =>
    obtain ⟨k, hk, rfl, hR, hb⟩ := hrel
    by_cases hlt : k < s.size
    · have c0 := hR.cell (lowSt_at _ k hlt)
      have f0 : wr.frozen? ⟨w.heap.size, k, none⟩ = false := hR.frozen (by rw [lowSt_len]; exact hlt)
      have HS := Lib.hid (lowSt_set (Nm.bs s) k hlt)
      have HN := Lib.hid (sm_nat (Nm.bs s)[k])
      have hR2 := Lib.hid (hR.set_ k (Nm.sm (Nm.bs s)[k]))
      obtain ⟨c, hc9⟩ : ∃ c, c = (Nm.bs s)[k] := ⟨_, rfl⟩
      rw [← hc9] at c0 HS HN hR2
      have h256 := u8_lt c
      by_cases h9 : 65 ≤ (c.toNat : Int) ∧ (c.toNat : Int) ≤ 90
      · have HN2 := Lib.hid (show (c.toNat : Int) + 32 = (Nm.sm c).toNat by rw [HN.out, if_pos (by omega)]; omega)
        obtain ⟨h5, h6⟩ := h9
        clear hR hc9
        go_wp2_with fail
        refine ⟨⟨k + 1, by omega, by go_num, ?_, hb.setCell (p := ⟨w.heap.size, k, none⟩) (Nat.le_refl _) _⟩, by simp [intOf]; omega⟩
        rw [HN2.out, ← HS.out]
        exact hR2.out
      · have HN2 := Lib.hid (show Nm.sm c = c by unfold Nm.sm; rw [if_neg (by omega)])
        have h9' : (c.toNat : Int) < 65 ∨ 65 ≤ (c.toNat : Int) ∧ 90 < (c.toNat : Int) := by omega
        have fin : Hid (Row wr w.heap.size (lowSt (Nm.bs s) (k + 1))) := by
          show Row _ _ _
          rw [← lowSt_same (Nm.bs s) k hlt (by rw [← hc9]; exact HN2.out)]
          exact hR
        clear hR hR2 HS HN HN2 hc9 h9
        rcases h9' with h5 | ⟨h5, h6⟩
        all_goals
          go_wp2_with fail
          refine ⟨⟨k + 1, by omega, by go_num, fin.out, hb⟩, by simp [intOf]; omega⟩
    · have hk2 : k = s.size := by omega
      have E := row_string (cap := cap) hR
      rw [lowSt_len, hk2, ← size_eq, lowSt_end] at E
      rw [size_eq] at E
      go_wp2_with fail
      go_ret
      exact ⟨rfl, hb⟩
end Go.Proofs.YtkdlkdbjgajenaaDoor
