/- What deeper, moreLength, bodySize answer. -/
import Derived.Test.YtapkoiamjgdifaaForm
namespace Go.Proofs.Ytapkoiamjgdifaa
open Go.RowKit
set_option linter.unusedVariables false
set_option maxRecDepth 100000

def deepB (d : Int) (e : El) : Bool := decide (d < dep e)
def anyB (d : Int) : List El → Bool
  | [] => false
  | k :: ks => deepB d k || anyB d ks
theorem anyB_drop {d : Int} {l : List El} {i : Nat} (h : i < l.length) : anyB d (l.drop i) = (deepB d l[i] || anyB d (l.drop (i + 1))) := by
  rw [List.drop_eq_getElem_cons h, anyB]
theorem anyB_deps (d : Int) (h : 0 ≤ d) : ∀ l : List El, anyB d l = decide (d < deps l)
  | [] => by
    rw [anyB, deps, Bool.eq_iff_iff]; simp; omega
  | k :: l => by
    rw [anyB, anyB_deps d h l, deps, deepB]
    rw [Bool.eq_iff_iff]; simp; omega
def SaidDeeper (e : El) : Prop := ∀ (d : Int) (x y z : Value) (w : World), 0 ≤ d → d ≤ 1000 → Lies w (· < w.heap.size) e [x, y, z] →
    Calls Try.prog 53 #[.agg #[x, y, z], .int .i64 d] w fun r w' => r = .returned (.bool (deepB d e)) ∧ Below w.heap.size w w'

set_option maxHeartbeats 1000000 in
theorem deeper_any (e : El) : SaidDeeper e := by
  refine El.ind ?_ e
  intro t b ks ih d x y z w hd0 hd hL
  obtain ⟨A, c, ds, hcs, ht, hb, hl, hK⟩ := hL.open_
  simp only [List.cons.injEq, and_true] at hcs
  obtain ⟨rfl, rfl, rfl⟩ := hcs
  unfold maxLen at hl
  by_cases h0 : d = 0
  · have hr := Lib.hid (show deepB d (.mk t b ks) = true by simp [deepB, dep, h0])
    have h1 : (d == 0) = true := by simp [h0]
    clear h0 ih
    go_enter Try.func53, Try.ntmps53
    go_wp2_with fail
    go_ret
    rw [hr.out]
    exact ⟨rfl, (Below.refl _ _).alloc (Nat.le_refl _) _⟩
  · have hr := Lib.hid (show deepB d (.mk t b ks) = anyB (d - 1) ks by rw [anyB_deps _ (by omega), deepB, dep, Bool.eq_iff_iff]; simp; omega)
    have h1 : (d == 0) = false := beq_eq_false_iff_ne.2 h0
    have h2 : 1 ≤ d := by omega
    have Ih := Lib.hid ih
    clear h0 ih hL hd0
    go_enter Try.func53, Try.ntmps53
    go_wp2_with fail
    go_loopw [12] (fun i wr => ∃ k : Nat, k ≤ ks.length ∧ i = .int .i64 k ∧ Hid (anyB (d - 1) ks = anyB (d - 1) (ks.drop k)) ∧ Below w.heap.size w wr) (fun i wr => ks.length - (intOf i).toNat)
    case atStart => exact ⟨0, Nat.zero_le _, rfl, rfl, (Below.refl _ _).alloc (Nat.le_refl _) _⟩
    case round =>
      obtain ⟨k, hk, rfl, hE, hb⟩ := hrel
      by_cases hlt : k < ks.length
      · obtain ⟨ad, t', b', A', n', c', rfl, hp, f0, f1, f2, hL⟩ := hK.kid5 hb hlt
        have hs := hb.size
        have hD := Lib.hid (anyB_drop (d := d - 1) hlt)
        have hb0 : Below w.heap.size w (wr.alloc (.cells #[.int .u8 t', .string b', .slice A' n' c'] 25)) := hb.alloc hs _
        have H := Ih.out _ (List.getElem_mem hlt) (d - 1) _ _ _ _ (by omega) (by omega) (hL.alloc (.cells #[.int .u8 t', .string b', .slice A' n' c'] 25))
        go_wp2_with fail
        refine H.mono ?_
        rintro e w1 ⟨rfl, hb1⟩
        clear H
        have hb2 := hb0.trans (hb1.mono (by simp; omega))
        go_wp2_with fail
        · have hx : deepB (d - 1) ks[k] = true := by assumption
          go_ret
          refine ⟨ret_bool ?_, hb2⟩
          rw [hr.out, hE.out, hD.out, hx]; rfl
        · have hx : deepB (d - 1) ks[k] = false := by assumption
          go_roundw
          case rel =>
            refine ⟨k + 1, by omega, by go_num, ?_, hb2⟩
            show _ = _
            rw [hE.out, hD.out, hx]; rfl
          case measure => simp [intOf]; omega
      · go_wp2_with fail
        go_ret
        refine ⟨ret_bool ?_, hb⟩
        have : k = ks.length := by omega
        rw [hr.out, hE.out, this, List.drop_length]; rfl

set_option maxHeartbeats 400000 in
theorem more_any (n : Int) (w : World) (h : 0 ≤ n) :
    Calls Try.prog 61 #[.int .i64 n] w fun r w' => r = .returned (.int .i64 (more n.toNat)) ∧ w = w' := by
  by_cases h1 : n < 128
  · have hr := Lib.hid (show more n.toNat = 0 by unfold more; rw [if_pos (by omega)])
    go_enter Try.func61, Try.ntmps61
    go_wp2_with fail
    go_ret
    rw [hr.out]; exact ⟨rfl, rfl⟩
  by_cases h2 : n < 256
  · have hr := Lib.hid (show more n.toNat = 1 by unfold more; rw [if_neg (by omega), if_pos (by omega)])
    go_enter Try.func61, Try.ntmps61
    go_wp2_with fail
    go_ret
    rw [hr.out]; exact ⟨rfl, rfl⟩
  · have hr := Lib.hid (show more n.toNat = 2 by unfold more; rw [if_neg (by omega), if_neg (by omega)])
    go_enter Try.func61, Try.ntmps61
    go_wp2_with fail
    go_ret
    rw [hr.out]; exact ⟨rfl, rfl⟩

def SaidSize (e : El) : Prop := ∀ (K L d : Nat) (x y z : Value) (w : World), L ≤ 10000 → d ≤ 10000 → fitS K L d e = true → Lies w (· < w.heap.size) e [x, y, z] →
    Calls Try.prog 54 #[.agg #[x, y, z]] w fun r w' => r = .returned (.int .i64 (tsz e)) ∧ Below w.heap.size w w'

set_option maxHeartbeats 1000000 in
theorem size_any (e : El) : SaidSize e := by
  refine El.ind ?_ e
  intro t b ks ih K L d x y z w hL1 hd hF hL
  obtain ⟨A, c, ds, hcs, ht, hb, hl, hK⟩ := hL.open_
  simp only [List.cons.injEq, and_true] at hcs
  obtain ⟨rfl, rfl, rfl⟩ := hcs
  unfold maxLen at hl hb
  cases d with
  | zero => exact (fitS_zero hF).elim
  | succ d =>
  obtain ⟨_, hbL, hkF⟩ := fitS_open hF
  have HF := Lib.hid hkF
  have hr := Lib.hid (show tsz (.mk t b ks) = tszs b.size ks by rw [tsz])
  have Ih := Lib.hid ih
  clear ih hL hF hkF
  go_enter Try.func54, Try.ntmps54
  go_wp2_with fail
  go_loopw [3, 13] (fun n i wr => ∃ k m : Nat, k ≤ ks.length ∧ i = .int .i64 k ∧ n = .int .i64 m ∧ m ≤ 50000000 ∧ Hid (tszs b.size ks = tszs m (ks.drop k)) ∧ Below w.heap.size w wr) (fun n i wr => ks.length - (intOf i).toNat)
  case atStart => exact ⟨0, b.size, Nat.zero_le _, rfl, rfl, by omega, rfl, (Below.refl _ _).alloc (Nat.le_refl _) _⟩
  case round =>
    obtain ⟨k, m, hk, rfl, rfl, hm, hE, hb⟩ := hrel
    by_cases hlt : k < ks.length
    · obtain ⟨ad, t', b', A', n', c', rfl, hp, f0, f1, f2, hL⟩ := hK.kid5 hb hlt
      have hs := hb.size
      have hD := Lib.hid (tszs_drop (n := m) hlt)
      have hb0 : Below w.heap.size w (wr.alloc (.cells #[.int .u8 t', .string b', .slice A' n' c'] 25)) := hb.alloc hs _
      have H := Ih.out _ (List.getElem_mem hlt) K L d _ _ _ _ hL1 (by omega) (HF.out k hlt) (hL.alloc (.cells #[.int .u8 t', .string b', .slice A' n' c'] 25))
      have hT := tsz_bound (HF.out k hlt)
      by_cases h4 : 4000 < (m : Int)
      · clear H hT
        go_wp2_with fail
        go_ret
        refine ⟨ret_int ?_, hb0⟩
        rw [hr.out, hE.out, hD.out, if_pos (by omega)]
      · obtain ⟨v, hv⟩ : ∃ v, v = tsz ks[k] := ⟨_, rfl⟩
        rw [← hv] at H hT
        have Hv := Lib.hid hv
        have hm2 := more_le v
        clear hv
        go_wp2_with fail
        refine H.mono ?_
        rintro e w1 ⟨rfl, hb1⟩
        clear H
        have hb2 := hb0.trans (hb1.mono (by simp; omega))
        go_wp2_with (go_at_call 61; refine (more_any _ _ (by omega)).mono ?_; rintro e w2 ⟨rfl, rfl⟩)
        go_roundw
        case rel =>
          refine ⟨k + 1, m + (2 + more v + v), by omega, by go_num, by go_num, by omega, ?_, hb2⟩
          show _ = _
          rw [hE.out, hD.out, if_neg (by omega), Hv.out]
        case measure => simp [intOf]; omega
    · go_wp2_with fail
      go_ret
      refine ⟨ret_int ?_, hb⟩
      have : k = ks.length := by omega
      rw [hr.out, hE.out, this, List.drop_length]; rfl
end Go.Proofs.Ytapkoiamjgdifaa
