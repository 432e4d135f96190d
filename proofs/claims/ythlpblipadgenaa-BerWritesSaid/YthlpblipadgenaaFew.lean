/- 'few' answers whether an element is looked at: fitS 8 5000. -/
import Derived.Test.YthlpblipadgenaaForm
namespace Go.Proofs.Ythlpblipadgenaa
open Go.RowKit
set_option linter.unusedVariables false
set_option maxRecDepth 100000

def allF (f : Nat) : List El → Bool
  | [] => true
  | k :: ks => fitS 8 5000 f k && allF f ks
theorem allF_all (f : Nat) : ∀ l : List El, allF f l = l.all (fitS 8 5000 f)
  | [] => rfl
  | k :: l => by rw [allF, allF_all f l, List.all_cons]
theorem allF_drop {f : Nat} {l : List El} {i : Nat} (h : i < l.length) : allF f (l.drop i) = (fitS 8 5000 f l[i] && allF f (l.drop (i + 1))) := by
  rw [List.drop_eq_getElem_cons h, allF]
def SaidFew (e : El) : Prop := ∀ (f : Nat) (d : Int) (x y z : Value) (w : World), Hid (d = 27 - f) → 0 ≤ d → d ≤ 27 → Lies w (· < w.heap.size) e [x, y, z] →
    Calls Try.prog 16 #[.agg #[x, y, z], .int .i64 d] w fun r w' => r = .returned (.bool (fitS 8 5000 f e)) ∧ Below w.heap.size w w'

set_option maxHeartbeats 1000000 in
theorem few_any (e : El) : SaidFew e := by
  refine El.ind ?_ e
  intro t b ks ih f d x y z w hf hd0 hd hL
  obtain ⟨A, c, ds, hcs, ht, hb, hl, hK⟩ := hL.open_
  simp only [List.cons.injEq, and_true] at hcs
  obtain ⟨rfl, rfl, rfl⟩ := hcs
  unfold maxLen at hl hb
  cases f with
  | zero =>
    have hr := Lib.hid (show fitS 8 5000 0 (.mk t b ks) = false by simp [fitS])
    have hd26 : 26 < d := by have := hf.out; omega
    clear ih
    go_enter Try.func16, Try.ntmps16
    go_wp2_with fail
    go_ret
    rw [hr.out]
    exact ⟨rfl, (Below.refl _ _).alloc (Nat.le_refl _) _⟩
  | succ f =>
  have hd26 : d ≤ 26 := by have := hf.out; omega
  by_cases h8 : 8 < (ks.length : Int)
  · have hr := Lib.hid (show fitS 8 5000 (f + 1) (.mk t b ks) = false by
      have h : decide (ks.length ≤ 8) = false := by simp; omega
      simp only [fitS, h, Bool.false_and])
    clear ih
    go_enter Try.func16, Try.ntmps16
    go_wp2_with fail
    go_ret
    rw [hr.out]
    exact ⟨rfl, (Below.refl _ _).alloc (Nat.le_refl _) _⟩
  by_cases h5 : 5000 < (b.size : Int)
  · have hr := Lib.hid (show fitS 8 5000 (f + 1) (.mk t b ks) = false by
      have h : decide (b.size ≤ 5000) = false := by simp; omega
      simp only [fitS, h, Bool.false_and, Bool.and_false])
    have h8' : (ks.length : Int) ≤ 8 := by omega
    clear ih h8
    go_enter Try.func16, Try.ntmps16
    go_wp2_with fail
    go_ret
    rw [hr.out]
    exact ⟨rfl, (Below.refl _ _).alloc (Nat.le_refl _) _⟩
  have hr := Lib.hid (show fitS 8 5000 (f + 1) (.mk t b ks) = allF f ks by
    have h : decide (ks.length ≤ 8) = true := by simp; omega
    have h' : decide (b.size ≤ 5000) = true := by simp; omega
    simp only [fitS, h, h', Bool.true_and]
    rw [allF_all])
  have h8' : (ks.length : Int) ≤ 8 := by omega
  have h5' : (b.size : Int) ≤ 5000 := by omega
  have Ih := Lib.hid ih
  clear ih h8 h5 hL
  go_enter Try.func16, Try.ntmps16
  go_wp2_with fail
  go_loopw [5] (fun i wr => ∃ k : Nat, k ≤ ks.length ∧ i = .int .i64 k ∧ Hid (allF f ks = allF f (ks.drop k)) ∧ wr.cell? ⟨w.heap.size, 2, none⟩ = some (.slice A ks.length c) ∧ Below w.heap.size w wr ∧ w.heap.size + 1 ≤ wr.heap.size) (fun i wr => ks.length - (intOf i).toNat)
  case atStart => exact ⟨0, Nat.zero_le _, rfl, rfl, by simp, (Below.refl _ _).alloc (Nat.le_refl _) _, by simp⟩
  case round =>
    obtain ⟨k, hk, rfl, hE, hc2, hb, hsz⟩ := hrel
    by_cases hlt : (k : Int) < ks.length
    · have hlt' : k < ks.length := by omega
      obtain ⟨ad, t', b', A', n', c', rfl, hp, f0, f1, f2, hL⟩ := hK.kid5 hb hlt'
      have hD := Lib.hid (allF_drop (f := f) hlt')
      have H := Ih.out _ (List.getElem_mem hlt') f (d + 1) _ _ _ _ (by show _ = _; have := hf.out; omega) (by omega) (by omega) hL
      go_wp2_with fail
      refine H.mono ?_
      rintro e w1 ⟨rfl, hb1⟩
      clear H
      have hc2' := bat hb1 (by omega) hc2
      have hb2 := hb.trans (hb1.mono (by omega))
      have hs1 := hb1.size
      clear hc2
      go_wp2_with fail
      · have hx : fitS 8 5000 f ks[k] = false := by
          have h0 : (!fitS 8 5000 f ks[k]) = true := by assumption
          simpa using h0
        go_ret
        refine ⟨ret_bool ?_, hb2⟩
        rw [hr.out, hE.out, hD.out, hx]; rfl
      · have hx : fitS 8 5000 f ks[k] = true := by
          have h0 : (!fitS 8 5000 f ks[k]) = false := by assumption
          simpa using h0
        go_roundw
        case rel =>
          refine ⟨k + 1, by omega, by go_num, ?_, hc2', hb2, by omega⟩
          show _ = _
          rw [hE.out, hD.out, hx]; rfl
        case measure => simp [intOf]; omega
    · go_wp2_with fail
      go_ret
      refine ⟨ret_bool ?_, hb⟩
      have : k = ks.length := by omega
      rw [hr.out, hE.out, this, List.drop_length]; rfl
end Go.Proofs.Ythlpblipadgenaa
