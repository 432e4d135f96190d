/- What fewRDN and few answer. -/
import Derived.Test.YtfgcmljlamodbaaNName
import Derived.Test.YtfgcmljlamodbaaNType
import Derived.Deep.RegionHeld3
namespace Go.Proofs.Ytfgcmljlamodbaa
open Go.RowKit
set_option linter.unusedVariables false
set_option maxRecDepth 100000

def fewA (a : Nm.Ava) : Bool := decide (a.1.size ≤ 30) && decide (a.2.size ≤ 80)
def fewR (r : List Nm.Ava) : Bool := r.all fewA && decide (r.length ≤ 6)
def fewD (d : List (List Nm.Ava)) : Bool := d.all fewR && decide (d.length ≤ 12)
theorem fewA_step {r : List Nm.Ava} {k : Nat} (h : k < r.length) : (r.drop k).all fewA = (fewA r[k] && (r.drop (k + 1)).all fewA) := by
  rw [List.drop_eq_getElem_cons h, List.all_cons]
theorem fewR_step {d : List (List Nm.Ava)} {k : Nat} (h : k < d.length) : (d.drop k).all fewR = (fewR d[k] && (d.drop (k + 1)).all fewR) := by
  rw [List.drop_eq_getElem_cons h, List.all_cons]
set_option maxHeartbeats 2000000 in
theorem fewR_any (r : List Nm.Ava) (A : Option Addr) (c : Nat) (w : World) (hr : RAt w (· < w.heap.size) A r) (hl : r.length ≤ maxLen) :
    Calls Try.prog 10 #[.slice A r.length c] w fun e w' => e = .returned (.bool (fewR r)) ∧ Below w.heap.size w w' := by
  unfold maxLen at hl
  have H0 : Hid (r.all fewA = (r.drop 0).all fewA) := rfl
  go_enter Try.func10, Try.ntmps10
  go_wp2_with fail
  go_loopw [3] (fun i wr => ∃ k : Nat, k ≤ r.length ∧ i = .int .i64 k ∧ Hid (r.all fewA = (r.drop k).all fewA) ∧ Below w.heap.size w wr) (fun i wr => r.length - (intOf i).toNat)
  case atStart => exact ⟨0, Nat.zero_le _, rfl, H0, Below.refl _ _⟩
  case round =>
    obtain ⟨k, hk, rfl, hE, hbw⟩ := hrel
    have hs := hbw.size
    by_cases hlt : k < r.length
    · obtain ⟨ad, rfl, hp, f0, f1⟩ := hr.kid hbw hlt
      have hE2 := hE.out
      rw [fewA_step hlt] at hE2
      have e0 : fewA r[k] = (decide (r[k].1.size ≤ 30) && decide (r[k].2.size ≤ 80)) := rfl
      rw [e0] at hE2
      generalize r[k].1 = x at f0 hE2
      generalize r[k].2 = y at f1 hE2
      have HE := Lib.hid hE2
      clear hE hE2 e0 H0
      by_cases hx : 30 < (x.size : Int)
      · have HF : Hid (fewR r = false) := by
          show _ = _
          unfold fewR
          rw [HE.out, decide_eq_false (by omega)]; rfl
        go_wp2_with fail
        go_ret
        exact ⟨ret_bool HF.out.symm, hbw⟩
      have hx' : (x.size : Int) ≤ 30 := by omega
      by_cases hy : 80 < (y.size : Int)
      · have HF : Hid (fewR r = false) := by
          show _ = _
          unfold fewR
          rw [HE.out, decide_eq_false (p := y.size ≤ 80) (by omega)]; simp
        go_wp2_with fail
        go_ret
        exact ⟨ret_bool HF.out.symm, hbw⟩
      · have hy' : (y.size : Int) ≤ 80 := by omega
        have HF : Hid (r.all fewA = (r.drop (k + 1)).all fewA) := by
          show _ = _
          rw [HE.out, decide_eq_true (p := x.size ≤ 30) (by omega), decide_eq_true (p := y.size ≤ 80) (by omega)]; rfl
        clear hx hy
        go_wp2_with fail
        refine ⟨⟨k + 1, by omega, by go_num, HF.out, hbw⟩, by simp [intOf]; omega⟩
    · have hk2 : k = r.length := by omega
      have hE2 := hE.out
      rw [hk2, List.drop_length] at hE2
      have HF : Hid (fewR r = decide ((r.length : Int) ≤ 6)) := by
        show _ = _
        unfold fewR
        rw [hE2]
        rw [Bool.eq_iff_iff]
        simp
        omega
      clear hE hE2 hk2
      go_wp2_with fail
      go_ret
      exact ⟨ret_bool HF.out.symm, hbw⟩
set_option maxHeartbeats 2000000 in
theorem few_any (d : List (List Nm.Ava)) (A : Option Addr) (c : Nat) (w : World) (hd : DAt w (· < w.heap.size) A d) (hl : d.length ≤ maxLen) (hk : ∀ r ∈ d, r.length ≤ maxLen) :
    Calls Try.prog 9 #[.slice A d.length c] w fun e w' => e = .returned (.bool (fewD d)) ∧ Below w.heap.size w w' := by
  unfold maxLen at hl
  have H0 : Hid (d.all fewR = (d.drop 0).all fewR) := rfl
  have CR := Lib.hid fewR_any
  have HK := Lib.hid hk
  clear hk
  go_enter Try.func9, Try.ntmps9
  go_wp2_with fail
  go_loopw [3] (fun i wr => ∃ k : Nat, k ≤ d.length ∧ i = .int .i64 k ∧ Hid (d.all fewR = (d.drop k).all fewR) ∧ Below w.heap.size w wr) (fun i wr => d.length - (intOf i).toNat)
  case atStart => exact ⟨0, Nat.zero_le _, rfl, H0, Below.refl _ _⟩
  case round =>
    obtain ⟨k, hk, rfl, hE, hbw⟩ := hrel
    have hs := hbw.size
    by_cases hlt : k < d.length
    · obtain ⟨ad, A', c', rfl, hp, f0, hc', hR⟩ := hd.kid hbw hlt
      have hE2 := hE.out
      rw [fewR_step hlt] at hE2
      have C1 := CR.out d[k] A' c' wr hR (HK.out _ (List.getElem_mem hlt))
      obtain ⟨m, hm⟩ : ∃ m, m = d[k].length := ⟨_, rfl⟩
      rw [← hm] at f0 C1
      generalize fewR d[k] = t at hE2 C1
      have HE := Lib.hid hE2
      have HC := Lib.hid C1
      clear hE hE2 C1 hm hR hc' H0
      cases t with
      | false =>
        have HF : Hid (fewD d = false) := by
          show _ = _
          unfold fewD
          rw [HE.out]; rfl
        go_wp2_with fail
        refine HC.out.mono ?_
        rintro e w1 ⟨rfl, hb1⟩
        go_wp2_with fail
        go_ret
        exact ⟨ret_bool HF.out.symm, hbw.trans (hb1.mono hs)⟩
      | true =>
        go_wp2_with fail
        refine HC.out.mono ?_
        rintro e w1 ⟨rfl, hb1⟩
        go_wp2_with fail
        refine ⟨⟨k + 1, by omega, by go_num, HE.out, hbw.trans (hb1.mono hs)⟩, by simp [intOf]; omega⟩
    · have hk2 : k = d.length := by omega
      have hE2 := hE.out
      rw [hk2, List.drop_length] at hE2
      have HF : Hid (fewD d = decide ((d.length : Int) ≤ 12)) := by
        show _ = _
        unfold fewD
        rw [hE2]
        rw [Bool.eq_iff_iff]
        simp
        omega
      clear hE hE2 hk2
      go_wp2_with fail
      go_ret
      exact ⟨ret_bool HF.out.symm, hbw⟩
end Go.Proofs.Ytfgcmljlamodbaa
