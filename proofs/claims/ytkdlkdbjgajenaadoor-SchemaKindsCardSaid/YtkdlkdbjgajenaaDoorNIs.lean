/- What IsRDN and Is answer. -/
import Derived.Test.YtkdlkdbjgajenaaDoorNHas
import Derived.Test.YtkdlkdbjgajenaaDoorNType
namespace Go.Proofs.YtkdlkdbjgajenaaDoor
open Go.RowKit
set_option linter.unusedVariables false
set_option maxRecDepth 100000

theorem okFrom_step {r : List Nm.Ava} {k : Nat} (h : k < r.length) : Nm.okFrom (r.take k) (r.drop k) = (Nm.okAva r[k] && !hasT (r.take k) r[k].1 && Nm.okFrom (r.take (k + 1)) (r.drop (k + 1))) := by
  rw [List.drop_eq_getElem_cons h, Nm.okFrom, List.take_succ_eq_append_getElem h]
  congr 2
  unfold hasT
  rw [Bool.eq_iff_iff]
  simp
theorem okAva_of (a : Nm.Ava) : Nm.okAva a = (Nm.isType (Nm.bs a.1) && !(a.2.toList == []) && !decide (60 < (a.2.size : Int))) := by
  unfold Nm.okAva
  have : (a.2.toList == []) = decide (a.2.size = 0) := by
    have := isE a.2
    rw [← this]
    cases a.2.toList <;> rfl
  rw [this, Bool.and_assoc]
  congr 1
  rw [Bool.eq_iff_iff]
  simp only [Bool.and_eq_true, Bool.not_eq_true', decide_eq_true_eq, decide_eq_false_iff_not]
  omega
set_option maxHeartbeats 1000000 in
theorem isRdn_any (r : List Nm.Ava) (A : Option Addr) (c : Nat) (w : World) (hr : RAt w (· < w.heap.size) A r) (hl : r.length ≤ maxLen) (hcap : r.length ≤ c) :
    Calls Tryd.prog 45 #[.slice A r.length c] w fun e w' => e = .returned (.bool (Nm.isRdn r)) ∧ Below w.heap.size w w' := by
  unfold maxLen at hl
  by_cases h0 : (r.length : Int) = 0 ∨ ((r.length : Int) == 0) = false ∧ 4 < (r.length : Int)
  · have hF := Lib.hid (show Nm.isRdn r = false by
      unfold Nm.isRdn
      rcases h0 with h | ⟨_, h⟩
      · rw [decide_eq_false (by omega)]; rfl
      · rw [decide_eq_false (p := r.length ≤ 4) (by omega)]; simp)
    rcases h0 with h0 | ⟨h0, h1⟩
    all_goals
      go_enter Tryd.func45, Tryd.ntmps45
      go_wp2_with fail
      go_ret
      exact ⟨ret_bool hF.out.symm, Below.refl _ _⟩
  have h1 : ((r.length : Int) == 0) = false := by rw [beq_eq_false_iff_ne]; omega
  have h2 : (r.length : Int) ≤ 4 := by
    rcases Int.lt_or_le 4 (r.length : Int) with h | h
    · exact absurd (Or.inr ⟨h1, h⟩) h0
    · exact h
  have hF := Lib.hid (show Nm.isRdn r = Nm.okFrom (r.take 0) (r.drop 0) by
    unfold Nm.isRdn
    rw [decide_eq_true (by omega), decide_eq_true (by omega)]; rfl)
  have hmf : ∀ (fn : Fn) (first cap : Array Value) (w : World), (Instr.makeFunc fn first cap).run Tryd.prog w = .ok (.func fn first cap) w := fun _ _ _ _ => rfl
  clear h0
  go_enter Tryd.func45, Tryd.ntmps45
  go_wp2_with fail
  go_loopw [16] (fun i wr => ∃ k : Nat, k ≤ r.length ∧ i = .int .i64 k ∧ Hid (Nm.isRdn r = Nm.okFrom (r.take k) (r.drop k)) ∧ Below w.heap.size w wr) (fun i wr => r.length - (intOf i).toNat)
  case atStart => exact ⟨0, Nat.zero_le _, rfl, hF, Below.refl _ _⟩
  case round =>
    obtain ⟨k, hk, rfl, hE, hb⟩ := hrel
    have hs := hb.size
    by_cases hlt : k < r.length
    · obtain ⟨ad, rfl, hp, f0, f1⟩ := hr.kid hb hlt
      have hE2 := hE.out
      rw [okFrom_step hlt, okAva_of] at hE2
      have hrk := ((hr.take k).past hb).past ((Below.refl _ _).alloc (Nat.le_refl _) (.cells #[.string r[k].1, .string r[k].2] 71))
      obtain ⟨x, hx⟩ : ∃ x, x = r[k].1 := ⟨_, rfl⟩
      obtain ⟨y, hy⟩ : ∃ y, y = r[k].2 := ⟨_, rfl⟩
      rw [← hx, ← hy] at hrk hE2
      rw [← hx] at f0
      rw [← hy] at f1
      clear hx hy
      have hbw := hb.alloc hs (.cells #[.string x, .string y] 71)
      have bx : Blk (wr.alloc (.cells #[.string x, .string y] 71)) wr.heap.size 71 #[.string x, .string y] := Blk.new wr _ _
      have CT := isType_any x (wr.alloc (.cells #[.string x, .string y] 71))
      have CC := fun c => contains_any (r.take k) (some ad) c x wr.heap.size (wr.alloc (.cells #[.string x, .string y] 71)) (bx.cell 0) hrk (by rw [List.length_take]; unfold maxLen; omega)
      rw [show (r.take k).length = k by rw [List.length_take]; omega] at CC
      clear hE hrk hF
      obtain ⟨tt, htt⟩ : ∃ tt, tt = Nm.isType (Nm.bs x) := ⟨_, rfl⟩
      obtain ⟨uu, huu⟩ : ∃ uu, uu = hasT (r.take k) x := ⟨_, rfl⟩
      obtain ⟨vv, hvv⟩ : ∃ vv, vv = Nm.okFrom (r.take (k + 1)) (r.drop (k + 1)) := ⟨_, rfl⟩
      have HV := Lib.hid hvv
      rw [← htt, ← huu, ← hvv] at hE2
      rw [← htt] at CT
      rw [← huu] at CC
      have HCC := Lib.hid CC
      have HCT := Lib.hid CT
      have HE := Lib.hid hE2
      have hkc : k ≤ c := by omega
      clear htt huu hvv CC CT hE2
      cases tt
      · go_wp2_with fail
        refine HCT.out.mono ?_
        rintro e w1 ⟨rfl, rfl⟩
        go_wp2_with fail
        go_ret
        refine ⟨ret_bool ?_, hbw⟩
        rw [HE.out]; rfl
      rcases Bool.eq_false_or_eq_true uu with rfl | rfl
      · go_wp2_with fail
        refine HCT.out.mono ?_
        rintro e w1 ⟨rfl, rfl⟩
        go_wp2_with fail
        refine (HCC.out _).mono ?_
        rintro e w1 ⟨rfl, hb1⟩
        go_wp2_with fail
        go_ret
        refine ⟨ret_bool ?_, hbw.trans (hb1.mono (by simp; omega))⟩
        rw [HE.out]; simp
      have q0 : (wr.alloc (.cells #[.string x, .string y] 71)).cell? ⟨wr.heap.size, 1, none⟩ = some (.string y) := bx.cell 1
      by_cases hy0 : y.toList = []
      · go_wp2_with fail
        refine HCT.out.mono ?_
        rintro e w1 ⟨rfl, rfl⟩
        go_wp2_with fail
        refine (HCC.out _).mono ?_
        rintro e w1 ⟨rfl, hb1⟩
        have q1 : w1.cell? ⟨wr.heap.size, 1, none⟩ = some (.string y) := bat hb1 (by simp) q0
        go_wp2_with fail
        go_ret
        refine ⟨ret_bool ?_, hbw.trans (hb1.mono (by simp; omega))⟩
        rw [HE.out, hy0]; simp
      have hy1 : y.toList.isEmpty = false := by simpa using hy0
      by_cases hy2 : 60 < (y.size : Int)
      · go_wp2_with fail
        refine HCT.out.mono ?_
        rintro e w1 ⟨rfl, rfl⟩
        go_wp2_with fail
        refine (HCC.out _).mono ?_
        rintro e w1 ⟨rfl, hb1⟩
        have q1 : w1.cell? ⟨wr.heap.size, 1, none⟩ = some (.string y) := bat hb1 (by simp) q0
        go_wp2_with fail
        go_ret
        refine ⟨ret_bool ?_, hbw.trans (hb1.mono (by simp; omega))⟩
        rw [HE.out, decide_eq_true hy2]; simp
      · have HY : Hid ((y.toList == []) = false ∧ decide (60 < (y.size : Int)) = false) := ⟨by rw [beq_eq_false_iff_ne]; exact hy0, decide_eq_false hy2⟩
        have hy2' : (y.size : Int) ≤ 60 := by omega
        clear hy0 hy2
        go_wp2_with fail
        refine HCT.out.mono ?_
        rintro e w1 ⟨rfl, rfl⟩
        go_wp2_with fail
        refine (HCC.out _).mono ?_
        rintro e w1 ⟨rfl, hb1⟩
        have q1 : w1.cell? ⟨wr.heap.size, 1, none⟩ = some (.string y) := bat hb1 (by simp) q0
        go_wp2_with fail
        go_roundw
        case rel =>
          refine ⟨k + 1, by omega, by go_num, ?_, hbw.trans (hb1.mono (by simp; omega))⟩
          show _ = _
          rw [HE.out, HY.out.1, HY.out.2, HV.out]
          rfl
        case measure => simp [intOf]; omega
    · have hk2 : k = r.length := by omega
      have hE2 := hE.out
      rw [hk2, List.drop_length] at hE2
      have HE := Lib.hid hE2
      clear hE hE2 hk2
      go_wp2_with fail
      go_ret
      refine ⟨ret_bool ?_, hb⟩
      rw [HE.out]
      rfl
theorem all_step {d : List (List Nm.Ava)} {k : Nat} (h : k < d.length) : (d.drop k).all Nm.isRdn = (Nm.isRdn d[k] && (d.drop (k + 1)).all Nm.isRdn) := by
  rw [List.drop_eq_getElem_cons h, List.all_cons]
end Go.Proofs.YtkdlkdbjgajenaaDoor
