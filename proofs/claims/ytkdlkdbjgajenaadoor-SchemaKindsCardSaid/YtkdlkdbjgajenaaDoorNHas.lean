/- What the closure of IsRDN answers, and ContainsFunc with it: whether a type is among those. -/
import Derived.Test.YtkdlkdbjgajenaaDoorNName
import Derived.Deep.LoopGhost
namespace Go.Proofs.YtkdlkdbjgajenaaDoor
open Go.RowKit
set_option linter.unusedVariables false
set_option maxRecDepth 100000

theorem toList_inj' (a b : ByteArray) : (a.toList == b.toList) = decide (a = b) := by
  rw [Bool.eq_iff_iff]
  simp only [beq_iff_eq, decide_eq_true_eq]
  constructor
  · intro h
    have : a.data.toList = b.data.toList := by simpa [ByteArray.toList_eq] using h
    cases a; cases b
    simp only [ByteArray.mk.injEq]
    simpa using this
  · intro h; rw [h]
set_option maxHeartbeats 400000 in
theorem clo_any (x y z : ByteArray) (g : Nat) (w : World) (h : w.cell? ⟨g, 0, none⟩ = some (.string z)) :
    Calls Tryd.prog 54 #[.agg #[.string x, .string y], .pointer (some ⟨g, 0, none⟩)] w fun e w' => e = .returned (.bool (decide (x = z))) ∧ Below w.heap.size w w' := by
  have hlt := cell_lt h
  have h' : (w.alloc (.cells #[.string x, .string y] 71)).cell? ⟨g, 0, none⟩ = some (.string z) := bat ((Below.refl _ _).alloc (Nat.le_refl _) _) hlt h
  go_enter Tryd.func54, Tryd.ntmps54
  go_wp2_with fail
  go_ret
  exact ⟨ret_bool (toList_inj' x z), (Below.refl _ _).alloc (Nat.le_refl _) _⟩
/-- Whether one of them is of the type z. -/
def hasT (r : List Nm.Ava) (z : ByteArray) : Bool := r.any fun b => decide (b.1 = z)
theorem hasT_step {r : List Nm.Ava} {z : ByteArray} {k : Nat} (h : k < r.length) : hasT (r.take (k + 1)) z = (hasT (r.take k) z || decide (r[k].1 = z)) := by
  unfold hasT
  rw [List.take_succ_eq_append_getElem h, List.any_append]
  simp
theorem hasT_at {r : List Nm.Ava} {z : ByteArray} {k : Nat} (h : k < r.length) (he : r[k].1 = z) : hasT r z = true := by
  unfold hasT
  rw [List.any_eq_true]
  exact ⟨r[k], List.getElem_mem h, by simp [he]⟩
set_option maxHeartbeats 1000000 in
theorem index_any (r : List Nm.Ava) (A : Option Addr) (c : Nat) (z : ByteArray) (g : Nat) (w : World) (hg : w.cell? ⟨g, 0, none⟩ = some (.string z)) (hr : RAt w (· < w.heap.size) A r) (hl : r.length ≤ maxLen) :
    Calls Tryd.prog 63 #[.slice A r.length c, .func (.func 54) #[] #[.pointer (some ⟨g, 0, none⟩)]] w fun e w' => ∃ n : Int, e = .returned (.int .i64 n) ∧ decide (0 ≤ n) = hasT r z ∧ Below w.heap.size w w' := by
  unfold maxLen at hl
  have CC := Lib.hid (fun x y w => clo_any x y z g w)
  have hlt := cell_lt hg
  go_enter Tryd.func63, Tryd.ntmps63
  go_wp2_with fail
  go_loopw [8] (fun i wr => ∃ k : Nat, k ≤ r.length ∧ i = .int .i64 k ∧ Hid (hasT (r.take k) z = false) ∧ Below w.heap.size w wr) (fun i wr => r.length - (intOf i).toNat)
  case atStart => exact ⟨0, Nat.zero_le _, rfl, rfl, Below.refl _ _⟩
  case round =>
    obtain ⟨k, hk, rfl, hE, hb⟩ := hrel
    have hs := hb.size
    by_cases hlt2 : k < r.length
    · obtain ⟨ad, rfl, hp, f0, f1⟩ := hr.kid hb hlt2
      have hg2 := bat hb hlt hg
      have hS := Lib.hid (hasT_step (z := z) hlt2)
      have hA := Lib.hid (fun he => hasT_at (r := r) (z := z) hlt2 he)
      obtain ⟨x, hx⟩ : ∃ x, x = r[k].1 := ⟨_, rfl⟩
      obtain ⟨y, hy⟩ : ∃ y, y = r[k].2 := ⟨_, rfl⟩
      rw [← hx] at f0 hS hA
      rw [← hy] at f1
      clear hx hy
      by_cases hxz : x = z
      · have D := CC.out x y wr hg2
        rw [decide_eq_true hxz] at D
        have HD := Lib.hid D
        have HX := Lib.hid hxz
        clear D hxz
        go_wp2_with fail
        refine HD.out.mono ?_
        rintro e w1 ⟨rfl, hb1⟩
        go_wp2_with fail
        go_ret
        refine ⟨_, rfl, ?_, hb.trans (hb1.mono hs)⟩
        rw [hA.out HX.out, decide_eq_true_eq]
        omega
      · have D := CC.out x y wr hg2
        rw [decide_eq_false hxz] at D
        have HD := Lib.hid D
        have HX := Lib.hid hxz
        clear D hxz
        go_wp2_with fail
        refine HD.out.mono ?_
        rintro e w1 ⟨rfl, hb1⟩
        go_wp2_with fail
        go_roundw
        case rel =>
          refine ⟨k + 1, by omega, by go_num, ?_, hb.trans (hb1.mono hs)⟩
          show _ = _
          rw [hS.out, hE.out, decide_eq_false HX.out]
          rfl
        case measure => simp [intOf]; omega
    · have hk2 : k = r.length := by omega
      have hE2 := hE.out
      rw [hk2, List.take_length] at hE2
      have HE := Lib.hid hE2
      clear hE hE2 hk2
      go_wp2_with fail
      go_ret
      refine ⟨_, rfl, ?_, hb⟩
      rw [HE.out]
      rfl
set_option maxHeartbeats 400000 in
theorem contains_any (r : List Nm.Ava) (A : Option Addr) (c : Nat) (z : ByteArray) (g : Nat) (w : World) (hg : w.cell? ⟨g, 0, none⟩ = some (.string z)) (hr : RAt w (· < w.heap.size) A r) (hl : r.length ≤ maxLen) :
    Calls Tryd.prog 56 #[.slice A r.length c, .func (.func 54) #[] #[.pointer (some ⟨g, 0, none⟩)]] w fun e w' => e = .returned (.bool (hasT r z)) ∧ Below w.heap.size w w' := by
  have C := Lib.hid (index_any r A c z g w hg hr hl)
  go_enter Tryd.func56, Tryd.ntmps56
  go_wp2_with fail
  refine C.out.mono ?_
  rintro e w1 ⟨n, rfl, hn, hb1⟩
  have HN := Lib.hid hn
  clear hn
  go_wp2_with fail
  go_ret
  exact ⟨ret_bool HN.out, hb1⟩
end Go.Proofs.YtkdlkdbjgajenaaDoor
