/- BerWrites: the walk. -/
import Derived.Test.YthlpblipadgenaaKnown
import Derived.Test.YthlpblipadgenaaRWrite
import Derived.Test.YthlpblipadgenaaRSame
import Derived.Test.YthlpblipadgenaaFew
import Derived.Deep.RegionHeld3
namespace Go.Proofs.Ythlpblipadgenaa
open Go.RowKit
set_option linter.unusedVariables false
set_option maxRecDepth 100000

section
variable (w : World) (e f : El) (t : Nat) (b : ByteArray) (A : Option Addr) (n c : Nat) (t' : Nat) (b' : ByteArray) (A' : Option Addr) (n' c' : Nat)
  (hL : Lies w (· < w.heap.size) e [.int .u8 t, .string b, .slice A n c]) (hM : Lies w (· < w.heap.size) f [.int .u8 t', .string b', .slice A' n' c'])
include hL hM
set_option maxHeartbeats 4000000 in
theorem writes_not1 (hF : fitS 8 5000 27 e = false) :
    Calls Try.prog 4 #[.agg #[.int .u8 t, .string b, .slice A n c], .agg #[.int .u8 t', .string b', .slice A' n' c']] w fun r w' => r = .returned (.bool true) ∧ Below w.heap.size w w' := by
  have HF := Lib.hid (fun w1 h => few_any e 27 0 (.int .u8 t) (.string b) (.slice A n c) w1 (by show _ = _; omega) (by omega) (by omega) h)
  rw [hF] at HF
  have L0 := (hL.alloc (.cells #[.int .u8 t, .string b, .slice A n c] 25)).alloc (.cells #[.int .u8 t', .string b', .slice A' n' c'] 25)
  have M0 := (hM.alloc (.cells #[.int .u8 t, .string b, .slice A n c] 25)).alloc (.cells #[.int .u8 t', .string b', .slice A' n' c'] 25)
  have B0 := (Blk.new w 25 #[.int .u8 t, .string b, .slice A n c]).alloc (.cells #[.int .u8 t', .string b', .slice A' n' c'] 25)
  have D0 := Blk.new (w.alloc (.cells #[.int .u8 t, .string b, .slice A n c] 25)) 25 #[.int .u8 t', .string b', .slice A' n' c']
  rw [World.size_alloc] at D0
  have h0 := ((Below.refl w.heap.size w).alloc (Nat.le_refl _) (.cells #[.int .u8 t, .string b, .slice A n c] 25)).alloc (by simp) (.cells #[.int .u8 t', .string b', .slice A' n' c'] 25)
  clear hF hL hM
  go_enter Try.func4, Try.ntmps4
  go_wp2_with fail
  refine (known_any _).mono ?_
  rintro r w1 ⟨rfl, hb1⟩
  have L1 := L0.past hb1
  have M1 := M0.past hb1
  have B1 := B0.past hb1
  have D1 := D0.past hb1
  have s1 : w.heap.size + 2 ≤ w1.heap.size := by have := hb1.size; simpa using this
  have h1 := h0.trans (hb1.mono (by simp; omega))
  have c10 : w1.cell? ⟨w.heap.size, 0, none⟩ = some (.int .u8 t) := B1.cell 0
  have c11 : w1.cell? ⟨w.heap.size, 1, none⟩ = some (.string b) := B1.cell 1
  have c12 : w1.cell? ⟨w.heap.size, 2, none⟩ = some (.slice A n c) := B1.cell 2
  have k10 : w1.cell? ⟨w.heap.size + 1, 0, none⟩ = some (.int .u8 t') := D1.cell 0
  have k11 : w1.cell? ⟨w.heap.size + 1, 1, none⟩ = some (.string b') := D1.cell 1
  have k12 : w1.cell? ⟨w.heap.size + 1, 2, none⟩ = some (.slice A' n' c') := D1.cell 2
  clear hb1 h0 L0 M0 B0 D0
  go_wp2_with fail
  refine (HF.out _ L1).mono ?_
  rintro r w2 ⟨rfl, hb2⟩
  go_wp2_with fail
  go_ret
  exact ⟨rfl, h1.trans (hb2.mono (by omega))⟩
set_option maxHeartbeats 4000000 in
theorem writes_not2 (hF : fitS 8 5000 27 e = true) (hG : fitS 8 5000 27 f = false) :
    Calls Try.prog 4 #[.agg #[.int .u8 t, .string b, .slice A n c], .agg #[.int .u8 t', .string b', .slice A' n' c']] w fun r w' => r = .returned (.bool true) ∧ Below w.heap.size w w' := by
  have HF := Lib.hid (fun w1 h => few_any e 27 0 (.int .u8 t) (.string b) (.slice A n c) w1 (by show _ = _; omega) (by omega) (by omega) h)
  rw [hF] at HF
  have HG := Lib.hid (fun w1 h => few_any f 27 0 (.int .u8 t') (.string b') (.slice A' n' c') w1 (by show _ = _; omega) (by omega) (by omega) h)
  rw [hG] at HG
  have L0 := (hL.alloc (.cells #[.int .u8 t, .string b, .slice A n c] 25)).alloc (.cells #[.int .u8 t', .string b', .slice A' n' c'] 25)
  have M0 := (hM.alloc (.cells #[.int .u8 t, .string b, .slice A n c] 25)).alloc (.cells #[.int .u8 t', .string b', .slice A' n' c'] 25)
  have B0 := (Blk.new w 25 #[.int .u8 t, .string b, .slice A n c]).alloc (.cells #[.int .u8 t', .string b', .slice A' n' c'] 25)
  have D0 := Blk.new (w.alloc (.cells #[.int .u8 t, .string b, .slice A n c] 25)) 25 #[.int .u8 t', .string b', .slice A' n' c']
  rw [World.size_alloc] at D0
  have h0 := ((Below.refl w.heap.size w).alloc (Nat.le_refl _) (.cells #[.int .u8 t, .string b, .slice A n c] 25)).alloc (by simp) (.cells #[.int .u8 t', .string b', .slice A' n' c'] 25)
  clear hF hG hL hM
  go_enter Try.func4, Try.ntmps4
  go_wp2_with fail
  refine (known_any _).mono ?_
  rintro r w1 ⟨rfl, hb1⟩
  have L1 := L0.past hb1
  have M1 := M0.past hb1
  have B1 := B0.past hb1
  have D1 := D0.past hb1
  have s1 : w.heap.size + 2 ≤ w1.heap.size := by have := hb1.size; simpa using this
  have h1 := h0.trans (hb1.mono (by simp; omega))
  have c10 : w1.cell? ⟨w.heap.size, 0, none⟩ = some (.int .u8 t) := B1.cell 0
  have c11 : w1.cell? ⟨w.heap.size, 1, none⟩ = some (.string b) := B1.cell 1
  have c12 : w1.cell? ⟨w.heap.size, 2, none⟩ = some (.slice A n c) := B1.cell 2
  have k10 : w1.cell? ⟨w.heap.size + 1, 0, none⟩ = some (.int .u8 t') := D1.cell 0
  have k11 : w1.cell? ⟨w.heap.size + 1, 1, none⟩ = some (.string b') := D1.cell 1
  have k12 : w1.cell? ⟨w.heap.size + 1, 2, none⟩ = some (.slice A' n' c') := D1.cell 2
  clear hb1 h0 L0 M0 B0 D0
  go_wp2_with fail
  refine (HF.out _ L1).mono ?_
  rintro r w2 ⟨rfl, hb2⟩
  have L2 := L1.past hb2
  have M2 := M1.past hb2
  have B2 := B1.past hb2
  have D2 := D1.past hb2
  have s2 := Nat.le_trans s1 hb2.size
  have h2 := h1.trans (hb2.mono (by omega))
  have c20 : w2.cell? ⟨w.heap.size, 0, none⟩ = some (.int .u8 t) := B2.cell 0
  have c21 : w2.cell? ⟨w.heap.size, 1, none⟩ = some (.string b) := B2.cell 1
  have c22 : w2.cell? ⟨w.heap.size, 2, none⟩ = some (.slice A n c) := B2.cell 2
  have k20 : w2.cell? ⟨w.heap.size + 1, 0, none⟩ = some (.int .u8 t') := D2.cell 0
  have k21 : w2.cell? ⟨w.heap.size + 1, 1, none⟩ = some (.string b') := D2.cell 1
  have k22 : w2.cell? ⟨w.heap.size + 1, 2, none⟩ = some (.slice A' n' c') := D2.cell 2
  clear hb2 h1 L1 M1 B1 D1 c10 k10 c11 k11 c12 k12 s1
  go_wp2_with fail
  refine (HG.out _ M2).mono ?_
  rintro r w3 ⟨rfl, hb3⟩
  go_wp2_with fail
  go_ret
  exact ⟨rfl, h2.trans (hb3.mono (by omega))⟩
set_option maxHeartbeats 4000000 in
theorem writes_ok (hF : fitS 8 5000 27 e = true) (hG : fitS 8 5000 27 f = true) (hE : errV e = 0) (q : Bool) (hq : eqEl e f = q) :
    Calls Try.prog 4 #[.agg #[.int .u8 t, .string b, .slice A n c], .agg #[.int .u8 t', .string b', .slice A' n' c']] w fun r w' => r = .returned (.bool true) ∧ Below w.heap.size w w' := by
  have HF := Lib.hid (fun w1 h => few_any e 27 0 (.int .u8 t) (.string b) (.slice A n c) w1 (by show _ = _; omega) (by omega) (by omega) h)
  rw [hF] at HF
  have HG := Lib.hid (fun w1 h => few_any f 27 0 (.int .u8 t') (.string b') (.slice A' n' c') w1 (by show _ = _; omega) (by omega) (by omega) h)
  rw [hG] at HG
  have CW : Hid (∀ w1, Lies w1 (· < w1.heap.size) e [.int .u8 t, .string b, .slice A n c] → Calls Try.prog 17 #[.agg #[.int .u8 t, .string b, .slice A n c]] w1 fun r w' => r = .returned (.tuple #[.string ⟨(enc e).toArray⟩, .int .i64 0]) ∧ Below w1.heap.size w1 w') := fun w1 h => by
    refine (Write_any 8 5000 27 e _ _ _ w1 (by omega) (by omega) hF h).mono ?_
    rintro r w' ⟨rfl, hb⟩
    exact ⟨by unfold wrV; rw [wr_err, wr_bytes, if_pos hE, hE]; rfl, hb⟩
  have CV : Hid (∀ w1, Lies w1 (· < w1.heap.size) e [.int .u8 t, .string b, .slice A n c] → Calls Try.prog 18 #[.agg #[.int .u8 t, .string b, .slice A n c]] w1 fun r w' => r = .returned (.tuple #[.string ⟨(enc e).toArray⟩, .int .i64 0]) ∧ Below w1.heap.size w1 w') := fun w1 h => by
    refine (rWrite_any 8 5000 27 e _ _ _ w1 (by omega) (by omega) (by omega) hF h).mono ?_
    rintro r w' ⟨rfl, hb⟩
    exact ⟨by unfold wrV; rw [wr_err, wr_bytes, if_pos hE, hE]; rfl, hb⟩
  have CI : Hid (∀ w1, Lies w1 (· < w1.heap.size) e [.int .u8 t, .string b, .slice A n c] → Calls Try.prog 19 #[.agg #[.int .u8 t, .string b, .slice A n c]] w1 fun r w' => r = .returned (.bool true) ∧ Below w1.heap.size w1 w') := fun w1 h => by
    refine (Is_any 8 5000 27 e _ _ _ w1 (by omega) (by omega) hF h).mono ?_
    rintro r w' ⟨rfl, hb⟩
    exact ⟨ret_bool (by simpa using hE), hb⟩
  have CS : Hid (∀ w1, Lies w1 (· < w1.heap.size) e [.int .u8 t, .string b, .slice A n c] → Lies w1 (· < w1.heap.size) f [.int .u8 t', .string b', .slice A' n' c'] → Calls Try.prog 20 #[.agg #[.int .u8 t, .string b, .slice A n c], .agg #[.int .u8 t', .string b', .slice A' n' c']] w1 fun r w' => r = .returned (.bool q) ∧ Below w1.heap.size w1 w') := fun w1 h h' => by
    rw [← hq]; exact same_any e f _ _ _ _ _ _ w1 h h'
  have CT : Hid (∀ w1, Lies w1 (· < w1.heap.size) e [.int .u8 t, .string b, .slice A n c] → Lies w1 (· < w1.heap.size) f [.int .u8 t', .string b', .slice A' n' c'] → Calls Try.prog 15 #[.agg #[.int .u8 t, .string b, .slice A n c], .agg #[.int .u8 t', .string b', .slice A' n' c']] w1 fun r w' => r = .returned (.bool q) ∧ Below w1.heap.size w1 w') := fun w1 h h' => by
    rw [← hq]; exact rsame_any e f _ _ _ _ _ _ w1 h h'
  have L0 := (hL.alloc (.cells #[.int .u8 t, .string b, .slice A n c] 25)).alloc (.cells #[.int .u8 t', .string b', .slice A' n' c'] 25)
  have M0 := (hM.alloc (.cells #[.int .u8 t, .string b, .slice A n c] 25)).alloc (.cells #[.int .u8 t', .string b', .slice A' n' c'] 25)
  have B0 := (Blk.new w 25 #[.int .u8 t, .string b, .slice A n c]).alloc (.cells #[.int .u8 t', .string b', .slice A' n' c'] 25)
  have D0 := Blk.new (w.alloc (.cells #[.int .u8 t, .string b, .slice A n c] 25)) 25 #[.int .u8 t', .string b', .slice A' n' c']
  rw [World.size_alloc] at D0
  have h0 := ((Below.refl w.heap.size w).alloc (Nat.le_refl _) (.cells #[.int .u8 t, .string b, .slice A n c] 25)).alloc (by simp) (.cells #[.int .u8 t', .string b', .slice A' n' c'] 25)
  clear hF hG hE hL hM hq
  generalize (⟨(enc e).toArray⟩ : ByteArray) = S at CW CV
  go_enter Try.func4, Try.ntmps4
  go_wp2_with fail
  refine (known_any _).mono ?_
  rintro r w1 ⟨rfl, hb1⟩
  have L1 := L0.past hb1
  have M1 := M0.past hb1
  have B1 := B0.past hb1
  have D1 := D0.past hb1
  have s1 : w.heap.size + 2 ≤ w1.heap.size := by have := hb1.size; simpa using this
  have h1 := h0.trans (hb1.mono (by simp; omega))
  have c10 : w1.cell? ⟨w.heap.size, 0, none⟩ = some (.int .u8 t) := B1.cell 0
  have c11 : w1.cell? ⟨w.heap.size, 1, none⟩ = some (.string b) := B1.cell 1
  have c12 : w1.cell? ⟨w.heap.size, 2, none⟩ = some (.slice A n c) := B1.cell 2
  have k10 : w1.cell? ⟨w.heap.size + 1, 0, none⟩ = some (.int .u8 t') := D1.cell 0
  have k11 : w1.cell? ⟨w.heap.size + 1, 1, none⟩ = some (.string b') := D1.cell 1
  have k12 : w1.cell? ⟨w.heap.size + 1, 2, none⟩ = some (.slice A' n' c') := D1.cell 2
  clear hb1 h0 L0 M0 B0 D0
  go_wp2_with fail
  refine (HF.out _ L1).mono ?_
  rintro r w2 ⟨rfl, hb2⟩
  have L2 := L1.past hb2
  have M2 := M1.past hb2
  have B2 := B1.past hb2
  have D2 := D1.past hb2
  have s2 := Nat.le_trans s1 hb2.size
  have h2 := h1.trans (hb2.mono (by omega))
  have c20 : w2.cell? ⟨w.heap.size, 0, none⟩ = some (.int .u8 t) := B2.cell 0
  have c21 : w2.cell? ⟨w.heap.size, 1, none⟩ = some (.string b) := B2.cell 1
  have c22 : w2.cell? ⟨w.heap.size, 2, none⟩ = some (.slice A n c) := B2.cell 2
  have k20 : w2.cell? ⟨w.heap.size + 1, 0, none⟩ = some (.int .u8 t') := D2.cell 0
  have k21 : w2.cell? ⟨w.heap.size + 1, 1, none⟩ = some (.string b') := D2.cell 1
  have k22 : w2.cell? ⟨w.heap.size + 1, 2, none⟩ = some (.slice A' n' c') := D2.cell 2
  clear hb2 h1 L1 M1 B1 D1 c10 k10 c11 k11 c12 k12 s1
  go_wp2_with fail
  refine (HG.out _ M2).mono ?_
  rintro r w3 ⟨rfl, hb3⟩
  have L3 := L2.past hb3
  have M3 := M2.past hb3
  have B3 := B2.past hb3
  have D3 := D2.past hb3
  have s3 := Nat.le_trans s2 hb3.size
  have h3 := h2.trans (hb3.mono (by omega))
  have c30 : w3.cell? ⟨w.heap.size, 0, none⟩ = some (.int .u8 t) := B3.cell 0
  have c31 : w3.cell? ⟨w.heap.size, 1, none⟩ = some (.string b) := B3.cell 1
  have c32 : w3.cell? ⟨w.heap.size, 2, none⟩ = some (.slice A n c) := B3.cell 2
  have k30 : w3.cell? ⟨w.heap.size + 1, 0, none⟩ = some (.int .u8 t') := D3.cell 0
  have k31 : w3.cell? ⟨w.heap.size + 1, 1, none⟩ = some (.string b') := D3.cell 1
  have k32 : w3.cell? ⟨w.heap.size + 1, 2, none⟩ = some (.slice A' n' c') := D3.cell 2
  clear hb3 h2 L2 M2 B2 D2 c20 k20 c21 k21 c22 k22 s2
  go_wp2_with fail
  refine (CW.out _ L3).mono ?_
  rintro r w4 ⟨rfl, hb4⟩
  have L4 := L3.past hb4
  have M4 := M3.past hb4
  have B4 := B3.past hb4
  have D4 := D3.past hb4
  have s4 := Nat.le_trans s3 hb4.size
  have h4 := h3.trans (hb4.mono (by omega))
  have c40 : w4.cell? ⟨w.heap.size, 0, none⟩ = some (.int .u8 t) := B4.cell 0
  have c41 : w4.cell? ⟨w.heap.size, 1, none⟩ = some (.string b) := B4.cell 1
  have c42 : w4.cell? ⟨w.heap.size, 2, none⟩ = some (.slice A n c) := B4.cell 2
  have k40 : w4.cell? ⟨w.heap.size + 1, 0, none⟩ = some (.int .u8 t') := D4.cell 0
  have k41 : w4.cell? ⟨w.heap.size + 1, 1, none⟩ = some (.string b') := D4.cell 1
  have k42 : w4.cell? ⟨w.heap.size + 1, 2, none⟩ = some (.slice A' n' c') := D4.cell 2
  clear hb4 h3 L3 M3 B3 D3 c30 k30 c31 k31 c32 k32 s3
  go_wp2_with fail
  refine (CV.out _ L4).mono ?_
  rintro r w5 ⟨rfl, hb5⟩
  have L5 := L4.past hb5
  have M5 := M4.past hb5
  have B5 := B4.past hb5
  have D5 := D4.past hb5
  have s5 := Nat.le_trans s4 hb5.size
  have h5 := h4.trans (hb5.mono (by omega))
  have c50 : w5.cell? ⟨w.heap.size, 0, none⟩ = some (.int .u8 t) := B5.cell 0
  have c51 : w5.cell? ⟨w.heap.size, 1, none⟩ = some (.string b) := B5.cell 1
  have c52 : w5.cell? ⟨w.heap.size, 2, none⟩ = some (.slice A n c) := B5.cell 2
  have k50 : w5.cell? ⟨w.heap.size + 1, 0, none⟩ = some (.int .u8 t') := D5.cell 0
  have k51 : w5.cell? ⟨w.heap.size + 1, 1, none⟩ = some (.string b') := D5.cell 1
  have k52 : w5.cell? ⟨w.heap.size + 1, 2, none⟩ = some (.slice A' n' c') := D5.cell 2
  clear hb5 h4 L4 M4 B4 D4 c40 k40 c41 k41 c42 k42 s4
  go_wp2_with fail
  go_region_held3 (fun w' => w'.cell? ⟨w.heap.size, 0, none⟩ = some (.int .u8 t) ∧ w'.cell? ⟨w.heap.size, 1, none⟩ = some (.string b) ∧ w'.cell? ⟨w.heap.size, 2, none⟩ = some (.slice A n c) ∧ w'.cell? ⟨w.heap.size + 1, 0, none⟩ = some (.int .u8 t') ∧ w'.cell? ⟨w.heap.size + 1, 1, none⟩ = some (.string b') ∧ w'.cell? ⟨w.heap.size + 1, 2, none⟩ = some (.slice A' n' c')) (first | go_keep | exact ⟨B8.cell 0, B8.cell 1, B8.cell 2, D8.cell 0, D8.cell 1, D8.cell 2⟩ | exact ⟨B7.cell 0, B7.cell 1, B7.cell 2, D7.cell 0, D7.cell 1, D7.cell 2⟩ | exact ⟨B6.cell 0, B6.cell 1, B6.cell 2, D6.cell 0, D6.cell 1, D6.cell 2⟩) (first | (go_at_call 19; refine (CI.out _ L5.drew).mono ?_; rintro r x1 ⟨rfl, hbX⟩; have L6 := L5.drew.past hbX; have M6 := M5.drew.past hbX; have B6 := B5.drew.past hbX; have D6 := D5.drew.past hbX) | (go_at_call 20; refine (CS.out _ L6 M6).mono ?_; rintro r x2 ⟨rfl, hbY⟩; have L7 := L6.past hbY; have M7 := M6.past hbY; have B7 := B6.past hbY; have D7 := D6.past hbY) | (go_at_call 15; refine (CT.out _ L7 M7).mono ?_; rintro r x3 ⟨rfl, hbZ⟩; have L8 := L7.past hbZ; have M8 := M7.past hbZ; have B8 := B7.past hbZ; have D8 := D7.past hbZ))
  go_wp2_with fail
  go_ret
  have hx1 : w5.heap.size ≤ x1.heap.size := hbX.size
  exact ⟨ret_bool (by simp), h5.trans (Below.mono (B := w5.heap.size) ((((Below.refl w5.heap.size w5).drew.trans hbX).trans (hbY.mono hx1)).trans (hbZ.mono (Nat.le_trans hx1 hbY.size))) (by omega))⟩
set_option maxHeartbeats 4000000 in
theorem writes_err (hF : fitS 8 5000 27 e = true) (hG : fitS 8 5000 27 f = true) (hE : errV e ≠ 0) (q : Bool) (hq : eqEl e f = q) :
    Calls Try.prog 4 #[.agg #[.int .u8 t, .string b, .slice A n c], .agg #[.int .u8 t', .string b', .slice A' n' c']] w fun r w' => r = .returned (.bool true) ∧ Below w.heap.size w w' := by
  have HF := Lib.hid (fun w1 h => few_any e 27 0 (.int .u8 t) (.string b) (.slice A n c) w1 (by show _ = _; omega) (by omega) (by omega) h)
  rw [hF] at HF
  have HG := Lib.hid (fun w1 h => few_any f 27 0 (.int .u8 t') (.string b') (.slice A' n' c') w1 (by show _ = _; omega) (by omega) (by omega) h)
  rw [hG] at HG
  obtain ⟨v, hv⟩ : ∃ v, v = errV e := ⟨_, rfl⟩
  have hvb : ((v : Int) == 0) = false := by rw [beq_eq_false_iff_ne]; omega
  have CW : Hid (∀ w1, Lies w1 (· < w1.heap.size) e [.int .u8 t, .string b, .slice A n c] → Calls Try.prog 17 #[.agg #[.int .u8 t, .string b, .slice A n c]] w1 fun r w' => r = .returned (.tuple #[.string ⟨#[]⟩, .int .i64 v]) ∧ Below w1.heap.size w1 w') := fun w1 h => by
    refine (Write_any 8 5000 27 e _ _ _ w1 (by omega) (by omega) hF h).mono ?_
    rintro r w' ⟨rfl, hb⟩
    exact ⟨by unfold wrV; rw [wr_err, wr_bytes, if_neg hE, hv], hb⟩
  have CV : Hid (∀ w1, Lies w1 (· < w1.heap.size) e [.int .u8 t, .string b, .slice A n c] → Calls Try.prog 18 #[.agg #[.int .u8 t, .string b, .slice A n c]] w1 fun r w' => r = .returned (.tuple #[.string ⟨#[]⟩, .int .i64 v]) ∧ Below w1.heap.size w1 w') := fun w1 h => by
    refine (rWrite_any 8 5000 27 e _ _ _ w1 (by omega) (by omega) (by omega) hF h).mono ?_
    rintro r w' ⟨rfl, hb⟩
    exact ⟨by unfold wrV; rw [wr_err, wr_bytes, if_neg hE, hv], hb⟩
  have CI : Hid (∀ w1, Lies w1 (· < w1.heap.size) e [.int .u8 t, .string b, .slice A n c] → Calls Try.prog 19 #[.agg #[.int .u8 t, .string b, .slice A n c]] w1 fun r w' => r = .returned (.bool false) ∧ Below w1.heap.size w1 w') := fun w1 h => by
    refine (Is_any 8 5000 27 e _ _ _ w1 (by omega) (by omega) hF h).mono ?_
    rintro r w' ⟨rfl, hb⟩
    exact ⟨ret_bool (by simpa using hE), hb⟩
  have CS : Hid (∀ w1, Lies w1 (· < w1.heap.size) e [.int .u8 t, .string b, .slice A n c] → Lies w1 (· < w1.heap.size) f [.int .u8 t', .string b', .slice A' n' c'] → Calls Try.prog 20 #[.agg #[.int .u8 t, .string b, .slice A n c], .agg #[.int .u8 t', .string b', .slice A' n' c']] w1 fun r w' => r = .returned (.bool q) ∧ Below w1.heap.size w1 w') := fun w1 h h' => by
    rw [← hq]; exact same_any e f _ _ _ _ _ _ w1 h h'
  have CT : Hid (∀ w1, Lies w1 (· < w1.heap.size) e [.int .u8 t, .string b, .slice A n c] → Lies w1 (· < w1.heap.size) f [.int .u8 t', .string b', .slice A' n' c'] → Calls Try.prog 15 #[.agg #[.int .u8 t, .string b, .slice A n c], .agg #[.int .u8 t', .string b', .slice A' n' c']] w1 fun r w' => r = .returned (.bool q) ∧ Below w1.heap.size w1 w') := fun w1 h h' => by
    rw [← hq]; exact rsame_any e f _ _ _ _ _ _ w1 h h'
  have L0 := (hL.alloc (.cells #[.int .u8 t, .string b, .slice A n c] 25)).alloc (.cells #[.int .u8 t', .string b', .slice A' n' c'] 25)
  have M0 := (hM.alloc (.cells #[.int .u8 t, .string b, .slice A n c] 25)).alloc (.cells #[.int .u8 t', .string b', .slice A' n' c'] 25)
  have B0 := (Blk.new w 25 #[.int .u8 t, .string b, .slice A n c]).alloc (.cells #[.int .u8 t', .string b', .slice A' n' c'] 25)
  have D0 := Blk.new (w.alloc (.cells #[.int .u8 t, .string b, .slice A n c] 25)) 25 #[.int .u8 t', .string b', .slice A' n' c']
  rw [World.size_alloc] at D0
  have h0 := ((Below.refl w.heap.size w).alloc (Nat.le_refl _) (.cells #[.int .u8 t, .string b, .slice A n c] 25)).alloc (by simp) (.cells #[.int .u8 t', .string b', .slice A' n' c'] 25)
  clear hF hG hE hL hM hq hv
  go_enter Try.func4, Try.ntmps4
  go_wp2_with fail
  refine (known_any _).mono ?_
  rintro r w1 ⟨rfl, hb1⟩
  have L1 := L0.past hb1
  have M1 := M0.past hb1
  have B1 := B0.past hb1
  have D1 := D0.past hb1
  have s1 : w.heap.size + 2 ≤ w1.heap.size := by have := hb1.size; simpa using this
  have h1 := h0.trans (hb1.mono (by simp; omega))
  have c10 : w1.cell? ⟨w.heap.size, 0, none⟩ = some (.int .u8 t) := B1.cell 0
  have c11 : w1.cell? ⟨w.heap.size, 1, none⟩ = some (.string b) := B1.cell 1
  have c12 : w1.cell? ⟨w.heap.size, 2, none⟩ = some (.slice A n c) := B1.cell 2
  have k10 : w1.cell? ⟨w.heap.size + 1, 0, none⟩ = some (.int .u8 t') := D1.cell 0
  have k11 : w1.cell? ⟨w.heap.size + 1, 1, none⟩ = some (.string b') := D1.cell 1
  have k12 : w1.cell? ⟨w.heap.size + 1, 2, none⟩ = some (.slice A' n' c') := D1.cell 2
  clear hb1 h0 L0 M0 B0 D0
  go_wp2_with fail
  refine (HF.out _ L1).mono ?_
  rintro r w2 ⟨rfl, hb2⟩
  have L2 := L1.past hb2
  have M2 := M1.past hb2
  have B2 := B1.past hb2
  have D2 := D1.past hb2
  have s2 := Nat.le_trans s1 hb2.size
  have h2 := h1.trans (hb2.mono (by omega))
  have c20 : w2.cell? ⟨w.heap.size, 0, none⟩ = some (.int .u8 t) := B2.cell 0
  have c21 : w2.cell? ⟨w.heap.size, 1, none⟩ = some (.string b) := B2.cell 1
  have c22 : w2.cell? ⟨w.heap.size, 2, none⟩ = some (.slice A n c) := B2.cell 2
  have k20 : w2.cell? ⟨w.heap.size + 1, 0, none⟩ = some (.int .u8 t') := D2.cell 0
  have k21 : w2.cell? ⟨w.heap.size + 1, 1, none⟩ = some (.string b') := D2.cell 1
  have k22 : w2.cell? ⟨w.heap.size + 1, 2, none⟩ = some (.slice A' n' c') := D2.cell 2
  clear hb2 h1 L1 M1 B1 D1 c10 k10 c11 k11 c12 k12 s1
  go_wp2_with fail
  refine (HG.out _ M2).mono ?_
  rintro r w3 ⟨rfl, hb3⟩
  have L3 := L2.past hb3
  have M3 := M2.past hb3
  have B3 := B2.past hb3
  have D3 := D2.past hb3
  have s3 := Nat.le_trans s2 hb3.size
  have h3 := h2.trans (hb3.mono (by omega))
  have c30 : w3.cell? ⟨w.heap.size, 0, none⟩ = some (.int .u8 t) := B3.cell 0
  have c31 : w3.cell? ⟨w.heap.size, 1, none⟩ = some (.string b) := B3.cell 1
  have c32 : w3.cell? ⟨w.heap.size, 2, none⟩ = some (.slice A n c) := B3.cell 2
  have k30 : w3.cell? ⟨w.heap.size + 1, 0, none⟩ = some (.int .u8 t') := D3.cell 0
  have k31 : w3.cell? ⟨w.heap.size + 1, 1, none⟩ = some (.string b') := D3.cell 1
  have k32 : w3.cell? ⟨w.heap.size + 1, 2, none⟩ = some (.slice A' n' c') := D3.cell 2
  clear hb3 h2 L2 M2 B2 D2 c20 k20 c21 k21 c22 k22 s2
  go_wp2_with fail
  refine (CW.out _ L3).mono ?_
  rintro r w4 ⟨rfl, hb4⟩
  have L4 := L3.past hb4
  have M4 := M3.past hb4
  have B4 := B3.past hb4
  have D4 := D3.past hb4
  have s4 := Nat.le_trans s3 hb4.size
  have h4 := h3.trans (hb4.mono (by omega))
  have c40 : w4.cell? ⟨w.heap.size, 0, none⟩ = some (.int .u8 t) := B4.cell 0
  have c41 : w4.cell? ⟨w.heap.size, 1, none⟩ = some (.string b) := B4.cell 1
  have c42 : w4.cell? ⟨w.heap.size, 2, none⟩ = some (.slice A n c) := B4.cell 2
  have k40 : w4.cell? ⟨w.heap.size + 1, 0, none⟩ = some (.int .u8 t') := D4.cell 0
  have k41 : w4.cell? ⟨w.heap.size + 1, 1, none⟩ = some (.string b') := D4.cell 1
  have k42 : w4.cell? ⟨w.heap.size + 1, 2, none⟩ = some (.slice A' n' c') := D4.cell 2
  clear hb4 h3 L3 M3 B3 D3 c30 k30 c31 k31 c32 k32 s3
  go_wp2_with fail
  refine (CV.out _ L4).mono ?_
  rintro r w5 ⟨rfl, hb5⟩
  have L5 := L4.past hb5
  have M5 := M4.past hb5
  have B5 := B4.past hb5
  have D5 := D4.past hb5
  have s5 := Nat.le_trans s4 hb5.size
  have h5 := h4.trans (hb5.mono (by omega))
  have c50 : w5.cell? ⟨w.heap.size, 0, none⟩ = some (.int .u8 t) := B5.cell 0
  have c51 : w5.cell? ⟨w.heap.size, 1, none⟩ = some (.string b) := B5.cell 1
  have c52 : w5.cell? ⟨w.heap.size, 2, none⟩ = some (.slice A n c) := B5.cell 2
  have k50 : w5.cell? ⟨w.heap.size + 1, 0, none⟩ = some (.int .u8 t') := D5.cell 0
  have k51 : w5.cell? ⟨w.heap.size + 1, 1, none⟩ = some (.string b') := D5.cell 1
  have k52 : w5.cell? ⟨w.heap.size + 1, 2, none⟩ = some (.slice A' n' c') := D5.cell 2
  clear hb5 h4 L4 M4 B4 D4 c40 k40 c41 k41 c42 k42 s4
  go_wp2_with fail
  go_region_held3 (fun w' => w'.cell? ⟨w.heap.size, 0, none⟩ = some (.int .u8 t) ∧ w'.cell? ⟨w.heap.size, 1, none⟩ = some (.string b) ∧ w'.cell? ⟨w.heap.size, 2, none⟩ = some (.slice A n c) ∧ w'.cell? ⟨w.heap.size + 1, 0, none⟩ = some (.int .u8 t') ∧ w'.cell? ⟨w.heap.size + 1, 1, none⟩ = some (.string b') ∧ w'.cell? ⟨w.heap.size + 1, 2, none⟩ = some (.slice A' n' c')) (first | go_keep | exact ⟨B8.cell 0, B8.cell 1, B8.cell 2, D8.cell 0, D8.cell 1, D8.cell 2⟩ | exact ⟨B7.cell 0, B7.cell 1, B7.cell 2, D7.cell 0, D7.cell 1, D7.cell 2⟩ | exact ⟨B6.cell 0, B6.cell 1, B6.cell 2, D6.cell 0, D6.cell 1, D6.cell 2⟩) (first | (go_at_call 19; refine (CI.out _ L5.drew).mono ?_; rintro r x1 ⟨rfl, hbX⟩; have L6 := L5.drew.past hbX; have M6 := M5.drew.past hbX; have B6 := B5.drew.past hbX; have D6 := D5.drew.past hbX) | (go_at_call 20; refine (CS.out _ L6 M6).mono ?_; rintro r x2 ⟨rfl, hbY⟩; have L7 := L6.past hbY; have M7 := M6.past hbY; have B7 := B6.past hbY; have D7 := D6.past hbY) | (go_at_call 15; refine (CT.out _ L7 M7).mono ?_; rintro r x3 ⟨rfl, hbZ⟩; have L8 := L7.past hbZ; have M8 := M7.past hbZ; have B8 := B7.past hbZ; have D8 := D7.past hbZ))
  go_wp2_with fail
  go_ret
  have hx1 : w5.heap.size ≤ x1.heap.size := hbX.size
  exact ⟨ret_bool (by simp), h5.trans (Below.mono (B := w5.heap.size) ((((Below.refl w5.heap.size w5).drew.trans hbX).trans (hbY.mono hx1)).trans (hbZ.mono (Nat.le_trans hx1 hbY.size))) (by omega))⟩
end
theorem walk_BerWrites (w : World) (e : El) (x y z : Value) (hL : Lies w (· < w.heap.size) e [x, y, z]) (f : El) (x' y' z' : Value) (hM : Lies w (· < w.heap.size) f [x', y', z']) :
    Calls Try.prog 4 #[.agg #[x, y, z], .agg #[x', y', z']] w fun r w' => r = .returned (.bool true) ∧ Below w.heap.size w w' := by
  obtain ⟨t, b, A, n, c, hcs⟩ := hL.form
  simp only [List.cons.injEq, and_true] at hcs
  obtain ⟨rfl, rfl, rfl⟩ := hcs
  obtain ⟨t', b', A', n', c', hcs⟩ := hM.form
  simp only [List.cons.injEq, and_true] at hcs
  obtain ⟨rfl, rfl, rfl⟩ := hcs
  cases hF : fitS 8 5000 27 e with
  | false => exact writes_not1 w e f t b A n c t' b' A' n' c' hL hM hF
  | true =>
    cases hG : fitS 8 5000 27 f with
    | false => exact writes_not2 w e f t b A n c t' b' A' n' c' hL hM hF hG
    | true =>
      by_cases hE : errV e = 0
      · exact writes_ok w e f t b A n c t' b' A' n' c' hL hM hF hG hE _ rfl
      · exact writes_err w e f t b A n c t' b' A' n' c' hL hM hF hG hE _ rfl
end Go.Proofs.Ythlpblipadgenaa
