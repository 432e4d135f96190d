/- BerBack: the walk. -/
import Derived.Test.YthlpblipadgenaaKnown
import Derived.Test.YthlpblipadgenaaBackSpec
import Derived.Test.YthlpblipadgenaaFew
import Derived.Test.YthlpblipadgenaaLenW
namespace Go.Proofs.Ythlpblipadgenaa
open Go.RowKit
set_option linter.unusedVariables false
set_option maxRecDepth 100000

section
variable (w : World) (e : El) (t : Nat) (b : ByteArray) (A : Option Addr) (n c : Nat) (hL : Lies w (· < w.heap.size) e [.int .u8 t, .string b, .slice A n c]) (tail : ByteArray) (cut : Nat)
include hL
set_option maxHeartbeats 4000000 in
/-- It isn't looked at. -/
theorem back_not (hF : fitS 8 5000 27 e = false) :
    Calls Try.prog 5 #[.agg #[.int .u8 t, .string b, .slice A n c], .string tail, .int .u16 cut] w fun r w' => r = .returned (.bool true) ∧ Below w.heap.size w w' := by
  have hL0 := hL.alloc (.cells #[.int .u8 t, .string b, .slice A n c] 25)
  have B0 := Blk.new w 25 #[.int .u8 t, .string b, .slice A n c]
  have hb0 := (Below.refl w.heap.size w).alloc (Nat.le_refl _) (.cells #[.int .u8 t, .string b, .slice A n c] 25)
  have HF := Lib.hid (fun w1 h => few_any e 27 0 (.int .u8 t) (.string b) (.slice A n c) w1 (by show _ = _; omega) (by omega) (by omega) h)
  rw [hF] at HF
  clear hF hL
  go_enter Try.func5, Try.ntmps5
  go_wp2_with fail
  refine (known_any _).mono ?_
  rintro r w1 ⟨rfl, hb1⟩
  have hL1 := hL0.past hb1
  have B1 := B0.past hb1
  have c0 : w1.cell? ⟨w.heap.size, 0, none⟩ = some (.int .u8 t) := B1.cell 0
  have c1 : w1.cell? ⟨w.heap.size, 1, none⟩ = some (.string b) := B1.cell 1
  have c2 : w1.cell? ⟨w.heap.size, 2, none⟩ = some (.slice A n c) := B1.cell 2
  have hs1 := hb1.size
  have hb1' := hb0.trans (hb1.mono (by simp))
  clear hb1 hb0 B0 hL0
  go_wp2_with fail
  refine (HF.out _ hL1).mono ?_
  rintro r w2 ⟨rfl, hb2⟩
  go_wp2_with fail
  go_ret
  exact ⟨rfl, hb1'.trans (hb2.mono (by simp at hs1; omega))⟩
set_option maxHeartbeats 4000000 in
theorem back_long (hF : fitS 8 5000 27 e = true) (h100 : 100 < (tail.size : Int)) :
    Calls Try.prog 5 #[.agg #[.int .u8 t, .string b, .slice A n c], .string tail, .int .u16 cut] w fun r w' => r = .returned (.bool true) ∧ Below w.heap.size w w' := by
  have hL0 := hL.alloc (.cells #[.int .u8 t, .string b, .slice A n c] 25)
  have B0 := Blk.new w 25 #[.int .u8 t, .string b, .slice A n c]
  have hb0 := (Below.refl w.heap.size w).alloc (Nat.le_refl _) (.cells #[.int .u8 t, .string b, .slice A n c] 25)
  have HF := Lib.hid (fun w1 h => few_any e 27 0 (.int .u8 t) (.string b) (.slice A n c) w1 (by show _ = _; omega) (by omega) (by omega) h)
  rw [hF] at HF
  clear hF hL
  go_enter Try.func5, Try.ntmps5
  go_wp2_with fail
  refine (known_any _).mono ?_
  rintro r w1 ⟨rfl, hb1⟩
  have hL1 := hL0.past hb1
  have B1 := B0.past hb1
  have c0 : w1.cell? ⟨w.heap.size, 0, none⟩ = some (.int .u8 t) := B1.cell 0
  have c1 : w1.cell? ⟨w.heap.size, 1, none⟩ = some (.string b) := B1.cell 1
  have c2 : w1.cell? ⟨w.heap.size, 2, none⟩ = some (.slice A n c) := B1.cell 2
  have hs1 := hb1.size
  have hb1' := hb0.trans (hb1.mono (by simp))
  clear hb1 hb0 B0 hL0
  go_wp2_with fail
  refine (HF.out _ hL1).mono ?_
  rintro r w2 ⟨rfl, hb2⟩
  go_wp2_with fail
  go_ret
  exact ⟨rfl, hb1'.trans (hb2.mono (by simp at hs1; omega))⟩
set_option maxHeartbeats 4000000 in
/-- It can't be written. -/
theorem back_err (hF : fitS 8 5000 27 e = true) (h100 : (tail.size : Int) ≤ 100) (hE : errV e ≠ 0) :
    Calls Try.prog 5 #[.agg #[.int .u8 t, .string b, .slice A n c], .string tail, .int .u16 cut] w fun r w' => r = .returned (.bool true) ∧ Below w.heap.size w w' := by
  have hL0 := hL.alloc (.cells #[.int .u8 t, .string b, .slice A n c] 25)
  have B0 := Blk.new w 25 #[.int .u8 t, .string b, .slice A n c]
  have hb0 := (Below.refl w.heap.size w).alloc (Nat.le_refl _) (.cells #[.int .u8 t, .string b, .slice A n c] 25)
  have HF := Lib.hid (fun w1 h => few_any e 27 0 (.int .u8 t) (.string b) (.slice A n c) w1 (by show _ = _; omega) (by omega) (by omega) h)
  rw [hF] at HF
  obtain ⟨v, hv⟩ : ∃ v, v = errV e := ⟨_, rfl⟩
  have CW : Hid (∀ w1, Lies w1 (· < w1.heap.size) e [.int .u8 t, .string b, .slice A n c] → Calls Try.prog 17 #[.agg #[.int .u8 t, .string b, .slice A n c]] w1 fun r w' => r = .returned (.tuple #[.string ⟨#[]⟩, .int .i64 v]) ∧ Below w1.heap.size w1 w') := fun w1 h => by
    refine (Write_any 8 5000 27 e _ _ _ w1 (by omega) (by omega) hF h).mono ?_
    rintro r w' ⟨rfl, hb⟩
    exact ⟨by unfold wrV; rw [wr_err, wr_bytes, if_neg hE, hv], hb⟩
  have CI : Hid (∀ w1, Lies w1 (· < w1.heap.size) e [.int .u8 t, .string b, .slice A n c] → Calls Try.prog 19 #[.agg #[.int .u8 t, .string b, .slice A n c]] w1 fun r w' => r = .returned (.bool false) ∧ Below w1.heap.size w1 w') := fun w1 h => by
    refine (Is_any 8 5000 27 e _ _ _ w1 (by omega) (by omega) hF h).mono ?_
    rintro r w' ⟨rfl, hb⟩
    exact ⟨ret_bool (by simpa using hE), hb⟩
  have hvb : ((v : Int) != 0) = true := by rw [bne_iff_ne]; omega
  clear hF hL hE hv
  go_enter Try.func5, Try.ntmps5
  go_wp2_with fail
  refine (known_any _).mono ?_
  rintro r w1 ⟨rfl, hb1⟩
  have hL1 := hL0.past hb1
  have B1 := B0.past hb1
  have c0 : w1.cell? ⟨w.heap.size, 0, none⟩ = some (.int .u8 t) := B1.cell 0
  have c1 : w1.cell? ⟨w.heap.size, 1, none⟩ = some (.string b) := B1.cell 1
  have c2 : w1.cell? ⟨w.heap.size, 2, none⟩ = some (.slice A n c) := B1.cell 2
  have hs1 : w.heap.size + 1 ≤ w1.heap.size := by have := hb1.size; simpa using this
  have hb1' := hb0.trans (hb1.mono (by simp))
  clear hb1 hb0 B0 hL0
  go_wp2_with fail
  refine (HF.out _ hL1).mono ?_
  rintro r w2 ⟨rfl, hb2⟩
  have hL2 := hL1.past hb2
  have B2 := B1.past hb2
  have d0 : w2.cell? ⟨w.heap.size, 0, none⟩ = some (.int .u8 t) := B2.cell 0
  have d1 : w2.cell? ⟨w.heap.size, 1, none⟩ = some (.string b) := B2.cell 1
  have d2 : w2.cell? ⟨w.heap.size, 2, none⟩ = some (.slice A n c) := B2.cell 2
  have hs2 := hb2.size
  have hb2' := hb1'.trans (hb2.mono (by omega))
  clear c0 c1 c2 HF hL1 hb1' hb2
  go_wp2_with fail
  refine (CW.out _ hL2).mono ?_
  rintro r w3 ⟨rfl, hb3⟩
  have hL3 := hL2.past hb3
  have B3 := B2.past hb3
  have e0 : w3.cell? ⟨w.heap.size, 0, none⟩ = some (.int .u8 t) := B3.cell 0
  have e1 : w3.cell? ⟨w.heap.size, 1, none⟩ = some (.string b) := B3.cell 1
  have e2 : w3.cell? ⟨w.heap.size, 2, none⟩ = some (.slice A n c) := B3.cell 2
  have hs3 := hb3.size
  have hb3' := hb2'.trans (hb3.mono (by omega))
  clear d0 d1 d2 CW hL2 hb2' hb3
  go_wp2_with fail
  refine (CI.out _ hL3).mono ?_
  rintro r w4 ⟨rfl, hb4⟩
  go_wp2_with fail
  go_ret
  exact ⟨rfl, hb3'.trans (hb4.mono (by omega))⟩
set_option maxHeartbeats 8000000 in
/-- It can be written. -/
theorem back_ok (hc : cut ≤ 65535) (hF : fitS 8 5000 27 e = true) (h100 : (tail.size : Int) ≤ 100) (hE : errV e = 0) :
    Calls Try.prog 5 #[.agg #[.int .u8 t, .string b, .slice A n c], .string tail, .int .u16 cut] w fun r w' => r = .returned (.bool true) ∧ Below w.heap.size w w' := by
  have hL0 := hL.alloc (.cells #[.int .u8 t, .string b, .slice A n c] 25)
  have B0 := Blk.new w 25 #[.int .u8 t, .string b, .slice A n c]
  have hb0 := (Below.refl w.heap.size w).alloc (Nat.le_refl _) (.cells #[.int .u8 t, .string b, .slice A n c] 25)
  have HF := Lib.hid (fun w1 h => few_any e 27 0 (.int .u8 t) (.string b) (.slice A n c) w1 (by show _ = _; omega) (by omega) (by omega) h)
  rw [hF] at HF
  have hforms : formed e = true ∧ dep e ≤ 20 ∧ bodyLen e ≤ 4000 := by
    unfold errV at hE
    split at hE
    · omega
    · split at hE
      · omega
      · split at hE
        · omega
        · rename_i h1 h2 h3
          exact ⟨by simpa using h1, by omega, by omega⟩
  obtain ⟨hfo, hde, hbo⟩ := hforms
  obtain ⟨S, hS⟩ : ∃ S : ByteArray, S = ⟨(enc e).toArray⟩ := ⟨_, rfl⟩
  have hSd : S.data.toList = enc e := by rw [hS]
  have hSz : S.size = (enc e).length := by rw [← hSd]; rfl
  have hS2 : (2 : Int) ≤ S.size := by have := enc_ge2 e; omega
  have hS4 : (S.size : Int) ≤ 4010 := by have := enc_len e; have := more_le (bodyLen e); omega
  have CW : Hid (∀ w1, Lies w1 (· < w1.heap.size) e [.int .u8 t, .string b, .slice A n c] → Calls Try.prog 17 #[.agg #[.int .u8 t, .string b, .slice A n c]] w1 fun r w' => r = .returned (.tuple #[.string S, .int .i64 0]) ∧ Below w1.heap.size w1 w') := fun w1 h => by
    refine (Write_any 8 5000 27 e _ _ _ w1 (by omega) (by omega) hF h).mono ?_
    rintro r w' ⟨rfl, hb⟩
    exact ⟨by unfold wrV; rw [wr_err, wr_bytes, if_pos hE, hE, hS]; rfl, hb⟩
  have CR : Hid (∀ w1, Calls Try.prog 11 #[.string (S ++ tail)] w1 (ReadPost 0 w1 (.ok e S.size))) := fun w1 => by
    have := Read_any (S ++ tail) w1 (by rw [ByteArray.size_append]; omega)
    rw [show (S ++ tail).data.toList = enc e ++ tail.data.toList by rw [ByteArray.data_append, Array.toList_append, hSd], back_any e hfo hL.tags hbo 20 hde, ← hSz] at this
    exact this
  have CC : Hid (∀ w1, Calls Try.prog 11 #[.string (S.extract 0 (cut % S.size))] w1 (ReadPost 0 w1 (.bad 0 10))) := fun w1 => by
    have := Read_any (S.extract 0 (cut % S.size)) w1 (by rw [ByteArray.size_extract]; omega)
    rw [show (S.extract 0 (cut % S.size)).data.toList = (enc e).take (cut % S.size) by rw [Go.Lib.extract_data, hSd]; simp, back_cut e hfo hL.tags hbo _ _ (by rw [← hSz]; exact Nat.mod_lt _ (by omega))] at this
    exact this
  have hq : ¬ (9223372036854775807 < S.size + tail.size) := by omega
  have hz : ((S.size : Int) == 0) = false := beq_eq_false_iff_ne.2 (by omega)
  have hm0 : 0 ≤ (cut : Int) % (S.size : Int) := Int.emod_nonneg _ (by omega)
  have hm1 : (cut : Int) % (S.size : Int) ≤ (S.size : Int) := Int.le_of_lt (Int.emod_lt_of_pos _ (by omega))
  clear hF hL hE hS hSd hSz hfo hde hbo
  go_enter Try.func5, Try.ntmps5
  go_wp2_with fail
  refine (known_any _).mono ?_
  rintro r w1 ⟨rfl, hb1⟩
  have hL1 := hL0.past hb1
  have B1 := B0.past hb1
  have c0 : w1.cell? ⟨w.heap.size, 0, none⟩ = some (.int .u8 t) := B1.cell 0
  have c1 : w1.cell? ⟨w.heap.size, 1, none⟩ = some (.string b) := B1.cell 1
  have c2 : w1.cell? ⟨w.heap.size, 2, none⟩ = some (.slice A n c) := B1.cell 2
  have hs1 : w.heap.size + 1 ≤ w1.heap.size := by have := hb1.size; simpa using this
  have hb1' := hb0.trans (hb1.mono (by simp))
  clear hb1 hb0 B0 hL0
  go_wp2_with fail
  refine (HF.out _ hL1).mono ?_
  rintro r w2 ⟨rfl, hb2⟩
  have hL2 := hL1.past hb2
  have B2 := B1.past hb2
  have d0 : w2.cell? ⟨w.heap.size, 0, none⟩ = some (.int .u8 t) := B2.cell 0
  have d1 : w2.cell? ⟨w.heap.size, 1, none⟩ = some (.string b) := B2.cell 1
  have d2 : w2.cell? ⟨w.heap.size, 2, none⟩ = some (.slice A n c) := B2.cell 2
  have hs2 := hb2.size
  have hb2' := hb1'.trans (hb2.mono (by omega))
  clear c0 c1 c2 HF hL1 hb1' hb2
  go_wp2_with fail
  refine (CW.out _ hL2).mono ?_
  rintro r w3 ⟨rfl, hb3⟩
  have hL3 := hL2.past hb3
  have B3 := B2.past hb3
  have hs3 := hb3.size
  have hb3' := hb2'.trans (hb3.mono (by omega))
  clear d0 d1 d2 CW hL2 hb2' hb3
  go_wp2_with fail
  refine (CR.out _).mono ?_
  rintro r w4 ⟨x, y, z, rfl, hb4, hl4⟩
  obtain ⟨t4, b4, A4, n4, c4, hcs⟩ := hl4.form
  simp only [List.cons.injEq, and_true] at hcs
  obtain ⟨rfl, rfl, rfl⟩ := hcs
  have hL4 := hL3.past hb4
  have hl4' := hl4.imp (P' := (· < w4.heap.size)) (fun b h => h.2) (fun _ _ => rfl)
  have B4 := (B3.past hb4).alloc (.cells #[.int .u8 t4, .string b4, .slice A4 n4 c4] 25)
  have e0 : (w4.alloc (.cells #[.int .u8 t4, .string b4, .slice A4 n4 c4] 25)).cell? ⟨w.heap.size, 0, none⟩ = some (.int .u8 t) := B4.cell 0
  have e1 : (w4.alloc (.cells #[.int .u8 t4, .string b4, .slice A4 n4 c4] 25)).cell? ⟨w.heap.size, 1, none⟩ = some (.string b) := B4.cell 1
  have e2 : (w4.alloc (.cells #[.int .u8 t4, .string b4, .slice A4 n4 c4] 25)).cell? ⟨w.heap.size, 2, none⟩ = some (.slice A n c) := B4.cell 2
  have hs4 := hb4.size
  have hb4' := (hb3'.trans (hb4.mono (by omega))).alloc (by omega) (.cells #[.int .u8 t4, .string b4, .slice A4 n4 c4] 25)
  have CS : Hid (Calls Try.prog 20 #[.agg #[.int .u8 t, .string b, .slice A n c], .agg #[.int .u8 t4, .string b4, .slice A4 n4 c4]] (w4.alloc (.cells #[.int .u8 t4, .string b4, .slice A4 n4 c4] 25)) fun r w' => r = .returned (.bool true) ∧ Below (w4.alloc (.cells #[.int .u8 t4, .string b4, .slice A4 n4 c4] 25)).heap.size (w4.alloc (.cells #[.int .u8 t4, .string b4, .slice A4 n4 c4] 25)) w') := by
    refine (same_any e e _ _ _ _ _ _ _ (hL4.alloc _) (hl4'.alloc _)).mono ?_
    rintro r w' ⟨rfl, hb⟩
    exact ⟨by rw [eqEl_self], hb⟩
  clear hl4 hl4' hL4 hL3 hb3' hb4 CR
  go_wp2_with fail
  refine CS.out.mono ?_
  rintro r w5 ⟨rfl, hb5⟩
  have hs5 : w4.heap.size + 1 ≤ w5.heap.size := by have := hb5.size; simpa using this
  have hb5' := hb4'.trans (hb5.mono (by simp; omega))
  clear CS hb5 e0 e1 e2 B4
  go_wp2_with fail
  refine (CC.out _).mono ?_
  rintro r w6 ⟨rfl, hb6⟩
  have hs6 := hb6.size
  have hb6' := hb5'.trans (hb6.mono (by omega))
  clear hb6 CC
  go_wp2_with fail
  go_ret
  exact ⟨rfl, hb6'.alloc (by omega) _⟩
end

theorem walk_BerBack (w : World) (e : El) (x y z : Value) (hL : Lies w (· < w.heap.size) e [x, y, z]) (tail : ByteArray) (ht : tail.size ≤ maxLen) (cut : Int) (hc : (Lit.int .u16 cut).wf = true) :
    Calls Try.prog 5 #[.agg #[x, y, z], .string tail, .int .u16 cut] w fun r w' => r = .returned (.bool true) ∧ Below w.heap.size w w' := by
  obtain ⟨t, b, A, n, c, hcs⟩ := hL.form
  simp only [List.cons.injEq, and_true] at hcs
  obtain ⟨rfl, rfl, rfl⟩ := hcs
  have hcb := wf_u16 hc
  obtain ⟨k, rfl⟩ := Int.eq_ofNat_of_zero_le hcb.1
  cases hF : fitS 8 5000 27 e with
  | false => exact back_not w e t b A n c hL tail k hF
  | true =>
    by_cases h : 100 < (tail.size : Int)
    · exact back_long w e t b A n c hL tail k hF h
    · by_cases hE : errV e = 0
      · exact back_ok w e t b A n c hL tail k (by omega) hF (by omega) hE
      · exact back_err w e t b A n c hL tail k hF (by omega) hE
end Go.Proofs.Ythlpblipadgenaa
