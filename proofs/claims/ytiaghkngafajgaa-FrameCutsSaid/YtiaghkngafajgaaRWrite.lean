/- The reference's Write answers the plain function wr. -/
import Derived.Test.YtiaghkngafajgaaRBytes
import Derived.Test.YtiaghkngafajgaaRRight
namespace Go.Proofs.Ytiaghkngafajgaa
open Go.RowKit
set_option linter.unusedVariables false
set_option maxRecDepth 100000

set_option maxHeartbeats 1000000 in
theorem rWrite_any (K L d : Nat) (e : El) (x y z : Value) (w : World) (hK : K ≤ 10000) (hL : L ≤ 10000) (hd : d ≤ 10000) (hF : fitS K L d e = true) (hl : Lies w (· < w.heap.size) e [x, y, z]) :
    Calls Try.prog 14 #[.agg #[x, y, z]] w fun r w' => r = .returned (wrV e) ∧ Below w.heap.size w w' := by
  obtain ⟨t, b, ks⟩ := e
  obtain ⟨A, c, ds, hcs, _, _, _, _⟩ := hl.open_
  simp only [List.cons.injEq, and_true] at hcs
  obtain ⟨rfl, rfl, rfl⟩ := hcs
  have CF := Lib.hid (fun w h => right_any (.mk t b ks) (.int .u8 t) (.string b) (.slice A ks.length c) w h)
  have CD := Lib.hid (fun w h => rdeep_any (.mk t b ks) K L d (.int .u8 t) (.string b) (.slice A ks.length c) w hF hd h)
  have CB := Lib.hid (fun w h => rbytes_any (.mk t b ks) K L d (.int .u8 t) (.string b) (.slice A ks.length c) w hF hK hL h)
  have hdp : dep (.mk t b ks) ≤ 10000 := Nat.le_trans (dep_fit hF) hd
  have hW : Hid (wrV (.mk t b ks) = wrV (.mk t b ks)) := rfl
  revert CF CD CB hdp hW
  generalize hv : wrV (.mk t b ks) = v
  have hv2 : v = .tuple #[.string ⟨(wr (.mk t b ks)).1.toArray⟩, .int .i64 (wr (.mk t b ks)).2] := hv.symm
  have hwe := wr_err (.mk t b ks)
  have hwb := wr_bytes (.mk t b ks)
  rw [hwe, hwb] at hv2
  intro CF CD CB hdp hW
  clear hW hwe hwb hv
  have L0 := hl.alloc (.cells #[.int .u8 t, .string b, .slice A ks.length c] 41)
  have B0 := Blk.new w 41 #[.int .u8 t, .string b, .slice A ks.length c]
  have h0' := (Below.refl w.heap.size w).alloc (Nat.le_refl _) (.cells #[.int .u8 t, .string b, .slice A ks.length c] 41)
  by_cases h1 : formed (.mk t b ks) = false
  · have hv3 : v = .tuple #[.string ⟨#[]⟩, .int .i64 14] := by rw [hv2]; simp [errV, h1]
    rw [h1] at CF
    clear h1 hF hv2
    subst hv3
    go_enter Try.func14, Try.ntmps14
    go_wp2_with fail
    refine (CF.out _ L0).mono ?_
    rintro r w1 ⟨rfl, hb1⟩
    have L1 := L0.past hb1
    have B1 := B0.past hb1
    have s1 : w.heap.size + 1 ≤ w1.heap.size := by have := hb1.size; simpa using this
    have h1' := h0'.trans (hb1.mono (by simp))
    have c0 : w1.cell? ⟨w.heap.size, 0, none⟩ = some (.int .u8 t) := B1.cell 0
    have c1 : w1.cell? ⟨w.heap.size, 1, none⟩ = some (.string b) := B1.cell 1
    have c2 : w1.cell? ⟨w.heap.size, 2, none⟩ = some (.slice A ks.length c) := B1.cell 2
    clear hb1
    go_wp2_with fail
    go_ret2
    exact ⟨rfl, h1'⟩
  have h1t : formed (.mk t b ks) = true := by simpa using h1
  rw [h1t] at CF
  by_cases h2 : 20 < dep (.mk t b ks)
  · have hv3 : v = .tuple #[.string ⟨#[]⟩, .int .i64 12] := by rw [hv2]; simp [errV, h1t, h2]
    have h2' : 20 < (dep (.mk t b ks) : Int) := by omega
    generalize dep (.mk t b ks) = D at CD h2'
    clear h1 h1t hF hv2 h2
    subst hv3
    go_enter Try.func14, Try.ntmps14
    go_wp2_with fail
    refine (CF.out _ L0).mono ?_
    rintro r w1 ⟨rfl, hb1⟩
    have L1 := L0.past hb1
    have B1 := B0.past hb1
    have s1 : w.heap.size + 1 ≤ w1.heap.size := by have := hb1.size; simpa using this
    have h1' := h0'.trans (hb1.mono (by simp))
    have c0 : w1.cell? ⟨w.heap.size, 0, none⟩ = some (.int .u8 t) := B1.cell 0
    have c1 : w1.cell? ⟨w.heap.size, 1, none⟩ = some (.string b) := B1.cell 1
    have c2 : w1.cell? ⟨w.heap.size, 2, none⟩ = some (.slice A ks.length c) := B1.cell 2
    clear hb1
    go_wp2_with fail
    refine (CD.out _ L1).mono ?_
    rintro r w2 ⟨rfl, hb2⟩
    have L2 := L1.past hb2
    have B2 := B1.past hb2
    have s2 := hb2.size
    have h2'' := h1'.trans (hb2.mono (by omega))
    have d0 : w2.cell? ⟨w.heap.size, 0, none⟩ = some (.int .u8 t) := B2.cell 0
    have d1 : w2.cell? ⟨w.heap.size, 1, none⟩ = some (.string b) := B2.cell 1
    have d2 : w2.cell? ⟨w.heap.size, 2, none⟩ = some (.slice A ks.length c) := B2.cell 2
    clear hb2 c0 c1 c2
    go_wp2_with fail
    go_ret2
    exact ⟨rfl, h2''⟩
  have h2' : (dep (.mk t b ks) : Int) ≤ 20 := by omega
  have hE : errV (.mk t b ks) = if 4000 < bodyLen (.mk t b ks) then 13 else 0 := by simp [errV, h1t, h2]
  rw [hE] at hv2
  generalize dep (.mk t b ks) = D at CD h2'
  clear h1 h1t h2 hF hdp hE
  by_cases h3 : 4000 < bodyLen (.mk t b ks)
  · have hv3 : v = .tuple #[.string ⟨#[]⟩, .int .i64 13] := by rw [hv2]; simp [h3]
    rw [rbV_bad h3] at CB
    clear hv2 h3
    subst hv3
    go_enter Try.func14, Try.ntmps14
    go_wp2_with fail
    refine (CF.out _ L0).mono ?_
    rintro r w1 ⟨rfl, hb1⟩
    have L1 := L0.past hb1
    have B1 := B0.past hb1
    have s1 : w.heap.size + 1 ≤ w1.heap.size := by have := hb1.size; simpa using this
    have h1' := h0'.trans (hb1.mono (by simp))
    have c0 : w1.cell? ⟨w.heap.size, 0, none⟩ = some (.int .u8 t) := B1.cell 0
    have c1 : w1.cell? ⟨w.heap.size, 1, none⟩ = some (.string b) := B1.cell 1
    have c2 : w1.cell? ⟨w.heap.size, 2, none⟩ = some (.slice A ks.length c) := B1.cell 2
    clear hb1
    go_wp2_with fail
    refine (CD.out _ L1).mono ?_
    rintro r w2 ⟨rfl, hb2⟩
    have L2 := L1.past hb2
    have B2 := B1.past hb2
    have s2 := hb2.size
    have h2'' := h1'.trans (hb2.mono (by omega))
    have d0 : w2.cell? ⟨w.heap.size, 0, none⟩ = some (.int .u8 t) := B2.cell 0
    have d1 : w2.cell? ⟨w.heap.size, 1, none⟩ = some (.string b) := B2.cell 1
    have d2 : w2.cell? ⟨w.heap.size, 2, none⟩ = some (.slice A ks.length c) := B2.cell 2
    clear hb2 c0 c1 c2
    go_wp2_with fail
    refine (CB.out _ L2).mono ?_
    rintro r w3 ⟨rfl, hb3⟩
    go_wp2_with fail
    go_ret2
    exact ⟨rfl, h2''.trans (hb3.mono (by omega))⟩
  · have hv3 : v = .tuple #[.string ⟨(enc (.mk t b ks)).toArray⟩, .int .i64 0] := by rw [hv2]; simp [h3]
    rw [rbV_ok (by omega)] at CB
    clear hv2 h3
    subst hv3
    go_enter Try.func14, Try.ntmps14
    go_wp2_with fail
    refine (CF.out _ L0).mono ?_
    rintro r w1 ⟨rfl, hb1⟩
    have L1 := L0.past hb1
    have B1 := B0.past hb1
    have s1 : w.heap.size + 1 ≤ w1.heap.size := by have := hb1.size; simpa using this
    have h1' := h0'.trans (hb1.mono (by simp))
    have c0 : w1.cell? ⟨w.heap.size, 0, none⟩ = some (.int .u8 t) := B1.cell 0
    have c1 : w1.cell? ⟨w.heap.size, 1, none⟩ = some (.string b) := B1.cell 1
    have c2 : w1.cell? ⟨w.heap.size, 2, none⟩ = some (.slice A ks.length c) := B1.cell 2
    clear hb1
    go_wp2_with fail
    refine (CD.out _ L1).mono ?_
    rintro r w2 ⟨rfl, hb2⟩
    have L2 := L1.past hb2
    have B2 := B1.past hb2
    have s2 := hb2.size
    have h2'' := h1'.trans (hb2.mono (by omega))
    have d0 : w2.cell? ⟨w.heap.size, 0, none⟩ = some (.int .u8 t) := B2.cell 0
    have d1 : w2.cell? ⟨w.heap.size, 1, none⟩ = some (.string b) := B2.cell 1
    have d2 : w2.cell? ⟨w.heap.size, 2, none⟩ = some (.slice A ks.length c) := B2.cell 2
    clear hb2 c0 c1 c2
    go_wp2_with fail
    refine (CB.out _ L2).mono ?_
    rintro r w3 ⟨rfl, hb3⟩
    go_wp2_with fail
    go_ret2
    exact ⟨rfl, h2''.trans (hb3.mono (by omega))⟩
end Go.Proofs.Ytiaghkngafajgaa
