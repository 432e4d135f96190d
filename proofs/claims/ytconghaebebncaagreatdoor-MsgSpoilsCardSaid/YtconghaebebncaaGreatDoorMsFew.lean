/- fewMsg answers a flag. -/
import Derived.Test.YtconghaebebncaaGreatDoorMsSameM
import Derived.Test.YtconghaebebncaaGreatDoorG2
namespace Go.Proofs.YtconghaebebncaaGreatDoor.Ms
open Go.RowKit
set_option linter.unusedVariables false
set_option maxRecDepth 100000

def AFlag (w : World) (r : Ending) (w' : World) : Prop := (∃ b, r = .returned (.bool b)) ∧ Below w.heap.size w w'
set_option maxHeartbeats 8000000 in
theorem fewMsg_any (m : Mg) (cs : Array Value) (w : World) (h : MAt w (· < w.heap.size) m cs) : Calls Tryz.prog 10 #[.agg cs] w (AFlag w) := by
  have hb0 := (Below.refl w.heap.size w).alloc (Nat.le_refl _) (.cells cs 28)
  have B := Box.new h
  obtain ⟨W, wc, eW, hW, lW, _, _⟩ := h.gW
  obtain ⟨Mo', mc, dd, eM, hM, lM, _⟩ := h.gM
  obtain ⟨x0, x1, x2, x3, x4, hF, e0, e1, e2, e3, e4⟩ := B.loadF
  obtain ⟨k, a, v, S, n1, n2, A, n3, n4, hcs⟩ := hF.form
  simp only [List.cons.injEq, and_true] at hcs
  obtain ⟨rfl, rfl, rfl, rfl, rfl⟩ := hcs
  have HF := Lib.hid (Fi.few_any m.fil 13 0 _ _ _ _ _ _ (by show _ = _; omega) (by omega) (by omega) hF)
  have c3 : (w.alloc (.cells cs 28)).cell? ⟨w.heap.size, 3, none⟩ = some (.string m.dn) := (B.1.cell 3).trans h.g3
  have c5 : (w.alloc (.cells cs 28)).cell? ⟨w.heap.size, 5, none⟩ = some (.string m.pass) := (B.1.cell 5).trans h.g5
  have c15 : (w.alloc (.cells cs 28)).cell? ⟨w.heap.size, 15, none⟩ = some (.string m.rdn) := (B.1.cell 15).trans h.g15
  have c18 : (w.alloc (.cells cs 28)).cell? ⟨w.heap.size, 18, none⟩ = some (.string m.sup) := (B.1.cell 18).trans h.g18
  have c19 : (w.alloc (.cells cs 28)).cell? ⟨w.heap.size, 19, none⟩ = some (.string m.attr) := (B.1.cell 19).trans h.g19
  have c20 : (w.alloc (.cells cs 28)).cell? ⟨w.heap.size, 20, none⟩ = some (.string m.value) := (B.1.cell 20).trans h.g20
  have c22 : (w.alloc (.cells cs 28)).cell? ⟨w.heap.size, 22, none⟩ = some (.string m.matched) := (B.1.cell 22).trans h.g22
  have c13 : (w.alloc (.cells cs 28)).cell? ⟨w.heap.size, 13, none⟩ = some (.slice W m.wants.length wc) := (B.1.cell 13).trans eW
  have c14 : (w.alloc (.cells cs 28)).cell? ⟨w.heap.size, 14, none⟩ = some (.slice Mo' m.mods.length mc) := (B.1.cell 14).trans eM
  have HW := Lib.hid hW
  have HM := Lib.hid hM
  have Hb := Lib.hid hb0
  unfold maxLen at lW lM
  clear hb0 hW hM h hF B eW eM
  rcases (by omega : (500 < (m.dn.size : Int)) ∨ ((m.dn.size : Int) ≤ 500 ∧ 500 < (m.pass.size : Int)) ∨ ((m.dn.size : Int) ≤ 500 ∧ (m.pass.size : Int) ≤ 500 ∧ 500 < (m.rdn.size : Int)) ∨ ((m.dn.size : Int) ≤ 500 ∧ (m.pass.size : Int) ≤ 500 ∧ (m.rdn.size : Int) ≤ 500 ∧ 500 < (m.sup.size : Int)) ∨ ((m.dn.size : Int) ≤ 500 ∧ (m.pass.size : Int) ≤ 500 ∧ (m.rdn.size : Int) ≤ 500 ∧ (m.sup.size : Int) ≤ 500 ∧ 500 < (m.attr.size : Int)) ∨ ((m.dn.size : Int) ≤ 500 ∧ (m.pass.size : Int) ≤ 500 ∧ (m.rdn.size : Int) ≤ 500 ∧ (m.sup.size : Int) ≤ 500 ∧ (m.attr.size : Int) ≤ 500 ∧ 500 < (m.value.size : Int)) ∨ ((m.dn.size : Int) ≤ 500 ∧ (m.pass.size : Int) ≤ 500 ∧ (m.rdn.size : Int) ≤ 500 ∧ (m.sup.size : Int) ≤ 500 ∧ (m.attr.size : Int) ≤ 500 ∧ (m.value.size : Int) ≤ 500 ∧ 500 < (m.matched.size : Int)) ∨ ((m.dn.size : Int) ≤ 500 ∧ (m.pass.size : Int) ≤ 500 ∧ (m.rdn.size : Int) ≤ 500 ∧ (m.sup.size : Int) ≤ 500 ∧ (m.attr.size : Int) ≤ 500 ∧ (m.value.size : Int) ≤ 500 ∧ (m.matched.size : Int) ≤ 500 ∧ 14 < (m.wants.length : Int)) ∨ ((m.dn.size : Int) ≤ 500 ∧ (m.pass.size : Int) ≤ 500 ∧ (m.rdn.size : Int) ≤ 500 ∧ (m.sup.size : Int) ≤ 500 ∧ (m.attr.size : Int) ≤ 500 ∧ (m.value.size : Int) ≤ 500 ∧ (m.matched.size : Int) ≤ 500 ∧ (m.wants.length : Int) ≤ 14)) with q0 | ⟨q0, q1⟩ | ⟨q0, q1, q2⟩ | ⟨q0, q1, q2, q3⟩ | ⟨q0, q1, q2, q3, q4⟩ | ⟨q0, q1, q2, q3, q4, q5⟩ | ⟨q0, q1, q2, q3, q4, q5, q6⟩ | ⟨q0, q1, q2, q3, q4, q5, q6, q7⟩ | ⟨q0, q1, q2, q3, q4, q5, q6, q7⟩
  · clear c13 c14 e0 e1 e2 e3 e4
    go_enter Tryz.func10, Tryz.ntmps10
    go_wp2_with fail
    go_ret
    exact ⟨⟨_, rfl⟩, Hb.out⟩
  · clear c13 c14 e0 e1 e2 e3 e4
    go_enter Tryz.func10, Tryz.ntmps10
    go_wp2_with fail
    go_ret
    exact ⟨⟨_, rfl⟩, Hb.out⟩
  · clear c13 c14 e0 e1 e2 e3 e4
    go_enter Tryz.func10, Tryz.ntmps10
    go_wp2_with fail
    go_ret
    exact ⟨⟨_, rfl⟩, Hb.out⟩
  · clear c13 c14 e0 e1 e2 e3 e4
    go_enter Tryz.func10, Tryz.ntmps10
    go_wp2_with fail
    go_ret
    exact ⟨⟨_, rfl⟩, Hb.out⟩
  · clear c13 c14 e0 e1 e2 e3 e4
    go_enter Tryz.func10, Tryz.ntmps10
    go_wp2_with fail
    go_ret
    exact ⟨⟨_, rfl⟩, Hb.out⟩
  · clear c13 c14 e0 e1 e2 e3 e4
    go_enter Tryz.func10, Tryz.ntmps10
    go_wp2_with fail
    go_ret
    exact ⟨⟨_, rfl⟩, Hb.out⟩
  · clear c13 c14 e0 e1 e2 e3 e4
    go_enter Tryz.func10, Tryz.ntmps10
    go_wp2_with fail
    go_ret
    exact ⟨⟨_, rfl⟩, Hb.out⟩
  · clear c14 e0 e1 e2 e3 e4
    go_enter Tryz.func10, Tryz.ntmps10
    go_wp2_with fail
    go_ret
    exact ⟨⟨_, rfl⟩, Hb.out⟩
  · go_enter Tryz.func10, Tryz.ntmps10
    go_wp2_with fail
    clear c3 c5 c15 c18 c19 c20 c22 q0 q1 q2 q3 q4 q5 q6 q7
    go_loopw [3] (fun i wr => ∃ q : Nat, q ≤ m.wants.length ∧ i = .int .i64 q ∧ wr = w.alloc (.cells cs 28)) (fun i wr => m.wants.length - (intOf i).toNat)
    case atStart => exact ⟨0, Nat.zero_le _, rfl, rfl⟩
    case round =>
      obtain ⟨q, hq, rfl, rfl⟩ := hrel
      by_cases hlt : q < m.wants.length
      · obtain ⟨ad, rfl, hp, hc⟩ := HW.out (by omega)
        have f0 := batA Hb.out (by rw [block_of_add]; exact hp) (hc q hlt)
        generalize m.wants[q] = s at f0
        clear hc e0 e1 e2 e3 e4 c14
        by_cases h500 : 500 < (s.size : Int)
        · go_wp2_with fail
          go_ret
          exact ⟨⟨_, rfl⟩, Hb.out⟩
        · have h500' : (s.size : Int) ≤ 500 := by omega
          clear h500
          go_wp2_with fail
          exact ⟨⟨q + 1, by omega, by go_num, trivial⟩, by simp [intOf]; omega⟩
      · obtain rfl : q = m.wants.length := by omega
        go_wp2_with fail
        clear c13
        go_loopw [4] (fun i wr => ∃ q : Nat, q ≤ m.mods.length ∧ i = .int .i64 q ∧ wr = w.alloc (.cells cs 28)) (fun i wr => m.mods.length - (intOf i).toNat)
        case atStart => exact ⟨0, Nat.zero_le _, rfl, rfl⟩
        case round =>
          clear hlt hq
          obtain ⟨q, hq, rfl, rfl⟩ := hrel
          by_cases hlt : q < m.mods.length
          · obtain ⟨ad, V, vc, rfl, hp, f0, f1, f2, hL⟩ := HM.out.kid Hb.out hlt
            obtain ⟨V1, vc1, ev, _, lv, _, hV, _⟩ := hL
            simp only [List.cons.injEq, Value.slice.injEq, true_and, and_true] at ev
            obtain ⟨rfl, rfl⟩ := ev
            generalize m.mods[q] = d at f0 f1 f2 hV lv
            obtain ⟨dk, da, dv⟩ := d
            simp only at f0 f1 f2 hV lv
            unfold maxLen at lv
            have HV := Lib.hid hV
            clear f0 hV e0 e1 e2 e3 e4
            rcases (by omega : (500 < (da.size : Int)) ∨ ((da.size : Int) ≤ 500 ∧ 14 < (dv.length : Int)) ∨ ((da.size : Int) ≤ 500 ∧ (dv.length : Int) ≤ 14)) with h1 | ⟨h1, h2⟩ | ⟨h1, h2⟩
            · go_wp2_with fail
              go_ret
              exact ⟨⟨_, rfl⟩, Hb.out⟩
            · go_wp2_with fail
              go_ret
              exact ⟨⟨_, rfl⟩, Hb.out⟩
            · go_wp2_with fail
              go_loopw [5] (fun i wr => ∃ p : Nat, p ≤ dv.length ∧ i = .int .i64 p ∧ wr = w.alloc (.cells cs 28)) (fun i wr => dv.length - (intOf i).toNat)
              case atStart => exact ⟨0, Nat.zero_le _, rfl, rfl⟩
              case round =>
                obtain ⟨p, hp2, rfl, rfl⟩ := hrel
                by_cases hlt2 : p < dv.length
                · obtain ⟨ad2, rfl, hp3, hc3⟩ := HV.out (by omega)
                  have g0 := hc3 p hlt2
                  generalize dv[p] = s at g0
                  clear hc3
                  by_cases h500 : 500 < (s.size : Int)
                  · go_wp2_with fail
                    go_ret
                    exact ⟨⟨_, rfl⟩, Hb.out⟩
                  · have h500' : (s.size : Int) ≤ 500 := by omega
                    clear h500
                    go_wp2_with fail
                    exact ⟨⟨p + 1, by omega, by go_num, trivial⟩, by simp [intOf]; omega⟩
                · obtain rfl : p = dv.length := by omega
                  go_wp2_with fail
                  exact ⟨⟨q + 1, by omega, by go_num, trivial⟩, by simp [intOf]; omega⟩
          · obtain rfl : q = m.mods.length := by omega
            by_cases h14 : (m.mods.length : Int) ≤ 14
            · go_wp2_with fail
              refine HF.out.mono ?_
              rintro r w1 ⟨rfl, hb1⟩
              generalize Fi.few 13 m.fil = t
              go_wp2_with fail
              go_ret
              exact ⟨⟨_, rfl⟩, Hb.out.trans (hb1.mono Hb.out.size)⟩
            · have h14' : 14 < (m.mods.length : Int) := by omega
              clear h14
              go_wp2_with fail
              go_ret
              exact ⟨⟨_, rfl⟩, Hb.out⟩
end Go.Proofs.YtconghaebebncaaGreatDoor.Ms
