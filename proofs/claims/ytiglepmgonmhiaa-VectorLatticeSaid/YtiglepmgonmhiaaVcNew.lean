/- A new vector. -/
import Derived.Test.YtiglepmgonmhiaaVcOps
import Derived.Test.YtiglepmgonmhiaaVcPick
namespace Go.Proofs.Ytiglepmgonmhiaa.Cs
open Go.RowKit
set_option linter.unusedVariables false
set_option maxRecDepth 100000

theorem make_vecK (K : Int) (m : Nat) (hK : K = m) (h6 : m ≤ 6) (w : World) :
    (Instr.makeSlice 23 (.int .i64 K) (.int .i64 K)).run Try.prog w = .ok (.slice (some ⟨w.heap.size, 0, none⟩) m m) (w.alloc (.cells (flat (begun m 0)).toArray 25)) := by
  subst hK
  exact make_vec m h6 w
theorem OwnV.of_row {w : World} {base g : Nat} {l : List Nm} {m : Nat} (hm : l.length = m) (hg : base ≤ g) (h6 : l.length ≤ 1000) (hB : Blk w g 25 (flat l).toArray) : OwnV w base (.slice (some ⟨g, 0, none⟩) m m) l := by
  subst hm
  exact OwnV.of_blk (tl := []) hg (Nat.le_refl _) (by unfold maxLen; omega) (by simp [flat_len]) (by simpa using hB)
theorem New_any (n : Int) (w : World) : Calls Try.prog 8 #[.int .i64 n] w fun e w' => ∃ v, e = .returned v ∧ OwnV w' w.heap.size v (newV n) ∧ Below w.heap.size w w' := by
  obtain ⟨m, hm⟩ : ∃ m : Nat, Hid (max 0 (min n 6) = (m : Int)) := ⟨(max 0 (min n 6)).toNat, by show _ = _; omega⟩
  have h6 : m ≤ 6 := by have := hm.out; omega
  have hN := begun_all' n m (by have := hm.out; omega)
  obtain ⟨L, hL⟩ : ∃ L, Hid (L = newV n) := ⟨_, rfl⟩
  rw [← hL.out]
  have HL := Lib.hid (hN.trans hL.out.symm)
  clear hL hN
  have hc : 6 < n ∨ n ≤ 0 ∨ 0 < n ∧ n ≤ 6 := by omega
  rcases hc with hc | hc | ⟨hc, hc2⟩
  focus have hmk := make_vecK 6 m (by have := hm.out; omega) h6
  rotate_left
  focus have hmk := make_vecK 0 m (by have := hm.out; omega) h6
  rotate_left
  focus have hmk := make_vecK n m (by have := hm.out; omega) h6
  rotate_left
  all_goals
    clear hm
    go_enter Try.func8, Try.ntmps8
    go_wp2_with fail
    go_loopw [11] (fun i wr => ∃ (q : Nat), q ≤ m ∧ i = .int .i64 (q : Int) ∧ Hid (Blk wr w.heap.size 25 (flat (begun m q)).toArray) ∧ Hid (Below w.heap.size w wr)) (fun i wr => m - (intOf i).toNat)
    case atStart => exact ⟨0, by omega, rfl, Blk.new _ _ _, (Below.refl _ _).alloc (Nat.le_refl _) _⟩
    case round =>
      obtain ⟨q, hq, rfl, hB, hb⟩ := hrel
      by_cases hlt : q < m
      · have hlt2 : (q : Int) < m := by omega
        have B := hB.out
        obtain ⟨u, hu⟩ : ∃ u : Value, (flat (begun m q))[q * 3 + 2]? = some u := ⟨_, (flat_at (begun m q) q (by rw [begun_len]; exact hlt)).2.2⟩
        have c2 : wr.cell? ⟨w.heap.size, q * 3 + 2, none⟩ = some u := by rw [B.cell]; simpa using hu
        have f2 := B.frozen (q * 3 + 2)
        have HB := Lib.hid (begun_step m q h6 hlt ▸ B.set_ (q * 3 + 2) (.int .i64 (q : Int)))
        have Hb := Lib.hid (hb.out.setCell (p := ⟨w.heap.size, q * 3 + 2, none⟩) (Nat.le_refl _) (.int .i64 (q : Int)))
        clear hu B hB hb
        go_wp2_with fail
        go_roundw
        case rel => exact ⟨q + 1, by omega, by go_num, HB, Hb⟩
        case measure => simp [intOf]; omega
      · obtain rfl : q = m := by omega
        go_wp2_with fail
        go_ret
        have B := hB.out
        rw [HL.out] at B
        have hl : L.length = q := by rw [← HL.out, begun_len]
        exact ⟨_, rfl, OwnV.of_row hl (Nat.le_refl _) (by omega) B, hb.out⟩
def upto (q : Nat) : List Nm := (List.range q).map fun (k : Nat) => ⟨0, 0, (k : Int)⟩
theorem upto_len (q : Nat) : (upto q).length = q := by simp [upto]
theorem upto_step (q : Nat) : upto (q + 1) = upto q ++ [⟨0, 0, (q : Int)⟩] := by
  unfold upto
  rw [List.range_succ, List.map_append]
  rfl
theorem rNew_any (n : Int) (w : World) : Calls Try.prog 9 #[.int .i64 n] w fun e w' => ∃ v, e = .returned v ∧ OwnV w' w.heap.size v (newV n) ∧ Below w.heap.size w w' := by
  obtain ⟨m, hm⟩ : ∃ m : Nat, Hid (max 0 (min n 6) = (m : Int)) := ⟨(max 0 (min n 6)).toNat, by show _ = _; omega⟩
  have h6 : m ≤ 6 := by have := hm.out; omega
  have hN : upto m = newV n := by
    unfold newV upto
    rw [show (max 0 (min n 6)).toNat = m by have := hm.out; omega]
  rw [← hN]
  clear hN
  have hc : (6 < n ∧ m = 6) ∨ (n ≤ 0 ∧ m = 0) ∨ (0 < n ∧ n ≤ 6 ∧ n = (m : Int)) := by have := hm.out; omega
  clear hm
  rcases hc with ⟨hc, hm⟩ | ⟨hc, hm⟩ | ⟨hc, hc2, hm⟩
  all_goals
    have HM := Lib.hid hm
    clear hm
    go_enter Try.func9, Try.ntmps9
    go_wp2_with fail
    go_loopw [3, 4] (fun v i wr => ∃ (q : Nat), q ≤ m ∧ i = .int .i64 (q : Int) ∧ Hid (OwnV wr w.heap.size v (upto q)) ∧ Hid (Below w.heap.size w wr)) (fun v i wr => m - (intOf i).toNat)
    case atStart => exact ⟨0, by omega, rfl, OwnV.nil _ _, Below.refl _ _⟩
    case round =>
      obtain ⟨q, hq, rfl, hO, hb⟩ := hrel
      have hM := HM.out
      by_cases hlt : q < m
      · have hlt2 : (q : Int) < n := by omega
        have hlt3 : (q : Int) < 6 := by omega
        first
        | (exfalso; omega)
        | (have hs := hb.out.size
           have BP := Blk.new wr 25 (gc 0 0 (q : Int))
           have HO := Lib.hid (hO.out.past ((Below.refl _ _).alloc (Nat.le_refl _) (.cells (gc 0 0 (q : Int)) 25)))
           have HB := Lib.hid (hb.out.alloc hs (.cells (gc 0 0 (q : Int)) 25))
           have hhl := upto_len q
           have HH := Lib.hid (show (upto q).length ≤ 1000 by omega)
           clear hO hb hM hhl
           go_wp2_with (at_builtin; go_loud (refine wpList_pushV rfl _ _ rfl w.heap.size _ (upto q) rfl HO.out wr.heap.size ⟨0, 0, (q : Int)⟩ rfl BP HH.out (by simp; omega) ?_))
           intro v1 w1 hO1 hb1 hg1
           clear hg1 HO BP
           go_wp2_with fail
           go_roundw
           case rel => exact ⟨q + 1, by omega, by go_num, by show OwnV _ _ _ _; rw [upto_step q]; exact hO1, HB.out.trans hb1⟩
           case measure => simp [intOf]; omega)
      · obtain rfl : q = m := by omega
        have hge : n ≤ (q : Int) ∨ 6 ≤ (q : Int) := by omega
        have HM := Lib.hid hM
        clear hM
        go_wp2_with fail
        all_goals first
        | (go_ret
           exact ⟨_, rfl, hO.out, hb.out⟩)
        | (exfalso; have := HM.out; omega)
end Go.Proofs.Ytiglepmgonmhiaa.Cs
