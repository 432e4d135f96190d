/- What a vector covers; which one is less, the program's way. -/
import Derived.Test.YtiglepmgonmhiaaVcJoin
import Derived.Test.YtiglepmgonmhiaaVcEq
namespace Go.Proofs.Ytiglepmgonmhiaa.Cs
open Go.RowKit
set_option linter.unusedVariables false
set_option maxRecDepth 100000

section
variable {ev : Operand → Value} {o : Oper} {x y : Operand} {w : World}
theorem run_geq_t {P : Program} {t u : TypeId} {a b : Int} (ho : o.op = .binOp .geq t x y u) (hx : ev x = .int .i64 a) (hy : ev y = .int .i64 b) (h : b ≤ a) : (execOp ev o).run P w = .ok (.value (.bool true)) w := by
  unfold execOp
  simp [ho, hx, hy, eqGuard, binOp, go_sem, h]
theorem run_geq_f {P : Program} {t u : TypeId} {a b : Int} (ho : o.op = .binOp .geq t x y u) (hx : ev x = .int .i64 a) (hy : ev y = .int .i64 b) (h : a < b) : (execOp ev o).run P w = .ok (.value (.bool false)) w := by
  unfold execOp
  simp [ho, hx, hy, eqGuard, binOp, go_sem, h]
theorem run_lss_t {P : Program} {t u : TypeId} {a b : Int} (ho : o.op = .binOp .lss t x y u) (hx : ev x = .int .i64 a) (hy : ev y = .int .i64 b) (h : a < b) : (execOp ev o).run P w = .ok (.value (.bool true)) w := by
  unfold execOp
  simp [ho, hx, hy, eqGuard, binOp, go_sem, h]
theorem run_lss_f {P : Program} {t u : TypeId} {a b : Int} (ho : o.op = .binOp .lss t x y u) (hx : ev x = .int .i64 a) (hy : ev y = .int .i64 b) (h : b ≤ a) : (execOp ev o).run P w = .ok (.value (.bool false)) w := by
  unfold execOp
  simp [ho, hx, hy, eqGuard, binOp, go_sem, h]
theorem run_len {A : Option Addr} {n c : Nat} (ho : o.op = .call { callee := .builtin .len, args := #[x], argTypes := #[23] }) (hx : ev x = .slice A n c) : (execOp ev o).run Try.prog w = .ok (.value (.int .i64 (n : Int))) w := by
  unfold execOp
  simp [ho, hx, resolve, invoke, builtin, Builtin.len_, goInt, run_underlying Try.underlying23, Result.andThen]
end
theorem covers_neg {v : List Nm} {c : Nm} (h : c.r < 0) : covers v c = false := by
  unfold covers
  rw [decide_eq_false (by omega)]
  rfl
theorem covers_far {v : List Nm} {c : Nm} (h : ((cnt v).length : Int) ≤ c.r) : covers v c = false := by
  unfold covers
  rw [decide_eq_false (show ¬ c.r < ((cnt v).length : Int) by omega), Bool.false_and, Bool.and_false]
theorem covers_at {v : List Nm} {t s : Int} {k : Nat} (hk : k < (cnt v).length) : covers v ⟨t, s, k⟩ = decide ((Nm.mk t s k).cmp (cnt v)[k] ≤ 0) := by
  unfold covers
  rw [decide_eq_true (show 0 ≤ (Nm.mk t s k).r by show (0 : Int) ≤ k; omega), decide_eq_true (show (Nm.mk t s k).r < ((cnt v).length : Int) by show (k : Int) < _; omega)]
  show decide (Nm.cmp _ (at_ (cnt v) ((k : Int).toNat)) ≤ 0) = _
  rw [Int.toNat_natCast, at_eq hk]
theorem Leq_any (A B : Option Addr) (c d : Nat) (la lb : List Nm) (w : World) (hA : VecIn w A la) (hB : VecIn w B lb) : Calls Try.prog 18 #[.slice A la.length c, .slice B lb.length d] w fun e w' => e = .returned (.bool (leq la lb)) ∧ Below w.heap.size w w' := by
  have CJ := Lib.hid (Join_any A B c d la lb w hA hB)
  have CS := Lib.hid Same_any
  have HB := Lib.hid hB
  clear hA hB
  unfold leq
  generalize join la lb = J at *
  go_enter Try.func18, Try.ntmps18
  go_wp2_with fail
  refine CJ.out.mono ?_
  rintro e w1 ⟨A1, c1, rfl, hV, hb⟩
  have HV := Lib.hid hV
  have HB1 := Lib.hid (HB.out.past hb)
  have Hb := Lib.hid hb
  clear hV hb HB CJ
  go_wp2_with fail
  refine (CS.out A1 B c1 d J lb _ HV.out HB1.out).mono ?_
  rintro e w2 ⟨rfl, hb2⟩
  have Hb2 := Lib.hid (Hb.out.trans (hb2.mono Hb.out.size))
  clear hb2
  go_wp2_with fail
  go_ret
  exact ⟨rfl, Hb2.out⟩
set_option maxHeartbeats 1000000 in
theorem Covers_any (A : Option Addr) (c : Nat) (la : List Nm) (ct cs cr : Int) (w : World) (hA : VecIn w A la) : Calls Try.prog 20 #[.slice A la.length c, cv ct cs cr] w fun e w' => e = .returned (.bool (covers la ⟨ct, cs, cr⟩)) ∧ Below w.heap.size w w' := by
  have CO := Lib.hid (fun w hA => counted_any A c la w hA)
  have CM := Lib.hid (fun (x y : Nm) => cmp_any x.t x.s x.r y.t y.s y.r)
  have H6 := cnt_len la
  obtain ⟨R, hR⟩ : ∃ R, Hid (R = covers la ⟨ct, cs, cr⟩) := ⟨_, rfl⟩
  rw [← hR.out]
  have BX := Blk.new w 25 (gc ct cs cr)
  have HA := Lib.hid (hA.past ((Below.refl _ _).alloc (Nat.le_refl _) (.cells (gc ct cs cr) 25)))
  have hb0 := (Below.refl w.heap.size w).alloc (Nat.le_refl _) (.cells (gc ct cs cr) 25)
  clear hA
  go_enter Try.func20, Try.ntmps20
  go_wp2_with fail
  refine (CO.out _ HA.out).mono ?_
  rintro e w1 ⟨AA, ca, rfl, hV, hb1⟩
  have B1 := BX.past hb1
  have Hb := Lib.hid (hb0.trans (hb1.mono hb0.size))
  have Hbs := Lib.hid (show w.heap.size < w1.heap.size by have := hb1.size; simp at this; omega)
  have HV := Lib.hid hV
  clear BX hb0 hb1 hV HA CO
  have hcase : cr < 0 ∨ (0 ≤ cr ∧ ((cnt la).length : Int) ≤ cr) ∨ (0 ≤ cr ∧ cr < (cnt la).length) := by omega
  rcases hcase with h1 | ⟨h1, h2⟩ | ⟨h1, h2⟩
  focus
    have HR := Lib.hid (hR.out.trans (covers_neg (c := ⟨ct, cs, cr⟩) h1))
    go_wp2_with fail
    refine wp_region_noPanic ?_
    refine wp_region_held_drew (S := fun w' => Blk w' w.heap.size 25 (gc ct cs cr)) (by kernel_rfl) B1.drew (fun hHeld => ?_)
    refine Rg.tk 0 7 (.pointer (some ⟨w.heap.size, 2, none⟩)) rfl (by kernel_rfl) (fun _ _ _ h => h) (fun _ _ => by kernel_rfl) hHeld ?_
    refine Rg.tk 1 8 (.int .i64 cr) rfl (by kernel_rfl) (fun _ _ _ h => h) (fun w' h => run_cell rfl rfl (by kernel_rfl) (h.cell 2)) hHeld ?_
    refine Rg.tk 2 9 (.bool false) rfl (by kernel_rfl) (fun _ _ _ h => h) (fun _ _ => run_geq_f rfl rfl rfl h1) hHeld ?_
    refine Rg.frame _ (by simp only [Rg.pu, List.set]; rfl) ?_
    refine Rg.idleP [3, 4, 5, 6, 7, 8, 9, 10, 11, 12, 13, 14, 15, 16, 17, 18, 19, 20] [(4, .bool false), (10, .bool false), (16, .bool false), (17, .bool false), (26, .bool false)] 0 (by kernel_rfl) (fun _ _ _ _ _ h => h) (by kernel_rfl) (by kernel_rfl) hHeld ?_
    refine Rg.frame _ (by simp only [Rg.puts, Rg.pu, List.set]; rfl) ?_
    refine wpAnyH_done (by kernel_rfl) ?_ _
    refine NoPanic.normal ?_
    have Hb5 := Lib.hid (Hb.out.drew)
    go_wp2_with fail
    go_ret
    exact ⟨ret_bool HR.out.symm, Hb5.out⟩
  focus
    have HR := Lib.hid (hR.out.trans (covers_far (c := ⟨ct, cs, cr⟩) h2))
    generalize cnt la = V at *
    go_wp2_with fail
    refine wp_region_noPanic ?_
    refine wp_region_held_drew (S := fun w' => Blk w' w.heap.size 25 (gc ct cs cr)) (by kernel_rfl) B1.drew (fun hHeld => ?_)
    refine Rg.tk 0 7 (.pointer (some ⟨w.heap.size, 2, none⟩)) rfl (by kernel_rfl) (fun _ _ _ h => h) (fun _ _ => by kernel_rfl) hHeld ?_
    refine Rg.tk 1 8 (.int .i64 cr) rfl (by kernel_rfl) (fun _ _ _ h => h) (fun w' h => run_cell rfl rfl (by kernel_rfl) (h.cell 2)) hHeld ?_
    refine Rg.tk 2 9 (.bool true) rfl (by kernel_rfl) (fun _ _ _ h => h) (fun _ _ => run_geq_t rfl rfl rfl h1) hHeld ?_
    refine Rg.frame _ (by simp only [Rg.pu, List.set]; rfl) ?_
    refine Rg.idleP [3] [(10, .bool true)] 17 (by kernel_rfl) (fun _ _ _ _ _ h => h) (by kernel_rfl) (by kernel_rfl) hHeld ?_
    refine Rg.frame _ (by simp only [Rg.puts, Rg.pu, List.set]; rfl) ?_
    refine Rg.tk 4 11 (.pointer (some ⟨w.heap.size, 2, none⟩)) rfl (by kernel_rfl) (fun _ _ _ h => h) (fun _ _ => by kernel_rfl) hHeld ?_
    refine Rg.tk 5 12 (.int .i64 cr) rfl (by kernel_rfl) (fun _ _ _ h => h) (fun w' h => run_cell rfl rfl (by kernel_rfl) (h.cell 2)) hHeld ?_
    refine Rg.idleP [6] [(13, .slice AA V.length ca)] 14 (by kernel_rfl) (fun _ _ _ _ _ h => h) (by kernel_rfl) (by kernel_rfl) hHeld ?_
    refine Rg.frame _ (by simp only [Rg.puts, Rg.pu, List.set]; rfl) ?_
    refine Rg.tk 7 14 (.int .i64 (V.length : Int)) rfl (by kernel_rfl) (fun _ _ _ h => h) (fun _ _ => run_len rfl rfl) hHeld ?_
    refine Rg.tk 8 15 (.bool false) rfl (by kernel_rfl) (fun _ _ _ h => h) (fun _ _ => run_lss_f rfl rfl rfl h2) hHeld ?_
    refine Rg.idleP [9, 10, 11, 12, 13, 14, 15, 16, 17, 18, 19, 20] [(4, .bool false), (16, .bool false), (17, .bool false), (26, .bool false)] 0 (by kernel_rfl) (fun _ _ _ _ _ h => h) (by kernel_rfl) (by kernel_rfl) hHeld ?_
    refine Rg.frame _ (by simp only [Rg.puts, Rg.pu, List.set]; rfl) ?_
    refine wpAnyH_done (by kernel_rfl) ?_ _
    refine NoPanic.normal ?_
    have Hb5 := Lib.hid (Hb.out.drew)
    go_wp2_with fail
    go_ret
    exact ⟨ret_bool HR.out.symm, Hb5.out⟩
  obtain ⟨k, rfl⟩ : ∃ k : Nat, cr = (k : Int) := ⟨cr.toNat, by omega⟩
  have hk : k < (cnt la).length := by omega
  have hR2 := hR.out.trans (covers_at (t := ct) (s := cs) hk)
  clear hR
  generalize cnt la = V at *
  obtain ⟨ad, rfl, hp, hX⟩ := HV.out.at3 hk
  obtain ⟨x, hx⟩ : ∃ x, Hid (x = V[k]) := ⟨V[k], rfl⟩
  rw [← hx.out] at hX
  rw [← hx.out] at hR2
  obtain ⟨K, hK⟩ : ∃ K, Hid (K = (Nm.mk ct cs k).cmp x) := ⟨_, rfl⟩
  rw [← hK.out] at hR2
  have CMx := CM.out ⟨ct, cs, k⟩ x
  rw [show cmpC ct cs k x.t x.s x.r = K from hK.out.symm] at CMx
  have HC := Lib.hid CMx
  have HX := Lib.hid hX
  have HR := Lib.hid hR2
  clear CMx hX hR2 CM
  by_cases hKc : K ≤ 0
  focus
    go_wp2_with fail
    refine wp_region_noPanic ?_
    refine wp_region_held_drew (S := fun w' => Blk w' w.heap.size 25 (gc ct cs k) ∧ At3 w' (ad.add (k * 3)) x) (by kernel_rfl) ⟨B1.drew, HX.out⟩ (fun hHeld => ?_)
    refine Rg.tk 0 7 (.pointer (some ⟨w.heap.size, 2, none⟩)) rfl (by kernel_rfl) (fun _ _ _ h => h) (fun _ _ => by kernel_rfl) hHeld ?_
    refine Rg.tk 1 8 (.int .i64 (k : Int)) rfl (by kernel_rfl) (fun _ _ _ h => h) (fun w' h => run_cell rfl rfl (by kernel_rfl) (h.1.cell 2)) hHeld ?_
    refine Rg.tk 2 9 (.bool true) rfl (by kernel_rfl) (fun _ _ _ h => h) (fun _ _ => run_geq_t rfl rfl rfl h1) hHeld ?_
    refine Rg.frame _ (by simp only [Rg.pu, List.set]; rfl) ?_
    refine Rg.idleP [3] [(10, .bool true)] 17 (by kernel_rfl) (fun _ _ _ _ _ h => h) (by kernel_rfl) (by kernel_rfl) hHeld ?_
    refine Rg.frame _ (by simp only [Rg.puts, Rg.pu, List.set]; rfl) ?_
    refine Rg.tk 4 11 (.pointer (some ⟨w.heap.size, 2, none⟩)) rfl (by kernel_rfl) (fun _ _ _ h => h) (fun _ _ => by kernel_rfl) hHeld ?_
    refine Rg.tk 5 12 (.int .i64 (k : Int)) rfl (by kernel_rfl) (fun _ _ _ h => h) (fun w' h => run_cell rfl rfl (by kernel_rfl) (h.1.cell 2)) hHeld ?_
    refine Rg.idleP [6] [(13, .slice (some ad) V.length ca)] 14 (by kernel_rfl) (fun _ _ _ _ _ h => h) (by kernel_rfl) (by kernel_rfl) hHeld ?_
    refine Rg.frame _ (by simp only [Rg.puts, Rg.pu, List.set]; rfl) ?_
    refine Rg.tk 7 14 (.int .i64 (V.length : Int)) rfl (by kernel_rfl) (fun _ _ _ h => h) (fun _ _ => run_len rfl rfl) hHeld ?_
    refine Rg.tk 8 15 (.bool true) rfl (by kernel_rfl) (fun _ _ _ h => h) (fun _ _ => run_lss_t rfl rfl rfl h2) hHeld ?_
    refine Rg.idleP [9, 10] [(16, .bool true), (17, .bool true)] 10 (by kernel_rfl) (fun _ _ _ _ _ h => h) (by kernel_rfl) (by kernel_rfl) hHeld ?_
    refine Rg.frame _ (by simp only [Rg.puts, Rg.pu, List.set]; rfl) ?_
    refine Rg.tk 11 18 (.agg (gc ct cs (k : Int))) rfl (by kernel_rfl) (fun _ _ _ h => h) (fun w' h => run_at3 (n := ⟨ct, cs, (k : Int)⟩) rfl rfl (box_at3 h.1)) hHeld ?_
    refine Rg.idleP [12] [(19, .slice (some ad) V.length ca)] 8 (by kernel_rfl) (fun _ _ _ _ _ h => h) (by kernel_rfl) (by kernel_rfl) hHeld ?_
    refine Rg.frame _ (by simp only [Rg.puts, Rg.pu, List.set]; rfl) ?_
    refine Rg.tk 13 20 (.pointer (some ⟨w.heap.size, 2, none⟩)) rfl (by kernel_rfl) (fun _ _ _ h => h) (fun _ _ => by kernel_rfl) hHeld ?_
    refine Rg.tk 14 21 (.int .i64 (k : Int)) rfl (by kernel_rfl) (fun _ _ _ h => h) (fun w' h => run_cell rfl rfl (by kernel_rfl) (h.1.cell 2)) hHeld ?_
    refine Rg.tk 15 22 (.pointer (some (ad.add (k * 3)))) rfl (by kernel_rfl) (fun _ _ _ h => h) (fun _ _ => run_idx rfl rfl rfl hk) hHeld ?_
    refine Rg.frame _ (by simp only [Rg.pu, List.set]; rfl) ?_
    refine Rg.tk 16 23 (x.v) rfl (by kernel_rfl) (fun _ _ _ h => h) (fun w' h => run_at3 (n := x) rfl rfl h.2) hHeld ?_
    refine Rg.cl 17 24 rfl (by kernel_rfl) 34 #[.agg (gc ct cs (k : Int)), x.v] (by kernel_rfl) (HC.out _) ?_
    rintro _ w4 ⟨rfl, hb4⟩
    have hHeld1 := (⟨hHeld.1.past hb4, hHeld.2.past (by show (ad.add (k * 3)).block < w1.heap.size; rw [block_of_add]; exact hp) hb4⟩ : _ ∧ _)
    refine ⟨_, rfl, hHeld1, ?_⟩
    refine Rg.tk 18 25 (.bool true) rfl (by kernel_rfl) (fun _ _ _ h => h) (fun _ _ => run_leq_t rfl rfl rfl hKc) hHeld1 ?_
    refine Rg.frame _ (by simp only [Rg.pu, List.set]; rfl) ?_
    refine Rg.idleP [19, 20] [(4, .bool true), (26, .bool true)] 0 (by kernel_rfl) (fun _ _ _ _ _ h => h) (by kernel_rfl) (by kernel_rfl) hHeld1 ?_
    refine Rg.frame _ (by simp only [Rg.puts, Rg.pu, List.set]; rfl) ?_
    refine wpAnyH_done (by kernel_rfl) ?_ _
    refine NoPanic.normal ?_
    have Hb5 := Lib.hid (Hb.out.drew.trans (hb4.mono Hb.out.drew.size))
    go_wp2_with fail
    go_ret
    exact ⟨ret_bool (by rw [HR.out, decide_eq_true hKc]), Hb5.out⟩
  have hKp : 0 < K := by omega
  go_wp2_with fail
  refine wp_region_noPanic ?_
  refine wp_region_held_drew (S := fun w' => Blk w' w.heap.size 25 (gc ct cs k) ∧ At3 w' (ad.add (k * 3)) x) (by kernel_rfl) ⟨B1.drew, HX.out⟩ (fun hHeld => ?_)
  refine Rg.tk 0 7 (.pointer (some ⟨w.heap.size, 2, none⟩)) rfl (by kernel_rfl) (fun _ _ _ h => h) (fun _ _ => by kernel_rfl) hHeld ?_
  refine Rg.tk 1 8 (.int .i64 (k : Int)) rfl (by kernel_rfl) (fun _ _ _ h => h) (fun w' h => run_cell rfl rfl (by kernel_rfl) (h.1.cell 2)) hHeld ?_
  refine Rg.tk 2 9 (.bool true) rfl (by kernel_rfl) (fun _ _ _ h => h) (fun _ _ => run_geq_t rfl rfl rfl h1) hHeld ?_
  refine Rg.frame _ (by simp only [Rg.pu, List.set]; rfl) ?_
  refine Rg.idleP [3] [(10, .bool true)] 17 (by kernel_rfl) (fun _ _ _ _ _ h => h) (by kernel_rfl) (by kernel_rfl) hHeld ?_
  refine Rg.frame _ (by simp only [Rg.puts, Rg.pu, List.set]; rfl) ?_
  refine Rg.tk 4 11 (.pointer (some ⟨w.heap.size, 2, none⟩)) rfl (by kernel_rfl) (fun _ _ _ h => h) (fun _ _ => by kernel_rfl) hHeld ?_
  refine Rg.tk 5 12 (.int .i64 (k : Int)) rfl (by kernel_rfl) (fun _ _ _ h => h) (fun w' h => run_cell rfl rfl (by kernel_rfl) (h.1.cell 2)) hHeld ?_
  refine Rg.idleP [6] [(13, .slice (some ad) V.length ca)] 14 (by kernel_rfl) (fun _ _ _ _ _ h => h) (by kernel_rfl) (by kernel_rfl) hHeld ?_
  refine Rg.frame _ (by simp only [Rg.puts, Rg.pu, List.set]; rfl) ?_
  refine Rg.tk 7 14 (.int .i64 (V.length : Int)) rfl (by kernel_rfl) (fun _ _ _ h => h) (fun _ _ => run_len rfl rfl) hHeld ?_
  refine Rg.tk 8 15 (.bool true) rfl (by kernel_rfl) (fun _ _ _ h => h) (fun _ _ => run_lss_t rfl rfl rfl h2) hHeld ?_
  refine Rg.idleP [9, 10] [(16, .bool true), (17, .bool true)] 10 (by kernel_rfl) (fun _ _ _ _ _ h => h) (by kernel_rfl) (by kernel_rfl) hHeld ?_
  refine Rg.frame _ (by simp only [Rg.puts, Rg.pu, List.set]; rfl) ?_
  refine Rg.tk 11 18 (.agg (gc ct cs (k : Int))) rfl (by kernel_rfl) (fun _ _ _ h => h) (fun w' h => run_at3 (n := ⟨ct, cs, (k : Int)⟩) rfl rfl (box_at3 h.1)) hHeld ?_
  refine Rg.idleP [12] [(19, .slice (some ad) V.length ca)] 8 (by kernel_rfl) (fun _ _ _ _ _ h => h) (by kernel_rfl) (by kernel_rfl) hHeld ?_
  refine Rg.frame _ (by simp only [Rg.puts, Rg.pu, List.set]; rfl) ?_
  refine Rg.tk 13 20 (.pointer (some ⟨w.heap.size, 2, none⟩)) rfl (by kernel_rfl) (fun _ _ _ h => h) (fun _ _ => by kernel_rfl) hHeld ?_
  refine Rg.tk 14 21 (.int .i64 (k : Int)) rfl (by kernel_rfl) (fun _ _ _ h => h) (fun w' h => run_cell rfl rfl (by kernel_rfl) (h.1.cell 2)) hHeld ?_
  refine Rg.tk 15 22 (.pointer (some (ad.add (k * 3)))) rfl (by kernel_rfl) (fun _ _ _ h => h) (fun _ _ => run_idx rfl rfl rfl hk) hHeld ?_
  refine Rg.frame _ (by simp only [Rg.pu, List.set]; rfl) ?_
  refine Rg.tk 16 23 (x.v) rfl (by kernel_rfl) (fun _ _ _ h => h) (fun w' h => run_at3 (n := x) rfl rfl h.2) hHeld ?_
  refine Rg.cl 17 24 rfl (by kernel_rfl) 34 #[.agg (gc ct cs (k : Int)), x.v] (by kernel_rfl) (HC.out _) ?_
  rintro _ w4 ⟨rfl, hb4⟩
  have hHeld1 := (⟨hHeld.1.past hb4, hHeld.2.past (by show (ad.add (k * 3)).block < w1.heap.size; rw [block_of_add]; exact hp) hb4⟩ : _ ∧ _)
  refine ⟨_, rfl, hHeld1, ?_⟩
  refine Rg.tk 18 25 (.bool false) rfl (by kernel_rfl) (fun _ _ _ h => h) (fun _ _ => run_leq_f rfl rfl rfl hKp) hHeld1 ?_
  refine Rg.frame _ (by simp only [Rg.pu, List.set]; rfl) ?_
  refine Rg.idleP [19, 20] [(4, .bool false), (26, .bool false)] 0 (by kernel_rfl) (fun _ _ _ _ _ h => h) (by kernel_rfl) (by kernel_rfl) hHeld1 ?_
  refine Rg.frame _ (by simp only [Rg.puts, Rg.pu, List.set]; rfl) ?_
  refine wpAnyH_done (by kernel_rfl) ?_ _
  refine NoPanic.normal ?_
  have Hb5 := Lib.hid (Hb.out.drew.trans (hb4.mono Hb.out.drew.size))
  go_wp2_with fail
  go_ret
  exact ⟨ret_bool (by rw [HR.out, decide_eq_false (by omega)]), Hb5.out⟩
set_option maxHeartbeats 1000000 in
theorem rCovers_any (A : Option Addr) (c : Nat) (la : List Nm) (ct cs cr : Int) (w : World) (hA : VecIn w A la) (hl : la.length ≤ 1000) : Calls Try.prog 21 #[.slice A la.length c, cv ct cs cr] w fun e w' => e = .returned (.bool (covers la ⟨ct, cs, cr⟩)) ∧ Below w.heap.size w w' := by
  have CO := Lib.hid (fun w hA => Own_any A c la w hA hl)
  have CM := Lib.hid (fun (x y : Nm) => rcmp_any x.t x.s x.r y.t y.s y.r)
  have H6 := cnt_len la
  obtain ⟨R, hR⟩ : ∃ R, Hid (R = covers la ⟨ct, cs, cr⟩) := ⟨_, rfl⟩
  rw [← hR.out]
  have BX := Blk.new w 25 (gc ct cs cr)
  have HA := Lib.hid (hA.past ((Below.refl _ _).alloc (Nat.le_refl _) (.cells (gc ct cs cr) 25)))
  have hb0 := (Below.refl w.heap.size w).alloc (Nat.le_refl _) (.cells (gc ct cs cr) 25)
  clear hA hl
  go_enter Try.func21, Try.ntmps21
  go_wp2_with fail
  refine (CO.out _ HA.out).mono ?_
  rintro e w1 ⟨v, rfl, hO, hb1⟩
  obtain ⟨AA, ca, rfl, hV⟩ := hO.form
  clear hO
  have B1 := BX.past hb1
  have Hb := Lib.hid (hb0.trans (hb1.mono hb0.size))
  have Hbs := Lib.hid (show w.heap.size < w1.heap.size by have := hb1.size; simp at this; omega)
  have HV := Lib.hid hV
  clear BX hb0 hb1 hV HA CO
  have hcase : cr < 0 ∨ (0 ≤ cr ∧ ((cnt la).length : Int) ≤ cr) ∨ (0 ≤ cr ∧ cr < (cnt la).length) := by omega
  rcases hcase with h1 | ⟨h1, h2⟩ | ⟨h1, h2⟩
  focus
    have HR := Lib.hid (hR.out.trans (covers_neg (c := ⟨ct, cs, cr⟩) h1))
    go_wp2_with fail
    refine wp_region_noPanic ?_
    refine wp_region_held_drew (S := fun w' => Blk w' w.heap.size 25 (gc ct cs cr)) (by kernel_rfl) B1.drew (fun hHeld => ?_)
    refine Rg.tk 0 8 (.pointer (some ⟨w.heap.size, 2, none⟩)) rfl (by kernel_rfl) (fun _ _ _ h => h) (fun _ _ => by kernel_rfl) hHeld ?_
    refine Rg.tk 1 9 (.int .i64 cr) rfl (by kernel_rfl) (fun _ _ _ h => h) (fun w' h => run_cell rfl rfl (by kernel_rfl) (h.cell 2)) hHeld ?_
    refine Rg.tk 2 10 (.bool false) rfl (by kernel_rfl) (fun _ _ _ h => h) (fun _ _ => run_geq_f rfl rfl rfl h1) hHeld ?_
    refine Rg.frame _ (by simp only [Rg.pu, List.set]; rfl) ?_
    refine Rg.idleP [3, 4, 5, 6, 7, 8, 9, 10, 11, 12, 13, 14, 15, 16, 17, 18, 19, 20] [(4, .bool false), (11, .bool false), (17, .bool false), (18, .bool false), (27, .bool false)] 0 (by kernel_rfl) (fun _ _ _ _ _ h => h) (by kernel_rfl) (by kernel_rfl) hHeld ?_
    refine Rg.frame _ (by simp only [Rg.puts, Rg.pu, List.set]; rfl) ?_
    refine wpAnyH_done (by kernel_rfl) ?_ _
    refine NoPanic.normal ?_
    have Hb5 := Lib.hid (Hb.out.drew)
    go_wp2_with fail
    go_ret
    exact ⟨ret_bool HR.out.symm, Hb5.out⟩
  focus
    have HR := Lib.hid (hR.out.trans (covers_far (c := ⟨ct, cs, cr⟩) h2))
    generalize cnt la = V at *
    go_wp2_with fail
    refine wp_region_noPanic ?_
    refine wp_region_held_drew (S := fun w' => Blk w' w.heap.size 25 (gc ct cs cr)) (by kernel_rfl) B1.drew (fun hHeld => ?_)
    refine Rg.tk 0 8 (.pointer (some ⟨w.heap.size, 2, none⟩)) rfl (by kernel_rfl) (fun _ _ _ h => h) (fun _ _ => by kernel_rfl) hHeld ?_
    refine Rg.tk 1 9 (.int .i64 cr) rfl (by kernel_rfl) (fun _ _ _ h => h) (fun w' h => run_cell rfl rfl (by kernel_rfl) (h.cell 2)) hHeld ?_
    refine Rg.tk 2 10 (.bool true) rfl (by kernel_rfl) (fun _ _ _ h => h) (fun _ _ => run_geq_t rfl rfl rfl h1) hHeld ?_
    refine Rg.frame _ (by simp only [Rg.pu, List.set]; rfl) ?_
    refine Rg.idleP [3] [(11, .bool true)] 17 (by kernel_rfl) (fun _ _ _ _ _ h => h) (by kernel_rfl) (by kernel_rfl) hHeld ?_
    refine Rg.frame _ (by simp only [Rg.puts, Rg.pu, List.set]; rfl) ?_
    refine Rg.tk 4 12 (.pointer (some ⟨w.heap.size, 2, none⟩)) rfl (by kernel_rfl) (fun _ _ _ h => h) (fun _ _ => by kernel_rfl) hHeld ?_
    refine Rg.tk 5 13 (.int .i64 cr) rfl (by kernel_rfl) (fun _ _ _ h => h) (fun w' h => run_cell rfl rfl (by kernel_rfl) (h.cell 2)) hHeld ?_
    refine Rg.idleP [6] [(14, .slice AA V.length ca)] 14 (by kernel_rfl) (fun _ _ _ _ _ h => h) (by kernel_rfl) (by kernel_rfl) hHeld ?_
    refine Rg.frame _ (by simp only [Rg.puts, Rg.pu, List.set]; rfl) ?_
    refine Rg.tk 7 15 (.int .i64 (V.length : Int)) rfl (by kernel_rfl) (fun _ _ _ h => h) (fun _ _ => run_len rfl rfl) hHeld ?_
    refine Rg.tk 8 16 (.bool false) rfl (by kernel_rfl) (fun _ _ _ h => h) (fun _ _ => run_lss_f rfl rfl rfl h2) hHeld ?_
    refine Rg.idleP [9, 10, 11, 12, 13, 14, 15, 16, 17, 18, 19, 20] [(4, .bool false), (17, .bool false), (18, .bool false), (27, .bool false)] 0 (by kernel_rfl) (fun _ _ _ _ _ h => h) (by kernel_rfl) (by kernel_rfl) hHeld ?_
    refine Rg.frame _ (by simp only [Rg.puts, Rg.pu, List.set]; rfl) ?_
    refine wpAnyH_done (by kernel_rfl) ?_ _
    refine NoPanic.normal ?_
    have Hb5 := Lib.hid (Hb.out.drew)
    go_wp2_with fail
    go_ret
    exact ⟨ret_bool HR.out.symm, Hb5.out⟩
  obtain ⟨k, rfl⟩ : ∃ k : Nat, cr = (k : Int) := ⟨cr.toNat, by omega⟩
  have hk : k < (cnt la).length := by omega
  have hR2 := hR.out.trans (covers_at (t := ct) (s := cs) hk)
  clear hR
  generalize cnt la = V at *
  obtain ⟨ad, rfl, hp, hX⟩ := HV.out.at3 hk
  obtain ⟨x, hx⟩ : ∃ x, Hid (x = V[k]) := ⟨V[k], rfl⟩
  rw [← hx.out] at hX
  rw [← hx.out] at hR2
  obtain ⟨K, hK⟩ : ∃ K, Hid (K = (Nm.mk ct cs k).cmp x) := ⟨_, rfl⟩
  rw [← hK.out] at hR2
  have CMx := CM.out ⟨ct, cs, k⟩ x
  rw [show cmpC ct cs k x.t x.s x.r = K from hK.out.symm] at CMx
  have HC := Lib.hid CMx
  have HX := Lib.hid hX
  have HR := Lib.hid hR2
  clear CMx hX hR2 CM
  by_cases hKc : K ≤ 0
  focus
    go_wp2_with fail
    refine wp_region_noPanic ?_
    refine wp_region_held_drew (S := fun w' => Blk w' w.heap.size 25 (gc ct cs k) ∧ At3 w' (ad.add (k * 3)) x) (by kernel_rfl) ⟨B1.drew, HX.out⟩ (fun hHeld => ?_)
    refine Rg.tk 0 8 (.pointer (some ⟨w.heap.size, 2, none⟩)) rfl (by kernel_rfl) (fun _ _ _ h => h) (fun _ _ => by kernel_rfl) hHeld ?_
    refine Rg.tk 1 9 (.int .i64 (k : Int)) rfl (by kernel_rfl) (fun _ _ _ h => h) (fun w' h => run_cell rfl rfl (by kernel_rfl) (h.1.cell 2)) hHeld ?_
    refine Rg.tk 2 10 (.bool true) rfl (by kernel_rfl) (fun _ _ _ h => h) (fun _ _ => run_geq_t rfl rfl rfl h1) hHeld ?_
    refine Rg.frame _ (by simp only [Rg.pu, List.set]; rfl) ?_
    refine Rg.idleP [3] [(11, .bool true)] 17 (by kernel_rfl) (fun _ _ _ _ _ h => h) (by kernel_rfl) (by kernel_rfl) hHeld ?_
    refine Rg.frame _ (by simp only [Rg.puts, Rg.pu, List.set]; rfl) ?_
    refine Rg.tk 4 12 (.pointer (some ⟨w.heap.size, 2, none⟩)) rfl (by kernel_rfl) (fun _ _ _ h => h) (fun _ _ => by kernel_rfl) hHeld ?_
    refine Rg.tk 5 13 (.int .i64 (k : Int)) rfl (by kernel_rfl) (fun _ _ _ h => h) (fun w' h => run_cell rfl rfl (by kernel_rfl) (h.1.cell 2)) hHeld ?_
    refine Rg.idleP [6] [(14, .slice (some ad) V.length ca)] 14 (by kernel_rfl) (fun _ _ _ _ _ h => h) (by kernel_rfl) (by kernel_rfl) hHeld ?_
    refine Rg.frame _ (by simp only [Rg.puts, Rg.pu, List.set]; rfl) ?_
    refine Rg.tk 7 15 (.int .i64 (V.length : Int)) rfl (by kernel_rfl) (fun _ _ _ h => h) (fun _ _ => run_len rfl rfl) hHeld ?_
    refine Rg.tk 8 16 (.bool true) rfl (by kernel_rfl) (fun _ _ _ h => h) (fun _ _ => run_lss_t rfl rfl rfl h2) hHeld ?_
    refine Rg.idleP [9, 10] [(17, .bool true), (18, .bool true)] 10 (by kernel_rfl) (fun _ _ _ _ _ h => h) (by kernel_rfl) (by kernel_rfl) hHeld ?_
    refine Rg.frame _ (by simp only [Rg.puts, Rg.pu, List.set]; rfl) ?_
    refine Rg.tk 11 19 (.agg (gc ct cs (k : Int))) rfl (by kernel_rfl) (fun _ _ _ h => h) (fun w' h => run_at3 (n := ⟨ct, cs, (k : Int)⟩) rfl rfl (box_at3 h.1)) hHeld ?_
    refine Rg.idleP [12] [(20, .slice (some ad) V.length ca)] 8 (by kernel_rfl) (fun _ _ _ _ _ h => h) (by kernel_rfl) (by kernel_rfl) hHeld ?_
    refine Rg.frame _ (by simp only [Rg.puts, Rg.pu, List.set]; rfl) ?_
    refine Rg.tk 13 21 (.pointer (some ⟨w.heap.size, 2, none⟩)) rfl (by kernel_rfl) (fun _ _ _ h => h) (fun _ _ => by kernel_rfl) hHeld ?_
    refine Rg.tk 14 22 (.int .i64 (k : Int)) rfl (by kernel_rfl) (fun _ _ _ h => h) (fun w' h => run_cell rfl rfl (by kernel_rfl) (h.1.cell 2)) hHeld ?_
    refine Rg.tk 15 23 (.pointer (some (ad.add (k * 3)))) rfl (by kernel_rfl) (fun _ _ _ h => h) (fun _ _ => run_idx rfl rfl rfl hk) hHeld ?_
    refine Rg.frame _ (by simp only [Rg.pu, List.set]; rfl) ?_
    refine Rg.tk 16 24 (x.v) rfl (by kernel_rfl) (fun _ _ _ h => h) (fun w' h => run_at3 (n := x) rfl rfl h.2) hHeld ?_
    refine Rg.cl 17 25 rfl (by kernel_rfl) 33 #[.agg (gc ct cs (k : Int)), x.v] (by kernel_rfl) (HC.out _) ?_
    rintro _ w4 ⟨rfl, hb4⟩
    have hHeld1 := (⟨hHeld.1.past hb4, hHeld.2.past (by show (ad.add (k * 3)).block < w1.heap.size; rw [block_of_add]; exact hp) hb4⟩ : _ ∧ _)
    refine ⟨_, rfl, hHeld1, ?_⟩
    refine Rg.tk 18 26 (.bool true) rfl (by kernel_rfl) (fun _ _ _ h => h) (fun _ _ => run_leq_t rfl rfl rfl hKc) hHeld1 ?_
    refine Rg.frame _ (by simp only [Rg.pu, List.set]; rfl) ?_
    refine Rg.idleP [19, 20] [(4, .bool true), (27, .bool true)] 0 (by kernel_rfl) (fun _ _ _ _ _ h => h) (by kernel_rfl) (by kernel_rfl) hHeld1 ?_
    refine Rg.frame _ (by simp only [Rg.puts, Rg.pu, List.set]; rfl) ?_
    refine wpAnyH_done (by kernel_rfl) ?_ _
    refine NoPanic.normal ?_
    have Hb5 := Lib.hid (Hb.out.drew.trans (hb4.mono Hb.out.drew.size))
    go_wp2_with fail
    go_ret
    exact ⟨ret_bool (by rw [HR.out, decide_eq_true hKc]), Hb5.out⟩
  have hKp : 0 < K := by omega
  go_wp2_with fail
  refine wp_region_noPanic ?_
  refine wp_region_held_drew (S := fun w' => Blk w' w.heap.size 25 (gc ct cs k) ∧ At3 w' (ad.add (k * 3)) x) (by kernel_rfl) ⟨B1.drew, HX.out⟩ (fun hHeld => ?_)
  refine Rg.tk 0 8 (.pointer (some ⟨w.heap.size, 2, none⟩)) rfl (by kernel_rfl) (fun _ _ _ h => h) (fun _ _ => by kernel_rfl) hHeld ?_
  refine Rg.tk 1 9 (.int .i64 (k : Int)) rfl (by kernel_rfl) (fun _ _ _ h => h) (fun w' h => run_cell rfl rfl (by kernel_rfl) (h.1.cell 2)) hHeld ?_
  refine Rg.tk 2 10 (.bool true) rfl (by kernel_rfl) (fun _ _ _ h => h) (fun _ _ => run_geq_t rfl rfl rfl h1) hHeld ?_
  refine Rg.frame _ (by simp only [Rg.pu, List.set]; rfl) ?_
  refine Rg.idleP [3] [(11, .bool true)] 17 (by kernel_rfl) (fun _ _ _ _ _ h => h) (by kernel_rfl) (by kernel_rfl) hHeld ?_
  refine Rg.frame _ (by simp only [Rg.puts, Rg.pu, List.set]; rfl) ?_
  refine Rg.tk 4 12 (.pointer (some ⟨w.heap.size, 2, none⟩)) rfl (by kernel_rfl) (fun _ _ _ h => h) (fun _ _ => by kernel_rfl) hHeld ?_
  refine Rg.tk 5 13 (.int .i64 (k : Int)) rfl (by kernel_rfl) (fun _ _ _ h => h) (fun w' h => run_cell rfl rfl (by kernel_rfl) (h.1.cell 2)) hHeld ?_
  refine Rg.idleP [6] [(14, .slice (some ad) V.length ca)] 14 (by kernel_rfl) (fun _ _ _ _ _ h => h) (by kernel_rfl) (by kernel_rfl) hHeld ?_
  refine Rg.frame _ (by simp only [Rg.puts, Rg.pu, List.set]; rfl) ?_
  refine Rg.tk 7 15 (.int .i64 (V.length : Int)) rfl (by kernel_rfl) (fun _ _ _ h => h) (fun _ _ => run_len rfl rfl) hHeld ?_
  refine Rg.tk 8 16 (.bool true) rfl (by kernel_rfl) (fun _ _ _ h => h) (fun _ _ => run_lss_t rfl rfl rfl h2) hHeld ?_
  refine Rg.idleP [9, 10] [(17, .bool true), (18, .bool true)] 10 (by kernel_rfl) (fun _ _ _ _ _ h => h) (by kernel_rfl) (by kernel_rfl) hHeld ?_
  refine Rg.frame _ (by simp only [Rg.puts, Rg.pu, List.set]; rfl) ?_
  refine Rg.tk 11 19 (.agg (gc ct cs (k : Int))) rfl (by kernel_rfl) (fun _ _ _ h => h) (fun w' h => run_at3 (n := ⟨ct, cs, (k : Int)⟩) rfl rfl (box_at3 h.1)) hHeld ?_
  refine Rg.idleP [12] [(20, .slice (some ad) V.length ca)] 8 (by kernel_rfl) (fun _ _ _ _ _ h => h) (by kernel_rfl) (by kernel_rfl) hHeld ?_
  refine Rg.frame _ (by simp only [Rg.puts, Rg.pu, List.set]; rfl) ?_
  refine Rg.tk 13 21 (.pointer (some ⟨w.heap.size, 2, none⟩)) rfl (by kernel_rfl) (fun _ _ _ h => h) (fun _ _ => by kernel_rfl) hHeld ?_
  refine Rg.tk 14 22 (.int .i64 (k : Int)) rfl (by kernel_rfl) (fun _ _ _ h => h) (fun w' h => run_cell rfl rfl (by kernel_rfl) (h.1.cell 2)) hHeld ?_
  refine Rg.tk 15 23 (.pointer (some (ad.add (k * 3)))) rfl (by kernel_rfl) (fun _ _ _ h => h) (fun _ _ => run_idx rfl rfl rfl hk) hHeld ?_
  refine Rg.frame _ (by simp only [Rg.pu, List.set]; rfl) ?_
  refine Rg.tk 16 24 (x.v) rfl (by kernel_rfl) (fun _ _ _ h => h) (fun w' h => run_at3 (n := x) rfl rfl h.2) hHeld ?_
  refine Rg.cl 17 25 rfl (by kernel_rfl) 33 #[.agg (gc ct cs (k : Int)), x.v] (by kernel_rfl) (HC.out _) ?_
  rintro _ w4 ⟨rfl, hb4⟩
  have hHeld1 := (⟨hHeld.1.past hb4, hHeld.2.past (by show (ad.add (k * 3)).block < w1.heap.size; rw [block_of_add]; exact hp) hb4⟩ : _ ∧ _)
  refine ⟨_, rfl, hHeld1, ?_⟩
  refine Rg.tk 18 26 (.bool false) rfl (by kernel_rfl) (fun _ _ _ h => h) (fun _ _ => run_leq_f rfl rfl rfl hKp) hHeld1 ?_
  refine Rg.frame _ (by simp only [Rg.pu, List.set]; rfl) ?_
  refine Rg.idleP [19, 20] [(4, .bool false), (27, .bool false)] 0 (by kernel_rfl) (fun _ _ _ _ _ h => h) (by kernel_rfl) (by kernel_rfl) hHeld1 ?_
  refine Rg.frame _ (by simp only [Rg.puts, Rg.pu, List.set]; rfl) ?_
  refine wpAnyH_done (by kernel_rfl) ?_ _
  refine NoPanic.normal ?_
  have Hb5 := Lib.hid (Hb.out.drew.trans (hb4.mono Hb.out.drew.size))
  go_wp2_with fail
  go_ret
  exact ⟨ret_bool (by rw [HR.out, decide_eq_false (by omega)]), Hb5.out⟩
end Go.Proofs.Ytiglepmgonmhiaa.Cs
