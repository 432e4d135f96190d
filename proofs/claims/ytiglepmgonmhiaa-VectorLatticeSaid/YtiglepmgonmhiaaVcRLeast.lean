/- The least number of a vector: the reference's way. -/
import Derived.Test.YtiglepmgonmhiaaVcLeast
import Derived.Test.YtiglepmgonmhiaaVcCov
namespace Go.Proofs.Ytiglepmgonmhiaa.Cs
open Go.RowKit
set_option linter.unusedVariables false
set_option maxRecDepth 100000

set_option maxHeartbeats 1000000 in
theorem rLeast_any (A : Option Addr) (c : Nat) (la : List Nm) (w : World) (hA : VecIn w A la) (hl : la.length ≤ 1000) : Calls Try.prog 23 #[.slice A la.length c] w fun e w' => e = .returned (least la).v ∧ Below w.heap.size w w' := by
  have CO := Lib.hid (fun w hA => Own_any A c la w hA hl)
  have CM := Lib.hid (fun (x y : Nm) => rcmp_any x.t x.s x.r y.t y.s y.r)
  have H6 := cnt_len la
  obtain ⟨L, hL⟩ : ∃ L, Hid (L = least la) := ⟨_, rfl⟩
  rw [← hL.out]
  have BR := Blk.new w 25 (gc 0 0 0)
  have HA := Lib.hid (hA.past ((Below.refl _ _).alloc (Nat.le_refl _) (.cells (gc 0 0 0) 25)))
  have hb0 := (Below.refl w.heap.size w).alloc (Nat.le_refl _) (.cells (gc 0 0 0) 25)
  clear hA hl
  go_enter Try.func23, Try.ntmps23
  go_wp2_with fail
  refine (CO.out _ HA.out).mono ?_
  rintro e w1 ⟨v, rfl, hO, hb1⟩
  obtain ⟨AA, ca, rfl, hV⟩ := hO.form
  have R1 := BR.past hb1
  have Hb := Lib.hid (hb0.trans (hb1.mono hb0.size))
  have Hbs := Lib.hid (show w.heap.size < w1.heap.size by have := hb1.size; simp at this; omega)
  have HV := Lib.hid hV
  clear BR hb0 hb1 hV HA CO hO
  by_cases h0 : (cnt la).length = 0
  · have HE := Lib.hid (hL.out.trans (least_none h0))
    have h00 : (((cnt la).length : Int) == 0) = true := by simp [h0]
    obtain ⟨r0, r1, r2, s0, s1, s2⟩ := box3 R1
    go_wp2_with fail
    rw [HE.out]
    exact bodyPost_ret (res_num rfl _ _ w.heap.size _ _ _ rfl (R1.set3 _ _ _)) rfl ⟨rfl, below3 Hb.out (Nat.le_refl _) _ _ _⟩
  have hall := acc_all (v := la) (by omega)
  have HL := Lib.hid (hall.trans hL.out.symm)
  clear hall hL
  generalize cnt la = V at *
  have hpos : 0 < V.length := by omega
  have h00 : ((V.length : Int) == 0) = false := beq_eq_false_iff_ne.2 (by omega)
  obtain ⟨ad, rfl, hp, f0, f1, f2⟩ := HV.out.cells hpos
  rw [Nat.zero_mul] at f0 f1 f2
  have had : ad.add 0 = ad := by simp [Addr.add]
  rw [had] at f0 f1 f2
  obtain ⟨x, hx⟩ : ∃ x, Hid (x = V[0]) := ⟨V[0], rfl⟩
  rw [← hx.out] at f0 f1 f2
  have H1 := Lib.hid (show acc V 1 = x by rw [acc_one, at_eq hpos, hx.out])
  have BL := Blk.new w1 25 (gc x.t x.s x.r)
  have hbl := (Below.refl w1.heap.size w1).alloc (Nat.le_refl _) (.cells (gc x.t x.s x.r) 25)
  have R2 := Lib.hid R1
  clear R1
  go_wp2_with fail
  go_loopw [5] (fun i wr => ∃ (p : Nat), 1 ≤ p ∧ p ≤ V.length ∧ i = .int .i64 (p : Int) ∧ Hid (Blk wr w1.heap.size 25 (gc (acc V p).t (acc V p).s (acc V p).r)) ∧ Hid (Below w1.heap.size w1 wr)) (fun i wr => V.length - (intOf i).toNat)
  case atStart => exact ⟨1, by omega, by omega, rfl, by show Blk _ _ _ _; rw [H1.out]; exact BL, hbl⟩
  case round =>
    obtain ⟨p, hp1, hq, rfl, hB, hb⟩ := hrel
    clear f0 f1 f2
    have hbs := hb.out.size
    have hsz := Hbs.out
    by_cases hlt : p < V.length
    · have hlt2 : (p : Int) < V.length := by omega
      have hq6 : (p : Int) < 6 := by omega
      obtain ⟨ad', had', hp', hY⟩ := HV.out.at3 hlt
      injection had' with had'
      subst had'
      obtain ⟨y, hy⟩ : ∃ y, Hid (y = V[p]) := ⟨V[p], rfl⟩
      rw [← hy.out] at hY
      have hpb : (ad.add (p * 3)).block < w1.heap.size := by rw [block_of_add]; exact hp'
      have HY := Lib.hid (hY.past hpb hb.out)
      have Hpb := Lib.hid (show (ad.add (p * 3)).block < wr.heap.size by omega)
      obtain ⟨z, hz⟩ : ∃ z, Hid (z = acc V p) := ⟨_, rfl⟩
      rw [← hz.out] at hB
      obtain ⟨K, hK⟩ : ∃ K, Hid (K = y.cmp z) := ⟨_, rfl⟩
      have CMx := CM.out y z
      rw [show cmpC y.t y.s y.r z.t z.s z.r = K from hK.out.symm] at CMx
      have HC := Lib.hid CMx
      have hst := acc_step hp1 hlt
      rw [← hz.out, ← hy.out] at hst
      clear CMx hY
      by_cases hKc : K < 0
      focus
        have HN := Lib.hid (hst.trans (earlier_t (by rw [← hK.out]; exact hKc)))
        clear hst
        go_wp2_with fail
        refine wp_region_noPanic ?_
        refine wp_region_held_drew (S := fun w' => At3 w' (ad.add (p * 3)) y ∧ Blk w' w1.heap.size 25 (gc z.t z.s z.r)) (by kernel_rfl) ⟨HY.out, hB.out.drew⟩ (fun hHeld => ?_)
        refine Rg.idleP [0, 1] [(21, .slice (some ad) V.length ca), (22, .int .i64 (p : Int))] 5 (by kernel_rfl) (fun _ _ _ _ _ h => h) (by kernel_rfl) (by kernel_rfl) hHeld ?_
        refine Rg.frame _ (by simp only [Rg.puts, Rg.pu, List.set]; rfl) ?_
        refine Rg.tk 2 23 (.pointer (some (ad.add (p * 3)))) rfl (by kernel_rfl) (fun _ _ _ h => h) (fun _ _ => run_idx rfl rfl rfl hlt) hHeld ?_
        refine Rg.tk 3 24 (y.v) rfl (by kernel_rfl) (fun _ _ _ h => h) (fun w' h => run_at3 (n := y) rfl rfl h.1) hHeld ?_
        refine Rg.tk 4 25 (z.v) rfl (by kernel_rfl) (fun _ _ _ h => h) (fun w' h => run_at3 (n := z) rfl rfl (box_at3 h.2)) hHeld ?_
        refine Rg.frame _ (by simp only [Rg.pu, List.set]; rfl) ?_
        refine Rg.cl 5 26 rfl (by kernel_rfl) 33 #[y.v, z.v] (by kernel_rfl) (HC.out _) ?_
        rintro _ w4 ⟨rfl, hb4⟩
        have hHeld1 := (⟨hHeld.1.past Hpb.out hb4, hHeld.2.past hb4⟩ : _ ∧ _)
        refine ⟨_, rfl, hHeld1, ?_⟩
        refine Rg.tk 6 27 (.bool true) rfl (by kernel_rfl) (fun _ _ _ h => h) (fun _ _ => run_lss_t rfl rfl rfl hKc) hHeld1 ?_
        refine Rg.frame _ (by simp only [Rg.pu, List.set]; rfl) ?_
        refine wpAnyH_done (by kernel_rfl) ?_ _
        refine NoPanic.normal ?_
        obtain ⟨g0, g1, g2⟩ := hHeld1.1
        obtain ⟨p0, p1, p2, t0, t1, t2⟩ := box3 hHeld1.2
        have BZ4 := hHeld1.2
        have Hb4 := Lib.hid (hb.out.drew.trans (hb4.mono hb.out.drew.size))
        clear hB hb hHeld hHeld1 hb4
        go_wp2_with fail
        go_roundw
        case rel => exact ⟨p + 1, by omega, by omega, by go_num, by show Blk _ _ _ _; rw [HN.out]; exact BZ4.set3 _ _ _, by show Below _ _ _; exact below3 Hb4.out (Nat.le_refl _) _ _ _⟩
        case measure => simp [intOf]; omega
      have HN := Lib.hid (hst.trans (earlier_f (by rw [← hK.out]; exact hKc)))
      have hKp : 0 ≤ K := by omega
      clear hst
      go_wp2_with fail
      refine wp_region_noPanic ?_
      refine wp_region_held_drew (S := fun w' => At3 w' (ad.add (p * 3)) y ∧ Blk w' w1.heap.size 25 (gc z.t z.s z.r)) (by kernel_rfl) ⟨HY.out, hB.out.drew⟩ (fun hHeld => ?_)
      refine Rg.idleP [0, 1] [(21, .slice (some ad) V.length ca), (22, .int .i64 (p : Int))] 5 (by kernel_rfl) (fun _ _ _ _ _ h => h) (by kernel_rfl) (by kernel_rfl) hHeld ?_
      refine Rg.frame _ (by simp only [Rg.puts, Rg.pu, List.set]; rfl) ?_
      refine Rg.tk 2 23 (.pointer (some (ad.add (p * 3)))) rfl (by kernel_rfl) (fun _ _ _ h => h) (fun _ _ => run_idx rfl rfl rfl hlt) hHeld ?_
      refine Rg.tk 3 24 (y.v) rfl (by kernel_rfl) (fun _ _ _ h => h) (fun w' h => run_at3 (n := y) rfl rfl h.1) hHeld ?_
      refine Rg.tk 4 25 (z.v) rfl (by kernel_rfl) (fun _ _ _ h => h) (fun w' h => run_at3 (n := z) rfl rfl (box_at3 h.2)) hHeld ?_
      refine Rg.frame _ (by simp only [Rg.pu, List.set]; rfl) ?_
      refine Rg.cl 5 26 rfl (by kernel_rfl) 33 #[y.v, z.v] (by kernel_rfl) (HC.out _) ?_
      rintro _ w4 ⟨rfl, hb4⟩
      have hHeld1 := (⟨hHeld.1.past Hpb.out hb4, hHeld.2.past hb4⟩ : _ ∧ _)
      refine ⟨_, rfl, hHeld1, ?_⟩
      refine Rg.tk 6 27 (.bool false) rfl (by kernel_rfl) (fun _ _ _ h => h) (fun _ _ => run_lss_f rfl rfl rfl hKp) hHeld1 ?_
      refine Rg.frame _ (by simp only [Rg.pu, List.set]; rfl) ?_
      refine wpAnyH_done (by kernel_rfl) ?_ _
      refine NoPanic.normal ?_
      have BZ4 := Lib.hid hHeld1.2
      have Hb4 := Lib.hid (hb.out.drew.trans (hb4.mono hb.out.drew.size))
      clear hB hb hHeld hHeld1 hb4
      go_wp2_with fail
      go_roundw
      case rel => exact ⟨p + 1, by omega, by omega, by go_num, by show Blk _ _ _ _; rw [HN.out]; exact BZ4.out, Hb4⟩
      case measure => simp [intOf]; omega
    · have hqe : p = V.length := by omega
      subst hqe
      rw [HL.out] at hB
      have RB := R2.out.past hb.out
      obtain ⟨r0, r1, r2, s0, s1, s2⟩ := box3 RB
      obtain ⟨l0, l1, l2, -, -, -⟩ := box3 hB.out
      have HbB := Lib.hid (Hb.out.trans (hb.out.mono (Nat.le_of_lt Hbs.out)))
      clear hb
      go_wp2_with fail
      exact bodyPost_ret (res_num rfl _ _ w.heap.size _ _ _ rfl (RB.set3 _ _ _)) rfl ⟨rfl, below3 HbB.out (Nat.le_refl _) _ _ _⟩
end Go.Proofs.Ytiglepmgonmhiaa.Cs
