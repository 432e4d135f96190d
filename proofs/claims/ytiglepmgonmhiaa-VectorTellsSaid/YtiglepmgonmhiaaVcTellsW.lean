/- VectorTells: the walk. -/
import Derived.Test.YtiglepmgonmhiaaVcForms
namespace Go.Proofs.Ytiglepmgonmhiaa.Cs
open Go.RowKit
set_option linter.unusedVariables false
set_option maxRecDepth 100000

set_option maxHeartbeats 4000000 in
theorem walk_VectorTells (w : World) (A : Option Addr) (ca : Nat) (a : List Nm) (hA : VecIn w A a) (hca : a.length ≤ ca) (B : Option Addr) (cb : Nat) (b : List Nm) (hB : VecIn w B b) (hcb : b.length ≤ cb) (ct cs cr n : Int) (hn : (Lit.int .i64 n).wf = true) :
    Calls Try.prog 3 #[.slice A a.length ca, .slice B b.length cb, cv ct cs cr, .int .i64 n] w fun r w' => r = .returned (.bool true) ∧ Below w.heap.size w w' := by
  have HK := Lib.hid known_any
  have BX := Blk.new w 25 (gc ct cs cr)
  have hb0 := (Below.refl w.heap.size w).alloc (Nat.le_refl _) (.cells (gc ct cs cr) 25)
  have HA := Lib.hid (hA.past ((Below.refl _ _).alloc (Nat.le_refl _) (.cells (gc ct cs cr) 25)))
  have HB := Lib.hid (hB.past ((Below.refl _ _).alloc (Nat.le_refl _) (.cells (gc ct cs cr) 25)))
  have Hca := Lib.hid hca
  clear hA hB hca hcb hn
  by_cases hla : (10 : Int) < a.length
  · go_enter Try.func3, Try.ntmps3
    go_wp2_with fail
    refine (HK.out _).mono ?_
    rintro e w1 ⟨rfl, hb1⟩
    have Hb := Lib.hid (hb0.trans (hb1.mono hb0.size))
    clear hb1 hb0 HA HB BX
    go_wp2_with fail
    go_ret
    exact ⟨rfl, Hb.out⟩
  have hla2 : (a.length : Int) ≤ 10 := by omega
  clear hla
  by_cases hlb : (10 : Int) < b.length
  · go_enter Try.func3, Try.ntmps3
    go_wp2_with fail
    refine (HK.out _).mono ?_
    rintro e w1 ⟨rfl, hb1⟩
    have Hb := Lib.hid (hb0.trans (hb1.mono hb0.size))
    clear hb1 hb0 HA HB BX
    go_wp2_with fail
    go_ret
    exact ⟨rfl, Hb.out⟩
  have hlb2 : (b.length : Int) ≤ 10 := by omega
  clear hlb
  go_enter Try.func3, Try.ntmps3
  go_wp2_with fail
  refine (HK.out _).mono ?_
  rintro e w1 ⟨rfl, hb1⟩
  have Hla := Lib.hid (show a.length ≤ 1000 by omega)
  have Hlb := Lib.hid (show b.length ≤ 1000 by omega)
  have HA1 := Lib.hid (HA.out.past hb1)
  have HB1 := Lib.hid (HB.out.past hb1)
  have BX1 := BX.past hb1
  have Hb := Lib.hid (hb0.trans (hb1.mono hb0.size))
  clear hb1 hb0 HA HB BX
  go_wp2_with fail
  refine wp_region_noPanic ?_
  refine wp_region_held_drew (S := fun w' => Blk w' w.heap.size 25 (gc ct cs cr) ∧ VecIn w' A a ∧ VecIn w' B b) (by kernel_rfl) ⟨BX1.drew, HA1.out.past (Below.refl _ _).drew, HB1.out.past (Below.refl _ _).drew⟩ (fun hHeld => ?_)
  refine Rg.idleP [0, 2] [(19, .int .i64 n), (21, .int .i64 n)] 74 (by kernel_rfl) (fun _ _ _ _ _ h => h) (by kernel_rfl) (by kernel_rfl) hHeld ?_
  refine Rg.frame _ (by simp only [Rg.puts, Rg.pu, List.set]; rfl) ?_
  refine Rg.cl 1 20 rfl (by kernel_rfl) 8 #[.int .i64 n] (by kernel_rfl) (f_new n _) ?_
  rintro _ v1 ⟨N1, Nk, rfl, hfN, hv1⟩
  have hHeld1 := And.intro (hHeld.1.past hv1) (And.intro (hHeld.2.1.past hv1) (hHeld.2.2.past hv1))
  refine ⟨_, rfl, hHeld1, ?_⟩
  have hy1 := (Hb.out.drew).trans (hv1.mono (Hb.out.drew).size)
  refine Rg.cl 3 22 rfl (by kernel_rfl) 9 #[.int .i64 n] (by kernel_rfl) (f_rnew n _) ?_
  rintro _ v2 ⟨N2, Nm, rfl, hgN, hv2⟩
  have hHeld2 := And.intro (hHeld1.1.past hv2) (And.intro (hHeld1.2.1.past hv2) (hHeld1.2.2.past hv2))
  refine ⟨_, rfl, hHeld2, ?_⟩
  have hy2 := (hy1).trans (hv2.mono (hy1).size)
  have hfN := hfN.past hv2
  refine Rg.cl 4 23 rfl (by kernel_rfl) 7 #[.slice N1 (newV n).length Nk, .slice N2 (newV n).length Nm] (by kernel_rfl) (f_eq N1 N2 Nk Nm _ _ hfN hgN (newV_le n)) ?_
  rintro _ v3 ⟨rfl, hv3⟩
  have hHeld3 := And.intro (hHeld2.1.past hv3) (And.intro (hHeld2.2.1.past hv3) (hHeld2.2.2.past hv3))
  refine ⟨_, rfl, hHeld3, ?_⟩
  refine Rg.frame _ (by simp only [Rg.pu, List.set]; rfl) ?_
  have hy3 := (hy2).trans (hv3.mono (hy2).size)
  refine Rg.idleP [5, 6, 8] [(24, .bool true), (25, .slice A a.length ca), (27, .slice A a.length ca)] 68 (by kernel_rfl) (fun _ _ _ _ _ h => h) (by kernel_rfl) (by kernel_rfl) hHeld3 ?_
  refine Rg.frame _ (by simp only [Rg.puts, Rg.pu, List.set]; rfl) ?_
  refine Rg.cl 7 26 rfl (by kernel_rfl) 10 #[.slice A a.length ca] (by kernel_rfl) (Is_any A ca a _ hHeld3.2.1) ?_
  rintro _ v4 ⟨rfl, hv4⟩
  have hHeld4 := And.intro (hHeld3.1.past hv4) (And.intro (hHeld3.2.1.past hv4) (hHeld3.2.2.past hv4))
  refine ⟨_, rfl, hHeld4, ?_⟩
  have hy4 := (hy3).trans (hv4.mono (hy3).size)
  refine Rg.cl 9 28 rfl (by kernel_rfl) 11 #[.slice A a.length ca] (by kernel_rfl) (rIs_any A ca a _ hHeld4.2.1 Hla.out) ?_
  rintro _ v5 ⟨rfl, hv5⟩
  have hHeld5 := And.intro (hHeld4.1.past hv5) (And.intro (hHeld4.2.1.past hv5) (hHeld4.2.2.past hv5))
  refine ⟨_, rfl, hHeld5, ?_⟩
  have hy5 := (hy4).trans (hv5.mono (hy4).size)
  refine Rg.tk 10 29 (.bool true) rfl (by kernel_rfl) (fun _ _ _ h => h) (fun _ _ => run_same rfl rfl rfl) hHeld5 ?_
  refine Rg.frame _ (by simp only [Rg.pu, List.set]; rfl) ?_
  refine Rg.idleP [11, 12, 13] [(30, .bool true), (31, .bool true), (32, .slice A a.length ca)] 62 (by kernel_rfl) (fun _ _ _ _ _ h => h) (by kernel_rfl) (by kernel_rfl) hHeld5 ?_
  refine Rg.frame _ (by simp only [Rg.puts, Rg.pu, List.set]; rfl) ?_
  refine Rg.tk 14 33 (cv ct cs cr) rfl (by kernel_rfl) (fun _ _ _ h => h) (fun w' h => run_at3 (n := ⟨ct, cs, cr⟩) rfl rfl (box_at3 h.1)) hHeld5 ?_
  refine Rg.idleP [16] [(35, .slice A a.length ca)] 60 (by kernel_rfl) (fun _ _ _ _ _ h => h) (by kernel_rfl) (by kernel_rfl) hHeld5 ?_
  refine Rg.frame _ (by simp only [Rg.puts, Rg.pu, List.set]; rfl) ?_
  refine Rg.tk 17 36 (cv ct cs cr) rfl (by kernel_rfl) (fun _ _ _ h => h) (fun w' h => run_at3 (n := ⟨ct, cs, cr⟩) rfl rfl (box_at3 h.1)) hHeld5 ?_
  refine Rg.cl 15 34 rfl (by kernel_rfl) 12 #[.slice A a.length ca, cv ct cs cr] (by kernel_rfl) (Raise_any A ca a ct cs cr _ hHeld5.2.1) ?_
  rintro _ v6 ⟨R1, Rk, rfl, hfR, hv6, -⟩
  have hHeld6 := And.intro (hHeld5.1.past hv6) (And.intro (hHeld5.2.1.past hv6) (hHeld5.2.2.past hv6))
  refine ⟨_, rfl, hHeld6, ?_⟩
  have hy6 := (hy5).trans (hv6.mono (hy5).size)
  refine Rg.cl 18 37 rfl (by kernel_rfl) 13 #[.slice A a.length ca, cv ct cs cr] (by kernel_rfl) (rRaise_any A ca a ct cs cr _ hHeld6.2.1 Hla.out) ?_
  rintro _ v7 ⟨R2, Rm, rfl, hgR, hv7, -⟩
  have hHeld7 := And.intro (hHeld6.1.past hv7) (And.intro (hHeld6.2.1.past hv7) (hHeld6.2.2.past hv7))
  refine ⟨_, rfl, hHeld7, ?_⟩
  refine Rg.frame _ (by simp only [Rg.pu, List.set]; rfl) ?_
  have hy7 := (hy6).trans (hv7.mono (hy6).size)
  have hfR := hfR.past hv7
  refine Rg.cl 19 38 rfl (by kernel_rfl) 7 #[.slice R1 (raise a ⟨ct, cs, cr⟩).length Rk, .slice R2 (raise a ⟨ct, cs, cr⟩).length Rm] (by kernel_rfl) (f_eq R1 R2 Rk Rm _ _ hfR hgR (raise_le _ _)) ?_
  rintro _ v8 ⟨rfl, hv8⟩
  have hHeld8 := And.intro (hHeld7.1.past hv8) (And.intro (hHeld7.2.1.past hv8) (hHeld7.2.2.past hv8))
  refine ⟨_, rfl, hHeld8, ?_⟩
  have hy8 := (hy7).trans (hv8.mono (hy7).size)
  refine Rg.idleP [20, 21, 22, 23, 25, 26] [(39, .bool true), (40, .bool true), (41, .slice A a.length ca), (42, .slice B b.length cb), (44, .slice A a.length ca), (45, .slice B b.length cb)] 50 (by kernel_rfl) (fun _ _ _ _ _ h => h) (by kernel_rfl) (by kernel_rfl) hHeld8 ?_
  refine Rg.frame _ (by simp only [Rg.puts, Rg.pu, List.set]; rfl) ?_
  refine Rg.cl 24 43 rfl (by kernel_rfl) 14 #[.slice A a.length ca, .slice B b.length cb] (by kernel_rfl) (Join_any A B ca cb a b _ hHeld8.2.1 hHeld8.2.2) ?_
  rintro _ v9 ⟨J1, Jk, rfl, hfJ, hv9⟩
  have hHeld9 := And.intro (hHeld8.1.past hv9) (And.intro (hHeld8.2.1.past hv9) (hHeld8.2.2.past hv9))
  refine ⟨_, rfl, hHeld9, ?_⟩
  have hy9 := (hy8).trans (hv9.mono (hy8).size)
  refine Rg.cl 27 46 rfl (by kernel_rfl) 15 #[.slice A a.length ca, .slice B b.length cb] (by kernel_rfl) (f_rjoin A B ca cb a b _ hHeld9.2.1 hHeld9.2.2 Hla.out Hlb.out) ?_
  rintro _ v10 ⟨J2, Jm, rfl, hgJ, hv10⟩
  have hHeld10 := And.intro (hHeld9.1.past hv10) (And.intro (hHeld9.2.1.past hv10) (hHeld9.2.2.past hv10))
  refine ⟨_, rfl, hHeld10, ?_⟩
  have hy10 := (hy9).trans (hv10.mono (hy9).size)
  have hfJ := hfJ.past hv10
  refine Rg.cl 28 47 rfl (by kernel_rfl) 7 #[.slice J1 (join a b).length Jk, .slice J2 (join a b).length Jm] (by kernel_rfl) (f_eq J1 J2 Jk Jm _ _ hfJ hgJ (join_le _ _)) ?_
  rintro _ v11 ⟨rfl, hv11⟩
  have hHeld11 := And.intro (hHeld10.1.past hv11) (And.intro (hHeld10.2.1.past hv11) (hHeld10.2.2.past hv11))
  refine ⟨_, rfl, hHeld11, ?_⟩
  refine Rg.frame _ (by simp only [Rg.pu, List.set]; rfl) ?_
  have hy11 := (hy10).trans (hv11.mono (hy10).size)
  refine Rg.idleP [29, 30, 31, 32, 34, 35] [(48, .bool true), (49, .bool true), (50, .slice A a.length ca), (51, .slice B b.length cb), (53, .slice A a.length ca), (54, .slice B b.length cb)] 41 (by kernel_rfl) (fun _ _ _ _ _ h => h) (by kernel_rfl) (by kernel_rfl) hHeld11 ?_
  refine Rg.frame _ (by simp only [Rg.puts, Rg.pu, List.set]; rfl) ?_
  refine Rg.cl 33 52 rfl (by kernel_rfl) 16 #[.slice A a.length ca, .slice B b.length cb] (by kernel_rfl) (Meet_any A B ca cb a b _ hHeld11.2.1 hHeld11.2.2) ?_
  rintro _ v12 ⟨M1, Mk, rfl, hfM, hv12⟩
  have hHeld12 := And.intro (hHeld11.1.past hv12) (And.intro (hHeld11.2.1.past hv12) (hHeld11.2.2.past hv12))
  refine ⟨_, rfl, hHeld12, ?_⟩
  have hy12 := (hy11).trans (hv12.mono (hy11).size)
  refine Rg.cl 36 55 rfl (by kernel_rfl) 17 #[.slice A a.length ca, .slice B b.length cb] (by kernel_rfl) (f_rmeet A B ca cb a b _ hHeld12.2.1 hHeld12.2.2 Hla.out Hlb.out) ?_
  rintro _ v13 ⟨M2, Mm, rfl, hgM, hv13⟩
  have hHeld13 := And.intro (hHeld12.1.past hv13) (And.intro (hHeld12.2.1.past hv13) (hHeld12.2.2.past hv13))
  refine ⟨_, rfl, hHeld13, ?_⟩
  have hy13 := (hy12).trans (hv13.mono (hy12).size)
  have hfM := hfM.past hv13
  refine Rg.cl 37 56 rfl (by kernel_rfl) 7 #[.slice M1 (meet a b).length Mk, .slice M2 (meet a b).length Mm] (by kernel_rfl) (f_eq M1 M2 Mk Mm _ _ hfM hgM (meet_le _ _)) ?_
  rintro _ v14 ⟨rfl, hv14⟩
  have hHeld14 := And.intro (hHeld13.1.past hv14) (And.intro (hHeld13.2.1.past hv14) (hHeld13.2.2.past hv14))
  refine ⟨_, rfl, hHeld14, ?_⟩
  refine Rg.frame _ (by simp only [Rg.pu, List.set]; rfl) ?_
  have hy14 := (hy13).trans (hv14.mono (hy13).size)
  refine Rg.idleP [38, 39, 40, 41, 43, 44] [(57, .bool true), (58, .bool true), (59, .slice A a.length ca), (60, .slice B b.length cb), (62, .slice A a.length ca), (63, .slice B b.length cb)] 32 (by kernel_rfl) (fun _ _ _ _ _ h => h) (by kernel_rfl) (by kernel_rfl) hHeld14 ?_
  refine Rg.frame _ (by simp only [Rg.puts, Rg.pu, List.set]; rfl) ?_
  refine Rg.cl 42 61 rfl (by kernel_rfl) 18 #[.slice A a.length ca, .slice B b.length cb] (by kernel_rfl) (Leq_any A B ca cb a b _ hHeld14.2.1 hHeld14.2.2) ?_
  rintro _ v15 ⟨rfl, hv15⟩
  have hHeld15 := And.intro (hHeld14.1.past hv15) (And.intro (hHeld14.2.1.past hv15) (hHeld14.2.2.past hv15))
  refine ⟨_, rfl, hHeld15, ?_⟩
  have hy15 := (hy14).trans (hv15.mono (hy14).size)
  refine Rg.cl 45 64 rfl (by kernel_rfl) 19 #[.slice A a.length ca, .slice B b.length cb] (by kernel_rfl) (f_rleq A B ca cb a b _ hHeld15.2.1 hHeld15.2.2 Hla.out Hlb.out) ?_
  rintro _ v16 ⟨rfl, hv16⟩
  have hHeld16 := And.intro (hHeld15.1.past hv16) (And.intro (hHeld15.2.1.past hv16) (hHeld15.2.2.past hv16))
  refine ⟨_, rfl, hHeld16, ?_⟩
  have hy16 := (hy15).trans (hv16.mono (hy15).size)
  refine Rg.tk 46 65 (.bool true) rfl (by kernel_rfl) (fun _ _ _ h => h) (fun _ _ => run_same rfl rfl rfl) hHeld16 ?_
  refine Rg.frame _ (by simp only [Rg.pu, List.set]; rfl) ?_
  refine Rg.idleP [47, 48, 49] [(66, .bool true), (67, .bool true), (68, .slice A a.length ca)] 26 (by kernel_rfl) (fun _ _ _ _ _ h => h) (by kernel_rfl) (by kernel_rfl) hHeld16 ?_
  refine Rg.frame _ (by simp only [Rg.puts, Rg.pu, List.set]; rfl) ?_
  refine Rg.tk 50 69 (cv ct cs cr) rfl (by kernel_rfl) (fun _ _ _ h => h) (fun w' h => run_at3 (n := ⟨ct, cs, cr⟩) rfl rfl (box_at3 h.1)) hHeld16 ?_
  refine Rg.idleP [52] [(71, .slice A a.length ca)] 24 (by kernel_rfl) (fun _ _ _ _ _ h => h) (by kernel_rfl) (by kernel_rfl) hHeld16 ?_
  refine Rg.frame _ (by simp only [Rg.puts, Rg.pu, List.set]; rfl) ?_
  refine Rg.tk 53 72 (cv ct cs cr) rfl (by kernel_rfl) (fun _ _ _ h => h) (fun w' h => run_at3 (n := ⟨ct, cs, cr⟩) rfl rfl (box_at3 h.1)) hHeld16 ?_
  refine Rg.cl 51 70 rfl (by kernel_rfl) 20 #[.slice A a.length ca, cv ct cs cr] (by kernel_rfl) (Covers_any A ca a ct cs cr _ hHeld16.2.1) ?_
  rintro _ v17 ⟨rfl, hv17⟩
  have hHeld17 := And.intro (hHeld16.1.past hv17) (And.intro (hHeld16.2.1.past hv17) (hHeld16.2.2.past hv17))
  refine ⟨_, rfl, hHeld17, ?_⟩
  have hy17 := (hy16).trans (hv17.mono (hy16).size)
  refine Rg.cl 54 73 rfl (by kernel_rfl) 21 #[.slice A a.length ca, cv ct cs cr] (by kernel_rfl) (rCovers_any A ca a ct cs cr _ hHeld17.2.1 Hla.out) ?_
  rintro _ v18 ⟨rfl, hv18⟩
  have hHeld18 := And.intro (hHeld17.1.past hv18) (And.intro (hHeld17.2.1.past hv18) (hHeld17.2.2.past hv18))
  refine ⟨_, rfl, hHeld18, ?_⟩
  refine Rg.frame _ (by simp only [Rg.pu, List.set]; rfl) ?_
  have hy18 := (hy17).trans (hv18.mono (hy17).size)
  refine Rg.tk 55 74 (.bool true) rfl (by kernel_rfl) (fun _ _ _ h => h) (fun _ _ => run_same rfl rfl rfl) hHeld18 ?_
  refine Rg.idleP [56, 57, 58, 60] [(75, .bool true), (76, .bool true), (77, .slice A a.length ca), (79, .slice A a.length ca)] 16 (by kernel_rfl) (fun _ _ _ _ _ h => h) (by kernel_rfl) (by kernel_rfl) hHeld18 ?_
  refine Rg.frame _ (by simp only [Rg.puts, Rg.pu, List.set]; rfl) ?_
  refine Rg.cl 59 78 rfl (by kernel_rfl) 22 #[.slice A a.length ca] (by kernel_rfl) (Least_any A ca a _ hHeld18.2.1 Hca.out) ?_
  rintro _ v19 ⟨rfl, hv19⟩
  have hHeld19 := And.intro (hHeld18.1.past hv19) (And.intro (hHeld18.2.1.past hv19) (hHeld18.2.2.past hv19))
  refine ⟨_, rfl, hHeld19, ?_⟩
  have hy19 := (hy18).trans (hv19.mono (hy18).size)
  refine Rg.cl 61 80 rfl (by kernel_rfl) 23 #[.slice A a.length ca] (by kernel_rfl) (rLeast_any A ca a _ hHeld19.2.1 Hla.out) ?_
  rintro _ v20 ⟨rfl, hv20⟩
  have hHeld20 := And.intro (hHeld19.1.past hv20) (And.intro (hHeld19.2.1.past hv20) (hHeld19.2.2.past hv20))
  refine ⟨_, rfl, hHeld20, ?_⟩
  have hy20 := (hy19).trans (hv20.mono (hy19).size)
  refine Rg.tk 62 81 (.bool true) rfl (by kernel_rfl) (fun _ _ _ h => h) (fun _ _ => run_samev rfl rfl rfl) hHeld20 ?_
  refine Rg.frame _ (by simp only [Rg.pu, List.set]; rfl) ?_
  refine Rg.idleP [63, 64, 65, 66, 68, 70] [(82, .bool true), (83, .bool true), (84, .slice A a.length ca), (85, .slice B b.length cb), (87, .slice A a.length ca), (89, .slice B b.length cb)] 7 (by kernel_rfl) (fun _ _ _ _ _ h => h) (by kernel_rfl) (by kernel_rfl) hHeld20 ?_
  refine Rg.frame _ (by simp only [Rg.puts, Rg.pu, List.set]; rfl) ?_
  refine Rg.cl 67 86 rfl (by kernel_rfl) 24 #[.slice A a.length ca, .slice B b.length cb] (by kernel_rfl) (Same_any A B ca cb a b _ hHeld20.2.1 hHeld20.2.2) ?_
  rintro _ v21 ⟨rfl, hv21⟩
  have hHeld21 := And.intro (hHeld20.1.past hv21) (And.intro (hHeld20.2.1.past hv21) (hHeld20.2.2.past hv21))
  refine ⟨_, rfl, hHeld21, ?_⟩
  have hy21 := (hy20).trans (hv21.mono (hy20).size)
  refine Rg.cl 69 88 rfl (by kernel_rfl) 25 #[.slice A a.length ca] (by kernel_rfl) (f_own A ca a _ hHeld21.2.1 Hla.out) ?_
  rintro _ v22 ⟨O1, Ok, rfl, hfO, hv22⟩
  have hHeld22 := And.intro (hHeld21.1.past hv22) (And.intro (hHeld21.2.1.past hv22) (hHeld21.2.2.past hv22))
  refine ⟨_, rfl, hHeld22, ?_⟩
  have hy22 := (hy21).trans (hv22.mono (hy21).size)
  refine Rg.cl 71 90 rfl (by kernel_rfl) 25 #[.slice B b.length cb] (by kernel_rfl) (f_own B cb b _ hHeld22.2.2 Hlb.out) ?_
  rintro _ v23 ⟨O2, Om, rfl, hgO, hv23⟩
  have hHeld23 := And.intro (hHeld22.1.past hv23) (And.intro (hHeld22.2.1.past hv23) (hHeld22.2.2.past hv23))
  refine ⟨_, rfl, hHeld23, ?_⟩
  refine Rg.frame _ (by simp only [Rg.pu, List.set]; rfl) ?_
  have hy23 := (hy22).trans (hv23.mono (hy22).size)
  have hfO := hfO.past hv23
  refine Rg.cl 72 91 rfl (by kernel_rfl) 7 #[.slice O1 (cnt a).length Ok, .slice O2 (cnt b).length Om] (by kernel_rfl) (Equal_any O1 O2 Ok Om (cnt a) (cnt b) _ hfO hgO (cnt_le a)) ?_
  rintro _ v24 ⟨rfl, hv24⟩
  have hHeld24 := And.intro (hHeld23.1.past hv24) (And.intro (hHeld23.2.1.past hv24) (hHeld23.2.2.past hv24))
  refine ⟨_, rfl, hHeld24, ?_⟩
  have hy24 := (hy23).trans (hv24.mono (hy23).size)
  refine Rg.tk 73 92 (.bool true) rfl (by kernel_rfl) (fun _ _ _ h => h) (fun _ _ => run_same rfl rfl rfl) hHeld24 ?_
  refine Rg.idleP [74, 75] [(8, .bool true), (93, .bool true)] 0 (by kernel_rfl) (fun _ _ _ _ _ h => h) (by kernel_rfl) (by kernel_rfl) hHeld24 ?_
  refine Rg.frame _ (by simp only [Rg.puts, Rg.pu, List.set]; rfl) ?_
  refine wpAnyH_done (by kernel_rfl) ?_ _
  refine NoPanic.normal ?_
  have Hy := Lib.hid hy24
  go_wp2_with fail
  go_ret
  exact ⟨rfl, Hy.out⟩
end Go.Proofs.Ytiglepmgonmhiaa.Cs
