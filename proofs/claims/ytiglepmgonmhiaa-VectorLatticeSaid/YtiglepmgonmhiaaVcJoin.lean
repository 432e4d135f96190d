/- Two vectors joined, met: the program's ways. -/
import Derived.Test.YtiglepmgonmhiaaVcRun
import Derived.Test.YtiglepmgonmhiaaVcFill
import Derived.Test.YtiglepmgonmhiaaVcNew
namespace Go.Proofs.Ytiglepmgonmhiaa.Cs
open Go.RowKit
set_option linter.unusedVariables false
set_option maxRecDepth 100000

theorem newV_len (a b : Nat) (ha : a ≤ 6) : (newV (min (a : Int) b)).length = min a b := by
  unfold newV
  rw [List.length_map, List.length_range]
  omega
theorem OwnV.again {w : World} {base g c : Nat} {n : Nat} {l : List Nm} {tl : List Value} (hn : l.length = n) (hg : base ≤ g) (hc : n ≤ c) (hm : c ≤ maxLen) (hs : (flat l ++ tl).length = c * 3) (hB : Blk w g 25 (flat l ++ tl).toArray) : OwnV w base (.slice (some ⟨g, 0, none⟩) n c) l := by
  subst hn
  exact OwnV.of_blk hg hc hm hs hB
theorem set_flat_len (l : List Nm) (k : Nat) (x : Nm) (tl : List Value) : (flat (l.set k x) ++ tl).length = (flat l ++ tl).length := by
  rw [List.length_append, List.length_append, flat_len, flat_len, List.length_set]
set_option maxHeartbeats 1000000 in
theorem Join_any (A B : Option Addr) (c d : Nat) (la lb : List Nm) (w : World) (hA : VecIn w A la) (hB : VecIn w B lb) : Calls Try.prog 14 #[.slice A la.length c, .slice B lb.length d] w fun e w' => ∃ A' c', e = .returned (.slice A' (join la lb).length c') ∧ VecIn w' A' (join la lb) ∧ Below w.heap.size w w' := by
  have CO := Lib.hid counted_any
  have CP := Lib.hid copied_any
  have CL := Lib.hid later_any
  have ha6 := cnt_len la
  have hb6 := cnt_len lb
  obtain ⟨J, hJ⟩ : ∃ J, Hid (J = join la lb) := ⟨_, rfl⟩
  rw [← hJ.out]
  have HA := Lib.hid hA
  have HB := Lib.hid hB
  clear hA hB
  go_enter Try.func14, Try.ntmps14
  go_wp2_with fail
  refine (CO.out A c la _ HA.out).mono ?_
  rintro e w1 ⟨A1, c1, rfl, hA1, hb1⟩
  have HB1 := Lib.hid (HB.out.past hb1)
  go_wp2_with fail
  refine (CO.out B d lb _ HB1.out).mono ?_
  rintro e w2 ⟨B2, d2, rfl, hB2, hb2⟩
  have HA2 := Lib.hid (hA1.past hb2)
  have HB2 := Lib.hid hB2
  have Hb := Lib.hid (hb1.trans (hb2.mono hb1.size))
  clear hA1 HB1 hB2 hb1 hb2 HA HB CO
  have hJ2 : ((cnt lb).length < (cnt la).length ∧ J = over (cnt la) (cnt lb)) ∨ ((cnt la).length ≤ (cnt lb).length ∧ J = over (cnt lb) (cnt la)) := by
    have h := hJ.out
    unfold join at h
    by_cases h9 : (cnt lb).length < (cnt la).length
    · rw [if_pos h9] at h; exact .inl ⟨h9, h⟩
    · rw [if_neg h9] at h; exact .inr ⟨by omega, h⟩
  clear hJ
  generalize cnt la = a at ha6 HA2 hJ2
  generalize cnt lb = b at hb6 HB2 hJ2
  rcases hJ2 with ⟨hlen, hJ⟩ | ⟨hlen, hJ⟩
  focus
    have hlen2 : (b.length : Int) < a.length := by omega
    have HJ := Lib.hid hJ
    clear hJ
    go_wp2_with fail
    have HS := HB2
    have HG := HA2
    have hle : b.length ≤ a.length := by omega
    have hl6 := ha6
    clear HA2 HB2 hlen hlen2 ha6 hb6
    generalize a = lg at *
    generalize b = s at *
    generalize A1 = AG at *
    generalize B2 = AS at *
    generalize c1 = cg at *
    generalize d2 = cs at *
  rotate_left
  focus
    have hlen2 : (a.length : Int) ≤ b.length := by omega
    have HJ := Lib.hid hJ
    clear hJ
    go_wp2_with fail
    have HS := HA2
    have HG := HB2
    have hle : a.length ≤ b.length := by omega
    have hl6 := hb6
    clear HA2 HB2 hlen hlen2 ha6 hb6
    generalize b = lg at *
    generalize a = s at *
    generalize B2 = AG at *
    generalize A1 = AS at *
    generalize d2 = cg at *
    generalize c1 = cs at *
  rotate_left
  all_goals
    have H6 := Lib.hid hl6
    clear hl6
    refine (CP.out AG cg lg _ HG.out H6.out).mono ?_
    rintro e w3 ⟨V, rfl, hO, hb3⟩
    have Hb3 := Lib.hid hb3
    have HO := Lib.hid hO
    have Hz := Lib.hid (show w.heap.size ≤ w2.heap.size from Hb.out.size)
    clear hO hb3 HG CP
    obtain ⟨f, hf⟩ : ∃ f : Nat → Nm, Hid (f = fun i => later (at_ lg i) (at_ s i)) := ⟨_, rfl⟩
    have HJ2 := Lib.hid (show fill f lg s.length = J by rw [hf.out, HJ.out]; exact fill_over lg s)
    clear HJ
    go_wp2_with fail
    go_loopw [25] (fun i wr => ∃ (q : Nat), q ≤ s.length ∧ i = .int .i64 (q : Int) ∧ Hid (OwnV wr w2.heap.size V (fill f lg q)) ∧ Hid (Below w2.heap.size w2 wr)) (fun i wr => s.length - (intOf i).toNat)
    case atStart => exact ⟨0, by omega, rfl, HO.out, Hb3.out⟩
    case round =>
      obtain ⟨q, hq, rfl, hO, hb⟩ := hrel
      clear HO Hb3
      by_cases hlt : q < s.length
      · have hlt2 : (q : Int) < s.length := by omega
        have hqg : q < lg.length := by omega
        have hq6 : (q : Int) < 6 := by have := H6.out; omega
        have hql : q < (fill f lg q).length := by rw [fill_len]; exact hqg
        obtain ⟨ad, rfl, hp, f0, f1, f2⟩ := (HS.out.past hb.out).cells hlt
        obtain ⟨y, hy⟩ : ∃ y, Hid (y = s[q]) := ⟨s[q], rfl⟩
        rw [← hy.out] at f0 f1 f2
        obtain ⟨x, hx⟩ : ∃ x, Hid (x = lg[q]) := ⟨lg[q], rfl⟩
        obtain ⟨l0, hl0⟩ : ∃ z, Hid (z = later x y) := ⟨_, rfl⟩
        have HL := Lib.hid (show f q = l0 by rw [hf.out, hl0.out, hx.out, hy.out]; show later (at_ lg q) (at_ s q) = _; rw [at_eq hqg, at_eq hlt])
        have CLx := CL.out x y
        rw [← hl0.out] at CLx
        have HC := Lib.hid CLx
        obtain ⟨g, cap, tl, rfl, hg, hc1, hc2, hsz, hB⟩ := hO.out.blk (by omega)
        have hX := row_at3 hB hql
        rw [fill_at hqg hql, ← hx.out] at hX
        have hgl := hB.lt
        have HX := Lib.hid (hX.past (B := wr.heap.size) hgl ((Below.refl wr.heap.size wr).alloc (Nat.le_refl _) (.cells (gc y.t y.s y.r) 25)))
        have HB := Lib.hid (hB.alloc (.cells (gc y.t y.s y.r) 25))
        have BY := Lib.hid (Blk.new wr 25 (gc y.t y.s y.r))
        have HbA := Lib.hid (hb.out.alloc hb.out.size (.cells (gc y.t y.s y.r) 25))
        have Hsz := Lib.hid hsz
        have hneq : wr.heap.size ≠ g := by omega
        have Hc1 := Lib.hid hc1
        have Hc2 := Lib.hid hc2
        have Hg := Lib.hid hg
        have hqi : (q : Int) < (fill f lg q).length := by omega
        clear CLx hX hB hb hsz hc1 hc2 hO
        go_wp2_with fail
        refine wp_region_noPanic ?_
        refine wp_region_held_drew (S := fun w' => Blk w' wr.heap.size 25 (gc y.t y.s y.r)) (by kernel_rfl) BY.out.drew (fun hHeld => ?_)
        refine Rg.idleP [0, 1, 2, 3] [(30, .slice (some ⟨g, 0, none⟩) (fill f lg q).length cap), (31, .int .i64 (q : Int)), (32, .slice (some ⟨g, 0, none⟩) (fill f lg q).length cap), (33, .int .i64 (q : Int))] 6 (by kernel_rfl) (fun _ _ _ _ _ h => h) (by kernel_rfl) (by kernel_rfl) hHeld ?_
        refine Rg.frame _ (by simp only [Rg.puts, Rg.pu, List.set]; rfl) ?_
        refine Rg.tk 4 34 (.pointer (some ⟨g, q * 3, none⟩)) rfl (by kernel_rfl) (fun _ _ _ h => h) (fun _ _ => run_idx0 rfl rfl rfl hql) hHeld ?_
        refine Rg.tk 6 36 (.agg (gc y.t y.s y.r)) rfl (by kernel_rfl) (fun _ _ _ h => h) (fun w' h => run_at3 (n := y) rfl rfl (box_at3 h)) hHeld ?_
        refine Rg.rn 5 35 (x.v) _ rfl (by kernel_rfl) (run_at3 (n := x) rfl rfl HX.out) hHeld ?_
        refine Rg.frame _ (by simp only [Rg.pu, List.set]; rfl) ?_
        refine Rg.cl 7 37 rfl (by kernel_rfl) 30 #[x.v, .agg (gc y.t y.s y.r)] (by kernel_rfl) (HC.out _) ?_
        rintro _ w4 ⟨rfl, hb4⟩
        have hHeld1 := hHeld.past hb4
        refine ⟨_, rfl, hHeld1, ?_⟩
        have B4 := HB.out.drew.past hb4
        refine Rg.tk 8 38 (.pointer (some ⟨g, q * 3, none⟩)) rfl (by kernel_rfl) (fun _ _ _ h => h) (fun _ _ => run_idx0 rfl rfl rfl hql) hHeld1 ?_
        have hS9 := store3_far hHeld1 hneq q l0
        refine Rg.sk 9 _ rfl (by kernel_rfl) (run_store3 rfl rfl rfl B4 hql) hS9 ?_
        refine Rg.frame _ (by simp only [Rg.pu, List.set]; rfl) ?_
        refine wpAnyH_done (by kernel_rfl) ?_ _
        refine NoPanic.normal ?_
        have B5 := store3_blk B4 hql l0
        have hb5 := store3_below (HbA.out.drew.trans (hb4.mono HbA.out.drew.size)) hg q l0
        have hO5 := OwnV.again (base := w2.heap.size) (n := (fill f lg q).length) (by rw [List.length_set]) hg Hc1.out Hc2.out (by rw [set_flat_len]; exact Hsz.out) B5
        have he5 : (fill f lg q).set q l0 = fill f lg (q + 1) := by rw [← HL.out]; rfl
        rw [he5] at hO5
        have HO5 := Lib.hid hO5
        have HB5 := Lib.hid hb5
        clear he5 B5 hb5 hO5 B4 hS9 hHeld1 hHeld hb4
        go_wp2_with fail
        go_roundw
        case rel => exact ⟨q + 1, by omega, by go_num, HO5.out, HB5.out⟩
        case measure => simp [intOf]; omega
      · obtain rfl : q = s.length := by omega
        rw [HJ2.out] at hO
        obtain ⟨A9, c9, rfl, hV9⟩ := hO.out.form
        have HV9 := Lib.hid hV9
        have Hb9 := Lib.hid (Hb.out.trans (hb.out.mono Hz.out))
        clear hV9 hO hb
        go_wp2_with fail
        go_ret
        exact ⟨_, _, rfl, HV9.out, Hb9.out⟩
set_option maxHeartbeats 1000000 in
theorem Meet_any (A B : Option Addr) (c d : Nat) (la lb : List Nm) (w : World) (hA : VecIn w A la) (hB : VecIn w B lb) : Calls Try.prog 16 #[.slice A la.length c, .slice B lb.length d] w fun e w' => ∃ A' c', e = .returned (.slice A' (meet la lb).length c') ∧ VecIn w' A' (meet la lb) ∧ Below w.heap.size w w' := by
  have CO := Lib.hid counted_any
  have CN := Lib.hid New_any
  have CL := Lib.hid earlier_any
  have ha6 := cnt_len la
  obtain ⟨J, hJ⟩ : ∃ J, Hid (J = meet la lb) := ⟨_, rfl⟩
  rw [← hJ.out]
  have HA := Lib.hid hA
  have HB := Lib.hid hB
  clear hA hB
  go_enter Try.func16, Try.ntmps16
  go_wp2_with fail
  refine (CO.out A c la _ HA.out).mono ?_
  rintro e w1 ⟨A1, c1, rfl, hA1, hb1⟩
  have HB1 := Lib.hid (HB.out.past hb1)
  go_wp2_with fail
  refine (CO.out B d lb _ HB1.out).mono ?_
  rintro e w2 ⟨B2, d2, rfl, hB2, hb2⟩
  have HA2 := Lib.hid (hA1.past hb2)
  have HB2 := Lib.hid hB2
  have Hb := Lib.hid (hb1.trans (hb2.mono hb1.size))
  clear hA1 HB1 hB2 hb1 hb2 HA HB CO
  have hJ2 : J = List.zipWith earlier (cnt la) (cnt lb) := hJ.out
  clear hJ
  generalize cnt la = a at ha6 HA2 hJ2
  generalize cnt lb = b at HB2 hJ2
  have hJ3 := Lib.hid hJ2
  clear hJ2
  have hN : (newV (min (a.length : Int) b.length)).length = min a.length b.length := newV_len _ _ ha6
  have H6 := Lib.hid ha6
  clear ha6
  have hle : a.length ≤ b.length ∨ b.length < a.length := by omega
  rcases hle with hle | hle
  focus
    have hle2 : (a.length : Int) ≤ b.length := by omega
    have CNx := CN.out (a.length : Int)
    rw [show min (a.length : Int) b.length = a.length by omega] at hN
    generalize newV (a.length : Int) = N at hN CNx
    have HC := Lib.hid CNx
    clear CNx
    go_wp2_with fail
    refine (HC.out _).mono ?_
    rintro e w3 ⟨V, rfl, hO, hb3⟩
    clear hle2 hle HC CN
  rotate_left
  focus
    have hle2 : (b.length : Int) < a.length := by omega
    have CNx := CN.out (b.length : Int)
    rw [show min (a.length : Int) b.length = b.length by omega] at hN
    generalize newV (b.length : Int) = N at hN CNx
    have HC := Lib.hid CNx
    clear CNx
    go_wp2_with fail
    refine (HC.out _).mono ?_
    rintro e w3 ⟨V, rfl, hO, hb3⟩
    clear hle2 hle HC CN
  rotate_left
  all_goals
    have HO := Lib.hid hO
    obtain ⟨A3, c3, rfl, -⟩ := hO.form
    have Hb3 := Lib.hid hb3
    have Hz := Lib.hid (show w.heap.size ≤ w2.heap.size from Hb.out.size)
    clear hO hb3
    obtain ⟨f, hf⟩ : ∃ f : Nat → Nm, Hid (f = fun i => earlier (at_ a i) (at_ b i)) := ⟨_, rfl⟩
    have HJ2 := Lib.hid (show fill f N N.length = J by rw [hf.out, hJ3.out]; exact fill_meet a b N hN)
    have HN := Lib.hid hN
    clear hJ3 hN
    go_wp2_with fail
    go_loopw [19] (fun i wr => ∃ (q : Nat), q ≤ N.length ∧ i = .int .i64 (q : Int) ∧ Hid (OwnV wr w2.heap.size (.slice A3 N.length c3) (fill f N q)) ∧ Hid (Below w2.heap.size w2 wr)) (fun i wr => N.length - (intOf i).toNat)
    case atStart => exact ⟨0, by omega, rfl, HO.out, Hb3.out⟩
    case round =>
      obtain ⟨q, hq, rfl, hO, hb⟩ := hrel
      clear HO Hb3
      by_cases hlt : q < N.length
      · have hlt2 : (q : Int) < N.length := by omega
        have hqa : q < a.length := by have := HN.out; omega
        have hqb : q < b.length := by have := HN.out; omega
        have hqa2 : (q : Int) < a.length := by omega
        have hqb2 : (q : Int) < b.length := by omega
        have hq6 : (q : Int) < 6 := by have := H6.out; omega
        have hql : q < (fill f N q).length := by rw [fill_len]; exact hlt
        obtain ⟨ad, rfl, hp, hX⟩ := HA2.out.at3 hqa
        obtain ⟨bd, rfl, hp2, hY⟩ := HB2.out.at3 hqb
        obtain ⟨x, hx⟩ : ∃ x, Hid (x = a[q]) := ⟨a[q], rfl⟩
        obtain ⟨y, hy⟩ : ∃ y, Hid (y = b[q]) := ⟨b[q], rfl⟩
        rw [← hx.out] at hX
        rw [← hy.out] at hY
        have hpa : (ad.add (q * 3)).block < w2.heap.size := by rw [block_of_add]; exact hp
        have hpb : (bd.add (q * 3)).block < w2.heap.size := by rw [block_of_add]; exact hp2
        have HX := Lib.hid (hX.past hpa hb.out)
        have HY := Lib.hid (hY.past hpb hb.out)
        obtain ⟨l0, hl0⟩ : ∃ z, Hid (z = earlier x y) := ⟨_, rfl⟩
        have HL := Lib.hid (show f q = l0 by rw [hf.out, hl0.out, hx.out, hy.out]; show earlier (at_ a q) (at_ b q) = _; rw [at_eq hqa, at_eq hqb])
        have CLx := CL.out x y
        rw [← hl0.out] at CLx
        have HC := Lib.hid CLx
        obtain ⟨g, cap, tl, hv, hg, hc1, hc2, hsz, hB⟩ := hO.out.blk (by omega)
        injection hv with hv1 hv2 hv3
        subst hv1 hv3
        have HB := Lib.hid hB
        have Hsz := Lib.hid hsz
        have Hc1 := Lib.hid hc1
        have Hc2 := Lib.hid hc2
        have Hv2 := Lib.hid hv2
        have hbs := hb.out.size
        have hna : (ad.add (q * 3)).block ≠ g := by omega
        have hnb : (bd.add (q * 3)).block ≠ g := by omega
        have hqN : q < N.length := hlt
        have Hpa := Lib.hid (show (ad.add (q * 3)).block < wr.heap.size by omega)
        have Hpb := Lib.hid (show (bd.add (q * 3)).block < wr.heap.size by omega)
        clear CLx hX hY hB hsz hc1 hc2 hv2 hO
        go_wp2_with fail
        refine wp_region_noPanic ?_
        refine wp_region_held_drew (S := fun w' => At3 w' (ad.add (q * 3)) x ∧ At3 w' (bd.add (q * 3)) y) (by kernel_rfl) ⟨HX.out, HY.out⟩ (fun hHeld => ?_)
        refine Rg.idleP [0, 1, 2, 3] [(22, .slice (some ⟨g, 0, none⟩) N.length c3), (23, .int .i64 (q : Int)), (24, .slice (some ad) a.length c1), (25, .int .i64 (q : Int))] 9 (by kernel_rfl) (fun _ _ _ _ _ h => h) (by kernel_rfl) (by kernel_rfl) hHeld ?_
        refine Rg.frame _ (by simp only [Rg.puts, Rg.pu, List.set]; rfl) ?_
        refine Rg.tk 4 26 (.pointer (some (ad.add (q * 3)))) rfl (by kernel_rfl) (fun _ _ _ h => h) (fun _ _ => run_idx rfl rfl rfl hqa) hHeld ?_
        refine Rg.tk 5 27 (x.v) rfl (by kernel_rfl) (fun _ _ _ h => h) (fun w' h => run_at3 (n := x) rfl rfl h.1) hHeld ?_
        refine Rg.idleP [6, 7] [(28, .slice (some bd) b.length d2), (29, .int .i64 (q : Int))] 5 (by kernel_rfl) (fun _ _ _ _ _ h => h) (by kernel_rfl) (by kernel_rfl) hHeld ?_
        refine Rg.frame _ (by simp only [Rg.puts, Rg.pu, List.set]; rfl) ?_
        refine Rg.tk 8 30 (.pointer (some (bd.add (q * 3)))) rfl (by kernel_rfl) (fun _ _ _ h => h) (fun _ _ => run_idx rfl rfl rfl hqb) hHeld ?_
        refine Rg.tk 9 31 (y.v) rfl (by kernel_rfl) (fun _ _ _ h => h) (fun w' h => run_at3 (n := y) rfl rfl h.2) hHeld ?_
        refine Rg.cl 10 32 rfl (by kernel_rfl) 32 #[x.v, y.v] (by kernel_rfl) (HC.out _) ?_
        rintro _ w4 ⟨rfl, hb4⟩
        have hHeld1 := (⟨hHeld.1.past Hpa.out hb4, hHeld.2.past Hpb.out hb4⟩ : _ ∧ _)
        refine ⟨_, rfl, hHeld1, ?_⟩
        refine Rg.frame _ (by simp only [Rg.pu, List.set]; rfl) ?_
        have B4 := HB.out.drew.past hb4
        refine Rg.tk 11 33 (.pointer (some ⟨g, q * 3, none⟩)) rfl (by kernel_rfl) (fun _ _ _ h => h) (fun _ _ => run_idx0 rfl rfl rfl hqN) hHeld1 ?_
        have hS9 := (⟨store3_at3 (k := q) (x := l0) hHeld1.1 hna, store3_at3 (k := q) (x := l0) hHeld1.2 hnb⟩ : _ ∧ _)
        refine Rg.sk 12 _ rfl (by kernel_rfl) (run_store3 rfl rfl rfl B4 hql) hS9 ?_
        refine Rg.frame _ (by simp only [Rg.pu, List.set]; rfl) ?_
        refine wpAnyH_done (by kernel_rfl) ?_ _
        refine NoPanic.normal ?_
        have B5 := store3_blk B4 hql l0
        have hb5 := store3_below (hb.out.drew.trans (hb4.mono hb.out.drew.size)) hg q l0
        have hO5 := OwnV.again (base := w2.heap.size) (n := N.length) (by rw [List.length_set]; exact Hv2.out.symm) hg (by rw [Hv2.out]; exact Hc1.out) Hc2.out (by rw [set_flat_len]; exact Hsz.out) B5
        have he5 : (fill f N q).set q l0 = fill f N (q + 1) := by rw [← HL.out]; rfl
        rw [he5] at hO5
        have HO5 := Lib.hid hO5
        have HB5 := Lib.hid hb5
        clear he5 B5 hb5 hO5 B4 hS9 hHeld1 hHeld hb4
        go_wp2_with fail
        go_roundw
        case rel => exact ⟨q + 1, by omega, by go_num, HO5.out, HB5.out⟩
        case measure => simp [intOf]; omega
      · obtain rfl : q = N.length := by omega
        have hO9 := hO.out
        rw [HJ2.out] at hO9
        obtain ⟨A9, c9, hv, hV9⟩ := hO9.form
        have HV9 := Lib.hid hV9
        have Hv := Lib.hid hv
        have Hb9 := Lib.hid (Hb.out.trans (hb.out.mono Hz.out))
        clear hV9 hv hO9 hO hb
        go_wp2_with fail
        go_ret
        exact ⟨_, _, congrArg Ending.returned Hv.out, HV9.out, Hb9.out⟩
end Go.Proofs.Ytiglepmgonmhiaa.Cs
