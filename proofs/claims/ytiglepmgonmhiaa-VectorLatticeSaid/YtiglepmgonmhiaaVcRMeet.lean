/- Two vectors met, compared: the reference's ways. -/
import Derived.Test.YtiglepmgonmhiaaVcRun
import Derived.Test.YtiglepmgonmhiaaVcFill
namespace Go.Proofs.Ytiglepmgonmhiaa.Cs
open Go.RowKit
set_option linter.unusedVariables false
set_option maxRecDepth 100000

/-- The reference's lesser one. -/
def less (a b : Nm) : Nm := if a.cmp b ≤ 0 then a else b
theorem less_t {a b : Nm} (h : a.cmp b ≤ 0) : less a b = a := by unfold less; rw [if_pos h]
theorem less_f {a b : Nm} (h : 0 < a.cmp b) : less a b = b := by unfold less; rw [if_neg (by omega)]
def rmeet (a b : List Nm) : List Nm := List.zipWith less a b
theorem rmeet_len (a b : List Nm) : (rmeet a b).length = min a.length b.length := by simp [rmeet]
theorem rmeet_step {a b : List Nm} {q : Nat} (ha : q < a.length) (hb : q < b.length) : (rmeet a b).take (q + 1) = (rmeet a b).take q ++ [less a[q] b[q]] := by
  rw [List.take_succ_eq_append_getElem (by rw [rmeet_len]; omega)]
  unfold rmeet
  rw [List.getElem_zipWith]
theorem leqB_no {a b : List Nm} {q : Nat} (ha : q < a.length) (hb : q < b.length) (h : 0 < a[q].cmp b[q]) : leqB a b = false := by
  unfold leqB
  rw [Bool.and_eq_false_iff]
  refine .inr (decide_eq_false fun h9 => ?_)
  have := h9 q ha
  rw [at_eq hb] at this
  omega
theorem leqB_long {a b : List Nm} (h : b.length < a.length) : leqB a b = false := by
  unfold leqB
  rw [decide_eq_false (by omega)]
  rfl
theorem leqB_yes {a b : List Nm} (hl : a.length ≤ b.length) (h : ∀ j (ha : j < a.length) (hb : j < b.length), a[j].cmp b[j] ≤ 0) : leqB a b = true := by
  unfold leqB
  rw [decide_eq_true hl, Bool.true_and]
  refine decide_eq_true fun i hi => ?_
  rw [at_eq (by omega)]
  exact h i hi (by omega)
set_option maxHeartbeats 1000000 in
theorem rMeet_any (A B : Option Addr) (c d : Nat) (la lb : List Nm) (w : World) (hA : VecIn w A la) (hB : VecIn w B lb) (hla : la.length ≤ 1000) (hlb : lb.length ≤ 1000) : Calls Try.prog 17 #[.slice A la.length c, .slice B lb.length d] w fun e w' => ∃ A' c', e = .returned (.slice A' (rmeet (cnt la) (cnt lb)).length c') ∧ VecIn w' A' (rmeet (cnt la) (cnt lb)) ∧ Below w.heap.size w w' := by
  have CO := Lib.hid Own_any
  have CM := Lib.hid (fun (x y : Nm) => rcmp_any x.t x.s x.r y.t y.s y.r)
  have Hla := Lib.hid hla
  have Hlb := Lib.hid hlb
  have ha6 := cnt_len la
  have hb6 := cnt_len lb
  obtain ⟨J, hJ⟩ : ∃ J, Hid (rmeet (cnt la) (cnt lb) = J) := ⟨_, rfl⟩
  rw [hJ.out]
  have HA := Lib.hid hA
  have HB := Lib.hid hB
  clear hA hB hla hlb
  go_enter Try.func17, Try.ntmps17
  go_wp2_with fail
  refine (CO.out A c la _ HA.out Hla.out).mono ?_
  rintro e w1 ⟨V, rfl, hO1, hb1⟩
  have HB1 := Lib.hid (HB.out.past hb1)
  obtain ⟨AA, da, rfl, hVA⟩ := hO1.form
  have HVA := Lib.hid hVA
  have Hb1 := Lib.hid hb1
  clear hO1 hb1 hVA
  go_wp2_with fail
  refine (CO.out B d lb _ HB1.out Hlb.out).mono ?_
  rintro e w2 ⟨W, rfl, hO2, hb2⟩
  obtain ⟨BB, db, rfl, hVB⟩ := hO2.form
  have HV := Lib.hid hVB
  have HU := Lib.hid (HVA.out.past hb2)
  have Hb := Lib.hid (Hb1.out.trans (hb2.mono Hb1.out.size))
  have Hz := Lib.hid (show w.heap.size ≤ w2.heap.size from Hb.out.size)
  clear hVB hO2 hb2 Hb1 HB1 HA HB CO HVA
  generalize cnt la = a at *
  generalize cnt lb = b at *
  have hm := rmeet_len a b
  go_wp2_with fail
  go_loopw [7, 8] (fun v i wr => ∃ (q : Nat), q ≤ a.length ∧ q ≤ b.length ∧ i = .int .i64 (q : Int) ∧ Hid (OwnV wr w2.heap.size v ((rmeet a b).take q)) ∧ Hid (Below w2.heap.size w2 wr)) (fun v i wr => a.length - (intOf i).toNat)
  case atStart => exact ⟨0, by omega, by omega, rfl, OwnV.nil _ _, Below.refl _ _⟩
  case round =>
    obtain ⟨q, hqA, hqB, rfl, hO, hb⟩ := hrel
    by_cases hlt : q < a.length ∧ q < b.length
    · obtain ⟨hqa, hqb⟩ := hlt
      have hqa2 : (q : Int) < a.length := by omega
      have hqb2 : (q : Int) < b.length := by omega
      have hq6 : (q : Int) < 6 := by omega
      obtain ⟨ad, rfl, hp, hX⟩ := HU.out.at3 hqa
      obtain ⟨bd, rfl, hp2, hY⟩ := HV.out.at3 hqb
      obtain ⟨x, hx⟩ : ∃ x, Hid (x = a[q]) := ⟨a[q], rfl⟩
      obtain ⟨y, hy⟩ : ∃ y, Hid (y = b[q]) := ⟨b[q], rfl⟩
      rw [← hx.out] at hX
      rw [← hy.out] at hY
      have hpa : (ad.add (q * 3)).block < w2.heap.size := by rw [block_of_add]; exact hp
      have hpb : (bd.add (q * 3)).block < w2.heap.size := by rw [block_of_add]; exact hp2
      have HX := Lib.hid (hX.past hpa hb.out)
      have HY := Lib.hid (hY.past hpb hb.out)
      have hbs := hb.out.size
      have Hpa := Lib.hid (show (ad.add (q * 3)).block < wr.heap.size by omega)
      have Hpb := Lib.hid (show (bd.add (q * 3)).block < wr.heap.size by omega)
      obtain ⟨K, hK⟩ : ∃ K, Hid (K = x.cmp y) := ⟨_, rfl⟩
      have CMx := CM.out x y
      rw [show cmpC x.t x.s x.r y.t y.s y.r = K from hK.out.symm] at CMx
      have HC := Lib.hid CMx
      clear CMx hX hY
      have HH := Lib.hid (show ((rmeet a b).take q).length ≤ 1000 by rw [List.length_take]; omega)
      have hst := rmeet_step hqa hqb
      rw [← hx.out, ← hy.out] at hst
      have hmn : (a.length : Int) ≤ b.length ∨ (b.length : Int) < a.length := by omega
      have hKc : (K ≤ 0 ∧ less x y = x) ∨ (0 < K ∧ less x y = y) := by
        by_cases h9 : K ≤ 0
        · exact .inl ⟨h9, less_t (by rw [← hK.out]; exact h9)⟩
        · exact .inr ⟨by omega, less_f (by rw [← hK.out]; omega)⟩
      clear hm hK
      rcases hKc with ⟨hK, hL⟩ | ⟨hK, hL⟩
      focus
        rw [hL] at hst
        have Hst := Lib.hid hst
        clear hst hL
        rcases hmn with hmn | hmn
        all_goals
          go_wp2_with fail
          refine wp_region_noPanic ?_
          refine wp_region_held_drew (S := fun w' => At3 w' (ad.add (q * 3)) x ∧ At3 w' (bd.add (q * 3)) y) (by kernel_rfl) ⟨HX.out, HY.out⟩ (fun hHeld => ?_)
          refine Rg.idleP [0, 1] [(22, .slice (some ad) a.length da), (23, .int .i64 (q : Int))] 8 (by kernel_rfl) (fun _ _ _ _ _ h => h) (by kernel_rfl) (by kernel_rfl) hHeld ?_
          refine Rg.frame _ (by simp only [Rg.puts, Rg.pu, List.set]; rfl) ?_
          refine Rg.tk 2 24 (.pointer (some (ad.add (q * 3)))) rfl (by kernel_rfl) (fun _ _ _ h => h) (fun _ _ => run_idx rfl rfl rfl hqa) hHeld ?_
          refine Rg.tk 3 25 (x.v) rfl (by kernel_rfl) (fun _ _ _ h => h) (fun w' h => run_at3 (n := x) rfl rfl h.1) hHeld ?_
          refine Rg.idleP [4, 5] [(26, .slice (some bd) b.length db), (27, .int .i64 (q : Int))] 4 (by kernel_rfl) (fun _ _ _ _ _ h => h) (by kernel_rfl) (by kernel_rfl) hHeld ?_
          refine Rg.frame _ (by simp only [Rg.puts, Rg.pu, List.set]; rfl) ?_
          refine Rg.tk 6 28 (.pointer (some (bd.add (q * 3)))) rfl (by kernel_rfl) (fun _ _ _ h => h) (fun _ _ => run_idx rfl rfl rfl hqb) hHeld ?_
          refine Rg.tk 7 29 (y.v) rfl (by kernel_rfl) (fun _ _ _ h => h) (fun w' h => run_at3 (n := y) rfl rfl h.2) hHeld ?_
          refine Rg.cl 8 30 rfl (by kernel_rfl) 33 #[x.v, y.v] (by kernel_rfl) (HC.out _) ?_
          rintro _ w4 ⟨rfl, hb4⟩
          have hHeld1 := (⟨hHeld.1.past Hpa.out hb4, hHeld.2.past Hpb.out hb4⟩ : _ ∧ _)
          refine ⟨_, rfl, hHeld1, ?_⟩
          refine Rg.frame _ (by simp only [Rg.pu, List.set]; rfl) ?_
          refine Rg.tk 9 31 (.bool true) rfl (by kernel_rfl) (fun _ _ _ h => h) (fun _ _ => run_leq_t rfl rfl rfl hK) hHeld1 ?_
          refine Rg.frame _ (by simp only [Rg.pu, List.set]; rfl) ?_
          refine wpAnyH_done (by kernel_rfl) ?_ _
          refine NoPanic.normal ?_
          obtain ⟨f0, f1, f2⟩ := hHeld1.1
          have hbw := hb.out.drew.trans (hb4.mono hb.out.drew.size)
          have BY := Lib.hid (Blk.new w4 25 (gc x.t x.s x.r))
          have HbA := Lib.hid (hbw.alloc hbw.size (.cells (gc x.t x.s x.r) 25))
          have HOA := Lib.hid ((hO.out.past (((Below.refl wr.heap.size wr).drew).trans hb4)).past ((Below.refl w4.heap.size w4).alloc (Nat.le_refl _) (.cells (gc x.t x.s x.r) 25)))
          clear hHeld hHeld1 hb4 hbw hO hb
          go_wp2_with (at_builtin; go_loud (refine wpList_pushV rfl _ _ rfl w2.heap.size _ ((rmeet a b).take q) rfl HOA.out w4.heap.size x rfl BY.out HH.out HbA.out.size ?_))
          intro v1 w5 hO5 hb5 hg5
          rw [← Hst.out] at hO5
          have HO5 := Lib.hid hO5
          have HB5 := Lib.hid (HbA.out.trans hb5)
          clear hO5 hb5 hg5 HOA HbA BY f0 f1 f2
          go_wp2_with fail
          go_roundw
          case rel => exact ⟨q + 1, by omega, by omega, by go_num, HO5, HB5⟩
          case measure => simp [intOf]; omega
      focus
        rw [hL] at hst
        have Hst := Lib.hid hst
        clear hst hL
        rcases hmn with hmn | hmn
        all_goals
          go_wp2_with fail
          refine wp_region_noPanic ?_
          refine wp_region_held_drew (S := fun w' => At3 w' (ad.add (q * 3)) x ∧ At3 w' (bd.add (q * 3)) y) (by kernel_rfl) ⟨HX.out, HY.out⟩ (fun hHeld => ?_)
          refine Rg.idleP [0, 1] [(22, .slice (some ad) a.length da), (23, .int .i64 (q : Int))] 8 (by kernel_rfl) (fun _ _ _ _ _ h => h) (by kernel_rfl) (by kernel_rfl) hHeld ?_
          refine Rg.frame _ (by simp only [Rg.puts, Rg.pu, List.set]; rfl) ?_
          refine Rg.tk 2 24 (.pointer (some (ad.add (q * 3)))) rfl (by kernel_rfl) (fun _ _ _ h => h) (fun _ _ => run_idx rfl rfl rfl hqa) hHeld ?_
          refine Rg.tk 3 25 (x.v) rfl (by kernel_rfl) (fun _ _ _ h => h) (fun w' h => run_at3 (n := x) rfl rfl h.1) hHeld ?_
          refine Rg.idleP [4, 5] [(26, .slice (some bd) b.length db), (27, .int .i64 (q : Int))] 4 (by kernel_rfl) (fun _ _ _ _ _ h => h) (by kernel_rfl) (by kernel_rfl) hHeld ?_
          refine Rg.frame _ (by simp only [Rg.puts, Rg.pu, List.set]; rfl) ?_
          refine Rg.tk 6 28 (.pointer (some (bd.add (q * 3)))) rfl (by kernel_rfl) (fun _ _ _ h => h) (fun _ _ => run_idx rfl rfl rfl hqb) hHeld ?_
          refine Rg.tk 7 29 (y.v) rfl (by kernel_rfl) (fun _ _ _ h => h) (fun w' h => run_at3 (n := y) rfl rfl h.2) hHeld ?_
          refine Rg.cl 8 30 rfl (by kernel_rfl) 33 #[x.v, y.v] (by kernel_rfl) (HC.out _) ?_
          rintro _ w4 ⟨rfl, hb4⟩
          have hHeld1 := (⟨hHeld.1.past Hpa.out hb4, hHeld.2.past Hpb.out hb4⟩ : _ ∧ _)
          refine ⟨_, rfl, hHeld1, ?_⟩
          refine Rg.frame _ (by simp only [Rg.pu, List.set]; rfl) ?_
          refine Rg.tk 9 31 (.bool false) rfl (by kernel_rfl) (fun _ _ _ h => h) (fun _ _ => run_leq_f rfl rfl rfl hK) hHeld1 ?_
          refine Rg.frame _ (by simp only [Rg.pu, List.set]; rfl) ?_
          refine wpAnyH_done (by kernel_rfl) ?_ _
          refine NoPanic.normal ?_
          obtain ⟨f0, f1, f2⟩ := hHeld1.2
          have hbw := hb.out.drew.trans (hb4.mono hb.out.drew.size)
          have BY := Lib.hid (Blk.new w4 25 (gc y.t y.s y.r))
          have HbA := Lib.hid (hbw.alloc hbw.size (.cells (gc y.t y.s y.r) 25))
          have HOA := Lib.hid ((hO.out.past (((Below.refl wr.heap.size wr).drew).trans hb4)).past ((Below.refl w4.heap.size w4).alloc (Nat.le_refl _) (.cells (gc y.t y.s y.r) 25)))
          clear hHeld hHeld1 hb4 hbw hO hb
          go_wp2_with (at_builtin; go_loud (refine wpList_pushV rfl _ _ rfl w2.heap.size _ ((rmeet a b).take q) rfl HOA.out w4.heap.size y rfl BY.out HH.out HbA.out.size ?_))
          intro v1 w5 hO5 hb5 hg5
          rw [← Hst.out] at hO5
          have HO5 := Lib.hid hO5
          have HB5 := Lib.hid (HbA.out.trans hb5)
          clear hO5 hb5 hg5 HOA HbA BY f0 f1 f2
          go_wp2_with fail
          go_roundw
          case rel => exact ⟨q + 1, by omega, by omega, by go_num, HO5, HB5⟩
          case measure => simp [intOf]; omega
    · have hfin : q = a.length ∨ q = b.length := by omega
      have hO9 := hO.out
      rw [List.take_of_length_le (by omega), hJ.out] at hO9
      obtain ⟨A9, c9, rfl, hV9⟩ := hO9.form
      have HV9 := Lib.hid hV9
      have Hb9 := Lib.hid (Hb.out.trans (hb.out.mono Hz.out))
      have hmn : (a.length : Int) ≤ b.length ∨ (b.length : Int) < a.length := by omega
      clear hV9 hO9 hO hb
      rcases hmn with hmn | hmn
      · have hq2 : (a.length : Int) ≤ q := by omega
        go_wp2_with fail
        go_ret
        exact ⟨_, _, rfl, HV9.out, Hb9.out⟩
      · have hq2 : (b.length : Int) ≤ q := by omega
        go_wp2_with fail
        go_ret
        exact ⟨_, _, rfl, HV9.out, Hb9.out⟩
set_option maxHeartbeats 1000000 in
theorem rLeq_any (A B : Option Addr) (c d : Nat) (la lb : List Nm) (w : World) (hA : VecIn w A la) (hB : VecIn w B lb) (hla : la.length ≤ 1000) (hlb : lb.length ≤ 1000) : Calls Try.prog 19 #[.slice A la.length c, .slice B lb.length d] w fun e w' => e = .returned (.bool (leqB (cnt la) (cnt lb))) ∧ Below w.heap.size w w' := by
  have CO := Lib.hid Own_any
  have CM := Lib.hid (fun (x y : Nm) => rcmp_any x.t x.s x.r y.t y.s y.r)
  have Hla := Lib.hid hla
  have Hlb := Lib.hid hlb
  have ha6 := cnt_len la
  have hb6 := cnt_len lb
  obtain ⟨R, hR⟩ : ∃ R, Hid (R = leqB (cnt la) (cnt lb)) := ⟨_, rfl⟩
  rw [← hR.out]
  have HA := Lib.hid hA
  have HB := Lib.hid hB
  clear hA hB hla hlb
  go_enter Try.func19, Try.ntmps19
  go_wp2_with fail
  refine (CO.out A c la _ HA.out Hla.out).mono ?_
  rintro e w1 ⟨V, rfl, hO1, hb1⟩
  have HB1 := Lib.hid (HB.out.past hb1)
  obtain ⟨AA, da, rfl, hVA⟩ := hO1.form
  have HVA := Lib.hid hVA
  have Hb1 := Lib.hid hb1
  clear hO1 hb1 hVA
  go_wp2_with fail
  refine (CO.out B d lb _ HB1.out Hlb.out).mono ?_
  rintro e w2 ⟨W, rfl, hO2, hb2⟩
  obtain ⟨BB, db, rfl, hVB⟩ := hO2.form
  have HV := Lib.hid hVB
  have HU := Lib.hid (HVA.out.past hb2)
  have Hb := Lib.hid (Hb1.out.trans (hb2.mono Hb1.out.size))
  have Hz := Lib.hid (show w.heap.size ≤ w2.heap.size from Hb.out.size)
  clear hVB hO2 hb2 Hb1 HB1 HA HB CO HVA
  generalize cnt la = a at *
  generalize cnt lb = b at *
  by_cases hll : (b.length : Int) < a.length
  · go_wp2_with fail
    go_ret
    exact ⟨ret_bool (by rw [hR.out, leqB_long (by omega)]), Hb.out⟩
  have hll2 : (a.length : Int) ≤ b.length := by omega
  clear hll
  go_wp2_with fail
  go_loopw [7] (fun i wr => ∃ (q : Nat), q ≤ a.length ∧ i = .int .i64 (q : Int) ∧ Hid (∀ j (ha : j < a.length) (hb : j < b.length), j < q → a[j].cmp b[j] ≤ 0) ∧ Hid (Below w2.heap.size w2 wr)) (fun i wr => a.length - (intOf i).toNat)
  case atStart => exact ⟨0, by omega, rfl, by show ∀ j (ha : j < a.length) (hb : j < b.length), j < 0 → _; intro j ha hb h0; omega, Below.refl _ _⟩
  case round =>
    obtain ⟨q, hq, rfl, hd, hb⟩ := hrel
    by_cases hqa : q < a.length
    · have hqb : q < b.length := by omega
      have hqa2 : (q : Int) < a.length := by omega
      have hqb2 : (q : Int) < b.length := by omega
      have hq6 : (q : Int) < 6 := by omega
      obtain ⟨ad, rfl, hp, hX⟩ := HU.out.at3 hqa
      obtain ⟨bd, rfl, hp2, hY⟩ := HV.out.at3 hqb
      obtain ⟨x, hx⟩ : ∃ x, Hid (x = a[q]) := ⟨a[q], rfl⟩
      obtain ⟨y, hy⟩ : ∃ y, Hid (y = b[q]) := ⟨b[q], rfl⟩
      rw [← hx.out] at hX
      rw [← hy.out] at hY
      have hpa : (ad.add (q * 3)).block < w2.heap.size := by rw [block_of_add]; exact hp
      have hpb : (bd.add (q * 3)).block < w2.heap.size := by rw [block_of_add]; exact hp2
      have HX := Lib.hid (hX.past hpa hb.out)
      have HY := Lib.hid (hY.past hpb hb.out)
      have hbs := hb.out.size
      have Hpa := Lib.hid (show (ad.add (q * 3)).block < wr.heap.size by omega)
      have Hpb := Lib.hid (show (bd.add (q * 3)).block < wr.heap.size by omega)
      obtain ⟨K, hK⟩ : ∃ K, Hid (K = x.cmp y) := ⟨_, rfl⟩
      have CMx := CM.out x y
      rw [show cmpC x.t x.s x.r y.t y.s y.r = K from hK.out.symm] at CMx
      have HC := Lib.hid CMx
      clear CMx hX hY
      by_cases hKc : K ≤ 0
      focus
        have hd2 : ∀ j (ha : j < a.length) (hb : j < b.length), j < q + 1 → a[j].cmp b[j] ≤ 0 := by
          intro j ha hb2 hj
          by_cases hjq : j < q
          · exact hd.out j ha hb2 hjq
          · obtain rfl : j = q := by omega
            rw [← hx.out, ← hy.out, ← hK.out]
            exact hKc
        have HD := Lib.hid hd2
        clear hd2
        go_wp2_with fail
        refine wp_region_noPanic ?_
        refine wp_region_held_drew (S := fun w' => At3 w' (ad.add (q * 3)) x ∧ At3 w' (bd.add (q * 3)) y) (by kernel_rfl) ⟨HX.out, HY.out⟩ (fun hHeld => ?_)
        refine Rg.idleP [0, 1] [(23, .slice (some ad) a.length da), (24, .int .i64 (q : Int))] 8 (by kernel_rfl) (fun _ _ _ _ _ h => h) (by kernel_rfl) (by kernel_rfl) hHeld ?_
        refine Rg.frame _ (by simp only [Rg.puts, Rg.pu, List.set]; rfl) ?_
        refine Rg.tk 2 25 (.pointer (some (ad.add (q * 3)))) rfl (by kernel_rfl) (fun _ _ _ h => h) (fun _ _ => run_idx rfl rfl rfl hqa) hHeld ?_
        refine Rg.tk 3 26 (x.v) rfl (by kernel_rfl) (fun _ _ _ h => h) (fun w' h => run_at3 (n := x) rfl rfl h.1) hHeld ?_
        refine Rg.idleP [4, 5] [(27, .slice (some bd) b.length db), (28, .int .i64 (q : Int))] 4 (by kernel_rfl) (fun _ _ _ _ _ h => h) (by kernel_rfl) (by kernel_rfl) hHeld ?_
        refine Rg.frame _ (by simp only [Rg.puts, Rg.pu, List.set]; rfl) ?_
        refine Rg.tk 6 29 (.pointer (some (bd.add (q * 3)))) rfl (by kernel_rfl) (fun _ _ _ h => h) (fun _ _ => run_idx rfl rfl rfl hqb) hHeld ?_
        refine Rg.tk 7 30 (y.v) rfl (by kernel_rfl) (fun _ _ _ h => h) (fun w' h => run_at3 (n := y) rfl rfl h.2) hHeld ?_
        refine Rg.cl 8 31 rfl (by kernel_rfl) 33 #[x.v, y.v] (by kernel_rfl) (HC.out _) ?_
        rintro _ w4 ⟨rfl, hb4⟩
        have hHeld1 := (⟨hHeld.1.past Hpa.out hb4, hHeld.2.past Hpb.out hb4⟩ : _ ∧ _)
        refine ⟨_, rfl, hHeld1, ?_⟩
        refine Rg.frame _ (by simp only [Rg.pu, List.set]; rfl) ?_
        refine Rg.tk 9 32 (.bool false) rfl (by kernel_rfl) (fun _ _ _ h => h) (fun _ _ => run_gtr_f rfl rfl rfl hKc) hHeld1 ?_
        refine Rg.frame _ (by simp only [Rg.pu, List.set]; rfl) ?_
        refine wpAnyH_done (by kernel_rfl) ?_ _
        refine NoPanic.normal ?_
        have hb5 := Lib.hid (hb.out.drew.trans (hb4.mono hb.out.drew.size))
        go_wp2_with fail
        go_roundw
        case rel => exact ⟨q + 1, by omega, by go_num, HD, hb5⟩
        case measure => simp [intOf]; omega
      focus
        have hKp : 0 < K := by omega
        go_wp2_with fail
        refine wp_region_noPanic ?_
        refine wp_region_held_drew (S := fun w' => At3 w' (ad.add (q * 3)) x ∧ At3 w' (bd.add (q * 3)) y) (by kernel_rfl) ⟨HX.out, HY.out⟩ (fun hHeld => ?_)
        refine Rg.idleP [0, 1] [(23, .slice (some ad) a.length da), (24, .int .i64 (q : Int))] 8 (by kernel_rfl) (fun _ _ _ _ _ h => h) (by kernel_rfl) (by kernel_rfl) hHeld ?_
        refine Rg.frame _ (by simp only [Rg.puts, Rg.pu, List.set]; rfl) ?_
        refine Rg.tk 2 25 (.pointer (some (ad.add (q * 3)))) rfl (by kernel_rfl) (fun _ _ _ h => h) (fun _ _ => run_idx rfl rfl rfl hqa) hHeld ?_
        refine Rg.tk 3 26 (x.v) rfl (by kernel_rfl) (fun _ _ _ h => h) (fun w' h => run_at3 (n := x) rfl rfl h.1) hHeld ?_
        refine Rg.idleP [4, 5] [(27, .slice (some bd) b.length db), (28, .int .i64 (q : Int))] 4 (by kernel_rfl) (fun _ _ _ _ _ h => h) (by kernel_rfl) (by kernel_rfl) hHeld ?_
        refine Rg.frame _ (by simp only [Rg.puts, Rg.pu, List.set]; rfl) ?_
        refine Rg.tk 6 29 (.pointer (some (bd.add (q * 3)))) rfl (by kernel_rfl) (fun _ _ _ h => h) (fun _ _ => run_idx rfl rfl rfl hqb) hHeld ?_
        refine Rg.tk 7 30 (y.v) rfl (by kernel_rfl) (fun _ _ _ h => h) (fun w' h => run_at3 (n := y) rfl rfl h.2) hHeld ?_
        refine Rg.cl 8 31 rfl (by kernel_rfl) 33 #[x.v, y.v] (by kernel_rfl) (HC.out _) ?_
        rintro _ w4 ⟨rfl, hb4⟩
        have hHeld1 := (⟨hHeld.1.past Hpa.out hb4, hHeld.2.past Hpb.out hb4⟩ : _ ∧ _)
        refine ⟨_, rfl, hHeld1, ?_⟩
        refine Rg.frame _ (by simp only [Rg.pu, List.set]; rfl) ?_
        refine Rg.tk 9 32 (.bool true) rfl (by kernel_rfl) (fun _ _ _ h => h) (fun _ _ => run_gtr_t rfl rfl rfl hKp) hHeld1 ?_
        refine Rg.frame _ (by simp only [Rg.pu, List.set]; rfl) ?_
        refine wpAnyH_done (by kernel_rfl) ?_ _
        refine NoPanic.normal ?_
        have hb5 := Lib.hid (Hb.out.trans ((hb.out.drew.trans (hb4.mono hb.out.drew.size)).mono Hz.out))
        go_wp2_with fail
        go_ret
        exact ⟨ret_bool (by rw [hR.out, leqB_no hqa hqb (by rw [← hx.out, ← hy.out, ← hK.out]; exact hKp)]), hb5.out⟩
    · obtain rfl : q = a.length := by omega
      have Hb9 := Lib.hid (Hb.out.trans (hb.out.mono Hz.out))
      clear hb
      go_wp2_with fail
      go_ret
      exact ⟨ret_bool (by rw [hR.out, leqB_yes (by omega) (fun j h1 h2 => hd.out j h1 h2 h1)]), Hb9.out⟩
end Go.Proofs.Ytiglepmgonmhiaa.Cs
