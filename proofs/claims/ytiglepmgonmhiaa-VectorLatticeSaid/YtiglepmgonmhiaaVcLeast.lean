/- The least number of a vector. -/
import Derived.Test.YtiglepmgonmhiaaVcRun
import Derived.Test.YtiglepmgonmhiaaVcEq
namespace Go.Proofs.Ytiglepmgonmhiaa.Cs
open Go.RowKit
set_option linter.unusedVariables false
set_option maxRecDepth 100000

/-- The least of the first p. -/
def acc (V : List Nm) (p : Nat) : Nm := ((V.drop 1).take (p - 1)).foldl earlier (at_ V 0)
theorem acc_one (V : List Nm) : acc V 1 = at_ V 0 := by simp [acc]
theorem acc_step {V : List Nm} {p : Nat} (h1 : 1 ≤ p) (hp : p < V.length) : acc V (p + 1) = earlier (acc V p) V[p] := by
  unfold acc
  have h : p - 1 < (V.drop 1).length := by rw [List.length_drop]; omega
  rw [show p + 1 - 1 = (p - 1) + 1 by omega, List.take_succ_eq_append_getElem h, List.foldl_append]
  have : (V.drop 1)[p - 1] = V[p] := by
    rw [List.getElem_drop]
    congr 1
    omega
  rw [this]
  rfl
theorem acc_all {v : List Nm} (h : 0 < (cnt v).length) : acc (cnt v) (cnt v).length = least v := by
  unfold least acc
  generalize cnt v = V at *
  cases V with
  | nil => simp at h
  | cons x l =>
    simp only [List.drop_one, List.tail_cons, List.length_cons, Nat.add_sub_cancel, List.take_length]
    rfl
theorem least_none {v : List Nm} (h : (cnt v).length = 0) : least v = Nm.zero := by
  unfold least
  rw [List.eq_nil_of_length_eq_zero h]
theorem VecIn.tail {w : World} {ad : Addr} {V : List Nm} (h : VecIn w (some ad) V) : VecIn w (some (ad.add 3)) (V.drop 1) := by
  intro h0
  rw [List.length_drop] at h0
  obtain ⟨ad', e, hp, hc⟩ := h (by omega)
  injection e with e
  subst e
  refine ⟨_, rfl, by rw [block_of_add]; exact hp, fun i hi j u hu => ?_⟩
  rw [add_of_add]
  have hi' : 1 + i < V.length := by rw [List.length_drop] at hi; omega
  have := hc (1 + i) hi' j u (by rw [List.getElem_drop] at hu; exact hu)
  rw [← this]
  congr 2
  omega
theorem counted_cap (A : Option Addr) (c : Nat) (l : List Nm) (w : World) (hV : VecIn w A l) (hc : l.length ≤ c) : Calls Try.prog 29 #[.slice A l.length c] w fun e w' => ∃ A' c', e = .returned (.slice A' (cnt l).length c') ∧ VecIn w' A' (cnt l) ∧ Below w.heap.size w w' ∧ (cnt l).length ≤ c' := by
  have C := Is_any A c l
  have HV := Lib.hid hV
  have Hc := Lib.hid hc
  by_cases hI : isV l = true
  · rw [hI] at C
    rw [cnt_of hI]
    have C := Lib.hid C
    clear hI hV hc
    go_enter Try.func29, Try.ntmps29
    go_wp2_with fail
    refine (C.out _ HV.out).mono ?_
    rintro e w1 ⟨rfl, hb⟩
    go_wp2_with fail
    go_ret
    exact ⟨_, _, rfl, HV.out.past hb, hb, Hc.out⟩
  · have hI : isV l = false := by simpa using hI
    rw [hI] at C
    rw [cnt_no hI]
    have C := Lib.hid C
    clear hI hV hc
    go_enter Try.func29, Try.ntmps29
    go_wp2_with fail
    refine (C.out _ HV.out).mono ?_
    rintro e w1 ⟨rfl, hb⟩
    go_wp2_with fail
    go_ret
    exact ⟨_, _, rfl, VecIn.nil _ _, hb, Nat.le_refl _⟩
set_option maxHeartbeats 1000000 in
theorem Least_any (A : Option Addr) (c : Nat) (la : List Nm) (w : World) (hA : VecIn w A la) (hc : la.length ≤ c) : Calls Try.prog 22 #[.slice A la.length c] w fun e w' => e = .returned (least la).v ∧ Below w.heap.size w w' := by
  have CO := Lib.hid (fun w hA => counted_cap A c la w hA hc)
  have CE := Lib.hid earlier_any
  have H6 := cnt_len la
  obtain ⟨L, hL⟩ : ∃ L, Hid (L = least la) := ⟨_, rfl⟩
  rw [← hL.out]
  have BR := Blk.new w 25 (gc 0 0 0)
  have HA := Lib.hid (hA.past ((Below.refl _ _).alloc (Nat.le_refl _) (.cells (gc 0 0 0) 25)))
  have hb0 := (Below.refl w.heap.size w).alloc (Nat.le_refl _) (.cells (gc 0 0 0) 25)
  clear hA hc
  go_enter Try.func22, Try.ntmps22
  go_wp2_with fail
  refine (CO.out _ HA.out).mono ?_
  rintro e w1 ⟨AA, ca, rfl, hV, hb1, hca⟩
  have R1 := BR.past hb1
  have Hb := Lib.hid (hb0.trans (hb1.mono hb0.size))
  have Hbs := Lib.hid (show w.heap.size < w1.heap.size by have := hb1.size; simp at this; omega)
  have HV := Lib.hid hV
  clear BR hb0 hb1 hV HA CO
  by_cases h0 : (cnt la).length = 0
  · have HE := Lib.hid (hL.out.trans (least_none h0))
    have h00 : (((cnt la).length : Int) == 0) = true := by simp [h0]
    obtain ⟨r0, r1, r2, s0, s1, s2⟩ := box3 R1
    go_wp2_with fail
    rw [HE.out]
    exact bodyPost_ret (res_num rfl _ _ w.heap.size _ _ _ rfl (R1.set3 _ _ _)) rfl ⟨rfl, below3 Hb.out (Nat.le_refl _) _ _ _⟩
  have hall := acc_all (v := la) (by omega)
  have HL := Lib.hid (hall.trans hL.out.symm)
  clear hall hL
  generalize cnt la = V at *
  have hpos : 0 < V.length := by omega
  have h00 : ((V.length : Int) == 0) = false := beq_eq_false_iff_ne.2 (by omega)
  obtain ⟨ad, rfl, hp, f0, f1, f2⟩ := HV.out.cells hpos
  rw [Nat.zero_mul] at f0 f1 f2
  have had : ad.add 0 = ad := by simp [Addr.add]
  rw [had] at f0 f1 f2
  obtain ⟨x, hx⟩ : ∃ x, Hid (x = V[0]) := ⟨V[0], rfl⟩
  rw [← hx.out] at f0 f1 f2
  have H1 := Lib.hid (show acc V 1 = x by rw [acc_one, at_eq hpos, hx.out])
  have BL := Blk.new w1 25 (gc x.t x.s x.r)
  have hbl := (Below.refl w1.heap.size w1).alloc (Nat.le_refl _) (.cells (gc x.t x.s x.r) 25)
  have R2 := Lib.hid R1
  clear R1
  by_cases hc1 : ca = 1
  · subst hc1
    have hV1 : V.length = 1 := by omega
    have HE := Lib.hid (show L = x by rw [← HL.out, hV1]; exact H1.out)
    have RB := Lib.hid (R2.out.past hbl)
    have HbB := Lib.hid (Hb.out.trans (hbl.mono (Nat.le_of_lt Hbs.out)))
    go_wp2_with fail
    go_loopw [18] (fun i wr => i = .int .i64 0 ∧ Hid (wr = w1.alloc (.cells (gc x.t x.s x.r) 25))) (fun i wr => 0)
    case atStart => exact ⟨rfl, rfl⟩
    case round =>
      obtain ⟨rfl, hw⟩ := hrel
      have hw := hw.out
      subst hw
      obtain ⟨r0, r1, r2, s0, s1, s2⟩ := box3 RB.out
      obtain ⟨l0, l1, l2, -, -, -⟩ := box3 BL
      go_wp2_with fail
      rw [HE.out]
      exact bodyPost_ret (res_num rfl _ _ w.heap.size _ _ _ rfl (RB.out.set3 _ _ _)) rfl ⟨rfl, below3 HbB.out (Nat.le_refl _) _ _ _⟩
  · have HT := Lib.hid (HV.out.tail)
    go_wp2_with fail
    go_loopw [18] (fun i wr => ∃ (q : Nat), q ≤ V.length - 1 ∧ i = .int .i64 (q : Int) ∧ Hid (Blk wr w1.heap.size 25 (gc (acc V (q + 1)).t (acc V (q + 1)).s (acc V (q + 1)).r)) ∧ Hid (Below w1.heap.size w1 wr)) (fun i wr => V.length - 1 - (intOf i).toNat)
    case atStart => exact ⟨0, by omega, rfl, by show Blk _ _ _ _; rw [H1.out]; exact BL, hbl⟩
    case round =>
      obtain ⟨q, hq, rfl, hB, hb⟩ := hrel
      clear f0 f1 f2
      have hbs := hb.out.size
      have hsz := Hbs.out
      by_cases hlt : q < V.length - 1
      · have hlt2 : (q : Int) < ↑(V.length - 1) := by omega
        have hqv : q + 1 < V.length := by omega
        have hq6 : (q : Int) < 6 := by omega
        obtain ⟨ad', had', hp', g0, g1, g2⟩ := (HT.out.past hb.out).cells (i := q) (by rw [List.length_drop]; exact hlt)
        injection had' with had'
        subst had'
        obtain ⟨y, hy⟩ : ∃ y, Hid (y = V[q + 1]) := ⟨V[q + 1], rfl⟩
        have hyd : (V.drop 1)[q]'(by rw [List.length_drop]; exact hlt) = y := by
          rw [List.getElem_drop, hy.out]
          congr 1
          omega
        rw [hyd] at g0 g1 g2
        rw [show ad.add 3 = ⟨ad.block, ad.off + 3, none⟩ by simp [Addr.add]] at g0 g1 g2
        simp only [Addr.add_lit] at g0 g1 g2
        obtain ⟨z, hz⟩ : ∃ z, Hid (z = acc V (q + 1)) := ⟨_, rfl⟩
        rw [← hz.out] at hB
        obtain ⟨l0, hl0⟩ : ∃ l0, Hid (l0 = earlier z y) := ⟨_, rfl⟩
        have CLx := CE.out z y
        rw [← hl0.out] at CLx
        have HC := Lib.hid CLx
        have HN := Lib.hid (show acc V (q + 1 + 1) = l0 by rw [acc_step (by omega) hqv, hl0.out, hz.out, hy.out])
        have hal := (Below.refl wr.heap.size wr).alloc (Nat.le_refl _) (.cells (gc y.t y.s y.r) 25)
        have BZ := hB.out.past hal
        have BY := Blk.new wr 25 (gc y.t y.s y.r)
        have HbA := Lib.hid (hb.out.alloc hbs (.cells (gc y.t y.s y.r) 25))
        obtain ⟨z0, z1, z2, -, -, -⟩ := box3 BZ
        clear CLx hal hyd hB hb
        go_wp2_with fail
        refine (HC.out _).mono ?_
        rintro e w4 ⟨rfl, hb4⟩
        have BZ4 := BZ.past hb4
        have Hb4 := Lib.hid (HbA.out.trans (hb4.mono HbA.out.size))
        obtain ⟨p0, p1, p2, t0, t1, t2⟩ := box3 BZ4
        clear z0 z1 z2 g0 g1 g2 BZ BY HbA hb4
        go_wp2_with fail
        go_roundw
        case rel => exact ⟨q + 1, by omega, by go_num, by show Blk _ _ _ _; rw [HN.out]; exact BZ4.set3 _ _ _, by show Below _ _ _; exact below3 Hb4.out (Nat.le_refl _) _ _ _⟩
        case measure => simp [intOf]; omega
      · have hqe : q + 1 = V.length := by omega
        rw [hqe, HL.out] at hB
        have hq2 : ((V.length - 1 : Nat) : Int) ≤ q := by omega
        have RB := R2.out.past hb.out
        obtain ⟨r0, r1, r2, s0, s1, s2⟩ := box3 RB
        obtain ⟨l0, l1, l2, -, -, -⟩ := box3 hB.out
        have HbB := Lib.hid (Hb.out.trans (hb.out.mono (Nat.le_of_lt Hbs.out)))
        clear hb
        go_wp2_with fail
        exact bodyPost_ret (res_num rfl _ _ w.heap.size _ _ _ rfl (RB.set3 _ _ _)) rfl ⟨rfl, below3 HbB.out (Nat.le_refl _) _ _ _⟩
end Go.Proofs.Ytiglepmgonmhiaa.Cs
