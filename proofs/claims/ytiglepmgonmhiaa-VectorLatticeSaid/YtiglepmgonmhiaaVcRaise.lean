/- A vector raised by a number. -/
import Derived.Test.YtiglepmgonmhiaaVcRun
namespace Go.Proofs.Ytiglepmgonmhiaa.Cs
open Go.RowKit
set_option linter.unusedVariables false
set_option maxRecDepth 100000

theorem raise_no {l : List Nm} {c : Nm} (h : c.is = false ∨ ((cnt l).length : Int) ≤ c.r) : raise l c = cnt l := by
  unfold raise fits
  rw [if_neg]
  intro h2
  rw [Bool.and_eq_true] at h2
  rcases h with h | h
  · rw [h] at h2; cases h2.1
  · have := of_decide_eq_true h2.2; omega
theorem raise_yes {l : List Nm} {t s : Int} {k : Nat} (h : (Nm.mk t s k).is = true) (hk : k < (cnt l).length) : raise l ⟨t, s, k⟩ = (cnt l).set k (later (cnt l)[k] ⟨t, s, k⟩) := by
  unfold raise fits
  rw [if_pos]
  · show (cnt l).set ((k : Int).toNat) (later (at_ (cnt l) ((k : Int).toNat)) _) = _
    rw [Int.toNat_natCast, at_eq hk]
  · rw [Bool.and_eq_true]
    exact ⟨h, decide_eq_true (by show (k : Int) < _; omega)⟩
theorem is_rep {t s r : Int} (h : (Nm.mk t s r).is = true) : 0 ≤ r ∧ r ≤ 5 := by
  have := isC_true (show isC t s r = true from h)
  omega
set_option maxHeartbeats 1000000 in
theorem Raise_any (A : Option Addr) (c : Nat) (la : List Nm) (ct cs cr : Int) (w : World) (hA : VecIn w A la) : Calls Try.prog 12 #[.slice A la.length c, cv ct cs cr] w fun e w' => ∃ A' c', e = .returned (.slice A' (raise la ⟨ct, cs, cr⟩).length c') ∧ VecIn w' A' (raise la ⟨ct, cs, cr⟩) ∧ Below w.heap.size w w' ∧ (raise la ⟨ct, cs, cr⟩).length ≤ c' ∧ (∀ ad, A' = some ad → w.heap.size < ad.block) := by
  have CO := Lib.hid counted_any
  have CP := Lib.hid copied_any
  have CL := Lib.hid later_any
  have H6 := Lib.hid (cnt_len la)
  obtain ⟨L, hL⟩ : ∃ L, Hid (L = raise la ⟨ct, cs, cr⟩) := ⟨_, rfl⟩
  rw [← hL.out]
  obtain ⟨I, hI⟩ : ∃ I, Hid (I = (Nm.mk ct cs cr).is) := ⟨_, rfl⟩
  have Cx := is_any ct cs cr
  rw [show isC ct cs cr = I from hI.out.symm] at Cx
  have Cx := Lib.hid Cx
  have BX := Blk.new w 25 (gc ct cs cr)
  have HA := Lib.hid (hA.past ((Below.refl _ _).alloc (Nat.le_refl _) (.cells (gc ct cs cr) 25)))
  have hb0 := (Below.refl w.heap.size w).alloc (Nat.le_refl _) (.cells (gc ct cs cr) 25)
  clear hA
  go_enter Try.func12, Try.ntmps12
  go_wp2_with fail
  refine (CO.out A c la _ HA.out).mono ?_
  rintro e w1 ⟨A1, c1, rfl, hA1, hb1⟩
  have HS1 := Lib.hid (show w.heap.size < w1.heap.size by have := hb1.size; simp at this; omega)
  have BX1 := BX.past hb1
  have hb1' := hb0.trans (hb1.mono hb0.size)
  have HA1 := Lib.hid hA1
  clear BX hb0 hb1 hA1 HA CO
  go_wp2_with fail
  refine (CP.out A1 c1 (cnt la) _ HA1.out H6.out).mono ?_
  rintro e w2 ⟨v2, rfl, hO, hb2⟩
  have BX2 := BX1.past hb2
  have Hb := hb1'.trans (hb2.mono hb1'.size)
  clear BX1 hb1' hb2 HA1 CP
  obtain ⟨r0, r1, r2, -, -, -⟩ := box3 BX2
  have HO := Lib.hid hO
  obtain ⟨A2, c2, rfl, hV2⟩ := hO.form
  clear hO
  have HV2 := Lib.hid hV2
  have HK := Lib.hid HO.out.cap
  have HF := Lib.hid (show ∀ ad, A2 = some ad → w.heap.size < ad.block from fun ad h => by
    have h1 := HO.out.lt ad.block (by rw [h]; rfl)
    have h2 := HS1.out
    omega)
  clear hV2
  go_wp2_with fail
  refine (Cx.out _).mono ?_
  rintro e w3 ⟨rfl, hb3⟩
  have BX3 := BX2.past hb3
  have HV3 := Lib.hid (HV2.out.past hb3)
  have HO3 := Lib.hid (HO.out.past hb3)
  have Hb3 := Hb.trans (hb3.mono Hb.size)
  clear BX2 r0 r1 r2 HV2 HO Hb hb3 Cx
  cases I
  · have HE := Lib.hid (hL.out.trans (raise_no (.inl hI.out.symm)))
    go_wp2_with fail
    go_ret
    rw [HE.out]
    exact ⟨_, _, rfl, HV3.out, Hb3, HK.out, HF.out⟩
  by_cases hr : cr < ((cnt la).length : Int)
  · have hrep := is_rep hI.out.symm
    obtain ⟨k, rfl⟩ : ∃ k : Nat, cr = (k : Int) := ⟨cr.toNat, by omega⟩
    have hk : k < (cnt la).length := by omega
    have hE := hL.out.trans (raise_yes hI.out.symm hk)
    clear hL
    generalize cnt la = V at HO3 HV3 hr hk H6 hE HK ⊢
    obtain ⟨g, cap, tl, hv, hg, hc1, hc2, hsz, hB⟩ := HO3.out.blk (by omega)
    injection hv with hv1 hv2 hv3
    subst hv1 hv3
    have hneq : w.heap.size ≠ g := by
      have := HS1.out
      omega
    obtain ⟨x, hx⟩ : ∃ x, Hid (x = V[k]) := ⟨V[k], rfl⟩
    have hX := row_at3 hB hk
    rw [← hx.out] at hX
    obtain ⟨l0, hl0⟩ : ∃ y, Hid (y = later x ⟨ct, cs, (k : Int)⟩) := ⟨_, rfl⟩
    rw [← hx.out, ← hl0.out] at hE
    have HE := Lib.hid hE
    have CLx := CL.out x ⟨ct, cs, (k : Int)⟩
    rw [← hl0.out] at CLx
    have HC := Lib.hid CLx
    obtain ⟨r0, r1, r2, -, -, -⟩ := box3 BX3
    have HX := Lib.hid hX
    have HB := Lib.hid hB
    clear hE CL CLx hsz hc1 hc2 hv2 HV3 HO3 hX hB
    go_wp2_with fail
    refine wp_region_noPanic ?_
    refine wp_region_held_drew (S := fun w' => Blk w' w.heap.size 25 (gc ct cs (k : Int))) (by kernel_rfl) BX3.drew (fun hHeld => ?_)
    refine Rg.idleP [0] [(18, .slice (some ⟨g, 0, none⟩) V.length c2)] 11 (by kernel_rfl) (fun _ _ _ _ _ h => h) (by kernel_rfl) (by kernel_rfl) hHeld ?_
    refine Rg.frame _ (by simp only [Rg.puts, Rg.pu, List.set]; rfl) ?_
    refine Rg.tk 1 19 (.pointer (some ⟨w.heap.size, 2, none⟩)) rfl (by kernel_rfl) (fun _ _ _ h => h) (fun _ _ => by kernel_rfl) hHeld ?_
    refine Rg.tk 2 20 (.int .i64 (k : Int)) rfl (by kernel_rfl) (fun _ _ _ h => h) (fun w' h => run_cell rfl rfl (by kernel_rfl) (h.cell 2)) hHeld ?_
    refine Rg.idleP [3] [(21, .slice (some ⟨g, 0, none⟩) V.length c2)] 8 (by kernel_rfl) (fun _ _ _ _ _ h => h) (by kernel_rfl) (by kernel_rfl) hHeld ?_
    refine Rg.frame _ (by simp only [Rg.puts, Rg.pu, List.set]; rfl) ?_
    refine Rg.tk 4 22 (.pointer (some ⟨w.heap.size, 2, none⟩)) rfl (by kernel_rfl) (fun _ _ _ h => h) (fun _ _ => by kernel_rfl) hHeld ?_
    refine Rg.tk 5 23 (.int .i64 (k : Int)) rfl (by kernel_rfl) (fun _ _ _ h => h) (fun w' h => run_cell rfl rfl (by kernel_rfl) (h.cell 2)) hHeld ?_
    refine Rg.tk 6 24 (.pointer (some ⟨g, k * 3, none⟩)) rfl (by kernel_rfl) (fun _ _ _ h => h) (fun _ _ => run_idx0 rfl rfl rfl hk) hHeld ?_
    refine Rg.frame _ (by simp only [Rg.pu, List.set]; rfl) ?_
    refine Rg.tk 8 26 (.agg (gc ct cs (k : Int))) rfl (by kernel_rfl) (fun _ _ _ h => h) (fun w' h => run_at3 (n := ⟨ct, cs, (k : Int)⟩) rfl rfl (box_at3 h)) hHeld ?_
    refine Rg.rn 7 25 (x.v) _ rfl (by kernel_rfl) (run_at3 (n := x) rfl rfl HX.out) hHeld ?_
    refine Rg.cl 9 27 rfl (by kernel_rfl) 30 #[x.v, .agg (gc ct cs (k : Int))] (by kernel_rfl) (HC.out _) ?_
    rintro _ w4 ⟨rfl, hb4⟩
    have hHeld1 := hHeld.past hb4
    refine ⟨_, rfl, hHeld1, ?_⟩
    refine Rg.frame _ (by simp only [Rg.pu, List.set]; rfl) ?_
    have B4 := HB.out.drew.past hb4
    refine Rg.tk 10 28 (.pointer (some ⟨g, k * 3, none⟩)) rfl (by kernel_rfl) (fun _ _ _ h => h) (fun _ _ => run_idx0 rfl rfl rfl hk) hHeld1 ?_
    have hS9 := store3_far hHeld1 hneq k l0
    refine Rg.sk 11 _ rfl (by kernel_rfl) (run_store3 rfl rfl rfl B4 hk) hS9 ?_
    refine Rg.frame _ (by simp only [Rg.pu, List.set]; rfl) ?_
    refine wpAnyH_done (by kernel_rfl) ?_ _
    refine NoPanic.normal ?_
    have hb5 := store3_below (Hb3.drew.trans (hb4.mono Hb3.drew.size)) (show w.heap.size ≤ g by have := HS1.out; omega) k l0
    have hV5 := VecIn.row (store3_blk B4 hk l0)
    rw [← HE.out] at hV5
    have hlen : V.length = L.length := by rw [HE.out]; simp
    have HV5 := Lib.hid hV5
    have HL := Lib.hid hlen
    clear hV5 hlen hS9 B4
    go_wp2_with fail
    go_ret
    refine ⟨some ⟨g, 0, none⟩, c2, ?_, HV5.out, hb5, by rw [← HL.out]; exact HK.out, HF.out⟩
    rw [← HL.out]
    rfl
  · have HE := Lib.hid (hL.out.trans (raise_no (.inr (by show _ ≤ cr; omega))))
    have hr2 : ((cnt la).length : Int) ≤ cr := by omega
    clear hr
    obtain ⟨r0, r1, r2, -, -, -⟩ := box3 BX3
    go_wp2_with fail
    go_ret
    rw [HE.out]
    exact ⟨_, _, rfl, HV3.out, Hb3, HK.out, HF.out⟩
set_option maxHeartbeats 1000000 in
theorem rRaise_any (A : Option Addr) (c : Nat) (la : List Nm) (ct cs cr : Int) (w : World) (hA : VecIn w A la) (hl : la.length ≤ 1000) : Calls Try.prog 13 #[.slice A la.length c, cv ct cs cr] w fun e w' => ∃ A' c', e = .returned (.slice A' (raise la ⟨ct, cs, cr⟩).length c') ∧ VecIn w' A' (raise la ⟨ct, cs, cr⟩) ∧ Below w.heap.size w w' ∧ (raise la ⟨ct, cs, cr⟩).length ≤ c' ∧ (∀ ad, A' = some ad → w.heap.size < ad.block) := by
  have CO := Lib.hid (fun w hA => Own_any A c la w hA hl)
  have CL := Lib.hid greater_any
  have H6 := Lib.hid (cnt_len la)
  obtain ⟨L, hL⟩ : ∃ L, Hid (L = raise la ⟨ct, cs, cr⟩) := ⟨_, rfl⟩
  rw [← hL.out]
  obtain ⟨I, hI⟩ : ∃ I, Hid (I = (Nm.mk ct cs cr).is) := ⟨_, rfl⟩
  have Cx := ris_any ct cs cr
  rw [show isC ct cs cr = I from hI.out.symm] at Cx
  have Cx := Lib.hid Cx
  have BX := Blk.new w 25 (gc ct cs cr)
  have HA := Lib.hid (hA.past ((Below.refl _ _).alloc (Nat.le_refl _) (.cells (gc ct cs cr) 25)))
  have hb0 := (Below.refl w.heap.size w).alloc (Nat.le_refl _) (.cells (gc ct cs cr) 25)
  clear hA hl
  go_enter Try.func13, Try.ntmps13
  go_wp2_with fail
  refine (CO.out _ HA.out).mono ?_
  rintro e w2 ⟨v2, rfl, hO, hb1⟩
  have HS1 := Lib.hid (show w.heap.size < (w.alloc (.cells (gc ct cs cr) 25)).heap.size by simp)
  have BX2 := BX.past hb1
  have Hb := hb0.trans (hb1.mono hb0.size)
  clear BX hb0 hb1 HA CO
  obtain ⟨r0, r1, r2, -, -, -⟩ := box3 BX2
  have HO := Lib.hid hO
  obtain ⟨A2, c2, rfl, hV2⟩ := hO.form
  clear hO
  have HV2 := Lib.hid hV2
  have HK := Lib.hid HO.out.cap
  have HF := Lib.hid (show ∀ ad, A2 = some ad → w.heap.size < ad.block from fun ad h => by
    have h1 := HO.out.lt ad.block (by rw [h]; rfl)
    have h2 := HS1.out
    omega)
  clear hV2
  go_wp2_with fail
  refine (Cx.out _).mono ?_
  rintro e w3 ⟨rfl, hb3⟩
  have BX3 := BX2.past hb3
  have HV3 := Lib.hid (HV2.out.past hb3)
  have HO3 := Lib.hid (HO.out.past hb3)
  have Hb3 := Hb.trans (hb3.mono Hb.size)
  clear BX2 r0 r1 r2 HV2 HO Hb hb3 Cx
  cases I
  · have HE := Lib.hid (hL.out.trans (raise_no (.inl hI.out.symm)))
    go_wp2_with fail
    go_ret
    rw [HE.out]
    exact ⟨_, _, rfl, HV3.out, Hb3, HK.out, HF.out⟩
  by_cases hr : cr < ((cnt la).length : Int)
  · have hrep := is_rep hI.out.symm
    obtain ⟨k, rfl⟩ : ∃ k : Nat, cr = (k : Int) := ⟨cr.toNat, by omega⟩
    have hk : k < (cnt la).length := by omega
    have hE := hL.out.trans (raise_yes hI.out.symm hk)
    clear hL
    generalize cnt la = V at HO3 HV3 hr hk H6 hE HK ⊢
    obtain ⟨g, cap, tl, hv, hg, hc1, hc2, hsz, hB⟩ := HO3.out.blk (by omega)
    injection hv with hv1 hv2 hv3
    subst hv1 hv3
    have hneq : w.heap.size ≠ g := by
      have := HS1.out
      omega
    obtain ⟨x, hx⟩ : ∃ x, Hid (x = V[k]) := ⟨V[k], rfl⟩
    have hX := row_at3 hB hk
    rw [← hx.out] at hX
    obtain ⟨l0, hl0⟩ : ∃ y, Hid (y = later x ⟨ct, cs, (k : Int)⟩) := ⟨_, rfl⟩
    rw [← hx.out, ← hl0.out] at hE
    have HE := Lib.hid hE
    have CLx := CL.out x ⟨ct, cs, (k : Int)⟩
    rw [← hl0.out] at CLx
    have HC := Lib.hid CLx
    obtain ⟨r0, r1, r2, -, -, -⟩ := box3 BX3
    have HX := Lib.hid hX
    have HB := Lib.hid hB
    clear hE CL CLx hsz hc1 hc2 hv2 HV3 HO3 hX hB
    go_wp2_with fail
    refine wp_region_noPanic ?_
    refine wp_region_held_drew (S := fun w' => Blk w' w.heap.size 25 (gc ct cs (k : Int))) (by kernel_rfl) BX3.drew (fun hHeld => ?_)
    refine Rg.idleP [0] [(17, .slice (some ⟨g, 0, none⟩) V.length c2)] 11 (by kernel_rfl) (fun _ _ _ _ _ h => h) (by kernel_rfl) (by kernel_rfl) hHeld ?_
    refine Rg.frame _ (by simp only [Rg.puts, Rg.pu, List.set]; rfl) ?_
    refine Rg.tk 1 18 (.pointer (some ⟨w.heap.size, 2, none⟩)) rfl (by kernel_rfl) (fun _ _ _ h => h) (fun _ _ => by kernel_rfl) hHeld ?_
    refine Rg.tk 2 19 (.int .i64 (k : Int)) rfl (by kernel_rfl) (fun _ _ _ h => h) (fun w' h => run_cell rfl rfl (by kernel_rfl) (h.cell 2)) hHeld ?_
    refine Rg.idleP [3] [(20, .slice (some ⟨g, 0, none⟩) V.length c2)] 8 (by kernel_rfl) (fun _ _ _ _ _ h => h) (by kernel_rfl) (by kernel_rfl) hHeld ?_
    refine Rg.frame _ (by simp only [Rg.puts, Rg.pu, List.set]; rfl) ?_
    refine Rg.tk 4 21 (.pointer (some ⟨w.heap.size, 2, none⟩)) rfl (by kernel_rfl) (fun _ _ _ h => h) (fun _ _ => by kernel_rfl) hHeld ?_
    refine Rg.tk 5 22 (.int .i64 (k : Int)) rfl (by kernel_rfl) (fun _ _ _ h => h) (fun w' h => run_cell rfl rfl (by kernel_rfl) (h.cell 2)) hHeld ?_
    refine Rg.tk 6 23 (.pointer (some ⟨g, k * 3, none⟩)) rfl (by kernel_rfl) (fun _ _ _ h => h) (fun _ _ => run_idx0 rfl rfl rfl hk) hHeld ?_
    refine Rg.frame _ (by simp only [Rg.pu, List.set]; rfl) ?_
    refine Rg.tk 8 25 (.agg (gc ct cs (k : Int))) rfl (by kernel_rfl) (fun _ _ _ h => h) (fun w' h => run_at3 (n := ⟨ct, cs, (k : Int)⟩) rfl rfl (box_at3 h)) hHeld ?_
    refine Rg.rn 7 24 (x.v) _ rfl (by kernel_rfl) (run_at3 (n := x) rfl rfl HX.out) hHeld ?_
    refine Rg.cl 9 26 rfl (by kernel_rfl) 31 #[x.v, .agg (gc ct cs (k : Int))] (by kernel_rfl) (HC.out _) ?_
    rintro _ w4 ⟨rfl, hb4⟩
    have hHeld1 := hHeld.past hb4
    refine ⟨_, rfl, hHeld1, ?_⟩
    refine Rg.frame _ (by simp only [Rg.pu, List.set]; rfl) ?_
    have B4 := HB.out.drew.past hb4
    refine Rg.tk 10 27 (.pointer (some ⟨g, k * 3, none⟩)) rfl (by kernel_rfl) (fun _ _ _ h => h) (fun _ _ => run_idx0 rfl rfl rfl hk) hHeld1 ?_
    have hS9 := store3_far hHeld1 hneq k l0
    refine Rg.sk 11 _ rfl (by kernel_rfl) (run_store3 rfl rfl rfl B4 hk) hS9 ?_
    refine Rg.frame _ (by simp only [Rg.pu, List.set]; rfl) ?_
    refine wpAnyH_done (by kernel_rfl) ?_ _
    refine NoPanic.normal ?_
    have hb5 := store3_below (Hb3.drew.trans (hb4.mono Hb3.drew.size)) (show w.heap.size ≤ g by have := HS1.out; omega) k l0
    have hV5 := VecIn.row (store3_blk B4 hk l0)
    rw [← HE.out] at hV5
    have hlen : V.length = L.length := by rw [HE.out]; simp
    have HV5 := Lib.hid hV5
    have HL := Lib.hid hlen
    clear hV5 hlen hS9 B4
    go_wp2_with fail
    go_ret
    refine ⟨some ⟨g, 0, none⟩, c2, ?_, HV5.out, hb5, by rw [← HL.out]; exact HK.out, HF.out⟩
    rw [← HL.out]
    rfl
  · have HE := Lib.hid (hL.out.trans (raise_no (.inr (by show _ ≤ cr; omega))))
    have hr2 : ((cnt la).length : Int) ≤ cr := by omega
    clear hr
    obtain ⟨r0, r1, r2, -, -, -⟩ := box3 BX3
    go_wp2_with fail
    go_ret
    rw [HE.out]
    exact ⟨_, _, rfl, HV3.out, Hb3, HK.out, HF.out⟩
end Go.Proofs.Ytiglepmgonmhiaa.Cs
