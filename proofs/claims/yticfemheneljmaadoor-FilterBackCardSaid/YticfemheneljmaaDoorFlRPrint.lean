/- What the reference's Print answers, of what is formed as a filter is. -/
import Derived.Test.YticfemheneljmaaDoorFlPrint
import Derived.Test.YticfemheneljmaaDoorFlREsc
namespace Go.Proofs.YticfemheneljmaaDoor.Fi
open Go.RowKit
set_option linter.unusedVariables false
set_option maxRecDepth 100000

theorem prs_take {l : List Fil} {i : Nat} (h : i < l.length) : prs (l.take (i + 1)) = prs (l.take i) ++ pr l[i] := by
  rw [List.take_succ_eq_append_getElem h, prs_app, prs, prs, List.append_nil]
theorem prs_take_le (l : List Fil) (i : Nat) : (prs (l.take i)).length ≤ (prs l).length := by
  have := prs_app (l.take i) (l.drop i)
  rw [List.take_append_drop] at this
  rw [this, List.length_append]; omega
theorem mk_size (l : List UInt8) : (Nm.mk l).size = l.length := rfl
theorem mk_app (x y : List UInt8) : Nm.mk x ++ Nm.mk y = Nm.mk (x ++ y) := by rw [ByteArray.mk_append_mk]
theorem txt3 (a E : ByteArray) (s : List UInt8) : (⟨#[40]⟩ : ByteArray) ++ a ++ Nm.mk s ++ E ++ ⟨#[41]⟩ = Nm.mk (40 :: (Nm.bs a ++ (s ++ (Nm.bs E ++ [41])))) := by
  rw [← mk_bs ((⟨#[40]⟩ : ByteArray) ++ a ++ Nm.mk s ++ E ++ ⟨#[41]⟩), bs_app, bs_app, bs_app, bs_app]
  simp only [List.append_assoc]
  rfl
theorem txt2 (a : ByteArray) : (⟨#[40]⟩ : ByteArray) ++ a ++ ⟨#[61, 42, 41]⟩ = Nm.mk (40 :: (Nm.bs a ++ [61, 42, 41])) := by
  rw [← mk_bs ((⟨#[40]⟩ : ByteArray) ++ a ++ ⟨#[61, 42, 41]⟩), bs_app, bs_app]
  simp only [List.append_assoc]
  rfl
/-- The Subs ahead of a place. -/
theorem subs_more {ss : List ByteArray} {q : Nat} (h : q < ss.length) : subsFrom ss q = (if q = 0 then [] else [42]) ++ (esc (Nm.bs ss[q]) ++ subsFrom ss (q + 1)) := by
  by_cases hq : q = 0
  · rw [if_pos hq, subs_one h hq]; rfl
  · rw [if_neg hq, subs_next h hq]; rfl
def SaidRPr (f : Fil) : Prop := ∀ (x0 x1 x2 x3 x4 : Value) (w : World), frm f = true → (pr f).length ≤ 10000000 → Lies w (· < w.heap.size) f [x0, x1, x2, x3, x4] →
    Calls Tryd.prog 11 #[.agg #[x0, x1, x2, x3, x4]] w fun e w' => e = .returned (.string (Nm.mk (pr f))) ∧ Below w.heap.size w w'
set_option maxHeartbeats 4000000 in
theorem rpr_any (f : Fil) : SaidRPr f := by
  refine ind ?_ f
  intro k a v ss ks ih x0 x1 x2 x3 x4 w hf hlen hL
  obtain ⟨S, sc, A, c, ds, hcs, ha, hv, hsl, hsc, hs, hss, hl, hcl, hK⟩ := hL.open_
  simp only [List.cons.injEq, and_true] at hcs
  obtain ⟨rfl, rfl, rfl, rfl, rfl⟩ := hcs
  unfold maxLen at hl hsl
  have hpr : pr (.mk k a v ss ks) = 40 :: (Nm.bs a ++ (sign k ++ (prs ks ++ (parts ss ++ (esc (Nm.bs v) ++ ((if k = 7 then [42] else []) ++ [41])))))) := rfl
  have HP := Lib.hid hpr
  have hlen2 : 1 + (a.size + ((sign k).length + ((prs ks).length + ((parts ss).length + ((esc (Nm.bs v)).length + (((if k = 7 then [42] else []) : List UInt8).length + 1)))))) ≤ 10000000 := by
    rw [hpr] at hlen
    simp only [List.length_cons, List.length_append, List.length_nil] at hlen
    have : (Nm.bs a).length = a.size := rfl
    omega
  have hks : ∀ f ∈ ks, frm f = true := by
    intro f hf2
    by_cases hk : 1 ≤ k ∧ k ≤ 3
    · rw [frm_kids hk] at hf
      simp only [Bool.and_eq_true, decide_eq_true_eq] at hf
      exact frms_mem hf.2.2.2.2 hf2
    · exfalso
      by_cases hk8 : 4 ≤ k ∧ k ≤ 8
      · rw [frm_item hk8] at hf
        simp only [Bool.and_eq_true, decide_eq_true_eq] at hf
        rw [List.eq_nil_of_length_eq_zero hf.2.1] at hf2
        cases hf2
      · rw [frm_none (by omega)] at hf; cases hf
  have Ih := Lib.hid ih
  have HK := Lib.hid hks
  have HF := Lib.hid hf
  clear ih hks hf hL hpr hlen hss
  go_enter Tryd.func11, Tryd.ntmps11
  go_wp2_with fail
  go_loopw [3, 4] (fun b i wr => ∃ (q : Nat) (T : ByteArray), q ≤ ks.length ∧ i = .int .i64 q ∧ b = .string T ∧ Hid (Nm.bs T = prs (ks.take q)) ∧ Blk wr w.heap.size 25 #[.int .i64 k, .string a, .string v, .slice S ss.length sc, .slice A ks.length c] ∧ Below w.heap.size w wr) (fun b i wr => ks.length - (intOf i).toNat)
  case atStart => exact ⟨0, ⟨#[]⟩, Nat.zero_le _, rfl, rfl, rfl, Blk.new _ _ _, (Below.refl _ _).alloc (Nat.le_refl _) _⟩
  case round =>
    obtain ⟨q, T, hq, rfl, rfl, hE, B, hb⟩ := hrel
    have hs1 := hb.size
    have hblt := B.lt
    obtain ⟨c0, c1, c2, c3, c4⟩ := five B
    have hTz : T.size = (prs (ks.take q)).length := by rw [← hE.out]; rfl
    by_cases hlt : q < ks.length
    · obtain ⟨ad, k', a', v', S', m', d', A', n', c', rfl, hp, f0, f1, f2, f3, f4, hL⟩ := hK.kid hb hlt
      have hT := prs_take hlt
      have hTl := prs_take_le ks (q + 1)
      rw [hT, List.length_append, ← hTz] at hTl
      rw [← hE.out] at hT
      have H := Ih.out _ (List.getElem_mem hlt) _ _ _ _ _ wr (HK.out _ (List.getElem_mem hlt)) (by omega) hL
      obtain ⟨U, hU⟩ : ∃ U, U = Nm.mk (pr ks[q]) := ⟨_, rfl⟩
      have hUz : U.size = (pr ks[q]).length := by rw [hU]; rfl
      rw [← hU] at H
      have hTU : Nm.bs (T ++ U) = prs (ks.take (q + 1)) := by rw [bs_app, hT, hU]
      have hno : ¬ (9223372036854775807 < T.size + U.size) := by omega
      have HH := Lib.hid H
      have HTU := Lib.hid hTU
      clear hE H hL hT hU hTz hTl hUz hTU
      go_wp2_with fail
      refine HH.out.mono ?_
      rintro e w4 ⟨rfl, hb4⟩
      have B4 := B.past hb4
      have hb5 := hb.trans (hb4.mono hs1)
      go_wp2_with fail
      refine ⟨⟨q + 1, _, by omega, by go_num, rfl, HTU.out, B4, hb5⟩, by simp [intOf]; omega⟩
    · have hE2 := hE.out
      rw [List.take_of_length_le (by omega)] at hE2 hTz
      have HT := Lib.hid hE2
      have hfr := HF.out
      clear hE hE2
      by_cases hk : 1 ≤ k ∧ k ≤ 3
      · rw [frm_kids hk] at hfr
        simp only [Bool.and_eq_true, decide_eq_true_eq] at hfr
        obtain ⟨_, ha0, hv0, hs0, _⟩ := hfr
        have hno1 : ¬ (9223372036854775807 < 2 + T.size) := by omega
        have hno2 : ¬ (9223372036854775807 < 2 + T.size + 1) := by omega
        have hR : ∀ s0, sign k = [s0] → pr (.mk k a v ss ks) = Nm.bs ((⟨#[40, s0]⟩ : ByteArray) ++ T ++ ⟨#[41]⟩) := fun s0 h0 => by
          rw [HP.out, h0, bs_app, bs_app, HT.out, show Nm.bs a = [] from List.eq_nil_of_length_eq_zero ha0, show Nm.bs v = [] from List.eq_nil_of_length_eq_zero hv0, List.eq_nil_of_length_eq_zero hs0, if_neg (show k ≠ 7 by omega)]
          simp only [parts, esc, List.flatMap_nil, List.nil_append, List.append_assoc]
          rfl
        have HR := Lib.hid hR
        have hk1 : k = 1 ∨ k = 2 ∨ k = 3 := by omega
        clear hR hk ha0 hv0 hs0 hTz
        rcases hk1 with rfl | rfl | rfl
        · go_wp2_with fail
          go_ret
          refine ⟨ret_str ?_, hb⟩
          rw [HR.out 38 rfl]
        · go_wp2_with fail
          go_ret
          refine ⟨ret_str ?_, hb⟩
          rw [HR.out 124 rfl]
        · go_wp2_with fail
          go_ret
          refine ⟨ret_str ?_, hb⟩
          rw [HR.out 33 rfl]
      have hk8 : 4 ≤ k ∧ k ≤ 8 := by
        apply Classical.byContradiction
        intro h
        rw [frm_none (by omega)] at hfr; cases hfr
      rw [frm_item hk8] at hfr
      simp only [Bool.and_eq_true, decide_eq_true_eq] at hfr
      obtain ⟨_, hk0, hR⟩ := hfr
      have hks0 : prs ks = [] := by rw [List.eq_nil_of_length_eq_zero hk0]; rfl
      have hes := esc_len (Nm.bs v)
      have hvz : (Nm.bs v).length = v.size := rfl
      have CE := fun w => rescaped_any v w (by omega)
      obtain ⟨E, hEE⟩ : ∃ E, E = Nm.mk (esc (Nm.bs v)) := ⟨_, rfl⟩
      have hEz : E.size = (esc (Nm.bs v)).length := by rw [hEE]; rfl
      rw [← hEE] at CE
      have hEb : Nm.bs E = esc (Nm.bs v) := by rw [hEE]
      have HEb := Lib.hid hEb
      have HCE := Lib.hid CE
      have HKS := Lib.hid hks0
      clear HT hTz hk hEE hEb CE hks0 hes hvz hk0
      by_cases h456 : k = 4 ∨ k = 5 ∨ k = 6
      · rw [if_neg (by omega), if_neg (by omega), Bool.and_eq_true, decide_eq_true_eq, decide_eq_true_eq] at hR
        have hPR : pr (.mk k a v ss ks) = 40 :: (Nm.bs a ++ (sign k ++ (Nm.bs E ++ [41]))) := by
          rw [HP.out, HKS.out, HEb.out, List.eq_nil_of_length_eq_zero hR.2, if_neg (show k ≠ 7 by omega)]
          simp [parts]
        have HPR := Lib.hid hPR
        have hn1 : ¬ (9223372036854775807 < 1 + a.size) := by omega
        have hn2 : ¬ (9223372036854775807 < 1 + a.size + 1) := by omega
        have hn3 : ¬ (9223372036854775807 < 1 + a.size + 2) := by omega
        have hn4 : ¬ (9223372036854775807 < 1 + a.size + 1 + E.size) := by omega
        have hn5 : ¬ (9223372036854775807 < 1 + a.size + 2 + E.size) := by omega
        have hn6 : ¬ (9223372036854775807 < 1 + a.size + 1 + E.size + 1) := by omega
        have hn7 : ¬ (9223372036854775807 < 1 + a.size + 2 + E.size + 1) := by omega
        clear hPR hR hEz
        rcases h456 with rfl | rfl | rfl
        all_goals
          go_wp2_with fail
          go_region_held3 (fun w' => w'.cell? ⟨w.heap.size, 1, none⟩ = some (.string a) ∧ w'.cell? ⟨w.heap.size, 2, none⟩ = some (.string v)) (first | go_keep | exact ⟨bat hb4 (by show w.heap.size < wr.heap.size; omega) c1, bat hb4 (by show w.heap.size < wr.heap.size; omega) c2⟩) (first | (go_at_call 22; refine (HCE.out _).mono ?_; rintro e w4 ⟨rfl, hb4⟩))
          go_wp2_with fail
          go_ret
          refine ⟨ret_str ?_, hb.trans (Below.mono (B' := w.heap.size) ((Below.refl _ _).drew.trans hb4) (by show w.heap.size ≤ wr.heap.size; omega))⟩
          rw [HPR.out]
          exact txt3 a E _
      by_cases h7 : k = 7
      · subst h7
        rw [if_pos rfl, Bool.and_eq_true, decide_eq_true_eq, decide_eq_true_eq] at hR
        have hPR : pr (.mk 7 a v ss ks) = 40 :: (Nm.bs a ++ [61, 42, 41]) := by
          rw [HP.out, HKS.out, List.eq_nil_of_length_eq_zero hR.2, if_pos rfl, show Nm.bs v = [] from List.eq_nil_of_length_eq_zero hR.1]
          simp [parts, esc, sign]
        have HPR := Lib.hid hPR
        have hn1 : ¬ (9223372036854775807 < 1 + a.size) := by omega
        have hn2 : ¬ (9223372036854775807 < 1 + a.size + 3) := by omega
        clear hPR hR hEz h456 HCE
        go_wp2_with fail
        go_ret
        refine ⟨ret_str ?_, hb⟩
        rw [HPR.out]
        exact txt2 a
      have h8 : k = 8 := by omega
      subst h8
      rw [if_neg h7, if_pos rfl, Bool.and_eq_true, decide_eq_true_eq] at hR
      have hPR : pr (.mk 8 a v ss ks) = 40 :: (Nm.bs a ++ ([61] ++ (parts ss ++ [41]))) := by
        rw [HP.out, HKS.out, if_neg h7, show Nm.bs v = [] from List.eq_nil_of_length_eq_zero hR.1]
        simp [esc, sign]
      have HPR := Lib.hid hPR
      have hsp : (subsFrom ss 0).length = (parts ss).length := rfl
      have HS := Lib.hid hs
      have CR := Lib.hid rescaped_any
      clear hPR hR hEz h456 h7 HCE hs
      go_wp2_with fail
      go_loopw [5, 6] (fun b i wr => ∃ (q : Nat) (T5 : ByteArray), q ≤ ss.length ∧ i = .int .i64 q ∧ b = .string T5 ∧ Hid (parts ss = Nm.bs T5 ++ subsFrom ss q) ∧ T5.size + (subsFrom ss q).length = (parts ss).length ∧ Blk wr w.heap.size 25 #[.int .i64 8, .string a, .string v, .slice S ss.length sc, .slice A ks.length c] ∧ Below w.heap.size w wr) (fun b i wr => ss.length - (intOf i).toNat)
      case atStart => exact ⟨0, ⟨#[]⟩, Nat.zero_le _, rfl, rfl, rfl, by rw [hsp]; show 0 + _ = _; omega, B, hb⟩
      case round =>
        clear c0 c1 c2 c3 c4 B hb hs1 hblt hlt hq hsp
        obtain ⟨q, T5, hq, rfl, rfl, hE, hz5, B, hb⟩ := hrel
        have hs1 := hb.size
        have hblt := B.lt
        obtain ⟨c0, c1, c2, c3, c4⟩ := five B
        by_cases hlt : q < ss.length
        · obtain ⟨bb, oo, rfl, hp, hc⟩ := HS.out.row (by omega)
          have f0 := bat hb hp (hc q hlt)
          have hE2 := hE.out
          rw [subs_more hlt] at hE2 hz5
          rw [List.length_append, List.length_append] at hz5
          have hes := esc_len (Nm.bs ss[q])
          have hsz : (Nm.bs ss[q]).length = ss[q].size := rfl
          have H := CR.out ss[q]
          generalize ss[q] = s0 at f0 hE2 hz5 hes hsz H
          have H := fun w => H w (by omega)
          obtain ⟨U, hU⟩ : ∃ U, U = Nm.mk (esc (Nm.bs s0)) := ⟨_, rfl⟩
          have hUb : esc (Nm.bs s0) = Nm.bs U := by rw [hU]
          have hUz : U.size = (esc (Nm.bs s0)).length := by rw [hUb]; rfl
          rw [← hU] at H
          have HH := Lib.hid H
          by_cases hq0 : q = 0
          · have hq1 : (q : Int) ≤ 0 := by omega
            rw [if_pos hq0, List.length_nil] at hz5
            have hTU : Hid (parts ss = Nm.bs (T5 ++ U) ++ subsFrom ss (q + 1)) := by
              show _ = _
              rw [hE2, if_pos hq0, bs_app, hUb]
              simp only [List.append_assoc, List.nil_append]
              try rfl
            have hno : ¬ (9223372036854775807 < T5.size + U.size) := by omega
            have hz6 : (T5 ++ U).size + (subsFrom ss (q + 1)).length = (parts ss).length := by rw [ByteArray.size_append]; omega
            have HZ6 := Lib.hid hz6
            clear hE hE2 H hU hUb hUz hes hsz hc hz5 hz6 hq0
            go_wp2_with fail
            refine (HH.out _).mono ?_
            rintro e w4 ⟨rfl, hb4⟩
            have B4 := B.past hb4
            have hb5 := hb.trans (hb4.mono hs1)
            go_wp2_with fail
            go_roundw
            case rel => exact ⟨q + 1, _, by omega, by go_num, rfl, hTU.out, HZ6.out, B4, hb5⟩
            case measure => simp [intOf]; omega
          · have hq1 : 0 < (q : Int) := by omega
            rw [if_neg hq0] at hz5
            have h42 : ([42] : List UInt8).length = 1 := rfl
            rw [h42] at hz5
            have hTU : Hid (parts ss = Nm.bs (T5 ++ ⟨#[42]⟩ ++ U) ++ subsFrom ss (q + 1)) := by
              show _ = _
              rw [hE2, if_neg hq0, bs_app, hUb, bs_app]
              simp only [List.append_assoc]
              try rfl
            have hno : ¬ (9223372036854775807 < T5.size + 1) := by omega
            have hno2 : ¬ (9223372036854775807 < T5.size + 1 + U.size) := by omega
            have hz6 : (T5 ++ ⟨#[42]⟩ ++ U).size + (subsFrom ss (q + 1)).length = (parts ss).length := by
              rw [ByteArray.size_append, ByteArray.size_append]
              have : (⟨#[42]⟩ : ByteArray).size = 1 := rfl
              omega
            have HZ6 := Lib.hid hz6
            clear hE hE2 H hU hUb hUz hes hsz hc hz5 hz6 hq0
            go_wp2_with fail
            refine (HH.out _).mono ?_
            rintro e w4 ⟨rfl, hb4⟩
            have B4 := B.past hb4
            have hb5 := hb.trans (hb4.mono hs1)
            go_wp2_with fail
            go_roundw
            case rel => exact ⟨q + 1, _, by omega, by go_num, rfl, hTU.out, HZ6.out, B4, hb5⟩
            case measure => simp [intOf]; omega
        · have hE2 := hE.out
          rw [subs_end (by omega), List.append_nil] at hE2
          rw [subs_end (by omega), List.length_nil, Nat.add_zero] at hz5
          have HR8 := Lib.hid (show pr (.mk 8 a v ss ks) = 40 :: (Nm.bs a ++ ([61] ++ (Nm.bs T5 ++ [41]))) by rw [HPR.out, hE2])
          have hn1 : ¬ (9223372036854775807 < 1 + a.size) := by omega
          have hn2 : ¬ (9223372036854775807 < 1 + a.size + 1) := by omega
          have hn3 : ¬ (9223372036854775807 < 1 + a.size + 1 + T5.size) := by omega
          have hn4 : ¬ (9223372036854775807 < 1 + a.size + 1 + T5.size + 1) := by omega
          clear hE hE2 hz5
          go_wp2_with fail
          go_ret
          refine ⟨ret_str ?_, hb⟩
          rw [HR8.out]
          exact txt3 a T5 [61]
end Go.Proofs.YticfemheneljmaaDoor.Fi
