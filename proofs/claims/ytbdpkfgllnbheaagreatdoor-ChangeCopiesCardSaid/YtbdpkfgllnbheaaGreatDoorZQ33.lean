import Derived.Test.YtbdpkfgllnbheaaGreatDoorZQ28
import Derived.Test.YtbdpkfgllnbheaaGreatDoorZQ32
set_option linter.unusedVariables false
set_option maxRecDepth 100000
namespace Go.Proofs.YtbdpkfgllnbheaaGreatDoor.Ch
open Go.RowKit
theorem rdn_small2 {r : List Nm.Ava} (h : Nm.isRdn r = true) : ∀ a ∈ r, a.1.size ≤ 1099511627776:=by
 obtain ⟨_, _, h3⟩:=Nm.isRdn_all h
 intro a ha
 have:=(Nm.okAva_le (h3 a ha)).1
 omega
set_option maxHeartbeats 4000000 in
theorem rrdn_any (A : Option Addr) (c : Nat) (l : List Nm.Ava) (w : World) (hl : l.length ≤ maxLen) (hA : RAt w (· < w.heap.size) A l) :
  Calls Tryz.prog 29 #[.slice A l.length c] w (Flag w (okR l)):=by
 have HI:=Lib.hid (rIsRdn_any l A c w hA hl)
 have hr : okR l = (Nm.isRdn l && (decide (l.length < 4) && !l.any noAva)):=rfl
 have HZ:=Lib.hid (fun h=>rdn_small2 (r:=l) h)
 generalize Nm.isRdn l = b1 at HI HZ hr
 unfold maxLen at hl
 cases b1
 ·have HR:=Lib.hid hr
  clear hr
  go_enter Tryz.func29, Tryz.ntmps29
  go_wp2_with fail
  refine HI.out.mono ?_
  rintro e w1 ⟨rfl, hb1⟩
  go_wp2_with fail
  go_ret
  exact ⟨ret_bool HR.out.symm, hb1⟩
 have hz:=HZ.out rfl
 by_cases h4 : l.length < 4
 rotate_left
 focus
  have HR:=Lib.hid (show okR l = false by rw [hr, decide_eq_false h4]; rfl)
  have k4 : 4 ≤ (l.length : Int):=by omega
  clear hr h4
  go_enter Tryz.func29, Tryz.ntmps29
  go_wp2_with fail
  refine HI.out.mono ?_
  rintro e w1 ⟨rfl, hb1⟩
  go_wp2_with fail
  go_ret
  exact ⟨ret_bool HR.out.symm, hb1⟩
 have HR:=Lib.hid (show okR l = !l.any noAva by rw [hr, decide_eq_true h4]; rfl)
 have k4 : (l.length : Int) < 4:=by omega
 have HZ2:=Lib.hid hz
 clear hr h4 hz HZ
 go_enter Tryz.func29, Tryz.ntmps29
 go_wp2_with fail
 refine HI.out.mono ?_
 rintro e w1 ⟨rfl, hb1⟩
 have HA:=Lib.hid (hA.past hb1)
 have hb0:=Lib.hid hb1
 clear hb1 hA
 go_wp2_with fail
 go_loopw [3] (fun i wr=>∃ q : Nat, q ≤ l.length ∧ i = .int .i64 q ∧ Hid (l.any noAva = (l.drop q).any noAva) ∧ Below w1.heap.size w1 wr) (fun i wr=>l.length - (intOf i).toNat)
 case atStart=>exact ⟨0, Nat.zero_le _, rfl, rfl, Below.refl _ _⟩
 case round =>
  obtain ⟨q, hq, rfl, hE, hb⟩:=hrel
  have hs:=hb.size
  by_cases hlt : q < l.length
  ·obtain ⟨ad, rfl, hp, f0, f1⟩:=HA.out.kid hb hlt
   have hzq:=HZ2.out _ (List.getElem_mem hlt)
   have hE2:=hE.out
   rw [any_drop hlt] at hE2
   generalize l[q] = d at f0 f1 hE2 hzq
   obtain ⟨x, y⟩:=d
   have hn : noAva (x, y) = (decide (x = entryid) || noV x y):=rfl
   have q2 : (x.toList == [101, 110, 116, 114, 121, 105, 100]) = decide (x = entryid):=by rw [← toList_eq, entry_list]
   have HC:=Lib.hid (fun w=>rcheck_any x y w hzq)
   have HB:=check_bool x y
   have f0d : wr.drew.cell? (ad.add (q * 2)) = some (.string x):=f0
   have f1d : wr.drew.cell? ⟨(ad.add (q * 2)).block, (ad.add (q * 2)).off + 1, none⟩ = some (.string y):=f1
   have hbd:=hb.drew
   have hblk : (ad.add (q * 2)).block < wr.heap.size:=cell_lt f0
   cases hx : decide (x = entryid)
   ·rw [hx] at q2 hn
    rw [hn, Bool.false_or] at hE2
    cases hv : noV x y
    focus
     rw [hv] at hE2 HB
     have HE:=Lib.hid hE2
     have HB2:=Lib.hid HB
     clear hE hE2 HB hn hx hv hzq
     generalize Sc.check (Nm.bs x) (Nm.bs y) = n at HC HB2
     have hn0:=HB2.out
     go_wp2_with fail
     go_region_held3 (fun w'=>w'.cell? (ad.add (q * 2)) = some (.string x) ∧ w'.cell? ⟨(ad.add (q * 2)).block, (ad.add (q * 2)).off + 1, none⟩ = some (.string y)) (first | exact ⟨f0d, f1d⟩ | exact ⟨g0, g1⟩) (first | (go_at_call 62; refine (HC.out _).mono ?_; rintro e9 w9 ⟨rfl, hb9⟩; have g0:=batA hb9 hblk f0d; have g1:=bat hb9 hblk f1d))
     go_wp2_with fail
     refine ⟨⟨q + 1, by omega, by go_num, HE.out, hbd.trans (hb9.mono hbd.size)⟩, by simp [intOf]; omega⟩
    focus
     rw [hv] at hE2 HB
     have HE:=Lib.hid hE2
     have HB2:=Lib.hid HB
     clear hE hE2 HB hn hx hv hzq
     generalize Sc.check (Nm.bs x) (Nm.bs y) = n at HC HB2
     have hn0:=HB2.out
     go_wp2_with fail
     go_region_held3 (fun w'=>w'.cell? (ad.add (q * 2)) = some (.string x) ∧ w'.cell? ⟨(ad.add (q * 2)).block, (ad.add (q * 2)).off + 1, none⟩ = some (.string y)) (first | exact ⟨f0d, f1d⟩ | exact ⟨g0, g1⟩) (first | (go_at_call 62; refine (HC.out _).mono ?_; rintro e9 w9 ⟨rfl, hb9⟩; have g0:=batA hb9 hblk f0d; have g1:=bat hb9 hblk f1d))
     go_wp2_with fail
     go_ret
     exact ⟨ret_bool (by rw [HR.out, HE.out]; rfl), hb0.out.trans ((hbd.trans (hb9.mono hbd.size)).mono hb0.out.size)⟩
   ·rw [hx] at q2 hn
    rw [hn, Bool.true_or, Bool.true_or] at hE2
    have HE:=Lib.hid hE2
    clear hE hE2 HB hn hx hzq HC
    go_wp2_with fail
    go_quiet (fail)
    go_wp2_with fail
    go_ret
    exact ⟨ret_bool (by rw [HR.out, HE.out]; rfl), hb0.out.trans ((hb.trans (drewN_below _ _ _)).mono hb0.out.size)⟩
  ·have hE2:=hE.out
   rw [List.drop_eq_nil_of_le (by omega), List.any_nil] at hE2
   have HE:=Lib.hid hE2
   clear hE hE2
   go_wp2_with fail
   go_ret
   exact ⟨ret_bool (by rw [HR.out, HE.out]; rfl), hb0.out.trans (hb.mono hb0.out.size)⟩
def badM (only : Bool) (d : Mo) : Bool:=noMo d || (only && takes d)
theorem badM_none {only : Bool} {d : Mo} (h : Sc.find (Nm.bs d.attr) = none) : badM only d = true:=by
 unfold badM
 by_cases hb : bad1 d
 ·rw [noMo_bad hb]; rfl
 ·rw [noMo_none hb h]; rfl
theorem badM_some {only : Bool} {d : Mo} {t : Sc.Ty} (h : Sc.find (Nm.bs d.attr) = some t) : (bad1 d ∨ t.1 ≠ d.attr ∨ t.1 = entryid ∨ 12 < d.vals.length ∨ (only = true ∧ d.kind ≠ 1) → badM only d = true) ∧ (¬ (bad1 d ∨ t.1 ≠ d.attr ∨ t.1 = entryid ∨ 12 < d.vals.length ∨ (only = true ∧ d.kind ≠ 1)) → badM only d = d.vals.any (noV t.1)):=by
 unfold badM
 by_cases hb : bad1 d
 ·rw [noMo_bad hb]
  exact ⟨fun _=>rfl, fun h=>absurd (Or.inl hb) h⟩
 ·rw [noMo_some hb h]
  constructor
  ·rintro (h1 | h1 | h1 | h1 | ⟨h1, h2⟩)
   ·exact absurd h1 hb
   ·rw [decide_eq_true (Or.inl h1)]; rfl
   ·rw [decide_eq_true (Or.inr (Or.inl h1))]; rfl
   ·rw [decide_eq_true (Or.inr (Or.inr h1))]; rfl
   ·rw [h1]; unfold takes; rw [decide_eq_true h2]; simp
  ·intro h1
   rw [decide_eq_false (fun h2=>h1 (Or.inr (h2.elim Or.inl (fun h3=>Or.inr (h3.elim Or.inl (fun h4=>Or.inr (Or.inl h4)))))))]
   have h5 : (only && takes d) = false:=by
    cases only
    ·rfl
    ·unfold takes
     rw [Bool.true_and, decide_eq_false_iff_not]
     intro h6
     exact h1 (Or.inr (Or.inr (Or.inr (Or.inr ⟨rfl, h6⟩))))
   rw [h5, Bool.false_or, Bool.or_false]
set_option maxHeartbeats 8000000 in
theorem rmods_any (A : Option Addr) (c : Nat) (l : List Mo) (ds : Nat → List Value) (only : Bool) (w : World) (hl : l.length ≤ maxLen) (hz : ∀ d ∈ l, d.attr.size ≤ 1099511627776) (hM : MosAt w (· < w.heap.size) A l ds) :
  Calls Tryz.prog 30 #[.slice A l.length c, .bool only] w (Flag w (!l.any (badM only) && decide (l.length ≤ 8))):=by
 unfold maxLen at hl
 have HM:=Lib.hid hM
 have HZ:=Lib.hid hz
 clear hM hz
 cases only
 focus
  go_enter Tryz.func30, Tryz.ntmps30
  go_wp2_with fail
  go_loopw [5] (fun i wr=>∃ q : Nat, q ≤ l.length ∧ i = .int .i64 q ∧ Hid (l.any (badM false) = (l.drop q).any (badM false)) ∧ Below w.heap.size w wr) (fun i wr=>l.length - (intOf i).toNat)
  case atStart=>exact ⟨0, Nat.zero_le _, rfl, rfl, Below.refl _ _⟩
  case round =>
   obtain ⟨q, hq, rfl, hE, hb⟩:=hrel
   have hs:=hb.size
   by_cases hlt : q < l.length
   rotate_left
   focus
    obtain rfl : q = l.length:=by omega
    have hE2:=hE.out
    rw [List.drop_length, List.any_nil] at hE2
    have HE:=Lib.hid hE2
    clear hE hE2
    go_wp2_with fail
    go_ret
    exact ⟨ret_bool (by rw [HE.out]; exact decide_eq_decide.2 (by omega)), hb⟩
   obtain ⟨ad, V, vc, rfl, hp, f0, f1, f2, hL⟩:=HM.out.kid hb hlt
   have hzq:=HZ.out _ (List.getElem_mem hlt)
   have hE2:=hE.out
   rw [any_drop hlt] at hE2
   generalize l[q] = d at f0 f1 f2 hL hzq hE2
   obtain ⟨V1, vc1, ev, _, lv, _, hV, _⟩:=hL
   simp only [List.cons.injEq, Value.slice.injEq, true_and, and_true] at ev
   obtain ⟨rfl, rfl⟩:=ev
   have hfs : ∀ t, Sc.find (Nm.bs d.attr) = some t → (bad1 d ∨ t.1 ≠ d.attr ∨ t.1 = entryid ∨ 12 < d.vals.length ∨ (false = true ∧ d.kind ≠ 1) → badM false d = true) ∧ (¬ (bad1 d ∨ t.1 ≠ d.attr ∨ t.1 = entryid ∨ 12 < d.vals.length ∨ (false = true ∧ d.kind ≠ 1)) → badM false d = d.vals.any (noV t.1)):=fun t ht=>badM_some ht
   have hfn : Sc.find (Nm.bs d.attr) = none → badM false d = true:=fun h=>badM_none h
   obtain ⟨dk, da, dv⟩:=d
   simp only at f0 f1 f2 hzq lv hV hfs hfn
   unfold maxLen at lv
   have HV:=Lib.hid hV
   have HF:=Lib.hid (fun w=>rfind_any da w hzq)
   have HE:=Lib.hid hE2
   clear hE hE2 hV
   cases hf : Sc.find (Nm.bs da) with
   | none =>
    have HB:=Lib.hid (hfn hf)
    rw [hf] at HF
    have C2 : Hid (∀ w, Calls Tryz.prog 63 #[.string da] w fun e w'=>e = .returned (.tuple #[.agg #[.string ⟨#[]⟩, .int .i64 0, .bool false], .bool false]) ∧ Below w.heap.size w w'):=HF.out
    clear HF hf hfs hfn
    have hb1:=hb.alloc hs (.cells #[.int .i64 dk, .string da, .slice V dv.length vc] 44)
    have hz1:=hb1.size
    go_wp2_with fail
    refine (C2.out _).mono ?_
    rintro e w1 ⟨rfl, hb2⟩
    have hb3:=hb1.trans (hb2.mono hz1)
    go_wp2_with fail
    go_ret
    exact ⟨ret_bool (by rw [HE.out, HB.out]; rfl), hb3.alloc hb3.size _⟩
   | some t =>
    have hft:=hfs t hf
    have hx12:=find_le hf
    rw [hf] at HF
    obtain ⟨x, sy, sg⟩:=t
    have C2 : Hid (∀ w, Calls Tryz.prog 63 #[.string da] w fun e w'=>e = .returned (.tuple #[.agg #[.string x, .int .i64 sy, .bool sg], .bool true]) ∧ Below w.heap.size w w'):=HF.out
    have q1 : (x.toList == da.toList) = decide (x = da):=toList_eq x da
    have q2 : (x.toList == [101, 110, 116, 114, 121, 105, 100]) = decide (x = entryid):=by rw [← toList_eq, entry_list]
    simp only at hft hx12
    clear HF hf hfs hfn
    have hb1:=hb.alloc hs (.cells #[.int .i64 dk, .string da, .slice V dv.length vc] 44)
    have hz1:=hb1.size
    have BM:=Blk.new wr 44 #[.int .i64 dk, .string da, .slice V dv.length vc]
    have HBM:=Lib.hid BM
    have HX12:=Lib.hid hx12
    have HFT:=Lib.hid hft
    have hcase : ((((x.toList == da.toList) = false) ∨ ((x.toList == da.toList) = true ∧ (x.toList == [101, 110, 116, 114, 121, 105, 100]) = true) ∨ ((x.toList == da.toList) = true ∧ (x.toList == [101, 110, 116, 114, 121, 105, 100]) = false ∧ dk < 1) ∨ ((x.toList == da.toList) = true ∧ (x.toList == [101, 110, 116, 114, 121, 105, 100]) = false ∧ 1 ≤ dk ∧ 3 < dk) ∨ (False ∧ False ∧ False ∧ False ∧ False) ∨ ((x.toList == da.toList) = true ∧ (x.toList == [101, 110, 116, 114, 121, 105, 100]) = false ∧ 1 ≤ dk ∧ dk ≤ 3 ∧ (dk == 1) = true ∧ (dk != 1) = false ∧ ((dv.length : Int) == 0) = true) ∨ ((x.toList == da.toList) = true ∧ (x.toList == [101, 110, 116, 114, 121, 105, 100]) = false ∧ 1 ≤ dk ∧ dk ≤ 3 ∧ (dk == 1) = true ∧ (dk != 1) = false ∧ ((dv.length : Int) == 0) = false ∧ 12 < (dv.length : Int)) ∨ ((x.toList == da.toList) = true ∧ (x.toList == [101, 110, 116, 114, 121, 105, 100]) = false ∧ 1 ≤ dk ∧ dk ≤ 3 ∧ (dk == 1) = false ∧ 12 < (dv.length : Int))) ∧ badM false ⟨dk, da, dv⟩ = true) ∨ (((x.toList == da.toList) = true ∧ (x.toList == [101, 110, 116, 114, 121, 105, 100]) = false ∧ 1 ≤ dk ∧ dk ≤ 3 ∧ (dk == 1) = true ∧ (dk != 1) = false ∧ ((dv.length : Int) == 0) = false ∧ (dv.length : Int) ≤ 12) ∧ badM false ⟨dk, da, dv⟩ = dv.any (noV x)) ∨ (((x.toList == da.toList) = true ∧ (x.toList == [101, 110, 116, 114, 121, 105, 100]) = false ∧ 1 ≤ dk ∧ dk ≤ 3 ∧ (dk == 1) = false ∧ (dv.length : Int) ≤ 12) ∧ badM false ⟨dk, da, dv⟩ = dv.any (noV x)):=by
     unfold bad1 at hft
     have hft':=hft
     by_cases e1 : x = da
     ·rw [decide_eq_true e1] at q1
      by_cases e2 : x = entryid
      ·rw [decide_eq_true e2] at q2
       exact .inl ⟨.inr (.inl ⟨q1, q2⟩), hft.1 (.inr (.inr (.inl e2)))⟩
      ·rw [decide_eq_false e2] at q2
       by_cases e3 : dk < 1
       ·exact .inl ⟨.inr (.inr (.inl ⟨q1, q2, e3⟩)), hft.1 (.inl (.inl e3))⟩
       by_cases e4 : 3 < dk
       ·exact .inl ⟨.inr (.inr (.inr (.inl ⟨q1, q2, by omega, e4⟩))), hft.1 (.inl (.inr (.inl e4)))⟩
       by_cases e5 : dk = 1
       ·have k1 : (dk == 1) = true:=by rw [beq_iff_eq]; exact e5
        have k2 : (dk != 1) = false:=by rw [bne_eq_false_iff_eq]; exact e5
        by_cases e6 : dv.length = 0
        ·exact .inl ⟨.inr (.inr (.inr (.inr (.inr (.inl ⟨q1, q2, by omega, by omega, k1, k2, by rw [beq_iff_eq]; omega⟩))))), hft.1 (.inl (.inr (.inr ⟨e5, e6⟩)))⟩
        have k3 : ((dv.length : Int) == 0) = false:=by rw [beq_eq_false_iff_ne]; omega
        by_cases e7 : 12 < dv.length
        ·exact .inl ⟨.inr (.inr (.inr (.inr (.inr (.inr (.inl ⟨q1, q2, by omega, by omega, k1, k2, k3, by omega⟩)))))), hft.1 (.inr (.inr (.inr (.inl e7))))⟩
        ·exact .inr (.inl ⟨⟨q1, q2, by omega, by omega, k1, k2, k3, by omega⟩, hft.2 (fun h=>h.elim (fun h=>by have h' : dk < 1 ∨ 3 < dk ∨ dk = 1 ∧ dv.length = 0:=h; omega) (fun h=>h.elim (fun h=>h e1) (fun h=>h.elim e2 (fun h=>h.elim e7 (fun h=>h.2 e5)))))⟩)
       ·have k1 : (dk == 1) = false:=by rw [beq_eq_false_iff_ne]; exact e5
        have k2 : (dk != 1) = true:=by rw [bne_iff_ne]; exact e5
        by_cases e7 : 12 < dv.length
        ·exact .inl ⟨.inr (.inr (.inr (.inr (.inr (.inr (.inr ⟨q1, q2, by omega, by omega, k1, by omega⟩)))))), hft.1 (.inr (.inr (.inr (.inl e7))))⟩
        ·exact .inr (.inr ⟨⟨q1, q2, by omega, by omega, k1, by omega⟩, hft.2 (fun h=>h.elim (fun h=>by have h' : dk < 1 ∨ 3 < dk ∨ dk = 1 ∧ dv.length = 0:=h; omega) (fun h=>h.elim (fun h=>h e1) (fun h=>h.elim e2 (fun h=>h.elim e7 (fun h=>by cases h.1)))))⟩)
     ·rw [decide_eq_false e1] at q1
      exact .inl ⟨.inl q1, hft.1 (.inr (.inl e1))⟩
    clear hft q1 q2 BM hx12
    rcases hcase with ⟨hbad, hB⟩ | hgood
    focus
     have HB:=Lib.hid hB
     clear hB
     rcases hbad with q1 | ⟨q1, q2⟩ | ⟨q1, q2, q3⟩ | ⟨q1, q2, q3, q4⟩ | ⟨q1, q2, q3, q4, q5⟩ | ⟨q1, q2, q3, q4, q5, q6, q7⟩ | ⟨q1, q2, q3, q4, q5, q6, q7, q8⟩ | ⟨q1, q2, q3, q4, q5, q6⟩
     all_goals try exact False.elim q1
     all_goals
      go_wp2_with fail
      refine (C2.out _).mono ?_
      rintro e w1 ⟨rfl, hb2⟩
      have hb3:=hb1.trans (hb2.mono hz1)
      have B1:=HBM.out.past hb2
      have c0':=B1.cell 0
      have c1':=B1.cell 1
      have c2':=B1.cell 2
      have hlt1:=B1.lt
      go_wp2_with fail
      go_ret
      exact ⟨ret_bool (by rw [HE.out, HB.out]; rfl), hb3.alloc hb3.size _⟩
    rcases hgood with ⟨⟨q1, q2, q3, q4, q5, q6, q7, q8⟩, hG⟩ | ⟨⟨q1, q2, q3, q4, q5, q6⟩, hG⟩
    all_goals try exact False.elim q1
    all_goals
     have HG:=Lib.hid hG
     clear hG
     go_wp2_with fail
     refine (C2.out _).mono ?_
     rintro e w1 ⟨rfl, hb2⟩
     have hb3:=hb1.trans (hb2.mono hz1)
     have B1:=HBM.out.past hb2
     have c0':=B1.cell 0
     have c1':=B1.cell 1
     have c2':=B1.cell 2
     have hlt1:=B1.lt
     have hb4:=hb3.alloc hb3.size (.cells #[.string x, .int .i64 sy, .bool sg] 85)
     have HB4:=Lib.hid (B1.alloc (.cells #[.string x, .int .i64 sy, .bool sg] 85))
     have Hb4:=Lib.hid hb4
     have HVV:=Lib.hid (HV.out.past (((Below.refl wr.heap.size wr).alloc (Nat.le_refl _) (.cells #[.int .i64 dk, .string da, .slice V dv.length vc] 44)).trans ((hb2.mono (by simp)))))
     have HVW:=Lib.hid (HVV.out.alloc (.cells #[.string x, .int .i64 sy, .bool sg] 85))
     have hz4:=hb4.size
     have hxd : x = da:=by have h:=toList_eq x da; rw [q1] at h; exact of_decide_eq_true h.symm
     have HC:=Lib.hid (fun s w=>rcheck_any da s w hzq)
     rw [hxd] at HG
     clear hb4 B1 hb2 hb3 HVV hzq hxd
     go_wp2_with fail
     generalize hWW : w1.alloc (.cells #[.string x, .int .i64 sy, .bool sg] 85) = W at HB4 Hb4 HVW hz4 ⊢
     generalize hGM : wr.heap.size = gM at HB4 ⊢
     clear c0' c1' c2' hWW hGM
     go_loopw [9] (fun j wr2=>∃ p : Nat, p ≤ dv.length ∧ j = .int .i64 p ∧ Hid (dv.any (noV da) = (dv.drop p).any (noV da)) ∧ Below W.heap.size W wr2) (fun j wr2=>dv.length - (intOf j).toNat)
     case atStart=>exact ⟨0, Nat.zero_le _, rfl, rfl, Below.refl _ _⟩
     case round =>
      obtain ⟨p, hp2, rfl, hE9, hb9⟩:=hrel
      have hs9:=hb9.size
      have BM9:=HB4.out.past hb9
      have m1:=BM9.cell 1
      have m2:=BM9.cell 2
      have hmz:=BM9.lt
      by_cases hlt2 : p < dv.length
      rotate_left
      focus
       obtain rfl : p = dv.length:=by omega
       have hE3:=hE9.out
       rw [List.drop_length, List.any_nil] at hE3
       have HE3:=Lib.hid (show l.any (badM false) = (l.drop (q + 1)).any (badM false) by rw [HE.out, HG.out, hE3]; rfl)
       clear hE9 hE3 hlt2
       go_wp2_with fail
       refine ⟨⟨q + 1, by omega, by go_num, HE3.out, Hb4.out.trans (hb9.mono hz4)⟩, by simp [intOf]; omega⟩
      obtain ⟨ad2, rfl, hp3, hc3⟩:=HVW.out (by omega)
      have g0:=batA hb9 (by rw [block_of_add]; exact hp3) (hc3 p hlt2)
      have hE3:=hE9.out
      rw [any_drop hlt2] at hE3
      generalize dv[p] = s at g0 hE3
      have HC2:=Lib.hid (fun w=>HC.out s w)
      have HN:=check_bool da s
      have m1d : wr.drew.cell? ⟨gM, 1, none⟩ = some (.string da):=m1
      have m2d : wr.drew.cell? ⟨gM, 2, none⟩ = some (.slice (some ad2) dv.length vc):=m2
      have g0d : wr.drew.cell? (ad2.add p) = some (.string s):=g0
      have hgb:=cell_lt g0
      have hbd:=hb9.drew
      clear hc3 m1 g0 hE9 BM9 HC
      cases hv : noV da s
      focus
       rw [hv] at hE3 HN
       have HE3:=Lib.hid hE3
       have HN2:=Lib.hid HN
       clear hE3 HN hv
       generalize Sc.check (Nm.bs da) (Nm.bs s) = n at HC2 HN2
       have hn0:=HN2.out
       go_wp2_with fail
       go_region_held3 (fun w'=>w'.cell? ⟨gM, 1, none⟩ = some (.string da) ∧ w'.cell? ⟨gM, 2, none⟩ = some (.slice (some ad2) dv.length vc) ∧ w'.cell? (ad2.add p) = some (.string s)) (first | exact ⟨m1d, m2d, g0d⟩ | exact ⟨k1, k2, k3⟩) (first | (go_at_call 62; refine (HC2.out _).mono ?_; rintro e9 w9 ⟨rfl, hb10⟩; have k1:=bat hb10 hmz m1d; have k2:=bat hb10 hmz m2d; have k3:=batA hb10 hgb g0d))
       go_wp2_with fail
       refine ⟨⟨p + 1, by omega, by go_num, HE3.out, hbd.trans (hb10.mono hbd.size)⟩, by simp [intOf]; omega⟩
      focus
       rw [hv] at hE3 HN
       have HE3:=Lib.hid hE3
       have HN2:=Lib.hid HN
       clear hE3 HN hv
       generalize Sc.check (Nm.bs da) (Nm.bs s) = n at HC2 HN2
       have hn0:=HN2.out
       go_wp2_with fail
       go_region_held3 (fun w'=>w'.cell? ⟨gM, 1, none⟩ = some (.string da) ∧ w'.cell? ⟨gM, 2, none⟩ = some (.slice (some ad2) dv.length vc) ∧ w'.cell? (ad2.add p) = some (.string s)) (first | exact ⟨m1d, m2d, g0d⟩ | exact ⟨k1, k2, k3⟩) (first | (go_at_call 62; refine (HC2.out _).mono ?_; rintro e9 w9 ⟨rfl, hb10⟩; have k1:=bat hb10 hmz m1d; have k2:=bat hb10 hmz m2d; have k3:=batA hb10 hgb g0d))
       go_wp2_with fail
       go_ret
       have hbz:=hbd.trans (hb10.mono hbd.size)
       exact ⟨ret_bool (by rw [HE.out, HG.out, HE3.out]; rfl), Hb4.out.trans (hbz.mono hz4)⟩
 focus
  go_enter Tryz.func30, Tryz.ntmps30
  go_wp2_with fail
  go_loopw [5] (fun i wr=>∃ q : Nat, q ≤ l.length ∧ i = .int .i64 q ∧ Hid (l.any (badM true) = (l.drop q).any (badM true)) ∧ Below w.heap.size w wr) (fun i wr=>l.length - (intOf i).toNat)
  case atStart=>exact ⟨0, Nat.zero_le _, rfl, rfl, Below.refl _ _⟩
  case round =>
   obtain ⟨q, hq, rfl, hE, hb⟩:=hrel
   have hs:=hb.size
   by_cases hlt : q < l.length
   rotate_left
   focus
    obtain rfl : q = l.length:=by omega
    have hE2:=hE.out
    rw [List.drop_length, List.any_nil] at hE2
    have HE:=Lib.hid hE2
    clear hE hE2
    go_wp2_with fail
    go_ret
    exact ⟨ret_bool (by rw [HE.out]; exact decide_eq_decide.2 (by omega)), hb⟩
   obtain ⟨ad, V, vc, rfl, hp, f0, f1, f2, hL⟩:=HM.out.kid hb hlt
   have hzq:=HZ.out _ (List.getElem_mem hlt)
   have hE2:=hE.out
   rw [any_drop hlt] at hE2
   generalize l[q] = d at f0 f1 f2 hL hzq hE2
   obtain ⟨V1, vc1, ev, _, lv, _, hV, _⟩:=hL
   simp only [List.cons.injEq, Value.slice.injEq, true_and, and_true] at ev
   obtain ⟨rfl, rfl⟩:=ev
   have hfs : ∀ t, Sc.find (Nm.bs d.attr) = some t → (bad1 d ∨ t.1 ≠ d.attr ∨ t.1 = entryid ∨ 12 < d.vals.length ∨ (true = true ∧ d.kind ≠ 1) → badM true d = true) ∧ (¬ (bad1 d ∨ t.1 ≠ d.attr ∨ t.1 = entryid ∨ 12 < d.vals.length ∨ (true = true ∧ d.kind ≠ 1)) → badM true d = d.vals.any (noV t.1)):=fun t ht=>badM_some ht
   have hfn : Sc.find (Nm.bs d.attr) = none → badM true d = true:=fun h=>badM_none h
   obtain ⟨dk, da, dv⟩:=d
   simp only at f0 f1 f2 hzq lv hV hfs hfn
   unfold maxLen at lv
   have HV:=Lib.hid hV
   have HF:=Lib.hid (fun w=>rfind_any da w hzq)
   have HE:=Lib.hid hE2
   clear hE hE2 hV
   cases hf : Sc.find (Nm.bs da) with
   | none =>
    have HB:=Lib.hid (hfn hf)
    rw [hf] at HF
    have C2 : Hid (∀ w, Calls Tryz.prog 63 #[.string da] w fun e w'=>e = .returned (.tuple #[.agg #[.string ⟨#[]⟩, .int .i64 0, .bool false], .bool false]) ∧ Below w.heap.size w w'):=HF.out
    clear HF hf hfs hfn
    have hb1:=hb.alloc hs (.cells #[.int .i64 dk, .string da, .slice V dv.length vc] 44)
    have hz1:=hb1.size
    go_wp2_with fail
    refine (C2.out _).mono ?_
    rintro e w1 ⟨rfl, hb2⟩
    have hb3:=hb1.trans (hb2.mono hz1)
    go_wp2_with fail
    go_ret
    exact ⟨ret_bool (by rw [HE.out, HB.out]; rfl), hb3.alloc hb3.size _⟩
   | some t =>
    have hft:=hfs t hf
    have hx12:=find_le hf
    rw [hf] at HF
    obtain ⟨x, sy, sg⟩:=t
    have C2 : Hid (∀ w, Calls Tryz.prog 63 #[.string da] w fun e w'=>e = .returned (.tuple #[.agg #[.string x, .int .i64 sy, .bool sg], .bool true]) ∧ Below w.heap.size w w'):=HF.out
    have q1 : (x.toList == da.toList) = decide (x = da):=toList_eq x da
    have q2 : (x.toList == [101, 110, 116, 114, 121, 105, 100]) = decide (x = entryid):=by rw [← toList_eq, entry_list]
    simp only at hft hx12
    clear HF hf hfs hfn
    have hb1:=hb.alloc hs (.cells #[.int .i64 dk, .string da, .slice V dv.length vc] 44)
    have hz1:=hb1.size
    have BM:=Blk.new wr 44 #[.int .i64 dk, .string da, .slice V dv.length vc]
    have HBM:=Lib.hid BM
    have HX12:=Lib.hid hx12
    have HFT:=Lib.hid hft
    have hcase : ((((x.toList == da.toList) = false) ∨ ((x.toList == da.toList) = true ∧ (x.toList == [101, 110, 116, 114, 121, 105, 100]) = true) ∨ ((x.toList == da.toList) = true ∧ (x.toList == [101, 110, 116, 114, 121, 105, 100]) = false ∧ dk < 1) ∨ ((x.toList == da.toList) = true ∧ (x.toList == [101, 110, 116, 114, 121, 105, 100]) = false ∧ 1 ≤ dk ∧ 3 < dk) ∨ ((x.toList == da.toList) = true ∧ (x.toList == [101, 110, 116, 114, 121, 105, 100]) = false ∧ 1 ≤ dk ∧ dk ≤ 3 ∧ (dk != 1) = true) ∨ ((x.toList == da.toList) = true ∧ (x.toList == [101, 110, 116, 114, 121, 105, 100]) = false ∧ 1 ≤ dk ∧ dk ≤ 3 ∧ (dk == 1) = true ∧ (dk != 1) = false ∧ ((dv.length : Int) == 0) = true) ∨ ((x.toList == da.toList) = true ∧ (x.toList == [101, 110, 116, 114, 121, 105, 100]) = false ∧ 1 ≤ dk ∧ dk ≤ 3 ∧ (dk == 1) = true ∧ (dk != 1) = false ∧ ((dv.length : Int) == 0) = false ∧ 12 < (dv.length : Int)) ∨ (False ∧ False ∧ False ∧ False ∧ False ∧ False)) ∧ badM true ⟨dk, da, dv⟩ = true) ∨ (((x.toList == da.toList) = true ∧ (x.toList == [101, 110, 116, 114, 121, 105, 100]) = false ∧ 1 ≤ dk ∧ dk ≤ 3 ∧ (dk == 1) = true ∧ (dk != 1) = false ∧ ((dv.length : Int) == 0) = false ∧ (dv.length : Int) ≤ 12) ∧ badM true ⟨dk, da, dv⟩ = dv.any (noV x)) ∨ ((False ∧ False ∧ False ∧ False ∧ False ∧ False) ∧ badM true ⟨dk, da, dv⟩ = dv.any (noV x)):=by
     unfold bad1 at hft
     have hft':=hft
     by_cases e1 : x = da
     ·rw [decide_eq_true e1] at q1
      by_cases e2 : x = entryid
      ·rw [decide_eq_true e2] at q2
       exact .inl ⟨.inr (.inl ⟨q1, q2⟩), hft.1 (.inr (.inr (.inl e2)))⟩
      ·rw [decide_eq_false e2] at q2
       by_cases e3 : dk < 1
       ·exact .inl ⟨.inr (.inr (.inl ⟨q1, q2, e3⟩)), hft.1 (.inl (.inl e3))⟩
       by_cases e4 : 3 < dk
       ·exact .inl ⟨.inr (.inr (.inr (.inl ⟨q1, q2, by omega, e4⟩))), hft.1 (.inl (.inr (.inl e4)))⟩
       by_cases e5 : dk = 1
       ·have k1 : (dk == 1) = true:=by rw [beq_iff_eq]; exact e5
        have k2 : (dk != 1) = false:=by rw [bne_eq_false_iff_eq]; exact e5
        by_cases e6 : dv.length = 0
        ·exact .inl ⟨.inr (.inr (.inr (.inr (.inr (.inl ⟨q1, q2, by omega, by omega, k1, k2, by rw [beq_iff_eq]; omega⟩))))), hft.1 (.inl (.inr (.inr ⟨e5, e6⟩)))⟩
        have k3 : ((dv.length : Int) == 0) = false:=by rw [beq_eq_false_iff_ne]; omega
        by_cases e7 : 12 < dv.length
        ·exact .inl ⟨.inr (.inr (.inr (.inr (.inr (.inr (.inl ⟨q1, q2, by omega, by omega, k1, k2, k3, by omega⟩)))))), hft.1 (.inr (.inr (.inr (.inl e7))))⟩
        ·exact .inr (.inl ⟨⟨q1, q2, by omega, by omega, k1, k2, k3, by omega⟩, hft.2 (fun h=>h.elim (fun h=>by have h' : dk < 1 ∨ 3 < dk ∨ dk = 1 ∧ dv.length = 0:=h; omega) (fun h=>h.elim (fun h=>h e1) (fun h=>h.elim e2 (fun h=>h.elim e7 (fun h=>h.2 e5)))))⟩)
       ·have k1 : (dk == 1) = false:=by rw [beq_eq_false_iff_ne]; exact e5
        have k2 : (dk != 1) = true:=by rw [bne_iff_ne]; exact e5
        exact .inl ⟨.inr (.inr (.inr (.inr (.inl ⟨q1, q2, by omega, by omega, k2⟩)))), hft.1 (.inr (.inr (.inr (.inr ⟨by trivial, e5⟩))))⟩
     ·rw [decide_eq_false e1] at q1
      exact .inl ⟨.inl q1, hft.1 (.inr (.inl e1))⟩
    clear hft q1 q2 BM hx12
    rcases hcase with ⟨hbad, hB⟩ | hgood
    focus
     have HB:=Lib.hid hB
     clear hB
     rcases hbad with q1 | ⟨q1, q2⟩ | ⟨q1, q2, q3⟩ | ⟨q1, q2, q3, q4⟩ | ⟨q1, q2, q3, q4, q5⟩ | ⟨q1, q2, q3, q4, q5, q6, q7⟩ | ⟨q1, q2, q3, q4, q5, q6, q7, q8⟩ | ⟨q1, q2, q3, q4, q5, q6⟩
     all_goals try exact False.elim q1
     all_goals
      go_wp2_with fail
      refine (C2.out _).mono ?_
      rintro e w1 ⟨rfl, hb2⟩
      have hb3:=hb1.trans (hb2.mono hz1)
      have B1:=HBM.out.past hb2
      have c0':=B1.cell 0
      have c1':=B1.cell 1
      have c2':=B1.cell 2
      have hlt1:=B1.lt
      go_wp2_with fail
      go_ret
      exact ⟨ret_bool (by rw [HE.out, HB.out]; rfl), hb3.alloc hb3.size _⟩
    rcases hgood with ⟨⟨q1, q2, q3, q4, q5, q6, q7, q8⟩, hG⟩ | ⟨⟨q1, q2, q3, q4, q5, q6⟩, hG⟩
    all_goals try exact False.elim q1
    all_goals
     have HG:=Lib.hid hG
     clear hG
     go_wp2_with fail
     refine (C2.out _).mono ?_
     rintro e w1 ⟨rfl, hb2⟩
     have hb3:=hb1.trans (hb2.mono hz1)
     have B1:=HBM.out.past hb2
     have c0':=B1.cell 0
     have c1':=B1.cell 1
     have c2':=B1.cell 2
     have hlt1:=B1.lt
     have hb4:=hb3.alloc hb3.size (.cells #[.string x, .int .i64 sy, .bool sg] 85)
     have HB4:=Lib.hid (B1.alloc (.cells #[.string x, .int .i64 sy, .bool sg] 85))
     have Hb4:=Lib.hid hb4
     have HVV:=Lib.hid (HV.out.past (((Below.refl wr.heap.size wr).alloc (Nat.le_refl _) (.cells #[.int .i64 dk, .string da, .slice V dv.length vc] 44)).trans ((hb2.mono (by simp)))))
     have HVW:=Lib.hid (HVV.out.alloc (.cells #[.string x, .int .i64 sy, .bool sg] 85))
     have hz4:=hb4.size
     have hxd : x = da:=by have h:=toList_eq x da; rw [q1] at h; exact of_decide_eq_true h.symm
     have HC:=Lib.hid (fun s w=>rcheck_any da s w hzq)
     rw [hxd] at HG
     clear hb4 B1 hb2 hb3 HVV hzq hxd
     go_wp2_with fail
     generalize hWW : w1.alloc (.cells #[.string x, .int .i64 sy, .bool sg] 85) = W at HB4 Hb4 HVW hz4 ⊢
     generalize hGM : wr.heap.size = gM at HB4 ⊢
     clear c0' c1' c2' hWW hGM
     go_loopw [9] (fun j wr2=>∃ p : Nat, p ≤ dv.length ∧ j = .int .i64 p ∧ Hid (dv.any (noV da) = (dv.drop p).any (noV da)) ∧ Below W.heap.size W wr2) (fun j wr2=>dv.length - (intOf j).toNat)
     case atStart=>exact ⟨0, Nat.zero_le _, rfl, rfl, Below.refl _ _⟩
     case round =>
      obtain ⟨p, hp2, rfl, hE9, hb9⟩:=hrel
      have hs9:=hb9.size
      have BM9:=HB4.out.past hb9
      have m1:=BM9.cell 1
      have m2:=BM9.cell 2
      have hmz:=BM9.lt
      by_cases hlt2 : p < dv.length
      rotate_left
      focus
       obtain rfl : p = dv.length:=by omega
       have hE3:=hE9.out
       rw [List.drop_length, List.any_nil] at hE3
       have HE3:=Lib.hid (show l.any (badM true) = (l.drop (q + 1)).any (badM true) by rw [HE.out, HG.out, hE3]; rfl)
       clear hE9 hE3 hlt2
       go_wp2_with fail
       refine ⟨⟨q + 1, by omega, by go_num, HE3.out, Hb4.out.trans (hb9.mono hz4)⟩, by simp [intOf]; omega⟩
      obtain ⟨ad2, rfl, hp3, hc3⟩:=HVW.out (by omega)
      have g0:=batA hb9 (by rw [block_of_add]; exact hp3) (hc3 p hlt2)
      have hE3:=hE9.out
      rw [any_drop hlt2] at hE3
      generalize dv[p] = s at g0 hE3
      have HC2:=Lib.hid (fun w=>HC.out s w)
      have HN:=check_bool da s
      have m1d : wr.drew.cell? ⟨gM, 1, none⟩ = some (.string da):=m1
      have m2d : wr.drew.cell? ⟨gM, 2, none⟩ = some (.slice (some ad2) dv.length vc):=m2
      have g0d : wr.drew.cell? (ad2.add p) = some (.string s):=g0
      have hgb:=cell_lt g0
      have hbd:=hb9.drew
      clear hc3 m1 g0 hE9 BM9 HC
      cases hv : noV da s
      focus
       rw [hv] at hE3 HN
       have HE3:=Lib.hid hE3
       have HN2:=Lib.hid HN
       clear hE3 HN hv
       generalize Sc.check (Nm.bs da) (Nm.bs s) = n at HC2 HN2
       have hn0:=HN2.out
       go_wp2_with fail
       go_region_held3 (fun w'=>w'.cell? ⟨gM, 1, none⟩ = some (.string da) ∧ w'.cell? ⟨gM, 2, none⟩ = some (.slice (some ad2) dv.length vc) ∧ w'.cell? (ad2.add p) = some (.string s)) (first | exact ⟨m1d, m2d, g0d⟩ | exact ⟨k1, k2, k3⟩) (first | (go_at_call 62; refine (HC2.out _).mono ?_; rintro e9 w9 ⟨rfl, hb10⟩; have k1:=bat hb10 hmz m1d; have k2:=bat hb10 hmz m2d; have k3:=batA hb10 hgb g0d))
       go_wp2_with fail
       refine ⟨⟨p + 1, by omega, by go_num, HE3.out, hbd.trans (hb10.mono hbd.size)⟩, by simp [intOf]; omega⟩
      focus
       rw [hv] at hE3 HN
       have HE3:=Lib.hid hE3
       have HN2:=Lib.hid HN
       clear hE3 HN hv
       generalize Sc.check (Nm.bs da) (Nm.bs s) = n at HC2 HN2
       have hn0:=HN2.out
       go_wp2_with fail
       go_region_held3 (fun w'=>w'.cell? ⟨gM, 1, none⟩ = some (.string da) ∧ w'.cell? ⟨gM, 2, none⟩ = some (.slice (some ad2) dv.length vc) ∧ w'.cell? (ad2.add p) = some (.string s)) (first | exact ⟨m1d, m2d, g0d⟩ | exact ⟨k1, k2, k3⟩) (first | (go_at_call 62; refine (HC2.out _).mono ?_; rintro e9 w9 ⟨rfl, hb10⟩; have k1:=bat hb10 hmz m1d; have k2:=bat hb10 hmz m2d; have k3:=batA hb10 hgb g0d))
       go_wp2_with fail
       go_ret
       have hbz:=hbd.trans (hb10.mono hbd.size)
       exact ⟨ret_bool (by rw [HE.out, HG.out, HE3.out]; rfl), Hb4.out.trans (hbz.mono hz4)⟩
end Go.Proofs.YtbdpkfgllnbheaaGreatDoor.Ch
