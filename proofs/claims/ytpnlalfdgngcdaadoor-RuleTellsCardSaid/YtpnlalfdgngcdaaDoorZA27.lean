import Derived.Test.YtpnlalfdgngcdaaDoorZA14
import Derived.Test.YtpnlalfdgngcdaaDoorZA26
set_option linter.unusedVariables false
set_option maxRecDepth 100000
namespace Go.Proofs.YtpnlalfdgngcdaaDoor.Ru
open Go.RowKit
abbrev cells (d : Bool) (R : ByteArray) (sb : Bool) (W : ByteArray) (A : Option Addr) (n c : Nat) : Array Value:=#[.bool d, .string R, .bool sb, .string W, .slice A n c]
structure Fit (R W : ByteArray) (l : List ByteArray) : Prop where
 r : R.size ≤ 1000000000
 w : W.size ≤ 1000000000
 n : l.length ≤ 1000000000
 a : ∀ a ∈ l, a.size ≤ 1000000000
theorem rules5 {w : World} {g : Nat} {t : TypeId} {x0 x1 x2 x3 x4 : Value} (h : Blk w g t #[x0, x1, x2, x3, x4]) : w.cell? ⟨g, 0, none⟩ = some x0 ∧ w.cell? ⟨g, 1, none⟩ = some x1 ∧ w.cell? ⟨g, 2, none⟩ = some x2 ∧ w.cell? ⟨g, 3, none⟩ = some x3 ∧ w.cell? ⟨g, 4, none⟩ = some x4 :=
 ⟨h.cell 0, h.cell 1, h.cell 2, h.cell 3, h.cell 4⟩
set_option maxHeartbeats 2000000 in
theorem is_any (d : Bool) (R : ByteArray) (sb : Bool) (W : ByteArray) (l : List ByteArray) (A : Option Addr) (c : Nat) (w : World) (h : StrsAt w (· < w.heap.size) A l) (hf : Fit R W l) :
  Calls Tryd.prog 12 #[.agg #[.bool d, .string R, .bool sb, .string W, .slice A l.length c]] w fun e w'=>e = .returned (.bool (isR ⟨d, R, sb, W, l⟩)) ∧ Below w.heap.size w w':=by
 have hr : isR ⟨d, R, sb, W, l⟩ = (isRights (Nm.bs R) && (isWho (Nm.bs W) && attrsOk none l)):=rfl
 have C1:=Lib.hid (fun w=>areRights_any R w)
 have C2:=Lib.hid (fun w=>isWho_any W w hf.w)
 have C3:=Lib.hid (fun w h=>areAttrs_any l A c w h (by have:=hf.n; unfold maxLen; omega) (fun a ha=>by have:=hf.a a ha; omega))
 have B:=Blk.new w 24 #[.bool d, .string R, .bool sb, .string W, .slice A l.length c]
 have hb0 : Below w.heap.size w (w.alloc (.cells #[.bool d, .string R, .bool sb, .string W, .slice A l.length c] 24)):=(Below.refl _ _).alloc (Nat.le_refl _) _
 obtain ⟨a0, a1, a2, a3, a4⟩:=rules5 B
 have HS:=Lib.hid h
 have HB:=Lib.hid B
 cases h1 : isRights (Nm.bs R) with
 | false =>
  rw [h1, Bool.false_and] at hr
  rw [h1] at C1
  have HR:=Lib.hid hr
  clear h hf B hr h1 a0 a2 a3 a4
  go_enter Tryd.func12, Tryd.ntmps12
  go_wp2_with fail
  refine (C1.out _).mono ?_
  rintro e w1 ⟨rfl, rfl⟩
  go_wp2_with fail
  go_ret
  exact ⟨ret_bool HR.out.symm, hb0⟩
 | true =>
  rw [h1, Bool.true_and] at hr
  rw [h1] at C1
  cases h2 : isWho (Nm.bs W) with
  | false =>
   rw [h2, Bool.false_and] at hr
   rw [h2] at C2
   have HR:=Lib.hid hr
   clear h hf B hr h1 h2 a0 a2 a4
   go_enter Tryd.func12, Tryd.ntmps12
   go_wp2_with fail
   refine (C1.out _).mono ?_
   rintro e w1 ⟨rfl, rfl⟩
   go_wp2_with fail
   refine (C2.out _).mono ?_
   rintro e w2 ⟨rfl, hb⟩
   go_wp2_with fail
   go_ret
   exact ⟨ret_bool HR.out.symm, hb0.trans (hb.mono hb0.size)⟩
  | true =>
   rw [h2, Bool.true_and] at hr
   rw [h2] at C2
   have HR:=Lib.hid hr
   clear h hf B hr h1 h2 a0 a2 a4
   go_enter Tryd.func12, Tryd.ntmps12
   go_wp2_with fail
   refine (C1.out _).mono ?_
   rintro e w1 ⟨rfl, rfl⟩
   go_wp2_with fail
   refine (C2.out _).mono ?_
   rintro e w2 ⟨rfl, hb⟩
   have b4:=(HB.out.past hb).cell 4
   have b4 : w2.cell? ⟨w.heap.size, 4, none⟩ = some (.slice A l.length c):=b4
   have HS2:=Lib.hid (HS.out.past (hb0.trans (hb.mono hb0.size)))
   go_wp2_with fail
   refine (C3.out w2 HS2.out).mono ?_
   rintro e w3 ⟨rfl, hb2⟩
   go_wp2_with fail
   go_ret
   exact ⟨ret_bool HR.out.symm, hb0.trans ((hb.mono hb0.size).trans (hb2.mono (Nat.le_trans hb0.size hb.size)))⟩
end Go.Proofs.YtpnlalfdgngcdaaDoor.Ru
namespace Go.Proofs.YtpnlalfdgngcdaaDoor.Ru
open Go.RowKit
theorem lib_join (c : UInt8) : ∀ l : List (List UInt8), Lib.join l [c] = Nm.join c l
 | []=>rfl
 | [x]=>Lib.join_one x [c]
 | x :: y :: r=>by
  show Lib.join (x :: y :: r) [c] = x ++ c :: Nm.join c (y :: r)
  rw [← lib_join c (y :: r), Lib.join_cons, Lib.join_cons]
  show x ++ ([c] ++ y ++ Lib.joinTail [c] r) = _
  simp
theorem join_any (xs : List ByteArray) (A : Option Addr) (n : Nat) (c : UInt8) (w : World) (h : StrsAt w (· < w.heap.size) A xs) (hn : xs.length ≤ n) (h0 : 0 < xs.length) (hN : xs.length ≤ 1000000000) (hl : (Nm.join c (xs.map Nm.bs)).length ≤ 100000000000) :
  Calls Tryd.prog 25 #[.slice A xs.length n, .string ⟨#[c]⟩] w fun e w'=>e = .returned (.string (Nm.mk (Nm.join c (xs.map Nm.bs)))) ∧ Below w.heap.size w w':=by
 obtain ⟨b, o, rfl, hb, hc⟩:=h h0
 have e:=lib_join c (xs.map Nm.bs)
 refine (Tryd.strings_Join b o n xs ⟨#[c]⟩ w (fun j x hx=>?_) hb (by omega) hn ?_).mono ?_
 ·obtain ⟨hj, rfl⟩:=List.getElem?_eq_some_iff.1 hx
  exact hc j hj
 ·show (Lib.join (xs.map Nm.bs) [c]).length ≤ _
  rw [e]; omega
 ·rintro r w' ⟨rfl, hb'⟩
  refine ⟨?_, hb'⟩
  show Ending.returned (.string (Nm.mk (Lib.join (xs.map Nm.bs) [c]))) = _
  rw [e]
theorem strs_lit {w : World} {g : Nat} {l : List ByteArray} (h : Blk w g 9 (l.map Value.string).toArray) : StrsAt w (· < w.heap.size) (some ⟨g, 0, none⟩) l:=fun h0 =>
 ⟨g, 0, rfl, h.lt, fun i hi=>by
  rw [Nat.zero_add, h.cell i, List.getElem?_toArray, List.getElem?_map, List.getElem?_eq_getElem hi]
  rfl⟩
set_option maxHeartbeats 4000000 in
theorem print_any (d : Bool) (R : ByteArray) (sb : Bool) (W : ByteArray) (l : List ByteArray) (A : Option Addr) (c : Nat) (w : World) (h : StrsAt w (· < w.heap.size) A l) (hf : Fit R W l) (hc : l.length ≤ c) :
  Calls Tryd.prog 13 #[.agg #[.bool d, .string R, .bool sb, .string W, .slice A l.length c]] w fun e w'=>e = .returned (.string (if isR ⟨d, R, sb, W, l⟩ then Nm.mk (pr ⟨d, R, sb, W, l⟩) else ⟨#[]⟩)) ∧ Below w.heap.size w w':=by
 have B:=Blk.new w 24 #[.bool d, .string R, .bool sb, .string W, .slice A l.length c]
 have hb0 : Below w.heap.size w (w.alloc (.cells #[.bool d, .string R, .bool sb, .string W, .slice A l.length c] 24)):=(Below.refl _ _).alloc (Nat.le_refl _) _
 have CI:=is_any d R sb W l A c (w.alloc (.cells #[.bool d, .string R, .bool sb, .string W, .slice A l.length c] 24)) (h.past hb0) hf
 obtain ⟨a0, a1, a2, a3, a4⟩:=rules5 B
 have HS:=Lib.hid h
 have HB:=Lib.hid B
 cases hi : isR ⟨d, R, sb, W, l⟩ with
 | false =>
  rw [hi] at CI
  rw [if_neg (by decide)]
  have HI:=Lib.hid CI
  clear h hf CI B hi
  go_enter Tryd.func13, Tryd.ntmps13
  go_wp2_with fail
  refine HI.out.mono ?_
  rintro e w1 ⟨rfl, hb⟩
  go_wp2_with fail
  go_ret
  exact ⟨rfl, hb0.trans (hb.mono hb0.size)⟩
 | true =>
  rw [hi] at CI
  rw [if_pos rfl]
  have HI:=Lib.hid CI
  obtain ⟨i1, i2, i3⟩:=isR_of hi
  obtain ⟨g1, g2, g3, g4⟩:=rights_of i1
  have hat:=attrsT_len i3
  have hrs : R.size ≤ 6:=g2
  have hws:=hf.w
  have hll : l.length ≤ 15:=ok_few i3
  have HP : Hid (∀ (k h : ByteArray), Nm.bs k = verb d → Nm.bs h = reach sb → ∀ (a : ByteArray), Nm.bs a = attrsT l → ∀ (w1 : World) (n : Nat), 5 ≤ n → ∀ g, Blk w1 g 9 #[.string k, .string R, .string h, .string a, .string W] →
    Calls Tryd.prog 25 #[.slice (some ⟨g, 0, none⟩) 5 n, .string ⟨#[32]⟩] w1 fun e w'=>e = .returned (.string (Nm.mk (pr ⟨d, R, sb, W, l⟩))) ∧ Below w1.heap.size w1 w'):=by
   intro k h' hk hh a ha w1 n hn g hB
   have e : Nm.join 32 ([k, R, h', a, W].map Nm.bs) = pr ⟨d, R, sb, W, l⟩:=by
    show Nm.bs k ++ 32 :: (Nm.bs R ++ 32 :: (Nm.bs h' ++ 32 :: (Nm.bs a ++ 32 :: Nm.bs W))) = _
    rw [hk, hh, ha]
    rfl
   have hpl:=(pr_len hi).2
   have:=join_any [k, R, h', a, W] (some ⟨g, 0, none⟩) n 32 w1 (strs_lit hB) hn (by simp) (by simp) (by rw [e]; show _ ≤ _; have : (Rul.mk d R sb W l).who.size = W.size:=rfl; omega)
   rw [e] at this
   exact this
  by_cases h0 : l = []
  ·have ha : Nm.bs (⟨#[42]⟩ : ByteArray) = attrsT l:=by rw [h0]; rfl
   have HA:=Lib.hid ha
   subst h0
   clear h hf CI B hi i1 i2 i3 g1 g2 g3 g4 ha hat hll
   cases d <;> cases sb
   all_goals
    go_enter Tryd.func13, Tryd.ntmps13
    go_wp2_with fail
    refine HI.out.mono ?_
    rintro e w1 ⟨rfl, hb⟩
    have B1:=HB.out.past hb
    obtain ⟨c0, c1, c2, c3, c4⟩:=rules5 B1
    go_wp2_with fail
    refine (HP.out _ _ rfl rfl _ HA.out _ _ (by decide) _ (Blk.new _ _ _)).mono ?_
    rintro e w2 ⟨rfl, hb2⟩
    go_wp2_with fail
    go_ret
    exact ⟨rfl, hb0.trans ((hb.mono hb0.size).trans (((Below.refl _ _).alloc (Nat.le_refl _) _).trans (hb2.mono (by simp)) |>.mono (Nat.le_trans hb0.size hb.size)))⟩
  ·have hat2 : attrsT l = Nm.join 44 (l.map Nm.bs):=by unfold attrsT; rw [if_neg h0]
   have hpos : (0 : Int) < l.length:=by have:=List.length_pos_iff.2 h0; omega
   rw [hat2] at hat
   have HJ : Hid (∀ w1, Below w.heap.size w w1 → Calls Tryd.prog 25 #[.slice A l.length c, .string ⟨#[44]⟩] w1 fun e w'=>e = .returned (.string (Nm.mk (Nm.join 44 (l.map Nm.bs)))) ∧ Below w1.heap.size w1 w'):=fun w1 hb1 =>
    join_any l A c 44 w1 (HS.out.past hb1) hc (by omega) (by omega) (by omega)
   obtain ⟨T, hT⟩ : ∃ T, T = Nm.mk (Nm.join 44 (l.map Nm.bs)):=⟨_, rfl⟩
   have HA : Hid (Nm.bs T = attrsT l):=by
    show _ = _
    rw [hT, hat2]
   rw [← hT] at HJ
   clear h hf CI B hi i1 i2 i3 g1 g2 g3 g4 hat hat2 hll hT h0
   cases d <;> cases sb
   all_goals
    go_enter Tryd.func13, Tryd.ntmps13
    go_wp2_with fail
    refine HI.out.mono ?_
    rintro e w1 ⟨rfl, hb⟩
    have B1:=HB.out.past hb
    have HB1:=Lib.hid B1
    obtain ⟨c0, c1, c2, c3, c4⟩:=rules5 B1
    have hbA:=hb0.trans (hb.mono hb0.size)
    go_wp2_with fail
    refine (HJ.out w1 hbA).mono ?_
    rintro e w2 ⟨rfl, hb2⟩
    obtain ⟨d0, d1, d2, d3, d4⟩:=rules5 (HB1.out.past hb2)
    clear c0 c1 c2 c3 c4 B1
    have hbB:=hbA.trans (hb2.mono hbA.size)
    go_wp2_with fail
    refine (HP.out _ _ rfl rfl _ HA.out _ _ (by decide) _ (Blk.new _ _ _)).mono ?_
    rintro e w3 ⟨rfl, hb3⟩
    go_wp2_with fail
    go_ret
    exact ⟨rfl, hbB.trans (((Below.refl _ _).alloc (Nat.le_refl _) _).trans (hb3.mono (by simp)) |>.mono hbB.size)⟩
end Go.Proofs.YtpnlalfdgngcdaaDoor.Ru
namespace Go.Proofs.YtpnlalfdgngcdaaDoor.Ru
open Go.RowKit
def sameR (r q : Rul) : Bool:=decide (r.deny = q.deny) && (decide (r.rights = q.rights) && (decide (r.sub = q.sub) && (decide (r.who = q.who) && decide (r.attrs = q.attrs))))
theorem sameR_self (r : Rul) : sameR r r = true:=by unfold sameR; simp
set_option maxHeartbeats 4000000 in
theorem same_any (d : Bool) (R : ByteArray) (sb : Bool) (W : ByteArray) (l : List ByteArray) (A : Option Addr) (c : Nat) (d' : Bool) (R' : ByteArray) (sb' : Bool) (W' : ByteArray) (l' : List ByteArray) (A' : Option Addr) (c' : Nat) (w : World)
  (h : StrsAt w (· < w.heap.size) A l) (h' : StrsAt w (· < w.heap.size) A' l') (hl : l.length ≤ maxLen) (hl' : l'.length ≤ maxLen) :
  Calls Tryd.prog 14 #[.agg #[.bool d, .string R, .bool sb, .string W, .slice A l.length c], .agg #[.bool d', .string R', .bool sb', .string W', .slice A' l'.length c']] w fun e w'=>e = .returned (.bool (sameR ⟨d, R, sb, W, l⟩ ⟨d', R', sb', W', l'⟩)) ∧ Below w.heap.size w w':=by
 have hb0 : Below w.heap.size w ((w.alloc (.cells #[.bool d, .string R, .bool sb, .string W, .slice A l.length c] 24)).alloc (.cells #[.bool d', .string R', .bool sb', .string W', .slice A' l'.length c'] 24)) :=
  ((Below.refl _ _).alloc (Nat.le_refl _) _).alloc (by simp) _
 have hr : sameR ⟨d, R, sb, W, l⟩ ⟨d', R', sb', W', l'⟩ = (decide (d = d') && (decide (R = R') && (decide (sb = sb') && (decide (W = W') && decide (l = l'))))):=rfl
 have CE:=eqS_any l l' A A' c c' _ (h.past hb0) (h'.past hb0) hl hl'
 generalize sameR ⟨d, R, sb, W, l⟩ ⟨d', R', sb', W', l'⟩ = X at hr
 generalize decide (l = l') = t at CE hr
 by_cases h1 : d = d'
 ·subst h1
  rw [decide_eq_true (p:=d = d) rfl, Bool.true_and] at hr
  by_cases h2 : R = R'
  ·subst h2
   rw [decide_eq_true (p:=R = R) rfl, Bool.true_and] at hr
   by_cases h3 : sb = sb'
   ·subst h3
    rw [decide_eq_true (p:=sb = sb) rfl, Bool.true_and] at hr
    by_cases h4 : W = W'
    ·subst h4
     rw [decide_eq_true (p:=W = W) rfl, Bool.true_and] at hr
     have HC:=Lib.hid CE
     have HR:=Lib.hid hr
     clear h h' hl hl' CE hr
     go_enter Tryd.func14, Tryd.ntmps14
     go_wp2_with fail
     refine HC.out.mono ?_
     rintro e w1 ⟨rfl, hb1⟩
     go_wp2_with fail
     go_ret
     exact ⟨ret_bool HR.out.symm, hb0.trans (hb1.mono hb0.size)⟩
    ·rw [decide_eq_false h4, Bool.false_and] at hr
     have HR:=Lib.hid hr
     have q : (W.toList == W'.toList) = false:=by rw [toList_eq, decide_eq_false h4]
     clear h h' hl hl' CE hr h4
     go_enter Tryd.func14, Tryd.ntmps14
     go_wp2_with fail
     go_ret
     exact ⟨ret_bool HR.out.symm, hb0⟩
   ·rw [decide_eq_false h3, Bool.false_and] at hr
    have HR:=Lib.hid hr
    have q : (sb == sb') = false:=by rw [beq_eq_false_iff_ne]; exact h3
    clear h h' hl hl' CE hr h3
    go_enter Tryd.func14, Tryd.ntmps14
    go_wp2_with fail
    go_ret
    exact ⟨ret_bool HR.out.symm, hb0⟩
  ·rw [decide_eq_false h2, Bool.false_and] at hr
   have HR:=Lib.hid hr
   have q : (R.toList == R'.toList) = false:=by rw [toList_eq, decide_eq_false h2]
   clear h h' hl hl' CE hr h2
   go_enter Tryd.func14, Tryd.ntmps14
   go_wp2_with fail
   go_ret
   exact ⟨ret_bool HR.out.symm, hb0⟩
 ·rw [decide_eq_false h1, Bool.false_and] at hr
  have HR:=Lib.hid hr
  have q : (d == d') = false:=by rw [beq_eq_false_iff_ne]; exact h1
  clear h h' hl hl' CE hr h1
  go_enter Tryd.func14, Tryd.ntmps14
  go_wp2_with fail
  go_ret
  exact ⟨ret_bool HR.out.symm, hb0⟩
end Go.Proofs.YtpnlalfdgngcdaaDoor.Ru
