import Derived.Test.YtpnlalfdgngcdaaDoorZA27
set_option linter.unusedVariables false
set_option maxRecDepth 100000
namespace Go.Proofs.YtpnlalfdgngcdaaDoor.Ru
open Go.RowKit
theorem eq_drop {l l' : List ByteArray} {k : Nat} (h : k < l.length) (h' : k < l'.length) : decide (l.drop k = l'.drop k) = (decide (l[k] = l'[k]) && decide (l.drop (k + 1) = l'.drop (k + 1))):=by
 rw [List.drop_eq_getElem_cons h, List.drop_eq_getElem_cons h', Bool.eq_iff_iff]
 simp only [Bool.and_eq_true, decide_eq_true_eq, List.cons.injEq]
set_option maxHeartbeats 8000000 in
theorem rsame_any (d : Bool) (R : ByteArray) (sb : Bool) (W : ByteArray) (l : List ByteArray) (A : Option Addr) (c : Nat) (d' : Bool) (R' : ByteArray) (sb' : Bool) (W' : ByteArray) (l' : List ByteArray) (A' : Option Addr) (c' : Nat) (w : World)
  (h : StrsAt w (· < w.heap.size) A l) (h' : StrsAt w (· < w.heap.size) A' l') (hl : l.length ≤ maxLen) (hl' : l'.length ≤ maxLen) :
  Calls Tryd.prog 15 #[.agg #[.bool d, .string R, .bool sb, .string W, .slice A l.length c], .agg #[.bool d', .string R', .bool sb', .string W', .slice A' l'.length c']] w fun e w'=>e = .returned (.bool (sameR ⟨d, R, sb, W, l⟩ ⟨d', R', sb', W', l'⟩)) ∧ Below w.heap.size w w':=by
 have hb0 : Below w.heap.size w ((w.alloc (.cells #[.bool d, .string R, .bool sb, .string W, .slice A l.length c] 24)).alloc (.cells #[.bool d', .string R', .bool sb', .string W', .slice A' l'.length c'] 24)) :=
  ((Below.refl _ _).alloc (Nat.le_refl _) _).alloc (by simp) _
 have hr : sameR ⟨d, R, sb, W, l⟩ ⟨d', R', sb', W', l'⟩ = (decide (d = d') && (decide (R = R') && (decide (sb = sb') && (decide (W = W') && decide (l = l'))))):=rfl
 generalize sameR ⟨d, R, sb, W, l⟩ ⟨d', R', sb', W', l'⟩ = X at hr
 unfold maxLen at hl hl'
 by_cases h1 : d = d'
 ·subst h1
  rw [decide_eq_true (p:=d = d) rfl, Bool.true_and] at hr
  by_cases h2 : R = R'
  ·subst h2
   rw [decide_eq_true (p:=R = R) rfl, Bool.true_and] at hr
   by_cases h3 : sb = sb'
   ·subst h3
    rw [decide_eq_true (p:=sb = sb) rfl, Bool.true_and] at hr
    by_cases h4 : W = W'
    ·subst h4
     rw [decide_eq_true (p:=W = W) rfl, Bool.true_and] at hr
     by_cases h5 : l.length = l'.length
     ·have h6 : ((l.length : Int) == (l'.length : Int)) = true:=by rw [beq_iff_eq]; omega
      have B1:=Lib.hid ((Blk.new w 24 #[.bool d, .string R, .bool sb, .string W, .slice A l.length c]).alloc (.cells #[.bool d, .string R, .bool sb, .string W, .slice A' l'.length c'] 24))
      have B2:=Lib.hid (Blk.new (w.alloc (.cells #[.bool d, .string R, .bool sb, .string W, .slice A l.length c] 24)) 24 #[.bool d, .string R, .bool sb, .string W, .slice A' l'.length c'])
      have HS:=Lib.hid (h.past hb0)
      have HS':=Lib.hid (h'.past hb0)
      have H5:=Lib.hid h5
      have H0 : Hid (X = decide (l.drop 0 = l'.drop 0)):=hr
      have HB0:=Lib.hid hb0
      have hz : ((w.alloc (.cells #[.bool d, .string R, .bool sb, .string W, .slice A l.length c] 24)).alloc (.cells #[.bool d, .string R, .bool sb, .string W, .slice A' l'.length c'] 24)).heap.size = w.heap.size + 2:=by simp
      have HZ:=Lib.hid hz
      obtain ⟨w0, hw0⟩ : ∃ w0, w0 = ((w.alloc (.cells #[.bool d, .string R, .bool sb, .string W, .slice A l.length c] 24)).alloc (.cells #[.bool d, .string R, .bool sb, .string W, .slice A' l'.length c'] 24)):=⟨_, rfl⟩
      have HW:=Lib.hid hw0
      rw [← hw0] at HS HS' HB0 HZ
      have B1 : Hid (Blk w0 w.heap.size 24 #[.bool d, .string R, .bool sb, .string W, .slice A l.length c]):=by rw [hw0]; exact B1
      have B2 : Hid (Blk w0 (w.heap.size + 1) 24 #[.bool d, .string R, .bool sb, .string W, .slice A' l'.length c']):=by rw [hw0]; exact Lib.hid (by simpa using B2.out)
      have HBL : Hid (Below w0.heap.size w0 ((w.alloc (.cells #[.bool d, .string R, .bool sb, .string W, .slice A l.length c] 24)).alloc (.cells #[.bool d, .string R, .bool sb, .string W, .slice A' l'.length c'] 24))):=by rw [← hw0]; exact Below.refl _ _
      clear h h' hr h5 hb0 hz hw0
      go_enter Tryd.func15, Tryd.ntmps15
      go_wp2_with fail
      go_loopw [5] (fun i wr=>∃ k : Nat, k ≤ l.length ∧ i = .int .i64 k ∧ Hid (X = decide (l.drop k = l'.drop k)) ∧ Below w0.heap.size w0 wr) (fun i wr=>l.length - (intOf i).toNat)
      case atStart=>exact ⟨0, Nat.zero_le _, rfl, H0, HBL.out⟩
      case round =>
       obtain ⟨k, hk, rfl, hE, hb⟩:=hrel
       have a4 : wr.cell? ⟨w.heap.size, 4, none⟩ = some (.slice A l.length c):=(B1.out.past hb).cell 4
       have b4 : wr.cell? ⟨w.heap.size + 1, 4, none⟩ = some (.slice A' l'.length c'):=(B2.out.past hb).cell 4
       have hbw:=HB0.out.trans (hb.mono HB0.out.size)
       by_cases hlt : k < l.length
       ·have hlt' : k < l'.length:=by have:=H5.out; omega
        obtain ⟨b, o, hA, hp, hc⟩:=HS.out.at hb hlt
        obtain ⟨b', o', hA', hp', hc'⟩:=HS'.out.at hb hlt'
        have hx:=hc k hlt
        have hx':=hc' k hlt'
        have hE2:=hE.out
        rw [eq_drop hlt hlt'] at hE2
        generalize l[k] = x at hx hE2
        generalize l'[k] = x' at hx' hE2
        rw [hA] at a4
        rw [hA'] at b4
        have HH:=Lib.hid (And.intro hA hA')
        have HE:=Lib.hid hE2
        clear hE hE2 hc hc' hA hA' H0
        by_cases hq : x = x'
        ·have q : (x.toList == x'.toList) = true:=by rw [toList_eq, decide_eq_true hq]
         have HR:=Lib.hid (show X = decide (l.drop (k + 1) = l'.drop (k + 1)) by rw [HE.out, decide_eq_true hq, Bool.true_and])
         clear hq HE
         go_wp2_with fail
         go_region
         all_goals
          go_wp2_with fail
          refine ⟨⟨k + 1, by omega, by go_num, HR, hb.drew⟩, by simp [intOf]; omega⟩
        ·have q : (x.toList == x'.toList) = false:=by rw [toList_eq, decide_eq_false hq]
         have HR:=Lib.hid (show X = false by rw [HE.out, decide_eq_false hq, Bool.false_and])
         clear hq HE
         go_wp2_with fail
         go_region
         all_goals
          go_wp2_with fail
          go_ret
          exact ⟨ret_bool HR.out.symm, hbw.drew⟩
       ·have hE2:=hE.out
        rw [List.drop_eq_nil_of_le (by omega), List.drop_eq_nil_of_le (by have:=H5.out; omega), decide_eq_true rfl] at hE2
        have HE:=Lib.hid hE2
        clear hE hE2
        go_wp2_with fail
        go_ret
        exact ⟨ret_bool HE.out.symm, hbw⟩
     ·have HR:=Lib.hid (show X = false by rw [hr, decide_eq_false]; intro e; exact h5 (by rw [e]))
      have q : ((l.length : Int) == (l'.length : Int)) = false:=by rw [beq_eq_false_iff_ne]; omega
      clear h h' hl hl' hr h5
      go_enter Tryd.func15, Tryd.ntmps15
      go_wp2_with fail
      go_ret
      exact ⟨ret_bool HR.out.symm, hb0⟩
    ·rw [decide_eq_false h4, Bool.false_and] at hr
     have HR:=Lib.hid hr
     have q : (W.toList == W'.toList) = false:=by rw [toList_eq, decide_eq_false h4]
     clear h h' hl hl' hr h4
     go_enter Tryd.func15, Tryd.ntmps15
     go_wp2_with fail
     go_ret
     exact ⟨ret_bool HR.out.symm, hb0⟩
   ·rw [decide_eq_false h3, Bool.false_and] at hr
    have HR:=Lib.hid hr
    have q : (sb == sb') = false:=by rw [beq_eq_false_iff_ne]; exact h3
    clear h h' hl hl' hr h3
    go_enter Tryd.func15, Tryd.ntmps15
    go_wp2_with fail
    go_ret
    exact ⟨ret_bool HR.out.symm, hb0⟩
  ·rw [decide_eq_false h2, Bool.false_and] at hr
   have HR:=Lib.hid hr
   have q : (R.toList == R'.toList) = false:=by rw [toList_eq, decide_eq_false h2]
   clear h h' hl hl' hr h2
   go_enter Tryd.func15, Tryd.ntmps15
   go_wp2_with fail
   go_ret
   exact ⟨ret_bool HR.out.symm, hb0⟩
 ·rw [decide_eq_false h1, Bool.false_and] at hr
  have HR:=Lib.hid hr
  have q : (d == d') = false:=by rw [beq_eq_false_iff_ne]; exact h1
  clear h h' hl hl' hr h1
  go_enter Tryd.func15, Tryd.ntmps15
  go_wp2_with fail
  go_ret
  exact ⟨ret_bool HR.out.symm, hb0⟩
end Go.Proofs.YtpnlalfdgngcdaaDoor.Ru
