import Derived.Test.YtpnlalfdgngcdaaDoorZA27
set_option linter.unusedVariables false
set_option maxRecDepth 100000
namespace Go.Proofs.YtpnlalfdgngcdaaDoor.Ru
open Go.RowKit
def fewR (R W : ByteArray) (l : List ByteArray) : Bool:=l.all (fun a=>decide (a.size ≤ 30)) && (decide (l.length ≤ 20) && (decide (R.size ≤ 20) && decide (W.size ≤ 200)))
theorem fewR_fit {R W : ByteArray} {l : List ByteArray} (h : fewR R W l = true) : Fit R W l ∧ W.size ≤ 200:=by
 unfold fewR at h
 simp only [Bool.and_eq_true, decide_eq_true_eq, List.all_eq_true] at h
 obtain ⟨h1, h2, h3, h4⟩:=h
 exact ⟨⟨by omega, by omega, by omega, fun a ha=>by have:=h1 a ha; omega⟩, h4⟩
set_option maxHeartbeats 4000000 in
theorem few_any (d : Bool) (R : ByteArray) (sb : Bool) (W : ByteArray) (l : List ByteArray) (A : Option Addr) (c : Nat) (w : World) (h : StrsAt w (· < w.heap.size) A l) (hl : l.length ≤ maxLen) (hR : R.size ≤ maxLen) (hW : W.size ≤ maxLen) (ha : ∀ a ∈ l, a.size ≤ maxLen) :
  Calls Tryd.prog 7 #[.agg #[.bool d, .string R, .bool sb, .string W, .slice A l.length c]] w fun e w'=>e = .returned (.bool (fewR R W l)) ∧ Below w.heap.size w w':=by
 unfold maxLen at hl hR hW
 obtain ⟨ak, hak⟩ : ∃ ak, ak = l.all (fun a=>decide (a.size ≤ 30)):=⟨_, rfl⟩
 have hX : fewR R W l = (ak && (decide (l.length ≤ 20) && (decide (R.size ≤ 20) && decide (W.size ≤ 200)))):=by rw [hak]; rfl
 obtain ⟨X, hXe⟩ : ∃ X, X = fewR R W l:=⟨_, rfl⟩
 rw [← hXe] at hX ⊢
 have HX:=Lib.hid hX
 have H0 : Hid (ak = (l.drop 0).all (fun a=>decide (a.size ≤ 30))):=hak
 have hb0 : Below w.heap.size w (w.alloc (.cells #[.bool d, .string R, .bool sb, .string W, .slice A l.length c] 24)):=(Below.refl _ _).alloc (Nat.le_refl _) _
 obtain ⟨w0, hw0⟩ : ∃ w0, w0 = w.alloc (.cells #[.bool d, .string R, .bool sb, .string W, .slice A l.length c] 24):=⟨_, rfl⟩
 have HB0 : Hid (Below w.heap.size w w0):=by rw [hw0]; exact hb0
 have HB : Hid (Blk w0 w.heap.size 24 #[.bool d, .string R, .bool sb, .string W, .slice A l.length c]):=by rw [hw0]; exact Blk.new _ _ _
 have HS : Hid (StrsAt w0 (· < w0.heap.size) A l):=by rw [hw0]; exact h.past hb0
 have HBL : Hid (Below w0.heap.size w0 (w.alloc (.cells #[.bool d, .string R, .bool sb, .string W, .slice A l.length c] 24))):=by rw [← hw0]; exact Below.refl _ _
 have HA:=Lib.hid ha
 clear h hak hX hXe hb0 hw0 ha
 go_enter Tryd.func7, Tryd.ntmps7
 go_wp2_with fail
 go_loopw [3] (fun i wr=>∃ k : Nat, k ≤ l.length ∧ i = .int .i64 k ∧ Hid (ak = (l.drop k).all (fun a=>decide (a.size ≤ 30))) ∧ Below w0.heap.size w0 wr) (fun i wr=>l.length - (intOf i).toNat)
 case atStart=>exact ⟨0, Nat.zero_le _, rfl, H0, HBL.out⟩
 case round =>
  obtain ⟨k, hk, rfl, hE, hb⟩:=hrel
  have hbw:=HB0.out.trans (hb.mono HB0.out.size)
  have hBw:=HB.out.past hb
  obtain ⟨a0, a1, a2, a3, a4⟩:=rules5 hBw
  by_cases hlt : k < l.length
  ·obtain ⟨b, o, hA, hp, hc⟩:=HS.out.at hb hlt
   rw [hA] at a4
   have hck:=hc k hlt
   have hxm:=HA.out l[k] (List.getElem_mem hlt)
   have hE2:=hE.out
   rw [List.drop_eq_getElem_cons hlt, List.all_cons] at hE2
   obtain ⟨x, hx⟩ : ∃ x, x = l[k]:=⟨_, rfl⟩
   rw [← hx] at hck hxm hE2
   have HAe:=Lib.hid hA
   unfold maxLen at hxm
   clear hA hc hx hE H0 hBw
   by_cases hq : 30 < (x.size : Int)
   ·rw [decide_eq_false (by omega), Bool.false_and] at hE2
    have HR:=Lib.hid (show X = false by rw [HX.out, hE2]; rfl)
    clear hE2
    go_wp2_with fail
    go_ret
    exact ⟨ret_bool HR.out.symm, hbw⟩
   ·rw [decide_eq_true (show x.size ≤ 30 by omega), Bool.true_and] at hE2
    have HE:=Lib.hid hE2
    clear hE2
    go_wp2_with fail
    refine ⟨⟨k + 1, by omega, by go_num, HE, hb⟩, by simp [intOf]; omega⟩
  ·have hE2:=hE.out
   rw [List.drop_eq_nil_of_le (by omega)] at hE2
   have hX2 : X = (decide (l.length ≤ 20) && (decide (R.size ≤ 20) && decide (W.size ≤ 200))):=by rw [HX.out, hE2]; rfl
   clear hE hE2 H0 hBw
   by_cases q1 : (l.length : Int) ≤ 20
   ·rw [decide_eq_true (show l.length ≤ 20 by omega), Bool.true_and] at hX2
    by_cases q2 : (R.size : Int) ≤ 20
    ·rw [decide_eq_true (show R.size ≤ 20 by omega), Bool.true_and] at hX2
     by_cases q3 : (W.size : Int) ≤ 200
     ·rw [decide_eq_true (show W.size ≤ 200 by omega)] at hX2
      have HR:=Lib.hid hX2
      clear hX2
      go_wp2_with fail
      go_ret
      exact ⟨ret_bool HR.out.symm, hbw⟩
     ·rw [decide_eq_false (show ¬ W.size ≤ 200 by omega)] at hX2
      have HR:=Lib.hid hX2
      clear hX2
      go_wp2_with fail
      go_ret
      exact ⟨ret_bool HR.out.symm, hbw⟩
    ·rw [decide_eq_false (show ¬ R.size ≤ 20 by omega), Bool.false_and] at hX2
     have HR:=Lib.hid hX2
     clear hX2
     go_wp2_with fail
     go_ret
     exact ⟨ret_bool HR.out.symm, hbw⟩
   ·rw [decide_eq_false (show ¬ l.length ≤ 20 by omega), Bool.false_and] at hX2
    have HR:=Lib.hid hX2
    clear hX2
    go_wp2_with fail
    go_ret
    exact ⟨ret_bool HR.out.symm, hbw⟩
end Go.Proofs.YtpnlalfdgngcdaaDoor.Ru
