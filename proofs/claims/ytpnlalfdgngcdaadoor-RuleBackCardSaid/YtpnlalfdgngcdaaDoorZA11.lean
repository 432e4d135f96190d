import Derived.Test.YtpnlalfdgngcdaaDoorZA9
import Derived.Test.YtpnlalfdgngcdaaDoorZA10
set_option linter.unusedVariables false
set_option maxRecDepth 100000
namespace Go.Proofs.YtpnlalfdgngcdaaDoor.Ru
open Go.RowKit
def StrsAt (w : World) (P : Nat → Prop) (A : Option Addr) (ss : List ByteArray) : Prop :=
 0 < ss.length → ∃ b o, A = some ⟨b, o, none⟩ ∧ P b ∧ ∀ i (h : i < ss.length), w.cell? ⟨b, o + i, none⟩ = some (.string ss[i])
theorem StrsAt.imp {w w' : World} {P P' : Nat → Prop} {A : Option Addr} {ss : List ByteArray} (h : StrsAt w P A ss) (hP : ∀ b, P b → P' b) (hw : ∀ p : Addr, P p.block → w'.cell? p = w.cell? p) : StrsAt w' P' A ss:=by
 intro h0
 obtain ⟨b, o, e, hp, hc⟩:=h h0
 exact ⟨b, o, e, hP _ hp, fun i hi=>(hw ⟨b, o + i, none⟩ hp).trans (hc i hi)⟩
theorem StrsAt.nil (w : World) (P : Nat → Prop) (A : Option Addr) : StrsAt w P A []:=fun h=>absurd h (by simp)
theorem StrsAt.past {w w' : World} {A : Option Addr} {ss : List ByteArray} (h : StrsAt w (· < w.heap.size) A ss) (hb : Below w.heap.size w w') : StrsAt w' (· < w'.heap.size) A ss :=
 h.imp (fun _ h=>Nat.lt_of_lt_of_le h hb.size) (fun p hp=>hb.cell hp)
theorem StrsAt.drew {w : World} {P : Nat → Prop} {A : Option Addr} {ss : List ByteArray} (h : StrsAt w P A ss) : StrsAt w.drew P A ss:=h
theorem StrsAt.alloc {w : World} {A : Option Addr} {ss : List ByteArray} (h : StrsAt w (· < w.heap.size) A ss) (o : Obj) : StrsAt (w.alloc o) (· < (w.alloc o).heap.size) A ss:=h.past ((Below.refl _ _).alloc (Nat.le_refl _) o)
theorem toList_eq (a b : ByteArray) : (a.toList == b.toList) = decide (a = b):=by
 rw [Bool.eq_iff_iff]
 simp only [beq_iff_eq, decide_eq_true_eq]
 constructor
 ·intro h
  have : a.data.toList = b.data.toList:=by simpa [ByteArray.toList_eq] using h
  cases a; cases b
  simp only [ByteArray.mk.injEq]
  simpa using this
 ·intro h; rw [h]
theorem bs_inj {a b : ByteArray} : a = b ↔ Nm.bs a = Nm.bs b:=by
 constructor
 ·intro h; rw [h]
 ·intro h
  refine ByteArray.ext ?_
  exact Array.toList_inj.1 h
theorem toList_bs (a : ByteArray) : a.toList = Nm.bs a:=by rw [ByteArray.toList_eq]
theorem eq_const (a : ByteArray) (l : List UInt8) : (a.toList == l) = decide (Nm.bs a = l):=by
 rw [toList_bs, Bool.eq_iff_iff, beq_iff_eq, decide_eq_true_eq]
theorem drewN_below (B n : Nat) (w : World) : Below B w (w.drewN n):=⟨rfl, rfl, rfl, Nat.le_refl _, fun _ _=>rfl⟩
theorem eqS_any (ss ss' : List ByteArray) (S S' : Option Addr) (c c' : Nat) (w : World) (h : StrsAt w (· < w.heap.size) S ss) (h' : StrsAt w (· < w.heap.size) S' ss') (hl : ss.length ≤ maxLen) (hl' : ss'.length ≤ maxLen) :
  Calls Tryd.prog 26 #[.slice S ss.length c, .slice S' ss'.length c'] w fun e w'=>e = .returned (.bool (decide (ss = ss'))) ∧ Below w.heap.size w w':=by
 unfold maxLen at hl hl'
 by_cases hn : ss.length = ss'.length
 ·by_cases h0 : ss.length = 0
  ·rw [h0]
   refine (Tryd.slices_Equal_string_empty S S' c ss'.length c' w (by omega)).mono ?_
   rintro e w' ⟨rfl, rfl⟩
   refine ⟨ret_bool ?_, Below.refl _ _⟩
   rw [decide_eq_true (by omega), List.eq_nil_of_length_eq_zero h0, List.eq_nil_of_length_eq_zero (l:=ss') (by omega)]; rfl
  ·obtain ⟨b, o, rfl, hb, hc⟩:=h (by omega)
   obtain ⟨b', o', rfl, hb', hc'⟩:=h' (by omega)
   refine (Tryd.slices_Equal_string b o ss.length c b' o' ss'.length c' ss ss' w (Nat.le_refl _) (Nat.le_refl _) (by omega) (by omega) (fun j hj=>?_) (fun j hj=>?_)).mono ?_
   ·rw [hc j hj, List.getD_eq_getElem?_getD, List.getElem?_eq_getElem hj, Option.getD_some]
   ·rw [hc' j hj, List.getD_eq_getElem?_getD, List.getElem?_eq_getElem hj, Option.getD_some]
   ·rintro e w' ⟨rfl, q, rfl⟩
    exact ⟨by rw [List.take_length, List.take_length], drewN_below _ _ _⟩
 ·refine (Tryd.slices_Equal_string_lens S S' ss.length c ss'.length c' w hn).mono ?_
  rintro e w' ⟨rfl, rfl⟩
  exact ⟨ret_bool (by rw [decide_eq_false]; intro e; exact hn (by rw [e])), Below.refl _ _⟩
end Go.Proofs.YtpnlalfdgngcdaaDoor.Ru
namespace Go.Proofs.YtpnlalfdgngcdaaDoor.Ru
open Go.RowKit
def ahead (l : List ByteArray) : Nat → Option ByteArray
 | 0=>none
 | k + 1=>l[k]?
theorem ok_step {l : List ByteArray} {k : Nat} (h : k < l.length) : attrsOk (ahead l k) (l.drop k) = (isTy l[k] && (behind (ahead l k) l[k] && attrsOk (ahead l (k + 1)) (l.drop (k + 1)))):=by
 rw [List.drop_eq_getElem_cons h, attrsOk]
 show _ = (isTy l[k] && (behind (ahead l k) l[k] && attrsOk l[k]? (l.drop (k + 1))))
 rw [List.getElem?_eq_getElem h]
theorem StrsAt.at {w wr : World} {A : Option Addr} {ss : List ByteArray} (h : StrsAt w (· < w.heap.size) A ss) (hb : Below w.heap.size w wr) {k : Nat} (hk : k < ss.length) :
  ∃ b o, A = some ⟨b, o, none⟩ ∧ b < w.heap.size ∧ ∀ i (h : i < ss.length), wr.cell? ⟨b, o + i, none⟩ = some (.string ss[i]):=by
 obtain ⟨b, o, e, hp, hc⟩:=h (by omega)
 exact ⟨b, o, e, hp, fun i hi=>(hb.cell (p:=⟨b, o + i, none⟩) hp).trans (hc i hi)⟩
set_option maxHeartbeats 4000000 in
theorem areAttrs_any (l : List ByteArray) (A : Option Addr) (c : Nat) (w : World) (h : StrsAt w (· < w.heap.size) A l) (hl : l.length ≤ maxLen) (hz : ∀ a ∈ l, a.size ≤ 1099511627776) :
  Calls Tryd.prog 24 #[.slice A l.length c] w fun e w'=>e = .returned (.bool (attrsOk none l)) ∧ Below w.heap.size w w':=by
 have H:=Lib.hid h
 have HZ:=Lib.hid hz
 have CF:=Lib.hid find_any
 obtain ⟨R, hR⟩ : ∃ R, R = attrsOk none l:=⟨_, rfl⟩
 have H0 : Hid (R = attrsOk (ahead l 0) (l.drop 0)):=hR
 rw [← hR]
 clear h hz hR
 unfold maxLen at hl
 go_enter Tryd.func24, Tryd.ntmps24
 go_wp2_with fail
 go_loopw [9] (fun i wr=>∃ k : Nat, k ≤ l.length ∧ i = .int .i64 k ∧ Hid (R = attrsOk (ahead l k) (l.drop k)) ∧ Below w.heap.size w wr) (fun i wr=>l.length - (intOf i).toNat)
 case atStart=>exact ⟨0, Nat.zero_le _, rfl, H0, Below.refl _ _⟩
 case round =>
  obtain ⟨k, hk, rfl, hE, hb⟩:=hrel
  by_cases hlt : k < l.length
  ·obtain ⟨b, o, rfl, hp, hc⟩:=H.out.at hb hlt
   have hck:=hc k hlt
   have hs:=hb.size
   have hE2:=hE.out
   rw [ok_step hlt] at hE2
   have hzk:=HZ.out l[k] (List.getElem_mem hlt)
   obtain ⟨x, hx⟩ : ∃ x, x = l[k]:=⟨_, rfl⟩
   rw [← hx] at hck hE2 hzk
   have HE:=Lib.hid hE2
   have HC:=Lib.hid hc
   have HX:=Lib.hid hx
   have C1:=CF.out x wr hzk
   have hty : isTy x = (match Sc.find (Nm.bs x) with
    | none=>false
    | some t=>decide (t.1 = x)):=rfl
   cases hf : Sc.find (Nm.bs x) with
   | none =>
    rw [hf] at C1 hty
    have HR:=Lib.hid (show R = false by rw [hE2, hty]; rfl)
    have HC1:=Lib.hid (show Calls Tryd.prog 40 #[.string x] wr fun e w'=>e = .returned (.tuple #[.agg #[.string ⟨#[]⟩, .int .i64 0, .bool false], .bool false]) ∧ Below wr.heap.size wr w' from C1)
    clear hE hE2 H0 hc hx hzk hf hty C1 HE HC
    go_wp2_with fail
    refine HC1.out.mono ?_
    rintro e w1 ⟨rfl, hb1⟩
    go_wp2_with fail
    go_ret
    exact ⟨ret_bool HR.out.symm, hb.trans ((hb1.mono hs).alloc (Nat.le_trans hs hb1.size) _)⟩
   | some t =>
    obtain ⟨n, sy, sg⟩:=t
    rw [hf] at C1 hty
    have hty : isTy x = decide (n = x):=hty
    have HC1:=Lib.hid (show Calls Tryd.prog 40 #[.string x] wr fun e w'=>e = .returned (.tuple #[.agg #[.string n, .int .i64 sy, .bool sg], .bool true]) ∧ Below wr.heap.size wr w' from C1)
    clear hf C1
    by_cases hn : n = x
    ·subst hn
     rw [hty, decide_eq_true rfl, Bool.true_and] at hE2
     have hq : (n.toList == n.toList) = true:=beq_self_eq_true _
     cases k with
     | zero =>
      have HR:=Lib.hid (show R = attrsOk (ahead l 1) (l.drop 1) by rw [hE2]; rfl)
      have hck : wr.cell? ⟨b, o, none⟩ = some (.string n):=hck
      clear hE hE2 H0 hc hx hzk hty HE HC
      go_wp2_with fail
      refine HC1.out.mono ?_
      rintro e w1 ⟨rfl, hb1⟩
      go_wp2_with fail
      refine ⟨⟨1, by omega, by go_num, HR, hb.trans ((hb1.mono hs).alloc (Nat.le_trans hs hb1.size) _)⟩, by simp [intOf]; omega⟩
     | succ j =>
      have hpj:=HC.out j (by omega)
      have hbh : behind (ahead l (j + 1)) n = Op.bytesLess (l[j]'(by omega)).toList n.toList:=by
       show behind l[j]? n = _
       rw [List.getElem?_eq_getElem (by omega)]; rfl
      rw [hbh] at hE2
      obtain ⟨y, hy⟩ : ∃ y, y = l[j]'(by omega):=⟨_, rfl⟩
      rw [← hy] at hE2 hpj
      have hj1 : ((j : Int) + 1 > 0):=by omega
      cases hlss : Op.bytesLess y.toList n.toList with
      | false =>
       have HR:=Lib.hid (show R = false by rw [hE2, hlss]; rfl)
       have HP:=Lib.hid hpj
       clear hE hE2 H0 hc hx hzk hty HE HC hbh hy hpj
       go_wp2_with fail
       refine HC1.out.mono ?_
       rintro e w1 ⟨rfl, hb1⟩
       have hp1 : (w1.alloc (.cells #[.string n, .int .i64 sy, .bool sg] 39)).cell? ⟨b, o + j, none⟩ = some (.string y):=bat ((Below.refl _ _).alloc (Nat.le_refl _) _) (Nat.lt_of_lt_of_le hp (Nat.le_trans hs hb1.size)) (bat hb1 (Nat.lt_of_lt_of_le hp hs) HP.out)
       go_wp2_with fail
       go_ret
       exact ⟨ret_bool HR.out.symm, hb.trans ((hb1.mono hs).alloc (Nat.le_trans hs hb1.size) _)⟩
      | true =>
       have HR:=Lib.hid (show R = attrsOk (ahead l (j + 1 + 1)) (l.drop (j + 1 + 1)) by rw [hE2, hlss]; rfl)
       have HP:=Lib.hid hpj
       clear hE hE2 H0 hc hx hzk hty HE HC hbh hy hpj
       go_wp2_with fail
       refine HC1.out.mono ?_
       rintro e w1 ⟨rfl, hb1⟩
       have hp1 : (w1.alloc (.cells #[.string n, .int .i64 sy, .bool sg] 39)).cell? ⟨b, o + j, none⟩ = some (.string y):=bat ((Below.refl _ _).alloc (Nat.le_refl _) _) (Nat.lt_of_lt_of_le hp (Nat.le_trans hs hb1.size)) (bat hb1 (Nat.lt_of_lt_of_le hp hs) HP.out)
       go_wp2_with fail
       refine ⟨⟨j + 1 + 1, by omega, by go_num, HR, hb.trans ((hb1.mono hs).alloc (Nat.le_trans hs hb1.size) _)⟩, by simp [intOf]; omega⟩
    ·rw [hty, decide_eq_false hn, Bool.false_and] at hE2
     have HR:=Lib.hid hE2
     have hq : (n.toList == x.toList) = false:=by rw [toList_eq, decide_eq_false hn]
     clear hE hE2 H0 hc hx hzk hty HE HC hn
     go_wp2_with fail
     refine HC1.out.mono ?_
     rintro e w1 ⟨rfl, hb1⟩
     go_wp2_with fail
     go_ret
     exact ⟨ret_bool HR.out.symm, hb.trans ((hb1.mono hs).alloc (Nat.le_trans hs hb1.size) _)⟩
  ·have hE2:=hE.out
   rw [List.drop_eq_nil_of_le (by omega), attrsOk] at hE2
   have HE:=Lib.hid hE2
   clear hE hE2
   go_wp2_with fail
   go_ret
   exact ⟨ret_bool HE.out.symm, hb⟩
end Go.Proofs.YtpnlalfdgngcdaaDoor.Ru
