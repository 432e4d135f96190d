import Derived.Test.YtpnlalfdgngcdaaDoorZA39
import Derived.Test.YtpnlalfdgngcdaaDoorZA36
import Derived.Test.YtpnlalfdgngcdaaDoorZA38
set_option linter.unusedVariables false
set_option maxRecDepth 100000
namespace Go.Proofs.YtpnlalfdgngcdaaDoor.Ru
open Go.RowKit
theorem skips_nil : ∀ cs : List UInt8, skips cs [] = []
 | []=>rfl
 | c :: cs=>by rw [skips, skip, skips_nil cs]
theorem skips_hit {cs : List UInt8} {l : List UInt8} {a k : Nat} (ha : a < cs.length) (hk : k < l.length) (h : cs[a] = l[k]) : skips (cs.drop a) (l.drop k) = skips (cs.drop (a + 1)) (l.drop (k + 1)):=by
 rw [List.drop_eq_getElem_cons ha, List.drop_eq_getElem_cons hk, skips, skip, if_pos h.symm]
theorem skips_miss {cs : List UInt8} {l : List UInt8} {a k : Nat} (ha : a < cs.length) (hk : k < l.length) (h : ¬ cs[a] = l[k]) : skips (cs.drop a) (l.drop k) = skips (cs.drop (a + 1)) (l.drop k):=by
 rw [List.drop_eq_getElem_cons ha, skips]
 congr 1
 rw [List.drop_eq_getElem_cons hk, skip, if_neg (fun e=>h e.symm)]
theorem less_tri : ∀ a b : List UInt8, (Op.bytesLess b a || b == a) = !Op.bytesLess a b
 | [], []=>rfl
 | [], _ :: _=>rfl
 | _ :: _, []=>rfl
 | x :: a, y :: b=>by
  show ((decide (y < x) || (y == x && Op.bytesLess b a)) || (y == x && b == a)) = !(decide (x < y) || (x == y && Op.bytesLess a b))
  have ih:=less_tri a b
  rcases Nat.lt_trichotomy x.toNat y.toNat with h | h | h
  ·have h1 : x < y:=UInt8.lt_iff_toNat_lt.2 h
   have h2 : ¬ y < x:=fun e=>by have:=UInt8.lt_iff_toNat_lt.1 e; omega
   have h3 : (y == x) = false:=by rw [beq_eq_false_iff_ne]; rintro rfl; omega
   rw [decide_eq_true h1, decide_eq_false h2, h3]; rfl
  ·have h0 : x = y:=UInt8.toNat_inj.1 h
   subst h0
   have h2 : ¬ x < x:=fun e=>by have:=UInt8.lt_iff_toNat_lt.1 e; omega
   rw [decide_eq_false h2, beq_self_eq_true]
   simpa using ih
  ·have h1 : y < x:=UInt8.lt_iff_toNat_lt.2 h
   have h2 : ¬ x < y:=fun e=>by have:=UInt8.lt_iff_toNat_lt.1 e; omega
   have h3 : (x == y) = false:=by rw [beq_eq_false_iff_ne]; rintro rfl; omega
   rw [decide_eq_true h1, decide_eq_false h2, h3]; rfl
set_option maxHeartbeats 16000000 in
theorem rIs_any (d : Bool) (R : ByteArray) (sb : Bool) (W : ByteArray) (l : List ByteArray) (A : Option Addr) (c : Nat) (w : World) (h : StrsAt w (· < w.heap.size) A l) (hf : Fit R W l) :
  Calls Tryd.prog 8 #[.agg #[.bool d, .string R, .bool sb, .string W, .slice A l.length c]] w fun e w'=>e = .returned (.bool (isR ⟨d, R, sb, W, l⟩)) ∧ Below w.heap.size w w':=by
 obtain ⟨sk, hsk⟩ : ∃ sk, sk = (skips letters (Nm.bs R)).isEmpty:=⟨_, rfl⟩
 have hr : isR ⟨d, R, sb, W, l⟩ = ((!(Nm.bs R).isEmpty && sk) && (isWho (Nm.bs W) && attrsOk none l)):=by rw [hsk]; rfl
 obtain ⟨X, hX⟩ : ∃ X, X = isR ⟨d, R, sb, W, l⟩:=⟨_, rfl⟩
 rw [← hX] at hr ⊢
 have HX:=Lib.hid hr
 have H0 : Hid (sk = (skips (letters.drop 0) ((Nm.bs R).drop 0)).isEmpty):=hsk
 have hb0 : Below w.heap.size w (w.alloc (.cells #[.bool d, .string R, .bool sb, .string W, .slice A l.length c] 24)):=(Below.refl _ _).alloc (Nat.le_refl _) _
 have hz : (w.alloc (.cells #[.bool d, .string R, .bool sb, .string W, .slice A l.length c] 24)).heap.size = w.heap.size + 1:=by simp
 obtain ⟨w0, hw0⟩ : ∃ w0, w0 = w.alloc (.cells #[.bool d, .string R, .bool sb, .string W, .slice A l.length c] 24):=⟨_, rfl⟩
 have HB0 : Hid (Below w.heap.size w w0):=by rw [hw0]; exact hb0
 have HB : Hid (Blk w0 w.heap.size 24 #[.bool d, .string R, .bool sb, .string W, .slice A l.length c]):=by rw [hw0]; exact Blk.new _ _ _
 have HS : Hid (StrsAt w0 (· < w0.heap.size) A l):=by rw [hw0]; exact h.past hb0
 have HBL : Hid (Below w0.heap.size w0 (w.alloc (.cells #[.bool d, .string R, .bool sb, .string W, .slice A l.length c] 24))):=by rw [← hw0]; exact Below.refl _ _
 have hrz:=hf.r
 have HF:=Lib.hid hf
 clear h hf hX hr hb0 hz hw0 hsk
 go_enter Tryd.func8, Tryd.ntmps8
 go_wp2_with fail
 go_loopw [3, 4] (fun t i wr=>∃ a k : Nat, a ≤ 6 ∧ k ≤ R.size ∧ t = .int .i64 a ∧ i = .int .i64 k ∧ Hid (sk = (skips (letters.drop a) ((Nm.bs R).drop k)).isEmpty) ∧ Below w0.heap.size w0 wr) (fun t i wr=>R.size - (intOf i).toNat)
 case atStart=>exact ⟨0, 0, Nat.zero_le _, Nat.zero_le _, rfl, rfl, H0, HBL.out⟩
 case round =>
  obtain ⟨a, k, ha, hk, rfl, rfl, hE, hb⟩:=hrel
  have HE:=hE
  have r1 : wr.cell? ⟨w.heap.size, 1, none⟩ = some (.string R):=(HB.out.past hb).cell 1
  by_cases hlt : k < R.size
  ·clear H0 hE
   go_wp2_with fail
   go_loopw [3] (fun t wr=>∃ a : Nat, a ≤ 6 ∧ t = .int .i64 a ∧ Hid (sk = (skips (letters.drop a) ((Nm.bs R).drop k)).isEmpty) ∧ Below w0.heap.size w0 wr) (fun t wr=>6 - (intOf t).toNat)
   case atStart=>exact ⟨a, ha, rfl, HE, hb⟩
   case round =>
    obtain ⟨a, ha, rfl, hE, hb⟩:=hrel
    have r1 : wr.cell? ⟨w.heap.size, 1, none⟩ = some (.string R):=(HB.out.past hb).cell 1
    have hbw:=HB0.out.trans (hb.mono HB0.out.size)
    by_cases h6 : a < 6
    ·have ha6 : a < letters.length:=h6
     have hk6 : k < (Nm.bs R).length:=hlt
     obtain ⟨cc, hcc⟩ : ∃ cc, cc = letters[a]:=⟨_, rfl⟩
     have hcr : ∀ h, (⟨#[114, 115, 99, 119, 97, 100]⟩ : ByteArray)[a]'h = cc:=fun h=>by rw [hcc]; rfl
     have h6' : (a : Int) < 6:=by omega
     have h256:=u8_lt cc
     obtain ⟨rk, hrk⟩ : ∃ rk, rk = R[k]'hlt:=⟨_, rfl⟩
     have hrr : ∀ h, R[k]'h = rk:=fun _=>hrk.symm
     have hbk : (Nm.bs R)[k]'hk6 = rk:=hrk.symm
     have h257:=u8_lt rk
     clear hrk
     by_cases hq : cc = rk
     ·have hE2:=hE.out
      rw [skips_hit ha6 hk6 (by rw [← hcc, hbk]; exact hq)] at hE2
      have HE2:=Lib.hid hE2
      have hn : ((cc.toNat : Int) == (rk.toNat : Int)) = true:=by rw [hq]; exact beq_self_eq_true _
      have h66 : ((a : Int) == 6) = false:=by rw [beq_eq_false_iff_ne]; omega
      clear hE hE2 hq hcc hbk ha6 hk6
      go_wp2_with fail
      go_region
      all_goals
       go_wp2_with fail
       refine ⟨⟨a + 1, k + 1, by omega, by omega, by go_num, by go_num, HE2, hb.drew⟩, by simp [intOf]; omega⟩
     ·have hE2:=hE.out
      rw [skips_miss ha6 hk6 (by rw [← hcc, hbk]; exact hq)] at hE2
      have HE2:=Lib.hid hE2
      have hn : ((cc.toNat : Int) == (rk.toNat : Int)) = false:=by
       rw [beq_eq_false_iff_ne]
       intro e
       exact hq (UInt8.toNat_inj.1 (by omega))
      clear hE hE2 hq hcc hbk ha6 hk6
      go_wp2_with fail
      go_region
      all_goals
       go_wp2_with fail
       refine ⟨⟨a + 1, by omega, by go_num, HE2, hb.drew⟩, by simp [intOf]; omega⟩
    ·have h66 : a = 6:=by omega
     subst h66
     have hE2:=hE.out
     have hk6 : k < (Nm.bs R).length:=hlt
     rw [show letters.drop 6 = [] from rfl, List.drop_eq_getElem_cons hk6, skips] at hE2
     have HR:=Lib.hid (show X = false by rw [HX.out, hE2]; simp)
     clear hE hE2 hk6
     go_wp2_with fail
     go_region
     all_goals
      go_wp2_with fail
      go_ret
      exact ⟨ret_bool HR.out.symm, hbw.drew⟩
  ·have hbw:=HB0.out.trans (hb.mono HB0.out.size)
   have hE2:=hE.out
   rw [List.drop_eq_nil_of_le (show (Nm.bs R).length ≤ k by show R.size ≤ k; omega), skips_nil] at hE2
   obtain ⟨ak, hak⟩ : ∃ ak, ak = attrsOk none l:=⟨_, rfl⟩
   have HX3:=Lib.hid (show X = (!(Nm.bs R).isEmpty && (isWho (Nm.bs W) && ak)) by rw [HX.out, hE2, hak]; cases (Nm.bs R).isEmpty <;> rfl)
   have HA0 : Hid (ak = attrsOk (ahead l 0) (l.drop 0)):=hak
   have r4 : wr.cell? ⟨w.heap.size, 4, none⟩ = some (.slice A l.length c):=(HB.out.past hb).cell 4
   have CF:=Lib.hid rfind_any
   have hll:=HF.out.n
   clear H0 hE hE2 hak HX HBL
   go_wp2_with fail
   go_loopw [5] (fun i wr=>∃ j : Nat, j ≤ l.length ∧ i = .int .i64 j ∧ Hid (ak = attrsOk (ahead l j) (l.drop j)) ∧ Below w0.heap.size w0 wr) (fun i wr=>l.length - (intOf i).toNat)
   case atStart=>exact ⟨0, Nat.zero_le _, rfl, HA0, hb⟩
   case round =>
    clear hbw hb r1 r4
    obtain ⟨j, hj, rfl, hE, hb⟩:=hrel
    have hbw:=HB0.out.trans (hb.mono HB0.out.size)
    have r4 : wr.cell? ⟨w.heap.size, 4, none⟩ = some (.slice A l.length c):=(HB.out.past hb).cell 4
    by_cases hltj : j < l.length
    ·obtain ⟨b, o, hA, hp, hc⟩:=HS.out.at hb hltj
     rw [hA] at r4
     have hcj:=hc j hltj
     have hs:=hb.size
     have hE2:=hE.out
     rw [ok_step hltj] at hE2
     have hzk:=HF.out.a l[j] (List.getElem_mem hltj)
     obtain ⟨x, hx⟩ : ∃ x, x = l[j]:=⟨_, rfl⟩
     rw [← hx] at hcj hE2 hzk
     have HC:=Lib.hid hc
     have HX4:=Lib.hid hx
     have C1:=CF.out x wr (by omega)
     have hty : isTy x = (match Sc.find (Nm.bs x) with
      | none=>false
      | some t=>decide (t.1 = x)):=rfl
     have HBw:=Lib.hid (HB.out.past hb)
     have HAe:=Lib.hid hA
     clear hE HA0 hc hx hzk hA
     have hpw : b < wr.heap.size:=Nat.lt_of_lt_of_le hp hs
     have hgw : w.heap.size < wr.heap.size:=HBw.out.lt
     cases hf : Sc.find (Nm.bs x) with
     | none =>
      rw [hf] at C1 hty
      have HR:=Lib.hid (show X = false by rw [HX3.out, hE2, hty]; simp)
      have HC1:=Lib.hid (show Calls Tryd.prog 16 #[.string x] wr fun e w'=>e = .returned (.tuple #[.agg #[.string ⟨#[]⟩, .int .i64 0, .bool false], .bool false]) ∧ Below wr.heap.size wr w' from C1)
      clear hE2 hf hty C1 HC HX3
      go_wp2_with fail
      refine HC1.out.mono ?_
      rintro e w1 ⟨rfl, hb1⟩
      have hb3:=hbw.trans ((hb1.mono hbw.size).alloc (Nat.le_trans hbw.size hb1.size) (.cells #[.string ⟨#[]⟩, .int .i64 0, .bool false] 39))
      go_wp2_with fail
      go_region
      all_goals
       go_wp2_with fail
       go_ret
       exact ⟨ret_bool HR.out.symm, hb3.drew⟩
     | some t =>
      obtain ⟨n, sy, sg⟩:=t
      rw [hf] at C1 hty
      have hty : isTy x = decide (n = x):=hty
      have HC1:=Lib.hid (show Calls Tryd.prog 16 #[.string x] wr fun e w'=>e = .returned (.tuple #[.agg #[.string n, .int .i64 sy, .bool sg], .bool true]) ∧ Below wr.heap.size wr w' from C1)
      clear hf C1
      have HPA : Hid (∀ w1, Below wr.heap.size wr w1 → (∀ p v, p.block < wr.heap.size → wr.cell? p = some v → (w1.alloc (.cells #[.string n, .int .i64 sy, .bool sg] 39)).cell? p = some v) ∧ Below w.heap.size w (w1.alloc (.cells #[.string n, .int .i64 sy, .bool sg] 39)) ∧ Below w0.heap.size w0 (w1.alloc (.cells #[.string n, .int .i64 sy, .bool sg] 39))):=fun w1 hb1 =>
       ⟨fun p v hp hv=>batA ((Below.refl _ _).alloc (Nat.le_refl _) _) (Nat.lt_of_lt_of_le hp hb1.size) (batA hb1 hp hv), hbw.trans ((hb1.mono hbw.size).alloc (Nat.le_trans hbw.size hb1.size) _), hb.trans ((hb1.mono hs).alloc (Nat.le_trans hs hb1.size) _)⟩
      by_cases hn : n = x
      ·subst hn
       rw [hty, decide_eq_true rfl, Bool.true_and] at hE2
       have hq : (n.toList == n.toList) = true:=beq_self_eq_true _
       cases j with
       | zero =>
        have HR:=Lib.hid (show ak = attrsOk (ahead l 1) (l.drop 1) by rw [hE2]; rfl)
        have hcj : wr.cell? ⟨b, o, none⟩ = some (.string n):=hcj
        clear hE2 hty HC
        go_wp2_with fail
        refine HC1.out.mono ?_
        rintro e w1 ⟨rfl, hb1⟩
        obtain ⟨hpa, hpb, hpc⟩:=HPA.out w1 hb1
        have q4:=hpa ⟨w.heap.size, 4, none⟩ _ hgw r4
        have qx:=hpa ⟨b, o, none⟩ _ hpw hcj
        clear hpa
        go_wp2_with fail
        go_region
        all_goals
         go_wp2_with fail
         refine ⟨⟨1, by omega, by go_num, HR, hpc.drew⟩, by simp [intOf]; omega⟩
       | succ i =>
        have hpj:=HC.out i (by omega)
        have hbh : behind (ahead l (i + 1)) n = Op.bytesLess (l[i]'(by omega)).toList n.toList:=by
         show behind l[i]? n = _
         rw [List.getElem?_eq_getElem (by omega)]; rfl
        rw [hbh] at hE2
        obtain ⟨y, hy⟩ : ∃ y, y = l[i]'(by omega):=⟨_, rfl⟩
        rw [← hy] at hE2 hpj
        have hj1 : ((i : Int) + 1 > 0):=by omega
        have hlt3:=less_tri y.toList n.toList
        cases hlss : Op.bytesLess y.toList n.toList with
        | false =>
         have HR:=Lib.hid (show X = false by rw [HX3.out, hE2, hlss]; simp)
         have h3 : (Op.bytesLess n.toList y.toList || n.toList == y.toList) = true:=by rw [hlt3, hlss]; rfl
         clear hE2 hty HC hbh hy hlt3 hlss
         go_wp2_with fail
         refine HC1.out.mono ?_
         rintro e w1 ⟨rfl, hb1⟩
         obtain ⟨hpa, hpb, hpc⟩:=HPA.out w1 hb1
         have q4:=hpa ⟨w.heap.size, 4, none⟩ _ hgw r4
         have qx:=hpa ⟨b, o + (i + 1), none⟩ _ hpw hcj
         have qy:=hpa ⟨b, o + i, none⟩ _ hpw hpj
         clear hpa
         go_wp2_with fail
         go_region
         all_goals
          go_wp2_with fail
          go_ret
          exact ⟨ret_bool HR.out.symm, hpb.drew⟩
        | true =>
         have HR:=Lib.hid (show ak = attrsOk (ahead l (i + 1 + 1)) (l.drop (i + 1 + 1)) by rw [hE2, hlss]; rfl)
         have h3 : (Op.bytesLess n.toList y.toList || n.toList == y.toList) = false:=by rw [hlt3, hlss]; rfl
         clear hE2 hty HC hbh hy hlt3 hlss
         go_wp2_with fail
         refine HC1.out.mono ?_
         rintro e w1 ⟨rfl, hb1⟩
         obtain ⟨hpa, hpb, hpc⟩:=HPA.out w1 hb1
         have q4:=hpa ⟨w.heap.size, 4, none⟩ _ hgw r4
         have qx:=hpa ⟨b, o + (i + 1), none⟩ _ hpw hcj
         have qy:=hpa ⟨b, o + i, none⟩ _ hpw hpj
         clear hpa
         go_wp2_with fail
         go_region
         all_goals
          go_wp2_with fail
          refine ⟨⟨i + 1 + 1, by omega, by go_num, HR, hpc.drew⟩, by simp [intOf]; omega⟩
      ·rw [hty, decide_eq_false hn, Bool.false_and] at hE2
       have HR:=Lib.hid (show X = false by rw [HX3.out, hE2]; simp)
       have hq : (n.toList == x.toList) = false:=by rw [toList_eq, decide_eq_false hn]
       clear hE2 hty HC hn
       go_wp2_with fail
       refine HC1.out.mono ?_
       rintro e w1 ⟨rfl, hb1⟩
       obtain ⟨hpa, hpb, hpc⟩:=HPA.out w1 hb1
       have q4:=hpa ⟨w.heap.size, 4, none⟩ _ hgw r4
       have qx:=hpa ⟨b, o + j, none⟩ _ hpw hcj
       clear hpa
       go_wp2_with fail
       go_region
       all_goals
        go_wp2_with fail
        go_ret
        exact ⟨ret_bool HR.out.symm, hpb.drew⟩
    ·have hE2:=hE.out
     rw [List.drop_eq_nil_of_le (by omega), attrsOk] at hE2
     have r1 : wr.cell? ⟨w.heap.size, 1, none⟩ = some (.string R):=(HB.out.past hb).cell 1
     have r3 : wr.cell? ⟨w.heap.size, 3, none⟩ = some (.string W):=(HB.out.past hb).cell 3
     have hX3:=HX3.out
     rw [hE2, Bool.and_true] at hX3
     clear HX3 hE hE2 HA0
     by_cases h0 : R.size = 0
     ·have h1 : ((R.size : Int) == 0) = true:=by rw [beq_iff_eq]; omega
      have HR:=Lib.hid (show X = false by rw [hX3, show Nm.bs R = [] from nilD_of R h0]; rfl)
      clear hX3 h0
      go_wp2_with fail
      go_ret
      exact ⟨ret_bool HR.out.symm, hbw⟩
     have h1 : ((R.size : Int) == 0) = false:=by rw [beq_eq_false_iff_ne]; omega
     have hX4 : X = isWho (Nm.bs W):=by
      rw [hX3]
      cases hb : Nm.bs R with
      | nil=>exact absurd (by have:=size_eq R; rw [show R.data.toList = [] from hb] at this; exact this.symm) h0
      | cons x r=>rfl
     clear hX3 h0
     by_cases g1 : Nm.bs W = anyT
     ·have HR:=Lib.hid (show X = true by rw [hX4]; unfold isWho; rw [decide_eq_true g1]; rfl)
      have q1 : (W.toList == [97, 110, 121]) = true:=by rw [eq_const]; exact decide_eq_true g1
      clear hX4 g1
      go_wp2_with fail
      go_ret
      exact ⟨ret_bool HR.out.symm, hbw⟩
     have q1 : (W.toList == [97, 110, 121]) = false:=by rw [eq_const]; exact decide_eq_false g1
     by_cases g2 : Nm.bs W = selfT
     ·have HR:=Lib.hid (show X = true by rw [hX4]; unfold isWho; rw [decide_eq_true g2]; simp)
      have q2 : (W.toList == [115, 101, 108, 102]) = true:=by rw [eq_const]; exact decide_eq_true g2
      clear hX4 g1 g2
      go_wp2_with fail
      go_ret
      exact ⟨ret_bool HR.out.symm, hbw⟩
     have q2 : (W.toList == [115, 101, 108, 102]) = false:=by rw [eq_const]; exact decide_eq_false g2
     have hW : X = (decide ((Nm.bs W).take 3 = dnT) && isName ((Nm.bs W).drop 3)):=by
      rw [hX4]
      unfold isWho
      rw [decide_eq_false g1, decide_eq_false g2]; rfl
     clear hX4 g1 g2
     by_cases h4 : (W.size : Int) < 4
     ·have HR:=Lib.hid (show X = false by
       rw [hW, List.drop_eq_nil_of_le (show (Nm.bs W).length ≤ 3 by show W.size ≤ 3; omega), Bool.and_eq_false_iff]
       exact Or.inr rfl)
      clear hW
      go_wp2_with fail
      go_ret
      exact ⟨ret_bool HR.out.symm, hbw⟩
     have h4' : (4 : Int) ≤ W.size:=by omega
     have h4n : (3 : Int) ≤ W.size:=by omega
     have hx0 : ((W.extract 0 3).toList == [100, 110, 58]) = decide ((Nm.bs W).take 3 = dnT):=by
      rw [eq_const, ext_take]; rfl
     by_cases h3 : (Nm.bs W).take 3 = dnT
     ·rw [decide_eq_true h3] at hx0
      rw [decide_eq_true h3, Bool.true_and] at hW
      obtain ⟨t, ht⟩ : ∃ t, t = W.extract 3 W.size:=⟨_, rfl⟩
      have hX : W.extract 3 W.size = t:=ht.symm
      have htb : (Nm.bs W).drop 3 = Nm.bs t:=by rw [ht, ext_drop]
      rw [htb] at hW
      have hsz : t.size ≤ 1000000000:=by
       have h5:=HF.out.w
       have h6:=congrArg List.length htb
       rw [List.length_drop] at h6
       have h7 : (Nm.bs W).length = W.size:=rfl
       have h8 : (Nm.bs t).length = t.size:=rfl
       omega
      have CP:=Lib.hid (fun w=>rparseD_any t w hsz)
      have hne : Nm.bs t ≠ []:=by
       intro e
       have h6:=congrArg List.length htb
       rw [List.length_drop, e] at h6
       have h7 : (Nm.bs W).length = W.size:=rfl
       simp at h6
       omega
      clear h3 ht htb hsz
      cases hd : Nm.dnm (Nm.bs t) with
      | none =>
       have HR:=Lib.hid (show X = false by rw [hW]; unfold isName; rw [hd]; simp)
       rw [hd] at CP
       clear hW hd hne
       go_wp2_with fail
       refine (CP.out _).mono ?_
       rintro e w2 ⟨rfl, hb2⟩
       have hb3:=hbw.trans (hb2.mono hbw.size)
       go_wp2_with fail
       go_region
       all_goals
        go_wp2_with fail
        go_ret
        exact ⟨ret_bool HR.out.symm, hb3.drew⟩
      | some d =>
       obtain ⟨i1, i2, i3⟩:=dnm_of hd
       rw [hd] at CP
       have CD:=Lib.hid (fun A c w hA=>rprDn_any d A c w hA i1)
       have hname : isName (Nm.bs t) = decide (Nm.prDn d = Nm.bs t):=by
        unfold isName
        rw [hd]
        cases hb : Nm.bs t with
        | nil=>exact absurd hb hne
        | cons x r=>rfl
       have hq : ((Nm.mk (Nm.prDn d)).toList == t.toList) = decide (Nm.prDn d = Nm.bs t):=by
        rw [toList_eq, Bool.eq_iff_iff, decide_eq_true_eq, decide_eq_true_eq, bs_inj]
       obtain ⟨p, hp⟩ : ∃ p, p = Nm.mk (Nm.prDn d):=⟨_, rfl⟩
       rw [← hp] at CD hq
       rw [hname] at hW
       have HE3:=Lib.hid hW
       have HQ:=Lib.hid hq
       have HBw:=Lib.hid (HB.out.past hb)
       clear hW hd i1 i2 i3 hname hq hp hne
       go_wp2_with fail
       refine (CP.out _).mono ?_
       rintro e w2 ⟨A2, c2, rfl, hc2, hA2, hb2⟩
       have HA2 : Hid (DAt w2.drew (· < w2.drew.heap.size) A2 d):=hA2.imp (fun b h=>h.2) (fun _ _=>rfl)
       have HB2:=Lib.hid (HBw.out.past hb2)
       have hb3:=hbw.trans (hb2.mono hbw.size)
       have s3 : w2.drew.cell? ⟨w.heap.size, 3, none⟩ = some (.string W):=HB2.out.cell 3
       clear hA2
       go_wp2_with fail
       go_region_held3 (fun w'=>w'.cell? ⟨w.heap.size, 3, none⟩ = some (.string W)) (first | exact s3 | exact k3) (first | (go_at_call 18; refine (CD.out A2 c2 _ HA2.out).mono ?_; rintro e w3 ⟨rfl, hb4⟩; have k3 : w3.cell? ⟨w.heap.size, 3, none⟩ = some (.string W):=(HB2.out.drew.past hb4).cell 3))
       all_goals
        go_wp2_with fail
        go_ret
        refine ⟨ret_bool ?_, hb3.drew.trans (hb4.mono hb3.size)⟩
        rw [HE3.out, HQ.out]
     ·rw [decide_eq_false h3] at hx0
      rw [decide_eq_false h3, Bool.false_and] at hW
      have HR:=Lib.hid hW
      clear hW h3
      go_wp2_with fail
      go_ret
      exact ⟨ret_bool HR.out.symm, hbw⟩
end Go.Proofs.YtpnlalfdgngcdaaDoor.Ru
