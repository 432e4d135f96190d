import Derived.Test.YtbnebpdpeegpbaaDoorZR6
set_option linter.unusedVariables false
set_option maxRecDepth 100000
namespace Go.Proofs.YtbnebpdpeegpbaaDoor.Cs
open Go.RowKit
theorem place (c : UInt8) : ∀ l : List UInt8, (c ∉ l ∧ Lib.indexByte l c = -1 ∧ upto c l = l ∧ past c l = []) ∨ (c ∈ l ∧ ∃ i : Nat, i < l.length ∧ Lib.indexByte l c = i ∧ upto c l = l.take i ∧ past c l = l.drop (i + 1))
 | []=>Or.inl ⟨by simp, rfl, rfl, rfl⟩
 | b :: r=>by
  by_cases h : b = c
  ·refine Or.inr ⟨by simp [h], 0, by simp, ?_, ?_, ?_⟩
   ·rw [Lib.indexByte, if_pos (by rw [beq_iff_eq]; exact h)]; rfl
   ·rw [upto, if_pos h]; rfl
   ·rw [past, if_pos h]; rfl
  ·rcases place c r with ⟨h1, h2, h3, h4⟩ | ⟨h1, i, h2, h3, h4, h5⟩
   ·refine Or.inl ⟨by simp [h1]; exact fun e=>h e.symm, ?_, ?_, ?_⟩
    ·rw [Lib.indexByte, if_neg (by rw [beq_iff_eq]; exact h), h2]; rfl
    ·rw [upto, if_neg h, h3]
    ·rw [past, if_neg h, h4]
   ·refine Or.inr ⟨by simp [h1], i + 1, by simp; omega, ?_, ?_, ?_⟩
    ·rw [Lib.indexByte, if_neg (by rw [beq_iff_eq]; exact h), h3, if_neg (by rw [beq_iff_eq]; omega)]; omega
    ·rw [upto, if_neg h, h4]; rfl
    ·rw [past, if_neg h, h5]; rfl
theorem upto_len (c : UInt8) (l : List UInt8) : (upto c l).length ≤ l.length:=by
 rcases place c l with ⟨_, _, h, _⟩ | ⟨_, i, _, _, h, _⟩
 ·rw [h]; exact Nat.le_refl _
 ·rw [h, List.length_take]; omega
theorem past_len (c : UInt8) (l : List UInt8) : (past c l).length ≤ l.length:=by
 rcases place c l with ⟨_, _, _, h⟩ | ⟨_, i, _, _, _, h⟩
 ·rw [h]; simp
 ·rw [h, List.length_drop]; omega
def cutV (s : ByteArray) (c : UInt8) : Value:=.tuple #[.string (mk (upto c (bs s))), .string (mk (past c (bs s))), .bool (decide (c ∈ bs s))]
theorem ext_to (s : ByteArray) (i : Nat) : s.extract 0 i = mk ((bs s).take i):=by
 rw [← mk_bs (s.extract 0 i)]
 congr 1
 show (s.extract 0 i).data.toList = _
 rw [Lib.extract_data]
 simp
theorem ext_from (s : ByteArray) (i : Nat) : s.extract i s.size = mk ((bs s).drop i):=by
 rw [← mk_bs (s.extract i s.size)]
 congr 1
 exact Go.Lib.extract_to_end s i
set_option maxHeartbeats 1000000 in
theorem cut_any (s : ByteArray) (c : UInt8) (w : World) (hs : s.size ≤ 1000000000) :
  Calls Tryd.prog 24 #[.string s, .string ⟨#[c]⟩] w fun e w'=>e = .returned (cutV s c) ∧ Below w.heap.size w w':=by
 have C1 : Calls Tryd.prog 33 #[.string s, .string ⟨#[c]⟩] w fun e w'=>e = .returned (cutV s c) ∧ Below w.heap.size w w':=by
  have CI:=fun w=>Tryd.stringslite_Index_one s c w
  rcases place c (bs s) with ⟨h1, h2, h3, h4⟩ | ⟨h1, i, h2, h3, h4, h5⟩
  ·have HR:=Lib.hid (show cutV s c = .tuple #[.string s, .string ⟨#[]⟩, .bool false] by unfold cutV; rw [h3, h4, decide_eq_false h1])
   rw [show Lib.indexByte s.data.toList c = -1 from h2] at CI
   have HC:=Lib.hid CI
   clear CI h1 h2 h3 h4
   go_enter Tryd.func33, Tryd.ntmps33
   go_wp2_with fail
   refine (HC.out _).mono ?_
   rintro e w1 ⟨rfl, rfl⟩
   go_wp2_with fail
   go_ret3
   refine ⟨?_, Below.refl _ _⟩
   rw [HR.out]; rfl
  ·have hil : i < s.size:=h2
   have HR:=Lib.hid (show cutV s c = .tuple #[.string (s.extract 0 i), .string (s.extract (i + 1) s.size), .bool true] by unfold cutV; rw [h4, h5, decide_eq_true h1, ext_to, ext_from])
   rw [show Lib.indexByte s.data.toList c = i from h3] at CI
   have HC:=Lib.hid CI
   have h6 : (i : Int) + 1 ≤ s.size:=by omega
   have h7 : (i : Int) ≤ s.size:=by omega
   have h8 : (⟨#[c]⟩ : ByteArray).size = 1:=rfl
   clear CI h1 h2 h3 h4 h5
   go_enter Tryd.func33, Tryd.ntmps33
   go_wp2_with fail
   refine (HC.out _).mono ?_
   rintro e w1 ⟨rfl, rfl⟩
   go_wp2_with fail
   go_region
   all_goals
    go_wp2_with fail
    go_ret3
    refine ⟨?_, (Below.refl _ _).drew⟩
    rw [HR.out]; rfl
 unfold cutV at C1 ⊢
 generalize decide (c ∈ bs s) = t at C1 ⊢
 generalize mk (upto c (bs s)) = x at C1 ⊢
 generalize mk (past c (bs s)) = y at C1 ⊢
 have HC:=Lib.hid C1
 clear C1
 go_enter Tryd.func24, Tryd.ntmps24
 go_wp2_with fail
 refine HC.out.mono ?_
 rintro e w1 ⟨rfl, hb⟩
 go_wp2_with fail
 go_ret3
 exact ⟨rfl, hb⟩
theorem toList_bs (x : ByteArray) : x.toList = bs x:=ByteArray.toList_eq x
def parseV (l : List UInt8) : Value:=if isT l = true then .tuple #[cv (pT l) (pS l) (pR l), .int .i64 0] else .tuple #[cv 0 0 0, .int .i64 14]
set_option maxHeartbeats 2000000 in
theorem Parse_any (s : ByteArray) (hs : s.size ≤ 1000000000) (w : World) (hG : Glob w) : Calls Tryd.prog 8 #[.string s] w fun e w'=>e = .returned (parseV (bs s)) ∧ Below w.heap.size w w':=by
 have CC:=cut_any s 46
 have u1:=upto_len 46 (bs s)
 have u2:=past_len 46 (bs s)
 have u3:=upto_len 46 (past 46 (bs s))
 have u4:=past_len 46 (past 46 (bs s))
 have hsz : (bs s).length = s.size:=rfl
 have CD:=cut_any (mk (past 46 (bs s))) 46
 have N1:=number_any (mk (upto 46 (bs s))) (by rw [mk_size]; omega)
 have N2:=number_any (mk (upto 46 (past 46 (bs s)))) (by rw [mk_size]; omega)
 have N3:=number_any (mk (past 46 (past 46 (bs s)))) (by rw [mk_size]; omega)
 have z1 : (mk (past 46 (bs s))).size ≤ 1000000000:=by rw [mk_size]; omega
 unfold cutV at CC CD
 rw [bs_mk] at CD N1 N2 N3
 have e1 : rd (upto 46 (bs s)) = pT (bs s):=rfl
 have e2 : rd (upto 46 (past 46 (bs s))) = pS (bs s):=rfl
 have e3 : rd (past 46 (past 46 (bs s))) = pR (bs s):=rfl
 rw [e1] at N1
 rw [e2] at N2
 rw [e3] at N3
 have i1:=rd_int (upto 46 (bs s))
 have i2:=rd_int (upto 46 (past 46 (bs s)))
 have i3:=rd_int (past 46 (past 46 (bs s)))
 rw [e1] at i1
 rw [e2] at i2
 rw [e3] at i3
 have CI:=is_any (pT (bs s)) (pS (bs s)) (pR (bs s))
 have CT:=Text_any (pT (bs s)) (pS (bs s)) (pR (bs s)) i1 i2 i3
 obtain ⟨V, hV⟩ : ∃ V, V = parseV (bs s):=⟨_, rfl⟩
 rw [← hV]
 have hV2:=hV
 unfold parseV isT at hV2
 have hq : (decide (text (pT (bs s)) (pS (bs s)) (pR (bs s)) = bs s)) = ((mk (text (pT (bs s)) (pS (bs s)) (pR (bs s)))).toList == s.toList):=by
  rw [toList_bs, toList_bs, bs_mk]
  by_cases h9 : text (pT (bs s)) (pS (bs s)) (pR (bs s)) = bs s
  ·rw [decide_eq_true h9, h9, beq_self_eq_true]
  ·rw [decide_eq_false h9, beq_eq_false_iff_ne.2 h9]
 generalize mk (text (pT (bs s)) (pS (bs s)) (pR (bs s))) = ML at *
 generalize text (pT (bs s)) (pS (bs s)) (pR (bs s)) = L at *
 generalize isC (pT (bs s)) (pS (bs s)) (pR (bs s)) = I at *
 generalize pT (bs s) = t at *
 generalize pS (bs s) = c at *
 generalize pR (bs s) = r at *
 generalize mk (upto 46 (bs s)) = X1 at *
 generalize mk (upto 46 (past 46 (bs s))) = X2 at *
 generalize mk (past 46 (past 46 (bs s))) = X3 at *
 generalize mk (past 46 (bs s)) = X4 at *
 generalize decide ((46 : UInt8) ∈ bs s) = o1 at *
 generalize decide ((46 : UInt8) ∈ bs X4) = o2 at *
 obtain ⟨c1, c2⟩:=i2
 obtain ⟨r1, r2⟩:=i3
 clear u1 u2 u3 u4 e1 e2 e3 i1 hsz hV
 have CC:=Lib.hid (fun w=>CC w hs)
 have CD:=Lib.hid (fun w=>CD w z1)
 have N1:=Lib.hid N1
 have N2:=Lib.hid N2
 have N3:=Lib.hid N3
 have CI:=Lib.hid CI
 have CT:=Lib.hid CT
 have hV2:=Lib.hid hV2
 have hq:=Lib.hid hq
 have BR:=Blk.new w 23 (gc 0 0 0)
 have hb0:=(Below.refl w.heap.size w).alloc (Nat.le_refl _) (.cells (gc 0 0 0) 23)
 have G0:=hG.past hb0
 go_enter Tryd.func8, Tryd.ntmps8
 go_wp2_with fail
 refine (CC.out _).mono ?_
 rintro e w1 ⟨rfl, hb1⟩
 have hz0:=hb0.size
 have hc1:=hb0.trans (hb1.mono hz0)
 have BR1:=BR.past hb1
 have G1:=G0.past hb1
 have hz1:=hc1.size
 clear hb0 hb1 BR G0 hG hz0
 go_wp2_with fail
 refine (CD.out _).mono ?_
 rintro e w2 ⟨rfl, hb2⟩
 have hc2:=hc1.trans (hb2.mono hz1)
 have BR2:=BR1.past hb2
 have G2:=G1.past hb2
 have hz2:=hc2.size
 clear hc1 hb2 BR1 G1 hz1
 go_wp2_with fail
 refine (N1.out _ G2).mono ?_
 rintro e w3 ⟨rfl, hb3⟩
 have hc3:=hc2.trans (hb3.mono hz2)
 have BR3:=BR2.past hb3
 have G3:=G2.past hb3
 have hz3:=hc3.size
 clear hc2 hb3 BR2 G2 hz2
 go_wp2_with fail
 refine (N2.out _ G3).mono ?_
 rintro e w4 ⟨rfl, hb4⟩
 have hc4:=hc3.trans (hb4.mono hz3)
 have BR4:=BR3.past hb4
 have G4:=G3.past hb4
 have hz4:=hc4.size
 clear hc3 hb4 BR3 G3 hz3
 go_wp2_with fail
 refine (N3.out _ G4).mono ?_
 rintro e w5 ⟨rfl, hb5⟩
 have hc5:=hc4.trans (hb5.mono hz4)
 have BR5:=BR4.past hb5
 have G5:=G4.past hb5
 have hz5:=hc5.size
 clear hc4 hb5 BR4 G4 hz4
 have hVl : (I = false ∧ V = .tuple #[cv 0 0 0, .int .i64 14]) ∨ (I = true ∧ (ML.toList == s.toList) = false ∧ V = .tuple #[cv 0 0 0, .int .i64 14]) ∨ (I = true ∧ (ML.toList == s.toList) = true ∧ V = .tuple #[cv t c r, .int .i64 0]):=by
  have h1:=hV2.out
  rw [hq.out] at h1
  cases hI : I with
  | false=>exact Or.inl ⟨rfl, by rw [h1, hI]; rfl⟩
  | true=>cases hT : (ML.toList == s.toList) with
   | false=>exact Or.inr (Or.inl ⟨rfl, rfl, by rw [h1, hI, hT]; rfl⟩)
   | true=>exact Or.inr (Or.inr ⟨rfl, rfl, by rw [h1, hI, hT]; rfl⟩)
 clear hV2 hq
 rcases hVl with ⟨rfl, rfl⟩ | ⟨rfl, hT, rfl⟩ | ⟨rfl, hT, rfl⟩
 focus
  go_wp2_with fail
  refine (CI.out _).mono ?_
  rintro e w6 ⟨rfl, hb6⟩
  have hc6:=hc5.trans (((Below.refl _ _).alloc (Nat.le_refl _) _).trans (hb6.mono (by simp))|>.mono hz5)
  have BR6:=(BR5.alloc (.cells (gc t c r) 23)).past hb6
  have BC6:=(Blk.new w5 23 (gc t c r)).past hb6
  have G6:=(G5.past ((Below.refl _ _).alloc (Nat.le_refl _) (.cells (gc t c r) 23))).past hb6
  have hz6:=hc6.size
  have hlt:=BR5.lt
  have hne : w.heap.size ≠ w5.heap.size:=by omega
  have hne2 : w5.heap.size ≠ w.heap.size:=by omega
  obtain ⟨r0, r1, r2, s0, s1, s2⟩:=box BR6
  go_wp2_with fail
  refine bodyPost_ret (res_cn rfl _ _ w.heap.size 0 0 0 (.int .i64 14) rfl rfl (BR6.set3 0 0 0)) rfl ?_
  exact ⟨rfl, ((hc6.setCell (Nat.le_refl _) _).setCell (Nat.le_refl _) _).setCell (Nat.le_refl _) _⟩
 focus
  go_wp2_with fail
  refine (CI.out _).mono ?_
  rintro e w6 ⟨rfl, hb6⟩
  have hc6:=hc5.trans (((Below.refl _ _).alloc (Nat.le_refl _) _).trans (hb6.mono (by simp))|>.mono hz5)
  have BR6:=(BR5.alloc (.cells (gc t c r) 23)).past hb6
  have BC6:=(Blk.new w5 23 (gc t c r)).past hb6
  have G6:=(G5.past ((Below.refl _ _).alloc (Nat.le_refl _) (.cells (gc t c r) 23))).past hb6
  have hz6:=hc6.size
  have hlt:=BR5.lt
  have hne : w.heap.size ≠ w5.heap.size:=by omega
  have hne2 : w5.heap.size ≠ w.heap.size:=by omega
  obtain ⟨q0, q1, q2, p0, p1, p2⟩:=box BC6
  go_wp2_with fail
  refine (CT.out _ G6).mono ?_
  rintro e w7 ⟨rfl, hb7⟩
  have hc7:=hc6.trans (hb7.mono hz6)
  have BR7:=BR6.past hb7
  have BC7:=BC6.past hb7
  clear q0 q1 q2 p0 p1 p2
  obtain ⟨r0, r1, r2, s0, s1, s2⟩:=box BR7
  go_wp2_with fail
  refine bodyPost_ret (res_cn rfl _ _ w.heap.size 0 0 0 (.int .i64 14) rfl rfl (BR7.set3 0 0 0)) rfl ?_
  exact ⟨rfl, ((hc7.setCell (Nat.le_refl _) _).setCell (Nat.le_refl _) _).setCell (Nat.le_refl _) _⟩
 go_wp2_with fail
 refine (CI.out _).mono ?_
 rintro e w6 ⟨rfl, hb6⟩
 have hc6:=hc5.trans (((Below.refl _ _).alloc (Nat.le_refl _) _).trans (hb6.mono (by simp))|>.mono hz5)
 have BR6:=(BR5.alloc (.cells (gc t c r) 23)).past hb6
 have BC6:=(Blk.new w5 23 (gc t c r)).past hb6
 have G6:=(G5.past ((Below.refl _ _).alloc (Nat.le_refl _) (.cells (gc t c r) 23))).past hb6
 have hz6:=hc6.size
 have hlt:=BR5.lt
 have hne : w.heap.size ≠ w5.heap.size:=by omega
 have hne2 : w5.heap.size ≠ w.heap.size:=by omega
 obtain ⟨q0, q1, q2, p0, p1, p2⟩:=box BC6
 go_wp2_with fail
 refine (CT.out _ G6).mono ?_
 rintro e w7 ⟨rfl, hb7⟩
 have hc7:=hc6.trans (hb7.mono hz6)
 have BR7:=BR6.past hb7
 have BC7:=BC6.past hb7
 clear q0 q1 q2 p0 p1 p2
 obtain ⟨r0, r1, r2, s0, s1, s2⟩:=box BR7
 obtain ⟨q0, q1, q2, p0, p1, p2⟩:=box BC7
 go_wp2_with fail
 refine bodyPost_ret (res_cn rfl _ _ w.heap.size t c r (.int .i64 0) rfl rfl (BR7.set3 t c r)) rfl ?_
 exact ⟨rfl, ((hc7.setCell (Nat.le_refl _) _).setCell (Nat.le_refl _) _).setCell (Nat.le_refl _) _⟩
end Go.Proofs.YtbnebpdpeegpbaaDoor.Cs
