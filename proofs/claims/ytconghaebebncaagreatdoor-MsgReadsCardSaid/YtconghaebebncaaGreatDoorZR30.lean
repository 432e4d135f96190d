import Derived.Test.YtconghaebebncaaGreatDoorZR29
set_option linter.unusedVariables false
set_option maxRecDepth 100000
namespace Go.Proofs.YtconghaebebncaaGreatDoor.Fi
open Go.RowKit
theorem any_take {α : Type} {p : α → Bool} {l : List α} {i : Nat} (h : i < l.length) : (l.take (i + 1)).any p = ((l.take i).any p || p l[i]):=by
 rw [List.take_succ_eq_append_getElem h, List.any_append]; simp
def fine (ss : List ByteArray) (i : Nat) : Prop:=∀ h : i < ss.length, ss[i].size ≤ 60 ∧ ¬ (ss[i].size = 0 ∧ 0 < i ∧ i + 1 < ss.length)
theorem subs_fine {ss : List ByteArray} (h1 : 2 ≤ ss.length) (h2 : ss.length ≤ 20) (h : ∀ i, i < ss.length → fine ss i) : subsOk ss = ss.any (fun s=>decide (s.size ≠ 0)):=by
 unfold subsOk
 rw [decide_eq_true ⟨h1, h2⟩, Bool.true_and]
 have e1 : ((ss.take (ss.length - 1)).drop 1).all (fun s=>decide (s.size ≠ 0)) = true:=by
  rw [List.all_eq_true]
  intro s hs
  obtain ⟨j, hj, rfl⟩:=List.getElem_of_mem hs
  have hl:=mid_len ss h1
  rw [mid_at ss j (by omega) hj, decide_eq_true_eq]
  intro h0
  exact (h (j + 1) (by omega) (by omega)).2 ⟨h0, by omega, by omega⟩
 have e2 : ss.all (fun s=>decide (s.size ≤ 60)) = true:=by
  rw [List.all_eq_true]
  intro s hs
  obtain ⟨j, hj, rfl⟩:=List.getElem_of_mem hs
  rw [decide_eq_true_eq]
  exact (h j hj hj).1
 rw [e1, e2]; rfl
theorem subs_bad {ss : List ByteArray} {i : Nat} (hi : i < ss.length) (h : ¬ fine ss i) : subsOk ss = false:=by
 cases hs : subsOk ss with
 | false=>rfl
 | true =>
  exfalso
  apply h
  unfold subsOk at hs
  simp only [Bool.and_eq_true, decide_eq_true_eq] at hs
  obtain ⟨⟨h1, h2⟩, h3, h4, h5⟩:=hs
  intro hi'
  refine ⟨of_decide_eq_true (List.all_eq_true.1 h4 _ (List.getElem_mem hi')), fun ⟨h0, h6, h7⟩=>?_⟩
  have hl:=mid_len ss h1
  have hj : i - 1 < ((ss.take (ss.length - 1)).drop 1).length:=by omega
  have:=of_decide_eq_true (List.all_eq_true.1 h3 _ (List.getElem_mem hj))
  rw [mid_at ss (i - 1) (by omega) hj] at this
  simp only [show i - 1 + 1 = i by omega] at this
  exact this h0
set_option maxHeartbeats 2000000 in
theorem rparts_any (ss : List ByteArray) (A : Option Addr) (c : Nat) (w : World) (hA : StrsAt w (· < w.heap.size) A ss) (hl : ss.length ≤ maxLen) :
  Calls Tryz.prog 89 #[.slice A ss.length c] w fun e w'=>e = .returned (.bool (subsOk ss)) ∧ Below w.heap.size w w':=by
 unfold maxLen at hl
 by_cases hn : (ss.length : Int) < 2 ∨ 2 ≤ (ss.length : Int) ∧ 20 < (ss.length : Int)
 ·have hr:=Lib.hid (show subsOk ss = false by unfold subsOk; rw [decide_eq_false (by omega)]; rfl)
  rcases hn with h1 | ⟨h1, h2⟩
  all_goals
   go_enter Tryz.func89, Tryz.ntmps89
   go_wp2_with fail
   go_ret
   exact ⟨ret_bool hr.out.symm, Below.refl _ _⟩
 have h1 : 2 ≤ (ss.length : Int):=by omega
 have h2 : (ss.length : Int) ≤ 20:=by omega
 obtain ⟨b, o, rfl, hb, hcells⟩:=hA.row (by omega)
 have HC:=Lib.hid hcells
 have HG:=Lib.hid (subs_fine (ss:=ss) (by omega) (by omega))
 clear hA hcells hn
 go_enter Tryz.func89, Tryz.ntmps89
 go_wp2_with fail
 go_loopw [3, 4] (fun x i wr=>∃ (q : Nat) (t : Bool), q ≤ ss.length ∧ i = .int .i64 q ∧ x = .bool t ∧ Hid (t = (ss.take q).any (fun s=>decide (s.size ≠ 0))) ∧ Hid (∀ j, j < q → fine ss j) ∧ w = wr) (fun x i wr=>ss.length - (intOf i).toNat)
 case atStart=>exact ⟨0, false, Nat.zero_le _, rfl, rfl, rfl, fun j h=>absurd h (by omega), rfl⟩
 case round =>
  obtain ⟨q, t, hq, rfl, rfl, hT, hF, rfl⟩:=hrel
  by_cases hlt : q < ss.length
  ·have f0:=HC.out q hlt
   have hT2:=any_take (p:=fun s : ByteArray=>decide (s.size ≠ 0)) hlt
   have hfi : fine ss q ↔ (ss[q].size ≤ 60 ∧ ¬ (ss[q].size = 0 ∧ 0 < q ∧ q + 1 < ss.length)):=⟨fun h=>h hlt, fun h _=>h⟩
   have hbad:=fun h=>subs_bad (ss:=ss) (i:=q) hlt h
   have hmore : fine ss q → ∀ j, j < q + 1 → fine ss j:=fun h j hj=>by
    rcases Nat.lt_or_ge j q with h1 | h1
    ·exact hF.out j h1
    ·rw [show j = q by omega]; exact h
   generalize ss[q] = s at f0 hT2 hfi
   have HB:=Lib.hid hbad
   have HM:=Lib.hid hmore
   have HI:=Lib.hid hfi
   have HT2:=Lib.hid hT2
   clear hbad hmore hfi hT2
   have hqz : (q : Int) < ss.length:=by omega
   by_cases h60 : 60 < (s.size : Int)
   ·have HR:=Lib.hid (HB.out (fun h=>by have:=(HI.out.1 h).1; omega))
    go_wp2_with fail
    go_ret
    exact ⟨ret_bool HR.out.symm, Below.refl _ _⟩
   have h60' : (s.size : Int) ≤ 60:=by omega
   by_cases h0 : s.size = 0
   ·have h0':=nil_of s h0
    by_cases hq0 : 0 < (q : Int)
    ·by_cases hql : (q : Int) < ss.length - 1
     ·have HR:=Lib.hid (HB.out (fun h=>(HI.out.1 h).2 ⟨h0, by omega, by omega⟩))
      clear h60 h0
      go_wp2_with fail
      go_ret
      exact ⟨ret_bool HR.out.symm, Below.refl _ _⟩
     ·have HR:=Lib.hid (HM.out (HI.out.2 ⟨by omega, by omega⟩))
      have HT3:=Lib.hid (show t = (ss.take (q + 1)).any (fun s=>decide (s.size ≠ 0)) by rw [HT2.out, ← hT.out, decide_eq_false (by omega), Bool.or_false])
      have hql' : (ss.length : Int) - 1 ≤ q:=by omega
      clear h60 h0 hql
      cases t
      all_goals
       go_wp2_with fail
       exact ⟨⟨q + 1, _, by omega, by go_num, rfl, HT3.out, HR.out, trivial⟩, by simp [intOf]; omega⟩
    ·have HR:=Lib.hid (HM.out (HI.out.2 ⟨by omega, by omega⟩))
     have HT3:=Lib.hid (show t = (ss.take (q + 1)).any (fun s=>decide (s.size ≠ 0)) by rw [HT2.out, ← hT.out, decide_eq_false (by omega), Bool.or_false])
     have hq0' : (q : Int) ≤ 0:=by omega
     clear h60 h0 hq0
     cases t
     all_goals
      go_wp2_with fail
      exact ⟨⟨q + 1, _, by omega, by go_num, rfl, HT3.out, HR.out, trivial⟩, by simp [intOf]; omega⟩
   ·have h0':=isE_of s (by omega)
    have HR:=Lib.hid (HM.out (HI.out.2 ⟨by omega, by omega⟩))
    have HT3:=Lib.hid (show true = (ss.take (q + 1)).any (fun s=>decide (s.size ≠ 0)) by rw [HT2.out, ← hT.out, decide_eq_true (by omega), Bool.or_true])
    clear h60 h0
    cases t
    all_goals
     go_wp2_with fail
     exact ⟨⟨q + 1, _, by omega, by go_num, rfl, HT3.out, HR.out, trivial⟩, by simp [intOf]; omega⟩
  ·have hk2 : q = ss.length:=by omega
   have HR:=Lib.hid (show subsOk ss = t by rw [HG.out (fun i hi=>hF.out i (by omega)), hT.out, List.take_of_length_le (by omega)])
   clear hT hF
   go_wp2_with fail
   go_ret
   exact ⟨ret_bool HR.out.symm, Below.refl _ _⟩
def SaidRForm (f : Fil) : Prop:=∀ (x0 x1 x2 x3 x4 : Value) (w : World), Lies w (· < w.heap.size) f [x0, x1, x2, x3, x4] →
  Calls Tryz.prog 68 #[.agg #[x0, x1, x2, x3, x4]] w fun r w'=>r = .returned (.bool (frm f)) ∧ Below w.heap.size w w'
set_option maxHeartbeats 4000000 in
theorem ris_kids (k : Int) (a v : ByteArray) (ks : List Fil) (ih : ∀ f ∈ ks, SaidRForm f) (S A : Option Addr) (sc c : Nat) (ds : Nat → List Value) (w : World) (hk : k = 1 ∨ k = 2 ∨ k = 3 ∧ (ks.length : Int) = 1)
  (ha : a.size = 0) (hv : v.size = 0) (hK : KidsAt w (· < w.heap.size) A ks ds) (hl : ks.length ≤ maxLen) :
  Calls Tryz.prog 68 #[.agg #[.int .i64 k, .string a, .string v, .slice S 0 sc, .slice A ks.length c]] w fun r w'=>r = .returned (.bool (frms ks)) ∧ Below w.heap.size w w':=by
 unfold maxLen at hl
 have ha':=nil_of a ha
 have hv':=nil_of v hv
 have Ih:=Lib.hid ih
 clear ih ha hv
 rcases hk with rfl | rfl | ⟨rfl, h1⟩
 all_goals
  go_enter Tryz.func68, Tryz.ntmps68
  go_wp2_with fail
  focus
   go_loopw [3] (fun i wr=>∃ q : Nat, q ≤ ks.length ∧ i = .int .i64 q ∧ Hid (frms ks = frms (ks.drop q)) ∧ wr.cell? ⟨w.heap.size, 4, none⟩ = some (.slice A ks.length c) ∧ w.heap.size < wr.heap.size ∧ Below w.heap.size w wr) (fun i wr=>ks.length - (intOf i).toNat)
   case atStart=>exact ⟨0, Nat.zero_le _, rfl, rfl, (Blk.new _ _ _).cell 4, by simp, (Below.refl _ _).alloc (Nat.le_refl _) _⟩
   case round =>
    obtain ⟨q, hq, rfl, hE, b4, hblt, hb⟩:=hrel
    have hs:=hb.size
    by_cases hlt : q < ks.length
    ·obtain ⟨ad, k', a', v', T', m', d', A', n', c', rfl, hp, f0, f1, f2, f3, f4, hL⟩:=hK.kid hb hlt
     have hE2:=hE.out
     rw [frms_drop hlt] at hE2
     have H:=Ih.out _ (List.getElem_mem hlt) _ _ _ _ _ wr hL
     generalize frm ks[q] = t at hE2 H
     have HE:=Lib.hid hE2
     have HH:=Lib.hid H
     clear hE hE2 H hL
     cases t with
     | false =>
      go_wp2_with fail
      refine HH.out.mono ?_
      rintro e w1 ⟨rfl, hb1⟩
      go_wp2_with fail
      go_ret
      refine ⟨ret_bool ?_, hb.trans (hb1.mono hs)⟩
      rw [HE.out]; rfl
     | true =>
      go_wp2_with fail
      refine HH.out.mono ?_
      rintro e w1 ⟨rfl, hb1⟩
      have b4':=bat hb1 hblt b4
      have hs1:=hb1.size
      go_wp2_with fail
      refine ⟨⟨q + 1, by omega, by go_num, HE.out, b4', by omega, hb.trans (hb1.mono hs)⟩, by simp [intOf]; omega⟩
    ·have hE2:=hE.out
     rw [List.drop_eq_nil_of_le (by omega), frms] at hE2
     have HE:=Lib.hid hE2
     clear hE hE2
     go_wp2_with fail
     go_ret
     exact ⟨ret_bool HE.out.symm, hb⟩
set_option maxHeartbeats 2000000 in
theorem ris_bad (k : Int) (a v : ByteArray) (n m : Nat) (S A : Option Addr) (sc c : Nat) (w : World) (hk : 1 ≤ k) (hk3 : k ≤ 3) (h : ¬ (a.size = 0 ∧ v.size = 0 ∧ n = 0 ∧ (k = 3 → m = 1))) :
  Calls Tryz.prog 68 #[.agg #[.int .i64 k, .string a, .string v, .slice S n sc, .slice A m c]] w fun r w'=>r = .returned (.bool false) ∧ Below w.heap.size w w':=by
 have hc : a.toList.isEmpty = false ∨ a.toList = [] ∧ v.toList.isEmpty = false ∨ a.toList = [] ∧ v.toList = [] ∧ 0 < n ∨ a.toList = [] ∧ v.toList = [] ∧ n = 0 ∧ k = 3 ∧ ((m : Int) != 1) = true:=by
  by_cases h1 : a.size = 0
  ·by_cases h2 : v.size = 0
   ·by_cases h3 : n = 0
    ·refine Or.inr (Or.inr (Or.inr ⟨nil_of a h1, nil_of v h2, by omega, ?_⟩))
     have h4 : k = 3 ∧ m ≠ 1:=by
      apply Classical.byContradiction
      intro h5
      exact h ⟨h1, h2, h3, fun e=>Classical.byContradiction fun h6=>h5 ⟨e, h6⟩⟩
     exact ⟨h4.1, by rw [bne_iff_ne]; have:=h4.2; omega⟩
    ·exact Or.inr (Or.inr (Or.inl ⟨nil_of a h1, nil_of v h2, by omega⟩))
   ·exact Or.inr (Or.inl ⟨nil_of a h1, isE_of v (by omega)⟩)
  ·exact Or.inl (isE_of a (by omega))
 clear h
 rcases hc with h1 | ⟨h1, h2⟩ | ⟨h1, h2, h3⟩ | ⟨h1, h2, rfl, rfl, h5⟩
 all_goals
  go_enter Tryz.func68, Tryz.ntmps68
  go_wp2_with fail
  go_ret
  exact ⟨rfl, (Below.refl _ _).alloc (Nat.le_refl _) _⟩
set_option maxHeartbeats 2000000 in
theorem ris_none (k : Int) (a : ByteArray) (x2 x3 : Value) (m : Nat) (A : Option Addr) (c : Nat) (w : World) (hk : k < 1 ∨ 3 < k) (h : k < 4 ∨ 4 ≤ k ∧ 8 < k ∨ 4 ≤ k ∧ k ≤ 8 ∧ 0 < m) :
  Calls Tryz.prog 68 #[.agg #[.int .i64 k, .string a, x2, x3, .slice A m c]] w fun r w'=>r = .returned (.bool false) ∧ Below w.heap.size w w':=by
 have hk' : k < 1 ∨ 1 ≤ k ∧ 3 < k:=by omega
 clear hk
 rcases hk' with h0 | ⟨h0, h00⟩
 all_goals
  rcases h with h1 | ⟨h1, h2⟩ | ⟨h1, h2, h3⟩
  all_goals
   first
    |(exfalso; omega)
    |(go_enter Tryz.func68, Tryz.ntmps68
      go_wp2_with fail
      go_ret
      exact ⟨rfl, (Below.refl _ _).alloc (Nat.le_refl _) _⟩)
set_option maxHeartbeats 2000000 in
theorem ris_type (k : Int) (a : ByteArray) (x2 x3 : Value) (A : Option Addr) (c : Nat) (w : World) (hk : 4 ≤ k) (hk8 : k ≤ 8) (ht : Nm.isType (Nm.bs a) = false) :
  Calls Tryz.prog 68 #[.agg #[.int .i64 k, .string a, x2, x3, .slice A 0 c]] w fun r w'=>r = .returned (.bool false) ∧ Below w.heap.size w w':=by
 have CT:=fun w=>rIsType_any a w
 rw [ht] at CT
 have HT:=Lib.hid CT
 have h1 : 1 ≤ k:=by omega
 have h3 : 3 < k:=by omega
 clear CT ht
 go_enter Tryz.func68, Tryz.ntmps68
 go_wp2_with fail
 refine (HT.out _).mono ?_
 rintro e w1 ⟨rfl, rfl⟩
 go_wp2_with fail
 go_ret
 exact ⟨rfl, (Below.refl _ _).alloc (Nat.le_refl _) _⟩
set_option maxHeartbeats 4000000 in
theorem ris_item (k : Int) (a v : ByteArray) (ss : List ByteArray) (S A : Option Addr) (sc c : Nat) (w : World) (hk : k = 4 ∨ k = 5 ∨ k = 6) (ht : Nm.isType (Nm.bs a) = true) :
  Calls Tryz.prog 68 #[.agg #[.int .i64 k, .string a, .string v, .slice S ss.length sc, .slice A 0 c]] w fun r w'=>r = .returned (.bool (decide (v.size ≤ 60) && decide (ss.length = 0))) ∧ Below w.heap.size w w':=by
 have CT:=fun w=>rIsType_any a w
 rw [ht] at CT
 have HT:=Lib.hid CT
 clear CT ht
 by_cases hv : (v.size : Int) ≤ 60
 ·have hr:=Lib.hid (show (decide (v.size ≤ 60) && decide (ss.length = 0)) = decide ((ss.length : Int) = 0) by
   rw [decide_eq_true (p:=v.size ≤ 60) (by omega), Bool.true_and, Bool.eq_iff_iff]; simp)
  rcases hk with rfl | rfl | rfl
  all_goals
   go_enter Tryz.func68, Tryz.ntmps68
   go_wp2_with fail
   refine (HT.out _).mono ?_
   rintro e w1 ⟨rfl, rfl⟩
   go_wp2_with fail
   go_ret
   refine ⟨ret_bool ?_, (Below.refl _ _).alloc (Nat.le_refl _) _⟩
   rw [hr.out]
   rw [Bool.eq_iff_iff]; simp
 ·have hr:=Lib.hid (show (decide (v.size ≤ 60) && decide (ss.length = 0)) = false by rw [decide_eq_false (p:=v.size ≤ 60) (by omega)]; rfl)
  have hv' : 60 < (v.size : Int):=by omega
  clear hv
  rcases hk with rfl | rfl | rfl
  all_goals
   go_enter Tryz.func68, Tryz.ntmps68
   go_wp2_with fail
   refine (HT.out _).mono ?_
   rintro e w1 ⟨rfl, rfl⟩
   go_wp2_with fail
   go_ret
   refine ⟨ret_bool ?_, (Below.refl _ _).alloc (Nat.le_refl _) _⟩
   have:=hr.out
   simp only [Bool.and_eq_false_iff, decide_eq_false_iff_not] at this
   symm
   simp only [Bool.and_eq_false_iff, decide_eq_false_iff_not]
   rcases this with h | h
   ·exact Or.inl h
   ·exact Or.inr (fun e=>h (by rw [e]; rfl))
set_option maxHeartbeats 4000000 in
theorem ris_present (a v : ByteArray) (ss : List ByteArray) (S A : Option Addr) (sc c : Nat) (w : World) (ht : Nm.isType (Nm.bs a) = true) :
  Calls Tryz.prog 68 #[.agg #[.int .i64 7, .string a, .string v, .slice S ss.length sc, .slice A 0 c]] w fun r w'=>r = .returned (.bool (decide (v.size = 0) && decide (ss.length = 0))) ∧ Below w.heap.size w w':=by
 have CT:=fun w=>rIsType_any a w
 rw [ht] at CT
 have HT:=Lib.hid CT
 clear CT ht
 by_cases hv : v.size = 0
 ·have hr:=Lib.hid (show (decide (v.size = 0) && decide (ss.length = 0)) = decide ((ss.length : Int) = 0) by
   rw [decide_eq_true hv, Bool.true_and, Bool.eq_iff_iff]; simp)
  have hv':=nil_of v hv
  clear hv
  go_enter Tryz.func68, Tryz.ntmps68
  go_wp2_with fail
  refine (HT.out _).mono ?_
  rintro e w1 ⟨rfl, rfl⟩
  go_wp2_with fail
  go_ret
  refine ⟨ret_bool ?_, (Below.refl _ _).alloc (Nat.le_refl _) _⟩
  rw [hr.out]
  rw [Bool.eq_iff_iff]; simp
 ·have hr:=Lib.hid (show (decide (v.size = 0) && decide (ss.length = 0)) = false by rw [decide_eq_false hv]; rfl)
  have hv':=isE_of v (by omega)
  clear hv
  go_enter Tryz.func68, Tryz.ntmps68
  go_wp2_with fail
  refine (HT.out _).mono ?_
  rintro e w1 ⟨rfl, rfl⟩
  go_wp2_with fail
  go_ret
  exact ⟨ret_bool hr.out.symm, (Below.refl _ _).alloc (Nat.le_refl _) _⟩
set_option maxHeartbeats 4000000 in
theorem ris_subs (a v : ByteArray) (ss : List ByteArray) (S A : Option Addr) (sc c : Nat) (w : World) (ht : Nm.isType (Nm.bs a) = true) (hs : StrsAt w (· < w.heap.size) S ss) (hl : ss.length ≤ maxLen) :
  Calls Tryz.prog 68 #[.agg #[.int .i64 8, .string a, .string v, .slice S ss.length sc, .slice A 0 c]] w fun r w'=>r = .returned (.bool (decide (v.size = 0) && subsOk ss)) ∧ Below w.heap.size w w':=by
 have CT:=fun w=>rIsType_any a w
 rw [ht] at CT
 have HT:=Lib.hid CT
 have hb0 : Below w.heap.size w (w.alloc (.cells #[.int .i64 8, .string a, .string v, .slice S ss.length sc, .slice A 0 c] 25)):=(Below.refl _ _).alloc (Nat.le_refl _) _
 have CS:=Lib.hid (rparts_any ss S sc _ (hs.past hb0) hl)
 clear CT ht hs
 by_cases hv : v.size = 0
 ·have hr:=Lib.hid (show (decide (v.size = 0) && subsOk ss) = subsOk ss by rw [decide_eq_true hv, Bool.true_and])
  have hv':=nil_of v hv
  clear hv
  go_enter Tryz.func68, Tryz.ntmps68
  go_wp2_with fail
  refine (HT.out _).mono ?_
  rintro e w1 ⟨rfl, rfl⟩
  go_wp2_with fail
  refine CS.out.mono ?_
  rintro e w1 ⟨rfl, hb1⟩
  go_wp2_with fail
  go_ret
  exact ⟨ret_bool hr.out.symm, hb0.trans (hb1.mono hb0.size)⟩
 ·have hr:=Lib.hid (show (decide (v.size = 0) && subsOk ss) = false by rw [decide_eq_false hv]; rfl)
  have hv':=isE_of v (by omega)
  clear hv
  go_enter Tryz.func68, Tryz.ntmps68
  go_wp2_with fail
  refine (HT.out _).mono ?_
  rintro e w1 ⟨rfl, rfl⟩
  go_wp2_with fail
  go_ret
  exact ⟨ret_bool hr.out.symm, hb0⟩
theorem rform_any (f : Fil) : SaidRForm f:=by
 refine ind ?_ f
 intro k a v ss ks ih x0 x1 x2 x3 x4 w hL
 obtain ⟨S, sc, A, c, ds, hcs, ha, hv, hsl, hsc, hs, hss, hl, hcl, hK⟩:=hL.open_
 simp only [List.cons.injEq, and_true] at hcs
 obtain ⟨rfl, rfl, rfl, rfl, rfl⟩:=hcs
 by_cases hk : 1 ≤ k ∧ k ≤ 3
 ·by_cases hb : a.size = 0 ∧ v.size = 0 ∧ ss.length = 0 ∧ (k = 3 → ks.length = 1)
  ·obtain ⟨h1, h2, h3, h4⟩:=hb
   have:=ris_kids k a v ks ih S A sc c ds w (by omega) h1 h2 hK hl
   rw [← h3] at this
   exact this.mono fun r w' h=>ret_eq h (by rw [frm_kids hk, decide_eq_true h1, decide_eq_true h2, decide_eq_true h3, decide_eq_true h4]; rfl)
  ·refine (ris_bad k a v ss.length ks.length S A sc c w hk.1 hk.2 hb).mono fun r w' h=>ret_eq h ?_
   rw [frm_kids hk]
   cases h : (decide (k = 3 → ks.length = 1) && (decide (a.size = 0) && (decide (v.size = 0) && (decide (ss.length = 0) && frms ks)))) with
   | false=>rfl
   | true =>
    simp only [Bool.and_eq_true, decide_eq_true_eq] at h
    exact absurd ⟨h.2.1, h.2.2.1, h.2.2.2.1, h.1⟩ hb
 by_cases h0 : k < 4 ∨ 4 ≤ k ∧ 8 < k ∨ 4 ≤ k ∧ k ≤ 8 ∧ 0 < ks.length
 ·refine (ris_none k a _ _ ks.length A c w (by omega) h0).mono fun r w' h=>ret_eq h ?_
  by_cases h4 : 4 ≤ k ∧ k ≤ 8
  ·rw [frm_item h4, decide_eq_false (p:=ks.length = 0) (by omega)]; simp
  ·rw [frm_none (by omega)]
 have h4 : 4 ≤ k ∧ k ≤ 8:=by omega
 have hk0 : ks.length = 0:=by omega
 rw [hk0]
 cases ht : Nm.isType (Nm.bs a) with
 | false=>exact (ris_type k a _ _ A c w h4.1 h4.2 ht).mono fun r w' h=>ret_eq h (by rw [frm_item h4, ht]; rfl)
 | true =>
  by_cases h7 : k = 7
  ·subst h7
   exact (ris_present a v ss S A sc c w ht).mono fun r w' h=>ret_eq h (by rw [frm_item h4, ht, decide_eq_true hk0, if_pos rfl]; rfl)
  by_cases h8 : k = 8
  ·subst h8
   exact (ris_subs a v ss S A sc c w ht hs hsl).mono fun r w' h=>ret_eq h (by rw [frm_item h4, ht, decide_eq_true hk0, if_neg h7, if_pos rfl]; rfl)
  ·exact (ris_item k a v ss S A sc c w (by omega) ht).mono fun r w' h=>ret_eq h (by rw [frm_item h4, ht, decide_eq_true hk0, if_neg h7, if_neg h8]; rfl)
set_option maxHeartbeats 400000 in
theorem rIs_any (f : Fil) (x0 x1 x2 x3 x4 : Value) (w : World) (hL : Lies w (· < w.heap.size) f [x0, x1, x2, x3, x4]) :
  Calls Tryz.prog 35 #[.agg #[x0, x1, x2, x3, x4]] w fun r w'=>r = .returned (.bool (isF f)) ∧ Below w.heap.size w w':=by
 obtain ⟨k, a, v, S, m, d, A, n, c, hcs⟩:=hL.form
 simp only [List.cons.injEq, and_true] at hcs
 obtain ⟨rfl, rfl, rfl, rfl, rfl⟩:=hcs
 have hb0 : Below w.heap.size w (w.alloc (.cells #[.int .i64 k, .string a, .string v, .slice S m d, .slice A n c] 25)):=(Below.refl _ _).alloc (Nat.le_refl _) _
 have hL0:=hL.past hb0
 have HC:=Lib.hid (rcount_any f _ _ _ _ _ _ hL0)
 have hF:=fun w1 (hb : Below (w.alloc (.cells #[.int .i64 k, .string a, .string v, .slice S m d, .slice A n c] 25)).heap.size (w.alloc (.cells #[.int .i64 k, .string a, .string v, .slice S m d, .slice A n c] 25)) w1)=>rform_any f _ _ _ _ _ w1 (hL0.past hb)
 have hcell:=fun w1 (hb : Below (w.alloc (.cells #[.int .i64 k, .string a, .string v, .slice S m d, .slice A n c] 25)).heap.size (w.alloc (.cells #[.int .i64 k, .string a, .string v, .slice S m d, .slice A n c] 25)) w1)=>((Blk.new w 25 #[.int .i64 k, .string a, .string v, .slice S m d, .slice A n c]).past hb)
 have HCell:=Lib.hid hcell
 by_cases h20 : tot f ≤ 20
 ·have hr:=Lib.hid (show isF f = frm f by unfold isF; rw [decide_eq_true h20]; rfl)
  have h20' : min (tot f : Int) 21 ≤ 20:=by omega
  generalize min (tot f : Int) 21 = T at HC h20'
  generalize frm f = t at hF hr
  have HF:=Lib.hid hF
  clear hL0 hF hL hcell h20
  go_enter Tryz.func35, Tryz.ntmps35
  go_wp2_with fail
  refine HC.out.mono ?_
  rintro e w1 ⟨rfl, hb1⟩
  have B:=HCell.out w1 hb1
  have b0 : w1.cell? ⟨w.heap.size, 0, none⟩ = some (.int .i64 k):=B.cell 0
  have b1 : w1.cell? ⟨w.heap.size, 1, none⟩ = some (.string a):=B.cell 1
  have b2 : w1.cell? ⟨w.heap.size, 2, none⟩ = some (.string v):=B.cell 2
  have b3 : w1.cell? ⟨w.heap.size, 3, none⟩ = some (.slice S m d):=B.cell 3
  have b4 : w1.cell? ⟨w.heap.size, 4, none⟩ = some (.slice A n c):=B.cell 4
  go_wp2_with fail
  refine (HF.out w1 hb1).mono ?_
  rintro e w2 ⟨rfl, hb2⟩
  go_wp2_with fail
  go_ret
  exact ⟨ret_bool hr.out.symm, hb0.trans ((hb1.mono hb0.size).trans (hb2.mono (Nat.le_trans hb0.size hb1.size)))⟩
 ·have hr:=Lib.hid (show isF f = false by unfold isF; rw [decide_eq_false h20]; rfl)
  have h20' : 20 < min (tot f : Int) 21:=by omega
  generalize min (tot f : Int) 21 = T at HC h20'
  clear hL0 hF hL hcell h20
  go_enter Tryz.func35, Tryz.ntmps35
  go_wp2_with fail
  refine HC.out.mono ?_
  rintro e w1 ⟨rfl, hb1⟩
  go_wp2_with fail
  go_ret
  exact ⟨ret_bool hr.out.symm, hb0.trans (hb1.mono hb0.size)⟩
end Go.Proofs.YtconghaebebncaaGreatDoor.Fi
