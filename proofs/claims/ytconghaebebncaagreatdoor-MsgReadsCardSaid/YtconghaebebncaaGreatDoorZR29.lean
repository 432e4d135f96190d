import Derived.Test.YtconghaebebncaaGreatDoorZR7
set_option linter.unusedVariables false
set_option maxRecDepth 100000
namespace Go.Proofs.YtconghaebebncaaGreatDoor.Fi
open Go.RowKit
set_option maxHeartbeats 400000 in
theorem isValue_any (s : ByteArray) (w : World) : Calls Tryz.prog 121 #[.string s] w fun e w'=>e = .returned (.bool (decide ((s.size : Int) ≤ 60))) ∧ w = w':=by
 go_enter Tryz.func121, Tryz.ntmps121
 go_wp2_with fail
 go_ret
 exact ⟨rfl, rfl⟩
theorem StrsAt.row {w : World} {P : Nat → Prop} {A : Option Addr} {ss : List ByteArray} (h : StrsAt w P A ss) (h0 : 0 < ss.length) : ∃ b o, A = some ⟨b, o, none⟩ ∧ P b ∧ ∀ i (h : i < ss.length), w.cell? ⟨b, o + i, none⟩ = some (.string ss[i]):=by
 obtain ⟨ad, e, hp, hc⟩:=h h0
 have h1:=hc 0 h0
 obtain ⟨b, o, sp⟩:=ad
 have hs : sp = none:=by
  unfold Addr.add at h1
  rw [if_pos rfl] at h1
  unfold World.cell? at h1
  split at h1
  ·cases sp with
   | none=>rfl
   | some x=>simp at h1
  ·cases h1
 subst hs
 refine ⟨b, o, e, hp, fun i hi=>?_⟩
 have:=hc i hi
 rwa [Addr.add_lit] at this
theorem mid_len (ss : List ByteArray) (h : 2 ≤ ss.length) : ((ss.take (ss.length - 1)).drop 1).length = ss.length - 2:=by
 rw [List.length_drop, List.length_take]; omega
theorem mid_at (ss : List ByteArray) (j : Nat) (h : j + 1 < ss.length - 1) (h1 : j < ((ss.take (ss.length - 1)).drop 1).length) : ((ss.take (ss.length - 1)).drop 1)[j] = ss[j + 1]:=by
 rw [List.getElem_drop, List.getElem_take]
 congr 1
 omega
theorem join_flat : ∀ xs : List (List UInt8), Lib.join xs [] = xs.flatten
 | []=>rfl
 | [x]=>by simp [Lib.join, List.intercalate]
 | x :: y :: r=>by
  have:=join_flat (y :: r)
  rw [Lib.join_cons] at this ⊢
  simp [Lib.joinTail] at this ⊢
  try rw [this]
theorem join_any (ss : List ByteArray) : (Nm.mk (Lib.join (ss.map (·.data.toList)) [])).toList.isEmpty = !ss.any (fun s=>decide (s.size ≠ 0)):=by
 rw [join_flat, ByteArray.toList_eq]
 show (List.flatten _).isEmpty = _
 induction ss with
 | nil=>rfl
 | cons s r ih =>
  rw [List.map_cons, List.flatten_cons, List.any_cons, Bool.not_or, ← ih, Bool.eq_iff_iff]
  simp only [List.isEmpty_iff, List.append_eq_nil_iff, Bool.and_eq_true, Bool.not_eq_true', decide_eq_false_iff_not, ne_eq, Decidable.not_not]
  exact ⟨fun h=>⟨by rw [← size_eq, h.1]; rfl, h.2⟩, fun h=>⟨List.eq_nil_of_length_eq_zero h.1, h.2⟩⟩
theorem join_len (ss : List ByteArray) (n : Nat) (h : ss.all (fun s=>decide (s.size ≤ 60)) = true) (hn : ss.length ≤ n) : (Lib.join (ss.map (·.data.toList)) []).length ≤ 60 * n:=by
 rw [join_flat]
 induction ss generalizing n with
 | nil=>simp
 | cons s r ih =>
  rw [List.all_cons, Bool.and_eq_true, decide_eq_true_eq] at h
  have:=ih (n - 1) h.2 (by simp at hn; omega)
  have h9 : s.data.toList.length = s.size:=rfl
  rw [List.map_cons, List.flatten_cons, List.length_append]
  simp at hn
  omega
set_option maxHeartbeats 2000000 in
theorem areSubs_any (ss : List ByteArray) (A : Option Addr) (c : Nat) (w : World) (hA : StrsAt w (· < w.heap.size) A ss) (hl : ss.length ≤ maxLen) (hc : ss.length ≤ c) (hss : ∀ s ∈ ss, s.size ≤ maxLen) :
  Calls Tryz.prog 122 #[.slice A ss.length c] w fun e w'=>e = .returned (.bool (subsOk ss)) ∧ Below w.heap.size w w':=by
 unfold maxLen at hl
 by_cases hn : (ss.length : Int) - 1 < 1 ∨ 1 ≤ (ss.length : Int) - 1 ∧ 20 ≤ (ss.length : Int) - 1
 ·have hr:=Lib.hid (show subsOk ss = false by unfold subsOk; rw [decide_eq_false (by omega)]; rfl)
  rcases hn with h1 | ⟨h1, h2⟩
  all_goals
   go_enter Tryz.func122, Tryz.ntmps122
   go_wp2_with fail
   go_ret
   exact ⟨ret_bool hr.out.symm, Below.refl _ _⟩
 have h1 : 1 ≤ (ss.length : Int) - 1:=by omega
 have h2 : (ss.length : Int) - 1 < 20:=by omega
 obtain ⟨b, o, rfl, hb, hcells⟩:=hA.row (by omega)
 have hml:=mid_len ss (by omega)
 have C1:=Lib.hid (fun w' (hw : w'.heap = w.heap)=>Tryz.slices_Contains_string b (o + 1) (ss.length - 1 - 1) (c - 1) ((ss.take (ss.length - 1)).drop 1) ⟨#[]⟩ w' (by omega) (by omega) (fun j hj=>by
  have:=hcells (j + 1) (by omega)
  rw [show w'.cell? ⟨b, o + 1 + j, none⟩ = w.cell? ⟨b, o + 1 + j, none⟩ by unfold World.cell?; rw [hw], show o + 1 + j = o + (j + 1) by omega, this]
  congr 2
  rw [List.getD_eq_getElem?_getD, List.getElem?_eq_getElem hj, Option.getD_some, mid_at ss j (by omega) hj]))
 have hcon : Lib.containsS (((ss.take (ss.length - 1)).drop 1).take (ss.length - 1 - 1)) ⟨#[]⟩ = !((ss.take (ss.length - 1)).drop 1).all (fun s=>decide (s.size ≠ 0)):=by
  rw [List.take_of_length_le (by omega), Bool.eq_iff_iff, Lib.containsS_iff, Bool.not_eq_true', ← Bool.not_eq_true, List.all_eq_true]
  constructor
  ·intro h h9
   have:=h9 _ h
   revert this; decide
  ·intro h
   apply Classical.byContradiction
   intro h9
   apply h
   intro s hs
   rw [decide_eq_true_eq]
   intro h0
   exact h9 (by have:=size0 h0; rw [this] at hs; exact hs)
 rw [hcon] at C1
 have hspec : subsOk ss = (((ss.take (ss.length - 1)).drop 1).all (fun s=>decide (s.size ≠ 0)) && (ss.all (fun s=>decide (s.size ≤ 60)) && ss.any (fun s=>decide (s.size ≠ 0)))):=by
  unfold subsOk; rw [decide_eq_true (by omega), Bool.true_and]
 have hc1 : ¬ c = 1:=by omega
 generalize ((ss.take (ss.length - 1)).drop 1).all (fun s=>decide (s.size ≠ 0)) = t at C1 hspec
 have HS:=Lib.hid hspec
 clear hcon hspec hml hn
 cases t with
 | false =>
  go_enter Tryz.func122, Tryz.ntmps122
  go_wp2_with fail
  refine (C1.out _ rfl).mono ?_
  rintro e w1 ⟨rfl, rfl⟩
  go_wp2_with fail
  go_ret
  exact ⟨ret_bool HS.out.symm, Below.refl _ _⟩
 | true =>
  rw [Bool.true_and] at HS
  have HC:=Lib.hid hcells
  clear hcells hA
  have CV:=Lib.hid isValue_any
  go_enter Tryz.func122, Tryz.ntmps122
  go_wp2_with fail
  refine (C1.out _ rfl).mono ?_
  rintro e w1 ⟨rfl, rfl⟩
  clear C1
  go_wp2_with fail
  go_loopw [5, 23] (fun x i wr=>∃ q : Nat, q ≤ ss.length ∧ i = .int .i64 q ∧ Hid (ss.all (fun s=>decide (s.size ≤ 60)) = (ss.drop q).all (fun s=>decide (s.size ≤ 60))) ∧ wr = w1) (fun x i wr=>ss.length - (intOf i).toNat)
  case atStart=>exact ⟨0, Nat.zero_le _, rfl, rfl, rfl⟩
  case round =>
   obtain ⟨q, hq, rfl, hE, rfl⟩:=hrel
   by_cases hlt : q < ss.length
   ·have f0:=HC.out q hlt
    have hE2:=hE.out
    rw [all_drop hlt] at hE2
    generalize ss[q] = s at f0 hE2
    have HE:=Lib.hid hE2
    clear hE hE2
    by_cases h60 : (s.size : Int) ≤ 60
    ·have D:=fun w=>isValue_any s w
     rw [decide_eq_true h60] at D
     have HD:=Lib.hid D
     have HF:=Lib.hid (show decide (s.size ≤ 60) = true by rw [decide_eq_true_eq]; omega)
     clear D h60
     go_wp2_with fail
     refine (HD.out _).mono ?_
     rintro e w2 ⟨rfl, rfl⟩
     go_wp2_with fail
     refine ⟨⟨q + 1, by omega, by go_num, ?_, trivial⟩, by simp [intOf]; omega⟩
     show _ = _
     rw [HE.out, HF.out]; rfl
    ·have D:=fun w=>isValue_any s w
     rw [decide_eq_false h60] at D
     have HD:=Lib.hid D
     have HF:=Lib.hid (show decide (s.size ≤ 60) = false by rw [decide_eq_false_iff_not]; omega)
     clear D h60
     go_wp2_with fail
     refine (HD.out _).mono ?_
     rintro e w2 ⟨rfl, rfl⟩
     go_wp2_with fail
     go_ret
     refine ⟨ret_bool ?_, Below.refl _ _⟩
     rw [HS.out, HE.out, HF.out]; rfl
   ·have hE2:=hE.out
    rw [List.drop_eq_nil_of_le (by omega), List.all_nil] at hE2
    have CJ:=Tryz.strings_Join b o c ss ⟨#[]⟩ wr (fun j x hj=>by
     obtain ⟨h1, h2⟩:=List.getElem?_eq_some_iff.1 hj
     rw [HC.out j h1, h2]) hb (by omega) hc (by have:=join_len ss 21 hE2 (by omega); show (Lib.join _ []).length ≤ _; omega)
    have hj:=join_any ss
    obtain ⟨T, hT⟩ : ∃ T, T = Nm.mk (Lib.join (ss.map (·.data.toList)) []):=⟨_, rfl⟩
    have CJ2 : Hid (Calls Tryz.prog 146 #[.slice (some ⟨b, o, none⟩) ss.length c, .string ⟨#[]⟩] wr fun e w'=>e = .returned (.string T) ∧ Below wr.heap.size wr w'):=by
     rw [hT]; exact CJ
    rw [← hT] at hj
    have HR : Hid (subsOk ss = !T.toList.isEmpty):=by
     show _ = _
     rw [HS.out, hE2, hj, Bool.not_not]; rfl
    clear hE hE2 CJ hT hj
    go_wp2_with fail
    refine CJ2.out.mono ?_
    rintro e w2 ⟨rfl, hb2⟩
    go_wp2_with fail
    go_ret
    refine ⟨ret_bool ?_, hb2⟩
    rw [HR.out]
def SaidForm (f : Fil) : Prop:=∀ (x0 x1 x2 x3 x4 : Value) (w : World), Lies w (· < w.heap.size) f [x0, x1, x2, x3, x4] →
  Calls Tryz.prog 85 #[.agg #[x0, x1, x2, x3, x4]] w fun r w'=>r = .returned (.bool (frm f)) ∧ Below w.heap.size w w'
set_option maxHeartbeats 2000000 in
theorem allFormed_step (ks : List Fil) (ih : ∀ f ∈ ks, SaidForm f) (A : Option Addr) (c : Nat) (ds : Nat → List Value) (w : World) (hK : KidsAt w (· < w.heap.size) A ks ds) (hl : ks.length ≤ maxLen) :
  Calls Tryz.prog 119 #[.slice A ks.length c] w fun r w'=>r = .returned (.bool (frms ks)) ∧ Below w.heap.size w w':=by
 unfold maxLen at hl
 have Ih:=Lib.hid ih
 clear ih
 go_enter Tryz.func119, Tryz.ntmps119
 go_wp2_with fail
 go_loopw [7] (fun i wr=>∃ q : Nat, q ≤ ks.length ∧ i = .int .i64 q ∧ Hid (frms ks = frms (ks.drop q)) ∧ Below w.heap.size w wr) (fun i wr=>ks.length - (intOf i).toNat)
 case atStart=>exact ⟨0, Nat.zero_le _, rfl, rfl, Below.refl _ _⟩
 case round =>
  obtain ⟨q, hq, rfl, hE, hb⟩:=hrel
  have hs:=hb.size
  by_cases hlt : q < ks.length
  ·obtain ⟨ad, k', a', v', S', m', d', A', n', c', rfl, hp, f0, f1, f2, f3, f4, hL⟩:=hK.kid hb hlt
   have hE2:=hE.out
   rw [frms_drop hlt] at hE2
   have H:=Ih.out _ (List.getElem_mem hlt) (.int .i64 k') (.string a') (.string v') (.slice S' m' d') (.slice A' n' c') (wr.alloc (.cells #[.int .i64 k', .string a', .string v', .slice S' m' d', .slice A' n' c'] 25)) (hL.alloc _)
   generalize frm ks[q] = t at hE2 H
   have HE:=Lib.hid hE2
   have HH:=Lib.hid H
   have hb0:=hb.alloc hs (.cells #[.int .i64 k', .string a', .string v', .slice S' m' d', .slice A' n' c'] 25)
   clear hE hE2 H hL
   cases t with
   | false =>
    go_wp2_with fail
    refine HH.out.mono ?_
    rintro e w1 ⟨rfl, hb1⟩
    have hb2:=hb0.trans (hb1.mono (by simp; omega))
    go_wp2_with fail
    go_ret
    refine ⟨ret_bool ?_, hb2⟩
    rw [HE.out]; rfl
   | true =>
    go_wp2_with fail
    refine HH.out.mono ?_
    rintro e w1 ⟨rfl, hb1⟩
    have hb2:=hb0.trans (hb1.mono (by simp; omega))
    go_wp2_with fail
    refine ⟨⟨q + 1, by omega, by go_num, HE.out, hb2⟩, by simp [intOf]; omega⟩
  ·have hE2:=hE.out
   rw [List.drop_eq_nil_of_le (by omega), frms] at hE2
   have HE:=Lib.hid hE2
   clear hE hE2
   go_wp2_with fail
   go_ret
   exact ⟨ret_bool HE.out.symm, hb⟩
theorem frm_kids {k : Int} {a v : ByteArray} {ss : List ByteArray} {ks : List Fil} (h : 1 ≤ k ∧ k ≤ 3) : frm (.mk k a v ss ks) = (decide (k = 3 → ks.length = 1) && (decide (a.size = 0) && (decide (v.size = 0) && (decide (ss.length = 0) && frms ks)))):=by
 rw [frm, show hasK k = true by unfold hasK; rw [decide_eq_true_eq]; exact h, if_pos rfl]
theorem frm_item {k : Int} {a v : ByteArray} {ss : List ByteArray} {ks : List Fil} (h : 4 ≤ k ∧ k ≤ 8) : frm (.mk k a v ss ks) = (Nm.isType (Nm.bs a) && (decide (ks.length = 0) && (
   if k = 7 then decide (v.size = 0) && decide (ss.length = 0)
   else if k = 8 then decide (v.size = 0) && subsOk ss
   else decide (v.size ≤ 60) && decide (ss.length = 0)))):=by
 rw [frm, show hasK k = false by unfold hasK; rw [decide_eq_false_iff_not]; omega, if_neg Bool.false_ne_true, decide_eq_true h, Bool.true_and]
theorem frm_none {k : Int} {a v : ByteArray} {ss : List ByteArray} {ks : List Fil} (h : k < 1 ∨ 8 < k) : frm (.mk k a v ss ks) = false:=by
 rw [frm, show hasK k = false by unfold hasK; rw [decide_eq_false_iff_not]; omega, if_neg Bool.false_ne_true, decide_eq_false (by omega)]; rfl
set_option maxHeartbeats 4000000 in
theorem formed_kids (k : Int) (a v : ByteArray) (ss : List ByteArray) (ks : List Fil) (S A : Option Addr) (sc c : Nat) (ds : Nat → List Value) (w : World) (hk : k = 1 ∨ k = 2 ∨ k = 3 ∧ (ks.length : Int) = 1)
  (CA : ∀ w', Below w.heap.size w w' → Calls Tryz.prog 119 #[.slice A ks.length c] w' fun r w''=>r = .returned (.bool (frms ks)) ∧ Below w'.heap.size w' w'') :
  Calls Tryz.prog 85 #[.agg #[.int .i64 k, .string a, .string v, .slice S ss.length sc, .slice A ks.length c]] w fun r w'=>r = .returned (.bool (decide (a.size = 0) && (decide (v.size = 0) && (decide (ss.length = 0) && frms ks)))) ∧ Below w.heap.size w w':=by
 have hb0 : Below w.heap.size w (w.alloc (.cells #[.int .i64 k, .string a, .string v, .slice S ss.length sc, .slice A ks.length c] 25)):=(Below.refl _ _).alloc (Nat.le_refl _) _
 have HC:=Lib.hid (CA _ hb0)
 clear CA
 by_cases ha : a.size = 0
 ·have ha':=nil_of a ha
  by_cases hv : v.size = 0
  ·have hv':=nil_of v hv
   by_cases hs : (ss.length : Int) = 0
   ·have hr:=Lib.hid (show (decide (a.size = 0) && (decide (v.size = 0) && (decide (ss.length = 0) && frms ks))) = frms ks by rw [decide_eq_true ha, decide_eq_true hv, decide_eq_true (by omega)]; rfl)
    clear ha hv
    rcases hk with rfl | rfl | ⟨rfl, h1⟩
    all_goals
     go_enter Tryz.func85, Tryz.ntmps85
     go_wp2_with fail
     refine HC.out.mono ?_
     rintro e w1 ⟨rfl, hb1⟩
     go_wp2_with fail
     go_ret
     exact ⟨ret_bool hr.out.symm, hb0.trans (hb1.mono hb0.size)⟩
   ·have hr:=Lib.hid (show (decide (a.size = 0) && (decide (v.size = 0) && (decide (ss.length = 0) && frms ks))) = false by rw [decide_eq_false (p:=ss.length = 0) (by omega)]; simp)
    have hs' : ((ss.length : Int) == 0) = false:=by rw [beq_eq_false_iff_ne]; exact hs
    clear ha hv hs
    rcases hk with rfl | rfl | ⟨rfl, h1⟩
    all_goals
     go_enter Tryz.func85, Tryz.ntmps85
     go_wp2_with fail
     go_ret
     exact ⟨ret_bool hr.out.symm, hb0⟩
  ·have hr:=Lib.hid (show (decide (a.size = 0) && (decide (v.size = 0) && (decide (ss.length = 0) && frms ks))) = false by rw [decide_eq_false hv]; simp)
   have hv':=isE_of v (by omega)
   clear ha hv
   rcases hk with rfl | rfl | ⟨rfl, h1⟩
   all_goals
    go_enter Tryz.func85, Tryz.ntmps85
    go_wp2_with fail
    go_ret
    exact ⟨ret_bool hr.out.symm, hb0⟩
 ·have hr:=Lib.hid (show (decide (a.size = 0) && (decide (v.size = 0) && (decide (ss.length = 0) && frms ks))) = false by rw [decide_eq_false ha]; simp)
  have ha':=isE_of a (by omega)
  clear ha
  rcases hk with rfl | rfl | ⟨rfl, h1⟩
  all_goals
   go_enter Tryz.func85, Tryz.ntmps85
   go_wp2_with fail
   go_ret
   exact ⟨ret_bool hr.out.symm, hb0⟩
set_option maxHeartbeats 4000000 in
theorem formed_not (a v : ByteArray) (S A : Option Addr) (n sc c : Nat) (ks : List Fil) (w : World) (hk : ks.length ≠ 1) :
  Calls Tryz.prog 85 #[.agg #[.int .i64 3, .string a, .string v, .slice S n sc, .slice A ks.length c]] w fun r w'=>r = .returned (.bool false) ∧ Below w.heap.size w w':=by
 have h1 : ((ks.length : Int) != 1) = true:=by rw [bne_iff_ne]; omega
 clear hk
 go_enter Tryz.func85, Tryz.ntmps85
 go_wp2_with fail
 go_ret
 exact ⟨rfl, (Below.refl _ _).alloc (Nat.le_refl _) _⟩
set_option maxHeartbeats 4000000 in
theorem formed_none (k : Int) (x1 x2 x3 x4 : Value) (w : World) (hk : k < 1 ∨ 8 < k) :
  Calls Tryz.prog 85 #[.agg #[.int .i64 k, x1, x2, x3, x4]] w fun r w'=>r = .returned (.bool false) ∧ Below w.heap.size w w':=by
 have h1 : (k == 1) = false:=by rw [beq_eq_false_iff_ne]; omega
 have h2 : (k == 2) = false:=by rw [beq_eq_false_iff_ne]; omega
 have h3 : (k == 3) = false:=by rw [beq_eq_false_iff_ne]; omega
 have h4 : (k == 4) = false:=by rw [beq_eq_false_iff_ne]; omega
 have h5 : (k == 5) = false:=by rw [beq_eq_false_iff_ne]; omega
 have h6 : (k == 6) = false:=by rw [beq_eq_false_iff_ne]; omega
 have h7 : (k == 7) = false:=by rw [beq_eq_false_iff_ne]; omega
 have h8 : (k == 8) = false:=by rw [beq_eq_false_iff_ne]; omega
 clear hk
 go_enter Tryz.func85, Tryz.ntmps85
 go_wp2_with fail
 go_ret
 exact ⟨rfl, (Below.refl _ _).alloc (Nat.le_refl _) _⟩
set_option maxHeartbeats 4000000 in
theorem formed_item (k : Int) (a v : ByteArray) (ss : List ByteArray) (ks : List Fil) (S A : Option Addr) (sc c : Nat) (w : World) (hk : k = 4 ∨ k = 5 ∨ k = 6 ∨ k = 7 ∧ v.size = 0) :
  Calls Tryz.prog 85 #[.agg #[.int .i64 k, .string a, .string v, .slice S ss.length sc, .slice A ks.length c]] w fun r w'=>r = .returned (.bool (Nm.isType (Nm.bs a) && (decide (v.size ≤ 60) && (decide (ss.length = 0) && decide (ks.length = 0))))) ∧ Below w.heap.size w w':=by
 have hb0 : Below w.heap.size w (w.alloc (.cells #[.int .i64 k, .string a, .string v, .slice S ss.length sc, .slice A ks.length c] 25)):=(Below.refl _ _).alloc (Nat.le_refl _) _
 have CT:=fun w=>isType_any a w
 have hk' : k = 4 ∨ k = 5 ∨ k = 6 ∨ k = 7 ∧ v.toList = []:=by
  rcases hk with h | h | h | ⟨h, h2⟩
  ·exact Or.inl h
  ·exact Or.inr (Or.inl h)
  ·exact Or.inr (Or.inr (Or.inl h))
  ·exact Or.inr (Or.inr (Or.inr ⟨h, nil_of v h2⟩))
 clear hk
 cases ht : Nm.isType (Nm.bs a) with
 | false =>
  rw [ht] at CT
  have HT:=Lib.hid CT
  clear CT ht
  rcases hk' with rfl | rfl | rfl | ⟨rfl, hv0⟩
  all_goals
   go_enter Tryz.func85, Tryz.ntmps85
   go_wp2_with fail
   refine (HT.out _).mono ?_
   rintro e w1 ⟨rfl, rfl⟩
   go_wp2_with fail
   go_ret
   exact ⟨rfl, hb0⟩
 | true =>
  rw [ht] at CT
  have HT:=Lib.hid CT
  have CV:=fun w=>isValue_any v w
  clear CT ht
  by_cases hv : (v.size : Int) ≤ 60
  ·rw [decide_eq_true hv] at CV
   have HV:=Lib.hid CV
   clear CV
   by_cases hs : (ss.length : Int) = 0
   ·by_cases hl : (ks.length : Int) = 0
    ·have hr:=Lib.hid (show (true && (decide (v.size ≤ 60) && (decide (ss.length = 0) && decide (ks.length = 0)))) = true by rw [decide_eq_true (p:=v.size ≤ 60) (by omega), decide_eq_true (p:=ss.length = 0) (by omega), decide_eq_true (by omega)]; rfl)
     clear hv
     rcases hk' with rfl | rfl | rfl | ⟨rfl, hv0⟩
     all_goals
      go_enter Tryz.func85, Tryz.ntmps85
      go_wp2_with fail
      refine (HT.out _).mono ?_
      rintro e w1 ⟨rfl, rfl⟩
      go_wp2_with fail
      refine (HV.out _).mono ?_
      rintro e w1 ⟨rfl, rfl⟩
      go_wp2_with fail
      go_ret
      exact ⟨ret_bool hr.out.symm, hb0⟩
    ·have hr:=Lib.hid (show (true && (decide (v.size ≤ 60) && (decide (ss.length = 0) && decide (ks.length = 0)))) = false by rw [decide_eq_false (p:=ks.length = 0) (by omega)]; simp)
     have hl' : ((ks.length : Int) == 0) = false:=by rw [beq_eq_false_iff_ne]; exact hl
     clear hv hl
     rcases hk' with rfl | rfl | rfl | ⟨rfl, hv0⟩
     all_goals
      go_enter Tryz.func85, Tryz.ntmps85
      go_wp2_with fail
      refine (HT.out _).mono ?_
      rintro e w1 ⟨rfl, rfl⟩
      go_wp2_with fail
      refine (HV.out _).mono ?_
      rintro e w1 ⟨rfl, rfl⟩
      go_wp2_with fail
      go_ret
      exact ⟨ret_bool hr.out.symm, hb0⟩
   ·have hr:=Lib.hid (show (true && (decide (v.size ≤ 60) && (decide (ss.length = 0) && decide (ks.length = 0)))) = false by rw [decide_eq_false (p:=ss.length = 0) (by omega)]; simp)
    have hs' : ((ss.length : Int) == 0) = false:=by rw [beq_eq_false_iff_ne]; exact hs
    clear hv hs
    rcases hk' with rfl | rfl | rfl | ⟨rfl, hv0⟩
    all_goals
     go_enter Tryz.func85, Tryz.ntmps85
     go_wp2_with fail
     refine (HT.out _).mono ?_
     rintro e w1 ⟨rfl, rfl⟩
     go_wp2_with fail
     refine (HV.out _).mono ?_
     rintro e w1 ⟨rfl, rfl⟩
     go_wp2_with fail
     go_ret
     exact ⟨ret_bool hr.out.symm, hb0⟩
  ·rw [decide_eq_false hv] at CV
   have HV:=Lib.hid CV
   have hr:=Lib.hid (show (true && (decide (v.size ≤ 60) && (decide (ss.length = 0) && decide (ks.length = 0)))) = false by rw [decide_eq_false (p:=v.size ≤ 60) (by omega)]; simp)
   clear CV hv
   rcases hk' with rfl | rfl | rfl | ⟨rfl, hv0⟩
   all_goals
    go_enter Tryz.func85, Tryz.ntmps85
    go_wp2_with fail
    refine (HT.out _).mono ?_
    rintro e w1 ⟨rfl, rfl⟩
    go_wp2_with fail
    refine (HV.out _).mono ?_
    rintro e w1 ⟨rfl, rfl⟩
    go_wp2_with fail
    go_ret
    exact ⟨ret_bool hr.out.symm, hb0⟩
set_option maxHeartbeats 4000000 in
theorem formed_present (a v : ByteArray) (x3 x4 : Value) (w : World) (hv : v.size ≠ 0) :
  Calls Tryz.prog 85 #[.agg #[.int .i64 7, .string a, .string v, x3, x4]] w fun r w'=>r = .returned (.bool false) ∧ Below w.heap.size w w':=by
 have hv':=isE_of v (by omega)
 clear hv
 go_enter Tryz.func85, Tryz.ntmps85
 go_wp2_with fail
 go_ret
 exact ⟨rfl, (Below.refl _ _).alloc (Nat.le_refl _) _⟩
set_option maxHeartbeats 4000000 in
theorem formed_subs (a v : ByteArray) (ss : List ByteArray) (ks : List Fil) (S A : Option Addr) (sc c : Nat) (w : World) (hS : StrsAt w (· < w.heap.size) S ss) (hl : ss.length ≤ maxLen) (hsc : ss.length ≤ sc) (hss : ∀ s ∈ ss, s.size ≤ maxLen) :
  Calls Tryz.prog 85 #[.agg #[.int .i64 8, .string a, .string v, .slice S ss.length sc, .slice A ks.length c]] w fun r w'=>r = .returned (.bool (Nm.isType (Nm.bs a) && (decide (v.size = 0) && (subsOk ss && decide (ks.length = 0))))) ∧ Below w.heap.size w w':=by
 have hb0 : Below w.heap.size w (w.alloc (.cells #[.int .i64 8, .string a, .string v, .slice S ss.length sc, .slice A ks.length c] 25)):=(Below.refl _ _).alloc (Nat.le_refl _) _
 have CT:=fun w=>isType_any a w
 have CS:=Lib.hid (areSubs_any ss S sc _ (hS.past hb0) hl hsc hss)
 clear hS hss
 cases ht : Nm.isType (Nm.bs a) with
 | false =>
  rw [ht] at CT
  have HT:=Lib.hid CT
  clear CT ht
  go_enter Tryz.func85, Tryz.ntmps85
  go_wp2_with fail
  refine (HT.out _).mono ?_
  rintro e w1 ⟨rfl, rfl⟩
  go_wp2_with fail
  go_ret
  exact ⟨rfl, hb0⟩
 | true =>
  rw [ht] at CT
  have HT:=Lib.hid CT
  clear CT ht
  by_cases hv : v.size = 0
  ·have hv':=nil_of v hv
   have hr:=Lib.hid (show (true && (decide (v.size = 0) && (subsOk ss && decide (ks.length = 0)))) = (subsOk ss && decide ((ks.length : Int) = 0)) by
    rw [decide_eq_true hv, Bool.true_and, Bool.true_and]
    congr 1
    rw [Bool.eq_iff_iff]; simp)
   generalize subsOk ss = t at CS hr
   clear hv
   cases t with
   | false =>
    go_enter Tryz.func85, Tryz.ntmps85
    go_wp2_with fail
    refine (HT.out _).mono ?_
    rintro e w1 ⟨rfl, rfl⟩
    go_wp2_with fail
    refine CS.out.mono ?_
    rintro e w1 ⟨rfl, hb1⟩
    go_wp2_with fail
    go_ret
    exact ⟨ret_bool hr.out.symm, hb0.trans (hb1.mono hb0.size)⟩
   | true =>
    have hcell : ∀ w1, Below (w.alloc (.cells #[.int .i64 8, .string a, .string v, .slice S ss.length sc, .slice A ks.length c] 25)).heap.size (w.alloc (.cells #[.int .i64 8, .string a, .string v, .slice S ss.length sc, .slice A ks.length c] 25)) w1 → w1.cell? ⟨w.heap.size, 4, none⟩ = some (.slice A ks.length c) :=
     fun w1 hb=>((Blk.new w 25 #[.int .i64 8, .string a, .string v, .slice S ss.length sc, .slice A ks.length c]).past hb).cell 4
    have HCell:=Lib.hid hcell
    clear hcell
    go_enter Tryz.func85, Tryz.ntmps85
    go_wp2_with fail
    refine (HT.out _).mono ?_
    rintro e w1 ⟨rfl, rfl⟩
    go_wp2_with fail
    refine CS.out.mono ?_
    rintro e w1 ⟨rfl, hb1⟩
    have c4:=HCell.out w1 hb1
    go_wp2_with fail
    go_ret
    exact ⟨ret_bool hr.out.symm, hb0.trans (hb1.mono hb0.size)⟩
  ·have hv':=isE_of v (by omega)
   have hr:=Lib.hid (show (true && (decide (v.size = 0) && (subsOk ss && decide (ks.length = 0)))) = false by rw [decide_eq_false hv]; rfl)
   clear hv
   go_enter Tryz.func85, Tryz.ntmps85
   go_wp2_with fail
   refine (HT.out _).mono ?_
   rintro e w1 ⟨rfl, rfl⟩
   go_wp2_with fail
   go_ret
   exact ⟨ret_bool hr.out.symm, hb0⟩
theorem ret_eq {a b : Bool} {r : Ending} {p : Prop} (h : r = .returned (.bool a) ∧ p) (e : a = b) : r = .returned (.bool b) ∧ p:=e ▸ h
theorem form_any (f : Fil) : SaidForm f:=by
 refine ind ?_ f
 intro k a v ss ks ih x0 x1 x2 x3 x4 w hL
 obtain ⟨S, sc, A, c, ds, hcs, ha, hv, hsl, hsc, hs, hss, hl, hcl, hK⟩:=hL.open_
 simp only [List.cons.injEq, and_true] at hcs
 obtain ⟨rfl, rfl, rfl, rfl, rfl⟩:=hcs
 have CA : ∀ w', Below w.heap.size w w' → Calls Tryz.prog 119 #[.slice A ks.length c] w' fun r w''=>r = .returned (.bool (frms ks)) ∧ Below w'.heap.size w' w'' :=
  fun w' hb=>allFormed_step ks ih A c ds w' (hK.past hb) hl
 by_cases h0 : k < 1 ∨ 8 < k
 ·exact (formed_none k _ _ _ _ w h0).mono fun r w' h=>ret_eq h (frm_none h0).symm
 by_cases h3 : k = 3 ∧ ks.length ≠ 1
 ·obtain ⟨rfl, h1⟩:=h3
  exact (formed_not a v S A _ sc c ks w h1).mono fun r w' h=>ret_eq h (by rw [frm_kids (by omega), decide_eq_false (by omega)]; rfl)
 by_cases hk : k ≤ 3
 ·exact (formed_kids k a v ss ks S A sc c ds w (by omega) CA).mono fun r w' h=>ret_eq h (by rw [frm_kids (by omega), decide_eq_true (p:=k = 3 → ks.length = 1) (by omega), Bool.true_and])
 by_cases h7 : k = 7 ∧ v.size ≠ 0
 ·obtain ⟨rfl, h1⟩:=h7
  exact (formed_present a v _ _ w h1).mono fun r w' h=>ret_eq h (by rw [frm_item (by omega), if_pos rfl, decide_eq_false h1]; simp)
 by_cases h8 : k = 8
 ·subst h8
  exact (formed_subs a v ss ks S A sc c w hs hsl hsc hss).mono fun r w' h=>ret_eq h (by
   rw [frm_item (by omega), if_neg (by omega), if_pos rfl]
   cases Nm.isType (Nm.bs a) <;> cases decide (v.size = 0) <;> cases subsOk ss <;> cases decide (ks.length = 0) <;> rfl)
 ·refine (formed_item k a v ss ks S A sc c w (by omega)).mono fun r w' h=>ret_eq h ?_
  by_cases h9 : k = 7
  ·subst h9
   rw [frm_item (by omega), if_pos rfl, decide_eq_true (p:=v.size = 0) (by omega), decide_eq_true (p:=v.size ≤ 60) (by omega)]
   cases Nm.isType (Nm.bs a) <;> cases decide (ss.length = 0) <;> cases decide (ks.length = 0) <;> rfl
  ·rw [frm_item (by omega), if_neg h9, if_neg h8]
   cases Nm.isType (Nm.bs a) <;> cases decide (v.size ≤ 60) <;> cases decide (ss.length = 0) <;> cases decide (ks.length = 0) <;> rfl
set_option maxHeartbeats 400000 in
theorem Is_any (f : Fil) (x0 x1 x2 x3 x4 : Value) (w : World) (hL : Lies w (· < w.heap.size) f [x0, x1, x2, x3, x4]) :
  Calls Tryz.prog 60 #[.agg #[x0, x1, x2, x3, x4]] w fun r w'=>r = .returned (.bool (isF f)) ∧ Below w.heap.size w w':=by
 obtain ⟨k, a, v, S, m, d, A, n, c, hcs⟩:=hL.form
 simp only [List.cons.injEq, and_true] at hcs
 obtain ⟨rfl, rfl, rfl, rfl, rfl⟩:=hcs
 have hb0 : Below w.heap.size w (w.alloc (.cells #[.int .i64 k, .string a, .string v, .slice S m d, .slice A n c] 25)):=(Below.refl _ _).alloc (Nat.le_refl _) _
 have hL0:=hL.past hb0
 have HC:=Lib.hid (Count_any f _ _ _ _ _ _ hL0)
 have hF:=fun w1 (hb : Below (w.alloc (.cells #[.int .i64 k, .string a, .string v, .slice S m d, .slice A n c] 25)).heap.size (w.alloc (.cells #[.int .i64 k, .string a, .string v, .slice S m d, .slice A n c] 25)) w1)=>form_any f _ _ _ _ _ w1 (hL0.past hb)
 have hcell:=fun w1 (hb : Below (w.alloc (.cells #[.int .i64 k, .string a, .string v, .slice S m d, .slice A n c] 25)).heap.size (w.alloc (.cells #[.int .i64 k, .string a, .string v, .slice S m d, .slice A n c] 25)) w1)=>((Blk.new w 25 #[.int .i64 k, .string a, .string v, .slice S m d, .slice A n c]).past hb)
 have HCell:=Lib.hid hcell
 by_cases h20 : tot f ≤ 20
 ·have hr:=Lib.hid (show isF f = frm f by unfold isF; rw [decide_eq_true h20]; rfl)
  have h20' : min (tot f : Int) 21 ≤ 20:=by omega
  generalize min (tot f : Int) 21 = T at HC h20'
  generalize frm f = t at hF hr
  have HF:=Lib.hid hF
  clear hL0 hF hL hcell h20
  go_enter Tryz.func60, Tryz.ntmps60
  go_wp2_with fail
  refine HC.out.mono ?_
  rintro e w1 ⟨rfl, hb1⟩
  have B:=HCell.out w1 hb1
  have b0 : w1.cell? ⟨w.heap.size, 0, none⟩ = some (.int .i64 k):=B.cell 0
  have b1 : w1.cell? ⟨w.heap.size, 1, none⟩ = some (.string a):=B.cell 1
  have b2 : w1.cell? ⟨w.heap.size, 2, none⟩ = some (.string v):=B.cell 2
  have b3 : w1.cell? ⟨w.heap.size, 3, none⟩ = some (.slice S m d):=B.cell 3
  have b4 : w1.cell? ⟨w.heap.size, 4, none⟩ = some (.slice A n c):=B.cell 4
  go_wp2_with fail
  refine (HF.out w1 hb1).mono ?_
  rintro e w2 ⟨rfl, hb2⟩
  go_wp2_with fail
  go_ret
  exact ⟨ret_bool hr.out.symm, hb0.trans ((hb1.mono hb0.size).trans (hb2.mono (Nat.le_trans hb0.size hb1.size)))⟩
 ·have hr:=Lib.hid (show isF f = false by unfold isF; rw [decide_eq_false h20]; rfl)
  have h20' : 20 < min (tot f : Int) 21:=by omega
  generalize min (tot f : Int) 21 = T at HC h20'
  clear hL0 hF hL hcell h20
  go_enter Tryz.func60, Tryz.ntmps60
  go_wp2_with fail
  refine HC.out.mono ?_
  rintro e w1 ⟨rfl, hb1⟩
  go_wp2_with fail
  go_ret
  exact ⟨ret_bool hr.out.symm, hb0.trans (hb1.mono hb0.size)⟩
end Go.Proofs.YtconghaebebncaaGreatDoor.Fi
