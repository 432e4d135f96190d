import Derived.Test.YtpnlalfdgngcdaaDoorZA16
set_option linter.unusedVariables false
set_option maxRecDepth 100000
namespace Go.Proofs.YtpnlalfdgngcdaaDoor
open Go.RowKit
def sp1 (c : UInt8) : Bool:=decide (c.toNat = 44 ∨ c.toNat = 34 ∨ c.toNat = 60 ∨ c.toNat = 62 ∨ c.toNat = 59)
theorem unB_cons (sp : UInt8 → Bool) (f : Bool) (c : UInt8) (r : List UInt8) : Nm.unB sp f (c :: r) = if c = 92 then Nm.unE r else if sp c || f && decide (c.toNat = 35 ∨ c.toNat = 32) || r.isEmpty && decide (c.toNat = 32) then none else some (c, 1):=rfl
theorem unB_at (sp : UInt8 → Bool) (s : ByteArray) (k : Nat) (h : k < s.size) (c : UInt8) (hc : c = s[k]) (f : Bool) : Nm.unB sp f ((Nm.bs s).drop k) = if c = 92 then Nm.unE ((Nm.bs s).drop (k + 1)) else if sp c || f && decide (c.toNat = 35 ∨ c.toNat = 32) || decide ((k : Int) = s.size - 1) && decide (c.toNat = 32) then none else some (c, 1):=by
 have h1:=drop_at h
 rw [← hc] at h1
 have h2 : ((Nm.bs s).drop (k + 1)).isEmpty = decide ((k : Int) = s.size - 1):=by
  rw [Bool.eq_iff_iff, List.isEmpty_iff, List.drop_eq_nil_iff, decide_eq_true_eq, size_eq]
  omega
 show Nm.unB sp f (s.data.toList.drop k) = _
 rw [h1, unB_cons, ← h2]
set_option maxHeartbeats 1000000 in
theorem readB_any (s : ByteArray) (k : Nat) (w : World) (h : k < s.size) (hs : s.size ≤ 1000000000) :
  Calls Tryd.prog 89 #[.string s, .int .i64 k] w fun e w'=>e = .returned (pairV (Nm.unB sp1 (decide (k = 0)) ((Nm.bs s).drop k))) ∧ Below w.heap.size w w':=by
 obtain ⟨c, hc⟩ : ∃ c, c = s[k]:=⟨_, rfl⟩
 have hcr : ∀ h, s[k]'h = c:=fun _=>hc.symm
 have h256:=u8_lt c
 have hU:=unB_at sp1 s k h c hc (decide (k = 0))
 have hk1 : (k : Int) + 1 ≤ s.size:=by omega
 by_cases h92 : c = 92
 ·rw [if_pos h92] at hU
  have hn : (c.toNat : Int) = 92:=by rw [h92]; rfl
  obtain ⟨t, ht⟩ : ∃ t, t = s.extract (k + 1) s.size:=⟨_, rfl⟩
  have hX : s.extract (k + 1) s.size = t:=ht.symm
  have htb : Nm.bs t = (Nm.bs s).drop (k + 1):=by rw [ht]; exact Go.Lib.extract_to_end s (k + 1)
  rw [← htb] at hU
  have C:=fun w=>readE_any t w
  obtain ⟨b, m, hp⟩ : ∃ b m, pairV (Nm.unE (Nm.bs t)) = .tuple #[.int .u8 b, .int .i64 m]:=by
   cases Nm.unE (Nm.bs t) with
   | none=>exact ⟨0, 0, rfl⟩
   | some q=>exact ⟨_, _, rfl⟩
  rw [← hU] at hp C
  rw [hp] at C ⊢
  have HC:=Lib.hid C
  clear hU h92 hc ht htb hp C
  go_enter Tryd.func89, Tryd.ntmps89
  go_wp2_with fail
  refine (HC.out _).mono ?_
  rintro e w1 ⟨rfl, hb1⟩
  go_wp2_with fail
  go_ret2
  exact ⟨rfl, hb1⟩
 rw [if_neg h92] at hU
 have hn : ((c.toNat : Int) == 92) = false:=by
  have:=u8_eq c 92
  rw [decide_eq_false h92] at this
  exact this
 by_cases hbad : (sp1 c || decide (k = 0) && decide (c.toNat = 35 ∨ c.toNat = 32) || decide ((k : Int) = s.size - 1) && decide (c.toNat = 32)) = true
 ·rw [if_pos hbad] at hU
  have h2:=Lib.hid hU
  have hq : (c.toNat : Int) = 32 ∧ ((k : Int) == s.size - 1) = true ∨ (c.toNat : Int) = 32 ∧ ((k : Int) == s.size - 1) = false ∧ ¬ 0 < k ∨ (c.toNat : Int) = 35 ∧ ¬ 0 < k ∨ (c.toNat : Int) = 44 ∨ (c.toNat : Int) = 34 ∨ (c.toNat : Int) = 60 ∨ (c.toNat : Int) = 62 ∨ (c.toNat : Int) = 59:=by
   unfold sp1 at hbad
   rw [Bool.or_eq_true, Bool.or_eq_true, Bool.and_eq_true, Bool.and_eq_true] at hbad
   simp only [decide_eq_true_eq] at hbad
   simp only [beq_iff_eq, beq_eq_false_iff_ne, ne_eq]
   omega
  clear hU hbad h92 hc
  rcases hq with ⟨h3, h4⟩ | ⟨h3, h4, h5⟩ | ⟨h3, h4⟩ | h3 | h3 | h3 | h3 | h3
  all_goals
   go_enter Tryd.func89, Tryd.ntmps89
   go_wp2_with fail
   go_ret2
   exact ⟨by rw [h2.out]; rfl, Below.refl _ _⟩
 ·rw [if_neg hbad] at hU
  have h2:=Lib.hid (show pairV (Nm.unB sp1 (decide (k = 0)) ((Nm.bs s).drop k)) = .tuple #[.int .u8 (c.toNat : Int), .int .i64 1] by rw [hU]; rfl)
  have hq : (c.toNat : Int) = 32 ∧ ((k : Int) == s.size - 1) = false ∧ 0 < k ∨ (c.toNat : Int) = 35 ∧ 0 < k ∨ ((c.toNat : Int) == 32) = false ∧ ((c.toNat : Int) == 35) = false ∧ ((c.toNat : Int) == 44) = false ∧ ((c.toNat : Int) == 34) = false ∧ ((c.toNat : Int) == 60) = false ∧ ((c.toNat : Int) == 62) = false ∧ ((c.toNat : Int) == 59) = false:=by
   unfold sp1 at hbad
   rw [Bool.or_eq_true, Bool.or_eq_true, Bool.and_eq_true, Bool.and_eq_true] at hbad
   simp only [decide_eq_true_eq] at hbad
   simp only [beq_eq_false_iff_ne, ne_eq]
   omega
  clear hU hbad h92 hc
  rcases hq with ⟨h3, h4, h5⟩ | ⟨h3, h4⟩ | ⟨a1, a2, a3, a4, a5, a6, a7⟩
  all_goals
   try rw [h3] at h2
   go_enter Tryd.func89, Tryd.ntmps89
   go_wp2_with fail
   go_ret2
   exact ⟨by rw [h2.out]; rfl, Below.refl _ _⟩
end Go.Proofs.YtpnlalfdgngcdaaDoor
namespace Go.Proofs.YtpnlalfdgngcdaaDoor
open Go.RowKit
def valR (l : List UInt8) : Option (List UInt8):=match Nm.unVal sp1 true l with
 | none=>none
 | some v=>if v.length ≤ 60 then some v else none
def valV : Option (List UInt8) → Value
 | none=>.tuple #[.string ⟨#[]⟩, .bool false]
 | some v=>.tuple #[.string (Nm.mk v), .bool true]
theorem map_nil_app (o : Option (List UInt8)) : o.map ([] ++ ·) = o:=by cases o <;> rfl
theorem map_snoc (o : Option (List UInt8)) (L : List UInt8) (c : UInt8) : (o.map (c :: ·)).map (L ++ ·) = o.map ((L ++ [c]) ++ ·):=by
 cases o with
 | none=>rfl
 | some v=>simp
set_option maxHeartbeats 1000000 in
theorem readV_any (s : ByteArray) (w : World) (hs : s.size ≤ 1000000000) :
  Calls Tryd.prog 78 #[.string s] w fun e w'=>e = .returned (valV (valR (Nm.bs s))) ∧ Below w.heap.size w w':=by
 have C:=Lib.hid readB_any
 go_enter Tryd.func78, Tryd.ntmps78
 go_wp2_with fail
 go_loopw [4, 5] (fun v i wr=>∃ (k : Nat) (L : List UInt8), k ≤ s.size ∧ i = .int .i64 k ∧ Own wr w.heap.size v L ∧ Hid (Nm.unVal sp1 true (Nm.bs s) = (Nm.unVal sp1 (decide (k = 0)) ((Nm.bs s).drop k)).map (L ++ ·)) ∧ L.length ≤ 60 ∧ Below w.heap.size w wr) (fun v i wr=>s.size - (intOf i).toNat)
 case atStart=>exact ⟨0, [], Nat.zero_le _, rfl, Own.nil _ _, (map_nil_app _).symm, by simp, Below.refl _ _⟩
 case round =>
  obtain ⟨k, L, hk, rfl, hO, hE, hL, hb⟩:=hrel
  have hsz:=hb.size
  by_cases hlt : k < s.size
  ·have hne : (Nm.bs s).drop k ≠ []:=by rw [ne_eq, List.drop_eq_nil_iff, size_eq]; omega
   have CB:=C.out s k wr hlt hs
   cases hu : Nm.unB sp1 (decide (k = 0)) ((Nm.bs s).drop k) with
   | none =>
    have hE2:=hE.out
    rw [Nm.unVal_bad hu hne] at hE2
    have HR:=Lib.hid (show valV (valR (Nm.bs s)) = .tuple #[.string ⟨#[]⟩, .bool false] by unfold valR; rw [hE2]; rfl)
    rw [hu] at CB
    have HC:=Lib.hid (show Calls Tryd.prog 89 #[.string s, .int .i64 k] wr fun e w'=>e = .returned (.tuple #[.int .u8 0, .int .i64 0]) ∧ Below wr.heap.size wr w' from CB)
    clear hE hE2 hu CB hne
    go_wp2_with fail
    refine HC.out.mono ?_
    rintro e w1 ⟨rfl, hb1⟩
    go_wp2_with fail
    go_ret2
    exact ⟨by rw [HR.out]; rfl, hb.trans (hb1.mono hsz)⟩
   | some q =>
    obtain ⟨c, m⟩:=q
    have hm:=Nm.unB_bound hu
    rw [List.length_drop, size_eq] at hm
    have hE2:=hE.out
    rw [Nm.unVal_step hu, List.drop_drop] at hE2
    rw [hu] at CB
    have HC:=Lib.hid (show Calls Tryd.prog 89 #[.string s, .int .i64 k] wr fun e w'=>e = .returned (.tuple #[.int .u8 c.toNat, .int .i64 m]) ∧ Below wr.heap.size wr w' from CB)
    have hm0 : ((m : Int) == 0) = false:=by rw [beq_eq_false_iff_ne]; omega
    have hE3:=Lib.hid hE2
    obtain ⟨A, n, cp, rfl⟩:=hO.form3
    have hn : n = L.length:=by
     rcases hO.2 with ⟨e, h0⟩ | ⟨g', cap', cur, e, _⟩
     ·injection e with _ e _; omega
     ·injection e
    subst hn
    clear hE hE2 hu CB hne
    by_cases h60 : (L.length : Int) = 60
    ·have HR:=Lib.hid (show valV (valR (Nm.bs s)) = .tuple #[.string ⟨#[]⟩, .bool false] by
      unfold valR
      rw [hE3.out]
      cases Nm.unVal sp1 false ((Nm.bs s).drop (k + m)) with
      | none=>rfl
      | some v =>
       simp only [Option.map_some]
       rw [if_neg (by rw [List.length_append, List.length_cons]; omega)]
       rfl)
     go_wp2_with fail
     refine HC.out.mono ?_
     rintro e w1 ⟨rfl, hb1⟩
     go_wp2_with fail
     go_ret2
     exact ⟨by rw [HR.out]; rfl, hb.trans (hb1.mono hsz)⟩
    ·have h60' : ((L.length : Int) == 60) = false:=by rw [beq_eq_false_iff_ne]; exact h60
     clear h60
     go_wp2_with fail
     refine HC.out.mono ?_
     rintro e w1 ⟨rfl, hb1⟩
     have hb2:=hb.trans (hb1.mono hsz)
     have hs2:=hb2.size
     have hO2:=hO.past hb1
     have B1 : Blk (w1.alloc (.cells #[.int .u8 (c.toNat : Int)] 5)) w1.heap.size 5 (Lib.byteCells [c]).toArray:=Blk.new w1 _ _
     clear hO hb1 hb HC
     go_wp2_with (at_builtin; go_loud (refine wpList_push rfl _ _ rfl w.heap.size _ L rfl (hO2.alloc _) w1.heap.size 1 1 [c] rfl rfl B1 (by simp only [List.length_singleton]; omega) (by simp; omega) ?_))
     intro v2 w2 hO3 hb3 hg3
     obtain ⟨A2, n2, c2, rfl⟩:=hO3.form3
     have HO3:=Lib.hid hO3
     have hb4:=(hb2.alloc hs2 (.cells #[.int .u8 (c.toNat : Int)] 5)).trans hb3
     clear hO2 hO3 hb3 hg3 B1 hb2
     go_wp2_with fail
     go_roundw
     case rel =>
      refine ⟨k + m, L ++ [c], by omega, by go_num, HO3.out, ?_, by rw [List.length_append, List.length_singleton]; simp only [beq_eq_false_iff_ne, ne_eq] at h60'; omega, hb4⟩
      show _ = _
      rw [hE3.out, map_snoc]
      have e1 : decide (k + m = 0) = false:=by rw [decide_eq_false_iff_not]; omega
      rw [e1]
     case measure=>simp [intOf]; omega
  ·have hE2:=hE.out
   rw [List.drop_eq_nil_of_le (by rw [size_eq]; omega), Nm.unVal_nil] at hE2
   have HR:=Lib.hid (show valV (valR (Nm.bs s)) = .tuple #[.string (Nm.mk L), .bool true] by
    unfold valR
    rw [hE2]
    simp only [Option.map_some, List.append_nil]
    rw [if_pos hL]
    rfl)
   have E:=hO.string
   clear hE hE2
   go_wp2_with fail
   go_ret2
   exact ⟨by rw [HR.out]; rfl, hb⟩
end Go.Proofs.YtpnlalfdgngcdaaDoor
