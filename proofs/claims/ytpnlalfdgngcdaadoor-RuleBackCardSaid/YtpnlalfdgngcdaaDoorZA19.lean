import Derived.Test.YtpnlalfdgngcdaaDoorZA16
import Derived.Test.YtpnlalfdgngcdaaDoorZA7
set_option linter.unusedVariables false
set_option maxRecDepth 100000
namespace Go.Proofs.YtpnlalfdgngcdaaDoor
open Go.RowKit
theorem cons1_cons1 (x y : List UInt8) (z : List (List UInt8)) : Nm.cons1 x (Nm.cons1 y z) = Nm.cons1 (x ++ y) z:=by
 cases z with
 | nil=>rfl
 | cons a r=>simp [Nm.cons1]
theorem cuts_cons (sep c : UInt8) (r : List UInt8) : Nm.cuts sep (c :: r) = if c = 92 then (match r with
   | []=>[[c]]
   | d :: r'=>Nm.cons1 [c, d] (Nm.cuts sep r'))
  else if c = sep then [] :: Nm.cuts sep r else Nm.cons1 [c] (Nm.cuts sep r):=by
 rw [Nm.cuts.eq_def]
 rfl
theorem cons1_ne (x : List UInt8) (z : List (List UInt8)) : Nm.cons1 x z ≠ []:=by cases z <;> simp [Nm.cons1]
theorem cuts_ne (sep : UInt8) (l : List UInt8) : Nm.cuts sep l ≠ []:=by
 cases l with
 | nil=>simp [Nm.cuts]
 | cons c r =>
  rw [cuts_cons]
  split
  ·cases r with
   | nil=>simp
   | cons d q=>exact cons1_ne _ _
  ·split
   ·simp
   ·exact cons1_ne _ _
theorem cons1_nil {z : List (List UInt8)} (h : z ≠ []) : Nm.cons1 [] z = z:=by
 cases z with
 | nil=>exact absurd rfl h
 | cons a r=>rfl
def seg (l : List UInt8) (f k : Nat) : List UInt8:=(l.drop f).take (k - f)
theorem seg_end (l : List UInt8) (f k : Nat) (h : l.length ≤ k) : seg l f k = l.drop f:=by
 unfold seg
 exact List.take_of_length_le (by rw [List.length_drop]; omega)
theorem seg_self (l : List UInt8) (f : Nat) : seg l f f = []:=by unfold seg; simp
theorem seg_one (l : List UInt8) (f k : Nat) (h : k < l.length) (hf : f ≤ k) : seg l f (k + 1) = seg l f k ++ [l[k]]:=by
 unfold seg
 rw [show k + 1 - f = (k - f) + 1 by omega, List.take_succ_eq_append_getElem (by rw [List.length_drop]; omega)]
 congr 2
 rw [List.getElem_drop]
 simp only [show f + (k - f) = k by omega]
theorem cuts_esc (sep : UInt8) (l : List UInt8) (f k : Nat) (h : k < l.length) (hf : f ≤ k) (hc : l[k] = 92) : Nm.cons1 (seg l f k) (Nm.cuts sep (l.drop k)) = Nm.cons1 (seg l f (k + 2)) (Nm.cuts sep (l.drop (k + 2))):=by
 rw [List.drop_eq_getElem_cons h, cuts_cons, if_pos hc]
 cases h2 : l.drop (k + 1) with
 | nil =>
  have hl : l.length ≤ k + 1:=by rw [List.drop_eq_nil_iff] at h2; omega
  have : l.drop (k + 2) = []:=by rw [List.drop_eq_nil_iff]; omega
  rw [this, seg_end l f (k + 2) (by omega), ← seg_end l f (k + 1) hl, seg_one l f k h hf]
  simp [Nm.cuts, Nm.cons1]
 | cons d r =>
  have hl : k + 1 < l.length:=by
   rcases Nat.lt_or_ge (k + 1) l.length with h9 | h9
   ·exact h9
   ·rw [List.drop_eq_nil_of_le h9] at h2; cases h2
  have e1 : l.drop (k + 2) = r:=by
   rw [show k + 2 = (k + 1) + 1 by omega, ← List.drop_drop, h2]; rfl
  have e2 : l[k + 1] = d:=by
   rw [List.drop_eq_getElem_cons hl] at h2
   injection h2
  rw [e1, cons1_cons1, show k + 2 = (k + 1) + 1 by omega, seg_one l f (k + 1) hl (by omega), seg_one l f k h hf, e2]
  simp
theorem cuts_here (sep : UInt8) (l : List UInt8) (f k : Nat) (h : k < l.length) (hc : l[k] ≠ 92) (hs : l[k] = sep) : Nm.cons1 (seg l f k) (Nm.cuts sep (l.drop k)) = seg l f k :: Nm.cons1 (seg l (k + 1) (k + 1)) (Nm.cuts sep (l.drop (k + 1))):=by
 rw [List.drop_eq_getElem_cons h, cuts_cons, if_neg hc, if_pos hs, seg_self, cons1_nil (cuts_ne _ _)]
 simp [Nm.cons1]
theorem cuts_on (sep : UInt8) (l : List UInt8) (f k : Nat) (h : k < l.length) (hf : f ≤ k) (hc : l[k] ≠ 92) (hs : l[k] ≠ sep) : Nm.cons1 (seg l f k) (Nm.cuts sep (l.drop k)) = Nm.cons1 (seg l f (k + 1)) (Nm.cuts sep (l.drop (k + 1))):=by
 rw [List.drop_eq_getElem_cons h, cuts_cons, if_neg hc, if_neg hs, cons1_cons1, seg_one l f k h hf]
theorem cuts_end (sep : UInt8) (l : List UInt8) (f k : Nat) (h : l.length ≤ k) : Nm.cons1 (seg l f k) (Nm.cuts sep (l.drop k)) = [l.drop f]:=by
 rw [List.drop_eq_nil_of_le h, seg_end l f k h]
 simp [Nm.cuts, Nm.cons1]
theorem ext_seg (s : ByteArray) (f k : Nat) : s.extract f k = Nm.mk (seg (Nm.bs s) f k):=by
 apply ByteArray.ext
 apply Array.toList_inj.1
 rw [Lib.extract_data]
 show _ = seg s.data.toList f k
 rfl
set_option maxHeartbeats 1000000 in
theorem rcut_any (s : ByteArray) (sep : UInt8) (w : World) (hs : s.size ≤ 1000000000) (hsep : sep ≠ 92) :
  Calls Tryd.prog 29 #[.string s, .int .u8 sep.toNat] w fun e w'=>∃ v, e = .returned v ∧ OwnS w' w.heap.size v ((Nm.cuts sep (Nm.bs s)).map Nm.mk) ∧ Below w.heap.size w w':=by
 have H0 : Hid (Nm.cuts sep (Nm.bs s) = Nm.cons1 (seg (Nm.bs s) 0 0) (Nm.cuts sep ((Nm.bs s).drop 0))):=by
  show _ = _
  rw [seg_self, List.drop_zero, cons1_nil (cuts_ne _ _)]
 go_enter Tryd.func29, Tryd.ntmps29
 go_wp2_with fail
 go_loopw [5, 6, 7] (fun o f i wr=>∃ (k q : Nat) (ps : List ByteArray), k ≤ s.size + 1 ∧ q ≤ k ∧ q ≤ s.size ∧ i = .int .i64 k ∧ f = .int .i64 q ∧ OwnS wr w.heap.size o ps ∧ Hid ((Nm.cuts sep (Nm.bs s)).map Nm.mk = ps ++ (Nm.cons1 (seg (Nm.bs s) q k) (Nm.cuts sep ((Nm.bs s).drop k))).map Nm.mk) ∧ ps.length ≤ k ∧ Below w.heap.size w wr) (fun o f i wr=>s.size + 1 - (intOf i).toNat)
 case atStart=>exact ⟨0, 0, [], Nat.zero_le _, Nat.le_refl _, Nat.zero_le _, rfl, rfl, OwnS.nil _ _, by show _ = _; rw [H0.out]; rfl, Nat.le_refl _, Below.refl _ _⟩
 case round =>
  obtain ⟨k, q, ps, hk, hqk, hqs, rfl, rfl, hO, hE, hps, hb⟩:=hrel
  have hsz:=hb.size
  by_cases hlt : k < s.size
  ·have hE2:=hE.out
   obtain ⟨c, hc⟩ : ∃ c, c = s[k]:=⟨_, rfl⟩
   have hcr : ∀ h, s[k]'h = c:=fun _=>hc.symm
   have hcl : (Nm.bs s)[k]'hlt = c:=hc.symm
   have h256:=u8_lt c
   clear hc
   by_cases h92 : c = 92
   ·rw [cuts_esc sep (Nm.bs s) q k hlt hqk (by rw [hcl, h92])] at hE2
    have HE:=Lib.hid hE2
    have hn : (c.toNat : Int) = 92:=by rw [h92]; rfl
    clear hE hE2 h92 hcl
    go_wp2_with fail
    refine ⟨⟨k + 2, q, ps, by omega, by omega, hqs, by go_num, rfl, hO, HE.out, by omega, hb⟩, by simp [intOf]; omega⟩
   have hn : ((c.toNat : Int) == 92) = false:=by
    have:=u8_eq c 92
    rw [decide_eq_false h92] at this
    exact this
   by_cases hsp : c = sep
   ·rw [cuts_here sep (Nm.bs s) q k hlt (by rw [hcl]; exact h92) (by rw [hcl]; exact hsp), List.map_cons, ← ext_seg] at hE2
    have HE:=Lib.hid hE2
    have hn2 : ((c.toNat : Int) == sep.toNat) = true:=by rw [u8_eq, decide_eq_true hsp]
    have hqk' : (q : Int) ≤ k:=by omega
    have hlt' : (k : Int) ≤ s.size:=by omega
    obtain ⟨t, ht⟩ : ∃ t, t = s.extract q k:=⟨_, rfl⟩
    have hX : s.extract q k = t:=ht.symm
    have HX:=Lib.hid ht
    rw [← ht] at HE
    have B1:=Blk.new wr 9 #[.string t]
    clear hE hE2 hcl h92 hsp ht
    go_wp2_with (at_builtin; go_loud (refine wpList_pushW rfl _ _ rfl w.heap.size u5 ps rfl (hO.alloc _) wr.heap.size t rfl B1 (by omega) (by simp; omega) ?_))
    intro v2 w2 hO2 hb2
    obtain ⟨A2, n2, c2, rfl⟩:=hO2.form3
    have HO2:=Lib.hid hO2
    have hb3:=(hb.alloc hsz (.cells #[.string t] 9)).trans hb2
    clear hO hO2 hb2 hX B1
    go_wp2_with fail
    go_roundw
    case rel =>
     refine ⟨k + 1, k + 1, _, by omega, by omega, by omega, by go_num, by go_num, HO2.out, ?_, by rw [List.length_append, List.length_singleton]; omega, hb3⟩
     show _ = _
     rw [HE.out, List.append_assoc]
     rfl
    case measure=>simp [intOf]; omega
   ·rw [cuts_on sep (Nm.bs s) q k hlt hqk (by rw [hcl]; exact h92) (by rw [hcl]; exact hsp)] at hE2
    have HE:=Lib.hid hE2
    have hn2 : ((c.toNat : Int) == sep.toNat) = false:=by rw [u8_eq, decide_eq_false hsp]
    clear hE hE2 hcl h92 hsp
    go_wp2_with fail
    refine ⟨⟨k + 1, q, ps, by omega, by omega, hqs, by go_num, rfl, hO, HE.out, by omega, hb⟩, by simp [intOf]; omega⟩
  ·have hE2:=hE.out
   rw [cuts_end sep (Nm.bs s) q k (by rw [size_eq]; omega)] at hE2
   obtain ⟨t, ht⟩ : ∃ t, t = s.extract q s.size:=⟨_, rfl⟩
   have hX : s.extract q s.size = t:=ht.symm
   have hE3 : List.map Nm.mk (Nm.cuts sep (Nm.bs s)) = ps ++ [t]:=by
    rw [hE2, ht, ext_seg, seg_end _ _ _ (by rw [size_eq]; exact Nat.le_refl _)]; rfl
   have HE:=Lib.hid hE3
   have B1:=Blk.new wr 9 #[.string t]
   clear hE hE2 ht hE3
   go_wp2_with (at_builtin; go_loud (refine wpList_pushW rfl _ _ rfl w.heap.size u5 ps rfl (hO.alloc _) wr.heap.size t rfl B1 (by omega) (by simp; omega) ?_))
   intro v2 w2 hO2 hb2
   obtain ⟨A2, n2, c2, rfl⟩:=hO2.form3
   have HO2:=Lib.hid hO2
   have hb3:=(hb.alloc hsz (.cells #[.string t] 9)).trans hb2
   clear hO hO2 hb2 hX B1
   go_wp2_with fail
   go_ret
   exact ⟨_, rfl, by rw [HE.out]; exact HO2.out, hb3⟩
end Go.Proofs.YtpnlalfdgngcdaaDoor
