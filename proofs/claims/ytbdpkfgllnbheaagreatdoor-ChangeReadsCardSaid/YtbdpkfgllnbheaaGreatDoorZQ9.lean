import Derived.Test.YtbdpkfgllnbheaaGreatDoorZQ8
import Derived.Test.YtbdpkfgllnbheaaGreatDoorZQ5
set_option linter.unusedVariables false
set_option maxRecDepth 100000
namespace Go.Proofs.YtbdpkfgllnbheaaGreatDoor
open Go.RowKit
theorem mk_bs (q : ByteArray) : Nm.mk (Nm.bs q) = q:=rfl
end Go.Proofs.YtbdpkfgllnbheaaGreatDoor
namespace Go.Proofs.YtbdpkfgllnbheaaGreatDoor
open Go.RowKit
theorem infoS : (Tryz.prog.info? 9).map (fun i=>(i.zero, i.size, i.bytes)) = some (some (.string ⟨#[]⟩), 1, 16):=by kernel_rfl
def OwnS (w : World) (base : Nat) (v : Value) (ps : List ByteArray) : Prop:=w.ownsRow base 9 1 v ps.length (ps.map Value.string)
theorem OwnS.past {w w' : World} {base : Nat} {v : Value} {ps : List ByteArray} (h : OwnS w base v ps) (hb : Below w.heap.size w w') : OwnS w' base v ps:=own_past h hb
theorem OwnS.nil (w : World) (base : Nat) : OwnS w base (.slice none 0 0) []:=World.ownsRow_nil w base _ 1
theorem OwnS.alloc {w : World} {base : Nat} {v : Value} {ps : List ByteArray} (h : OwnS w base v ps) (o : Obj) : OwnS (w.alloc o) base v ps:=h.past ((Below.refl _ _).alloc (Nat.le_refl _) o)
theorem OwnS.form3 {w : World} {base : Nat} {v : Value} {ps : List ByteArray} (h : OwnS w base v ps) : ∃ A n c, v = .slice A n c:=by
 rcases h.2 with ⟨rfl, h0⟩ | ⟨g, cap, cur, rfl, _⟩
 ·exact ⟨none, 0, 0, rfl⟩
 ·exact ⟨_, _, _, rfl⟩
theorem wpList_pushW {w : World} {ops : Array Oper} {rest : List Oper} {o : Oper} {a : Act} {Q : Exit → Act → World → Prop} (hgd : o.guard = none) (sl x : Operand)
  (ho : o.op = .call { callee:=.builtin .append, args:=#[sl, x], argTypes:=#[42, 42] })
  (base : Nat) (v : Value) (ps : List ByteArray) (hs : a.eval sl = v) (hown : OwnS w base v ps) (g : Nat) (t : ByteArray) (hx : a.eval x = .slice (some ⟨g, 0, none⟩) 1 1)
  (hB : Blk w g 9 #[.string t]) (hl : ps.length ≤ 1099511627776) (hbase : base ≤ w.heap.size)
  (h : ∀ v' w', OwnS w' base v' (ps ++ [t]) → Below base w w' → wpList Tryz.prog ops Q rest (a.put o.dst v') w') : wpList Tryz.prog ops Q (o :: rest) a w:=by
 obtain ⟨i0, hi, hz0, hz1, hz2⟩:=infoP infoS
 refine wpList_append_own w hgd sl x 42 ho base 9 i0 (.string ⟨#[]⟩) 1 16 Tryz.underlying42 hi hz0 hz1 hz2 rfl (by decide) v ps.length _ hs hown ⟨g, 0, none⟩ 1 1 [.string t] hx rfl (fun j u hj=>?_) (fun u hu=>?_) (by unfold maxLen; omega) (by omega) hbase (fun v' w' hown' hgr _=>h v' w' ?_ ?_)
 ·rw [Addr.add_lit, Nat.zero_add, hB.cell j]
  simpa using hj
 ·simp at hu; subst hu; rfl
 ·unfold OwnS
  rw [List.length_append, List.map_append]
  exact hown'
 ·exact (Below.refl _ _).grown hgr hbase (fun k hk=>(hown.lt k hk).1)
end Go.Proofs.YtbdpkfgllnbheaaGreatDoor
namespace Go.Proofs.YtbdpkfgllnbheaaGreatDoor
open Go.RowKit
theorem cons1_cons1 (x y : List UInt8) (z : List (List UInt8)) : Nm.cons1 x (Nm.cons1 y z) = Nm.cons1 (x ++ y) z:=by
 cases z with
 | nil=>rfl
 | cons a r=>simp [Nm.cons1]
theorem cuts_cons (sep c : UInt8) (r : List UInt8) : Nm.cuts sep (c :: r) = if c = 92 then (match r with
   | []=>[[c]]
   | d :: r'=>Nm.cons1 [c, d] (Nm.cuts sep r'))
  else if c = sep then [] :: Nm.cuts sep r else Nm.cons1 [c] (Nm.cuts sep r):=by
 rw [Nm.cuts.eq_def]
 rfl
theorem cons1_ne (x : List UInt8) (z : List (List UInt8)) : Nm.cons1 x z ≠ []:=by cases z <;> simp [Nm.cons1]
theorem cuts_ne (sep : UInt8) (l : List UInt8) : Nm.cuts sep l ≠ []:=by
 cases l with
 | nil=>simp [Nm.cuts]
 | cons c r =>
  rw [cuts_cons]
  split
  ·cases r with
   | nil=>simp
   | cons d q=>exact cons1_ne _ _
  ·split
   ·simp
   ·exact cons1_ne _ _
theorem cons1_nil {z : List (List UInt8)} (h : z ≠ []) : Nm.cons1 [] z = z:=by
 cases z with
 | nil=>exact absurd rfl h
 | cons a r=>rfl
def seg (l : List UInt8) (f k : Nat) : List UInt8:=(l.drop f).take (k - f)
theorem seg_end (l : List UInt8) (f k : Nat) (h : l.length ≤ k) : seg l f k = l.drop f:=by
 unfold seg
 exact List.take_of_length_le (by rw [List.length_drop]; omega)
theorem seg_self (l : List UInt8) (f : Nat) : seg l f f = []:=by unfold seg; simp
theorem seg_one (l : List UInt8) (f k : Nat) (h : k < l.length) (hf : f ≤ k) : seg l f (k + 1) = seg l f k ++ [l[k]]:=by
 unfold seg
 rw [show k + 1 - f = (k - f) + 1 by omega, List.take_succ_eq_append_getElem (by rw [List.length_drop]; omega)]
 congr 2
 rw [List.getElem_drop]
 simp only [show f + (k - f) = k by omega]
theorem cuts_esc (sep : UInt8) (l : List UInt8) (f k : Nat) (h : k < l.length) (hf : f ≤ k) (hc : l[k] = 92) : Nm.cons1 (seg l f k) (Nm.cuts sep (l.drop k)) = Nm.cons1 (seg l f (k + 2)) (Nm.cuts sep (l.drop (k + 2))):=by
 rw [List.drop_eq_getElem_cons h, cuts_cons, if_pos hc]
 cases h2 : l.drop (k + 1) with
 | nil =>
  have hl : l.length ≤ k + 1:=by rw [List.drop_eq_nil_iff] at h2; omega
  have : l.drop (k + 2) = []:=by rw [List.drop_eq_nil_iff]; omega
  rw [this, seg_end l f (k + 2) (by omega), ← seg_end l f (k + 1) hl, seg_one l f k h hf]
  simp [Nm.cuts, Nm.cons1]
 | cons d r =>
  have hl : k + 1 < l.length:=by
   rcases Nat.lt_or_ge (k + 1) l.length with h9 | h9
   ·exact h9
   ·rw [List.drop_eq_nil_of_le h9] at h2; cases h2
  have e1 : l.drop (k + 2) = r:=by
   rw [show k + 2 = (k + 1) + 1 by omega, ← List.drop_drop, h2]; rfl
  have e2 : l[k + 1] = d:=by
   rw [List.drop_eq_getElem_cons hl] at h2
   injection h2
  rw [e1, cons1_cons1, show k + 2 = (k + 1) + 1 by omega, seg_one l f (k + 1) hl (by omega), seg_one l f k h hf, e2]
  simp
theorem cuts_here (sep : UInt8) (l : List UInt8) (f k : Nat) (h : k < l.length) (hc : l[k] ≠ 92) (hs : l[k] = sep) : Nm.cons1 (seg l f k) (Nm.cuts sep (l.drop k)) = seg l f k :: Nm.cons1 (seg l (k + 1) (k + 1)) (Nm.cuts sep (l.drop (k + 1))):=by
 rw [List.drop_eq_getElem_cons h, cuts_cons, if_neg hc, if_pos hs, seg_self, cons1_nil (cuts_ne _ _)]
 simp [Nm.cons1]
theorem cuts_on (sep : UInt8) (l : List UInt8) (f k : Nat) (h : k < l.length) (hf : f ≤ k) (hc : l[k] ≠ 92) (hs : l[k] ≠ sep) : Nm.cons1 (seg l f k) (Nm.cuts sep (l.drop k)) = Nm.cons1 (seg l f (k + 1)) (Nm.cuts sep (l.drop (k + 1))):=by
 rw [List.drop_eq_getElem_cons h, cuts_cons, if_neg hc, if_neg hs, cons1_cons1, seg_one l f k h hf]
theorem cuts_end (sep : UInt8) (l : List UInt8) (f k : Nat) (h : l.length ≤ k) : Nm.cons1 (seg l f k) (Nm.cuts sep (l.drop k)) = [l.drop f]:=by
 rw [List.drop_eq_nil_of_le h, seg_end l f k h]
 simp [Nm.cuts, Nm.cons1]
theorem ext_seg (s : ByteArray) (f k : Nat) : s.extract f k = Nm.mk (seg (Nm.bs s) f k):=by
 apply ByteArray.ext
 apply Array.toList_inj.1
 rw [Lib.extract_data]
 show _ = seg s.data.toList f k
 rfl
set_option maxHeartbeats 1000000 in
theorem rcut_any (s : ByteArray) (sep : UInt8) (w : World) (hs : s.size ≤ 1000000000) (hsep : sep ≠ 92) :
  Calls Tryz.prog 130 #[.string s, .int .u8 sep.toNat] w fun e w'=>∃ v, e = .returned v ∧ OwnS w' w.heap.size v ((Nm.cuts sep (Nm.bs s)).map Nm.mk) ∧ Below w.heap.size w w':=by
 have H0 : Hid (Nm.cuts sep (Nm.bs s) = Nm.cons1 (seg (Nm.bs s) 0 0) (Nm.cuts sep ((Nm.bs s).drop 0))):=by
  show _ = _
  rw [seg_self, List.drop_zero, cons1_nil (cuts_ne _ _)]
 go_enter Tryz.func130, Tryz.ntmps130
 go_wp2_with fail
 go_loopw [5, 6, 7] (fun o f i wr=>∃ (k q : Nat) (ps : List ByteArray), k ≤ s.size + 1 ∧ q ≤ k ∧ q ≤ s.size ∧ i = .int .i64 k ∧ f = .int .i64 q ∧ OwnS wr w.heap.size o ps ∧ Hid ((Nm.cuts sep (Nm.bs s)).map Nm.mk = ps ++ (Nm.cons1 (seg (Nm.bs s) q k) (Nm.cuts sep ((Nm.bs s).drop k))).map Nm.mk) ∧ ps.length ≤ k ∧ Below w.heap.size w wr) (fun o f i wr=>s.size + 1 - (intOf i).toNat)
 case atStart=>exact ⟨0, 0, [], Nat.zero_le _, Nat.le_refl _, Nat.zero_le _, rfl, rfl, OwnS.nil _ _, by show _ = _; rw [H0.out]; rfl, Nat.le_refl _, Below.refl _ _⟩
 case round =>
  obtain ⟨k, q, ps, hk, hqk, hqs, rfl, rfl, hO, hE, hps, hb⟩:=hrel
  have hsz:=hb.size
  by_cases hlt : k < s.size
  ·have hE2:=hE.out
   obtain ⟨c, hc⟩ : ∃ c, c = s[k]:=⟨_, rfl⟩
   have hcr : ∀ h, s[k]'h = c:=fun _=>hc.symm
   have hcl : (Nm.bs s)[k]'hlt = c:=hc.symm
   have h256:=u8_lt c
   clear hc
   by_cases h92 : c = 92
   ·rw [cuts_esc sep (Nm.bs s) q k hlt hqk (by rw [hcl, h92])] at hE2
    have HE:=Lib.hid hE2
    have hn : (c.toNat : Int) = 92:=by rw [h92]; rfl
    clear hE hE2 h92 hcl
    go_wp2_with fail
    refine ⟨⟨k + 2, q, ps, by omega, by omega, hqs, by go_num, rfl, hO, HE.out, by omega, hb⟩, by simp [intOf]; omega⟩
   have hn : ((c.toNat : Int) == 92) = false:=by
    have:=u8_eq c 92
    rw [decide_eq_false h92] at this
    exact this
   by_cases hsp : c = sep
   ·rw [cuts_here sep (Nm.bs s) q k hlt (by rw [hcl]; exact h92) (by rw [hcl]; exact hsp), List.map_cons, ← ext_seg] at hE2
    have HE:=Lib.hid hE2
    have hn2 : ((c.toNat : Int) == sep.toNat) = true:=by rw [u8_eq, decide_eq_true hsp]
    have hqk' : (q : Int) ≤ k:=by omega
    have hlt' : (k : Int) ≤ s.size:=by omega
    obtain ⟨t, ht⟩ : ∃ t, t = s.extract q k:=⟨_, rfl⟩
    have hX : s.extract q k = t:=ht.symm
    have HX:=Lib.hid ht
    rw [← ht] at HE
    have B1:=Blk.new wr 9 #[.string t]
    clear hE hE2 hcl h92 hsp ht
    go_wp2_with (at_builtin; go_loud (refine wpList_pushW rfl _ _ rfl w.heap.size u5 ps rfl (hO.alloc _) wr.heap.size t rfl B1 (by omega) (by simp; omega) ?_))
    intro v2 w2 hO2 hb2
    obtain ⟨A2, n2, c2, rfl⟩:=hO2.form3
    have HO2:=Lib.hid hO2
    have hb3:=(hb.alloc hsz (.cells #[.string t] 9)).trans hb2
    clear hO hO2 hb2 hX B1
    go_wp2_with fail
    go_roundw
    case rel =>
     refine ⟨k + 1, k + 1, _, by omega, by omega, by omega, by go_num, by go_num, HO2.out, ?_, by rw [List.length_append, List.length_singleton]; omega, hb3⟩
     show _ = _
     rw [HE.out, List.append_assoc]
     rfl
    case measure=>simp [intOf]; omega
   ·rw [cuts_on sep (Nm.bs s) q k hlt hqk (by rw [hcl]; exact h92) (by rw [hcl]; exact hsp)] at hE2
    have HE:=Lib.hid hE2
    have hn2 : ((c.toNat : Int) == sep.toNat) = false:=by rw [u8_eq, decide_eq_false hsp]
    clear hE hE2 hcl h92 hsp
    go_wp2_with fail
    refine ⟨⟨k + 1, q, ps, by omega, by omega, hqs, by go_num, rfl, hO, HE.out, by omega, hb⟩, by simp [intOf]; omega⟩
  ·have hE2:=hE.out
   rw [cuts_end sep (Nm.bs s) q k (by rw [size_eq]; omega)] at hE2
   obtain ⟨t, ht⟩ : ∃ t, t = s.extract q s.size:=⟨_, rfl⟩
   have hX : s.extract q s.size = t:=ht.symm
   have hE3 : List.map Nm.mk (Nm.cuts sep (Nm.bs s)) = ps ++ [t]:=by
    rw [hE2, ht, ext_seg, seg_end _ _ _ (by rw [size_eq]; exact Nat.le_refl _)]; rfl
   have HE:=Lib.hid hE3
   have B1:=Blk.new wr 9 #[.string t]
   clear hE hE2 ht hE3
   go_wp2_with (at_builtin; go_loud (refine wpList_pushW rfl _ _ rfl w.heap.size u5 ps rfl (hO.alloc _) wr.heap.size t rfl B1 (by omega) (by simp; omega) ?_))
   intro v2 w2 hO2 hb2
   obtain ⟨A2, n2, c2, rfl⟩:=hO2.form3
   have HO2:=Lib.hid hO2
   have hb3:=(hb.alloc hsz (.cells #[.string t] 9)).trans hb2
   clear hO hO2 hb2 hX B1
   go_wp2_with fail
   go_ret
   exact ⟨_, rfl, by rw [HE.out]; exact HO2.out, hb3⟩
end Go.Proofs.YtbdpkfgllnbheaaGreatDoor
namespace Go.Proofs.YtbdpkfgllnbheaaGreatDoor
open Go.RowKit
theorem bs_inj {a b : ByteArray} : a = b ↔ Nm.bs a = Nm.bs b:=by
 constructor
 ·intro h; rw [h]
 ·intro h
  refine ByteArray.ext ?_
  exact Array.toList_inj.1 h
theorem eq_zero_s (s : ByteArray) : decide (s = (⟨#[48]⟩ : ByteArray)) = decide (Nm.bs s = [48]):=by
 rw [Bool.eq_iff_iff, decide_eq_true_eq, decide_eq_true_eq, bs_inj]
set_option maxHeartbeats 400000 in
theorem within_any (s : ByteArray) (lo hi : Nat) (w : World) (h1 : lo < 256) (h2 : hi < 256) (hs : s.size ≤ 1000000000) :
  Calls Tryz.prog 127 #[.string s, .int .u8 lo, .int .u8 hi] w fun e w'=>e = .returned (.bool ((Nm.bs s).all fun c=>decide (lo ≤ c.toNat ∧ c.toNat ≤ hi))) ∧ w = w':=by
 obtain ⟨F, hF⟩ : ∃ F, F = (fun c : UInt8=>decide (lo ≤ c.toNat ∧ c.toNat ≤ hi)):=⟨_, rfl⟩
 rw [← hF]
 have HF : Hid (∀ c, F c = decide (lo ≤ c.toNat ∧ c.toNat ≤ hi)):=fun c=>by rw [hF]
 clear hF
 obtain ⟨R, hR⟩ : ∃ R, R = (Nm.bs s).all F:=⟨_, rfl⟩
 rw [← hR]
 have H0 : Hid (R = ((Nm.bs s).drop 0).all F):=hR
 clear hR
 go_enter Tryz.func127, Tryz.ntmps127
 go_wp2_with fail
 go_loopw [10] (fun i wr=>∃ k : Nat, k ≤ s.size ∧ i = .int .i64 k ∧ Hid (R = ((Nm.bs s).drop k).all F) ∧ w = wr) (fun i wr=>s.size - (intOf i).toNat)
 case atStart=>exact ⟨0, Nat.zero_le _, rfl, H0, rfl⟩
 case round =>
  obtain ⟨k, hk, rfl, hE, rfl⟩:=hrel
  by_cases hlt : k < s.size
  ·have hD:=hE.out
   rw [drop_at hlt, List.all_cons] at hD
   obtain ⟨c, hc⟩ : ∃ c, c = s[k]:=⟨_, rfl⟩
   have hcr : ∀ h, s[k]'h = c:=fun _=>hc.symm
   rw [← hc] at hD
   have HD:=Lib.hid hD
   have h256:=u8_lt c
   clear hE hD H0 hc
   have hcase : (c.toNat : Int) < lo ∨ (lo : Int) ≤ c.toNat ∧ (hi : Int) < c.toNat ∨ (lo : Int) ≤ c.toNat ∧ (c.toNat : Int) ≤ hi:=by omega
   rcases hcase with h3 | ⟨h3, h4⟩ | ⟨h3, h4⟩
   ·have HR:=Lib.hid (show R = false by rw [HD.out, HF.out, decide_eq_false (by omega)]; rfl)
    clear HD HF
    go_wp2_with fail
    go_ret
    exact ⟨ret_bool HR.out.symm, rfl⟩
   ·have HR:=Lib.hid (show R = false by rw [HD.out, HF.out, decide_eq_false (by omega)]; rfl)
    clear HD HF
    go_wp2_with fail
    go_ret
    exact ⟨ret_bool HR.out.symm, rfl⟩
   ·have HR:=Lib.hid (show R = ((Nm.bs s).drop (k + 1)).all F by rw [HD.out, HF.out, decide_eq_true (by omega)]; rfl)
    clear HD
    go_wp2_with fail
    refine ⟨⟨k + 1, by omega, by go_num, HR, trivial⟩, by simp [intOf]; omega⟩
  ·have hk2 : k = s.size:=by omega
   have HR:=Lib.hid (show R = true by rw [hE.out, hk2, ← size_eq, List.drop_length]; rfl)
   clear hE
   go_wp2_with fail
   go_ret
   exact ⟨ret_bool HR.out.symm, rfl⟩
theorem within_dig (s : ByteArray) (w : World) (hs : s.size ≤ 1000000000) :
  Calls Tryz.prog 127 #[.string s, .int .u8 48, .int .u8 57] w fun e w'=>e = .returned (.bool ((Nm.bs s).all Sc.digC)) ∧ w = w':=by
 refine (within_any s 48 57 w (by decide) (by decide) hs).mono fun e w' h=>?_
 exact h
theorem within_pr (s : ByteArray) (w : World) (hs : s.size ≤ 1000000000) :
  Calls Tryz.prog 127 #[.string s, .int .u8 32, .int .u8 126] w fun e w'=>e = .returned (.bool ((Nm.bs s).all Sc.prC)) ∧ w = w':=by
 refine (within_any s 32 126 w (by decide) (by decide) hs).mono fun e w' h=>?_
 exact h
theorem trim_any (s : ByteArray) (w : World) :
  Calls Tryz.prog 153 #[.string s, .string ⟨#[45]⟩] w fun e w'=>e = .returned (.string (Nm.mk (Sc.unsign (Nm.bs s)))) ∧ w = w' :=
 (Tryz.strings_TrimPrefix s ⟨#[45]⟩ w).mono fun e w' h=>by
  obtain ⟨h1, h2⟩:=h
  rw [show (⟨#[45]⟩ : ByteArray).data.toList = [45] from rfl, show s.data.toList = Nm.bs s from rfl, Sc.trim_sign] at h1
  exact ⟨h1, h2.symm⟩
set_option maxHeartbeats 400000 in
theorem isInt_any (s : ByteArray) (w : World) :
  Calls Tryz.prog 128 #[.string s] w fun e w'=>e = .returned (.bool (Sc.isInt (Nm.bs s))) ∧ w = w':=by
 have CT:=Lib.hid (trim_any s)
 have CW:=Lib.hid within_dig
 obtain ⟨R, hR⟩ : ∃ R, R = Sc.isInt (Nm.bs s):=⟨_, rfl⟩
 rw [← hR]
 obtain ⟨D, hD⟩ : ∃ D, D = Nm.mk (Sc.unsign (Nm.bs s)):=⟨_, rfl⟩
 rw [← hD] at CT
 have hD2 : Nm.bs D = Sc.unsign (Nm.bs s):=by rw [hD]
 have hR2 : R = Sc.int0 (Nm.bs s) (Nm.bs D):=by rw [hR, hD2]; rfl
 have hz:=eq_zero_s s
 have HR:=Lib.hid hR2
 have HZ:=Lib.hid hz
 clear hR hD hD2 hR2 hz
 go_enter Tryz.func128, Tryz.ntmps128
 go_wp2_with fail
 refine (CT.out _).mono ?_
 rintro r w1 ⟨rfl, rfl⟩
 by_cases h0 : D.size = 0
 ·have h1:=nil_of D h0
  have HF:=Lib.hid (show R = false by rw [HR.out, show Nm.bs D = [] from nilD_of D h0]; rfl)
  clear h0 HR
  go_wp2_with fail
  go_ret
  exact ⟨ret_bool HF.out.symm, rfl⟩
 have h1:=isE_of D (by omega)
 have hd:=drop_at (s:=D) (k:=0) (by omega)
 rw [List.drop_zero] at hd
 have hl : (D.data.toList.drop 1).length = D.size - 1:=by rw [List.length_drop, size_eq]
 obtain ⟨c, hc⟩ : ∃ c, c = D[0]:=⟨_, rfl⟩
 have hcr : ∀ h, D[0]'h = c:=fun _=>hc.symm
 rw [← hc] at hd
 have HR2:=Lib.hid (show R = (decide ((D.data.toList.drop 1).length < 15) && if c.toNat = 48 then decide (Nm.bs s = [48]) else (Nm.bs D).all Sc.digC) by
  rw [HR.out, show Nm.bs D = c :: D.data.toList.drop 1 from hd]; rfl)
 clear hc HR hd
 by_cases h2 : 15 < (D.size : Int)
 ·have HF:=Lib.hid (show R = false by rw [HR2.out, hl, decide_eq_false (by omega)]; rfl)
  clear hl HR2
  go_wp2_with fail
  go_ret
  exact ⟨ret_bool HF.out.symm, rfl⟩
 have h2' : (D.size : Int) ≤ 15:=by omega
 have HR3:=Lib.hid (show R = if c.toNat = 48 then decide (Nm.bs s = [48]) else (Nm.bs D).all Sc.digC by
  rw [HR2.out, hl, decide_eq_true (by omega)]; rfl)
 have h3 : 0 < (D.size : Int):=by omega
 clear h2 hl HR2
 by_cases h4 : (c.toNat : Int) = 48
 ·have h5 : ((c.toNat : Int) == 48) = true:=by simpa using h4
  have HF:=Lib.hid (show R = decide (Nm.bs s = [48]) by rw [HR3.out, if_pos (by omega)])
  clear HR3 h4
  go_wp2_with fail
  go_ret
  exact ⟨ret_bool (by rw [HF.out, ← HZ.out, ← toList_inj', ByteArray.toList_eq ⟨#[48]⟩]), rfl⟩
 ·have h5 : ((c.toNat : Int) == 48) = false:=by simpa using h4
  have HF:=Lib.hid (show R = (Nm.bs D).all Sc.digC by rw [HR3.out, if_neg (by omega)])
  have CD:=fun w=>CW.out D w (by omega)
  obtain ⟨Q, hQ⟩ : ∃ Q, Q = (Nm.bs D).all Sc.digC:=⟨_, rfl⟩
  rw [← hQ] at CD
  have HF:=Lib.hid (show R = Q by rw [HF.out, hQ])
  have HD:=Lib.hid CD
  clear HR3 h4 hQ CD CW
  go_wp2_with fail
  refine (HD.out _).mono ?_
  rintro r w1 ⟨rfl, rfl⟩
  go_wp2_with fail
  go_ret
  exact ⟨ret_bool HF.out.symm, rfl⟩
end Go.Proofs.YtbdpkfgllnbheaaGreatDoor
