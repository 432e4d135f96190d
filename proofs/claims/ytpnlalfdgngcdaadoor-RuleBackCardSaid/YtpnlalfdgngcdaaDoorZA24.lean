import Derived.Test.YtpnlalfdgngcdaaDoorZA23
set_option linter.unusedVariables false
set_option maxRecDepth 100000
namespace Go.Proofs.YtpnlalfdgngcdaaDoor
open Go.RowKit
theorem escV_step (f : Bool) (s : ByteArray) (k : Nat) (h : k < s.size) : Nm.escV f ((Nm.bs s).drop k) = Nm.escB f ((k : Int) == s.size - 1) s[k] ++ Nm.escV false ((Nm.bs s).drop (k + 1)):=by
 have h1:=drop_at h
 have h2 : ((Nm.bs s).drop (k + 1)).isEmpty = ((k : Int) == s.size - 1):=by
  rw [Bool.eq_iff_iff, List.isEmpty_iff, List.drop_eq_nil_iff, beq_iff_eq, size_eq]
  omega
 show Nm.escV f (s.data.toList.drop k) = _
 rw [h1, Nm.escV, ← h2]
set_option maxHeartbeats 1000000 in
theorem appV_any (base : Nat) (v : Value) (l : List UInt8) (s : ByteArray) (w : World) (h : Own w base v l) (hl : l.length ≤ 100000000) (hs : s.size ≤ 100000000) (hb : base ≤ w.heap.size) :
  Calls Tryd.prog 69 #[v, .string s] w fun e w'=>∃ v', e = .returned v' ∧ Own w' base v' (l ++ Nm.escV true (Nm.bs s)) ∧ Below base w w':=by
 have C:=Lib.hid appB_any
 go_enter Tryd.func69, Tryd.ntmps69
 go_wp2_with fail
 go_loopw [0, 8] (fun b i wr=>∃ (k : Nat) (l1 : List UInt8), k ≤ s.size ∧ i = .int .i64 k ∧ Own wr base b l1 ∧ Hid (l ++ Nm.escV true (Nm.bs s) = l1 ++ Nm.escV ((k : Int) == 0) ((Nm.bs s).drop k)) ∧ l1.length ≤ 100000000 + 3 * k ∧ Below base w wr) (fun b i wr=>s.size - (intOf i).toNat)
 case atStart=>exact ⟨0, l, Nat.zero_le _, rfl, h, rfl, by omega, Below.refl _ _⟩
 case round =>
  obtain ⟨k, l1, hk, rfl, hO, hE, hl1, hb1⟩:=hrel
  have hs1:=hb1.size
  by_cases hlt : k < s.size
  ·have hE2:=hE.out
   rw [escV_step _ s k hlt, ← List.append_assoc] at hE2
   have HE:=Lib.hid hE2
   have hlen:=escB_len ((k : Int) == 0) ((k : Int) == s.size - 1) s[k]
   have HO:=Lib.hid hO
   clear hE hE2 hO
   go_wp2_with fail
   refine (C.out base _ l1 s[k] _ _ _ HO.out (by omega) (by omega)).mono ?_
   rintro r w2 ⟨v2, rfl, hO2, hb2⟩
   obtain ⟨A2, n2, c2, rfl⟩:=hO2.form3
   have HO2:=Lib.hid hO2
   clear hO2
   go_wp2_with fail
   go_roundw
   case rel =>
    refine ⟨k + 1, _, by omega, by go_num, HO2.out, ?_, by rw [List.length_append]; omega, hb1.trans hb2⟩
    show _ = _
    rw [HE.out]
    have e1 : (((k + 1 : Nat) : Int) == 0) = false:=by rw [beq_eq_false_iff_ne]; omega
    rw [e1]
   case measure=>simp [intOf]; omega
  ·have hk2 : k = s.size:=by omega
   have hE2:=hE.out
   rw [hk2, ← size_eq, List.drop_length, Nm.escV, List.append_nil] at hE2
   have HE:=Lib.hid hE2
   clear hE hE2 hk2
   go_wp2_with fail
   go_ret
   exact ⟨_, rfl, by rw [HE.out]; exact hO, hb1⟩
end Go.Proofs.YtpnlalfdgngcdaaDoor
namespace Go.Proofs.YtpnlalfdgngcdaaDoor
open Go.RowKit
def prRdnV (r : List Nm.Ava) : List UInt8:=if Nm.isRdn r then Nm.prRdn r else []
set_option maxHeartbeats 1000000 in
theorem prRdn_any (r : List Nm.Ava) (A : Option Addr) (c : Nat) (w : World) (hr : RAt w (· < w.heap.size) A r) (hl : r.length ≤ maxLen) (hcap : r.length ≤ c) :
  Calls Tryd.prog 54 #[.slice A r.length c] w fun e w'=>e = .returned (.string (Nm.mk (prRdnV r))) ∧ Below w.heap.size w w':=by
 have CI:=isRdn_any r A c w hr hl hcap
 unfold maxLen at hl
 by_cases h0 : Nm.isRdn r = false
 ·have hF:=Lib.hid (show prRdnV r = [] by unfold prRdnV; rw [h0]; rfl)
  rw [h0] at CI
  have HC:=Lib.hid CI
  clear CI
  go_enter Tryd.func54, Tryd.ntmps54
  go_wp2_with fail
  refine HC.out.mono ?_
  rintro e w1 ⟨rfl, hb1⟩
  go_wp2_with fail
  go_ret
  exact ⟨by rw [hF.out]; rfl, hb1⟩
 have h1 : Nm.isRdn r = true:=by simpa using h0
 obtain ⟨l1, l4, hok⟩:=Nm.isRdn_all h1
 have hF:=Lib.hid (show prRdnV r = Nm.prRdn r by unfold prRdnV; rw [h1]; rfl)
 rw [h1] at CI
 have HC:=Lib.hid CI
 have HOK:=Lib.hid hok
 have CV:=Lib.hid appV_any
 clear CI h0 h1 hok
 go_enter Tryd.func54, Tryd.ntmps54
 go_wp2_with fail
 refine HC.out.mono ?_
 rintro e w1 ⟨rfl, hb1⟩
 have hr1:=hr.past hb1
 clear hr
 go_wp2_with fail
 go_loopw [3, 11] (fun b i wr=>∃ k : Nat, k ≤ r.length ∧ i = .int .i64 k ∧ Own wr w1.heap.size b (Nm.prRdn (r.take k)) ∧ Below w1.heap.size w1 wr) (fun b i wr=>r.length - (intOf i).toNat)
 case atStart=>exact ⟨0, Nat.zero_le _, rfl, Own.nil _ _, Below.refl _ _⟩
 case round =>
  obtain ⟨k, hk, rfl, hO, hb2⟩:=hrel
  have hs:=hb2.size
  by_cases hlt : k < r.length
  ·obtain ⟨ad, rfl, hp, f0, f1⟩:=hr1.kid hb2 hlt
   have hle:=Nm.prRdn_take_le HOK.out k hk
   have hok:=HOK.out r[k] (List.getElem_mem hlt)
   have hle2:=Nm.okAva_le hok
   have hst:=Nm.prRdn_step hlt
   obtain ⟨x, hx⟩ : ∃ x, x = r[k].1:=⟨_, rfl⟩
   obtain ⟨y, hy⟩ : ∃ y, y = r[k].2:=⟨_, rfl⟩
   have hpa : Nm.prAva r[k] = Nm.bs x ++ 61 :: Nm.escV true (Nm.bs y):=by rw [hx, hy]; rfl
   rw [hpa] at hst
   rw [← hx, ← hy] at hle2
   rw [← hx] at f0
   rw [← hy] at f1
   obtain ⟨hx16, _, _, hy60⟩:=hle2
   have HST:=Lib.hid hst
   obtain ⟨L, hL⟩ : ∃ L, L = Nm.prRdn (r.take k):=⟨_, rfl⟩
   rw [← hL] at hle hO HST
   have bx:=Blk.new wr 83 #[.string x, .string y]
   have hO2:=hO.alloc (.cells #[.string x, .string y] 83)
   have hbw:=hb2.alloc hs (.cells #[.string x, .string y] 83)
   clear hst hpa hx hy hok hL
   have B43 : Hid (∀ w : World, Blk (w.alloc (.cells #[.int .u8 43] 5)) w.heap.size 5 (Lib.byteCells [43]).toArray):=fun w=>Blk.new w _ _
   have B61 : Hid (∀ w : World, Blk (w.alloc (.cells #[.int .u8 61] 5)) w.heap.size 5 (Lib.byteCells [61]).toArray):=fun w=>Blk.new w _ _
   have HB2:=Lib.hid hbw
   clear hbw hb2
   have h0k : (¬ 0 < k ∧ Hid ((if k = 0 then [] else L ++ [43]) = L)) ∨ (0 < k ∧ Hid ((if k = 0 then [] else L ++ [43]) = L ++ [43])):=by
    by_cases h : k = 0
    ·refine Or.inl ⟨by omega, ?_⟩
     show _ = _
     have : L.length = 0:=by omega
     rw [if_pos h, List.eq_nil_of_length_eq_zero this]
    ·exact Or.inr ⟨by omega, by show _ = _; rw [if_neg h]⟩
   rcases h0k with ⟨hk0, hif⟩ | ⟨hk0, hif⟩
   focus
    have q0 : (wr.alloc (.cells #[.string x, .string y] 83)).cell? ⟨wr.heap.size, 0, none⟩ = some (.string x):=bx.cell 0
    rw [hif.out] at HST
    go_wp2_with (at_builtin; go_loud (refine wpList_pushS rfl _ _ rfl w1.heap.size u3 L rfl hO2 x rfl (by omega) (by simp; omega) ?_))
    intro v2 w2 hO3 hb3 hg3
    have bx3:=bx.grown hg3 (hO2.ne bx (by decide))
    have hb4:=HB2.out.trans hb3
    obtain ⟨M, hM⟩ : ∃ M, M = L:=⟨_, rfl⟩
    rw [← hM] at HST hO3 hle
    clear hM
    have hle : M.length ≤ 198 * k + 1:=by omega
   rotate_left
   focus
    have hbP0:=HB2.out.alloc (by simp; omega) (.cells #[.int .u8 43] 5)
    have B43:=B43.out (wr.alloc (.cells #[.string x, .string y] 83))
    rw [show (wr.alloc (.cells #[.string x, .string y] 83)).heap.size = wr.heap.size + 1 by simp] at B43
    rw [hif.out] at HST
    go_wp2_with (at_builtin; go_loud (refine wpList_push rfl _ _ rfl w1.heap.size u3 L rfl (hO2.alloc _) (wr.heap.size + 1) 1 1 [43] rfl rfl B43 (by simp; omega) (by simp; omega) ?_))
    intro vP wP hOP hbP hgP
    have bxP:=(bx.alloc (.cells #[.int .u8 43] 5)).grown hgP ((hO2.alloc (.cells #[.int .u8 43] 5)).ne (bx.alloc (.cells #[.int .u8 43] 5)) (by decide))
    have q0 : wP.cell? ⟨wr.heap.size, 0, none⟩ = some (.string x):=bxP.cell 0
    have hbP1:=hbP0.trans hbP
    have hsP:=hbP1.size
    obtain ⟨M, hM⟩ : ∃ M, M = L ++ [43]:=⟨_, rfl⟩
    have hle2 : M.length ≤ 198 * k + 1:=by rw [hM, List.length_append, List.length_singleton]; omega
    rw [← hM] at HST hOP
    clear hM hle hbP0 hbP B43
    go_wp2_with (at_builtin; go_loud (refine wpList_pushS rfl _ _ rfl w1.heap.size vP M rfl hOP x rfl (by omega) (by omega) ?_))
    intro v2 w2 hO3 hb3 hg3
    have bx3:=bxP.grown hg3 (hOP.ne bxP (by decide))
    have hb4:=hbP1.trans hb3
    have hle : M.length ≤ 198 * k + 1:=hle2
   rotate_left
   all_goals
    have hs4:=hb4.size
    have B61:=B61.out w2
    have hl4 : (M ++ Nm.bs x).length ≤ 198 * k + 17:=by rw [List.length_append, size_eq]; omega
    clear hO hO2 bx HB2 q0
    go_wp2_with (at_builtin; go_loud (refine wpList_push rfl _ _ rfl w1.heap.size v2 (M ++ Nm.bs x) rfl (hO3.alloc _) w2.heap.size 1 1 [61] rfl rfl B61 (by simp only [List.length_singleton]; omega) (by simp; omega) ?_))
    intro v5 w5 hO5 hb5 hg5
    have bx5:=(bx3.alloc (.cells #[.int .u8 61] 5)).grown hg5 ((hO3.alloc (.cells #[.int .u8 61] 5)).ne (bx3.alloc (.cells #[.int .u8 61] 5)) (by decide))
    have q1 : w5.cell? ⟨wr.heap.size, 1, none⟩ = some (.string y):=bx5.cell 1
    have hb6:=(hb4.alloc hs4 _).trans hb5
    have hs6:=hb6.size
    clear hO3 hb3 hg3 bx3 hb4 B61 hb5 hg5
    go_wp2_with fail
    refine (CV.out w1.heap.size v5 _ y w5 hO5 (by simp only [List.length_append, List.length_singleton] at hl4 ⊢; omega) (by omega) (by omega)).mono ?_
    rintro e w7 ⟨v7, rfl, hO7, hb7⟩
    have hb8:=hb6.trans hb7
    obtain ⟨A7, n7, c7, rfl⟩:=hO7.form3
    have HO7:=Lib.hid hO7
    clear hO7 hO5 hb7 hb6 bx5 q1
    go_wp2_with fail
    go_roundw
    case rel =>
     refine ⟨k + 1, by omega, by go_num, ?_, hb8⟩
     rw [HST.out]
     have:=HO7.out
     simp only [List.append_assoc, List.singleton_append] at this
     exact this
    case measure=>simp [intOf]; omega
  ·have hk2 : k = r.length:=by omega
   rw [hk2, List.take_length] at hO
   have E:=hO.string
   clear hk2
   go_wp2_with fail
   go_ret
   exact ⟨by rw [hF.out]; rfl, hb1.trans (hb2.mono hb1.size)⟩
theorem prRdnV_of {r : List Nm.Ava} (h : Nm.isRdn r = true) : prRdnV r = Nm.prRdn r:=by unfold prRdnV; rw [h]; rfl
end Go.Proofs.YtpnlalfdgngcdaaDoor
