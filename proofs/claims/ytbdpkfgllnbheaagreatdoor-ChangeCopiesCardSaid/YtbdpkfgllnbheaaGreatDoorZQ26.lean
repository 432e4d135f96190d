import Derived.Deep.RegionWith
import Derived.Test.YtbdpkfgllnbheaaGreatDoorZQ21
set_option linter.unusedVariables false
set_option maxRecDepth 100000
namespace Go.Proofs.YtbdpkfgllnbheaaGreatDoor
open Go.RowKit
theorem hexi_all : (List.range 256).all (fun n=>decide ((⟨#[48, 49, 50, 51, 52, 53, 54, 55, 56, 57, 97, 98, 99, 100, 101, 102]⟩ : ByteArray).data.toList[n / 16]? = some (Nm.hexc (n / 16)) ∧ (⟨#[48, 49, 50, 51, 52, 53, 54, 55, 56, 57, 97, 98, 99, 100, 101, 102]⟩ : ByteArray).data.toList[n % 16]? = some (Nm.hexc (n % 16)))) = true:=by kernel_rfl
theorem and15 (c : UInt8) : bits .and .u8 (c.toNat : Int) 15 = (c.toNat : Int) % 16:=by
 have h:=u8_and_nat c.toNat 15 (u8_lt c) (by decide)
 have h2 : c.toNat &&& 15 = c.toNat % 16:=Nat.and_two_pow_sub_one_eq_mod c.toNat 4
 rw [h2] at h
 exact h.trans (by omega)
def hexS : ByteArray:=⟨#[48, 49, 50, 51, 52, 53, 54, 55, 56, 57, 97, 98, 99, 100, 101, 102]⟩
theorem hexS_hi (c : UInt8) : ∀ h, hexS[((c.toNat : Int) / 16).toNat]'h = Nm.hexc (c.toNat / 16):=fun h=>by
 have h1:=(of_decide_eq_true (List.all_eq_true.1 hexi_all c.toNat (by simp [u8_lt c]))).1
 have e : ((c.toNat : Int) / 16).toNat = c.toNat / 16:=by omega
 have h2:=(List.getElem?_eq_some_iff.1 h1).2
 have h3 : hexS[((c.toNat : Int) / 16).toNat]'h = hexS.data.toList[((c.toNat : Int) / 16).toNat]'h:=rfl
 rw [h3]
 simp only [e]
 exact h2
theorem hexS_lo (c : UInt8) : ∀ h, hexS[((c.toNat : Int) % 16).toNat]'h = Nm.hexc (c.toNat % 16):=fun h=>by
 have h1:=(of_decide_eq_true (List.all_eq_true.1 hexi_all c.toNat (by simp [u8_lt c]))).2
 have e : ((c.toNat : Int) % 16).toNat = c.toNat % 16:=by omega
 have h2:=(List.getElem?_eq_some_iff.1 h1).2
 have h3 : hexS[((c.toNat : Int) % 16).toNat]'h = hexS.data.toList[((c.toNat : Int) % 16).toNat]'h:=rfl
 rw [h3]
 simp only [e]
 exact h2
end Go.Proofs.YtbdpkfgllnbheaaGreatDoor
namespace Go.Proofs.YtbdpkfgllnbheaaGreatDoor
open Go.RowKit
theorem escB_odd (f t : Bool) (c : UInt8) (h : c.toNat < 32 ∨ 126 < c.toNat) : Nm.escB f t c = [92, Nm.hexc (c.toNat / 16), Nm.hexc (c.toNat % 16)]:=by unfold Nm.escB; rw [if_pos h]
set_option maxHeartbeats 1000000 in
theorem appB_odd (base : Nat) (v : Value) (l : List UInt8) (c : UInt8) (f t : Bool) (w : World) (h : Own w base v l) (hl : l.length ≤ 1000000000) (hb : base ≤ w.heap.size) (hc : (c.toNat : Int) < 32 ∨ 32 ≤ (c.toNat : Int) ∧ 126 < (c.toNat : Int)) :
  Calls Tryz.prog 119 #[v, .int .u8 c.toNat, .bool f, .bool t] w fun e w'=>∃ v', e = .returned v' ∧ Own w' base v' (l ++ Nm.escB f t c) ∧ Below base w w':=by
 have h256:=u8_lt c
 have hE:=Lib.hid (escB_odd f t c (by omega))
 have g0 : 0 ≤ (c.toNat : Int) / 16:=by omega
 have g1 : (c.toNat : Int) / 16 < 16:=by omega
 have g2 : (c.toNat : Int) % 16 < 16:=by omega
 have g3 : 0 ≤ (c.toNat : Int) % 16:=by omega
 have g4 : bits .and .u8 (c.toNat : Int) 15 = (c.toNat : Int) % 16:=and15 c
 have q1:=hexS_hi c
 have q2:=hexS_lo c
 unfold hexS at q1 q2
 obtain ⟨x, hx⟩ : ∃ x, x = Nm.hexc (c.toNat / 16):=⟨_, rfl⟩
 obtain ⟨y, hy⟩ : ∃ y, y = Nm.hexc (c.toNat % 16):=⟨_, rfl⟩
 rw [← hx] at q1 hE
 rw [← hy] at q2 hE
 clear hx hy
 have H:=Lib.hid h
 have HB:=Lib.hid hb
 have B0:=Lib.hid (Blk.newd w 5 #[.int .u8 92, .int .u8 x.toNat, .int .u8 y.toNat])
 have k1 : Below base w (w.alloc (.cells #[.int .u8 92, .int .u8 x.toNat, .int .u8 y.toNat] 5)).drew:=((Below.refl _ _).alloc hb _).drew
 have K1:=Lib.hid k1
 clear h hb k1
 rcases hc with h1 | ⟨h1, h2⟩
 all_goals
  go_enter Tryz.func119, Tryz.ntmps119
  go_wp2_with fail
  go_region_law (refine step_push rfl (.tmp 15) (.tmp 22) rfl base v l (by simp [Act.eval]) (H.out.alloc _) w.heap.size 3 3 [92, x, y] (by simp [Act.eval]) rfl B0.out (by simp; omega) (by have:=HB.out; show base ≤ (w.alloc _).heap.size; simp; omega) ?_; intro v1 w1 hown hb1 _)
  all_goals
   go_wp2_with fail
   go_ret
   rw [hE.out]
   exact ⟨_, rfl, hown, K1.out.trans hb1⟩
theorem escB_two (f t : Bool) (c : UInt8) (h : 32 ≤ c.toNat) (h2 : c.toNat ≤ 126) (h3 : (Nm.special c || f && decide (c.toNat = 35 ∨ c.toNat = 32) || t && decide (c.toNat = 32)) = true) : Nm.escB f t c = [92, c]:=by
 unfold Nm.escB
 rw [if_neg (by omega), if_pos h3]
theorem escB_one (f t : Bool) (c : UInt8) (h : 32 ≤ c.toNat) (h2 : c.toNat ≤ 126) (h3 : (Nm.special c || f && decide (c.toNat = 35 ∨ c.toNat = 32) || t && decide (c.toNat = 32)) = false) : Nm.escB f t c = [c]:=by
 unfold Nm.escB
 rw [if_neg (by omega), if_neg (by rw [h3]; exact Bool.false_ne_true)]
set_option maxHeartbeats 1000000 in
theorem appB_two (base : Nat) (v : Value) (l : List UInt8) (c : UInt8) (f t : Bool) (w : World) (h : Own w base v l) (hl : l.length ≤ 1000000000) (hb : base ≤ w.heap.size) (h1 : 32 ≤ (c.toNat : Int)) (h2 : (c.toNat : Int) ≤ 126)
  (hc : (c.toNat : Int) = 35 ∧ f = true ∨ (c.toNat : Int) = 32 ∧ f = true ∨ (c.toNat : Int) = 32 ∧ f = false ∧ t = true ∨ (c.toNat : Int) = 44 ∨ (c.toNat : Int) = 43 ∨ (c.toNat : Int) = 34 ∨ (c.toNat : Int) = 92 ∨ (c.toNat : Int) = 60 ∨ (c.toNat : Int) = 62 ∨ (c.toNat : Int) = 59) :
  Calls Tryz.prog 119 #[v, .int .u8 c.toNat, .bool f, .bool t] w fun e w'=>∃ v', e = .returned v' ∧ Own w' base v' (l ++ Nm.escB f t c) ∧ Below base w w':=by
 have hE:=Lib.hid (escB_two f t c (by omega) (by omega) (by
  unfold Nm.special
  rw [Bool.or_eq_true, Bool.or_eq_true, Bool.and_eq_true, Bool.and_eq_true]
  simp only [decide_eq_true_eq]
  rcases hc with ⟨h, rfl⟩ | ⟨h, rfl⟩ | ⟨h, rfl, rfl⟩ | h
  ·exact Or.inl (Or.inr ⟨rfl, by omega⟩)
  ·exact Or.inl (Or.inr ⟨rfl, by omega⟩)
  ·exact Or.inr ⟨rfl, by omega⟩
  ·exact Or.inl (Or.inl (by omega))))
 have H:=Lib.hid h
 have HB:=Lib.hid hb
 have B0 : Hid (∀ w : World, Blk (w.alloc (.cells #[.int .u8 92] 5)) w.heap.size 5 (Lib.byteCells [92]).toArray):=fun w=>Blk.new w _ _
 have B1 : Hid (∀ w : World, Blk (w.alloc (.cells #[.int .u8 (c.toNat : Int)] 5)) w.heap.size 5 (Lib.byteCells [c]).toArray):=fun w=>Blk.new w _ _
 clear h hb
 rcases hc with ⟨h3, rfl⟩ | ⟨h3, rfl⟩ | ⟨h3, rfl, rfl⟩ | h3 | h3 | h3 | h3 | h3 | h3 | h3
 all_goals
  rw [h3] at B1
  go_enter Tryz.func119, Tryz.ntmps119
  go_wp2_with (at_builtin; go_loud (refine wpList_push rfl _ _ rfl base v l rfl (H.out.alloc _) w.heap.size 1 1 [92] rfl rfl (B0.out _) (by simp; omega) (by have:=HB.out; simp; omega) ?_))
  intro v1 w1 hown hb1 _
  have HO:=Lib.hid hown
  have Hs1:=Lib.hid hb1.size
  clear hown
  go_wp2_with (at_builtin; go_loud (refine wpList_push rfl _ _ rfl base v1 (l ++ [92]) rfl (HO.out.alloc _) w1.heap.size 1 1 [c] rfl rfl (B1.out _) (by simp; omega) (by have:=HB.out; have:=Hs1.out; simp at this ⊢; omega) ?_))
  intro v2 w2 hown2 hb2 _
  go_wp2_with fail
  go_ret
  refine ⟨_, rfl, by rw [hE.out]; simpa using hown2, ?_⟩
  exact (((Below.refl base w).alloc HB.out _).trans hb1).trans (((Below.refl base w1).alloc (by have:=HB.out; have:=Hs1.out; simp at this; omega) _).trans hb2)
set_option maxHeartbeats 1000000 in
theorem appB_one (base : Nat) (v : Value) (l : List UInt8) (c : UInt8) (f t : Bool) (w : World) (h : Own w base v l) (hl : l.length ≤ 1000000000) (hb : base ≤ w.heap.size) (h1 : 32 ≤ (c.toNat : Int)) (h2 : (c.toNat : Int) ≤ 126)
  (hc : (c.toNat : Int) = 35 ∧ f = false ∨ (c.toNat : Int) = 32 ∧ f = false ∧ t = false ∨ ((c.toNat : Int) == 35) = false ∧ ((c.toNat : Int) == 32) = false ∧ ((c.toNat : Int) == 44) = false ∧ ((c.toNat : Int) == 43) = false ∧ ((c.toNat : Int) == 34) = false ∧ ((c.toNat : Int) == 92) = false ∧ ((c.toNat : Int) == 60) = false ∧ ((c.toNat : Int) == 62) = false ∧ ((c.toNat : Int) == 59) = false) :
  Calls Tryz.prog 119 #[v, .int .u8 c.toNat, .bool f, .bool t] w fun e w'=>∃ v', e = .returned v' ∧ Own w' base v' (l ++ Nm.escB f t c) ∧ Below base w w':=by
 have hE:=Lib.hid (escB_one f t c (by omega) (by omega) (by
  unfold Nm.special
  rw [Bool.or_eq_false_iff, Bool.or_eq_false_iff, Bool.and_eq_false_iff, Bool.and_eq_false_iff]
  simp only [decide_eq_false_iff_not]
  rcases hc with ⟨h, rfl⟩ | ⟨h, rfl, rfl⟩ | ⟨a1, a2, a3, a4, a5, a6, a7, a8, a9⟩
  ·exact ⟨⟨by omega, Or.inl rfl⟩, Or.inr (by omega)⟩
  ·exact ⟨⟨by omega, Or.inl rfl⟩, Or.inl rfl⟩
  ·simp only [beq_eq_false_iff_ne, ne_eq] at a1 a2 a3 a4 a5 a6 a7 a8 a9
   exact ⟨⟨by omega, Or.inr (by omega)⟩, Or.inr (by omega)⟩))
 have H:=Lib.hid h
 have HB:=Lib.hid hb
 have B1 : Hid (∀ w : World, Blk (w.alloc (.cells #[.int .u8 (c.toNat : Int)] 5)) w.heap.size 5 (Lib.byteCells [c]).toArray):=fun w=>Blk.new w _ _
 clear h hb
 rcases hc with ⟨h3, rfl⟩ | ⟨h3, rfl, rfl⟩ | ⟨a1, a2, a3, a4, a5, a6, a7, a8, a9⟩
 all_goals
  try rw [h3] at B1
  go_enter Tryz.func119, Tryz.ntmps119
  go_wp2_with (at_builtin; go_loud (refine wpList_push rfl _ _ rfl base v l rfl (H.out.alloc _) w.heap.size 1 1 [c] rfl rfl (B1.out _) (by simp; omega) (by have:=HB.out; simp; omega) ?_))
  intro v2 w2 hown2 hb2 _
  go_wp2_with fail
  go_ret
  refine ⟨_, rfl, by rw [hE.out]; exact hown2, ?_⟩
  exact ((Below.refl base w).alloc HB.out _).trans hb2
theorem appB_any (base : Nat) (v : Value) (l : List UInt8) (c : UInt8) (f t : Bool) (w : World) (h : Own w base v l) (hl : l.length ≤ 1000000000) (hb : base ≤ w.heap.size) :
  Calls Tryz.prog 119 #[v, .int .u8 c.toNat, .bool f, .bool t] w fun e w'=>∃ v', e = .returned v' ∧ Own w' base v' (l ++ Nm.escB f t c) ∧ Below base w w':=by
 by_cases h1 : (c.toNat : Int) < 32 ∨ 32 ≤ (c.toNat : Int) ∧ 126 < (c.toNat : Int)
 ·exact appB_odd base v l c f t w h hl hb h1
 by_cases h2 : (c.toNat : Int) = 35 ∧ f = true ∨ (c.toNat : Int) = 32 ∧ f = true ∨ (c.toNat : Int) = 32 ∧ f = false ∧ t = true ∨ (c.toNat : Int) = 44 ∨ (c.toNat : Int) = 43 ∨ (c.toNat : Int) = 34 ∨ (c.toNat : Int) = 92 ∨ (c.toNat : Int) = 60 ∨ (c.toNat : Int) = 62 ∨ (c.toNat : Int) = 59
 ·exact appB_two base v l c f t w h hl hb (by omega) (by omega) h2
 refine appB_one base v l c f t w h hl hb (by omega) (by omega) ?_
 simp only [beq_eq_false_iff_ne, ne_eq]
 by_cases h35 : (c.toNat : Int) = 35
 ·refine Or.inl ⟨h35, ?_⟩
  cases f
  ·rfl
  ·exact absurd (Or.inl ⟨h35, rfl⟩) h2
 by_cases h32 : (c.toNat : Int) = 32
 ·refine Or.inr (Or.inl ⟨h32, ?_⟩)
  cases f
  ·cases t
   ·exact ⟨rfl, rfl⟩
   ·exact absurd (Or.inr (Or.inr (Or.inl ⟨h32, rfl, rfl⟩))) h2
  ·exact absurd (Or.inr (Or.inl ⟨h32, rfl⟩)) h2
 ·have h3 : ¬ ((c.toNat : Int) = 44 ∨ (c.toNat : Int) = 43 ∨ (c.toNat : Int) = 34 ∨ (c.toNat : Int) = 92 ∨ (c.toNat : Int) = 60 ∨ (c.toNat : Int) = 62 ∨ (c.toNat : Int) = 59):=fun h=>h2 (Or.inr (Or.inr (Or.inr h)))
  exact Or.inr (Or.inr ⟨h35, h32, by omega, by omega, by omega, by omega, by omega, by omega, by omega⟩)
theorem escB_len (f t : Bool) (c : UInt8) : 1 ≤ (Nm.escB f t c).length ∧ (Nm.escB f t c).length ≤ 3:=by
 unfold Nm.escB
 split
 ·exact ⟨by simp, by simp⟩
 ·split
  ·exact ⟨by simp, by simp⟩
  ·exact ⟨by simp, by simp⟩
end Go.Proofs.YtbdpkfgllnbheaaGreatDoor
namespace Go.Proofs.YtbdpkfgllnbheaaGreatDoor
open Go.RowKit
theorem escV_step (f : Bool) (s : ByteArray) (k : Nat) (h : k < s.size) : Nm.escV f ((Nm.bs s).drop k) = Nm.escB f ((k : Int) == s.size - 1) s[k] ++ Nm.escV false ((Nm.bs s).drop (k + 1)):=by
 have h1:=drop_at h
 have h2 : ((Nm.bs s).drop (k + 1)).isEmpty = ((k : Int) == s.size - 1):=by
  rw [Bool.eq_iff_iff, List.isEmpty_iff, List.drop_eq_nil_iff, beq_iff_eq, size_eq]
  omega
 show Nm.escV f (s.data.toList.drop k) = _
 rw [h1, Nm.escV, ← h2]
set_option maxHeartbeats 1000000 in
theorem appV_any (base : Nat) (v : Value) (l : List UInt8) (s : ByteArray) (w : World) (h : Own w base v l) (hl : l.length ≤ 100000000) (hs : s.size ≤ 100000000) (hb : base ≤ w.heap.size) :
  Calls Tryz.prog 86 #[v, .string s] w fun e w'=>∃ v', e = .returned v' ∧ Own w' base v' (l ++ Nm.escV true (Nm.bs s)) ∧ Below base w w':=by
 have C:=Lib.hid appB_any
 go_enter Tryz.func86, Tryz.ntmps86
 go_wp2_with fail
 go_loopw [0, 8] (fun b i wr=>∃ (k : Nat) (l1 : List UInt8), k ≤ s.size ∧ i = .int .i64 k ∧ Own wr base b l1 ∧ Hid (l ++ Nm.escV true (Nm.bs s) = l1 ++ Nm.escV ((k : Int) == 0) ((Nm.bs s).drop k)) ∧ l1.length ≤ 100000000 + 3 * k ∧ Below base w wr) (fun b i wr=>s.size - (intOf i).toNat)
 case atStart=>exact ⟨0, l, Nat.zero_le _, rfl, h, rfl, by omega, Below.refl _ _⟩
 case round =>
  obtain ⟨k, l1, hk, rfl, hO, hE, hl1, hb1⟩:=hrel
  have hs1:=hb1.size
  by_cases hlt : k < s.size
  ·have hE2:=hE.out
   rw [escV_step _ s k hlt, ← List.append_assoc] at hE2
   have HE:=Lib.hid hE2
   have hlen:=escB_len ((k : Int) == 0) ((k : Int) == s.size - 1) s[k]
   have HO:=Lib.hid hO
   clear hE hE2 hO
   go_wp2_with fail
   refine (C.out base _ l1 s[k] _ _ _ HO.out (by omega) (by omega)).mono ?_
   rintro r w2 ⟨v2, rfl, hO2, hb2⟩
   obtain ⟨A2, n2, c2, rfl⟩:=hO2.form3
   have HO2:=Lib.hid hO2
   clear hO2
   go_wp2_with fail
   go_roundw
   case rel =>
    refine ⟨k + 1, _, by omega, by go_num, HO2.out, ?_, by rw [List.length_append]; omega, hb1.trans hb2⟩
    show _ = _
    rw [HE.out]
    have e1 : (((k + 1 : Nat) : Int) == 0) = false:=by rw [beq_eq_false_iff_ne]; omega
    rw [e1]
   case measure=>simp [intOf]; omega
  ·have hk2 : k = s.size:=by omega
   have hE2:=hE.out
   rw [hk2, ← size_eq, List.drop_length, Nm.escV, List.append_nil] at hE2
   have HE:=Lib.hid hE2
   clear hE hE2 hk2
   go_wp2_with fail
   go_ret
   exact ⟨_, rfl, by rw [HE.out]; exact hO, hb1⟩
end Go.Proofs.YtbdpkfgllnbheaaGreatDoor
namespace Go.Proofs.YtbdpkfgllnbheaaGreatDoor
open Go.RowKit
theorem bs_mk (l : List UInt8) : Nm.bs (Nm.mk l) = l:=rfl
def prRdnV (r : List Nm.Ava) : List UInt8:=if Nm.isRdn r then Nm.prRdn r else []
set_option maxHeartbeats 1000000 in
theorem prRdn_any (r : List Nm.Ava) (A : Option Addr) (c : Nat) (w : World) (hr : RAt w (· < w.heap.size) A r) (hl : r.length ≤ maxLen) (hcap : r.length ≤ c) :
  Calls Tryz.prog 46 #[.slice A r.length c] w fun e w'=>e = .returned (.string (Nm.mk (prRdnV r))) ∧ Below w.heap.size w w':=by
 have CI:=isRdn_any r A c w hr hl hcap
 unfold maxLen at hl
 by_cases h0 : Nm.isRdn r = false
 ·have hF:=Lib.hid (show prRdnV r = [] by unfold prRdnV; rw [h0]; rfl)
  rw [h0] at CI
  have HC:=Lib.hid CI
  clear CI
  go_enter Tryz.func46, Tryz.ntmps46
  go_wp2_with fail
  refine HC.out.mono ?_
  rintro e w1 ⟨rfl, hb1⟩
  go_wp2_with fail
  go_ret
  exact ⟨by rw [hF.out]; rfl, hb1⟩
 have h1 : Nm.isRdn r = true:=by simpa using h0
 obtain ⟨l1, l4, hok⟩:=Nm.isRdn_all h1
 have hF:=Lib.hid (show prRdnV r = Nm.prRdn r by unfold prRdnV; rw [h1]; rfl)
 rw [h1] at CI
 have HC:=Lib.hid CI
 have HOK:=Lib.hid hok
 have CV:=Lib.hid appV_any
 clear CI h0 h1 hok
 go_enter Tryz.func46, Tryz.ntmps46
 go_wp2_with fail
 refine HC.out.mono ?_
 rintro e w1 ⟨rfl, hb1⟩
 have hr1:=hr.past hb1
 clear hr
 go_wp2_with fail
 go_loopw [3, 11] (fun b i wr=>∃ k : Nat, k ≤ r.length ∧ i = .int .i64 k ∧ Own wr w1.heap.size b (Nm.prRdn (r.take k)) ∧ Below w1.heap.size w1 wr) (fun b i wr=>r.length - (intOf i).toNat)
 case atStart=>exact ⟨0, Nat.zero_le _, rfl, Own.nil _ _, Below.refl _ _⟩
 case round =>
  obtain ⟨k, hk, rfl, hO, hb2⟩:=hrel
  have hs:=hb2.size
  by_cases hlt : k < r.length
  ·obtain ⟨ad, rfl, hp, f0, f1⟩:=hr1.kid hb2 hlt
   have hle:=Nm.prRdn_take_le HOK.out k hk
   have hok:=HOK.out r[k] (List.getElem_mem hlt)
   have hle2:=Nm.okAva_le hok
   have hst:=Nm.prRdn_step hlt
   obtain ⟨x, hx⟩ : ∃ x, x = r[k].1:=⟨_, rfl⟩
   obtain ⟨y, hy⟩ : ∃ y, y = r[k].2:=⟨_, rfl⟩
   have hpa : Nm.prAva r[k] = Nm.bs x ++ 61 :: Nm.escV true (Nm.bs y):=by rw [hx, hy]; rfl
   rw [hpa] at hst
   rw [← hx, ← hy] at hle2
   rw [← hx] at f0
   rw [← hy] at f1
   obtain ⟨hx16, _, _, hy60⟩:=hle2
   have HST:=Lib.hid hst
   obtain ⟨L, hL⟩ : ∃ L, L = Nm.prRdn (r.take k):=⟨_, rfl⟩
   rw [← hL] at hle hO HST
   have bx:=Blk.new wr 41 #[.string x, .string y]
   have hO2:=hO.alloc (.cells #[.string x, .string y] 41)
   have hbw:=hb2.alloc hs (.cells #[.string x, .string y] 41)
   clear hst hpa hx hy hok hL
   have B43 : Hid (∀ w : World, Blk (w.alloc (.cells #[.int .u8 43] 5)) w.heap.size 5 (Lib.byteCells [43]).toArray):=fun w=>Blk.new w _ _
   have B61 : Hid (∀ w : World, Blk (w.alloc (.cells #[.int .u8 61] 5)) w.heap.size 5 (Lib.byteCells [61]).toArray):=fun w=>Blk.new w _ _
   have HB2:=Lib.hid hbw
   clear hbw hb2
   have h0k : (¬ 0 < k ∧ Hid ((if k = 0 then [] else L ++ [43]) = L)) ∨ (0 < k ∧ Hid ((if k = 0 then [] else L ++ [43]) = L ++ [43])):=by
    by_cases h : k = 0
    ·refine Or.inl ⟨by omega, ?_⟩
     show _ = _
     have : L.length = 0:=by omega
     rw [if_pos h, List.eq_nil_of_length_eq_zero this]
    ·exact Or.inr ⟨by omega, by show _ = _; rw [if_neg h]⟩
   rcases h0k with ⟨hk0, hif⟩ | ⟨hk0, hif⟩
   focus
    have q0 : (wr.alloc (.cells #[.string x, .string y] 41)).cell? ⟨wr.heap.size, 0, none⟩ = some (.string x):=bx.cell 0
    rw [hif.out] at HST
    go_wp2_with (at_builtin; go_loud (refine wpList_pushS rfl _ _ rfl w1.heap.size u3 L rfl hO2 x rfl (by omega) (by simp; omega) ?_))
    intro v2 w2 hO3 hb3 hg3
    have bx3:=bx.grown hg3 (hO2.ne bx (by decide))
    have hb4:=HB2.out.trans hb3
    obtain ⟨M, hM⟩ : ∃ M, M = L:=⟨_, rfl⟩
    rw [← hM] at HST hO3 hle
    clear hM
    have hle : M.length ≤ 198 * k + 1:=by omega
   rotate_left
   focus
    have hbP0:=HB2.out.alloc (by simp; omega) (.cells #[.int .u8 43] 5)
    have B43:=B43.out (wr.alloc (.cells #[.string x, .string y] 41))
    rw [show (wr.alloc (.cells #[.string x, .string y] 41)).heap.size = wr.heap.size + 1 by simp] at B43
    rw [hif.out] at HST
    go_wp2_with (at_builtin; go_loud (refine wpList_push rfl _ _ rfl w1.heap.size u3 L rfl (hO2.alloc _) (wr.heap.size + 1) 1 1 [43] rfl rfl B43 (by simp; omega) (by simp; omega) ?_))
    intro vP wP hOP hbP hgP
    have bxP:=(bx.alloc (.cells #[.int .u8 43] 5)).grown hgP ((hO2.alloc (.cells #[.int .u8 43] 5)).ne (bx.alloc (.cells #[.int .u8 43] 5)) (by decide))
    have q0 : wP.cell? ⟨wr.heap.size, 0, none⟩ = some (.string x):=bxP.cell 0
    have hbP1:=hbP0.trans hbP
    have hsP:=hbP1.size
    obtain ⟨M, hM⟩ : ∃ M, M = L ++ [43]:=⟨_, rfl⟩
    have hle2 : M.length ≤ 198 * k + 1:=by rw [hM, List.length_append, List.length_singleton]; omega
    rw [← hM] at HST hOP
    clear hM hle hbP0 hbP B43
    go_wp2_with (at_builtin; go_loud (refine wpList_pushS rfl _ _ rfl w1.heap.size vP M rfl hOP x rfl (by omega) (by omega) ?_))
    intro v2 w2 hO3 hb3 hg3
    have bx3:=bxP.grown hg3 (hOP.ne bxP (by decide))
    have hb4:=hbP1.trans hb3
    have hle : M.length ≤ 198 * k + 1:=hle2
   rotate_left
   all_goals
    have hs4:=hb4.size
    have B61:=B61.out w2
    have hl4 : (M ++ Nm.bs x).length ≤ 198 * k + 17:=by rw [List.length_append, size_eq]; omega
    clear hO hO2 bx HB2 q0
    go_wp2_with (at_builtin; go_loud (refine wpList_push rfl _ _ rfl w1.heap.size v2 (M ++ Nm.bs x) rfl (hO3.alloc _) w2.heap.size 1 1 [61] rfl rfl B61 (by simp only [List.length_singleton]; omega) (by simp; omega) ?_))
    intro v5 w5 hO5 hb5 hg5
    have bx5:=(bx3.alloc (.cells #[.int .u8 61] 5)).grown hg5 ((hO3.alloc (.cells #[.int .u8 61] 5)).ne (bx3.alloc (.cells #[.int .u8 61] 5)) (by decide))
    have q1 : w5.cell? ⟨wr.heap.size, 1, none⟩ = some (.string y):=bx5.cell 1
    have hb6:=(hb4.alloc hs4 _).trans hb5
    have hs6:=hb6.size
    clear hO3 hb3 hg3 bx3 hb4 B61 hb5 hg5
    go_wp2_with fail
    refine (CV.out w1.heap.size v5 _ y w5 hO5 (by simp only [List.length_append, List.length_singleton] at hl4 ⊢; omega) (by omega) (by omega)).mono ?_
    rintro e w7 ⟨v7, rfl, hO7, hb7⟩
    have hb8:=hb6.trans hb7
    obtain ⟨A7, n7, c7, rfl⟩:=hO7.form3
    have HO7:=Lib.hid hO7
    clear hO7 hO5 hb7 hb6 bx5 q1
    go_wp2_with fail
    go_roundw
    case rel =>
     refine ⟨k + 1, by omega, by go_num, ?_, hb8⟩
     rw [HST.out]
     have:=HO7.out
     simp only [List.append_assoc, List.singleton_append] at this
     exact this
    case measure=>simp [intOf]; omega
  ·have hk2 : k = r.length:=by omega
   rw [hk2, List.take_length] at hO
   have E:=hO.string
   clear hk2
   go_wp2_with fail
   go_ret
   exact ⟨by rw [hF.out]; rfl, hb1.trans (hb2.mono hb1.size)⟩
end Go.Proofs.YtbdpkfgllnbheaaGreatDoor
