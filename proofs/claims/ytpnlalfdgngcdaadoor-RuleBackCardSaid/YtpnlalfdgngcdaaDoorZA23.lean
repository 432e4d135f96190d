import Derived.Test.YtpnlalfdgngcdaaDoorZA6
import Derived.Deep.RegionHeld3
import Derived.Deep.RegionWith
set_option linter.unusedVariables false
set_option maxRecDepth 100000
namespace Go.Proofs.YtpnlalfdgngcdaaDoor
open Go.RowKit
theorem hexi_all : (List.range 256).all (fun n=>decide ((⟨#[48, 49, 50, 51, 52, 53, 54, 55, 56, 57, 97, 98, 99, 100, 101, 102]⟩ : ByteArray).data.toList[n / 16]? = some (Nm.hexc (n / 16)) ∧ (⟨#[48, 49, 50, 51, 52, 53, 54, 55, 56, 57, 97, 98, 99, 100, 101, 102]⟩ : ByteArray).data.toList[n % 16]? = some (Nm.hexc (n % 16)))) = true:=by kernel_rfl
theorem and15 (c : UInt8) : bits .and .u8 (c.toNat : Int) 15 = (c.toNat : Int) % 16:=by
 have h:=u8_and_nat c.toNat 15 (u8_lt c) (by decide)
 have h2 : c.toNat &&& 15 = c.toNat % 16:=Nat.and_two_pow_sub_one_eq_mod c.toNat 4
 rw [h2] at h
 exact h.trans (by omega)
def hexS : ByteArray:=⟨#[48, 49, 50, 51, 52, 53, 54, 55, 56, 57, 97, 98, 99, 100, 101, 102]⟩
theorem hexS_hi (c : UInt8) : ∀ h, hexS[((c.toNat : Int) / 16).toNat]'h = Nm.hexc (c.toNat / 16):=fun h=>by
 have h1:=(of_decide_eq_true (List.all_eq_true.1 hexi_all c.toNat (by simp [u8_lt c]))).1
 have e : ((c.toNat : Int) / 16).toNat = c.toNat / 16:=by omega
 have h2:=(List.getElem?_eq_some_iff.1 h1).2
 have h3 : hexS[((c.toNat : Int) / 16).toNat]'h = hexS.data.toList[((c.toNat : Int) / 16).toNat]'h:=rfl
 rw [h3]
 simp only [e]
 exact h2
theorem hexS_lo (c : UInt8) : ∀ h, hexS[((c.toNat : Int) % 16).toNat]'h = Nm.hexc (c.toNat % 16):=fun h=>by
 have h1:=(of_decide_eq_true (List.all_eq_true.1 hexi_all c.toNat (by simp [u8_lt c]))).2
 have e : ((c.toNat : Int) % 16).toNat = c.toNat % 16:=by omega
 have h2:=(List.getElem?_eq_some_iff.1 h1).2
 have h3 : hexS[((c.toNat : Int) % 16).toNat]'h = hexS.data.toList[((c.toNat : Int) % 16).toNat]'h:=rfl
 rw [h3]
 simp only [e]
 exact h2
end Go.Proofs.YtpnlalfdgngcdaaDoor
namespace Go.Proofs.YtpnlalfdgngcdaaDoor
open Go.RowKit
theorem escB_odd (f t : Bool) (c : UInt8) (h : c.toNat < 32 ∨ 126 < c.toNat) : Nm.escB f t c = [92, Nm.hexc (c.toNat / 16), Nm.hexc (c.toNat % 16)]:=by unfold Nm.escB; rw [if_pos h]
set_option maxHeartbeats 1000000 in
theorem appB_odd (base : Nat) (v : Value) (l : List UInt8) (c : UInt8) (f t : Bool) (w : World) (h : Own w base v l) (hl : l.length ≤ 1000000000) (hb : base ≤ w.heap.size) (hc : (c.toNat : Int) < 32 ∨ 32 ≤ (c.toNat : Int) ∧ 126 < (c.toNat : Int)) :
  Calls Tryd.prog 82 #[v, .int .u8 c.toNat, .bool f, .bool t] w fun e w'=>∃ v', e = .returned v' ∧ Own w' base v' (l ++ Nm.escB f t c) ∧ Below base w w':=by
 have h256:=u8_lt c
 have hE:=Lib.hid (escB_odd f t c (by omega))
 have g0 : 0 ≤ (c.toNat : Int) / 16:=by omega
 have g1 : (c.toNat : Int) / 16 < 16:=by omega
 have g2 : (c.toNat : Int) % 16 < 16:=by omega
 have g3 : 0 ≤ (c.toNat : Int) % 16:=by omega
 have g4 : bits .and .u8 (c.toNat : Int) 15 = (c.toNat : Int) % 16:=and15 c
 have q1:=hexS_hi c
 have q2:=hexS_lo c
 unfold hexS at q1 q2
 obtain ⟨x, hx⟩ : ∃ x, x = Nm.hexc (c.toNat / 16):=⟨_, rfl⟩
 obtain ⟨y, hy⟩ : ∃ y, y = Nm.hexc (c.toNat % 16):=⟨_, rfl⟩
 rw [← hx] at q1 hE
 rw [← hy] at q2 hE
 clear hx hy
 have H:=Lib.hid h
 have HB:=Lib.hid hb
 have B0:=Lib.hid (Blk.newd w 5 #[.int .u8 92, .int .u8 x.toNat, .int .u8 y.toNat])
 have k1 : Below base w (w.alloc (.cells #[.int .u8 92, .int .u8 x.toNat, .int .u8 y.toNat] 5)).drew:=((Below.refl _ _).alloc hb _).drew
 have K1:=Lib.hid k1
 clear h hb k1
 rcases hc with h1 | ⟨h1, h2⟩
 all_goals
  go_enter Tryd.func82, Tryd.ntmps82
  go_wp2_with fail
  go_region_law (refine step_push rfl (.tmp 15) (.tmp 22) rfl base v l (by simp [Act.eval]) (H.out.alloc _) w.heap.size 3 3 [92, x, y] (by simp [Act.eval]) rfl B0.out (by simp; omega) (by have:=HB.out; show base ≤ (w.alloc _).heap.size; simp; omega) ?_; intro v1 w1 hown hb1 _)
  all_goals
   go_wp2_with fail
   go_ret
   rw [hE.out]
   exact ⟨_, rfl, hown, K1.out.trans hb1⟩
theorem escB_two (f t : Bool) (c : UInt8) (h : 32 ≤ c.toNat) (h2 : c.toNat ≤ 126) (h3 : (Nm.special c || f && decide (c.toNat = 35 ∨ c.toNat = 32) || t && decide (c.toNat = 32)) = true) : Nm.escB f t c = [92, c]:=by
 unfold Nm.escB
 rw [if_neg (by omega), if_pos h3]
theorem escB_one (f t : Bool) (c : UInt8) (h : 32 ≤ c.toNat) (h2 : c.toNat ≤ 126) (h3 : (Nm.special c || f && decide (c.toNat = 35 ∨ c.toNat = 32) || t && decide (c.toNat = 32)) = false) : Nm.escB f t c = [c]:=by
 unfold Nm.escB
 rw [if_neg (by omega), if_neg (by rw [h3]; exact Bool.false_ne_true)]
set_option maxHeartbeats 1000000 in
theorem appB_two (base : Nat) (v : Value) (l : List UInt8) (c : UInt8) (f t : Bool) (w : World) (h : Own w base v l) (hl : l.length ≤ 1000000000) (hb : base ≤ w.heap.size) (h1 : 32 ≤ (c.toNat : Int)) (h2 : (c.toNat : Int) ≤ 126)
  (hc : (c.toNat : Int) = 35 ∧ f = true ∨ (c.toNat : Int) = 32 ∧ f = true ∨ (c.toNat : Int) = 32 ∧ f = false ∧ t = true ∨ (c.toNat : Int) = 44 ∨ (c.toNat : Int) = 43 ∨ (c.toNat : Int) = 34 ∨ (c.toNat : Int) = 92 ∨ (c.toNat : Int) = 60 ∨ (c.toNat : Int) = 62 ∨ (c.toNat : Int) = 59) :
  Calls Tryd.prog 82 #[v, .int .u8 c.toNat, .bool f, .bool t] w fun e w'=>∃ v', e = .returned v' ∧ Own w' base v' (l ++ Nm.escB f t c) ∧ Below base w w':=by
 have hE:=Lib.hid (escB_two f t c (by omega) (by omega) (by
  unfold Nm.special
  rw [Bool.or_eq_true, Bool.or_eq_true, Bool.and_eq_true, Bool.and_eq_true]
  simp only [decide_eq_true_eq]
  rcases hc with ⟨h, rfl⟩ | ⟨h, rfl⟩ | ⟨h, rfl, rfl⟩ | h
  ·exact Or.inl (Or.inr ⟨rfl, by omega⟩)
  ·exact Or.inl (Or.inr ⟨rfl, by omega⟩)
  ·exact Or.inr ⟨rfl, by omega⟩
  ·exact Or.inl (Or.inl (by omega))))
 have H:=Lib.hid h
 have HB:=Lib.hid hb
 have B0 : Hid (∀ w : World, Blk (w.alloc (.cells #[.int .u8 92] 5)) w.heap.size 5 (Lib.byteCells [92]).toArray):=fun w=>Blk.new w _ _
 have B1 : Hid (∀ w : World, Blk (w.alloc (.cells #[.int .u8 (c.toNat : Int)] 5)) w.heap.size 5 (Lib.byteCells [c]).toArray):=fun w=>Blk.new w _ _
 clear h hb
 rcases hc with ⟨h3, rfl⟩ | ⟨h3, rfl⟩ | ⟨h3, rfl, rfl⟩ | h3 | h3 | h3 | h3 | h3 | h3 | h3
 all_goals
  rw [h3] at B1
  go_enter Tryd.func82, Tryd.ntmps82
  go_wp2_with (at_builtin; go_loud (refine wpList_push rfl _ _ rfl base v l rfl (H.out.alloc _) w.heap.size 1 1 [92] rfl rfl (B0.out _) (by simp; omega) (by have:=HB.out; simp; omega) ?_))
  intro v1 w1 hown hb1 _
  have HO:=Lib.hid hown
  have Hs1:=Lib.hid hb1.size
  clear hown
  go_wp2_with (at_builtin; go_loud (refine wpList_push rfl _ _ rfl base v1 (l ++ [92]) rfl (HO.out.alloc _) w1.heap.size 1 1 [c] rfl rfl (B1.out _) (by simp; omega) (by have:=HB.out; have:=Hs1.out; simp at this ⊢; omega) ?_))
  intro v2 w2 hown2 hb2 _
  go_wp2_with fail
  go_ret
  refine ⟨_, rfl, by rw [hE.out]; simpa using hown2, ?_⟩
  exact (((Below.refl base w).alloc HB.out _).trans hb1).trans (((Below.refl base w1).alloc (by have:=HB.out; have:=Hs1.out; simp at this; omega) _).trans hb2)
set_option maxHeartbeats 1000000 in
theorem appB_one (base : Nat) (v : Value) (l : List UInt8) (c : UInt8) (f t : Bool) (w : World) (h : Own w base v l) (hl : l.length ≤ 1000000000) (hb : base ≤ w.heap.size) (h1 : 32 ≤ (c.toNat : Int)) (h2 : (c.toNat : Int) ≤ 126)
  (hc : (c.toNat : Int) = 35 ∧ f = false ∨ (c.toNat : Int) = 32 ∧ f = false ∧ t = false ∨ ((c.toNat : Int) == 35) = false ∧ ((c.toNat : Int) == 32) = false ∧ ((c.toNat : Int) == 44) = false ∧ ((c.toNat : Int) == 43) = false ∧ ((c.toNat : Int) == 34) = false ∧ ((c.toNat : Int) == 92) = false ∧ ((c.toNat : Int) == 60) = false ∧ ((c.toNat : Int) == 62) = false ∧ ((c.toNat : Int) == 59) = false) :
  Calls Tryd.prog 82 #[v, .int .u8 c.toNat, .bool f, .bool t] w fun e w'=>∃ v', e = .returned v' ∧ Own w' base v' (l ++ Nm.escB f t c) ∧ Below base w w':=by
 have hE:=Lib.hid (escB_one f t c (by omega) (by omega) (by
  unfold Nm.special
  rw [Bool.or_eq_false_iff, Bool.or_eq_false_iff, Bool.and_eq_false_iff, Bool.and_eq_false_iff]
  simp only [decide_eq_false_iff_not]
  rcases hc with ⟨h, rfl⟩ | ⟨h, rfl, rfl⟩ | ⟨a1, a2, a3, a4, a5, a6, a7, a8, a9⟩
  ·exact ⟨⟨by omega, Or.inl rfl⟩, Or.inr (by omega)⟩
  ·exact ⟨⟨by omega, Or.inl rfl⟩, Or.inl rfl⟩
  ·simp only [beq_eq_false_iff_ne, ne_eq] at a1 a2 a3 a4 a5 a6 a7 a8 a9
   exact ⟨⟨by omega, Or.inr (by omega)⟩, Or.inr (by omega)⟩))
 have H:=Lib.hid h
 have HB:=Lib.hid hb
 have B1 : Hid (∀ w : World, Blk (w.alloc (.cells #[.int .u8 (c.toNat : Int)] 5)) w.heap.size 5 (Lib.byteCells [c]).toArray):=fun w=>Blk.new w _ _
 clear h hb
 rcases hc with ⟨h3, rfl⟩ | ⟨h3, rfl, rfl⟩ | ⟨a1, a2, a3, a4, a5, a6, a7, a8, a9⟩
 all_goals
  try rw [h3] at B1
  go_enter Tryd.func82, Tryd.ntmps82
  go_wp2_with (at_builtin; go_loud (refine wpList_push rfl _ _ rfl base v l rfl (H.out.alloc _) w.heap.size 1 1 [c] rfl rfl (B1.out _) (by simp; omega) (by have:=HB.out; simp; omega) ?_))
  intro v2 w2 hown2 hb2 _
  go_wp2_with fail
  go_ret
  refine ⟨_, rfl, by rw [hE.out]; exact hown2, ?_⟩
  exact ((Below.refl base w).alloc HB.out _).trans hb2
theorem appB_any (base : Nat) (v : Value) (l : List UInt8) (c : UInt8) (f t : Bool) (w : World) (h : Own w base v l) (hl : l.length ≤ 1000000000) (hb : base ≤ w.heap.size) :
  Calls Tryd.prog 82 #[v, .int .u8 c.toNat, .bool f, .bool t] w fun e w'=>∃ v', e = .returned v' ∧ Own w' base v' (l ++ Nm.escB f t c) ∧ Below base w w':=by
 by_cases h1 : (c.toNat : Int) < 32 ∨ 32 ≤ (c.toNat : Int) ∧ 126 < (c.toNat : Int)
 ·exact appB_odd base v l c f t w h hl hb h1
 by_cases h2 : (c.toNat : Int) = 35 ∧ f = true ∨ (c.toNat : Int) = 32 ∧ f = true ∨ (c.toNat : Int) = 32 ∧ f = false ∧ t = true ∨ (c.toNat : Int) = 44 ∨ (c.toNat : Int) = 43 ∨ (c.toNat : Int) = 34 ∨ (c.toNat : Int) = 92 ∨ (c.toNat : Int) = 60 ∨ (c.toNat : Int) = 62 ∨ (c.toNat : Int) = 59
 ·exact appB_two base v l c f t w h hl hb (by omega) (by omega) h2
 refine appB_one base v l c f t w h hl hb (by omega) (by omega) ?_
 simp only [beq_eq_false_iff_ne, ne_eq]
 by_cases h35 : (c.toNat : Int) = 35
 ·refine Or.inl ⟨h35, ?_⟩
  cases f
  ·rfl
  ·exact absurd (Or.inl ⟨h35, rfl⟩) h2
 by_cases h32 : (c.toNat : Int) = 32
 ·refine Or.inr (Or.inl ⟨h32, ?_⟩)
  cases f
  ·cases t
   ·exact ⟨rfl, rfl⟩
   ·exact absurd (Or.inr (Or.inr (Or.inl ⟨h32, rfl, rfl⟩))) h2
  ·exact absurd (Or.inr (Or.inl ⟨h32, rfl⟩)) h2
 ·have h3 : ¬ ((c.toNat : Int) = 44 ∨ (c.toNat : Int) = 43 ∨ (c.toNat : Int) = 34 ∨ (c.toNat : Int) = 92 ∨ (c.toNat : Int) = 60 ∨ (c.toNat : Int) = 62 ∨ (c.toNat : Int) = 59):=fun h=>h2 (Or.inr (Or.inr (Or.inr h)))
  exact Or.inr (Or.inr ⟨h35, h32, by omega, by omega, by omega, by omega, by omega, by omega, by omega⟩)
theorem escB_len (f t : Bool) (c : UInt8) : 1 ≤ (Nm.escB f t c).length ∧ (Nm.escB f t c).length ≤ 3:=by
 unfold Nm.escB
 split
 ·exact ⟨by simp, by simp⟩
 ·split
  ·exact ⟨by simp, by simp⟩
  ·exact ⟨by simp, by simp⟩
end Go.Proofs.YtpnlalfdgngcdaaDoor
