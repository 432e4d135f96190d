import Derived.Test.YtpnlalfdgngcdaaDoorZA27
set_option linter.unusedVariables false
set_option maxRecDepth 100000
namespace Go.Proofs.YtpnlalfdgngcdaaDoor
open Go.RowKit
theorem hex_all : (List.range 256).all (fun n=>decide ((⟨#[48, 49, 50, 51, 52, 53, 54, 55, 56, 57, 97, 98, 99, 100, 101, 102]⟩ : ByteArray).extract (n / 16) (n / 16 + 1) = ⟨#[Nm.hexc (n / 16)]⟩)) = true:=by kernel_rfl
theorem hex_lo : (List.range 256).all (fun n=>decide ((⟨#[48, 49, 50, 51, 52, 53, 54, 55, 56, 57, 97, 98, 99, 100, 101, 102]⟩ : ByteArray).extract (n % 16) (n % 16 + 1) = ⟨#[Nm.hexc (n % 16)]⟩)) = true:=by kernel_rfl
set_option maxHeartbeats 400000 in
theorem hex_any (c : UInt8) (w : World) :
  Calls Tryd.prog 61 #[.int .u8 c.toNat] w fun e w'=>e = .returned (.string ⟨#[Nm.hexc (c.toNat / 16), Nm.hexc (c.toNat % 16)]⟩) ∧ Below w.heap.size w w':=by
 have hc:=u8_lt c
 have h1:=List.all_eq_true.1 hex_all c.toNat (by simp [u8_lt c])
 have h2:=List.all_eq_true.1 hex_lo c.toNat (by simp [u8_lt c])
 have H1:=Lib.hid (of_decide_eq_true h1)
 have H2:=Lib.hid (of_decide_eq_true h2)
 clear h1 h2
 go_enter Tryd.func61, Tryd.ntmps61
 go_wp2_with fail
 go_region
 go_wp2_with fail
 go_ret
 refine ⟨ret_str ?_, (Below.refl _ _).drew⟩
 rw [H1.out, H2.out]
 rfl
end Go.Proofs.YtpnlalfdgngcdaaDoor
namespace Go.Proofs.YtpnlalfdgngcdaaDoor
open Go.RowKit
theorem esc_cases (f t : Bool) (c : UInt8) :
  (Nm.escB f t c = [92, c] ∧ (Nm.special c = true ∨ Nm.special c = false ∧ f = true ∧ (c.toNat : Int) = 35 ∨ Nm.special c = false ∧ f = true ∧ (c.toNat : Int) = 32 ∨ Nm.special c = false ∧ f = false ∧ t = true ∧ (c.toNat : Int) = 32)) ∨
  Nm.special c = false ∧ (f && ((c.toNat : Int) == 35 || (c.toNat : Int) == 32)) = false ∧ (t && (c.toNat : Int) == 32) = false ∧ (Nm.escB f t c = [92, Nm.hexc (c.toNat / 16), Nm.hexc (c.toNat % 16)] ∧ ((c.toNat : Int) < 32 ∨ 32 ≤ (c.toNat : Int) ∧ 126 < (c.toNat : Int)) ∨ Nm.escB f t c = [c] ∧ 32 ≤ (c.toNat : Int) ∧ (c.toNat : Int) ≤ 126):=by
 by_cases h : c.toNat < 32 ∨ 126 < c.toNat
 ·have e1 : Nm.special c = false:=by unfold Nm.special; rw [decide_eq_false_iff_not]; omega
  have e2 : ((c.toNat : Int) == 35) = false:=by rw [beq_eq_false_iff_ne]; omega
  have e3 : ((c.toNat : Int) == 32) = false:=by rw [beq_eq_false_iff_ne]; omega
  refine Or.inr ⟨e1, by rw [e2, e3]; simp, by rw [e3]; simp, Or.inl ⟨escB_odd f t c h, by omega⟩⟩
 by_cases h3 : (Nm.special c || f && decide (c.toNat = 35 ∨ c.toNat = 32) || t && decide (c.toNat = 32)) = true
 ·refine Or.inl ⟨escB_two f t c (by omega) (by omega) h3, ?_⟩
  cases hs : Nm.special c
  ·rw [hs] at h3
   cases f
   ·cases t
    ·simp at h3
    ·simp at h3
     exact Or.inr (Or.inr (Or.inr ⟨rfl, rfl, rfl, by omega⟩))
   ·simp at h3
    rcases h3 with (h3 | h3) | h3
    ·exact Or.inr (Or.inl ⟨rfl, rfl, by omega⟩)
    ·exact Or.inr (Or.inr (Or.inl ⟨rfl, rfl, by omega⟩))
    ·exact Or.inr (Or.inr (Or.inl ⟨rfl, rfl, by omega⟩))
  ·exact Or.inl rfl
 ·have h4 : (Nm.special c || f && decide (c.toNat = 35 ∨ c.toNat = 32) || t && decide (c.toNat = 32)) = false:=by simpa using h3
  refine Or.inr ?_
  have h5:=escB_one f t c (by omega) (by omega) h4
  rw [Bool.or_eq_false_iff, Bool.or_eq_false_iff] at h4
  have e2 : ((c.toNat : Int) == 35) = decide (c.toNat = 35):=by rw [Bool.eq_iff_iff]; simp; omega
  have e3 : ((c.toNat : Int) == 32) = decide (c.toNat = 32):=by rw [Bool.eq_iff_iff]; simp; omega
  refine ⟨h4.1.1, ?_, by rw [e3]; exact h4.2, Or.inr ⟨h5, by omega, by omega⟩⟩
  rw [e2, e3]
  have:=h4.1.2
  rw [Bool.eq_false_iff] at this ⊢
  intro h6; apply this
  simp only [Bool.and_eq_true, Bool.or_eq_true, decide_eq_true_eq] at h6 ⊢
  exact h6
set_option maxHeartbeats 1000000 in
theorem rvalue_any (s : ByteArray) (w : World) (hs : s.size ≤ 100000000) :
  Calls Tryd.prog 46 #[.string s] w fun e w'=>e = .returned (.string (Nm.mk (Nm.escV true (Nm.bs s)))) ∧ Below w.heap.size w w':=by
 have CS:=Lib.hid special_any
 have CH:=Lib.hid hex_any
 go_enter Tryd.func46, Tryd.ntmps46
 go_wp2_with fail
 go_loopw [3, 4] (fun b i wr=>∃ (k : Nat) (q : ByteArray), k ≤ s.size ∧ i = .int .i64 k ∧ b = .string q ∧ Hid (Nm.escV true (Nm.bs s) = Nm.bs q ++ Nm.escV ((k : Int) == 0) ((Nm.bs s).drop k)) ∧ q.size ≤ 3 * k ∧ Below w.heap.size w wr) (fun b i wr=>s.size - (intOf i).toNat)
 case atStart=>exact ⟨0, ⟨#[]⟩, Nat.zero_le _, rfl, rfl, rfl, Nat.le_refl 0, Below.refl _ _⟩
 case round =>
  obtain ⟨k, q, hk, rfl, rfl, hE, hq, hb1⟩:=hrel
  have hs1:=hb1.size
  by_cases hlt : k < s.size
  ·have hE2:=hE.out
   rw [escV_step _ s k hlt, ← List.append_assoc] at hE2
   have X1:=ext1 s k hlt
   obtain ⟨c, hc⟩ : ∃ c, c = s[k]:=⟨_, rfl⟩
   have hcr : ∀ h, s[k]'h = c:=fun _=>hc.symm
   have h256:=u8_lt c
   rw [← hc] at hE2 X1
   have HE:=Lib.hid hE2
   have hcases:=esc_cases ((k : Int) == 0) ((k : Int) == s.size - 1) c
   have D:=CS.out c
   have D2:=Lib.hid (CH.out c)
   have hN : (((k + 1 : Nat) : Int) == 0) = false:=by rw [beq_eq_false_iff_ne]; omega
   have HN:=Lib.hid hN
   clear hE hE2 hc CS CH hN
   rcases hcases with ⟨he, hc4⟩ | ⟨h1, h2, h3, hc4⟩
   ·rw [he] at HE
    clear he
    rcases hc4 with h1 | ⟨h1, h2, h3⟩ | ⟨h1, h2, h3⟩ | ⟨h1, h2, h3, h4⟩
    all_goals
     rw [h1] at D
     try rw [h3] at D
     try rw [h4] at D
     have HD:=Lib.hid D
     clear D h1
     go_wp2_with fail
     refine (HD.out _).mono ?_
     rintro r w2 ⟨rfl, rfl⟩
     go_wp2_with fail
     refine ⟨⟨k + 1, _, by omega, by go_num, rfl, ?_, ?_, hb1⟩, by simp [intOf]; omega⟩
     ·show _ = _
      rw [HN.out, HE.out, bs_two]
     ·rw [ByteArray.size_append, ByteArray.size_append, one_size, one_size]; omega
   ·have hf : ((k : Int) == 0) = false ∨ ((k : Int) == 0) = true ∧ ((c.toNat : Int) == 35) = false ∧ ((c.toNat : Int) == 32) = false:=by
     cases hk0 : ((k : Int) == 0)
     ·exact Or.inl rfl
     ·rw [hk0, Bool.true_and, Bool.or_eq_false_iff] at h2
      exact Or.inr ⟨rfl, h2⟩
    have ht : ((k : Int) == s.size - 1) = false ∨ ((k : Int) == s.size - 1) = true ∧ ((c.toNat : Int) == 32) = false:=by
     cases hk0 : ((k : Int) == s.size - 1)
     ·exact Or.inl rfl
     ·rw [hk0, Bool.true_and] at h3
      exact Or.inr ⟨rfl, h3⟩
    rw [h1] at D
    have HD:=Lib.hid D
    clear D h1 h2 h3
    rcases hc4 with ⟨he, h4⟩ | ⟨he, h4, h5⟩
    ·rw [he] at HE
     clear he
     rcases hf with h2 | ⟨h2, h6, h7⟩
     all_goals
      rcases ht with h3 | ⟨h3, h8⟩
      all_goals
       rcases h4 with h4 | ⟨h4, h5⟩
       all_goals
        go_wp2_with fail
        refine (HD.out _).mono ?_
        rintro r w2 ⟨rfl, rfl⟩
        go_wp2_with fail
        refine (D2.out _).mono ?_
        rintro r w3 ⟨rfl, hb3⟩
        have hz3:=hex2_size (Nm.hexc (c.toNat / 16)) (Nm.hexc (c.toNat % 16))
        have hb4:=hb1.trans (hb3.mono hs1)
        go_wp2_with fail
        refine ⟨⟨k + 1, _, by omega, by go_num, rfl, ?_, ?_, hb4⟩, by simp [intOf]; omega⟩
        ·show _ = _
         rw [HN.out, HE.out, bs_hex]
        ·rw [ByteArray.size_append, ByteArray.size_append, one_size, hz3]; omega
    ·rw [he] at HE
     clear he
     rcases hf with h2 | ⟨h2, h6, h7⟩
     all_goals
      rcases ht with h3 | ⟨h3, h8⟩
      all_goals
       go_wp2_with fail
       refine (HD.out _).mono ?_
       rintro r w2 ⟨rfl, rfl⟩
       go_wp2_with fail
       refine ⟨⟨k + 1, _, by omega, by go_num, rfl, ?_, ?_, hb1⟩, by simp [intOf]; omega⟩
       ·show _ = _
        rw [HN.out, HE.out, bs_one]
       ·rw [ByteArray.size_append, one_size]; omega
  ·have hk2 : k = s.size:=by omega
   have hE2:=hE.out
   rw [hk2, ← size_eq, List.drop_length, Nm.escV, List.append_nil] at hE2
   have HE:=Lib.hid hE2
   clear hE hE2 hk2
   go_wp2_with fail
   go_ret
   exact ⟨by rw [HE.out, mk_bs]; rfl, hb1⟩
end Go.Proofs.YtpnlalfdgngcdaaDoor
namespace Go.Proofs.YtpnlalfdgngcdaaDoor.Ru
open Go.RowKit
theorem att_step {l : List ByteArray} {k : Nat} (h : k < l.length) : Nm.join 44 ((l.take (k + 1)).map Nm.bs) = if k = 0 then Nm.bs l[k] else Nm.join 44 ((l.take k).map Nm.bs) ++ 44 :: Nm.bs l[k]:=by
 rw [List.take_succ_eq_append_getElem h, List.map_append, List.map_singleton, Nm.join_snoc]
 by_cases hk : k = 0
 ·rw [if_pos hk, if_pos (by subst hk; rfl)]
 ·rw [if_neg hk, if_neg]
  intro e
  have:=congrArg List.length e
  rw [List.length_map, List.length_take] at this
  have h0 : ([] : List (List UInt8)).length = 0:=rfl
  omega
def headT (d sb : Bool) (R : ByteArray) : List UInt8:=verb d ++ 32 :: (Nm.bs R ++ 32 :: (reach sb ++ [32]))
theorem pr_of (d sb : Bool) (R W : ByteArray) (l : List ByteArray) : pr ⟨d, R, sb, W, l⟩ = headT d sb R ++ attrsT l ++ [32] ++ Nm.bs W:=by
 unfold pr headT
 simp
set_option maxHeartbeats 8000000 in
theorem rprint_any (d : Bool) (R : ByteArray) (sb : Bool) (W : ByteArray) (l : List ByteArray) (A : Option Addr) (c : Nat) (w : World) (h : StrsAt w (· < w.heap.size) A l) (hw : W.size ≤ 1000000000) (hi : isR ⟨d, R, sb, W, l⟩ = true) :
  Calls Tryd.prog 9 #[.agg #[.bool d, .string R, .bool sb, .string W, .slice A l.length c]] w fun e w'=>e = .returned (.string (Nm.mk (pr ⟨d, R, sb, W, l⟩))) ∧ Below w.heap.size w w':=by
 obtain ⟨i1, i2, i3⟩:=isR_of hi
 obtain ⟨g1, g2, g3, g4⟩:=rights_of i1
 have hrs : R.size ≤ 6:=g2
 have hll : l.length ≤ 15:=ok_few i3
 have HT : Hid (∀ a ∈ l, a.size ≤ 15):=fun a ha=>(ty_clean (ok_all _ _ i3 a ha)).1
 rw [pr_of]
 have hb0 : Below w.heap.size w (w.alloc (.cells #[.bool d, .string R, .bool sb, .string W, .slice A l.length c] 24)):=(Below.refl _ _).alloc (Nat.le_refl _) _
 have n0 : ¬ (9223372036854775807 < 6 + R.size):=by omega
 have n1 : ¬ (9223372036854775807 < 5 + R.size):=by omega
 obtain ⟨w0, hw0⟩ : ∃ w0, w0 = w.alloc (.cells #[.bool d, .string R, .bool sb, .string W, .slice A l.length c] 24):=⟨_, rfl⟩
 have HB0 : Hid (Below w.heap.size w w0):=by rw [hw0]; exact hb0
 have HB : Hid (Blk w0 w.heap.size 24 #[.bool d, .string R, .bool sb, .string W, .slice A l.length c]):=by rw [hw0]; exact Blk.new _ _ _
 have HS : Hid (StrsAt w0 (· < w0.heap.size) A l):=by rw [hw0]; exact h.past hb0
 have HBL : Hid (Below w0.heap.size w0 (w.alloc (.cells #[.bool d, .string R, .bool sb, .string W, .slice A l.length c] 24))):=by rw [← hw0]; exact Below.refl _ _
 have B:=Blk.new w 24 #[.bool d, .string R, .bool sb, .string W, .slice A l.length c]
 obtain ⟨a0, a1, a2, a3, a4⟩:=rules5 B
 obtain ⟨hd, hhd⟩ : ∃ hd, hd = headT d sb R:=⟨_, rfl⟩
 rw [← hhd]
 have HH:=Lib.hid hhd
 clear B h hi i1 i2 i3 g1 g2 g3 g4 hb0 hw0 hhd
 by_cases h0 : l = []
 ·subst h0
  clear HT HS HB HB0 HBL hll
  have hb0 : Below w.heap.size w (w.alloc (.cells #[.bool d, .string R, .bool sb, .string W, .slice A ([] : List ByteArray).length c] 24)):=(Below.refl _ _).alloc (Nat.le_refl _) _
  have HB0:=Lib.hid hb0
  clear hb0
  cases d <;> cases sb
  all_goals
   go_enter Tryd.func9, Tryd.ntmps9
   go_wp2_with fail
   refine wp_loop_rounds 1 ?_
   rw [rounds_succ]
   go_wp2_with fail
   go_ret
   refine ⟨?_, HB0.out⟩
   rw [HH.out]
   refine ret_str ((mk_bs' _).symm.trans (congrArg Nm.mk ?_))
   simp only [bs_app]
   simp [headT, verb, reach, attrsT]
   rfl
 ·have HAT : Hid (attrsT l = Nm.join 44 (l.map Nm.bs)):=by
   show _ = _
   unfold attrsT
   rw [if_neg h0]
  have hne : ((l.length : Int) == 0) = false:=by have:=List.length_pos_iff.2 h0; rw [beq_eq_false_iff_ne]; omega
  clear h0
  cases d <;> cases sb
  all_goals
   go_enter Tryd.func9, Tryd.ntmps9
   go_wp2_with fail
   clear a0 a1 a2 a3 a4
   go_loopw [3, 4] (fun b i wr=>∃ (k : Nat) (q : ByteArray), k ≤ l.length ∧ i = .int .i64 k ∧ b = .string q ∧ Hid (Nm.bs q = hd ++ Nm.join 44 ((l.take k).map Nm.bs)) ∧ q.size ≤ 30 + 16 * k ∧ Below w0.heap.size w0 wr) (fun b i wr=>l.length - (intOf i).toNat)
   case atStart =>
    refine ⟨0, _, Nat.zero_le _, rfl, rfl, ?_, ?_, HBL.out⟩
    ·show _ = _
     rw [HH.out]
     simp only [bs_app]
     simp [headT, verb, reach, Nm.join]
     rfl
    ·simp only [ByteArray.size_append]
     have z1 : (⟨#[103, 114, 97, 110, 116, 32]⟩ : ByteArray).size = 6:=rfl
     have z2 : (⟨#[100, 101, 110, 121, 32]⟩ : ByteArray).size = 5:=rfl
     have z3 : (⟨#[32, 115, 117, 98, 32]⟩ : ByteArray).size = 5:=rfl
     have z4 : (⟨#[32, 98, 97, 115, 101, 32]⟩ : ByteArray).size = 6:=rfl
     omega
   case round =>
    obtain ⟨k, q, hk, rfl, rfl, hE, hq, hb⟩:=hrel
    have hbw:=HB0.out.trans (hb.mono HB0.out.size)
    have r4 : wr.cell? ⟨w.heap.size, 4, none⟩ = some (.slice A l.length c):=(HB.out.past hb).cell 4
    by_cases hlt : k < l.length
    ·obtain ⟨b, o, hA, hp, hc⟩:=HS.out.at hb hlt
     rw [hA] at r4
     have hck:=hc k hlt
     have hxz:=HT.out l[k] (List.getElem_mem hlt)
     have hst:=att_step hlt
     obtain ⟨x, hx⟩ : ∃ x, x = l[k]:=⟨_, rfl⟩
     rw [← hx] at hck hxz hst
     have h0k : (¬ 0 < (k : Int) ∧ Hid (hd ++ Nm.join 44 ((l.take (k + 1)).map Nm.bs) = Nm.bs q ++ Nm.bs x)) ∨ (0 < (k : Int) ∧ Hid (hd ++ Nm.join 44 ((l.take (k + 1)).map Nm.bs) = Nm.bs q ++ [44] ++ Nm.bs x)):=by
      by_cases h : k = 0
      ·refine Or.inl ⟨by omega, ?_⟩
       show _ = _
       rw [hst, if_pos h, hE.out]
       subst h
       simp [Nm.join]
      ·refine Or.inr ⟨by omega, ?_⟩
       show _ = _
       rw [hst, if_neg h, hE.out]
       simp
     have HAe:=Lib.hid hA
     clear hst hx hc hA hE
     have n4 : ¬ (9223372036854775807 < q.size + 1):=by omega
     have n5 : ¬ (9223372036854775807 < q.size + 1 + x.size):=by omega
     have n6 : ¬ (9223372036854775807 < q.size + x.size):=by omega
     rcases h0k with ⟨hk0, hST⟩ | ⟨hk0, hST⟩
     ·go_wp2_with fail
      refine ⟨⟨k + 1, _, by omega, by go_num, rfl, ?_, ?_, hb⟩, by simp [intOf]; omega⟩
      ·show _ = _
       rw [hST.out]
       simp only [bs_app]
      ·simp only [ByteArray.size_append]
       omega
     ·go_wp2_with fail
      refine ⟨⟨k + 1, _, by omega, by go_num, rfl, ?_, ?_, hb⟩, by simp [intOf]; omega⟩
      ·show _ = _
       rw [hST.out]
       simp only [bs_app]
      ·simp only [ByteArray.size_append]
       rw [one_size]; omega
    ·have hk2 : k = l.length:=by omega
     have r3 : wr.cell? ⟨w.heap.size, 3, none⟩ = some (.string W):=(HB.out.past hb).cell 3
     have hE2:=hE.out
     rw [hk2, List.take_length] at hE2
     have HE:=Lib.hid hE2
     have n4 : ¬ (9223372036854775807 < q.size + 1):=by omega
     have n5 : ¬ (9223372036854775807 < q.size + 1 + W.size):=by omega
     clear hE hE2 hk2
     go_wp2_with fail
     go_ret
     refine ⟨?_, hbw⟩
     rw [HAT.out, ← HE.out]
     refine ret_str ((mk_bs' _).symm.trans (congrArg Nm.mk ?_))
     simp only [bs_app]
end Go.Proofs.YtpnlalfdgngcdaaDoor.Ru
