import Derived.Test.YtpnlalfdgngcdaaDoorZA24
set_option linter.unusedVariables false
set_option maxRecDepth 100000
namespace Go.Proofs.YtpnlalfdgngcdaaDoor
open Go.RowKit
set_option maxHeartbeats 1000000 in
theorem isDn_any (d : List (List Nm.Ava)) (A : Option Addr) (c : Nat) (w : World) (hd : DAt w (· < w.heap.size) A d) (hl : d.length ≤ maxLen) (hk : ∀ r ∈ d, r.length ≤ maxLen) :
  Calls Tryd.prog 53 #[.slice A d.length c] w fun e w'=>e = .returned (.bool (Nm.isDn d)) ∧ Below w.heap.size w w':=by
 unfold maxLen at hl
 have C:=Lib.hid isRdn_any
 have HK:=Lib.hid (fun (k : Nat) (h : k < d.length)=>hk d[k] (List.getElem_mem h))
 clear hk
 by_cases h0 : 8 < (d.length : Int)
 ·have hF:=Lib.hid (show Nm.isDn d = false by unfold Nm.isDn; rw [decide_eq_false (by omega)]; rfl)
  go_enter Tryd.func53, Tryd.ntmps53
  go_wp2_with fail
  go_ret
  exact ⟨ret_bool hF.out.symm, Below.refl _ _⟩
 have h1 : (d.length : Int) ≤ 8:=by omega
 have hF:=Lib.hid (show Nm.isDn d = (d.drop 0).all Nm.isRdn by unfold Nm.isDn; rw [decide_eq_true (by omega)]; rfl)
 clear h0
 go_enter Tryd.func53, Tryd.ntmps53
 go_wp2_with fail
 go_loopw [10] (fun i wr=>∃ k : Nat, k ≤ d.length ∧ i = .int .i64 k ∧ Hid (Nm.isDn d = (d.drop k).all Nm.isRdn) ∧ Below w.heap.size w wr) (fun i wr=>d.length - (intOf i).toNat)
 case atStart=>exact ⟨0, Nat.zero_le _, rfl, hF, Below.refl _ _⟩
 case round =>
  obtain ⟨k, hk, rfl, hE, hb⟩:=hrel
  have hs:=hb.size
  by_cases hlt : k < d.length
  ·obtain ⟨ad, A', c', rfl, hp, f0, hc', hR⟩:=hd.kid hb hlt
   have hE2:=hE.out
   rw [all_step hlt] at hE2
   have CR:=C.out d[k] A' c' wr hR (HK.out k hlt) hc'
   obtain ⟨m, hm⟩ : ∃ m, m = d[k].length:=⟨_, rfl⟩
   rw [← hm] at f0 CR
   obtain ⟨tt, htt⟩ : ∃ tt, tt = Nm.isRdn d[k]:=⟨_, rfl⟩
   rw [← htt] at hE2 CR
   have HE:=Lib.hid hE2
   have HC:=Lib.hid CR
   clear hm htt hE hE2 CR hR hF hc'
   cases tt
   ·go_wp2_with fail
    refine HC.out.mono ?_
    rintro e w1 ⟨rfl, hb1⟩
    go_wp2_with fail
    go_ret
    refine ⟨ret_bool ?_, hb.trans (hb1.mono hs)⟩
    rw [HE.out]; rfl
   ·go_wp2_with fail
    refine HC.out.mono ?_
    rintro e w1 ⟨rfl, hb1⟩
    go_wp2_with fail
    go_roundw
    case rel =>
     refine ⟨k + 1, by omega, by go_num, ?_, hb.trans (hb1.mono hs)⟩
     show _ = _
     rw [HE.out]; rfl
    case measure=>simp [intOf]; omega
  ·have hk2 : k = d.length:=by omega
   have hE2:=hE.out
   rw [hk2, List.drop_length] at hE2
   have HE:=Lib.hid hE2
   clear hE hE2 hk2
   go_wp2_with fail
   go_ret
   refine ⟨ret_bool ?_, hb⟩
   rw [HE.out]
   rfl
end Go.Proofs.YtpnlalfdgngcdaaDoor
namespace Go.Proofs.YtpnlalfdgngcdaaDoor
open Go.RowKit
def prDnV (d : List (List Nm.Ava)) : List UInt8:=if Nm.isDn d then Nm.prDn d else []
set_option maxHeartbeats 1000000 in
theorem prDn_any (d : List (List Nm.Ava)) (A : Option Addr) (c : Nat) (w : World) (hd : DAt w (· < w.heap.size) A d) (hl : d.length ≤ maxLen) (hk : ∀ r ∈ d, r.length ≤ maxLen) :
  Calls Tryd.prog 39 #[.slice A d.length c] w fun e w'=>e = .returned (.string (Nm.mk (prDnV d))) ∧ Below w.heap.size w w':=by
 have CI:=isDn_any d A c w hd hl hk
 unfold maxLen at hl
 by_cases h0 : Nm.isDn d = false
 ·have hF:=Lib.hid (show prDnV d = [] by unfold prDnV; rw [h0]; rfl)
  rw [h0] at CI
  have HC:=Lib.hid CI
  clear CI
  go_enter Tryd.func39, Tryd.ntmps39
  go_wp2_with fail
  refine HC.out.mono ?_
  rintro e w1 ⟨rfl, hb1⟩
  go_wp2_with fail
  go_ret
  exact ⟨by rw [hF.out]; rfl, hb1⟩
 have h1 : Nm.isDn d = true:=by simpa using h0
 obtain ⟨l8, hok⟩:=Nm.isDn_all h1
 have hF:=Lib.hid (show prDnV d = Nm.prDn d by unfold prDnV; rw [h1]; rfl)
 rw [h1] at CI
 have HC:=Lib.hid CI
 have HOK:=Lib.hid hok
 have CP:=Lib.hid prRdn_any
 have HK:=Lib.hid (fun (k : Nat) (h : k < d.length)=>hk d[k] (List.getElem_mem h))
 clear CI h0 h1 hok hk
 go_enter Tryd.func39, Tryd.ntmps39
 go_wp2_with fail
 refine HC.out.mono ?_
 rintro e w1 ⟨rfl, hb1⟩
 have hd1:=hd.past hb1
 clear hd
 go_wp2_with fail
 go_loopw [3, 11] (fun b i wr=>∃ k : Nat, k ≤ d.length ∧ i = .int .i64 k ∧ Own wr w1.heap.size b (Nm.prDn (d.take k)) ∧ Below w1.heap.size w1 wr) (fun b i wr=>d.length - (intOf i).toNat)
 case atStart=>exact ⟨0, Nat.zero_le _, rfl, Own.nil _ _, Below.refl _ _⟩
 case round =>
  obtain ⟨k, hk, rfl, hO, hb2⟩:=hrel
  have hs:=hb2.size
  by_cases hlt : k < d.length
  ·obtain ⟨ad, A', c', rfl, hp, g0, hc', hR⟩:=hd1.kid (Below.refl _ _) hlt
   have f0:=batA hb2 (by rw [block_of_add]; exact hp) g0
   have hle:=Nm.prDn_take_le HOK.out k hk
   have hok:=HOK.out d[k] (List.getElem_mem hlt)
   have hle2:=Nm.prRdn_le hok
   have hst:=Nm.prDn_step hlt
   have hpv:=prRdnV_of hok
   have HCP:=fun w (h : RAt w (· < w.heap.size) A' d[k])=>CP.out d[k] A' c' w h (HK.out k hlt) hc'
   rw [hpv] at HCP
   obtain ⟨m, hm⟩ : ∃ m, m = d[k].length:=⟨_, rfl⟩
   rw [← hm] at f0 g0 HCP
   obtain ⟨r, hr⟩ : ∃ r, r = d[k]:=⟨_, rfl⟩
   rw [← hr] at HCP hst hle2 hR
   obtain ⟨x, hx⟩ : ∃ x : ByteArray, x = Nm.mk (Nm.prRdn r):=⟨_, rfl⟩
   have hxb : Nm.prRdn r = Nm.bs x:=by rw [hx]
   have hxs : x.size ≤ 792:=by rw [← size_eq]; show (Nm.bs x).length ≤ 792; rw [← hxb]; exact hle2
   rw [← hx] at HCP
   rw [hxb] at hst
   have HST:=Lib.hid hst
   have HP:=Lib.hid HCP
   have HR:=Lib.hid hR
   obtain ⟨L, hL⟩ : ∃ L, L = Nm.prDn (d.take k):=⟨_, rfl⟩
   rw [← hL] at hle hO HST
   have HB2:=Lib.hid hb2
   clear hst hpv hok hm hr hx hxb hL hle2 HCP hR hc' hb2 g0
   have h0k : (¬ 0 < k ∧ Hid ((if k = 0 then [] else L ++ [44]) = L)) ∨ (0 < k ∧ Hid ((if k = 0 then [] else L ++ [44]) = L ++ [44])):=by
    by_cases h : k = 0
    ·refine Or.inl ⟨by omega, ?_⟩
     show _ = _
     have : L.length = 0:=by omega
     rw [if_pos h, List.eq_nil_of_length_eq_zero this]
    ·exact Or.inr ⟨by omega, by show _ = _; rw [if_neg h]⟩
   rcases h0k with ⟨hk0, hif⟩ | ⟨hk0, hif⟩
   focus
    rw [hif.out] at HST
    go_wp2_with fail
    refine (HP.out _ (HR.out.past HB2.out)).mono ?_
    rintro e w2 ⟨rfl, hb3⟩
    have hb4:=HB2.out.trans (hb3.mono hs)
    have hO2:=hO.past hb3
    obtain ⟨M, hM⟩ : ∃ M, M = L:=⟨_, rfl⟩
    rw [← hM] at HST hO2 hle
    have hle3 : M.length ≤ 793 * k + 1:=by omega
    obtain ⟨v2, hv2⟩ : ∃ v2, v2 = u3:=⟨_, rfl⟩
    rw [← hv2] at hO2 ⊢
    clear hM hv2
   rotate_left
   focus
    rw [hif.out] at HST
    have B44 : Blk (wr.alloc (.cells #[.int .u8 44] 5)) wr.heap.size 5 (Lib.byteCells [44]).toArray:=Blk.new wr _ _
    go_wp2_with (at_builtin; go_loud (refine wpList_push rfl _ _ rfl w1.heap.size u3 L rfl (hO.alloc _) wr.heap.size 1 1 [44] rfl rfl B44 (by simp; omega) (by simp; omega) ?_))
    intro v2 wP hOP hbP hgP
    have hbP2:=(HB2.out.alloc hs (.cells #[.int .u8 44] 5)).trans hbP
    have hsP:=hbP2.size
    go_wp2_with fail
    refine (HP.out _ (HR.out.past hbP2)).mono ?_
    rintro e w2 ⟨rfl, hb3⟩
    have hb4:=hbP2.trans (hb3.mono hsP)
    have hO2:=hOP.past hb3
    obtain ⟨M, hM⟩ : ∃ M, M = L ++ [44]:=⟨_, rfl⟩
    have hle3 : M.length ≤ 793 * k + 1:=by rw [hM, List.length_append, List.length_singleton]; omega
    rw [← hM] at HST hO2
    clear hM hOP hbP hgP B44
   rotate_left
   all_goals
    have hs4:=hb4.size
    clear hO hb3 HP HR
    go_wp2_with (at_builtin; go_loud (refine wpList_pushS rfl _ _ rfl w1.heap.size v2 M rfl hO2 x rfl (by omega) (by omega) ?_))
    intro v5 w5 hO5 hb5 hg5
    have hb6:=hb4.trans hb5
    obtain ⟨A7, n7, c7, rfl⟩:=hO5.form3
    have HO5:=Lib.hid hO5
    clear hO5 hb5 hg5
    go_wp2_with fail
    go_roundw
    case rel =>
     refine ⟨k + 1, by omega, by go_num, ?_, hb6⟩
     rw [HST.out]
     exact HO5.out
    case measure=>simp [intOf]; omega
  ·have hk2 : k = d.length:=by omega
   rw [hk2, List.take_length] at hO
   have E:=hO.string
   clear hk2
   go_wp2_with fail
   go_ret
   exact ⟨by rw [hF.out]; rfl, hb1.trans (hb2.mono hb1.size)⟩
end Go.Proofs.YtpnlalfdgngcdaaDoor
