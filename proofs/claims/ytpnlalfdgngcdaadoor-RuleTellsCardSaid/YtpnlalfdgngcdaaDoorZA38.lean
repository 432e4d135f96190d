import Derived.Test.YtpnlalfdgngcdaaDoorZA37
set_option linter.unusedVariables false
set_option maxRecDepth 100000
namespace Go.Proofs.YtpnlalfdgngcdaaDoor
open Go.RowKit
set_option maxHeartbeats 1000000 in
theorem rprRdn_any (r : List Nm.Ava) (A : Option Addr) (c : Nat) (w : World) (hr : RAt w (· < w.heap.size) A r) (hok0 : Nm.isRdn r = true) :
  Calls Tryd.prog 32 #[.slice A r.length c] w fun e w'=>e = .returned (.string (Nm.mk (Nm.prRdn r))) ∧ Below w.heap.size w w':=by
 obtain ⟨l1, l4, hok⟩:=Nm.isRdn_all hok0
 have HOK:=Lib.hid hok
 have CV:=Lib.hid rvalue_any
 clear hok0 hok
 go_enter Tryd.func32, Tryd.ntmps32
 go_wp2_with fail
 go_loopw [3, 4] (fun b i wr=>∃ (k : Nat) (q : ByteArray), k ≤ r.length ∧ i = .int .i64 k ∧ b = .string q ∧ Hid (Nm.bs q = Nm.prRdn (r.take k)) ∧ q.size ≤ 198 * k ∧ Below w.heap.size w wr) (fun b i wr=>r.length - (intOf i).toNat)
 case atStart=>exact ⟨0, ⟨#[]⟩, Nat.zero_le _, rfl, rfl, rfl, Nat.le_refl 0, Below.refl _ _⟩
 case round =>
  obtain ⟨k, q, hk, rfl, rfl, hE, hq, hb⟩:=hrel
  have hs:=hb.size
  by_cases hlt : k < r.length
  ·obtain ⟨ad, rfl, hp, f0, f1⟩:=hr.kid hb hlt
   have hok:=HOK.out r[k] (List.getElem_mem hlt)
   have hle2:=Nm.okAva_le hok
   have hpl:=Nm.prAva_le hok
   have hst:=Nm.prRdn_step hlt
   obtain ⟨x, hx⟩ : ∃ x, x = r[k].1:=⟨_, rfl⟩
   obtain ⟨y, hy⟩ : ∃ y, y = r[k].2:=⟨_, rfl⟩
   have hpa : Nm.prAva r[k] = Nm.bs x ++ 61 :: Nm.escV true (Nm.bs y):=by rw [hx, hy]; rfl
   rw [hpa] at hst hpl
   rw [← hx, ← hy] at hle2
   rw [← hx] at f0
   rw [← hy] at f1
   rw [← hE.out] at hst
   obtain ⟨hx16, _, _, hy60⟩:=hle2
   obtain ⟨z, hz⟩ : ∃ z : ByteArray, z = Nm.mk (Nm.escV true (Nm.bs y)):=⟨_, rfl⟩
   have hzb : Nm.escV true (Nm.bs y) = Nm.bs z:=by rw [hz]
   rw [hzb] at hst hpl
   have hzs : z.size ≤ 180:=by
    have:=Nm.escV_le true (Nm.bs y)
    rw [hzb, size_eq, size_eq] at this
    omega
   have C:=fun w=>CV.out y w (by omega)
   rw [← hz] at C
   have HC:=Lib.hid C
   have h0k : (¬ 0 < k ∧ Hid (Nm.prRdn (r.take (k + 1)) = Nm.bs q ++ (Nm.bs x ++ 61 :: Nm.bs z))) ∨ (0 < k ∧ Hid (Nm.prRdn (r.take (k + 1)) = Nm.bs q ++ [43] ++ (Nm.bs x ++ 61 :: Nm.bs z))):=by
    by_cases h : k = 0
    ·refine Or.inl ⟨by omega, ?_⟩
     show _ = _
     have : (Nm.bs q).length = 0:=by rw [size_eq]; omega
     rw [hst, if_pos h, List.eq_nil_of_length_eq_zero this]
    ·exact Or.inr ⟨by omega, by show _ = _; rw [hst, if_neg h]⟩
   have hxz : x.size + 1 + z.size ≤ 197:=by
    rw [List.length_append, List.length_cons, size_eq, size_eq] at hpl
    omega
   clear hst hpa hx hy hz hzb C hok hpl
   rcases h0k with ⟨hk0, hST⟩ | ⟨hk0, hST⟩
   all_goals
    have n1 : ¬ (9223372036854775807 < q.size + x.size):=by omega
    have n2 : ¬ (9223372036854775807 < q.size + x.size + 1):=by omega
    have n3 : ¬ (9223372036854775807 < q.size + x.size + 1 + z.size):=by omega
    have n4 : ¬ (9223372036854775807 < q.size + 1):=by omega
    have n5 : ¬ (9223372036854775807 < q.size + 1 + x.size):=by omega
    have n6 : ¬ (9223372036854775807 < q.size + 1 + x.size + 1):=by omega
    have n7 : ¬ (9223372036854775807 < q.size + 1 + x.size + 1 + z.size):=by omega
    have qlt : (ad.add (k * 2)).block < wr.heap.size:=by rw [block_of_add]; omega
    go_wp2_with fail
    go_region_held3 (fun w'=>w'.cell? (ad.add (k * 2)) = some (.string x) ∧ w'.cell? ⟨(ad.add (k * 2)).block, (ad.add (k * 2)).off + 1, none⟩ = some (.string y)) (first | go_keep | exact ⟨batA hb1 qlt f0, bat hb1 qlt f1⟩) (first | (go_at_call 46; refine (HC.out _).mono ?_; rintro e w1 ⟨rfl, hb1⟩))
    go_wp2_with fail
    refine ⟨⟨k + 1, _, by omega, by go_num, rfl, ?_, ?_, hb.drew.trans (hb1.mono hs)⟩, by simp [intOf]; omega⟩
    ·show _ = _
     rw [hST.out]
     simp only [bs_app, List.append_assoc, List.singleton_append]
     rfl
    ·simp only [ByteArray.size_append, one_size]
     omega
  ·have hk2 : k = r.length:=by omega
   have hE2:=hE.out
   rw [hk2, List.take_length] at hE2
   have HE:=Lib.hid hE2
   clear hE hE2 hk2
   go_wp2_with fail
   go_ret
   exact ⟨by rw [← HE.out, mk_bs]; rfl, hb⟩
set_option maxHeartbeats 1000000 in
theorem rprDn_any (d : List (List Nm.Ava)) (A : Option Addr) (c : Nat) (w : World) (hd : DAt w (· < w.heap.size) A d) (hok0 : Nm.isDn d = true) :
  Calls Tryd.prog 18 #[.slice A d.length c] w fun e w'=>e = .returned (.string (Nm.mk (Nm.prDn d))) ∧ Below w.heap.size w w':=by
 obtain ⟨l8, hok⟩:=Nm.isDn_all hok0
 have HOK:=Lib.hid hok
 have CV:=Lib.hid rprRdn_any
 clear hok0 hok
 go_enter Tryd.func18, Tryd.ntmps18
 go_wp2_with fail
 go_loopw [3, 4] (fun b i wr=>∃ (k : Nat) (q : ByteArray), k ≤ d.length ∧ i = .int .i64 k ∧ b = .string q ∧ Hid (Nm.bs q = Nm.prDn (d.take k)) ∧ q.size ≤ 793 * k ∧ Below w.heap.size w wr) (fun b i wr=>d.length - (intOf i).toNat)
 case atStart=>exact ⟨0, ⟨#[]⟩, Nat.zero_le _, rfl, rfl, rfl, Nat.le_refl 0, Below.refl _ _⟩
 case round =>
  obtain ⟨k, q, hk, rfl, rfl, hE, hq, hb⟩:=hrel
  have hs:=hb.size
  by_cases hlt : k < d.length
  ·obtain ⟨ad, A', c', rfl, hp, f0, hc', hR⟩:=hd.kid hb hlt
   have hok:=HOK.out d[k] (List.getElem_mem hlt)
   have hpl:=Nm.prRdn_le hok
   have hst:=Nm.prDn_step hlt
   rw [← hE.out] at hst
   have HCP:=fun w (h : RAt w (· < w.heap.size) A' d[k])=>CV.out d[k] A' c' w h hok
   obtain ⟨m, hm⟩ : ∃ m, m = d[k].length:=⟨_, rfl⟩
   rw [← hm] at f0 HCP
   obtain ⟨r, hr⟩ : ∃ r, r = d[k]:=⟨_, rfl⟩
   rw [← hr] at HCP hst hpl hR
   obtain ⟨x, hx⟩ : ∃ x : ByteArray, x = Nm.mk (Nm.prRdn r):=⟨_, rfl⟩
   have hxb : Nm.prRdn r = Nm.bs x:=by rw [hx]
   have hxs : x.size ≤ 792:=by rw [← size_eq]; show (Nm.bs x).length ≤ 792; rw [← hxb]; exact hpl
   rw [← hx] at HCP
   rw [hxb] at hst
   have HP:=Lib.hid HCP
   have HR:=Lib.hid hR
   have h0k : (¬ 0 < k ∧ Hid (Nm.prDn (d.take (k + 1)) = Nm.bs q ++ Nm.bs x)) ∨ (0 < k ∧ Hid (Nm.prDn (d.take (k + 1)) = Nm.bs q ++ [44] ++ Nm.bs x)):=by
    by_cases h : k = 0
    ·refine Or.inl ⟨by omega, ?_⟩
     show _ = _
     have : (Nm.bs q).length = 0:=by rw [size_eq]; omega
     rw [hst, if_pos h, List.eq_nil_of_length_eq_zero this]
    ·exact Or.inr ⟨by omega, by show _ = _; rw [hst, if_neg h]⟩
   clear hst hm hr hx hxb HCP hok hpl hR hc'
   rcases h0k with ⟨hk0, hST⟩ | ⟨hk0, hST⟩
   all_goals
    have n1 : ¬ (9223372036854775807 < q.size + x.size):=by omega
    have n4 : ¬ (9223372036854775807 < q.size + 1):=by omega
    have n5 : ¬ (9223372036854775807 < q.size + 1 + x.size):=by omega
    go_wp2_with fail
    refine (HP.out _ HR.out).mono ?_
    rintro e w1 ⟨rfl, hb1⟩
    go_wp2_with fail
    refine ⟨⟨k + 1, _, by omega, by go_num, rfl, ?_, ?_, hb.trans (hb1.mono hs)⟩, by simp [intOf]; omega⟩
    ·show _ = _
     rw [hST.out]
     simp only [bs_app]
    ·simp only [ByteArray.size_append]
     first | omega | (rw [one_size]; omega)
  ·have hk2 : k = d.length:=by omega
   have hE2:=hE.out
   rw [hk2, List.take_length] at hE2
   have HE:=Lib.hid hE2
   clear hE hE2 hk2
   go_wp2_with fail
   go_ret
   exact ⟨by rw [← HE.out, mk_bs]; rfl, hb⟩
end Go.Proofs.YtpnlalfdgngcdaaDoor
