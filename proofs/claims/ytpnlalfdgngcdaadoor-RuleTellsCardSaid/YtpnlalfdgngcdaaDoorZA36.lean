import Derived.Test.YtpnlalfdgngcdaaDoorZA35
set_option linter.unusedVariables false
set_option maxRecDepth 100000
namespace Go.Proofs.YtpnlalfdgngcdaaDoor
open Go.RowKit
def DnPostB (B : Nat) (w : World) : Option (List (List Nm.Ava)) → Ending → World → Prop
 | none, e, w'=>e = .returned (.tuple #[.slice none 0 0, .bool false]) ∧ Below B w w'
 | some d, e, w'=>∃ A c, e = .returned (.tuple #[.slice A d.length c, .bool true]) ∧ d.length ≤ c ∧ DAt w' (fun b=>B ≤ b ∧ b < w'.heap.size) A d ∧ Below B w w'
def rdnsD (done : List (List Nm.Ava)) (ps : List (List UInt8)) : Option (List (List Nm.Ava)):=(Nm.rdns ps).bind fun q=>Nm.ifDn (done ++ q)
theorem rdnsD_nil (done : List (List Nm.Ava)) : rdnsD done [] = Nm.ifDn done:=by
 show Nm.ifDn (done ++ []) = _
 rw [List.append_nil]
theorem rdnsD_bad {done : List (List Nm.Ava)} {p : List UInt8} {ps : List (List UInt8)} (h : Nm.rdn p = none) : rdnsD done (p :: ps) = none:=by
 unfold rdnsD
 rw [Nm.rdns_cons, h]
 rfl
theorem rdnsD_good {done : List (List Nm.Ava)} {p : List UInt8} {ps : List (List UInt8)} {a : List Nm.Ava} (h : Nm.rdn p = some a) : rdnsD done (p :: ps) = rdnsD (done ++ [a]) ps:=by
 unfold rdnsD
 rw [Nm.rdns_cons, h]
 simp only
 cases Nm.rdns ps with
 | none=>rfl
 | some q =>
  show Nm.ifDn (done ++ a :: q) = Nm.ifDn ((done ++ [a]) ++ q)
  rw [List.append_assoc]; rfl
set_option maxHeartbeats 8000000 in
theorem rparseD_any (s : ByteArray) (w : World) (hs : s.size ≤ 1000000000) :
  Calls Tryd.prog 17 #[.string s] w (DnPostB w.heap.size w (Nm.dnm (Nm.bs s))):=by
 have CC : Hid (∀ (t : ByteArray) (w : World), t.size ≤ 1000000000 → Calls Tryd.prog 29 #[.string t, .int .u8 44] w fun e w'=>∃ v, e = .returned v ∧ OwnS w' w.heap.size v ((Nm.cuts 44 (Nm.bs t)).map Nm.mk) ∧ Below w.heap.size w w'):=fun t w h=>rcut_any t 44 w h (by decide)
 have CR:=Lib.hid rparseR_any
 have CI:=Lib.hid rIsDn_any
 obtain ⟨R, hR⟩ : ∃ R, R = Nm.dnm (Nm.bs s):=⟨_, rfl⟩
 by_cases h0 : s.size = 0
 ·have h1:=nil_of s h0
  have h2:=Lib.hid (show R = some [] by rw [hR, show Nm.bs s = [] from nilD_of s h0]; rfl)
  rw [← hR]
  clear hR h0
  go_enter Tryd.func17, Tryd.ntmps17
  go_wp2_with fail
  go_ret2
  rw [h2.out]
  exact ⟨none, 0, rfl, Nat.le_refl _, DAt.nil _ _ _, Below.refl _ _⟩
 have hne : Nm.bs s ≠ []:=by
  intro h
  have:=size_eq s
  rw [show s.data.toList = [] from h] at this
  simp at this
  omega
 have H0 : Hid (R = rdnsD [] (Nm.cuts 44 (Nm.bs s))):=by
  show _ = _
  rw [hR]
  unfold Nm.dnm
  rw [if_neg hne]
  rfl
 have hnE:=isE_of s (by omega)
 rw [← hR]
 clear hR h0 hne
 go_enter Tryd.func17, Tryd.ntmps17
 go_wp2_with fail
 refine (CC.out _ _ hs).mono ?_
 rintro e w1 ⟨v, rfl, hS, hb1⟩
 have hne : ((Nm.cuts 44 (Nm.bs s)).map Nm.mk) ≠ []:=by
  intro h
  exact cuts_ne 44 _ (List.map_eq_nil_iff.1 h)
 obtain ⟨g, c, rfl, hG⟩:=hS.open_ hne
 obtain ⟨P, hP⟩ : ∃ P, P = Nm.cuts 44 (Nm.bs s):=⟨_, rfl⟩
 rw [← hP] at hG H0 ⊢
 rw [List.length_map]
 have HG:=Lib.hid hG
 have hcs:=cuts_size 44 _ (Nm.bs s) (Nat.le_refl _)
 rw [← hP, size_eq] at hcs
 obtain ⟨hPl, hPs⟩:=hcs
 have HPs:=Lib.hid hPs
 clear hS hne hG hP hPs
 go_wp2_with fail
 go_loopw [4, 6] (fun dv iv wr=>∃ (i : Nat) (done : List (List Nm.Ava)), i ≤ P.length ∧ iv = .int .i64 i ∧ OwnD wr w1.heap.size dv done ∧ Hid (R = rdnsD done (P.drop i)) ∧ Hid (∀ r ∈ done, Nm.isRdn r = true) ∧ done.length ≤ i ∧ Below w1.heap.size w1 wr) (fun dv iv wr=>P.length - (intOf iv).toNat)
 case atStart=>exact ⟨0, [], Nat.zero_le _, rfl, OwnD.nil _ _, H0, fun r hr=>absurd hr (by simp), Nat.le_refl _, Below.refl _ _⟩
 case round =>
  obtain ⟨i, done, hi, rfl, hO, hE, hA9, hdl, hb⟩:=hrel
  have hsz:=hb.size
  by_cases hlt : i < P.length
  ·have f0:=HG.out.at_ hb (i:=i) (by rw [List.length_map]; exact hlt)
   rw [List.getElem_map] at f0
   obtain ⟨p, hp⟩ : ∃ p : ByteArray, p = Nm.mk P[i]:=⟨_, rfl⟩
   have hpb : P[i] = Nm.bs p:=by rw [hp]
   have hps : p.size ≤ s.size:=by
    have:=HPs.out P[i] (List.getElem_mem hlt)
    rw [hpb] at this
    exact this
   have hE2:=hE.out
   rw [List.drop_eq_getElem_cons hlt, hpb] at hE2
   rw [← hp] at f0
   have CRp:=fun w=>CR.out p w (by omega)
   cases hr : Nm.rdn (Nm.bs p) with
   | none =>
    rw [hr] at CRp
    have HR:=Lib.hid (show R = none by rw [hE2]; exact rdnsD_bad hr)
    have HC:=Lib.hid CRp
    clear hE hE2 CRp hr hpb hp hA9
    go_wp2_with fail
    refine (HC.out _).mono ?_
    rintro e w2 ⟨rfl, hb2⟩
    go_wp2_with fail
    go_ret2
    rw [HR.out]
    exact ⟨rfl, hb1.trans ((hb.trans (hb2.mono hsz)).mono hb1.size)⟩
   | some r =>
    rw [hr] at CRp
    rw [rdnsD_good hr] at hE2
    have hri:=Nm.rdn_is hr
    have HA9 : Hid (∀ q ∈ done ++ [r], Nm.isRdn q = true):=fun q hq=>by
     rcases List.mem_append.1 hq with hq | hq
     ·exact hA9.out q hq
     ·have : q = r:=by simpa using hq
      rw [this]; exact hri
    have HE:=Lib.hid hE2
    have HC:=Lib.hid CRp
    obtain ⟨A0, c0, rfl⟩:=hO.form3
    obtain ⟨n0, hn0⟩ : ∃ n0, n0 = done.length:=⟨_, rfl⟩
    rw [← hn0] at hO
    have HN0:=Lib.hid hn0
    rw [← hn0] at hdl ⊢
    have HO:=Lib.hid hO
    clear hE hE2 CRp hr hpb hp hA9 hri hO hn0
    go_wp2_with fail
    refine (HC.out _).mono ?_
    rintro e w2 ⟨A, c9, rfl, hc9, hA, hb2⟩
    have HO2:=Lib.hid (HO.out.past hb2)
    have hb4:=hb.trans (hb2.mono hsz)
    have hs4:=hb4.size
    have HA : Hid (RAt w2 (fun b=>w1.heap.size ≤ b ∧ b < w2.heap.size ∧ (Value.slice A0 n0 c0).ownBlock ≠ some b) A r):=hA.imp (fun b h=>⟨by omega, h.2, fun e=>by have:=HO.out.lt _ e; omega⟩) (fun _ _=>rfl)
    obtain ⟨n, hn⟩ : ∃ n, n = r.length:=⟨_, rfl⟩
    have HN:=Lib.hid hn
    rw [← hn] at hc9 ⊢
    have B1 : Blk (w2.alloc (.cells #[.slice A n c9] 60)) w2.heap.size 60 #[.slice A n c9]:=Blk.new w2 _ _
    have HA3:=Lib.hid (HA.out.imp (w':=w2.alloc (.cells #[.slice A n c9] 60)) (P':=fun b=>w1.heap.size ≤ b ∧ b < (w2.alloc (.cells #[.slice A n c9] 60)).heap.size ∧ (Value.slice A0 n0 c0).ownBlock ≠ some b) (fun b h=>⟨h.1, by simp; omega, h.2.2⟩) (fun p hp=>World.cell?_alloc_lt _ _ _ hp.2.1))
    clear hA hb2 hn HO HC
    go_wp2_with (at_builtin; go_loud (refine wpList_pushD rfl _ _ rfl w1.heap.size _ done rfl (HO2.out.alloc _) w2.heap.size A r n c9 rfl B1 HN.out (by rw [← HN.out]; exact hc9) HA3.out (by rw [← HN0.out]; omega) (by simp; omega) ?_))
    intro v3 w3 hO3 hb5
    have hb6:=(hb4.alloc hs4 (.cells #[.slice A n c9] 60)).trans hb5
    obtain ⟨A3, c3, rfl⟩:=hO3.form3
    have hl3 : (done ++ [r]).length = n0 + 1:=by rw [List.length_append, List.length_singleton, ← HN0.out]
    rw [hl3] at hO3 ⊢
    have HO3:=Lib.hid hO3
    have HL3:=Lib.hid hl3
    clear hO3 hb5 hl3 B1
    go_wp2_with fail
    refine ⟨⟨i + 1, done ++ [r], by omega, by go_num, HO3.out, HE.out, HA9, by rw [HL3.out]; omega, hb6⟩, by simp [intOf]; omega⟩
  ·have hie : i = P.length:=by omega
   have hE2:=hE.out
   rw [hie, List.drop_length, rdnsD_nil] at hE2
   obtain ⟨A, c9, rfl, hc9, hA⟩:=hO.dn
   have CI1:=CI.out done A c9 wr (hA.imp (fun b h=>h.2) (fun _ _=>rfl)) (by unfold maxLen; omega) (fun r hr=>by
    have:=(Nm.isRdn_all (hA9.out r hr)).2.1
    unfold maxLen; omega)
   obtain ⟨n, hn⟩ : ∃ n, n = done.length:=⟨_, rfl⟩
   have HN:=Lib.hid hn
   rw [← hn] at CI1 hc9 ⊢
   have HA:=Lib.hid hA
   unfold Nm.ifDn at hE2
   clear hE hO hA hn hie hA9
   cases hi9 : Nm.isDn done with
   | false =>
    rw [hi9] at CI1 hE2
    have HR:=Lib.hid (show R = none from hE2)
    have HC:=Lib.hid CI1
    clear hE2 CI1 hi9
    go_wp2_with fail
    refine HC.out.mono ?_
    rintro e w4 ⟨rfl, hb4⟩
    go_wp2_with fail
    go_ret2
    rw [HR.out]
    exact ⟨rfl, hb1.trans ((hb.trans (hb4.mono hsz)).mono hb1.size)⟩
   | true =>
    rw [hi9] at CI1 hE2
    have HR:=Lib.hid (show R = some done from hE2)
    have HC:=Lib.hid CI1
    clear hE2 CI1 hi9
    go_wp2_with fail
    refine HC.out.mono ?_
    rintro e w4 ⟨rfl, hb4⟩
    go_wp2_with fail
    go_ret2
    rw [HR.out]
    refine ⟨A, c9, ?_, by rw [← HN.out]; exact hc9, ?_, hb1.trans ((hb.trans (hb4.mono hsz)).mono hb1.size)⟩
    ·rw [← HN.out]; rfl
    ·have h8:=hb4.size
     have h7:=hb1.size
     exact HA.out.imp (fun b h=>⟨by omega, by omega⟩) (fun p hp=>hb4.cell hp.2)
end Go.Proofs.YtpnlalfdgngcdaaDoor
