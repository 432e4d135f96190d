import Derived.Test.YtpnlalfdgngcdaaDoorZA34
import Derived.Test.YtpnlalfdgngcdaaDoorZA33
import Derived.Test.YtpnlalfdgngcdaaDoorZA22
set_option linter.unusedVariables false
set_option maxRecDepth 100000
namespace Go.Proofs.YtpnlalfdgngcdaaDoor
open Go.RowKit
def RdnPostB (B : Nat) (w : World) : Option (List Nm.Ava) → Ending → World → Prop
 | none, e, w'=>e = .returned (.tuple #[.slice none 0 0, .bool false]) ∧ Below B w w'
 | some r, e, w'=>∃ A c, e = .returned (.tuple #[.slice A r.length c, .bool true]) ∧ r.length ≤ c ∧ RAt w' (fun b=>B ≤ b ∧ b < w'.heap.size) A r ∧ Below B w w'
def StrB (w : World) (g : Nat) (ps : List ByteArray) : Prop:=g < w.heap.size ∧ ∀ i (h : i < ps.length), w.cell? ⟨g, i, none⟩ = some (.string ps[i])
theorem OwnS.open_ {w : World} {base : Nat} {v : Value} {ps : List ByteArray} (h : OwnS w base v ps) (h0 : ps ≠ []) : ∃ g c, v = .slice (some ⟨g, 0, none⟩) ps.length c ∧ StrB w g ps:=by
 have h9:=h
 rcases h.2 with ⟨rfl, h1⟩ | ⟨g, cap, cur, rfl, hg, hh, _⟩
 ·exact absurd (List.eq_nil_of_length_eq_zero h1) h0
 ·refine ⟨g, cap, rfl, ?_, fun i hi=>own_cell h9 i _ (by rw [List.getElem?_map, List.getElem?_eq_getElem hi]; rfl)⟩
  rcases Nat.lt_or_ge g w.heap.size with h' | h'
  ·exact h'
  ·simp [Array.getElem?_eq_none h'] at hh
theorem StrB.at_ {w wr : World} {g : Nat} {ps : List ByteArray} (h : StrB w g ps) (hb : Below w.heap.size w wr) {i : Nat} (hi : i < ps.length) : wr.cell? ⟨g, i, none⟩ = some (.string ps[i]):=bat hb h.1 (h.2 i hi)
def refD (done : List Nm.Ava) (ps : List (List UInt8)) : Option (List Nm.Ava):=(Nm.refAvas ps).bind fun q=>Nm.ifRdn (done ++ q)
theorem refD_nil (done : List Nm.Ava) : refD done [] = Nm.ifRdn done:=by
 show Nm.ifRdn (done ++ []) = _
 rw [List.append_nil]
theorem refD_bad {done : List Nm.Ava} {p : List UInt8} {ps : List (List UInt8)} (h : Nm.refAva p = none) : refD done (p :: ps) = none:=by
 unfold refD
 rw [Nm.refAvas, h]
 rfl
theorem refD_good {done : List Nm.Ava} {p : List UInt8} {ps : List (List UInt8)} {a : Nm.Ava} (h : Nm.refAva p = some a) : refD done (p :: ps) = refD (done ++ [a]) ps:=by
 unfold refD
 rw [Nm.refAvas, h]
 simp only
 cases Nm.refAvas ps with
 | none=>rfl
 | some q =>
  show Nm.ifRdn (done ++ a :: q) = Nm.ifRdn ((done ++ [a]) ++ q)
  rw [List.append_assoc]; rfl
theorem eqAt_here {l : List UInt8} {k : Nat} (h : k < l.length) (hc : l[k] = 61) : Nm.eqAt (l.drop k) = some 0:=by
 rw [List.drop_eq_getElem_cons h, Nm.eqAt, if_pos hc]
theorem eqAt_on {l : List UInt8} {k : Nat} (h : k < l.length) (hc : l[k] ≠ 61) : Nm.eqAt (l.drop k) = (Nm.eqAt (l.drop (k + 1))).map (· + 1):=by
 rw [List.drop_eq_getElem_cons h, Nm.eqAt, if_neg hc]
theorem cuts_size (sep : UInt8) : ∀ (n : Nat) (l : List UInt8), l.length ≤ n → (Nm.cuts sep l).length ≤ l.length + 1 ∧ ∀ p ∈ Nm.cuts sep l, p.length ≤ l.length
  | 0, l, h => by
    have : l = [] := List.eq_nil_of_length_eq_zero (by omega)
    subst this
    exact ⟨Nat.le_refl _, fun p hp => by have : p = [] := by simpa [Nm.cuts] using hp
                                         rw [this]; exact Nat.le_refl _⟩
  | n + 1, l, h => by
    have hc := Nm.cuts_pos sep l
    cases hp : Nm.pos sep l with
    | none =>
      rw [hp] at hc
      rw [hc]
      refine ⟨by simp, fun p h9 => ?_⟩
      have : p = l := by simpa using h9
      rw [this]; exact Nat.le_refl _
    | some i =>
      rw [hp] at hc
      have hi := pos_lt hp
      obtain ⟨h1, h2⟩ := cuts_size sep n (l.drop (i + 1)) (by rw [List.length_drop]; omega)
      rw [List.length_drop] at h1 h2
      rw [hc]
      refine ⟨by simp only [List.length_cons]; omega, fun p h9 => ?_⟩
      rcases List.mem_cons.1 h9 with rfl | h9
      · rw [List.length_take]; omega
      · have := h2 p h9; omega
theorem refAva_noEq {p : List UInt8} (h : Nm.eqAt p = none) : Nm.refAva p = none:=by
 unfold Nm.refAva Nm.ava
 rw [h]
 split <;> rfl
theorem refAva_comma {p : List UInt8} (h : 1 < (Nm.cuts 44 p).length) : Nm.refAva p = none:=by
 unfold Nm.refAva
 rw [if_pos h]
theorem refAva_val {p : List UInt8} {j : Nat} (h : ¬ 1 < (Nm.cuts 44 p).length) (he : Nm.eqAt p = some j) : Nm.refAva p = (Nm.unVal Nm.special true (p.drop (j + 1))).map fun v=>(Nm.mk (Nm.lower (p.take j)), Nm.mk v):=by
 unfold Nm.refAva
 rw [if_neg h]
 cases hv : Nm.unVal Nm.special true (p.drop (j + 1)) with
 | some v=>rw [Nm.ava_mk he hv]; rfl
 | none =>
  cases ha : Nm.ava p with
  | none=>rfl
  | some a =>
   obtain ⟨k, v, h1, h2, _⟩:=Nm.ava_some ha
   rw [he] at h1
   injection h1 with h1
   subst h1
   rw [hv] at h2; cases h2
set_option maxHeartbeats 8000000 in
theorem rparseR_any (s : ByteArray) (w : World) (hs : s.size ≤ 1000000000) :
  Calls Tryd.prog 30 #[.string s] w (RdnPostB w.heap.size w (Nm.rdn (Nm.bs s))):=by
 have H0:=Lib.hid (Nm.ref_rdn (Nm.bs s))
 have CC : Hid (∀ (t : ByteArray) (w : World), t.size ≤ 1000000000 → Calls Tryd.prog 29 #[.string t, .int .u8 43] w fun e w'=>∃ v, e = .returned v ∧ OwnS w' w.heap.size v ((Nm.cuts 43 (Nm.bs t)).map Nm.mk) ∧ Below w.heap.size w w'):=fun t w h=>rcut_any t 43 w h (by decide)
 have C4 : Hid (∀ (t : ByteArray) (w : World), t.size ≤ 1000000000 → Calls Tryd.prog 29 #[.string t, .int .u8 44] w fun e w'=>∃ v, e = .returned v ∧ OwnS w' w.heap.size v ((Nm.cuts 44 (Nm.bs t)).map Nm.mk) ∧ Below w.heap.size w w'):=fun t w h=>rcut_any t 44 w h (by decide)
 have CP:=Lib.hid plain_any
 have CL:=Lib.hid rlower_any
 have CI:=Lib.hid rIsRdn_any
 obtain ⟨R, hR⟩ : ∃ R, R = Nm.rdn (Nm.bs s):=⟨_, rfl⟩
 rw [← hR] at H0 ⊢
 clear hR
 go_enter Tryd.func30, Tryd.ntmps30
 go_wp2_with fail
 refine (CC.out _ _ hs).mono ?_
 rintro e w1 ⟨v, rfl, hS, hb1⟩
 have hne : ((Nm.cuts 43 (Nm.bs s)).map Nm.mk) ≠ []:=by
  intro h
  exact cuts_ne 43 _ (List.map_eq_nil_iff.1 h)
 obtain ⟨g, c, rfl, hG⟩:=hS.open_ hne
 obtain ⟨P, hP⟩ : ∃ P, P = Nm.cuts 43 (Nm.bs s):=⟨_, rfl⟩
 rw [← hP] at hG H0 ⊢
 rw [List.length_map]
 have HG:=Lib.hid hG
 have HP:=Lib.hid hP
 have hcs:=cuts_size 43 _ (Nm.bs s) (Nat.le_refl _)
 rw [← hP, size_eq] at hcs
 obtain ⟨hPl, hPs⟩:=hcs
 have HPs:=Lib.hid hPs
 have H1 : Hid (R = refD [] (P.drop 0)):=by
  show _ = _
  rw [List.drop_zero, ← H0.out]
  rfl
 clear hS hne hG hP hPs H0
 go_wp2_with fail
 go_loopw [4, 6] (fun rv iv wr=>∃ (i : Nat) (done : List Nm.Ava), i ≤ P.length ∧ iv = .int .i64 i ∧ OwnA wr w1.heap.size rv done ∧ Hid (R = refD done (P.drop i)) ∧ done.length ≤ i ∧ Below w1.heap.size w1 wr) (fun rv iv wr=>P.length - (intOf iv).toNat)
 case atStart=>exact ⟨0, [], Nat.zero_le _, rfl, OwnA.nil _ _, H1, Nat.le_refl _, Below.refl _ _⟩
 case round =>
  obtain ⟨i, done, hi, rfl, hO, hE, hdl, hb⟩:=hrel
  have hsz:=hb.size
  by_cases hlt : i < P.length
  ·have f0:=HG.out.at_ hb (i:=i) (by rw [List.length_map]; exact hlt)
   rw [List.getElem_map] at f0
   obtain ⟨p, hp⟩ : ∃ p : ByteArray, p = Nm.mk P[i]:=⟨_, rfl⟩
   have hpb : P[i] = Nm.bs p:=by rw [hp]
   have hps : p.size ≤ s.size:=by
    have:=HPs.out P[i] (List.getElem_mem hlt)
    rw [hpb] at this
    exact this
   have hE2:=hE.out
   rw [List.drop_eq_getElem_cons hlt, hpb] at hE2
   rw [← hp] at f0
   have HE:=Lib.hid hE2
   have F0:=Lib.hid f0
   have hEq0 : Hid (Nm.eqAt (Nm.bs p) = (Nm.eqAt ((Nm.bs p).drop 0)).map (· + 0)):=by
    show _ = _
    rw [List.drop_zero]
    cases Nm.eqAt (Nm.bs p) <;> rfl
   clear hE hE2 hpb hp
   go_wp2_with fail
   go_loopw [7] (fun kv wz=>∃ (j : Nat), j ≤ p.size ∧ kv = .int .i64 j ∧ OwnA wz w1.heap.size u4 done ∧ Hid (Nm.eqAt (Nm.bs p) = (Nm.eqAt ((Nm.bs p).drop j)).map (· + j)) ∧ wz.cell? ⟨g, i, none⟩ = some (.string p) ∧ Below w1.heap.size w1 wz) (fun kv wz=>p.size - (intOf kv).toNat)
   case atStart=>exact ⟨0, Nat.zero_le _, rfl, hO, hEq0, f0, hb⟩
   case round =>
    obtain ⟨j, hj, rfl, hO, hQ, f0, hb⟩:=hrel
    have hsz:=hb.size
    by_cases hjl : j < p.size
    ·obtain ⟨c, hc⟩ : ∃ c, c = p[j]:=⟨_, rfl⟩
     have hcr : ∀ h, p[j]'h = c:=fun _=>hc.symm
     have hcl : (Nm.bs p)[j]'hjl = c:=hc.symm
     have h256:=u8_lt c
     clear hc
     by_cases h61 : c = 61
     ·have hQ2:=hQ.out
      rw [eqAt_here hjl (by rw [hcl]; exact h61)] at hQ2
      have HQ:=Lib.hid (show Nm.eqAt (Nm.bs p) = some j by rw [hQ2]; simp)
      have hn : (c.toNat : Int) = 61:=by rw [h61]; rfl
      have hjn : ((j : Int) == p.size) = false:=by rw [beq_eq_false_iff_ne]; omega
      clear hQ hQ2 h61 hcl
      go_wp2_with fail
      refine (C4.out p wr (by omega)).mono ?_
      rintro e w2 ⟨v2, rfl, hS2, hb2⟩
      have hb3:=hb.trans (hb2.mono hsz)
      have hs3:=hb3.size
      have hO2:=hO.past hb2
      have f1:=bat hb2 (cell_lt f0) f0
      obtain ⟨A2, c2, hv2⟩ : ∃ A c, v2 = .slice A (Nm.cuts 44 (Nm.bs p)).length c:=by
       rcases hS2.2 with ⟨rfl, h0⟩ | ⟨g, cap, cur, rfl, _⟩
       ·exact ⟨none, 0, by rw [List.length_map] at h0; rw [h0]⟩
       ·exact ⟨_, _, by rw [List.length_map]⟩
      obtain ⟨M, hM⟩ : ∃ M, M = (Nm.cuts 44 (Nm.bs p)).length:=⟨_, rfl⟩
      rw [← hM] at hv2
      subst hv2
      have HM:=Lib.hid hM
      clear hM hS2 hO hb2 f0 hb
      by_cases h1 : 1 < M
      ·have HR:=Lib.hid (show R = none by rw [HE.out]; exact refD_bad (refAva_comma (by rw [← HM.out]; exact h1)))
       have h1i : (1 : Int) < M:=by omega
       go_wp2_with fail
       go_ret2
       rw [HR.out]
       exact ⟨rfl, hb1.trans (hb3.mono hb1.size)⟩
      ·have HRV:=Lib.hid (refAva_val (p:=Nm.bs p) (j:=j) (by rw [← HM.out]; exact h1) HQ.out)
       obtain ⟨t, ht⟩ : ∃ t, t = p.extract (j + 1) p.size:=⟨_, rfl⟩
       have hX : p.extract (j + 1) p.size = t:=ht.symm
       have htb : Nm.bs t = (Nm.bs p).drop (j + 1):=by rw [ht, ext_from]
       have hts : t.size ≤ p.size:=by rw [ht, ByteArray.size_extract]; omega
       have hj1 : (j : Int) + 1 ≤ p.size:=by omega
       have h1i : (M : Int) ≤ 1:=by omega
       have CPt:=fun w=>CP.out t w (by omega)
       rw [← htb] at HRV
       clear ht htb
       cases hu : Nm.unVal Nm.special true (Nm.bs t) with
       | none =>
        rw [hu] at CPt HRV
        have HR:=Lib.hid (show R = none by rw [HE.out]; exact refD_bad HRV.out)
        have HC:=Lib.hid (show ∀ w, Calls Tryd.prog 44 #[.string t] w fun e w'=>e = .returned (.tuple #[.string ⟨#[]⟩, .bool false]) ∧ Below w.heap.size w w' from CPt)
        clear CPt hu HRV
        go_wp2_with fail
        refine (HC.out _).mono ?_
        rintro e w4 ⟨rfl, hb4⟩
        go_wp2_with fail
        go_ret2
        rw [HR.out]
        exact ⟨rfl, hb1.trans ((hb3.trans (hb4.mono hs3)).mono hb1.size)⟩
       | some v =>
        rw [hu] at CPt HRV
        obtain ⟨z, hz⟩ : ∃ z, z = Nm.mk v:=⟨_, rfl⟩
        have HC:=Lib.hid (show ∀ w, Calls Tryd.prog 44 #[.string t] w fun e w'=>e = .returned (.tuple #[.string z, .bool true]) ∧ Below w.heap.size w w' by rw [hz]; exact CPt)
        obtain ⟨q, hq⟩ : ∃ q, q = p.extract 0 j:=⟨_, rfl⟩
        have hXq : p.extract 0 j = q:=hq.symm
        have hqb : Nm.bs q = (Nm.bs p).take j:=by rw [hq, ext_to]
        have hqs : q.size ≤ p.size:=by rw [hq, ByteArray.size_extract]; omega
        obtain ⟨x, hx⟩ : ∃ x, x = Nm.mk (Nm.lower (Nm.bs q)):=⟨_, rfl⟩
        have HL : Hid (∀ w, Calls Tryd.prog 28 #[.string q] w fun e w'=>e = .returned (.string x) ∧ Below w.heap.size w w'):=fun w=>by rw [hx]; exact CL.out q w (by omega)
        have HRV2 : Hid (Nm.refAva (Nm.bs p) = some (x, z)):=by
         show _ = _
         rw [HRV.out, hx, hz, hqb]
         rfl
        have HE4 : Hid (R = refD (done ++ [(x, z)]) (P.drop (i + 1))):=by
         show _ = _
         rw [HE.out, refD_good HRV2.out]
        clear CPt hu HRV hz hq hqb hx HRV2
        go_wp2_with fail
        refine (HC.out _).mono ?_
        rintro e w4 ⟨rfl, hb4⟩
        have f2:=bat hb4 (cell_lt f1) f1
        have hb5:=hb3.trans (hb4.mono hs3)
        have hs5:=hb5.size
        have hO5:=hO2.past hb4
        clear f1 hb4 hO2 hb3 HC
        go_wp2_with fail
        refine (HL.out _).mono ?_
        rintro e w6 ⟨rfl, hb6⟩
        have hb7:=hb5.trans (hb6.mono hs5)
        have hs7:=hb7.size
        have hO7:=hO5.past hb6
        have B1:=Blk.new w6 83 #[.string x, .string z]
        clear hO5 hb6 hb5
        go_wp2_with (at_builtin; go_loud (refine wpList_pushA rfl _ _ rfl w1.heap.size u4 done rfl (hO7.alloc _) w6.heap.size x z rfl B1 (by omega) (by simp; omega) ?_))
        intro v8 w8 hO8 hb8 hg8
        have hb9:=(hb7.alloc hs7 (.cells #[.string x, .string z] 83)).trans hb8
        obtain ⟨A8, c8, rfl, _, _⟩:=hO8.rdn
        have HO8:=Lib.hid hO8
        clear hO8 hb8 hg8 B1 hO7 hb7
        go_wp2_with fail
        refine ⟨⟨i + 1, done ++ [(x, z)], by omega, by go_num, HO8.out, HE4.out, by rw [List.length_append, List.length_singleton]; omega, hb9⟩, by simp [intOf]; omega⟩
     ·have hQ2:=hQ.out
      rw [eqAt_on hjl (by rw [hcl]; exact h61), map_map_add] at hQ2
      have HQ:=Lib.hid hQ2
      have hn : ((c.toNat : Int) == 61) = false:=by
       have:=u8_eq c 61
       rw [decide_eq_false h61] at this
       exact this
      have hn2 : ((c.toNat : Int) != 61) = true:=by rw [bne_iff_ne]; simpa using hn
      clear hQ hQ2 h61 hcl hn
      go_wp2_with fail
      refine ⟨⟨j + 1, by omega, by go_num, hO, HQ.out, f0, hb⟩, by simp [intOf]; omega⟩
    ·have hQ2:=hQ.out
     rw [List.drop_eq_nil_of_le (by rw [size_eq]; omega)] at hQ2
     have HQ:=Lib.hid (show Nm.eqAt (Nm.bs p) = none from hQ2)
     have HR:=Lib.hid (show R = none by rw [HE.out]; exact refD_bad (refAva_noEq HQ.out))
     have hjp : (j : Int) = p.size:=by omega
     clear hQ hQ2
     go_wp2_with fail
     go_ret2
     rw [HR.out]
     exact ⟨rfl, hb1.trans (hb.mono hb1.size)⟩
  ·have hie : i = P.length:=by omega
   have hE2:=hE.out
   rw [hie, List.drop_length, refD_nil] at hE2
   obtain ⟨A, c9, rfl, hc9, hA⟩:=hO.rdn
   have CI1:=CI.out done A c9 wr (hA.imp (fun b h=>h.2) (fun _ _=>rfl)) (by unfold maxLen; omega)
   obtain ⟨n, hn⟩ : ∃ n, n = done.length:=⟨_, rfl⟩
   have HN:=Lib.hid hn
   rw [← hn] at CI1 hc9 ⊢
   have HA:=Lib.hid hA
   unfold Nm.ifRdn at hE2
   clear hE hO hA hn hie
   cases hi9 : Nm.isRdn done with
   | false =>
    rw [hi9] at CI1 hE2
    have HR:=Lib.hid (show R = none from hE2)
    have HC:=Lib.hid CI1
    clear hE2 CI1 hi9
    go_wp2_with fail
    refine HC.out.mono ?_
    rintro e w4 ⟨rfl, hb4⟩
    go_wp2_with fail
    go_ret2
    rw [HR.out]
    exact ⟨rfl, hb1.trans ((hb.trans (hb4.mono hsz)).mono hb1.size)⟩
   | true =>
    rw [hi9] at CI1 hE2
    have HR:=Lib.hid (show R = some done from hE2)
    have HC:=Lib.hid CI1
    clear hE2 CI1 hi9
    go_wp2_with fail
    refine HC.out.mono ?_
    rintro e w4 ⟨rfl, hb4⟩
    go_wp2_with fail
    go_ret2
    rw [HR.out]
    refine ⟨A, c9, ?_, by rw [← HN.out]; exact hc9, ?_, hb1.trans ((hb.trans (hb4.mono hsz)).mono hb1.size)⟩
    ·rw [← HN.out]; rfl
    ·have h8:=hb4.size
     have h7:=hb1.size
     exact HA.out.imp (fun b h=>⟨by omega, by omega⟩) (fun p hp=>hb4.cell hp.2)
end Go.Proofs.YtpnlalfdgngcdaaDoor
