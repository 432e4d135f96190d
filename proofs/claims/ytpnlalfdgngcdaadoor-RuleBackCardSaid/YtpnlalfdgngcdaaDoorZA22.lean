import Derived.Test.YtpnlalfdgngcdaaDoorZA21
import Derived.Test.YtpnlalfdgngcdaaDoorZA15
set_option linter.unusedVariables false
set_option maxRecDepth 100000
namespace Go.Proofs.YtpnlalfdgngcdaaDoor
open Go.RowKit
def RdnPost (B : Nat) (w : World) : Option (List Nm.Ava) → Ending → World → Prop
 | none, e, w'=>e = .returned (.tuple #[.slice none 0 0, .int .i64 15]) ∧ Below B w w'
 | some r, e, w'=>∃ A c, e = .returned (.tuple #[.slice A r.length c, .int .i64 0]) ∧ r.length ≤ c ∧ RAt w' (fun b=>B ≤ b ∧ b < w'.heap.size) A r ∧ Below B w w'
theorem pos_lt {sep : UInt8} : ∀ {l : List UInt8} {i : Nat}, Nm.pos sep l = some i → i < l.length
 | [], i, h=>by cases h
 | [c], i, h=>by
  rw [pos_cons] at h
  split at h
  ·cases h
  ·split at h
   ·injection h with h; simp; omega
   ·cases h
 | c :: d :: r, i, h=>by
  rw [pos_cons] at h
  split at h
  ·cases hr : Nm.pos sep r with
   | none=>simp only [hr] at h; cases h
   | some j =>
    simp only [hr, Option.map_some, Option.some.injEq] at h
    have:=pos_lt hr
    simp; omega
  ·split at h
   ·injection h with h; simp; omega
   ·cases hr : Nm.pos sep (d :: r) with
    | none=>rw [hr] at h; cases h
    | some j =>
     rw [hr] at h
     simp only [Option.map_some, Option.some.injEq] at h
     have:=pos_lt hr
     simp only [List.length_cons] at this ⊢
     omega
theorem cut_form (t : ByteArray) (sep : UInt8) : ∃ p q m, cutV t sep = .tuple #[.string p, .string q, .bool m] ∧ Nm.cuts sep (Nm.bs t) = Nm.bs p :: (if m then Nm.cuts sep (Nm.bs q) else []) ∧ p.size ≤ t.size ∧ q.size ≤ t.size ∧ (m = true → q.size < t.size):=by
 have hc:=Nm.cuts_pos sep (Nm.bs t)
 unfold cutV
 cases hp : Nm.pos sep (Nm.bs t) with
 | none =>
  rw [hp] at hc
  exact ⟨t, ⟨#[]⟩, false, rfl, hc, Nat.le_refl _, Nat.zero_le _, fun h=>by cases h⟩
 | some i =>
  rw [hp] at hc
  have hi : i < t.size:=by
   exact pos_lt hp
  refine ⟨_, _, true, rfl, ?_, ?_, ?_, fun _=>?_⟩
  ·rw [ext_to, ext_from]; exact hc
  all_goals
   rw [ByteArray.size_extract]
   omega
theorem ava_form (l : List UInt8) : ∃ x y ok, avaV l = .tuple #[.agg #[.string x, .string y], .bool ok] ∧ dnAva l = if ok then some (x, y) else none:=by
 unfold avaV
 cases h : dnAva l with
 | none=>exact ⟨_, _, false, rfl, rfl⟩
 | some a=>exact ⟨_, _, true, rfl, rfl⟩
def txtLeft : Value → Value → Nat
 | .string t, .bool true=>t.size + 1
 | _, _=>0
set_option maxHeartbeats 2000000 in
theorem parseR_any (s : ByteArray) (w : World) (hs : s.size ≤ 1000000000) :
  Calls Tryd.prog 52 #[.string s] w (RdnPost w.heap.size w (Nm.rdn (Nm.bs s))):=by
 have H0:=Lib.hid (Nm.rdnD_rdn (Nm.bs s))
 have CC : Hid (∀ (t : ByteArray) (w : World), t.size ≤ 1000000000 → Calls Tryd.prog 51 #[.string t, .int .u8 43] w fun e w'=>e = .returned (cutV t 43) ∧ Below w.heap.size w w'):=fun t w h=>cut_any t 43 w h
 have CA:=Lib.hid readAva_any
 have CI:=Lib.hid isRdn_any
 obtain ⟨R, hR⟩ : ∃ R, R = Nm.rdn (Nm.bs s):=⟨_, rfl⟩
 rw [← hR] at H0 ⊢
 clear hR
 go_enter Tryd.func52, Tryd.ntmps52
 go_wp2_with fail
 go_loopw [0, 4, 5] (fun tv rv mv wr=>∃ (t : ByteArray) (done : List Nm.Ava) (m : Bool), tv = .string t ∧ mv = .bool m ∧ t.size ≤ s.size ∧ OwnA wr w.heap.size rv done ∧ Hid (Nm.rdnD done (if m then Nm.cuts 43 (Nm.bs t) else []) = R) ∧ done.length + txtLeft tv mv ≤ s.size + 1 ∧ Below w.heap.size w wr) (fun tv rv mv wr=>txtLeft tv mv)
 case atStart=>exact ⟨s, [], true, rfl, rfl, Nat.le_refl _, OwnA.nil _ _, H0, by show [].length + (s.size + 1) ≤ _; simp, Below.refl _ _⟩
 case round =>
  obtain ⟨t, done, m, rfl, rfl, hts, hO, hE, hdl, hb⟩:=hrel
  have hsz:=hb.size
  cases m with
  | false =>
   obtain ⟨A, c, rfl, hc, hA⟩:=hO.rdn
   have HR:=Lib.hid (show some done = R from hE.out)
   have hA2:=Lib.hid hA
   clear hE hA hO
   go_wp2_with fail
   go_ret2
   rw [← HR.out]
   exact ⟨A, c, rfl, hc, hA2.out, hb⟩
  | true =>
   obtain ⟨p, q, m', hcv, hcs, hps, hqs, hlt⟩:=cut_form t 43
   obtain ⟨x, y, ok, hav, hda⟩:=ava_form (Nm.bs p)
   have C1:=CC.out t wr (by omega)
   have C2:=fun w=>CA.out p w (by omega)
   rw [hcv] at C1
   rw [hav] at C2
   have hE2:=hE.out
   rw [if_pos rfl, hcs] at hE2
   have HE:=Lib.hid hE2
   have HD:=Lib.hid hda
   have HC1:=Lib.hid C1
   have HC2:=Lib.hid C2
   have hLT:=Lib.hid hlt
   clear hcv hcs hav hda hE hE2 C1 C2 hlt
   go_wp2_with fail
   refine HC1.out.mono ?_
   rintro e w1 ⟨rfl, hb1⟩
   have hO1:=hO.past hb1
   have hb2:=hb.trans (hb1.mono hsz)
   have hs2:=hb2.size
   clear hO hb1 hb HC1
   go_wp2_with fail
   refine (HC2.out _).mono ?_
   rintro e w2 ⟨rfl, hb1⟩
   have hO2:=hO1.past hb1
   have hb3:=hb2.trans (hb1.mono hs2)
   have hs3:=hb3.size
   clear hO1 hb1 hb2 HC2
   have B1 : Blk ((w2.alloc (.cells #[.string x, .string y] 83)).alloc (.cells #[.string x, .string y] 83)) (w2.heap.size + 1) 83 #[.string x, .string y]:=by
    have:=Blk.new (w2.alloc (.cells #[.string x, .string y] 83)) 83 #[.string x, .string y]
    rwa [show (w2.alloc (.cells #[.string x, .string y] 83)).heap.size = w2.heap.size + 1 by simp] at this
   have hb4:=(hb3.alloc hs3 (.cells #[.string x, .string y] 83)).alloc (by simp; omega) (.cells #[.string x, .string y] 83)
   have hd9 : done.length ≤ 1000000001:=by omega
   go_wp2_with (at_builtin; go_loud (refine wpList_pushA rfl _ _ rfl w.heap.size u4 done rfl ((hO2.alloc _).alloc _) (w2.heap.size + 1) x y rfl B1 (by omega) (by simp; omega) ?_))
   intro v3 w3 hO3 hb5 hg3
   have hb6:=hb4.trans hb5
   have hs6:=hb6.size
   clear hO2 B1 hb5 hg3 hb4 hb3
   cases ok with
   | false =>
    have HR:=Lib.hid (show R = none by
     have h1:=HE.out
     have h2:=HD.out
     rw [Nm.rdnD, h2] at h1
     exact h1.symm)
    go_wp2_with fail
    go_ret2
    rw [HR.out]
    exact ⟨rfl, hb6⟩
   | true =>
    obtain ⟨A, c, rfl, hc, hA⟩:=hO3.rdn
    have CI1:=CI.out (done ++ [(x, y)]) A c w3 (hA.imp (fun b h=>h.2) (fun _ _=>rfl)) (by rw [List.length_append, List.length_singleton]; unfold maxLen; omega) hc
    have hE3 : (if Nm.isRdn (done ++ [(x, y)]) = true then Nm.rdnD (done ++ [(x, y)]) (if m' = true then Nm.cuts 43 (Nm.bs q) else []) else none) = R:=by
     have h1:=HE.out
     have h2:=HD.out
     rw [Nm.rdnD, h2] at h1
     exact h1
    obtain ⟨n, hn⟩ : ∃ n, n = (done ++ [(x, y)]).length:=⟨_, rfl⟩
    have HN:=Lib.hid hn
    rw [← hn] at hO3 CI1 ⊢
    have HO3:=Lib.hid hO3
    clear hn hc hA hO3 HE HD
    cases hi : Nm.isRdn (done ++ [(x, y)]) with
    | false =>
     rw [hi] at CI1 hE3
     have HR:=Lib.hid (show R = none from hE3.symm)
     have HC:=Lib.hid CI1
     clear hE3 CI1 hi
     go_wp2_with fail
     refine HC.out.mono ?_
     rintro e w4 ⟨rfl, hb7⟩
     go_wp2_with fail
     go_ret2
     rw [HR.out]
     exact ⟨rfl, hb6.trans (hb7.mono hs6)⟩
    | true =>
     rw [hi] at CI1 hE3
     have HE4:=Lib.hid (show Nm.rdnD (done ++ [(x, y)]) (if m' = true then Nm.cuts 43 (Nm.bs q) else []) = R from hE3)
     have HC:=Lib.hid CI1
     clear hE3 CI1 hi
     go_wp2_with fail
     refine HC.out.mono ?_
     rintro e w4 ⟨rfl, hb7⟩
     have HO4:=Lib.hid (HO3.out.past hb7)
     have hb8:=hb6.trans (hb7.mono hs6)
     clear HO3 hb7 hb6 HC
     go_wp2_with fail
     go_roundw
     case rel =>
      refine ⟨q, done ++ [(x, y)], m', rfl, rfl, by omega, HO4.out, HE4.out, ?_, hb8⟩
      rw [List.length_append, List.length_singleton]
      cases m' with
      | false=>show done.length + 1 + 0 ≤ _; have : txtLeft (.string t) (.bool true) = t.size + 1:=rfl; omega
      | true =>
       have h1:=hLT.out rfl
       show done.length + 1 + (q.size + 1) ≤ _
       have : txtLeft (.string t) (.bool true) = t.size + 1:=rfl
       omega
     case measure =>
      cases m' with
      | false=>show 0 < t.size + 1; omega
      | true=>show q.size + 1 < t.size + 1; have h1:=hLT.out rfl; omega
end Go.Proofs.YtpnlalfdgngcdaaDoor
namespace Go.Proofs.YtpnlalfdgngcdaaDoor
open Go.RowKit
def DnPost (B : Nat) (w : World) : Option (List (List Nm.Ava)) → Ending → World → Prop
 | none, e, w'=>e = .returned (.tuple #[.slice none 0 0, .int .i64 15]) ∧ Below B w w'
 | some d, e, w'=>∃ A c, e = .returned (.tuple #[.slice A d.length c, .int .i64 0]) ∧ d.length ≤ c ∧ DAt w' (fun b=>B ≤ b ∧ b < w'.heap.size) A d ∧ Below B w w'
set_option maxHeartbeats 2000000 in
theorem parseD_any (s : ByteArray) (w : World) (hs : s.size ≤ 1000000000) :
  Calls Tryd.prog 38 #[.string s] w (DnPost w.heap.size w (Nm.dnm (Nm.bs s))):=by
 have CC : Hid (∀ (t : ByteArray) (w : World), t.size ≤ 1000000000 → Calls Tryd.prog 51 #[.string t, .int .u8 44] w fun e w'=>e = .returned (cutV t 44) ∧ Below w.heap.size w w'):=fun t w h=>cut_any t 44 w h
 have CR:=Lib.hid parseR_any
 obtain ⟨R, hR⟩ : ∃ R, R = Nm.dnm (Nm.bs s):=⟨_, rfl⟩
 by_cases h0 : s.size = 0
 ·have h1:=nil_of s h0
  have h2:=Lib.hid (show R = some [] by rw [hR, show Nm.bs s = [] from nilD_of s h0]; rfl)
  rw [← hR]
  clear hR h0
  go_enter Tryd.func38, Tryd.ntmps38
  go_wp2_with fail
  refine wp_loop_rounds 1 ?_
  rw [rounds_succ]
  go_wp2_with fail
  go_ret2
  rw [h2.out]
  exact ⟨none, 0, rfl, Nat.le_refl _, DAt.nil _ _ _, Below.refl _ _⟩
 have hne : Nm.bs s ≠ []:=by
  intro h
  have:=size_eq s
  rw [show s.data.toList = [] from h] at this
  simp at this
  omega
 have H0:=Lib.hid (Nm.dnD_dnm (Nm.bs s) hne)
 have hnE:=isE_of s (by omega)
 rw [← hR] at H0 ⊢
 clear hR h0 hne
 go_enter Tryd.func38, Tryd.ntmps38
 go_wp2_with fail
 go_loopw [0, 4, 5] (fun tv rv mv wr=>∃ (t : ByteArray) (done : List (List Nm.Ava)) (m : Bool), tv = .string t ∧ mv = .bool m ∧ t.size ≤ s.size ∧ OwnD wr w.heap.size rv done ∧ Hid (Nm.dnD done (if m then Nm.cuts 44 (Nm.bs t) else []) = R) ∧ done.length ≤ 8 ∧ Below w.heap.size w wr) (fun tv rv mv wr=>txtLeft tv mv)
 case atStart=>exact ⟨s, [], true, rfl, rfl, Nat.le_refl _, OwnD.nil _ _, H0, by simp, Below.refl _ _⟩
 case round =>
  obtain ⟨t, done, m, rfl, rfl, hts, hO, hE, hd8, hb⟩:=hrel
  have hsz:=hb.size
  cases m with
  | false =>
   obtain ⟨A, c, rfl, hc, hA⟩:=hO.dn
   have HR:=Lib.hid (show some done = R from hE.out)
   have hA2:=Lib.hid hA
   clear hE hA hO
   go_wp2_with fail
   go_ret2
   rw [← HR.out]
   exact ⟨A, c, rfl, hc, hA2.out, hb⟩
  | true =>
   obtain ⟨p, q, m', hcv, hcs, hps, hqs, hlt⟩:=cut_form t 44
   have C1:=CC.out t wr (by omega)
   have C2:=fun w=>CR.out p w (by omega)
   rw [hcv] at C1
   have hE2:=hE.out
   rw [if_pos rfl, hcs] at hE2
   have HE:=Lib.hid hE2
   have HC1:=Lib.hid C1
   have hLT:=Lib.hid hlt
   obtain ⟨A0, c0, rfl⟩:=hO.form3
   obtain ⟨n0, hn0⟩ : ∃ n0, n0 = done.length:=⟨_, rfl⟩
   rw [← hn0] at hO
   have HN0:=Lib.hid hn0
   rw [← hn0] at hd8 ⊢
   have HO:=Lib.hid hO
   clear hcv hcs hE hE2 C1 hlt hO hn0
   cases hr : Nm.rdn (Nm.bs p) with
   | none =>
    rw [hr] at C2
    have HC2:=Lib.hid C2
    have HR:=Lib.hid (show R = none by
     have h1:=HE.out
     rw [Nm.dnD, hr] at h1
     exact h1.symm)
    clear C2 hr HE
    go_wp2_with fail
    refine HC1.out.mono ?_
    rintro e w1 ⟨rfl, hb1⟩
    have hb2:=hb.trans (hb1.mono hsz)
    have hs2:=hb2.size
    clear hb1 hb HC1
    go_wp2_with fail
    refine (HC2.out _).mono ?_
    rintro e w2 ⟨rfl, hb3⟩
    go_wp2_with fail
    go_ret2
    rw [HR.out]
    exact ⟨rfl, hb2.trans (hb3.mono hs2)⟩
   | some r =>
    rw [hr] at C2
    have HC2:=Lib.hid C2
    have hE3 : (if done.length = 8 then none else Nm.dnD (done ++ [r]) (if m' = true then Nm.cuts 44 (Nm.bs q) else [])) = R:=by
     have h1:=HE.out
     rw [Nm.dnD, hr] at h1
     exact h1
    rw [← HN0.out] at hE3
    clear C2 hr HE
    by_cases h8 : n0 = 8
    ·have HR:=Lib.hid (show R = none by rw [if_pos h8] at hE3; exact hE3.symm)
     have h8i : (n0 : Int) = 8:=by omega
     clear hE3 h8
     go_wp2_with fail
     refine HC1.out.mono ?_
     rintro e w1 ⟨rfl, hb1⟩
     have hb2:=hb.trans (hb1.mono hsz)
     have hs2:=hb2.size
     clear hb1 hb HC1
     go_wp2_with fail
     refine (HC2.out _).mono ?_
     rintro e w2 ⟨A, c, rfl, hc, hA, hb3⟩
     have hA:=Lib.hid hA
     go_wp2_with fail
     go_ret2
     rw [HR.out]
     exact ⟨rfl, hb2.trans (hb3.mono hs2)⟩
    ·rw [if_neg h8] at hE3
     have HE:=Lib.hid hE3
     have h8i : ((n0 : Int) == 8) = false:=by rw [beq_eq_false_iff_ne]; omega
     clear hE3
     go_wp2_with fail
     refine HC1.out.mono ?_
     rintro e w1 ⟨rfl, hb1⟩
     have hb2:=hb.trans (hb1.mono hsz)
     have hs2:=hb2.size
     have HO1:=Lib.hid (HO.out.past hb1)
     clear hb1 hb HC1 HO
     go_wp2_with fail
     refine (HC2.out _).mono ?_
     rintro e w2 ⟨A, c, rfl, hc, hA, hb3⟩
     have HO2:=Lib.hid (HO1.out.past hb3)
     have hb4:=hb2.trans (hb3.mono hs2)
     have hs4:=hb4.size
     have HA : Hid (RAt w2 (fun b=>w.heap.size ≤ b ∧ b < w2.heap.size ∧ (Value.slice A0 n0 c0).ownBlock ≠ some b) A r):=hA.imp (fun b h=>⟨by omega, h.2, fun e=>by have:=HO1.out.lt _ e; omega⟩) (fun _ _=>rfl)
     obtain ⟨n, hn⟩ : ∃ n, n = r.length:=⟨_, rfl⟩
     have HN:=Lib.hid hn
     rw [← hn] at hc ⊢
     have B1 : Blk (w2.alloc (.cells #[.slice A n c] 60)) w2.heap.size 60 #[.slice A n c]:=Blk.new w2 _ _
     have HA3:=Lib.hid (HA.out.imp (w':=w2.alloc (.cells #[.slice A n c] 60)) (P':=fun b=>w.heap.size ≤ b ∧ b < (w2.alloc (.cells #[.slice A n c] 60)).heap.size ∧ (Value.slice A0 n0 c0).ownBlock ≠ some b) (fun b h=>⟨h.1, by simp; omega, h.2.2⟩) (fun p hp=>World.cell?_alloc_lt _ _ _ hp.2.1))
     clear hA hb3 hn HO1 HC2
     go_wp2_with (at_builtin; go_loud (refine wpList_pushD rfl _ _ rfl w.heap.size _ done rfl (HO2.out.alloc _) w2.heap.size A r n c rfl B1 HN.out (by rw [← HN.out]; exact hc) HA3.out (by rw [← HN0.out]; omega) (by simp; omega) ?_))
     intro v3 w3 hO3 hb5
     have hb6:=(hb4.alloc hs4 (.cells #[.slice A n c] 60)).trans hb5
     obtain ⟨A3, c3, rfl⟩:=hO3.form3
     have hl3 : (done ++ [r]).length = n0 + 1:=by rw [List.length_append, List.length_singleton, ← HN0.out]
     rw [hl3] at hO3 ⊢
     have HO3:=Lib.hid hO3
     have HL3:=Lib.hid hl3
     clear hO3 hb5 hl3 B1
     go_wp2_with fail
     go_roundw
     case rel =>
      exact ⟨q, done ++ [r], m', rfl, rfl, by omega, HO3.out, HE.out, by rw [HL3.out]; omega, hb6⟩
     case measure =>
      cases m' with
      | false=>show 0 < t.size + 1; omega
      | true=>show q.size + 1 < t.size + 1; have h1:=hLT.out rfl; omega
end Go.Proofs.YtpnlalfdgngcdaaDoor
