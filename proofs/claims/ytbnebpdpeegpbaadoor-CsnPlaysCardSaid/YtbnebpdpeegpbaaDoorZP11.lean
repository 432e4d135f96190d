import Derived.Test.YtbnebpdpeegpbaaDoorZP10
import Derived.Test.YtbnebpdpeegpbaaDoorZP6
set_option linter.unusedVariables false
set_option maxRecDepth 100000
namespace Go.Proofs.YtbnebpdpeegpbaaDoor.Cs
open Go.RowKit
theorem rnext_ok (g : Nat) (t s r now T S : Int) (h0 : 0 ≤ t) (ht : t ≤ 1099511627776) (hs : 0 ≤ s) (hN : nxt t s now = (T, S)) (hT : T ≤ 1099511627776) (w : World) (h : IsRef w g t s r) : Calls Tryd.prog 20 #[.pointer (some ⟨g, 0, none⟩), .int .i64 now] w fun e w' =>
  e = .returned (.tuple #[cv T S r, .int .i64 0]) ∧ Turned g w w' ∧ IsRef w' g T S r:=by
 have C:=rNext_any g t s r now h0 ht hs w h
 rw [hN] at C
 exact C.mono fun e w' ⟨h1, h2⟩=>by
  rcases h2 with ⟨_, h3, h4⟩ | ⟨h3, _⟩
  ·exact ⟨h3, h1, h4⟩
  ·exact absurd h3 (Int.not_lt.2 hT)
theorem rnext_bad (g : Nat) (t s r now T S : Int) (h0 : 0 ≤ t) (ht : t ≤ 1099511627776) (hs : 0 ≤ s) (hN : nxt t s now = (T, S)) (hT : 1099511627776 < T) (w : World) (h : IsRef w g t s r) : Calls Tryd.prog 20 #[.pointer (some ⟨g, 0, none⟩), .int .i64 now] w fun e w' =>
  e = .returned (.tuple #[cv 0 0 0, .int .i64 19]) ∧ Turned g w w' ∧ IsRef w' g t s r:=by
 have C:=rNext_any g t s r now h0 ht hs w h
 rw [hN] at C
 exact C.mono fun e w' ⟨h1, h2⟩=>by
  rcases h2 with ⟨h3, _⟩ | ⟨_, h3, h4⟩
  ·exact absurd hT (Int.not_lt.2 h3)
  ·exact ⟨h3, h1, h4⟩
theorem rsee_to (g : Nat) (t s r T S R X Y : Int) (hS : seen t s T S R = (X, Y)) (w : World) (h : IsRef w g t s r) : Calls Tryd.prog 22 #[.pointer (some ⟨g, 0, none⟩), cv T S R] w fun e w' =>
  e = .returned (.tuple #[]) ∧ Turned g w w' ∧ IsRef w' g X Y r:=by
 have C:=rSee_any g t s r T S R w h
 rw [hS] at C
 exact C
theorem StepsIn.at_ {w : World} {A : Option Addr} {ks : List St} (h : StepsIn w A ks) {i : Nat} (hi : i < ks.length) :
  ∃ (ad : Addr) (k : St), k.ok ∧ A = some ad ∧ ∀ wr, Below w.heap.size w wr → wr.cell? (ad.add (i * 5)) = some (.int .i64 k.wh) ∧ wr.cell? ⟨(ad.add (i * 5)).block, (ad.add (i * 5)).off + 1, none⟩ = some (.int .i64 k.nw) ∧
   wr.cell? ⟨(ad.add (i * 5)).block, (ad.add (i * 5)).off + 2, none⟩ = some (.int .i64 k.t) ∧ wr.cell? ⟨(ad.add (i * 5)).block, (ad.add (i * 5)).off + 3, none⟩ = some (.int .i64 k.s) ∧ wr.cell? ⟨(ad.add (i * 5)).block, (ad.add (i * 5)).off + 4, none⟩ = some (.int .i64 k.r):=by
 obtain ⟨ad, k, hk, hok, e, hp, _⟩:=h.kid (Below.refl _ w) hi
 refine ⟨ad, k, hok, e, fun wr hb=>?_⟩
 obtain ⟨ad2, k2, hk2, hok2, e2, hp2, r⟩:=h.kid hb hi
 obtain rfl:=Option.some.inj (e.symm.trans e2)
 rw [hk, ← hk2]
 exact r
def Ok (t s : Int) : Prop:=0 ≤ t ∧ t ≤ 1099511627776 ∧ 0 ≤ s ∧ s ≤ 65535
theorem Ok.nxt {t s now T S : Int} (h : Ok t s) (hN : Cs.nxt t s now = (T, S)) (hT : T ≤ 1099511627776) : Ok T S:=by
 obtain ⟨h1, h2, h3, h4⟩:=h
 rcases nxt_cases t s now with ⟨a, e⟩ | ⟨a, b, e⟩ | ⟨a, b, e⟩
 all_goals
  rw [e] at hN
  injection hN with e1 e2
  subst e1 e2
  exact ⟨by omega, by omega, by omega, by omega⟩
theorem Ok.seen {t s T S R X Y : Int} (h : Ok t s) (hS : Cs.seen t s T S R = (X, Y)) : Ok X Y:=by
 unfold Cs.seen at hS
 split at hS
 ·rename_i h1
  injection hS with e1 e2
  subst e1 e2
  obtain ⟨a, b, c, d, _⟩:=isC_true h1.1
  exact ⟨a, b, c, d⟩
 ·injection hS with e1 e2
  subst e1 e2
  exact h
set_option maxHeartbeats 4000000 in
theorem walk_CsnPlays (w : World) (rep : Int) (hr : (Lit.int .i64 rep).wf = true) (A : Option Addr) (c : Nat) (ks : List St) (hK : StepsIn w A ks) (hG : Glob w) :
  Calls Tryd.prog 4 #[.int .i64 rep, .slice A ks.length c] w fun r w'=>r = .returned (.bool true) ∧ Below w.heap.size w w':=by
 have HK:=Lib.hid (known_any w hG)
 have HS:=Lib.hid hK
 clear hr hG hK
 by_cases hl : 60 < (ks.length : Int)
 ·go_enter Tryd.func4, Tryd.ntmps4
  go_wp2_with fail
  refine HK.out.mono ?_
  rintro e w0 ⟨rfl, hw0⟩
  go_wp2_with fail
  go_ret
  exact ⟨rfl, hw0⟩
 have hl2 : (ks.length : Int) ≤ 60:=by omega
 have CN:=Lib.hid (New_any rep)
 obtain ⟨K, hKK, k0, k5⟩ : ∃ K : Int, max 0 (min rep 5) = K ∧ 0 ≤ K ∧ K ≤ 5:=⟨_, rfl, by omega, by omega⟩
 rw [hKK] at CN
 have HKK:=Lib.hid hKK
 have CL:=Lib.hid Last_any
 have CC:=Lib.hid Copy_any
 clear hl hKK
 go_enter Tryd.func4, Tryd.ntmps4
 go_wp2_with fail
 refine HK.out.mono ?_
 rintro e w0 ⟨rfl, hw0⟩
 have hz0:=hw0.size
 go_wp2_with fail
 refine (CN.out _).mono ?_
 rintro e w1 ⟨rfl, BG, hb1, hs1⟩
 have hb:=hw0.trans (hb1.mono hz0)
 have hz1:=hb.size
 obtain ⟨g, hg⟩ : ∃ g, g = w0.heap.size:=⟨_, rfl⟩
 rw [← hg] at BG
 rw [← hg]
 have hgw : w.heap.size ≤ g:=by omega
 have hgl:=BG.lt
 clear hg hs1 hw0 hb1 hz0 CN HK
 obtain ⟨g2, hg2⟩ : ∃ g2, g2 = w1.heap.size:=⟨_, rfl⟩
 have hgg : g ≠ g2:=by omega
 have hg2w : w.heap.size ≤ g2:=by omega
 have hKK:=HKK.out
 go_wp2_with fail
 rw [← hg2]
 have BR:=Blk.new w1 37 (gc 0 0 K)
 rw [← hg2] at BR
 have BG2:=BG.alloc (.cells (gc 0 0 K) 37)
 have hb2:=hb.alloc hz1 (.cells (gc 0 0 K) 37)
 have Hg:=Lib.hid hgw
 have Hg2:=Lib.hid hg2w
 have Hgg:=Lib.hid hgg
 clear hg2 hb BG hgw hg2w hgg hz1 hgl hKK
 go_loopw [7] (fun i wr=>∃ (q : Nat) (t s : Int), q ≤ ks.length ∧ i = .int .i64 (q : Int) ∧ Hid (Ok t s) ∧ Hid (IsGen wr g t s K) ∧ Hid (IsRef wr g2 t s K) ∧ Hid (Below w.heap.size w wr)) (fun i wr=>ks.length - (intOf i).toNat)
 case atStart=>exact ⟨0, 0, 0, by omega, rfl, by show Ok 0 0; exact ⟨by decide, by decide, by decide, by decide⟩, BG2, BR, hb2⟩
 case round =>
  clear hb2 BR BG2
  obtain ⟨q, t, s, hq, rfl, HO, BG, BR, hb⟩:=hrel
  by_cases hlt : q < ks.length
  ·obtain ⟨ad, k, hok, rfl, HF⟩:=HS.out.at_ hlt
   have HF:=Lib.hid HF
   have hlt2 : (q : Int) < ks.length:=by omega
   obtain ⟨o0, o1, o2, -⟩:=HO.out
   by_cases hwh : k.wh ≤ 1
   ·obtain ⟨T, S, hN⟩ : ∃ T S, nxt t s k.nw = (T, S):=⟨_, _, rfl⟩
    by_cases hT : T ≤ 1099511627776
    ·have hT0:=hT
     go_wp2_with fail
     refine (CC.out _ _ _ _ _ BG.out).mono ?_
     rintro e w2 ⟨rfl, Bd, hbc, -⟩
     have Bg:=BG.out.past hbc
     have Br:=BR.out.past hbc
     have hb0:=hb.out.trans (hbc.mono hb.out.size)
     have HS0:=hb.out.size
     have gl:=BG.out.lt
     have rl:=BR.out.lt
     obtain ⟨d, hd⟩ : ∃ d, d = wr.heap.size:=⟨_, rfl⟩
     rw [← hd] at Bd
     rw [← hd]
     have Hd:=Lib.hid (show w.heap.size ≤ d by omega)
     have n_g_d:=Lib.hid (show g ≠ d by omega)
     have n_g2_d:=Lib.hid (show g2 ≠ d by omega)
     have n_d_g:=Lib.hid (show d ≠ g by omega)
     have n_d_g2:=Lib.hid (show d ≠ g2 by omega)
     have n_g_g2:=Lib.hid Hgg.out
     have n_g2_g:=Lib.hid (show g2 ≠ g from fun e=>Hgg.out e.symm)
     have SD:=Lib.hid (fun w h=>See_any d t s K 1099511627776 0 0 w h)
     clear hd HS0 gl rl BG BR hb hbc
     obtain ⟨f0, f1, f2, f3, f4⟩:=HF.out _ hb0
     go_wp2_with fail
     refine (next_ok g t s K k.nw T S o0 o1 o2 hN hT _ Bg).mono ?_
     rintro e w3 ⟨rfl, ht, BX⟩
     have hbx:=turned_below Hg.out hb0 ht
     have Brx:=ht.blk Br n_g2_g.out
     have Bdx:=ht.blk Bd n_d_g.out
     clear ht Bg Br Bd hb0
     have Bg:=BX
     have Br:=Brx
     have Bd:=Bdx
     clear Brx Bdx BX
     have hb1:=hbx
     clear hbx
     have hz:=hb1.size
     have Bgx:=Bg.alloc (.cells (gc T S K) 23)
     have Brx:=Br.alloc (.cells (gc T S K) 23)
     have Bdx:=Bd.alloc (.cells (gc T S K) 23)
     have Ba:=Blk.new w3 23 (gc T S K)
     have hb2:=hb1.alloc hz (.cells (gc T S K) 23)
     have n_a_g:=Lib.hid (show w3.heap.size ≠ g from Nat.ne_of_gt Bg.lt)
     have n_a_g2:=Lib.hid (show w3.heap.size ≠ g2 from Nat.ne_of_gt Br.lt)
     have n_a_d:=Lib.hid (show w3.heap.size ≠ d from Nat.ne_of_gt Bd.lt)
     clear hz hb1 Bg Br Bd
     have Bg:=Bgx
     have Br:=Brx
     have Bd:=Bdx
     clear Bgx Brx Bdx
     clear f0 f1 f2 f3 f4
     obtain ⟨f0, f1, f2, f3, f4⟩:=HF.out _ hb2
     go_wp2_with fail
     refine (rnext_ok g2 t s K k.nw T S o0 o1 o2 hN hT _ Br).mono ?_
     rintro e w4 ⟨rfl, ht, BX⟩
     have hbx:=turned_below Hg2.out hb2 ht
     have Bgx:=ht.blk Bg n_g_g2.out
     have Bdx:=ht.blk Bd n_d_g2.out
     have Bax:=ht.blk Ba n_a_g2.out
     clear ht Bg Br Bd Ba hb2
     have Bg:=Bgx
     have Br:=BX
     have Bd:=Bdx
     have Ba:=Bax
     clear Bgx Bdx Bax BX
     have hb3:=hbx
     clear hbx
     have hz:=hb3.size
     have Bgx:=Bg.alloc (.cells (gc T S K) 23)
     have Brx:=Br.alloc (.cells (gc T S K) 23)
     have Bdx:=Bd.alloc (.cells (gc T S K) 23)
     have Bax:=Ba.alloc (.cells (gc T S K) 23)
     have Bb:=Blk.new w4 23 (gc T S K)
     have hb4:=hb3.alloc hz (.cells (gc T S K) 23)
     have n_b_g:=Lib.hid (show w4.heap.size ≠ g from Nat.ne_of_gt Bg.lt)
     have n_b_g2:=Lib.hid (show w4.heap.size ≠ g2 from Nat.ne_of_gt Br.lt)
     have n_b_d:=Lib.hid (show w4.heap.size ≠ d from Nat.ne_of_gt Bd.lt)
     clear hz hb3 Bg Br Bd Ba
     have Bg:=Bgx
     have Br:=Brx
     have Bd:=Bdx
     have Ba:=Bax
     clear Bgx Brx Bdx Bax
     clear f0 f1 f2 f3 f4
     have a0 : (w4.alloc (.cells (gc T S K) 23)).cell? ⟨w3.heap.size, 0, none⟩ = some (.int .i64 T):=Ba.cell 0
     have a1 : (w4.alloc (.cells (gc T S K) 23)).cell? ⟨w3.heap.size, 1, none⟩ = some (.int .i64 S):=Ba.cell 1
     have a2 : (w4.alloc (.cells (gc T S K) 23)).cell? ⟨w3.heap.size, 2, none⟩ = some (.int .i64 K):=Ba.cell 2
     have b0 : (w4.alloc (.cells (gc T S K) 23)).cell? ⟨w4.heap.size, 0, none⟩ = some (.int .i64 T):=Bb.cell 0
     have b1 : (w4.alloc (.cells (gc T S K) 23)).cell? ⟨w4.heap.size, 1, none⟩ = some (.int .i64 S):=Bb.cell 1
     have b2 : (w4.alloc (.cells (gc T S K) 23)).cell? ⟨w4.heap.size, 2, none⟩ = some (.int .i64 K):=Bb.cell 2
     clear Ba Bb
     have HO2:=HO.out.nxt hN hT
     go_wp2_with fail
     refine (SD.out _ Bd).mono ?_
     rintro e w8 ⟨rfl, ht, -⟩
     have hbx:=turned_below Hd.out hb4 ht
     have Bgx:=ht.blk Bg n_g_d.out
     have Brx:=ht.blk Br n_g2_d.out
     clear ht Bg Br Bd hb4
     have Bg:=Bgx
     have Br:=Brx
     clear Bgx Brx
     have hb5:=hbx
     clear hbx
     go_wp2_with fail
     first | (go_region_held3 (fun w'=>w'.cell? ⟨g2, 0, none⟩ = some (.int .i64 T) ∧ w'.cell? ⟨g2, 1, none⟩ = some (.int .i64 S) ∧ w'.cell? ⟨g2, 2, none⟩ = some (.int .i64 K)) (first | exact ⟨Br.drew.cell 0, Br.drew.cell 1, Br.drew.cell 2⟩ | exact ⟨BR9.cell 0, BR9.cell 1, BR9.cell 2⟩) (first | (go_at_call 23; refine (CL.out _ _ _ _ _ Bg.drew).mono ?_; rintro e9 w9 ⟨rfl, hb9⟩; have BR9:=Br.drew.past hb9; have BG9:=Bg.drew.past hb9; have hc9:=(hb5.drew).trans (hb9.mono hb5.drew.size)))) | fail
     go_wp2_with fail
     go_roundw
     case rel=>exact ⟨q + 1, T, S, by omega, by go_num, HO2, BG9, BR9, hc9⟩
     case measure=>simp [intOf]; omega
    ·have hT : 1099511627776 < T:=by omega
     go_wp2_with fail
     refine (CC.out _ _ _ _ _ BG.out).mono ?_
     rintro e w2 ⟨rfl, Bd, hbc, -⟩
     have Bg:=BG.out.past hbc
     have Br:=BR.out.past hbc
     have hb0:=hb.out.trans (hbc.mono hb.out.size)
     have HS0:=hb.out.size
     have gl:=BG.out.lt
     have rl:=BR.out.lt
     obtain ⟨d, hd⟩ : ∃ d, d = wr.heap.size:=⟨_, rfl⟩
     rw [← hd] at Bd
     rw [← hd]
     have Hd:=Lib.hid (show w.heap.size ≤ d by omega)
     have n_g_d:=Lib.hid (show g ≠ d by omega)
     have n_g2_d:=Lib.hid (show g2 ≠ d by omega)
     have n_d_g:=Lib.hid (show d ≠ g by omega)
     have n_d_g2:=Lib.hid (show d ≠ g2 by omega)
     have n_g_g2:=Lib.hid Hgg.out
     have n_g2_g:=Lib.hid (show g2 ≠ g from fun e=>Hgg.out e.symm)
     have SD:=Lib.hid (fun w h=>See_any d t s K 1099511627776 0 0 w h)
     clear hd HS0 gl rl BG BR hb hbc
     obtain ⟨f0, f1, f2, f3, f4⟩:=HF.out _ hb0
     go_wp2_with fail
     refine (next_bad g t s K k.nw T S o0 o1 o2 hN hT _ Bg).mono ?_
     rintro e w3 ⟨rfl, ht, BX⟩
     have hbx:=turned_below Hg.out hb0 ht
     have Brx:=ht.blk Br n_g2_g.out
     have Bdx:=ht.blk Bd n_d_g.out
     clear ht Bg Br Bd hb0
     have Bg:=BX
     have Br:=Brx
     have Bd:=Bdx
     clear Brx Bdx BX
     have hb1:=hbx
     clear hbx
     have hz:=hb1.size
     have Bgx:=Bg.alloc (.cells (gc 0 0 0) 23)
     have Brx:=Br.alloc (.cells (gc 0 0 0) 23)
     have Bdx:=Bd.alloc (.cells (gc 0 0 0) 23)
     have Ba:=Blk.new w3 23 (gc 0 0 0)
     have hb2:=hb1.alloc hz (.cells (gc 0 0 0) 23)
     have n_a_g:=Lib.hid (show w3.heap.size ≠ g from Nat.ne_of_gt Bg.lt)
     have n_a_g2:=Lib.hid (show w3.heap.size ≠ g2 from Nat.ne_of_gt Br.lt)
     have n_a_d:=Lib.hid (show w3.heap.size ≠ d from Nat.ne_of_gt Bd.lt)
     clear hz hb1 Bg Br Bd
     have Bg:=Bgx
     have Br:=Brx
     have Bd:=Bdx
     clear Bgx Brx Bdx
     clear f0 f1 f2 f3 f4
     obtain ⟨f0, f1, f2, f3, f4⟩:=HF.out _ hb2
     go_wp2_with fail
     refine (rnext_bad g2 t s K k.nw T S o0 o1 o2 hN hT _ Br).mono ?_
     rintro e w4 ⟨rfl, ht, BX⟩
     have hbx:=turned_below Hg2.out hb2 ht
     have Bgx:=ht.blk Bg n_g_g2.out
     have Bdx:=ht.blk Bd n_d_g2.out
     have Bax:=ht.blk Ba n_a_g2.out
     clear ht Bg Br Bd Ba hb2
     have Bg:=Bgx
     have Br:=BX
     have Bd:=Bdx
     have Ba:=Bax
     clear Bgx Bdx Bax BX
     have hb3:=hbx
     clear hbx
     have hz:=hb3.size
     have Bgx:=Bg.alloc (.cells (gc 0 0 0) 23)
     have Brx:=Br.alloc (.cells (gc 0 0 0) 23)
     have Bdx:=Bd.alloc (.cells (gc 0 0 0) 23)
     have Bax:=Ba.alloc (.cells (gc 0 0 0) 23)
     have Bb:=Blk.new w4 23 (gc 0 0 0)
     have hb4:=hb3.alloc hz (.cells (gc 0 0 0) 23)
     have n_b_g:=Lib.hid (show w4.heap.size ≠ g from Nat.ne_of_gt Bg.lt)
     have n_b_g2:=Lib.hid (show w4.heap.size ≠ g2 from Nat.ne_of_gt Br.lt)
     have n_b_d:=Lib.hid (show w4.heap.size ≠ d from Nat.ne_of_gt Bd.lt)
     clear hz hb3 Bg Br Bd Ba
     have Bg:=Bgx
     have Br:=Brx
     have Bd:=Bdx
     have Ba:=Bax
     clear Bgx Brx Bdx Bax
     clear f0 f1 f2 f3 f4
     have a0 : (w4.alloc (.cells (gc 0 0 0) 23)).cell? ⟨w3.heap.size, 0, none⟩ = some (.int .i64 0):=Ba.cell 0
     have a1 : (w4.alloc (.cells (gc 0 0 0) 23)).cell? ⟨w3.heap.size, 1, none⟩ = some (.int .i64 0):=Ba.cell 1
     have a2 : (w4.alloc (.cells (gc 0 0 0) 23)).cell? ⟨w3.heap.size, 2, none⟩ = some (.int .i64 0):=Ba.cell 2
     have b0 : (w4.alloc (.cells (gc 0 0 0) 23)).cell? ⟨w4.heap.size, 0, none⟩ = some (.int .i64 0):=Bb.cell 0
     have b1 : (w4.alloc (.cells (gc 0 0 0) 23)).cell? ⟨w4.heap.size, 1, none⟩ = some (.int .i64 0):=Bb.cell 1
     have b2 : (w4.alloc (.cells (gc 0 0 0) 23)).cell? ⟨w4.heap.size, 2, none⟩ = some (.int .i64 0):=Bb.cell 2
     clear Ba Bb
     have HO2:=HO.out
     go_wp2_with fail
     refine (SD.out _ Bd).mono ?_
     rintro e w8 ⟨rfl, ht, -⟩
     have hbx:=turned_below Hd.out hb4 ht
     have Bgx:=ht.blk Bg n_g_d.out
     have Brx:=ht.blk Br n_g2_d.out
     clear ht Bg Br Bd hb4
     have Bg:=Bgx
     have Br:=Brx
     clear Bgx Brx
     have hb5:=hbx
     clear hbx
     go_wp2_with fail
     first | (go_region_held3 (fun w'=>w'.cell? ⟨g2, 0, none⟩ = some (.int .i64 t) ∧ w'.cell? ⟨g2, 1, none⟩ = some (.int .i64 s) ∧ w'.cell? ⟨g2, 2, none⟩ = some (.int .i64 K)) (first | exact ⟨Br.drew.cell 0, Br.drew.cell 1, Br.drew.cell 2⟩ | exact ⟨BR9.cell 0, BR9.cell 1, BR9.cell 2⟩) (first | (go_at_call 23; refine (CL.out _ _ _ _ _ Bg.drew).mono ?_; rintro e9 w9 ⟨rfl, hb9⟩; have BR9:=Br.drew.past hb9; have BG9:=Bg.drew.past hb9; have hc9:=(hb5.drew).trans (hb9.mono hb5.drew.size)))) | fail
     go_wp2_with fail
     go_roundw
     case rel=>exact ⟨q + 1, t, s, by omega, by go_num, HO2, BG9, BR9, hc9⟩
     case measure=>simp [intOf]; omega
   ·have hwh2 : 1 < k.wh:=by omega
    obtain ⟨X, Y, hX⟩ : ∃ X Y, seen t s k.t k.s k.r = (X, Y):=⟨_, _, rfl⟩
    go_wp2_with fail
    refine (CC.out _ _ _ _ _ BG.out).mono ?_
    rintro e w2 ⟨rfl, Bd, hbc, -⟩
    have Bg:=BG.out.past hbc
    have Br:=BR.out.past hbc
    have hb0:=hb.out.trans (hbc.mono hb.out.size)
    have HS0:=hb.out.size
    have gl:=BG.out.lt
    have rl:=BR.out.lt
    obtain ⟨d, hd⟩ : ∃ d, d = wr.heap.size:=⟨_, rfl⟩
    rw [← hd] at Bd
    rw [← hd]
    have Hd:=Lib.hid (show w.heap.size ≤ d by omega)
    have n_g_d:=Lib.hid (show g ≠ d by omega)
    have n_g2_d:=Lib.hid (show g2 ≠ d by omega)
    have n_d_g:=Lib.hid (show d ≠ g by omega)
    have n_d_g2:=Lib.hid (show d ≠ g2 by omega)
    have n_g_g2:=Lib.hid Hgg.out
    have n_g2_g:=Lib.hid (show g2 ≠ g from fun e=>Hgg.out e.symm)
    have SD:=Lib.hid (fun w h=>See_any d t s K 1099511627776 0 0 w h)
    clear hd HS0 gl rl BG BR hb hbc
    obtain ⟨f0, f1, f2, f3, f4⟩:=HF.out _ hb0
    go_wp2_with fail
    refine (see_to g t s K k.t k.s k.r X Y hX _ Bg).mono ?_
    rintro e w3 ⟨rfl, ht, BX⟩
    have hbx:=turned_below Hg.out hb0 ht
    have Brx:=ht.blk Br n_g2_g.out
    have Bdx:=ht.blk Bd n_d_g.out
    clear ht Bg Br Bd hb0
    have Bg:=BX
    have Br:=Brx
    have Bd:=Bdx
    clear Brx Bdx BX
    have hb1:=hbx
    clear hbx
    clear f0 f1 f2 f3 f4
    obtain ⟨f0, f1, f2, f3, f4⟩:=HF.out _ hb1
    go_wp2_with fail
    refine (rsee_to g2 t s K k.t k.s k.r X Y hX _ Br).mono ?_
    rintro e w4 ⟨rfl, ht, BX⟩
    have hbx:=turned_below Hg2.out hb1 ht
    have Bgx:=ht.blk Bg n_g_g2.out
    have Bdx:=ht.blk Bd n_d_g2.out
    clear ht Bg Br Bd hb1
    have Bg:=Bgx
    have Br:=BX
    have Bd:=Bdx
    clear Bgx Bdx BX
    have hb2:=hbx
    clear hbx
    clear f0 f1 f2 f3 f4
    have HO2:=HO.out.seen hX
    go_wp2_with fail
    refine (SD.out _ Bd).mono ?_
    rintro e w8 ⟨rfl, ht, -⟩
    have hbx:=turned_below Hd.out hb2 ht
    have Bgx:=ht.blk Bg n_g_d.out
    have Brx:=ht.blk Br n_g2_d.out
    clear ht Bg Br Bd hb2
    have Bg:=Bgx
    have Br:=Brx
    clear Bgx Brx
    have hb3:=hbx
    clear hbx
    go_wp2_with fail
    first | (go_region_held3 (fun w'=>w'.cell? ⟨g2, 0, none⟩ = some (.int .i64 X) ∧ w'.cell? ⟨g2, 1, none⟩ = some (.int .i64 Y) ∧ w'.cell? ⟨g2, 2, none⟩ = some (.int .i64 K)) (first | exact ⟨Br.drew.cell 0, Br.drew.cell 1, Br.drew.cell 2⟩ | exact ⟨BR9.cell 0, BR9.cell 1, BR9.cell 2⟩) (first | (go_at_call 23; refine (CL.out _ _ _ _ _ Bg.drew).mono ?_; rintro e9 w9 ⟨rfl, hb9⟩; have BR9:=Br.drew.past hb9; have BG9:=Bg.drew.past hb9; have hc9:=(hb3.drew).trans (hb9.mono hb3.drew.size)))) | fail
    go_wp2_with fail
    go_roundw
    case rel=>exact ⟨q + 1, X, Y, by omega, by go_num, HO2, BG9, BR9, hc9⟩
    case measure=>simp [intOf]; omega
  ·have hq2 : ¬ (q : Int) < ks.length:=by omega
   have hb9:=hb.out
   go_wp2_with fail
   go_ret
   exact ⟨rfl, hb9⟩
end Go.Proofs.YtbnebpdpeegpbaaDoor.Cs
