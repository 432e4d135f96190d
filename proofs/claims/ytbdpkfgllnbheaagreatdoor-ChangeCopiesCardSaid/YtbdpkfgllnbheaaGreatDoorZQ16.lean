import Derived.Test.YtbdpkfgllnbheaaGreatDoorZQ11
set_option linter.unusedVariables false
set_option maxRecDepth 100000
namespace Go.Proofs.YtbdpkfgllnbheaaGreatDoor.Be
open Go.RowKit
def SaidRead (f : Nat) : Prop:=∀ (s : ByteArray) (a : Nat) (d : Int) (w : World), Hid (d = 21 - f) → 1 ≤ d → d ≤ 21 → s.size ≤ 1099511627776 → a ≤ s.size →
  Calls Tryz.prog 67 #[.string s, .int .i64 a, .int .i64 d] w (ReadPost a w (rd f (s.data.toList.drop a) a))
theorem three_new (w : World) (x y z : Value) (t : TypeId) (g : Nat) (hg : g = w.heap.size) : ∀ (j : Nat) (u : Value), [x, y, z][j]? = some u → (w.alloc (.cells #[x, y, z] t)).cell? ((⟨g, 0, none⟩ : Addr).add j) = some u:=by
 subst hg
 intro j u hj
 have B:=Blk.new w t #[x, y, z]
 match j, hj with
 | 0, hj=>exact (B.cell 0).trans hj
 | 1, hj=>exact (B.cell 1).trans hj
 | 2, hj=>exact (B.cell 2).trans hj
def conR (t k : Nat) : RK → Res
 | .bad p x=>.bad p x
 | .ok ks=>.ok (.mk t ⟨#[]⟩ ks) k
set_option maxHeartbeats 4000000 in
theorem read_cons (f : Nat) (ih : SaidRead f) (s : ByteArray) (a : Nat) (d : Int) (w : World) (hd : d ≤ 20) (hd1 : 1 ≤ d) (hdf : d = 20 - f) (h n : Nat) (hs : s.size ≤ 1099511627776) (ha : a < s.size) (hh : 2 ≤ h) (hn : (h : Int) + n ≤ s.size - a) (hn4 : n ≤ 4000)
  (C : ∀ w, Calls Tryz.prog 102 #[.string (s.extract a s.size)] w fun e w'=>e = .returned (.tuple #[.int .i64 h, .int .i64 n, .int .i64 0]) ∧ Below w.heap.size w w')
  (ht : s[a].toNat / 32 % 2 = 1) (R : RK) (hR : R = rdKids (rd f) n ((s.data.toList.drop (a + h)).take n) (a + h)) :
  Calls Tryz.prog 67 #[.string s, .int .i64 a, .int .i64 d] w
   (ReadPost a w (conR s[a].toNat (h + n) R)):=by
 obtain ⟨i0, hi, hz0, hz1, hz2⟩:=info_parts infoEl
 have HC:=Lib.hid C
 have HT:=Lib.hid ht
 have Ih:=Lib.hid ih
 have HR:=Lib.hid hR
 have Hdf:=Lib.hid hdf
 clear C ht ih hR hdf
 go_enter Tryz.func67, Tryz.ntmps67
 go_wp2_with fail
 refine (HC.out _).mono ?_
 rintro r w1 ⟨rfl, hb1⟩
 have B1:=(Blk.new w 53 #[.int .u8 0, .string ⟨#[]⟩, .slice none 0 0]).past hb1
 have hs1 : w.heap.size < w1.heap.size:=by have:=hb1.size; simp at this; omega
 have hb1':=((Below.refl w.heap.size w).alloc (Nat.le_refl _) (.cells #[.int .u8 0, .string ⟨#[]⟩, .slice none 0 0] 53)).trans (hb1.mono (by simp))
 clear hb1
 go_wp2_with fail
 refine (isCons_true _ _ (by have:=u8_lt s[a]; omega) HT.out).mono ?_
 rintro r w2 ⟨rfl, rfl⟩
 have B1':=B1.alloc (.cells #[.int .u8 s[a].toNat, .string ⟨#[]⟩, .slice none 0 0] 53)
 have E1:=Blk.new w1 53 #[.int .u8 s[a].toNat, .string ⟨#[]⟩, .slice none 0 0]
 have hbE:=hb1'.alloc (by omega) (.cells #[.int .u8 s[a].toNat, .string ⟨#[]⟩, .slice none 0 0] 53)
 clear B1 hb1'
 go_wp2_with fail
 go_loopw [14] (fun b wr=>∃ (m : Nat) (done : List El) (v : Value) (xs : List Value) (N : Nat), b = .int .i64 m ∧ m ≤ a + h + n ∧ done.length * 2 + (a + h) ≤ m ∧
   Hid (R = pre done (rdKids (rd f) N ((s.data.toList.take (a + h + n)).drop m) m) ∧ a + h + n - m ≤ N) ∧ Blk wr w.heap.size 53 #[.int .u8 0, .string ⟨#[]⟩, .slice none 0 0] ∧
   Blk wr w1.heap.size 53 #[.int .u8 s[a].toNat, .string ⟨#[]⟩, v] ∧ Gath wr (w1.heap.size + 1) v xs done ∧ Below w.heap.size w wr ∧ w1.heap.size + 1 ≤ wr.heap.size) (fun b wr=>a + h + n - (intOf b).toNat)
 case atStart =>
  refine ⟨a + h, [], .slice none 0 0, [], n, by go_num, by omega, by simp, ?_, B1', E1, Gath.nil _ _, hbE, by simp⟩
  refine ⟨?_, by omega⟩
  rw [pre_nil, HR.out, take_drop_eq]
 case round =>
  obtain ⟨m, done, v, xs, N, rfl, hm, hdl, hE, BR, BE, hG, hb, hsz⟩:=hrel
  by_cases hlt : (m : Int) < a + h + n
  ·have hxl : (s.extract 0 (a + h + n)).data.toList = s.data.toList.take (a + h + n):=by rw [Go.Lib.extract_data]; simp
   have hL0 : ((s.data.toList.take (a + h + n)).drop m).length = a + h + n - m:=by
    rw [List.length_drop, List.length_take]
    have : s.data.toList.length = s.size:=rfl
    omega
   obtain ⟨L, hL⟩ : ∃ L, L = (s.data.toList.take (a + h + n)).drop m:=⟨_, rfl⟩
   obtain ⟨N, rfl⟩ : ∃ N', N = N' + 1:=⟨N - 1, by have:=hE.out.2; omega⟩
   have hH:=Ih.out (s.extract 0 (a + h + n)) m (d + 1) wr (by show _ = _; rw [Hdf.out]; omega) (by omega) (by omega) (by rw [ByteArray.size_extract]; omega) (by rw [ByteArray.size_extract]; omega)
   rw [hxl, ← hL] at hH
   rw [← hL] at hL0 hE
   have hE1:=hE.out.1
   rw [rdKids, if_neg (by omega)] at hE1
   have r0 : wr.cell? ⟨w.heap.size, 0, none⟩ = some (.int .u8 0):=BR.cell 0
   have r1 : wr.cell? ⟨w.heap.size, 1, none⟩ = some (.string ⟨#[]⟩):=BR.cell 1
   have r2 : wr.cell? ⟨w.heap.size, 2, none⟩ = some (.slice none 0 0):=BR.cell 2
   cases hres : rd f L m with
   | bad p x =>
    rw [hres] at hH hE1
    have hx : ((x : Int) != 0) = true:=by rw [bne_iff_ne]; have:=rd_bad hres; omega
    have hfin : conR s[a].toNat (h + n) R = .bad p x:=by rw [hE1]; rfl
    have Hfin:=Lib.hid hfin
    clear hE1 hE hres hfin hL hxl hL0
    go_wp2_with fail
    refine hH.mono ?_
    rintro r w2 ⟨rfl, hb2⟩
    have BR3:=(BR.past hb2).alloc (.cells #[.int .u8 0, .string ⟨#[]⟩, .slice none 0 0] 53)
    have c0 : (w2.alloc (.cells #[.int .u8 0, .string ⟨#[]⟩, .slice none 0 0] 53)).cell? ⟨w.heap.size, 0, none⟩ = some (.int .u8 0):=BR3.cell 0
    have c1 : (w2.alloc (.cells #[.int .u8 0, .string ⟨#[]⟩, .slice none 0 0] 53)).cell? ⟨w.heap.size, 1, none⟩ = some (.string ⟨#[]⟩):=BR3.cell 1
    have c2 : (w2.alloc (.cells #[.int .u8 0, .string ⟨#[]⟩, .slice none 0 0] 53)).cell? ⟨w.heap.size, 2, none⟩ = some (.slice none 0 0):=BR3.cell 2
    have g0:=BR3.frozen 0
    have g1:=BR3.frozen 1
    have g2:=BR3.frozen 2
    have hb3:=hb.trans (hb2.mono (by omega))
    have hs2:=hb2.size
    clear hH hb2 r0 r1 r2
    go_wp2_with fail
    refine bodyPost_ret (res_readAt _ w.heap.size _ _ _ _ _ _ _ rfl rfl rfl rfl BR3.set3) rfl ?_
    rw [Hfin.out]
    refine ⟨rfl, ?_⟩
    exact (((hb3.alloc (by omega) _).setCell (p:=⟨w.heap.size, 0, none⟩) (Nat.le_refl _) _).setCell (p:=⟨w.heap.size, 1, none⟩) (Nat.le_refl _) _).setCell (p:=⟨w.heap.size, 2, none⟩) (Nat.le_refl _) _
   | ok e k =>
    rw [hres] at hH hE1
    obtain ⟨hk2, hkL⟩:=rd_ok hres
    rw [hL0] at hkL
    have HE1:=Lib.hid hE1
    have HN : a + h + n - m ≤ N + 1:=hE.out.2
    have HL:=Lib.hid hL
    clear hE1 hE hres hL hxl hL0
    go_wp2_with fail
    refine hH.mono ?_
    rintro r w2 ⟨x, y, z, rfl, hb2, hlies⟩
    obtain ⟨t', b', A', n', c', hcs⟩:=hlies.form
    simp only [List.cons.injEq, and_true] at hcs
    obtain ⟨rfl, rfl, rfl⟩:=hcs
    have hs2:=hb2.size
    have BE3:=(BE.past hb2).alloc (.cells #[.int .u8 t', .string b', .slice A' n' c'] 53)
    have c2 : (w2.alloc (.cells #[.int .u8 t', .string b', .slice A' n' c'] 53)).cell? ⟨w1.heap.size, 2, none⟩ = some v:=BE3.cell 2
    have hG3:=(hG.past hb2).alloc (.cells #[.int .u8 t', .string b', .slice A' n' c'] 53)
    have hlies3 : Lies (w2.alloc (.cells #[.int .u8 t', .string b', .slice A' n' c'] 53)) (fun b=>w1.heap.size + 1 ≤ b ∧ b < (w2.alloc (.cells #[.int .u8 t', .string b', .slice A' n' c'] 53)).heap.size ∧ v.ownBlock ≠ some b) e [.int .u8 t', .string b', .slice A' n' c']:=by
     refine hlies.imp (fun b hb'=>⟨by omega, by simp; omega, fun e=>?_⟩) (fun p hp=>World.cell?_alloc_lt _ _ _ hp.2)
     have:=(hG.1.lt _ e).2
     omega
    have HG:=Lib.hid hG3
    have HLies:=Lib.hid hlies3
    clear hH r0 r1 r2 hlies hlies3 hG3
    go_wp2_with (at_builtin; go_loud (refine wpList_append_own_at _ rfl (.tmp 100) (.tmp 102) 51 rfl (w1.heap.size + 1) 53 i0 (.agg #[.int .u8 0, .string ⟨#[]⟩, .slice none 0 0]) 3 48 Tryz.underlying51 hi hz0 hz1 hz2 rfl (by decide) v done.length xs rfl (HG.out.alloc _).1 ⟨w2.heap.size + 1, 0, none⟩ 1 1 [.int .u8 t', .string b', .slice A' n' c'] rfl rfl (three_new _ _ _ _ _ _ (by simp)) ?q2 ?q3 ?q4 ?q5 ?_))
    case q2=>intro u hu; simp at hu; rcases hu with rfl | rfl | rfl <;> rfl
    case q3=>unfold maxLen; omega
    case q4=>omega
    case q5=>simp; omega
    intro v2 w3 hown3 hg3 _ hat3
    have hne1 : ∀ q, v.ownBlock = some q → w1.heap.size + 1 ≤ q:=fun q hq=>(hG.1.lt _ hq).1
    have BR4:=(((BR.past hb2).alloc (.cells #[.int .u8 t', .string b', .slice A' n' c'] 53)).alloc (.cells #[.int .u8 t', .string b', .slice A' n' c'] 53)).grown hg3 (fun e=>by have:=hne1 _ e.symm; omega)
    have BE4:=(BE3.alloc (.cells #[.int .u8 t', .string b', .slice A' n' c'] 53)).grown hg3 (fun e=>by have:=hne1 _ e.symm; omega)
    have hl4:=HLies.out.imp (w':=(w2.alloc (.cells #[.int .u8 t', .string b', .slice A' n' c'] 53)).alloc (.cells #[.int .u8 t', .string b', .slice A' n' c'] 53)) (P':=fun b=>w1.heap.size + 1 ≤ b ∧ b < ((w2.alloc (.cells #[.int .u8 t', .string b', .slice A' n' c'] 53)).alloc (.cells #[.int .u8 t', .string b', .slice A' n' c'] 53)).heap.size ∧ v.ownBlock ≠ some b)
     (fun b hb'=>⟨hb'.1, by have:=hb'.2.1; simp at this ⊢; omega, hb'.2.2⟩) (fun p hp=>World.cell?_alloc_lt _ _ _ hp.2.1)
    have hG4:=Gath.step (HG.out.alloc (.cells #[.int .u8 t', .string b', .slice A' n' c'] 53)) hl4 hown3 hg3 (by simpa using hat3)
    have hb4:=(((hb.trans (hb2.mono (by omega))).alloc (by omega) (.cells #[.int .u8 t', .string b', .slice A' n' c'] 53)).alloc (by simp; omega) (.cells #[.int .u8 t', .string b', .slice A' n' c'] 53)).grown hg3 (by simp; omega) (fun q hq=>by have:=hne1 _ hq; omega)
    have hs4 : w2.heap.size + 2 ≤ w3.heap.size:=by have:=hg3.size; simp at this; omega
    obtain ⟨ao, q, cp, hv2⟩ : ∃ ao q cp, v2 = .slice ao q cp:=by
     rcases hown3.2 with ⟨hv, _⟩ | ⟨g, cap, cur, hv, _⟩
     ·exact ⟨_, _, _, hv⟩
     ·exact ⟨_, _, _, hv⟩
    subst hv2
    have k2 : w3.cell? ⟨w1.heap.size, 2, none⟩ = some v:=BE4.cell 2
    have kf:=BE4.frozen 2
    have HG4:=Lib.hid hG4
    clear hg3 hown3 hat3 hl4 hG4 hG c2 BE3 hb2
    go_wp2_with fail
    go_roundw
    case rel =>
     refine ⟨m + k, done ++ [e], _, _, N, by go_num, by omega, by simp; omega, ?_, BR4.far (by show w.heap.size ≠ w1.heap.size; omega) _, BE4.set_ 2 _, HG4.out.set_ (p:=⟨w1.heap.size, 2, none⟩) (by show w1.heap.size < w1.heap.size + 1; omega) _,
      hb4.setCell (p:=⟨w1.heap.size, 2, none⟩) (by show w.heap.size ≤ w1.heap.size; omega) _, by simp [World.setCell]; omega⟩
     refine ⟨?_, by omega⟩
     rw [HE1.out, HL.out, List.drop_drop]
     cases rdKids (rd f) N (List.drop (m + k) (List.take (a + h + n) s.data.toList)) (m + k) <;> simp [pre]
    case measure=>simp [intOf]; omega
  ·have hme : m = a + h + n:=by omega
   have hL0 : ((s.data.toList.take (a + h + n)).drop m) = []:=by
    apply List.eq_nil_of_length_eq_zero
    rw [List.length_drop, List.length_take]; omega
   have hR : R = .ok done:=by
    have:=hE.out.1
    rw [hL0] at this
    rw [this]
    cases N <;> simp [rdKids, pre]
   have Hr:=Lib.hid (show conR s[a].toNat (h + n) R = .ok (.mk s[a].toNat ⟨#[]⟩ done) (h + n) by rw [hR]; rfl)
   obtain ⟨A, c, ds, hv, hK⟩:=hG.shut
   subst hv
   have r0 : wr.cell? ⟨w.heap.size, 0, none⟩ = some (.int .u8 0):=BR.cell 0
   have r1 : wr.cell? ⟨w.heap.size, 1, none⟩ = some (.string ⟨#[]⟩):=BR.cell 1
   have r2 : wr.cell? ⟨w.heap.size, 2, none⟩ = some (.slice none 0 0):=BR.cell 2
   have g0:=BR.frozen 0
   have g1:=BR.frozen 1
   have g2:=BR.frozen 2
   have e0 : wr.cell? ⟨w1.heap.size, 0, none⟩ = some (.int .u8 s[a].toNat):=BE.cell 0
   have e1 : wr.cell? ⟨w1.heap.size, 1, none⟩ = some (.string ⟨#[]⟩):=BE.cell 1
   have e2 : wr.cell? ⟨w1.heap.size, 2, none⟩ = some (.slice A done.length c):=BE.cell 2
   have hKK:=Lib.hid hK
   have hme' : a + h + n ≤ m:=by omega
   clear hE hR hL0 hG hK hme
   go_wp2_with fail
   refine bodyPost_ret (res_readAt _ w.heap.size _ _ _ _ _ _ _ rfl rfl rfl rfl BR.set3) rfl ?_
   rw [Hr.out]
   refine ⟨.int .u8 s[a].toNat, .string ⟨#[]⟩, .slice A done.length c, ?_, ((hb.setCell (p:=⟨w.heap.size, 0, none⟩) (Nat.le_refl _) _).setCell (p:=⟨w.heap.size, 1, none⟩) (Nat.le_refl _) _).setCell (p:=⟨w.heap.size, 2, none⟩) (Nat.le_refl _) _, ?_⟩
   ·show Ending.returned (.tuple #[.agg #[.int .u8 s[a].toNat, .string ⟨#[]⟩, .slice A done.length c], .int .i64 ((a : Int) + h + n), .int .i64 0, .int .i64 0]) = _
    rw [show ((a + (h + n) : Nat) : Int) = (a : Int) + h + n by omega]
   ·refine Lies.shut (by have:=u8_lt s[a]; omega) (by simp [ByteArray.size]) (by unfold maxLen; omega) (hKK.out.imp (fun b hb'=>⟨Nat.le_trans (by omega) hb'.1, by have:=hb'.2; simp [World.setCell]; omega⟩) (fun p hp=>?_))
    have hpb : p.block ≠ w.heap.size:=by have:=hp.1; omega
    rw [World.cell?_setCell_other _ _ _ _ (fun e=>hpb (by rw [← e])), World.cell?_setCell_other _ _ _ _ (fun e=>hpb (by rw [← e])), World.cell?_setCell_other _ _ _ _ (fun e=>hpb (by rw [← e]))]
theorem rd_cons {f : Nat} {l : List UInt8} {a : Nat} {q : Nat × Nat × Nat} (hq : rdHead (decide (f + 1 < 20)) l = q) (h0 : q.2.2 = 0) (ht : (l.headD 0).toNat / 32 % 2 = 1) :
  rd (f + 1) l a = conR (l.headD 0).toNat (q.1 + q.2.1) (rdKids (rd f) q.2.1 ((l.drop q.1).take q.2.1) (a + q.1)):=by
 simp only [rd, hq]
 rw [if_neg (by simpa using h0), if_neg (by omega)]
 cases rdKids (rd f) q.2.1 (List.take q.2.1 (List.drop q.1 l)) (a + q.1) <;> rfl
theorem rd_prim {f : Nat} {l : List UInt8} {a : Nat} {q : Nat × Nat × Nat} (hq : rdHead (decide (f + 1 < 20)) l = q) (h0 : q.2.2 = 0) (ht : (l.headD 0).toNat / 32 % 2 = 0) :
  rd (f + 1) l a = .ok (.mk (l.headD 0).toNat ⟨((l.drop q.1).take q.2.1).toArray⟩ []) (q.1 + q.2.1):=by
 simp only [rd, hq]
 rw [if_neg (by simpa using h0), if_pos ht]
theorem rd_err {f : Nat} {l : List UInt8} {a : Nat} {q : Nat × Nat × Nat} (hq : rdHead (decide (f + 1 < 20)) l = q) (h0 : q.2.2 ≠ 0) : rd (f + 1) l a = .bad a q.2.2:=by
 simp only [rd, hq]
 rw [if_pos h0]
theorem read_any : ∀ f : Nat, f ≤ 20 → SaidRead f
 | 0, _=>by
  intro s a d w hd hd1 hd2 hs ha
  have hd:=hd.out
  refine (read_deep s a d w (by omega)).mono ?_
  intro e w' h
  exact h
 | f + 1, hf=>by
  have ih:=read_any f (by omega)
  intro s a d w hd hd1 hd2 hs ha
  have hd:=hd.out
  have hxl : (s.extract a s.size).data.toList = s.data.toList.drop a:=Go.Lib.extract_to_end s a
  have hll : (s.data.toList.drop a).length = s.size - a:=by
   rw [List.length_drop]; rfl
  obtain ⟨h, n, x, hh⟩ : ∃ h n x, Sp.hd (s.data.toList.drop a) = (h, n, x):=⟨_, _, _, rfl⟩
  have C : ∀ w, Calls Tryz.prog 102 #[.string (s.extract a s.size)] w fun e w'=>e = .returned (.tuple #[.int .i64 h, .int .i64 n, .int .i64 x]) ∧ Below w.heap.size w w':=by
   intro w
   have:=Head_any (s.extract a s.size) w (by rw [ByteArray.size_extract]; unfold maxLen; omega)
   rw [hxl, hdV_of hh] at this
   exact this
  have hin : decide (f + 1 < 20) = decide (1 < d):=by rw [Bool.eq_iff_iff]; simp; omega
  by_cases h0 : x = 0
  ·subst h0
   obtain ⟨g1, g2, g3, g4⟩:=hd_ok hh
   by_cases hfit : h + n ≤ s.size - a
   ·have hq : rdHead (decide (f + 1 < 20)) (s.data.toList.drop a) = (h, n, 0) :=
     rdHead_fit hh (by omega)
    have ha' : a < s.size:=by omega
    have hhead : (s.data.toList.drop a).headD 0 = s[a]:=by
     rw [List.drop_eq_getElem_cons (show a < s.data.toList.length from ha')]
     rfl
    by_cases ht : s[a].toNat / 32 % 2 = 0
    ·rw [rd_prim hq rfl (by rw [hhead]; exact ht), hhead]
     refine (read_prim s a d w (by omega) h n hs ha' g1 (by omega) C ht).mono ?_
     rintro e w' ⟨rfl, hb⟩
     have e1 : s.extract (a + h) (a + h + n) = ⟨(((s.data.toList.drop a).drop h).take n).toArray⟩:=by
      rw [extract_mk, List.drop_drop]
      congr 3
      omega
     refine ⟨_, _, _, ?_, hb, Lies.leaf (by have:=u8_lt s[a]; omega) ?_⟩
     ·rw [e1, show ((a + (h + n) : Nat) : Int) = (a : Int) + h + n by omega]
     ·show (List.toArray _).size ≤ maxLen
      rw [List.size_toArray, List.length_take]
      refine Nat.le_trans (Nat.min_le_left _ _) ?_
      show n ≤ maxLen
      unfold maxLen; omega
    ·have ht' : s[a].toNat / 32 % 2 = 1:=by omega
     rw [rd_cons hq rfl (by rw [hhead]; exact ht'), hhead]
     refine read_cons f ih s a d w (by omega) hd1 (by omega) h n hs ha' g1 (by omega) g4 C ht' _ ?_
     rw [List.drop_drop]
   ·by_cases h1 : 1 < d
    ·have hq : rdHead (decide (f + 1 < 20)) (s.data.toList.drop a) = (h, n, 11):=by
      rw [rdHead_past hh (by omega), hin]; simp [h1]
     rw [rd_err hq (by simp)]
     exact (read_past2 s a d w (by omega) h n hs ha C h1 (by omega) (by omega)).mono fun e w' h=>h
    ·have hq : rdHead (decide (f + 1 < 20)) (s.data.toList.drop a) = (h, n, 10):=by
      rw [rdHead_past hh (by omega), hin]; simp [h1]
     rw [rd_err hq (by simp)]
     exact (read_past s a d w (by omega) h n hs ha C (by omega) (by omega) (by omega)).mono fun e w' h=>h
  ·by_cases h10 : x = 10
   ·subst h10
    by_cases h1 : 1 < d
    ·have hq : rdHead (decide (f + 1 < 20)) (s.data.toList.drop a) = (h, n, 11):=by
      rw [rdHead_short hh, hin]; simp [h1]
     rw [rd_err hq (by simp)]
     exact (read_length s a d w (by omega) h n hs ha C h1).mono fun e w' h=>h
    ·have hq : rdHead (decide (f + 1 < 20)) (s.data.toList.drop a) = (h, n, 10):=by
      rw [rdHead_short hh, hin]; simp [h1]
     rw [rd_err hq (by simp)]
     exact (read_short s a d w (by omega) h n hs ha C (by omega)).mono fun e w' h=>h
   ·have hq : rdHead (decide (f + 1 < 20)) (s.data.toList.drop a) = (h, n, x):=rdHead_other hh h0 h10
    rw [rd_err hq h0]
    exact (read_err s a d w (by omega) h n x hs ha C (beq_eq_false_iff_ne.2 (by omega)) (beq_eq_false_iff_ne.2 (by omega)) (by rw [bne_iff_ne]; omega)).mono fun e w' h=>h
theorem res_Read (W : World) (g : Nat) (x y z n p e : Value) (tmps : Array Value) (h6 : tmps.getD 2 undef = .pointer (some ⟨g, 0, none⟩)) (h7 : tmps.getD 3 undef = n) (h8 : tmps.getD 4 undef = p) (h9 : tmps.getD 5 undef = e)
  (B : Blk W g 53 #[x, y, z]) : (results Tryz.f39 tmps).run Tryz.prog W = .ok (.tuple #[.agg #[x, y, z], n, p, e]) W:=by
 have q0 : W.cell? ⟨g, 0, none⟩ = some x:=B.cell 0
 have q1 : W.cell? ⟨g, 1, none⟩ = some y:=B.cell 1
 have q2 : W.cell? ⟨g, 2, none⟩ = some z:=B.cell 2
 rw [Array.getD_eq_getD_getElem?] at h6 h7 h8 h9
 simp [results, Tryz.results39, go_sem, h6, h7, h8, h9, q0, q1, q2]
set_option maxHeartbeats 1000000 in
theorem Read_any (s : ByteArray) (w : World) (hs : s.size ≤ 1099511627776) :
  Calls Tryz.prog 39 #[.string s] w (ReadPost 0 w (rd 20 s.data.toList 0)):=by
 have C : ∀ w, Calls Tryz.prog 67 #[.string s, .int .i64 0, .int .i64 1] w (ReadPost 0 w (rd 20 s.data.toList 0)):=fun w=>by
  have:=read_any 20 (by omega) s 0 1 w (by show _ = _; omega) (by omega) (by omega) hs (by omega)
  simpa using this
 cases hr : rd 20 s.data.toList 0 with
 | bad p x =>
  rw [hr] at C
  have HC:=Lib.hid C
  clear C hr
  go_enter Tryz.func39, Tryz.ntmps39
  go_wp2_with fail
  refine (HC.out _).mono ?_
  rintro r w1 ⟨rfl, hb1⟩
  have B1:=(Blk.new w 53 #[.int .u8 0, .string ⟨#[]⟩, .slice none 0 0]).past hb1
  have c0 : w1.cell? ⟨w.heap.size, 0, none⟩ = some (.int .u8 0):=B1.cell 0
  have c1 : w1.cell? ⟨w.heap.size, 1, none⟩ = some (.string ⟨#[]⟩):=B1.cell 1
  have c2 : w1.cell? ⟨w.heap.size, 2, none⟩ = some (.slice none 0 0):=B1.cell 2
  have g0:=B1.frozen 0
  have g1:=B1.frozen 1
  have g2:=B1.frozen 2
  go_wp2_with fail
  refine bodyPost_ret (res_Read _ w.heap.size _ _ _ _ _ _ _ rfl rfl rfl rfl B1.set3) rfl ⟨rfl, ?_⟩
  exact (((((Below.refl _ _).alloc (Nat.le_refl _) _).trans (hb1.mono (by simp))).setCell (p:=⟨w.heap.size, 0, none⟩) (Nat.le_refl _) _).setCell (p:=⟨w.heap.size, 1, none⟩) (Nat.le_refl _) _).setCell (p:=⟨w.heap.size, 2, none⟩) (Nat.le_refl _) _
 | ok e n =>
  rw [hr] at C
  have HC:=Lib.hid C
  clear C hr
  go_enter Tryz.func39, Tryz.ntmps39
  go_wp2_with fail
  refine (HC.out _).mono ?_
  rintro r w1 ⟨x, y, z, rfl, hb1, hlies⟩
  obtain ⟨t', b', A', n', c', hcs⟩:=hlies.form
  simp only [List.cons.injEq, and_true] at hcs
  obtain ⟨rfl, rfl, rfl⟩:=hcs
  have B1:=(Blk.new w 53 #[.int .u8 0, .string ⟨#[]⟩, .slice none 0 0]).past hb1
  have c0 : w1.cell? ⟨w.heap.size, 0, none⟩ = some (.int .u8 0):=B1.cell 0
  have c1 : w1.cell? ⟨w.heap.size, 1, none⟩ = some (.string ⟨#[]⟩):=B1.cell 1
  have c2 : w1.cell? ⟨w.heap.size, 2, none⟩ = some (.slice none 0 0):=B1.cell 2
  have g0:=B1.frozen 0
  have g1:=B1.frozen 1
  have g2:=B1.frozen 2
  have hs1:=hb1.size
  go_wp2_with fail
  refine bodyPost_ret (res_Read _ w.heap.size _ _ _ _ _ _ _ rfl rfl rfl rfl B1.set3) rfl ⟨.int .u8 t', .string b', .slice A' n' c', ?_, ?_, ?_⟩
  rotate_right
  ·refine hlies.imp (fun b hb'=>⟨Nat.le_trans (by simp) hb'.1, by have:=hb'.2; simp [World.setCell]; omega⟩) (fun p hp=>?_)
   have hpb : p.block ≠ w.heap.size:=by have:=hp.1; simp at this; omega
   rw [World.cell?_setCell_other _ _ _ _ (fun e=>hpb (by rw [← e])), World.cell?_setCell_other _ _ _ _ (fun e=>hpb (by rw [← e])), World.cell?_setCell_other _ _ _ _ (fun e=>hpb (by rw [← e]))]
  ·show Ending.returned (.tuple #[.agg #[.int .u8 t', .string b', .slice A' n' c'], .int .i64 n, .int .i64 0, .int .i64 0]) = _
   rw [Nat.zero_add]
  ·exact (((((Below.refl _ _).alloc (Nat.le_refl _) _).trans (hb1.mono (by simp))).setCell (p:=⟨w.heap.size, 0, none⟩) (Nat.le_refl _) _).setCell (p:=⟨w.heap.size, 1, none⟩) (Nat.le_refl _) _).setCell (p:=⟨w.heap.size, 2, none⟩) (Nat.le_refl _) _
end Go.Proofs.YtbdpkfgllnbheaaGreatDoor.Be
