import Derived.Test.YtconghaebebncaaGreatDoorZR27
set_option linter.unusedVariables false
set_option maxRecDepth 100000
namespace Go.Proofs.YtconghaebebncaaGreatDoor.Ms
open Go.RowKit
def SaidQF (f : Fil) : Prop:=∀ (x0 x1 x2 x3 x4 : Value) (w : World), Fi.frm f = true → Fi.tot f ≤ 20 → Fi.Lies w (· < w.heap.size) f [x0, x1, x2, x3, x4] →
  Calls Tryz.prog 55 #[.agg #[x0, x1, x2, x3, x4]] w (NewEl w (filEl f))
def Rf (w0 : World) (cs : Array Value) (w : World) : Prop:=Blk w w0.heap.size 25 cs ∧ Blk w (w0.heap.size + 1) 57 #[.int .u8 0, .string ⟨#[]⟩, .slice none 0 0]
theorem Rf.past {w0 w w' : World} {cs : Array Value} (h : Rf w0 cs w) (hb : Below w.heap.size w w') : Rf w0 cs w':=⟨h.1.past hb, h.2.past hb⟩
theorem Rf.upto {w0 w w' : World} {cs : Array Value} (h : Rf w0 cs w) (hb : Below (w0.heap.size + 2) w w') : Rf w0 cs w':=⟨(hb.block _ (by omega)).trans h.1, (hb.block _ (by omega)).trans h.2⟩
theorem Rf.new (w : World) (cs : Array Value) : Rf w cs ((w.alloc (.cells cs 25)).alloc (.cells #[.int .u8 0, .string ⟨#[]⟩, .slice none 0 0] 57)):=by
 have B:=Blk.new (w.alloc (.cells cs 25)) 57 #[.int .u8 0, .string ⟨#[]⟩, .slice none 0 0]
 rw [show (w.alloc (.cells cs 25)).heap.size = w.heap.size + 1 by simp] at B
 exact ⟨(Blk.new w _ _).alloc _, B⟩
theorem two_belowR (w : World) (a b : Array Value) (s t : TypeId) : Below w.heap.size w ((w.alloc (.cells a s)).alloc (.cells b t)) ∧ w.heap.size + 2 ≤ ((w.alloc (.cells a s)).alloc (.cells b t)).heap.size :=
 ⟨((Below.refl w.heap.size w).alloc (Nat.le_refl _) _).alloc (by simp) _, by simp⟩
theorem rfil_tell {w w1 w2 : World} {t : Nat} {v : Value} {xs : List Value} {D ks : List Be.El} (hD : D = ks) (hb : Below w.heap.size w w1) (hb2 : Below w1.heap.size w1 w2) (hG : Be.Gath w1 (w.heap.size + 2) v xs D) :
  ∃ A c, v = .slice A ks.length c ∧ NewLst w t ks (.returned (.agg #[.int .u8 (t : Nat), .string ⟨#[]⟩, v])) (((w2.setCell ⟨w.heap.size + 1, 0, none⟩ (.int .u8 (t : Nat))).setCell ⟨w.heap.size + 1, 1, none⟩ (.string ⟨#[]⟩)).setCell ⟨w.heap.size + 1, 2, none⟩ v):=by
 subst hD
 obtain ⟨A, c, ds, rfl, hK⟩:=hG.shut
 refine ⟨A, c, rfl, new_lstG (P:=fun b=>w.heap.size + 2 ≤ b ∧ b < w2.heap.size) (hb.trans (hb2.mono hb.size)) (by omega) (hK.imp (fun b h=>⟨h.1, Nat.lt_of_lt_of_le h.2 hb2.size⟩) (fun p hp=>hb2.cell hp.2)) (fun b h=>⟨?_, ?_, h.2⟩)⟩
 ·have:=h.1; omega
 ·have:=h.1; omega
theorem strs_two (w : World) (g : Nat) (hg : w.heap.size = g) (a v : ByteArray) : Fi.StrsAt (w.alloc (.cells #[.string a, .string v] 9)) (· < (w.alloc (.cells #[.string a, .string v] 9)).heap.size) (some ⟨g, 0, none⟩) [a, v]:=by
 subst hg
 have B:=Blk.new w 9 #[.string a, .string v]
 refine fun _=>⟨_, rfl, by simp, fun i hi=>?_⟩
 rw [Addr.add_lit, Nat.zero_add, B.cell]
 match i, hi with
 | 0, _=>rfl
 | 1, _=>rfl
set_option maxHeartbeats 4000000 in
theorem qf_kids (k : Int) (a v : ByteArray) (ss : List ByteArray) (ks : List Fil) (S A : Option Addr) (sc c : Nat) (ds : Nat → List Value) (w : World) (hk : k = 1 ∨ k = 2 ∨ k = 3) (ih : ∀ f ∈ ks, SaidQF f) (hok : ∀ f ∈ ks, Fi.frm f = true ∧ Fi.tot f ≤ 20) (hl : ks.length ≤ 20) (hK : Fi.KidsAt w (· < w.heap.size) A ks ds) :
  Calls Tryz.prog 55 #[.agg #[.int .i64 k, .string a, .string v, .slice S ss.length sc, .slice A ks.length c]] w (NewEl w (filEl (.mk k a v ss ks))):=by
 obtain ⟨L, hL⟩ : ∃ L, L = ks.map filEl:=⟨_, rfl⟩
 have hfe : filEl (.mk k a v ss ks) = lst (filTag k) L:=by rw [filEl, if_pos hk, filEls_map, hL]
 have hmt:=map_take filEl ks
 rw [← hL] at hmt
 rw [hfe]
 have htg : filTag k ≤ 255:=by rcases hk with rfl | rfl | rfl <;> decide
 have hw1 : IntKind.i64.wrap (159 + k) = 159 + k:=IntWalk.i64_in _ (by omega)
 have hwr : IntKind.u8.wrap (159 + k) = ((filTag k : Nat) : Int):=by rcases hk with rfl | rfl | rfl <;> rfl
 have hk3 : k ≤ 3:=by omega
 have HS:=Lib.hid hok
 have IH:=Lib.hid ih
 have HM:=Lib.hid hmt
 have hml : L.length ≤ 20:=by rw [hmt.1]; omega
 generalize filTag k = t at htg hwr ⊢
 obtain ⟨Hb0, Hz0⟩:=two_belowR w #[.int .i64 k, .string a, .string v, .slice S ss.length sc, .slice A ks.length c] #[.int .u8 0, .string ⟨#[]⟩, .slice none 0 0] 25 57
 have HR:=Lib.hid (Rf.new w #[.int .i64 k, .string a, .string v, .slice S ss.length sc, .slice A ks.length c])
 clear hok hL hmt ih hfe hk
 go_enter Tryz.func55, Tryz.ntmps55
 have b0 : ((w.alloc (.cells #[.int .i64 k, .string a, .string v, .slice S ss.length sc, .slice A ks.length c] 25)).alloc (.cells #[.int .u8 0, .string ⟨#[]⟩, .slice none 0 0] 57)).cell? ⟨w.heap.size, 0, none⟩ = some (.int .i64 k):=HR.out.1.cell 0
 go_wp2_with fail
 clear b0
 go_loopw [3, 4] (fun v' i wr=>∃ (q : Nat) (xs : List Value), q ≤ ks.length ∧ i = .int .i64 q ∧ Hid (Be.Gath wr (w.heap.size + 2) v' xs (L.take q)) ∧ Hid (Rf w #[.int .i64 k, .string a, .string v, .slice S ss.length sc, .slice A ks.length c] wr) ∧ Below w.heap.size w wr ∧ w.heap.size + 2 ≤ wr.heap.size) (fun v' i wr=>ks.length - (intOf i).toNat)
 case atStart=>exact ⟨0, [], Nat.zero_le _, rfl, Be.Gath.nil _ _, HR, Hb0, Hz0⟩
 case round =>
  obtain ⟨q, xs, hq, rfl, hG, hBr, hb, hge⟩:=hrel
  have hsz:=hb.size
  by_cases hlt : q < ks.length
  ·obtain ⟨ad, k', a', v', S', m', d', B', n', e', rfl, hp, f0, f1, f2, f3, f4, hL⟩:=hK.kid hb hlt
   have hsq:=HS.out _ (List.getElem_mem hlt)
   have hih:=IH.out _ (List.getElem_mem hlt)
   have hdl:=take_len HM.out.1 hq (by omega)
   have hmt:=Lib.hid (HM.out.2 q hlt)
   generalize ks[q] = d at hL hsq hmt hih
   have C:=Lib.hid (hih _ _ _ _ _ wr hsq.1 hsq.2 hL)
   have b4 : wr.cell? ⟨w.heap.size, 4, none⟩ = some (.slice (some ad) ks.length c):=hBr.out.1.cell 4
   clear hL hsq hih
   go_wp2_with fail
   refine C.out.mono ?_
   rintro e w1 ⟨t1, b1, A1, n1, c1, rfl, hb1, hL1⟩
   have hL2:=fresh_own hG.out hge hL1 (fun _ h=>h)
   have hbA:=(Below.refl w1.heap.size w1).alloc (Nat.le_refl _) (.cells #[.int .u8 (t1 : Nat), .string b1, .slice A1 n1 c1] 57)
   have HL:=Lib.hid (hL2.imp (fun b hb'=>(⟨hb'.1, Nat.lt_of_lt_of_le hb'.2.1 hbA.size, hb'.2.2⟩ : w.heap.size + 2 ≤ b ∧ b < (w1.alloc (.cells #[.int .u8 (t1 : Nat), .string b1, .slice A1 n1 c1] 57)).heap.size ∧ _)) (fun p hp=>hbA.cell hp.2.1))
   have HB:=Lib.hid (Blk.new w1 57 #[.int .u8 (t1 : Nat), .string b1, .slice A1 n1 c1])
   have HG1:=Lib.hid ((hG.out.past hb1).past hbA)
   have HBr:=Lib.hid ((hBr.out.past hb1).past hbA)
   have hbw:=hb.trans ((hb1.trans (hbA.mono hb1.size)).mono hsz)
   have hz2 : w.heap.size + 2 ≤ (w1.alloc (.cells #[.int .u8 (t1 : Nat), .string b1, .slice A1 n1 c1] 57)).heap.size:=Nat.le_trans hge (Nat.le_trans hb1.size hbA.size)
   clear hG hb hb1 hL1 hL2 hbA hBr b4 f0 f1 f2 f3 f4
   go_wp2_with (at_builtin; go_loud (refine wpList_pushE rfl _ _ rfl (w.heap.size + 2) _ _ _ rfl HG1.out w1.heap.size rfl HB.out one3 HL.out hdl hz2 ?_))
   intro v' w2 hG2 hb2
   rw [← hmt.out] at hG2
   have HG2:=Lib.hid hG2
   have HBr2:=Lib.hid (HBr.out.upto hb2)
   have hb3:=hbw.trans (hb2.mono (by omega))
   have hge2:=Nat.le_trans hz2 hb2.size
   clear hG2 hb2
   go_wp2_with fail
   refine ⟨⟨q + 1, _, by omega, by go_num, HG2, HBr2, hb3, hge2⟩, by simp [intOf]; omega⟩
  ·have hq2 : q = ks.length:=by omega
   subst hq2
   have hD : L.take ks.length = L:=List.take_of_length_le (by rw [HM.out.1]; omega)
   have htl:=rfil_tell (t:=t) (w2:=wr) hD hb (Below.refl _ _) hG.out
   obtain ⟨A2, c2, rfl, _⟩:=htl
   have HT:=Lib.hid (fun w2 (h : Below wr.heap.size wr w2)=>rfil_tell (t:=t) hD hb h hG.out)
   have b4 : wr.cell? ⟨w.heap.size, 4, none⟩ = some (.slice A ks.length c):=hBr.out.1.cell 4
   have b0 : wr.cell? ⟨w.heap.size, 0, none⟩ = some (.int .i64 k):=hBr.out.1.cell 0
   clear hG
   go_wp2_with fail
   refine (Be.RList_any (t : Nat) A2 L.length c2 wr).mono ?_
   rintro e w1 ⟨rfl, hb1⟩
   have hR1:=hBr.out.past hb1
   clear b0 b4
   have B1:=hR1.2
   have c0 : w1.cell? ⟨w.heap.size + 1, 0, none⟩ = some (.int .u8 0):=B1.cell 0
   have g0:=B1.frozen 0
   have c1 : w1.cell? ⟨w.heap.size + 1, 1, none⟩ = some (.string ⟨#[]⟩):=B1.cell 1
   have g1:=B1.frozen 1
   have c2 : w1.cell? ⟨w.heap.size + 1, 2, none⟩ = some (.slice none 0 0):=B1.cell 2
   have g2:=B1.frozen 2
   obtain ⟨_, _, _, hN⟩:=HT.out w1 hb1
   have HN:=Lib.hid (NewLst.el htg hml hN)
   clear hN hb
   go_wp2_with fail
   exact bodyPost_ret (Be.res_el rfl _ _ (w.heap.size + 1) _ _ _ rfl (Be.Blk.set3 B1)) rfl HN.out
set_option maxHeartbeats 4000000 in
theorem qf_present (k : Int) (a v : ByteArray) (ss : List ByteArray) (ks : List Fil) (S A : Option Addr) (sc c : Nat) (ds : Nat → List Value) (w : World) (hk : k = 7) (ha : a.size ≤ 400) :
  Calls Tryz.prog 55 #[.agg #[.int .i64 k, .string a, .string v, .slice S ss.length sc, .slice A ks.length c]] w (NewEl w (filEl (.mk k a v ss ks))):=by
 have hfe : filEl (.mk k a v ss ks) = txt 135 a:=by subst hk; rfl
 rw [hfe]
 clear hfe
 subst hk
 obtain ⟨Hb0, Hz0⟩:=two_belowR w #[.int .i64 7, .string a, .string v, .slice S ss.length sc, .slice A ks.length c] #[.int .u8 0, .string ⟨#[]⟩, .slice none 0 0] 25 57
 have HR:=Lib.hid (Rf.new w #[.int .i64 7, .string a, .string v, .slice S ss.length sc, .slice A ks.length c])
 go_enter Tryz.func55, Tryz.ntmps55
 have b0:=HR.out.1.cell 0
 have b1:=HR.out.1.cell 1
 simp only [List.getElem?_toArray, List.getElem?_cons_zero, List.getElem?_cons_succ] at b0 b1
 go_wp2_with fail
 refine (Be.RText_any 135 a _).mono ?_
 rintro e w1 ⟨rfl, hb1⟩
 have hR1:=HR.out.past hb1
 have hb2:=Hb0.trans (hb1.mono Hb0.size)
 clear b0 b1
 have B1:=hR1.2
 have c0 : w1.cell? ⟨w.heap.size + 1, 0, none⟩ = some (.int .u8 0):=B1.cell 0
 have g0:=B1.frozen 0
 have c1 : w1.cell? ⟨w.heap.size + 1, 1, none⟩ = some (.string ⟨#[]⟩):=B1.cell 1
 have g1:=B1.frozen 1
 have c2 : w1.cell? ⟨w.heap.size + 1, 2, none⟩ = some (.slice none 0 0):=B1.cell 2
 have g2:=B1.frozen 2
 go_wp2_with fail
 exact bodyPost_ret (Be.res_el rfl _ _ (w.heap.size + 1) _ _ _ rfl (Be.Blk.set3 B1)) rfl (new_elG (P:=fun _=>False) hb2 (by omega) (lies_leaf (by decide) (by omega)) (fun b hb=>hb.elim))
set_option maxHeartbeats 4000000 in
theorem qf_pair (k : Int) (a v : ByteArray) (ss : List ByteArray) (ks : List Fil) (S A : Option Addr) (sc c : Nat) (ds : Nat → List Value) (w : World) (hk : k = 4 ∨ k = 5 ∨ k = 6) (ha : a.size ≤ 400) (hv : v.size ≤ 400) :
  Calls Tryz.prog 55 #[.agg #[.int .i64 k, .string a, .string v, .slice S ss.length sc, .slice A ks.length c]] w (NewEl w (filEl (.mk k a v ss ks))):=by
 have hfe : filEl (.mk k a v ss ks) = lst (filTag k) [txt 4 a, txt 4 v]:=by rw [filEl, if_neg (by omega), if_neg (by omega), if_neg (by omega)]
 rw [hfe]
 clear hfe
 rcases hk with rfl | rfl | rfl
 ·obtain ⟨Hb0, Hz0⟩:=two_belowR w #[.int .i64 4, .string a, .string v, .slice S ss.length sc, .slice A ks.length c] #[.int .u8 0, .string ⟨#[]⟩, .slice none 0 0] 25 57
  have HR:=Lib.hid (Rf.new w #[.int .i64 4, .string a, .string v, .slice S ss.length sc, .slice A ks.length c])
  go_enter Tryz.func55, Tryz.ntmps55
  have b0:=HR.out.1.cell 0
  have b1:=HR.out.1.cell 1
  have b2:=HR.out.1.cell 2
  simp only [List.getElem?_toArray, List.getElem?_cons_zero, List.getElem?_cons_succ] at b0 b1 b2
  go_wp2_with fail
  have hA:=rall_any 163 (by decide) (some ⟨w.heap.size + 1 + 1, 0, none⟩) 2 [a, v] _ (by simp) (by simp; omega) (strs_two ((w.alloc (.cells #[.int .i64 4, .string a, .string v, .slice S ss.length sc, .slice A ks.length c] 25)).alloc (.cells #[.int .u8 0, .string ⟨#[]⟩, .slice none 0 0] 57)) (w.heap.size + 1 + 1) (by simp) a v)
  refine hA.mono ?_
  rintro e w1 ⟨A1, c1', ds1, rfl, hb1, hK1⟩
  have hbS:=(Below.refl ((w.alloc (.cells #[.int .i64 4, .string a, .string v, .slice S ss.length sc, .slice A ks.length c] 25)).alloc (.cells #[.int .u8 0, .string ⟨#[]⟩, .slice none 0 0] 57)).heap.size ((w.alloc (.cells #[.int .i64 4, .string a, .string v, .slice S ss.length sc, .slice A ks.length c] 25)).alloc (.cells #[.int .u8 0, .string ⟨#[]⟩, .slice none 0 0] 57))).alloc (Nat.le_refl _) (.cells #[.string a, .string v] 9)
  have hR1:=(HR.out.past hbS).past hb1
  have hb2:=(Hb0.trans (hbS.mono Hb0.size)).trans (hb1.mono (Nat.le_trans Hb0.size hbS.size))
  have HK1:=Lib.hid hK1
  have hz:=Nat.le_trans Hz0 hbS.size
  clear b0 b1 b2 hK1
  have B1:=hR1.2
  have c0 : w1.cell? ⟨w.heap.size + 1, 0, none⟩ = some (.int .u8 0):=B1.cell 0
  have g0:=B1.frozen 0
  have c1 : w1.cell? ⟨w.heap.size + 1, 1, none⟩ = some (.string ⟨#[]⟩):=B1.cell 1
  have g1:=B1.frozen 1
  have c2 : w1.cell? ⟨w.heap.size + 1, 2, none⟩ = some (.slice none 0 0):=B1.cell 2
  have g2:=B1.frozen 2
  go_wp2_with fail
  refine bodyPost_ret (Be.res_el rfl _ _ (w.heap.size + 1) _ _ _ rfl (Be.Blk.set3 B1)) rfl (NewLst.el (by decide) (by simp) (new_lstG hb2 (by omega) HK1.out (fun b hb=>⟨?_, ?_, hb.2⟩)))
  ·have:=hb.1; omega
  ·have:=hb.1; omega
 ·obtain ⟨Hb0, Hz0⟩:=two_belowR w #[.int .i64 5, .string a, .string v, .slice S ss.length sc, .slice A ks.length c] #[.int .u8 0, .string ⟨#[]⟩, .slice none 0 0] 25 57
  have HR:=Lib.hid (Rf.new w #[.int .i64 5, .string a, .string v, .slice S ss.length sc, .slice A ks.length c])
  go_enter Tryz.func55, Tryz.ntmps55
  have b0:=HR.out.1.cell 0
  have b1:=HR.out.1.cell 1
  have b2:=HR.out.1.cell 2
  simp only [List.getElem?_toArray, List.getElem?_cons_zero, List.getElem?_cons_succ] at b0 b1 b2
  go_wp2_with fail
  have hA:=rall_any 165 (by decide) (some ⟨w.heap.size + 1 + 1, 0, none⟩) 2 [a, v] _ (by simp) (by simp; omega) (strs_two ((w.alloc (.cells #[.int .i64 5, .string a, .string v, .slice S ss.length sc, .slice A ks.length c] 25)).alloc (.cells #[.int .u8 0, .string ⟨#[]⟩, .slice none 0 0] 57)) (w.heap.size + 1 + 1) (by simp) a v)
  refine hA.mono ?_
  rintro e w1 ⟨A1, c1', ds1, rfl, hb1, hK1⟩
  have hbS:=(Below.refl ((w.alloc (.cells #[.int .i64 5, .string a, .string v, .slice S ss.length sc, .slice A ks.length c] 25)).alloc (.cells #[.int .u8 0, .string ⟨#[]⟩, .slice none 0 0] 57)).heap.size ((w.alloc (.cells #[.int .i64 5, .string a, .string v, .slice S ss.length sc, .slice A ks.length c] 25)).alloc (.cells #[.int .u8 0, .string ⟨#[]⟩, .slice none 0 0] 57))).alloc (Nat.le_refl _) (.cells #[.string a, .string v] 9)
  have hR1:=(HR.out.past hbS).past hb1
  have hb2:=(Hb0.trans (hbS.mono Hb0.size)).trans (hb1.mono (Nat.le_trans Hb0.size hbS.size))
  have HK1:=Lib.hid hK1
  have hz:=Nat.le_trans Hz0 hbS.size
  clear b0 b1 b2 hK1
  have B1:=hR1.2
  have c0 : w1.cell? ⟨w.heap.size + 1, 0, none⟩ = some (.int .u8 0):=B1.cell 0
  have g0:=B1.frozen 0
  have c1 : w1.cell? ⟨w.heap.size + 1, 1, none⟩ = some (.string ⟨#[]⟩):=B1.cell 1
  have g1:=B1.frozen 1
  have c2 : w1.cell? ⟨w.heap.size + 1, 2, none⟩ = some (.slice none 0 0):=B1.cell 2
  have g2:=B1.frozen 2
  go_wp2_with fail
  refine bodyPost_ret (Be.res_el rfl _ _ (w.heap.size + 1) _ _ _ rfl (Be.Blk.set3 B1)) rfl (NewLst.el (by decide) (by simp) (new_lstG hb2 (by omega) HK1.out (fun b hb=>⟨?_, ?_, hb.2⟩)))
  ·have:=hb.1; omega
  ·have:=hb.1; omega
 ·obtain ⟨Hb0, Hz0⟩:=two_belowR w #[.int .i64 6, .string a, .string v, .slice S ss.length sc, .slice A ks.length c] #[.int .u8 0, .string ⟨#[]⟩, .slice none 0 0] 25 57
  have HR:=Lib.hid (Rf.new w #[.int .i64 6, .string a, .string v, .slice S ss.length sc, .slice A ks.length c])
  go_enter Tryz.func55, Tryz.ntmps55
  have b0:=HR.out.1.cell 0
  have b1:=HR.out.1.cell 1
  have b2:=HR.out.1.cell 2
  simp only [List.getElem?_toArray, List.getElem?_cons_zero, List.getElem?_cons_succ] at b0 b1 b2
  go_wp2_with fail
  have hA:=rall_any 166 (by decide) (some ⟨w.heap.size + 1 + 1, 0, none⟩) 2 [a, v] _ (by simp) (by simp; omega) (strs_two ((w.alloc (.cells #[.int .i64 6, .string a, .string v, .slice S ss.length sc, .slice A ks.length c] 25)).alloc (.cells #[.int .u8 0, .string ⟨#[]⟩, .slice none 0 0] 57)) (w.heap.size + 1 + 1) (by simp) a v)
  refine hA.mono ?_
  rintro e w1 ⟨A1, c1', ds1, rfl, hb1, hK1⟩
  have hbS:=(Below.refl ((w.alloc (.cells #[.int .i64 6, .string a, .string v, .slice S ss.length sc, .slice A ks.length c] 25)).alloc (.cells #[.int .u8 0, .string ⟨#[]⟩, .slice none 0 0] 57)).heap.size ((w.alloc (.cells #[.int .i64 6, .string a, .string v, .slice S ss.length sc, .slice A ks.length c] 25)).alloc (.cells #[.int .u8 0, .string ⟨#[]⟩, .slice none 0 0] 57))).alloc (Nat.le_refl _) (.cells #[.string a, .string v] 9)
  have hR1:=(HR.out.past hbS).past hb1
  have hb2:=(Hb0.trans (hbS.mono Hb0.size)).trans (hb1.mono (Nat.le_trans Hb0.size hbS.size))
  have HK1:=Lib.hid hK1
  have hz:=Nat.le_trans Hz0 hbS.size
  clear b0 b1 b2 hK1
  have B1:=hR1.2
  have c0 : w1.cell? ⟨w.heap.size + 1, 0, none⟩ = some (.int .u8 0):=B1.cell 0
  have g0:=B1.frozen 0
  have c1 : w1.cell? ⟨w.heap.size + 1, 1, none⟩ = some (.string ⟨#[]⟩):=B1.cell 1
  have g1:=B1.frozen 1
  have c2 : w1.cell? ⟨w.heap.size + 1, 2, none⟩ = some (.slice none 0 0):=B1.cell 2
  have g2:=B1.frozen 2
  go_wp2_with fail
  refine bodyPost_ret (Be.res_el rfl _ _ (w.heap.size + 1) _ _ _ rfl (Be.Blk.set3 B1)) rfl (NewLst.el (by decide) (by simp) (new_lstG hb2 (by omega) HK1.out (fun b hb=>⟨?_, ?_, hb.2⟩)))
  ·have:=hb.1; omega
  ·have:=hb.1; omega
set_option maxHeartbeats 4000000 in
theorem qf_subs (k : Int) (a v : ByteArray) (ss : List ByteArray) (ks : List Fil) (S A : Option Addr) (sc c : Nat) (ds : Nat → List Value) (w : World) (hk : k = 8) (ha : a.size ≤ 400) (hsl : ss.length ≤ 20) (hss : ∀ s ∈ ss, s.size ≤ 400) (hs : Fi.StrsAt w (· < w.heap.size) S ss) :
    Calls Tryz.prog 55 #[.agg #[.int .i64 k, .string a, .string v, .slice S ss.length sc, .slice A ks.length c]] w (NewEl w (filEl (.mk k a v ss ks))) := by
  have hfe : filEl (.mk k a v ss ks) = lst 164 [txt 4 a, lst 48 (subEls ss.length 0 ss)] := by subst hk; rfl
  rw [hfe]
  clear hfe
  subst hk
  have HA := Lib.hid hs
  have HS := Lib.hid hss
  have hsl2 : (subEls ss.length 0 ss).length ≤ 20 := Nat.le_trans (subEls_len _ _ _) hsl
  obtain ⟨Hb0, Hz0⟩ := two_belowR w #[.int .i64 8, .string a, .string v, .slice S ss.length sc, .slice A ks.length c] #[.int .u8 0, .string ⟨#[]⟩, .slice none 0 0] 25 57
  have HR := Lib.hid (Rf.new w #[.int .i64 8, .string a, .string v, .slice S ss.length sc, .slice A ks.length c])
  clear hs hss
  go_enter Tryz.func55, Tryz.ntmps55
  have b0 := HR.out.1.cell 0
  simp only [List.getElem?_toArray, List.getElem?_cons_zero] at b0
  go_wp2_with fail
  clear b0
  go_loopw [5, 6] (fun v' i wr => ∃ (q : Nat) (xs : List Value) (D : List Be.El), q ≤ ss.length ∧ i = .int .i64 q ∧ Hid (D = subEls ss.length 0 (ss.take q)) ∧ Hid (Be.Gath wr (w.heap.size + 2) v' xs D) ∧ Hid (Rf w #[.int .i64 8, .string a, .string v, .slice S ss.length sc, .slice A ks.length c] wr) ∧ Below w.heap.size w wr ∧ w.heap.size + 2 ≤ wr.heap.size) (fun v' i wr => ss.length - (intOf i).toNat)
  case atStart => exact ⟨0, [], [], Nat.zero_le _, rfl, by show _ = _; simp [subEls], Be.Gath.nil _ _, HR, Hb0, Hz0⟩
  case round =>
    obtain ⟨q, xs, D, hq, rfl, hD, hG, hBr, hb, hge⟩ := hrel
    have hsz := hb.size
    by_cases hlt : q < ss.length
    · obtain ⟨ad, rfl, hp, hc⟩ := HA.out (by omega)
      have f0 := batA hb (by rw [block_of_add]; exact hp) (hc q hlt)
      have b3 : wr.cell? ⟨w.heap.size, 3, none⟩ = some (.slice (some ad) ss.length sc) := hBr.out.1.cell 3
      have hsq := HS.out _ (List.getElem_mem hlt)
      have hmt := subEls_step (n := ss.length) hlt
      rw [← hD.out] at hmt
      have hdl : D.length < 1000000 := by rw [hD.out]; have := subEls_len ss.length (ss.take q) 0; rw [List.length_take] at this; omega
      generalize ss[q] = s at f0 hsq hmt
      clear hc hD
      obtain ⟨t, hpt, hcase⟩ : ∃ t, partTag q ss.length = t ∧ ((t = 128 ∧ ((q : Int) == 0) = true) ∨ (t = 130 ∧ ((q : Int) == 0) = false ∧ ((q : Int) == (ss.length : Int) - 1) = true) ∨ (t = 129 ∧ ((q : Int) == 0) = false ∧ ((q : Int) == (ss.length : Int) - 1) = false)) := by
        refine ⟨_, rfl, ?_⟩
        unfold partTag
        by_cases h1 : q = 0
        · left; rw [if_pos h1]; exact ⟨rfl, by rw [h1]; rfl⟩
        · rw [if_neg h1]
          have h1' : ((q : Int) == 0) = false := beq_eq_false_iff_ne.2 (by omega)
          by_cases h2 : q = ss.length - 1
          · right; left; rw [if_pos h2]; exact ⟨rfl, h1', by rw [beq_iff_eq]; omega⟩
          · right; right; rw [if_neg h2]; exact ⟨rfl, h1', beq_eq_false_iff_ne.2 (by omega)⟩
      rw [hpt] at hmt
      clear hpt
      by_cases h0 : s.size = 0
      · rw [if_pos h0, List.append_nil] at hmt
        have HM := Lib.hid hmt.symm
        have q1 : s.toList = [] := by rw [no_of h0, ByteArray.toList_eq]
        have q0 : s.toList.isEmpty = true := by rw [q1]; rfl
        clear hmt h0
        rcases hcase with ⟨rfl, e1⟩ | ⟨rfl, e1, e2⟩ | ⟨rfl, e1, e2⟩
        all_goals go_wp2_with fail
        all_goals exact ⟨⟨q + 1, _, _, by omega, by go_num, HM, hG, hBr, hb, hge⟩, by simp [intOf]; omega⟩
      · rw [if_neg h0] at hmt
        have HM := Lib.hid hmt
        have q0 : s.toList.isEmpty = false := by
          cases h : s.toList with
          | nil => exact absurd (show s.size = 0 by have h' : s.data.toList = [] := by simpa [ByteArray.toList_eq] using h
                                                    show s.data.size = 0
                                                    rw [← Array.length_toList, h']; rfl) h0
          | cons x r => rfl
        have q1 : (s.toList != []) = true := by
          cases h : s.toList with
          | nil => rw [h] at q0; simp at q0
          | cons x r => rfl
        clear hmt h0
        rcases hcase with ⟨rfl, e1⟩ | ⟨rfl, e1, e2⟩ | ⟨rfl, e1, e2⟩
        · go_wp2_with fail
          refine (Be.RText_any 128 s wr).mono ?_
          rintro e w1 ⟨rfl, hb1⟩
          have hbA := (Below.refl w1.heap.size w1).alloc (Nat.le_refl _) (.cells #[.int .u8 128, .string s, .slice none 0 0] 57)
          have HB := Lib.hid (Blk.new w1 57 #[.int .u8 128, .string s, .slice none 0 0])
          have HG1 := Lib.hid ((hG.out.past hb1).past hbA)
          have HBr := Lib.hid ((hBr.out.past hb1).past hbA)
          have hbw := hb.trans ((hb1.trans (hbA.mono hb1.size)).mono hsz)
          have hz2 : w.heap.size + 2 ≤ _ := Nat.le_trans hge (Nat.le_trans hb1.size hbA.size)
          clear hG hb hb1 hBr hbA b3 f0
          go_wp2_with (at_builtin; go_loud (refine wpList_pushE rfl _ _ rfl (w.heap.size + 2) _ _ _ rfl HG1.out w1.heap.size rfl HB.out one3 (lies_leaf (by decide) (by omega)) hdl hz2 ?_))
          intro v' w2 hG2 hb2
          rw [← HM.out] at hG2
          have HG2 := Lib.hid hG2
          have HBr2 := Lib.hid (HBr.out.upto hb2)
          have hb3 := hbw.trans (hb2.mono (by omega))
          have hge2 := Nat.le_trans hz2 hb2.size
          clear hG2 hb2
          go_wp2_with fail
          exact ⟨⟨q + 1, _, _, by omega, by go_num, rfl, HG2, HBr2, hb3, hge2⟩, by simp [intOf]; omega⟩
        · go_wp2_with fail
          refine (Be.RText_any 130 s wr).mono ?_
          rintro e w1 ⟨rfl, hb1⟩
          have hbA := (Below.refl w1.heap.size w1).alloc (Nat.le_refl _) (.cells #[.int .u8 130, .string s, .slice none 0 0] 57)
          have HB := Lib.hid (Blk.new w1 57 #[.int .u8 130, .string s, .slice none 0 0])
          have HG1 := Lib.hid ((hG.out.past hb1).past hbA)
          have HBr := Lib.hid ((hBr.out.past hb1).past hbA)
          have hbw := hb.trans ((hb1.trans (hbA.mono hb1.size)).mono hsz)
          have hz2 : w.heap.size + 2 ≤ _ := Nat.le_trans hge (Nat.le_trans hb1.size hbA.size)
          clear hG hb hb1 hBr hbA b3 f0
          go_wp2_with (at_builtin; go_loud (refine wpList_pushE rfl _ _ rfl (w.heap.size + 2) _ _ _ rfl HG1.out w1.heap.size rfl HB.out one3 (lies_leaf (by decide) (by omega)) hdl hz2 ?_))
          intro v' w2 hG2 hb2
          rw [← HM.out] at hG2
          have HG2 := Lib.hid hG2
          have HBr2 := Lib.hid (HBr.out.upto hb2)
          have hb3 := hbw.trans (hb2.mono (by omega))
          have hge2 := Nat.le_trans hz2 hb2.size
          clear hG2 hb2
          go_wp2_with fail
          exact ⟨⟨q + 1, _, _, by omega, by go_num, rfl, HG2, HBr2, hb3, hge2⟩, by simp [intOf]; omega⟩
        · go_wp2_with fail
          refine (Be.RText_any 129 s wr).mono ?_
          rintro e w1 ⟨rfl, hb1⟩
          have hbA := (Below.refl w1.heap.size w1).alloc (Nat.le_refl _) (.cells #[.int .u8 129, .string s, .slice none 0 0] 57)
          have HB := Lib.hid (Blk.new w1 57 #[.int .u8 129, .string s, .slice none 0 0])
          have HG1 := Lib.hid ((hG.out.past hb1).past hbA)
          have HBr := Lib.hid ((hBr.out.past hb1).past hbA)
          have hbw := hb.trans ((hb1.trans (hbA.mono hb1.size)).mono hsz)
          have hz2 : w.heap.size + 2 ≤ _ := Nat.le_trans hge (Nat.le_trans hb1.size hbA.size)
          clear hG hb hb1 hBr hbA b3 f0
          go_wp2_with (at_builtin; go_loud (refine wpList_pushE rfl _ _ rfl (w.heap.size + 2) _ _ _ rfl HG1.out w1.heap.size rfl HB.out one3 (lies_leaf (by decide) (by omega)) hdl hz2 ?_))
          intro v' w2 hG2 hb2
          rw [← HM.out] at hG2
          have HG2 := Lib.hid hG2
          have HBr2 := Lib.hid (HBr.out.upto hb2)
          have hb3 := hbw.trans (hb2.mono (by omega))
          have hge2 := Nat.le_trans hz2 hb2.size
          clear hG2 hb2
          go_wp2_with fail
          exact ⟨⟨q + 1, _, _, by omega, by go_num, rfl, HG2, HBr2, hb3, hge2⟩, by simp [intOf]; omega⟩
    · have hq2 : q = ss.length := by omega
      subst hq2
      have hD2 := hD.out
      rw [List.take_length] at hD2
      rw [← hD2] at hsl2
      have HD := Lib.hid hD2
      have hG2 := hG.out
      obtain ⟨A2, c2, ds2, rfl, hK⟩ := hG2.shut
      have HK := Lib.hid hK
      have b3 : wr.cell? ⟨w.heap.size, 3, none⟩ = some (.slice S ss.length sc) := hBr.out.1.cell 3
      have b1 : wr.cell? ⟨w.heap.size, 1, none⟩ = some (.string a) := hBr.out.1.cell 1
      clear hG hG2 hK hD hD2
      go_wp2_with fail
      refine (rtext_any a wr).mono ?_
      rintro e w1 ⟨rfl, hb1⟩
      go_wp2_with fail
      refine (Be.RList_any 48 A2 D.length c2 w1).mono ?_
      rintro e w2 ⟨rfl, hb2⟩
      have hbA := (Below.refl w2.heap.size w2).alloc (Nat.le_refl _) (.cells #[.int .u8 4, .string a, .slice none 0 0, .int .u8 48, .string ⟨#[]⟩, .slice A2 D.length c2] 57)
      go_wp2_with fail
      refine (Be.RList_any 164 (some ⟨w2.heap.size, 0, none⟩) 2 2 _).mono ?_
      rintro e w3 ⟨rfl, hb3⟩
      have hb13 := (hb1.trans (hb2.mono hb1.size)).trans ((hbA.trans (hb3.mono hbA.size)).mono (Nat.le_trans hb1.size hb2.size))
      have hR1 := hBr.out.past hb13
      have hbT := hb.trans (hb13.mono hsz)
      have hK0 := (HK.out.imp (w' := w2) (P' := fun b => w.heap.size + 2 ≤ b ∧ b < w2.heap.size) (fun b h => ⟨h.1, Nat.lt_of_lt_of_le h.2 (Nat.le_trans hb1.size hb2.size)⟩) (fun p hp => (hb2.cell (Nat.lt_of_lt_of_le hp.2 hb1.size)).trans (hb1.cell hp.2)))
      have hKK := kids_litP (w := w2) (B := w.heap.size + 2) (Nat.le_trans hge (Nat.le_trans hb1.size hb2.size)) [txt 4 a, lst 48 D] [[.int .u8 4, .string a, .slice none 0 0], [.int .u8 48, .string ⟨#[]⟩, .slice A2 D.length c2]] rfl (by simp) (fun i hi => by
        match i, hi with
        | 0, _ => exact lies_leaf (by decide) (by omega)
        | 1, _ => exact Be.Lies.shut (by decide) (by decide) (by unfold maxLen; omega) hK0)
      have HKK := Lib.hid (hKK.imp (w' := w3) (P' := fun b => w.heap.size + 2 ≤ b ∧ b < w3.heap.size) (fun b h => ⟨h.1, Nat.lt_of_lt_of_le h.2 hb3.size⟩) (fun p hp => hb3.cell hp.2))
      clear hKK hK0 hb hb1 hb2 hb3 hbA hb13 b1 b3
      have B1 := hR1.2
      have c0 : w3.cell? ⟨w.heap.size + 1, 0, none⟩ = some (.int .u8 0) := B1.cell 0
      have g0 := B1.frozen 0
      have c1 : w3.cell? ⟨w.heap.size + 1, 1, none⟩ = some (.string ⟨#[]⟩) := B1.cell 1
      have g1 := B1.frozen 1
      have c2 : w3.cell? ⟨w.heap.size + 1, 2, none⟩ = some (.slice none 0 0) := B1.cell 2
      have g2 := B1.frozen 2
      go_wp2_with fail
      refine bodyPost_ret (Be.res_el rfl _ _ (w.heap.size + 1) _ _ _ rfl (Be.Blk.set3 B1)) rfl ?_
      rw [← HD.out]
      refine NewLst.el (t := 164) (ks := [txt 4 a, lst 48 D]) (by decide) (by simp) (new_lstG (ks := [txt 4 a, lst 48 D]) hbT (by omega) HKK.out (fun b hb => ⟨?_, ?_, hb.2⟩))
      · have := hb.1; omega
      · have := hb.1; omega
theorem rfil_any (f : Fil) : SaidQF f:=by
 refine Fi.ind (p:=SaidQF) ?_ f
 intro k a v ss ks ih x0 x1 x2 x3 x4 w hf ht hL
 obtain ⟨S, sc, A, c, ds, hcs, _, _, _, _, hs, _, _, _, hK⟩:=hL.open_
 simp only [List.cons.injEq, and_true] at hcs
 obtain ⟨rfl, rfl, rfl, rfl, rfl⟩:=hcs
 rw [Fi.frm] at hf
 by_cases hk : Fi.hasK k = true
 ·rw [if_pos hk] at hf
  simp only [Bool.and_eq_true, decide_eq_true_eq] at hf
  obtain ⟨_, _, _, _, hks⟩:=hf
  rw [Fi.frms_all, List.all_eq_true] at hks
  rw [Fi.tot, if_pos hk] at ht
  have hlen:=Fi.tots_len ks
  have hk' : k = 1 ∨ k = 2 ∨ k = 3:=by unfold Fi.hasK at hk; simp only [decide_eq_true_eq] at hk; omega
  exact qf_kids k a v ss ks S A sc c ds w hk' ih (fun f hfm=>⟨hks f hfm, by have:=tot_mem hfm; omega⟩) (by omega) hK
 ·rw [if_neg hk] at hf
  simp only [Bool.and_eq_true, decide_eq_true_eq] at hf
  obtain ⟨h48, hty, _, hrest⟩:=hf
  have hsz:=type_size hty
  by_cases h7 : k = 7
  ·exact qf_present k a v ss ks S A sc c ds w h7 (by omega)
  rw [if_neg h7] at hrest
  by_cases h8 : k = 8
  ·rw [if_pos h8] at hrest
   simp only [Bool.and_eq_true, decide_eq_true_eq] at hrest
   obtain ⟨_, hss⟩:=hrest
   unfold Fi.subsOk at hss
   simp only [Bool.and_eq_true, decide_eq_true_eq, List.all_eq_true] at hss
   exact qf_subs k a v ss ks S A sc c ds w h8 (by omega) (by omega) (fun s hs'=>by have:=hss.2.2.1 s hs'; omega) hs
  ·rw [if_neg h8] at hrest
   simp only [Bool.and_eq_true, decide_eq_true_eq] at hrest
   exact qf_pair k a v ss ks S A sc c ds w (by omega) (by omega) (by omega)
end Go.Proofs.YtconghaebebncaaGreatDoor.Ms
