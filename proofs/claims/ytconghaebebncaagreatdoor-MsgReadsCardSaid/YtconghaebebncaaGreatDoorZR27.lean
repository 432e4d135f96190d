import Derived.Test.YtconghaebebncaaGreatDoorZR26
set_option linter.unusedVariables false
set_option maxRecDepth 100000
namespace Go.Proofs.YtconghaebebncaaGreatDoor.Ms
open Go.RowKit
theorem new_lstG {w0 w1 : World} {P : Nat → Prop} {t g : Nat} {A : Option Addr} {ks : List Be.El} {ds : Nat → List Value} {c : Nat} (hb : Below w0.heap.size w0 w1) (hg : w0.heap.size ≤ g) (h : Be.KidsAt w1 P A ks ds) (hP : ∀ b, P b → b ≠ g ∧ w0.heap.size ≤ b ∧ b < w1.heap.size) :
  NewLst w0 t ks (.returned (.agg #[.int .u8 (t : Nat), .string ⟨#[]⟩, .slice A ks.length c])) (((w1.setCell ⟨g, 0, none⟩ (.int .u8 (t : Nat))).setCell ⟨g, 1, none⟩ (.string ⟨#[]⟩)).setCell ⟨g, 2, none⟩ (.slice A ks.length c)):=by
 refine ⟨A, c, ds, rfl, ((hb.setCell (p:=⟨g, 0, none⟩) hg _).setCell (p:=⟨g, 1, none⟩) hg _).setCell (p:=⟨g, 2, none⟩) hg _, fresh_set h fun b hb'=>?_⟩
 have:=hP b hb'
 exact ⟨this.1, this.2.1, by simpa [World.setCell] using this.2.2⟩
theorem new_elG {w0 w1 : World} {P : Nat → Prop} {e : Be.El} {t g : Nat} {b : ByteArray} {A : Option Addr} {n c : Nat} (hb : Below w0.heap.size w0 w1) (hg : w0.heap.size ≤ g) (h : Be.Lies w1 P e [.int .u8 (t : Nat), .string b, .slice A n c]) (hP : ∀ b, P b → b ≠ g ∧ w0.heap.size ≤ b ∧ b < w1.heap.size) :
  NewEl w0 e (.returned (.agg #[.int .u8 (t : Nat), .string b, .slice A n c])) (((w1.setCell ⟨g, 0, none⟩ (.int .u8 (t : Nat))).setCell ⟨g, 1, none⟩ (.string b)).setCell ⟨g, 2, none⟩ (.slice A n c)):=by
 refine ⟨t, b, A, n, c, rfl, ((hb.setCell (p:=⟨g, 0, none⟩) hg _).setCell (p:=⟨g, 1, none⟩) hg _).setCell (p:=⟨g, 2, none⟩) hg _, fresh_setE h fun b hb'=>?_⟩
 have:=hP b hb'
 exact ⟨this.1, this.2.1, by simpa [World.setCell] using this.2.2⟩
def SaidFE (f : Fil) : Prop:=∀ (x0 x1 x2 x3 x4 : Value) (w : World), Fi.frm f = true → Fi.tot f ≤ 20 → Glob w → Fi.Lies w (· < w.heap.size) f [x0, x1, x2, x3, x4] →
  Calls Tryz.prog 136 #[.agg #[x0, x1, x2, x3, x4]] w (NewEl w (filEl f))
set_option maxHeartbeats 4000000 in
theorem eachF_any (l : List Fil) (ih : ∀ f ∈ l, SaidFE f) (A : Option Addr) (c : Nat) (ds : Nat → List Value) (w : World) (hl : l.length ≤ 1000) (hok : ∀ f ∈ l, Fi.frm f = true ∧ Fi.tot f ≤ 20) (hG : Glob w) (hM : Fi.KidsAt w (· < w.heap.size) A l ds) :
  Calls Tryz.prog 152 #[.slice A l.length c, .func (.func 136) #[] #[]] w (NewKids w (l.map filEl)):=by
 have HS:=Lib.hid hok
 have IH:=Lib.hid ih
 have GL:=Lib.hid hG
 obtain ⟨ks, hks⟩ : ∃ ks, ks = l.map filEl:=⟨_, rfl⟩
 have hmt:=map_take filEl l
 rw [← hks] at hmt ⊢
 have HM:=Lib.hid hmt
 clear hok hks hmt ih hG
 go_enter Tryz.func152, Tryz.ntmps152
 go_wp2_with fail
 go_loopw [5, 10] (fun v i wr=>∃ (q : Nat) (xs : List Value), q ≤ l.length ∧ i = .int .i64 q ∧ Hid (Be.Gath wr w.heap.size v xs (ks.take q)) ∧ Below w.heap.size w wr) (fun v i wr=>l.length - (intOf i).toNat)
 case atStart=>exact ⟨0, [], Nat.zero_le _, rfl, Be.Gath.nil _ _, Below.refl _ _⟩
 case round =>
  obtain ⟨q, xs, hq, rfl, hG, hb⟩:=hrel
  have hsz:=hb.size
  by_cases hlt : q < l.length
  ·obtain ⟨ad, k', a', v', S', m', d', B', n', e', rfl, hp, f0, f1, f2, f3, f4, hL⟩:=hM.kid hb hlt
   have hsq:=HS.out _ (List.getElem_mem hlt)
   have hih:=IH.out _ (List.getElem_mem hlt)
   have hdl:=take_len HM.out.1 hq hl
   have hmt:=Lib.hid (HM.out.2 q hlt)
   generalize l[q] = d at hL hsq hmt hih
   have hbM:=hb.alloc hsz (.cells #[.int .i64 k', .string a', .string v', .slice S' m' d', .slice B' n' e'] 25)
   have C:=Lib.hid (hih _ _ _ _ _ _ hsq.1 hsq.2 (GL.out.past hbM) (hL.alloc (.cells #[.int .i64 k', .string a', .string v', .slice S' m' d', .slice B' n' e'] 25)))
   have hszM:=hbM.size
   have HGM:=Lib.hid (hG.out.alloc (.cells #[.int .i64 k', .string a', .string v', .slice S' m' d', .slice B' n' e'] 25))
   clear hL hsq hih
   go_wp2_with fail
   refine C.out.mono ?_
   rintro e w1 ⟨t1, b1, A1, n1, c1, rfl, hb1, hL1⟩
   have hL2:=fresh_own HGM.out hszM hL1 (fun _ h=>h)
   have hbA:=(Below.refl w1.heap.size w1).alloc (Nat.le_refl _) (.cells #[.int .u8 (t1 : Nat), .string b1, .slice A1 n1 c1] 57)
   have HL:=Lib.hid (hL2.imp (fun b hb'=>(⟨hb'.1, Nat.lt_of_lt_of_le hb'.2.1 hbA.size, hb'.2.2⟩ : w.heap.size ≤ b ∧ b < (w1.alloc (.cells #[.int .u8 (t1 : Nat), .string b1, .slice A1 n1 c1] 57)).heap.size ∧ _)) (fun p hp=>hbA.cell hp.2.1))
   have HB:=Lib.hid (Blk.new w1 57 #[.int .u8 (t1 : Nat), .string b1, .slice A1 n1 c1])
   have HG1:=Lib.hid ((HGM.out.past hb1).alloc (.cells #[.int .u8 (t1 : Nat), .string b1, .slice A1 n1 c1] 57))
   have hbw:=hbM.trans (hb1.mono hszM)
   have hz:=hbw.size
   have hz2 : w.heap.size ≤ (w1.alloc (.cells #[.int .u8 (t1 : Nat), .string b1, .slice A1 n1 c1] 57)).heap.size:=by simp; omega
   clear hG hb hb1 hL1 hL2 hbA hbM
   go_wp2_with (at_builtin; go_loud (refine wpList_pushE rfl _ _ rfl w.heap.size _ _ _ rfl HG1.out w1.heap.size rfl HB.out one3 HL.out hdl hz2 ?_))
   intro v' w2 hG2 hb2
   rw [← hmt.out] at hG2
   have HG2:=Lib.hid hG2
   have hb3:=(hbw.alloc hz (.cells #[.int .u8 (t1 : Nat), .string b1, .slice A1 n1 c1] 57)).trans hb2
   clear hG2
   go_wp2_with fail
   refine ⟨⟨q + 1, _, by omega, by go_num, HG2, hb3⟩, by simp [intOf]; omega⟩
  ·have hq2 : q = l.length:=by omega
   subst hq2
   have HE:=Lib.hid (Gath_tell HM.out.1 hb hG.out)
   clear hG
   go_wp2_with fail
   go_ret
   exact HE.out
set_option maxHeartbeats 4000000 in
theorem fe_kids (k : Int) (a v : ByteArray) (ss : List ByteArray) (ks : List Fil) (S A : Option Addr) (sc c : Nat) (ds : Nat → List Value) (w : World) (hk : k = 1 ∨ k = 2 ∨ k = 3) (ih : ∀ f ∈ ks, SaidFE f) (hok : ∀ f ∈ ks, Fi.frm f = true ∧ Fi.tot f ≤ 20) (hl : ks.length ≤ 20) (hG : Glob w)
  (hs : Fi.StrsAt w (· < w.heap.size) S ss) (hK : Fi.KidsAt w (· < w.heap.size) A ks ds) :
  Calls Tryz.prog 136 #[.agg #[.int .i64 k, .string a, .string v, .slice S ss.length sc, .slice A ks.length c]] w (NewEl w (filEl (.mk k a v ss ks))):=by
 have hgk : ∀ e ∈ ks.map filEl, good 23 e:=fun e he=>by
  obtain ⟨f, hf, rfl⟩:=List.mem_map.1 he
  exact (good_fil f (hok f hf).1 20 (hok f hf).2 (by omega)).1
 have hml : (ks.map filEl).length ≤ 20:=by rw [List.length_map]; omega
 have htg : filTag k ≤ 255:=by rcases hk with rfl | rfl | rfl <;> decide
 have hfe : filEl (.mk k a v ss ks) = lst (filTag k) (ks.map filEl):=by rw [filEl, if_pos hk, filEls_map]
 rw [hfe]
 clear hfe
 have HC:=Lib.hid (fun w1 hb=>eachF_any ks ih A c ds w1 (by omega) hok (hG.past hb) (hK.past hb))
 generalize ks.map filEl = L at HC hgk hml ⊢
 have F0:=Fr.new w 25 #[.int .i64 k, .string a, .string v, .slice S ss.length sc, .slice A ks.length c] (.int .u8 0) (.string ⟨#[]⟩) (.slice none 0 0)
 have HT:=Lib.hid (filTag_any k _ (hG.past F0.2.2))
 have BR:=Blk.new (w.alloc (.cells #[.int .i64 k, .string a, .string v, .slice S ss.length sc, .slice A ks.length c] 25)) 57 #[.int .u8 0, .string ⟨#[]⟩, .slice none 0 0]
 rw [show (w.alloc (.cells #[.int .i64 k, .string a, .string v, .slice S ss.length sc, .slice A ks.length c] 25)).heap.size = w.heap.size + 1 by simp] at BR
 generalize filTag k = tg at HT htg
 have HGK:=Lib.hid hgk
 clear ih hok hK hs hG hgk
 have e1 : (k == 1 || k == 2 || k == 3) = true:=by rcases hk with rfl | rfl | rfl <;> rfl
 rcases hk with rfl | rfl | rfl
 ·go_enter Tryz.func136, Tryz.ntmps136
  go_wp2_with fail
  refine HT.out.mono ?_
  rintro e w1 ⟨rfl, hb1⟩
  have F1:=F0.past hb1
  have b0 : w1.cell? ⟨w.heap.size, 0, none⟩ = some (.int .i64 1):=F1.1.cell 0
  have b1 : w1.cell? ⟨w.heap.size, 1, none⟩ = some (.string a):=F1.1.cell 1
  have b2 : w1.cell? ⟨w.heap.size, 2, none⟩ = some (.string v):=F1.1.cell 2
  have b3 : w1.cell? ⟨w.heap.size, 3, none⟩ = some (.slice S ss.length sc):=F1.1.cell 3
  have b4 : w1.cell? ⟨w.heap.size, 4, none⟩ = some (.slice A ks.length c):=F1.1.cell 4
  have hbk : Below w.heap.size w w1:=F1.2.2
  go_wp2_with fail
  refine (HC.out w1 hbk).mono ?_
  rintro e w2 ⟨A1, c1', ds1, rfl, hb2, hK1⟩
  have F2:=F1.past hb2
  go_wp2_with fail
  refine (list_any tg htg L 23 A1 c1' ds1 w2 hml HGK.out (kids_old hK1)).mono ?_
  rintro e w3 ⟨A2, c2', ds2, rfl, hb3, hK2⟩
  have B1 : Blk w3 (w.heap.size + 1) 57 #[.int .u8 0, .string ⟨#[]⟩, .slice none 0 0]:=((BR.past hb1).past hb2).past hb3
  have c0 : w3.cell? ⟨w.heap.size + 1, 0, none⟩ = some (.int .u8 0):=B1.cell 0
  have c1 : w3.cell? ⟨w.heap.size + 1, 1, none⟩ = some (.string ⟨#[]⟩):=B1.cell 1
  have c2 : w3.cell? ⟨w.heap.size + 1, 2, none⟩ = some (.slice none 0 0):=B1.cell 2
  have g0:=B1.frozen 0
  have g1:=B1.frozen 1
  have g2:=B1.frozen 2
  have HK2:=Lib.hid hK2
  have hz:=F2.2.2.size
  have F3:=F2.past hb3
  have hbe:=F3.2.2
  have hz2 : w.heap.size + 1 < w2.heap.size:=((BR.past hb1).past hb2).lt
  clear hK1 hK2 b0 b1 b2 b3 b4
  go_wp2_with fail
  refine bodyPost_ret (Be.res_el rfl _ _ (w.heap.size + 1) _ _ _ rfl (Be.Blk.set3 B1)) rfl (NewLst.el htg hml (new_lstG hbe (by omega) HK2.out (fun b hb=>⟨?_, ?_, hb.2⟩)))
  ·have:=hb.1; omega
  ·have:=hb.1; omega
 ·go_enter Tryz.func136, Tryz.ntmps136
  go_wp2_with fail
  refine HT.out.mono ?_
  rintro e w1 ⟨rfl, hb1⟩
  have F1:=F0.past hb1
  have b0 : w1.cell? ⟨w.heap.size, 0, none⟩ = some (.int .i64 2):=F1.1.cell 0
  have b1 : w1.cell? ⟨w.heap.size, 1, none⟩ = some (.string a):=F1.1.cell 1
  have b2 : w1.cell? ⟨w.heap.size, 2, none⟩ = some (.string v):=F1.1.cell 2
  have b3 : w1.cell? ⟨w.heap.size, 3, none⟩ = some (.slice S ss.length sc):=F1.1.cell 3
  have b4 : w1.cell? ⟨w.heap.size, 4, none⟩ = some (.slice A ks.length c):=F1.1.cell 4
  have hbk : Below w.heap.size w w1:=F1.2.2
  go_wp2_with fail
  refine (HC.out w1 hbk).mono ?_
  rintro e w2 ⟨A1, c1', ds1, rfl, hb2, hK1⟩
  have F2:=F1.past hb2
  go_wp2_with fail
  refine (list_any tg htg L 23 A1 c1' ds1 w2 hml HGK.out (kids_old hK1)).mono ?_
  rintro e w3 ⟨A2, c2', ds2, rfl, hb3, hK2⟩
  have B1 : Blk w3 (w.heap.size + 1) 57 #[.int .u8 0, .string ⟨#[]⟩, .slice none 0 0]:=((BR.past hb1).past hb2).past hb3
  have c0 : w3.cell? ⟨w.heap.size + 1, 0, none⟩ = some (.int .u8 0):=B1.cell 0
  have c1 : w3.cell? ⟨w.heap.size + 1, 1, none⟩ = some (.string ⟨#[]⟩):=B1.cell 1
  have c2 : w3.cell? ⟨w.heap.size + 1, 2, none⟩ = some (.slice none 0 0):=B1.cell 2
  have g0:=B1.frozen 0
  have g1:=B1.frozen 1
  have g2:=B1.frozen 2
  have HK2:=Lib.hid hK2
  have hz:=F2.2.2.size
  have F3:=F2.past hb3
  have hbe:=F3.2.2
  have hz2 : w.heap.size + 1 < w2.heap.size:=((BR.past hb1).past hb2).lt
  clear hK1 hK2 b0 b1 b2 b3 b4
  go_wp2_with fail
  refine bodyPost_ret (Be.res_el rfl _ _ (w.heap.size + 1) _ _ _ rfl (Be.Blk.set3 B1)) rfl (NewLst.el htg hml (new_lstG hbe (by omega) HK2.out (fun b hb=>⟨?_, ?_, hb.2⟩)))
  ·have:=hb.1; omega
  ·have:=hb.1; omega
 ·go_enter Tryz.func136, Tryz.ntmps136
  go_wp2_with fail
  refine HT.out.mono ?_
  rintro e w1 ⟨rfl, hb1⟩
  have F1:=F0.past hb1
  have b0 : w1.cell? ⟨w.heap.size, 0, none⟩ = some (.int .i64 3):=F1.1.cell 0
  have b1 : w1.cell? ⟨w.heap.size, 1, none⟩ = some (.string a):=F1.1.cell 1
  have b2 : w1.cell? ⟨w.heap.size, 2, none⟩ = some (.string v):=F1.1.cell 2
  have b3 : w1.cell? ⟨w.heap.size, 3, none⟩ = some (.slice S ss.length sc):=F1.1.cell 3
  have b4 : w1.cell? ⟨w.heap.size, 4, none⟩ = some (.slice A ks.length c):=F1.1.cell 4
  have hbk : Below w.heap.size w w1:=F1.2.2
  go_wp2_with fail
  refine (HC.out w1 hbk).mono ?_
  rintro e w2 ⟨A1, c1', ds1, rfl, hb2, hK1⟩
  have F2:=F1.past hb2
  go_wp2_with fail
  refine (list_any tg htg L 23 A1 c1' ds1 w2 hml HGK.out (kids_old hK1)).mono ?_
  rintro e w3 ⟨A2, c2', ds2, rfl, hb3, hK2⟩
  have B1 : Blk w3 (w.heap.size + 1) 57 #[.int .u8 0, .string ⟨#[]⟩, .slice none 0 0]:=((BR.past hb1).past hb2).past hb3
  have c0 : w3.cell? ⟨w.heap.size + 1, 0, none⟩ = some (.int .u8 0):=B1.cell 0
  have c1 : w3.cell? ⟨w.heap.size + 1, 1, none⟩ = some (.string ⟨#[]⟩):=B1.cell 1
  have c2 : w3.cell? ⟨w.heap.size + 1, 2, none⟩ = some (.slice none 0 0):=B1.cell 2
  have g0:=B1.frozen 0
  have g1:=B1.frozen 1
  have g2:=B1.frozen 2
  have HK2:=Lib.hid hK2
  have hz:=F2.2.2.size
  have F3:=F2.past hb3
  have hbe:=F3.2.2
  have hz2 : w.heap.size + 1 < w2.heap.size:=((BR.past hb1).past hb2).lt
  clear hK1 hK2 b0 b1 b2 b3 b4
  go_wp2_with fail
  refine bodyPost_ret (Be.res_el rfl _ _ (w.heap.size + 1) _ _ _ rfl (Be.Blk.set3 B1)) rfl (NewLst.el htg hml (new_lstG hbe (by omega) HK2.out (fun b hb=>⟨?_, ?_, hb.2⟩)))
  ·have:=hb.1; omega
  ·have:=hb.1; omega
set_option maxHeartbeats 4000000 in
theorem fe_present (k : Int) (a v : ByteArray) (ss : List ByteArray) (ks : List Fil) (S A : Option Addr) (sc c : Nat) (ds : Nat → List Value) (w : World) (hk : k = 7) (ha : a.size ≤ 400) (hG : Glob w)
  (hs : Fi.StrsAt w (· < w.heap.size) S ss) (hK : Fi.KidsAt w (· < w.heap.size) A ks ds) :
  Calls Tryz.prog 136 #[.agg #[.int .i64 k, .string a, .string v, .slice S ss.length sc, .slice A ks.length c]] w (NewEl w (filEl (.mk k a v ss ks))):=by
 have htg : filTag k ≤ 255:=by rw [hk]; decide
 have hfe : filEl (.mk k a v ss ks) = txt (filTag k) a:=by rw [filEl, if_neg (by omega), if_pos hk]
 rw [hfe]
 have F0:=Fr.new w 25 #[.int .i64 k, .string a, .string v, .slice S ss.length sc, .slice A ks.length c] (.int .u8 0) (.string ⟨#[]⟩) (.slice none 0 0)
 have HT:=Lib.hid (filTag_any k _ (hG.past F0.2.2))
 have BR:=Blk.new (w.alloc (.cells #[.int .i64 k, .string a, .string v, .slice S ss.length sc, .slice A ks.length c] 25)) 57 #[.int .u8 0, .string ⟨#[]⟩, .slice none 0 0]
 rw [show (w.alloc (.cells #[.int .i64 k, .string a, .string v, .slice S ss.length sc, .slice A ks.length c] 25)).heap.size = w.heap.size + 1 by simp] at BR
 generalize filTag k = tg at HT htg
 clear hK hs hG hfe
 subst hk
 go_enter Tryz.func136, Tryz.ntmps136
 go_wp2_with fail
 refine HT.out.mono ?_
 rintro e w1 ⟨rfl, hb1⟩
 have F1:=F0.past hb1
 have b0 : w1.cell? ⟨w.heap.size, 0, none⟩ = some (.int .i64 7):=F1.1.cell 0
 have b1 : w1.cell? ⟨w.heap.size, 1, none⟩ = some (.string a):=F1.1.cell 1
 have b2 : w1.cell? ⟨w.heap.size, 2, none⟩ = some (.string v):=F1.1.cell 2
 have b3 : w1.cell? ⟨w.heap.size, 3, none⟩ = some (.slice S ss.length sc):=F1.1.cell 3
 have b4 : w1.cell? ⟨w.heap.size, 4, none⟩ = some (.slice A ks.length c):=F1.1.cell 4
 go_wp2_with fail
 refine (Be.Text_any tg a w1 (by omega)).mono ?_
 rintro e w3 ⟨rfl, hb3⟩
 have B1 : Blk w3 (w.heap.size + 1) 57 #[.int .u8 0, .string ⟨#[]⟩, .slice none 0 0]:=(BR.past hb1).past hb3
 have c0 : w3.cell? ⟨w.heap.size + 1, 0, none⟩ = some (.int .u8 0):=B1.cell 0
 have c1 : w3.cell? ⟨w.heap.size + 1, 1, none⟩ = some (.string ⟨#[]⟩):=B1.cell 1
 have c2 : w3.cell? ⟨w.heap.size + 1, 2, none⟩ = some (.slice none 0 0):=B1.cell 2
 have g0:=B1.frozen 0
 have g1:=B1.frozen 1
 have g2:=B1.frozen 2
 have F3:=F1.past hb3
 have hbe:=F3.2.2
 clear b0 b1 b2 b3 b4
 go_wp2_with fail
 exact bodyPost_ret (Be.res_el rfl _ _ (w.heap.size + 1) _ _ _ rfl (Be.Blk.set3 B1)) rfl (new_elG (P:=fun _=>False) hbe (by omega) (lies_leaf htg (by omega)) (fun b hb=>hb.elim))
set_option maxHeartbeats 4000000 in
theorem fe_pair (k : Int) (a v : ByteArray) (ss : List ByteArray) (ks : List Fil) (S A : Option Addr) (sc c : Nat) (ds : Nat → List Value) (w : World) (hk : k = 4 ∨ k = 5 ∨ k = 6) (ha : a.size ≤ 400) (hv : v.size ≤ 400) (hG : Glob w)
  (hs : Fi.StrsAt w (· < w.heap.size) S ss) (hK : Fi.KidsAt w (· < w.heap.size) A ks ds) :
  Calls Tryz.prog 136 #[.agg #[.int .i64 k, .string a, .string v, .slice S ss.length sc, .slice A ks.length c]] w (NewEl w (filEl (.mk k a v ss ks))):=by
 have htg : filTag k ≤ 255:=by rcases hk with rfl | rfl | rfl <;> decide
 have hfe : filEl (.mk k a v ss ks) = lst (filTag k) [txt 4 a, txt 4 v]:=by rw [filEl, if_neg (by omega), if_neg (by omega), if_neg (by omega)]
 have hg2 : ∀ e ∈ [txt 4 a, txt 4 v], good 1 e:=fun e he=>by
  simp only [List.mem_cons, List.not_mem_nil, or_false] at he
  rcases he with rfl | rfl
  ·exact good_txt (by decide) ha
  ·exact good_txt (by decide) hv
 rw [hfe]
 have F0:=Fr.new w 25 #[.int .i64 k, .string a, .string v, .slice S ss.length sc, .slice A ks.length c] (.int .u8 0) (.string ⟨#[]⟩) (.slice none 0 0)
 have HT:=Lib.hid (filTag_any k _ (hG.past F0.2.2))
 generalize filTag k = tg at HT htg
 clear hK hs hG hfe
 rcases hk with rfl | rfl | rfl
 ·go_enter Tryz.func136, Tryz.ntmps136
  go_wp2_with fail
  refine HT.out.mono ?_
  rintro e w1 ⟨rfl, hb1⟩
  have F1:=F0.past hb1
  have b0 : w1.cell? ⟨w.heap.size, 0, none⟩ = some (.int .i64 4):=F1.1.cell 0
  have b1 : w1.cell? ⟨w.heap.size, 1, none⟩ = some (.string a):=F1.1.cell 1
  have b2 : w1.cell? ⟨w.heap.size, 2, none⟩ = some (.string v):=F1.1.cell 2
  have b3 : w1.cell? ⟨w.heap.size, 3, none⟩ = some (.slice S ss.length sc):=F1.1.cell 3
  have b4 : w1.cell? ⟨w.heap.size, 4, none⟩ = some (.slice A ks.length c):=F1.1.cell 4
  go_wp2_with fail
  refine wp_region_noPanic ?_
  refine wp_region_held_drew (S:=Fr w w.heap.size 25 #[.int .i64 4, .string a, .string v, .slice S ss.length sc, .slice A ks.length c] (w.heap.size + 1)) (by kernel_rfl) F1.drew (fun hH0=>?_)
  refine Rg.idleP [0] [(36, .int .u8 (tg : Nat))] 9 (by kernel_rfl) (fun _ _ _ _ _ h=>h) (by kernel_rfl) (by kernel_rfl) hH0 ?_
  refine Rg.frame _ (by simp only [Rg.puts, Rg.pu, List.set]; rfl) ?_
  refine Rg.tk 1 37 (.pointer (some ⟨w.heap.size, 1, none⟩)) rfl (by kernel_rfl) (fun _ _ _ h=>h) (fun _ _=>by kernel_rfl) hH0 ?_
  refine Rg.tk 2 38 (.string a) rfl (by kernel_rfl) (fun _ _ _ h=>h) (fun w' h=>run_cell rfl rfl (by kernel_rfl) (h.1.cell 1)) hH0 ?_
  refine Rg.tk 4 40 (.pointer (some ⟨w.heap.size, 2, none⟩)) rfl (by kernel_rfl) (fun _ _ _ h=>h) (fun _ _=>by kernel_rfl) hH0 ?_
  refine Rg.frame _ (by simp only [Rg.pu, List.set]; rfl) ?_
  refine Rg.tk 5 41 (.string v) rfl (by kernel_rfl) (fun _ _ _ h=>h) (fun w' h=>run_cell rfl rfl (by kernel_rfl) (h.1.cell 2)) hH0 ?_
  refine Rg.cl 3 39 rfl (by kernel_rfl) 133 #[.string a] (by kernel_rfl) (text_any a _ (by omega)) ?_
  rintro _ w2 ⟨rfl, hb2⟩
  have hH1:=hH0.past hb2
  refine ⟨_, rfl, hH1, ?_⟩
  refine Rg.cl 6 42 rfl (by kernel_rfl) 133 #[.string v] (by kernel_rfl) (text_any v _ (by omega)) ?_
  rintro _ w3 ⟨rfl, hb3⟩
  have hH2:=hH1.past hb3
  refine ⟨_, rfl, hH2, ?_⟩
  refine Rg.frame _ (by simp only [Rg.pu, List.set]; rfl) ?_
  have hH3:=hH2.alloc (.cells #[.int .u8 4, .string a, .slice none 0 0, .int .u8 4, .string v, .slice none 0 0] 57)
  refine Rg.rn 7 43 (.slice (some ⟨w3.heap.size, 0, none⟩) 2 2) (w3.alloc (.cells #[.int .u8 4, .string a, .slice none 0 0, .int .u8 4, .string v, .slice none 0 0] 57)) rfl (by kernel_rfl) (by kernel_rfl) hH3 ?_
  have hKK:=kids_lit (w:=w3) [txt 4 a, txt 4 v] [[.int .u8 4, .string a, .slice none 0 0], [.int .u8 4, .string v, .slice none 0 0]] rfl (by simp) (fun i hi=>by
   match i, hi with
   | 0, _=>exact lies_leaf (by decide) (by omega)
   | 1, _=>exact lies_leaf (by decide) (by omega))
  refine Rg.cl 8 44 rfl (by kernel_rfl) 103 #[.int .u8 (tg : Nat), .slice (some ⟨w3.heap.size, 0, none⟩) 2 2] (by kernel_rfl) (list_any tg htg [txt 4 a, txt 4 v] 1 _ 2 _ _ (by show 2 ≤ 20; omega) hg2 hKK) ?_
  rintro _ w5 ⟨A3, c3, ds3, rfl, hb5, hK3⟩
  have hH4:=hH3.past hb5
  refine ⟨_, rfl, hH4, ?_⟩
  have hH5:=hH4.store (by omega) (by omega) (.int .u8 (tg : Nat)) (.string ⟨#[]⟩) (.slice A3 2 c3)
  refine Rg.sk 9 _ rfl (by kernel_rfl) (run_storeE hH4 rfl rfl rfl) hH5 ?_
  refine Rg.frame _ (by simp only [Rg.pu, List.set]; rfl) ?_
  refine wpAnyH_done (by kernel_rfl) ?_ _
  refine NoPanic.normal ?_
  go_wp2_with fail
  obtain ⟨_, ⟨x', y', z', hB2⟩, _⟩:=hH4
  refine bodyPost_ret (Be.res_el rfl _ _ (w.heap.size + 1) _ _ _ rfl (setRow_heap _ _ _ _ _ _ hB2)) rfl (NewLst.el htg (by show 2 ≤ 20; omega) (new_row hH5.2.2 hK3 (fun b hb=>?_)))
  have h1:=hH3.2.2.size; have:=hH3.2.1; obtain ⟨_, _, _, hB4⟩:=this; have:=hB4.lt; exact ⟨by omega, by omega, hb.2⟩
 ·go_enter Tryz.func136, Tryz.ntmps136
  go_wp2_with fail
  refine HT.out.mono ?_
  rintro e w1 ⟨rfl, hb1⟩
  have F1:=F0.past hb1
  have b0 : w1.cell? ⟨w.heap.size, 0, none⟩ = some (.int .i64 5):=F1.1.cell 0
  have b1 : w1.cell? ⟨w.heap.size, 1, none⟩ = some (.string a):=F1.1.cell 1
  have b2 : w1.cell? ⟨w.heap.size, 2, none⟩ = some (.string v):=F1.1.cell 2
  have b3 : w1.cell? ⟨w.heap.size, 3, none⟩ = some (.slice S ss.length sc):=F1.1.cell 3
  have b4 : w1.cell? ⟨w.heap.size, 4, none⟩ = some (.slice A ks.length c):=F1.1.cell 4
  go_wp2_with fail
  refine wp_region_noPanic ?_
  refine wp_region_held_drew (S:=Fr w w.heap.size 25 #[.int .i64 5, .string a, .string v, .slice S ss.length sc, .slice A ks.length c] (w.heap.size + 1)) (by kernel_rfl) F1.drew (fun hH0=>?_)
  refine Rg.idleP [0] [(36, .int .u8 (tg : Nat))] 9 (by kernel_rfl) (fun _ _ _ _ _ h=>h) (by kernel_rfl) (by kernel_rfl) hH0 ?_
  refine Rg.frame _ (by simp only [Rg.puts, Rg.pu, List.set]; rfl) ?_
  refine Rg.tk 1 37 (.pointer (some ⟨w.heap.size, 1, none⟩)) rfl (by kernel_rfl) (fun _ _ _ h=>h) (fun _ _=>by kernel_rfl) hH0 ?_
  refine Rg.tk 2 38 (.string a) rfl (by kernel_rfl) (fun _ _ _ h=>h) (fun w' h=>run_cell rfl rfl (by kernel_rfl) (h.1.cell 1)) hH0 ?_
  refine Rg.tk 4 40 (.pointer (some ⟨w.heap.size, 2, none⟩)) rfl (by kernel_rfl) (fun _ _ _ h=>h) (fun _ _=>by kernel_rfl) hH0 ?_
  refine Rg.frame _ (by simp only [Rg.pu, List.set]; rfl) ?_
  refine Rg.tk 5 41 (.string v) rfl (by kernel_rfl) (fun _ _ _ h=>h) (fun w' h=>run_cell rfl rfl (by kernel_rfl) (h.1.cell 2)) hH0 ?_
  refine Rg.cl 3 39 rfl (by kernel_rfl) 133 #[.string a] (by kernel_rfl) (text_any a _ (by omega)) ?_
  rintro _ w2 ⟨rfl, hb2⟩
  have hH1:=hH0.past hb2
  refine ⟨_, rfl, hH1, ?_⟩
  refine Rg.cl 6 42 rfl (by kernel_rfl) 133 #[.string v] (by kernel_rfl) (text_any v _ (by omega)) ?_
  rintro _ w3 ⟨rfl, hb3⟩
  have hH2:=hH1.past hb3
  refine ⟨_, rfl, hH2, ?_⟩
  refine Rg.frame _ (by simp only [Rg.pu, List.set]; rfl) ?_
  have hH3:=hH2.alloc (.cells #[.int .u8 4, .string a, .slice none 0 0, .int .u8 4, .string v, .slice none 0 0] 57)
  refine Rg.rn 7 43 (.slice (some ⟨w3.heap.size, 0, none⟩) 2 2) (w3.alloc (.cells #[.int .u8 4, .string a, .slice none 0 0, .int .u8 4, .string v, .slice none 0 0] 57)) rfl (by kernel_rfl) (by kernel_rfl) hH3 ?_
  have hKK:=kids_lit (w:=w3) [txt 4 a, txt 4 v] [[.int .u8 4, .string a, .slice none 0 0], [.int .u8 4, .string v, .slice none 0 0]] rfl (by simp) (fun i hi=>by
   match i, hi with
   | 0, _=>exact lies_leaf (by decide) (by omega)
   | 1, _=>exact lies_leaf (by decide) (by omega))
  refine Rg.cl 8 44 rfl (by kernel_rfl) 103 #[.int .u8 (tg : Nat), .slice (some ⟨w3.heap.size, 0, none⟩) 2 2] (by kernel_rfl) (list_any tg htg [txt 4 a, txt 4 v] 1 _ 2 _ _ (by show 2 ≤ 20; omega) hg2 hKK) ?_
  rintro _ w5 ⟨A3, c3, ds3, rfl, hb5, hK3⟩
  have hH4:=hH3.past hb5
  refine ⟨_, rfl, hH4, ?_⟩
  have hH5:=hH4.store (by omega) (by omega) (.int .u8 (tg : Nat)) (.string ⟨#[]⟩) (.slice A3 2 c3)
  refine Rg.sk 9 _ rfl (by kernel_rfl) (run_storeE hH4 rfl rfl rfl) hH5 ?_
  refine Rg.frame _ (by simp only [Rg.pu, List.set]; rfl) ?_
  refine wpAnyH_done (by kernel_rfl) ?_ _
  refine NoPanic.normal ?_
  go_wp2_with fail
  obtain ⟨_, ⟨x', y', z', hB2⟩, _⟩:=hH4
  refine bodyPost_ret (Be.res_el rfl _ _ (w.heap.size + 1) _ _ _ rfl (setRow_heap _ _ _ _ _ _ hB2)) rfl (NewLst.el htg (by show 2 ≤ 20; omega) (new_row hH5.2.2 hK3 (fun b hb=>?_)))
  have h1:=hH3.2.2.size; have:=hH3.2.1; obtain ⟨_, _, _, hB4⟩:=this; have:=hB4.lt; exact ⟨by omega, by omega, hb.2⟩
 ·go_enter Tryz.func136, Tryz.ntmps136
  go_wp2_with fail
  refine HT.out.mono ?_
  rintro e w1 ⟨rfl, hb1⟩
  have F1:=F0.past hb1
  have b0 : w1.cell? ⟨w.heap.size, 0, none⟩ = some (.int .i64 6):=F1.1.cell 0
  have b1 : w1.cell? ⟨w.heap.size, 1, none⟩ = some (.string a):=F1.1.cell 1
  have b2 : w1.cell? ⟨w.heap.size, 2, none⟩ = some (.string v):=F1.1.cell 2
  have b3 : w1.cell? ⟨w.heap.size, 3, none⟩ = some (.slice S ss.length sc):=F1.1.cell 3
  have b4 : w1.cell? ⟨w.heap.size, 4, none⟩ = some (.slice A ks.length c):=F1.1.cell 4
  go_wp2_with fail
  refine wp_region_noPanic ?_
  refine wp_region_held_drew (S:=Fr w w.heap.size 25 #[.int .i64 6, .string a, .string v, .slice S ss.length sc, .slice A ks.length c] (w.heap.size + 1)) (by kernel_rfl) F1.drew (fun hH0=>?_)
  refine Rg.idleP [0] [(36, .int .u8 (tg : Nat))] 9 (by kernel_rfl) (fun _ _ _ _ _ h=>h) (by kernel_rfl) (by kernel_rfl) hH0 ?_
  refine Rg.frame _ (by simp only [Rg.puts, Rg.pu, List.set]; rfl) ?_
  refine Rg.tk 1 37 (.pointer (some ⟨w.heap.size, 1, none⟩)) rfl (by kernel_rfl) (fun _ _ _ h=>h) (fun _ _=>by kernel_rfl) hH0 ?_
  refine Rg.tk 2 38 (.string a) rfl (by kernel_rfl) (fun _ _ _ h=>h) (fun w' h=>run_cell rfl rfl (by kernel_rfl) (h.1.cell 1)) hH0 ?_
  refine Rg.tk 4 40 (.pointer (some ⟨w.heap.size, 2, none⟩)) rfl (by kernel_rfl) (fun _ _ _ h=>h) (fun _ _=>by kernel_rfl) hH0 ?_
  refine Rg.frame _ (by simp only [Rg.pu, List.set]; rfl) ?_
  refine Rg.tk 5 41 (.string v) rfl (by kernel_rfl) (fun _ _ _ h=>h) (fun w' h=>run_cell rfl rfl (by kernel_rfl) (h.1.cell 2)) hH0 ?_
  refine Rg.cl 3 39 rfl (by kernel_rfl) 133 #[.string a] (by kernel_rfl) (text_any a _ (by omega)) ?_
  rintro _ w2 ⟨rfl, hb2⟩
  have hH1:=hH0.past hb2
  refine ⟨_, rfl, hH1, ?_⟩
  refine Rg.cl 6 42 rfl (by kernel_rfl) 133 #[.string v] (by kernel_rfl) (text_any v _ (by omega)) ?_
  rintro _ w3 ⟨rfl, hb3⟩
  have hH2:=hH1.past hb3
  refine ⟨_, rfl, hH2, ?_⟩
  refine Rg.frame _ (by simp only [Rg.pu, List.set]; rfl) ?_
  have hH3:=hH2.alloc (.cells #[.int .u8 4, .string a, .slice none 0 0, .int .u8 4, .string v, .slice none 0 0] 57)
  refine Rg.rn 7 43 (.slice (some ⟨w3.heap.size, 0, none⟩) 2 2) (w3.alloc (.cells #[.int .u8 4, .string a, .slice none 0 0, .int .u8 4, .string v, .slice none 0 0] 57)) rfl (by kernel_rfl) (by kernel_rfl) hH3 ?_
  have hKK:=kids_lit (w:=w3) [txt 4 a, txt 4 v] [[.int .u8 4, .string a, .slice none 0 0], [.int .u8 4, .string v, .slice none 0 0]] rfl (by simp) (fun i hi=>by
   match i, hi with
   | 0, _=>exact lies_leaf (by decide) (by omega)
   | 1, _=>exact lies_leaf (by decide) (by omega))
  refine Rg.cl 8 44 rfl (by kernel_rfl) 103 #[.int .u8 (tg : Nat), .slice (some ⟨w3.heap.size, 0, none⟩) 2 2] (by kernel_rfl) (list_any tg htg [txt 4 a, txt 4 v] 1 _ 2 _ _ (by show 2 ≤ 20; omega) hg2 hKK) ?_
  rintro _ w5 ⟨A3, c3, ds3, rfl, hb5, hK3⟩
  have hH4:=hH3.past hb5
  refine ⟨_, rfl, hH4, ?_⟩
  have hH5:=hH4.store (by omega) (by omega) (.int .u8 (tg : Nat)) (.string ⟨#[]⟩) (.slice A3 2 c3)
  refine Rg.sk 9 _ rfl (by kernel_rfl) (run_storeE hH4 rfl rfl rfl) hH5 ?_
  refine Rg.frame _ (by simp only [Rg.pu, List.set]; rfl) ?_
  refine wpAnyH_done (by kernel_rfl) ?_ _
  refine NoPanic.normal ?_
  go_wp2_with fail
  obtain ⟨_, ⟨x', y', z', hB2⟩, _⟩:=hH4
  refine bodyPost_ret (Be.res_el rfl _ _ (w.heap.size + 1) _ _ _ rfl (setRow_heap _ _ _ _ _ _ hB2)) rfl (NewLst.el htg (by show 2 ≤ 20; omega) (new_row hH5.2.2 hK3 (fun b hb=>?_)))
  have h1:=hH3.2.2.size; have:=hH3.2.1; obtain ⟨_, _, _, hB4⟩:=this; have:=hB4.lt; exact ⟨by omega, by omega, hb.2⟩
set_option maxHeartbeats 4000000 in
theorem fe_subs (k : Int) (a v : ByteArray) (ss : List ByteArray) (ks : List Fil) (S A : Option Addr) (sc c : Nat) (ds : Nat → List Value) (w : World) (hk : k = 8) (ha : a.size ≤ 400) (hsl : ss.length ≤ 20) (hss : ∀ s ∈ ss, s.size ≤ 400) (hG : Glob w)
  (hs : Fi.StrsAt w (· < w.heap.size) S ss) (hK : Fi.KidsAt w (· < w.heap.size) A ks ds) :
  Calls Tryz.prog 136 #[.agg #[.int .i64 k, .string a, .string v, .slice S ss.length sc, .slice A ks.length c]] w (NewEl w (filEl (.mk k a v ss ks))):=by
 have htg : filTag k ≤ 255:=by rw [hk]; decide
 have hfe : filEl (.mk k a v ss ks) = lst (filTag k) [txt 4 a, lst 48 (subEls ss.length 0 ss)]:=by rw [filEl, if_neg (by omega), if_neg (by omega), if_pos hk]
 have hgs : ∀ e ∈ subEls ss.length 0 ss, good 1 e:=fun e he=>by
  obtain ⟨j, s, hs', rfl⟩:=subEls_mem ss.length ss 0 e he
  exact good_part (hss s hs')
 have hsl2 : (subEls ss.length 0 ss).length ≤ 20:=Nat.le_trans (subEls_len _ _ _) hsl
 have hg2 : ∀ e ∈ [txt 4 a, lst 48 (subEls ss.length 0 ss)], good 2 e:=fun e he=>by
  simp only [List.mem_cons, List.not_mem_nil, or_false] at he
  rcases he with rfl | rfl
  ·exact good_txt (by decide) ha
  ·exact good_lst (by decide) hsl2 hgs
 rw [hfe]
 have HSU:=Lib.hid (fun w1 hb=>subs_any S sc ss w1 (by omega) (fun s h=>by have:=hss s h; omega) (hs.past hb))
 have F0:=Fr.new w 25 #[.int .i64 k, .string a, .string v, .slice S ss.length sc, .slice A ks.length c] (.int .u8 0) (.string ⟨#[]⟩) (.slice none 0 0)
 have HT:=Lib.hid (filTag_any k _ (hG.past F0.2.2))
 generalize filTag k = tg at HT htg
 generalize subEls ss.length 0 ss = L at HSU hgs hsl2 hg2
 clear hK hs hG hfe hss
 subst hk
 go_enter Tryz.func136, Tryz.ntmps136
 go_wp2_with fail
 refine HT.out.mono ?_
 rintro e w1 ⟨rfl, hb1⟩
 have F1:=F0.past hb1
 have b0 : w1.cell? ⟨w.heap.size, 0, none⟩ = some (.int .i64 8):=F1.1.cell 0
 have b1 : w1.cell? ⟨w.heap.size, 1, none⟩ = some (.string a):=F1.1.cell 1
 have b2 : w1.cell? ⟨w.heap.size, 2, none⟩ = some (.string v):=F1.1.cell 2
 have b3 : w1.cell? ⟨w.heap.size, 3, none⟩ = some (.slice S ss.length sc):=F1.1.cell 3
 have b4 : w1.cell? ⟨w.heap.size, 4, none⟩ = some (.slice A ks.length c):=F1.1.cell 4
 go_wp2_with fail
 refine wp_region_noPanic ?_
 refine wp_region_held_drew (S:=Fr w w.heap.size 25 #[.int .i64 8, .string a, .string v, .slice S ss.length sc, .slice A ks.length c] (w.heap.size + 1)) (by kernel_rfl) F1.drew (fun hH0=>?_)
 refine Rg.idleP [0] [(26, .int .u8 (tg : Nat))] 10 (by kernel_rfl) (fun _ _ _ _ _ h=>h) (by kernel_rfl) (by kernel_rfl) hH0 ?_
 refine Rg.frame _ (by simp only [Rg.puts, Rg.pu, List.set]; rfl) ?_
 refine Rg.tk 1 27 (.pointer (some ⟨w.heap.size, 1, none⟩)) rfl (by kernel_rfl) (fun _ _ _ h=>h) (fun _ _=>by kernel_rfl) hH0 ?_
 refine Rg.tk 2 28 (.string a) rfl (by kernel_rfl) (fun _ _ _ h=>h) (fun w' h=>run_cell rfl rfl (by kernel_rfl) (h.1.cell 1)) hH0 ?_
 refine Rg.tk 4 30 (.pointer (some ⟨w.heap.size, 3, none⟩)) rfl (by kernel_rfl) (fun _ _ _ h=>h) (fun _ _=>by kernel_rfl) hH0 ?_
 refine Rg.frame _ (by simp only [Rg.pu, List.set]; rfl) ?_
 refine Rg.tk 5 31 (.slice S ss.length sc) rfl (by kernel_rfl) (fun _ _ _ h=>h) (fun w' h=>run_cell rfl rfl (by kernel_rfl) (h.1.cell 3)) hH0 ?_
 refine Rg.cl 3 29 rfl (by kernel_rfl) 133 #[.string a] (by kernel_rfl) (text_any a _ (by omega)) ?_
 rintro _ w2 ⟨rfl, hb2⟩
 have hH1:=hH0.past hb2
 refine ⟨_, rfl, hH1, ?_⟩
 refine Rg.cl 6 32 rfl (by kernel_rfl) 153 #[.slice S ss.length sc] (by kernel_rfl) (HSU.out _ hH1.2.2) ?_
 rintro _ w3 ⟨A1, c1, ds1, rfl, hb3, hK1⟩
 have hH2:=hH1.past hb3
 refine ⟨_, rfl, hH2, ?_⟩
 refine Rg.frame _ (by simp only [Rg.pu, List.set]; rfl) ?_
 refine Rg.cl 7 33 rfl (by kernel_rfl) 73 #[.slice A1 L.length c1] (by kernel_rfl) (seq_any L 1 A1 c1 ds1 _ hsl2 hgs (kids_old hK1)) ?_
 rintro _ w4 ⟨A2, c2, ds2, rfl, hb4, hK2⟩
 have hH3:=hH2.past hb4
 refine ⟨_, rfl, hH3, ?_⟩
 have hH4:=hH3.alloc (.cells #[.int .u8 4, .string a, .slice none 0 0, .int .u8 48, .string ⟨#[]⟩, .slice A2 L.length c2] 57)
 refine Rg.rn 8 34 (.slice (some ⟨w4.heap.size, 0, none⟩) 2 2) (w4.alloc (.cells #[.int .u8 4, .string a, .slice none 0 0, .int .u8 48, .string ⟨#[]⟩, .slice A2 L.length c2] 57)) rfl (by kernel_rfl) (by kernel_rfl) hH4 ?_
 have hKK:=kids_lit (w:=w4) [txt 4 a, lst 48 L] [[.int .u8 4, .string a, .slice none 0 0], [.int .u8 48, .string ⟨#[]⟩, .slice A2 L.length c2]] rfl (by simp) (fun i hi=>by
  match i, hi with
  | 0, _=>exact lies_leaf (by decide) (by omega)
  | 1, _=>exact Be.Lies.shut (by decide) (by decide) (by unfold maxLen; omega) (kids_old hK2))
 refine Rg.cl 9 35 rfl (by kernel_rfl) 103 #[.int .u8 (tg : Nat), .slice (some ⟨w4.heap.size, 0, none⟩) 2 2] (by kernel_rfl) (list_any tg htg [txt 4 a, lst 48 L] 2 _ 2 _ _ (by show 2 ≤ 20; omega) hg2 hKK) ?_
 rintro _ w5 ⟨A3, c3, ds3, rfl, hb5, hK3⟩
 have hH5:=hH4.past hb5
 refine ⟨_, rfl, hH5, ?_⟩
 refine Rg.frame _ (by simp only [Rg.pu, List.set]; rfl) ?_
 have hH6:=hH5.store (by omega) (by omega) (.int .u8 (tg : Nat)) (.string ⟨#[]⟩) (.slice A3 2 c3)
 refine Rg.sk 10 _ rfl (by kernel_rfl) (run_storeE hH5 rfl rfl rfl) hH6 ?_
 refine wpAnyH_done (by kernel_rfl) ?_ _
 refine NoPanic.normal ?_
 go_wp2_with fail
 obtain ⟨_, ⟨x', y', z', hB2⟩, _⟩:=hH5
 refine bodyPost_ret (Be.res_el rfl _ _ (w.heap.size + 1) _ _ _ rfl (setRow_heap _ _ _ _ _ _ hB2)) rfl (NewLst.el htg (by show 2 ≤ 20; omega) (new_row hH6.2.2 hK3 (fun b hb=>?_)))
 have h1:=hH4.2.2.size; have:=hH4.2.1; obtain ⟨_, _, _, hB4⟩:=this; have:=hB4.lt; exact ⟨by omega, by omega, hb.2⟩
theorem fe_any (f : Fil) : SaidFE f:=by
 refine Fi.ind (p:=SaidFE) ?_ f
 intro k a v ss ks ih x0 x1 x2 x3 x4 w hf ht hG hL
 obtain ⟨S, sc, A, c, ds, hcs, _, _, _, _, hs, _, _, _, hK⟩:=hL.open_
 simp only [List.cons.injEq, and_true] at hcs
 obtain ⟨rfl, rfl, rfl, rfl, rfl⟩:=hcs
 rw [Fi.frm] at hf
 by_cases hk : Fi.hasK k = true
 ·rw [if_pos hk] at hf
  simp only [Bool.and_eq_true, decide_eq_true_eq] at hf
  obtain ⟨_, _, _, _, hks⟩:=hf
  rw [Fi.frms_all, List.all_eq_true] at hks
  rw [Fi.tot, if_pos hk] at ht
  have hlen:=Fi.tots_len ks
  have hk' : k = 1 ∨ k = 2 ∨ k = 3:=by unfold Fi.hasK at hk; simp only [decide_eq_true_eq] at hk; omega
  exact fe_kids k a v ss ks S A sc c ds w hk' ih (fun f hfm=>⟨hks f hfm, by have:=tot_mem hfm; omega⟩) (by omega) hG hs hK
 ·rw [if_neg hk] at hf
  simp only [Bool.and_eq_true, decide_eq_true_eq] at hf
  obtain ⟨h48, hty, _, hrest⟩:=hf
  have hsz:=type_size hty
  by_cases h7 : k = 7
  ·exact fe_present k a v ss ks S A sc c ds w h7 (by omega) hG hs hK
  rw [if_neg h7] at hrest
  by_cases h8 : k = 8
  ·rw [if_pos h8] at hrest
   simp only [Bool.and_eq_true, decide_eq_true_eq] at hrest
   obtain ⟨_, hss⟩:=hrest
   unfold Fi.subsOk at hss
   simp only [Bool.and_eq_true, decide_eq_true_eq, List.all_eq_true] at hss
   exact fe_subs k a v ss ks S A sc c ds w h8 (by omega) (by omega) (fun s hs'=>by have:=hss.2.2.1 s hs'; omega) hG hs hK
  ·rw [if_neg h8] at hrest
   simp only [Bool.and_eq_true, decide_eq_true_eq] at hrest
   exact fe_pair k a v ss ks S A sc c ds w (by omega) (by omega) (by omega) hG hs hK
end Go.Proofs.YtconghaebebncaaGreatDoor.Ms
