import Derived.Test.YtbdpkfgllnbheaaGreatDoorZQ38
set_option linter.unusedVariables false
set_option maxRecDepth 100000
namespace Go.Proofs.YtbdpkfgllnbheaaGreatDoor.Ch
open Go.RowKit
attribute [local go_sem ↓] loadAtG
theorem cl_any (s : ByteArray) (w : World) (h : s.size ≤ 1099511627776) : Calls Tryz.prog 65 #[.string s] w fun e w'=>e = .returned (.string s) ∧ Below w.heap.size w w':=Be.clone_any s w (by omega)
set_option maxHeartbeats 2000000 in
theorem copyS_any (A : Option Addr) (c : Nat) (l : List ByteArray) (w : World) (hl : l.length ≤ 1000000) (hs : ∀ s ∈ l, s.size ≤ 1099511627776) (hA : StrsAt w (· < w.heap.size) A l) :
  Calls Tryz.prog 66 #[.slice A l.length c, .func (.func 65) #[] #[]] w (NewS w l):=by
 have HA:=Lib.hid hA
 have HS:=Lib.hid hs
 have HC:=Lib.hid cl_any
 clear hA hs
 go_enter Tryz.func66, Tryz.ntmps66
 go_wp2_with fail
 go_loopw [5, 10] (fun v i wr=>∃ (q : Nat), q ≤ l.length ∧ i = .int .i64 q ∧ Hid (OwnS wr w.heap.size v (l.take q)) ∧ Below w.heap.size w wr) (fun v i wr=>l.length - (intOf i).toNat)
 case atStart=>exact ⟨0, Nat.zero_le _, rfl, OwnS.nil _ _, Below.refl _ _⟩
 case round =>
  obtain ⟨q, hq, rfl, hG, hb⟩:=hrel
  have hsz:=hb.size
  by_cases hlt : q < l.length
  ·obtain ⟨ad, rfl, hp, hc⟩:=HA.out (by omega)
   have f0:=batA hb (by rw [block_of_add]; exact hp) (hc q hlt)
   have hsq:=HS.out _ (List.getElem_mem hlt)
   have hmt:=Lib.hid (take_one l q hlt)
   have hdl : (l.take q).length ≤ 1099511627776:=by rw [List.length_take]; omega
   generalize l[q] = s at f0 hsq hmt
   clear hc
   go_wp2_with fail
   refine (HC.out s wr hsq).mono ?_
   rintro e w1 ⟨rfl, hb1⟩
   have HB:=Lib.hid (Blk.new w1 9 #[.string s])
   have HG1:=Lib.hid ((hG.out.past hb1).alloc (.cells #[.string s] 9))
   have hbw:=hb.trans (hb1.mono hsz)
   have hz:=hbw.size
   have hz2 : w.heap.size ≤ (w1.alloc (.cells #[.string s] 9)).heap.size:=by simp; omega
   clear hG hb hb1
   go_wp2_with (at_builtin; go_loud (refine wpList_pushW rfl _ _ rfl w.heap.size _ _ rfl HG1.out w1.heap.size s rfl HB.out hdl hz2 ?_))
   intro v' w2 hG2 hb2
   rw [← hmt.out] at hG2
   have HG2:=Lib.hid hG2
   have hb3:=(hbw.alloc hz (.cells #[.string s] 9)).trans hb2
   clear hG2
   go_wp2_with fail
   refine ⟨⟨q + 1, by omega, by go_num, HG2, hb3⟩, by simp [intOf]; omega⟩
  ·have hq2 : q = l.length:=by omega
   subst hq2
   have hG1:=hG.out
   rw [List.take_length] at hG1
   have HG1:=Lib.hid hG1
   clear hG hG1
   go_wp2_with fail
   go_ret
   exact NewS.of hb HG1.out
set_option maxHeartbeats 4000000 in
theorem copyA_any (a b : ByteArray) (w : World) (ha : a.size ≤ 1099511627776) (hb : b.size ≤ 1099511627776) :
  Calls Tryz.prog 36 #[.agg #[.string a, .string b]] w fun r w'=>r = .returned (.agg #[.string a, .string b]) ∧ Below w.heap.size w w':=by
 have F0:=Fx.new w 41 #[.string a, .string b] #[.string ⟨#[]⟩, .string ⟨#[]⟩] 41
 go_enter Tryz.func36, Tryz.ntmps36
 go_wp2_with fail
 refine wp_region_noPanic ?_
 refine wp_region_held_drew (S:=Fx w w.heap.size 41 #[.string a, .string b] (w.heap.size + 1) 41 2) (by kernel_rfl) F0.drew (fun hH0=>?_)
 refine Rg.tk 0 3 (.pointer (some ⟨w.heap.size, 0, none⟩)) rfl (by kernel_rfl) (fun _ _ _ h=>h) (fun _ _=>by kernel_rfl) hH0 ?_
 refine Rg.tk 1 4 (.string a) rfl (by kernel_rfl) (fun _ _ _ h=>h) (fun w' h=>run_cell rfl rfl (by kernel_rfl) (h.1.cell 0)) hH0 ?_
 refine Rg.tk 3 6 (.pointer (some ⟨w.heap.size, 1, none⟩)) rfl (by kernel_rfl) (fun _ _ _ h=>h) (fun _ _=>by kernel_rfl) hH0 ?_
 refine Rg.frame _ (by simp only [Rg.pu, List.set]; rfl) ?_
 refine Rg.tk 4 7 (.string b) rfl (by kernel_rfl) (fun _ _ _ h=>h) (fun w' h=>run_cell rfl rfl (by kernel_rfl) (h.1.cell 1)) hH0 ?_
 refine Rg.cl 2 5 rfl (by kernel_rfl) 65 #[.string a] (by kernel_rfl) (cl_any a _ ha) ?_
 rintro _ w1 ⟨rfl, hb1⟩
 have hH1:=hH0.past hb1
 refine ⟨_, rfl, hH1, ?_⟩
 refine Rg.cl 5 8 rfl (by kernel_rfl) 65 #[.string b] (by kernel_rfl) (cl_any b _ hb) ?_
 rintro _ w2 ⟨rfl, hb2⟩
 have hH2:=hH1.past hb2
 refine ⟨_, rfl, hH2, ?_⟩
 refine Rg.frame _ (by simp only [Rg.pu, List.set]; rfl) ?_
 refine Rg.tk 6 9 (.agg #[.string a, .string b]) rfl (by kernel_rfl) (fun _ _ _ h=>h) (fun _ _=>by kernel_rfl) hH2 ?_
 have hH3:=hH2.row (by omega) (by omega) #[.string a, .string b] rfl
 refine Rg.sk 7 _ rfl (by kernel_rfl) (run_storeRow (ds:=#[.string a, .string b]) hH2 rfl infoA2 (by simp [Value.oneCell']) rfl rfl rfl) hH3 ?_
 refine Rg.frame _ (by simp only [Rg.pu, List.set]; rfl) ?_
 refine wpAnyH_done (by kernel_rfl) ?_ _
 refine NoPanic.normal ?_
 go_wp2_with fail
 obtain ⟨_, ⟨ds, _, hB2⟩, _⟩:=hH2
 exact bodyPost_ret (results_cell_row rfl _ _ (w.heap.size + 1) _ _ (0, 0) _ rfl (setRow_heap _ _ _ _ _ _ hB2) Tryz.underlying41 rfl infoA2) rfl ⟨rfl, hH3.2.2⟩
set_option maxHeartbeats 2000000 in
theorem copyR_any (A : Option Addr) (c : Nat) (l : List Nm.Ava) (w : World) (hl : l.length ≤ 1000000) (hs : ∀ a ∈ l, a.1.size ≤ 1099511627776 ∧ a.2.size ≤ 1099511627776) (hA : RAt w (· < w.heap.size) A l) :
  Calls Tryz.prog 35 #[.slice A l.length c, .func (.func 36) #[] #[]] w (NewA w l):=by
 have HS:=Lib.hid hs
 have HC:=Lib.hid copyA_any
 clear hs
 go_enter Tryz.func35, Tryz.ntmps35
 go_wp2_with fail
 go_loopw [5, 10] (fun v i wr=>∃ (q : Nat), q ≤ l.length ∧ i = .int .i64 q ∧ Hid (OwnA wr w.heap.size v (l.take q)) ∧ Below w.heap.size w wr) (fun v i wr=>l.length - (intOf i).toNat)
 case atStart=>exact ⟨0, Nat.zero_le _, rfl, OwnA.nil _ _, Below.refl _ _⟩
 case round =>
  obtain ⟨q, hq, rfl, hG, hb⟩:=hrel
  have hsz:=hb.size
  by_cases hlt : q < l.length
  ·obtain ⟨ad, rfl, hp, f0, f1⟩:=hA.kid hb hlt
   have hsq:=HS.out _ (List.getElem_mem hlt)
   have hmt:=Lib.hid (take_one l q hlt)
   have hdl : (l.take q).length ≤ 1099511627776:=by rw [List.length_take]; omega
   generalize l[q] = s at f0 f1 hsq hmt
   obtain ⟨a, b⟩:=s
   have h1:=hsq.1
   have h2:=hsq.2
   have hbM:=hb.alloc hsz (.cells #[.string a, .string b] 41)
   have hszM:=hbM.size
   have HGM:=Lib.hid (hG.out.alloc (.cells #[.string a, .string b] 41))
   clear hsq hG
   go_wp2_with fail
   refine (HC.out a b _ h1 h2).mono ?_
   rintro e w1 ⟨rfl, hb1⟩
   have HB:=Lib.hid (Blk.new w1 41 #[.string a, .string b])
   have HG1:=Lib.hid ((HGM.out.past hb1).alloc (.cells #[.string a, .string b] 41))
   have hbw:=hbM.trans (hb1.mono hszM)
   have hz:=hbw.size
   have hz2 : w.heap.size ≤ (w1.alloc (.cells #[.string a, .string b] 41)).heap.size:=by simp; omega
   clear hb hb1 hbM
   go_wp2_with (at_builtin; go_loud (refine wpList_pushV rfl _ _ rfl w.heap.size _ _ rfl HG1.out w1.heap.size a b rfl HB.out hdl hz2 ?_))
   intro v' w2 hG2 hb2
   rw [← hmt.out] at hG2
   have HG2:=Lib.hid hG2
   have hb3:=(hbw.alloc hz (.cells #[.string a, .string b] 41)).trans hb2
   clear hG2
   go_wp2_with fail
   refine ⟨⟨q + 1, by omega, by go_num, HG2, hb3⟩, by simp [intOf]; omega⟩
  ·have hq2 : q = l.length:=by omega
   subst hq2
   have hG1:=hG.out
   rw [List.take_length] at hG1
   have HG1:=Lib.hid hG1
   clear hG hG1
   go_wp2_with fail
   go_ret
   exact NewA.of hb HG1.out
def smMo (d : Mo) : Prop:=d.attr.size ≤ 1099511627776 ∧ d.vals.length ≤ 1000000 ∧ ∀ s ∈ d.vals, s.size ≤ 1099511627776
set_option maxHeartbeats 4000000 in
theorem copyM_any (d : Mo) (V : Option Addr) (vc : Nat) (w : World) (hd : smMo d) (h : MoAt w (· < w.heap.size) d [.int .i64 d.kind, .string d.attr, .slice V d.vals.length vc]) :
  Calls Tryz.prog 38 #[.agg #[.int .i64 d.kind, .string d.attr, .slice V d.vals.length vc]] w (NewMo w d):=by
 obtain ⟨V1, vc1, e, h2, h3, h4, h5, h6⟩:=h
 simp only [List.cons.injEq, Value.slice.injEq, true_and, and_true] at e
 obtain ⟨rfl, rfl⟩:=e
 obtain ⟨d1, d2, d3⟩:=hd
 have F0:=Fx.new w 44 #[.int .i64 d.kind, .string d.attr, .slice V d.vals.length vc] #[.int .i64 0, .string ⟨#[]⟩, .slice none 0 0] 44
 go_enter Tryz.func38, Tryz.ntmps38
 go_wp2_with fail
 refine wp_region_noPanic ?_
 refine wp_region_held_drew (S:=Fx w w.heap.size 44 #[.int .i64 d.kind, .string d.attr, .slice V d.vals.length vc] (w.heap.size + 1) 44 3) (by kernel_rfl) F0.drew (fun hH0=>?_)
 refine Rg.tk 0 3 (.pointer (some ⟨w.heap.size, 0, none⟩)) rfl (by kernel_rfl) (fun _ _ _ h=>h) (fun _ _=>by kernel_rfl) hH0 ?_
 refine Rg.tk 1 4 (.int .i64 d.kind) rfl (by kernel_rfl) (fun _ _ _ h=>h) (fun w' h=>run_cell rfl rfl (by kernel_rfl) (h.1.cell 0)) hH0 ?_
 refine Rg.tk 2 5 (.pointer (some ⟨w.heap.size, 1, none⟩)) rfl (by kernel_rfl) (fun _ _ _ h=>h) (fun _ _=>by kernel_rfl) hH0 ?_
 refine Rg.frame _ (by simp only [Rg.pu, List.set]; rfl) ?_
 refine Rg.tk 3 6 (.string d.attr) rfl (by kernel_rfl) (fun _ _ _ h=>h) (fun w' h=>run_cell rfl rfl (by kernel_rfl) (h.1.cell 1)) hH0 ?_
 refine Rg.tk 5 8 (.pointer (some ⟨w.heap.size, 2, none⟩)) rfl (by kernel_rfl) (fun _ _ _ h=>h) (fun _ _=>by kernel_rfl) hH0 ?_
 refine Rg.tk 6 9 (.slice V d.vals.length vc) rfl (by kernel_rfl) (fun _ _ _ h=>h) (fun w' h=>run_cell rfl rfl (by kernel_rfl) (h.1.cell 2)) hH0 ?_
 refine Rg.frame _ (by simp only [Rg.pu, List.set]; rfl) ?_
 refine Rg.cl 4 7 rfl (by kernel_rfl) 65 #[.string d.attr] (by kernel_rfl) (cl_any d.attr _ d1) ?_
 rintro _ w1 ⟨rfl, hb1⟩
 have hH1:=hH0.past hb1
 refine ⟨_, rfl, hH1, ?_⟩
 refine Rg.cl 7 10 rfl (by kernel_rfl) 66 #[.slice V d.vals.length vc, .func (.func 65) #[] #[]] (by kernel_rfl) (copyS_any V vc d.vals _ d2 d3 (h5.past hH1.2.2)) ?_
 rintro _ w2 ⟨U, uc, rfl, hb2, hU⟩
 have hH2:=hH1.past hb2
 refine ⟨_, rfl, hH2, ?_⟩
 refine Rg.tk 8 11 (.agg #[.int .i64 d.kind, .string d.attr, .slice U d.vals.length uc]) rfl (by kernel_rfl) (fun _ _ _ h=>h) (fun _ _=>by kernel_rfl) hH2 ?_
 refine Rg.frame _ (by simp only [Rg.pu, List.set]; rfl) ?_
 have hH3:=hH2.row (by omega) (by omega) #[.int .i64 d.kind, .string d.attr, .slice U d.vals.length uc] rfl
 refine Rg.sk 9 _ rfl (by kernel_rfl) (run_storeRow (ds:=#[.int .i64 d.kind, .string d.attr, .slice U d.vals.length uc]) hH2 rfl infoO3 (by simp [Value.oneCell']) rfl rfl rfl) hH3 ?_
 refine wpAnyH_done (by kernel_rfl) ?_ _
 refine NoPanic.normal ?_
 go_wp2_with fail
 obtain ⟨_, ⟨ds, _, hB2⟩, _⟩:=hH2
 have hlt:=hH1.lt
 have hU2:=own_more (own_set hU hlt #[.int .i64 d.kind, .string d.attr, .slice U d.vals.length uc]) (base':=w.heap.size) hH1.2.2.size
 exact bodyPost_ret (results_cell_row rfl _ _ (w.heap.size + 1) _ _ (0, 0) _ rfl (setRow_heap _ _ _ _ _ _ hB2) Tryz.underlying44 rfl infoO3) rfl ⟨_, _, _, rfl, hH3.2.2, _, rfl, hU2, h2, h3, h6⟩
set_option maxHeartbeats 4000000 in
theorem copyMs_any (A : Option Addr) (c : Nat) (l : List Mo) (ds : Nat → List Value) (w : World) (hl : l.length ≤ 900000) (hs : ∀ d ∈ l, smMo d) (hM : MosAt w (· < w.heap.size) A l ds) :
  Calls Tryz.prog 37 #[.slice A l.length c, .func (.func 38) #[] #[]] w (NewM w l):=by
 have HS:=Lib.hid hs
 have HC:=Lib.hid copyM_any
 clear hs
 go_enter Tryz.func37, Tryz.ntmps37
 go_wp2_with fail
 go_loopw [5, 10] (fun v i wr=>∃ (q : Nat) (xs : List Value), q ≤ l.length ∧ i = .int .i64 q ∧ Hid (GathO wr w.heap.size v xs (l.take q)) ∧ Below w.heap.size w wr) (fun v i wr=>l.length - (intOf i).toNat)
 case atStart=>exact ⟨0, [], Nat.zero_le _, rfl, GathO.nil _ _, Below.refl _ _⟩
 case round =>
  obtain ⟨q, xs, hq, rfl, hG, hb⟩:=hrel
  have hsz:=hb.size
  by_cases hlt : q < l.length
  ·obtain ⟨ad, V, vc, rfl, hp, f0, f1, f2, hL⟩:=hM.kid hb hlt
   have hsq:=HS.out _ (List.getElem_mem hlt)
   have hmt:=Lib.hid (take_one l q hlt)
   have hdl : (l.take q).length < 1000000:=by rw [List.length_take]; omega
   generalize l[q] = d at f0 f1 f2 hL hsq hmt
   have C:=Lib.hid (HC.out d V vc _ hsq (hL.past ((Below.refl _ _).alloc (Nat.le_refl _) (.cells #[.int .i64 d.kind, .string d.attr, .slice V d.vals.length vc] 44))))
   have hbM:=hb.alloc hsz (.cells #[.int .i64 d.kind, .string d.attr, .slice V d.vals.length vc] 44)
   have hszM:=hbM.size
   have HGM:=Lib.hid (hG.out.alloc (.cells #[.int .i64 d.kind, .string d.attr, .slice V d.vals.length vc] 44))
   clear hL hsq hG
   go_wp2_with fail
   refine C.out.mono ?_
   rintro e w1 ⟨x, y, z, rfl, hb1, hL1⟩
   have hL2:=Lib.hid ((hL1.more hszM).past ((Below.refl _ _).alloc (Nat.le_refl _) (.cells #[x, y, z] 44)))
   have HB:=Lib.hid (Blk.new w1 44 #[x, y, z])
   have HG1:=Lib.hid ((HGM.out.past hb1).alloc (.cells #[x, y, z] 44))
   have hbw:=hbM.trans (hb1.mono hszM)
   have hz:=hbw.size
   have hz2 : w.heap.size ≤ (w1.alloc (.cells #[x, y, z] 44)).heap.size:=by simp; omega
   clear hb hb1 hL1 hbM
   go_wp2_with (at_builtin; go_loud (refine wpList_pushM rfl _ _ rfl w.heap.size _ _ _ rfl HG1.out w1.heap.size rfl HB.out hL2.out hdl hz2 ?_))
   intro v' w2 hG2 hb2
   rw [← hmt.out] at hG2
   have HG2:=Lib.hid hG2
   have hb3:=(hbw.alloc hz (.cells #[x, y, z] 44)).trans hb2
   clear hG2
   go_wp2_with fail
   refine ⟨⟨q + 1, _, by omega, by go_num, HG2, hb3⟩, by simp [intOf]; omega⟩
  ·have hq2 : q = l.length:=by omega
   subst hq2
   have hG1:=hG.out
   rw [List.take_length] at hG1
   have HG1:=Lib.hid hG1
   clear hG hG1
   go_wp2_with fail
   go_ret
   exact NewM.of hb HG1.out
end Go.Proofs.YtbdpkfgllnbheaaGreatDoor.Ch
namespace Go.Proofs.YtbdpkfgllnbheaaGreatDoor.Ch
open Go.RowKit
attribute [local go_sem ↓] loadAtG
theorem wpList_mark {P : Program} {w : World} {ops : Array Oper} {rest : List Oper} {o : Oper} {a : Act} {Q : Exit → Act → World → Prop} (q : Op) (hq : o.op = q) (h : wpList P ops Q (o :: rest) a w) : wpList P ops Q (o :: rest) a w:=h
def smG (c : Cg) : Prop:=c.rdn.length ≤ 1000000 ∧ (∀ a ∈ c.rdn, a.1.size ≤ 1099511627776 ∧ a.2.size ≤ 1099511627776) ∧ c.mods.length ≤ 900000 ∧ ∀ d ∈ c.mods, smMo d
set_option maxHeartbeats 4000000 in
theorem Copy_any (c : Cg) (cs : Array Value) (w : World) (hs : smG c) (h : GAt w (· < w.heap.size) c cs) : Calls Tryz.prog 15 #[.agg cs] w (NewG w c):=by
 obtain ⟨R, rc, M, mc, ds, rfl, ⟨hR, lR, lR'⟩, hM, lM, lM'⟩:=h
 obtain ⟨s1, s2, s3, s4⟩:=hs
 have hb0 : Below w.heap.size w ((w.alloc (.cells (gcs c R rc M mc) 28)).alloc (.cells zcs 28)).drew:=(((Below.refl _ _).alloc (Nat.le_refl _) _).alloc (by simp) _).drew
 have B0 : Blk ((w.alloc (.cells (gcs c R rc M mc) 28)).alloc (.cells zcs 28)).drew w.heap.size 28 (gcs c R rc M mc):=((Blk.new w _ _).alloc _).drew
 have Z0 : Blk ((w.alloc (.cells (gcs c R rc M mc) 28)).alloc (.cells zcs 28)).drew (w.heap.size + 1) 28 zcs:=(new2 w _ _ _ _).drew
 have CR:=Lib.hid (fun w1 hb=>copyR_any R rc c.rdn w1 s1 s2 (hR.past hb))
 have CM:=Lib.hid (fun w1 hb=>copyMs_any M mc c.mods ds w1 s3 s4 (hM.past hb))
 have HB0:=Lib.hid B0
 have HZ0:=Lib.hid Z0
 have hb:=Lib.hid hb0
 clear B0 Z0 hR hM s2 s4 hb0
 go_enter Tryz.func15, Tryz.ntmps15
 go_wp2_with fail
 go_region_with (first | (go_at_call 35; refine (CR.out _ hb.out).mono ?_; rintro e9 w1 ⟨R1, rc1, rfl, hb1, hR1⟩; have hb2:=hb.out.trans (hb1.mono hb.out.size); have B1:=HB0.out.past hb1; have k10:=B1.cell 10; have k12:=B1.cell 12; have f10:=B1.frozen 10; have f12:=B1.frozen 12) | (go_at_call 37; refine (CM.out _ hb2).mono ?_; rintro e8 w2 ⟨M1, mc1, xs, rfl, hb3, hM1⟩; have B2:=B1.past hb3; have k10':=B2.cell 10; have k12':=B2.cell 12; have f10':=B2.frozen 10; have f12':=B2.frozen 12))
 all_goals
  have B3 : Blk ((w2.setCell ⟨w.heap.size, 10, none⟩ (.slice R1 c.rdn.length rc1)).setCell ⟨w.heap.size, 12, none⟩ (.slice M1 c.mods.length mc1)) w.heap.size 28 (gcs c R1 rc1 M1 mc1):=(B2.set_ 10 _).set_ 12 _
  have Z3 : Blk ((w2.setCell ⟨w.heap.size, 10, none⟩ (.slice R1 c.rdn.length rc1)).setCell ⟨w.heap.size, 12, none⟩ (.slice M1 c.mods.length mc1)) (w.heap.size + 1) 28 zcs:=(((HZ0.out.past hb1).past hb3).far (p:=⟨w.heap.size, 10, none⟩) (Nat.succ_ne_self _) _).far (p:=⟨w.heap.size, 12, none⟩) (Nat.succ_ne_self _) _
  have hb4 : Below w.heap.size w ((w2.setCell ⟨w.heap.size, 10, none⟩ (.slice R1 c.rdn.length rc1)).setCell ⟨w.heap.size, 12, none⟩ (.slice M1 c.mods.length mc1)):=((hb2.trans (hb3.mono hb2.size)).setCell (p:=⟨w.heap.size, 10, none⟩) (Nat.le_refl _) _).setCell (p:=⟨w.heap.size, 12, none⟩) (Nat.le_refl _) _
  have hz1:=hb1.size
  have hzz:=hb.out.size
  have hz0 : w.heap.size + 2 ≤ ((w.alloc (.cells (gcs c R rc M mc) 28)).alloc (.cells zcs 28)).drew.heap.size:=by simp
  have O1 : OwnA ((w2.setCell ⟨w.heap.size, 10, none⟩ (.slice R1 c.rdn.length rc1)).setCell ⟨w.heap.size, 12, none⟩ (.slice M1 c.mods.length mc1)) (w.heap.size + 2) (.slice R1 c.rdn.length rc1) c.rdn:=own_more (own_setC (p:=⟨w.heap.size, 12, none⟩) (own_setC (p:=⟨w.heap.size, 10, none⟩) (hR1.past hb3) (by show w.heap.size < _; omega) _) (by show w.heap.size < _; omega) _) hz0
  have O2 : GathO ((w2.setCell ⟨w.heap.size, 10, none⟩ (.slice R1 c.rdn.length rc1)).setCell ⟨w.heap.size, 12, none⟩ (.slice M1 c.mods.length mc1)) (w.heap.size + 2) (.slice M1 c.mods.length mc1) xs c.mods:=((hM1.setC (p:=⟨w.heap.size, 10, none⟩) (by show w.heap.size < _; omega) _).setC (p:=⟨w.heap.size, 12, none⟩) (by show w.heap.size < _; omega) _).more (by omega)
  have HB3:=Lib.hid B3
  have HZ3:=Lib.hid Z3
  have Hb4:=Lib.hid hb4
  have HO1:=Lib.hid O1
  have HO2:=Lib.hid O2
  generalize ((w2.setCell ⟨w.heap.size, 10, none⟩ (.slice R1 c.rdn.length rc1)).setCell ⟨w.heap.size, 12, none⟩ (.slice M1 c.mods.length mc1)) = w3 at HB3 HZ3 Hb4 HO1 HO2 ⊢
  clear B1 B2 B3 Z3 hb4 O1 O2 k10 k12 f10 f12 k10' k12' f10' f12' hR1 hM1 hb1 hb2 hb3 hz1 hzz hz0
  go_wp2_with (first | (refine wpList_load_row rfl 28 _ rfl w.heap.size rfl 28 (gcs c R1 rc1 M1 mc1) (0, 0) _ HB3.out Tryz.underlying28 rfl (by kernel_rfl) ?_) | (refine wpList_mark (.store 28 (.tmp 2) (.tmp 11)) rfl ?_; refine wpList_store_row rfl 28 _ _ rfl (w.heap.size + 1) (gcs c R1 rc1 M1 mc1) rfl rfl 28 zcs HZ3.out infoG rfl (by simp [Value.oneCell']) ?_))
  refine bodyPost_ret (results_cell_row rfl _ _ (w.heap.size + 1) _ (gcs c R1 rc1 M1 mc1) (0, 0) _ rfl (setRow_heap _ _ _ _ _ _ HZ3.out) Tryz.underlying28 rfl infoG) rfl ⟨_, rfl, below_setRow Hb4.out (Nat.le_succ _) _, ?_⟩
  exact ⟨_, _, xs, rfl, own_more (own_set HO1.out (r:=w.heap.size + 1) (Nat.lt_succ_self _) _) (by omega), (HO2.out.set_ (r:=w.heap.size + 1) (Nat.lt_succ_self _) _).more (by omega), lR, lM⟩
end Go.Proofs.YtbdpkfgllnbheaaGreatDoor.Ch
namespace Go.Proofs.YtbdpkfgllnbheaaGreatDoor.Ch
open Go.RowKit
attribute [local go_sem ↓] loadAtG storeAtG
abbrev kcs : Array Value:=#[.int .i64 2, .int .i64 0, .int .i64 0, .int .i64 2, .int .i64 1, .int .i64 0, .int .i64 0, .int .i64 0, .int .i64 0, .int .i64 0, .slice none 0 0, .bool false, .slice none 0 0]
theorem KD_at (w : World) (P : Nat → Prop) : GAt w P KD kcs:=⟨none, 0, none, 0, fun _=>[], rfl, ⟨fun h=>absurd h (by simp [KD]), by decide, by decide⟩, MosAt.nil _ _ _ _, by decide, by decide⟩
theorem KD_sm : smA KD:=fun d hd=>by cases hd
theorem KD_smG : smG KD:=by
 refine ⟨by decide, fun a ha=>?_, by decide, fun d hd=>?_⟩
 ·cases ha
 ·cases hd
theorem zero_sm : smA zero:=fun d hd=>by cases hd
set_option maxHeartbeats 4000000 in
theorem known_any (w : World) (hG : Cs.Glob w) : Calls Tryz.prog 7 #[] w (Flag w true):=by
 obtain ⟨S0, hS⟩ : ∃ S0 : ByteArray, S0 = ⟨(Be.wr KE).1.toArray⟩:=⟨_, rfl⟩
 have hS1 : S0.data.toList = (Be.wr KE).1:=by rw [hS]
 have hS2 : S0.size ≤ 1099511627776:=by
  have h1 : S0.size = (Be.wr KE).1.length:=by rw [hS]; simp [ByteArray.size]
  have:=of_decide_eq_false KE_len
  omega
 have CB:=Lib.hid (fun w h1 h2=>Bytes_any KD kcs w h1 KD_sm h2)
 rw [KD_wr] at CB
 have CB2 : Hid (∀ (w : World), Cs.Glob w → GAt w (· < w.heap.size) KD kcs → Calls Tryz.prog 9 #[.agg kcs] w fun r w'=>r = .returned (.tuple #[.string ⟨(Be.wr KE).1.toArray⟩, .int .i64 0]) ∧ Below w.heap.size w w'):=CB
 rw [← hS] at CB2
 have CZ:=Lib.hid (fun w h1 h2=>Bytes_any zero zcs w h1 zero_sm h2)
 rw [zero_wr] at CZ
 have CZ2 : Hid (∀ (w : World), Cs.Glob w → GAt w (· < w.heap.size) zero zcs → Calls Tryz.prog 9 #[.agg zcs] w fun r w'=>r = .returned (.tuple #[.string ⟨#[]⟩, .int .i64 14]) ∧ Below w.heap.size w w'):=CZ
 have CR:=Lib.hid (fun w h1=>Read_any S0 w h1 hS2)
 rw [hS1, KD_rd] at CR
 have CN:=Lib.hid (fun w h1=>Read_any ⟨#[]⟩ w h1 (by decide))
 rw [show (⟨#[]⟩ : ByteArray).data.toList = [] from rfl, none_rd] at CN
 obtain ⟨W1, hst, hb1, hB1⟩:=box_store (w:=w) (KD_at w _)
 have hld:=hB1.load
 have HB1:=Lib.hid hB1
 have Hb1:=Lib.hid hb1
 have HG:=Lib.hid hG
 clear hS hS1 hS2 CB CZ hb1 hB1 hG
 go_enter Tryz.func7, Tryz.ntmps7
 go_wp2_with fail
 refine (CB2.out _ (HG.out.past Hb1.out) HB1.out.2).mono ?_
 rintro r w2 ⟨rfl, hv⟩
 have Hb2:=Lib.hid (Hb1.out.trans (hv.mono Hb1.out.size))
 have HB2:=Lib.hid (HB1.out.past hv)
 clear hst hld hv HB1 Hb1
 go_wp2_with fail
 refine (CR.out _ (HG.out.past Hb2.out)).mono ?_
 rintro r w3 ⟨c4, rfl, hv, hg4⟩
 have hg4' : GAt w3 (· < w3.heap.size) KD c4:=hg4.imp (fun _ h=>h.2) (fun _ _=>rfl)
 obtain ⟨W3, hst, hb3, hB4⟩:=box_store hg4'
 have hvv:=hv.trans (hb3.mono hv.size)
 have Hb3:=Lib.hid (Hb2.out.trans (hvv.mono Hb2.out.size))
 have HB3:=Lib.hid (HB2.out.past hvv)
 have HD3:=Lib.hid hB4
 have h34:=Lib.hid (Nat.le_trans Hb2.out.size hv.size)
 clear hv hg4 hg4' hb3 hB4 hvv HB2 Hb2 CR
 go_wp2_with fail
 refine (CZ2.out _ (HG.out.past Hb3.out) (zero_at _ _)).mono ?_
 rintro r w4 ⟨rfl, hv⟩
 have Hb4:=Lib.hid (Hb3.out.trans (hv.mono Hb3.out.size))
 have HB4:=Lib.hid (HB3.out.past hv)
 have HD4:=Lib.hid (HD3.out.past hv)
 clear hst hv HB3 HD3 Hb3
 go_wp2_with fail
 refine (CN.out _ (HG.out.past Hb4.out)).mono ?_
 rintro r w5 ⟨c8, rfl, hv, hg8⟩
 have hg8' : GAt w5 (· < w5.heap.size) zero c8:=hg8.imp (fun _ h=>h.2) (fun _ _=>rfl)
 obtain ⟨W5, hst, hb5, hB8⟩:=box_store hg8'
 have hvv:=hv.trans (hb5.mono hv.size)
 have hb6:=Hb4.out.trans (hvv.mono Hb4.out.size)
 have hB6:=HB4.out.past hvv
 have hD6:=HD4.out.past hvv
 clear hv hg8 hg8' hb5 hB8 hvv HB4 HD4 Hb4 CN CB2 CZ2
 go_wp2_with fail
 refine wp_region_noPanic ?_
 refine wp_region_held_drew (S:=fun w'=>Box w' w.heap.size KD kcs ∧ Box w' w3.heap.size KD c4 ∧ Below w.heap.size w w') (by kernel_rfl) ⟨hB6.past (Below.refl _ _).drew, hD6.past (Below.refl _ _).drew, hb6.drew⟩ (fun hHeld=>?_)
 refine Rg.idleP [0] [(32, .int .i64 0)] 34 (by kernel_rfl) (fun _ _ _ _ _ h=>h) (by kernel_rfl) (by kernel_rfl) hHeld ?_
 refine Rg.frame _ (by simp only [Rg.puts, Rg.pu, List.set]; rfl) ?_
 refine Rg.tk 1 33 (.bool true) rfl (by kernel_rfl) (fun _ _ _ h=>h) (fun _ _=>by kernel_rfl) hHeld ?_
 refine Rg.idleP [2, 3] [(34, .bool true), (35, .int .i64 0)] 31 (by kernel_rfl) (fun _ _ _ _ _ h=>h) (by kernel_rfl) (by kernel_rfl) hHeld ?_
 refine Rg.frame _ (by simp only [Rg.puts, Rg.pu, List.set]; rfl) ?_
 refine Rg.tk 4 36 (.bool true) rfl (by kernel_rfl) (fun _ _ _ h=>h) (fun _ _=>by kernel_rfl) hHeld ?_
 refine Rg.idleP [5, 6] [(37, .bool true), (38, .bool true)] 28 (by kernel_rfl) (fun _ _ _ _ _ h=>h) (by kernel_rfl) (by kernel_rfl) hHeld ?_
 refine Rg.frame _ (by simp only [Rg.puts, Rg.pu, List.set]; rfl) ?_
 refine Rg.tk 7 39 (.agg kcs) rfl (by kernel_rfl) (fun _ _ _ h=>h) (fun w' h=>run_loadG rfl rfl h.1) hHeld ?_
 refine Rg.tk 8 40 (.agg c4) rfl (by kernel_rfl) (fun _ _ _ h=>h) (fun w' h=>run_loadG rfl rfl h.2.1) hHeld ?_
 refine Rg.cl 9 41 rfl (by kernel_rfl) 13 #[.agg kcs, .agg c4] (by kernel_rfl) (KD_same ▸ rSame_any KD KD kcs c4 _ hHeld.1.2 hHeld.2.1.2) ?_
 rintro _ v1 ⟨rfl, hv1⟩
 have hHeld1:=And.intro (hHeld.1.past hv1) (And.intro (hHeld.2.1.past hv1) (hHeld.2.2.trans (hv1.mono hHeld.2.2.size)))
 refine ⟨_, rfl, hHeld1, ?_⟩
 refine Rg.frame _ (by simp only [Rg.pu, List.set]; rfl) ?_
 refine Rg.idleP [10, 11, 12] [(42, .bool true), (43, .bool true), (44, .int .i64 14)] 22 (by kernel_rfl) (fun _ _ _ _ _ h=>h) (by kernel_rfl) (by kernel_rfl) hHeld1 ?_
 refine Rg.frame _ (by simp only [Rg.puts, Rg.pu, List.set]; rfl) ?_
 refine Rg.tk 13 45 (.bool true) rfl (by kernel_rfl) (fun _ _ _ h=>h) (fun _ _=>by kernel_rfl) hHeld1 ?_
 refine Rg.idleP [14, 15, 16] [(46, .bool true), (47, .bool true), (48, .int .i64 14)] 18 (by kernel_rfl) (fun _ _ _ _ _ h=>h) (by kernel_rfl) (by kernel_rfl) hHeld1 ?_
 refine Rg.frame _ (by simp only [Rg.puts, Rg.pu, List.set]; rfl) ?_
 refine Rg.tk 17 49 (.bool true) rfl (by kernel_rfl) (fun _ _ _ h=>h) (fun _ _=>by kernel_rfl) hHeld1 ?_
 refine Rg.idleP [18, 19] [(50, .bool true), (51, .bool true)] 15 (by kernel_rfl) (fun _ _ _ _ _ h=>h) (by kernel_rfl) (by kernel_rfl) hHeld1 ?_
 refine Rg.frame _ (by simp only [Rg.puts, Rg.pu, List.set]; rfl) ?_
 refine Rg.tk 20 52 (.agg kcs) rfl (by kernel_rfl) (fun _ _ _ h=>h) (fun w' h=>run_loadG rfl rfl h.1) hHeld1 ?_
 refine Rg.cl 21 53 rfl (by kernel_rfl) 10 #[.agg kcs] (by kernel_rfl) (KD_is ▸ Is_any KD kcs _ KD_sm hHeld1.1.2) ?_
 rintro _ v2 ⟨rfl, hv2⟩
 have hHeld2:=And.intro (hHeld1.1.past hv2) (And.intro (hHeld1.2.1.past hv2) (hHeld1.2.2.trans (hv2.mono hHeld1.2.2.size)))
 refine ⟨_, rfl, hHeld2, ?_⟩
 refine Rg.idleP [22, 23] [(54, .bool true), (55, .bool true)] 11 (by kernel_rfl) (fun _ _ _ _ _ h=>h) (by kernel_rfl) (by kernel_rfl) hHeld2 ?_
 refine Rg.frame _ (by simp only [Rg.puts, Rg.pu, List.set]; rfl) ?_
 refine Rg.tk 24 56 (.agg #[.int .i64 0, .int .i64 0, .int .i64 0, .int .i64 0, .int .i64 0, .int .i64 0, .int .i64 0, .int .i64 0, .int .i64 0, .int .i64 0, .slice none 0 0, .bool false, .slice none 0 0]) rfl (by kernel_rfl) (fun _ _ _ h=>h) (fun _ _=>by kernel_rfl) hHeld2 ?_
 refine Rg.cl 25 57 rfl (by kernel_rfl) 10 #[.agg #[.int .i64 0, .int .i64 0, .int .i64 0, .int .i64 0, .int .i64 0, .int .i64 0, .int .i64 0, .int .i64 0, .int .i64 0, .int .i64 0, .slice none 0 0, .bool false, .slice none 0 0]] (by kernel_rfl) (zero_is ▸ Is_any zero zcs _ zero_sm (zero_at _ _)) ?_
 rintro _ v3 ⟨rfl, hv3⟩
 have hHeld3:=And.intro (hHeld2.1.past hv3) (And.intro (hHeld2.2.1.past hv3) (hHeld2.2.2.trans (hv3.mono hHeld2.2.2.size)))
 refine ⟨_, rfl, hHeld3, ?_⟩
 refine Rg.tk 26 58 (.bool true) rfl (by kernel_rfl) (fun _ _ _ h=>h) (fun _ _=>by kernel_rfl) hHeld3 ?_
 refine Rg.frame _ (by simp only [Rg.pu, List.set]; rfl) ?_
 refine Rg.idleP [27, 28] [(59, .bool true), (60, .bool true)] 6 (by kernel_rfl) (fun _ _ _ _ _ h=>h) (by kernel_rfl) (by kernel_rfl) hHeld3 ?_
 refine Rg.frame _ (by simp only [Rg.puts, Rg.pu, List.set]; rfl) ?_
 refine Rg.tk 29 61 (.agg kcs) rfl (by kernel_rfl) (fun _ _ _ h=>h) (fun w' h=>run_loadG rfl rfl h.1) hHeld3 ?_
 refine Rg.tk 30 62 (.agg kcs) rfl (by kernel_rfl) (fun _ _ _ h=>h) (fun w' h=>run_loadG rfl rfl h.1) hHeld3 ?_
 refine Rg.cl 31 63 rfl (by kernel_rfl) 15 #[.agg kcs] (by kernel_rfl) (Copy_any KD kcs _ KD_smG hHeld3.1.2) ?_
 rintro _ v4 ⟨cC, rfl, hv4, hO⟩
 have hHeld4:=And.intro (hHeld3.1.past hv4) (And.intro (hHeld3.2.1.past hv4) (hHeld3.2.2.trans (hv4.mono hHeld3.2.2.size)))
 refine ⟨_, rfl, hHeld4, ?_⟩
 refine Rg.frame _ (by simp only [Rg.pu, List.set]; rfl) ?_
 refine Rg.cl 32 64 rfl (by kernel_rfl) 12 #[.agg kcs, .agg cC] (by kernel_rfl) (KD_same ▸ Same_any KD KD kcs cC _ hHeld4.1.2 (hO.at.imp (fun _ h=>h.2) (fun _ _=>rfl))) ?_
 rintro _ v5 ⟨rfl, hv5⟩
 have hHeld5:=And.intro (hHeld4.1.past hv5) (And.intro (hHeld4.2.1.past hv5) (hHeld4.2.2.trans (hv5.mono hHeld4.2.2.size)))
 refine ⟨_, rfl, hHeld5, ?_⟩
 refine Rg.idleP [33, 34] [(0, .bool true), (65, .bool true)] 0 (by kernel_rfl) (fun _ _ _ _ _ h=>h) (by kernel_rfl) (by kernel_rfl) hHeld5 ?_
 refine Rg.frame _ (by simp only [Rg.puts, Rg.pu, List.set]; rfl) ?_
 refine wpAnyH_done (by kernel_rfl) ?_ _
 refine NoPanic.normal ?_
 go_wp2_with fail
 go_ret
 exact ⟨rfl, hHeld5.2.2⟩
end Go.Proofs.YtbdpkfgllnbheaaGreatDoor.Ch
