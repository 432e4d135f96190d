import Derived.Test.YtbdpkfgllnbheaaGreatDoorZQ23
set_option linter.unusedVariables false
set_option maxRecDepth 100000
namespace Go.Proofs.YtbdpkfgllnbheaaGreatDoor.Ch
open Go.RowKit
theorem kids_of {w : World} {e : Be.El} {t n c : Nat} {b : ByteArray} {A : Option Addr} (hL : Be.Lies w (· < w.heap.size) e [.int .u8 (t : Nat), .string b, .slice A n c]) :
  n = (kidsE e).length ∧ t = tagE e ∧ b = bodyE e ∧ t ≤ 255 ∧ ∃ ds, Be.KidsAt w (· < w.heap.size) A (kidsE e) ds:=by
 obtain ⟨t', b', ks⟩:=e
 obtain ⟨A', c', ds, hcs, ht, _, hl, hK⟩:=hL.open_
 simp only [List.cons.injEq, and_true, Value.slice.injEq, Value.string.injEq, Value.int.injEq, true_and] at hcs
 obtain ⟨h1, rfl, rfl, rfl, rfl⟩:=hcs
 exact ⟨rfl, by show t = t'; omega, rfl, by omega, ds, hK⟩
theorem Few.kids {e : Be.El} (h : Few e) : ∀ k ∈ kidsE e, Few k:=by cases e; exact h.open_.2.2
theorem few_bodies {e : Be.El} (h : Few e) : ((kidsE e).map bodyE).length ≤ maxLen ∧ ∀ s ∈ (kidsE e).map bodyE, s.size ≤ maxLen:=by
 refine ⟨by rw [List.length_map]; have:=h.len; unfold maxLen; omega, fun s hs=>?_⟩
 obtain ⟨k, hk, rfl⟩:=List.mem_map.1 hs
 have:=(h.kids k hk).body
 unfold maxLen
 omega
set_option maxHeartbeats 2000000 in
theorem eachB_any (ks : List Be.El) (A : Option Addr) (c : Nat) (ds : Nat → List Value) (w : World) (hlen : ks.length ≤ 10000) (hK : Be.KidsAt w (· < w.heap.size) A ks ds) :
  Calls Tryz.prog 109 #[.slice A ks.length c, .func (.func 110) #[] #[]] w (NewS w (ks.map bodyE)):=by
 have HK:=Lib.hid hK
 obtain ⟨l, hl⟩ : ∃ l, l = ks.map bodyE:=⟨_, rfl⟩
 have hmt:=map_take bodyE ks
 rw [← hl] at hmt ⊢
 have HM:=Lib.hid hmt
 clear hK hl hmt
 go_enter Tryz.func109, Tryz.ntmps109
 go_wp2_with fail
 go_loopw [5, 10] (fun v i wr=>∃ (q : Nat), q ≤ ks.length ∧ i = .int .i64 q ∧ Hid (OwnS wr w.heap.size v (l.take q)) ∧ Below w.heap.size w wr) (fun v i wr=>ks.length - (intOf i).toNat)
 case atStart=>exact ⟨0, Nat.zero_le _, rfl, OwnS.nil _ _, Below.refl _ _⟩
 case round =>
  obtain ⟨q, hq, rfl, hG, hb⟩:=hrel
  have hsz:=hb.size
  by_cases hlt : q < ks.length
  ·obtain ⟨ad, t1, b1, A1, n1, c1, rfl, hp, f0, f1, f2, hL⟩:=HK.out.kid5 hb hlt
   have hb1:=hb.alloc hsz (.cells #[.int .u8 (t1 : Nat), .string b1, .slice A1 n1 c1] 53)
   have HC:=Lib.hid (body_any ks[q] t1 b1 A1 n1 c1 _ (hL.past ((Below.refl _ _).alloc (Nat.le_refl _) (.cells #[.int .u8 (t1 : Nat), .string b1, .slice A1 n1 c1] 53))))
   have HG:=Lib.hid (hG.out.alloc (.cells #[.int .u8 (t1 : Nat), .string b1, .slice A1 n1 c1] 53))
   have hmt:=Lib.hid (HM.out.2 q hlt)
   have hll:=HM.out.1
   generalize bodyE ks[q] = s at HC hmt
   clear hL hG hb
   go_wp2_with fail
   refine HC.out.mono ?_
   rintro e w1 ⟨rfl, hb2⟩
   have hb3:=hb1.trans (hb2.mono hb1.size)
   have hz:=hb3.size
   have HB:=Lib.hid (Blk.new w1 9 #[.string s])
   have HG1:=Lib.hid ((HG.out.past hb2).alloc (.cells #[.string s] 9))
   have hz2 : w.heap.size ≤ (w1.alloc (.cells #[.string s] 9)).heap.size:=by simp; omega
   have hdl : (l.take q).length ≤ 1099511627776:=by rw [List.length_take]; omega
   clear hb1 hb2 hll
   go_wp2_with (at_builtin; go_loud (refine wpList_pushW rfl _ _ rfl w.heap.size _ _ rfl HG1.out w1.heap.size s rfl HB.out hdl hz2 ?_))
   intro v' w2 hG2 hb4
   rw [← hmt.out] at hG2
   have HG2:=Lib.hid hG2
   have hb5:=(hb3.alloc hz (.cells #[.string s] 9)).trans hb4
   clear hG2
   go_wp2_with fail
   refine ⟨⟨q + 1, by omega, by go_num, HG2, hb5⟩, by simp [intOf]; omega⟩
  ·have hq2 : q = ks.length:=by omega
   subst hq2
   have hG1:=hG.out
   rw [List.take_of_length_le (by rw [HM.out.1]; omega)] at hG1
   have HG1:=Lib.hid hG1
   clear hG hG1
   go_wp2_with fail
   go_ret
   exact NewS.of hb HG1.out
set_option maxHeartbeats 4000000 in
theorem readMod_any (e : Be.El) (t : Nat) (b : ByteArray) (A : Option Addr) (n c : Nat) (w : World) (hfew : Few e) (hL : Be.Lies w (· < w.heap.size) e [.int .u8 (t : Nat), .string b, .slice A n c]) :
  Calls Tryz.prog 74 #[.agg #[.int .u8 (t : Nat), .string b, .slice A n c]] w (NewMo w (rdMod e)):=by
 have hf2:=hfew.kid 2
 have hz:=few_bodies hf2
 have hl2:=hf2.len
 have ht:=hfew.text 1
 have F0:=Fx.new w 53 #[.int .u8 (t : Nat), .string b, .slice A n c] #[.int .i64 0, .string ⟨#[]⟩, .slice none 0 0] 44
 go_enter Tryz.func74, Tryz.ntmps74
 go_wp2_with fail
 refine wp_region_noPanic ?_
 refine wp_region_held_drew (S:=Fx w w.heap.size 53 #[.int .u8 (t : Nat), .string b, .slice A n c] (w.heap.size + 1) 44 3) (by kernel_rfl) F0.drew (fun hH0=>?_)
 refine Rg.tk 0 3 (.agg #[.int .u8 (t : Nat), .string b, .slice A n c]) rfl (by kernel_rfl) (fun _ _ _ h=>h) (fun w' h=>run_loadRow rfl rfl h.1 Tryz.underlying53 rfl infoE3) hH0 ?_
 refine Rg.tk 2 5 (.agg #[.int .u8 (t : Nat), .string b, .slice A n c]) rfl (by kernel_rfl) (fun _ _ _ h=>h) (fun w' h=>run_loadRow rfl rfl h.1 Tryz.underlying53 rfl infoE3) hH0 ?_
 refine Rg.tk 4 7 (.agg #[.int .u8 (t : Nat), .string b, .slice A n c]) rfl (by kernel_rfl) (fun _ _ _ h=>h) (fun w' h=>run_loadRow rfl rfl h.1 Tryz.underlying53 rfl infoE3) hH0 ?_
 refine Rg.frame _ (by simp only [Rg.pu, List.set]; rfl) ?_
 refine Rg.cl 1 4 rfl (by kernel_rfl) 68 #[.agg #[.int .u8 (t : Nat), .string b, .slice A n c], .int .i64 0] (by kernel_rfl) (numberAt_any e 0 t b A n c _ (hL.past hH0.2.2)) ?_
 rintro _ w1 ⟨rfl, hb1⟩
 have hH1:=hH0.past hb1
 refine ⟨_, rfl, hH1, ?_⟩
 refine Rg.cl 3 6 rfl (by kernel_rfl) 105 #[.agg #[.int .u8 (t : Nat), .string b, .slice A n c], .int .i64 1] (by kernel_rfl) (textAt_any e 1 t b A n c _ (hL.past hH1.2.2)) ?_
 rintro _ w2 ⟨rfl, hb2⟩
 have hH2:=hH1.past hb2
 refine ⟨_, rfl, hH2, ?_⟩
 refine Rg.cl 5 8 rfl (by kernel_rfl) 73 #[.agg #[.int .u8 (t : Nat), .string b, .slice A n c], .int .i64 2] (by kernel_rfl) (kid_any e 2 t b A n c _ (hL.past hH2.2.2)) ?_
 rintro _ w3 ⟨t1, b1, A1, n1, c1, rfl, hb3, hL1⟩
 have hH3:=hH2.past hb3
 refine ⟨_, rfl, hH3, ?_⟩
 refine Rg.frame _ (by simp only [Rg.pu, List.set]; rfl) ?_
 obtain ⟨rfl, -, -, -, dk, hK⟩:=kids_of (hL1.past hb3)
 refine Rg.tk 6 9 (.slice A1 (kidsE (kidE e 2)).length c1) rfl (by kernel_rfl) (fun _ _ _ h=>h) (fun _ _=>by kernel_rfl) hH3 ?_
 refine Rg.cl 7 10 rfl (by kernel_rfl) 109 #[.slice A1 (kidsE (kidE e 2)).length c1, .func (.func 110) #[] #[]] (by kernel_rfl) (eachB_any (kidsE (kidE e 2)) A1 c1 dk _ hl2 hK) ?_
 rintro _ w4 ⟨V, vc, rfl, hb4, hV⟩
 have hH4:=hH3.past hb4
 refine ⟨_, rfl, hH4, ?_⟩
 refine Rg.tk 8 11 (.agg #[.int .i64 (numAt e 0), .string (textAt e 1), .slice V ((kidsE (kidE e 2)).map bodyE).length vc]) rfl (by kernel_rfl) (fun _ _ _ h=>h) (fun _ _=>by kernel_rfl) hH4 ?_
 refine Rg.frame _ (by simp only [Rg.pu, List.set]; rfl) ?_
 have hH5:=hH4.row (by omega) (by omega) #[.int .i64 (numAt e 0), .string (textAt e 1), .slice V ((kidsE (kidE e 2)).map bodyE).length vc] rfl
 refine Rg.sk 9 _ rfl (by kernel_rfl) (run_storeRow (ds:=#[.int .i64 (numAt e 0), .string (textAt e 1), .slice V ((kidsE (kidE e 2)).map bodyE).length vc]) hH4 rfl infoO3 (by simp [Value.oneCell']) rfl rfl rfl) hH5 ?_
 refine wpAnyH_done (by kernel_rfl) ?_ _
 refine NoPanic.normal ?_
 go_wp2_with fail
 obtain ⟨_, ⟨ds, _, hB2⟩, _⟩:=hH4
 have hlt:=hH3.lt
 have hU2:=own_more (own_set hV hlt #[.int .i64 (numAt e 0), .string (textAt e 1), .slice V ((kidsE (kidE e 2)).map bodyE).length vc]) (base':=w.heap.size) hH3.2.2.size
 exact bodyPost_ret (results_cell_row rfl _ _ (w.heap.size + 1) _ _ (0, 0) _ rfl (setRow_heap _ _ _ _ _ _ hB2) Tryz.underlying44 rfl infoO3) rfl ⟨_, _, _, rfl, hH5.2.2, _, rfl, hU2, by unfold maxLen; show (textAt e 1).size ≤ _; omega, hz.1, hz.2⟩
set_option maxHeartbeats 4000000 in
theorem eachR_any (ks : List Be.El) (A : Option Addr) (c : Nat) (ds : Nat → List Value) (w : World) (hlen : ks.length ≤ 10000) (hfk : ∀ k ∈ ks, Few k) (hK : Be.KidsAt w (· < w.heap.size) A ks ds) :
  Calls Tryz.prog 72 #[.slice A ks.length c, .func (.func 74) #[] #[]] w (NewM w (ks.map rdMod)):=by
 have HK:=Lib.hid hK
 have HFK:=Lib.hid hfk
 obtain ⟨l, hl⟩ : ∃ l, l = ks.map rdMod:=⟨_, rfl⟩
 have hmt:=map_take rdMod ks
 rw [← hl] at hmt ⊢
 have HM:=Lib.hid hmt
 clear hK hl hmt hfk
 go_enter Tryz.func72, Tryz.ntmps72
 go_wp2_with fail
 go_loopw [5, 10] (fun v i wr=>∃ (q : Nat) (xs : List Value), q ≤ ks.length ∧ i = .int .i64 q ∧ Hid (GathO wr w.heap.size v xs (l.take q)) ∧ Below w.heap.size w wr) (fun v i wr=>ks.length - (intOf i).toNat)
 case atStart=>exact ⟨0, [], Nat.zero_le _, rfl, GathO.nil _ _, Below.refl _ _⟩
 case round =>
  obtain ⟨q, xs, hq, rfl, hG, hb⟩:=hrel
  have hsz:=hb.size
  by_cases hlt : q < ks.length
  ·obtain ⟨ad, t1, b1, A1, n1, c1, rfl, hp, f0, f1, f2, hL⟩:=HK.out.kid5 hb hlt
   have hb1:=hb.alloc hsz (.cells #[.int .u8 (t1 : Nat), .string b1, .slice A1 n1 c1] 53)
   have HC:=Lib.hid (readMod_any ks[q] t1 b1 A1 n1 c1 _ (HFK.out _ (List.getElem_mem hlt)) (hL.past ((Below.refl _ _).alloc (Nat.le_refl _) (.cells #[.int .u8 (t1 : Nat), .string b1, .slice A1 n1 c1] 53))))
   have HG:=Lib.hid (hG.out.alloc (.cells #[.int .u8 (t1 : Nat), .string b1, .slice A1 n1 c1] 53))
   have hmt:=Lib.hid (HM.out.2 q hlt)
   have hll:=HM.out.1
   generalize rdMod ks[q] = d at HC hmt
   clear hL hG hb
   go_wp2_with fail
   refine HC.out.mono ?_
   rintro e w1 ⟨x, y, z, rfl, hb2, hM1⟩
   have hb3:=hb1.trans (hb2.mono hb1.size)
   have hz:=hb3.size
   have hzz:=hb1.size
   have hL2:=Lib.hid ((hM1.more hzz).past ((Below.refl _ _).alloc (Nat.le_refl _) (.cells #[x, y, z] 44)))
   have HB:=Lib.hid (Blk.new w1 44 #[x, y, z])
   have HG1:=Lib.hid ((HG.out.past hb2).alloc (.cells #[x, y, z] 44))
   have hz2 : w.heap.size ≤ (w1.alloc (.cells #[x, y, z] 44)).heap.size:=by simp; omega
   have hdl : (l.take q).length < 1000000:=by rw [List.length_take]; omega
   clear hb1 hb2 hll hM1 hzz
   go_wp2_with (at_builtin; go_loud (refine wpList_pushM rfl _ _ rfl w.heap.size _ _ _ rfl HG1.out w1.heap.size rfl HB.out hL2.out hdl hz2 ?_))
   intro v' w2 hG2 hb4
   rw [← hmt.out] at hG2
   have HG2:=Lib.hid hG2
   have hb5:=(hb3.alloc hz (.cells #[x, y, z] 44)).trans hb4
   clear hG2
   go_wp2_with fail
   refine ⟨⟨q + 1, _, by omega, by go_num, HG2, hb5⟩, by simp [intOf]; omega⟩
  ·have hq2 : q = ks.length:=by omega
   subst hq2
   have hG1:=hG.out
   rw [List.take_of_length_le (by rw [HM.out.1]; omega)] at hG1
   have HG1:=Lib.hid hG1
   clear hG hG1
   go_wp2_with fail
   go_ret
   exact NewM.of hb HG1.out
def NewGA (w : World) (c : Cg) (r : Ending) (w' : World) : Prop:=∃ cs : Array Value, r = .returned (.agg cs) ∧ Below w.heap.size w w' ∧ GAt w' (fun b=>w.heap.size ≤ b ∧ b < w'.heap.size) c cs
theorem rdn_len (e : Be.El) (i : Nat) : (rdnAt e i).length ≤ maxLen:=by
 unfold rdnAt
 cases h : Nm.rdn (Nm.bs (textAt e i)) with
 | none=>exact Nat.zero_le _
 | some r =>
  have h1 : Nm.isRdn r = true:=by
   unfold Nm.rdn at h
   cases h2 : Nm.avas (Nm.cuts 43 (Nm.bs (textAt e i))) with
   | none=>rw [h2] at h; cases h
   | some q =>
    rw [h2] at h
    simp only [Option.bind_some, Nm.ifRdn] at h
    split at h
    ·rename_i h3; injection h with h; rw [← h]; exact h3
    ·cases h
  unfold Nm.isRdn at h1
  simp only [Bool.and_eq_true, decide_eq_true_eq] at h1
  show r.length ≤ maxLen
  unfold maxLen
  omega
set_option maxHeartbeats 4000000 in
theorem readElement_any (e : Be.El) (t : Nat) (b : ByteArray) (A : Option Addr) (n c : Nat) (w : World) (hG : Cs.Glob w) (hfew : Few e) (hL : Be.Lies w (· < w.heap.size) e [.int .u8 (t : Nat), .string b, .slice A n c]) :
  Calls Tryz.prog 40 #[.agg #[.int .u8 (t : Nat), .string b, .slice A n c]] w (NewGA w (rdG e)):=by
 have hf6:=hfew.kid 6
 have hl6:=hf6.len
 have hk6:=hf6.kids
 have hrl:=rdn_len e 4
 have F0:=Fx.new w 53 #[.int .u8 (t : Nat), .string b, .slice A n c] zcs 28
 go_enter Tryz.func40, Tryz.ntmps40
 go_wp2_with fail
 refine wp_region_noPanic ?_
 refine wp_region_held_drew (S:=Fx w w.heap.size 53 #[.int .u8 (t : Nat), .string b, .slice A n c] (w.heap.size + 1) 28 13) (by kernel_rfl) F0.drew (fun hH0=>?_)
 refine Rg.tk 0 3 (.agg #[.int .u8 (t : Nat), .string b, .slice A n c]) rfl (by kernel_rfl) (fun _ _ _ h=>h) (fun w' h=>run_loadRow rfl rfl h.1 Tryz.underlying53 rfl infoE3) hH0 ?_
 refine Rg.tk 2 5 (.agg #[.int .u8 (t : Nat), .string b, .slice A n c]) rfl (by kernel_rfl) (fun _ _ _ h=>h) (fun w' h=>run_loadRow rfl rfl h.1 Tryz.underlying53 rfl infoE3) hH0 ?_
 refine Rg.tk 4 7 (.agg #[.int .u8 (t : Nat), .string b, .slice A n c]) rfl (by kernel_rfl) (fun _ _ _ h=>h) (fun w' h=>run_loadRow rfl rfl h.1 Tryz.underlying53 rfl infoE3) hH0 ?_
 refine Rg.frame _ (by simp only [Rg.pu, List.set]; rfl) ?_
 refine Rg.tk 6 9 (.agg #[.int .u8 (t : Nat), .string b, .slice A n c]) rfl (by kernel_rfl) (fun _ _ _ h=>h) (fun w' h=>run_loadRow rfl rfl h.1 Tryz.underlying53 rfl infoE3) hH0 ?_
 refine Rg.tk 8 11 (.agg #[.int .u8 (t : Nat), .string b, .slice A n c]) rfl (by kernel_rfl) (fun _ _ _ h=>h) (fun w' h=>run_loadRow rfl rfl h.1 Tryz.underlying53 rfl infoE3) hH0 ?_
 refine Rg.tk 10 13 (.agg #[.int .u8 (t : Nat), .string b, .slice A n c]) rfl (by kernel_rfl) (fun _ _ _ h=>h) (fun w' h=>run_loadRow rfl rfl h.1 Tryz.underlying53 rfl infoE3) hH0 ?_
 refine Rg.frame _ (by simp only [Rg.pu, List.set]; rfl) ?_
 refine Rg.tk 12 15 (.agg #[.int .u8 (t : Nat), .string b, .slice A n c]) rfl (by kernel_rfl) (fun _ _ _ h=>h) (fun w' h=>run_loadRow rfl rfl h.1 Tryz.underlying53 rfl infoE3) hH0 ?_
 refine Rg.cl 1 4 rfl (by kernel_rfl) 68 #[.agg #[.int .u8 (t : Nat), .string b, .slice A n c], .int .i64 0] (by kernel_rfl) (numberAt_any e 0 t b A n c _ (hL.past hH0.2.2)) ?_
 rintro _ w1 ⟨rfl, hb1⟩
 have hH1:=hH0.past hb1
 refine ⟨_, rfl, hH1, ?_⟩
 refine Rg.cl 3 6 rfl (by kernel_rfl) 69 #[.agg #[.int .u8 (t : Nat), .string b, .slice A n c], .int .i64 1] (by kernel_rfl) (csnAt_any e 1 t b A n c _ (hG.past hH1.2.2) hfew (hL.past hH1.2.2)) ?_
 rintro _ w2 ⟨rfl, hb2⟩
 have hH2:=hH1.past hb2
 refine ⟨_, rfl, hH2, ?_⟩
 refine Rg.frame _ (by simp only [Rg.pu, List.set]; rfl) ?_
 refine Rg.cl 5 8 rfl (by kernel_rfl) 69 #[.agg #[.int .u8 (t : Nat), .string b, .slice A n c], .int .i64 2] (by kernel_rfl) (csnAt_any e 2 t b A n c _ (hG.past hH2.2.2) hfew (hL.past hH2.2.2)) ?_
 rintro _ w3 ⟨rfl, hb3⟩
 have hH3:=hH2.past hb3
 refine ⟨_, rfl, hH3, ?_⟩
 refine Rg.cl 7 10 rfl (by kernel_rfl) 69 #[.agg #[.int .u8 (t : Nat), .string b, .slice A n c], .int .i64 3] (by kernel_rfl) (csnAt_any e 3 t b A n c _ (hG.past hH3.2.2) hfew (hL.past hH3.2.2)) ?_
 rintro _ w4 ⟨rfl, hb4⟩
 have hH4:=hH3.past hb4
 refine ⟨_, rfl, hH4, ?_⟩
 refine Rg.cl 9 12 rfl (by kernel_rfl) 70 #[.agg #[.int .u8 (t : Nat), .string b, .slice A n c], .int .i64 4] (by kernel_rfl) (rdnAt_any e 4 t b A n c _ hfew (hL.past hH4.2.2)) ?_
 rintro _ w5 ⟨R1, rc, rfl, hb5, hrc, hR1⟩
 have hH5:=hH4.past hb5
 refine ⟨_, rfl, hH5, ?_⟩
 refine Rg.frame _ (by simp only [Rg.pu, List.set]; rfl) ?_
 refine Rg.cl 11 14 rfl (by kernel_rfl) 71 #[.agg #[.int .u8 (t : Nat), .string b, .slice A n c], .int .i64 5] (by kernel_rfl) (flagAt_any e 5 t b A n c _ (hL.past hH5.2.2)) ?_
 rintro _ w6 ⟨rfl, hb6⟩
 have hH6:=hH5.past hb6
 refine ⟨_, rfl, hH6, ?_⟩
 refine Rg.cl 13 16 rfl (by kernel_rfl) 73 #[.agg #[.int .u8 (t : Nat), .string b, .slice A n c], .int .i64 6] (by kernel_rfl) (kid_any e 6 t b A n c _ (hL.past hH6.2.2)) ?_
 rintro _ w7 ⟨t1, b1, A1, n1, c1, rfl, hb7, hL1⟩
 have hH7:=hH6.past hb7
 refine ⟨_, rfl, hH7, ?_⟩
 obtain ⟨rfl, -, -, -, dk, hK⟩:=kids_of (hL1.past hb7)
 refine Rg.tk 14 17 (.slice A1 (kidsE (kidE e 6)).length c1) rfl (by kernel_rfl) (fun _ _ _ h=>h) (fun _ _=>by kernel_rfl) hH7 ?_
 refine Rg.frame _ (by simp only [Rg.pu, List.set]; rfl) ?_
 refine Rg.cl 15 18 rfl (by kernel_rfl) 72 #[.slice A1 (kidsE (kidE e 6)).length c1, .func (.func 74) #[] #[]] (by kernel_rfl) (eachR_any (kidsE (kidE e 6)) A1 c1 dk _ hl6 hk6 hK) ?_
 rintro _ w8 ⟨M1, mc, xs, rfl, hb8, hM⟩
 have hH8:=hH7.past hb8
 refine ⟨_, rfl, hH8, ?_⟩
 refine Rg.tk 16 19 (.agg (gcs (rdG e) R1 rc M1 mc)) rfl (by kernel_rfl) (fun _ _ _ h=>h) (fun _ _=>by kernel_rfl) hH8 ?_
 have hH9:=hH8.row (by omega) (by omega) (gcs (rdG e) R1 rc M1 mc) rfl
 refine Rg.sk 17 _ rfl (by kernel_rfl) (run_storeRow (ds:=gcs (rdG e) R1 rc M1 mc) hH8 rfl infoG (by simp [Value.oneCell']) rfl rfl rfl) hH9 ?_
 refine Rg.frame _ (by simp only [Rg.pu, List.set]; rfl) ?_
 refine wpAnyH_done (by kernel_rfl) ?_ _
 refine NoPanic.normal ?_
 go_wp2_with fail
 obtain ⟨_, ⟨ds, _, hB2⟩, _⟩:=hH8
 have hlt:=hH4.lt
 have hlt7:=hH7.lt
 have hz4:=hH4.2.2.size
 have hz7:=hH7.2.2.size
 obtain ⟨M2, mc2, dm, e2, hmc, hMo⟩:=(hM.set_ hlt7 (gcs (rdG e) R1 rc M1 mc)).shut
 injection e2 with e3 e4 e5
 subst e3 e5
 have h58:=(hb6.trans (hb7.mono hb6.size)).trans (hb8.mono (hb6.trans (hb7.mono hb6.size)).size)
 refine bodyPost_ret (results_cell_row rfl _ _ (w.heap.size + 1) _ _ (0, 0) _ rfl (setRow_heap _ _ _ _ _ _ hB2) Tryz.underlying28 rfl infoG) rfl ⟨_, rfl, hH9.2.2, R1, rc, M1, mc, dm, rfl, ⟨(hR1.imp (P':=fun b=>w.heap.size ≤ b ∧ b < (w8.setRow (w.heap.size + 1) (gcs (rdG e) R1 rc M1 mc)).heap.size) (fun b hb=>⟨by have:=hb.1; omega, by rw [setRow_size]; have:=h58.size; have:=hb.2; omega⟩) (fun p hp=>?_)), hrl, hrc⟩, hMo.imp (fun b hb=>⟨by have:=hb.1; omega, hb.2⟩) (fun _ _=>rfl), ?_, hmc⟩
 ·refine (cell_setRow_other _ _ _ _ ?_).trans (h58.cell hp.2)
  have:=hp.1
  omega
 ·show ((kidsE (kidE e 6)).map rdMod).length ≤ maxLen
  rw [List.length_map]
  unfold maxLen
  omega
end Go.Proofs.YtbdpkfgllnbheaaGreatDoor.Ch
