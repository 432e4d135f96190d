import Derived.Test.YtconghaebebncaaGreatDoorZR25
set_option linter.unusedVariables false
set_option maxRecDepth 100000
namespace Go.Proofs.YtconghaebebncaaGreatDoor.Ms
open Go.RowKit
theorem run_sub1 {P : Program} {ev : Operand → Value} {o : Oper} {x : Operand} {t : TypeId} {n : Int} {w : World} (ho : o.op = .binOp .sub t x (.const (.int .i64 1)) t) (hx : ev x = .int .i64 n) (hc : ev (.const (.int .i64 1)) = .int .i64 1) (h0 : -1000000 ≤ n) (h1 : n ≤ 1000000) :
  (execOp ev o).run P w = .ok (.value (.int .i64 (n - 1))) w:=by
 have hw : IntKind.i64.wrap (n - 1) = n - 1:=IntWalk.i64_in _ (by omega)
 unfold execOp
 simp [ho, hx, hc, eqGuard, binOp, go_sem, hw]
theorem kids_old {w : World} {B : Nat} {A : Option Addr} {ks : List Be.El} {ds : Nat → List Value} (h : Be.KidsAt w (fun b=>B ≤ b ∧ b < w.heap.size) A ks ds) : Be.KidsAt w (· < w.heap.size) A ks ds:=h.imp (fun _ h=>h.2) (fun _ _=>rfl)
theorem lies_old {w : World} {B : Nat} {e : Be.El} {cs : List Value} (h : Be.Lies w (fun b=>B ≤ b ∧ b < w.heap.size) e cs) : Be.Lies w (· < w.heap.size) e cs:=h.imp (fun _ h=>h.2) (fun _ _=>rfl)
set_option maxHeartbeats 4000000 in
theorem attr_any (o : Mo) (V : Option Addr) (vc : Nat) (w : World) (h : MoAt w (· < w.heap.size) o [.int .i64 o.kind, .string o.attr, .slice V o.vals.length vc]) (hok : okMo o) :
  Calls Tryz.prog 140 #[.agg #[.int .i64 o.kind, .string o.attr, .slice V o.vals.length vc]] w (NewEl w (attrEl o)):=by
 have hgo:=good_attr (d:=0) hok
 obtain ⟨_, _, q3, q4, q5⟩:=hok
 obtain ⟨V1, vc1, e, h2, h3, h4, h5, h6⟩:=h
 simp only [List.cons.injEq, Value.slice.injEq, true_and, and_true] at e
 obtain ⟨rfl, rfl⟩:=e
 obtain ⟨k, t, v⟩:=o
 simp only at h2 h3 h4 h5 h6 q3 q4 q5 ⊢
 have hgt:=good_texts (d:=0) (t:=49) (by decide) q4 q5
 have hgv : ∀ e ∈ v.map (txt 4), good 1 e:=fun e he=>by
  obtain ⟨s, hs', rfl⟩:=List.mem_map.1 he
  exact good_txt (by decide) (q5 s hs')
 have hml : (v.map (txt 4)).length ≤ 20:=by rw [List.length_map]; omega
 have hg2 : ∀ e ∈ [txt 4 t, lst 49 (v.map (txt 4))], good 2 e:=fun e he=>by
  simp only [List.mem_cons, List.not_mem_nil, or_false] at he
  rcases he with rfl | rfl
  ·exact good_txt (by decide) q3
  ·exact hgt.1
 have F0:=Fr.new w 48 #[.int .i64 k, .string t, .slice V v.length vc] (.int .u8 0) (.string ⟨#[]⟩) (.slice none 0 0)
 go_enter Tryz.func140, Tryz.ntmps140
 go_wp2_with fail
 refine wp_region_noPanic ?_
 refine wp_region_held_drew (S:=Fr w w.heap.size 48 #[.int .i64 k, .string t, .slice V v.length vc] (w.heap.size + 1)) (by kernel_rfl) F0.drew (fun hH0=>?_)
 refine Rg.tk 0 3 (.pointer (some ⟨w.heap.size, 1, none⟩)) rfl (by kernel_rfl) (fun _ _ _ h=>h) (fun _ _=>by kernel_rfl) hH0 ?_
 refine Rg.tk 1 4 (.string t) rfl (by kernel_rfl) (fun _ _ _ h=>h) (fun w' h=>run_cell rfl rfl (by kernel_rfl) (h.1.cell 1)) hH0 ?_
 refine Rg.tk 3 6 (.pointer (some ⟨w.heap.size, 2, none⟩)) rfl (by kernel_rfl) (fun _ _ _ h=>h) (fun _ _=>by kernel_rfl) hH0 ?_
 refine Rg.frame _ (by simp only [Rg.pu, List.set]; rfl) ?_
 refine Rg.tk 4 7 (.slice V v.length vc) rfl (by kernel_rfl) (fun _ _ _ h=>h) (fun w' h=>run_cell rfl rfl (by kernel_rfl) (h.1.cell 2)) hH0 ?_
 refine Rg.cl 2 5 rfl (by kernel_rfl) 133 #[.string t] (by kernel_rfl) (text_any t _ (by omega)) ?_
 rintro _ w1 ⟨rfl, hb1⟩
 have hH1:=hH0.past hb1
 refine ⟨_, rfl, hH1, ?_⟩
 refine Rg.cl 5 8 rfl (by kernel_rfl) 137 #[.slice V v.length vc, .func (.func 133) #[] #[]] (by kernel_rfl) (eachS_any V vc v _ (by omega) (fun s hs=>by have:=q5 s hs; omega) (h5.past hH1.2.2)) ?_
 rintro _ w2 ⟨A1, c1, ds1, rfl, hb2, hK1⟩
 have hH2:=hH1.past hb2
 refine ⟨_, rfl, hH2, ?_⟩
 refine Rg.frame _ (by simp only [Rg.pu, List.set]; rfl) ?_
 refine Rg.cl 6 9 rfl (by kernel_rfl) 103 #[.int .u8 49, .slice A1 (v.map (txt 4)).length c1] (by kernel_rfl) (list_any 49 (by decide) (v.map (txt 4)) 1 A1 c1 ds1 _ hml hgv (kids_old hK1)) ?_
 rintro _ w3 ⟨A2, c2, ds2, rfl, hb3, hK2⟩
 have hH3:=hH2.past hb3
 refine ⟨_, rfl, hH3, ?_⟩
 have hH4:=hH3.alloc (.cells #[.int .u8 4, .string t, .slice none 0 0, .int .u8 49, .string ⟨#[]⟩, .slice A2 (v.map (txt 4)).length c2] 57)
 refine Rg.rn 7 10 (.slice (some ⟨w3.heap.size, 0, none⟩) 2 2) (w3.alloc (.cells #[.int .u8 4, .string t, .slice none 0 0, .int .u8 49, .string ⟨#[]⟩, .slice A2 (v.map (txt 4)).length c2] 57)) rfl (by kernel_rfl) (by kernel_rfl) hH4 ?_
 have hKK:=kids_lit (w:=w3) [txt 4 t, lst 49 (v.map (txt 4))] [[.int .u8 4, .string t, .slice none 0 0], [.int .u8 49, .string ⟨#[]⟩, .slice A2 (v.map (txt 4)).length c2]] rfl (by simp) (fun i hi=>by
  match i, hi with
  | 0, _=>exact lies_leaf (by decide) (by omega)
  | 1, _=>exact Be.Lies.shut (by decide) (by decide) (by unfold maxLen; omega) (kids_old hK2))
 refine Rg.cl 8 11 rfl (by kernel_rfl) 73 #[.slice (some ⟨w3.heap.size, 0, none⟩) 2 2] (by kernel_rfl) (seq_any [txt 4 t, lst 49 (v.map (txt 4))] 2 _ 2 _ _ (by show 2 ≤ 20; omega) hg2 hKK) ?_
 rintro _ w5 ⟨A3, c3, ds3, rfl, hb5, hK3⟩
 have hH5:=hH4.past hb5
 refine ⟨_, rfl, hH5, ?_⟩
 refine Rg.frame _ (by simp only [Rg.pu, List.set]; rfl) ?_
 have hH6:=hH5.store (by omega) (by omega) (.int .u8 48) (.string ⟨#[]⟩) (.slice A3 2 c3)
 refine Rg.sk 9 _ rfl (by kernel_rfl) (run_storeE hH5 rfl rfl rfl) hH6 ?_
 refine wpAnyH_done (by kernel_rfl) ?_ _
 refine NoPanic.normal ?_
 go_wp2_with fail
 obtain ⟨_, ⟨x', y', z', hB2⟩, _⟩:=hH5
 refine bodyPost_ret (Be.res_el rfl _ _ (w.heap.size + 1) _ _ _ rfl (setRow_heap _ _ _ _ _ _ hB2)) rfl (NewLst.el (by decide) (by show 2 ≤ 20; omega) (new_row hH6.2.2 hK3 (fun b hb=>?_)))
 have h1:=hH4.2.2.size; have:=hH4.2.1; obtain ⟨_, _, _, hB4⟩:=this; have:=hB4.lt; exact ⟨by omega, by omega, hb.2⟩
theorem infoO3 : (Tryz.prog.info? 48).map (·.size) = some 3:=by kernel_rfl
theorem run_loadRow {P : Program} {ev : Operand → Value} {o : Oper} {x : Operand} {w : World} {g : Nat} {t ty : TypeId} {cs : Array Value} {d : TypeDesc} (ho : o.op = .load ty x) (hx : ev x = .pointer (some ⟨g, 0, none⟩)) (h : Blk w g t cs)
  (hu : P.underlying ty = some d) (hd : (match d with | .struct _ | .array _ _=>true | _=>false) = true) (hi : (P.info? ty).map (·.size) = some cs.size) : (execOp ev o).run P w = .ok (.value (.agg cs)) w:=by
 unfold execOp
 simp only [ho, hx, Instr.loadAt, Instr.sureAddr, Sem.run_bind, Sem.run_pure, Result.andThen_ok, run_loadVar_row w g t ty cs (0, 0) d h hu hd hi]
set_option maxHeartbeats 4000000 in
theorem mod_any (o : Mo) (V : Option Addr) (vc : Nat) (w : World) (h : MoAt w (· < w.heap.size) o [.int .i64 o.kind, .string o.attr, .slice V o.vals.length vc]) (hok : okMo o) :
  Calls Tryz.prog 139 #[.agg #[.int .i64 o.kind, .string o.attr, .slice V o.vals.length vc]] w (NewEl w (modEl o)):=by
 have hga:=good_attr (d:=0) hok
 have k1:=hok.1
 have k3:=hok.2.1
 have hg2 : ∀ e ∈ [num 10 (o.kind - 1), attrEl o], good 3 e:=fun e he=>by
  simp only [List.mem_cons, List.not_mem_nil, or_false] at he
  rcases he with rfl | rfl
  ·exact good_num (by decide) (by omega) (by omega)
  ·exact hga.1
 have F0:=Fr.new w 48 #[.int .i64 o.kind, .string o.attr, .slice V o.vals.length vc] (.int .u8 0) (.string ⟨#[]⟩) (.slice none 0 0)
 go_enter Tryz.func139, Tryz.ntmps139
 go_wp2_with fail
 refine wp_region_noPanic ?_
 refine wp_region_held_drew (S:=Fr w w.heap.size 48 #[.int .i64 o.kind, .string o.attr, .slice V o.vals.length vc] (w.heap.size + 1)) (by kernel_rfl) F0.drew (fun hH0=>?_)
 refine Rg.tk 0 3 (.pointer (some ⟨w.heap.size, 0, none⟩)) rfl (by kernel_rfl) (fun _ _ _ h=>h) (fun _ _=>by kernel_rfl) hH0 ?_
 refine Rg.tk 1 4 (.int .i64 o.kind) rfl (by kernel_rfl) (fun _ _ _ h=>h) (fun w' h=>run_cell rfl rfl (by kernel_rfl) (h.1.cell 0)) hH0 ?_
 refine Rg.tk 2 5 (.int .i64 (o.kind - 1)) rfl (by kernel_rfl) (fun _ _ _ h=>h) (fun w' h=>run_sub1 rfl rfl rfl (by omega) (by omega)) hH0 ?_
 refine Rg.frame _ (by simp only [Rg.pu, List.set]; rfl) ?_
 refine Rg.tk 4 7 (.agg #[.int .i64 o.kind, .string o.attr, .slice V o.vals.length vc]) rfl (by kernel_rfl) (fun _ _ _ h=>h) (fun w' h=>run_loadRow rfl rfl h.1 Tryz.underlying48 rfl infoO3) hH0 ?_
 refine Rg.cl 3 6 rfl (by kernel_rfl) 134 #[.int .i64 (o.kind - 1)] (by kernel_rfl) (enumerated_any (o.kind - 1) _ (by omega) (by omega)) ?_
 rintro _ w1 ⟨rfl, hb1⟩
 have hH1:=hH0.past hb1
 refine ⟨_, rfl, hH1, ?_⟩
 refine Rg.cl 5 8 rfl (by kernel_rfl) 140 #[.agg #[.int .i64 o.kind, .string o.attr, .slice V o.vals.length vc]] (by kernel_rfl) (attr_any o V vc _ (h.past hH1.2.2) hok) ?_
 rintro _ w2 ⟨t1, b1, A1, n1, c1, rfl, hb2, hL1⟩
 have hH2:=hH1.past hb2
 refine ⟨_, rfl, hH2, ?_⟩
 refine Rg.frame _ (by simp only [Rg.pu, List.set]; rfl) ?_
 have hH3:=hH2.alloc (.cells #[.int .u8 10, .string (strOfNums (Be.intB (o.kind - 1))), .slice none 0 0, .int .u8 (t1 : Nat), .string b1, .slice A1 n1 c1] 57)
 refine Rg.rn 6 9 (.slice (some ⟨w2.heap.size, 0, none⟩) 2 2) (w2.alloc (.cells #[.int .u8 10, .string (strOfNums (Be.intB (o.kind - 1))), .slice none 0 0, .int .u8 (t1 : Nat), .string b1, .slice A1 n1 c1] 57)) rfl (by kernel_rfl) (by kernel_rfl) hH3 ?_
 have hKK:=kids_lit (w:=w2) [num 10 (o.kind - 1), attrEl o] [[.int .u8 10, .string (strOfNums (Be.intB (o.kind - 1))), .slice none 0 0], [.int .u8 (t1 : Nat), .string b1, .slice A1 n1 c1]] rfl (by simp) (fun i hi=>by
  match i, hi with
  | 0, _=>exact lies_num (by decide) (by omega) (by omega)
  | 1, _=>exact lies_old hL1)
 refine Rg.cl 7 10 rfl (by kernel_rfl) 73 #[.slice (some ⟨w2.heap.size, 0, none⟩) 2 2] (by kernel_rfl) (seq_any [num 10 (o.kind - 1), attrEl o] 3 _ 2 _ _ (by show 2 ≤ 20; omega) hg2 hKK) ?_
 rintro _ w5 ⟨A3, c3, ds3, rfl, hb5, hK3⟩
 have hH4:=hH3.past hb5
 refine ⟨_, rfl, hH4, ?_⟩
 have hH5:=hH4.store (by omega) (by omega) (.int .u8 48) (.string ⟨#[]⟩) (.slice A3 2 c3)
 refine Rg.sk 8 _ rfl (by kernel_rfl) (run_storeE hH4 rfl rfl rfl) hH5 ?_
 refine Rg.frame _ (by simp only [Rg.pu, List.set]; rfl) ?_
 refine wpAnyH_done (by kernel_rfl) ?_ _
 refine NoPanic.normal ?_
 go_wp2_with fail
 obtain ⟨_, ⟨x', y', z', hB2⟩, _⟩:=hH4
 refine bodyPost_ret (Be.res_el rfl _ _ (w.heap.size + 1) _ _ _ rfl (setRow_heap _ _ _ _ _ _ hB2)) rfl (NewLst.el (by decide) (by show 2 ≤ 20; omega) (new_row hH5.2.2 hK3 (fun b hb=>?_)))
 have h1:=hH3.2.2.size; have:=hH3.2.1; obtain ⟨_, _, _, hB4⟩:=this; have:=hB4.lt; exact ⟨by omega, by omega, hb.2⟩
end Go.Proofs.YtconghaebebncaaGreatDoor.Ms
namespace Go.Proofs.YtconghaebebncaaGreatDoor.Ms
open Go.RowKit
set_option maxHeartbeats 2000000 in
theorem eachA_any (A : Option Addr) (c : Nat) (l : List Mo) (ds : Nat → List Value) (w : World) (hl : l.length ≤ 1000) (hok : ∀ d ∈ l, okMo d) (hM : MosAt w (· < w.heap.size) A l ds) :
  Calls Tryz.prog 138 #[.slice A l.length c, .func (.func 140) #[] #[]] w (NewKids w (l.map attrEl)):=by
 have HS:=Lib.hid hok
 obtain ⟨ks, hks⟩ : ∃ ks, ks = l.map attrEl:=⟨_, rfl⟩
 have hmt:=map_take attrEl l
 rw [← hks] at hmt ⊢
 have HM:=Lib.hid hmt
 clear hok hks hmt
 go_enter Tryz.func138, Tryz.ntmps138
 go_wp2_with fail
 go_loopw [5, 10] (fun v i wr=>∃ (q : Nat) (xs : List Value), q ≤ l.length ∧ i = .int .i64 q ∧ Hid (Be.Gath wr w.heap.size v xs (ks.take q)) ∧ Below w.heap.size w wr) (fun v i wr=>l.length - (intOf i).toNat)
 case atStart=>exact ⟨0, [], Nat.zero_le _, rfl, Be.Gath.nil _ _, Below.refl _ _⟩
 case round =>
  obtain ⟨q, xs, hq, rfl, hG, hb⟩:=hrel
  have hsz:=hb.size
  by_cases hlt : q < l.length
  ·obtain ⟨ad, V, vc, rfl, hp, f0, f1, f2, hL⟩:=hM.kid hb hlt
   have hsq:=HS.out _ (List.getElem_mem hlt)
   have hdl:=take_len HM.out.1 hq hl
   have hmt:=Lib.hid (HM.out.2 q hlt)
   generalize l[q] = d at f0 f1 f2 hL hsq hmt
   have C:=Lib.hid (attr_any d V vc _ (hL.past ((Below.refl _ _).alloc (Nat.le_refl _) (.cells #[.int .i64 d.kind, .string d.attr, .slice V d.vals.length vc] 48))) hsq)
   have hbM:=hb.alloc hsz (.cells #[.int .i64 d.kind, .string d.attr, .slice V d.vals.length vc] 48)
   have hszM:=hbM.size
   have HGM:=Lib.hid (hG.out.alloc (.cells #[.int .i64 d.kind, .string d.attr, .slice V d.vals.length vc] 48))
   clear hL hsq
   go_wp2_with fail
   refine C.out.mono ?_
   rintro e w1 ⟨t1, b1, A1, n1, c1, rfl, hb1, hL1⟩
   have hL2:=fresh_own HGM.out hszM hL1 (fun _ h=>h)
   have hbA:=(Below.refl w1.heap.size w1).alloc (Nat.le_refl _) (.cells #[.int .u8 (t1 : Nat), .string b1, .slice A1 n1 c1] 57)
   have HL:=Lib.hid (hL2.imp (fun b hb'=>(⟨hb'.1, Nat.lt_of_lt_of_le hb'.2.1 hbA.size, hb'.2.2⟩ : w.heap.size ≤ b ∧ b < (w1.alloc (.cells #[.int .u8 (t1 : Nat), .string b1, .slice A1 n1 c1] 57)).heap.size ∧ _)) (fun p hp=>hbA.cell hp.2.1))
   have HB:=Lib.hid (Blk.new w1 57 #[.int .u8 (t1 : Nat), .string b1, .slice A1 n1 c1])
   have HG1:=Lib.hid ((HGM.out.past hb1).alloc (.cells #[.int .u8 (t1 : Nat), .string b1, .slice A1 n1 c1] 57))
   have hbw:=hbM.trans (hb1.mono hszM)
   have hz:=hbw.size
   have hz2 : w.heap.size ≤ (w1.alloc (.cells #[.int .u8 (t1 : Nat), .string b1, .slice A1 n1 c1] 57)).heap.size:=by simp; omega
   clear hG hb hb1 hL1 hL2 hbA hbM
   go_wp2_with (at_builtin; go_loud (refine wpList_pushE rfl _ _ rfl w.heap.size _ _ _ rfl HG1.out w1.heap.size rfl HB.out one3 HL.out hdl hz2 ?_))
   intro v' w2 hG2 hb2
   rw [← hmt.out] at hG2
   have HG2:=Lib.hid hG2
   have hb3:=(hbw.alloc hz (.cells #[.int .u8 (t1 : Nat), .string b1, .slice A1 n1 c1] 57)).trans hb2
   clear hG2
   go_wp2_with fail
   refine ⟨⟨q + 1, _, by omega, by go_num, HG2, hb3⟩, by simp [intOf]; omega⟩
  ·have hq2 : q = l.length:=by omega
   subst hq2
   have HE:=Lib.hid (Gath_tell HM.out.1 hb hG.out)
   clear hG
   go_wp2_with fail
   go_ret
   exact HE.out
set_option maxHeartbeats 2000000 in
theorem eachM_any (A : Option Addr) (c : Nat) (l : List Mo) (ds : Nat → List Value) (w : World) (hl : l.length ≤ 1000) (hok : ∀ d ∈ l, okMo d) (hM : MosAt w (· < w.heap.size) A l ds) :
  Calls Tryz.prog 138 #[.slice A l.length c, .func (.func 139) #[] #[]] w (NewKids w (l.map modEl)):=by
 have HS:=Lib.hid hok
 obtain ⟨ks, hks⟩ : ∃ ks, ks = l.map modEl:=⟨_, rfl⟩
 have hmt:=map_take modEl l
 rw [← hks] at hmt ⊢
 have HM:=Lib.hid hmt
 clear hok hks hmt
 go_enter Tryz.func138, Tryz.ntmps138
 go_wp2_with fail
 go_loopw [5, 10] (fun v i wr=>∃ (q : Nat) (xs : List Value), q ≤ l.length ∧ i = .int .i64 q ∧ Hid (Be.Gath wr w.heap.size v xs (ks.take q)) ∧ Below w.heap.size w wr) (fun v i wr=>l.length - (intOf i).toNat)
 case atStart=>exact ⟨0, [], Nat.zero_le _, rfl, Be.Gath.nil _ _, Below.refl _ _⟩
 case round =>
  obtain ⟨q, xs, hq, rfl, hG, hb⟩:=hrel
  have hsz:=hb.size
  by_cases hlt : q < l.length
  ·obtain ⟨ad, V, vc, rfl, hp, f0, f1, f2, hL⟩:=hM.kid hb hlt
   have hsq:=HS.out _ (List.getElem_mem hlt)
   have hdl:=take_len HM.out.1 hq hl
   have hmt:=Lib.hid (HM.out.2 q hlt)
   generalize l[q] = d at f0 f1 f2 hL hsq hmt
   have C:=Lib.hid (mod_any d V vc _ (hL.past ((Below.refl _ _).alloc (Nat.le_refl _) (.cells #[.int .i64 d.kind, .string d.attr, .slice V d.vals.length vc] 48))) hsq)
   have hbM:=hb.alloc hsz (.cells #[.int .i64 d.kind, .string d.attr, .slice V d.vals.length vc] 48)
   have hszM:=hbM.size
   have HGM:=Lib.hid (hG.out.alloc (.cells #[.int .i64 d.kind, .string d.attr, .slice V d.vals.length vc] 48))
   clear hL hsq
   go_wp2_with fail
   refine C.out.mono ?_
   rintro e w1 ⟨t1, b1, A1, n1, c1, rfl, hb1, hL1⟩
   have hL2:=fresh_own HGM.out hszM hL1 (fun _ h=>h)
   have hbA:=(Below.refl w1.heap.size w1).alloc (Nat.le_refl _) (.cells #[.int .u8 (t1 : Nat), .string b1, .slice A1 n1 c1] 57)
   have HL:=Lib.hid (hL2.imp (fun b hb'=>(⟨hb'.1, Nat.lt_of_lt_of_le hb'.2.1 hbA.size, hb'.2.2⟩ : w.heap.size ≤ b ∧ b < (w1.alloc (.cells #[.int .u8 (t1 : Nat), .string b1, .slice A1 n1 c1] 57)).heap.size ∧ _)) (fun p hp=>hbA.cell hp.2.1))
   have HB:=Lib.hid (Blk.new w1 57 #[.int .u8 (t1 : Nat), .string b1, .slice A1 n1 c1])
   have HG1:=Lib.hid ((HGM.out.past hb1).alloc (.cells #[.int .u8 (t1 : Nat), .string b1, .slice A1 n1 c1] 57))
   have hbw:=hbM.trans (hb1.mono hszM)
   have hz:=hbw.size
   have hz2 : w.heap.size ≤ (w1.alloc (.cells #[.int .u8 (t1 : Nat), .string b1, .slice A1 n1 c1] 57)).heap.size:=by simp; omega
   clear hG hb hb1 hL1 hL2 hbA hbM
   go_wp2_with (at_builtin; go_loud (refine wpList_pushE rfl _ _ rfl w.heap.size _ _ _ rfl HG1.out w1.heap.size rfl HB.out one3 HL.out hdl hz2 ?_))
   intro v' w2 hG2 hb2
   rw [← hmt.out] at hG2
   have HG2:=Lib.hid hG2
   have hb3:=(hbw.alloc hz (.cells #[.int .u8 (t1 : Nat), .string b1, .slice A1 n1 c1] 57)).trans hb2
   clear hG2
   go_wp2_with fail
   refine ⟨⟨q + 1, _, by omega, by go_num, HG2, hb3⟩, by simp [intOf]; omega⟩
  ·have hq2 : q = l.length:=by omega
   subst hq2
   have HE:=Lib.hid (Gath_tell HM.out.1 hb hG.out)
   clear hG
   go_wp2_with fail
   go_ret
   exact HE.out
end Go.Proofs.YtconghaebebncaaGreatDoor.Ms
