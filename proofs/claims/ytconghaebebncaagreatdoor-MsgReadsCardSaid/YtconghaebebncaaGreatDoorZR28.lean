import Derived.Test.YtconghaebebncaaGreatDoorZR27
set_option linter.unusedVariables false
set_option maxRecDepth 100000
namespace Go.Proofs.YtconghaebebncaaGreatDoor.Ms
open Go.RowKit
def Kids' (w : World) (ks : List Be.El) (r : Ending) (w' : World) : Prop :=
 ∃ (A : Option Addr) (c : Nat) (ds : Nat → List Value), r = .returned (.slice A ks.length c) ∧ Below w.heap.size w w' ∧ Be.KidsAt w' (· < w'.heap.size) A ks ds
theorem kids'_mk {w w' : World} {ks : List Be.El} {A : Option Addr} {n c : Nat} {ds : Nat → List Value} (hn : n = ks.length) (hb : Below w.heap.size w w') (hK : Be.KidsAt w' (· < w'.heap.size) A ks ds) : Kids' w ks (.returned (.slice A n c)) w':=by
 subst hn
 exact ⟨A, c, ds, rfl, hb, hK⟩
def Fp (w0 : World) (m : Mg) (cs : Array Value) (g2 : Nat) (w : World) : Prop:=Box w w0.heap.size m cs ∧ Blk w g2 57 #[.int .u8 4, .string m.dn, .slice none 0 0] ∧ Below w0.heap.size w0 w
theorem Fp.past {w0 w w' : World} {m : Mg} {cs : Array Value} {g2 : Nat} (h : Fp w0 m cs g2 w) (hb : Below w.heap.size w w') : Fp w0 m cs g2 w':=⟨h.1.past hb, h.2.1.past hb, h.2.2.trans (hb.mono h.2.2.size)⟩
theorem Fp.drew {w0 w : World} {m : Mg} {cs : Array Value} {g2 : Nat} (h : Fp w0 m cs g2 w) : Fp w0 m cs g2 w.drew:=h.past (Below.refl _ _).drew
theorem Fp.alloc {w0 w : World} {m : Mg} {cs : Array Value} {g2 : Nat} (h : Fp w0 m cs g2 w) (o : Obj) : Fp w0 m cs g2 (w.alloc o):=h.past ((Below.refl _ _).alloc (Nat.le_refl _) o)
theorem Fp.new {w w1 : World} {m : Mg} {cs : Array Value} (h : MAt w (· < w.heap.size) m cs) (hb : Below (w.alloc (.cells cs 28)).heap.size (w.alloc (.cells cs 28)) w1) :
  Fp w m cs w1.heap.size (w1.alloc (.cells #[.int .u8 4, .string m.dn, .slice none 0 0] 57)):=by
 have b0:=(Below.refl w.heap.size w).alloc (Nat.le_refl _) (.cells cs 28)
 have b1:=b0.trans (hb.mono b0.size)
 exact ⟨((Box.new h).past hb).past ((Below.refl _ _).alloc (Nat.le_refl _) _), Blk.new _ _ _, b1.alloc b1.size _⟩
theorem Fp.lt {w0 w : World} {m : Mg} {cs : Array Value} {g2 : Nat} (h : Fp w0 m cs g2 w) : Glob w0 → Glob w:=fun hG=>hG.past h.2.2
set_option maxHeartbeats 4000000 in
theorem parts_1 (m : Mg) (cs : Array Value) (w : World) (hM : isM m = true) (hop : m.op = 1) (hG : Glob w) (h : MAt w (· < w.heap.size) m cs) :
  Calls Tryz.prog 107 #[.agg cs] w (Kids' w (parts m)):=by
 obtain ⟨i0, i1, _, hf, t1, t2, t3, t4, t5, t6, t7⟩:=isM_open hM
 have hpar : parts m = [num 2 m.ver, txt 4 m.dn, txt 128 m.pass]:=by unfold parts; rw [if_pos hop]
 have hgp:=(parts_good hM).1
 rw [hpar] at hgp ⊢
 clear hpar
 have B:=Box.new h
 have c3:=(B.1.cell 3).trans h.g3
 have hv:=formed_bind hop hf
 have c1 : (w.alloc (.cells cs 28)).cell? ⟨w.heap.size, 1, none⟩ = some (.int .i64 1):=by rw [(B.1.cell 1).trans h.g1, hop]
 clear B
 go_enter Tryz.func107, Tryz.ntmps107
 go_wp2_with fail
 refine (text_any m.dn _ (by omega)).mono ?_
 rintro e w1 ⟨rfl, hb1⟩
 have F0:=Fp.new h hb1
 have d1 : (w1.alloc (.cells #[.int .u8 4, .string m.dn, .slice none 0 0] 57)).cell? ⟨w.heap.size, 1, none⟩ = some (.int .i64 1):=by rw [(F0.1.1.cell 1).trans h.g1, hop]
 clear c1 c3
 go_wp2_with fail
 refine wp_region_noPanic ?_
 refine wp_region_held_drew (S:=Fp w m cs w1.heap.size) (by kernel_rfl) F0.drew (fun hH0=>?_)
 refine Rg.tk 0 12 (.pointer (some ⟨w.heap.size, 4, none⟩)) rfl (by kernel_rfl) (fun _ _ _ h=>h) (fun _ _=>by kernel_rfl) hH0 ?_
 refine Rg.tk 1 13 (.int .i64 m.ver) rfl (by kernel_rfl) (fun _ _ _ h=>h) (fun w' h'=>run_cell rfl rfl (by kernel_rfl) ((h'.1.1.cell 4).trans h.g4)) hH0 ?_
 refine Rg.tk 3 15 (.agg #[.int .u8 4, .string m.dn, .slice none 0 0]) rfl (by kernel_rfl) (fun _ _ _ h=>h) (fun w' h'=>run_loadRow rfl rfl h'.2.1 Tryz.underlying57 rfl infoE3) hH0 ?_
 refine Rg.tk 4 16 (.pointer (some ⟨w.heap.size, 5, none⟩)) rfl (by kernel_rfl) (fun _ _ _ h=>h) (fun _ _=>by kernel_rfl) hH0 ?_
 refine Rg.tk 5 17 (.string m.pass) rfl (by kernel_rfl) (fun _ _ _ h=>h) (fun w' h'=>run_cell rfl rfl (by kernel_rfl) ((h'.1.1.cell 5).trans h.g5)) hH0 ?_
 refine Rg.frame _ (by simp only [Rg.pu, List.set]; rfl) ?_
 refine Rg.cl 2 14 rfl (by kernel_rfl) 74 #[.int .i64 m.ver] (by kernel_rfl) (integer_any m.ver _ (by omega) (by omega)) ?_
 rintro _ w2 ⟨rfl, hbw2⟩
 have hH1:=hH0.past hbw2
 refine ⟨_, rfl, hH1, ?_⟩
 refine Rg.cl 6 18 rfl (by kernel_rfl) 106 #[.int .u8 128, .string m.pass] (by kernel_rfl) (Be.Text_any 128 m.pass _ (by omega)) ?_
 rintro _ w3 ⟨rfl, hbw3⟩
 have hH2:=hH1.past hbw3
 refine ⟨_, rfl, hH2, ?_⟩
 have hH3:=hH2.alloc (.cells #[.int .u8 2, .string (strOfNums (Be.intB m.ver)), .slice none 0 0, .int .u8 4, .string m.dn, .slice none 0 0, .int .u8 128, .string m.pass, .slice none 0 0] 57)
 refine Rg.rn 7 19 (.slice (some ⟨w3.heap.size, 0, none⟩) 3 3) (w3.alloc (.cells #[.int .u8 2, .string (strOfNums (Be.intB m.ver)), .slice none 0 0, .int .u8 4, .string m.dn, .slice none 0 0, .int .u8 128, .string m.pass, .slice none 0 0] 57)) rfl (by kernel_rfl) (by kernel_rfl) hH3 ?_
 have hKK:=kids_lit (w:=w3) [num 2 m.ver, txt 4 m.dn, txt 128 m.pass] [[.int .u8 2, .string (strOfNums (Be.intB m.ver)), .slice none 0 0], [.int .u8 4, .string m.dn, .slice none 0 0], [.int .u8 128, .string m.pass, .slice none 0 0]] rfl (by simp) (fun i hi=>by
  match i, hi with
  | 0, _=>exact lies_num (by decide) (by omega) (by omega)
  | 1, _=>exact lies_leaf (by decide) (by omega)
  | 2, _=>exact lies_leaf (by decide) (by omega))
 refine Rg.idleP [8] [(2, .slice (some ⟨w3.heap.size, 0, none⟩) 3 3)] 0 (by kernel_rfl) (fun _ _ _ _ _ h=>h) (by kernel_rfl) (by kernel_rfl) hH3 ?_
 refine Rg.frame _ (by simp only [Rg.puts, Rg.pu, List.set]; rfl) ?_
 refine wpAnyH_done (by kernel_rfl) ?_ _
 refine NoPanic.normal ?_
 go_wp2_with fail
 go_ret
 exact kids'_mk (by rfl) hH3.2.2 hKK
set_option maxHeartbeats 4000000 in
theorem parts_3 (m : Mg) (cs : Array Value) (w : World) (hM : isM m = true) (hop : m.op = 3) (hG : Glob w) (h : MAt w (· < w.heap.size) m cs) :
  Calls Tryz.prog 107 #[.agg cs] w (Kids' w (parts m)):=by
 obtain ⟨i0, i1, _, hf, t1, t2, t3, t4, t5, t6, t7⟩:=isM_open hM
 have hpar : parts m = [txt 4 m.dn, num 10 m.scope, num 10 0, num 2 m.size, num 2 0, flg false, filEl m.fil, lst 48 (m.wants.map (txt 4))]:=by unfold parts; rw [if_neg (by omega), if_pos hop]
 have hgp:=(parts_good hM).1
 rw [hpar] at hgp ⊢
 clear hpar
 have B:=Box.new h
 have c3:=(B.1.cell 3).trans h.g3
 obtain ⟨q1, q2, q3, q4, q5⟩:=formed_search hop hf
 obtain ⟨q6, q7⟩:=fil_open q3
 obtain ⟨x0, x1, x2, x3, x4, fx0, fx1, fx2, fx3, fx4, hF⟩:=h.gF
 obtain ⟨W, wc, eW, hW, lW, _, _⟩:=h.gW
 have hgw : ∀ e ∈ m.wants.map (txt 4), good 1 e:=fun e he=>by
  obtain ⟨s, hs', rfl⟩:=List.mem_map.1 he
  exact good_txt (by decide) (q5 s hs')
 have c1 : (w.alloc (.cells cs 28)).cell? ⟨w.heap.size, 1, none⟩ = some (.int .i64 3):=by rw [(B.1.cell 1).trans h.g1, hop]
 clear B
 go_enter Tryz.func107, Tryz.ntmps107
 go_wp2_with fail
 refine (text_any m.dn _ (by omega)).mono ?_
 rintro e w1 ⟨rfl, hb1⟩
 have F0:=Fp.new h hb1
 have d1 : (w1.alloc (.cells #[.int .u8 4, .string m.dn, .slice none 0 0] 57)).cell? ⟨w.heap.size, 1, none⟩ = some (.int .i64 3):=by rw [(F0.1.1.cell 1).trans h.g1, hop]
 clear c1 c3
 go_wp2_with fail
 refine wp_region_noPanic ?_
 refine wp_region_held_drew (S:=Fp w m cs w1.heap.size) (by kernel_rfl) F0.drew (fun hH0=>?_)
 refine Rg.tk 0 22 (.agg #[.int .u8 4, .string m.dn, .slice none 0 0]) rfl (by kernel_rfl) (fun _ _ _ h=>h) (fun w' h'=>run_loadRow rfl rfl h'.2.1 Tryz.underlying57 rfl infoE3) hH0 ?_
 refine Rg.tk 1 23 (.pointer (some ⟨w.heap.size, 6, none⟩)) rfl (by kernel_rfl) (fun _ _ _ h=>h) (fun _ _=>by kernel_rfl) hH0 ?_
 refine Rg.tk 2 24 (.int .i64 m.scope) rfl (by kernel_rfl) (fun _ _ _ h=>h) (fun w' h'=>run_cell rfl rfl (by kernel_rfl) ((h'.1.1.cell 6).trans h.g6)) hH0 ?_
 refine Rg.tk 5 27 (.pointer (some ⟨w.heap.size, 7, none⟩)) rfl (by kernel_rfl) (fun _ _ _ h=>h) (fun _ _=>by kernel_rfl) hH0 ?_
 refine Rg.tk 6 28 (.int .i64 m.size) rfl (by kernel_rfl) (fun _ _ _ h=>h) (fun w' h'=>run_cell rfl rfl (by kernel_rfl) ((h'.1.1.cell 7).trans h.g7)) hH0 ?_
 refine Rg.frame _ (by simp only [Rg.pu, List.set]; rfl) ?_
 refine Rg.tk 10 32 (.pointer (some ⟨w.heap.size, 8, none⟩)) rfl (by kernel_rfl) (fun _ _ _ h=>h) (fun _ _=>by kernel_rfl) hH0 ?_
 refine Rg.tk 11 33 (.agg #[x0, x1, x2, x3, x4]) rfl (by kernel_rfl) (fun _ _ _ h=>h) (fun w' h'=>run_loadF rfl rfl ((h'.1.1.cell 8).trans fx0) ((h'.1.1.cell 9).trans fx1) ((h'.1.1.cell 10).trans fx2) ((h'.1.1.cell 11).trans fx3) ((h'.1.1.cell 12).trans fx4)) hH0 ?_
 refine Rg.tk 13 35 (.pointer (some ⟨w.heap.size, 13, none⟩)) rfl (by kernel_rfl) (fun _ _ _ h=>h) (fun _ _=>by kernel_rfl) hH0 ?_
 refine Rg.tk 14 36 (.slice W m.wants.length wc) rfl (by kernel_rfl) (fun _ _ _ h=>h) (fun w' h'=>run_cell rfl rfl (by kernel_rfl) ((h'.1.1.cell 13).trans eW)) hH0 ?_
 refine Rg.cl 3 25 rfl (by kernel_rfl) 134 #[.int .i64 m.scope] (by kernel_rfl) (enumerated_any m.scope _ (by omega) (by omega)) ?_
 rintro _ w2 ⟨rfl, hbw2⟩
 have hH1:=hH0.past hbw2
 refine ⟨_, rfl, hH1, ?_⟩
 refine Rg.frame _ (by simp only [Rg.pu, List.set]; rfl) ?_
 refine Rg.cl 4 26 rfl (by kernel_rfl) 134 #[.int .i64 0] (by kernel_rfl) (enumerated_any 0 _ (by omega) (by omega)) ?_
 rintro _ w3 ⟨rfl, hbw3⟩
 have hH2:=hH1.past hbw3
 refine ⟨_, rfl, hH2, ?_⟩
 refine Rg.cl 7 29 rfl (by kernel_rfl) 74 #[.int .i64 m.size] (by kernel_rfl) (integer_any m.size _ (by omega) (by omega)) ?_
 rintro _ w4 ⟨rfl, hbw4⟩
 have hH3:=hH2.past hbw4
 refine ⟨_, rfl, hH3, ?_⟩
 refine Rg.cl 8 30 rfl (by kernel_rfl) 74 #[.int .i64 0] (by kernel_rfl) (integer_any 0 _ (by omega) (by omega)) ?_
 rintro _ w5 ⟨rfl, hbw5⟩
 have hH4:=hH3.past hbw5
 refine ⟨_, rfl, hH4, ?_⟩
 refine Rg.cl 9 31 rfl (by kernel_rfl) 135 #[(Value.bool false)] (by kernel_rfl) (flag_any false _) ?_
 rintro _ w6 ⟨rfl, hbw6⟩
 have hH5:=hH4.past hbw6
 refine ⟨_, rfl, hH5, ?_⟩
 refine Rg.cl 12 34 rfl (by kernel_rfl) 136 #[.agg #[x0, x1, x2, x3, x4]] (by kernel_rfl) (fe_any m.fil _ _ _ _ _ _ q6 q7 (hH5.lt hG) (hF.past hH5.2.2)) ?_
 rintro _ w7 ⟨t8, b8, A8, n8, c8, rfl, hb7, hL8⟩
 have hH6:=hH5.past hb7
 refine ⟨_, rfl, hH6, ?_⟩
 refine Rg.frame _ (by simp only [Rg.pu, List.set]; rfl) ?_
 refine Rg.cl 15 37 rfl (by kernel_rfl) 137 #[.slice W m.wants.length wc, .func (.func 133) #[] #[]] (by kernel_rfl) (eachS_any W wc m.wants _ (by omega) (fun s hs=>by have:=q5 s hs; omega) (hW.past hH6.2.2)) ?_
 rintro _ w8 ⟨A1, c1, ds1, rfl, hb8, hK1⟩
 have hH7:=hH6.past hb8
 refine ⟨_, rfl, hH7, ?_⟩
 refine Rg.cl 16 38 rfl (by kernel_rfl) 73 #[.slice A1 (m.wants.map (txt 4)).length c1] (by kernel_rfl) (seq_any (m.wants.map (txt 4)) 1 A1 c1 ds1 _ (by rw [List.length_map]; omega) hgw (kids_old hK1)) ?_
 rintro _ w9 ⟨A2, c2, ds2, rfl, hb9, hK2⟩
 have hH8:=hH7.past hb9
 refine ⟨_, rfl, hH8, ?_⟩
 have hH9:=hH8.alloc (.cells #[.int .u8 4, .string m.dn, .slice none 0 0, .int .u8 10, .string (strOfNums (Be.intB m.scope)), .slice none 0 0, .int .u8 10, .string (strOfNums (Be.intB 0)), .slice none 0 0, .int .u8 2, .string (strOfNums (Be.intB m.size)), .slice none 0 0, .int .u8 2, .string (strOfNums (Be.intB 0)), .slice none 0 0, .int .u8 1, .string (boolB false), .slice none 0 0, .int .u8 (t8 : Nat), .string b8, .slice A8 n8 c8, .int .u8 48, .string ⟨#[]⟩, .slice A2 (m.wants.map (txt 4)).length c2] 57)
 refine Rg.rn 17 39 (.slice (some ⟨w9.heap.size, 0, none⟩) 8 8) (w9.alloc (.cells #[.int .u8 4, .string m.dn, .slice none 0 0, .int .u8 10, .string (strOfNums (Be.intB m.scope)), .slice none 0 0, .int .u8 10, .string (strOfNums (Be.intB 0)), .slice none 0 0, .int .u8 2, .string (strOfNums (Be.intB m.size)), .slice none 0 0, .int .u8 2, .string (strOfNums (Be.intB 0)), .slice none 0 0, .int .u8 1, .string (boolB false), .slice none 0 0, .int .u8 (t8 : Nat), .string b8, .slice A8 n8 c8, .int .u8 48, .string ⟨#[]⟩, .slice A2 (m.wants.map (txt 4)).length c2] 57)) rfl (by kernel_rfl) (by kernel_rfl) hH9 ?_
 have hKK:=kids_lit (w:=w9) [txt 4 m.dn, num 10 m.scope, num 10 0, num 2 m.size, num 2 0, flg false, filEl m.fil, lst 48 (m.wants.map (txt 4))] [[.int .u8 4, .string m.dn, .slice none 0 0], [.int .u8 10, .string (strOfNums (Be.intB m.scope)), .slice none 0 0], [.int .u8 10, .string (strOfNums (Be.intB 0)), .slice none 0 0], [.int .u8 2, .string (strOfNums (Be.intB m.size)), .slice none 0 0], [.int .u8 2, .string (strOfNums (Be.intB 0)), .slice none 0 0], [.int .u8 1, .string (boolB false), .slice none 0 0], [.int .u8 (t8 : Nat), .string b8, .slice A8 n8 c8], [.int .u8 48, .string ⟨#[]⟩, .slice A2 (m.wants.map (txt 4)).length c2]] rfl (by simp) (fun i hi=>by
  match i, hi with
  | 0, _=>exact lies_leaf (by decide) (by omega)
  | 1, _=>exact lies_num (by decide) (by omega) (by omega)
  | 2, _=>exact lies_num (by decide) (by omega) (by omega)
  | 3, _=>exact lies_num (by decide) (by omega) (by omega)
  | 4, _=>exact lies_num (by decide) (by omega) (by omega)
  | 5, _=>exact lies_flg false
  | 6, _=>exact ((lies_old hL8).past hb8).past hb9
  | 7, _=>exact Be.Lies.shut (by decide) (by decide) (by rw [List.length_map]; unfold maxLen; omega) (kids_old hK2))
 refine Rg.idleP [18] [(2, .slice (some ⟨w9.heap.size, 0, none⟩) 8 8)] 0 (by kernel_rfl) (fun _ _ _ _ _ h=>h) (by kernel_rfl) (by kernel_rfl) hH9 ?_
 refine Rg.frame _ (by simp only [Rg.puts, Rg.pu, List.set]; rfl) ?_
 refine wpAnyH_done (by kernel_rfl) ?_ _
 refine NoPanic.normal ?_
 go_wp2_with fail
 go_ret
 exact kids'_mk (by rfl) hH9.2.2 hKK
set_option maxHeartbeats 4000000 in
theorem parts_4 (m : Mg) (cs : Array Value) (w : World) (hM : isM m = true) (hop : m.op = 4) (hG : Glob w) (h : MAt w (· < w.heap.size) m cs) :
  Calls Tryz.prog 107 #[.agg cs] w (Kids' w (parts m)):=by
 obtain ⟨i0, i1, _, hf, t1, t2, t3, t4, t5, t6, t7⟩:=isM_open hM
 have hpar : parts m = [txt 4 m.dn, lst 48 (m.mods.map modEl)]:=by unfold parts; rw [if_neg (by omega), if_neg (by omega), if_pos hop]
 have hgp:=(parts_good hM).1
 rw [hpar] at hgp ⊢
 clear hpar
 have B:=Box.new h
 have c3:=(B.1.cell 3).trans h.g3
 obtain ⟨q1, q2, _⟩:=formed_mods (by omega) hf
 obtain ⟨M, mc, ds, eM, hMo, lM, _⟩:=h.gM
 have hgm : ∀ e ∈ m.mods.map modEl, good 4 e:=fun e he=>by
  obtain ⟨d, hd, rfl⟩:=List.mem_map.1 he
  exact (good_mod (d:=0) (q2 d hd)).1
 have c1 : (w.alloc (.cells cs 28)).cell? ⟨w.heap.size, 1, none⟩ = some (.int .i64 4):=by rw [(B.1.cell 1).trans h.g1, hop]
 clear B
 go_enter Tryz.func107, Tryz.ntmps107
 go_wp2_with fail
 refine (text_any m.dn _ (by omega)).mono ?_
 rintro e w1 ⟨rfl, hb1⟩
 have F0:=Fp.new h hb1
 have d1 : (w1.alloc (.cells #[.int .u8 4, .string m.dn, .slice none 0 0] 57)).cell? ⟨w.heap.size, 1, none⟩ = some (.int .i64 4):=by rw [(F0.1.1.cell 1).trans h.g1, hop]
 clear c1 c3
 go_wp2_with fail
 refine wp_region_noPanic ?_
 refine wp_region_held_drew (S:=Fp w m cs w1.heap.size) (by kernel_rfl) F0.drew (fun hH0=>?_)
 refine Rg.tk 0 42 (.agg #[.int .u8 4, .string m.dn, .slice none 0 0]) rfl (by kernel_rfl) (fun _ _ _ h=>h) (fun w' h'=>run_loadRow rfl rfl h'.2.1 Tryz.underlying57 rfl infoE3) hH0 ?_
 refine Rg.tk 1 43 (.pointer (some ⟨w.heap.size, 14, none⟩)) rfl (by kernel_rfl) (fun _ _ _ h=>h) (fun _ _=>by kernel_rfl) hH0 ?_
 refine Rg.tk 2 44 (.slice M m.mods.length mc) rfl (by kernel_rfl) (fun _ _ _ h=>h) (fun w' h'=>run_cell rfl rfl (by kernel_rfl) ((h'.1.1.cell 14).trans eM)) hH0 ?_
 refine Rg.cl 3 45 rfl (by kernel_rfl) 138 #[.slice M m.mods.length mc, .func (.func 139) #[] #[]] (by kernel_rfl) (eachM_any M mc m.mods ds _ (by omega) q2 (hMo.past hH0.2.2)) ?_
 rintro _ w8 ⟨A1, c1, ds1, rfl, hb8, hK1⟩
 have hH1:=hH0.past hb8
 refine ⟨_, rfl, hH1, ?_⟩
 refine Rg.cl 4 46 rfl (by kernel_rfl) 73 #[.slice A1 (m.mods.map modEl).length c1] (by kernel_rfl) (seq_any (m.mods.map modEl) 4 A1 c1 ds1 _ (by rw [List.length_map]; omega) hgm (kids_old hK1)) ?_
 rintro _ w9 ⟨A2, c2, ds2, rfl, hb9, hK2⟩
 have hH2:=hH1.past hb9
 refine ⟨_, rfl, hH2, ?_⟩
 refine Rg.frame _ (by simp only [Rg.pu, List.set]; rfl) ?_
 have hH3:=hH2.alloc (.cells #[.int .u8 4, .string m.dn, .slice none 0 0, .int .u8 48, .string ⟨#[]⟩, .slice A2 (m.mods.map modEl).length c2] 57)
 refine Rg.rn 5 47 (.slice (some ⟨w9.heap.size, 0, none⟩) 2 2) (w9.alloc (.cells #[.int .u8 4, .string m.dn, .slice none 0 0, .int .u8 48, .string ⟨#[]⟩, .slice A2 (m.mods.map modEl).length c2] 57)) rfl (by kernel_rfl) (by kernel_rfl) hH3 ?_
 have hKK:=kids_lit (w:=w9) [txt 4 m.dn, lst 48 (m.mods.map modEl)] [[.int .u8 4, .string m.dn, .slice none 0 0], [.int .u8 48, .string ⟨#[]⟩, .slice A2 (m.mods.map modEl).length c2]] rfl (by simp) (fun i hi=>by
  match i, hi with
  | 0, _=>exact lies_leaf (by decide) (by omega)
  | 1, _=>exact Be.Lies.shut (by decide) (by decide) (by rw [List.length_map]; unfold maxLen; omega) (kids_old hK2))
 refine Rg.idleP [6] [(2, .slice (some ⟨w9.heap.size, 0, none⟩) 2 2)] 0 (by kernel_rfl) (fun _ _ _ _ _ h=>h) (by kernel_rfl) (by kernel_rfl) hH3 ?_
 refine Rg.frame _ (by simp only [Rg.puts, Rg.pu, List.set]; rfl) ?_
 refine wpAnyH_done (by kernel_rfl) ?_ _
 refine NoPanic.normal ?_
 go_wp2_with fail
 go_ret
 exact kids'_mk (by rfl) hH3.2.2 hKK
set_option maxHeartbeats 4000000 in
theorem parts_5 (m : Mg) (cs : Array Value) (w : World) (hM : isM m = true) (hop : m.op = 5) (hG : Glob w) (h : MAt w (· < w.heap.size) m cs) :
  Calls Tryz.prog 107 #[.agg cs] w (Kids' w (parts m)):=by
 obtain ⟨i0, i1, _, hf, t1, t2, t3, t4, t5, t6, t7⟩:=isM_open hM
 have hpar : parts m = [txt 4 m.dn, lst 48 (m.mods.map attrEl)]:=by unfold parts; rw [if_neg (by omega), if_neg (by omega), if_neg (by omega), if_pos (Or.inl hop)]
 have hgp:=(parts_good hM).1
 rw [hpar] at hgp ⊢
 clear hpar
 have B:=Box.new h
 have c3:=(B.1.cell 3).trans h.g3
 obtain ⟨q1, q2, _⟩:=formed_mods (by omega) hf
 obtain ⟨M, mc, ds, eM, hMo, lM, _⟩:=h.gM
 have hgm : ∀ e ∈ m.mods.map attrEl, good 3 e:=fun e he=>by
  obtain ⟨d, hd, rfl⟩:=List.mem_map.1 he
  exact (good_attr (d:=0) (q2 d hd)).1
 have c1 : (w.alloc (.cells cs 28)).cell? ⟨w.heap.size, 1, none⟩ = some (.int .i64 5):=by rw [(B.1.cell 1).trans h.g1, hop]
 clear B
 go_enter Tryz.func107, Tryz.ntmps107
 go_wp2_with fail
 refine (text_any m.dn _ (by omega)).mono ?_
 rintro e w1 ⟨rfl, hb1⟩
 have F0:=Fp.new h hb1
 have d1 : (w1.alloc (.cells #[.int .u8 4, .string m.dn, .slice none 0 0] 57)).cell? ⟨w.heap.size, 1, none⟩ = some (.int .i64 5):=by rw [(F0.1.1.cell 1).trans h.g1, hop]
 clear c1 c3
 go_wp2_with fail
 refine wp_region_noPanic ?_
 refine wp_region_held_drew (S:=Fp w m cs w1.heap.size) (by kernel_rfl) F0.drew (fun hH0=>?_)
 refine Rg.tk 0 51 (.agg #[.int .u8 4, .string m.dn, .slice none 0 0]) rfl (by kernel_rfl) (fun _ _ _ h=>h) (fun w' h'=>run_loadRow rfl rfl h'.2.1 Tryz.underlying57 rfl infoE3) hH0 ?_
 refine Rg.tk 1 52 (.pointer (some ⟨w.heap.size, 14, none⟩)) rfl (by kernel_rfl) (fun _ _ _ h=>h) (fun _ _=>by kernel_rfl) hH0 ?_
 refine Rg.tk 2 53 (.slice M m.mods.length mc) rfl (by kernel_rfl) (fun _ _ _ h=>h) (fun w' h'=>run_cell rfl rfl (by kernel_rfl) ((h'.1.1.cell 14).trans eM)) hH0 ?_
 refine Rg.cl 3 54 rfl (by kernel_rfl) 138 #[.slice M m.mods.length mc, .func (.func 140) #[] #[]] (by kernel_rfl) (eachA_any M mc m.mods ds _ (by omega) q2 (hMo.past hH0.2.2)) ?_
 rintro _ w8 ⟨A1, c1, ds1, rfl, hb8, hK1⟩
 have hH1:=hH0.past hb8
 refine ⟨_, rfl, hH1, ?_⟩
 refine Rg.cl 4 55 rfl (by kernel_rfl) 73 #[.slice A1 (m.mods.map attrEl).length c1] (by kernel_rfl) (seq_any (m.mods.map attrEl) 3 A1 c1 ds1 _ (by rw [List.length_map]; omega) hgm (kids_old hK1)) ?_
 rintro _ w9 ⟨A2, c2, ds2, rfl, hb9, hK2⟩
 have hH2:=hH1.past hb9
 refine ⟨_, rfl, hH2, ?_⟩
 refine Rg.frame _ (by simp only [Rg.pu, List.set]; rfl) ?_
 have hH3:=hH2.alloc (.cells #[.int .u8 4, .string m.dn, .slice none 0 0, .int .u8 48, .string ⟨#[]⟩, .slice A2 (m.mods.map attrEl).length c2] 57)
 refine Rg.rn 5 56 (.slice (some ⟨w9.heap.size, 0, none⟩) 2 2) (w9.alloc (.cells #[.int .u8 4, .string m.dn, .slice none 0 0, .int .u8 48, .string ⟨#[]⟩, .slice A2 (m.mods.map attrEl).length c2] 57)) rfl (by kernel_rfl) (by kernel_rfl) hH3 ?_
 have hKK:=kids_lit (w:=w9) [txt 4 m.dn, lst 48 (m.mods.map attrEl)] [[.int .u8 4, .string m.dn, .slice none 0 0], [.int .u8 48, .string ⟨#[]⟩, .slice A2 (m.mods.map attrEl).length c2]] rfl (by simp) (fun i hi=>by
  match i, hi with
  | 0, _=>exact lies_leaf (by decide) (by omega)
  | 1, _=>exact Be.Lies.shut (by decide) (by decide) (by rw [List.length_map]; unfold maxLen; omega) (kids_old hK2))
 refine Rg.idleP [6] [(2, .slice (some ⟨w9.heap.size, 0, none⟩) 2 2)] 0 (by kernel_rfl) (fun _ _ _ _ _ h=>h) (by kernel_rfl) (by kernel_rfl) hH3 ?_
 refine Rg.frame _ (by simp only [Rg.puts, Rg.pu, List.set]; rfl) ?_
 refine wpAnyH_done (by kernel_rfl) ?_ _
 refine NoPanic.normal ?_
 go_wp2_with fail
 go_ret
 exact kids'_mk (by rfl) hH3.2.2 hKK
set_option maxHeartbeats 4000000 in
theorem parts_10 (m : Mg) (cs : Array Value) (w : World) (hM : isM m = true) (hop : m.op = 10) (hG : Glob w) (h : MAt w (· < w.heap.size) m cs) :
  Calls Tryz.prog 107 #[.agg cs] w (Kids' w (parts m)):=by
 obtain ⟨i0, i1, _, hf, t1, t2, t3, t4, t5, t6, t7⟩:=isM_open hM
 have hpar : parts m = [txt 4 m.dn, lst 48 (m.mods.map attrEl)]:=by unfold parts; rw [if_neg (by omega), if_neg (by omega), if_neg (by omega), if_pos (Or.inr hop)]
 have hgp:=(parts_good hM).1
 rw [hpar] at hgp ⊢
 clear hpar
 have B:=Box.new h
 have c3:=(B.1.cell 3).trans h.g3
 obtain ⟨q1, q2, _⟩:=formed_mods (by omega) hf
 obtain ⟨M, mc, ds, eM, hMo, lM, _⟩:=h.gM
 have hgm : ∀ e ∈ m.mods.map attrEl, good 3 e:=fun e he=>by
  obtain ⟨d, hd, rfl⟩:=List.mem_map.1 he
  exact (good_attr (d:=0) (q2 d hd)).1
 have c1 : (w.alloc (.cells cs 28)).cell? ⟨w.heap.size, 1, none⟩ = some (.int .i64 10):=by rw [(B.1.cell 1).trans h.g1, hop]
 clear B
 go_enter Tryz.func107, Tryz.ntmps107
 go_wp2_with fail
 refine (text_any m.dn _ (by omega)).mono ?_
 rintro e w1 ⟨rfl, hb1⟩
 have F0:=Fp.new h hb1
 have d1 : (w1.alloc (.cells #[.int .u8 4, .string m.dn, .slice none 0 0] 57)).cell? ⟨w.heap.size, 1, none⟩ = some (.int .i64 10):=by rw [(F0.1.1.cell 1).trans h.g1, hop]
 clear c1 c3
 go_wp2_with fail
 refine wp_region_noPanic ?_
 refine wp_region_held_drew (S:=Fp w m cs w1.heap.size) (by kernel_rfl) F0.drew (fun hH0=>?_)
 refine Rg.tk 0 51 (.agg #[.int .u8 4, .string m.dn, .slice none 0 0]) rfl (by kernel_rfl) (fun _ _ _ h=>h) (fun w' h'=>run_loadRow rfl rfl h'.2.1 Tryz.underlying57 rfl infoE3) hH0 ?_
 refine Rg.tk 1 52 (.pointer (some ⟨w.heap.size, 14, none⟩)) rfl (by kernel_rfl) (fun _ _ _ h=>h) (fun _ _=>by kernel_rfl) hH0 ?_
 refine Rg.tk 2 53 (.slice M m.mods.length mc) rfl (by kernel_rfl) (fun _ _ _ h=>h) (fun w' h'=>run_cell rfl rfl (by kernel_rfl) ((h'.1.1.cell 14).trans eM)) hH0 ?_
 refine Rg.cl 3 54 rfl (by kernel_rfl) 138 #[.slice M m.mods.length mc, .func (.func 140) #[] #[]] (by kernel_rfl) (eachA_any M mc m.mods ds _ (by omega) q2 (hMo.past hH0.2.2)) ?_
 rintro _ w8 ⟨A1, c1, ds1, rfl, hb8, hK1⟩
 have hH1:=hH0.past hb8
 refine ⟨_, rfl, hH1, ?_⟩
 refine Rg.cl 4 55 rfl (by kernel_rfl) 73 #[.slice A1 (m.mods.map attrEl).length c1] (by kernel_rfl) (seq_any (m.mods.map attrEl) 3 A1 c1 ds1 _ (by rw [List.length_map]; omega) hgm (kids_old hK1)) ?_
 rintro _ w9 ⟨A2, c2, ds2, rfl, hb9, hK2⟩
 have hH2:=hH1.past hb9
 refine ⟨_, rfl, hH2, ?_⟩
 refine Rg.frame _ (by simp only [Rg.pu, List.set]; rfl) ?_
 have hH3:=hH2.alloc (.cells #[.int .u8 4, .string m.dn, .slice none 0 0, .int .u8 48, .string ⟨#[]⟩, .slice A2 (m.mods.map attrEl).length c2] 57)
 refine Rg.rn 5 56 (.slice (some ⟨w9.heap.size, 0, none⟩) 2 2) (w9.alloc (.cells #[.int .u8 4, .string m.dn, .slice none 0 0, .int .u8 48, .string ⟨#[]⟩, .slice A2 (m.mods.map attrEl).length c2] 57)) rfl (by kernel_rfl) (by kernel_rfl) hH3 ?_
 have hKK:=kids_lit (w:=w9) [txt 4 m.dn, lst 48 (m.mods.map attrEl)] [[.int .u8 4, .string m.dn, .slice none 0 0], [.int .u8 48, .string ⟨#[]⟩, .slice A2 (m.mods.map attrEl).length c2]] rfl (by simp) (fun i hi=>by
  match i, hi with
  | 0, _=>exact lies_leaf (by decide) (by omega)
  | 1, _=>exact Be.Lies.shut (by decide) (by decide) (by rw [List.length_map]; unfold maxLen; omega) (kids_old hK2))
 refine Rg.idleP [6] [(2, .slice (some ⟨w9.heap.size, 0, none⟩) 2 2)] 0 (by kernel_rfl) (fun _ _ _ _ _ h=>h) (by kernel_rfl) (by kernel_rfl) hH3 ?_
 refine Rg.frame _ (by simp only [Rg.puts, Rg.pu, List.set]; rfl) ?_
 refine wpAnyH_done (by kernel_rfl) ?_ _
 refine NoPanic.normal ?_
 go_wp2_with fail
 go_ret
 exact kids'_mk (by rfl) hH3.2.2 hKK
set_option maxHeartbeats 4000000 in
theorem parts_8 (m : Mg) (cs : Array Value) (w : World) (hM : isM m = true) (hop : m.op = 8) (hG : Glob w) (h : MAt w (· < w.heap.size) m cs) :
  Calls Tryz.prog 107 #[.agg cs] w (Kids' w (parts m)):=by
 obtain ⟨i0, i1, _, hf, t1, t2, t3, t4, t5, t6, t7⟩:=isM_open hM
 have hpar : parts m = [txt 4 m.dn, lst 48 [txt 4 m.attr, txt 4 m.value]]:=by unfold parts; rw [if_neg (by omega), if_neg (by omega), if_neg (by omega), if_neg (by omega), if_neg (by omega), if_pos hop]
 have hgp:=(parts_good hM).1
 rw [hpar] at hgp ⊢
 clear hpar
 have B:=Box.new h
 have c3:=(B.1.cell 3).trans h.g3
 have hg2 : ∀ e ∈ [txt 4 m.attr, txt 4 m.value], good 1 e:=fun e he=>by
  simp only [List.mem_cons, List.not_mem_nil, or_false] at he
  rcases he with rfl | rfl
  ·exact good_txt (by decide) t5
  ·exact good_txt (by decide) t6
 have c1 : (w.alloc (.cells cs 28)).cell? ⟨w.heap.size, 1, none⟩ = some (.int .i64 8):=by rw [(B.1.cell 1).trans h.g1, hop]
 clear B
 go_enter Tryz.func107, Tryz.ntmps107
 go_wp2_with fail
 refine (text_any m.dn _ (by omega)).mono ?_
 rintro e w1 ⟨rfl, hb1⟩
 have F0:=Fp.new h hb1
 have d1 : (w1.alloc (.cells #[.int .u8 4, .string m.dn, .slice none 0 0] 57)).cell? ⟨w.heap.size, 1, none⟩ = some (.int .i64 8):=by rw [(F0.1.1.cell 1).trans h.g1, hop]
 clear c1 c3
 go_wp2_with fail
 refine wp_region_noPanic ?_
 refine wp_region_held_drew (S:=Fp w m cs w1.heap.size) (by kernel_rfl) F0.drew (fun hH0=>?_)
 refine Rg.tk 0 78 (.agg #[.int .u8 4, .string m.dn, .slice none 0 0]) rfl (by kernel_rfl) (fun _ _ _ h=>h) (fun w' h'=>run_loadRow rfl rfl h'.2.1 Tryz.underlying57 rfl infoE3) hH0 ?_
 refine Rg.tk 1 79 (.pointer (some ⟨w.heap.size, 19, none⟩)) rfl (by kernel_rfl) (fun _ _ _ h=>h) (fun _ _=>by kernel_rfl) hH0 ?_
 refine Rg.tk 2 80 (.string m.attr) rfl (by kernel_rfl) (fun _ _ _ h=>h) (fun w' h'=>run_cell rfl rfl (by kernel_rfl) ((h'.1.1.cell 19).trans h.g19)) hH0 ?_
 refine Rg.tk 4 82 (.pointer (some ⟨w.heap.size, 20, none⟩)) rfl (by kernel_rfl) (fun _ _ _ h=>h) (fun _ _=>by kernel_rfl) hH0 ?_
 refine Rg.tk 5 83 (.string m.value) rfl (by kernel_rfl) (fun _ _ _ h=>h) (fun w' h'=>run_cell rfl rfl (by kernel_rfl) ((h'.1.1.cell 20).trans h.g20)) hH0 ?_
 refine Rg.frame _ (by simp only [Rg.pu, List.set]; rfl) ?_
 refine Rg.cl 3 81 rfl (by kernel_rfl) 133 #[.string m.attr] (by kernel_rfl) (text_any m.attr _ (by omega)) ?_
 rintro _ w2 ⟨rfl, hbw2⟩
 have hH1:=hH0.past hbw2
 refine ⟨_, rfl, hH1, ?_⟩
 refine Rg.cl 6 84 rfl (by kernel_rfl) 133 #[.string m.value] (by kernel_rfl) (text_any m.value _ (by omega)) ?_
 rintro _ w3 ⟨rfl, hbw3⟩
 have hH2:=hH1.past hbw3
 refine ⟨_, rfl, hH2, ?_⟩
 have hH3:=hH2.alloc (.cells #[.int .u8 4, .string m.attr, .slice none 0 0, .int .u8 4, .string m.value, .slice none 0 0] 57)
 refine Rg.rn 7 85 (.slice (some ⟨w3.heap.size, 0, none⟩) 2 2) (w3.alloc (.cells #[.int .u8 4, .string m.attr, .slice none 0 0, .int .u8 4, .string m.value, .slice none 0 0] 57)) rfl (by kernel_rfl) (by kernel_rfl) hH3 ?_
 have hKK:=kids_lit (w:=w3) [txt 4 m.attr, txt 4 m.value] [[.int .u8 4, .string m.attr, .slice none 0 0], [.int .u8 4, .string m.value, .slice none 0 0]] rfl (by simp) (fun i hi=>by
  match i, hi with
  | 0, _=>exact lies_leaf (by decide) (by omega)
  | 1, _=>exact lies_leaf (by decide) (by omega))
 refine Rg.cl 8 86 rfl (by kernel_rfl) 73 #[.slice (some ⟨w3.heap.size, 0, none⟩) 2 2] (by kernel_rfl) (seq_any [txt 4 m.attr, txt 4 m.value] 1 _ 2 _ _ (by show 2 ≤ 20; omega) hg2 hKK) ?_
 rintro _ w9 ⟨A2, c2, ds2, rfl, hb9, hK2⟩
 have hH4:=hH3.past hb9
 refine ⟨_, rfl, hH4, ?_⟩
 clear hKK
 have hH5:=hH4.alloc (.cells #[.int .u8 4, .string m.dn, .slice none 0 0, .int .u8 48, .string ⟨#[]⟩, .slice A2 2 c2] 57)
 refine Rg.rn 9 87 (.slice (some ⟨w9.heap.size, 0, none⟩) 2 2) (w9.alloc (.cells #[.int .u8 4, .string m.dn, .slice none 0 0, .int .u8 48, .string ⟨#[]⟩, .slice A2 2 c2] 57)) rfl (by kernel_rfl) (by kernel_rfl) hH5 ?_
 refine Rg.frame _ (by simp only [Rg.pu, List.set]; rfl) ?_
 have hKK:=kids_lit (w:=w9) [txt 4 m.dn, lst 48 [txt 4 m.attr, txt 4 m.value]] [[.int .u8 4, .string m.dn, .slice none 0 0], [.int .u8 48, .string ⟨#[]⟩, .slice A2 2 c2]] rfl (by simp) (fun i hi=>by
  match i, hi with
  | 0, _=>exact lies_leaf (by decide) (by omega)
  | 1, _=>exact Be.Lies.shut (by decide) (by decide) (by show 2 ≤ maxLen; decide) (kids_old hK2))
 refine Rg.idleP [10] [(2, .slice (some ⟨w9.heap.size, 0, none⟩) 2 2)] 0 (by kernel_rfl) (fun _ _ _ _ _ h=>h) (by kernel_rfl) (by kernel_rfl) hH5 ?_
 refine Rg.frame _ (by simp only [Rg.puts, Rg.pu, List.set]; rfl) ?_
 refine wpAnyH_done (by kernel_rfl) ?_ _
 refine NoPanic.normal ?_
 go_wp2_with fail
 go_ret
 exact kids'_mk (by rfl) hH5.2.2 hKK
set_option maxHeartbeats 4000000 in
theorem parts_9 (m : Mg) (cs : Array Value) (w : World) (hM : isM m = true) (hop : m.op = 9) (hG : Glob w) (h : MAt w (· < w.heap.size) m cs) :
  Calls Tryz.prog 107 #[.agg cs] w (Kids' w (parts m)):=by
 obtain ⟨i0, i1, _, hf, t1, t2, t3, t4, t5, t6, t7⟩:=isM_open hM
 have hpar : parts m = [num 10 m.code, txt 4 m.matched, txt 4 no]:=by unfold parts; rw [if_neg (by omega), if_neg (by omega), if_neg (by omega), if_neg (by omega), if_neg (by omega), if_neg (by omega)]
 have hgp:=(parts_good hM).1
 rw [hpar] at hgp ⊢
 clear hpar
 have B:=Box.new h
 have c3:=(B.1.cell 3).trans h.g3
 have hv:=formed_result hop hf
 have c1 : (w.alloc (.cells cs 28)).cell? ⟨w.heap.size, 1, none⟩ = some (.int .i64 9):=by rw [(B.1.cell 1).trans h.g1, hop]
 clear B
 go_enter Tryz.func107, Tryz.ntmps107
 go_wp2_with fail
 refine (text_any m.dn _ (by omega)).mono ?_
 rintro e w1 ⟨rfl, hb1⟩
 have F0:=Fp.new h hb1
 have d1 : (w1.alloc (.cells #[.int .u8 4, .string m.dn, .slice none 0 0] 57)).cell? ⟨w.heap.size, 1, none⟩ = some (.int .i64 9):=by rw [(F0.1.1.cell 1).trans h.g1, hop]
 clear c1 c3
 go_wp2_with fail
 refine wp_region_noPanic ?_
 refine wp_region_held_drew (S:=Fp w m cs w1.heap.size) (by kernel_rfl) F0.drew (fun hH0=>?_)
 refine Rg.tk 0 88 (.pointer (some ⟨w.heap.size, 21, none⟩)) rfl (by kernel_rfl) (fun _ _ _ h=>h) (fun _ _=>by kernel_rfl) hH0 ?_
 refine Rg.tk 1 89 (.int .i64 m.code) rfl (by kernel_rfl) (fun _ _ _ h=>h) (fun w' h'=>run_cell rfl rfl (by kernel_rfl) ((h'.1.1.cell 21).trans h.g21)) hH0 ?_
 refine Rg.tk 3 91 (.pointer (some ⟨w.heap.size, 22, none⟩)) rfl (by kernel_rfl) (fun _ _ _ h=>h) (fun _ _=>by kernel_rfl) hH0 ?_
 refine Rg.tk 4 92 (.string m.matched) rfl (by kernel_rfl) (fun _ _ _ h=>h) (fun w' h'=>run_cell rfl rfl (by kernel_rfl) ((h'.1.1.cell 22).trans h.g22)) hH0 ?_
 refine Rg.cl 2 90 rfl (by kernel_rfl) 134 #[.int .i64 m.code] (by kernel_rfl) (enumerated_any m.code _ (by omega) (by omega)) ?_
 rintro _ w2 ⟨rfl, hbw2⟩
 have hH1:=hH0.past hbw2
 refine ⟨_, rfl, hH1, ?_⟩
 refine Rg.frame _ (by simp only [Rg.pu, List.set]; rfl) ?_
 refine Rg.cl 5 93 rfl (by kernel_rfl) 133 #[.string m.matched] (by kernel_rfl) (text_any m.matched _ (by omega)) ?_
 rintro _ w3 ⟨rfl, hbw3⟩
 have hH2:=hH1.past hbw3
 refine ⟨_, rfl, hH2, ?_⟩
 refine Rg.cl 6 94 rfl (by kernel_rfl) 133 #[(Value.string { data:=#[] })] (by kernel_rfl) (text_any ⟨#[]⟩ _ (by decide)) ?_
 rintro _ w4 ⟨rfl, hbw4⟩
 have hH3:=hH2.past hbw4
 refine ⟨_, rfl, hH3, ?_⟩
 have hH4:=hH3.alloc (.cells #[.int .u8 10, .string (strOfNums (Be.intB m.code)), .slice none 0 0, .int .u8 4, .string m.matched, .slice none 0 0, .int .u8 4, .string ⟨#[]⟩, .slice none 0 0] 57)
 refine Rg.rn 7 95 (.slice (some ⟨w4.heap.size, 0, none⟩) 3 3) (w4.alloc (.cells #[.int .u8 10, .string (strOfNums (Be.intB m.code)), .slice none 0 0, .int .u8 4, .string m.matched, .slice none 0 0, .int .u8 4, .string ⟨#[]⟩, .slice none 0 0] 57)) rfl (by kernel_rfl) (by kernel_rfl) hH4 ?_
 have hKK:=kids_lit (w:=w4) [num 10 m.code, txt 4 m.matched, txt 4 no] [[.int .u8 10, .string (strOfNums (Be.intB m.code)), .slice none 0 0], [.int .u8 4, .string m.matched, .slice none 0 0], [.int .u8 4, .string ⟨#[]⟩, .slice none 0 0]] rfl (by simp) (fun i hi=>by
  match i, hi with
  | 0, _=>exact lies_num (by decide) (by omega) (by omega)
  | 1, _=>exact lies_leaf (by decide) (by omega)
  | 2, _=>exact lies_leaf (by decide) (by decide))
 refine Rg.idleP [8] [(2, .slice (some ⟨w4.heap.size, 0, none⟩) 3 3)] 0 (by kernel_rfl) (fun _ _ _ _ _ h=>h) (by kernel_rfl) (by kernel_rfl) hH4 ?_
 refine Rg.frame _ (by simp only [Rg.puts, Rg.pu, List.set]; rfl) ?_
 refine wpAnyH_done (by kernel_rfl) ?_ _
 refine NoPanic.normal ?_
 go_wp2_with fail
 go_ret
 exact kids'_mk (by rfl) hH4.2.2 hKK
theorem gath_lit {w : World} (es : List Be.El) (css : List (List Value)) (cs : List Value) (hcs : css.flatten = cs) (hlen : es.length = css.length) (h3 : cs.length = es.length * 3) (hn : es.length ≤ 1000)
  (hL : ∀ i (h : i < es.length), ∃ x y z, cs[i * 3]? = some x ∧ cs[i * 3 + 1]? = some y ∧ cs[i * 3 + 2]? = some z ∧ ∀ (w' : World) (P : Nat → Prop), Be.Lies w' P es[i] [x, y, z]) :
  Be.Gath (w.alloc (.cells cs.toArray 57)) w.heap.size (.slice (some ⟨w.heap.size, 0, none⟩) es.length es.length) cs es:=by
 refine ⟨⟨h3, Or.inr ⟨w.heap.size, es.length, cs.toArray, rfl, Nat.le_refl _, heap_alloc_new w _, Nat.le_refl _, by unfold maxLen; omega, by simp [h3], List.take_of_length_le (by simp [h3])⟩⟩, fun i hi=>?_⟩
 obtain ⟨x, y, z, h0, h1, h2, hl⟩:=hL i hi
 exact ⟨x, y, z, h0, h1, h2, hl _ _⟩
set_option maxHeartbeats 4000000 in
theorem parts_7f (m : Mg) (cs : Array Value) (w : World) (hM : isM m = true) (hop : m.op = 7) (hh : m.has = false) (hG : Glob w) (h : MAt w (· < w.heap.size) m cs) :
  Calls Tryz.prog 107 #[.agg cs] w (Kids' w (parts m)):=by
 obtain ⟨i0, i1, _, hf, t1, t2, t3, t4, t5, t6, t7⟩:=isM_open hM
 have hpar : parts m = [txt 4 m.dn, txt 4 m.rdn, flg m.del]:=by unfold parts; rw [if_neg (by omega), if_neg (by omega), if_neg (by omega), if_neg (by omega), if_pos hop, hh]; rfl
 have hgp:=(parts_good hM).1
 rw [hpar] at hgp ⊢
 clear hpar
 have B:=Box.new h
 have c3:=(B.1.cell 3).trans h.g3
 have c1 : (w.alloc (.cells cs 28)).cell? ⟨w.heap.size, 1, none⟩ = some (.int .i64 7):=by rw [(B.1.cell 1).trans h.g1, hop]
 clear B
 go_enter Tryz.func107, Tryz.ntmps107
 go_wp2_with fail
 refine (text_any m.dn _ (by omega)).mono ?_
 rintro e w1 ⟨rfl, hb1⟩
 have F0:=Fp.new h hb1
 have d1 : (w1.alloc (.cells #[.int .u8 4, .string m.dn, .slice none 0 0] 57)).cell? ⟨w.heap.size, 1, none⟩ = some (.int .i64 7):=by rw [(F0.1.1.cell 1).trans h.g1, hop]
 clear c1 c3
 go_wp2_with fail
 refine wp_region_noPanic ?_
 refine wp_region_held_drew (S:=Fp w m cs w1.heap.size) (by kernel_rfl) F0.drew (fun hH0=>?_)
 refine Rg.tk 0 59 (.agg #[.int .u8 4, .string m.dn, .slice none 0 0]) rfl (by kernel_rfl) (fun _ _ _ h=>h) (fun w' h'=>run_loadRow rfl rfl h'.2.1 Tryz.underlying57 rfl infoE3) hH0 ?_
 refine Rg.tk 1 60 (.pointer (some ⟨w.heap.size, 15, none⟩)) rfl (by kernel_rfl) (fun _ _ _ h=>h) (fun _ _=>by kernel_rfl) hH0 ?_
 refine Rg.tk 2 61 (.string m.rdn) rfl (by kernel_rfl) (fun _ _ _ h=>h) (fun w' h'=>run_cell rfl rfl (by kernel_rfl) ((h'.1.1.cell 15).trans h.g15)) hH0 ?_
 refine Rg.tk 4 63 (.pointer (some ⟨w.heap.size, 16, none⟩)) rfl (by kernel_rfl) (fun _ _ _ h=>h) (fun _ _=>by kernel_rfl) hH0 ?_
 refine Rg.tk 5 64 (.bool m.del) rfl (by kernel_rfl) (fun _ _ _ h=>h) (fun w' h'=>run_cell rfl rfl (by kernel_rfl) ((h'.1.1.cell 16).trans h.g16)) hH0 ?_
 refine Rg.frame _ (by simp only [Rg.pu, List.set]; rfl) ?_
 refine Rg.cl 3 62 rfl (by kernel_rfl) 133 #[.string m.rdn] (by kernel_rfl) (text_any m.rdn _ (by omega)) ?_
 rintro _ w2 ⟨rfl, hbw2⟩
 have hH1:=hH0.past hbw2
 refine ⟨_, rfl, hH1, ?_⟩
 refine Rg.cl 6 65 rfl (by kernel_rfl) 135 #[.bool m.del] (by kernel_rfl) (flag_any m.del _) ?_
 rintro _ w3 ⟨rfl, hbw3⟩
 have hH2:=hH1.past hbw3
 refine ⟨_, rfl, hH2, ?_⟩
 have hH3:=hH2.alloc (.cells #[.int .u8 4, .string m.dn, .slice none 0 0, .int .u8 4, .string m.rdn, .slice none 0 0, .int .u8 1, .string (boolB m.del), .slice none 0 0] 57)
 refine Rg.rn 7 66 (.slice (some ⟨w3.heap.size, 0, none⟩) 3 3) (w3.alloc (.cells #[.int .u8 4, .string m.dn, .slice none 0 0, .int .u8 4, .string m.rdn, .slice none 0 0, .int .u8 1, .string (boolB m.del), .slice none 0 0] 57)) rfl (by kernel_rfl) (by kernel_rfl) hH3 ?_
 have hKK:=kids_lit (w:=w3) [txt 4 m.dn, txt 4 m.rdn, flg m.del] [[.int .u8 4, .string m.dn, .slice none 0 0], [.int .u8 4, .string m.rdn, .slice none 0 0], [.int .u8 1, .string (boolB m.del), .slice none 0 0]] rfl (by simp) (fun i hi=>by
  match i, hi with
  | 0, _=>exact lies_leaf (by decide) (by omega)
  | 1, _=>exact lies_leaf (by decide) (by omega)
  | 2, _=>exact lies_flg m.del)
 refine Rg.idleP [8] [(4, .slice (some ⟨w3.heap.size, 0, none⟩) 3 3)] 0 (by kernel_rfl) (fun _ _ _ _ _ h=>h) (by kernel_rfl) (by kernel_rfl) hH3 ?_
 refine Rg.frame _ (by simp only [Rg.puts, Rg.pu, List.set]; rfl) ?_
 refine wpAnyH_done (by kernel_rfl) ?_ _
 refine NoPanic.normal ?_
 have d17 : (w3.alloc (.cells #[.int .u8 4, .string m.dn, .slice none 0 0, .int .u8 4, .string m.rdn, .slice none 0 0, .int .u8 1, .string (boolB m.del), .slice none 0 0] 57)).cell? ⟨w.heap.size, 17, none⟩ = some (.bool false):=by rw [(hH3.1.1.cell 17).trans h.g17, hh]
 have HKK:=Lib.hid hKK
 clear hKK
 go_wp2_with fail
 go_ret
 exact kids'_mk (by rfl) hH3.2.2 HKK.out
set_option maxHeartbeats 4000000 in
theorem parts_7t (m : Mg) (cs : Array Value) (w : World) (hM : isM m = true) (hop : m.op = 7) (hh : m.has = true) (hG : Glob w) (h : MAt w (· < w.heap.size) m cs) :
  Calls Tryz.prog 107 #[.agg cs] w (Kids' w (parts m)):=by
 obtain ⟨i0, i1, _, hf, t1, t2, t3, t4, t5, t6, t7⟩:=isM_open hM
 have hpar : parts m = [txt 4 m.dn, txt 4 m.rdn, flg m.del, txt 128 m.sup]:=by unfold parts; rw [if_neg (by omega), if_neg (by omega), if_neg (by omega), if_neg (by omega), if_pos hop, hh]; rfl
 have hgp:=(parts_good hM).1
 rw [hpar] at hgp ⊢
 clear hpar
 have B:=Box.new h
 have c3:=(B.1.cell 3).trans h.g3
 have c1 : (w.alloc (.cells cs 28)).cell? ⟨w.heap.size, 1, none⟩ = some (.int .i64 7):=by rw [(B.1.cell 1).trans h.g1, hop]
 clear B
 go_enter Tryz.func107, Tryz.ntmps107
 go_wp2_with fail
 refine (text_any m.dn _ (by omega)).mono ?_
 rintro e w1 ⟨rfl, hb1⟩
 have F0:=Fp.new h hb1
 have d1 : (w1.alloc (.cells #[.int .u8 4, .string m.dn, .slice none 0 0] 57)).cell? ⟨w.heap.size, 1, none⟩ = some (.int .i64 7):=by rw [(F0.1.1.cell 1).trans h.g1, hop]
 clear c1 c3
 go_wp2_with fail
 refine wp_region_noPanic ?_
 refine wp_region_held_drew (S:=Fp w m cs w1.heap.size) (by kernel_rfl) F0.drew (fun hH0=>?_)
 refine Rg.tk 0 59 (.agg #[.int .u8 4, .string m.dn, .slice none 0 0]) rfl (by kernel_rfl) (fun _ _ _ h=>h) (fun w' h'=>run_loadRow rfl rfl h'.2.1 Tryz.underlying57 rfl infoE3) hH0 ?_
 refine Rg.tk 1 60 (.pointer (some ⟨w.heap.size, 15, none⟩)) rfl (by kernel_rfl) (fun _ _ _ h=>h) (fun _ _=>by kernel_rfl) hH0 ?_
 refine Rg.tk 2 61 (.string m.rdn) rfl (by kernel_rfl) (fun _ _ _ h=>h) (fun w' h'=>run_cell rfl rfl (by kernel_rfl) ((h'.1.1.cell 15).trans h.g15)) hH0 ?_
 refine Rg.tk 4 63 (.pointer (some ⟨w.heap.size, 16, none⟩)) rfl (by kernel_rfl) (fun _ _ _ h=>h) (fun _ _=>by kernel_rfl) hH0 ?_
 refine Rg.tk 5 64 (.bool m.del) rfl (by kernel_rfl) (fun _ _ _ h=>h) (fun w' h'=>run_cell rfl rfl (by kernel_rfl) ((h'.1.1.cell 16).trans h.g16)) hH0 ?_
 refine Rg.frame _ (by simp only [Rg.pu, List.set]; rfl) ?_
 refine Rg.cl 3 62 rfl (by kernel_rfl) 133 #[.string m.rdn] (by kernel_rfl) (text_any m.rdn _ (by omega)) ?_
 rintro _ w2 ⟨rfl, hbw2⟩
 have hH1:=hH0.past hbw2
 refine ⟨_, rfl, hH1, ?_⟩
 refine Rg.cl 6 65 rfl (by kernel_rfl) 135 #[.bool m.del] (by kernel_rfl) (flag_any m.del _) ?_
 rintro _ w3 ⟨rfl, hbw3⟩
 have hH2:=hH1.past hbw3
 refine ⟨_, rfl, hH2, ?_⟩
 have hH3:=hH2.alloc (.cells #[.int .u8 4, .string m.dn, .slice none 0 0, .int .u8 4, .string m.rdn, .slice none 0 0, .int .u8 1, .string (boolB m.del), .slice none 0 0] 57)
 refine Rg.rn 7 66 (.slice (some ⟨w3.heap.size, 0, none⟩) 3 3) (w3.alloc (.cells #[.int .u8 4, .string m.dn, .slice none 0 0, .int .u8 4, .string m.rdn, .slice none 0 0, .int .u8 1, .string (boolB m.del), .slice none 0 0] 57)) rfl (by kernel_rfl) (by kernel_rfl) hH3 ?_
 have hGa:=gath_lit (w:=w3) [txt 4 m.dn, txt 4 m.rdn, flg m.del] [[.int .u8 4, .string m.dn, .slice none 0 0], [.int .u8 4, .string m.rdn, .slice none 0 0], [.int .u8 1, .string (boolB m.del), .slice none 0 0]] [.int .u8 4, .string m.dn, .slice none 0 0, .int .u8 4, .string m.rdn, .slice none 0 0, .int .u8 1, .string (boolB m.del), .slice none 0 0] rfl rfl rfl (by show 3 ≤ 1000; omega) (fun i hi=>by
  match i, hi with
  | 0, _=>exact ⟨_, _, _, rfl, rfl, rfl, fun w' P=>lies_leaf (by decide) (by omega)⟩
  | 1, _=>exact ⟨_, _, _, rfl, rfl, rfl, fun w' P=>lies_leaf (by decide) (by omega)⟩
  | 2, _=>exact ⟨_, _, _, rfl, rfl, rfl, fun w' P=>lies_flg m.del⟩)
 refine Rg.idleP [8] [(4, .slice (some ⟨w3.heap.size, 0, none⟩) 3 3)] 0 (by kernel_rfl) (fun _ _ _ _ _ h=>h) (by kernel_rfl) (by kernel_rfl) hH3 ?_
 refine Rg.frame _ (by simp only [Rg.puts, Rg.pu, List.set]; rfl) ?_
 refine wpAnyH_done (by kernel_rfl) ?_ _
 refine NoPanic.normal ?_
 have d17 : (w3.alloc (.cells #[.int .u8 4, .string m.dn, .slice none 0 0, .int .u8 4, .string m.rdn, .slice none 0 0, .int .u8 1, .string (boolB m.del), .slice none 0 0] 57)).cell? ⟨w.heap.size, 17, none⟩ = some (.bool true):=by rw [(hH3.1.1.cell 17).trans h.g17, hh]
 have d18 : (w3.alloc (.cells #[.int .u8 4, .string m.dn, .slice none 0 0, .int .u8 4, .string m.rdn, .slice none 0 0, .int .u8 1, .string (boolB m.del), .slice none 0 0] 57)).cell? ⟨w.heap.size, 18, none⟩ = some (.string m.sup):=(hH3.1.1.cell 18).trans h.g18
 have HGa:=Lib.hid hGa
 clear hGa
 go_wp2_with fail
 refine (Be.Text_any 128 m.sup _ (by omega)).mono ?_
 rintro e w4 ⟨rfl, hb4⟩
 have HB:=Lib.hid (Blk.new w4 57 #[.int .u8 128, .string m.sup, .slice none 0 0])
 have HG1:=Lib.hid ((HGa.out.past hb4).alloc (.cells #[.int .u8 128, .string m.sup, .slice none 0 0] 57))
 have F4:=hH3.past hb4
 have hz2 : w3.heap.size ≤ (w4.alloc (.cells #[.int .u8 128, .string m.sup, .slice none 0 0] 57)).heap.size:=by have:=hb4.size; simp at this ⊢; omega
 have hw3 : w.heap.size ≤ w3.heap.size:=by have:=hH2.2.2.size; exact this
 clear d17 d18
 go_wp2_with (at_builtin; go_loud (refine wpList_pushE rfl _ _ rfl w3.heap.size _ _ [txt 4 m.dn, txt 4 m.rdn, flg m.del] rfl HG1.out w4.heap.size rfl HB.out one3 (lies_leaf (t:=128) (b:=m.sup) (by decide) (by omega)) (by show 3 < 1000000; omega) hz2 ?_))
 intro v' w5 hG2 hb5
 have HG2:=Lib.hid hG2
 have hbe:=(F4.2.2.alloc F4.2.2.size (.cells #[.int .u8 128, .string m.sup, .slice none 0 0] 57)).trans (hb5.mono hw3)
 clear hG2
 go_wp2_with fail
 go_ret
 obtain ⟨A, c, ds, hv', hK⟩:=HG2.out.shut
 rw [show (_ : Value) = v' from rfl, hv']
 exact ⟨A, c, ds, rfl, hbe, kids_old hK⟩
theorem parts_any (m : Mg) (cs : Array Value) (w : World) (hM : isM m = true) (h2 : m.op ≠ 2) (h6 : m.op ≠ 6) (hG : Glob w) (h : MAt w (· < w.heap.size) m cs) :
  Calls Tryz.prog 107 #[.agg cs] w (Kids' w (parts m)):=by
 have ho:=isM_op hM
 have hc : m.op = 1 ∨ m.op = 3 ∨ m.op = 4 ∨ m.op = 5 ∨ m.op = 7 ∨ m.op = 8 ∨ m.op = 9 ∨ m.op = 10:=by omega
 rcases hc with e | e | e | e | e | e | e | e
 ·exact parts_1 m cs w hM e hG h
 ·exact parts_3 m cs w hM e hG h
 ·exact parts_4 m cs w hM e hG h
 ·exact parts_5 m cs w hM e hG h
 ·cases hh : m.has with
  | false=>exact parts_7f m cs w hM e hh hG h
  | true=>exact parts_7t m cs w hM e hh hG h
 ·exact parts_8 m cs w hM e hG h
 ·exact parts_9 m cs w hM e hG h
 ·exact parts_10 m cs w hM e hG h
end Go.Proofs.YtconghaebebncaaGreatDoor.Ms
