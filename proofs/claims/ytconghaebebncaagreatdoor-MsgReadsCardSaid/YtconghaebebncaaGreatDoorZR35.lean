import Derived.Test.YtconghaebebncaaGreatDoorZR28
import Derived.Test.YtconghaebebncaaGreatDoorZR15
import Derived.Test.YtconghaebebncaaGreatDoorZR34
set_option linter.unusedVariables false
set_option maxRecDepth 100000
namespace Go.Proofs.YtconghaebebncaaGreatDoor.Ms
open Go.RowKit
attribute [local go_sem ↓] loadAtMsg
set_option maxHeartbeats 4000000 in
theorem opEl_less (m : Mg) (cs : Array Value) (w : World) (hM : isM m = true) (hop : m.op = 2 ∨ m.op = 6) (hG : Glob w) (h : MAt w (· < w.heap.size) m cs) :
  Calls Tryz.prog 75 #[.agg cs] w (NewEl w (opEl m)):=by
 have hd:=(isM_open hM).2.2.2.2.1
 have hel : opEl m = txt (opTag m.op m.ref) m.dn:=by unfold opEl; rw [if_pos hop]
 rw [hel]
 have F0:=Fr.new w 28 cs (.int .u8 0) (.string ⟨#[]⟩) (.slice none 0 0)
 have BR:=Blk.new (w.alloc (.cells cs 28)) 57 #[.int .u8 0, .string ⟨#[]⟩, .slice none 0 0]
 rw [show (w.alloc (.cells cs 28)).heap.size = w.heap.size + 1 by simp] at BR
 have b1:=(F0.1.cell 1).trans h.g1
 have b2:=(F0.1.cell 2).trans h.g2
 have HT:=Lib.hid (opTag_any m.op m.ref _ (hG.past F0.2.2))
 have htg:=opTag_le hM
 generalize opTag m.op m.ref = tg at HT htg ⊢
 clear hel
 go_enter Tryz.func75, Tryz.ntmps75
 go_wp2_with fail
 refine HT.out.mono ?_
 rintro e w1 ⟨rfl, hb1⟩
 have F1:=F0.past hb1
 have p1:=(F1.1.cell 1).trans h.g1
 have p3:=(F1.1.cell 3).trans h.g3
 clear b1 b2
 have HB:=Lib.hid ((BR.past hb1))
 have HF:=Lib.hid F1
 clear BR F0 F1 hb1 h hG hM
 rcases hop with e | e
 all_goals
  rw [e] at p1
  go_wp2_with fail
  refine (Be.Text_any tg m.dn w1 (by omega)).mono ?_
  rintro e w3 ⟨rfl, hb3⟩
  have B1 : Blk w3 (w.heap.size + 1) 57 #[.int .u8 0, .string ⟨#[]⟩, .slice none 0 0]:=HB.out.past hb3
  have c0 : w3.cell? ⟨w.heap.size + 1, 0, none⟩ = some (.int .u8 0):=B1.cell 0
  have c1 : w3.cell? ⟨w.heap.size + 1, 1, none⟩ = some (.string ⟨#[]⟩):=B1.cell 1
  have c2 : w3.cell? ⟨w.heap.size + 1, 2, none⟩ = some (.slice none 0 0):=B1.cell 2
  have g0:=B1.frozen 0
  have g1:=B1.frozen 1
  have g2:=B1.frozen 2
  have hbe:=(HF.out.past hb3).2.2
  clear p1 p3
  go_wp2_with fail
  exact bodyPost_ret (Be.res_el rfl _ _ (w.heap.size + 1) _ _ _ rfl (Be.Blk.set3 B1)) rfl (new_elG (P:=fun _=>False) hbe (by omega) (lies_leaf htg (by omega)) (fun b hb=>hb.elim))
set_option maxHeartbeats 4000000 in
theorem opEl_more (m : Mg) (cs : Array Value) (w : World) (hM : isM m = true) (h2 : m.op ≠ 2) (h6 : m.op ≠ 6) (hG : Glob w) (h : MAt w (· < w.heap.size) m cs) :
  Calls Tryz.prog 75 #[.agg cs] w (NewEl w (opEl m)):=by
 have hel : opEl m = lst (opTag m.op m.ref) (parts m):=by unfold opEl; rw [if_neg (by omega)]
 obtain ⟨hgp, hlp⟩:=parts_good hM
 have HC:=Lib.hid (fun w1 hb=>parts_any m cs w1 hM h2 h6 (hG.past hb) (h.past hb))
 rw [hel]
 have F0:=Fr.new w 28 cs (.int .u8 0) (.string ⟨#[]⟩) (.slice none 0 0)
 have BR:=Blk.new (w.alloc (.cells cs 28)) 57 #[.int .u8 0, .string ⟨#[]⟩, .slice none 0 0]
 rw [show (w.alloc (.cells cs 28)).heap.size = w.heap.size + 1 by simp] at BR
 have b1:=(F0.1.cell 1).trans h.g1
 have b2:=(F0.1.cell 2).trans h.g2
 have HT:=Lib.hid (opTag_any m.op m.ref _ (hG.past F0.2.2))
 have htg:=opTag_le hM
 generalize opTag m.op m.ref = tg at HT htg ⊢
 have q2 : (m.op == 2) = false:=by rw [beq_eq_false_iff_ne]; exact h2
 have q6 : (m.op == 6) = false:=by rw [beq_eq_false_iff_ne]; exact h6
 generalize parts m = ks at HC hgp hlp ⊢
 have HGP:=Lib.hid (fun k hk=>(hgp k hk).1)
 clear hel hgp hM
 go_enter Tryz.func75, Tryz.ntmps75
 go_wp2_with fail
 refine HT.out.mono ?_
 rintro e w1 ⟨rfl, hb1⟩
 have F1:=F0.past hb1
 have p1:=(F1.1.cell 1).trans h.g1
 have hB1 : Box w1 w.heap.size m cs:=⟨F1.1, h.past F1.2.2⟩
 have hld:=hB1.load
 clear b1 b2 h2 h6
 go_wp2_with fail
 refine (HC.out w1 F1.2.2).mono ?_
 rintro e w2 ⟨A1, c1', ds1, rfl, hb2, hK1⟩
 clear hld p1
 go_wp2_with fail
 refine (list_any tg htg ks 25 A1 c1' ds1 w2 (by omega) HGP.out hK1).mono ?_
 rintro e w3 ⟨A2, c2', ds2, rfl, hb3, hK2⟩
 have B1 : Blk w3 (w.heap.size + 1) 57 #[.int .u8 0, .string ⟨#[]⟩, .slice none 0 0]:=((BR.past hb1).past hb2).past hb3
 have c0 : w3.cell? ⟨w.heap.size + 1, 0, none⟩ = some (.int .u8 0):=B1.cell 0
 have c1 : w3.cell? ⟨w.heap.size + 1, 1, none⟩ = some (.string ⟨#[]⟩):=B1.cell 1
 have c2 : w3.cell? ⟨w.heap.size + 1, 2, none⟩ = some (.slice none 0 0):=B1.cell 2
 have g0:=B1.frozen 0
 have g1:=B1.frozen 1
 have g2:=B1.frozen 2
 have F3:=(F1.past hb2).past hb3
 have hbe:=F3.2.2
 have HK2:=Lib.hid hK2
 have hz2 : w.heap.size + 1 < w2.heap.size:=((BR.past hb1).past hb2).lt
 clear hK1 hK2
 go_wp2_with fail
 refine bodyPost_ret (Be.res_el rfl _ _ (w.heap.size + 1) _ _ _ rfl (Be.Blk.set3 B1)) rfl (NewLst.el htg (by omega) (new_lstG hbe (by omega) HK2.out (fun b hb=>⟨?_, ?_, hb.2⟩)))
 ·have:=hb.1; omega
 ·have:=hb.1; omega
theorem opEl_any (m : Mg) (cs : Array Value) (w : World) (hM : isM m = true) (hG : Glob w) (h : MAt w (· < w.heap.size) m cs) :
  Calls Tryz.prog 75 #[.agg cs] w (NewEl w (opEl m)):=by
 by_cases ho : m.op = 2 ∨ m.op = 6
 ·exact opEl_less m cs w hM ho hG h
 ·exact opEl_more m cs w hM (by omega) (by omega) hG h
set_option maxHeartbeats 4000000 in
theorem message_any (m : Mg) (cs : Array Value) (w : World) (hM : isM m = true) (hG : Glob w) (h : MAt w (· < w.heap.size) m cs) :
  Calls Tryz.prog 47 #[.agg cs] w (NewEl w (msgEl m)):=by
 obtain ⟨i0, i1, _⟩:=isM_open hM
 have hgo:=op_good hM
 have hg2 : ∀ e ∈ [num 2 m.id, opEl m], good 26 e:=fun e he=>by
  simp only [List.mem_cons, List.not_mem_nil, or_false] at he
  rcases he with rfl | rfl
  ·exact good_num (by decide) (by omega) (by omega)
  ·exact hgo.1
 have F0:=Fr.new w 28 cs (.int .u8 0) (.string ⟨#[]⟩) (.slice none 0 0)
 go_enter Tryz.func47, Tryz.ntmps47
 go_wp2_with fail
 refine wp_region_noPanic ?_
 refine wp_region_held_drew (S:=Fr w w.heap.size 28 cs (w.heap.size + 1)) (by kernel_rfl) F0.drew (fun hH0=>?_)
 refine Rg.tk 0 3 (.pointer (some ⟨w.heap.size, 0, none⟩)) rfl (by kernel_rfl) (fun _ _ _ h=>h) (fun _ _=>by kernel_rfl) hH0 ?_
 refine Rg.tk 1 4 (.int .i64 m.id) rfl (by kernel_rfl) (fun _ _ _ h=>h) (fun w' h'=>run_cell rfl rfl (by kernel_rfl) ((h'.1.cell 0).trans h.g0)) hH0 ?_
 refine Rg.tk 3 6 (.agg cs) rfl (by kernel_rfl) (fun _ _ _ h=>h) (fun w' h'=>run_loadRow rfl rfl h'.1 Tryz.underlying28 rfl (by rw [infoM, h.size])) hH0 ?_
 refine Rg.frame _ (by simp only [Rg.pu, List.set]; rfl) ?_
 refine Rg.cl 2 5 rfl (by kernel_rfl) 74 #[.int .i64 m.id] (by kernel_rfl) (integer_any m.id _ (by omega) (by omega)) ?_
 rintro _ w2 ⟨rfl, hb2⟩
 have hH1:=hH0.past hb2
 refine ⟨_, rfl, hH1, ?_⟩
 refine Rg.cl 4 7 rfl (by kernel_rfl) 75 #[.agg cs] (by kernel_rfl) (opEl_any m cs _ hM (hG.past hH1.2.2) (h.past hH1.2.2)) ?_
 rintro _ w3 ⟨t8, b8, A8, n8, c8, rfl, hb3, hL8⟩
 have hH2:=hH1.past hb3
 refine ⟨_, rfl, hH2, ?_⟩
 have hH3:=hH2.alloc (.cells #[.int .u8 2, .string (strOfNums (Be.intB m.id)), .slice none 0 0, .int .u8 (t8 : Nat), .string b8, .slice A8 n8 c8] 57)
 refine Rg.rn 5 8 (.slice (some ⟨w3.heap.size, 0, none⟩) 2 2) (w3.alloc (.cells #[.int .u8 2, .string (strOfNums (Be.intB m.id)), .slice none 0 0, .int .u8 (t8 : Nat), .string b8, .slice A8 n8 c8] 57)) rfl (by kernel_rfl) (by kernel_rfl) hH3 ?_
 refine Rg.frame _ (by simp only [Rg.pu, List.set]; rfl) ?_
 have hKK:=kids_lit (w:=w3) [num 2 m.id, opEl m] [[.int .u8 2, .string (strOfNums (Be.intB m.id)), .slice none 0 0], [.int .u8 (t8 : Nat), .string b8, .slice A8 n8 c8]] rfl (by simp) (fun i hi=>by
  match i, hi with
  | 0, _=>exact lies_num (by decide) (by omega) (by omega)
  | 1, _=>exact lies_old hL8)
 refine Rg.cl 6 9 rfl (by kernel_rfl) 73 #[.slice (some ⟨w3.heap.size, 0, none⟩) 2 2] (by kernel_rfl) (seq_any [num 2 m.id, opEl m] 26 _ 2 _ _ (by show 2 ≤ 20; omega) hg2 hKK) ?_
 rintro _ w9 ⟨A2, c2, ds2, rfl, hb9, hK2⟩
 have hH4:=hH3.past hb9
 refine ⟨_, rfl, hH4, ?_⟩
 have hH5:=hH4.store (by omega) (by omega) (.int .u8 48) (.string ⟨#[]⟩) (.slice A2 2 c2)
 refine Rg.sk 7 _ rfl (by kernel_rfl) (run_storeE hH4 rfl rfl rfl) hH5 ?_
 refine Rg.frame _ (by simp only [Rg.pu, List.set]; rfl) ?_
 refine wpAnyH_done (by kernel_rfl) ?_ _
 refine NoPanic.normal ?_
 go_wp2_with fail
 obtain ⟨_, ⟨x', y', z', hB2⟩, _⟩:=hH4
 refine bodyPost_ret (Be.res_el rfl _ _ (w.heap.size + 1) _ _ _ rfl (setRow_heap _ _ _ _ _ _ hB2)) rfl (NewLst.el (by decide) (by show 2 ≤ 20; omega) (new_row hH5.2.2 hK2 (fun b hb=>?_)))
 have h1:=hH3.2.2.size; have:=hH3.2.1; obtain ⟨_, _, _, hB4⟩:=this; have:=hB4.lt; exact ⟨by omega, by omega, hb.2⟩
end Go.Proofs.YtconghaebebncaaGreatDoor.Ms
namespace Go.Proofs.YtconghaebebncaaGreatDoor.Ms
open Go.RowKit
theorem asWorld_below (w : World) (g : Nat) (t : Addr) (n : Int) (hg : g ≤ t.block) (ht : t.block < w.heap.size) (hgw : g ≤ w.heap.size) : Below g w (asWorld w t n):=by
 have h0:=(((((Below.refl g w).alloc hgw (.cells #[.pointer (some t)] 84)).alloc (by simp; omega) (.cells #[.pointer (some ⟨4, 84, none⟩), .pointer (some ⟨w.heap.size, 0, none⟩), .int .u64 150] 113)).alloc (by simp; omega) (.cells #[.pointer (some ⟨4, 84, none⟩), .pointer (some ⟨w.heap.size, 0, none⟩), .int .u64 150] 113)).alloc (by simp; omega) (.cells #[.int .i64 n] 31))
 exact h0.setCell hg _
theorem asWorld_cell (w : World) (g : Nat) (t : TypeId) (n : Int) (c : Value) : Blk (asWorld (w.alloc (.cells #[c] t)) ⟨w.heap.size, 0, none⟩ n) w.heap.size t #[.int .i64 n]:=by
 have B:=Blk.new w t #[c]
 have B1:=((((B.alloc (.cells #[.pointer (some ⟨w.heap.size, 0, none⟩)] 84)).alloc (.cells #[.pointer (some ⟨4, 84, none⟩), .pointer (some ⟨(w.alloc (.cells #[c] t)).heap.size, 0, none⟩), .int .u64 150] 113)).alloc (.cells #[.pointer (some ⟨4, 84, none⟩), .pointer (some ⟨(w.alloc (.cells #[c] t)).heap.size, 0, none⟩), .int .u64 150] 113)).alloc (.cells #[.int .i64 n] 31))
 exact B1.set_ 0 (.int .i64 n)
def Told' (w : World) (n : Int) (r : Ending) (w' : World) : Prop:=r = .returned (.int .i64 n) ∧ Below w.heap.size w w'
theorem number_nil (w : World) : Calls Tryz.prog 21 #[.nilIface] w (Told' w 0):=by
 have hb:=Lib.hid ((Below.refl w.heap.size w).alloc (Nat.le_refl _) (.cells #[.int .i64 0] 31))
 have HA:=Lib.hid (fun x w=>as_nil x w)
 go_enter Tryz.func21, Tryz.ntmps21
 go_wp2_with fail
 refine (HA.out _ _).mono ?_
 rintro e w1 ⟨rfl, rfl⟩
 go_wp2_with fail
 go_ret
 exact ⟨rfl, hb.out⟩
theorem number_num (n : Int) (w : World) (hG : Glob w) : Calls Tryz.prog 21 #[.iface 31 (.int .i64 n)] w (Told' w n):=by
 have B:=Blk.new w 31 #[.int .i64 0]
 have hb0:=(Below.refl w.heap.size w).alloc (Nat.le_refl _) (.cells #[.int .i64 0] 31)
 have hb:=Lib.hid hb0
 have HA:=Lib.hid (as_num n ⟨w.heap.size, 0, none⟩ _ _ (hG.past hb0) (B.cell 0) (B.frozen 0))
 have HB:=Lib.hid (asWorld_cell w w.heap.size 31 n (.int .i64 0))
 have HL:=Lib.hid (asWorld_below (w.alloc (.cells #[.int .i64 0] 31)) w.heap.size ⟨w.heap.size, 0, none⟩ n (Nat.le_refl _) (by simp) (by simp))
 clear B hb0 hG
 go_enter Tryz.func21, Tryz.ntmps21
 go_wp2_with fail
 refine HA.out.mono ?_
 rintro e w1 ⟨rfl, rfl⟩
 have c:=HB.out.cell 0
 go_wp2_with fail
 go_ret
 exact ⟨rfl, hb.out.trans HL.out⟩
theorem number_fault (pb : Nat) (n : Int) (w : World) (hG : Glob w) (h0 : w.cell? ⟨pb, 0, none⟩ = some (.iface 31 (.int .i64 n))) : Calls Tryz.prog 21 #[.iface 101 (.pointer (some ⟨pb, 0, none⟩))] w (Told' w n):=by
 have B:=Blk.new w 31 #[.int .i64 0]
 have hb0:=(Below.refl w.heap.size w).alloc (Nat.le_refl _) (.cells #[.int .i64 0] 31)
 have hb:=Lib.hid hb0
 have h1 : (w.alloc (.cells #[.int .i64 0] 31)).cell? ⟨pb, 0, none⟩ = some (.iface 31 (.int .i64 n)):=by rw [World.cell?_alloc_lt _ _ ⟨pb, 0, none⟩ (cell_lt h0)]; exact h0
 have HA:=Lib.hid (as_fault pb n ⟨w.heap.size, 0, none⟩ _ _ (hG.past hb0) h1 (B.cell 0) (B.frozen 0))
 have HB:=Lib.hid (asWorld_cell w w.heap.size 31 n (.int .i64 0))
 have HL:=Lib.hid (asWorld_below (w.alloc (.cells #[.int .i64 0] 31)) w.heap.size ⟨w.heap.size, 0, none⟩ n (Nat.le_refl _) (by simp) (by simp))
 clear B hb0 hG h1
 go_enter Tryz.func21, Tryz.ntmps21
 go_wp2_with fail
 refine HA.out.mono ?_
 rintro e w1 ⟨rfl, rfl⟩
 have c:=HB.out.cell 0
 go_wp2_with fail
 go_ret
 exact ⟨rfl, hb.out.trans HL.out⟩
end Go.Proofs.YtconghaebebncaaGreatDoor.Ms
namespace Go.Proofs.YtconghaebebncaaGreatDoor.Ms
open Go.RowKit
def SaidSz (e : Be.El) : Prop:=∀ (x y z : Value) (w : World), (Be.enc e).length ≤ 1099511627776 → Be.Lies w (· < w.heap.size) e [x, y, z] →
  Calls Tryz.prog 48 #[.agg #[x, y, z]] w fun r w'=>r = .returned (.int .i64 ((Be.enc e).length : Nat)) ∧ Below w.heap.size w w'
set_option maxHeartbeats 4000000 in
theorem sz_any (e : Be.El) : SaidSz e:=by
 refine Be.El.ind (p:=SaidSz) ?_ e
 intro t b ks ih x y z w hlen hL
 obtain ⟨A, c, ds, hcs, ht, hb0, hl, hK⟩:=hL.open_
 simp only [List.cons.injEq, and_true] at hcs
 obtain ⟨rfl, rfl, rfl⟩:=hcs
 unfold maxLen at hl hb0
 have htot : (Be.enc (.mk t b ks)).length = 2 + Be.more (b.size + (Be.encs ks).length) + (b.size + (Be.encs ks).length):=Be.enc_len (.mk t b ks)
 have hkid : ∀ q, q < ks.length → b.size + (Be.encs (ks.take (q + 1))).length ≤ 1099511627776:=fun q hq=>by have:=Be.encs_take_le ks (q + 1); omega
 have hall : b.size + (Be.encs ks).length ≤ 1099511627776:=by omega
 have Ih:=Lib.hid ih
 have HK:=Lib.hid hkid
 have HT:=Lib.hid htot
 clear ih hkid htot hlen hL
 go_enter Tryz.func48, Tryz.ntmps48
 go_wp2_with fail
 go_loopw [3, 13] (fun n i wr=>∃ (q m : Nat), q ≤ ks.length ∧ i = .int .i64 q ∧ n = .int .i64 m ∧ Hid (m = b.size + (Be.encs (ks.take q)).length) ∧ m ≤ 1099511627776 ∧ Below w.heap.size w wr) (fun n i wr=>ks.length - (intOf i).toNat)
 case atStart=>exact ⟨0, b.size, Nat.zero_le _, rfl, rfl, by show _ = _; simp [Be.encs], by omega, (Below.refl _ _).alloc (Nat.le_refl _) _⟩
 case round =>
  obtain ⟨q, m, hq, rfl, rfl, hE, hm, hb⟩:=hrel
  have hs:=hb.size
  by_cases hlt : q < ks.length
  ·obtain ⟨ad, t', b', A', n', c', rfl, hp, f0, f1, f2, hL⟩:=hK.kid5 hb hlt
   have hE2:=Be.encs_take hlt
   have hk2:=HK.out q hlt
   rw [hE2, List.length_append] at hk2
   have hE3 : b.size + (Be.encs (ks.take (q + 1))).length = m + (Be.enc ks[q]).length:=by rw [hE2, List.length_append, hE.out]; omega
   have hle : m + (Be.enc ks[q]).length ≤ 1099511627776:=by rw [hE.out]; omega
   have H:=Ih.out _ (List.getElem_mem hlt) _ _ _ _ (by omega) (hL.alloc (.cells #[.int .u8 t', .string b', .slice A' n' c'] 57))
   have hbM:=hb.alloc hs (.cells #[.int .u8 t', .string b', .slice A' n' c'] 57)
   generalize (Be.enc ks[q]).length = s at H hE3 hle
   have HE:=Lib.hid hE3
   have HH:=Lib.hid H
   clear hE hE2 hE3 H hk2 hL
   go_wp2_with fail
   refine HH.out.mono ?_
   rintro e w1 ⟨rfl, hb1⟩
   have hb2:=hbM.trans (hb1.mono hbM.size)
   clear hb1 hbM hb
   go_wp2_with fail
   refine ⟨⟨q + 1, m + s, by omega, by go_num, by go_num, HE.out.symm, hle, hb2⟩, by simp [intOf]; omega⟩
  ·have hq2 : q = ks.length:=by omega
   subst hq2
   have hE2:=hE.out
   rw [List.take_length] at hE2
   have hr:=HT.out
   rw [← hE2] at hr
   clear hE hE2 HK
   by_cases h1 : 255 < (m : Int)
   ·have hmore : Be.more m = 2:=by unfold Be.more; rw [if_neg (by omega), if_neg (by omega)]
    rw [hmore] at hr
    have HR:=Lib.hid hr
    clear hr hmore
    go_wp2_with fail
    go_ret
    refine ⟨?_, hb⟩
    rw [HR.out]
    go_num
   ·have h1' : (m : Int) ≤ 255:=by omega
    have d1 : decide (255 < (m : Int)) = false:=decide_eq_false h1
    clear h1
    by_cases h2 : 127 < (m : Int)
    ·have hmore : Be.more m = 1:=by unfold Be.more; rw [if_neg (by omega), if_pos (by omega)]
     rw [hmore] at hr
     have HR:=Lib.hid hr
     clear hr hmore
     go_wp2_with fail
     go_ret
     refine ⟨?_, hb⟩
     rw [HR.out]
     go_num
    ·have h2' : (m : Int) ≤ 127:=by omega
     have d2 : decide (127 < (m : Int)) = false:=decide_eq_false h2
     have hmore : Be.more m = 0:=by unfold Be.more; rw [if_pos (by omega)]
     rw [hmore] at hr
     have HR:=Lib.hid hr
     clear hr hmore h2
     go_wp2_with fail
     go_ret
     refine ⟨?_, hb⟩
     rw [HR.out]
     go_num
end Go.Proofs.YtconghaebebncaaGreatDoor.Ms
namespace Go.Proofs.YtconghaebebncaaGreatDoor.Ms
open Go.RowKit
attribute [local go_sem ↓] loadAtMsg
def SaidE (w : World) (p : List UInt8 × Nat) (r : Ending) (w' : World) : Prop :=
 r = .returned (.tuple #[.string ⟨p.1.toArray⟩, if p.2 = 0 then .nilIface else .iface 31 (.int .i64 p.2)]) ∧ Below w.heap.size w w'
theorem wr_msg {m : Mg} (h : isM m = true) (hl : (Be.enc (msgEl m)).length ≤ 4000) : Be.wr (msgEl m) = if 20 < Be.dep (msgEl m) then ([], 12) else (Be.enc (msgEl m), 0):=by
 have hf:=(msg_good h).1.1
 have:=Be.enc_len (msgEl m)
 unfold Be.wr
 rw [if_neg (by rw [hf]; decide), if_neg (show ¬ 4000 < Be.bodyLen (msgEl m) by omega)]
set_option maxHeartbeats 4000000 in
theorem encode_any (m : Mg) (cs : Array Value) (w : World) (hG : Glob w) (h : MAt w (· < w.heap.size) m cs) : Calls Tryz.prog 20 #[.agg cs] w (SaidE w (encM m)):=by
 have B:=Box.new h
 have hb0:=(Below.refl w.heap.size w).alloc (Nat.le_refl _) (.cells cs 28)
 have HI:=Lib.hid (Is_any m cs _ (h.past hb0))
 have hld:=B.load
 have HB:=Lib.hid B
 have hb:=Lib.hid hb0
 by_cases hM : isM m = true
 ·have HM:=Lib.hid (fun w1 hb=>message_any m cs w1 hM (hG.past hb) (h.past hb))
  have hgo:=msg_good hM
  have hlen:=hgo.2
  rw [hM] at HI
  have HS:=Lib.hid (fun x y z w1 h=>sz_any (msgEl m) x y z w1 (by omega) h)
  have HW:=Lib.hid (fun x y z w1 h=>Be.Write_any 20 400 27 (msgEl m) x y z w1 (by omega) (by omega) hgo.1.2.2 h)
  by_cases hl : (Be.enc (msgEl m)).length ≤ 4000
  ·have hr:=Lib.hid (show encM m = Be.wr (msgEl m) by
    rw [wr_msg hM hl]; unfold encM; rw [if_neg (by rw [hM]; decide), if_neg (by omega)])
   have hwv:=Lib.hid (show Be.wrV (msgEl m) = .tuple #[.string ⟨(encM m).1.toArray⟩, .int .i64 (encM m).2] by unfold Be.wrV; rw [hr.out])
   have hl2 : ((Be.enc (msgEl m)).length : Int) ≤ 4000:=by omega
   generalize encM m = p at hwv hr ⊢
   generalize (Be.enc (msgEl m)).length = n at HS hl2 hl hlen
   generalize Be.wrV (msgEl m) = wv at HW hwv
   cases hwv.out
   clear B h hG hb0 hgo hlen hM hwv hl
   by_cases hp : p.2 = 0
   ·have hp1 : ((p.2 : Int) != 0) = false:=by rw [bne_eq_false_iff_eq]; omega
    have hp2:=Lib.hid hp
    clear hp
    go_enter Tryz.func20, Tryz.ntmps20
    go_wp2_with fail
    refine HI.out.mono ?_
    rintro e w1 ⟨rfl, hb1⟩
    have hb2:=hb.out.trans (hb1.mono hb.out.size)
    have hld1:=(HB.out.past hb1).load
    clear hld
    go_wp2_with fail
    refine (HM.out _ hb2).mono ?_
    rintro e w2 ⟨t, b, A, k, c, rfl, hb3, hL⟩
    have hb4:=hb2.trans (hb3.mono hb2.size)
    have hL2:=hL.imp (P':=(· < w2.heap.size)) (fun b hb=>hb.2) (fun _ _=>rfl)
    have Bx:=Blk.new w2 57 #[.int .u8 t, .string b, .slice A k c]
    have hL3:=hL2.past ((Below.refl w2.heap.size w2).alloc (Nat.le_refl _) (.cells #[.int .u8 t, .string b, .slice A k c] 57))
    have hb5:=hb4.alloc hb4.size (.cells #[.int .u8 t, .string b, .slice A k c] 57)
    have HBx:=Lib.hid Bx
    clear hL hL2 Bx hld1
    go_wp2_with fail
    refine (HS.out _ _ _ _ hL3).mono ?_
    rintro e w3 ⟨rfl, hb6⟩
    have hb7:=hb5.trans (hb6.mono hb5.size)
    have Bx:=HBx.out.past hb6
    have c0:=Bx.cell 0
    have c1:=Bx.cell 1
    have c2:=Bx.cell 2
    have hL4:=hL3.past hb6
    clear hL3 Bx
    go_wp2_with fail
    refine (HW.out _ _ _ _ hL4).mono ?_
    rintro e w4 ⟨rfl, hb8⟩
    have hb9:=hb7.trans (hb8.mono hb7.size)
    go_wp2_with fail
    go_ret2
    exact ⟨by rw [if_pos hp2.out]; rfl, hb9⟩
   ·have hp1 : ((p.2 : Int) != 0) = true:=by rw [bne_iff_ne]; omega
    have hp2:=Lib.hid hp
    have hp3:=Lib.hid (show p.1 = [] by
     have:=hr.out
     subst this
     unfold Be.wr at hp ⊢
     split
     ·rfl
     ·split
      ·rfl
      ·split
       ·rfl
       ·exfalso; rename_i a b c; rw [if_neg a, if_neg b, if_neg c] at hp; exact hp rfl)
    clear hp
    go_enter Tryz.func20, Tryz.ntmps20
    go_wp2_with fail
    refine HI.out.mono ?_
    rintro e w1 ⟨rfl, hb1⟩
    have hb2:=hb.out.trans (hb1.mono hb.out.size)
    have hld1:=(HB.out.past hb1).load
    clear hld
    go_wp2_with fail
    refine (HM.out _ hb2).mono ?_
    rintro e w2 ⟨t, b, A, k, c, rfl, hb3, hL⟩
    have hb4:=hb2.trans (hb3.mono hb2.size)
    have hL2:=hL.imp (P':=(· < w2.heap.size)) (fun b hb=>hb.2) (fun _ _=>rfl)
    have Bx:=Blk.new w2 57 #[.int .u8 t, .string b, .slice A k c]
    have hL3:=hL2.past ((Below.refl w2.heap.size w2).alloc (Nat.le_refl _) (.cells #[.int .u8 t, .string b, .slice A k c] 57))
    have hb5:=hb4.alloc hb4.size (.cells #[.int .u8 t, .string b, .slice A k c] 57)
    have HBx:=Lib.hid Bx
    clear hL hL2 Bx hld1
    go_wp2_with fail
    refine (HS.out _ _ _ _ hL3).mono ?_
    rintro e w3 ⟨rfl, hb6⟩
    have hb7:=hb5.trans (hb6.mono hb5.size)
    have Bx:=HBx.out.past hb6
    have c0:=Bx.cell 0
    have c1:=Bx.cell 1
    have c2:=Bx.cell 2
    have hL4:=hL3.past hb6
    clear hL3 Bx
    go_wp2_with fail
    refine (HW.out _ _ _ _ hL4).mono ?_
    rintro e w4 ⟨rfl, hb8⟩
    have hb9:=hb7.trans (hb8.mono hb7.size)
    go_wp2_with fail
    go_ret2
    exact ⟨by rw [if_neg hp2.out, hp3.out]; rfl, hb9⟩
  ·have hr:=Lib.hid (show encM m = ([], 13) by unfold encM; rw [if_neg (by rw [hM]; decide), if_pos (by omega)])
   have hl2 : ¬ ((Be.enc (msgEl m)).length : Int) ≤ 4000:=by omega
   have hl3 : (4000 : Int) < ((Be.enc (msgEl m)).length : Int):=by omega
   generalize encM m = p at hr ⊢
   generalize (Be.enc (msgEl m)).length = n at HS hl2 hl3 hl hlen
   cases hr.out
   clear B h hG hb0 hgo hlen hM HW hl hr
   go_enter Tryz.func20, Tryz.ntmps20
   go_wp2_with fail
   refine HI.out.mono ?_
   rintro e w1 ⟨rfl, hb1⟩
   have hb2:=hb.out.trans (hb1.mono hb.out.size)
   have hld1:=(HB.out.past hb1).load
   clear hld
   go_wp2_with fail
   refine (HM.out _ hb2).mono ?_
   rintro e w2 ⟨t, b, A, k, c, rfl, hb3, hL⟩
   have hb4:=hb2.trans (hb3.mono hb2.size)
   have hL2:=hL.imp (P':=(· < w2.heap.size)) (fun b hb=>hb.2) (fun _ _=>rfl)
   have hL3:=hL2.past ((Below.refl w2.heap.size w2).alloc (Nat.le_refl _) (.cells #[.int .u8 t, .string b, .slice A k c] 57))
   have hb5:=hb4.alloc hb4.size (.cells #[.int .u8 t, .string b, .slice A k c] 57)
   clear hL hL2 hld1
   go_wp2_with fail
   refine (HS.out _ _ _ _ hL3).mono ?_
   rintro e w3 ⟨rfl, hb6⟩
   have hb7:=hb5.trans (hb6.mono hb5.size)
   clear hL3
   go_wp2_with fail
   go_ret2
   exact ⟨rfl, hb7⟩
 ·have hM : isM m = false:=by simpa using hM
  have hr:=Lib.hid (show encM m = ([], 14) by unfold encM; rw [if_pos hM])
  rw [hM] at HI
  generalize encM m = p at hr ⊢
  cases hr.out
  clear B h hG hb0 hM hr HB
  go_enter Tryz.func20, Tryz.ntmps20
  go_wp2_with fail
  refine HI.out.mono ?_
  rintro e w1 ⟨rfl, hb1⟩
  have hb2:=hb.out.trans (hb1.mono hb.out.size)
  go_wp2_with fail
  go_ret2
  exact ⟨rfl, hb2⟩
def encV (p : List UInt8 × Nat) : Value:=.tuple #[.string ⟨p.1.toArray⟩, .int .i64 p.2]
set_option maxHeartbeats 4000000 in
theorem Encode_any (m : Mg) (cs : Array Value) (w : World) (hG : Glob w) (h : MAt w (· < w.heap.size) m cs) : Calls Tryz.prog 11 #[.agg cs] w fun r w'=>r = .returned (encV (encM m)) ∧ Below w.heap.size w w':=by
 have B:=Box.new h
 have hb0:=(Below.refl w.heap.size w).alloc (Nat.le_refl _) (.cells cs 28)
 have HE:=Lib.hid (encode_any m cs _ (hG.past hb0) (h.past hb0))
 have hld:=B.load
 have hb:=Lib.hid hb0
 have HG:=Lib.hid hG
 have HN:=Lib.hid (fun (n : Nat) w1 (hb1 : Below w.heap.size w w1)=>number_num n w1 (hG.past hb1))
 have HO:=Lib.hid (fun w1=>number_nil w1)
 generalize encM m = p at HE ⊢
 clear B h hb0 hG
 by_cases hp : p.2 = 0
 ·go_enter Tryz.func11, Tryz.ntmps11
  go_wp2_with fail
  refine HE.out.mono ?_
  rintro e w1 ⟨rfl, hb1⟩
  rw [if_pos hp]
  have hb2:=hb.out.trans (hb1.mono hb.out.size)
  have hp2:=Lib.hid hp
  clear hp
  go_wp2_with fail
  refine (HO.out _).mono ?_
  rintro e w2 ⟨rfl, hb3⟩
  go_wp2_with fail
  go_ret2
  exact ⟨by unfold encV; rw [hp2.out]; rfl, hb2.trans (hb3.mono hb2.size)⟩
 ·go_enter Tryz.func11, Tryz.ntmps11
  go_wp2_with fail
  refine HE.out.mono ?_
  rintro e w1 ⟨rfl, hb1⟩
  rw [if_neg hp]
  have hb2:=hb.out.trans (hb1.mono hb.out.size)
  clear hp
  go_wp2_with fail
  refine (HN.out _ _ hb2).mono ?_
  rintro e w2 ⟨rfl, hb3⟩
  go_wp2_with fail
  go_ret2
  exact ⟨rfl, hb2.trans (hb3.mono hb2.size)⟩
end Go.Proofs.YtconghaebebncaaGreatDoor.Ms
