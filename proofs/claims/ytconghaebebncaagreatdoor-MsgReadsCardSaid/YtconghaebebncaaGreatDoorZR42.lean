import Derived.Test.YtconghaebebncaaGreatDoorZR41
set_option linter.unusedVariables false
set_option maxRecDepth 100000
namespace Go.Proofs.YtconghaebebncaaGreatDoor.Ms
open Go.RowKit
attribute [local go_sem ↓] loadAtMsg
theorem res_msg2 {fn : Func} {p q : Tmp} (h : fn.results = #[.cell p 28, .tmp q]) (tmps : Array Value) (w : World) (g : Nat) (cs : Array Value) (v : Value) (hp : tmps.getD p undef = .pointer (some ⟨g, 0, none⟩)) (hq : tmps.getD q undef = v)
  (B : Blk w g 28 cs) (hn : cs.size = 23) : (results fn tmps).run Tryz.prog w = .ok (.tuple #[.agg cs, v]) w:=by
 rw [results_cell_tmp h, hp, hq]
 simp only [asAddr, Sem.run_pure, Result.andThen_ok, run_loadVar_row w g _ 28 cs (0, 0) _ B Tryz.underlying28 rfl (by rw [infoM, hn])]
def ErrAt (w : World) (n : Nat) (v : Value) : Prop :=
 (n = 0 ∧ v = .nilIface) ∨ v = .iface 31 (.int .i64 n) ∨ ∃ pb, v = .iface 101 (.pointer (some ⟨pb, 0, none⟩)) ∧ w.cell? ⟨pb, 0, none⟩ = some (.iface 31 (.int .i64 n))
theorem ErrAt.past {w w' : World} {n : Nat} {v : Value} (h : ErrAt w n v) (hb : Below w.heap.size w w') : ErrAt w' n v:=by
 rcases h with h | h | ⟨pb, h1, h2⟩
 ·exact .inl h
 ·exact .inr (.inl h)
 ·exact .inr (.inr ⟨pb, h1, (hb.cell (cell_lt h2)).trans h2⟩)
def DecP (w : World) (d : Mg × Nat) (r : Ending) (w' : World) : Prop :=
 ∃ cs v, r = .returned (.tuple #[.agg cs, v]) ∧ Below w.heap.size w w' ∧ MAt w' (fun b=>w.heap.size ≤ b ∧ b < w'.heap.size) d.1 cs ∧ ErrAt w' d.2 v
set_option maxHeartbeats 4000000 in
theorem dec_bad (s : ByteArray) (w : World) (hs : s.size ≤ 1099511627776) (p x : Nat) (hr : Be.rd 20 s.data.toList 0 = .bad p x) :
  Calls Tryz.prog 45 #[.string s] w (DecP w (zero, x)):=by
 obtain ⟨ic, zs, hz, hMi, hM0, ez, ei⟩:=id_cells 0
 have hx : (((x : Nat) : Int) != 0) = true:=by rw [bne_iff_ne]; have:=Be.rd_bad hr; omega
 have hb0:=(Below.refl w.heap.size w).alloc (Nat.le_refl _) (.cells zs 28)
 have BR:=Blk.new w 28 zs
 have HR0:=Be.Read_any s (w.alloc (.cells zs 28)) hs
 rw [hr] at HR0
 have HR:=Lib.hid HR0
 have HEz:=Lib.hid ez
 have HM0:=Lib.hid hM0
 have HBR:=Lib.hid BR
 clear HR0 hM0 BR hr hMi ei
 go_enter Tryz.func45, Tryz.ntmps45
 go_wp2_with fail
 rw [← ez]
 clear ez
 refine HR.out.mono ?_
 rintro r w1 ⟨rfl, hb1⟩
 have hb2:=hb0.trans (hb1.mono hb0.size)
 have BR3:=((HBR.out.past hb1).alloc (.cells #[.int .u8 0, .string ⟨#[]⟩, .slice none 0 0] 57)).alloc (.cells #[.iface 31 (.int .i64 (x : Nat)), .int .i64 (p : Nat)] 103)
 have hb3:=(hb2.alloc hb2.size (.cells #[.int .u8 0, .string ⟨#[]⟩, .slice none 0 0] 57)).alloc (by have:=hb2.size; simp; omega) (.cells #[.iface 31 (.int .i64 (x : Nat)), .int .i64 (p : Nat)] 103)
 have BF:=new2 w1 #[.int .u8 0, .string ⟨#[]⟩, .slice none 0 0] #[.iface 31 (.int .i64 (x : Nat)), .int .i64 (p : Nat)] 57 103
 have hs1:=hb1.size
 simp at hs1
 have HBR3:=Lib.hid BR3
 have HBF:=Lib.hid BF
 have Hb3:=Lib.hid hb3
 clear hb0 hb1 hb2 hb3 BR3 BF HBR
 go_wp2_with (first | (refine wpList_gives rfl (.build 28 #[]) rfl (.agg zs) (by rw [HEz.out]; kernel_rfl) ?_) | (refine wpList_mark (.store 28 (.tmp 2) (.tmp 20)) rfl ?_; refine wpList_store_row rfl 28 _ _ rfl w.heap.size zs rfl rfl 28 zs HBR3.out (by rw [infoM, hz]) rfl (HM0.out w (fun _=>True)).one ?_))
 refine bodyPost_ret (res_msg2 rfl _ _ w.heap.size zs _ rfl rfl (setRow_heap _ _ _ zs _ _ HBR3.out) hz) rfl ⟨zs, _, rfl, below_setRow Hb3.out (Nat.le_refl _) zs, HM0.out _ _, .inr (.inr ⟨_, rfl, ?_⟩)⟩
 exact (cell_setRow_other _ _ _ _ (by simp; omega)).trans (HBF.out.cell 0)
set_option maxHeartbeats 4000000 in
theorem dec_ok (s : ByteArray) (w : World) (hG : Glob w) (hs : s.size ≤ 1099511627776) (e : Be.El) (n : Nat) (hr : Be.rd 20 s.data.toList 0 = .ok e n) (same : Bool) (hsm : decide ((encM (rdMW e)).1 = s.data.toList) = same) :
  Calls Tryz.prog 45 #[.string s] w (DecP w (if same then (rdMW e, 0) else (zero, 14))):=by
 obtain ⟨ic, zs, hz, hMi, hM0, ez, ei⟩:=id_cells 0
 have hfew:=rd_few hr
 have hb0:=(Below.refl w.heap.size w).alloc (Nat.le_refl _) (.cells zs 28)
 have BR:=Blk.new w 28 zs
 have HR0:=Be.Read_any s (w.alloc (.cells zs 28)) hs
 rw [hr] at HR0
 have HR:=Lib.hid HR0
 have HM:=Lib.hid (fun t b A n c w=>readMessage_any e t b A n c w hfew)
 have HEn:=Lib.hid (fun cs w=>Encode_any (rdMW e) cs w)
 have hT : ∃ T x, encV (encM (rdMW e)) = .tuple #[.string T, .int .i64 x] ∧ (T.toList == s.toList) = same:=by
  refine ⟨_, _, rfl, ?_⟩
  rw [Fi.toList_eq, ← hsm]
  refine decide_eq_decide.2 ⟨fun h=>?_, fun h=>?_⟩
  ·have h1 : (⟨(encM (rdMW e)).1.toArray⟩ : ByteArray).data.toList = s.data.toList:=by rw [h]
   simpa using h1
  ·apply ByteArray.ext
   apply Array.toList_inj.1
   simpa using h
 obtain ⟨T, x, hT1, hT2⟩:=hT
 rw [hT1] at HEn
 generalize rdMW e = m at HM HEn ⊢
 generalize hd : (if same = true then (m, 0) else (zero, 14)) = d
 have HD:=Lib.hid hd
 clear hd
 have HEz:=Lib.hid ez
 have HM0:=Lib.hid hM0
 have HBR:=Lib.hid BR
 have HG:=Lib.hid hG
 clear HR0 hM0 BR hr hMi ei hT1 hsm hG
 go_enter Tryz.func45, Tryz.ntmps45
 go_wp2_with fail
 rw [← ez]
 clear ez
 refine HR.out.mono ?_
 rintro r w1 ⟨c0, c1, c2, rfl, hb1, hL⟩
 obtain ⟨A, c, hcs⟩:=Lies_cells hL
 simp only [List.cons.injEq, and_true] at hcs
 obtain ⟨rfl, rfl, rfl⟩:=hcs
 have hb2:=hb0.trans (hb1.mono hb0.size)
 have hb3:=hb2.alloc hb2.size (.cells #[.int .u8 (tagE e : Nat), .string (bodyE e), .slice A (kidsE e).length c] 57)
 have BR3:=(HBR.out.past hb1).alloc (.cells #[.int .u8 (tagE e : Nat), .string (bodyE e), .slice A (kidsE e).length c] 57)
 have BE3:=Blk.new w1 57 #[.int .u8 (tagE e : Nat), .string (bodyE e), .slice A (kidsE e).length c]
 have e0:=BE3.cell 0
 have e1:=BE3.cell 1
 have e2:=BE3.cell 2
 have HL3:=Lib.hid (((hL.imp (P':=(· < w1.heap.size)) (fun _ h=>h.2) (fun _ _=>rfl)).past ((Below.refl _ _).alloc (Nat.le_refl _) (.cells #[.int .u8 (tagE e : Nat), .string (bodyE e), .slice A (kidsE e).length c] 57))))
 have hs1:=hb1.size
 simp at hs1
 have HBR3:=Lib.hid BR3
 have Hb3:=Lib.hid hb3
 clear hb0 hb1 hb2 hb3 BR3 BE3 HBR hL
 go_wp2_with fail
 refine (HM.out _ _ _ _ _ _ (HG.out.past Hb3.out) HL3.out).mono ?_
 rintro r w2 ⟨cs, rfl, hb4, hM2⟩
 have hb5:=Hb3.out.trans (hb4.mono Hb3.out.size)
 have BR4:=HBR3.out.past hb4
 have hMo:=hM2.imp (P':=(· < w2.heap.size)) (fun _ h=>h.2) (fun _ _=>rfl)
 have BM:=Box.new hMo
 have HMN:=Lib.hid (((hM2.imp (P':=fun b=>w.heap.size < b ∧ b < w2.heap.size) (fun b h=>⟨by have:=h.1; simp at this; have:=hs1; omega, h.2⟩) (fun _ _=>rfl)).imp (w':=w2.alloc (.cells cs 28)) (P':=fun b=>w.heap.size < b ∧ b < w2.heap.size) (fun _ h=>h) (fun p hp=>World.cell?_alloc_lt _ _ p hp.2)))
 have hbA:=(Below.refl w2.heap.size w2).alloc (Nat.le_refl _) (.cells cs 28)
 have hb6:=hb5.alloc hb5.size (.cells cs 28)
 have BR5:=BR4.alloc (.cells cs 28)
 have hs2:=hb4.size
 simp at hs2
 have HM2:=Lib.hid hM2
 have HBM:=Lib.hid BM
 have HBR5:=Lib.hid BR5
 have Hb6:=Lib.hid hb6
 clear hb4 hb5 hb6 BR4 BR5 HBR3 Hb3 HL3 BM hM2 e0 e1 e2 hbA
 go_wp2_with (first | (refine wpList_mark (.store 28 (.tmp 8) (.tmp 28)) rfl ?_; refine wpList_store_row rfl 28 _ _ rfl w2.heap.size cs rfl rfl 28 _ (heap_alloc_new w2 _) (by rw [infoM, HM2.out.size]) ?_ HM2.out.one ?_; exact Eq.trans rfl HM2.out.size.symm; rw [World.setRow_alloc_new]) | (refine wpList_mark (.load 28 (.tmp 8)) rfl ?_; refine wpList_load_row rfl 28 _ rfl w2.heap.size rfl _ cs (0, 0) _ HBM.out.1 Tryz.underlying28 rfl (by rw [infoM, HM2.out.size]) ?_))
 refine (HEn.out cs _ (HG.out.past Hb6.out) HBM.out.2).mono ?_
 rintro r w3 ⟨rfl, hb7⟩
 have hb8:=Hb6.out.trans (hb7.mono Hb6.out.size)
 have HBM3:=Lib.hid (HBM.out.past hb7)
 have HMN3:=Lib.hid (HMN.out.imp (w':=w3) (P':=fun b=>w.heap.size < b ∧ b < w3.heap.size) (fun b h=>⟨h.1, by have:=hb7.size; simp at this; have:=h.2; omega⟩) (fun p hp=>hb7.cell (by simp; have:=hp.2; omega)))
 have HBR6:=Lib.hid (HBR5.out.past hb7)
 have Hb8:=Lib.hid hb8
 have hs3:=hb7.size
 simp at hs3
 clear hb7 hb8 HBM HBR5 Hb6
 cases same with
 | false =>
  obtain rfl : d = (zero, 14):=HD.out.symm
  have hT3 : (T.toList != s.toList) = true:=by unfold bne; rw [hT2]; rfl
  go_wp2_with (first | (refine wpList_gives rfl (.build 28 #[]) rfl (.agg zs) (by rw [HEz.out]; kernel_rfl) ?_) | (refine wpList_mark (.store 28 (.tmp 2) (.tmp 37)) rfl ?_; refine wpList_store_row rfl 28 _ _ rfl w.heap.size zs rfl rfl 28 zs HBR6.out (by rw [infoM, hz]) rfl (HM0.out w (fun _=>True)).one ?_))
  exact bodyPost_ret (res_msg2 rfl _ _ w.heap.size zs _ rfl rfl (setRow_heap _ _ _ zs _ _ HBR6.out) hz) rfl ⟨zs, _, rfl, below_setRow Hb8.out (Nat.le_refl _) zs, HM0.out _ _, .inr (.inl rfl)⟩
 | true =>
  obtain rfl : d = (m, 0):=HD.out.symm
  have hT3 : (T.toList != s.toList) = false:=by unfold bne; rw [hT2]; rfl
  go_wp2_with (first | (refine wpList_mark (.load 28 (.tmp 8)) rfl ?_; refine wpList_load_row rfl 28 _ rfl w2.heap.size rfl _ cs (0, 0) _ HBM3.out.1 Tryz.underlying28 rfl (by rw [infoM, HM2.out.size]) ?_) | (refine wpList_mark (.store 28 (.tmp 2) (.tmp 39)) rfl ?_; refine wpList_store_row rfl 28 _ _ rfl w.heap.size cs rfl rfl 28 zs HBR6.out (by rw [infoM, HM2.out.size]) (hz.trans HM2.out.size.symm) HM2.out.one ?_))
  exact bodyPost_ret (res_msg2 rfl _ _ w.heap.size cs _ rfl rfl (setRow_heap _ _ _ cs _ _ HBR6.out) HM2.out.size) rfl ⟨cs, _, rfl, below_setRow Hb8.out (Nat.le_refl _) cs, HMN3.out.imp (fun _ h=>⟨by have:=h.1; omega, by rw [setRow_size]; exact h.2⟩) (fun p hp=>cell_setRow_other _ _ _ _ (by have:=hp.1; omega)), .inl ⟨rfl, rfl⟩⟩
theorem run_storeM {w : World} {g : Nat} {cs old : Array Value} {ev : Operand → Value} {o : Oper} {p q : Operand} (B : Blk w g 28 old) (hold : old.size = 23) (hcs : cs.size = 23) (h1 : cs.all (·.oneCell') = true)
  (ho : o.op = .store 28 p q) (hp : ev p = .pointer (some ⟨g, 0, none⟩)) (hq : ev q = .agg cs) : (execOp ev o).run Tryz.prog w = .ok .skip (w.setRow g cs):=by
 unfold execOp
 simp only [ho, hp, hq, Instr.storeAt, Instr.sureAddr, Sem.run_bind, Sem.run_pure, Result.andThen_ok, run_storeVar_row w g _ 28 old cs B (by rw [infoM, hcs]) (by rw [hold, hcs]) h1]
theorem decode_any (s : ByteArray) (w : World) (hG : Glob w) (hs : s.size ≤ 1099511627776) : Calls Tryz.prog 45 #[.string s] w (DecP w (decM s.data.toList)):=by
 rw [← decMW_eq]
 unfold decMW
 cases hr : Be.rd 20 s.data.toList 0 with
 | bad p x=>exact dec_bad s w hs p x hr
 | ok e n =>
  have h:=dec_ok s w hG hs e n hr _ rfl
  simpa using h
def DecV (w : World) (d : Mg × Nat) (r : Ending) (w' : World) : Prop :=
 ∃ cs, r = .returned (.tuple #[.agg cs, .int .i64 d.2]) ∧ Below w.heap.size w w' ∧ MAt w' (fun b=>w.heap.size ≤ b ∧ b < w'.heap.size) d.1 cs
theorem number_any (n : Nat) (v : Value) (w : World) (hG : Glob w) (h : ErrAt w n v) : Calls Tryz.prog 21 #[v] w (Told' w n):=by
 rcases h with ⟨rfl, rfl⟩ | rfl | ⟨pb, rfl, h⟩
 ·exact number_nil w
 ·exact number_num _ w hG
 ·exact number_fault pb _ w hG h
set_option maxHeartbeats 4000000 in
theorem Decode_any (s : ByteArray) (w : World) (hG : Glob w) (hs : s.size ≤ 1099511627776) : Calls Tryz.prog 17 #[.string s] w (DecV w (decM s.data.toList)):=by
 obtain ⟨ic, zs, hz, hMi, hM0, ez, ei⟩:=id_cells 0
 have hb0:=(Below.refl w.heap.size w).alloc (Nat.le_refl _) (.cells zs 28)
 have BR:=Blk.new w 28 zs
 have HR:=Lib.hid (decode_any s (w.alloc (.cells zs 28)) (hG.past hb0) hs)
 generalize decM s.data.toList = d at HR ⊢
 have HBR:=Lib.hid BR
 have HG:=Lib.hid hG
 have HB0:=Lib.hid hb0
 clear BR hG hMi ei hM0 hb0
 go_enter Tryz.func17, Tryz.ntmps17
 go_wp2_with fail
 rw [← ez]
 clear ez
 refine HR.out.mono ?_
 rintro r w1 ⟨cs, v, rfl, hb1, hM, hv⟩
 have hs1:=hb1.size
 simp at hs1
 have hb2:=HB0.out.trans (hb1.mono HB0.out.size)
 have hbA:=(Below.refl w1.heap.size w1).alloc (Nat.le_refl _) (.cells cs 28)
 have hb3:=hb2.alloc hb2.size (.cells cs 28)
 have hMn:=hM.imp (w':=w1.alloc (.cells cs 28)) (P':=fun b=>w.heap.size < b ∧ b < w1.heap.size) (fun b h=>⟨by have:=h.1; simp at this; omega, h.2⟩) (fun p hp=>World.cell?_alloc_lt _ _ p hp.2)
 have BR1:=(HBR.out.past hb1).alloc (.cells cs 28)
 have BM1:=Blk.new w1 28 cs
 have hv1:=hv.past hbA
 have HNu:=Lib.hid (fun w2 (hb : Below (w1.alloc (.cells cs 28)).heap.size (w1.alloc (.cells cs 28)) w2)=>number_any d.2 v w2 (HG.out.past (hb3.trans (hb.mono hb3.size))) (hv1.past hb))
 have HMN:=Lib.hid hMn
 have HBR1:=Lib.hid BR1
 have HBM1:=Lib.hid BM1
 have Hb3:=Lib.hid hb3
 clear hb1 hb2 hb3 hbA hv hv1 BR1 BM1 HBR HB0 hM hMn
 go_wp2_with (first | (refine wpList_mark (.store 28 (.tmp 4) (.tmp 9)) rfl ?_; refine wpList_store_row rfl 28 _ _ rfl w1.heap.size cs rfl rfl 28 _ (heap_alloc_new w1 _) (by rw [infoM, HMN.out.size]) ?_ HMN.out.one ?_; exact Eq.trans rfl HMN.out.size.symm; rw [World.setRow_alloc_new]))
 have HSz:=Lib.hid HMN.out.size
 refine wp_region_noPanic ?_
 have hne : w1.heap.size ≠ w.heap.size:=by omega
 refine wp_region_held_drew (S:=fun w'=>Blk w' w1.heap.size 28 cs) (by kernel_rfl) HBM1.out.drew (fun hH0=>?_)
 refine Rg.take 0 (.agg cs) rfl (by kernel_rfl) (by kernel_rfl) (by kernel_rfl) (fun _ _ _ h=>h) (by kernel_rfl) (fun w' h=>run_loadRow rfl rfl h Tryz.underlying28 rfl (by rw [infoM, HSz.out])) hH0 ?_
 refine Rg.take 1 v rfl (by kernel_rfl) (by kernel_rfl) (by kernel_rfl) (fun _ _ _ h=>h) (by kernel_rfl) (fun _ _=>by kernel_rfl) hH0 ?_
 refine Rg.call 2 rfl (by kernel_rfl) (by kernel_rfl) 21 #[v] (by kernel_rfl) (HNu.out _ (Below.refl _ _).drew) ?_
 rintro _ w2 ⟨rfl, hb2⟩
 have hH1:=hH0.past hb2
 refine ⟨_, rfl, hH1, ?_⟩
 have B2:=HBR1.out.drew.past hb2
 refine Rg.skip 3 rfl (by kernel_rfl) (by kernel_rfl) _ (run_storeM B2 hz HSz.out HMN.out.one rfl rfl rfl) ((setRow_other _ _ _ cs hne).trans hH1) ?_
 refine Rg.idle (by kernel_rfl) (fun _ _ _ _ _ h=>h) [4] _ _ ⟨#[.string s, undef, .pointer (some ⟨w.heap.size, 0, none⟩), .int .i64 d.2, .pointer (some ⟨w1.heap.size, 0, none⟩), v, .tuple #[.agg cs, v], .string s, .tuple #[.agg cs, v], .agg cs, v, .agg cs, v, .int .i64 d.2], []⟩ 0 (by kernel_rfl) (by kernel_rfl) ((setRow_other _ _ _ cs hne).trans hH1) ?_
 refine wpAnyH_done (by kernel_rfl) ?_ _
 refine NoPanic.normal ?_
 go_wp2_with fail
 have hb4:=Hb3.out.trans (Below.mono (B':=w.heap.size) ((Below.refl _ _).drew.trans hb2) Hb3.out.size)
 have hsz2:=hb2.size
 simp at hsz2
 refine bodyPost_ret (res_msg2 rfl _ _ w.heap.size cs _ rfl rfl (setRow_heap _ _ _ cs _ _ B2) HSz.out) rfl ⟨cs, rfl, below_setRow hb4 (Nat.le_refl _) cs, HMN.out.imp (fun _ h=>⟨by have:=h.1; omega, by rw [setRow_size]; have:=h.2; omega⟩) (fun p hp=>(cell_setRow_other _ _ _ _ (by have:=hp.1; omega)).trans (((Below.refl (w1.alloc (.cells cs 28)).heap.size (w1.alloc (.cells cs 28))).drew.trans hb2).cell (by simp; have:=hp.2; omega)))⟩
end Go.Proofs.YtconghaebebncaaGreatDoor.Ms
namespace Go.Proofs.YtconghaebebncaaGreatDoor.Ms
open Go.RowKit
attribute [local go_sem ↓] loadAtMsg
theorem wpList_loadG {w : World} {ops : Array Oper} {rest : List Oper} {o : Oper} {a : Act} {Q : Exit → Act → World → Prop} (hw : Region.wanted o (yielded ops a.tmps) = true) (x : Operand) (ho : o.op = .load 28 x)
  (g : Nat) (hx : a.eval x = .pointer (some ⟨g, 0, none⟩)) (cs : Array Value) (B : Blk w g 28 cs) (hn : cs.size = 23) (hK : wpList Tryz.prog ops Q rest (a.put o.dst (.agg cs)) w) : wpList Tryz.prog ops Q (o :: rest) a w :=
 Pl.take (.agg cs) hw (run_loadRow ho hx B Tryz.underlying28 rfl (by rw [infoM, hn])) hK
theorem Encode_at {m : Mg} {s : List UInt8} {n : Nat} (h : encM m = (s, n)) (cs : Array Value) (w : World) (hG : Glob w) (hM : MAt w (· < w.heap.size) m cs) :
  Calls Tryz.prog 11 #[.agg cs] w fun r w'=>r = .returned (.tuple #[.string ⟨s.toArray⟩, .int .i64 n]) ∧ Below w.heap.size w w':=by
 have:=Encode_any m cs w hG hM
 rw [h] at this
 exact this
theorem Decode_at {s : ByteArray} {m : Mg} {n : Nat} (h : decM s.data.toList = (m, n)) (w : World) (hG : Glob w) (hs : s.size ≤ 1099511627776) :
  Calls Tryz.prog 17 #[.string s] w fun r w'=>∃ cs, r = .returned (.tuple #[.agg cs, .int .i64 n]) ∧ Below w.heap.size w w' ∧ MAt w' (· < w'.heap.size) m cs:=by
 have:=Decode_any s w hG hs
 rw [h] at this
 exact this.mono fun r w' ⟨cs, h1, h2, h3⟩=>⟨cs, h1, h2, h3.imp (fun _ h=>h.2) (fun _ _=>rfl)⟩
def m1 : Mg:={ zero with id:=1, op:=2 }
theorem m1_is : isM m1 = true:=by kernel_rfl
theorem m1_enc : encM m1 = ([48, 5, 2, 1, 1, 66, 0], 0):=by kernel_rfl
theorem m1_dec : decM (⟨#[48, 5, 2, 1, 1, 66, 0]⟩ : ByteArray).data.toList = (m1, 0):=dec_enc m1_enc
theorem zero_enc : encM zero = ([], 14):=by kernel_rfl
theorem no_dec : decM (⟨#[]⟩ : ByteArray).data.toList = (zero, 10):=by kernel_rfl
theorem few_dec : decM (⟨#[4, 0]⟩ : ByteArray).data.toList = (zero, 14):=by kernel_rfl
set_option maxHeartbeats 8000000 in
theorem known_any (w : World) (hG : Glob w) : Calls Tryz.prog 9 #[] w fun r w'=>r = .returned (.bool true) ∧ Below w.heap.size w w':=by
 obtain ⟨ic, zs, hz, hMi, hM0, ez, ei⟩:=id_cells 1
 have hM1 : ∀ (w : World) (P : Nat → Prop), MAt w P m1 (ic.setIfInBounds 1 (.int .i64 2)):=fun w P=>(hMi w P).set_op 2
 generalize hk : ic.setIfInBounds 1 (.int .i64 2) = kc at hM1
 have HEk:=Lib.hid (hk.symm.trans (by rw [ei]))
 clear hk
 have HEz:=Lib.hid ez
 have HM1:=Lib.hid hM1
 have HM0:=Lib.hid hM0
 have HG:=Lib.hid hG
 have CE1:=Lib.hid (fun w=>Encode_at m1_enc kc w)
 have CE0:=Lib.hid (fun w=>Encode_at zero_enc zs w)
 have CD1:=Lib.hid (fun w hG=>Decode_at m1_dec w hG (by decide))
 have CDN:=Lib.hid (fun w hG=>Decode_at no_dec w hG (by decide))
 have CDF:=Lib.hid (fun w hG=>Decode_at few_dec w hG (by decide))
 have CS0:=fun ca cb w ha hb=>rSame_any m1 m1 ca cb w ha hb
 have CI0:=fun ca w ha=>Is_any m1 ca w ha
 have CM0:=fun ca cb w ha hb=>Same_any m1 m1 ca cb w ha hb
 simp only [eqM_self] at CS0 CM0
 simp only [m1_is] at CI0
 have CS:=Lib.hid CS0
 have CI:=Lib.hid CI0
 have CM:=Lib.hid CM0
 clear CS0 CI0 CM0
 have Hb0:=Lib.hid (Below.refl w.heap.size w)
 clear hMi hM1 hM0 ez ei hG
 go_enter Tryz.func9, Tryz.ntmps9
 have HB1_1:=Lib.hid (Box.new (HM1.out w (· < w.heap.size)))
 have hbA2:=(Below.refl (w).heap.size (w)).alloc (Nat.le_refl _) (.cells kc 28)
 have Hb3:=Lib.hid (Hb0.out.trans (hbA2.mono Hb0.out.size))
 clear Hb0
 clear hbA2
 go_wp2_with (first | (refine wpList_gives rfl (.build 28 #[(0, .const (.int .i64 1)), (1, .const (.int .i64 2))]) rfl (.agg kc) (by rw [HEk.out]; kernel_rfl) ?_) | (refine wpList_mark (.store 28 (.tmp 1) (.tmp 12)) rfl ?_; refine wpList_store_row rfl 28 _ _ rfl (w).heap.size kc rfl rfl 28 _ (heap_alloc_new (w) _) (by rw [infoM, (HM1.out w (fun _=>True)).size]) ?_ (HM1.out w (fun _=>True)).one ?_; exact Eq.trans rfl (HM1.out w (fun _=>True)).size.symm; rw [World.setRow_alloc_new]) | (refine wpList_mark (.load 28 (.tmp 1)) rfl ?_; refine wpList_loadG (by rfl) _ rfl ((w).heap.size) rfl kc HB1_1.out.1 HB1_1.out.2.size ?_))
 refine (CE1.out _ (HG.out.past Hb3.out) HB1_1.out.2).mono ?_
 rintro r w1 ⟨rfl, hc1⟩
 have HB1_4:=Lib.hid (HB1_1.out.past hc1)
 clear HB1_1
 have Hb5:=Lib.hid (Hb3.out.trans (hc1.mono Hb3.out.size))
 clear Hb3
 clear hc1
 go_wp2_with fail
 refine (CD1.out _ (HG.out.past Hb5.out)).mono ?_
 rintro r w2 ⟨c4, rfl, hc2, hM4⟩
 have HB1_6:=Lib.hid (HB1_4.out.past hc2)
 clear HB1_4
 have Hb7:=Lib.hid (Hb5.out.trans (hc2.mono Hb5.out.size))
 clear Hb5
 clear hc2
 have hM4q:=Lib.hid hM4
 have HB4_8:=Lib.hid (Box.new hM4)
 have hbA9:=(Below.refl (w2).heap.size (w2)).alloc (Nat.le_refl _) (.cells c4 28)
 have HB1_10:=Lib.hid (HB1_6.out.past hbA9)
 clear HB1_6
 have Hb11:=Lib.hid (Hb7.out.trans (hbA9.mono Hb7.out.size))
 clear Hb7
 clear hbA9
 clear hM4
 go_wp2_with (first | (refine wpList_mark (.store 28 (.tmp 4) (.tmp 21)) rfl ?_; refine wpList_store_row rfl 28 _ _ rfl (w2).heap.size c4 rfl rfl 28 _ (heap_alloc_new (w2) _) (by rw [infoM, hM4q.out.size]) ?_ hM4q.out.one ?_; exact Eq.trans rfl hM4q.out.size.symm; rw [World.setRow_alloc_new]) | (refine wpList_gives rfl (.build 28 #[]) rfl (.agg zs) (by rw [HEz.out]; kernel_rfl) ?_))
 refine (CE0.out _ (HG.out.past Hb11.out) (HM0.out _ _)).mono ?_
 rintro r w3 ⟨rfl, hc3⟩
 have HB1_12:=Lib.hid (HB1_10.out.past hc3)
 clear HB1_10
 have HB4_13:=Lib.hid (HB4_8.out.past hc3)
 clear HB4_8
 have Hb14:=Lib.hid (Hb11.out.trans (hc3.mono Hb11.out.size))
 clear Hb11
 clear hc3
 go_wp2_with fail
 refine (CDN.out _ (HG.out.past Hb14.out)).mono ?_
 rintro r w4 ⟨c8, rfl, hc4, hM8⟩
 have HB1_15:=Lib.hid (HB1_12.out.past hc4)
 clear HB1_12
 have HB4_16:=Lib.hid (HB4_13.out.past hc4)
 clear HB4_13
 have Hb17:=Lib.hid (Hb14.out.trans (hc4.mono Hb14.out.size))
 clear Hb14
 clear hc4
 have hM8q:=Lib.hid hM8
 have HB8_18:=Lib.hid (Box.new hM8)
 have hbA19:=(Below.refl (w4).heap.size (w4)).alloc (Nat.le_refl _) (.cells c8 28)
 have HB1_20:=Lib.hid (HB1_15.out.past hbA19)
 clear HB1_15
 have HB4_21:=Lib.hid (HB4_16.out.past hbA19)
 clear HB4_16
 have Hb22:=Lib.hid (Hb17.out.trans (hbA19.mono Hb17.out.size))
 clear Hb17
 clear hbA19
 clear hM8
 go_wp2_with (first | (refine wpList_mark (.store 28 (.tmp 8) (.tmp 30)) rfl ?_; refine wpList_store_row rfl 28 _ _ rfl (w4).heap.size c8 rfl rfl 28 _ (heap_alloc_new (w4) _) (by rw [infoM, hM8q.out.size]) ?_ hM8q.out.one ?_; exact Eq.trans rfl hM8q.out.size.symm; rw [World.setRow_alloc_new]))
 refine (CDF.out _ (HG.out.past Hb22.out)).mono ?_
 rintro r w5 ⟨c10, rfl, hc5, hM10⟩
 have HB1_23:=Lib.hid (HB1_20.out.past hc5)
 clear HB1_20
 have HB4_24:=Lib.hid (HB4_21.out.past hc5)
 clear HB4_21
 have HB8_25:=Lib.hid (HB8_18.out.past hc5)
 clear HB8_18
 have Hb26:=Lib.hid (Hb22.out.trans (hc5.mono Hb22.out.size))
 clear Hb22
 clear hc5
 have hM10q:=Lib.hid hM10
 have HB10_27:=Lib.hid (Box.new hM10)
 have hbA28:=(Below.refl (w5).heap.size (w5)).alloc (Nat.le_refl _) (.cells c10 28)
 have HB1_29:=Lib.hid (HB1_23.out.past hbA28)
 clear HB1_23
 have HB4_30:=Lib.hid (HB4_24.out.past hbA28)
 clear HB4_24
 have HB8_31:=Lib.hid (HB8_25.out.past hbA28)
 clear HB8_25
 have Hb32:=Lib.hid (Hb26.out.trans (hbA28.mono Hb26.out.size))
 clear Hb26
 clear hbA28
 clear hM10
 go_wp2_with (first | (refine wpList_mark (.store 28 (.tmp 10) (.tmp 34)) rfl ?_; refine wpList_store_row rfl 28 _ _ rfl (w5).heap.size c10 rfl rfl 28 _ (heap_alloc_new (w5) _) (by rw [infoM, hM10q.out.size]) ?_ hM10q.out.one ?_; exact Eq.trans rfl hM10q.out.size.symm; rw [World.setRow_alloc_new]) | (refine wpList_mark (.load 28 (.tmp 1)) rfl ?_; refine wpList_loadG (by rfl) _ rfl ((w).heap.size) rfl kc HB1_29.out.1 HB1_29.out.2.size ?_) | (refine wpList_mark (.load 28 (.tmp 4)) rfl ?_; refine wpList_loadG (by rfl) _ rfl ((w2).heap.size) rfl c4 HB4_30.out.1 HB4_30.out.2.size ?_))
 refine (CS.out _ _ _ HB1_29.out.2 HB4_30.out.2).mono ?_
 rintro r w6 ⟨rfl, hc6⟩
 have HB1_33:=Lib.hid (HB1_29.out.past hc6)
 clear HB1_29
 have HB4_34:=Lib.hid (HB4_30.out.past hc6)
 clear HB4_30
 have HB8_35:=Lib.hid (HB8_31.out.past hc6)
 clear HB8_31
 have HB10_36:=Lib.hid (HB10_27.out.past hc6)
 clear HB10_27
 have Hb37:=Lib.hid (Hb32.out.trans (hc6.mono Hb32.out.size))
 clear Hb32
 clear hc6
 go_wp2_with (first | (refine wpList_mark (.load 28 (.tmp 1)) rfl ?_; refine wpList_loadG (by rfl) _ rfl ((w).heap.size) rfl kc HB1_33.out.1 HB1_33.out.2.size ?_))
 refine (CI.out _ _ HB1_33.out.2).mono ?_
 rintro r w7 ⟨rfl, hc7⟩
 have HB1_38:=Lib.hid (HB1_33.out.past hc7)
 clear HB1_33
 have HB4_39:=Lib.hid (HB4_34.out.past hc7)
 clear HB4_34
 have HB8_40:=Lib.hid (HB8_35.out.past hc7)
 clear HB8_35
 have HB10_41:=Lib.hid (HB10_36.out.past hc7)
 clear HB10_36
 have Hb42:=Lib.hid (Hb37.out.trans (hc7.mono Hb37.out.size))
 clear Hb37
 clear hc7
 go_wp2_with (first | (refine wpList_mark (.load 28 (.tmp 1)) rfl ?_; refine wpList_loadG (by rfl) _ rfl ((w).heap.size) rfl kc HB1_38.out.1 HB1_38.out.2.size ?_) | (refine wpList_mark (.load 28 (.tmp 4)) rfl ?_; refine wpList_loadG (by rfl) _ rfl ((w2).heap.size) rfl c4 HB4_39.out.1 HB4_39.out.2.size ?_))
 refine (CM.out _ _ _ HB1_38.out.2 HB4_39.out.2).mono ?_
 rintro r w8 ⟨rfl, hc8⟩
 have HB1_43:=Lib.hid (HB1_38.out.past hc8)
 clear HB1_38
 have HB4_44:=Lib.hid (HB4_39.out.past hc8)
 clear HB4_39
 have HB8_45:=Lib.hid (HB8_40.out.past hc8)
 clear HB8_40
 have HB10_46:=Lib.hid (HB10_41.out.past hc8)
 clear HB10_41
 have Hb47:=Lib.hid (Hb42.out.trans (hc8.mono Hb42.out.size))
 clear Hb42
 clear hc8
 go_wp2_with fail
 go_ret
 exact ⟨rfl, Hb47.out⟩
end Go.Proofs.YtconghaebebncaaGreatDoor.Ms
