/- What decode and Decode answer. -/
import Derived.Test.YtconghaebebncaaGreatDoorMsRdG
import Derived.Test.YtconghaebebncaaGreatDoorG9
import Derived.Test.YtconghaebebncaaGreatDoorRead2
namespace Go.Proofs.YtconghaebebncaaGreatDoor.Ms
open Go.RowKit
set_option linter.unusedVariables false
set_option maxRecDepth 100000
attribute [local go_sem ↓] loadAtMsg

/-- Two results: a message in a box, a value in a slot. -/
theorem res_msg2 {fn : Func} {p q : Tmp} (h : fn.results = #[.cell p 28, .tmp q]) (tmps : Array Value) (w : World) (g : Nat) (cs : Array Value) (v : Value) (hp : tmps.getD p undef = .pointer (some ⟨g, 0, none⟩)) (hq : tmps.getD q undef = v)
    (B : Blk w g 28 cs) (hn : cs.size = 23) : (results fn tmps).run Tryz.prog w = .ok (.tuple #[.agg cs, v]) w := by
  rw [results_cell_tmp h, hp, hq]
  simp only [asAddr, Sem.run_pure, Result.andThen_ok, run_loadVar_row w g _ 28 cs (0, 0) _ B Tryz.underlying28 rfl (by rw [infoM, hn])]
/-- An error, as it lies in a world: none; a number; a Fault that holds one. -/
def ErrAt (w : World) (n : Nat) (v : Value) : Prop :=
  (n = 0 ∧ v = .nilIface) ∨ v = .iface 31 (.int .i64 n) ∨ ∃ pb, v = .iface 101 (.pointer (some ⟨pb, 0, none⟩)) ∧ w.cell? ⟨pb, 0, none⟩ = some (.iface 31 (.int .i64 n))
theorem ErrAt.past {w w' : World} {n : Nat} {v : Value} (h : ErrAt w n v) (hb : Below w.heap.size w w') : ErrAt w' n v := by
  rcases h with h | h | ⟨pb, h1, h2⟩
  · exact .inl h
  · exact .inr (.inl h)
  · exact .inr (.inr ⟨pb, h1, (hb.cell (cell_lt h2)).trans h2⟩)
def DecP (w : World) (d : Mg × Nat) (r : Ending) (w' : World) : Prop :=
  ∃ cs v, r = .returned (.tuple #[.agg cs, v]) ∧ Below w.heap.size w w' ∧ MAt w' (fun b => w.heap.size ≤ b ∧ b < w'.heap.size) d.1 cs ∧ ErrAt w' d.2 v
set_option maxHeartbeats 4000000 in
theorem dec_bad (s : ByteArray) (w : World) (hs : s.size ≤ 1099511627776) (p x : Nat) (hr : Be.rd 20 s.data.toList 0 = .bad p x) :
    Calls Tryz.prog 45 #[.string s] w (DecP w (zero, x)) := by
  obtain ⟨ic, zs, hz, hMi, hM0, ez, ei⟩ := id_cells 0
  have hx : (((x : Nat) : Int) != 0) = true := by rw [bne_iff_ne]; have := Be.rd_bad hr; omega
  have hb0 := (Below.refl w.heap.size w).alloc (Nat.le_refl _) (.cells zs 28)
  have BR := Blk.new w 28 zs
  have HR0 := Be.Read_any s (w.alloc (.cells zs 28)) hs
  rw [hr] at HR0
  have HR := Lib.hid HR0
  have HEz := Lib.hid ez
  have HM0 := Lib.hid hM0
  have HBR := Lib.hid BR
  clear HR0 hM0 BR hr hMi ei
  go_enter Tryz.func45, Tryz.ntmps45
  go_wp2_with fail
  rw [← ez]
  clear ez
  refine HR.out.mono ?_
  rintro r w1 ⟨rfl, hb1⟩
  have hb2 := hb0.trans (hb1.mono hb0.size)
  have BR3 := ((HBR.out.past hb1).alloc (.cells #[.int .u8 0, .string ⟨#[]⟩, .slice none 0 0] 57)).alloc (.cells #[.iface 31 (.int .i64 (x : Nat)), .int .i64 (p : Nat)] 103)
  have hb3 := (hb2.alloc hb2.size (.cells #[.int .u8 0, .string ⟨#[]⟩, .slice none 0 0] 57)).alloc (by have := hb2.size; simp; omega) (.cells #[.iface 31 (.int .i64 (x : Nat)), .int .i64 (p : Nat)] 103)
  have BF := new2 w1 #[.int .u8 0, .string ⟨#[]⟩, .slice none 0 0] #[.iface 31 (.int .i64 (x : Nat)), .int .i64 (p : Nat)] 57 103
  have hs1 := hb1.size
  simp at hs1
  have HBR3 := Lib.hid BR3
  have HBF := Lib.hid BF
  have Hb3 := Lib.hid hb3
  clear hb0 hb1 hb2 hb3 BR3 BF HBR
  go_wp2_with (first | (refine wpList_gives rfl (.build 28 #[]) rfl (.agg zs) (by rw [HEz.out]; kernel_rfl) ?_) | (refine wpList_mark (.store 28 (.tmp 2) (.tmp 20)) rfl ?_; refine wpList_store_row rfl 28 _ _ rfl w.heap.size zs rfl rfl 28 zs HBR3.out (by rw [infoM, hz]) rfl (HM0.out w (fun _ => True)).one ?_))
  refine bodyPost_ret (res_msg2 rfl _ _ w.heap.size zs _ rfl rfl (setRow_heap _ _ _ zs _ _ HBR3.out) hz) rfl ⟨zs, _, rfl, below_setRow Hb3.out (Nat.le_refl _) zs, HM0.out _ _, .inr (.inr ⟨_, rfl, ?_⟩)⟩
  exact (cell_setRow_other _ _ _ _ (by simp; omega)).trans (HBF.out.cell 0)
set_option maxHeartbeats 4000000 in
theorem dec_ok (s : ByteArray) (w : World) (hG : Glob w) (hs : s.size ≤ 1099511627776) (e : Be.El) (n : Nat) (hr : Be.rd 20 s.data.toList 0 = .ok e n) (same : Bool) (hsm : decide ((encM (rdMW e)).1 = s.data.toList) = same) :
    Calls Tryz.prog 45 #[.string s] w (DecP w (if same then (rdMW e, 0) else (zero, 14))) := by
  obtain ⟨ic, zs, hz, hMi, hM0, ez, ei⟩ := id_cells 0
  have hfew := rd_few hr
  have hb0 := (Below.refl w.heap.size w).alloc (Nat.le_refl _) (.cells zs 28)
  have BR := Blk.new w 28 zs
  have HR0 := Be.Read_any s (w.alloc (.cells zs 28)) hs
  rw [hr] at HR0
  have HR := Lib.hid HR0
  have HM := Lib.hid (fun t b A n c w => readMessage_any e t b A n c w hfew)
  have HEn := Lib.hid (fun cs w => Encode_any (rdMW e) cs w)
  have hT : ∃ T x, encV (encM (rdMW e)) = .tuple #[.string T, .int .i64 x] ∧ (T.toList == s.toList) = same := by
    refine ⟨_, _, rfl, ?_⟩
    rw [Fi.toList_eq, ← hsm]
    refine decide_eq_decide.2 ⟨fun h => ?_, fun h => ?_⟩
    · have h1 : (⟨(encM (rdMW e)).1.toArray⟩ : ByteArray).data.toList = s.data.toList := by rw [h]
      simpa using h1
    · apply ByteArray.ext
      apply Array.toList_inj.1
      simpa using h
  obtain ⟨T, x, hT1, hT2⟩ := hT
  rw [hT1] at HEn
  generalize rdMW e = m at HM HEn ⊢
  generalize hd : (if same = true then (m, 0) else (zero, 14)) = d
  have HD := Lib.hid hd
  clear hd
  have HEz := Lib.hid ez
  have HM0 := Lib.hid hM0
  have HBR := Lib.hid BR
  have HG := Lib.hid hG
  clear HR0 hM0 BR hr hMi ei hT1 hsm hG
  go_enter Tryz.func45, Tryz.ntmps45
  go_wp2_with fail
  rw [← ez]
  clear ez
  refine HR.out.mono ?_
  rintro r w1 ⟨c0, c1, c2, rfl, hb1, hL⟩
  obtain ⟨A, c, hcs⟩ := Lies_cells hL
  simp only [List.cons.injEq, and_true] at hcs
  obtain ⟨rfl, rfl, rfl⟩ := hcs
  have hb2 := hb0.trans (hb1.mono hb0.size)
  have hb3 := hb2.alloc hb2.size (.cells #[.int .u8 (tagE e : Nat), .string (bodyE e), .slice A (kidsE e).length c] 57)
  have BR3 := (HBR.out.past hb1).alloc (.cells #[.int .u8 (tagE e : Nat), .string (bodyE e), .slice A (kidsE e).length c] 57)
  have BE3 := Blk.new w1 57 #[.int .u8 (tagE e : Nat), .string (bodyE e), .slice A (kidsE e).length c]
  have e0 := BE3.cell 0
  have e1 := BE3.cell 1
  have e2 := BE3.cell 2
  have HL3 := Lib.hid (((hL.imp (P' := (· < w1.heap.size)) (fun _ h => h.2) (fun _ _ => rfl)).past ((Below.refl _ _).alloc (Nat.le_refl _) (.cells #[.int .u8 (tagE e : Nat), .string (bodyE e), .slice A (kidsE e).length c] 57))))
  have hs1 := hb1.size
  simp at hs1
  have HBR3 := Lib.hid BR3
  have Hb3 := Lib.hid hb3
  clear hb0 hb1 hb2 hb3 BR3 BE3 HBR hL
  go_wp2_with fail
  refine (HM.out _ _ _ _ _ _ (HG.out.past Hb3.out) HL3.out).mono ?_
  rintro r w2 ⟨cs, rfl, hb4, hM2⟩
  have hb5 := Hb3.out.trans (hb4.mono Hb3.out.size)
  have BR4 := HBR3.out.past hb4
  have hMo := hM2.imp (P' := (· < w2.heap.size)) (fun _ h => h.2) (fun _ _ => rfl)
  have BM := Box.new hMo
  have HMN := Lib.hid (((hM2.imp (P' := fun b => w.heap.size < b ∧ b < w2.heap.size) (fun b h => ⟨by have := h.1; simp at this; have := hs1; omega, h.2⟩) (fun _ _ => rfl)).imp (w' := w2.alloc (.cells cs 28)) (P' := fun b => w.heap.size < b ∧ b < w2.heap.size) (fun _ h => h) (fun p hp => World.cell?_alloc_lt _ _ p hp.2)))
  have hbA := (Below.refl w2.heap.size w2).alloc (Nat.le_refl _) (.cells cs 28)
  have hb6 := hb5.alloc hb5.size (.cells cs 28)
  have BR5 := BR4.alloc (.cells cs 28)
  have hs2 := hb4.size
  simp at hs2
  have HM2 := Lib.hid hM2
  have HBM := Lib.hid BM
  have HBR5 := Lib.hid BR5
  have Hb6 := Lib.hid hb6
  clear hb4 hb5 hb6 BR4 BR5 HBR3 Hb3 HL3 BM hM2 e0 e1 e2 hbA
  go_wp2_with (first | (refine wpList_mark (.store 28 (.tmp 8) (.tmp 28)) rfl ?_; refine wpList_store_row rfl 28 _ _ rfl w2.heap.size cs rfl rfl 28 _ (heap_alloc_new w2 _) (by rw [infoM, HM2.out.size]) ?_ HM2.out.one ?_; exact Eq.trans rfl HM2.out.size.symm; rw [World.setRow_alloc_new]) | (refine wpList_mark (.load 28 (.tmp 8)) rfl ?_; refine wpList_load_row rfl 28 _ rfl w2.heap.size rfl _ cs (0, 0) _ HBM.out.1 Tryz.underlying28 rfl (by rw [infoM, HM2.out.size]) ?_))
  refine (HEn.out cs _ (HG.out.past Hb6.out) HBM.out.2).mono ?_
  rintro r w3 ⟨rfl, hb7⟩
  have hb8 := Hb6.out.trans (hb7.mono Hb6.out.size)
  have HBM3 := Lib.hid (HBM.out.past hb7)
  have HMN3 := Lib.hid (HMN.out.imp (w' := w3) (P' := fun b => w.heap.size < b ∧ b < w3.heap.size) (fun b h => ⟨h.1, by have := hb7.size; simp at this; have := h.2; omega⟩) (fun p hp => hb7.cell (by simp; have := hp.2; omega)))
  have HBR6 := Lib.hid (HBR5.out.past hb7)
  have Hb8 := Lib.hid hb8
  have hs3 := hb7.size
  simp at hs3
  clear hb7 hb8 HBM HBR5 Hb6
  cases same with
  | false =>
    obtain rfl : d = (zero, 14) := HD.out.symm
    have hT3 : (T.toList != s.toList) = true := by unfold bne; rw [hT2]; rfl
    go_wp2_with (first | (refine wpList_gives rfl (.build 28 #[]) rfl (.agg zs) (by rw [HEz.out]; kernel_rfl) ?_) | (refine wpList_mark (.store 28 (.tmp 2) (.tmp 37)) rfl ?_; refine wpList_store_row rfl 28 _ _ rfl w.heap.size zs rfl rfl 28 zs HBR6.out (by rw [infoM, hz]) rfl (HM0.out w (fun _ => True)).one ?_))
    exact bodyPost_ret (res_msg2 rfl _ _ w.heap.size zs _ rfl rfl (setRow_heap _ _ _ zs _ _ HBR6.out) hz) rfl ⟨zs, _, rfl, below_setRow Hb8.out (Nat.le_refl _) zs, HM0.out _ _, .inr (.inl rfl)⟩
  | true =>
    obtain rfl : d = (m, 0) := HD.out.symm
    have hT3 : (T.toList != s.toList) = false := by unfold bne; rw [hT2]; rfl
    go_wp2_with (first | (refine wpList_mark (.load 28 (.tmp 8)) rfl ?_; refine wpList_load_row rfl 28 _ rfl w2.heap.size rfl _ cs (0, 0) _ HBM3.out.1 Tryz.underlying28 rfl (by rw [infoM, HM2.out.size]) ?_) | (refine wpList_mark (.store 28 (.tmp 2) (.tmp 39)) rfl ?_; refine wpList_store_row rfl 28 _ _ rfl w.heap.size cs rfl rfl 28 zs HBR6.out (by rw [infoM, HM2.out.size]) (hz.trans HM2.out.size.symm) HM2.out.one ?_))
    exact bodyPost_ret (res_msg2 rfl _ _ w.heap.size cs _ rfl rfl (setRow_heap _ _ _ cs _ _ HBR6.out) HM2.out.size) rfl ⟨cs, _, rfl, below_setRow Hb8.out (Nat.le_refl _) cs, HMN3.out.imp (fun _ h => ⟨by have := h.1; omega, by rw [setRow_size]; exact h.2⟩) (fun p hp => cell_setRow_other _ _ _ _ (by have := hp.1; omega)), .inl ⟨rfl, rfl⟩⟩
/-- A whole message is stored into its box. -/
theorem run_storeM {w : World} {g : Nat} {cs old : Array Value} {ev : Operand → Value} {o : Oper} {p q : Operand} (B : Blk w g 28 old) (hold : old.size = 23) (hcs : cs.size = 23) (h1 : cs.all (·.oneCell') = true)
    (ho : o.op = .store 28 p q) (hp : ev p = .pointer (some ⟨g, 0, none⟩)) (hq : ev q = .agg cs) : (execOp ev o).run Tryz.prog w = .ok .skip (w.setRow g cs) := by
  unfold execOp
  simp only [ho, hp, hq, Instr.storeAt, Instr.sureAddr, Sem.run_bind, Sem.run_pure, Result.andThen_ok, run_storeVar_row w g _ 28 old cs B (by rw [infoM, hcs]) (by rw [hold, hcs]) h1]
theorem decode_any (s : ByteArray) (w : World) (hG : Glob w) (hs : s.size ≤ 1099511627776) : Calls Tryz.prog 45 #[.string s] w (DecP w (decM s.data.toList)) := by
  rw [← decMW_eq]
  unfold decMW
  cases hr : Be.rd 20 s.data.toList 0 with
  | bad p x => exact dec_bad s w hs p x hr
  | ok e n =>
    have h := dec_ok s w hG hs e n hr _ rfl
    simpa using h
/-- P9.3, as a value. -/
def DecV (w : World) (d : Mg × Nat) (r : Ending) (w' : World) : Prop :=
  ∃ cs, r = .returned (.tuple #[.agg cs, .int .i64 d.2]) ∧ Below w.heap.size w w' ∧ MAt w' (fun b => w.heap.size ≤ b ∧ b < w'.heap.size) d.1 cs
theorem number_any (n : Nat) (v : Value) (w : World) (hG : Glob w) (h : ErrAt w n v) : Calls Tryz.prog 21 #[v] w (Told' w n) := by
  rcases h with ⟨rfl, rfl⟩ | rfl | ⟨pb, rfl, h⟩
  · exact number_nil w
  · exact number_num _ w hG
  · exact number_fault pb _ w hG h
set_option maxHeartbeats 4000000 in
theorem Decode_any (s : ByteArray) (w : World) (hG : Glob w) (hs : s.size ≤ 1099511627776) : Calls Tryz.prog 17 #[.string s] w (DecV w (decM s.data.toList)) := by
  obtain ⟨ic, zs, hz, hMi, hM0, ez, ei⟩ := id_cells 0
  have hb0 := (Below.refl w.heap.size w).alloc (Nat.le_refl _) (.cells zs 28)
  have BR := Blk.new w 28 zs
  have HR := Lib.hid (decode_any s (w.alloc (.cells zs 28)) (hG.past hb0) hs)
  generalize decM s.data.toList = d at HR ⊢
  have HBR := Lib.hid BR
  have HG := Lib.hid hG
  have HB0 := Lib.hid hb0
  clear BR hG hMi ei hM0 hb0
  go_enter Tryz.func17, Tryz.ntmps17
  go_wp2_with fail
  rw [← ez]
  clear ez
  refine HR.out.mono ?_
  rintro r w1 ⟨cs, v, rfl, hb1, hM, hv⟩
  have hs1 := hb1.size
  simp at hs1
  have hb2 := HB0.out.trans (hb1.mono HB0.out.size)
  have hbA := (Below.refl w1.heap.size w1).alloc (Nat.le_refl _) (.cells cs 28)
  have hb3 := hb2.alloc hb2.size (.cells cs 28)
  have hMn := hM.imp (w' := w1.alloc (.cells cs 28)) (P' := fun b => w.heap.size < b ∧ b < w1.heap.size) (fun b h => ⟨by have := h.1; simp at this; omega, h.2⟩) (fun p hp => World.cell?_alloc_lt _ _ p hp.2)
  have BR1 := (HBR.out.past hb1).alloc (.cells cs 28)
  have BM1 := Blk.new w1 28 cs
  have hv1 := hv.past hbA
  have HNu := Lib.hid (fun w2 (hb : Below (w1.alloc (.cells cs 28)).heap.size (w1.alloc (.cells cs 28)) w2) => number_any d.2 v w2 (HG.out.past (hb3.trans (hb.mono hb3.size))) (hv1.past hb))
  have HMN := Lib.hid hMn
  have HBR1 := Lib.hid BR1
  have HBM1 := Lib.hid BM1
  have Hb3 := Lib.hid hb3
  clear hb1 hb2 hb3 hbA hv hv1 BR1 BM1 HBR HB0 hM hMn
  go_wp2_with (first | (refine wpList_mark (.store 28 (.tmp 4) (.tmp 9)) rfl ?_; refine wpList_store_row rfl 28 _ _ rfl w1.heap.size cs rfl rfl 28 _ (heap_alloc_new w1 _) (by rw [infoM, HMN.out.size]) ?_ HMN.out.one ?_; exact Eq.trans rfl HMN.out.size.symm; rw [World.setRow_alloc_new]))
  have HSz := Lib.hid HMN.out.size
  refine wp_region_noPanic ?_
  have hne : w1.heap.size ≠ w.heap.size := by omega
  refine wp_region_held_drew (S := fun w' => Blk w' w1.heap.size 28 cs) (by kernel_rfl) HBM1.out.drew (fun hH0 => ?_)
  refine Rg.take 0 (.agg cs) rfl (by kernel_rfl) (by kernel_rfl) (by kernel_rfl) (fun _ _ _ h => h) (by kernel_rfl) (fun w' h => run_loadRow rfl rfl h Tryz.underlying28 rfl (by rw [infoM, HSz.out])) hH0 ?_
  refine Rg.take 1 v rfl (by kernel_rfl) (by kernel_rfl) (by kernel_rfl) (fun _ _ _ h => h) (by kernel_rfl) (fun _ _ => by kernel_rfl) hH0 ?_
  refine Rg.call 2 rfl (by kernel_rfl) (by kernel_rfl) 21 #[v] (by kernel_rfl) (HNu.out _ (Below.refl _ _).drew) ?_
  rintro _ w2 ⟨rfl, hb2⟩
  have hH1 := hH0.past hb2
  refine ⟨_, rfl, hH1, ?_⟩
  have B2 := HBR1.out.drew.past hb2
  refine Rg.skip 3 rfl (by kernel_rfl) (by kernel_rfl) _ (run_storeM B2 hz HSz.out HMN.out.one rfl rfl rfl) ((setRow_other _ _ _ cs hne).trans hH1) ?_
  refine Rg.idle (by kernel_rfl) (fun _ _ _ _ _ h => h) [4] _ _ ⟨#[.string s, undef, .pointer (some ⟨w.heap.size, 0, none⟩), .int .i64 d.2, .pointer (some ⟨w1.heap.size, 0, none⟩), v, .tuple #[.agg cs, v], .string s, .tuple #[.agg cs, v], .agg cs, v, .agg cs, v, .int .i64 d.2], []⟩ 0 (by kernel_rfl) (by kernel_rfl) ((setRow_other _ _ _ cs hne).trans hH1) ?_
  refine wpAnyH_done (by kernel_rfl) ?_ _
  refine NoPanic.normal ?_
  go_wp2_with fail
  have hb4 := Hb3.out.trans (Below.mono (B' := w.heap.size) ((Below.refl _ _).drew.trans hb2) Hb3.out.size)
  have hsz2 := hb2.size
  simp at hsz2
  refine bodyPost_ret (res_msg2 rfl _ _ w.heap.size cs _ rfl rfl (setRow_heap _ _ _ cs _ _ B2) HSz.out) rfl ⟨cs, rfl, below_setRow hb4 (Nat.le_refl _) cs, HMN.out.imp (fun _ h => ⟨by have := h.1; omega, by rw [setRow_size]; have := h.2; omega⟩) (fun p hp => (cell_setRow_other _ _ _ _ (by have := hp.1; omega)).trans (((Below.refl (w1.alloc (.cells cs 28)).heap.size (w1.alloc (.cells cs 28))).drew.trans hb2).cell (by simp; have := hp.2; omega)))⟩
end Go.Proofs.YtconghaebebncaaGreatDoor.Ms
