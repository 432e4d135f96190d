import Derived.Test.YtconghaebebncaaGreatDoorZR44
import Derived.Test.YtconghaebebncaaGreatDoorZR43
import Derived.Test.YtconghaebebncaaGreatDoorZR28
set_option linter.unusedVariables false
set_option maxRecDepth 100000
namespace Go.Proofs.YtconghaebebncaaGreatDoor.Ms
open Go.RowKit
theorem lies_fwd {w w' : World} {B : Nat} {e : Be.El} {cs : List Value} (h : Be.Lies w (fun b=>B ≤ b ∧ b < w.heap.size) e cs) (hb : Below w.heap.size w w') : Be.Lies w' (fun b=>B ≤ b ∧ b < w'.heap.size) e cs:=h.imp (fun b h=>⟨h.1, Nat.lt_of_lt_of_le h.2 hb.size⟩) (fun p hp=>hb.cell hp.2)
theorem kids_fwd {w w' : World} {B : Nat} {A : Option Addr} {ks : List Be.El} {ds : Nat → List Value} (h : Be.KidsAt w (fun b=>B ≤ b ∧ b < w.heap.size) A ks ds) (hb : Below w.heap.size w w') : Be.KidsAt w' (fun b=>B ≤ b ∧ b < w'.heap.size) A ks ds:=h.imp (fun b h=>⟨h.1, Nat.lt_of_lt_of_le h.2 hb.size⟩) (fun p hp=>hb.cell hp.2)
theorem kids_low {w : World} {B B' : Nat} {A : Option Addr} {ks : List Be.El} {ds : Nat → List Value} (h : Be.KidsAt w (fun b=>B ≤ b ∧ b < w.heap.size) A ks ds) (hB : B' ≤ B) : Be.KidsAt w (fun b=>B' ≤ b ∧ b < w.heap.size) A ks ds:=h.imp (fun b h=>⟨Nat.le_trans hB h.1, h.2⟩) (fun _ _=>rfl)
theorem lies_low {w : World} {B B' : Nat} {e : Be.El} {cs : List Value} (h : Be.Lies w (fun b=>B ≤ b ∧ b < w.heap.size) e cs) (hB : B' ≤ B) : Be.Lies w (fun b=>B' ≤ b ∧ b < w.heap.size) e cs:=h.imp (fun b h=>⟨Nat.le_trans hB h.1, h.2⟩) (fun _ _=>rfl)
theorem lies_list {w : World} {B : Nat} {A : Option Addr} {c : Nat} {ks : List Be.El} {ds : Nat → List Value} (hl : ks.length ≤ 20) (h : Be.KidsAt w (fun b=>B ≤ b ∧ b < w.heap.size) A ks ds) : Be.Lies w (fun b=>B ≤ b ∧ b < w.heap.size) (lst 48 ks) [.int .u8 48, .string ⟨#[]⟩, .slice A ks.length c] :=
 Be.Lies.shut (t:=48) (by decide) (by decide) (by unfold maxLen; omega) h
def Fo (w0 : World) (cs : Array Value) (w : World) : Prop:=Fr w0 w0.heap.size 28 cs (w0.heap.size + 1) w ∧ w0.heap.size + 2 ≤ w.heap.size
theorem Fo.past {w0 w w' : World} {cs : Array Value} (h : Fo w0 cs w) (hb : Below w.heap.size w w') : Fo w0 cs w':=⟨h.1.past hb, Nat.le_trans h.2 hb.size⟩
theorem Fo.alloc {w0 w : World} {cs : Array Value} (h : Fo w0 cs w) (o : Obj) : Fo w0 cs (w.alloc o):=h.past ((Below.refl _ _).alloc (Nat.le_refl _) o)
theorem Fo.store {w0 w : World} {cs : Array Value} (h : Fo w0 cs w) (x y z : Value) : Fo w0 cs (w.setRow (w0.heap.size + 1) #[x, y, z]):=⟨h.1.store (by omega) (by omega) x y z, by rw [setRow_size]; exact h.2⟩
theorem Fo.new (w : World) (cs : Array Value) : Fo w cs ((w.alloc (.cells cs 28)).alloc (.cells #[.int .u8 0, .string ⟨#[]⟩, .slice none 0 0] 57)):=⟨Fr.new w 28 cs _ _ _, by simp⟩
theorem Fo.blk {w0 w : World} {cs : Array Value} (h : Fo w0 cs w) : Blk w w0.heap.size 28 cs:=h.1.1
theorem Fo.below {w0 w : World} {cs : Array Value} (h : Fo w0 cs w) : Below w0.heap.size w0 w:=h.1.2.2
theorem run_indexA {P : Program} {w : World} {ev : Operand → Value} {o : Oper} {x y : Operand} {t elem : TypeId} {b k n q : Nat} {i : TypeInfo} (hu : P.underlying t = some (.array n elem)) (hi : P.info? elem = some i) (hk : i.size = 1)
  (ho : o.op = .indexAddr t x y) (hx : ev x = .pointer (some ⟨b, k, none⟩)) (hy : ev y = .int .i64 q) (h : q < n) : (execOp ev o).run P w = .ok (.value (.pointer (some ⟨b, k + q, none⟩))) w:=by
 unfold execOp
 have h1 : (0 : Int) ≤ (q : Int) ∧ (q : Int) < (n : Int):=by omega
 simp [ho, hx, hy, Instr.indexAt, Instr.sureAddr, asIntOf, underlying, hu, sizeOf, typeInfo, hi, hk, h1, h, Result.andThen, Addr.add]
theorem op_tell {w0 w1 : World} {t : Nat} {A : Option Addr} {ks : List Be.El} {ds : Nat → List Value} {c : Nat} {cs : Array Value} (ht : t ≤ 255) (hl : ks.length ≤ 20) (h : Fo w0 cs w1) (hK : Be.KidsAt w1 (fun b=>w0.heap.size + 2 ≤ b ∧ b < w1.heap.size) A ks ds) :
  NewEl w0 (lst t ks) (.returned (.agg #[.int .u8 (t : Nat), .string ⟨#[]⟩, .slice A ks.length c])) (w1.setRow (w0.heap.size + 1) #[.int .u8 (t : Nat), .string ⟨#[]⟩, .slice A ks.length c]) :=
 NewLst.el ht hl (new_row (below_setRow h.below (Nat.le_succ _) _) hK (fun b hb=>⟨by have:=hb.1; omega, by have:=hb.1; omega, hb.2⟩))
theorem op_rowS {w0 w1 : World} {cs : Array Value} (h : Fo w0 cs w1) (ds : Array Value) : ∃ old, Blk w1 (w0.heap.size + 1) 57 old ∧ Blk (w1.setRow (w0.heap.size + 1) ds) (w0.heap.size + 1) 57 ds:=by
 obtain ⟨x, y, z, hB⟩:=h.1.2.1
 exact ⟨_, hB, setRow_heap _ _ _ _ _ _ hB⟩
set_option maxHeartbeats 8000000 in
theorem op_1 (m : Mg) (cs : Array Value) (w : World) (hM : isM m = true) (hop : m.op = 1) (h : MAt w (· < w.heap.size) m cs) :
  Calls Tryz.prog 24 #[.agg cs] w (NewEl w (opEl m)):=by
 obtain ⟨i0, i1, hfo, hf, t1, t2, t3, t4, t5, t6, t7⟩:=isM_open hM
 have hel : opEl m = lst 96 [num 2 m.ver, txt 4 m.dn, txt 128 m.pass]:=by unfold opEl; rw [isM_ref hM (by omega), hop]; unfold parts; simp only [hop]; rfl
 rw [hel]
 have hv:=formed_bind hop hf
 have k1:=h.g1
 rw [hop] at k1
 have F0:=Fo.new w cs
 clear hel
 go_enter Tryz.func24, Tryz.ntmps24
 go_wp2_with fail
 refine wp_region_noPanic ?_
 refine wp_region_held_drew (S:=Fo w cs) (by kernel_rfl) (F0.past (Below.refl _ _).drew) (fun hH0=>?_)
 refine Rg.tk 0 9 (.pointer (some ⟨w.heap.size, 4, none⟩)) rfl (by kernel_rfl) (fun _ _ _ h=>h) (fun _ _=>by kernel_rfl) hH0 ?_
 refine Rg.tk 1 10 (.int .i64 m.ver) rfl (by kernel_rfl) (fun _ _ _ h=>h) (fun w' h'=>run_cell rfl rfl (by kernel_rfl) ((h'.blk.cell 4).trans h.g4)) hH0 ?_
 refine Rg.tk 3 12 (.pointer (some ⟨w.heap.size, 3, none⟩)) rfl (by kernel_rfl) (fun _ _ _ h=>h) (fun _ _=>by kernel_rfl) hH0 ?_
 refine Rg.tk 4 13 (.string m.dn) rfl (by kernel_rfl) (fun _ _ _ h=>h) (fun w' h'=>run_cell rfl rfl (by kernel_rfl) ((h'.blk.cell 3).trans h.g3)) hH0 ?_
 refine Rg.tk 6 15 (.pointer (some ⟨w.heap.size, 5, none⟩)) rfl (by kernel_rfl) (fun _ _ _ h=>h) (fun _ _=>by kernel_rfl) hH0 ?_
 refine Rg.frame _ (by simp only [Rg.pu, List.set]; rfl) ?_
 refine Rg.tk 7 16 (.string m.pass) rfl (by kernel_rfl) (fun _ _ _ h=>h) (fun w' h'=>run_cell rfl rfl (by kernel_rfl) ((h'.blk.cell 5).trans h.g5)) hH0 ?_
 refine Rg.cl 2 11 rfl (by kernel_rfl) 23 #[.int .u8 2, .int .i64 m.ver] (by kernel_rfl) (rnum_any 2 m.ver _ (by omega) (by omega)) ?_
 rintro _ w2 ⟨rfl, hbw2⟩
 have hH1:=hH0.past hbw2
 refine ⟨_, rfl, hH1, ?_⟩
 refine Rg.cl 5 14 rfl (by kernel_rfl) 52 #[.string m.dn] (by kernel_rfl) (rtext_any m.dn _) ?_
 rintro _ w3 ⟨rfl, hbw3⟩
 have hH2:=hH1.past hbw3
 refine ⟨_, rfl, hH2, ?_⟩
 refine Rg.cl 8 17 rfl (by kernel_rfl) 53 #[.int .u8 128, .string m.pass] (by kernel_rfl) (Be.RText_any 128 m.pass _) ?_
 rintro _ w4 ⟨rfl, hbw4⟩
 have hH3:=hH2.past hbw4
 refine ⟨_, rfl, hH3, ?_⟩
 have hH4:=hH3.alloc (.cells #[.int .u8 2, .string (strOfNums (Be.intB m.ver)), .slice none 0 0, .int .u8 4, .string m.dn, .slice none 0 0, .int .u8 128, .string m.pass, .slice none 0 0] 57)
 refine Rg.rn 9 18 (.slice (some ⟨w4.heap.size, 0, none⟩) 3 3) (w4.alloc (.cells #[.int .u8 2, .string (strOfNums (Be.intB m.ver)), .slice none 0 0, .int .u8 4, .string m.dn, .slice none 0 0, .int .u8 128, .string m.pass, .slice none 0 0] 57)) rfl (by kernel_rfl) (by kernel_rfl) hH4 ?_
 refine Rg.frame _ (by simp only [Rg.pu, List.set]; rfl) ?_
 have hKK:=kids_litP (w:=w4) (B:=w.heap.size + 2) hH3.2 [num 2 m.ver, txt 4 m.dn, txt 128 m.pass] [[.int .u8 2, .string (strOfNums (Be.intB m.ver)), .slice none 0 0], [.int .u8 4, .string m.dn, .slice none 0 0], [.int .u8 128, .string m.pass, .slice none 0 0]] rfl (by simp) (fun i hi=>by
  match i, hi with
  | 0, _=>exact lies_num (by decide) (by omega) (by omega)
  | 1, _=>exact lies_leaf (by decide) (by omega)
  | 2, _=>exact lies_leaf (by decide) (by omega))
 refine Rg.cl 10 19 rfl (by kernel_rfl) 22 #[.int .u8 96, .slice (some ⟨w4.heap.size, 0, none⟩) 3 3] (by kernel_rfl) (Be.RList_any 96 (some ⟨w4.heap.size, 0, none⟩) 3 3 _) ?_
 rintro _ wl ⟨rfl, hbl⟩
 have hH5:=hH4.past hbl
 refine ⟨_, rfl, hH5, ?_⟩
 have hH6:=hH5.store (.int .u8 96) (.string ⟨#[]⟩) (.slice (some ⟨w4.heap.size, 0, none⟩) 3 3)
 refine Rg.sk 11 _ rfl (by kernel_rfl) (run_storeE hH5.1 rfl rfl rfl) hH6 ?_
 refine Rg.frame _ (by simp only [Rg.pu, List.set]; rfl) ?_
 refine wpAnyH_done (by kernel_rfl) ?_ _
 refine NoPanic.normal ?_
 have HF:=Lib.hid hH5
 have HK:=Lib.hid (kids_fwd hKK hbl)
 clear hKK
 go_wp2_with fail
 obtain ⟨_, _, hB2⟩:=op_rowS HF.out #[.int .u8 96, .string ⟨#[]⟩, .slice (some ⟨w4.heap.size, 0, none⟩) 3 3]
 exact bodyPost_ret (Be.res_el rfl _ _ (w.heap.size + 1) _ _ _ rfl hB2) rfl (op_tell (t:=96) (ks:=[num 2 m.ver, txt 4 m.dn, txt 128 m.pass]) (by decide) (by simp) HF.out HK.out)
set_option maxHeartbeats 8000000 in
theorem op_9 (m : Mg) (cs : Array Value) (w : World) (hM : isM m = true) (hop : m.op = 9) (h : MAt w (· < w.heap.size) m cs) :
  Calls Tryz.prog 24 #[.agg cs] w (NewEl w (opEl m)):=by
 obtain ⟨i0, i1, hfo, hf, t1, t2, t3, t4, t5, t6, t7⟩:=isM_open hM
 have hel : opEl m = lst (opTag 9 m.ref) [num 10 m.code, txt 4 m.matched, txt 4 no]:=by unfold opEl; rw [hop]; unfold parts; simp only [hop]; rfl
 rw [hel]
 have hv:=formed_result hop hf
 obtain ⟨q, hq, hq9, hT⟩ : ∃ q : Nat, m.ref = (q : Int) ∧ q < 9 ∧ (#[.int .u8 0, .int .u8 97, .int .u8 0, .int .u8 101, .int .u8 103, .int .u8 105, .int .u8 107, .int .u8 109, .int .u8 111] : Array Value)[q]? = some (.int .u8 ((opTag 9 m.ref : Nat) : Int)):=by
  rcases (by omega : m.ref = 1 ∨ m.ref = 3 ∨ m.ref = 4 ∨ m.ref = 5 ∨ m.ref = 6 ∨ m.ref = 7 ∨ m.ref = 8) with e | e | e | e | e | e | e
  ·exact ⟨1, e, by decide, by rw [e]; rfl⟩
  ·exact ⟨3, e, by decide, by rw [e]; rfl⟩
  ·exact ⟨4, e, by decide, by rw [e]; rfl⟩
  ·exact ⟨5, e, by decide, by rw [e]; rfl⟩
  ·exact ⟨6, e, by decide, by rw [e]; rfl⟩
  ·exact ⟨7, e, by decide, by rw [e]; rfl⟩
  ·exact ⟨8, e, by decide, by rw [e]; rfl⟩
 have htg:=opTag_le hM
 rw [hop] at htg
 have k2:=h.g2
 rw [hq] at k2
 generalize opTag 9 m.ref = tg at hT htg ⊢
 obtain ⟨ie, hie, hi1⟩ : ∃ i, Tryz.prog.info? 5 = some i ∧ i.size = 1:=by
  have hh : (Tryz.prog.info? 5).map (·.size) = some 1:=by kernel_rfl
  cases hi : Tryz.prog.info? 5 with
  | none=>rw [hi] at hh; cases hh
  | some i=>rw [hi] at hh; exact ⟨i, rfl, Option.some.inj hh⟩
 have k1:=h.g1
 rw [hop] at k1
 have F0:=Fo.new w cs
 clear hel
 go_enter Tryz.func24, Tryz.ntmps24
 go_wp2_with fail
 have F1:=(F0.alloc (.cells #[.int .u8 0, .int .u8 97, .int .u8 0, .int .u8 101, .int .u8 103, .int .u8 105, .int .u8 107, .int .u8 109, .int .u8 111] 92)).past (Below.refl _ _).drew
 have BT : Blk (((w.alloc (.cells cs 28)).alloc (.cells #[.int .u8 0, .string ⟨#[]⟩, .slice none 0 0] 57)).alloc (.cells #[.int .u8 0, .int .u8 97, .int .u8 0, .int .u8 101, .int .u8 103, .int .u8 105, .int .u8 107, .int .u8 109, .int .u8 111] 92)).drew (w.heap.size + 1 + 1) 92 #[.int .u8 0, .int .u8 97, .int .u8 0, .int .u8 101, .int .u8 103, .int .u8 105, .int .u8 107, .int .u8 109, .int .u8 111]:=by
  have B:=Blk.new ((w.alloc (.cells cs 28)).alloc (.cells #[.int .u8 0, .string ⟨#[]⟩, .slice none 0 0] 57)) 92 #[.int .u8 0, .int .u8 97, .int .u8 0, .int .u8 101, .int .u8 103, .int .u8 105, .int .u8 107, .int .u8 109, .int .u8 111]
  rwa [show ((w.alloc (.cells cs 28)).alloc (.cells #[.int .u8 0, .string ⟨#[]⟩, .slice none 0 0] 57)).heap.size = w.heap.size + 1 + 1 by simp] at B
 refine wp_region_noPanic ?_
 refine wp_region_held_drew (S:=(fun w'=>Fo w cs w' ∧ Blk w' (w.heap.size + 1 + 1) 92 #[.int .u8 0, .int .u8 97, .int .u8 0, .int .u8 101, .int .u8 103, .int .u8 105, .int .u8 107, .int .u8 109, .int .u8 111])) (by kernel_rfl) ⟨F1, BT⟩ (fun hH0=>?_)
 refine Rg.tk 0 116 (.pointer (some ⟨w.heap.size, 2, none⟩)) rfl (by kernel_rfl) (fun _ _ _ h=>h) (fun _ _=>by kernel_rfl) hH0 ?_
 refine Rg.tk 1 117 (.int .i64 (q : Nat)) rfl (by kernel_rfl) (fun _ _ _ h=>h) (fun w' h'=>run_cell rfl rfl (by kernel_rfl) ((h'.1.blk.cell 2).trans k2)) hH0 ?_
 refine Rg.tk 2 118 (.pointer (some ⟨w.heap.size + 1 + 1, 0 + q, none⟩)) rfl (by kernel_rfl) (fun _ _ _ h=>h) (fun w' h'=>run_indexA Tryz.underlying92 hie hi1 rfl rfl rfl hq9) hH0 ?_
 refine Rg.tk 3 119 (.int .u8 (tg : Nat)) rfl (by kernel_rfl) (fun _ _ _ h=>h) (fun w' h'=>run_cell rfl rfl (by kernel_rfl) ((h'.2.cell (0 + q)).trans ((congrArg (fun x=>(#[.int .u8 0, .int .u8 97, .int .u8 0, .int .u8 101, .int .u8 103, .int .u8 105, .int .u8 107, .int .u8 109, .int .u8 111] : Array Value)[x]?) (Nat.zero_add q)).trans hT))) hH0 ?_
 refine Rg.tk 4 120 (.pointer (some ⟨w.heap.size, 21, none⟩)) rfl (by kernel_rfl) (fun _ _ _ h=>h) (fun _ _=>by kernel_rfl) hH0 ?_
 refine Rg.frame _ (by simp only [Rg.pu, List.set]; rfl) ?_
 refine Rg.tk 5 121 (.int .i64 m.code) rfl (by kernel_rfl) (fun _ _ _ h=>h) (fun w' h'=>run_cell rfl rfl (by kernel_rfl) ((h'.1.blk.cell 21).trans h.g21)) hH0 ?_
 refine Rg.tk 7 123 (.pointer (some ⟨w.heap.size, 22, none⟩)) rfl (by kernel_rfl) (fun _ _ _ h=>h) (fun _ _=>by kernel_rfl) hH0 ?_
 refine Rg.tk 8 124 (.string m.matched) rfl (by kernel_rfl) (fun _ _ _ h=>h) (fun w' h'=>run_cell rfl rfl (by kernel_rfl) ((h'.1.blk.cell 22).trans h.g22)) hH0 ?_
 refine Rg.cl 6 122 rfl (by kernel_rfl) 23 #[.int .u8 10, .int .i64 m.code] (by kernel_rfl) (rnum_any 10 m.code _ (by omega) (by omega)) ?_
 rintro _ w2 ⟨rfl, hbw2⟩
 have hH1:=And.intro (hH0.1.past hbw2) (hH0.2.past hbw2)
 refine ⟨_, rfl, hH1, ?_⟩
 refine Rg.cl 9 125 rfl (by kernel_rfl) 52 #[.string m.matched] (by kernel_rfl) (rtext_any m.matched _) ?_
 rintro _ w3 ⟨rfl, hbw3⟩
 have hH2:=And.intro (hH1.1.past hbw3) (hH1.2.past hbw3)
 refine ⟨_, rfl, hH2, ?_⟩
 refine Rg.frame _ (by simp only [Rg.pu, List.set]; rfl) ?_
 refine Rg.cl 10 126 rfl (by kernel_rfl) 52 #[(Value.string { data:=#[] })] (by kernel_rfl) (rtext_any ⟨#[]⟩ _) ?_
 rintro _ w4 ⟨rfl, hbw4⟩
 have hH3:=And.intro (hH2.1.past hbw4) (hH2.2.past hbw4)
 refine ⟨_, rfl, hH3, ?_⟩
 have hH4:=And.intro (hH3.1.alloc (.cells #[.int .u8 10, .string (strOfNums (Be.intB m.code)), .slice none 0 0, .int .u8 4, .string m.matched, .slice none 0 0, .int .u8 4, .string ⟨#[]⟩, .slice none 0 0] 57)) (hH3.2.alloc (.cells #[.int .u8 10, .string (strOfNums (Be.intB m.code)), .slice none 0 0, .int .u8 4, .string m.matched, .slice none 0 0, .int .u8 4, .string ⟨#[]⟩, .slice none 0 0] 57))
 refine Rg.rn 11 127 (.slice (some ⟨w4.heap.size, 0, none⟩) 3 3) (w4.alloc (.cells #[.int .u8 10, .string (strOfNums (Be.intB m.code)), .slice none 0 0, .int .u8 4, .string m.matched, .slice none 0 0, .int .u8 4, .string ⟨#[]⟩, .slice none 0 0] 57)) rfl (by kernel_rfl) (by kernel_rfl) hH4 ?_
 have hKK:=kids_litP (w:=w4) (B:=w.heap.size + 2) hH3.1.2 [num 10 m.code, txt 4 m.matched, txt 4 no] [[.int .u8 10, .string (strOfNums (Be.intB m.code)), .slice none 0 0], [.int .u8 4, .string m.matched, .slice none 0 0], [.int .u8 4, .string ⟨#[]⟩, .slice none 0 0]] rfl (by simp) (fun i hi=>by
  match i, hi with
  | 0, _=>exact lies_num (by decide) (by omega) (by omega)
  | 1, _=>exact lies_leaf (by decide) (by omega)
  | 2, _=>exact lies_leaf (by decide) (by decide))
 refine Rg.cl 12 128 rfl (by kernel_rfl) 22 #[.int .u8 (tg : Nat), .slice (some ⟨w4.heap.size, 0, none⟩) 3 3] (by kernel_rfl) (Be.RList_any (tg : Nat) (some ⟨w4.heap.size, 0, none⟩) 3 3 _) ?_
 rintro _ wl ⟨rfl, hbl⟩
 have hH5:=And.intro (hH4.1.past hbl) (hH4.2.past hbl)
 refine ⟨_, rfl, hH5, ?_⟩
 have hH6:=And.intro (hH5.1.store (.int .u8 (tg : Nat)) (.string ⟨#[]⟩) (.slice (some ⟨w4.heap.size, 0, none⟩) 3 3)) ((setRow_other _ _ _ #[.int .u8 (tg : Nat), .string ⟨#[]⟩, .slice (some ⟨w4.heap.size, 0, none⟩) 3 3] (show w.heap.size + 1 + 1 ≠ w.heap.size + 1 by omega)).trans hH5.2)
 refine Rg.sk 13 _ rfl (by kernel_rfl) (run_storeE hH5.1.1 rfl rfl rfl) hH6 ?_
 refine Rg.frame _ (by simp only [Rg.pu, List.set]; rfl) ?_
 refine wpAnyH_done (by kernel_rfl) ?_ _
 refine NoPanic.normal ?_
 have HF:=Lib.hid hH5.1
 have HK:=Lib.hid (kids_fwd hKK hbl)
 clear hKK
 go_wp2_with fail
 obtain ⟨_, _, hB2⟩:=op_rowS HF.out #[.int .u8 (tg : Nat), .string ⟨#[]⟩, .slice (some ⟨w4.heap.size, 0, none⟩) 3 3]
 exact bodyPost_ret (Be.res_el rfl _ _ (w.heap.size + 1) _ _ _ rfl hB2) rfl (op_tell (t:=tg) (ks:=[num 10 m.code, txt 4 m.matched, txt 4 no]) htg (by simp) HF.out HK.out)
set_option maxHeartbeats 8000000 in
theorem op_3 (m : Mg) (cs : Array Value) (w : World) (hM : isM m = true) (hop : m.op = 3) (h : MAt w (· < w.heap.size) m cs) :
  Calls Tryz.prog 24 #[.agg cs] w (NewEl w (opEl m)):=by
 obtain ⟨i0, i1, hfo, hf, t1, t2, t3, t4, t5, t6, t7⟩:=isM_open hM
 have hel : opEl m = lst 99 [txt 4 m.dn, num 10 m.scope, num 10 0, num 2 m.size, num 2 0, flg false, filEl m.fil, lst 48 (m.wants.map (txt 4))]:=by unfold opEl; rw [isM_ref hM (by omega), hop]; unfold parts; simp only [hop]; rfl
 rw [hel]
 obtain ⟨q1, q2, q3, q4, q5⟩:=formed_search hop hf
 obtain ⟨q6, q7⟩:=fil_open q3
 obtain ⟨x0, x1, x2, x3, x4, fx0, fx1, fx2, fx3, fx4, hF⟩:=h.gF
 obtain ⟨W, wc, eW, hW, lW, _, _⟩:=h.gW
 have k1:=h.g1
 rw [hop] at k1
 have F0:=Fo.new w cs
 clear hel
 go_enter Tryz.func24, Tryz.ntmps24
 go_wp2_with fail
 refine wp_region_noPanic ?_
 refine wp_region_held_drew (S:=Fo w cs) (by kernel_rfl) (F0.past (Below.refl _ _).drew) (fun hH0=>?_)
 refine Rg.tk 0 25 (.pointer (some ⟨w.heap.size, 3, none⟩)) rfl (by kernel_rfl) (fun _ _ _ h=>h) (fun _ _=>by kernel_rfl) hH0 ?_
 refine Rg.tk 1 26 (.string m.dn) rfl (by kernel_rfl) (fun _ _ _ h=>h) (fun w' h'=>run_cell rfl rfl (by kernel_rfl) ((h'.blk.cell 3).trans h.g3)) hH0 ?_
 refine Rg.tk 3 28 (.pointer (some ⟨w.heap.size, 6, none⟩)) rfl (by kernel_rfl) (fun _ _ _ h=>h) (fun _ _=>by kernel_rfl) hH0 ?_
 refine Rg.tk 4 29 (.int .i64 m.scope) rfl (by kernel_rfl) (fun _ _ _ h=>h) (fun w' h'=>run_cell rfl rfl (by kernel_rfl) ((h'.blk.cell 6).trans h.g6)) hH0 ?_
 refine Rg.tk 7 32 (.pointer (some ⟨w.heap.size, 7, none⟩)) rfl (by kernel_rfl) (fun _ _ _ h=>h) (fun _ _=>by kernel_rfl) hH0 ?_
 refine Rg.frame _ (by simp only [Rg.pu, List.set]; rfl) ?_
 refine Rg.tk 8 33 (.int .i64 m.size) rfl (by kernel_rfl) (fun _ _ _ h=>h) (fun w' h'=>run_cell rfl rfl (by kernel_rfl) ((h'.blk.cell 7).trans h.g7)) hH0 ?_
 refine Rg.tk 12 37 (.pointer (some ⟨w.heap.size, 8, none⟩)) rfl (by kernel_rfl) (fun _ _ _ h=>h) (fun _ _=>by kernel_rfl) hH0 ?_
 refine Rg.tk 13 38 (.agg #[x0, x1, x2, x3, x4]) rfl (by kernel_rfl) (fun _ _ _ h=>h) (fun w' h'=>run_loadF rfl rfl ((h'.blk.cell 8).trans fx0) ((h'.blk.cell 9).trans fx1) ((h'.blk.cell 10).trans fx2) ((h'.blk.cell 11).trans fx3) ((h'.blk.cell 12).trans fx4)) hH0 ?_
 refine Rg.tk 15 40 (.pointer (some ⟨w.heap.size, 13, none⟩)) rfl (by kernel_rfl) (fun _ _ _ h=>h) (fun _ _=>by kernel_rfl) hH0 ?_
 refine Rg.tk 16 41 (.slice W m.wants.length wc) rfl (by kernel_rfl) (fun _ _ _ h=>h) (fun w' h'=>run_cell rfl rfl (by kernel_rfl) ((h'.blk.cell 13).trans eW)) hH0 ?_
 refine Rg.frame _ (by simp only [Rg.pu, List.set]; rfl) ?_
 refine Rg.cl 2 27 rfl (by kernel_rfl) 52 #[.string m.dn] (by kernel_rfl) (rtext_any m.dn _) ?_
 rintro _ w2 ⟨rfl, hbw2⟩
 have hH1:=hH0.past hbw2
 refine ⟨_, rfl, hH1, ?_⟩
 refine Rg.cl 5 30 rfl (by kernel_rfl) 23 #[.int .u8 10, .int .i64 m.scope] (by kernel_rfl) (rnum_any 10 m.scope _ (by omega) (by omega)) ?_
 rintro _ w3 ⟨rfl, hbw3⟩
 have hH2:=hH1.past hbw3
 refine ⟨_, rfl, hH2, ?_⟩
 refine Rg.cl 6 31 rfl (by kernel_rfl) 23 #[.int .u8 10, .int .i64 0] (by kernel_rfl) (rnum_any 10 0 _ (by omega) (by omega)) ?_
 rintro _ w4 ⟨rfl, hbw4⟩
 have hH3:=hH2.past hbw4
 refine ⟨_, rfl, hH3, ?_⟩
 refine Rg.cl 9 34 rfl (by kernel_rfl) 23 #[.int .u8 2, .int .i64 m.size] (by kernel_rfl) (rnum_any 2 m.size _ (by omega) (by omega)) ?_
 rintro _ w5 ⟨rfl, hbw5⟩
 have hH4:=hH3.past hbw5
 refine ⟨_, rfl, hH4, ?_⟩
 refine Rg.cl 10 35 rfl (by kernel_rfl) 23 #[.int .u8 2, .int .i64 0] (by kernel_rfl) (rnum_any 2 0 _ (by omega) (by omega)) ?_
 rintro _ w6 ⟨rfl, hbw6⟩
 have hH5:=hH4.past hbw6
 refine ⟨_, rfl, hH5, ?_⟩
 refine Rg.frame _ (by simp only [Rg.pu, List.set]; rfl) ?_
 refine Rg.cl 11 36 rfl (by kernel_rfl) 54 #[(Value.bool false)] (by kernel_rfl) (rflag_any false _) ?_
 rintro _ w7 ⟨rfl, hbw7⟩
 have hH6:=hH5.past hbw7
 refine ⟨_, rfl, hH6, ?_⟩
 have hlo1:=hH6.2
 refine Rg.cl 14 39 rfl (by kernel_rfl) 55 #[.agg #[x0, x1, x2, x3, x4]] (by kernel_rfl) (rfil_any m.fil _ _ _ _ _ _ q6 q7 (hF.past hH6.below)) ?_
 rintro _ w8 ⟨t8, b8, A8, n8, c8, rfl, hb8, hL8⟩
 have hH7:=hH6.past hb8
 refine ⟨_, rfl, hH7, ?_⟩
 have hlo2:=hH7.2
 refine Rg.cl 17 42 rfl (by kernel_rfl) 56 #[.int .u8 48, .slice W m.wants.length wc] (by kernel_rfl) (rall_any 48 (by decide) W wc m.wants _ (by omega) (fun s hs=>by have:=q5 s hs; omega) (hW.past hH7.below)) ?_
 rintro _ w9 ⟨A1, c1, ds1, rfl, hb9, hK1⟩
 have hH8:=hH7.past hb9
 refine ⟨_, rfl, hH8, ?_⟩
 have hH9:=hH8.alloc (.cells #[.int .u8 4, .string m.dn, .slice none 0 0, .int .u8 10, .string (strOfNums (Be.intB m.scope)), .slice none 0 0, .int .u8 10, .string (strOfNums (Be.intB 0)), .slice none 0 0, .int .u8 2, .string (strOfNums (Be.intB m.size)), .slice none 0 0, .int .u8 2, .string (strOfNums (Be.intB 0)), .slice none 0 0, .int .u8 1, .string (boolB false), .slice none 0 0, .int .u8 (t8 : Nat), .string b8, .slice A8 n8 c8, .int .u8 48, .string ⟨#[]⟩, .slice A1 (m.wants.map (txt 4)).length c1] 57)
 refine Rg.rn 18 43 (.slice (some ⟨w9.heap.size, 0, none⟩) 8 8) (w9.alloc (.cells #[.int .u8 4, .string m.dn, .slice none 0 0, .int .u8 10, .string (strOfNums (Be.intB m.scope)), .slice none 0 0, .int .u8 10, .string (strOfNums (Be.intB 0)), .slice none 0 0, .int .u8 2, .string (strOfNums (Be.intB m.size)), .slice none 0 0, .int .u8 2, .string (strOfNums (Be.intB 0)), .slice none 0 0, .int .u8 1, .string (boolB false), .slice none 0 0, .int .u8 (t8 : Nat), .string b8, .slice A8 n8 c8, .int .u8 48, .string ⟨#[]⟩, .slice A1 (m.wants.map (txt 4)).length c1] 57)) rfl (by kernel_rfl) (by kernel_rfl) hH9 ?_
 have hKK:=kids_litP (w:=w9) (B:=w.heap.size + 2) hH8.2 [txt 4 m.dn, num 10 m.scope, num 10 0, num 2 m.size, num 2 0, flg false, filEl m.fil, lst 48 (m.wants.map (txt 4))] [[.int .u8 4, .string m.dn, .slice none 0 0], [.int .u8 10, .string (strOfNums (Be.intB m.scope)), .slice none 0 0], [.int .u8 10, .string (strOfNums (Be.intB 0)), .slice none 0 0], [.int .u8 2, .string (strOfNums (Be.intB m.size)), .slice none 0 0], [.int .u8 2, .string (strOfNums (Be.intB 0)), .slice none 0 0], [.int .u8 1, .string (boolB false), .slice none 0 0], [.int .u8 (t8 : Nat), .string b8, .slice A8 n8 c8], [.int .u8 48, .string ⟨#[]⟩, .slice A1 (m.wants.map (txt 4)).length c1]] rfl (by simp) (fun i hi=>by
  match i, hi with
  | 0, _=>exact lies_leaf (by decide) (by omega)
  | 1, _=>exact lies_num (by decide) (by omega) (by omega)
  | 2, _=>exact lies_num (by decide) (by omega) (by omega)
  | 3, _=>exact lies_num (by decide) (by omega) (by omega)
  | 4, _=>exact lies_num (by decide) (by omega) (by omega)
  | 5, _=>exact lies_flg false
  | 6, _=>exact lies_fwd (lies_low hL8 hlo1) hb9
  | 7, _=>exact lies_list (by rw [List.length_map]; omega) (kids_low hK1 hlo2))
 refine Rg.cl 19 44 rfl (by kernel_rfl) 22 #[.int .u8 99, .slice (some ⟨w9.heap.size, 0, none⟩) 8 8] (by kernel_rfl) (Be.RList_any 99 (some ⟨w9.heap.size, 0, none⟩) 8 8 _) ?_
 rintro _ wl ⟨rfl, hbl⟩
 have hH10:=hH9.past hbl
 refine ⟨_, rfl, hH10, ?_⟩
 refine Rg.frame _ (by simp only [Rg.pu, List.set]; rfl) ?_
 have hH11:=hH10.store (.int .u8 99) (.string ⟨#[]⟩) (.slice (some ⟨w9.heap.size, 0, none⟩) 8 8)
 refine Rg.sk 20 _ rfl (by kernel_rfl) (run_storeE hH10.1 rfl rfl rfl) hH11 ?_
 refine wpAnyH_done (by kernel_rfl) ?_ _
 refine NoPanic.normal ?_
 have HF:=Lib.hid hH10
 have HK:=Lib.hid (kids_fwd hKK hbl)
 clear hKK
 go_wp2_with fail
 obtain ⟨_, _, hB2⟩:=op_rowS HF.out #[.int .u8 99, .string ⟨#[]⟩, .slice (some ⟨w9.heap.size, 0, none⟩) 8 8]
 exact bodyPost_ret (Be.res_el rfl _ _ (w.heap.size + 1) _ _ _ rfl hB2) rfl (op_tell (t:=99) (ks:=[txt 4 m.dn, num 10 m.scope, num 10 0, num 2 m.size, num 2 0, flg false, filEl m.fil, lst 48 (m.wants.map (txt 4))]) (by decide) (by simp) HF.out HK.out)
set_option maxHeartbeats 8000000 in
theorem op_4 (m : Mg) (cs : Array Value) (w : World) (hM : isM m = true) (hop : m.op = 4) (h : MAt w (· < w.heap.size) m cs) :
  Calls Tryz.prog 24 #[.agg cs] w (NewEl w (opEl m)):=by
 obtain ⟨i0, i1, hfo, hf, t1, t2, t3, t4, t5, t6, t7⟩:=isM_open hM
 have hel : opEl m = lst 102 [txt 4 m.dn, lst 48 (m.mods.map modEl)]:=by unfold opEl; rw [isM_ref hM (by omega), hop]; unfold parts; simp only [hop]; rfl
 rw [hel]
 obtain ⟨q1, q2, _⟩:=formed_mods (by omega) hf
 obtain ⟨M, mc, ds, eM, hMo, lM, _⟩:=h.gM
 have k1:=h.g1
 rw [hop] at k1
 have F0:=Fo.new w cs
 clear hel
 go_enter Tryz.func24, Tryz.ntmps24
 go_wp2_with fail
 refine wp_region_noPanic ?_
 refine wp_region_held_drew (S:=Fo w cs) (by kernel_rfl) (F0.past (Below.refl _ _).drew) (fun hH0=>?_)
 refine Rg.tk 0 47 (.pointer (some ⟨w.heap.size, 3, none⟩)) rfl (by kernel_rfl) (fun _ _ _ h=>h) (fun _ _=>by kernel_rfl) hH0 ?_
 refine Rg.tk 1 48 (.string m.dn) rfl (by kernel_rfl) (fun _ _ _ h=>h) (fun w' h'=>run_cell rfl rfl (by kernel_rfl) ((h'.blk.cell 3).trans h.g3)) hH0 ?_
 refine Rg.tk 3 50 (.pointer (some ⟨w.heap.size, 14, none⟩)) rfl (by kernel_rfl) (fun _ _ _ h=>h) (fun _ _=>by kernel_rfl) hH0 ?_
 refine Rg.tk 4 51 (.slice M m.mods.length mc) rfl (by kernel_rfl) (fun _ _ _ h=>h) (fun w' h'=>run_cell rfl rfl (by kernel_rfl) ((h'.blk.cell 14).trans eM)) hH0 ?_
 refine Rg.cl 2 49 rfl (by kernel_rfl) 52 #[.string m.dn] (by kernel_rfl) (rtext_any m.dn _) ?_
 rintro _ w2 ⟨rfl, hbw2⟩
 have hH1:=hH0.past hbw2
 refine ⟨_, rfl, hH1, ?_⟩
 refine Rg.frame _ (by simp only [Rg.pu, List.set]; rfl) ?_
 have hlo1:=hH1.2
 refine Rg.cl 5 52 rfl (by kernel_rfl) 57 #[.slice M m.mods.length mc] (by kernel_rfl) (rchanges_any M mc m.mods ds _ q1 q2 (hMo.past hH1.below)) ?_
 rintro _ w9 ⟨A1, c1, ds1, rfl, hb9, hK1⟩
 have hH2:=hH1.past hb9
 refine ⟨_, rfl, hH2, ?_⟩
 have hH3:=hH2.alloc (.cells #[.int .u8 4, .string m.dn, .slice none 0 0, .int .u8 48, .string ⟨#[]⟩, .slice A1 (m.mods.map modEl).length c1] 57)
 refine Rg.rn 6 53 (.slice (some ⟨w9.heap.size, 0, none⟩) 2 2) (w9.alloc (.cells #[.int .u8 4, .string m.dn, .slice none 0 0, .int .u8 48, .string ⟨#[]⟩, .slice A1 (m.mods.map modEl).length c1] 57)) rfl (by kernel_rfl) (by kernel_rfl) hH3 ?_
 have hKK:=kids_litP (w:=w9) (B:=w.heap.size + 2) hH2.2 [txt 4 m.dn, lst 48 (m.mods.map modEl)] [[.int .u8 4, .string m.dn, .slice none 0 0], [.int .u8 48, .string ⟨#[]⟩, .slice A1 (m.mods.map modEl).length c1]] rfl (by simp) (fun i hi=>by
  match i, hi with
  | 0, _=>exact lies_leaf (by decide) (by omega)
  | 1, _=>exact lies_list (by rw [List.length_map]; omega) (kids_low hK1 hlo1))
 refine Rg.cl 7 54 rfl (by kernel_rfl) 22 #[.int .u8 102, .slice (some ⟨w9.heap.size, 0, none⟩) 2 2] (by kernel_rfl) (Be.RList_any 102 (some ⟨w9.heap.size, 0, none⟩) 2 2 _) ?_
 rintro _ wl ⟨rfl, hbl⟩
 have hH4:=hH3.past hbl
 refine ⟨_, rfl, hH4, ?_⟩
 have hH5:=hH4.store (.int .u8 102) (.string ⟨#[]⟩) (.slice (some ⟨w9.heap.size, 0, none⟩) 2 2)
 refine Rg.sk 8 _ rfl (by kernel_rfl) (run_storeE hH4.1 rfl rfl rfl) hH5 ?_
 refine Rg.frame _ (by simp only [Rg.pu, List.set]; rfl) ?_
 refine wpAnyH_done (by kernel_rfl) ?_ _
 refine NoPanic.normal ?_
 have HF:=Lib.hid hH4
 have HK:=Lib.hid (kids_fwd hKK hbl)
 clear hKK
 go_wp2_with fail
 obtain ⟨_, _, hB2⟩:=op_rowS HF.out #[.int .u8 102, .string ⟨#[]⟩, .slice (some ⟨w9.heap.size, 0, none⟩) 2 2]
 exact bodyPost_ret (Be.res_el rfl _ _ (w.heap.size + 1) _ _ _ rfl hB2) rfl (op_tell (t:=102) (ks:=[txt 4 m.dn, lst 48 (m.mods.map modEl)]) (by decide) (by simp) HF.out HK.out)
set_option maxHeartbeats 8000000 in
theorem op_5 (m : Mg) (cs : Array Value) (w : World) (hM : isM m = true) (hop : m.op = 5) (h : MAt w (· < w.heap.size) m cs) :
  Calls Tryz.prog 24 #[.agg cs] w (NewEl w (opEl m)):=by
 obtain ⟨i0, i1, hfo, hf, t1, t2, t3, t4, t5, t6, t7⟩:=isM_open hM
 have hel : opEl m = lst 104 [txt 4 m.dn, lst 48 (m.mods.map attrEl)]:=by unfold opEl; rw [isM_ref hM (by omega), hop]; unfold parts; simp only [hop]; rfl
 rw [hel]
 obtain ⟨q1, q2, _⟩:=formed_mods (by omega) hf
 obtain ⟨M, mc, ds, eM, hMo, lM, _⟩:=h.gM
 have k1:=h.g1
 rw [hop] at k1
 have F0:=Fo.new w cs
 clear hel
 go_enter Tryz.func24, Tryz.ntmps24
 go_wp2_with fail
 refine wp_region_noPanic ?_
 refine wp_region_held_drew (S:=Fo w cs) (by kernel_rfl) (F0.past (Below.refl _ _).drew) (fun hH0=>?_)
 refine Rg.tk 0 57 (.pointer (some ⟨w.heap.size, 3, none⟩)) rfl (by kernel_rfl) (fun _ _ _ h=>h) (fun _ _=>by kernel_rfl) hH0 ?_
 refine Rg.tk 1 58 (.string m.dn) rfl (by kernel_rfl) (fun _ _ _ h=>h) (fun w' h'=>run_cell rfl rfl (by kernel_rfl) ((h'.blk.cell 3).trans h.g3)) hH0 ?_
 refine Rg.tk 3 60 (.pointer (some ⟨w.heap.size, 14, none⟩)) rfl (by kernel_rfl) (fun _ _ _ h=>h) (fun _ _=>by kernel_rfl) hH0 ?_
 refine Rg.tk 4 61 (.slice M m.mods.length mc) rfl (by kernel_rfl) (fun _ _ _ h=>h) (fun w' h'=>run_cell rfl rfl (by kernel_rfl) ((h'.blk.cell 14).trans eM)) hH0 ?_
 refine Rg.cl 2 59 rfl (by kernel_rfl) 52 #[.string m.dn] (by kernel_rfl) (rtext_any m.dn _) ?_
 rintro _ w2 ⟨rfl, hbw2⟩
 have hH1:=hH0.past hbw2
 refine ⟨_, rfl, hH1, ?_⟩
 refine Rg.frame _ (by simp only [Rg.pu, List.set]; rfl) ?_
 have hlo1:=hH1.2
 refine Rg.cl 5 62 rfl (by kernel_rfl) 58 #[.slice M m.mods.length mc] (by kernel_rfl) (rattributes_any M mc m.mods ds _ q1 q2 (hMo.past hH1.below)) ?_
 rintro _ w9 ⟨A1, c1, ds1, rfl, hb9, hK1⟩
 have hH2:=hH1.past hb9
 refine ⟨_, rfl, hH2, ?_⟩
 have hH3:=hH2.alloc (.cells #[.int .u8 4, .string m.dn, .slice none 0 0, .int .u8 48, .string ⟨#[]⟩, .slice A1 (m.mods.map attrEl).length c1] 57)
 refine Rg.rn 6 63 (.slice (some ⟨w9.heap.size, 0, none⟩) 2 2) (w9.alloc (.cells #[.int .u8 4, .string m.dn, .slice none 0 0, .int .u8 48, .string ⟨#[]⟩, .slice A1 (m.mods.map attrEl).length c1] 57)) rfl (by kernel_rfl) (by kernel_rfl) hH3 ?_
 have hKK:=kids_litP (w:=w9) (B:=w.heap.size + 2) hH2.2 [txt 4 m.dn, lst 48 (m.mods.map attrEl)] [[.int .u8 4, .string m.dn, .slice none 0 0], [.int .u8 48, .string ⟨#[]⟩, .slice A1 (m.mods.map attrEl).length c1]] rfl (by simp) (fun i hi=>by
  match i, hi with
  | 0, _=>exact lies_leaf (by decide) (by omega)
  | 1, _=>exact lies_list (by rw [List.length_map]; omega) (kids_low hK1 hlo1))
 refine Rg.cl 7 64 rfl (by kernel_rfl) 22 #[.int .u8 104, .slice (some ⟨w9.heap.size, 0, none⟩) 2 2] (by kernel_rfl) (Be.RList_any 104 (some ⟨w9.heap.size, 0, none⟩) 2 2 _) ?_
 rintro _ wl ⟨rfl, hbl⟩
 have hH4:=hH3.past hbl
 refine ⟨_, rfl, hH4, ?_⟩
 have hH5:=hH4.store (.int .u8 104) (.string ⟨#[]⟩) (.slice (some ⟨w9.heap.size, 0, none⟩) 2 2)
 refine Rg.sk 8 _ rfl (by kernel_rfl) (run_storeE hH4.1 rfl rfl rfl) hH5 ?_
 refine Rg.frame _ (by simp only [Rg.pu, List.set]; rfl) ?_
 refine wpAnyH_done (by kernel_rfl) ?_ _
 refine NoPanic.normal ?_
 have HF:=Lib.hid hH4
 have HK:=Lib.hid (kids_fwd hKK hbl)
 clear hKK
 go_wp2_with fail
 obtain ⟨_, _, hB2⟩:=op_rowS HF.out #[.int .u8 104, .string ⟨#[]⟩, .slice (some ⟨w9.heap.size, 0, none⟩) 2 2]
 exact bodyPost_ret (Be.res_el rfl _ _ (w.heap.size + 1) _ _ _ rfl hB2) rfl (op_tell (t:=104) (ks:=[txt 4 m.dn, lst 48 (m.mods.map attrEl)]) (by decide) (by simp) HF.out HK.out)
set_option maxHeartbeats 8000000 in
theorem op_10 (m : Mg) (cs : Array Value) (w : World) (hM : isM m = true) (hop : m.op = 10) (h : MAt w (· < w.heap.size) m cs) :
  Calls Tryz.prog 24 #[.agg cs] w (NewEl w (opEl m)):=by
 obtain ⟨i0, i1, hfo, hf, t1, t2, t3, t4, t5, t6, t7⟩:=isM_open hM
 have hel : opEl m = lst 100 [txt 4 m.dn, lst 48 (m.mods.map attrEl)]:=by unfold opEl; rw [isM_ref hM (by omega), hop]; unfold parts; simp only [hop]; rfl
 rw [hel]
 obtain ⟨q1, q2, _⟩:=formed_mods (by omega) hf
 obtain ⟨M, mc, ds, eM, hMo, lM, _⟩:=h.gM
 have k1:=h.g1
 rw [hop] at k1
 have F0:=Fo.new w cs
 clear hel
 go_enter Tryz.func24, Tryz.ntmps24
 go_wp2_with fail
 refine wp_region_noPanic ?_
 refine wp_region_held_drew (S:=Fo w cs) (by kernel_rfl) (F0.past (Below.refl _ _).drew) (fun hH0=>?_)
 refine Rg.tk 0 107 (.pointer (some ⟨w.heap.size, 3, none⟩)) rfl (by kernel_rfl) (fun _ _ _ h=>h) (fun _ _=>by kernel_rfl) hH0 ?_
 refine Rg.tk 1 108 (.string m.dn) rfl (by kernel_rfl) (fun _ _ _ h=>h) (fun w' h'=>run_cell rfl rfl (by kernel_rfl) ((h'.blk.cell 3).trans h.g3)) hH0 ?_
 refine Rg.tk 3 110 (.pointer (some ⟨w.heap.size, 14, none⟩)) rfl (by kernel_rfl) (fun _ _ _ h=>h) (fun _ _=>by kernel_rfl) hH0 ?_
 refine Rg.tk 4 111 (.slice M m.mods.length mc) rfl (by kernel_rfl) (fun _ _ _ h=>h) (fun w' h'=>run_cell rfl rfl (by kernel_rfl) ((h'.blk.cell 14).trans eM)) hH0 ?_
 refine Rg.cl 2 109 rfl (by kernel_rfl) 52 #[.string m.dn] (by kernel_rfl) (rtext_any m.dn _) ?_
 rintro _ w2 ⟨rfl, hbw2⟩
 have hH1:=hH0.past hbw2
 refine ⟨_, rfl, hH1, ?_⟩
 refine Rg.frame _ (by simp only [Rg.pu, List.set]; rfl) ?_
 have hlo1:=hH1.2
 refine Rg.cl 5 112 rfl (by kernel_rfl) 58 #[.slice M m.mods.length mc] (by kernel_rfl) (rattributes_any M mc m.mods ds _ q1 q2 (hMo.past hH1.below)) ?_
 rintro _ w9 ⟨A1, c1, ds1, rfl, hb9, hK1⟩
 have hH2:=hH1.past hb9
 refine ⟨_, rfl, hH2, ?_⟩
 have hH3:=hH2.alloc (.cells #[.int .u8 4, .string m.dn, .slice none 0 0, .int .u8 48, .string ⟨#[]⟩, .slice A1 (m.mods.map attrEl).length c1] 57)
 refine Rg.rn 6 113 (.slice (some ⟨w9.heap.size, 0, none⟩) 2 2) (w9.alloc (.cells #[.int .u8 4, .string m.dn, .slice none 0 0, .int .u8 48, .string ⟨#[]⟩, .slice A1 (m.mods.map attrEl).length c1] 57)) rfl (by kernel_rfl) (by kernel_rfl) hH3 ?_
 have hKK:=kids_litP (w:=w9) (B:=w.heap.size + 2) hH2.2 [txt 4 m.dn, lst 48 (m.mods.map attrEl)] [[.int .u8 4, .string m.dn, .slice none 0 0], [.int .u8 48, .string ⟨#[]⟩, .slice A1 (m.mods.map attrEl).length c1]] rfl (by simp) (fun i hi=>by
  match i, hi with
  | 0, _=>exact lies_leaf (by decide) (by omega)
  | 1, _=>exact lies_list (by rw [List.length_map]; omega) (kids_low hK1 hlo1))
 refine Rg.cl 7 114 rfl (by kernel_rfl) 22 #[.int .u8 100, .slice (some ⟨w9.heap.size, 0, none⟩) 2 2] (by kernel_rfl) (Be.RList_any 100 (some ⟨w9.heap.size, 0, none⟩) 2 2 _) ?_
 rintro _ wl ⟨rfl, hbl⟩
 have hH4:=hH3.past hbl
 refine ⟨_, rfl, hH4, ?_⟩
 have hH5:=hH4.store (.int .u8 100) (.string ⟨#[]⟩) (.slice (some ⟨w9.heap.size, 0, none⟩) 2 2)
 refine Rg.sk 8 _ rfl (by kernel_rfl) (run_storeE hH4.1 rfl rfl rfl) hH5 ?_
 refine Rg.frame _ (by simp only [Rg.pu, List.set]; rfl) ?_
 refine wpAnyH_done (by kernel_rfl) ?_ _
 refine NoPanic.normal ?_
 have HF:=Lib.hid hH4
 have HK:=Lib.hid (kids_fwd hKK hbl)
 clear hKK
 go_wp2_with fail
 obtain ⟨_, _, hB2⟩:=op_rowS HF.out #[.int .u8 100, .string ⟨#[]⟩, .slice (some ⟨w9.heap.size, 0, none⟩) 2 2]
 exact bodyPost_ret (Be.res_el rfl _ _ (w.heap.size + 1) _ _ _ rfl hB2) rfl (op_tell (t:=100) (ks:=[txt 4 m.dn, lst 48 (m.mods.map attrEl)]) (by decide) (by simp) HF.out HK.out)
set_option maxHeartbeats 8000000 in
theorem op_8 (m : Mg) (cs : Array Value) (w : World) (hM : isM m = true) (hop : m.op = 8) (h : MAt w (· < w.heap.size) m cs) :
  Calls Tryz.prog 24 #[.agg cs] w (NewEl w (opEl m)):=by
 obtain ⟨i0, i1, hfo, hf, t1, t2, t3, t4, t5, t6, t7⟩:=isM_open hM
 have hel : opEl m = lst 110 [txt 4 m.dn, lst 48 [txt 4 m.attr, txt 4 m.value]]:=by unfold opEl; rw [isM_ref hM (by omega), hop]; unfold parts; simp only [hop]; rfl
 rw [hel]
 have k1:=h.g1
 rw [hop] at k1
 have F0:=Fo.new w cs
 clear hel
 go_enter Tryz.func24, Tryz.ntmps24
 go_wp2_with fail
 refine wp_region_noPanic ?_
 refine wp_region_held_drew (S:=Fo w cs) (by kernel_rfl) (F0.past (Below.refl _ _).drew) (fun hH0=>?_)
 refine Rg.tk 0 94 (.pointer (some ⟨w.heap.size, 3, none⟩)) rfl (by kernel_rfl) (fun _ _ _ h=>h) (fun _ _=>by kernel_rfl) hH0 ?_
 refine Rg.tk 1 95 (.string m.dn) rfl (by kernel_rfl) (fun _ _ _ h=>h) (fun w' h'=>run_cell rfl rfl (by kernel_rfl) ((h'.blk.cell 3).trans h.g3)) hH0 ?_
 refine Rg.tk 3 97 (.pointer (some ⟨w.heap.size, 19, none⟩)) rfl (by kernel_rfl) (fun _ _ _ h=>h) (fun _ _=>by kernel_rfl) hH0 ?_
 refine Rg.tk 4 98 (.string m.attr) rfl (by kernel_rfl) (fun _ _ _ h=>h) (fun w' h'=>run_cell rfl rfl (by kernel_rfl) ((h'.blk.cell 19).trans h.g19)) hH0 ?_
 refine Rg.tk 5 99 (.pointer (some ⟨w.heap.size, 20, none⟩)) rfl (by kernel_rfl) (fun _ _ _ h=>h) (fun _ _=>by kernel_rfl) hH0 ?_
 refine Rg.frame _ (by simp only [Rg.pu, List.set]; rfl) ?_
 refine Rg.tk 6 100 (.string m.value) rfl (by kernel_rfl) (fun _ _ _ h=>h) (fun w' h'=>run_cell rfl rfl (by kernel_rfl) ((h'.blk.cell 20).trans h.g20)) hH0 ?_
 refine Rg.frame _ (by simp only [Rg.pu, List.set]; rfl) ?_
 refine Rg.fork 2 7 (by kernel_rfl) ?_ ?_
 ·refine Rg.opCall 2 rfl (by kernel_rfl) 52 #[.string m.dn] (by kernel_rfl) (rtext_any m.dn _) ?_
  rintro _ w2 ⟨rfl, hbw2⟩
  have hA1:=hH0.past hbw2
  refine ⟨_, rfl, hA1, ?_⟩
  refine Rg.frame ⟨#[.agg cs, pt w.heap.size 0, pt (w.heap.size + 1) 0, ud, ud, pt w.heap.size 1, Iq 8, Bf, Bf, ud, ud, ud, ud, ud, ud, ud, ud, ud, ud, ud, Bf, Bf, ud, Bf, Bf, ud, ud, ud, ud, ud, ud, ud, ud, ud, ud, ud, ud, ud, ud, ud, ud, ud, ud, ud, ud, Bf, Bf, ud, ud, ud, ud, ud, ud, ud, ud, Bf, Bf, ud, ud, ud, ud, ud, ud, ud, ud, Bf, Bf, ud, ud, ud, Bf, Bf, ud, ud, ud, ud, ud, ud, ud, ud, ud, ud, ud, ud, ud, ud, ud, ud, ud, ud, ud, ud, Bt, Bt, pt w.heap.size 3, Sg m.dn, Ag #[Ub 4, Sg m.dn, Nl], pt w.heap.size 19, Sg m.attr, pt w.heap.size 20, Sg m.value, ud, ud, ud, ud, ud, ud, ud, ud, ud, ud, ud, ud, ud, ud, ud, ud, ud, ud, ud, ud, ud, ud, ud, ud, ud, ud, ud, ud], []⟩ (by kernel_rfl) ?_
  have hA1:=hA1.alloc (.cells #[.string m.attr, .string m.value] 9)
  refine Rg.rn 7 101 (.slice (some ⟨w2.heap.size, 0, none⟩) 2 2) (w2.alloc (.cells #[.string m.attr, .string m.value] 9)) rfl (by kernel_rfl) (by kernel_rfl) hA1 ?_
  have hlo1:=hA1.2
  refine Rg.cl 8 102 rfl (by kernel_rfl) 56 #[.int .u8 48, .slice (some ⟨w2.heap.size, 0, none⟩) 2 2] (by kernel_rfl) (rall_any 48 (by decide) (some ⟨w2.heap.size, 0, none⟩) 2 [m.attr, m.value] _ (by simp) (by simp; omega) (strs_two w2 _ rfl m.attr m.value)) ?_
  rintro _ w9 ⟨A1, c1, ds1, rfl, hb9, hK1⟩
  have hA2:=hA1.past hb9
  refine ⟨_, rfl, hA2, ?_⟩
  have hA3:=hA2.alloc (.cells #[.int .u8 4, .string m.dn, .slice none 0 0, .int .u8 48, .string ⟨#[]⟩, .slice A1 2 c1] 57)
  refine Rg.rn 9 103 (.slice (some ⟨w9.heap.size, 0, none⟩) 2 2) (w9.alloc (.cells #[.int .u8 4, .string m.dn, .slice none 0 0, .int .u8 48, .string ⟨#[]⟩, .slice A1 2 c1] 57)) rfl (by kernel_rfl) (by kernel_rfl) hA3 ?_
  have hKK:=kids_litP (w:=w9) (B:=w.heap.size + 2) hA2.2 [txt 4 m.dn, lst 48 [txt 4 m.attr, txt 4 m.value]] [[.int .u8 4, .string m.dn, .slice none 0 0], [.int .u8 48, .string ⟨#[]⟩, .slice A1 2 c1]] rfl (by simp) (fun i hi=>by
   match i, hi with
   | 0, _=>exact lies_leaf (by decide) (by omega)
   | 1, _=>exact lies_list (ks:=[txt 4 m.attr, txt 4 m.value]) (by simp) (kids_low hK1 hlo1))
  refine Rg.cl 10 104 rfl (by kernel_rfl) 22 #[.int .u8 110, .slice (some ⟨w9.heap.size, 0, none⟩) 2 2] (by kernel_rfl) (Be.RList_any 110 (some ⟨w9.heap.size, 0, none⟩) 2 2 _) ?_
  rintro _ wl ⟨rfl, hbl⟩
  have hA4:=hA3.past hbl
  refine ⟨_, rfl, hA4, ?_⟩
  have hA5:=hA4.store (.int .u8 110) (.string ⟨#[]⟩) (.slice (some ⟨w9.heap.size, 0, none⟩) 2 2)
  refine Rg.sk 11 _ rfl (by kernel_rfl) (run_storeE hA4.1 rfl rfl rfl) hA5 ?_
  refine Rg.frame { tmps:=#[.agg cs, .pointer (some ⟨w.heap.size, 0, none⟩), .pointer (some ⟨w.heap.size + 1, 0, none⟩), undef, undef, .pointer (some ⟨w.heap.size, 1, none⟩), .int .i64 8, .bool false, .bool false, undef, undef, undef, undef, undef, undef, undef, undef, undef, undef, undef, .bool false, .bool false, undef, .bool false, .bool false, undef, undef, undef, undef, undef, undef, undef, undef, undef, undef, undef, undef, undef, undef, undef, undef, undef, undef, undef, undef, .bool false, .bool false, undef, undef, undef, undef, undef, undef, undef, undef, .bool false, .bool false, undef, undef, undef, undef, undef, undef, undef, undef, .bool false, .bool false, undef, undef, undef, .bool false, .bool false, undef, undef, undef, undef, undef, undef, undef, undef, undef, undef, undef, undef, undef, undef, undef, undef, undef, undef, undef, undef, .bool true, .bool true, .pointer (some ⟨w.heap.size, 3, none⟩), .string m.dn, .agg #[.int .u8 4, .string m.dn, .slice none 0 0], .pointer (some ⟨w.heap.size, 19, none⟩), .string m.attr, .pointer (some ⟨w.heap.size, 20, none⟩), .string m.value, .slice (some ⟨w2.heap.size, 0, none⟩) 2 2, .agg #[.int .u8 48, .string ⟨#[]⟩, .slice A1 2 c1], .slice (some ⟨w9.heap.size, 0, none⟩) 2 2, .agg #[.int .u8 110, .string ⟨#[]⟩, .slice (some ⟨w9.heap.size, 0, none⟩) 2 2], undef, undef, undef, undef, undef, undef, undef, undef, undef, undef, undef, undef, undef, undef, undef, undef, undef, undef, undef, undef, undef, undef, undef, undef], defers:=[] } (by kernel_rfl) ?_
  refine wpAnyH_done (by kernel_rfl) ?_ _
  refine NoPanic.normal ?_
  have HF:=Lib.hid hA4
  have HK:=Lib.hid (kids_fwd hKK hbl)
  clear hKK
  go_wp2_with fail
  obtain ⟨_, _, hB2⟩:=op_rowS HF.out #[.int .u8 110, .string ⟨#[]⟩, .slice (some ⟨w9.heap.size, 0, none⟩) 2 2]
  exact bodyPost_ret (Be.res_el rfl _ _ (w.heap.size + 1) _ _ _ rfl hB2) rfl (op_tell (t:=110) (ks:=[txt 4 m.dn, lst 48 [txt 4 m.attr, txt 4 m.value]]) (by decide) (by simp) HF.out HK.out)
 ·have hA1:=hH0.alloc (.cells #[.string m.attr, .string m.value] 9)
  refine Rg.opRun 7 rfl (by kernel_rfl) (.slice (some ⟨(((w.alloc (.cells cs 28)).alloc (.cells #[.int .u8 0, .string ⟨#[]⟩, .slice none 0 0] 57)).drew).heap.size, 0, none⟩) 2 2) ((((w.alloc (.cells cs 28)).alloc (.cells #[.int .u8 0, .string ⟨#[]⟩, .slice none 0 0] 57)).drew).alloc (.cells #[.string m.attr, .string m.value] 9)) (by kernel_rfl) hA1 ?_
  refine Rg.frame ⟨#[.agg cs, pt w.heap.size 0, pt (w.heap.size + 1) 0, ud, ud, pt w.heap.size 1, Iq 8, Bf, Bf, ud, ud, ud, ud, ud, ud, ud, ud, ud, ud, ud, Bf, Bf, ud, Bf, Bf, ud, ud, ud, ud, ud, ud, ud, ud, ud, ud, ud, ud, ud, ud, ud, ud, ud, ud, ud, ud, Bf, Bf, ud, ud, ud, ud, ud, ud, ud, ud, Bf, Bf, ud, ud, ud, ud, ud, ud, ud, ud, Bf, Bf, ud, ud, ud, Bf, Bf, ud, ud, ud, ud, ud, ud, ud, ud, ud, ud, ud, ud, ud, ud, ud, ud, ud, ud, ud, ud, Bt, Bt, pt w.heap.size 3, Sg m.dn, ud, pt w.heap.size 19, Sg m.attr, pt w.heap.size 20, Sg m.value, Sl (some ⟨(((w.alloc (.cells cs 28)).alloc (.cells #[Ub 0, Ns, Nl] 57)).drew).heap.size, 0, none⟩) 2 2, ud, ud, ud, ud, ud, ud, ud, ud, ud, ud, ud, ud, ud, ud, ud, ud, ud, ud, ud, ud, ud, ud, ud, ud, ud, ud, ud], []⟩ (by kernel_rfl) ?_
  refine Rg.cl 2 96 rfl (by kernel_rfl) 52 #[.string m.dn] (by kernel_rfl) (rtext_any m.dn _) ?_
  rintro _ w2 ⟨rfl, hbw2⟩
  have hA1:=hA1.past hbw2
  refine ⟨_, rfl, hA1, ?_⟩
  have hlo1:=hA1.2
  refine Rg.cl 8 102 rfl (by kernel_rfl) 56 #[.int .u8 48, .slice (some ⟨(((w.alloc (.cells cs 28)).alloc (.cells #[.int .u8 0, .string ⟨#[]⟩, .slice none 0 0] 57)).drew).heap.size, 0, none⟩) 2 2] (by kernel_rfl) (rall_any 48 (by decide) (some ⟨(((w.alloc (.cells cs 28)).alloc (.cells #[.int .u8 0, .string ⟨#[]⟩, .slice none 0 0] 57)).drew).heap.size, 0, none⟩) 2 [m.attr, m.value] _ (by simp) (by simp; omega) ((strs_two (((w.alloc (.cells cs 28)).alloc (.cells #[.int .u8 0, .string ⟨#[]⟩, .slice none 0 0] 57)).drew) _ rfl m.attr m.value).past hbw2)) ?_
  rintro _ w9 ⟨A1, c1, ds1, rfl, hb9, hK1⟩
  have hA2:=hA1.past hb9
  refine ⟨_, rfl, hA2, ?_⟩
  have hA3:=hA2.alloc (.cells #[.int .u8 4, .string m.dn, .slice none 0 0, .int .u8 48, .string ⟨#[]⟩, .slice A1 2 c1] 57)
  refine Rg.rn 9 103 (.slice (some ⟨w9.heap.size, 0, none⟩) 2 2) (w9.alloc (.cells #[.int .u8 4, .string m.dn, .slice none 0 0, .int .u8 48, .string ⟨#[]⟩, .slice A1 2 c1] 57)) rfl (by kernel_rfl) (by kernel_rfl) hA3 ?_
  have hKK:=kids_litP (w:=w9) (B:=w.heap.size + 2) hA2.2 [txt 4 m.dn, lst 48 [txt 4 m.attr, txt 4 m.value]] [[.int .u8 4, .string m.dn, .slice none 0 0], [.int .u8 48, .string ⟨#[]⟩, .slice A1 2 c1]] rfl (by simp) (fun i hi=>by
   match i, hi with
   | 0, _=>exact lies_leaf (by decide) (by omega)
   | 1, _=>exact lies_list (ks:=[txt 4 m.attr, txt 4 m.value]) (by simp) (kids_low hK1 hlo1))
  refine Rg.cl 10 104 rfl (by kernel_rfl) 22 #[.int .u8 110, .slice (some ⟨w9.heap.size, 0, none⟩) 2 2] (by kernel_rfl) (Be.RList_any 110 (some ⟨w9.heap.size, 0, none⟩) 2 2 _) ?_
  rintro _ wl ⟨rfl, hbl⟩
  have hA4:=hA3.past hbl
  refine ⟨_, rfl, hA4, ?_⟩
  have hA5:=hA4.store (.int .u8 110) (.string ⟨#[]⟩) (.slice (some ⟨w9.heap.size, 0, none⟩) 2 2)
  refine Rg.sk 11 _ rfl (by kernel_rfl) (run_storeE hA4.1 rfl rfl rfl) hA5 ?_
  refine Rg.frame { tmps:=#[.agg cs, .pointer (some ⟨w.heap.size, 0, none⟩), .pointer (some ⟨w.heap.size + 1, 0, none⟩), undef, undef, .pointer (some ⟨w.heap.size, 1, none⟩), .int .i64 8, .bool false, .bool false, undef, undef, undef, undef, undef, undef, undef, undef, undef, undef, undef, .bool false, .bool false, undef, .bool false, .bool false, undef, undef, undef, undef, undef, undef, undef, undef, undef, undef, undef, undef, undef, undef, undef, undef, undef, undef, undef, undef, .bool false, .bool false, undef, undef, undef, undef, undef, undef, undef, undef, .bool false, .bool false, undef, undef, undef, undef, undef, undef, undef, undef, .bool false, .bool false, undef, undef, undef, .bool false, .bool false, undef, undef, undef, undef, undef, undef, undef, undef, undef, undef, undef, undef, undef, undef, undef, undef, undef, undef, undef, undef, .bool true, .bool true, .pointer (some ⟨w.heap.size, 3, none⟩), .string m.dn, .agg #[.int .u8 4, .string m.dn, .slice none 0 0], .pointer (some ⟨w.heap.size, 19, none⟩), .string m.attr, .pointer (some ⟨w.heap.size, 20, none⟩), .string m.value, .slice (some ⟨(((w.alloc (.cells cs 28)).alloc (.cells #[.int .u8 0, .string ⟨#[]⟩, .slice none 0 0] 57)).drew).heap.size, 0, none⟩) 2 2, .agg #[.int .u8 48, .string ⟨#[]⟩, .slice A1 2 c1], .slice (some ⟨w9.heap.size, 0, none⟩) 2 2, .agg #[.int .u8 110, .string ⟨#[]⟩, .slice (some ⟨w9.heap.size, 0, none⟩) 2 2], undef, undef, undef, undef, undef, undef, undef, undef, undef, undef, undef, undef, undef, undef, undef, undef, undef, undef, undef, undef, undef, undef, undef, undef], defers:=[] } (by kernel_rfl) ?_
  refine wpAnyH_done (by kernel_rfl) ?_ _
  refine NoPanic.normal ?_
  have HF:=Lib.hid hA4
  have HK:=Lib.hid (kids_fwd hKK hbl)
  clear hKK
  go_wp2_with fail
  obtain ⟨_, _, hB2⟩:=op_rowS HF.out #[.int .u8 110, .string ⟨#[]⟩, .slice (some ⟨w9.heap.size, 0, none⟩) 2 2]
  exact bodyPost_ret (Be.res_el rfl _ _ (w.heap.size + 1) _ _ _ rfl hB2) rfl (op_tell (t:=110) (ks:=[txt 4 m.dn, lst 48 [txt 4 m.attr, txt 4 m.value]]) (by decide) (by simp) HF.out HK.out)
set_option maxHeartbeats 8000000 in
theorem op_6 (m : Mg) (cs : Array Value) (w : World) (hM : isM m = true) (hop : m.op = 6) (h : MAt w (· < w.heap.size) m cs) :
  Calls Tryz.prog 24 #[.agg cs] w (NewEl w (opEl m)):=by
 obtain ⟨i0, i1, hfo, hf, t1, t2, t3, t4, t5, t6, t7⟩:=isM_open hM
 have hel : opEl m = txt 74 m.dn:=by unfold opEl; rw [if_pos (Or.inr hop), isM_ref hM (by omega), hop]; rfl
 rw [hel]
 have k3:=h.g3
 have k1:=h.g1
 rw [hop] at k1
 have F0:=Fo.new w cs
 clear hel
 go_enter Tryz.func24, Tryz.ntmps24
 go_wp2_with fail
 refine (Be.RText_any 74 m.dn _).mono ?_
 rintro e w1 ⟨rfl, hb1⟩
 have F1:=F0.past hb1
 obtain ⟨x', y', z', B1⟩:=F1.1.2.1
 have c0:=B1.cell 0
 have c1:=B1.cell 1
 have c2:=B1.cell 2
 have g0:=B1.frozen 0
 have g1:=B1.frozen 1
 have g2:=B1.frozen 2
 simp only [List.getElem?_toArray, List.getElem?_cons_zero, List.getElem?_cons_succ] at c0 c1 c2
 have HF:=Lib.hid F1
 clear F1 F0 hb1
 go_wp2_with fail
 exact bodyPost_ret (Be.res_el rfl _ _ (w.heap.size + 1) _ _ _ rfl (Be.Blk.set3 B1)) rfl (new_elG (P:=fun _=>False) HF.out.below (by omega) (lies_leaf (by decide) (by omega)) (fun b hb=>hb.elim))
set_option maxHeartbeats 8000000 in
theorem op_2 (m : Mg) (cs : Array Value) (w : World) (hM : isM m = true) (hop : m.op = 2) (h : MAt w (· < w.heap.size) m cs) :
  Calls Tryz.prog 24 #[.agg cs] w (NewEl w (opEl m)):=by
 obtain ⟨i0, i1, hfo, hf, t1, t2, t3, t4, t5, t6, t7⟩:=isM_open hM
 have hdn : m.dn = no:=by have h2:=congrArg Mg.dn hfo; unfold foreign zero at h2; rw [if_pos hop] at h2; exact h2
 have hel : opEl m = txt 66 no:=by unfold opEl; rw [if_pos (Or.inl hop), isM_ref hM (by omega), hop, hdn]; rfl
 rw [hel]
 have hno : no.size = 0:=rfl
 have k1:=h.g1
 rw [hop] at k1
 have F0:=Fo.new w cs
 clear hel
 go_enter Tryz.func24, Tryz.ntmps24
 go_wp2_with fail
 refine (Be.RText_any 66 ⟨#[]⟩ _).mono ?_
 rintro e w1 ⟨rfl, hb1⟩
 have F1:=F0.past hb1
 obtain ⟨x', y', z', B1⟩:=F1.1.2.1
 have c0:=B1.cell 0
 have c1:=B1.cell 1
 have c2:=B1.cell 2
 have g0:=B1.frozen 0
 have g1:=B1.frozen 1
 have g2:=B1.frozen 2
 simp only [List.getElem?_toArray, List.getElem?_cons_zero, List.getElem?_cons_succ] at c0 c1 c2
 have HF:=Lib.hid F1
 clear F1 F0 hb1
 go_wp2_with fail
 exact bodyPost_ret (Be.res_el rfl _ _ (w.heap.size + 1) _ _ _ rfl (Be.Blk.set3 B1)) rfl (new_elG (P:=fun _=>False) HF.out.below (by omega) (lies_leaf (by decide) (by omega)) (fun b hb=>hb.elim))
set_option maxHeartbeats 8000000 in
theorem op_7f (m : Mg) (cs : Array Value) (w : World) (hM : isM m = true) (hop : m.op = 7) (hh : m.has = false) (h : MAt w (· < w.heap.size) m cs) :
  Calls Tryz.prog 24 #[.agg cs] w (NewEl w (opEl m)):=by
 obtain ⟨i0, i1, hfo, hf, t1, t2, t3, t4, t5, t6, t7⟩:=isM_open hM
 have hel : opEl m = lst 108 [txt 4 m.dn, txt 4 m.rdn, flg m.del]:=by unfold opEl; rw [isM_ref hM (by omega), hop]; unfold parts; simp only [hop, hh]; rfl
 rw [hel]
 have k1:=h.g1
 rw [hop] at k1
 have F0:=Fo.new w cs
 clear hel
 go_enter Tryz.func24, Tryz.ntmps24
 go_wp2_with fail
 refine wp_region_noPanic ?_
 refine wp_region_held_drew (S:=Fo w cs) (by kernel_rfl) (F0.past (Below.refl _ _).drew) (fun hH0=>?_)
 refine Rg.tk 0 72 (.pointer (some ⟨w.heap.size, 3, none⟩)) rfl (by kernel_rfl) (fun _ _ _ h=>h) (fun _ _=>by kernel_rfl) hH0 ?_
 refine Rg.tk 1 73 (.string m.dn) rfl (by kernel_rfl) (fun _ _ _ h=>h) (fun w' h'=>run_cell rfl rfl (by kernel_rfl) ((h'.blk.cell 3).trans h.g3)) hH0 ?_
 refine Rg.tk 3 75 (.pointer (some ⟨w.heap.size, 15, none⟩)) rfl (by kernel_rfl) (fun _ _ _ h=>h) (fun _ _=>by kernel_rfl) hH0 ?_
 refine Rg.tk 4 76 (.string m.rdn) rfl (by kernel_rfl) (fun _ _ _ h=>h) (fun w' h'=>run_cell rfl rfl (by kernel_rfl) ((h'.blk.cell 15).trans h.g15)) hH0 ?_
 refine Rg.tk 6 78 (.pointer (some ⟨w.heap.size, 16, none⟩)) rfl (by kernel_rfl) (fun _ _ _ h=>h) (fun _ _=>by kernel_rfl) hH0 ?_
 refine Rg.frame _ (by simp only [Rg.pu, List.set]; rfl) ?_
 refine Rg.tk 7 79 (.bool m.del) rfl (by kernel_rfl) (fun _ _ _ h=>h) (fun w' h'=>run_cell rfl rfl (by kernel_rfl) ((h'.blk.cell 16).trans h.g16)) hH0 ?_
 refine Rg.cl 2 74 rfl (by kernel_rfl) 52 #[.string m.dn] (by kernel_rfl) (rtext_any m.dn _) ?_
 rintro _ w2 ⟨rfl, hbw2⟩
 have hH1:=hH0.past hbw2
 refine ⟨_, rfl, hH1, ?_⟩
 refine Rg.cl 5 77 rfl (by kernel_rfl) 52 #[.string m.rdn] (by kernel_rfl) (rtext_any m.rdn _) ?_
 rintro _ w3 ⟨rfl, hbw3⟩
 have hH2:=hH1.past hbw3
 refine ⟨_, rfl, hH2, ?_⟩
 refine Rg.cl 8 80 rfl (by kernel_rfl) 54 #[.bool m.del] (by kernel_rfl) (rflag_any m.del _) ?_
 rintro _ w4 ⟨rfl, hbw4⟩
 have hH3:=hH2.past hbw4
 refine ⟨_, rfl, hH3, ?_⟩
 have hH4:=hH3.alloc (.cells #[.int .u8 4, .string m.dn, .slice none 0 0, .int .u8 4, .string m.rdn, .slice none 0 0, .int .u8 1, .string (boolB m.del), .slice none 0 0] 57)
 refine Rg.rn 9 81 (.slice (some ⟨w4.heap.size, 0, none⟩) 3 3) (w4.alloc (.cells #[.int .u8 4, .string m.dn, .slice none 0 0, .int .u8 4, .string m.rdn, .slice none 0 0, .int .u8 1, .string (boolB m.del), .slice none 0 0] 57)) rfl (by kernel_rfl) (by kernel_rfl) hH4 ?_
 refine Rg.frame _ (by simp only [Rg.pu, List.set]; rfl) ?_
 have hKK:=kids_litP (w:=w4) (B:=w.heap.size + 2) hH3.2 [txt 4 m.dn, txt 4 m.rdn, flg m.del] [[.int .u8 4, .string m.dn, .slice none 0 0], [.int .u8 4, .string m.rdn, .slice none 0 0], [.int .u8 1, .string (boolB m.del), .slice none 0 0]] rfl (by simp) (fun i hi=>by
  match i, hi with
  | 0, _=>exact lies_leaf (by decide) (by omega)
  | 1, _=>exact lies_leaf (by decide) (by omega)
  | 2, _=>exact lies_flg m.del)
 refine Rg.idleP [10] [(3, .slice (some ⟨w4.heap.size, 0, none⟩) 3 3)] 0 (by kernel_rfl) (fun _ _ _ _ _ h=>h) (by kernel_rfl) (by kernel_rfl) hH4 ?_
 refine Rg.frame _ (by simp only [Rg.puts, Rg.pu, List.set]; rfl) ?_
 refine wpAnyH_done (by kernel_rfl) ?_ _
 refine NoPanic.normal ?_
 have d17 : (w4.alloc (.cells #[.int .u8 4, .string m.dn, .slice none 0 0, .int .u8 4, .string m.rdn, .slice none 0 0, .int .u8 1, .string (boolB m.del), .slice none 0 0] 57)).cell? ⟨w.heap.size, 17, none⟩ = some (.bool false):=by rw [(hH4.blk.cell 17).trans h.g17, hh]
 have HKK:=Lib.hid hKK
 have HH:=Lib.hid hH4
 clear hKK F0 hH0 hH1 hH2 hH3 hH4
 go_wp2_with fail
 refine (Be.RList_any 108 (some ⟨w4.heap.size, 0, none⟩) 3 3 _).mono ?_
 rintro e w5 ⟨rfl, hb5⟩
 have F9:=HH.out.past hb5
 have HK9:=Lib.hid (kids_fwd HKK.out hb5)
 clear d17 hb5
 have HF:=Lib.hid F9
 obtain ⟨x', y', z', B1⟩:=F9.1.2.1
 have c0:=B1.cell 0
 have c1:=B1.cell 1
 have c2:=B1.cell 2
 have g0:=B1.frozen 0
 have g1:=B1.frozen 1
 have g2:=B1.frozen 2
 simp only [List.getElem?_toArray, List.getElem?_cons_zero, List.getElem?_cons_succ] at c0 c1 c2
 clear F9
 go_wp2_with fail
 exact bodyPost_ret (Be.res_el rfl _ _ (w.heap.size + 1) _ _ _ rfl (Be.Blk.set3 B1)) rfl (NewLst.el (t:=108) (ks:=[txt 4 m.dn, txt 4 m.rdn, flg m.del]) (by decide) (by simp) (new_lstG (ks:=[txt 4 m.dn, txt 4 m.rdn, flg m.del]) HF.out.below (by omega) HK9.out (fun b hb=>⟨by have:=hb.1; omega, by have:=hb.1; omega, hb.2⟩)))
set_option maxHeartbeats 8000000 in
theorem op_7t (m : Mg) (cs : Array Value) (w : World) (hM : isM m = true) (hop : m.op = 7) (hh : m.has = true) (h : MAt w (· < w.heap.size) m cs) :
  Calls Tryz.prog 24 #[.agg cs] w (NewEl w (opEl m)):=by
 obtain ⟨i0, i1, hfo, hf, t1, t2, t3, t4, t5, t6, t7⟩:=isM_open hM
 have hel : opEl m = lst 108 [txt 4 m.dn, txt 4 m.rdn, flg m.del, txt 128 m.sup]:=by unfold opEl; rw [isM_ref hM (by omega), hop]; unfold parts; simp only [hop, hh]; rfl
 rw [hel]
 have k1:=h.g1
 rw [hop] at k1
 have F0:=Fo.new w cs
 clear hel
 go_enter Tryz.func24, Tryz.ntmps24
 go_wp2_with fail
 refine wp_region_noPanic ?_
 refine wp_region_held_drew (S:=Fo w cs) (by kernel_rfl) (F0.past (Below.refl _ _).drew) (fun hH0=>?_)
 refine Rg.tk 0 72 (.pointer (some ⟨w.heap.size, 3, none⟩)) rfl (by kernel_rfl) (fun _ _ _ h=>h) (fun _ _=>by kernel_rfl) hH0 ?_
 refine Rg.tk 1 73 (.string m.dn) rfl (by kernel_rfl) (fun _ _ _ h=>h) (fun w' h'=>run_cell rfl rfl (by kernel_rfl) ((h'.blk.cell 3).trans h.g3)) hH0 ?_
 refine Rg.tk 3 75 (.pointer (some ⟨w.heap.size, 15, none⟩)) rfl (by kernel_rfl) (fun _ _ _ h=>h) (fun _ _=>by kernel_rfl) hH0 ?_
 refine Rg.tk 4 76 (.string m.rdn) rfl (by kernel_rfl) (fun _ _ _ h=>h) (fun w' h'=>run_cell rfl rfl (by kernel_rfl) ((h'.blk.cell 15).trans h.g15)) hH0 ?_
 refine Rg.tk 6 78 (.pointer (some ⟨w.heap.size, 16, none⟩)) rfl (by kernel_rfl) (fun _ _ _ h=>h) (fun _ _=>by kernel_rfl) hH0 ?_
 refine Rg.frame _ (by simp only [Rg.pu, List.set]; rfl) ?_
 refine Rg.tk 7 79 (.bool m.del) rfl (by kernel_rfl) (fun _ _ _ h=>h) (fun w' h'=>run_cell rfl rfl (by kernel_rfl) ((h'.blk.cell 16).trans h.g16)) hH0 ?_
 refine Rg.cl 2 74 rfl (by kernel_rfl) 52 #[.string m.dn] (by kernel_rfl) (rtext_any m.dn _) ?_
 rintro _ w2 ⟨rfl, hbw2⟩
 have hH1:=hH0.past hbw2
 refine ⟨_, rfl, hH1, ?_⟩
 refine Rg.cl 5 77 rfl (by kernel_rfl) 52 #[.string m.rdn] (by kernel_rfl) (rtext_any m.rdn _) ?_
 rintro _ w3 ⟨rfl, hbw3⟩
 have hH2:=hH1.past hbw3
 refine ⟨_, rfl, hH2, ?_⟩
 refine Rg.cl 8 80 rfl (by kernel_rfl) 54 #[.bool m.del] (by kernel_rfl) (rflag_any m.del _) ?_
 rintro _ w4 ⟨rfl, hbw4⟩
 have hH3:=hH2.past hbw4
 refine ⟨_, rfl, hH3, ?_⟩
 have hH4:=hH3.alloc (.cells #[.int .u8 4, .string m.dn, .slice none 0 0, .int .u8 4, .string m.rdn, .slice none 0 0, .int .u8 1, .string (boolB m.del), .slice none 0 0] 57)
 refine Rg.rn 9 81 (.slice (some ⟨w4.heap.size, 0, none⟩) 3 3) (w4.alloc (.cells #[.int .u8 4, .string m.dn, .slice none 0 0, .int .u8 4, .string m.rdn, .slice none 0 0, .int .u8 1, .string (boolB m.del), .slice none 0 0] 57)) rfl (by kernel_rfl) (by kernel_rfl) hH4 ?_
 refine Rg.frame _ (by simp only [Rg.pu, List.set]; rfl) ?_
 have hGa:=gath_lit (w:=w4) [txt 4 m.dn, txt 4 m.rdn, flg m.del] [[.int .u8 4, .string m.dn, .slice none 0 0], [.int .u8 4, .string m.rdn, .slice none 0 0], [.int .u8 1, .string (boolB m.del), .slice none 0 0]] [.int .u8 4, .string m.dn, .slice none 0 0, .int .u8 4, .string m.rdn, .slice none 0 0, .int .u8 1, .string (boolB m.del), .slice none 0 0] rfl rfl rfl (by show 3 ≤ 1000; omega) (fun i hi=>by
  match i, hi with
  | 0, _=>exact ⟨_, _, _, rfl, rfl, rfl, fun w' P=>lies_leaf (by decide) (by omega)⟩
  | 1, _=>exact ⟨_, _, _, rfl, rfl, rfl, fun w' P=>lies_leaf (by decide) (by omega)⟩
  | 2, _=>exact ⟨_, _, _, rfl, rfl, rfl, fun w' P=>lies_flg m.del⟩)
 refine Rg.idleP [10] [(3, .slice (some ⟨w4.heap.size, 0, none⟩) 3 3)] 0 (by kernel_rfl) (fun _ _ _ _ _ h=>h) (by kernel_rfl) (by kernel_rfl) hH4 ?_
 refine Rg.frame _ (by simp only [Rg.puts, Rg.pu, List.set]; rfl) ?_
 refine wpAnyH_done (by kernel_rfl) ?_ _
 refine NoPanic.normal ?_
 have d17 : (w4.alloc (.cells #[.int .u8 4, .string m.dn, .slice none 0 0, .int .u8 4, .string m.rdn, .slice none 0 0, .int .u8 1, .string (boolB m.del), .slice none 0 0] 57)).cell? ⟨w.heap.size, 17, none⟩ = some (.bool true):=by rw [(hH4.blk.cell 17).trans h.g17, hh]
 have d18 : (w4.alloc (.cells #[.int .u8 4, .string m.dn, .slice none 0 0, .int .u8 4, .string m.rdn, .slice none 0 0, .int .u8 1, .string (boolB m.del), .slice none 0 0] 57)).cell? ⟨w.heap.size, 18, none⟩ = some (.string m.sup):=(hH4.blk.cell 18).trans h.g18
 have HGa:=Lib.hid hGa
 have HH:=Lib.hid hH4
 have hlo:=Lib.hid hH3.2
 clear hGa F0 hH0 hH1 hH2 hH3 hH4
 go_wp2_with fail
 refine (Be.RText_any 128 m.sup _).mono ?_
 rintro e w5 ⟨rfl, hb5⟩
 have HB:=Lib.hid (Blk.new w5 57 #[.int .u8 128, .string m.sup, .slice none 0 0])
 have HG1:=Lib.hid ((HGa.out.past hb5).alloc (.cells #[.int .u8 128, .string m.sup, .slice none 0 0] 57))
 have F5:=Lib.hid ((HH.out.past hb5).alloc (.cells #[.int .u8 128, .string m.sup, .slice none 0 0] 57))
 have hz2 : w4.heap.size ≤ (w5.alloc (.cells #[.int .u8 128, .string m.sup, .slice none 0 0] 57)).heap.size:=by have:=hb5.size; simp at this ⊢; omega
 clear d17 d18 hb5
 go_wp2_with (at_builtin; go_loud (refine wpList_pushE rfl _ _ rfl w4.heap.size _ _ [txt 4 m.dn, txt 4 m.rdn, flg m.del] rfl HG1.out w5.heap.size rfl HB.out one3 (lies_leaf (t:=128) (b:=m.sup) (by decide) (by omega)) (by show 3 < 1000000; omega) hz2 ?_))
 intro v' w6 hG2 hb6
 obtain ⟨A6, c6, ds6, rfl, hK6⟩:=hG2.shut
 have F6:=Lib.hid (show Fo w cs w6 from ⟨⟨(hb6.block _ (by have:=hlo.out; omega)).trans F5.out.1.1, (by obtain ⟨x', y', z', B⟩:=F5.out.1.2.1; exact ⟨x', y', z', (hb6.block _ (by have:=hlo.out; omega)).trans B⟩), F5.out.below.trans (hb6.mono (by have:=hlo.out; omega))⟩, Nat.le_trans hlo.out (Nat.le_trans hz2 hb6.size)⟩)
 have HK6:=Lib.hid (kids_low hK6 hlo.out)
 clear hG2 hK6 hb6 HGa HB HG1 HH F5
 go_wp2_with fail
 refine (Be.RList_any 108 A6 4 c6 _).mono ?_
 rintro e w7 ⟨rfl, hb7⟩
 have F9:=F6.out.past hb7
 have HK9:=Lib.hid (kids_fwd HK6.out hb7)
 clear hb7
 have HF:=Lib.hid F9
 obtain ⟨x', y', z', B1⟩:=F9.1.2.1
 have c0:=B1.cell 0
 have c1:=B1.cell 1
 have c2:=B1.cell 2
 have g0:=B1.frozen 0
 have g1:=B1.frozen 1
 have g2:=B1.frozen 2
 simp only [List.getElem?_toArray, List.getElem?_cons_zero, List.getElem?_cons_succ] at c0 c1 c2
 clear F9
 go_wp2_with fail
 exact bodyPost_ret (Be.res_el rfl _ _ (w.heap.size + 1) _ _ _ rfl (Be.Blk.set3 B1)) rfl (NewLst.el (t:=108) (ks:=[txt 4 m.dn, txt 4 m.rdn, flg m.del, txt 128 m.sup]) (by decide) (by simp) (new_lstG (ks:=[txt 4 m.dn, txt 4 m.rdn, flg m.del, txt 128 m.sup]) HF.out.below (by omega) HK9.out (fun b hb=>⟨by have:=hb.1; omega, by have:=hb.1; omega, hb.2⟩)))
theorem rop_any (m : Mg) (cs : Array Value) (w : World) (hM : isM m = true) (h : MAt w (· < w.heap.size) m cs) :
  Calls Tryz.prog 24 #[.agg cs] w (NewEl w (opEl m)):=by
 have ho:=isM_op hM
 rcases (by omega : m.op = 1 ∨ m.op = 2 ∨ m.op = 3 ∨ m.op = 4 ∨ m.op = 5 ∨ m.op = 6 ∨ m.op = 7 ∨ m.op = 8 ∨ m.op = 9 ∨ m.op = 10) with e | e | e | e | e | e | e | e | e | e
 ·exact op_1 m cs w hM e h
 ·exact op_2 m cs w hM e h
 ·exact op_3 m cs w hM e h
 ·exact op_4 m cs w hM e h
 ·exact op_5 m cs w hM e h
 ·exact op_6 m cs w hM e h
 ·cases hh : m.has with
  | false=>exact op_7f m cs w hM e hh h
  | true=>exact op_7t m cs w hM e hh h
 ·exact op_8 m cs w hM e h
 ·exact op_9 m cs w hM e h
 ·exact op_10 m cs w hM e h
end Go.Proofs.YtconghaebebncaaGreatDoor.Ms
