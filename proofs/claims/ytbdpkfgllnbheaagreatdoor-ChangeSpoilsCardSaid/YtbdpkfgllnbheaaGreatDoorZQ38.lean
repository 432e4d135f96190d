import Derived.Test.YtbdpkfgllnbheaaGreatDoorZQ29
import Derived.Test.YtbdpkfgllnbheaaGreatDoorZQ27
import Derived.Test.YtbdpkfgllnbheaaGreatDoorZQ37
import Derived.Test.YtbdpkfgllnbheaaGreatDoorZQ36
import Derived.Test.YtbdpkfgllnbheaaGreatDoorZQ34
set_option linter.unusedVariables false
set_option maxRecDepth 100000
namespace Go.Proofs.YtbdpkfgllnbheaaGreatDoor.Ch
open Go.RowKit
attribute [local go_sem ↓] loadAtG
def smA (c : Cg) : Prop:=∀ d ∈ c.mods, d.attr.size ≤ 1099511627776
set_option maxHeartbeats 4000000 in
theorem Is_any (c : Cg) (cs : Array Value) (w : World) (hz : smA c) (h : GAt w (· < w.heap.size) c cs) : Calls Tryz.prog 10 #[.agg cs] w (Flag w (isG c)):=by
 have B:=Box.new h
 have hb0:=(Below.refl w.heap.size w).alloc (Nat.le_refl _) (.cells cs 28)
 have HF:=Lib.hid (fun w1 hb=>formed_any c cs w1 hz (h.past hb))
 have hr : isG c = ((isCn c.csn && (!zCn c.csn && (isCn c.id && isCn c.par))) && (formed c && (decide (c.mods.length ≤ 8) && !c.mods.any noMo))):=rfl
 obtain ⟨R, rc, M, mc, ds, rfl, ⟨hR, hl, hrc⟩, hM, hml, hmc⟩:=h
 have hB:=B.1
 have HN:=Lib.hid (fun w1 (hb : Below w.heap.size w w1)=>containsN_any M mc c.mods ds w1 hml hz (hM.past hb))
 have H1:=Lib.hid (fun w=>isC_any c.csn w)
 have H2:=Lib.hid (fun w=>zeroC_any c.csn w)
 have H3:=Lib.hid (fun w=>isC_any c.id w)
 have H4:=Lib.hid (fun w=>isC_any c.par w)
 have c0:=hB.cell 0
 have c1:=hB.cell 1
 have c2:=hB.cell 2
 have HBx:=Lib.hid B
 have HB:=Lib.hid hB
 have Hb:=Lib.hid hb0
 unfold maxLen at hml
 generalize isCn c.csn = b1 at H1 hr
 generalize zCn c.csn = b2 at H2 hr
 generalize isCn c.id = b3 at H3 hr
 generalize isCn c.par = b4 at H4 hr
 generalize formed c = b5 at HF hr
 generalize c.mods.any noMo = b6 at HN hr
 have HR:=Lib.hid hr
 clear hB B hR hM hz hb0 hr
 go_enter Tryz.func10, Tryz.ntmps10
 go_wp2_with fail
 refine (H1.out _).mono ?_
 rintro e w1 ⟨rfl, hb1⟩
 have hb2:=Hb.out.trans (hb1.mono Hb.out.size)
 cases b1
 ·go_wp2_with fail
  go_ret
  exact ⟨ret_bool HR.out.symm, hb2⟩
 have HB1:=Lib.hid (HB.out.past hb1)
 have d0:=HB1.out.cell 0
 have d1:=HB1.out.cell 1
 have d2:=HB1.out.cell 2
 clear c0 c1 c2
 go_wp2_with fail
 refine (H2.out _).mono ?_
 rintro e w2 ⟨rfl, hb3⟩
 have hb4:=hb2.trans (hb3.mono hb2.size)
 cases b2
 focus
  have HB2:=Lib.hid (HB1.out.past hb3)
  have d4:=HB2.out.cell 4
  have d5:=HB2.out.cell 5
  have d6:=HB2.out.cell 6
  clear d0 d1 d2
  go_wp2_with fail
  refine (H3.out _).mono ?_
  rintro e w3 ⟨rfl, hb5⟩
  have hb6:=hb4.trans (hb5.mono hb4.size)
  cases b3
  focus
   go_wp2_with fail
   go_ret
   exact ⟨ret_bool HR.out.symm, hb6⟩
  have HB3:=Lib.hid (HB2.out.past hb5)
  have e7:=HB3.out.cell 7
  have e8:=HB3.out.cell 8
  have e9:=HB3.out.cell 9
  clear d4 d5 d6
  go_wp2_with fail
  refine (H4.out _).mono ?_
  rintro e w4 ⟨rfl, hb7⟩
  have hb8:=hb6.trans (hb7.mono hb6.size)
  cases b4
  focus
   go_wp2_with fail
   go_ret
   exact ⟨ret_bool HR.out.symm, hb8⟩
  have HB4:=Lib.hid (HB3.out.past hb7)
  have hld:=((((HBx.out.past hb1).past hb3).past hb5).past hb7).load
  clear e7 e8 e9
  go_wp2_with fail
  refine (HF.out _ hb8).mono ?_
  rintro e w5 ⟨rfl, hb9⟩
  have hb10:=hb8.trans (hb9.mono hb8.size)
  have HB5:=Lib.hid (HB4.out.past hb9)
  have d12:=HB5.out.cell 12
  clear hld
  cases b5
  focus
   go_wp2_with fail
   go_ret
   exact ⟨ret_bool HR.out.symm, hb10⟩
  by_cases h8 : (c.mods.length : Int) ≤ 8
  focus
   have HR2:=Lib.hid (show isG c = !b6 by rw [HR.out, decide_eq_true (show c.mods.length ≤ 8 by omega)]; rfl)
   have k8 : decide ((c.mods.length : Int) ≤ 8) = true:=decide_eq_true h8
   go_wp2_with fail
   refine (HN.out _ hb10).mono ?_
   rintro e w6 ⟨rfl, hb11⟩
   go_wp2_with fail
   go_ret
   exact ⟨ret_bool HR2.out.symm, hb10.trans (hb11.mono hb10.size)⟩
  have HR2:=Lib.hid (show isG c = false by rw [HR.out, decide_eq_false (show ¬ c.mods.length ≤ 8 by omega)]; rfl)
  have k8 : 8 < (c.mods.length : Int):=by omega
  clear h8
  go_wp2_with fail
  go_ret
  exact ⟨ret_bool HR2.out.symm, hb10⟩
 go_wp2_with fail
 go_ret
 exact ⟨ret_bool HR.out.symm, hb4⟩
end Go.Proofs.YtbdpkfgllnbheaaGreatDoor.Ch
namespace Go.Proofs.YtbdpkfgllnbheaaGreatDoor.Ch
open Go.RowKit
attribute [local go_sem ↓] loadAtG
theorem wr_bytes (e : Be.El) : ∃ (T : ByteArray) (N : Int), (.tuple #[.string T, .int .i64 N] : Value) = Be.wrV e ∧ T.data.toList = (Be.wr e).1 ∧ T.size = (Be.wr e).1.length ∧ N = ((Be.wr e).2 : Int) :=
 ⟨⟨(Be.wr e).1.toArray⟩, _, rfl, by simp, by simp [ByteArray.size], rfl⟩
set_option maxHeartbeats 4000000 in
theorem Bytes_any (c : Cg) (cs : Array Value) (w : World) (hG : Cs.Glob w) (hz : smA c) (h : GAt w (· < w.heap.size) c cs) :
  Calls Tryz.prog 9 #[.agg cs] w fun r w'=>r = .returned (.tuple #[.string ⟨(wrC c).1.toArray⟩, .int .i64 (wrC c).2]) ∧ Below w.heap.size w w':=by
 have B:=Box.new h
 have hb0:=(Below.refl w.heap.size w).alloc (Nat.le_refl _) (.cells cs 28)
 have HI:=Lib.hid (fun w1 (hb : Below w.heap.size w w1)=>Is_any c cs w1 hz (h.past hb))
 have HE:=Lib.hid (fun (hc : isG c = true) w1 (hb : Below w.heap.size w w1)=>element_any c cs w1 (hG.past hb) hc (h.past hb))
 have Hb:=Lib.hid hb0
 have HBx:=Lib.hid B
 have hld:=B.load
 clear hG hz h hb0 B
 go_enter Tryz.func9, Tryz.ntmps9
 go_wp2_with fail
 refine (HI.out _ Hb.out).mono ?_
 rintro e w1 ⟨rfl, hb1⟩
 have hb2:=Hb.out.trans (hb1.mono Hb.out.size)
 cases hc : isG c
 ·have hr : wrC c = ([], 14):=by unfold wrC; rw [if_pos hc]
  go_wp2_with fail
  go_ret2
  exact ⟨by rw [hr]; rfl, hb2⟩
 have HBx1:=Lib.hid (HBx.out.past hb1)
 have hld1:=HBx1.out.load
 have hwr : wrC c = if (Be.wr (chEl c)).2 ≠ 0 ∨ 4000 < (Be.wr (chEl c)).1.length then ([], 13) else ((Be.wr (chEl c)).1, 0):=by
  show (if isG c = false then ([], 14) else _) = _
  rw [hc]; rfl
 clear hld
 go_wp2_with fail
 refine (HE.out hc _ hb2).mono ?_
 rintro r w2 ⟨t, b, A, n, cc, rfl, hb3, hL⟩
 have hb4:=hb2.trans (hb3.mono hb2.size)
 have hW:=Be.Write_any 20 2000 5 (chEl c) _ _ _ w2 (by omega) (by omega) (good_ch hc) (hL.imp (fun _ h=>h.2) (fun _ _=>rfl))
 obtain ⟨T, N, hV, hT, hTs, hN⟩:=wr_bytes (chEl c)
 rw [← hV] at hW
 rw [← hTs, ← hT] at hwr
 have HN:=Lib.hid hN
 have HW:=Lib.hid hW
 have Hb4:=Lib.hid hb4
 clear hL hV hT hTs hN hW hb1 hb2 hb3 hb4 hld1
 go_wp2_with fail
 refine HW.out.mono ?_
 rintro r w3 ⟨rfl, hb5⟩
 have hb6:=Hb4.out.trans (hb5.mono Hb4.out.size)
 by_cases h0 : N = 0
 ·have k0 : (N != 0) = false:=by rw [bne_eq_false_iff_eq]; exact h0
  by_cases h1 : 4000 < T.size
  ·have hr : wrC c = ([], 13):=by rw [hwr, if_pos (.inr h1)]
   have k1 : 4000 < (T.size : Int):=by omega
   clear hwr h0 h1
   go_wp2_with fail
   go_ret2
   exact ⟨by rw [hr]; rfl, hb6⟩
  ·have hr : wrC c = (T.data.toList, 0):=by rw [hwr, if_neg (by have:=HN.out; rintro (h | h); exact h (by omega); exact h1 h)]
   have k1 : (T.size : Int) ≤ 4000:=by omega
   clear hwr h0 h1
   go_wp2_with fail
   go_ret2
   exact ⟨by rw [hr]; show _ = Ending.returned (.tuple #[.string ⟨T.data.toList.toArray⟩, .int .i64 0]); rw [show (⟨T.data.toList.toArray⟩ : ByteArray) = T by simp]; rfl, hb6⟩
 ·have k0 : (N != 0) = true:=by rw [bne_iff_ne]; exact h0
  have hr : wrC c = ([], 13):=by rw [hwr, if_pos (.inl (by have:=HN.out; omega))]
  clear hwr h0
  go_wp2_with fail
  go_ret2
  exact ⟨by rw [hr]; rfl, hb6⟩
end Go.Proofs.YtbdpkfgllnbheaaGreatDoor.Ch
namespace Go.Proofs.YtbdpkfgllnbheaaGreatDoor.Ch
open Go.RowKit
def storeG (p v : Value) : Sem Unit:=Instr.storeAt 28 p v
theorem storeAtG (p v : Value) : Instr.storeAt 28 p v = storeG p v:=rfl
attribute [local go_sem ↓] loadAtG storeAtG
theorem run_storeG {w : World} {g : Nat} {old cs : Array Value} (h : Blk w g 28 old) (ho : old.size = 13) (hn : cs.size = 13) (h1 : cs.all (·.oneCell') = true) : (storeG (.pointer (some ⟨g, 0, none⟩)) (.agg cs)).run Tryz.prog w = .ok () (w.setRow g cs):=by
 unfold storeG
 simp only [Instr.storeAt, Instr.sureAddr, Sem.run_bind, Sem.run_pure, Result.andThen_ok, run_storeVar_row w g _ _ old cs h (by rw [infoG, hn]) (by rw [ho, hn]) h1]
theorem elOf_few (s : List UInt8) : Few (elOf s):=by
 unfold elOf
 cases h : Be.rd 20 s 0 with
 | bad p x=>exact few_noE
 | ok e n=>exact rd_few h
theorem sm_rd {e : Be.El} (h : Few e) : smA (rdG e):=by
 intro d hd
 obtain ⟨k, hk, rfl⟩:=List.mem_map.mp hd
 have h1:=((h.kid 6).kids k hk).text 1
 show (textAt k 1).size ≤ _
 omega
theorem bne_of2 {α : Type} [BEq α] {x y : α} {b : Bool} (h : (x == y) = b) : (x != y) = !b:=by unfold bne; rw [h]
theorem readE_any (s : ByteArray) (w : World) (hs : s.size ≤ 1099511627776) :
  Calls Tryz.prog 39 #[.string s] w fun r w'=>∃ (t : Nat) (b : ByteArray) (A : Option Addr) (n c : Nat) (x y z : Int), r = .returned (.tuple #[.agg #[.int .u8 (t : Nat), .string b, .slice A n c], .int .i64 x, .int .i64 y, .int .i64 z]) ∧ Below w.heap.size w w' ∧ Be.Lies w' (· < w'.heap.size) (elOf s.data.toList) [.int .u8 (t : Nat), .string b, .slice A n c]:=by
 refine (Be.Read_any s w hs).mono ?_
 intro r w' h
 unfold elOf
 cases hr : Be.rd 20 s.data.toList 0 with
 | bad p x =>
  rw [hr] at h
  exact ⟨0, _, _, _, _, _, _, _, h.1, h.2, lies_noE _ _⟩
 | ok e n =>
  rw [hr] at h
  obtain ⟨x, y, z, h1, hb, hL⟩:=h
  obtain ⟨t, b, A, n, c, hcs⟩:=hL.form
  simp only [List.cons.injEq, and_true] at hcs
  obtain ⟨rfl, rfl, rfl⟩:=hcs
  exact ⟨t, b, A, n, c, _, _, _, h1, hb, hL.imp (fun _ h=>h.2) (fun _ _=>rfl)⟩
def NewRd (w : World) (p : Cg × Nat) (r : Ending) (w' : World) : Prop:=∃ cs : Array Value, r = .returned (.tuple #[.agg cs, .int .i64 p.2]) ∧ Below w.heap.size w w' ∧ GAt w' (fun b=>w.heap.size ≤ b ∧ b < w'.heap.size) p.1 cs
theorem zero_at (w : World) (P : Nat → Prop) : GAt w P zero zcs:=⟨none, 0, none, 0, fun _=>[], rfl, ⟨fun h=>absurd h (by simp [zero]), by decide, by decide⟩, MosAt.nil _ _ _ _, by decide, by decide⟩
theorem res_gn {fn : Func} (h : fn.results = #[.cell 2 28, .tmp 3]) (tmps : Array Value) (w : World) (g : Nat) (cs : Array Value) (n : Value) (hp : tmps.getD 2 undef = .pointer (some ⟨g, 0, none⟩)) (hn : tmps.getD 3 undef = n) (hB : Blk w g 28 cs) (hc : cs.size = 13) :
  (results fn tmps).run Tryz.prog w = .ok (.tuple #[.agg cs, n]) w:=by
 have hp' : tmps[2]?.getD undef = .pointer (some ⟨g, 0, none⟩):=by simpa using hp
 have hn' : tmps[3]?.getD undef = n:=by simpa using hn
 simp [results, h, hp', hn', asAddr, run_loadVar_row w g _ 28 cs (0, 0) _ hB Tryz.underlying28 rfl (by rw [infoG, hc])]
set_option maxHeartbeats 4000000 in
theorem Read_any (s : ByteArray) (w : World) (hG : Cs.Glob w) (hs : s.size ≤ 1099511627776) : Calls Tryz.prog 16 #[.string s] w (NewRd w (rdC s.data.toList)):=by
 have hb0:=(Below.refl w.heap.size w).alloc (Nat.le_refl _) (.cells zcs 28)
 have Z0:=Blk.new w 28 zcs
 have HR:=Lib.hid (fun w1=>readE_any s w1 hs)
 have hfew:=elOf_few s.data.toList
 have HE:=Lib.hid (fun t b A n c w1 (hb : Below w.heap.size w w1)=>readElement_any (elOf s.data.toList) t b A n c w1 (hG.past hb) hfew)
 have HB:=Lib.hid (fun cs w1 (hb : Below w.heap.size w w1)=>Bytes_any (rdG (elOf s.data.toList)) cs w1 (hG.past hb) (sm_rd hfew))
 have hr : rdC s.data.toList = if wrC (rdG (elOf s.data.toList)) = (s.data.toList, 0) then (rdG (elOf s.data.toList), 0) else (zero, 14):=rfl
 generalize elOf s.data.toList = E at HR HE HB hr
 have HQ:=Lib.hid hr
 have Hb:=Lib.hid hb0
 have HZ:=Lib.hid Z0
 clear hG hs hfew hr hb0 Z0
 go_enter Tryz.func16, Tryz.ntmps16
 go_wp2_with fail
 refine (HR.out _).mono ?_
 rintro r w1 ⟨t, b, A, n, c, x, y, z, rfl, hb1, hL⟩
 have hb2:=Hb.out.trans (hb1.mono Hb.out.size)
 have HZ1:=Lib.hid (HZ.out.past hb1)
 have Hb2:=Lib.hid hb2
 have HL:=Lib.hid hL
 have hs2:=hb2.size
 clear hb1 hb2 hL HR HZ Hb
 go_wp2_with fail
 have ha1:=(Below.refl w1.heap.size w1).alloc (Nat.le_refl _) (.cells #[.int .u8 (t : Nat), .string b, .slice A n c] 53)
 refine (HE.out t b A n c _ (Hb2.out.trans (ha1.mono hs2)) (HL.out.past ha1)).mono ?_
 rintro r w2 ⟨cs, rfl, hb3, hG2⟩
 have hb4:=ha1.trans (hb3.mono ha1.size)
 have hb5:=Hb2.out.trans (hb4.mono hs2)
 have hg2 : GAt w2 (· < w2.heap.size) (rdG E) cs:=hG2.imp (fun _ h=>h.2) (fun _ _=>rfl)
 have ha2:=(Below.refl w2.heap.size w2).alloc (Nat.le_refl _) (.cells zcs 28)
 have hst:=run_storeG (Blk.new w2 28 zcs) rfl hg2.size hg2.one
 have hs4 : w1.heap.size < w2.heap.size:=by have:=hb3.size; simp at this; omega
 obtain ⟨W, hW⟩ : ∃ W, W = (w2.alloc (.cells zcs 28)).setRow w2.heap.size cs:=⟨_, rfl⟩
 have hbW : Below w2.heap.size w2 W:=by rw [hW]; exact below_setRow ha2 (Nat.le_refl _) _
 have hBW : Blk W w2.heap.size 28 cs:=by rw [hW]; exact setRow_heap _ _ _ _ _ _ (Blk.new w2 _ zcs)
 rw [← hW] at hst
 have HW:=Lib.hid hbW
 have hld:=Box.load ⟨hBW, hg2.past hbW⟩
 have HBx : Hid (Box W w2.heap.size (rdG E) cs):=⟨hBW, hg2.past hbW⟩
 have HZ3:=Lib.hid ((HZ1.out.past hb4).past hbW)
 have HG2:=Lib.hid hG2
 have H5:=Lib.hid (hb5.trans (hbW.mono hb5.size))
 have H4:=Lib.hid (Nat.le_trans hs2 (Nat.le_of_lt hs4))
 clear hb3 hb4 hb5 hbW hBW hG2 hg2 ha1 ha2 hW HZ1 HL HE Hb2
 go_wp2_with fail
 refine (HB.out cs W H5.out HBx.out.2).mono ?_
 rintro r w3 ⟨rfl, hb6⟩
 have h6:=HW.out.trans (hb6.mono HW.out.size)
 have h7:=H5.out.trans (hb6.mono H5.out.size)
 have HZ4:=HZ3.out.past hb6
 have HBx4:=HBx.out.past hb6
 have hq:=HQ.out
 clear hst hld HB HQ HZ3
 generalize wrC (rdG E) = p at hq ⊢
 obtain ⟨l, k⟩:=p
 obtain ⟨T, hT⟩ : ∃ T : ByteArray, T = ⟨l.toArray⟩:=⟨_, rfl⟩
 have hl : l = T.data.toList:=by rw [hT]
 have hTs : (l = s.data.toList) = (T = s):=by
  rw [hl]
  refine propext ⟨fun h=>?_, fun h=>by rw [h]⟩
  cases T; cases s
  simp only at h
  rw [ByteArray.mk.injEq]
  exact Array.ext' h
 have hrow : ∀ cs' : Array Value, Below w.heap.size w (w3.setRow w.heap.size cs'):=fun cs'=>below_setRow h7 (Nat.le_refl _) _
 simp only [← hT]
 by_cases hg : (l, k) = (s.data.toList, 0)
 ·rw [if_pos hg] at hq
  injection hg with hg1 hg2
  subst hg2
  rw [hTs] at hg1
  subst hg1
  have HQ:=Lib.hid hq
  have hst:=run_storeG HZ4 rfl HBx4.2.size HBx4.2.one
  have hld:=HBx4.load
  obtain ⟨W4, hW4⟩ : ∃ W4, W4 = w3.setRow w.heap.size cs:=⟨_, rfl⟩
  have hB4 : Blk W4 w.heap.size 28 cs:=by rw [hW4]; exact setRow_heap _ _ _ _ _ _ HZ4
  have hb4 : Below w.heap.size w W4:=by rw [hW4]; exact hrow cs
  have hsz:=HBx4.2.size
  have hG4 : GAt W4 (fun b=>w.heap.size ≤ b ∧ b < W4.heap.size) (rdG E) cs:=by
   rw [hW4]
   refine HG2.out.imp (fun b hb=>?_) (fun p hp=>?_)
   ·have h1:=hb.1; have h2:=hb.2; have h3:=h6.size; rw [setRow_size]; simp at h1; omega
   ·have h1:=hp.1; simp at h1
    exact (cell_setRow_other _ _ _ _ (by omega)).trans (h6.cell hp.2)
  rw [← hW4] at hst
  have HX:=Lib.hid (And.intro hB4 (And.intro hb4 hG4))
  have e1 : (T.toList == T.toList) = true:=beq_self_eq_true _
  have e2 : (T.toList != T.toList) = false:=bne_of2 e1
  clear hq hl hT hTs HZ4 HBx4 hrow hW4 hB4 hb4 hG4
  go_wp2_with fail
  exact bodyPost_ret (res_gn rfl _ _ w.heap.size cs _ rfl rfl HX.out.1 hsz) rfl ⟨cs, by rw [HQ.out]; rfl, HX.out.2.1, by rw [HQ.out]; exact HX.out.2.2⟩
 ·rw [if_neg hg] at hq
  have HQ:=Lib.hid hq
  have hst:=run_storeG (cs:=zcs) HZ4 rfl rfl (by simp [Value.oneCell'])
  obtain ⟨W4, hW4⟩ : ∃ W4, W4 = w3.setRow w.heap.size zcs:=⟨_, rfl⟩
  have hB4 : Blk W4 w.heap.size 28 zcs:=by rw [hW4]; exact setRow_heap _ _ _ _ _ _ HZ4
  have hb4 : Below w.heap.size w W4:=by rw [hW4]; exact hrow zcs
  rw [← hW4] at hst
  have HX:=Lib.hid (And.intro hB4 hb4)
  have hcase : ((k : Int) != 0) = true ∨ ((k : Int) != 0) = false ∧ (T.toList == s.toList) = false:=by
   by_cases h0 : k = 0
   ·refine .inr ⟨by rw [bne_eq_false_iff_eq]; omega, ?_⟩
    rw [toList_eq, decide_eq_false]
    intro h
    exact hg (by rw [h0, hTs.mpr h])
   ·exact .inl (by rw [bne_iff_ne]; omega)
  clear hq hl hT hTs HZ4 HBx4 hrow hW4 hB4 hb4 hg
  rcases hcase with k1 | ⟨k1, k2⟩
  ·go_wp2_with fail
   exact bodyPost_ret (res_gn rfl _ _ w.heap.size zcs _ rfl rfl HX.out.1 rfl) rfl ⟨zcs, by rw [HQ.out]; rfl, HX.out.2, by rw [HQ.out]; exact zero_at _ _⟩
  ·have k3:=bne_of2 k2
   go_wp2_with fail
   exact bodyPost_ret (res_gn rfl _ _ w.heap.size zcs _ rfl rfl HX.out.1 rfl) rfl ⟨zcs, by rw [HQ.out]; rfl, HX.out.2, by rw [HQ.out]; exact zero_at _ _⟩
end Go.Proofs.YtbdpkfgllnbheaaGreatDoor.Ch
namespace Go.Proofs.YtbdpkfgllnbheaaGreatDoor.Ch
open Go.RowKit
attribute [local go_sem ↓] loadAtG storeAtG
theorem box_store {w : World} {c : Cg} {cs : Array Value} (h : GAt w (· < w.heap.size) c cs) : ∃ W, (storeG (.pointer (some ⟨w.heap.size, 0, none⟩)) (.agg cs)).run Tryz.prog (w.alloc (.cells zcs 28)) = .ok () W ∧ Below w.heap.size w W ∧ Box W w.heap.size c cs:=by
 have ha:=(Below.refl w.heap.size w).alloc (Nat.le_refl _) (.cells zcs 28)
 have hb:=below_setRow ha (Nat.le_refl _) cs
 exact ⟨_, run_storeG (Blk.new w 28 zcs) rfl h.size h.one, hb, setRow_heap _ _ _ _ _ _ (Blk.new w _ zcs), h.past hb⟩
theorem zero_same : eqG zero zero = true:=by decide
theorem sm_rdC (s : List UInt8) : smA (rdC s).1:=by
 unfold rdC
 split
 ·exact sm_rd (elOf_few s)
 ·intro d hd; cases hd
theorem rdC_cases (s : List UInt8) : (rdC s = (zero, 14)) ∨ ((rdC s).2 = 0 ∧ wrC (rdC s).1 = (s, 0) ∧ isG (rdC s).1 = true):=by
 unfold rdC
 split
 ·rename_i h
  refine .inr ⟨rfl, h, ?_⟩
  cases hg : isG (rdG (elOf s)) with
  | true=>rfl
  | false =>
   unfold wrC at h
   rw [if_pos hg] at h
   injection h with _ h2
   cases h2
 ·exact .inl rfl
set_option maxHeartbeats 4000000 in
theorem reads_any (s : ByteArray) (w : World) (hG : Cs.Glob w) (hs : s.size ≤ 1099511627776) : Calls Tryz.prog 14 #[.string s] w (Flag w true):=by
 have HR:=Lib.hid (Read_any s w hG hs)
 have hsm:=sm_rdC s.data.toList
 have hc:=rdC_cases s.data.toList
 have HG:=Lib.hid hG
 generalize rdC s.data.toList = p at HR hsm hc
 obtain ⟨c, n⟩:=p
 have HC:=Lib.hid hc
 have HS:=Lib.hid hsm
 clear hc hG hsm
 go_enter Tryz.func14, Tryz.ntmps14
 go_wp2_with fail
 refine HR.out.mono ?_
 rintro r w1 ⟨cs, rfl, hb1, hg⟩
 have hg1 : GAt w1 (· < w1.heap.size) c cs:=hg.imp (fun _ h=>h.2) (fun _ _=>rfl)
 obtain ⟨W, hst, hbW, hBx⟩:=box_store hg1
 have hb2:=hb1.trans (hbW.mono hb1.size)
 have hld:=hBx.load
 have HGW:=Lib.hid (HG.out.past hb2)
 have HB:=Lib.hid hBx
 have Hb:=Lib.hid hb2
 have hc:=HC.out
 clear hg hg1 hbW hb1 hb2 hBx HR HG
 rcases hc with hc | ⟨hc1, hc2, hc3⟩
 ·injection hc with h1 h2
  subst h1 h2
  have HE:=Lib.hid (rSame_any zero zero cs zcs W HB.out.2 (zero_at _ _))
  rw [zero_same] at HE
  clear HC
  go_wp2_with fail
  refine HE.out.mono ?_
  rintro r w2 ⟨rfl, hb3⟩
  go_wp2_with fail
  go_ret
  exact ⟨rfl, Hb.out.trans (hb3.mono Hb.out.size)⟩
 ·have hc1 : n = 0:=hc1
  have hc2 : wrC c = (s.data.toList, 0):=hc2
  have hc3 : isG c = true:=hc3
  subst hc1
  have HT:=Bytes_any c cs W HGW.out HS.out HB.out.2
  rw [hc2] at HT
  have hq : (⟨s.data.toList.toArray⟩ : ByteArray) = s:=by simp
  have HT : Calls Tryz.prog 9 #[.agg cs] W fun r w'=>r = .returned (.tuple #[.string ⟨s.data.toList.toArray⟩, .int .i64 0]) ∧ Below W.heap.size W w':=HT
  rw [hq] at HT
  have HT2:=Lib.hid HT
  have HI:=Lib.hid (fun w1 hb=>ris_any c cs w1 HS.out (HB.out.2.past hb))
  have HI3:=Lib.hid hc3
  have e1 : (s.toList == s.toList) = true:=beq_self_eq_true _
  clear HT hq hc2 hc3 HC
  go_wp2_with fail
  refine HT2.out.mono ?_
  rintro r w2 ⟨rfl, hb3⟩
  have hld2:=(HB.out.past hb3).load
  clear hst hld
  go_wp2_with fail
  refine (HI.out _ hb3).mono ?_
  rintro r w3 ⟨rfl, hb4⟩
  have hb5:=Hb.out.trans (hb3.mono Hb.out.size)
  rw [HI3.out]
  go_wp2_with fail
  go_ret
  exact ⟨rfl, hb5.trans (hb4.mono hb5.size)⟩
end Go.Proofs.YtbdpkfgllnbheaaGreatDoor.Ch
namespace Go.Proofs.YtbdpkfgllnbheaaGreatDoor.Ch
open Go.RowKit
def KD : Cg:=⟨⟨2, 0, 0⟩, 2, ⟨1, 0, 0⟩, z3, [], false, []⟩
theorem t200 : Cs.text 2 0 0 = [50, 46, 48, 46, 48]:=by simp [Cs.text, Lib.itoa, Lib.decDigits]
theorem t100 : Cs.text 1 0 0 = [49, 46, 48, 46, 48]:=by simp [Cs.text, Lib.itoa, Lib.decDigits]
theorem t000 : Cs.text 0 0 0 = [48, 46, 48, 46, 48]:=by simp [Cs.text, Lib.itoa, Lib.decDigits]
theorem cn_back (t s r : Int) (ht : Cs.I64 t) (hs : Cs.I64 s) (hr : Cs.I64 r) (h : Cs.isC t s r = true) : cnOf (Cs.text t s r) = ⟨t, s, r⟩:=by
 unfold cnOf
 rw [Cs.text_is t s r ht hs hr, h, if_pos rfl, Cs.text_pT t s r ht.1 ht.2, Cs.text_pS t s r hs.1 hs.2, Cs.text_pR t s r hr.1 hr.2]
def KE : Be.El:=lst 48 [num 2 2, txt 4 ⟨#[50, 46, 48, 46, 48]⟩, txt 4 ⟨#[49, 46, 48, 46, 48]⟩, txt 4 ⟨#[48, 46, 48, 46, 48]⟩, txt 4 ⟨#[]⟩, txt 1 ⟨#[0]⟩, lst 48 []]
theorem KD_el : chEl KD = KE:=by
 have h : chEl KD = lst 48 [num 2 2, txt 4 (Cs.mk (Cs.text 2 0 0)), txt 4 (Cs.mk (Cs.text 1 0 0)), txt 4 (Cs.mk (Cs.text 0 0 0)), txt 4 ⟨#[]⟩, txt 1 ⟨#[0]⟩, lst 48 []]:=rfl
 rw [h, t200, t100, t000]
 rfl
theorem KD_is : isG KD = true:=by kernel_rfl
theorem zero_is : isG zero = false:=by kernel_rfl
theorem KE_wr : (Be.wr KE).2 = 0:=by kernel_rfl
theorem KE_len : decide (4000 < (Be.wr KE).1.length) = false:=by kernel_rfl
theorem KE_rd : elOf (Be.wr KE).1 = KE:=by kernel_rfl
theorem KD_wr : wrC KD = ((Be.wr KE).1, 0):=by
 unfold wrC
 rw [KD_is, if_neg (by decide), KD_el, if_neg]
 rw [KE_wr]
 have:=of_decide_eq_false KE_len
 omega
theorem KE_g : rdG KE = KD:=by
 have h : rdG KE = ⟨cnOf [50, 46, 48, 46, 48], 2, cnOf [49, 46, 48, 46, 48], cnOf [48, 46, 48, 46, 48], [], false, []⟩:=by kernel_rfl
 have i (n : Int) (h1 : 0 ≤ n) (h2 : n ≤ 2) : Cs.I64 n:=⟨by omega, by omega⟩
 rw [h, ← t200, ← t100, ← t000, cn_back 2 0 0 (i 2 (by decide) (by decide)) (i 0 (by decide) (by decide)) (i 0 (by decide) (by decide)) rfl, cn_back 1 0 0 (i 1 (by decide) (by decide)) (i 0 (by decide) (by decide)) (i 0 (by decide) (by decide)) rfl, cn_back 0 0 0 (i 0 (by decide) (by decide)) (i 0 (by decide) (by decide)) (i 0 (by decide) (by decide)) rfl]
 rfl
theorem KD_rd : rdC (Be.wr KE).1 = (KD, 0):=by
 unfold rdC
 rw [KE_rd, KE_g, if_pos KD_wr]
theorem none_kind : (rdG (elOf [])).kind = 0:=by kernel_rfl
theorem none_is : isG (rdG (elOf [])) = false:=by
 cases h : isG (rdG (elOf [])) with
 | false=>rfl
 | true =>
  exfalso
  obtain ⟨_, _, _, _, h4, _⟩:=g_open h
  have:=formed_kind h4
  rw [none_kind] at this
  omega
theorem none_rd : rdC [] = (zero, 14):=by
 unfold rdC
 rw [if_neg]
 unfold wrC
 rw [if_pos none_is]
 intro h
 injection h with _ h2
 cases h2
theorem zero_wr : wrC zero = ([], 14):=by
 unfold wrC
 rw [if_pos zero_is]
theorem KD_same : eqG KD KD = true:=by decide
end Go.Proofs.YtbdpkfgllnbheaaGreatDoor.Ch
