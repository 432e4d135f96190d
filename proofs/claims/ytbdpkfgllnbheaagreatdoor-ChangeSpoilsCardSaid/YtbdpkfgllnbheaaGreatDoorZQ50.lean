import Derived.Test.YtbdpkfgllnbheaaGreatDoorZQ47
import Derived.Test.YtbdpkfgllnbheaaGreatDoorZQ45
set_option linter.unusedVariables false
set_option maxRecDepth 100000
namespace Go.Proofs.YtbdpkfgllnbheaaGreatDoor.Ch
open Go.RowKit
def nosuch : ByteArray:=⟨#[110, 111, 115, 117, 99, 104]⟩
def exx : ByteArray:=⟨#[120]⟩
def spoil (c : Cg) (k : Nat) : Cg :=
 if k = 0 then { c with kind:=0 }
 else if k = 1 then { c with csn:={ c.csn with r:=6 } }
 else if k = 2 then { c with csn:={ c.csn with t:=-1 } }
 else if k = 3 then { c with mods:=c.mods ++ [⟨1, nosuch, [exx]⟩] }
 else if k = 4 then { c with mods:=c.mods ++ [⟨1, entryid, [exx]⟩] }
 else if k = 5 then { c with rdn:=c.rdn ++ [(entryid, exx)] }
 else { c with par:={ c.par with s:=-1 } }
theorem isG_unformed {c : Cg} (h : formed c = false) : isG c = false:=by
 unfold isG
 rw [h]
 cases isCn c.csn && (!zCn c.csn && (isCn c.id && isCn c.par)) <;> rfl
theorem isG_badmod {c : Cg} {d : Mo} (hd : d ∈ c.mods) (h : noMo d = true) : isG c = false:=by
 have h1 : c.mods.any noMo = true:=List.any_eq_true.mpr ⟨d, hd, h⟩
 unfold isG
 rw [h1]
 cases isCn c.csn && (!zCn c.csn && (isCn c.id && isCn c.par)) <;> cases formed c <;> cases decide (c.mods.length ≤ 8) <;> rfl
theorem formed_badrdn {c : Cg} (h1 : okR c.rdn = false) (h2 : c.rdn.length ≠ 0) : formed c = false:=by
 have hp : place c = false:=by unfold place; rw [h1]; cases lt c.par c.csn <;> rfl
 have hn : noPlace c = false:=by unfold noPlace; rw [decide_eq_false h2]; cases zCn c.par <;> rfl
 unfold formed
 split
 ·rw [hp]; cases eqCn c.id c.csn <;> rfl
 ·split
  ·rw [hn]; cases lt c.id c.csn <;> rfl
  ·split
   ·rw [hp]; rfl
   ·split
    ·unfold isDel; rw [hn]; cases zCn c.id <;> cases lt c.id c.csn <;> rfl
    ·rfl
theorem no_nosuch : noMo ⟨1, nosuch, [exx]⟩ = true:=by kernel_rfl
theorem no_entryid : noMo ⟨1, entryid, [exx]⟩ = true:=by kernel_rfl
theorem ava_entryid : noAva (entryid, exx) = true:=by kernel_rfl
theorem spoil_no (c : Cg) (k : Nat) : isG (spoil c k) = false:=by
 unfold spoil
 split
 ·exact isG_unformed rfl
 split
 ·exact isG_no (by unfold nums; rw [show isCn { c.csn with r:=6 } = false by unfold isCn Cs.isC; simp]; rfl)
 split
 ·exact isG_no (by unfold nums; rw [show isCn { c.csn with t:=-1 } = false by unfold isCn Cs.isC; simp]; rfl)
 split
 ·exact isG_badmod (List.mem_append_right _ (List.mem_singleton.mpr rfl)) no_nosuch
 split
 ·exact isG_badmod (List.mem_append_right _ (List.mem_singleton.mpr rfl)) no_entryid
 split
 ·refine isG_unformed (formed_badrdn ?_ (by simp))
  show okR (c.rdn ++ [(entryid, exx)]) = false
  have h1 : (c.rdn ++ [(entryid, exx)]).any noAva = true:=by rw [List.any_append]; show (_ || (noAva (entryid, exx) || false)) = true; rw [ava_entryid]; cases c.rdn.any noAva <;> rfl
  unfold okR
  rw [h1]
  cases Nm.isRdn (c.rdn ++ [(entryid, exx)]) <;> cases decide ((c.rdn ++ [(entryid, exx)]).length < 4) <;> rfl
 ·refine isG_no ?_
  unfold nums
  rw [show isCn { c.par with s:=-1 } = false by unfold isCn Cs.isC; simp]
  cases isCn c.csn <;> cases zCn c.csn <;> cases isCn c.id <;> rfl
theorem eqG_no {a b : Cg} (h : ¬ (a.csn = b.csn ∧ a.kind = b.kind ∧ a.par = b.par ∧ a.rdn = b.rdn ∧ a.mods.length = b.mods.length)) : eqG a b = false:=by
 have hr : eqG a b = (eqCn a.csn b.csn && (decide (a.kind = b.kind) && (eqCn a.id b.id && (eqCn a.par b.par && (decide (a.del = b.del) && (decide (a.rdn = b.rdn) && eqMos a.mods b.mods)))))):=rfl
 cases hq : eqG a b with
 | false=>rfl
 | true =>
  exfalso
  rw [hq] at hr
  have hr:=hr.symm
  simp only [Bool.and_eq_true, decide_eq_true_eq] at hr
  obtain ⟨h1, h2, _, h4, _, h6, h7⟩:=hr
  have e (x y : Cn) (h : eqCn x y = true) : x = y:=by
   obtain ⟨p1, p2, p3⟩:=of_decide_eq_true h
   cases x; cases y
   simp only at p1 p2 p3
   rw [p1, p2, p3]
  refine h ⟨e _ _ h1, h2, e _ _ h4, h6, ?_⟩
  apply Classical.byContradiction
  intro hl
  rw [eqMos_len hl] at h7
  cases h7
theorem spoil_other {c : Cg} (hc : isG c = true) (k : Nat) : eqG c (spoil c k) = false:=by
 cases hq : eqG c (spoil c k) with
 | false=>rfl
 | true =>
  exfalso
  have hn:=spoil_no c k
  have h:=Classical.byContradiction (fun h=>by rw [eqG_no (a:=c) (b:=spoil c k) h] at hq; cases hq)
  unfold spoil at h hn
  obtain ⟨h1, h2, h3, h4, h5⟩:=h
  by_cases k0 : k = 0
  ·rw [if_pos k0] at h2 hn
   have e : ({ c with kind:=0 } : Cg) = c:=by
    have h9 : c.kind = ({ c with kind:=0 } : Cg).kind:=h2
    obtain ⟨x1, x2, x3, x4, x5, x6, x7⟩:=c
    simp only at h9
    simp only [← h9]
   rw [e, hc] at hn
   cases hn
  by_cases k1 : k = 1
  ·rw [if_neg k0, if_pos k1] at h1 hn
   have e : ({ c with csn:={ c.csn with r:=6 } } : Cg) = c:=by
    have h9 : c.csn = ({ c with csn:={ c.csn with r:=6 } } : Cg).csn:=h1
    obtain ⟨x1, x2, x3, x4, x5, x6, x7⟩:=c
    simp only at h9
    simp only [← h9]
   rw [e, hc] at hn
   cases hn
  by_cases k2 : k = 2
  ·rw [if_neg k0, if_neg k1, if_pos k2] at h1 hn
   have e : ({ c with csn:={ c.csn with t:=-1 } } : Cg) = c:=by
    have h9 : c.csn = ({ c with csn:={ c.csn with t:=-1 } } : Cg).csn:=h1
    obtain ⟨x1, x2, x3, x4, x5, x6, x7⟩:=c
    simp only at h9
    simp only [← h9]
   rw [e, hc] at hn
   cases hn
  by_cases k3 : k = 3
  ·rw [if_neg k0, if_neg k1, if_neg k2, if_pos k3] at h5
   have h9 : c.mods.length = (c.mods ++ [(⟨1, nosuch, [exx]⟩ : Mo)]).length:=h5
   simp at h9
  by_cases k4 : k = 4
  ·rw [if_neg k0, if_neg k1, if_neg k2, if_neg k3, if_pos k4] at h5
   have h9 : c.mods.length = (c.mods ++ [(⟨1, entryid, [exx]⟩ : Mo)]).length:=h5
   simp at h9
  by_cases k5 : k = 5
  ·rw [if_neg k0, if_neg k1, if_neg k2, if_neg k3, if_neg k4, if_pos k5] at h4
   have h9:=congrArg List.length (show c.rdn = c.rdn ++ [(entryid, exx)] from h4)
   simp at h9
  rw [if_neg k0, if_neg k1, if_neg k2, if_neg k3, if_neg k4, if_neg k5] at h3 hn
  have e : ({ c with par:={ c.par with s:=-1 } } : Cg) = c:=by
   have h9 : c.par = { c.par with s:=-1 }:=h3
   obtain ⟨x1, x2, x3, x4, x5, x6, x7⟩:=c
   simp only at h9
   simp only [← h9]
  rw [e, hc] at hn
  cases hn
end Go.Proofs.YtbdpkfgllnbheaaGreatDoor.Ch
namespace Go.Proofs.YtbdpkfgllnbheaaGreatDoor.Ch
open Go.RowKit
attribute [local go_sem ↓] loadAtG storeAtG
theorem spoil_sm {c : Cg} (h : fwG c) (k : Nat) : smA (spoil c k):=by
 have h0:=fw_smA h
 unfold spoil
 have app (m : Mo) (hm : m.attr.size ≤ 1099511627776) : ∀ d ∈ c.mods ++ [m], d.attr.size ≤ 1099511627776:=fun d hd=>by
  rcases List.mem_append.1 hd with h1 | h1
  ·exact h0 d h1
  ·rw [List.mem_singleton.1 h1]; exact hm
 split
 ·exact h0
 split
 ·exact h0
 split
 ·exact h0
 split
 ·exact app _ (by decide)
 split
 ·exact app _ (by decide)
 split
 ·exact h0
 ·exact h0
theorem spoil_wr (c : Cg) (k : Nat) : wrC (spoil c k) = ([], 14):=by
 unfold wrC
 rw [if_pos (spoil_no c k)]
set_option maxHeartbeats 4000000 in
theorem spoils_0 (w : World) (c : Cg) (cs : Array Value) (ha : GAt w (· < w.heap.size) c cs) (n : Nat) (hn : n < 256) (hk : (n : Int) % 7 = 0) (hG : Cs.Glob w) : Calls Tryz.prog 6 #[.agg cs, .int .u8 n] w (Flag w true):=by
 have hB:=Box.new ha
 have HB:=Lib.hid hB
 have Hb0:=Lib.hid ((Below.refl w.heap.size w).alloc (Nat.le_refl _) (.cells cs 28))
 have HG:=Lib.hid hG
 have HF:=Lib.hid (few_any c cs)
 have HI:=Lib.hid (Is_any c cs)
 have HC:=Lib.hid (Copy_any c cs)
 obtain ⟨b1, hb1⟩ : ∃ b, isG c = b:=⟨_, rfl⟩
 have HG1:=Lib.hid hb1
 rw [hb1] at HI
 clear hG ha hB hb1
 go_enter Tryz.func6, Tryz.ntmps6
 go_wp2_with fail
 refine (known_any _ (HG.out.past Hb0.out)).mono ?_
 rintro r w1 ⟨rfl, hk1⟩
 have HB1:=Lib.hid (HB.out.past hk1)
 have Hb2:=Lib.hid (Hb0.out.trans (hk1.mono Hb0.out.size))
 have hld:=HB1.out.load
 clear HB Hb0 hk1
 go_wp2_with fail
 refine (HF.out _ HB1.out.2).mono ?_
 rintro r w2 ⟨f1, rfl, hf, hk2⟩
 have HB2:=Lib.hid (HB1.out.past hk2)
 have Hb4:=Lib.hid (Hb2.out.trans (hk2.mono Hb2.out.size))
 have HFW:=Lib.hid hf
 clear HB1 Hb2 hk2 hf hld
 cases f1
 focus
  go_wp2_with fail
  go_ret
  exact ⟨rfl, Hb4.out⟩
 have HW:=Lib.hid (HFW.out (by simp))
 have hld:=HB2.out.load
 clear HFW HF
 go_wp2_with fail
 refine (HI.out _ (fw_smA HW.out) HB2.out.2).mono ?_
 rintro r w3 ⟨rfl, hk3⟩
 have HB3:=Lib.hid (HB2.out.past hk3)
 have Hb6:=Lib.hid (Hb4.out.trans (hk3.mono Hb4.out.size))
 clear HB2 Hb4 hk3 hld
 cases b1
 focus
  go_wp2_with fail
  go_ret
  exact ⟨rfl, Hb6.out⟩
 have hld:=HB3.out.load
 clear HI
 go_wp2_with fail
 refine (HC.out _ (fw_smG HW.out) HB3.out.2).mono ?_
 rintro r w4 ⟨c5, rfl, hk4, hO⟩
 have hg5 : GAt w4 (· < w4.heap.size) c c5:=hO.at.imp (fun _ h=>h.2) (fun _ _=>rfl)
 obtain ⟨W, hst, hbW, hB5⟩:=box_store hg5
 have hkW:=hk4.trans (hbW.mono hk4.size)
 have HB5:=Lib.hid (HB3.out.past hkW)
 have Hb8:=Lib.hid (Hb6.out.trans (hkW.mono Hb6.out.size))
 have hlt : w.heap.size < w4.heap.size:=by have h1:=HB3.out.1.lt; have:=hk4.size; omega
 obtain ⟨R, rc, M, mc, ds, rfl, ⟨hR, hl, hrc⟩, hM, hml, hmc⟩:=hg5
 have f5:=hB5.1.frozen 3
 have c5:=hB5.1.cell 3
 have hb5 : Below w4.heap.size w4 (W.setCell ⟨w4.heap.size, 3, none⟩ (.int .i64 0)):=hbW.setCell (p:=⟨w4.heap.size, 3, none⟩) (Nat.le_refl _) _
 have hS : Box (W.setCell ⟨w4.heap.size, 3, none⟩ (.int .i64 0)) w4.heap.size (spoil c 0) (gcs (spoil c 0) R rc M mc):=⟨hB5.1.set_ 3 _, R, rc, M, mc, ds, rfl, ⟨hR.past hb5, hl, hrc⟩, hM.past hb5, hml, hmc⟩
 have hk9:=hk4.trans (hb5.mono hk4.size)
 have hW1 : Box (W.setCell ⟨w4.heap.size, 3, none⟩ (.int .i64 0)) w.heap.size c cs:=HB3.out.past hk9
 have hV : Below w.heap.size w (W.setCell ⟨w4.heap.size, 3, none⟩ (.int .i64 0)):=Hb6.out.trans (hk9.mono Hb6.out.size)
 clear hO hR hM hbW hkW HB5 Hb8 hk4 hb5 hk9 HB3 hB5 Hb6 HC
 have HW5:=Lib.hid hW1
 have HS:=Lib.hid hS
 have HV:=Lib.hid hV
 have HGV:=Lib.hid (HG.out.past HV.out)
 have HBy:=Lib.hid (Bytes_any (spoil c 0) _ _ HGV.out (spoil_sm HW.out 0) HS.out.2)
 rw [spoil_wr] at HBy
 have HBz : Hid (Calls Tryz.prog 9 #[.agg (gcs (spoil c 0) R rc M mc)] (W.setCell ⟨w4.heap.size, 3, none⟩ (.int .i64 0)) fun r w'=>r = .returned (.tuple #[.string ⟨#[]⟩, .int .i64 14]) ∧ Below ((W.setCell ⟨w4.heap.size, 3, none⟩ (.int .i64 0))).heap.size ((W.setCell ⟨w4.heap.size, 3, none⟩ (.int .i64 0))) w'):=HBy
 have hld:=HS.out.load
 clear HBy
 go_wp2_with fail
 refine HBz.out.mono ?_
 rintro r w6 ⟨rfl, hk6⟩
 have HS6:=Lib.hid (HS.out.past hk6)
 have HC6:=Lib.hid (HW5.out.past hk6)
 have Hb9:=Lib.hid (HV.out.trans (hk6.mono HV.out.size))
 have hld6:=HS6.out.load
 have hI6:=Is_any (spoil c 0) _ w6 (spoil_sm HW.out 0) HS6.out.2
 rw [spoil_no] at hI6
 have HI6:=Lib.hid hI6
 clear hld hI6 HBz hst
 go_wp2_with fail
 refine HI6.out.mono ?_
 rintro r w7 ⟨rfl, hk7⟩
 have HS7:=Lib.hid (HS6.out.past hk7)
 have HC7:=Lib.hid (HC6.out.past hk7)
 have Hb10:=Lib.hid (Hb9.out.trans (hk7.mono Hb9.out.size))
 have hld7:=HS7.out.load
 have hld8:=HC7.out.load
 have hE:=Same_any c (spoil c 0) _ _ w7 HC7.out.2 HS7.out.2
 rw [spoil_other HG1.out] at hE
 have HE:=Lib.hid hE
 clear hld6 hE
 go_wp2_with fail
 refine HE.out.mono ?_
 rintro r w8 ⟨rfl, hk8⟩
 go_wp2_with fail
 go_ret
 exact ⟨rfl, Hb10.out.trans (hk8.mono Hb10.out.size)⟩
set_option maxHeartbeats 4000000 in
theorem spoils_1 (w : World) (c : Cg) (cs : Array Value) (ha : GAt w (· < w.heap.size) c cs) (n : Nat) (hn : n < 256) (hk : (n : Int) % 7 = 1) (hG : Cs.Glob w) : Calls Tryz.prog 6 #[.agg cs, .int .u8 n] w (Flag w true):=by
 have hB:=Box.new ha
 have HB:=Lib.hid hB
 have Hb0:=Lib.hid ((Below.refl w.heap.size w).alloc (Nat.le_refl _) (.cells cs 28))
 have HG:=Lib.hid hG
 have HF:=Lib.hid (few_any c cs)
 have HI:=Lib.hid (Is_any c cs)
 have HC:=Lib.hid (Copy_any c cs)
 obtain ⟨b1, hb1⟩ : ∃ b, isG c = b:=⟨_, rfl⟩
 have HG1:=Lib.hid hb1
 rw [hb1] at HI
 clear hG ha hB hb1
 go_enter Tryz.func6, Tryz.ntmps6
 go_wp2_with fail
 refine (known_any _ (HG.out.past Hb0.out)).mono ?_
 rintro r w1 ⟨rfl, hk1⟩
 have HB1:=Lib.hid (HB.out.past hk1)
 have Hb2:=Lib.hid (Hb0.out.trans (hk1.mono Hb0.out.size))
 have hld:=HB1.out.load
 clear HB Hb0 hk1
 go_wp2_with fail
 refine (HF.out _ HB1.out.2).mono ?_
 rintro r w2 ⟨f1, rfl, hf, hk2⟩
 have HB2:=Lib.hid (HB1.out.past hk2)
 have Hb4:=Lib.hid (Hb2.out.trans (hk2.mono Hb2.out.size))
 have HFW:=Lib.hid hf
 clear HB1 Hb2 hk2 hf hld
 cases f1
 focus
  go_wp2_with fail
  go_ret
  exact ⟨rfl, Hb4.out⟩
 have HW:=Lib.hid (HFW.out (by simp))
 have hld:=HB2.out.load
 clear HFW HF
 go_wp2_with fail
 refine (HI.out _ (fw_smA HW.out) HB2.out.2).mono ?_
 rintro r w3 ⟨rfl, hk3⟩
 have HB3:=Lib.hid (HB2.out.past hk3)
 have Hb6:=Lib.hid (Hb4.out.trans (hk3.mono Hb4.out.size))
 clear HB2 Hb4 hk3 hld
 cases b1
 focus
  go_wp2_with fail
  go_ret
  exact ⟨rfl, Hb6.out⟩
 have hld:=HB3.out.load
 clear HI
 go_wp2_with fail
 refine (HC.out _ (fw_smG HW.out) HB3.out.2).mono ?_
 rintro r w4 ⟨c5, rfl, hk4, hO⟩
 have hg5 : GAt w4 (· < w4.heap.size) c c5:=hO.at.imp (fun _ h=>h.2) (fun _ _=>rfl)
 obtain ⟨W, hst, hbW, hB5⟩:=box_store hg5
 have hkW:=hk4.trans (hbW.mono hk4.size)
 have HB5:=Lib.hid (HB3.out.past hkW)
 have Hb8:=Lib.hid (Hb6.out.trans (hkW.mono Hb6.out.size))
 have hlt : w.heap.size < w4.heap.size:=by have h1:=HB3.out.1.lt; have:=hk4.size; omega
 obtain ⟨R, rc, M, mc, ds, rfl, ⟨hR, hl, hrc⟩, hM, hml, hmc⟩:=hg5
 have f5:=hB5.1.frozen 2
 have c5:=hB5.1.cell 2
 have hb5 : Below w4.heap.size w4 (W.setCell ⟨w4.heap.size, 2, none⟩ (.int .i64 6)):=hbW.setCell (p:=⟨w4.heap.size, 2, none⟩) (Nat.le_refl _) _
 have hS : Box (W.setCell ⟨w4.heap.size, 2, none⟩ (.int .i64 6)) w4.heap.size (spoil c 1) (gcs (spoil c 1) R rc M mc):=⟨hB5.1.set_ 2 _, R, rc, M, mc, ds, rfl, ⟨hR.past hb5, hl, hrc⟩, hM.past hb5, hml, hmc⟩
 have hk9:=hk4.trans (hb5.mono hk4.size)
 have hW1 : Box (W.setCell ⟨w4.heap.size, 2, none⟩ (.int .i64 6)) w.heap.size c cs:=HB3.out.past hk9
 have hV : Below w.heap.size w (W.setCell ⟨w4.heap.size, 2, none⟩ (.int .i64 6)):=Hb6.out.trans (hk9.mono Hb6.out.size)
 clear hO hR hM hbW hkW HB5 Hb8 hk4 hb5 hk9 HB3 hB5 Hb6 HC
 have HW5:=Lib.hid hW1
 have HS:=Lib.hid hS
 have HV:=Lib.hid hV
 have HGV:=Lib.hid (HG.out.past HV.out)
 have HBy:=Lib.hid (Bytes_any (spoil c 1) _ _ HGV.out (spoil_sm HW.out 1) HS.out.2)
 rw [spoil_wr] at HBy
 have HBz : Hid (Calls Tryz.prog 9 #[.agg (gcs (spoil c 1) R rc M mc)] (W.setCell ⟨w4.heap.size, 2, none⟩ (.int .i64 6)) fun r w'=>r = .returned (.tuple #[.string ⟨#[]⟩, .int .i64 14]) ∧ Below ((W.setCell ⟨w4.heap.size, 2, none⟩ (.int .i64 6))).heap.size ((W.setCell ⟨w4.heap.size, 2, none⟩ (.int .i64 6))) w'):=HBy
 have hld:=HS.out.load
 clear HBy
 go_wp2_with fail
 refine HBz.out.mono ?_
 rintro r w6 ⟨rfl, hk6⟩
 have HS6:=Lib.hid (HS.out.past hk6)
 have HC6:=Lib.hid (HW5.out.past hk6)
 have Hb9:=Lib.hid (HV.out.trans (hk6.mono HV.out.size))
 have hld6:=HS6.out.load
 have hI6:=Is_any (spoil c 1) _ w6 (spoil_sm HW.out 1) HS6.out.2
 rw [spoil_no] at hI6
 have HI6:=Lib.hid hI6
 clear hld hI6 HBz hst
 go_wp2_with fail
 refine HI6.out.mono ?_
 rintro r w7 ⟨rfl, hk7⟩
 have HS7:=Lib.hid (HS6.out.past hk7)
 have HC7:=Lib.hid (HC6.out.past hk7)
 have Hb10:=Lib.hid (Hb9.out.trans (hk7.mono Hb9.out.size))
 have hld7:=HS7.out.load
 have hld8:=HC7.out.load
 have hE:=Same_any c (spoil c 1) _ _ w7 HC7.out.2 HS7.out.2
 rw [spoil_other HG1.out] at hE
 have HE:=Lib.hid hE
 clear hld6 hE
 go_wp2_with fail
 refine HE.out.mono ?_
 rintro r w8 ⟨rfl, hk8⟩
 go_wp2_with fail
 go_ret
 exact ⟨rfl, Hb10.out.trans (hk8.mono Hb10.out.size)⟩
end Go.Proofs.YtbdpkfgllnbheaaGreatDoor.Ch
namespace Go.Proofs.YtbdpkfgllnbheaaGreatDoor.Ch
open Go.RowKit
attribute [local go_sem ↓] loadAtG storeAtG
set_option maxHeartbeats 4000000 in
theorem spoils_4 (w : World) (c : Cg) (cs : Array Value) (ha : GAt w (· < w.heap.size) c cs) (n : Nat) (hn : n < 256) (hk : (n : Int) % 7 = 4) (hG : Cs.Glob w) : Calls Tryz.prog 6 #[.agg cs, .int .u8 n] w (Flag w true):=by
 have hB:=Box.new ha
 have HB:=Lib.hid hB
 have Hb0:=Lib.hid ((Below.refl w.heap.size w).alloc (Nat.le_refl _) (.cells cs 28))
 have HG:=Lib.hid hG
 have HF:=Lib.hid (few_any c cs)
 have HI:=Lib.hid (Is_any c cs)
 have HC:=Lib.hid (Copy_any c cs)
 obtain ⟨b1, hb1⟩ : ∃ b, isG c = b:=⟨_, rfl⟩
 have HG1:=Lib.hid hb1
 rw [hb1] at HI
 clear hG ha hB hb1
 go_enter Tryz.func6, Tryz.ntmps6
 go_wp2_with fail
 refine (known_any _ (HG.out.past Hb0.out)).mono ?_
 rintro r w1 ⟨rfl, hk1⟩
 have HB1:=Lib.hid (HB.out.past hk1)
 have Hb2:=Lib.hid (Hb0.out.trans (hk1.mono Hb0.out.size))
 have hld:=HB1.out.load
 clear HB Hb0 hk1
 go_wp2_with fail
 refine (HF.out _ HB1.out.2).mono ?_
 rintro r w2 ⟨f1, rfl, hf, hk2⟩
 have HB2:=Lib.hid (HB1.out.past hk2)
 have Hb4:=Lib.hid (Hb2.out.trans (hk2.mono Hb2.out.size))
 have HFW:=Lib.hid hf
 clear HB1 Hb2 hk2 hf hld
 cases f1
 focus
  go_wp2_with fail
  go_ret
  exact ⟨rfl, Hb4.out⟩
 have HW:=Lib.hid (HFW.out (by simp))
 have hld:=HB2.out.load
 clear HFW HF
 go_wp2_with fail
 refine (HI.out _ (fw_smA HW.out) HB2.out.2).mono ?_
 rintro r w3 ⟨rfl, hk3⟩
 have HB3:=Lib.hid (HB2.out.past hk3)
 have Hb6:=Lib.hid (Hb4.out.trans (hk3.mono Hb4.out.size))
 clear HB2 Hb4 hk3 hld
 cases b1
 focus
  go_wp2_with fail
  go_ret
  exact ⟨rfl, Hb6.out⟩
 have hld:=HB3.out.load
 clear HI
 go_wp2_with fail
 refine (HC.out _ (fw_smG HW.out) HB3.out.2).mono ?_
 rintro r w4 ⟨c5, rfl, hk4, hO⟩
 have hg5 : GAt w4 (· < w4.heap.size) c c5:=hO.at.imp (fun _ h=>h.2) (fun _ _=>rfl)
 obtain ⟨W, hst, hbW, hB5⟩:=box_store hg5
 have hkW:=hk4.trans (hbW.mono hk4.size)
 have HB5:=Lib.hid (HB3.out.past hkW)
 have Hb8:=Lib.hid (Hb6.out.trans (hkW.mono Hb6.out.size))
 have hlt : w.heap.size < w4.heap.size:=by have h1:=HB3.out.1.lt; have:=hk4.size; omega
 have hO5 : GOwn W w3.heap.size c c5:=hO.past hbW
 obtain ⟨R, M, xs, rfl, hR, hM, l1, l2⟩:=hO5
 obtain ⟨RA, rc, rfl, _, _⟩:=hR.rdn
 obtain ⟨MA, mc, ds, rfl, _, _⟩:=hM.shut
 have hsW:=hkW.size
 have hmx : c.mods.length ≤ 14:=HW.out.1.1
 have hrx : c.rdn.length ≤ 6:=HW.out.2.1
 have hnx : w3.heap.size ≤ w4.heap.size:=hk4.size
 have c12:=hB5.1.cell 12
 have HM2:=Lib.hid ((hM.alloc (.cells #[.string ⟨#[120]⟩] 9)).alloc (.cells #[.int .i64 1, .string ⟨#[101, 110, 116, 114, 121, 105, 100]⟩, .slice (some ⟨W.heap.size, 0, none⟩) 1 1] 44))
 have HR2:=Lib.hid ((hR.alloc (.cells #[.string ⟨#[120]⟩] 9)).alloc (.cells #[.int .i64 1, .string ⟨#[101, 110, 116, 114, 121, 105, 100]⟩, .slice (some ⟨W.heap.size, 0, none⟩) 1 1] 44))
 have HB2:=Lib.hid (new2 W #[.string ⟨#[120]⟩] #[.int .i64 1, .string ⟨#[101, 110, 116, 114, 121, 105, 100]⟩, .slice (some ⟨W.heap.size, 0, none⟩) 1 1] 9 44)
 have HX2:=Lib.hid ((hB5.1.alloc (.cells #[.string ⟨#[120]⟩] 9)).alloc (.cells #[.int .i64 1, .string ⟨#[101, 110, 116, 114, 121, 105, 100]⟩, .slice (some ⟨W.heap.size, 0, none⟩) 1 1] 44))
 have HkX:=Lib.hid ((hkW.alloc hsW (.cells #[.string ⟨#[120]⟩] 9)).alloc (by simp; omega) (.cells #[.int .i64 1, .string ⟨#[101, 110, 116, 114, 121, 105, 100]⟩, .slice (some ⟨W.heap.size, 0, none⟩) 1 1] 44))
 have HL2 : Hid (MoOwn ((W.alloc (.cells #[.string ⟨#[120]⟩] 9)).alloc (.cells #[.int .i64 1, .string ⟨#[101, 110, 116, 114, 121, 105, 100]⟩, .slice (some ⟨W.heap.size, 0, none⟩) 1 1] 44)) w3.heap.size ⟨1, entryid, [exx]⟩ [.int .i64 1, .string ⟨#[101, 110, 116, 114, 121, 105, 100]⟩, .slice (some ⟨W.heap.size, 0, none⟩) 1 1]) :=
  ⟨_, rfl, ownS_one ((Blk.new W _ _).alloc _) hsW, by show (⟨#[101, 110, 116, 114, 121, 105, 100]⟩ : ByteArray).size ≤ _; decide, by unfold maxLen; simp, fun s hs=>by rw [List.mem_singleton.1 hs]; decide⟩
 have hdl : c.mods.length < 1000000:=by omega
 have hz2 : w3.heap.size ≤ ((W.alloc (.cells #[.string ⟨#[120]⟩] 9)).alloc (.cells #[.int .i64 1, .string ⟨#[101, 110, 116, 114, 121, 105, 100]⟩, .slice (some ⟨W.heap.size, 0, none⟩) 1 1] 44)).heap.size:=by simp; omega
 clear hO hR hM hbW hkW HB5 Hb8 hk4 hB5 HC hg5
 go_wp2_with (at_builtin; go_loud (refine wpList_pushM2 rfl _ _ rfl w3.heap.size _ _ _ rfl HM2.out (W.heap.size + 1) rfl HB2.out HL2.out hdl hz2 ?_))
 intro v5 w5 hG5 hgr hb5
 have hX5 : Blk w5 w4.heap.size 28 (gcs c RA rc MA mc):=HX2.out.grown hgr (own_ne HM2.out.1 HX2.out (by decide))
 have hR5 : OwnA w5 w3.heap.size (.slice RA c.rdn.length rc) c.rdn:=own_grown HR2.out hgr (own_two HR2.out HM2.out.1 (by decide))
 have hk5:=HkX.out.trans hb5
 obtain ⟨A2, c2, ds2, e9, _, _⟩:=hG5.shut
 rw [List.length_append, List.length_singleton] at e9
 subst e9
 have f5:=hX5.frozen 12
 have c5:=hX5.cell 12
 have hG6:=hG5.box hX5 12 (.slice A2 (c.mods.length + 1) c2)
 have hR6:=own_box hR5 hX5 (by decide) 12 (.slice A2 (c.mods.length + 1) c2)
 have hO6 : GOwn (w5.setCell ⟨w4.heap.size, 12, none⟩ (.slice A2 (c.mods.length + 1) c2)) w3.heap.size (spoil c 4) #[.int .i64 c.csn.t, .int .i64 c.csn.s, .int .i64 c.csn.r, .int .i64 c.kind, .int .i64 c.id.t, .int .i64 c.id.s, .int .i64 c.id.r, .int .i64 c.par.t, .int .i64 c.par.s, .int .i64 c.par.r, .slice RA c.rdn.length rc, .bool c.del, .slice A2 (c.mods.length + 1) c2]:=⟨_, _, _, rfl, hR6, hG6, l1, by show (c.mods ++ [_]).length ≤ _; rw [List.length_append]; unfold maxLen; simp; omega⟩
 have hS : Box (w5.setCell ⟨w4.heap.size, 12, none⟩ (.slice A2 (c.mods.length + 1) c2)) w4.heap.size (spoil c 4) #[.int .i64 c.csn.t, .int .i64 c.csn.s, .int .i64 c.csn.r, .int .i64 c.kind, .int .i64 c.id.t, .int .i64 c.id.s, .int .i64 c.id.r, .int .i64 c.par.t, .int .i64 c.par.s, .int .i64 c.par.r, .slice RA c.rdn.length rc, .bool c.del, .slice A2 (c.mods.length + 1) c2]:=⟨hX5.set_ 12 _, hO6.at.imp (fun _ h=>h.2) (fun _ _=>rfl)⟩
 have hk9:=hk5.setCell (p:=⟨w4.heap.size, 12, none⟩) hnx (.slice A2 (c.mods.length + 1) c2)
 have hW1 : Box (w5.setCell ⟨w4.heap.size, 12, none⟩ (.slice A2 (c.mods.length + 1) c2)) w.heap.size c cs:=HB3.out.past hk9
 have hV : Below w.heap.size w (w5.setCell ⟨w4.heap.size, 12, none⟩ (.slice A2 (c.mods.length + 1) c2)):=Hb6.out.trans (hk9.mono Hb6.out.size)
 clear hO6 hG5 hR5 hG6 hR6 hX5 hgr hb5 hk5 HB2 HX2 HkX HM2 HR2 HL2 HB3 Hb6 hk9 c12 hdl hz2
 have HW5:=Lib.hid hW1
 have HS:=Lib.hid hS
 have HV:=Lib.hid hV
 have HGV:=Lib.hid (HG.out.past HV.out)
 have HBy:=Lib.hid (Bytes_any (spoil c 4) _ _ HGV.out (spoil_sm HW.out 4) HS.out.2)
 rw [spoil_wr] at HBy
 have HBz : Hid (Calls Tryz.prog 9 #[.agg #[.int .i64 c.csn.t, .int .i64 c.csn.s, .int .i64 c.csn.r, .int .i64 c.kind, .int .i64 c.id.t, .int .i64 c.id.s, .int .i64 c.id.r, .int .i64 c.par.t, .int .i64 c.par.s, .int .i64 c.par.r, .slice RA c.rdn.length rc, .bool c.del, .slice A2 (c.mods.length + 1) c2]] (w5.setCell ⟨w4.heap.size, 12, none⟩ (.slice A2 (c.mods.length + 1) c2)) fun r w'=>r = .returned (.tuple #[.string ⟨#[]⟩, .int .i64 14]) ∧ Below ((w5.setCell ⟨w4.heap.size, 12, none⟩ (.slice A2 (c.mods.length + 1) c2))).heap.size ((w5.setCell ⟨w4.heap.size, 12, none⟩ (.slice A2 (c.mods.length + 1) c2))) w'):=HBy
 have hld:=HS.out.load
 clear HBy
 go_wp2_with fail
 refine HBz.out.mono ?_
 rintro r w6 ⟨rfl, hk6⟩
 have HS6:=Lib.hid (HS.out.past hk6)
 have HC6:=Lib.hid (HW5.out.past hk6)
 have Hb9:=Lib.hid (HV.out.trans (hk6.mono HV.out.size))
 have hld6:=HS6.out.load
 have hI6:=Is_any (spoil c 4) _ w6 (spoil_sm HW.out 4) HS6.out.2
 rw [spoil_no] at hI6
 have HI6:=Lib.hid hI6
 clear hld hI6 HBz hst
 go_wp2_with fail
 refine HI6.out.mono ?_
 rintro r w7 ⟨rfl, hk7⟩
 have HS7:=Lib.hid (HS6.out.past hk7)
 have HC7:=Lib.hid (HC6.out.past hk7)
 have Hb10:=Lib.hid (Hb9.out.trans (hk7.mono Hb9.out.size))
 have hld7:=HS7.out.load
 have hld8:=HC7.out.load
 have hE:=Same_any c (spoil c 4) _ _ w7 HC7.out.2 HS7.out.2
 rw [spoil_other HG1.out] at hE
 have HE:=Lib.hid hE
 clear hld6 hE
 go_wp2_with fail
 refine HE.out.mono ?_
 rintro r w8 ⟨rfl, hk8⟩
 go_wp2_with fail
 go_ret
 exact ⟨rfl, Hb10.out.trans (hk8.mono Hb10.out.size)⟩
end Go.Proofs.YtbdpkfgllnbheaaGreatDoor.Ch
