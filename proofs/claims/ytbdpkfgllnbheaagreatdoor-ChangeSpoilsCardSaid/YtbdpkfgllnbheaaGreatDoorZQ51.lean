import Derived.Test.YtbdpkfgllnbheaaGreatDoorZQ50
set_option linter.unusedVariables false
set_option maxRecDepth 100000
namespace Go.Proofs.YtbdpkfgllnbheaaGreatDoor.Ch
open Go.RowKit
attribute [local go_sem ↓] loadAtG storeAtG
set_option maxHeartbeats 4000000 in
theorem spoils_3 (w : World) (c : Cg) (cs : Array Value) (ha : GAt w (· < w.heap.size) c cs) (n : Nat) (hn : n < 256) (hk : (n : Int) % 7 = 3) (hG : Cs.Glob w) : Calls Tryz.prog 6 #[.agg cs, .int .u8 n] w (Flag w true):=by
 have hB:=Box.new ha
 have HB:=Lib.hid hB
 have Hb0:=Lib.hid ((Below.refl w.heap.size w).alloc (Nat.le_refl _) (.cells cs 28))
 have HG:=Lib.hid hG
 have HF:=Lib.hid (few_any c cs)
 have HI:=Lib.hid (Is_any c cs)
 have HC:=Lib.hid (Copy_any c cs)
 obtain ⟨b1, hb1⟩ : ∃ b, isG c = b:=⟨_, rfl⟩
 have HG1:=Lib.hid hb1
 rw [hb1] at HI
 clear hG ha hB hb1
 go_enter Tryz.func6, Tryz.ntmps6
 go_wp2_with fail
 refine (known_any _ (HG.out.past Hb0.out)).mono ?_
 rintro r w1 ⟨rfl, hk1⟩
 have HB1:=Lib.hid (HB.out.past hk1)
 have Hb2:=Lib.hid (Hb0.out.trans (hk1.mono Hb0.out.size))
 have hld:=HB1.out.load
 clear HB Hb0 hk1
 go_wp2_with fail
 refine (HF.out _ HB1.out.2).mono ?_
 rintro r w2 ⟨f1, rfl, hf, hk2⟩
 have HB2:=Lib.hid (HB1.out.past hk2)
 have Hb4:=Lib.hid (Hb2.out.trans (hk2.mono Hb2.out.size))
 have HFW:=Lib.hid hf
 clear HB1 Hb2 hk2 hf hld
 cases f1
 focus
  go_wp2_with fail
  go_ret
  exact ⟨rfl, Hb4.out⟩
 have HW:=Lib.hid (HFW.out (by simp))
 have hld:=HB2.out.load
 clear HFW HF
 go_wp2_with fail
 refine (HI.out _ (fw_smA HW.out) HB2.out.2).mono ?_
 rintro r w3 ⟨rfl, hk3⟩
 have HB3:=Lib.hid (HB2.out.past hk3)
 have Hb6:=Lib.hid (Hb4.out.trans (hk3.mono Hb4.out.size))
 clear HB2 Hb4 hk3 hld
 cases b1
 focus
  go_wp2_with fail
  go_ret
  exact ⟨rfl, Hb6.out⟩
 have hld:=HB3.out.load
 clear HI
 go_wp2_with fail
 refine (HC.out _ (fw_smG HW.out) HB3.out.2).mono ?_
 rintro r w4 ⟨c5, rfl, hk4, hO⟩
 have hg5 : GAt w4 (· < w4.heap.size) c c5:=hO.at.imp (fun _ h=>h.2) (fun _ _=>rfl)
 obtain ⟨W, hst, hbW, hB5⟩:=box_store hg5
 have hkW:=hk4.trans (hbW.mono hk4.size)
 have HB5:=Lib.hid (HB3.out.past hkW)
 have Hb8:=Lib.hid (Hb6.out.trans (hkW.mono Hb6.out.size))
 have hlt : w.heap.size < w4.heap.size:=by have h1:=HB3.out.1.lt; have:=hk4.size; omega
 have hO5 : GOwn W w3.heap.size c c5:=hO.past hbW
 obtain ⟨R, M, xs, rfl, hR, hM, l1, l2⟩:=hO5
 obtain ⟨RA, rc, rfl, _, _⟩:=hR.rdn
 obtain ⟨MA, mc, ds, rfl, _, _⟩:=hM.shut
 have hsW:=hkW.size
 have hmx : c.mods.length ≤ 14:=HW.out.1.1
 have hrx : c.rdn.length ≤ 6:=HW.out.2.1
 have hnx : w3.heap.size ≤ w4.heap.size:=hk4.size
 have c12:=hB5.1.cell 12
 have HM2:=Lib.hid ((hM.alloc (.cells #[.string ⟨#[120]⟩] 9)).alloc (.cells #[.int .i64 1, .string ⟨#[110, 111, 115, 117, 99, 104]⟩, .slice (some ⟨W.heap.size, 0, none⟩) 1 1] 44))
 have HR2:=Lib.hid ((hR.alloc (.cells #[.string ⟨#[120]⟩] 9)).alloc (.cells #[.int .i64 1, .string ⟨#[110, 111, 115, 117, 99, 104]⟩, .slice (some ⟨W.heap.size, 0, none⟩) 1 1] 44))
 have HB2:=Lib.hid (new2 W #[.string ⟨#[120]⟩] #[.int .i64 1, .string ⟨#[110, 111, 115, 117, 99, 104]⟩, .slice (some ⟨W.heap.size, 0, none⟩) 1 1] 9 44)
 have HX2:=Lib.hid ((hB5.1.alloc (.cells #[.string ⟨#[120]⟩] 9)).alloc (.cells #[.int .i64 1, .string ⟨#[110, 111, 115, 117, 99, 104]⟩, .slice (some ⟨W.heap.size, 0, none⟩) 1 1] 44))
 have HkX:=Lib.hid ((hkW.alloc hsW (.cells #[.string ⟨#[120]⟩] 9)).alloc (by simp; omega) (.cells #[.int .i64 1, .string ⟨#[110, 111, 115, 117, 99, 104]⟩, .slice (some ⟨W.heap.size, 0, none⟩) 1 1] 44))
 have HL2 : Hid (MoOwn ((W.alloc (.cells #[.string ⟨#[120]⟩] 9)).alloc (.cells #[.int .i64 1, .string ⟨#[110, 111, 115, 117, 99, 104]⟩, .slice (some ⟨W.heap.size, 0, none⟩) 1 1] 44)) w3.heap.size ⟨1, nosuch, [exx]⟩ [.int .i64 1, .string ⟨#[110, 111, 115, 117, 99, 104]⟩, .slice (some ⟨W.heap.size, 0, none⟩) 1 1]) :=
  ⟨_, rfl, ownS_one ((Blk.new W _ _).alloc _) hsW, by show (⟨#[110, 111, 115, 117, 99, 104]⟩ : ByteArray).size ≤ _; decide, by unfold maxLen; simp, fun s hs=>by rw [List.mem_singleton.1 hs]; decide⟩
 have hdl : c.mods.length < 1000000:=by omega
 have hz2 : w3.heap.size ≤ ((W.alloc (.cells #[.string ⟨#[120]⟩] 9)).alloc (.cells #[.int .i64 1, .string ⟨#[110, 111, 115, 117, 99, 104]⟩, .slice (some ⟨W.heap.size, 0, none⟩) 1 1] 44)).heap.size:=by simp; omega
 clear hO hR hM hbW hkW HB5 Hb8 hk4 hB5 HC hg5
 go_wp2_with (at_builtin; go_loud (refine wpList_pushM2 rfl _ _ rfl w3.heap.size _ _ _ rfl HM2.out (W.heap.size + 1) rfl HB2.out HL2.out hdl hz2 ?_))
 intro v5 w5 hG5 hgr hb5
 have hX5 : Blk w5 w4.heap.size 28 (gcs c RA rc MA mc):=HX2.out.grown hgr (own_ne HM2.out.1 HX2.out (by decide))
 have hR5 : OwnA w5 w3.heap.size (.slice RA c.rdn.length rc) c.rdn:=own_grown HR2.out hgr (own_two HR2.out HM2.out.1 (by decide))
 have hk5:=HkX.out.trans hb5
 obtain ⟨A2, c2, ds2, e9, _, _⟩:=hG5.shut
 rw [List.length_append, List.length_singleton] at e9
 subst e9
 have f5:=hX5.frozen 12
 have c5:=hX5.cell 12
 have hG6:=hG5.box hX5 12 (.slice A2 (c.mods.length + 1) c2)
 have hR6:=own_box hR5 hX5 (by decide) 12 (.slice A2 (c.mods.length + 1) c2)
 have hO6 : GOwn (w5.setCell ⟨w4.heap.size, 12, none⟩ (.slice A2 (c.mods.length + 1) c2)) w3.heap.size (spoil c 3) #[.int .i64 c.csn.t, .int .i64 c.csn.s, .int .i64 c.csn.r, .int .i64 c.kind, .int .i64 c.id.t, .int .i64 c.id.s, .int .i64 c.id.r, .int .i64 c.par.t, .int .i64 c.par.s, .int .i64 c.par.r, .slice RA c.rdn.length rc, .bool c.del, .slice A2 (c.mods.length + 1) c2]:=⟨_, _, _, rfl, hR6, hG6, l1, by show (c.mods ++ [_]).length ≤ _; rw [List.length_append]; unfold maxLen; simp; omega⟩
 have hS : Box (w5.setCell ⟨w4.heap.size, 12, none⟩ (.slice A2 (c.mods.length + 1) c2)) w4.heap.size (spoil c 3) #[.int .i64 c.csn.t, .int .i64 c.csn.s, .int .i64 c.csn.r, .int .i64 c.kind, .int .i64 c.id.t, .int .i64 c.id.s, .int .i64 c.id.r, .int .i64 c.par.t, .int .i64 c.par.s, .int .i64 c.par.r, .slice RA c.rdn.length rc, .bool c.del, .slice A2 (c.mods.length + 1) c2]:=⟨hX5.set_ 12 _, hO6.at.imp (fun _ h=>h.2) (fun _ _=>rfl)⟩
 have hk9:=hk5.setCell (p:=⟨w4.heap.size, 12, none⟩) hnx (.slice A2 (c.mods.length + 1) c2)
 have hW1 : Box (w5.setCell ⟨w4.heap.size, 12, none⟩ (.slice A2 (c.mods.length + 1) c2)) w.heap.size c cs:=HB3.out.past hk9
 have hV : Below w.heap.size w (w5.setCell ⟨w4.heap.size, 12, none⟩ (.slice A2 (c.mods.length + 1) c2)):=Hb6.out.trans (hk9.mono Hb6.out.size)
 clear hO6 hG5 hR5 hG6 hR6 hX5 hgr hb5 hk5 HB2 HX2 HkX HM2 HR2 HL2 HB3 Hb6 hk9 c12 hdl hz2
 have HW5:=Lib.hid hW1
 have HS:=Lib.hid hS
 have HV:=Lib.hid hV
 have HGV:=Lib.hid (HG.out.past HV.out)
 have HBy:=Lib.hid (Bytes_any (spoil c 3) _ _ HGV.out (spoil_sm HW.out 3) HS.out.2)
 rw [spoil_wr] at HBy
 have HBz : Hid (Calls Tryz.prog 9 #[.agg #[.int .i64 c.csn.t, .int .i64 c.csn.s, .int .i64 c.csn.r, .int .i64 c.kind, .int .i64 c.id.t, .int .i64 c.id.s, .int .i64 c.id.r, .int .i64 c.par.t, .int .i64 c.par.s, .int .i64 c.par.r, .slice RA c.rdn.length rc, .bool c.del, .slice A2 (c.mods.length + 1) c2]] (w5.setCell ⟨w4.heap.size, 12, none⟩ (.slice A2 (c.mods.length + 1) c2)) fun r w'=>r = .returned (.tuple #[.string ⟨#[]⟩, .int .i64 14]) ∧ Below ((w5.setCell ⟨w4.heap.size, 12, none⟩ (.slice A2 (c.mods.length + 1) c2))).heap.size ((w5.setCell ⟨w4.heap.size, 12, none⟩ (.slice A2 (c.mods.length + 1) c2))) w'):=HBy
 have hld:=HS.out.load
 clear HBy
 go_wp2_with fail
 refine HBz.out.mono ?_
 rintro r w6 ⟨rfl, hk6⟩
 have HS6:=Lib.hid (HS.out.past hk6)
 have HC6:=Lib.hid (HW5.out.past hk6)
 have Hb9:=Lib.hid (HV.out.trans (hk6.mono HV.out.size))
 have hld6:=HS6.out.load
 have hI6:=Is_any (spoil c 3) _ w6 (spoil_sm HW.out 3) HS6.out.2
 rw [spoil_no] at hI6
 have HI6:=Lib.hid hI6
 clear hld hI6 HBz hst
 go_wp2_with fail
 refine HI6.out.mono ?_
 rintro r w7 ⟨rfl, hk7⟩
 have HS7:=Lib.hid (HS6.out.past hk7)
 have HC7:=Lib.hid (HC6.out.past hk7)
 have Hb10:=Lib.hid (Hb9.out.trans (hk7.mono Hb9.out.size))
 have hld7:=HS7.out.load
 have hld8:=HC7.out.load
 have hE:=Same_any c (spoil c 3) _ _ w7 HC7.out.2 HS7.out.2
 rw [spoil_other HG1.out] at hE
 have HE:=Lib.hid hE
 clear hld6 hE
 go_wp2_with fail
 refine HE.out.mono ?_
 rintro r w8 ⟨rfl, hk8⟩
 go_wp2_with fail
 go_ret
 exact ⟨rfl, Hb10.out.trans (hk8.mono Hb10.out.size)⟩
end Go.Proofs.YtbdpkfgllnbheaaGreatDoor.Ch
namespace Go.Proofs.YtbdpkfgllnbheaaGreatDoor.Ch
open Go.RowKit
attribute [local go_sem ↓] loadAtG storeAtG
set_option maxHeartbeats 4000000 in
theorem spoils_5 (w : World) (c : Cg) (cs : Array Value) (ha : GAt w (· < w.heap.size) c cs) (n : Nat) (hn : n < 256) (hk : (n : Int) % 7 = 5) (hG : Cs.Glob w) : Calls Tryz.prog 6 #[.agg cs, .int .u8 n] w (Flag w true):=by
 have hB:=Box.new ha
 have HB:=Lib.hid hB
 have Hb0:=Lib.hid ((Below.refl w.heap.size w).alloc (Nat.le_refl _) (.cells cs 28))
 have HG:=Lib.hid hG
 have HF:=Lib.hid (few_any c cs)
 have HI:=Lib.hid (Is_any c cs)
 have HC:=Lib.hid (Copy_any c cs)
 obtain ⟨b1, hb1⟩ : ∃ b, isG c = b:=⟨_, rfl⟩
 have HG1:=Lib.hid hb1
 rw [hb1] at HI
 clear hG ha hB hb1
 go_enter Tryz.func6, Tryz.ntmps6
 go_wp2_with fail
 refine (known_any _ (HG.out.past Hb0.out)).mono ?_
 rintro r w1 ⟨rfl, hk1⟩
 have HB1:=Lib.hid (HB.out.past hk1)
 have Hb2:=Lib.hid (Hb0.out.trans (hk1.mono Hb0.out.size))
 have hld:=HB1.out.load
 clear HB Hb0 hk1
 go_wp2_with fail
 refine (HF.out _ HB1.out.2).mono ?_
 rintro r w2 ⟨f1, rfl, hf, hk2⟩
 have HB2:=Lib.hid (HB1.out.past hk2)
 have Hb4:=Lib.hid (Hb2.out.trans (hk2.mono Hb2.out.size))
 have HFW:=Lib.hid hf
 clear HB1 Hb2 hk2 hf hld
 cases f1
 focus
  go_wp2_with fail
  go_ret
  exact ⟨rfl, Hb4.out⟩
 have HW:=Lib.hid (HFW.out (by simp))
 have hld:=HB2.out.load
 clear HFW HF
 go_wp2_with fail
 refine (HI.out _ (fw_smA HW.out) HB2.out.2).mono ?_
 rintro r w3 ⟨rfl, hk3⟩
 have HB3:=Lib.hid (HB2.out.past hk3)
 have Hb6:=Lib.hid (Hb4.out.trans (hk3.mono Hb4.out.size))
 clear HB2 Hb4 hk3 hld
 cases b1
 focus
  go_wp2_with fail
  go_ret
  exact ⟨rfl, Hb6.out⟩
 have hld:=HB3.out.load
 clear HI
 go_wp2_with fail
 refine (HC.out _ (fw_smG HW.out) HB3.out.2).mono ?_
 rintro r w4 ⟨c5, rfl, hk4, hO⟩
 have hg5 : GAt w4 (· < w4.heap.size) c c5:=hO.at.imp (fun _ h=>h.2) (fun _ _=>rfl)
 obtain ⟨W, hst, hbW, hB5⟩:=box_store hg5
 have hkW:=hk4.trans (hbW.mono hk4.size)
 have HB5:=Lib.hid (HB3.out.past hkW)
 have Hb8:=Lib.hid (Hb6.out.trans (hkW.mono Hb6.out.size))
 have hlt : w.heap.size < w4.heap.size:=by have h1:=HB3.out.1.lt; have:=hk4.size; omega
 have hO5 : GOwn W w3.heap.size c c5:=hO.past hbW
 obtain ⟨R, M, xs, rfl, hR, hM, l1, l2⟩:=hO5
 obtain ⟨RA, rc, rfl, _, _⟩:=hR.rdn
 obtain ⟨MA, mc, ds, rfl, _, _⟩:=hM.shut
 have hsW:=hkW.size
 have hmx : c.mods.length ≤ 14:=HW.out.1.1
 have hrx : c.rdn.length ≤ 6:=HW.out.2.1
 have hnx : w3.heap.size ≤ w4.heap.size:=hk4.size
 have c12:=hB5.1.cell 10
 have HM2:=Lib.hid (hM.alloc (.cells #[.string ⟨#[101, 110, 116, 114, 121, 105, 100]⟩, .string ⟨#[120]⟩] 41))
 have HR2:=Lib.hid (hR.alloc (.cells #[.string ⟨#[101, 110, 116, 114, 121, 105, 100]⟩, .string ⟨#[120]⟩] 41))
 have HB2:=Lib.hid (Blk.new W 41 #[.string ⟨#[101, 110, 116, 114, 121, 105, 100]⟩, .string ⟨#[120]⟩])
 have HX2:=Lib.hid (hB5.1.alloc (.cells #[.string ⟨#[101, 110, 116, 114, 121, 105, 100]⟩, .string ⟨#[120]⟩] 41))
 have HkX:=Lib.hid (hkW.alloc hsW (.cells #[.string ⟨#[101, 110, 116, 114, 121, 105, 100]⟩, .string ⟨#[120]⟩] 41))
 have hdl : c.rdn.length ≤ 1099511627776:=by omega
 have hz2 : w3.heap.size ≤ (W.alloc (.cells #[.string ⟨#[101, 110, 116, 114, 121, 105, 100]⟩, .string ⟨#[120]⟩] 41)).heap.size:=by simp; omega
 clear hO hR hM hbW hkW HB5 Hb8 hk4 hB5 HC hg5
 go_wp2_with (at_builtin; go_loud (refine wpList_pushV2 rfl _ _ rfl w3.heap.size _ _ rfl HR2.out W.heap.size ⟨#[101, 110, 116, 114, 121, 105, 100]⟩ ⟨#[120]⟩ rfl HB2.out hdl hz2 ?_))
 intro v5 w5 hR5 hgr hb5
 have hX5 : Blk w5 w4.heap.size 28 (gcs c RA rc MA mc):=HX2.out.grown hgr (own_ne HR2.out HX2.out (by decide))
 have hG5:=HM2.out.grownA HR2.out hgr
 have hk5:=HkX.out.trans hb5
 obtain ⟨A2, c2, e9, _, _⟩:=hR5.rdn
 rw [List.length_append, List.length_singleton] at e9
 subst e9
 have f5:=hX5.frozen 10
 have c5:=hX5.cell 10
 have hG6:=hG5.box hX5 10 (.slice A2 (c.rdn.length + 1) c2)
 have hR6:=own_box hR5 hX5 (by decide) 10 (.slice A2 (c.rdn.length + 1) c2)
 have hO6 : GOwn (w5.setCell ⟨w4.heap.size, 10, none⟩ (.slice A2 (c.rdn.length + 1) c2)) w3.heap.size (spoil c 5) #[.int .i64 c.csn.t, .int .i64 c.csn.s, .int .i64 c.csn.r, .int .i64 c.kind, .int .i64 c.id.t, .int .i64 c.id.s, .int .i64 c.id.r, .int .i64 c.par.t, .int .i64 c.par.s, .int .i64 c.par.r, .slice A2 (c.rdn.length + 1) c2, .bool c.del, .slice MA c.mods.length mc]:=⟨_, _, _, rfl, hR6, hG6, by show (c.rdn ++ [_]).length ≤ _; rw [List.length_append]; unfold maxLen; simp; omega, l2⟩
 have hS : Box (w5.setCell ⟨w4.heap.size, 10, none⟩ (.slice A2 (c.rdn.length + 1) c2)) w4.heap.size (spoil c 5) #[.int .i64 c.csn.t, .int .i64 c.csn.s, .int .i64 c.csn.r, .int .i64 c.kind, .int .i64 c.id.t, .int .i64 c.id.s, .int .i64 c.id.r, .int .i64 c.par.t, .int .i64 c.par.s, .int .i64 c.par.r, .slice A2 (c.rdn.length + 1) c2, .bool c.del, .slice MA c.mods.length mc]:=⟨hX5.set_ 10 _, hO6.at.imp (fun _ h=>h.2) (fun _ _=>rfl)⟩
 have hk9:=hk5.setCell (p:=⟨w4.heap.size, 10, none⟩) hnx (.slice A2 (c.rdn.length + 1) c2)
 have hW1 : Box (w5.setCell ⟨w4.heap.size, 10, none⟩ (.slice A2 (c.rdn.length + 1) c2)) w.heap.size c cs:=HB3.out.past hk9
 have hV : Below w.heap.size w (w5.setCell ⟨w4.heap.size, 10, none⟩ (.slice A2 (c.rdn.length + 1) c2)):=Hb6.out.trans (hk9.mono Hb6.out.size)
 clear hO6 hG5 hR5 hG6 hR6 hX5 hgr hb5 hk5 HB2 HX2 HkX HM2 HR2 HB3 Hb6 hk9 c12 hdl hz2
 have HW5:=Lib.hid hW1
 have HS:=Lib.hid hS
 have HV:=Lib.hid hV
 have HGV:=Lib.hid (HG.out.past HV.out)
 have HBy:=Lib.hid (Bytes_any (spoil c 5) _ _ HGV.out (spoil_sm HW.out 5) HS.out.2)
 rw [spoil_wr] at HBy
 have HBz : Hid (Calls Tryz.prog 9 #[.agg #[.int .i64 c.csn.t, .int .i64 c.csn.s, .int .i64 c.csn.r, .int .i64 c.kind, .int .i64 c.id.t, .int .i64 c.id.s, .int .i64 c.id.r, .int .i64 c.par.t, .int .i64 c.par.s, .int .i64 c.par.r, .slice A2 (c.rdn.length + 1) c2, .bool c.del, .slice MA c.mods.length mc]] (w5.setCell ⟨w4.heap.size, 10, none⟩ (.slice A2 (c.rdn.length + 1) c2)) fun r w'=>r = .returned (.tuple #[.string ⟨#[]⟩, .int .i64 14]) ∧ Below ((w5.setCell ⟨w4.heap.size, 10, none⟩ (.slice A2 (c.rdn.length + 1) c2))).heap.size ((w5.setCell ⟨w4.heap.size, 10, none⟩ (.slice A2 (c.rdn.length + 1) c2))) w'):=HBy
 have hld:=HS.out.load
 clear HBy
 go_wp2_with fail
 refine HBz.out.mono ?_
 rintro r w6 ⟨rfl, hk6⟩
 have HS6:=Lib.hid (HS.out.past hk6)
 have HC6:=Lib.hid (HW5.out.past hk6)
 have Hb9:=Lib.hid (HV.out.trans (hk6.mono HV.out.size))
 have hld6:=HS6.out.load
 have hI6:=Is_any (spoil c 5) _ w6 (spoil_sm HW.out 5) HS6.out.2
 rw [spoil_no] at hI6
 have HI6:=Lib.hid hI6
 clear hld hI6 HBz hst
 go_wp2_with fail
 refine HI6.out.mono ?_
 rintro r w7 ⟨rfl, hk7⟩
 have HS7:=Lib.hid (HS6.out.past hk7)
 have HC7:=Lib.hid (HC6.out.past hk7)
 have Hb10:=Lib.hid (Hb9.out.trans (hk7.mono Hb9.out.size))
 have hld7:=HS7.out.load
 have hld8:=HC7.out.load
 have hE:=Same_any c (spoil c 5) _ _ w7 HC7.out.2 HS7.out.2
 rw [spoil_other HG1.out] at hE
 have HE:=Lib.hid hE
 clear hld6 hE
 go_wp2_with fail
 refine HE.out.mono ?_
 rintro r w8 ⟨rfl, hk8⟩
 go_wp2_with fail
 go_ret
 exact ⟨rfl, Hb10.out.trans (hk8.mono Hb10.out.size)⟩
end Go.Proofs.YtbdpkfgllnbheaaGreatDoor.Ch
namespace Go.Proofs.YtbdpkfgllnbheaaGreatDoor.Ch
open Go.RowKit
attribute [local go_sem ↓] loadAtG storeAtG
set_option maxHeartbeats 4000000 in
theorem spoils_2 (w : World) (c : Cg) (cs : Array Value) (ha : GAt w (· < w.heap.size) c cs) (n : Nat) (hn : n < 256) (hk : (n : Int) % 7 = 2) (hG : Cs.Glob w) : Calls Tryz.prog 6 #[.agg cs, .int .u8 n] w (Flag w true):=by
 have hB:=Box.new ha
 have HB:=Lib.hid hB
 have Hb0:=Lib.hid ((Below.refl w.heap.size w).alloc (Nat.le_refl _) (.cells cs 28))
 have HG:=Lib.hid hG
 have HF:=Lib.hid (few_any c cs)
 have HI:=Lib.hid (Is_any c cs)
 have HC:=Lib.hid (Copy_any c cs)
 obtain ⟨b1, hb1⟩ : ∃ b, isG c = b:=⟨_, rfl⟩
 have HG1:=Lib.hid hb1
 rw [hb1] at HI
 clear hG ha hB hb1
 go_enter Tryz.func6, Tryz.ntmps6
 go_wp2_with fail
 refine (known_any _ (HG.out.past Hb0.out)).mono ?_
 rintro r w1 ⟨rfl, hk1⟩
 have HB1:=Lib.hid (HB.out.past hk1)
 have Hb2:=Lib.hid (Hb0.out.trans (hk1.mono Hb0.out.size))
 have hld:=HB1.out.load
 clear HB Hb0 hk1
 go_wp2_with fail
 refine (HF.out _ HB1.out.2).mono ?_
 rintro r w2 ⟨f1, rfl, hf, hk2⟩
 have HB2:=Lib.hid (HB1.out.past hk2)
 have Hb4:=Lib.hid (Hb2.out.trans (hk2.mono Hb2.out.size))
 have HFW:=Lib.hid hf
 clear HB1 Hb2 hk2 hf hld
 cases f1
 focus
  go_wp2_with fail
  go_ret
  exact ⟨rfl, Hb4.out⟩
 have HW:=Lib.hid (HFW.out (by simp))
 have hld:=HB2.out.load
 clear HFW HF
 go_wp2_with fail
 refine (HI.out _ (fw_smA HW.out) HB2.out.2).mono ?_
 rintro r w3 ⟨rfl, hk3⟩
 have HB3:=Lib.hid (HB2.out.past hk3)
 have Hb6:=Lib.hid (Hb4.out.trans (hk3.mono Hb4.out.size))
 clear HB2 Hb4 hk3 hld
 cases b1
 focus
  go_wp2_with fail
  go_ret
  exact ⟨rfl, Hb6.out⟩
 have hld:=HB3.out.load
 clear HI
 go_wp2_with fail
 refine (HC.out _ (fw_smG HW.out) HB3.out.2).mono ?_
 rintro r w4 ⟨c5, rfl, hk4, hO⟩
 have hg5 : GAt w4 (· < w4.heap.size) c c5:=hO.at.imp (fun _ h=>h.2) (fun _ _=>rfl)
 obtain ⟨W, hst, hbW, hB5⟩:=box_store hg5
 have hkW:=hk4.trans (hbW.mono hk4.size)
 have HB5:=Lib.hid (HB3.out.past hkW)
 have Hb8:=Lib.hid (Hb6.out.trans (hkW.mono Hb6.out.size))
 have hlt : w.heap.size < w4.heap.size:=by have h1:=HB3.out.1.lt; have:=hk4.size; omega
 obtain ⟨R, rc, M, mc, ds, rfl, ⟨hR, hl, hrc⟩, hM, hml, hmc⟩:=hg5
 have f5:=hB5.1.frozen 0
 have c5:=hB5.1.cell 0
 have hb5 : Below w4.heap.size w4 (W.setCell ⟨w4.heap.size, 0, none⟩ (.int .i64 (-1))):=hbW.setCell (p:=⟨w4.heap.size, 0, none⟩) (Nat.le_refl _) _
 have hS : Box (W.setCell ⟨w4.heap.size, 0, none⟩ (.int .i64 (-1))) w4.heap.size (spoil c 2) (gcs (spoil c 2) R rc M mc):=⟨hB5.1.set_ 0 _, R, rc, M, mc, ds, rfl, ⟨hR.past hb5, hl, hrc⟩, hM.past hb5, hml, hmc⟩
 have hk9:=hk4.trans (hb5.mono hk4.size)
 have hW1 : Box (W.setCell ⟨w4.heap.size, 0, none⟩ (.int .i64 (-1))) w.heap.size c cs:=HB3.out.past hk9
 have hV : Below w.heap.size w (W.setCell ⟨w4.heap.size, 0, none⟩ (.int .i64 (-1))):=Hb6.out.trans (hk9.mono Hb6.out.size)
 clear hO hR hM hbW hkW HB5 Hb8 hk4 hb5 hk9 HB3 hB5 Hb6 HC
 have HW5:=Lib.hid hW1
 have HS:=Lib.hid hS
 have HV:=Lib.hid hV
 have HGV:=Lib.hid (HG.out.past HV.out)
 have HBy:=Lib.hid (Bytes_any (spoil c 2) _ _ HGV.out (spoil_sm HW.out 2) HS.out.2)
 rw [spoil_wr] at HBy
 have HBz : Hid (Calls Tryz.prog 9 #[.agg (gcs (spoil c 2) R rc M mc)] (W.setCell ⟨w4.heap.size, 0, none⟩ (.int .i64 (-1))) fun r w'=>r = .returned (.tuple #[.string ⟨#[]⟩, .int .i64 14]) ∧ Below ((W.setCell ⟨w4.heap.size, 0, none⟩ (.int .i64 (-1)))).heap.size ((W.setCell ⟨w4.heap.size, 0, none⟩ (.int .i64 (-1)))) w'):=HBy
 have hld:=HS.out.load
 clear HBy
 go_wp2_with fail
 refine HBz.out.mono ?_
 rintro r w6 ⟨rfl, hk6⟩
 have HS6:=Lib.hid (HS.out.past hk6)
 have HC6:=Lib.hid (HW5.out.past hk6)
 have Hb9:=Lib.hid (HV.out.trans (hk6.mono HV.out.size))
 have hld6:=HS6.out.load
 have hI6:=Is_any (spoil c 2) _ w6 (spoil_sm HW.out 2) HS6.out.2
 rw [spoil_no] at hI6
 have HI6:=Lib.hid hI6
 clear hld hI6 HBz hst
 go_wp2_with fail
 refine HI6.out.mono ?_
 rintro r w7 ⟨rfl, hk7⟩
 have HS7:=Lib.hid (HS6.out.past hk7)
 have HC7:=Lib.hid (HC6.out.past hk7)
 have Hb10:=Lib.hid (Hb9.out.trans (hk7.mono Hb9.out.size))
 have hld7:=HS7.out.load
 have hld8:=HC7.out.load
 have hE:=Same_any c (spoil c 2) _ _ w7 HC7.out.2 HS7.out.2
 rw [spoil_other HG1.out] at hE
 have HE:=Lib.hid hE
 clear hld6 hE
 go_wp2_with fail
 refine HE.out.mono ?_
 rintro r w8 ⟨rfl, hk8⟩
 go_wp2_with fail
 go_ret
 exact ⟨rfl, Hb10.out.trans (hk8.mono Hb10.out.size)⟩
set_option maxHeartbeats 4000000 in
theorem spoils_6 (w : World) (c : Cg) (cs : Array Value) (ha : GAt w (· < w.heap.size) c cs) (n : Nat) (hn : n < 256) (hk : (n : Int) % 7 = 6) (hG : Cs.Glob w) : Calls Tryz.prog 6 #[.agg cs, .int .u8 n] w (Flag w true):=by
 have hB:=Box.new ha
 have HB:=Lib.hid hB
 have Hb0:=Lib.hid ((Below.refl w.heap.size w).alloc (Nat.le_refl _) (.cells cs 28))
 have HG:=Lib.hid hG
 have HF:=Lib.hid (few_any c cs)
 have HI:=Lib.hid (Is_any c cs)
 have HC:=Lib.hid (Copy_any c cs)
 obtain ⟨b1, hb1⟩ : ∃ b, isG c = b:=⟨_, rfl⟩
 have HG1:=Lib.hid hb1
 rw [hb1] at HI
 clear hG ha hB hb1
 go_enter Tryz.func6, Tryz.ntmps6
 go_wp2_with fail
 refine (known_any _ (HG.out.past Hb0.out)).mono ?_
 rintro r w1 ⟨rfl, hk1⟩
 have HB1:=Lib.hid (HB.out.past hk1)
 have Hb2:=Lib.hid (Hb0.out.trans (hk1.mono Hb0.out.size))
 have hld:=HB1.out.load
 clear HB Hb0 hk1
 go_wp2_with fail
 refine (HF.out _ HB1.out.2).mono ?_
 rintro r w2 ⟨f1, rfl, hf, hk2⟩
 have HB2:=Lib.hid (HB1.out.past hk2)
 have Hb4:=Lib.hid (Hb2.out.trans (hk2.mono Hb2.out.size))
 have HFW:=Lib.hid hf
 clear HB1 Hb2 hk2 hf hld
 cases f1
 focus
  go_wp2_with fail
  go_ret
  exact ⟨rfl, Hb4.out⟩
 have HW:=Lib.hid (HFW.out (by simp))
 have hld:=HB2.out.load
 clear HFW HF
 go_wp2_with fail
 refine (HI.out _ (fw_smA HW.out) HB2.out.2).mono ?_
 rintro r w3 ⟨rfl, hk3⟩
 have HB3:=Lib.hid (HB2.out.past hk3)
 have Hb6:=Lib.hid (Hb4.out.trans (hk3.mono Hb4.out.size))
 clear HB2 Hb4 hk3 hld
 cases b1
 focus
  go_wp2_with fail
  go_ret
  exact ⟨rfl, Hb6.out⟩
 have hld:=HB3.out.load
 clear HI
 go_wp2_with fail
 refine (HC.out _ (fw_smG HW.out) HB3.out.2).mono ?_
 rintro r w4 ⟨c5, rfl, hk4, hO⟩
 have hg5 : GAt w4 (· < w4.heap.size) c c5:=hO.at.imp (fun _ h=>h.2) (fun _ _=>rfl)
 obtain ⟨W, hst, hbW, hB5⟩:=box_store hg5
 have hkW:=hk4.trans (hbW.mono hk4.size)
 have HB5:=Lib.hid (HB3.out.past hkW)
 have Hb8:=Lib.hid (Hb6.out.trans (hkW.mono Hb6.out.size))
 have hlt : w.heap.size < w4.heap.size:=by have h1:=HB3.out.1.lt; have:=hk4.size; omega
 obtain ⟨R, rc, M, mc, ds, rfl, ⟨hR, hl, hrc⟩, hM, hml, hmc⟩:=hg5
 have f5:=hB5.1.frozen 8
 have c5:=hB5.1.cell 8
 have hb5 : Below w4.heap.size w4 (W.setCell ⟨w4.heap.size, 8, none⟩ (.int .i64 (-1))):=hbW.setCell (p:=⟨w4.heap.size, 8, none⟩) (Nat.le_refl _) _
 have hS : Box (W.setCell ⟨w4.heap.size, 8, none⟩ (.int .i64 (-1))) w4.heap.size (spoil c 6) (gcs (spoil c 6) R rc M mc):=⟨hB5.1.set_ 8 _, R, rc, M, mc, ds, rfl, ⟨hR.past hb5, hl, hrc⟩, hM.past hb5, hml, hmc⟩
 have hk9:=hk4.trans (hb5.mono hk4.size)
 have hW1 : Box (W.setCell ⟨w4.heap.size, 8, none⟩ (.int .i64 (-1))) w.heap.size c cs:=HB3.out.past hk9
 have hV : Below w.heap.size w (W.setCell ⟨w4.heap.size, 8, none⟩ (.int .i64 (-1))):=Hb6.out.trans (hk9.mono Hb6.out.size)
 clear hO hR hM hbW hkW HB5 Hb8 hk4 hb5 hk9 HB3 hB5 Hb6 HC
 have HW5:=Lib.hid hW1
 have HS:=Lib.hid hS
 have HV:=Lib.hid hV
 have HGV:=Lib.hid (HG.out.past HV.out)
 have HBy:=Lib.hid (Bytes_any (spoil c 6) _ _ HGV.out (spoil_sm HW.out 6) HS.out.2)
 rw [spoil_wr] at HBy
 have HBz : Hid (Calls Tryz.prog 9 #[.agg (gcs (spoil c 6) R rc M mc)] (W.setCell ⟨w4.heap.size, 8, none⟩ (.int .i64 (-1))) fun r w'=>r = .returned (.tuple #[.string ⟨#[]⟩, .int .i64 14]) ∧ Below ((W.setCell ⟨w4.heap.size, 8, none⟩ (.int .i64 (-1)))).heap.size ((W.setCell ⟨w4.heap.size, 8, none⟩ (.int .i64 (-1)))) w'):=HBy
 have hld:=HS.out.load
 clear HBy
 go_wp2_with fail
 refine HBz.out.mono ?_
 rintro r w6 ⟨rfl, hk6⟩
 have HS6:=Lib.hid (HS.out.past hk6)
 have HC6:=Lib.hid (HW5.out.past hk6)
 have Hb9:=Lib.hid (HV.out.trans (hk6.mono HV.out.size))
 have hld6:=HS6.out.load
 have hI6:=Is_any (spoil c 6) _ w6 (spoil_sm HW.out 6) HS6.out.2
 rw [spoil_no] at hI6
 have HI6:=Lib.hid hI6
 clear hld hI6 HBz hst
 go_wp2_with fail
 refine HI6.out.mono ?_
 rintro r w7 ⟨rfl, hk7⟩
 have HS7:=Lib.hid (HS6.out.past hk7)
 have HC7:=Lib.hid (HC6.out.past hk7)
 have Hb10:=Lib.hid (Hb9.out.trans (hk7.mono Hb9.out.size))
 have hld7:=HS7.out.load
 have hld8:=HC7.out.load
 have hE:=Same_any c (spoil c 6) _ _ w7 HC7.out.2 HS7.out.2
 rw [spoil_other HG1.out] at hE
 have HE:=Lib.hid hE
 clear hld6 hE
 go_wp2_with fail
 refine HE.out.mono ?_
 rintro r w8 ⟨rfl, hk8⟩
 go_wp2_with fail
 go_ret
 exact ⟨rfl, Hb10.out.trans (hk8.mono Hb10.out.size)⟩
end Go.Proofs.YtbdpkfgllnbheaaGreatDoor.Ch
namespace Go.Proofs.YtbdpkfgllnbheaaGreatDoor.Ch
open Go.RowKit
theorem walk_ChangeSpoils (w : World) (c : Cg) (cs : Array Value) (hc : GAt w (· < w.heap.size) c cs) (a : Int) (h1 : (Lit.int .u8 a).wf = true) (hG : Cs.Glob w) :
  Calls Tryz.prog 6 #[.agg cs, .int .u8 a] w fun r w'=>r = .returned (.bool true) ∧ Below w.heap.size w w':=by
 have g1 : 0 ≤ a ∧ a ≤ 255:=by simpa [Lit.wf, IntKind.min, IntKind.max, IntKind.signed, IntKind.bits] using h1
 obtain ⟨n, rfl⟩ : ∃ n : Nat, a = n:=⟨a.toNat, by omega⟩
 have hn : n < 256:=by omega
 have hk : (n : Int) % 7 = 0 ∨ (n : Int) % 7 = 1 ∨ (n : Int) % 7 = 2 ∨ (n : Int) % 7 = 3 ∨ (n : Int) % 7 = 4 ∨ (n : Int) % 7 = 5 ∨ (n : Int) % 7 = 6:=by omega
 rcases hk with hk | hk | hk | hk | hk | hk | hk
 ·exact spoils_0 w c cs hc n hn hk hG
 ·exact spoils_1 w c cs hc n hn hk hG
 ·exact spoils_2 w c cs hc n hn hk hG
 ·exact spoils_3 w c cs hc n hn hk hG
 ·exact spoils_4 w c cs hc n hn hk hG
 ·exact spoils_5 w c cs hc n hn hk hG
 ·exact spoils_6 w c cs hc n hn hk hG
end Go.Proofs.YtbdpkfgllnbheaaGreatDoor.Ch
