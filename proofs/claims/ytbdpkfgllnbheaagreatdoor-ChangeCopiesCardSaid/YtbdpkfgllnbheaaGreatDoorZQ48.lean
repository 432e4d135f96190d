import Derived.Test.YtbdpkfgllnbheaaGreatDoorZQ46
import Derived.Test.YtbdpkfgllnbheaaGreatDoorZQ47
set_option linter.unusedVariables false
set_option maxRecDepth 100000
namespace Go.Proofs.YtbdpkfgllnbheaaGreatDoor.Ch
open Go.RowKit
attribute [local go_sem ↓] loadAtG storeAtG
set_option maxHeartbeats 8000000 in
theorem copies_go (w : World) (c : Cg) (cs : Array Value) (ha : GAt w (· < w.heap.size) c cs) (hG : Cs.Glob w) : Calls Tryz.prog 5 #[.agg cs] w (Flag w true):=by
 have hB:=Box.new ha
 have HB:=Lib.hid hB
 have Hb0:=Lib.hid ((Below.refl w.heap.size w).alloc (Nat.le_refl _) (.cells cs 28))
 have HG:=Lib.hid hG
 have HF:=Lib.hid (few_any c cs)
 clear hG ha hB
 go_enter Tryz.func5, Tryz.ntmps5
 go_wp2_with fail
 refine (known_any _ (HG.out.past Hb0.out)).mono ?_
 rintro r w1 ⟨rfl, hk1⟩
 have HB1:=Lib.hid (HB.out.past hk1)
 have Hb2:=Lib.hid (Hb0.out.trans (hk1.mono Hb0.out.size))
 have hld:=HB1.out.load
 clear HB Hb0 hk1
 go_wp2_with fail
 refine (HF.out _ HB1.out.2).mono ?_
 rintro r w2 ⟨f1, rfl, hf, hk2⟩
 have HB2:=Lib.hid (HB1.out.past hk2)
 have Hb4:=Lib.hid (Hb2.out.trans (hk2.mono Hb2.out.size))
 have HFW:=Lib.hid hf
 clear HB1 Hb2 hk2 hf hld
 cases f1
 focus
  go_wp2_with fail
  go_ret
  exact ⟨rfl, Hb4.out⟩
 have HW:=Lib.hid (HFW.out (by simp))
 clear HFW HF
 go_wp2_with fail
 refine wp_region_noPanic ?_
 refine wp_region_held_drew (S:=Below w2.heap.size w2) (by kernel_rfl) (Below.refl w2.heap.size w2).drew (fun hH0=>?_)
 refine reg5 w2 w.heap.size c cs (fw_smG HW.out) (fun W h=>HB2.out.past h) (fun _ _ _ _ h=>h) (fun W ga gb csA lo hi csB hb hBa hBb oa ob la lb hne hA hO=>?_) _ hH0
 refine NoPanic.normal ?_
 obtain ⟨R, rc, M, mc, rfl, ⟨hR, hM⟩, hlo, hhi⟩:=hA
 have hGb : GAt W (fun b=>b < W.heap.size ∧ ¬ (lo ≤ b ∧ b < hi)) c csB:=hO.at.imp (fun b h=>⟨h.2, fun e=>by have:=h.1; omega⟩) (fun _ _=>rfl)
 have HBa:=Lib.hid hBa
 have HBb:=Lib.hid hBb
 have HR:=Lib.hid hR
 have HM:=Lib.hid hM
 have HGb:=Lib.hid hGb
 have Hbb:=Lib.hid hb
 have HOA:=Lib.hid oa
 have HOB:=Lib.hid ob
 have HLO:=Lib.hid hlo
 have hrx : c.rdn.length ≤ 6:=HW.out.2.1
 have hmx : c.mods.length ≤ 14:=HW.out.1.1
 clear hBa hBb hR hM hGb hb oa ob hO hlo hhi la lb hne hH0
 go_wp2_with fail
 go_loopw [5] (fun i wr=>∃ q : Nat, q ≤ c.rdn.length ∧ i = .int .i64 q ∧ Hid (Kpt lo hi W wr)) (fun i wr=>c.rdn.length - (intOf i).toNat)
 case atStart=>exact ⟨0, Nat.zero_le _, rfl, Lib.hid (Kpt.refl _ _ _)⟩
 case round =>
  obtain ⟨q, hq, rfl, hK⟩:=hrel
  have d10 : wr.cell? ⟨ga, 10, none⟩ = some (.slice R c.rdn.length rc):=(hK.out.blk HBa.out HOA.out).cell 10
  by_cases hlt : q < c.rdn.length
  ·obtain ⟨r, cur, rfl, h1, h2, h3, h4⟩:=HR.out (by omega)
   obtain ⟨cur', hB', hs', _⟩:=hK.out.form _ _ _ h3
   obtain ⟨v, hv⟩ : ∃ v, wr.cell? ⟨r, q * 2 + 1, none⟩ = some v:=⟨_, (hB'.cell _).trans (Array.getElem?_eq_getElem (by omega))⟩
   have hfz : wr.frozen? ⟨r, q * 2 + 1, none⟩ = false:=hB'.frozen _
   have hlt2 : (q : Int) < c.rdn.length:=by omega
   have HK2:=Lib.hid (hK.out.set_ h3 h1 h2 (q * 2 + 1) (fun e=>absurd e (by decide)) (.string ⟨#[115, 112, 111, 105, 108, 116]⟩))
   clear hB' hs' h1 h2 h3 h4 hK
   go_wp2_with fail
   exact ⟨⟨q + 1, by omega, by go_num, HK2⟩, by simp [intOf]; omega⟩
  ·have hq2 : q = c.rdn.length:=by omega
   subst hq2
   go_wp2_with fail
   clear d10
   go_loopw [6] (fun i wr=>∃ q : Nat, q ≤ c.mods.length ∧ i = .int .i64 q ∧ Hid (Kpt lo hi W wr)) (fun i wr=>c.mods.length - (intOf i).toNat)
   case atStart=>exact ⟨0, Nat.zero_le _, rfl, hK⟩
   clear hK
   case round =>
    obtain ⟨q, hq3, rfl, hK⟩:=hrel
    have d12 : wr.cell? ⟨ga, 12, none⟩ = some (.slice M c.mods.length mc):=(hK.out.blk HBa.out HOA.out).cell 12
    by_cases hlt3 : q < c.mods.length
    ·obtain ⟨m, cur, rfl, h1, h2, h3, h4, h5⟩:=HM.out (by omega)
     obtain ⟨V, vc, h6, h7⟩:=h5 q hlt3
     have hlt4 : (q : Int) < c.mods.length:=by omega
     have hvx : c.mods[q].vals.length ≤ 20:=(HW.out.1.2 _ (List.getElem_mem hlt3)).2.1
     obtain ⟨n, hn⟩ : ∃ n, n = c.mods[q].vals.length:=⟨_, rfl⟩
     rw [← hn] at h6 h7 hvx
     have Hm:=Lib.hid (And.intro h1 h2)
     have H3:=Lib.hid h3
     have H4:=Lib.hid h4
     have H6:=Lib.hid h6
     have H7:=Lib.hid h7
     clear h1 h2 h3 h4 h5 h6 h7 hn
     go_wp2_with fail
     go_loopw [7] (fun j wx=>∃ p : Nat, p ≤ n ∧ j = .int .i64 p ∧ Hid (Kpt lo hi W wx)) (fun j wx=>n - (intOf j).toNat)
     case atStart=>exact ⟨0, Nat.zero_le _, rfl, hK⟩
     clear hK d12
     case round =>
      obtain ⟨p, hp, rfl, hK⟩:=hrel
      have d12 : wr.cell? ⟨ga, 12, none⟩ = some (.slice (some ⟨m, 0, none⟩) c.mods.length mc):=(hK.out.blk HBa.out HOA.out).cell 12
      obtain ⟨cu1, hB1, hs1, hm1⟩:=hK.out.form _ _ _ H3.out
      have e2 : wr.cell? ⟨m, q * 3 + 2, none⟩ = some (.slice V n vc):=(hB1.cell _).trans ((hm1 rfl q).trans H6.out)
      by_cases hlp : p < n
      ·obtain ⟨g, cu, rfl, k1, k2, k3, k4⟩:=H7.out (by omega)
       obtain ⟨cu2, hB2, hs2, _⟩:=hK.out.form _ _ _ k3
       obtain ⟨v, hv⟩ : ∃ v, wr.cell? ⟨g, p, none⟩ = some v:=⟨_, (hB2.cell _).trans (Array.getElem?_eq_getElem (by omega))⟩
       have hfz : wr.frozen? ⟨g, p, none⟩ = false:=hB2.frozen _
       have hlp2 : (p : Int) < n:=by omega
       have HK2:=Lib.hid (hK.out.set_ k3 k1 k2 p (fun e=>absurd e (by decide)) (.string ⟨#[115, 112, 111, 105, 108, 116]⟩))
       clear hB1 hs1 hm1 hB2 hs2 k1 k2 k3 k4 hK
       go_wp2_with fail
       exact ⟨⟨p + 1, by omega, by go_num, HK2⟩, by simp [intOf]; omega⟩
      ·have hp2 : p = n:=by omega
       subst hp2
       obtain ⟨v, hv⟩ : ∃ v, wr.cell? ⟨m, q * 3 + 1, none⟩ = some v:=⟨_, (hB1.cell _).trans (Array.getElem?_eq_getElem (by have:=H4.out; omega))⟩
       have hfz : wr.frozen? ⟨m, q * 3 + 1, none⟩ = false:=hB1.frozen _
       have HK2:=Lib.hid (hK.out.set_ H3.out Hm.out.1 Hm.out.2 (q * 3 + 1) (fun _ i=>by omega) (.string ⟨#[115, 112, 111, 105, 108, 116]⟩))
       clear hB1 hs1 hm1 hK
       go_wp2_with fail
       exact ⟨⟨q + 1, by omega, by go_num, HK2⟩, by simp [intOf]; omega⟩
    ·have hq4 : q = c.mods.length:=by omega
     subst hq4
     have hbw : Below w2.heap.size w2 wr:=Hbb.out.trans (hK.out.below HLO.out)
     have hX1 : Box wr w.heap.size c cs:=HB2.out.past hbw
     have hX2 : Box wr gb c csB:=⟨hK.out.blk HBb.out HOB.out, (hK.out.gat HGb.out).imp (fun _ h=>h.1) (fun _ _=>rfl)⟩
     have hX3 : Below w.heap.size w wr:=Hb4.out.trans (hbw.mono Hb4.out.size)
     have HX1:=Lib.hid hX1
     have HX2:=Lib.hid hX2
     have HX3:=Lib.hid hX3
     have HE:=Lib.hid (Same_any c c csB cs)
     have HI:=Lib.hid (Is_any c csB)
     have HJ:=Lib.hid (Is_any c cs)
     have hsf:=eqG_self c
     rw [hsf] at HE
     generalize isG c = b1 at HI HJ
     have HSM:=Lib.hid (fw_smA HW.out)
     go_wp2_with fail
     clear hX1 hX2 hX3 hbw hK HBa HBb HR HM HGb Hbb HOA HOB HLO HB2 Hb4 hsf
     refine wp_region_noPanic ?_
     refine wp_region_held_drew (S:=fun w'=>Box w' w.heap.size c cs ∧ Box w' gb c csB ∧ Below w.heap.size w w') (by kernel_rfl) ⟨HX1.out.past (Below.refl _ _).drew, HX2.out.past (Below.refl _ _).drew, HX3.out.drew⟩ (fun hHeld=>?_)
     refine Rg.tk 0 60 (.agg csB) rfl (by kernel_rfl) (fun _ _ _ h=>h) (fun w' h=>run_loadG rfl rfl h.2.1) hHeld ?_
     refine Rg.tk 1 61 (.agg cs) rfl (by kernel_rfl) (fun _ _ _ h=>h) (fun w' h=>run_loadG rfl rfl h.1) hHeld ?_
     refine Rg.cl 2 62 rfl (by kernel_rfl) 12 #[.agg csB, .agg cs] (by kernel_rfl) (HE.out _ hHeld.2.1.2 hHeld.1.2) ?_
     rintro _ v1 ⟨rfl, hv1⟩
     have hHeld1:=And.intro (hHeld.1.past hv1) (And.intro (hHeld.2.1.past hv1) (hHeld.2.2.trans (hv1.mono hHeld.2.2.size)))
     refine ⟨_, rfl, hHeld1, ?_⟩
     refine Rg.frame _ (by simp only [Rg.pu, List.set]; rfl) ?_
     refine Rg.idleP [3] [(63, .bool true)] 7 (by kernel_rfl) (fun _ _ _ _ _ h=>h) (by kernel_rfl) (by kernel_rfl) hHeld1 ?_
     refine Rg.frame _ (by simp only [Rg.puts, Rg.pu, List.set]; rfl) ?_
     refine Rg.tk 4 64 (.agg csB) rfl (by kernel_rfl) (fun _ _ _ h=>h) (fun w' h=>run_loadG rfl rfl h.2.1) hHeld1 ?_
     refine Rg.tk 6 66 (.agg cs) rfl (by kernel_rfl) (fun _ _ _ h=>h) (fun w' h=>run_loadG rfl rfl h.1) hHeld1 ?_
     refine Rg.cl 5 65 rfl (by kernel_rfl) 10 #[.agg csB] (by kernel_rfl) (HI.out _ HSM.out hHeld1.2.1.2) ?_
     rintro _ v2 ⟨rfl, hv2⟩
     have hHeld2:=And.intro (hHeld1.1.past hv2) (And.intro (hHeld1.2.1.past hv2) (hHeld1.2.2.trans (hv2.mono hHeld1.2.2.size)))
     refine ⟨_, rfl, hHeld2, ?_⟩
     refine Rg.frame _ (by simp only [Rg.pu, List.set]; rfl) ?_
     refine Rg.cl 7 67 rfl (by kernel_rfl) 10 #[.agg cs] (by kernel_rfl) (HJ.out _ HSM.out hHeld2.1.2) ?_
     rintro _ v3 ⟨rfl, hv3⟩
     have hHeld3:=And.intro (hHeld2.1.past hv3) (And.intro (hHeld2.2.1.past hv3) (hHeld2.2.2.trans (hv3.mono hHeld2.2.2.size)))
     refine ⟨_, rfl, hHeld3, ?_⟩
     refine Rg.tk 8 68 (.bool true) rfl (by kernel_rfl) (fun _ _ _ h=>h) (fun _ _=>by cases b1 <;> kernel_rfl) hHeld3 ?_
     refine Rg.idleP [9, 10] [(2, .bool true), (69, .bool true)] 0 (by kernel_rfl) (fun _ _ _ _ _ h=>h) (by kernel_rfl) (by kernel_rfl) hHeld3 ?_
     refine Rg.frame _ (by simp only [Rg.puts, Rg.pu, List.set]; rfl) ?_
     refine wpAnyH_done (by kernel_rfl) ?_ _
     refine NoPanic.normal ?_
     go_wp2_with fail
     go_ret
     exact ⟨rfl, hHeld3.2.2⟩
theorem walk_ChangeCopies (w : World) (c : Cg) (cs : Array Value) (hc : GAt w (· < w.heap.size) c cs) (hG : Cs.Glob w) :
  Calls Tryz.prog 5 #[.agg cs] w fun r w'=>r = .returned (.bool true) ∧ Below w.heap.size w w':=copies_go w c cs hc hG
end Go.Proofs.YtbdpkfgllnbheaaGreatDoor.Ch
