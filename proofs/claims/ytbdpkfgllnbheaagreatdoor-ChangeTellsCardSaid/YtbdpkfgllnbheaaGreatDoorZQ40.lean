import Derived.Test.YtbdpkfgllnbheaaGreatDoorZQ39
set_option linter.unusedVariables false
set_option maxRecDepth 100000
namespace Go.Proofs.YtbdpkfgllnbheaaGreatDoor.Ch
open Go.RowKit
attribute [local go_sem ↓] loadAtG storeAtG
theorem fw_sm {c : Cg} (h : fwG c) : smA c:=fun d hd=>by have:=(h.1.2 d hd).1; omega
theorem wrC_err (c : Cg) : (isG c = false ∧ (wrC c).2 = 14) ∨ (isG c = true ∧ (wrC c).2 = 13) ∨ (isG c = true ∧ (wrC c).2 = 0):=by
 unfold wrC
 cases h : isG c with
 | false=>exact .inl ⟨rfl, by rw [if_pos rfl]⟩
 | true =>
  rw [if_neg (by decide)]
  split
  ·exact .inr (.inl ⟨rfl, rfl⟩)
  ·exact .inr (.inr ⟨rfl, rfl⟩)
set_option maxHeartbeats 8000000 in
theorem tells_go (w : World) (a b : Cg) (cs cs' : Array Value) (ha : GAt w (· < w.heap.size) a cs) (hb : GAt w (· < w.heap.size) b cs') (hG : Cs.Glob w) :
  Calls Tryz.prog 3 #[.agg cs, .agg cs'] w (Flag w true):=by
 have hA:=(Box.new ha).past ((Below.refl _ _).alloc (Nat.le_refl _) (.cells cs' 28))
 have hB:=Box.new (hb.alloc (.cells cs 28))
 rw [show (w.alloc (.cells cs 28)).heap.size = w.heap.size + 1 by simp] at hB
 have HA:=Lib.hid hA
 have HB:=Lib.hid hB
 have Hb0:=Lib.hid (((Below.refl w.heap.size w).alloc (Nat.le_refl _) (.cells cs 28)).alloc (by simp) (.cells cs' 28))
 have HG:=Lib.hid hG
 have HF:=Lib.hid (few_any a cs)
 have HF2:=Lib.hid (few_any b cs')
 have HC:=Lib.hid (Bytes_any a cs)
 have hcase:=wrC_err a
 have HI:=Lib.hid (Is_any a cs)
 have HJ:=Lib.hid (ris_any a cs)
 have HS:=Lib.hid (Same_any a b cs cs')
 have HT:=Lib.hid (rSame_any a b cs cs')
 generalize isG a = b1 at HI HJ hcase
 generalize eqG a b = b2 at HS HT
 generalize wrC a = p at HC hcase
 obtain ⟨l, e⟩:=p
 have HC' : Hid (∀ (w : World), Cs.Glob w → smA a → GAt w (· < w.heap.size) a cs → Calls Tryz.prog 9 #[.agg cs] w fun r w'=>r = .returned (.tuple #[.string ⟨l.toArray⟩, .int .i64 e]) ∧ Below w.heap.size w w'):=HC
 generalize (⟨l.toArray⟩ : ByteArray) = P at HC'
 have HCC:=Lib.hid hcase
 clear hG ha hb hA hB HC hcase
 go_enter Tryz.func3, Tryz.ntmps3
 go_wp2_with fail
 refine (known_any _ (HG.out.past Hb0.out)).mono ?_
 rintro r w1 ⟨rfl, hk1⟩
 have HA1:=Lib.hid (HA.out.past hk1)
 have HB1:=Lib.hid (HB.out.past hk1)
 have Hb2:=Lib.hid (Hb0.out.trans (hk1.mono Hb0.out.size))
 have hld:=HA1.out.load
 clear HA HB Hb0 hk1
 go_wp2_with fail
 refine (HF.out _ HA1.out.2).mono ?_
 rintro r w2 ⟨f1, rfl, hf, hk2⟩
 have HA2:=Lib.hid (HA1.out.past hk2)
 have HB2:=Lib.hid (HB1.out.past hk2)
 have Hb4:=Lib.hid (Hb2.out.trans (hk2.mono Hb2.out.size))
 have HFW:=Lib.hid hf
 clear HA1 HB1 Hb2 hk2 hf hld
 cases f1
 focus
  go_wp2_with fail
  go_ret
  exact ⟨rfl, Hb4.out⟩
 have hld:=HB2.out.load
 go_wp2_with fail
 refine (HF2.out _ HB2.out.2).mono ?_
 rintro r w3 ⟨f2, rfl, _, hk3⟩
 have HA3:=Lib.hid (HA2.out.past hk3)
 have HB3:=Lib.hid (HB2.out.past hk3)
 have Hb6:=Lib.hid (Hb4.out.trans (hk3.mono Hb4.out.size))
 clear HA2 HB2 Hb4 hk3 hld
 cases f2
 focus
  go_wp2_with fail
  go_ret
  exact ⟨rfl, Hb6.out⟩
 have HSM:=Lib.hid (fw_sm (HFW.out trivial))
 have hld:=HA3.out.load
 clear HFW
 go_wp2_with fail
 refine (HC'.out _ (HG.out.past Hb6.out) HSM.out HA3.out.2).mono ?_
 rintro r w4 ⟨rfl, hk4⟩
 have hA4:=HA3.out.past hk4
 have hB4:=HB3.out.past hk4
 have hb8:=Hb6.out.trans (hk4.mono Hb6.out.size)
 clear HA3 HB3 Hb6 hk4 hld HC' HF HF2 HG
 rcases HCC.out with ⟨h1, h2⟩ | ⟨h1, h2⟩ | ⟨h1, h2⟩
 ·have h2 : e = 14:=h2
  clear HCC
  subst h1 h2
  go_wp2_with fail
  refine wp_region_noPanic ?_
  refine wp_region_held_drew (S:=fun w'=>Box w' w.heap.size a cs ∧ Box w' (w.heap.size + 1) b cs' ∧ Below w.heap.size w w') (by kernel_rfl) ⟨hA4.past (Below.refl _ _).drew, hB4.past (Below.refl _ _).drew, hb8.drew⟩ (fun hHeld=>?_)
  refine Rg.tk 0 22 (.agg cs) rfl (by kernel_rfl) (fun _ _ _ h=>h) (fun w' h=>run_loadG rfl rfl h.1) hHeld ?_
  refine Rg.tk 2 24 (.agg cs) rfl (by kernel_rfl) (fun _ _ _ h=>h) (fun w' h=>run_loadG rfl rfl h.1) hHeld ?_
  refine Rg.cl 1 23 rfl (by kernel_rfl) 10 #[.agg cs] (by kernel_rfl) (HI.out _ HSM.out hHeld.1.2) ?_
  rintro _ v1 ⟨rfl, hv1⟩
  have hHeld1:=And.intro (hHeld.1.past hv1) (And.intro (hHeld.2.1.past hv1) (hHeld.2.2.trans (hv1.mono hHeld.2.2.size)))
  refine ⟨_, rfl, hHeld1, ?_⟩
  refine Rg.frame _ (by simp only [Rg.pu, List.set]; rfl) ?_
  refine Rg.cl 3 25 rfl (by kernel_rfl) 11 #[.agg cs] (by kernel_rfl) (HJ.out _ HSM.out hHeld1.1.2) ?_
  rintro _ v2 ⟨rfl, hv2⟩
  have hHeld2:=And.intro (hHeld1.1.past hv2) (And.intro (hHeld1.2.1.past hv2) (hHeld1.2.2.trans (hv2.mono hHeld1.2.2.size)))
  refine ⟨_, rfl, hHeld2, ?_⟩
  refine Rg.tk 4 26 (.bool true) rfl (by kernel_rfl) (fun _ _ _ h=>h) (fun _ _=>by kernel_rfl) hHeld2 ?_
  refine Rg.idleP [5] [(27, .bool true)] 17 (by kernel_rfl) (fun _ _ _ _ _ h=>h) (by kernel_rfl) (by kernel_rfl) hHeld2 ?_
  refine Rg.frame _ (by simp only [Rg.puts, Rg.pu, List.set]; rfl) ?_
  refine Rg.tk 6 28 (.agg cs) rfl (by kernel_rfl) (fun _ _ _ h=>h) (fun w' h=>run_loadG rfl rfl h.1) hHeld2 ?_
  refine Rg.tk 7 29 (.agg cs') rfl (by kernel_rfl) (fun _ _ _ h=>h) (fun w' h=>run_loadG rfl rfl h.2.1) hHeld2 ?_
  refine Rg.tk 9 31 (.agg cs) rfl (by kernel_rfl) (fun _ _ _ h=>h) (fun w' h=>run_loadG rfl rfl h.1) hHeld2 ?_
  refine Rg.frame _ (by simp only [Rg.pu, List.set]; rfl) ?_
  refine Rg.tk 10 32 (.agg cs') rfl (by kernel_rfl) (fun _ _ _ h=>h) (fun w' h=>run_loadG rfl rfl h.2.1) hHeld2 ?_
  refine Rg.cl 8 30 rfl (by kernel_rfl) 12 #[.agg cs, .agg cs'] (by kernel_rfl) (HS.out _ hHeld2.1.2 hHeld2.2.1.2) ?_
  rintro _ v3 ⟨rfl, hv3⟩
  have hHeld3:=And.intro (hHeld2.1.past hv3) (And.intro (hHeld2.2.1.past hv3) (hHeld2.2.2.trans (hv3.mono hHeld2.2.2.size)))
  refine ⟨_, rfl, hHeld3, ?_⟩
  refine Rg.cl 11 33 rfl (by kernel_rfl) 13 #[.agg cs, .agg cs'] (by kernel_rfl) (HT.out _ hHeld3.1.2 hHeld3.2.1.2) ?_
  rintro _ v4 ⟨rfl, hv4⟩
  have hHeld4:=And.intro (hHeld3.1.past hv4) (And.intro (hHeld3.2.1.past hv4) (hHeld3.2.2.trans (hv4.mono hHeld3.2.2.size)))
  refine ⟨_, rfl, hHeld4, ?_⟩
  refine Rg.frame _ (by simp only [Rg.pu, List.set]; rfl) ?_
  refine Rg.tk 12 34 (.bool true) rfl (by kernel_rfl) (fun _ _ _ h=>h) (fun _ _=>by cases b2 <;> kernel_rfl) hHeld4 ?_
  refine Rg.idleP [13, 14, 15] [(35, .bool true), (36, .bool true), (37, .int .i64 14)] 7 (by kernel_rfl) (fun _ _ _ _ _ h=>h) (by kernel_rfl) (by kernel_rfl) hHeld4 ?_
  refine Rg.frame _ (by simp only [Rg.puts, Rg.pu, List.set]; rfl) ?_
  refine Rg.tk 16 38 (.bool true) rfl (by kernel_rfl) (fun _ _ _ h=>h) (fun _ _=>by kernel_rfl) hHeld4 ?_
  refine Rg.tk 17 39 (.agg cs) rfl (by kernel_rfl) (fun _ _ _ h=>h) (fun w' h=>run_loadG rfl rfl h.1) hHeld4 ?_
  refine Rg.cl 18 40 rfl (by kernel_rfl) 11 #[.agg cs] (by kernel_rfl) (HJ.out _ HSM.out hHeld4.1.2) ?_
  rintro _ v5 ⟨rfl, hv5⟩
  have hHeld5:=And.intro (hHeld4.1.past hv5) (And.intro (hHeld4.2.1.past hv5) (hHeld4.2.2.trans (hv5.mono hHeld4.2.2.size)))
  refine ⟨_, rfl, hHeld5, ?_⟩
  refine Rg.frame _ (by simp only [Rg.pu, List.set]; rfl) ?_
  refine Rg.tk 19 41 (.bool true) rfl (by kernel_rfl) (fun _ _ _ h=>h) (fun _ _=>by kernel_rfl) hHeld5 ?_
  refine Rg.tk 20 42 (.bool true) rfl (by kernel_rfl) (fun _ _ _ h=>h) (fun _ _=>by kernel_rfl) hHeld5 ?_
  refine Rg.idleP [21, 22] [(4, .bool true), (43, .bool true)] 0 (by kernel_rfl) (fun _ _ _ _ _ h=>h) (by kernel_rfl) (by kernel_rfl) hHeld5 ?_
  refine Rg.frame _ (by simp only [Rg.puts, Rg.pu, List.set]; rfl) ?_
  refine wpAnyH_done (by kernel_rfl) ?_ _
  refine NoPanic.normal ?_
  go_wp2_with fail
  go_ret
  exact ⟨rfl, hHeld5.2.2⟩
 ·have h2 : e = 13:=h2
  clear HCC
  subst h1 h2
  go_wp2_with fail
  refine wp_region_noPanic ?_
  refine wp_region_held_drew (S:=fun w'=>Box w' w.heap.size a cs ∧ Box w' (w.heap.size + 1) b cs' ∧ Below w.heap.size w w') (by kernel_rfl) ⟨hA4.past (Below.refl _ _).drew, hB4.past (Below.refl _ _).drew, hb8.drew⟩ (fun hHeld=>?_)
  refine Rg.tk 0 22 (.agg cs) rfl (by kernel_rfl) (fun _ _ _ h=>h) (fun w' h=>run_loadG rfl rfl h.1) hHeld ?_
  refine Rg.tk 2 24 (.agg cs) rfl (by kernel_rfl) (fun _ _ _ h=>h) (fun w' h=>run_loadG rfl rfl h.1) hHeld ?_
  refine Rg.cl 1 23 rfl (by kernel_rfl) 10 #[.agg cs] (by kernel_rfl) (HI.out _ HSM.out hHeld.1.2) ?_
  rintro _ v1 ⟨rfl, hv1⟩
  have hHeld1:=And.intro (hHeld.1.past hv1) (And.intro (hHeld.2.1.past hv1) (hHeld.2.2.trans (hv1.mono hHeld.2.2.size)))
  refine ⟨_, rfl, hHeld1, ?_⟩
  refine Rg.frame _ (by simp only [Rg.pu, List.set]; rfl) ?_
  refine Rg.cl 3 25 rfl (by kernel_rfl) 11 #[.agg cs] (by kernel_rfl) (HJ.out _ HSM.out hHeld1.1.2) ?_
  rintro _ v2 ⟨rfl, hv2⟩
  have hHeld2:=And.intro (hHeld1.1.past hv2) (And.intro (hHeld1.2.1.past hv2) (hHeld1.2.2.trans (hv2.mono hHeld1.2.2.size)))
  refine ⟨_, rfl, hHeld2, ?_⟩
  refine Rg.tk 4 26 (.bool true) rfl (by kernel_rfl) (fun _ _ _ h=>h) (fun _ _=>by kernel_rfl) hHeld2 ?_
  refine Rg.idleP [5] [(27, .bool true)] 17 (by kernel_rfl) (fun _ _ _ _ _ h=>h) (by kernel_rfl) (by kernel_rfl) hHeld2 ?_
  refine Rg.frame _ (by simp only [Rg.puts, Rg.pu, List.set]; rfl) ?_
  refine Rg.tk 6 28 (.agg cs) rfl (by kernel_rfl) (fun _ _ _ h=>h) (fun w' h=>run_loadG rfl rfl h.1) hHeld2 ?_
  refine Rg.tk 7 29 (.agg cs') rfl (by kernel_rfl) (fun _ _ _ h=>h) (fun w' h=>run_loadG rfl rfl h.2.1) hHeld2 ?_
  refine Rg.tk 9 31 (.agg cs) rfl (by kernel_rfl) (fun _ _ _ h=>h) (fun w' h=>run_loadG rfl rfl h.1) hHeld2 ?_
  refine Rg.frame _ (by simp only [Rg.pu, List.set]; rfl) ?_
  refine Rg.tk 10 32 (.agg cs') rfl (by kernel_rfl) (fun _ _ _ h=>h) (fun w' h=>run_loadG rfl rfl h.2.1) hHeld2 ?_
  refine Rg.cl 8 30 rfl (by kernel_rfl) 12 #[.agg cs, .agg cs'] (by kernel_rfl) (HS.out _ hHeld2.1.2 hHeld2.2.1.2) ?_
  rintro _ v3 ⟨rfl, hv3⟩
  have hHeld3:=And.intro (hHeld2.1.past hv3) (And.intro (hHeld2.2.1.past hv3) (hHeld2.2.2.trans (hv3.mono hHeld2.2.2.size)))
  refine ⟨_, rfl, hHeld3, ?_⟩
  refine Rg.cl 11 33 rfl (by kernel_rfl) 13 #[.agg cs, .agg cs'] (by kernel_rfl) (HT.out _ hHeld3.1.2 hHeld3.2.1.2) ?_
  rintro _ v4 ⟨rfl, hv4⟩
  have hHeld4:=And.intro (hHeld3.1.past hv4) (And.intro (hHeld3.2.1.past hv4) (hHeld3.2.2.trans (hv4.mono hHeld3.2.2.size)))
  refine ⟨_, rfl, hHeld4, ?_⟩
  refine Rg.frame _ (by simp only [Rg.pu, List.set]; rfl) ?_
  refine Rg.tk 12 34 (.bool true) rfl (by kernel_rfl) (fun _ _ _ h=>h) (fun _ _=>by cases b2 <;> kernel_rfl) hHeld4 ?_
  refine Rg.idleP [13, 14, 15] [(35, .bool true), (36, .bool true), (37, .int .i64 13)] 7 (by kernel_rfl) (fun _ _ _ _ _ h=>h) (by kernel_rfl) (by kernel_rfl) hHeld4 ?_
  refine Rg.frame _ (by simp only [Rg.puts, Rg.pu, List.set]; rfl) ?_
  refine Rg.tk 16 38 (.bool false) rfl (by kernel_rfl) (fun _ _ _ h=>h) (fun _ _=>by kernel_rfl) hHeld4 ?_
  refine Rg.tk 17 39 (.agg cs) rfl (by kernel_rfl) (fun _ _ _ h=>h) (fun w' h=>run_loadG rfl rfl h.1) hHeld4 ?_
  refine Rg.cl 18 40 rfl (by kernel_rfl) 11 #[.agg cs] (by kernel_rfl) (HJ.out _ HSM.out hHeld4.1.2) ?_
  rintro _ v5 ⟨rfl, hv5⟩
  have hHeld5:=And.intro (hHeld4.1.past hv5) (And.intro (hHeld4.2.1.past hv5) (hHeld4.2.2.trans (hv5.mono hHeld4.2.2.size)))
  refine ⟨_, rfl, hHeld5, ?_⟩
  refine Rg.frame _ (by simp only [Rg.pu, List.set]; rfl) ?_
  refine Rg.tk 19 41 (.bool false) rfl (by kernel_rfl) (fun _ _ _ h=>h) (fun _ _=>by kernel_rfl) hHeld5 ?_
  refine Rg.tk 20 42 (.bool true) rfl (by kernel_rfl) (fun _ _ _ h=>h) (fun _ _=>by kernel_rfl) hHeld5 ?_
  refine Rg.idleP [21, 22] [(4, .bool true), (43, .bool true)] 0 (by kernel_rfl) (fun _ _ _ _ _ h=>h) (by kernel_rfl) (by kernel_rfl) hHeld5 ?_
  refine Rg.frame _ (by simp only [Rg.puts, Rg.pu, List.set]; rfl) ?_
  refine wpAnyH_done (by kernel_rfl) ?_ _
  refine NoPanic.normal ?_
  go_wp2_with fail
  go_ret
  exact ⟨rfl, hHeld5.2.2⟩
 ·have h2 : e = 0:=h2
  clear HCC
  subst h1 h2
  go_wp2_with fail
  refine wp_region_noPanic ?_
  refine wp_region_held_drew (S:=fun w'=>Box w' w.heap.size a cs ∧ Box w' (w.heap.size + 1) b cs' ∧ Below w.heap.size w w') (by kernel_rfl) ⟨hA4.past (Below.refl _ _).drew, hB4.past (Below.refl _ _).drew, hb8.drew⟩ (fun hHeld=>?_)
  refine Rg.tk 0 22 (.agg cs) rfl (by kernel_rfl) (fun _ _ _ h=>h) (fun w' h=>run_loadG rfl rfl h.1) hHeld ?_
  refine Rg.tk 2 24 (.agg cs) rfl (by kernel_rfl) (fun _ _ _ h=>h) (fun w' h=>run_loadG rfl rfl h.1) hHeld ?_
  refine Rg.cl 1 23 rfl (by kernel_rfl) 10 #[.agg cs] (by kernel_rfl) (HI.out _ HSM.out hHeld.1.2) ?_
  rintro _ v1 ⟨rfl, hv1⟩
  have hHeld1:=And.intro (hHeld.1.past hv1) (And.intro (hHeld.2.1.past hv1) (hHeld.2.2.trans (hv1.mono hHeld.2.2.size)))
  refine ⟨_, rfl, hHeld1, ?_⟩
  refine Rg.frame _ (by simp only [Rg.pu, List.set]; rfl) ?_
  refine Rg.cl 3 25 rfl (by kernel_rfl) 11 #[.agg cs] (by kernel_rfl) (HJ.out _ HSM.out hHeld1.1.2) ?_
  rintro _ v2 ⟨rfl, hv2⟩
  have hHeld2:=And.intro (hHeld1.1.past hv2) (And.intro (hHeld1.2.1.past hv2) (hHeld1.2.2.trans (hv2.mono hHeld1.2.2.size)))
  refine ⟨_, rfl, hHeld2, ?_⟩
  refine Rg.tk 4 26 (.bool true) rfl (by kernel_rfl) (fun _ _ _ h=>h) (fun _ _=>by kernel_rfl) hHeld2 ?_
  refine Rg.idleP [5] [(27, .bool true)] 17 (by kernel_rfl) (fun _ _ _ _ _ h=>h) (by kernel_rfl) (by kernel_rfl) hHeld2 ?_
  refine Rg.frame _ (by simp only [Rg.puts, Rg.pu, List.set]; rfl) ?_
  refine Rg.tk 6 28 (.agg cs) rfl (by kernel_rfl) (fun _ _ _ h=>h) (fun w' h=>run_loadG rfl rfl h.1) hHeld2 ?_
  refine Rg.tk 7 29 (.agg cs') rfl (by kernel_rfl) (fun _ _ _ h=>h) (fun w' h=>run_loadG rfl rfl h.2.1) hHeld2 ?_
  refine Rg.tk 9 31 (.agg cs) rfl (by kernel_rfl) (fun _ _ _ h=>h) (fun w' h=>run_loadG rfl rfl h.1) hHeld2 ?_
  refine Rg.frame _ (by simp only [Rg.pu, List.set]; rfl) ?_
  refine Rg.tk 10 32 (.agg cs') rfl (by kernel_rfl) (fun _ _ _ h=>h) (fun w' h=>run_loadG rfl rfl h.2.1) hHeld2 ?_
  refine Rg.cl 8 30 rfl (by kernel_rfl) 12 #[.agg cs, .agg cs'] (by kernel_rfl) (HS.out _ hHeld2.1.2 hHeld2.2.1.2) ?_
  rintro _ v3 ⟨rfl, hv3⟩
  have hHeld3:=And.intro (hHeld2.1.past hv3) (And.intro (hHeld2.2.1.past hv3) (hHeld2.2.2.trans (hv3.mono hHeld2.2.2.size)))
  refine ⟨_, rfl, hHeld3, ?_⟩
  refine Rg.cl 11 33 rfl (by kernel_rfl) 13 #[.agg cs, .agg cs'] (by kernel_rfl) (HT.out _ hHeld3.1.2 hHeld3.2.1.2) ?_
  rintro _ v4 ⟨rfl, hv4⟩
  have hHeld4:=And.intro (hHeld3.1.past hv4) (And.intro (hHeld3.2.1.past hv4) (hHeld3.2.2.trans (hv4.mono hHeld3.2.2.size)))
  refine ⟨_, rfl, hHeld4, ?_⟩
  refine Rg.frame _ (by simp only [Rg.pu, List.set]; rfl) ?_
  refine Rg.tk 12 34 (.bool true) rfl (by kernel_rfl) (fun _ _ _ h=>h) (fun _ _=>by cases b2 <;> kernel_rfl) hHeld4 ?_
  refine Rg.idleP [13, 14, 15] [(35, .bool true), (36, .bool true), (37, .int .i64 0)] 7 (by kernel_rfl) (fun _ _ _ _ _ h=>h) (by kernel_rfl) (by kernel_rfl) hHeld4 ?_
  refine Rg.frame _ (by simp only [Rg.puts, Rg.pu, List.set]; rfl) ?_
  refine Rg.tk 16 38 (.bool false) rfl (by kernel_rfl) (fun _ _ _ h=>h) (fun _ _=>by kernel_rfl) hHeld4 ?_
  refine Rg.tk 17 39 (.agg cs) rfl (by kernel_rfl) (fun _ _ _ h=>h) (fun w' h=>run_loadG rfl rfl h.1) hHeld4 ?_
  refine Rg.cl 18 40 rfl (by kernel_rfl) 11 #[.agg cs] (by kernel_rfl) (HJ.out _ HSM.out hHeld4.1.2) ?_
  rintro _ v5 ⟨rfl, hv5⟩
  have hHeld5:=And.intro (hHeld4.1.past hv5) (And.intro (hHeld4.2.1.past hv5) (hHeld4.2.2.trans (hv5.mono hHeld4.2.2.size)))
  refine ⟨_, rfl, hHeld5, ?_⟩
  refine Rg.frame _ (by simp only [Rg.pu, List.set]; rfl) ?_
  refine Rg.tk 19 41 (.bool false) rfl (by kernel_rfl) (fun _ _ _ h=>h) (fun _ _=>by kernel_rfl) hHeld5 ?_
  refine Rg.tk 20 42 (.bool true) rfl (by kernel_rfl) (fun _ _ _ h=>h) (fun _ _=>by kernel_rfl) hHeld5 ?_
  refine Rg.idleP [21, 22] [(4, .bool true), (43, .bool true)] 0 (by kernel_rfl) (fun _ _ _ _ _ h=>h) (by kernel_rfl) (by kernel_rfl) hHeld5 ?_
  refine Rg.frame _ (by simp only [Rg.puts, Rg.pu, List.set]; rfl) ?_
  refine wpAnyH_done (by kernel_rfl) ?_ _
  refine NoPanic.normal ?_
  go_wp2_with fail
  go_ret
  exact ⟨rfl, hHeld5.2.2⟩
theorem walk_ChangeTells (w : World) (a : Cg) (cs : Array Value) (ha : GAt w (· < w.heap.size) a cs) (b : Cg) (cs' : Array Value) (hb : GAt w (· < w.heap.size) b cs') (hG : Cs.Glob w) :
  Calls Tryz.prog 3 #[.agg cs, .agg cs'] w fun r w'=>r = .returned (.bool true) ∧ Below w.heap.size w w':=tells_go w a b cs cs' ha hb hG
end Go.Proofs.YtbdpkfgllnbheaaGreatDoor.Ch
