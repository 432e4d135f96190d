import Derived.Test.YtconghaebebncaaGreatDoorZR26
set_option linter.unusedVariables false
set_option maxRecDepth 100000
namespace Go.Proofs.YtconghaebebncaaGreatDoor.Ms
open Go.RowKit
def TwoMo (w0 : World) (p p2 : Addr) (k k2 : Int) (a a2 : ByteArray) (V V2 : Option Addr) (n n2 c c2 : Nat) (w : World) : Prop :=
 (w.cell? p = some (.int .i64 k) ∧ w.cell? ⟨p.block, p.off + 1, none⟩ = some (.string a) ∧ w.cell? ⟨p.block, p.off + 2, none⟩ = some (.slice V n c)) ∧
 (w.cell? p2 = some (.int .i64 k2) ∧ w.cell? ⟨p2.block, p2.off + 1, none⟩ = some (.string a2) ∧ w.cell? ⟨p2.block, p2.off + 2, none⟩ = some (.slice V2 n2 c2)) ∧ Below w0.heap.size w0 w
theorem TwoMo.past {w0 w w' : World} {p p2 : Addr} {k k2 : Int} {a a2 : ByteArray} {V V2 : Option Addr} {n n2 c c2 : Nat} (h : TwoMo w0 p p2 k k2 a a2 V V2 n n2 c c2 w) (hb : Below w.heap.size w w') : TwoMo w0 p p2 k k2 a a2 V V2 n n2 c c2 w':=by
 obtain ⟨⟨h1, h2, h3⟩, ⟨h4, h5, h6⟩, h7⟩:=h
 exact ⟨⟨(hb.cell (cell_lt h1)).trans h1, (hb.cell (cell_lt h2)).trans h2, (hb.cell (cell_lt h3)).trans h3⟩, ⟨(hb.cell (cell_lt h4)).trans h4, (hb.cell (cell_lt h5)).trans h5, (hb.cell (cell_lt h6)).trans h6⟩, h7.trans (hb.mono h7.size)⟩
theorem infoMo3 : ∃ i, Tryz.prog.info? 48 = some i ∧ i.size = 3:=by
 have h : (Tryz.prog.info? 48).map (·.size) = some 3:=by kernel_rfl
 cases hi : Tryz.prog.info? 48 with
 | none=>rw [hi] at h; cases h
 | some i=>rw [hi] at h; exact ⟨i, rfl, Option.some.inj h⟩
set_option maxHeartbeats 8000000 in
theorem rsameMo_any (l l' : List Mo) (A A' : Option Addr) (c c' : Nat) (ds ds' : Nat → List Value) (w : World) (hM : MosAt w (· < w.heap.size) A l ds) (hM' : MosAt w (· < w.heap.size) A' l' ds') (hl : l.length ≤ maxLen) (hl' : l'.length ≤ maxLen) :
  Calls Tryz.prog 44 #[.slice A l.length c, .slice A' l'.length c'] w fun r w'=>r = .returned (.bool (eqMos l l')) ∧ Below w.heap.size w w':=by
 unfold maxLen at hl hl'
 by_cases hn : l.length = l'.length
 ·have HN:=Lib.hid hn
  rw [← hn]
  clear hn hl'
  go_enter Tryz.func44, Tryz.ntmps44
  go_wp2_with fail
  go_loopw [5] (fun i wr=>∃ q : Nat, q ≤ l.length ∧ i = .int .i64 q ∧ Hid (eqMos l l' = eqMos (l.drop q) (l'.drop q)) ∧ Below w.heap.size w wr) (fun i wr=>l.length - (intOf i).toNat)
  case atStart=>exact ⟨0, Nat.zero_le _, rfl, rfl, Below.refl _ _⟩
  case round =>
   obtain ⟨q, hq, rfl, hE, hb⟩:=hrel
   by_cases hlt : q < l.length
   ·have hlt' : q < l'.length:=by have:=HN.out; omega
    obtain ⟨ad, V, vc, rfl, hp, f0, f1, f2, hL⟩:=hM.kid hb hlt
    obtain ⟨ad2, V2, vc2, rfl, hp2, g0, g1, g2, hL2⟩:=hM'.kid hb (i:=q) hlt'
    have hE2:=hE.out
    rw [eqMos_drop hlt hlt'] at hE2
    have hr : eqMo l[q] l'[q] = (decide (l[q].kind = l'[q].kind) && (decide (l[q].attr = l'[q].attr) && decide (l[q].vals = l'[q].vals))):=rfl
    rw [hr] at hE2
    obtain ⟨Va, vca, ea, _, la, lc, hVa, _⟩:=hL
    obtain ⟨Vb, vcb, eb, _, lb, lcb, hVb, _⟩:=hL2
    simp only [List.cons.injEq, Value.slice.injEq, true_and, and_true] at ea eb
    obtain ⟨rfl, rfl⟩:=ea
    obtain ⟨rfl, rfl⟩:=eb
    generalize l[q] = d at f0 f1 f2 hE2 hVa la lc
    generalize l'[q] = d2 at g0 g1 g2 hE2 hVb lb lcb
    obtain ⟨k, t, v⟩:=d
    obtain ⟨k2, t2, v2⟩:=d2
    simp only at f0 f1 f2 g0 g1 g2 hE2 hVa la hVb lb
    have T0 : TwoMo w (ad.add (q * 3)) (ad2.add (q * 3)) k k2 t t2 V V2 v.length v2.length vc vc2 wr:=⟨⟨f0, f1, f2⟩, ⟨g0, g1, g2⟩, hb⟩
    have HA:=Lib.hid (fun w1 (hb1 : Below wr.heap.size wr w1)=>ralike_any v v2 V V2 vc vc2 w1 (hVa.imp (fun _ h=>Nat.lt_of_lt_of_le h hb1.size) (fun p hp=>hb1.cell hp)) (hVb.imp (fun _ h=>Nat.lt_of_lt_of_le h hb1.size) (fun p hp=>hb1.cell hp)) la)
    have hk : (k == k2) = decide (k = k2):=rfl
    have ht : (t.toList == t2.toList) = decide (t = t2):=Fi.toList_eq _ _
    generalize decide (k = k2) = e1 at hE2 hk
    generalize decide (t = t2) = e2 at hE2 ht
    generalize decide (v = v2) = e3 at hE2 HA
    have HE:=Lib.hid hE2
    clear hE hE2 hr f0 f1 f2 g0 g1 g2 hVa hVb
    obtain ⟨ii, hi, hi3⟩:=infoMo3
    have hT:=T0
    clear T0
    go_wp2_with fail
    have hB0:=(Below.refl wr.heap.size wr).drew
    refine wp_region_noPanic ?_
    refine wp_region_held_drew (S:=TwoMo w (ad.add (q * 3)) (ad2.add (q * 3)) k k2 t t2 V V2 v.length v2.length vc vc2) (by kernel_rfl) (hT.past (Below.refl _ _).drew) (fun hH0=>?_)
    refine Rg.tk 0 17 (.slice (some ad) l.length c) rfl (by kernel_rfl) (fun _ _ _ h=>h) (fun _ _=>by kernel_rfl) hH0 ?_
    refine Rg.tk 1 18 (.int .i64 q) rfl (by kernel_rfl) (fun _ _ _ h=>h) (fun _ _=>by kernel_rfl) hH0 ?_
    refine Rg.tk 2 19 (.pointer (some (ad.add (q * 3)))) rfl (by kernel_rfl) (fun _ _ _ h=>h) (fun w' _=>Pl.run_index (P:=Tryz.prog) (k:=3) Tryz.underlying26 hi hi3 rfl rfl rfl hlt) hH0 ?_
    refine Rg.tk 3 20 (.pointer (some (ad.add (q * 3)))) rfl (by kernel_rfl) (fun _ _ _ h=>h) (fun _ _=>by kernel_rfl) hH0 ?_
    refine Rg.frame _ (by simp only [Rg.pu, List.set]; rfl) ?_
    refine Rg.tk 4 21 (.int .i64 k) rfl (by kernel_rfl) (fun _ _ _ h=>h) (fun w' h=>run_cell rfl rfl (by kernel_rfl) h.1.1) hH0 ?_
    refine Rg.tk 5 22 (.slice (some ad2) l.length c') rfl (by kernel_rfl) (fun _ _ _ h=>h) (fun _ _=>by kernel_rfl) hH0 ?_
    refine Rg.tk 6 23 (.int .i64 q) rfl (by kernel_rfl) (fun _ _ _ h=>h) (fun _ _=>by kernel_rfl) hH0 ?_
    refine Rg.tk 7 24 (.pointer (some (ad2.add (q * 3)))) rfl (by kernel_rfl) (fun _ _ _ h=>h) (fun w' _=>Pl.run_index (P:=Tryz.prog) (k:=3) Tryz.underlying26 hi hi3 rfl rfl rfl hlt) hH0 ?_
    refine Rg.frame _ (by simp only [Rg.pu, List.set]; rfl) ?_
    refine Rg.tk 8 25 (.pointer (some (ad2.add (q * 3)))) rfl (by kernel_rfl) (fun _ _ _ h=>h) (fun _ _=>by kernel_rfl) hH0 ?_
    refine Rg.tk 9 26 (.int .i64 k2) rfl (by kernel_rfl) (fun _ _ _ h=>h) (fun w' h=>run_cell rfl rfl (by kernel_rfl) h.2.1.1) hH0 ?_
    refine Rg.tk 10 27 (.bool (!e1)) rfl (by kernel_rfl) (fun _ _ _ h=>h) (fun _ _=>by rw [← hk]; kernel_rfl) hH0 ?_
    cases e1 with
    | false =>
     refine Rg.idleP [11, 12, 13, 14, 15, 16, 17, 18, 19, 20, 21, 22, 23, 24, 25, 26, 27, 28, 29, 30, 31, 32, 33, 34, 35, 36, 37] [(28, .bool true), (29, undef), (30, undef), (31, undef), (32, undef), (33, undef), (34, undef), (35, undef), (36, undef), (37, undef), (38, undef), (39, undef), (40, .bool true), (41, .bool true), (42, undef), (43, undef), (44, undef), (45, undef), (46, undef), (47, undef), (48, undef), (49, undef), (50, undef), (51, undef), (52, undef), (53, undef), (54, .bool true)] 0 (by kernel_rfl) (fun _ _ _ _ _ h=>h) (by kernel_rfl) (by kernel_rfl) hH0 ?_
     refine Rg.frame _ (by simp only [Rg.puts, Rg.pu, List.set]; rfl) ?_
     refine wpAnyH_done (by kernel_rfl) ?_ _
     refine NoPanic.normal ?_
     go_wp2_with fail
     go_ret
     exact ⟨ret_bool HE.out.symm, hH0.2.2⟩
    | true =>
     refine Rg.idleP [11] [(28, .bool false)] 26 (by kernel_rfl) (fun _ _ _ _ _ h=>h) (by kernel_rfl) (by kernel_rfl) hH0 ?_
     refine Rg.frame _ (by simp only [Rg.puts, Rg.pu, List.set]; rfl) ?_
     refine Rg.tk 12 29 (.slice (some ad) l.length c) rfl (by kernel_rfl) (fun _ _ _ h=>h) (fun _ _=>by kernel_rfl) hH0 ?_
     refine Rg.tk 13 30 (.int .i64 q) rfl (by kernel_rfl) (fun _ _ _ h=>h) (fun _ _=>by kernel_rfl) hH0 ?_
     refine Rg.tk 14 31 (.pointer (some (ad.add (q * 3)))) rfl (by kernel_rfl) (fun _ _ _ h=>h) (fun w' _=>Pl.run_index (P:=Tryz.prog) (k:=3) Tryz.underlying26 hi hi3 rfl rfl rfl hlt) hH0 ?_
     refine Rg.tk 15 32 (.pointer (some ⟨(ad.add (q * 3)).block, (ad.add (q * 3)).off + 1, none⟩)) rfl (by kernel_rfl) (fun _ _ _ h=>h) (fun _ _=>by kernel_rfl) hH0 ?_
     refine Rg.frame _ (by simp only [Rg.pu, List.set]; rfl) ?_
     refine Rg.tk 16 33 (.string t) rfl (by kernel_rfl) (fun _ _ _ h=>h) (fun w' h=>run_cell rfl rfl (by kernel_rfl) h.1.2.1) hH0 ?_
     refine Rg.tk 17 34 (.slice (some ad2) l.length c') rfl (by kernel_rfl) (fun _ _ _ h=>h) (fun _ _=>by kernel_rfl) hH0 ?_
     refine Rg.tk 18 35 (.int .i64 q) rfl (by kernel_rfl) (fun _ _ _ h=>h) (fun _ _=>by kernel_rfl) hH0 ?_
     refine Rg.tk 19 36 (.pointer (some (ad2.add (q * 3)))) rfl (by kernel_rfl) (fun _ _ _ h=>h) (fun w' _=>Pl.run_index (P:=Tryz.prog) (k:=3) Tryz.underlying26 hi hi3 rfl rfl rfl hlt) hH0 ?_
     refine Rg.frame _ (by simp only [Rg.pu, List.set]; rfl) ?_
     refine Rg.tk 20 37 (.pointer (some ⟨(ad2.add (q * 3)).block, (ad2.add (q * 3)).off + 1, none⟩)) rfl (by kernel_rfl) (fun _ _ _ h=>h) (fun _ _=>by kernel_rfl) hH0 ?_
     refine Rg.tk 21 38 (.string t2) rfl (by kernel_rfl) (fun _ _ _ h=>h) (fun w' h=>run_cell rfl rfl (by kernel_rfl) h.2.1.2.1) hH0 ?_
     refine Rg.tk 22 39 (.bool (!e2)) rfl (by kernel_rfl) (fun _ _ _ h=>h) (fun _ _=>by rw [← ht]; kernel_rfl) hH0 ?_
     cases e2 with
     | false =>
      refine Rg.idleP [23, 24, 25, 26, 27, 28, 29, 30, 31, 32, 33, 34, 35, 36, 37] [(40, .bool true), (41, .bool true), (42, undef), (43, undef), (44, undef), (45, undef), (46, undef), (47, undef), (48, undef), (49, undef), (50, undef), (51, undef), (52, undef), (53, undef), (54, .bool true)] 0 (by kernel_rfl) (fun _ _ _ _ _ h=>h) (by kernel_rfl) (by kernel_rfl) hH0 ?_
      refine Rg.frame _ (by simp only [Rg.puts, Rg.pu, List.set]; rfl) ?_
      refine wpAnyH_done (by kernel_rfl) ?_ _
      refine NoPanic.normal ?_
      go_wp2_with fail
      go_ret
      exact ⟨ret_bool HE.out.symm, hH0.2.2⟩
     | true =>
      refine Rg.idleP [23, 24] [(40, .bool false), (41, .bool false)] 13 (by kernel_rfl) (fun _ _ _ _ _ h=>h) (by kernel_rfl) (by kernel_rfl) hH0 ?_
      refine Rg.frame _ (by simp only [Rg.puts, Rg.pu, List.set]; rfl) ?_
      refine Rg.tk 25 42 (.slice (some ad) l.length c) rfl (by kernel_rfl) (fun _ _ _ h=>h) (fun _ _=>by kernel_rfl) hH0 ?_
      refine Rg.tk 26 43 (.int .i64 q) rfl (by kernel_rfl) (fun _ _ _ h=>h) (fun _ _=>by kernel_rfl) hH0 ?_
      refine Rg.tk 27 44 (.pointer (some (ad.add (q * 3)))) rfl (by kernel_rfl) (fun _ _ _ h=>h) (fun w' _=>Pl.run_index (P:=Tryz.prog) (k:=3) Tryz.underlying26 hi hi3 rfl rfl rfl hlt) hH0 ?_
      refine Rg.tk 28 45 (.pointer (some ⟨(ad.add (q * 3)).block, (ad.add (q * 3)).off + 2, none⟩)) rfl (by kernel_rfl) (fun _ _ _ h=>h) (fun _ _=>by kernel_rfl) hH0 ?_
      refine Rg.frame _ (by simp only [Rg.pu, List.set]; rfl) ?_
      refine Rg.tk 29 46 (.slice V v.length vc) rfl (by kernel_rfl) (fun _ _ _ h=>h) (fun w' h=>run_cell rfl rfl (by kernel_rfl) h.1.2.2) hH0 ?_
      refine Rg.tk 30 47 (.slice (some ad2) l.length c') rfl (by kernel_rfl) (fun _ _ _ h=>h) (fun _ _=>by kernel_rfl) hH0 ?_
      refine Rg.tk 31 48 (.int .i64 q) rfl (by kernel_rfl) (fun _ _ _ h=>h) (fun _ _=>by kernel_rfl) hH0 ?_
      refine Rg.tk 32 49 (.pointer (some (ad2.add (q * 3)))) rfl (by kernel_rfl) (fun _ _ _ h=>h) (fun w' _=>Pl.run_index (P:=Tryz.prog) (k:=3) Tryz.underlying26 hi hi3 rfl rfl rfl hlt) hH0 ?_
      refine Rg.frame _ (by simp only [Rg.pu, List.set]; rfl) ?_
      refine Rg.tk 33 50 (.pointer (some ⟨(ad2.add (q * 3)).block, (ad2.add (q * 3)).off + 2, none⟩)) rfl (by kernel_rfl) (fun _ _ _ h=>h) (fun _ _=>by kernel_rfl) hH0 ?_
      refine Rg.tk 34 51 (.slice V2 v2.length vc2) rfl (by kernel_rfl) (fun _ _ _ h=>h) (fun w' h=>run_cell rfl rfl (by kernel_rfl) h.2.1.2.2) hH0 ?_
      refine Rg.cl 35 52 rfl (by kernel_rfl) 43 #[.slice V v.length vc, .slice V2 v2.length vc2] (by kernel_rfl) (HA.out _ hB0) ?_
      rintro _ w1 ⟨rfl, hb1⟩
      have hH1:=hH0.past hb1
      refine ⟨_, rfl, hH1, ?_⟩
      cases e3 with
      | false =>
       refine Rg.tk 36 53 (.bool true) rfl (by kernel_rfl) (fun _ _ _ h=>h) (fun _ _=>by kernel_rfl) hH1 ?_
       refine Rg.frame _ (by simp only [Rg.pu, List.set]; rfl) ?_
       refine Rg.idleP [37] [(54, .bool true)] 0 (by kernel_rfl) (fun _ _ _ _ _ h=>h) (by kernel_rfl) (by kernel_rfl) hH1 ?_
       refine Rg.frame _ (by simp only [Rg.puts, Rg.pu, List.set]; rfl) ?_
       refine wpAnyH_done (by kernel_rfl) ?_ _
       refine NoPanic.normal ?_
       go_wp2_with fail
       go_ret
       exact ⟨ret_bool HE.out.symm, hH1.2.2⟩
      | true =>
       refine Rg.tk 36 53 (.bool false) rfl (by kernel_rfl) (fun _ _ _ h=>h) (fun _ _=>by kernel_rfl) hH1 ?_
       refine Rg.frame _ (by simp only [Rg.pu, List.set]; rfl) ?_
       refine Rg.idleP [37] [(54, .bool false)] 0 (by kernel_rfl) (fun _ _ _ _ _ h=>h) (by kernel_rfl) (by kernel_rfl) hH1 ?_
       refine Rg.frame _ (by simp only [Rg.puts, Rg.pu, List.set]; rfl) ?_
       refine wpAnyH_done (by kernel_rfl) ?_ _
       refine NoPanic.normal ?_
       go_wp2_with fail
       exact ⟨⟨q + 1, by omega, by go_num, HE.out, hH1.2.2⟩, by simp [intOf]; omega⟩
   ·have hE2:=hE.out
    rw [List.drop_eq_nil_of_le (by omega), List.drop_eq_nil_of_le (by have:=HN.out; omega), eqMos] at hE2
    have HE:=Lib.hid hE2
    clear hE hE2
    go_wp2_with fail
    go_ret
    exact ⟨ret_bool HE.out.symm, hb⟩
 ·have hr:=Lib.hid (eqMos_len hn)
  have h1 : ((l.length : Int) != l'.length) = true:=by rw [bne_iff_ne]; omega
  clear hn
  go_enter Tryz.func44, Tryz.ntmps44
  go_wp2_with fail
  go_ret
  exact ⟨ret_bool hr.out.symm, Below.refl _ _⟩
end Go.Proofs.YtconghaebebncaaGreatDoor.Ms
namespace Go.Proofs.YtconghaebebncaaGreatDoor.Ms
open Go.RowKit
def OneMo (p : Addr) (k : Int) (a : ByteArray) (V : Option Addr) (n c : Nat) (g : Nat) (w : World) : Prop :=
 (w.cell? p = some (.int .i64 k) ∧ w.cell? ⟨p.block, p.off + 1, none⟩ = some (.string a) ∧ w.cell? ⟨p.block, p.off + 2, none⟩ = some (.slice V n c)) ∧ Blk w g 57 #[.int .u8 0, .string ⟨#[]⟩, .slice none 0 0]
theorem OneMo.past {w w' : World} {p : Addr} {k : Int} {a : ByteArray} {V : Option Addr} {n c g : Nat} (h : OneMo p k a V n c g w) (hb : Below w.heap.size w w') : OneMo p k a V n c g w':=by
 obtain ⟨⟨h1, h2, h3⟩, hB⟩:=h
 exact ⟨⟨(hb.cell (cell_lt h1)).trans h1, (hb.cell (cell_lt h2)).trans h2, (hb.cell (cell_lt h3)).trans h3⟩, hB.past hb⟩
theorem OneMo.alloc {w : World} {p : Addr} {k : Int} {a : ByteArray} {V : Option Addr} {n c g : Nat} (h : OneMo p k a V n c g w) (o : Obj) : OneMo p k a V n c g (w.alloc o):=h.past ((Below.refl _ _).alloc (Nat.le_refl _) o)
theorem OneMo.upto {w w' : World} {p : Addr} {k : Int} {a : ByteArray} {V : Option Addr} {n c g B : Nat} (h : OneMo p k a V n c g w) (hb : Below B w w') (hp : p.block < B) (hg : g < B) : OneMo p k a V n c g w':=by
 obtain ⟨⟨h1, h2, h3⟩, hB⟩:=h
 exact ⟨⟨(hb.cell hp).trans h1, (hb.cell (p:=⟨p.block, p.off + 1, none⟩) hp).trans h2, (hb.cell (p:=⟨p.block, p.off + 2, none⟩) hp).trans h3⟩, (hb.block g hg).trans hB⟩
set_option maxHeartbeats 8000000 in
theorem rattributes_any (A : Option Addr) (c : Nat) (l : List Mo) (ds : Nat → List Value) (w : World) (hl : l.length ≤ 12) (hok : ∀ d ∈ l, okMo d) (hM : MosAt w (· < w.heap.size) A l ds) :
  Calls Tryz.prog 58 #[.slice A l.length c] w (NewLst w 48 (l.map attrEl)):=by
 have HM:=Lib.hid hM
 have HO:=Lib.hid hok
 obtain ⟨ks, hks⟩ : ∃ ks, ks = l.map attrEl:=⟨_, rfl⟩
 have hmt:=map_take attrEl l
 rw [← hks] at hmt ⊢
 have HK:=Lib.hid hmt
 have HB0:=Lib.hid (Blk.new w 57 #[.int .u8 0, .string ⟨#[]⟩, .slice none 0 0])
 have Hb0:=Lib.hid ((Below.refl w.heap.size w).alloc (Nat.le_refl _) (.cells #[.int .u8 0, .string ⟨#[]⟩, .slice none 0 0] 57))
 clear hM hok hks hmt
 go_enter Tryz.func58, Tryz.ntmps58
 go_wp2_with fail
 go_loopw [3, 4] (fun v i wr=>∃ (q : Nat) (xs : List Value), q ≤ l.length ∧ i = .int .i64 q ∧ Hid (Be.Gath wr (w.heap.size + 1) v xs (ks.take q)) ∧ Hid (Blk wr w.heap.size 57 #[.int .u8 0, .string ⟨#[]⟩, .slice none 0 0]) ∧ Below w.heap.size w wr ∧ w.heap.size + 1 ≤ wr.heap.size) (fun v i wr=>l.length - (intOf i).toNat)
 case atStart=>exact ⟨0, [], Nat.zero_le _, rfl, Be.Gath.nil _ _, HB0, Hb0.out, by simp⟩
 case round =>
  obtain ⟨q, xs, hq, rfl, hG, hBr, hb, hge⟩:=hrel
  have hsz:=hb.size
  by_cases hlt : q < l.length
  ·obtain ⟨ad, V, vc, rfl, hp, f0, f1, f2, hL⟩:=HM.out.kid hb hlt
   obtain ⟨V1, vc1, ev, _, lv, _, hV, hvs⟩:=hL
   simp only [List.cons.injEq, Value.slice.injEq, true_and, and_true] at ev
   obtain ⟨rfl, rfl⟩:=ev
   have hokd:=HO.out _ (List.getElem_mem hlt)
   have hdl:=take_len HK.out.1 hq (by omega)
   have hmt:=Lib.hid (HK.out.2 q hlt)
   generalize l[q] = d at f0 f1 f2 hV lv hvs hokd hmt
   obtain ⟨k, a, v2⟩:=d
   simp only at f0 f1 f2 hV lv hvs
   obtain ⟨ok1, ok2, oka, okl, oks⟩:=hokd
   simp only at oka okl oks
   have T0 : OneMo (ad.add (q * 3)) k a V v2.length vc w.heap.size wr:=⟨⟨f0, f1, f2⟩, hBr.out⟩
   have HV:=Lib.hid (fun w1 (hb1 : Below wr.heap.size wr w1)=>rall_any 49 (by decide) V vc v2 w1 (by omega) (fun s hs=>by have:=oks s hs; omega) (hV.imp (fun _ h=>Nat.lt_of_lt_of_le h hb1.size) (fun p hp=>hb1.cell hp)))
   obtain ⟨ii, hi, hi3⟩:=infoMo3
   have hT:=T0
   have hadlt : (ad.add (q * 3)).block < wr.heap.size:=by rw [block_of_add]; omega
   clear T0 f0 f1 f2 hV hBr
   go_wp2_with fail
   refine wp_region_noPanic ?_
   refine wp_region_held_drew (S:=OneMo (ad.add (q * 3)) k a V v2.length vc w.heap.size) (by kernel_rfl) (hT.past (Below.refl _ _).drew) (fun hH0=>?_)
   refine Rg.tk 0 11 (u3) rfl (by kernel_rfl) (fun _ _ _ h=>h) (fun _ _=>by kernel_rfl) hH0 ?_
   refine Rg.tk 1 12 (.slice (some ad) l.length c) rfl (by kernel_rfl) (fun _ _ _ h=>h) (fun _ _=>by kernel_rfl) hH0 ?_
   refine Rg.tk 2 13 (.int .i64 q) rfl (by kernel_rfl) (fun _ _ _ h=>h) (fun _ _=>by kernel_rfl) hH0 ?_
   refine Rg.frame _ (by simp only [Rg.pu, List.set]; rfl) ?_
   refine Rg.tk 3 14 (.pointer (some (ad.add (q * 3)))) rfl (by kernel_rfl) (fun _ _ _ h=>h) (fun w' _=>Pl.run_index (P:=Tryz.prog) (k:=3) Tryz.underlying26 hi hi3 rfl rfl rfl hlt) hH0 ?_
   refine Rg.tk 4 15 (.pointer (some ⟨(ad.add (q * 3)).block, (ad.add (q * 3)).off + 1, none⟩)) rfl (by kernel_rfl) (fun _ _ _ h=>h) (fun _ _=>by kernel_rfl) hH0 ?_
   refine Rg.tk 5 16 (.string a) rfl (by kernel_rfl) (fun _ _ _ h=>h) (fun w' h=>run_cell rfl rfl (by kernel_rfl) h.1.2.1) hH0 ?_
   refine Rg.frame _ (by simp only [Rg.pu, List.set]; rfl) ?_
   refine Rg.tk 7 18 (.slice (some ad) l.length c) rfl (by kernel_rfl) (fun _ _ _ h=>h) (fun _ _=>by kernel_rfl) hH0 ?_
   refine Rg.tk 8 19 (.int .i64 q) rfl (by kernel_rfl) (fun _ _ _ h=>h) (fun _ _=>by kernel_rfl) hH0 ?_
   refine Rg.tk 9 20 (.pointer (some (ad.add (q * 3)))) rfl (by kernel_rfl) (fun _ _ _ h=>h) (fun w' _=>Pl.run_index (P:=Tryz.prog) (k:=3) Tryz.underlying26 hi hi3 rfl rfl rfl hlt) hH0 ?_
   refine Rg.frame _ (by simp only [Rg.pu, List.set]; rfl) ?_
   refine Rg.tk 10 21 (.pointer (some ⟨(ad.add (q * 3)).block, (ad.add (q * 3)).off + 2, none⟩)) rfl (by kernel_rfl) (fun _ _ _ h=>h) (fun _ _=>by kernel_rfl) hH0 ?_
   refine Rg.tk 11 22 (.slice V v2.length vc) rfl (by kernel_rfl) (fun _ _ _ h=>h) (fun w' h=>run_cell rfl rfl (by kernel_rfl) h.1.2.2) hH0 ?_
   have hd0:=(Below.refl wr.heap.size wr).drew
   refine Rg.cl 6 17 rfl (by kernel_rfl) 52 #[.string a] (by kernel_rfl) (rtext_any a _) ?_
   rintro _ w1 ⟨rfl, hb1⟩
   have hH1:=hH0.past hb1
   refine ⟨_, rfl, hH1, ?_⟩
   refine Rg.frame _ (by simp only [Rg.pu, List.set]; rfl) ?_
   have hd1:=hd0.trans (hb1.mono hd0.size)
   refine Rg.cl 12 23 rfl (by kernel_rfl) 56 #[.int .u8 49, .slice V v2.length vc] (by kernel_rfl) (HV.out _ hd1) ?_
   rintro _ w2 ⟨A1, c1, ds1, rfl, hb2, hK1⟩
   have hH2:=hH1.past hb2
   refine ⟨_, rfl, hH2, ?_⟩
   have hd2:=hd1.trans (hb2.mono hd1.size)
   have hH3:=hH2.alloc (.cells #[.int .u8 4, .string a, .slice none 0 0, .int .u8 49, .string ⟨#[]⟩, .slice A1 (v2.map (txt 4)).length c1] 57)
   refine Rg.rn 13 24 (.slice (some ⟨w2.heap.size, 0, none⟩) 2 2) (w2.alloc (.cells #[.int .u8 4, .string a, .slice none 0 0, .int .u8 49, .string ⟨#[]⟩, .slice A1 (v2.map (txt 4)).length c1] 57)) rfl (by kernel_rfl) (by kernel_rfl) hH3 ?_
   have hd3:=hd2.alloc hd2.size (.cells #[.int .u8 4, .string a, .slice none 0 0, .int .u8 49, .string ⟨#[]⟩, .slice A1 (v2.map (txt 4)).length c1] 57)
   refine Rg.cl 14 25 rfl (by kernel_rfl) 22 #[.int .u8 48, .slice (some ⟨w2.heap.size, 0, none⟩) 2 2] (by kernel_rfl) (Be.RList_any 48 (some ⟨w2.heap.size, 0, none⟩) 2 2 _) ?_
   rintro _ w3 ⟨rfl, hb3⟩
   have hH4:=hH3.past hb3
   refine ⟨_, rfl, hH4, ?_⟩
   refine Rg.frame _ (by simp only [Rg.pu, List.set]; rfl) ?_
   have hd4:=hd3.trans (hb3.mono hd3.size)
   have hH5:=hH4.alloc (.cells #[.int .u8 48, .string ⟨#[]⟩, .slice (some ⟨w2.heap.size, 0, none⟩) 2 2] 57)
   refine Rg.rn 15 26 (.slice (some ⟨w3.heap.size, 0, none⟩) 1 1) (w3.alloc (.cells #[.int .u8 48, .string ⟨#[]⟩, .slice (some ⟨w2.heap.size, 0, none⟩) 2 2] 57)) rfl (by kernel_rfl) (by kernel_rfl) hH5 ?_
   have hd5:=hd4.alloc hd4.size (.cells #[.int .u8 48, .string ⟨#[]⟩, .slice (some ⟨w2.heap.size, 0, none⟩) 2 2] 57)
   have hz1:=hd1.size
   have hz2:=hd2.size
   have hL1 : Be.Lies w2 (fun b=>wr.heap.size ≤ b ∧ b < w2.heap.size) (lst 49 (v2.map (txt 4))) [.int .u8 ((49 : Nat) : Int), .string ⟨#[]⟩, .slice A1 (v2.map (txt 4)).length c1] :=
    Be.Lies.shut (by decide) (by decide) (by rw [List.length_map]; unfold maxLen; omega) (hK1.imp (fun b h=>⟨Nat.le_trans hz1 h.1, h.2⟩) (fun _ _=>rfl))
   have hKK:=kids_litP (w:=w2) (B:=wr.heap.size) hz2 [txt 4 a, lst 49 (v2.map (txt 4))] [[.int .u8 4, .string a, .slice none 0 0], [.int .u8 49, .string ⟨#[]⟩, .slice A1 (v2.map (txt 4)).length c1]] rfl (by simp) (fun i hi=>by
    match i, hi with
    | 0, _=>exact lies_leaf (by decide) (by omega)
    | 1, _=>exact hL1)
   have hKW : Be.KidsAt (w3.alloc (.cells #[.int .u8 48, .string ⟨#[]⟩, .slice (some ⟨w2.heap.size, 0, none⟩) 2 2] 57)) (fun b=>wr.heap.size ≤ b ∧ b < w3.heap.size) (some ⟨w2.heap.size, 0, none⟩) [txt 4 a, lst 49 (v2.map (txt 4))] _ :=
    (hKK.imp (w':=w3) (P':=fun b=>wr.heap.size ≤ b ∧ b < w3.heap.size) (fun b h=>⟨h.1, Nat.lt_of_lt_of_le h.2 hb3.size⟩) (fun p hp=>hb3.cell hp.2)).imp (fun _ h=>h) (fun p hp=>World.cell?_alloc_lt _ _ p hp.2)
   have hLW : Be.Lies (w3.alloc (.cells #[.int .u8 48, .string ⟨#[]⟩, .slice (some ⟨w2.heap.size, 0, none⟩) 2 2] 57)) (fun b=>wr.heap.size ≤ b ∧ b < w3.heap.size) (attrEl ⟨k, a, v2⟩) [.int .u8 ((48 : Nat) : Int), .string ⟨#[]⟩, .slice (some ⟨w2.heap.size, 0, none⟩) 2 2] :=
    Be.Lies.shut (ks:=[txt 4 a, lst 49 (v2.map (txt 4))]) (by decide) (by decide) (by simp [maxLen]) hKW
   have hGW:=hG.out.past hd5
   have hlt5 : ∀ b, u3.ownBlock = some b → b < wr.heap.size:=fun b e=>(hG.out.1.lt b e).2
   have hLG : Be.Lies (w3.alloc (.cells #[.int .u8 48, .string ⟨#[]⟩, .slice (some ⟨w2.heap.size, 0, none⟩) 2 2] 57)) (fun b=>w.heap.size + 1 ≤ b ∧ b < ((w3.alloc (.cells #[.int .u8 48, .string ⟨#[]⟩, .slice (some ⟨w2.heap.size, 0, none⟩) 2 2] 57))).heap.size ∧ u3.ownBlock ≠ some b) (attrEl ⟨k, a, v2⟩) [.int .u8 ((48 : Nat) : Int), .string ⟨#[]⟩, .slice (some ⟨w2.heap.size, 0, none⟩) 2 2] :=
    hLW.imp (fun b h=>⟨by have:=h.1; omega, by have:=h.2; simp; omega, fun e=>by have:=hlt5 b e; have:=h.1; omega⟩) (fun _ _=>rfl)
   have hbs5 : w.heap.size + 1 ≤ ((w3.alloc (.cells #[.int .u8 48, .string ⟨#[]⟩, .slice (some ⟨w2.heap.size, 0, none⟩) 2 2] 57))).heap.size:=by have:=hd5.size; omega
   have had0 : (ad.add (q * 3)).block < w.heap.size + 1:=by rw [block_of_add]; omega
   have hBW:=Blk.new w3 57 #[.int .u8 ((48 : Nat) : Int), .string ⟨#[]⟩, .slice (some ⟨w2.heap.size, 0, none⟩) 2 2]
   refine step_pushE 16 rfl (by kernel_rfl) (by kernel_rfl) (.tmp 11) (.tmp 26) rfl (w.heap.size + 1) u3 xs (ks.take q) rfl hGW w3.heap.size rfl hBW one3 hLG hdl hbs5 ?_
   intro v' w5 hG5 hb5
   have hS5:=OneMo.upto hH5 hb5 had0 (Nat.lt_succ_self _)
   refine ⟨hS5, ?_⟩
   refine Rg.idleP [17] [(3, v')] 0 (by kernel_rfl) (fun _ _ _ _ _ h=>h) (by kernel_rfl) (by kernel_rfl) hS5 ?_
   refine Rg.frame ⟨#[Sl (some ad) l.length c, ud, pt w.heap.size 0, v', Iq q, Iq q, Sl (some ad) l.length c, Iq l.length, Bt, u9, u10, u3, Sl (some ad) l.length c, Iq q, .pointer (some (ad.add (q * 3))), .pointer (some ⟨(ad.add (q * 3)).block, (ad.add (q * 3)).off + 1, none⟩), Sg a, Ag #[Ub 4, Sg a, Nl], Sl (some ad) l.length c, Iq q, .pointer (some (ad.add (q * 3))), .pointer (some ⟨(ad.add (q * 3)).block, (ad.add (q * 3)).off + 2, none⟩), Sl V v2.length vc, Ag #[Ub 49, Ns, Sl A1 (v2.map (txt 4)).length c1], Sl (some ⟨w2.heap.size, 0, none⟩) 2 2, Ag #[Ub 48, Ns, Sl (some ⟨w2.heap.size, 0, none⟩) 2 2], Sl (some ⟨w3.heap.size, 0, none⟩) 1 1, v', ud, ud], []⟩ (by kernel_rfl) ?_
   refine Rg.frame { tmps:=#[.slice (some ad) l.length c, undef, .pointer (some ⟨w.heap.size, 0, none⟩), v', .int .i64 q, .int .i64 q, .slice (some ad) l.length c, .int .i64 l.length, .bool true, u9, u10, u3, .slice (some ad) l.length c, .int .i64 q, .pointer (some (ad.add (q * 3))), .pointer (some ⟨(ad.add (q * 3)).block, (ad.add (q * 3)).off + 1, none⟩), .string a, .agg #[.int .u8 4, .string a, .slice none 0 0], .slice (some ad) l.length c, .int .i64 q, .pointer (some (ad.add (q * 3))), .pointer (some ⟨(ad.add (q * 3)).block, (ad.add (q * 3)).off + 2, none⟩), .slice V v2.length vc, .agg #[.int .u8 49, .string ⟨#[]⟩, .slice A1 (v2.map (txt 4)).length c1], .slice (some ⟨w2.heap.size, 0, none⟩) 2 2, .agg #[.int .u8 48, .string ⟨#[]⟩, .slice (some ⟨w2.heap.size, 0, none⟩) 2 2], .slice (some ⟨w3.heap.size, 0, none⟩) 1 1, v', undef, undef], defers:=[] } (by kernel_rfl) ?_
   refine wpAnyH_done (by kernel_rfl) ?_ _
   refine NoPanic.normal ?_
   rw [← hmt.out] at hG5
   have HG5:=Lib.hid hG5
   have HB5:=Lib.hid hS5.2
   have hb6:=hb.trans ((hd5.mono hsz).trans (hb5.mono (by omega)))
   have hge6:=Nat.le_trans hbs5 hb5.size
   clear hG5
   go_wp2_with fail
   exact ⟨⟨q + 1, _, by omega, by go_num, HG5, HB5, hb6, hge6⟩, by simp [intOf]; omega⟩
  ·have hq2 : q = l.length:=by omega
   subst hq2
   have htl:=rlist_tell (t:=48) (w2:=wr) (show ks.take l.length = ks from List.take_of_length_le (by rw [HK.out.1]; omega)) hb (Below.refl _ _) hG.out
   obtain ⟨A2, c2, rfl, _⟩:=htl
   have HT:=Lib.hid (fun w2 (h : Below wr.heap.size wr w2)=>rlist_tell (t:=48) (show ks.take l.length = ks from List.take_of_length_le (by rw [HK.out.1]; omega)) hb h hG.out)
   clear hG
   go_wp2_with fail
   refine (Be.RList_any 48 A2 ks.length c2 wr).mono ?_
   rintro e w1 ⟨rfl, hb1⟩
   have B1:=hBr.out.past hb1
   have c0 : w1.cell? ⟨w.heap.size, 0, none⟩ = some (.int .u8 0):=B1.cell 0
   have c1 : w1.cell? ⟨w.heap.size, 1, none⟩ = some (.string ⟨#[]⟩):=B1.cell 1
   have c2' : w1.cell? ⟨w.heap.size, 2, none⟩ = some (.slice none 0 0):=B1.cell 2
   have g0:=B1.frozen 0
   have g1:=B1.frozen 1
   have g2:=B1.frozen 2
   obtain ⟨_, _, _, hN⟩:=HT.out w1 hb1
   have HN:=Lib.hid hN
   clear hN hb
   go_wp2_with fail
   exact bodyPost_ret (Be.res_el rfl _ _ w.heap.size _ _ _ rfl (Be.Blk.set3 B1)) rfl HN.out
end Go.Proofs.YtconghaebebncaaGreatDoor.Ms
