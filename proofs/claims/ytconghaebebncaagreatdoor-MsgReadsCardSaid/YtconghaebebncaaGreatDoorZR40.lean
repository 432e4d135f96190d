import Derived.Test.YtconghaebebncaaGreatDoorZR39
set_option linter.unusedVariables false
set_option maxRecDepth 100000
namespace Go.Proofs.YtconghaebebncaaGreatDoor.Ms
open Go.RowKit
theorem run_storeC {P : Program} {w : World} {r : Nat} {t : TypeId} {ds : Array Value} {k : Nat} {v : Value} {ev : Operand → Value} {o : Oper} {ty : TypeId} {p q : Operand} (hsz : (sizeOf ty).run P w = .ok 1 w) (B : Blk w r t ds) (hk : k < ds.size) (h1 : v.oneCell' = true) (hc : v.cells = #[v])
  (ho : o.op = .store ty p q) (hp : ev p = .pointer (some ⟨r, k, none⟩)) (hq : ev q = v) : (execOp ev o).run P w = .ok .skip (w.setCell ⟨r, k, none⟩ v):=by
 have hcell:=B.cell k
 rw [Array.getElem?_eq_getElem hk] at hcell
 have hfz:=B.frozen k
 unfold execOp
 simp [ho, hp, hq, Instr.storeAt, Instr.sureAddr, storeVar, hc, storeCells, Addr.add, hsz, Result.andThen]
 rw [run_store P w ⟨r, k, none⟩ v _ h1]
 simp [hcell, hfz]
def Fe (w0 : World) (g : Nat) (cs : Array Value) (r : Nat) (t : TypeId) (n : Nat) (r2 : Nat) (ds2 : Array Value) (w : World) : Prop:=Fd w0 g cs r t n w ∧ Blk w r2 t ds2
theorem Fe.past {w0 w w' : World} {g r n r2 : Nat} {t : TypeId} {cs ds2 : Array Value} (h : Fe w0 g cs r t n r2 ds2 w) (hb : Below w.heap.size w w') : Fe w0 g cs r t n r2 ds2 w':=⟨h.1.past hb, h.2.past hb⟩
theorem Fe.drew {w0 w : World} {g r n r2 : Nat} {t : TypeId} {cs ds2 : Array Value} (h : Fe w0 g cs r t n r2 ds2 w) : Fe w0 g cs r t n r2 ds2 w.drew:=h.past (Below.refl _ _).drew
theorem Fe.cell {w0 w : World} {g r n r2 : Nat} {t : TypeId} {cs ds2 : Array Value} (h : Fe w0 g cs r t n r2 ds2 w) (hne : g ≠ r) (hne2 : r2 ≠ r) (hg : w0.heap.size ≤ r) (k : Nat) (v : Value) : Fe w0 g cs r t n r2 ds2 (w.setCell ⟨r, k, none⟩ v) :=
 ⟨h.1.cell hne hg k v, h.2.far (p:=⟨r, k, none⟩) hne2 v⟩
theorem three_below (w : World) (a b c : Array Value) (s t u : TypeId) : Below w.heap.size w (((w.alloc (.cells a s)).alloc (.cells b t)).alloc (.cells c u)) :=
 (two_below w a b s t).alloc (by simp; omega) (.cells c u)
theorem new3 (w : World) (a b c : Array Value) (s t u : TypeId) : Blk (((w.alloc (.cells a s)).alloc (.cells b t)).alloc (.cells c u)) (w.heap.size + 2) u c:=by
 have B:=Blk.new ((w.alloc (.cells a s)).alloc (.cells b t)) u c
 rwa [show ((w.alloc (.cells a s)).alloc (.cells b t)).heap.size = w.heap.size + 2 by simp] at B
theorem Fe.new (w : World) (cs ds2 ds : Array Value) (t : TypeId) : Fe w w.heap.size cs (w.heap.size + 2) t ds.size (w.heap.size + 1) ds2 (((w.alloc (.cells cs 57)).alloc (.cells ds2 t)).alloc (.cells ds t)) :=
 ⟨⟨((Blk.new w _ _).alloc _).alloc _, ⟨ds, rfl, new3 w cs ds2 ds _ t t⟩, three_below w cs ds2 ds _ t t⟩, (new2 w cs ds2 _ t).alloc _⟩
theorem rdSubs_mem : ∀ (ks : List Be.El) (x y : ByteArray) (l : List ByteArray) (s : ByteArray), s ∈ rdSubs x l y ks → s = x ∨ s ∈ l ∨ s = y ∨ ∃ k ∈ ks, s = bodyE k
 | [], x, y, l, s, h=>by
  rw [rdSubs] at h
  simp only [List.mem_cons, List.mem_append, List.not_mem_nil, or_false] at h
  rcases h with h | h | h <;> simp [h]
 | k :: ks, x, y, l, s, h=>by
  rw [rdSubs] at h
  split at h
  ·rcases rdSubs_mem ks _ _ _ s h with h | h | h | ⟨k', hk, h⟩
   ·exact .inr (.inr (.inr ⟨k, by simp, h⟩))
   ·exact .inr (.inl h)
   ·exact .inr (.inr (.inl h))
   ·exact .inr (.inr (.inr ⟨k', by simp [hk], h⟩))
  ·split at h
   ·rcases rdSubs_mem ks _ _ _ s h with h | h | h | ⟨k', hk, h⟩
    ·exact .inl h
    ·rcases List.mem_append.1 h with h | h
     ·exact .inr (.inl h)
     ·exact .inr (.inr (.inr ⟨k, by simp, by simpa using h⟩))
    ·exact .inr (.inr (.inl h))
    ·exact .inr (.inr (.inr ⟨k', by simp [hk], h⟩))
   ·split at h
    ·rcases rdSubs_mem ks _ _ _ s h with h | h | h | ⟨k', hk, h⟩
     ·exact .inl h
     ·exact .inr (.inl h)
     ·exact .inr (.inr (.inr ⟨k, by simp, h⟩))
     ·exact .inr (.inr (.inr ⟨k', by simp [hk], h⟩))
    ·rcases rdSubs_mem ks _ _ _ s h with h | h | h | ⟨k', hk, h⟩
     ·exact .inl h
     ·exact .inr (.inl h)
     ·exact .inr (.inr (.inl h))
     ·exact .inr (.inr (.inr ⟨k', by simp [hk], h⟩))
theorem rdSubs_len : ∀ (ks : List Be.El) (x y : ByteArray) (l : List ByteArray), (rdSubs x l y ks).length ≤ l.length + ks.length + 2
 | [], x, y, l=>by rw [rdSubs]; simp
 | k :: ks, x, y, l=>by
  rw [rdSubs, List.length_cons]
  split
  ·have:=rdSubs_len ks (bodyE k) y l; omega
  ·split
   ·have:=rdSubs_len ks x y (l ++ [bodyE k]); rw [List.length_append, List.length_singleton] at this; omega
   ·split
    ·have:=rdSubs_len ks x (bodyE k) l; omega
    ·have:=rdSubs_len ks x y l; omega
theorem few_subs {e : Be.El} (h : Few e) : (rdSubs no [] no (kidsE e)).length ≤ maxLen ∧ ∀ s ∈ rdSubs no [] no (kidsE e), s.size ≤ maxLen:=by
 obtain ⟨t, b, ks⟩:=e
 have h0:=h.open_
 refine ⟨?_, fun s hs=>?_⟩
 ·have:=rdSubs_len ks no no []
  have h1 : (kidsE (.mk t b ks)).length = ks.length:=rfl
  show (rdSubs no [] no ks).length ≤ _
  unfold maxLen
  simp at this
  omega
 ·rcases rdSubs_mem _ _ _ _ _ hs with h1 | h1 | h1 | ⟨k, hk, h1⟩
  ·rw [h1]; decide
  ·simp at h1
  ·rw [h1]; decide
  ·rw [h1]
   have:=(h0.2.2 k hk).body
   unfold maxLen
   omega
abbrev S5 (w : World) (r : Nat) (x0 x1 x2 x3 x4 : Value) : World :=
 ((((w.setCell ⟨r, 0, none⟩ x0).setCell ⟨r, 1, none⟩ x1).setCell ⟨r, 2, none⟩ x2).setCell ⟨r, 3, none⟩ x3).setCell ⟨r, 4, none⟩ x4
theorem S5_blk {w : World} {r : Nat} {t : TypeId} {a b c d e x0 x1 x2 x3 x4 : Value} (B : Blk w r t #[a, b, c, d, e]) : Blk (S5 w r x0 x1 x2 x3 x4) r t #[x0, x1, x2, x3, x4] :=
 ((((B.set_ 0 x0).set_ 1 x1).set_ 2 x2).set_ 3 x3).set_ 4 x4
theorem S5_other {w : World} {r : Nat} {x0 x1 x2 x3 x4 : Value} {p : Addr} (h : p.block ≠ r) : (S5 w r x0 x1 x2 x3 x4).cell? p = w.cell? p:=by
 have h' : ∀ k : Nat, (⟨r, k, none⟩ : Addr) ≠ p:=fun k e=>h (by rw [← e])
 show (((((w.setCell ⟨r, 0, none⟩ x0).setCell ⟨r, 1, none⟩ x1).setCell ⟨r, 2, none⟩ x2).setCell ⟨r, 3, none⟩ x3).setCell ⟨r, 4, none⟩ x4).cell? p = _
 rw [World.cell?_setCell_other _ _ _ _ (h' 4), World.cell?_setCell_other _ _ _ _ (h' 3), World.cell?_setCell_other _ _ _ _ (h' 2), World.cell?_setCell_other _ _ _ _ (h' 1), World.cell?_setCell_other _ _ _ _ (h' 0)]
theorem S5_size (w : World) (r : Nat) (x0 x1 x2 x3 x4 : Value) : (S5 w r x0 x1 x2 x3 x4).heap.size = w.heap.size:=by simp [World.setCell]
theorem S5_below {B : Nat} {w0 w : World} {r : Nat} {x0 x1 x2 x3 x4 : Value} (h : Below B w0 w) (hB : B ≤ r) : Below B w0 (S5 w r x0 x1 x2 x3 x4) :=
 ((((h.setCell (p:=⟨r, 0, none⟩) hB x0).setCell (p:=⟨r, 1, none⟩) hB x1).setCell (p:=⟨r, 2, none⟩) hB x2).setCell (p:=⟨r, 3, none⟩) hB x3).setCell (p:=⟨r, 4, none⟩) hB x4
theorem fil_tell {w w9 : World} {f : Fil} {P : Nat → Prop} {k : Int} {a v : ByteArray} {S A : Option Addr} {m sc n c r2 : Nat} (hb : Below w.heap.size w w9) (hr2 : w.heap.size ≤ r2) (h : Fi.Lies w9 P f [.int .i64 k, .string a, .string v, .slice S m sc, .slice A n c]) (hP : ∀ b, P b → b ≠ r2 ∧ w.heap.size ≤ b ∧ b < w9.heap.size) :
  NewFil w f (.returned (.agg #[.int .i64 k, .string a, .string v, .slice S m sc, .slice A n c])) (S5 w9 r2 (.int .i64 k) (.string a) (.string v) (.slice S m sc) (.slice A n c)) :=
 ⟨k, a, v, S, m, sc, A, n, c, rfl, S5_below hb hr2, h.imp (fun b hb'=>⟨(hP b hb').2.1, by rw [S5_size]; exact (hP b hb').2.2⟩) (fun p hp=>S5_other (hP _ hp).1)⟩
theorem fil_tellR {w w9 : World} {f : Fil} {P : Nat → Prop} {k : Int} {a v : ByteArray} {S A : Option Addr} {m sc n c r2 : Nat} (hb : Below w.heap.size w w9) (hr2 : w.heap.size ≤ r2) (h : Fi.Lies w9 P f [.int .i64 k, .string a, .string v, .slice S m sc, .slice A n c]) (hP : ∀ b, P b → b ≠ r2 ∧ w.heap.size ≤ b ∧ b < w9.heap.size) :
  NewFil w f (.returned (.agg #[.int .i64 k, .string a, .string v, .slice S m sc, .slice A n c])) (w9.setRow r2 #[.int .i64 k, .string a, .string v, .slice S m sc, .slice A n c]) :=
 ⟨k, a, v, S, m, sc, A, n, c, rfl, below_setRow hb hr2 _, h.imp (fun b hb'=>⟨(hP b hb').2.1, by rw [setRow_size]; exact (hP b hb').2.2⟩) (fun p hp=>cell_setRow_other _ _ _ _ (hP _ hp).1)⟩
set_option maxHeartbeats 4000000 in
theorem rf_plain (t : Nat) (b : ByteArray) (ks : List Be.El) (A : Option Addr) (c : Nat) (K : Int) (hK : filKind t = K) (h1 : K ≠ 1) (h2 : K ≠ 2) (h3 : K ≠ 3) (h7 : K ≠ 7) (h8 : K ≠ 8) (w : World) (hfew : Few (.mk t b ks)) (hG : Glob w) (hL : Be.Lies w (· < w.heap.size) (.mk t b ks) [.int .u8 (t : Nat), .string b, .slice A ks.length c]) :
  Calls Tryz.prog 95 #[.agg #[.int .u8 (t : Nat), .string b, .slice A ks.length c]] w (NewFil w (rdFil (.mk t b ks))):=by
 have ht : t ≤ 255:=by obtain ⟨_, _, _, _, ht, _⟩:=hL.open_; exact ht
 have hb2:=two_below w #[.int .u8 (t : Nat), .string b, .slice A ks.length c] #[.int .i64 0, .string ⟨#[]⟩, .string ⟨#[]⟩, .slice none 0 0, .slice none 0 0] 57 25
 have HK:=Lib.hid (filKind_any t ht _ (hG.past hb2))
 have hrd : rdFil (.mk t b ks) = .mk K (textAt (.mk t b ks) 0) (textAt (.mk t b ks) 1) [] []:=by rw [rdFil, hK]; rw [if_neg (by omega), if_neg h7, if_neg h8]; rfl
 rw [hK] at HK
 rw [hrd]
 have HO:=Lib.hid hfew.open_
 have q1 : (K == 1) = false:=by rw [beq_eq_false_iff_ne]; exact h1
 have q2 : (K == 2) = false:=by rw [beq_eq_false_iff_ne]; exact h2
 have q3 : (K == 3) = false:=by rw [beq_eq_false_iff_ne]; exact h3
 have q7 : (K == 7) = false:=by rw [beq_eq_false_iff_ne]; exact h7
 have q8 : (K == 8) = false:=by rw [beq_eq_false_iff_ne]; exact h8
 have hz0:=hfew.text 0
 have hz1:=hfew.text 1
 clear h1 h2 h3 h7 h8
 clear hrd ht hK
 go_enter Tryz.func95, Tryz.ntmps95
 go_wp2_with fail
 refine HK.out.mono ?_
 rintro r w1 ⟨rfl, hb1⟩
 have hb3:=hb2.trans (hb1.mono hb2.size)
 have hs1 : w.heap.size + 2 ≤ w1.heap.size:=by have:=hb1.size; simp at this; omega
 have hbX:=hb1.alloc (hb1.size) (.cells #[.int .i64 K, .string ⟨#[]⟩, .string ⟨#[]⟩, .slice none 0 0, .slice none 0 0] 25)
 have hbW:=hb3.alloc hb3.size (.cells #[.int .i64 K, .string ⟨#[]⟩, .string ⟨#[]⟩, .slice none 0 0, .slice none 0 0] 25)
 have BE:=(((Blk.new w 57 #[.int .u8 (t : Nat), .string b, .slice A ks.length c]).alloc (.cells #[.int .i64 0, .string ⟨#[]⟩, .string ⟨#[]⟩, .slice none 0 0, .slice none 0 0] 25)).past hb1).alloc (.cells #[.int .i64 K, .string ⟨#[]⟩, .string ⟨#[]⟩, .slice none 0 0, .slice none 0 0] 25)
 have BR:=((new2 w #[.int .u8 (t : Nat), .string b, .slice A ks.length c] #[.int .i64 0, .string ⟨#[]⟩, .string ⟨#[]⟩, .slice none 0 0, .slice none 0 0] 57 25).past hb1).alloc (.cells #[.int .i64 K, .string ⟨#[]⟩, .string ⟨#[]⟩, .slice none 0 0, .slice none 0 0] 25)
 have BT:=Blk.new w1 25 #[.int .i64 K, .string ⟨#[]⟩, .string ⟨#[]⟩, .slice none 0 0, .slice none 0 0]
 have e0:=BE.cell 0
 have e1:=BE.cell 1
 have e2:=BE.cell 2
 have n1 : w.heap.size ≠ w1.heap.size:=by omega
 have n2 : w.heap.size + 1 ≠ w1.heap.size:=by omega
 have n3 : w1.heap.size ≠ w.heap.size + 1:=by omega
 have hLW:=Lib.hid ((hL.past hb2).past hbX)
 have HG:=Lib.hid (hG.past hbW)
 clear hb2 hb1 hb3 hbX hL hG HK
 go_wp2_with fail
 refine wp_region_noPanic ?_
 refine wp_region_held_drew (S:=Fe w w.heap.size #[.int .u8 (t : Nat), .string b, .slice A ks.length c] w1.heap.size 25 5 (w.heap.size + 1) #[.int .i64 0, .string ⟨#[]⟩, .string ⟨#[]⟩, .slice none 0 0, .slice none 0 0]) (by kernel_rfl) (show Fe w w.heap.size #[.int .u8 (t : Nat), .string b, .slice A ks.length c] w1.heap.size 25 5 (w.heap.size + 1) #[.int .i64 0, .string ⟨#[]⟩, .string ⟨#[]⟩, .slice none 0 0, .slice none 0 0] (w1.alloc (.cells #[.int .i64 K, .string ⟨#[]⟩, .string ⟨#[]⟩, .slice none 0 0, .slice none 0 0] 25)) from ⟨⟨BE, ⟨_, rfl, BT⟩, hbW⟩, BR⟩).drew (fun hH0=>?_)
 refine Rg.tk 0 10 (.agg #[.int .u8 (t : Nat), .string b, .slice A ks.length c]) rfl (by kernel_rfl) (fun _ _ _ h=>h) (fun w' h=>run_loadRow rfl rfl h.1.1 Tryz.underlying57 rfl infoE3) hH0 ?_
 refine Rg.tk 2 12 (.agg #[.int .u8 (t : Nat), .string b, .slice A ks.length c]) rfl (by kernel_rfl) (fun _ _ _ h=>h) (fun w' h=>run_loadRow rfl rfl h.1.1 Tryz.underlying57 rfl infoE3) hH0 ?_
 have BT0:=BT.drew
 have hL0:=hLW.out.drew
 refine Rg.cl 1 11 rfl (by kernel_rfl) 94 #[.agg #[.int .u8 (t : Nat), .string b, .slice A ks.length c], .int .i64 0] (by kernel_rfl) (textAt_any (.mk t b ks) 0 t b A ks.length c _ hL0) ?_
 rintro _ w2 ⟨rfl, hb4⟩
 have hH1:=hH0.past hb4
 refine ⟨_, rfl, hH1, ?_⟩
 refine Rg.frame _ (by simp only [Rg.pu, List.set]; rfl) ?_
 have BT1:=BT0.past hb4
 have hL1:=hL0.past hb4
 refine Rg.tk 4 14 (.pointer (some ⟨w1.heap.size, 1, none⟩)) rfl (by kernel_rfl) (fun _ _ _ h=>h) (fun _ _=>by kernel_rfl) hH1 ?_
 refine Rg.cl 3 13 rfl (by kernel_rfl) 94 #[.agg #[.int .u8 (t : Nat), .string b, .slice A ks.length c], .int .i64 1] (by kernel_rfl) (textAt_any (.mk t b ks) 1 t b A ks.length c _ hL1) ?_
 rintro _ w3 ⟨rfl, hb5⟩
 have hH2:=hH1.past hb5
 refine ⟨_, rfl, hH2, ?_⟩
 have BT2:=BT1.past hb5
 have hH3:=hH2.cell n1 n2 (by omega) 1 (.string (textAt (.mk t b ks) 0))
 refine Rg.sk 5 _ rfl (by kernel_rfl) (run_storeC (v:=.string (textAt (.mk t b ks) 0)) (by kernel_rfl) BT2 (by simp) rfl rfl rfl rfl rfl) hH3 ?_
 have BT3 : Blk _ w1.heap.size 25 #[.int .i64 K, .string (textAt (.mk t b ks) 0), .string ⟨#[]⟩, .slice none 0 0, .slice none 0 0]:=BT2.set_ 1 (.string (textAt (.mk t b ks) 0))
 refine Rg.tk 6 15 (.pointer (some ⟨w1.heap.size, 2, none⟩)) rfl (by kernel_rfl) (fun _ _ _ h=>h) (fun _ _=>by kernel_rfl) hH3 ?_
 refine Rg.frame _ (by simp only [Rg.pu, List.set]; rfl) ?_
 have hH4:=hH3.cell n1 n2 (by omega) 2 (.string (textAt (.mk t b ks) 1))
 refine Rg.sk 7 _ rfl (by kernel_rfl) (run_storeC (v:=.string (textAt (.mk t b ks) 1)) (by kernel_rfl) BT3 (by simp) rfl rfl rfl rfl rfl) hH4 ?_
 refine wpAnyH_done (by kernel_rfl) ?_ _
 refine NoPanic.normal ?_
 have B9 : Blk _ w1.heap.size 25 #[.int .i64 K, .string (textAt (.mk t b ks) 0), .string (textAt (.mk t b ks) 1), .slice none 0 0, .slice none 0 0]:=BT3.set_ 2 (.string (textAt (.mk t b ks) 1))
 have R9:=hH4.2
 have hb9:=hH4.1.2.2
 have hz9:=hs1
 have hl9 : Fi.Lies ((w3.setCell ⟨w1.heap.size, 1, none⟩ (.string (textAt (.mk t b ks) 0))).setCell ⟨w1.heap.size, 2, none⟩ (.string (textAt (.mk t b ks) 1))) (fun _=>False) (.mk K (textAt (.mk t b ks) 0) (textAt (.mk t b ks) 1) [] []) [.int .i64 K, .string (textAt (.mk t b ks) 0), .string (textAt (.mk t b ks) 1), .slice none 0 0, .slice none 0 0]:=Fi.Lies.shut (ks:=[]) (ss:=[]) (S:=none) (sc:=0) (A:=none) (c:=0) (ds:=fun _=>[]) (by have:=hz0; unfold maxLen; omega) (by have:=hz1; unfold maxLen; omega) (by simp) (by simp) (Fi.StrsAt.nil _ _ _) (by simp) (by simp) (by simp) (Fi.KidsAt.nil _ _ _ _)
 generalize ((w3.setCell ⟨w1.heap.size, 1, none⟩ (.string (textAt (.mk t b ks) 0))).setCell ⟨w1.heap.size, 2, none⟩ (.string (textAt (.mk t b ks) 1))) = w9 at B9 R9 hb9 hl9 hz9 ⊢
 have HB9:=Lib.hid B9
 have HR9:=Lib.hid R9
 have HL9:=Lib.hid hl9
 have HZ9:=Lib.hid hz9
 have Hb9:=Lib.hid hb9
 clear B9 R9 hb9 hl9 hz9
 have c0:=HB9.out.cell 0
 have c1:=HB9.out.cell 1
 have c2:=HB9.out.cell 2
 have c3:=HB9.out.cell 3
 have c4:=HB9.out.cell 4
 have r0:=HR9.out.cell 0
 have r1:=HR9.out.cell 1
 have r2:=HR9.out.cell 2
 have r3:=HR9.out.cell 3
 have r4:=HR9.out.cell 4
 have y0:=HR9.out.frozen 0
 have y1:=HR9.out.frozen 1
 have y2:=HR9.out.frozen 2
 have y3:=HR9.out.frozen 3
 have y4:=HR9.out.frozen 4
 go_wp2_with fail
 refine bodyPost_ret (results_cell_row rfl _ _ (w.heap.size + 1) _ #[.int .i64 K, .string (textAt (.mk t b ks) 0), .string (textAt (.mk t b ks) 1), .slice none 0 0, .slice none 0 0] (0, 0) _ rfl (S5_blk HR9.out) Tryz.underlying25 rfl infoF5) rfl (fil_tell Hb9.out (by omega) HL9.out (fun bb hb=>hb.elim))
set_option maxHeartbeats 4000000 in
theorem rf_subs (t : Nat) (b : ByteArray) (ks : List Be.El) (A : Option Addr) (c : Nat) (K : Int) (hK : filKind t = K) (h8 : K = 8) (w : World) (hfew : Few (.mk t b ks)) (hG : Glob w) (hL : Be.Lies w (· < w.heap.size) (.mk t b ks) [.int .u8 (t : Nat), .string b, .slice A ks.length c]) :
  Calls Tryz.prog 95 #[.agg #[.int .u8 (t : Nat), .string b, .slice A ks.length c]] w (NewFil w (rdFil (.mk t b ks))):=by
 have ht : t ≤ 255:=by obtain ⟨_, _, _, _, ht, _⟩:=hL.open_; exact ht
 have hb2:=two_below w #[.int .u8 (t : Nat), .string b, .slice A ks.length c] #[.int .i64 0, .string ⟨#[]⟩, .string ⟨#[]⟩, .slice none 0 0, .slice none 0 0] 57 25
 have HK:=Lib.hid (filKind_any t ht _ (hG.past hb2))
 have hrd : rdFil (.mk t b ks) = .mk K (textAt (.mk t b ks) 0) no (rdSubs no [] no (kidsE (kidE (.mk t b ks) 1))) []:=by rw [rdFil, hK]; rw [if_neg (by omega), if_neg (by omega), if_pos h8]; rfl
 rw [hK] at HK
 rw [hrd]
 have HO:=Lib.hid hfew.open_
 subst h8
 have hsz:=few_subs (hfew.kid 1)
 have hf1:=hfew.kid 1
 have hz0:=hfew.text 0
 clear hrd ht hK
 go_enter Tryz.func95, Tryz.ntmps95
 go_wp2_with fail
 refine HK.out.mono ?_
 rintro r w1 ⟨rfl, hb1⟩
 have hb3:=hb2.trans (hb1.mono hb2.size)
 have hs1 : w.heap.size + 2 ≤ w1.heap.size:=by have:=hb1.size; simp at this; omega
 have hbX:=hb1.alloc (hb1.size) (.cells #[.int .i64 8, .string ⟨#[]⟩, .string ⟨#[]⟩, .slice none 0 0, .slice none 0 0] 25)
 have hbW:=hb3.alloc hb3.size (.cells #[.int .i64 8, .string ⟨#[]⟩, .string ⟨#[]⟩, .slice none 0 0, .slice none 0 0] 25)
 have BE:=(((Blk.new w 57 #[.int .u8 (t : Nat), .string b, .slice A ks.length c]).alloc (.cells #[.int .i64 0, .string ⟨#[]⟩, .string ⟨#[]⟩, .slice none 0 0, .slice none 0 0] 25)).past hb1).alloc (.cells #[.int .i64 8, .string ⟨#[]⟩, .string ⟨#[]⟩, .slice none 0 0, .slice none 0 0] 25)
 have BR:=((new2 w #[.int .u8 (t : Nat), .string b, .slice A ks.length c] #[.int .i64 0, .string ⟨#[]⟩, .string ⟨#[]⟩, .slice none 0 0, .slice none 0 0] 57 25).past hb1).alloc (.cells #[.int .i64 8, .string ⟨#[]⟩, .string ⟨#[]⟩, .slice none 0 0, .slice none 0 0] 25)
 have BT:=Blk.new w1 25 #[.int .i64 8, .string ⟨#[]⟩, .string ⟨#[]⟩, .slice none 0 0, .slice none 0 0]
 have e0:=BE.cell 0
 have e1:=BE.cell 1
 have e2:=BE.cell 2
 have n1 : w.heap.size ≠ w1.heap.size:=by omega
 have n2 : w.heap.size + 1 ≠ w1.heap.size:=by omega
 have n3 : w1.heap.size ≠ w.heap.size + 1:=by omega
 have hLW:=Lib.hid ((hL.past hb2).past hbX)
 have HG:=Lib.hid (hG.past hbW)
 clear hb2 hb1 hb3 hbX hL hG HK
 go_wp2_with fail
 refine wp_region_noPanic ?_
 refine wp_region_held_drew (S:=Fe w w.heap.size #[.int .u8 (t : Nat), .string b, .slice A ks.length c] w1.heap.size 25 5 (w.heap.size + 1) #[.int .i64 0, .string ⟨#[]⟩, .string ⟨#[]⟩, .slice none 0 0, .slice none 0 0]) (by kernel_rfl) (show Fe w w.heap.size #[.int .u8 (t : Nat), .string b, .slice A ks.length c] w1.heap.size 25 5 (w.heap.size + 1) #[.int .i64 0, .string ⟨#[]⟩, .string ⟨#[]⟩, .slice none 0 0, .slice none 0 0] (w1.alloc (.cells #[.int .i64 8, .string ⟨#[]⟩, .string ⟨#[]⟩, .slice none 0 0, .slice none 0 0] 25)) from ⟨⟨BE, ⟨_, rfl, BT⟩, hbW⟩, BR⟩).drew (fun hH0=>?_)
 refine Rg.tk 0 30 (.agg #[.int .u8 (t : Nat), .string b, .slice A ks.length c]) rfl (by kernel_rfl) (fun _ _ _ h=>h) (fun w' h=>run_loadRow rfl rfl h.1.1 Tryz.underlying57 rfl infoE3) hH0 ?_
 refine Rg.tk 2 32 (.agg #[.int .u8 (t : Nat), .string b, .slice A ks.length c]) rfl (by kernel_rfl) (fun _ _ _ h=>h) (fun w' h=>run_loadRow rfl rfl h.1.1 Tryz.underlying57 rfl infoE3) hH0 ?_
 have BT0:=BT.drew
 have hL0:=hLW.out.drew
 refine Rg.cl 1 31 rfl (by kernel_rfl) 94 #[.agg #[.int .u8 (t : Nat), .string b, .slice A ks.length c], .int .i64 0] (by kernel_rfl) (textAt_any (.mk t b ks) 0 t b A ks.length c _ hL0) ?_
 rintro _ w2 ⟨rfl, hb4⟩
 have hH1:=hH0.past hb4
 refine ⟨_, rfl, hH1, ?_⟩
 refine Rg.frame _ (by simp only [Rg.pu, List.set]; rfl) ?_
 have BT1:=BT0.past hb4
 have hL1:=hL0.past hb4
 refine Rg.tk 5 35 (.pointer (some ⟨w1.heap.size, 1, none⟩)) rfl (by kernel_rfl) (fun _ _ _ h=>h) (fun _ _=>by kernel_rfl) hH1 ?_
 refine Rg.cl 3 33 rfl (by kernel_rfl) 91 #[.agg #[.int .u8 (t : Nat), .string b, .slice A ks.length c], .int .i64 1] (by kernel_rfl) (kid_any (.mk t b ks) 1 t b A ks.length c _ hL1) ?_
 rintro _ w3 ⟨t1, b1, A1, m1, c1, rfl, hb5, hLk⟩
 have hH2:=hH1.past hb5
 refine ⟨_, rfl, hH2, ?_⟩
 have BT2:=BT1.past hb5
 have hs3:=hH2.1.2.2.size
 have hT3:=BT2.lt
 have hR3:=hH2.2.lt
 refine Rg.cl 4 34 rfl (by kernel_rfl) 129 #[.agg #[.int .u8 (t1 : Nat), .string b1, .slice A1 m1 c1]] (by kernel_rfl) (readSubs_any (kidE (.mk t b ks) 1) t1 b1 A1 m1 c1 _ hf1 (hLk.past hb5)) ?_
 rintro _ w4 ⟨V, vc, rfl, hb6, hvc, hV⟩
 have hH3:=hH2.past hb6
 refine ⟨_, rfl, hH3, ?_⟩
 refine Rg.frame _ (by simp only [Rg.pu, List.set]; rfl) ?_
 have BT3:=BT2.past hb6
 have hH4:=hH3.cell n1 n2 (by omega) 1 (.string (textAt (.mk t b ks) 0))
 refine Rg.sk 6 _ rfl (by kernel_rfl) (run_storeC (v:=.string (textAt (.mk t b ks) 0)) (by kernel_rfl) BT3 (by simp) rfl rfl rfl rfl rfl) hH4 ?_
 have BT4 : Blk _ w1.heap.size 25 #[.int .i64 8, .string (textAt (.mk t b ks) 0), .string ⟨#[]⟩, .slice none 0 0, .slice none 0 0]:=BT3.set_ 1 (.string (textAt (.mk t b ks) 0))
 refine Rg.tk 7 36 (.pointer (some ⟨w1.heap.size, 3, none⟩)) rfl (by kernel_rfl) (fun _ _ _ h=>h) (fun _ _=>by kernel_rfl) hH4 ?_
 have hH5:=hH4.cell n1 n2 (by omega) 3 (.slice V (rdSubs no [] no (kidsE (kidE (.mk t b ks) 1))).length vc)
 refine Rg.sk 8 _ rfl (by kernel_rfl) (run_storeC (v:=.slice V (rdSubs no [] no (kidsE (kidE (.mk t b ks) 1))).length vc) (by kernel_rfl) BT4 (by simp) rfl rfl rfl rfl rfl) hH5 ?_
 refine Rg.frame _ (by simp only [Rg.pu, List.set]; rfl) ?_
 refine wpAnyH_done (by kernel_rfl) ?_ _
 refine NoPanic.normal ?_
 have B9 : Blk _ w1.heap.size 25 #[.int .i64 8, .string (textAt (.mk t b ks) 0), .string ⟨#[]⟩, .slice V (rdSubs no [] no (kidsE (kidE (.mk t b ks) 1))).length vc, .slice none 0 0]:=BT4.set_ 3 (.slice V (rdSubs no [] no (kidsE (kidE (.mk t b ks) 1))).length vc)
 have R9:=hH5.2
 have hb9:=hH5.1.2.2
 have hz9 : w3.heap.size ≤ ((w4.setCell ⟨w1.heap.size, 1, none⟩ (.string (textAt (.mk t b ks) 0))).setCell ⟨w1.heap.size, 3, none⟩ (.slice V (rdSubs no [] no (kidsE (kidE (.mk t b ks) 1))).length vc)).heap.size:=by have:=hb6.size; simp [World.setCell]; omega
 have hV9 : Fi.StrsAt ((w4.setCell ⟨w1.heap.size, 1, none⟩ (.string (textAt (.mk t b ks) 0))).setCell ⟨w1.heap.size, 3, none⟩ (.slice V (rdSubs no [] no (kidsE (kidE (.mk t b ks) 1))).length vc)) (fun bb=>w3.heap.size ≤ bb ∧ bb < ((w4.setCell ⟨w1.heap.size, 1, none⟩ (.string (textAt (.mk t b ks) 0))).setCell ⟨w1.heap.size, 3, none⟩ (.slice V (rdSubs no [] no (kidsE (kidE (.mk t b ks) 1))).length vc)).heap.size) V (rdSubs no [] no (kidsE (kidE (.mk t b ks) 1))):=hV.imp (fun bb hb=>⟨hb.1, by simp [World.setCell]; exact hb.2⟩) (fun p hp=>by
  have p1 : p.block ≠ w1.heap.size:=by have:=hp.1; omega
  rw [World.cell?_setCell_other _ _ _ _ (fun e=>p1 (by rw [← e])), World.cell?_setCell_other _ _ _ _ (fun e=>p1 (by rw [← e]))])
 have hl9 : Fi.Lies ((w4.setCell ⟨w1.heap.size, 1, none⟩ (.string (textAt (.mk t b ks) 0))).setCell ⟨w1.heap.size, 3, none⟩ (.slice V (rdSubs no [] no (kidsE (kidE (.mk t b ks) 1))).length vc)) (fun bb=>w3.heap.size ≤ bb ∧ bb < ((w4.setCell ⟨w1.heap.size, 1, none⟩ (.string (textAt (.mk t b ks) 0))).setCell ⟨w1.heap.size, 3, none⟩ (.slice V (rdSubs no [] no (kidsE (kidE (.mk t b ks) 1))).length vc)).heap.size) (.mk 8 (textAt (.mk t b ks) 0) no (rdSubs no [] no (kidsE (kidE (.mk t b ks) 1))) []) [.int .i64 8, .string (textAt (.mk t b ks) 0), .string ⟨#[]⟩, .slice V (rdSubs no [] no (kidsE (kidE (.mk t b ks) 1))).length vc, .slice none 0 0]:=Fi.Lies.shut (ks:=[]) (A:=none) (c:=0) (ds:=fun _=>[]) (by have:=hz0; unfold maxLen; omega) (by decide) hsz.1 hvc hV9 hsz.2 (by simp) (by simp) (Fi.KidsAt.nil _ _ _ _)
 generalize ((w4.setCell ⟨w1.heap.size, 1, none⟩ (.string (textAt (.mk t b ks) 0))).setCell ⟨w1.heap.size, 3, none⟩ (.slice V (rdSubs no [] no (kidsE (kidE (.mk t b ks) 1))).length vc)) = w9 at B9 R9 hb9 hl9 hz9 ⊢
 have HB9:=Lib.hid B9
 have HR9:=Lib.hid R9
 have HL9:=Lib.hid hl9
 have HZ9:=Lib.hid hz9
 have Hb9:=Lib.hid hb9
 clear B9 R9 hb9 hl9 hz9
 have c0:=HB9.out.cell 0
 have c1:=HB9.out.cell 1
 have c2:=HB9.out.cell 2
 have c3:=HB9.out.cell 3
 have c4:=HB9.out.cell 4
 have r0:=HR9.out.cell 0
 have r1:=HR9.out.cell 1
 have r2:=HR9.out.cell 2
 have r3:=HR9.out.cell 3
 have r4:=HR9.out.cell 4
 have y0:=HR9.out.frozen 0
 have y1:=HR9.out.frozen 1
 have y2:=HR9.out.frozen 2
 have y3:=HR9.out.frozen 3
 have y4:=HR9.out.frozen 4
 go_wp2_with fail
 refine bodyPost_ret (results_cell_row rfl _ _ (w.heap.size + 1) _ #[.int .i64 8, .string (textAt (.mk t b ks) 0), .string ⟨#[]⟩, .slice V (rdSubs no [] no (kidsE (kidE (.mk t b ks) 1))).length vc, .slice none 0 0] (0, 0) _ rfl (S5_blk HR9.out) Tryz.underlying25 rfl infoF5) rfl (fil_tell Hb9.out (by omega) HL9.out (fun bb hb=>⟨by have:=hb.1; omega, by have:=hb.1; omega, hb.2⟩))
set_option maxHeartbeats 4000000 in
theorem rf_pres (t : Nat) (b : ByteArray) (ks : List Be.El) (A : Option Addr) (c : Nat) (K : Int) (hK : filKind t = K) (h7 : K = 7) (w : World) (hfew : Few (.mk t b ks)) (hG : Glob w) (hL : Be.Lies w (· < w.heap.size) (.mk t b ks) [.int .u8 (t : Nat), .string b, .slice A ks.length c]) :
  Calls Tryz.prog 95 #[.agg #[.int .u8 (t : Nat), .string b, .slice A ks.length c]] w (NewFil w (rdFil (.mk t b ks))):=by
 have ht : t ≤ 255:=by obtain ⟨_, _, _, _, ht, _⟩:=hL.open_; exact ht
 have hb2:=two_below w #[.int .u8 (t : Nat), .string b, .slice A ks.length c] #[.int .i64 0, .string ⟨#[]⟩, .string ⟨#[]⟩, .slice none 0 0, .slice none 0 0] 57 25
 have HK:=Lib.hid (filKind_any t ht _ (hG.past hb2))
 have hrd : rdFil (.mk t b ks) = .mk K b no [] []:=by rw [rdFil, hK]; rw [if_neg (by omega), if_pos h7]
 rw [hK] at HK
 rw [hrd]
 have HO:=Lib.hid hfew.open_
 subst h7
 have hz0 : b.size ≤ 10000:=hfew.body
 clear hrd ht hK
 go_enter Tryz.func95, Tryz.ntmps95
 go_wp2_with fail
 refine HK.out.mono ?_
 rintro r w1 ⟨rfl, hb1⟩
 have hb3:=hb2.trans (hb1.mono hb2.size)
 have hs1 : w.heap.size + 2 ≤ w1.heap.size:=by have:=hb1.size; simp at this; omega
 have hbX:=hb1.alloc (hb1.size) (.cells #[.int .i64 7, .string ⟨#[]⟩, .string ⟨#[]⟩, .slice none 0 0, .slice none 0 0] 25)
 have hbW:=hb3.alloc hb3.size (.cells #[.int .i64 7, .string ⟨#[]⟩, .string ⟨#[]⟩, .slice none 0 0, .slice none 0 0] 25)
 have BE:=(((Blk.new w 57 #[.int .u8 (t : Nat), .string b, .slice A ks.length c]).alloc (.cells #[.int .i64 0, .string ⟨#[]⟩, .string ⟨#[]⟩, .slice none 0 0, .slice none 0 0] 25)).past hb1).alloc (.cells #[.int .i64 7, .string ⟨#[]⟩, .string ⟨#[]⟩, .slice none 0 0, .slice none 0 0] 25)
 have BR:=((new2 w #[.int .u8 (t : Nat), .string b, .slice A ks.length c] #[.int .i64 0, .string ⟨#[]⟩, .string ⟨#[]⟩, .slice none 0 0, .slice none 0 0] 57 25).past hb1).alloc (.cells #[.int .i64 7, .string ⟨#[]⟩, .string ⟨#[]⟩, .slice none 0 0, .slice none 0 0] 25)
 have BT:=Blk.new w1 25 #[.int .i64 7, .string ⟨#[]⟩, .string ⟨#[]⟩, .slice none 0 0, .slice none 0 0]
 have e0:=BE.cell 0
 have e1:=BE.cell 1
 have e2:=BE.cell 2
 have n1 : w.heap.size ≠ w1.heap.size:=by omega
 have n2 : w.heap.size + 1 ≠ w1.heap.size:=by omega
 have n3 : w1.heap.size ≠ w.heap.size + 1:=by omega
 have hLW:=Lib.hid ((hL.past hb2).past hbX)
 have HG:=Lib.hid (hG.past hbW)
 have hbB:=hb1
 have hbV:=hb3
 clear hb2 hb1 hb3 hbX hL hG HK
 have B9:=Blk.new w1 25 #[.int .i64 7, .string b, .string ⟨#[]⟩, .slice none 0 0, .slice none 0 0]
 have R9:=((new2 w #[.int .u8 (t : Nat), .string b, .slice A ks.length c] #[.int .i64 0, .string ⟨#[]⟩, .string ⟨#[]⟩, .slice none 0 0, .slice none 0 0] 57 25).past hbB).alloc (.cells #[.int .i64 7, .string b, .string ⟨#[]⟩, .slice none 0 0, .slice none 0 0] 25)
 have hb9:=hbV.alloc hbV.size (.cells #[.int .i64 7, .string b, .string ⟨#[]⟩, .slice none 0 0, .slice none 0 0] 25)
 have q0:=(new2 w #[.int .u8 (t : Nat), .string b, .slice A ks.length c] #[.int .i64 0, .string ⟨#[]⟩, .string ⟨#[]⟩, .slice none 0 0, .slice none 0 0] 57 25).past hbB
 have r0:=q0.cell 0
 have r1:=q0.cell 1
 have r2:=q0.cell 2
 have r3:=q0.cell 3
 have r4:=q0.cell 4
 have y0:=q0.frozen 0
 have y1:=q0.frozen 1
 have y2:=q0.frozen 2
 have y3:=q0.frozen 3
 have y4:=q0.frozen 4
 have hl9 : Fi.Lies (w1.alloc (.cells #[.int .i64 7, .string b, .string ⟨#[]⟩, .slice none 0 0, .slice none 0 0] 25)) (fun _=>False) (.mk 7 b no [] []) [.int .i64 7, .string b, .string ⟨#[]⟩, .slice none 0 0, .slice none 0 0]:=Fi.Lies.shut (ks:=[]) (ss:=[]) (S:=none) (sc:=0) (A:=none) (c:=0) (ds:=fun _=>[]) (by have : b.size ≤ 10000:=hz0; unfold maxLen; omega) (by decide) (by simp) (by simp) (Fi.StrsAt.nil _ _ _) (by simp) (by simp) (by simp) (Fi.KidsAt.nil _ _ _ _)
 have HR9:=Lib.hid R9
 have HL9:=Lib.hid hl9
 have Hb9:=Lib.hid hb9
 clear R9 hl9 hb9 q0 B9 BR BT r0 r1 r2 r3 r4 y0 y1 y2 y3 y4
 go_wp2_with (refine wpList_store_row rfl 25 _ _ rfl (w.heap.size + 1) #[.int .i64 7, .string b, .string ⟨#[]⟩, .slice none 0 0, .slice none 0 0] rfl rfl _ #[.int .i64 0, .string ⟨#[]⟩, .string ⟨#[]⟩, .slice none 0 0, .slice none 0 0] HR9.out infoF5 rfl (by simp [Value.oneCell']) ?_)
 refine bodyPost_ret (results_cell_row rfl _ _ (w.heap.size + 1) _ #[.int .i64 7, .string b, .string ⟨#[]⟩, .slice none 0 0, .slice none 0 0] (0, 0) _ rfl (setRow_heap _ _ _ #[.int .i64 7, .string b, .string ⟨#[]⟩, .slice none 0 0, .slice none 0 0] _ _ HR9.out) Tryz.underlying25 rfl infoF5) rfl (fil_tellR Hb9.out (by omega) HL9.out (fun bb hb=>hb.elim))
set_option maxHeartbeats 4000000 in
theorem rf_kids1 (t : Nat) (b : ByteArray) (ks : List Be.El) (ih : ∀ k ∈ ks, SaidRF k) (A : Option Addr) (c : Nat) (K : Int) (hK : filKind t = K) (hk : K = 1) (w : World) (hfew : Few (.mk t b ks)) (hG : Glob w) (hL : Be.Lies w (· < w.heap.size) (.mk t b ks) [.int .u8 (t : Nat), .string b, .slice A ks.length c]) :
  Calls Tryz.prog 95 #[.agg #[.int .u8 (t : Nat), .string b, .slice A ks.length c]] w (NewFil w (rdFil (.mk t b ks))):=by
 have ht : t ≤ 255:=by obtain ⟨_, _, _, _, ht, _⟩:=hL.open_; exact ht
 have hb2:=two_below w #[.int .u8 (t : Nat), .string b, .slice A ks.length c] #[.int .i64 0, .string ⟨#[]⟩, .string ⟨#[]⟩, .slice none 0 0, .slice none 0 0] 57 25
 have HK:=Lib.hid (filKind_any t ht _ (hG.past hb2))
 have hrd : rdFil (.mk t b ks) = .mk K no no [] (rdFils ks):=by rw [rdFil, hK]; rw [if_pos (by omega)]
 rw [hK] at HK
 rw [hrd]
 have HO:=Lib.hid hfew.open_
 subst hk
 clear hrd ht hK
 go_enter Tryz.func95, Tryz.ntmps95
 go_wp2_with fail
 refine HK.out.mono ?_
 rintro r w1 ⟨rfl, hb1⟩
 have hb3:=hb2.trans (hb1.mono hb2.size)
 have hs1 : w.heap.size + 2 ≤ w1.heap.size:=by have:=hb1.size; simp at this; omega
 have hbX:=hb1.alloc (hb1.size) (.cells #[.int .i64 1, .string ⟨#[]⟩, .string ⟨#[]⟩, .slice none 0 0, .slice none 0 0] 25)
 have hbW:=hb3.alloc hb3.size (.cells #[.int .i64 1, .string ⟨#[]⟩, .string ⟨#[]⟩, .slice none 0 0, .slice none 0 0] 25)
 have BE:=(((Blk.new w 57 #[.int .u8 (t : Nat), .string b, .slice A ks.length c]).alloc (.cells #[.int .i64 0, .string ⟨#[]⟩, .string ⟨#[]⟩, .slice none 0 0, .slice none 0 0] 25)).past hb1).alloc (.cells #[.int .i64 1, .string ⟨#[]⟩, .string ⟨#[]⟩, .slice none 0 0, .slice none 0 0] 25)
 have BR:=((new2 w #[.int .u8 (t : Nat), .string b, .slice A ks.length c] #[.int .i64 0, .string ⟨#[]⟩, .string ⟨#[]⟩, .slice none 0 0, .slice none 0 0] 57 25).past hb1).alloc (.cells #[.int .i64 1, .string ⟨#[]⟩, .string ⟨#[]⟩, .slice none 0 0, .slice none 0 0] 25)
 have BT:=Blk.new w1 25 #[.int .i64 1, .string ⟨#[]⟩, .string ⟨#[]⟩, .slice none 0 0, .slice none 0 0]
 have e0:=BE.cell 0
 have e1:=BE.cell 1
 have e2:=BE.cell 2
 have n1 : w.heap.size ≠ w1.heap.size:=by omega
 have n2 : w.heap.size + 1 ≠ w1.heap.size:=by omega
 have n3 : w1.heap.size ≠ w.heap.size + 1:=by omega
 have hLW:=Lib.hid ((hL.past hb2).past hbX)
 have HG:=Lib.hid (hG.past hbW)
 clear hb2 hb1 hb3 hbX hL hG HK
 have hfw:=hfew
 have HEF:=Lib.hid (eachOfF_any (.mk t b ks) ih t b A ks.length c _ hfew HG.out hLW.out)
 clear hLW
 go_wp2_with fail
 refine HEF.out.mono ?_
 rintro r w4 ⟨A2, c2, ds2, rfl, hb4, hc2, hK2⟩
 have hbV:=hbW.trans (hb4.mono hbW.size)
 have BT4:=BT.past hb4
 have BR4:=BR.past hb4
 have t4:=BT4.cell 4
 have z4:=BT4.frozen 4
 have B9 : Blk (w4.setCell ⟨w1.heap.size, 4, none⟩ (.slice A2 (rdFils ks).length c2)) w1.heap.size 25 #[.int .i64 1, .string ⟨#[]⟩, .string ⟨#[]⟩, .slice none 0 0, .slice A2 (rdFils ks).length c2]:=BT4.set_ 4 (.slice A2 (rdFils ks).length c2)
 have R9:=BR4.far (p:=⟨w1.heap.size, 4, none⟩) n2 (.slice A2 (rdFils ks).length c2)
 have hb9:=hbV.setCell (p:=⟨w1.heap.size, 4, none⟩) (by show _ ≤ w1.heap.size; omega) (.slice A2 (rdFils ks).length c2)
 have hs4 : w1.heap.size < (w1.alloc (.cells #[.int .i64 1, .string ⟨#[]⟩, .string ⟨#[]⟩, .slice none 0 0, .slice none 0 0] 25)).heap.size:=by simp
 have hK9 : Fi.KidsAt (w4.setCell ⟨w1.heap.size, 4, none⟩ (.slice A2 (rdFils ks).length c2)) (fun bb=>(w1.alloc (.cells #[.int .i64 1, .string ⟨#[]⟩, .string ⟨#[]⟩, .slice none 0 0, .slice none 0 0] 25)).heap.size ≤ bb ∧ bb < (w4.setCell ⟨w1.heap.size, 4, none⟩ (.slice A2 (rdFils ks).length c2)).heap.size) A2 (rdFils ks) ds2 :=
  hK2.imp (fun bb hb=>⟨hb.1, by simp [World.setCell]; exact hb.2⟩) (fun p hp=>World.cell?_setCell_other _ _ _ _ (fun e=>by
   have : p.block = w1.heap.size:=by rw [← e]
   have:=hp.1
   omega))
 have hln : (rdFils ks).length ≤ maxLen:=by rw [rdFils_map, List.length_map]; have:=hfew.len; unfold maxLen; show ks.length ≤ _; have h2 : (kidsE (.mk t b ks)).length = ks.length:=rfl; omega
 have hl9 : Fi.Lies (w4.setCell ⟨w1.heap.size, 4, none⟩ (.slice A2 (rdFils ks).length c2)) (fun bb=>(w1.alloc (.cells #[.int .i64 1, .string ⟨#[]⟩, .string ⟨#[]⟩, .slice none 0 0, .slice none 0 0] 25)).heap.size ≤ bb ∧ bb < (w4.setCell ⟨w1.heap.size, 4, none⟩ (.slice A2 (rdFils ks).length c2)).heap.size) (.mk 1 no no [] (rdFils ks)) [.int .i64 1, .string ⟨#[]⟩, .string ⟨#[]⟩, .slice none 0 0, .slice A2 (rdFils ks).length c2] :=
  Fi.Lies.shut (ss:=[]) (S:=none) (sc:=0) (by decide) (by decide) (by simp) (by simp) (Fi.StrsAt.nil _ _ _) (by simp) hln hc2 hK9
 have hz9:=hs1
 have HB9:=Lib.hid B9
 have HR9:=Lib.hid R9
 have HL9:=Lib.hid hl9
 have Hb9:=Lib.hid hb9
 clear B9 R9 hl9 hb9 hK9 BR4 e0 e1 e2 hK2
 go_wp2_with (first | (refine wpList_load_row rfl 25 _ rfl w1.heap.size rfl _ #[.int .i64 1, .string ⟨#[]⟩, .string ⟨#[]⟩, .slice none 0 0, .slice A2 (rdFils ks).length c2] (0, 0) _ HB9.out Tryz.underlying25 rfl infoF5 ?_) | (refine wpList_store_row rfl 25 _ _ rfl (w.heap.size + 1) #[.int .i64 1, .string ⟨#[]⟩, .string ⟨#[]⟩, .slice none 0 0, .slice A2 (rdFils ks).length c2] rfl rfl _ #[.int .i64 0, .string ⟨#[]⟩, .string ⟨#[]⟩, .slice none 0 0, .slice none 0 0] HR9.out infoF5 rfl (by simp [Value.oneCell']) ?_))
 refine bodyPost_ret (results_cell_row rfl _ _ (w.heap.size + 1) _ #[.int .i64 1, .string ⟨#[]⟩, .string ⟨#[]⟩, .slice none 0 0, .slice A2 (rdFils ks).length c2] (0, 0) _ rfl (setRow_heap _ _ _ #[.int .i64 1, .string ⟨#[]⟩, .string ⟨#[]⟩, .slice none 0 0, .slice A2 (rdFils ks).length c2] _ _ HR9.out) Tryz.underlying25 rfl infoF5) rfl (fil_tellR Hb9.out (by omega) HL9.out (fun bb hb=>⟨by have:=hb.1; omega, by have:=hb.1; omega, hb.2⟩))
set_option maxHeartbeats 4000000 in
theorem rf_kids2 (t : Nat) (b : ByteArray) (ks : List Be.El) (ih : ∀ k ∈ ks, SaidRF k) (A : Option Addr) (c : Nat) (K : Int) (hK : filKind t = K) (hk : K = 2) (w : World) (hfew : Few (.mk t b ks)) (hG : Glob w) (hL : Be.Lies w (· < w.heap.size) (.mk t b ks) [.int .u8 (t : Nat), .string b, .slice A ks.length c]) :
  Calls Tryz.prog 95 #[.agg #[.int .u8 (t : Nat), .string b, .slice A ks.length c]] w (NewFil w (rdFil (.mk t b ks))):=by
 have ht : t ≤ 255:=by obtain ⟨_, _, _, _, ht, _⟩:=hL.open_; exact ht
 have hb2:=two_below w #[.int .u8 (t : Nat), .string b, .slice A ks.length c] #[.int .i64 0, .string ⟨#[]⟩, .string ⟨#[]⟩, .slice none 0 0, .slice none 0 0] 57 25
 have HK:=Lib.hid (filKind_any t ht _ (hG.past hb2))
 have hrd : rdFil (.mk t b ks) = .mk K no no [] (rdFils ks):=by rw [rdFil, hK]; rw [if_pos (by omega)]
 rw [hK] at HK
 rw [hrd]
 have HO:=Lib.hid hfew.open_
 subst hk
 clear hrd ht hK
 go_enter Tryz.func95, Tryz.ntmps95
 go_wp2_with fail
 refine HK.out.mono ?_
 rintro r w1 ⟨rfl, hb1⟩
 have hb3:=hb2.trans (hb1.mono hb2.size)
 have hs1 : w.heap.size + 2 ≤ w1.heap.size:=by have:=hb1.size; simp at this; omega
 have hbX:=hb1.alloc (hb1.size) (.cells #[.int .i64 2, .string ⟨#[]⟩, .string ⟨#[]⟩, .slice none 0 0, .slice none 0 0] 25)
 have hbW:=hb3.alloc hb3.size (.cells #[.int .i64 2, .string ⟨#[]⟩, .string ⟨#[]⟩, .slice none 0 0, .slice none 0 0] 25)
 have BE:=(((Blk.new w 57 #[.int .u8 (t : Nat), .string b, .slice A ks.length c]).alloc (.cells #[.int .i64 0, .string ⟨#[]⟩, .string ⟨#[]⟩, .slice none 0 0, .slice none 0 0] 25)).past hb1).alloc (.cells #[.int .i64 2, .string ⟨#[]⟩, .string ⟨#[]⟩, .slice none 0 0, .slice none 0 0] 25)
 have BR:=((new2 w #[.int .u8 (t : Nat), .string b, .slice A ks.length c] #[.int .i64 0, .string ⟨#[]⟩, .string ⟨#[]⟩, .slice none 0 0, .slice none 0 0] 57 25).past hb1).alloc (.cells #[.int .i64 2, .string ⟨#[]⟩, .string ⟨#[]⟩, .slice none 0 0, .slice none 0 0] 25)
 have BT:=Blk.new w1 25 #[.int .i64 2, .string ⟨#[]⟩, .string ⟨#[]⟩, .slice none 0 0, .slice none 0 0]
 have e0:=BE.cell 0
 have e1:=BE.cell 1
 have e2:=BE.cell 2
 have n1 : w.heap.size ≠ w1.heap.size:=by omega
 have n2 : w.heap.size + 1 ≠ w1.heap.size:=by omega
 have n3 : w1.heap.size ≠ w.heap.size + 1:=by omega
 have hLW:=Lib.hid ((hL.past hb2).past hbX)
 have HG:=Lib.hid (hG.past hbW)
 clear hb2 hb1 hb3 hbX hL hG HK
 have hfw:=hfew
 have HEF:=Lib.hid (eachOfF_any (.mk t b ks) ih t b A ks.length c _ hfew HG.out hLW.out)
 clear hLW
 go_wp2_with fail
 refine HEF.out.mono ?_
 rintro r w4 ⟨A2, c2, ds2, rfl, hb4, hc2, hK2⟩
 have hbV:=hbW.trans (hb4.mono hbW.size)
 have BT4:=BT.past hb4
 have BR4:=BR.past hb4
 have t4:=BT4.cell 4
 have z4:=BT4.frozen 4
 have B9 : Blk (w4.setCell ⟨w1.heap.size, 4, none⟩ (.slice A2 (rdFils ks).length c2)) w1.heap.size 25 #[.int .i64 2, .string ⟨#[]⟩, .string ⟨#[]⟩, .slice none 0 0, .slice A2 (rdFils ks).length c2]:=BT4.set_ 4 (.slice A2 (rdFils ks).length c2)
 have R9:=BR4.far (p:=⟨w1.heap.size, 4, none⟩) n2 (.slice A2 (rdFils ks).length c2)
 have hb9:=hbV.setCell (p:=⟨w1.heap.size, 4, none⟩) (by show _ ≤ w1.heap.size; omega) (.slice A2 (rdFils ks).length c2)
 have hs4 : w1.heap.size < (w1.alloc (.cells #[.int .i64 2, .string ⟨#[]⟩, .string ⟨#[]⟩, .slice none 0 0, .slice none 0 0] 25)).heap.size:=by simp
 have hK9 : Fi.KidsAt (w4.setCell ⟨w1.heap.size, 4, none⟩ (.slice A2 (rdFils ks).length c2)) (fun bb=>(w1.alloc (.cells #[.int .i64 2, .string ⟨#[]⟩, .string ⟨#[]⟩, .slice none 0 0, .slice none 0 0] 25)).heap.size ≤ bb ∧ bb < (w4.setCell ⟨w1.heap.size, 4, none⟩ (.slice A2 (rdFils ks).length c2)).heap.size) A2 (rdFils ks) ds2 :=
  hK2.imp (fun bb hb=>⟨hb.1, by simp [World.setCell]; exact hb.2⟩) (fun p hp=>World.cell?_setCell_other _ _ _ _ (fun e=>by
   have : p.block = w1.heap.size:=by rw [← e]
   have:=hp.1
   omega))
 have hln : (rdFils ks).length ≤ maxLen:=by rw [rdFils_map, List.length_map]; have:=hfew.len; unfold maxLen; show ks.length ≤ _; have h2 : (kidsE (.mk t b ks)).length = ks.length:=rfl; omega
 have hl9 : Fi.Lies (w4.setCell ⟨w1.heap.size, 4, none⟩ (.slice A2 (rdFils ks).length c2)) (fun bb=>(w1.alloc (.cells #[.int .i64 2, .string ⟨#[]⟩, .string ⟨#[]⟩, .slice none 0 0, .slice none 0 0] 25)).heap.size ≤ bb ∧ bb < (w4.setCell ⟨w1.heap.size, 4, none⟩ (.slice A2 (rdFils ks).length c2)).heap.size) (.mk 2 no no [] (rdFils ks)) [.int .i64 2, .string ⟨#[]⟩, .string ⟨#[]⟩, .slice none 0 0, .slice A2 (rdFils ks).length c2] :=
  Fi.Lies.shut (ss:=[]) (S:=none) (sc:=0) (by decide) (by decide) (by simp) (by simp) (Fi.StrsAt.nil _ _ _) (by simp) hln hc2 hK9
 have hz9:=hs1
 have HB9:=Lib.hid B9
 have HR9:=Lib.hid R9
 have HL9:=Lib.hid hl9
 have Hb9:=Lib.hid hb9
 clear B9 R9 hl9 hb9 hK9 BR4 e0 e1 e2 hK2
 go_wp2_with (first | (refine wpList_load_row rfl 25 _ rfl w1.heap.size rfl _ #[.int .i64 2, .string ⟨#[]⟩, .string ⟨#[]⟩, .slice none 0 0, .slice A2 (rdFils ks).length c2] (0, 0) _ HB9.out Tryz.underlying25 rfl infoF5 ?_) | (refine wpList_store_row rfl 25 _ _ rfl (w.heap.size + 1) #[.int .i64 2, .string ⟨#[]⟩, .string ⟨#[]⟩, .slice none 0 0, .slice A2 (rdFils ks).length c2] rfl rfl _ #[.int .i64 0, .string ⟨#[]⟩, .string ⟨#[]⟩, .slice none 0 0, .slice none 0 0] HR9.out infoF5 rfl (by simp [Value.oneCell']) ?_))
 refine bodyPost_ret (results_cell_row rfl _ _ (w.heap.size + 1) _ #[.int .i64 2, .string ⟨#[]⟩, .string ⟨#[]⟩, .slice none 0 0, .slice A2 (rdFils ks).length c2] (0, 0) _ rfl (setRow_heap _ _ _ #[.int .i64 2, .string ⟨#[]⟩, .string ⟨#[]⟩, .slice none 0 0, .slice A2 (rdFils ks).length c2] _ _ HR9.out) Tryz.underlying25 rfl infoF5) rfl (fil_tellR Hb9.out (by omega) HL9.out (fun bb hb=>⟨by have:=hb.1; omega, by have:=hb.1; omega, hb.2⟩))
set_option maxHeartbeats 4000000 in
theorem rf_kids3 (t : Nat) (b : ByteArray) (ks : List Be.El) (ih : ∀ k ∈ ks, SaidRF k) (A : Option Addr) (c : Nat) (K : Int) (hK : filKind t = K) (hk : K = 3) (w : World) (hfew : Few (.mk t b ks)) (hG : Glob w) (hL : Be.Lies w (· < w.heap.size) (.mk t b ks) [.int .u8 (t : Nat), .string b, .slice A ks.length c]) :
  Calls Tryz.prog 95 #[.agg #[.int .u8 (t : Nat), .string b, .slice A ks.length c]] w (NewFil w (rdFil (.mk t b ks))):=by
 have ht : t ≤ 255:=by obtain ⟨_, _, _, _, ht, _⟩:=hL.open_; exact ht
 have hb2:=two_below w #[.int .u8 (t : Nat), .string b, .slice A ks.length c] #[.int .i64 0, .string ⟨#[]⟩, .string ⟨#[]⟩, .slice none 0 0, .slice none 0 0] 57 25
 have HK:=Lib.hid (filKind_any t ht _ (hG.past hb2))
 have hrd : rdFil (.mk t b ks) = .mk K no no [] (rdFils ks):=by rw [rdFil, hK]; rw [if_pos (by omega)]
 rw [hK] at HK
 rw [hrd]
 have HO:=Lib.hid hfew.open_
 subst hk
 clear hrd ht hK
 go_enter Tryz.func95, Tryz.ntmps95
 go_wp2_with fail
 refine HK.out.mono ?_
 rintro r w1 ⟨rfl, hb1⟩
 have hb3:=hb2.trans (hb1.mono hb2.size)
 have hs1 : w.heap.size + 2 ≤ w1.heap.size:=by have:=hb1.size; simp at this; omega
 have hbX:=hb1.alloc (hb1.size) (.cells #[.int .i64 3, .string ⟨#[]⟩, .string ⟨#[]⟩, .slice none 0 0, .slice none 0 0] 25)
 have hbW:=hb3.alloc hb3.size (.cells #[.int .i64 3, .string ⟨#[]⟩, .string ⟨#[]⟩, .slice none 0 0, .slice none 0 0] 25)
 have BE:=(((Blk.new w 57 #[.int .u8 (t : Nat), .string b, .slice A ks.length c]).alloc (.cells #[.int .i64 0, .string ⟨#[]⟩, .string ⟨#[]⟩, .slice none 0 0, .slice none 0 0] 25)).past hb1).alloc (.cells #[.int .i64 3, .string ⟨#[]⟩, .string ⟨#[]⟩, .slice none 0 0, .slice none 0 0] 25)
 have BR:=((new2 w #[.int .u8 (t : Nat), .string b, .slice A ks.length c] #[.int .i64 0, .string ⟨#[]⟩, .string ⟨#[]⟩, .slice none 0 0, .slice none 0 0] 57 25).past hb1).alloc (.cells #[.int .i64 3, .string ⟨#[]⟩, .string ⟨#[]⟩, .slice none 0 0, .slice none 0 0] 25)
 have BT:=Blk.new w1 25 #[.int .i64 3, .string ⟨#[]⟩, .string ⟨#[]⟩, .slice none 0 0, .slice none 0 0]
 have e0:=BE.cell 0
 have e1:=BE.cell 1
 have e2:=BE.cell 2
 have n1 : w.heap.size ≠ w1.heap.size:=by omega
 have n2 : w.heap.size + 1 ≠ w1.heap.size:=by omega
 have n3 : w1.heap.size ≠ w.heap.size + 1:=by omega
 have hLW:=Lib.hid ((hL.past hb2).past hbX)
 have HG:=Lib.hid (hG.past hbW)
 clear hb2 hb1 hb3 hbX hL hG HK
 have hfw:=hfew
 have HEF:=Lib.hid (eachOfF_any (.mk t b ks) ih t b A ks.length c _ hfew HG.out hLW.out)
 clear hLW
 go_wp2_with fail
 refine HEF.out.mono ?_
 rintro r w4 ⟨A2, c2, ds2, rfl, hb4, hc2, hK2⟩
 have hbV:=hbW.trans (hb4.mono hbW.size)
 have BT4:=BT.past hb4
 have BR4:=BR.past hb4
 have t4:=BT4.cell 4
 have z4:=BT4.frozen 4
 have B9 : Blk (w4.setCell ⟨w1.heap.size, 4, none⟩ (.slice A2 (rdFils ks).length c2)) w1.heap.size 25 #[.int .i64 3, .string ⟨#[]⟩, .string ⟨#[]⟩, .slice none 0 0, .slice A2 (rdFils ks).length c2]:=BT4.set_ 4 (.slice A2 (rdFils ks).length c2)
 have R9:=BR4.far (p:=⟨w1.heap.size, 4, none⟩) n2 (.slice A2 (rdFils ks).length c2)
 have hb9:=hbV.setCell (p:=⟨w1.heap.size, 4, none⟩) (by show _ ≤ w1.heap.size; omega) (.slice A2 (rdFils ks).length c2)
 have hs4 : w1.heap.size < (w1.alloc (.cells #[.int .i64 3, .string ⟨#[]⟩, .string ⟨#[]⟩, .slice none 0 0, .slice none 0 0] 25)).heap.size:=by simp
 have hK9 : Fi.KidsAt (w4.setCell ⟨w1.heap.size, 4, none⟩ (.slice A2 (rdFils ks).length c2)) (fun bb=>(w1.alloc (.cells #[.int .i64 3, .string ⟨#[]⟩, .string ⟨#[]⟩, .slice none 0 0, .slice none 0 0] 25)).heap.size ≤ bb ∧ bb < (w4.setCell ⟨w1.heap.size, 4, none⟩ (.slice A2 (rdFils ks).length c2)).heap.size) A2 (rdFils ks) ds2 :=
  hK2.imp (fun bb hb=>⟨hb.1, by simp [World.setCell]; exact hb.2⟩) (fun p hp=>World.cell?_setCell_other _ _ _ _ (fun e=>by
   have : p.block = w1.heap.size:=by rw [← e]
   have:=hp.1
   omega))
 have hln : (rdFils ks).length ≤ maxLen:=by rw [rdFils_map, List.length_map]; have:=hfew.len; unfold maxLen; show ks.length ≤ _; have h2 : (kidsE (.mk t b ks)).length = ks.length:=rfl; omega
 have hl9 : Fi.Lies (w4.setCell ⟨w1.heap.size, 4, none⟩ (.slice A2 (rdFils ks).length c2)) (fun bb=>(w1.alloc (.cells #[.int .i64 3, .string ⟨#[]⟩, .string ⟨#[]⟩, .slice none 0 0, .slice none 0 0] 25)).heap.size ≤ bb ∧ bb < (w4.setCell ⟨w1.heap.size, 4, none⟩ (.slice A2 (rdFils ks).length c2)).heap.size) (.mk 3 no no [] (rdFils ks)) [.int .i64 3, .string ⟨#[]⟩, .string ⟨#[]⟩, .slice none 0 0, .slice A2 (rdFils ks).length c2] :=
  Fi.Lies.shut (ss:=[]) (S:=none) (sc:=0) (by decide) (by decide) (by simp) (by simp) (Fi.StrsAt.nil _ _ _) (by simp) hln hc2 hK9
 have hz9:=hs1
 have HB9:=Lib.hid B9
 have HR9:=Lib.hid R9
 have HL9:=Lib.hid hl9
 have Hb9:=Lib.hid hb9
 clear B9 R9 hl9 hb9 hK9 BR4 e0 e1 e2 hK2
 go_wp2_with (first | (refine wpList_load_row rfl 25 _ rfl w1.heap.size rfl _ #[.int .i64 3, .string ⟨#[]⟩, .string ⟨#[]⟩, .slice none 0 0, .slice A2 (rdFils ks).length c2] (0, 0) _ HB9.out Tryz.underlying25 rfl infoF5 ?_) | (refine wpList_store_row rfl 25 _ _ rfl (w.heap.size + 1) #[.int .i64 3, .string ⟨#[]⟩, .string ⟨#[]⟩, .slice none 0 0, .slice A2 (rdFils ks).length c2] rfl rfl _ #[.int .i64 0, .string ⟨#[]⟩, .string ⟨#[]⟩, .slice none 0 0, .slice none 0 0] HR9.out infoF5 rfl (by simp [Value.oneCell']) ?_))
 refine bodyPost_ret (results_cell_row rfl _ _ (w.heap.size + 1) _ #[.int .i64 3, .string ⟨#[]⟩, .string ⟨#[]⟩, .slice none 0 0, .slice A2 (rdFils ks).length c2] (0, 0) _ rfl (setRow_heap _ _ _ #[.int .i64 3, .string ⟨#[]⟩, .string ⟨#[]⟩, .slice none 0 0, .slice A2 (rdFils ks).length c2] _ _ HR9.out) Tryz.underlying25 rfl infoF5) rfl (fil_tellR Hb9.out (by omega) HL9.out (fun bb hb=>⟨by have:=hb.1; omega, by have:=hb.1; omega, hb.2⟩))
theorem readFil_any (e : Be.El) : SaidRF e:=by
 refine Be.El.ind (p:=SaidRF) ?_ e
 intro t b ks ih t' b' A n c w hfew hG hL
 obtain ⟨A', c', ds, hcs, _⟩:=hL.open_
 simp only [List.cons.injEq, and_true, Value.slice.injEq, Value.string.injEq, Value.int.injEq, true_and] at hcs
 obtain ⟨h1, rfl, rfl, rfl, rfl⟩:=hcs
 obtain rfl : t' = t:=by omega
 by_cases h1 : filKind t' = 1
 ·exact rf_kids1 t' b' ks ih A c _ rfl h1 w hfew hG hL
 by_cases h2 : filKind t' = 2
 ·exact rf_kids2 t' b' ks ih A c _ rfl h2 w hfew hG hL
 by_cases h3 : filKind t' = 3
 ·exact rf_kids3 t' b' ks ih A c _ rfl h3 w hfew hG hL
 by_cases h7 : filKind t' = 7
 ·exact rf_pres t' b' ks A c _ rfl h7 w hfew hG hL
 by_cases h8 : filKind t' = 8
 ·exact rf_subs t' b' ks A c _ rfl h8 w hfew hG hL
 exact rf_plain t' b' ks A c _ rfl h1 h2 h3 h7 h8 w hfew hG hL
end Go.Proofs.YtconghaebebncaaGreatDoor.Ms
