import Derived.Test.YtconghaebebncaaGreatDoorZR6
import Derived.Deep.RegionWith
set_option linter.unusedVariables false
set_option maxRecDepth 100000
namespace Go.Proofs.YtconghaebebncaaGreatDoor.Fi
open Go.RowKit
def few : Nat → Fil → Bool
 | 0, _=>false
 | n + 1, .mk k a v ss ks=>decide (ks.length ≤ 8) && (decide (a.size ≤ 30) && (decide (v.size ≤ 80) && (decide (ss.length ≤ 24) && (ss.all (fun s=>decide (s.size ≤ 80)) && ks.all (few n)))))
theorem all_drop {α : Type} {p : α → Bool} {l : List α} {i : Nat} (h : i < l.length) : (l.drop i).all p = (p l[i] && (l.drop (i + 1)).all p):=by
 rw [List.drop_eq_getElem_cons h, List.all_cons]
def SaidFew (f : Fil) : Prop:=∀ (n : Nat) (d : Int) (x0 x1 x2 x3 x4 : Value) (w : World), Hid (d = 13 - n) → 0 ≤ d → d ≤ 13 → Lies w (· < w.heap.size) f [x0, x1, x2, x3, x4] →
  Calls Tryz.prog 19 #[.agg #[x0, x1, x2, x3, x4], .int .i64 d] w fun r w'=>r = .returned (.bool (few n f)) ∧ Below w.heap.size w w'
set_option maxHeartbeats 2000000 in
theorem few_any (f : Fil) : SaidFew f:=by
 refine ind ?_ f
 intro k a v ss ks ih n d x0 x1 x2 x3 x4 w hf hd0 hd hL
 obtain ⟨S, sc, A, c, ds, hcs, ha, hv, hsl, hsc, hs, hss, hl, hcl, hK⟩:=hL.open_
 simp only [List.cons.injEq, and_true] at hcs
 obtain ⟨rfl, rfl, rfl, rfl, rfl⟩:=hcs
 unfold maxLen at hl ha hv hsl
 cases n with
 | zero =>
  have hr:=Lib.hid (show few 0 (.mk k a v ss ks) = false by simp [few])
  have hd12 : 12 < d:=by have:=hf.out; omega
  clear ih
  go_enter Tryz.func19, Tryz.ntmps19
  go_wp2_with fail
  go_ret
  rw [hr.out]
  exact ⟨rfl, (Below.refl _ _).alloc (Nat.le_refl _) _⟩
 | succ n =>
 have hd12 : d ≤ 12:=by have:=hf.out; omega
 have hbad : (8 < (ks.length : Int) ∨ (ks.length : Int) ≤ 8 ∧ 30 < (a.size : Int) ∨ (ks.length : Int) ≤ 8 ∧ (a.size : Int) ≤ 30 ∧ 80 < (v.size : Int) ∨ (ks.length : Int) ≤ 8 ∧ (a.size : Int) ≤ 30 ∧ (v.size : Int) ≤ 80 ∧ 24 < (ss.length : Int)) →
   few (n + 1) (.mk k a v ss ks) = false:=by
  intro h
  unfold few
  rcases h with h | ⟨_, h⟩ | ⟨_, _, h⟩ | ⟨_, _, _, h⟩
  ·rw [decide_eq_false (by omega)]; rfl
  ·rw [decide_eq_false (p:=a.size ≤ 30) (by omega)]; simp
  ·rw [decide_eq_false (p:=v.size ≤ 80) (by omega)]; simp
  ·rw [decide_eq_false (p:=ss.length ≤ 24) (by omega)]; simp
 by_cases hb : (8 < (ks.length : Int) ∨ (ks.length : Int) ≤ 8 ∧ 30 < (a.size : Int) ∨ (ks.length : Int) ≤ 8 ∧ (a.size : Int) ≤ 30 ∧ 80 < (v.size : Int) ∨ (ks.length : Int) ≤ 8 ∧ (a.size : Int) ≤ 30 ∧ (v.size : Int) ≤ 80 ∧ 24 < (ss.length : Int))
 ·have hr:=Lib.hid (hbad hb)
  clear ih hbad
  rcases hb with h1 | ⟨h1, h2⟩ | ⟨h1, h2, h3⟩ | ⟨h1, h2, h3, h4⟩
  all_goals
   go_enter Tryz.func19, Tryz.ntmps19
   go_wp2_with fail
   go_ret
   rw [hr.out]
   exact ⟨rfl, (Below.refl _ _).alloc (Nat.le_refl _) _⟩
 have h1 : (ks.length : Int) ≤ 8:=by omega
 have h2 : (a.size : Int) ≤ 30:=by omega
 have h3 : (v.size : Int) ≤ 80:=by omega
 have h4 : (ss.length : Int) ≤ 24:=by omega
 have hr:=Lib.hid (show few (n + 1) (.mk k a v ss ks) = (ss.all (fun s=>decide (s.size ≤ 80)) && ks.all (few n)) by
  unfold few
  rw [decide_eq_true (by omega), decide_eq_true (p:=a.size ≤ 30) (by omega), decide_eq_true (p:=v.size ≤ 80) (by omega), decide_eq_true (p:=ss.length ≤ 24) (by omega)]
  simp)
 have Ih:=Lib.hid ih
 have HS:=Lib.hid hs
 clear ih hbad hb hL hs
 go_enter Tryz.func19, Tryz.ntmps19
 go_wp2_with fail
 go_loopw [5] (fun i wr=>∃ q : Nat, q ≤ ss.length ∧ i = .int .i64 q ∧ Hid (ss.all (fun s=>decide (s.size ≤ 80)) = (ss.drop q).all (fun s=>decide (s.size ≤ 80))) ∧ wr = w.alloc (.cells #[.int .i64 k, .string a, .string v, .slice S ss.length sc, .slice A ks.length c] 25)) (fun i wr=>ss.length - (intOf i).toNat)
 case atStart=>exact ⟨0, Nat.zero_le _, rfl, rfl, rfl⟩
 case round =>
  obtain ⟨q, hq, rfl, hE, rfl⟩:=hrel
  have hb0 : Below w.heap.size w (w.alloc (.cells #[.int .i64 k, .string a, .string v, .slice S ss.length sc, .slice A ks.length c] 25)):=(Below.refl _ _).alloc (Nat.le_refl _) _
  by_cases hlt : q < ss.length
  ·obtain ⟨ad, rfl, hp, hc⟩:=HS.out (by omega)
   have f0:=batA hb0 (by rw [block_of_add]; exact hp) (hc q hlt)
   have hE2:=hE.out
   rw [all_drop hlt] at hE2
   generalize ss[q] = s at f0 hE2
   have HE:=Lib.hid hE2
   clear hE hE2 hc
   by_cases h80 : 80 < (s.size : Int)
   ·go_wp2_with fail
    go_ret
    refine ⟨ret_bool ?_, hb0⟩
    rw [hr.out, HE.out, decide_eq_false (by omega)]; rfl
   ·have h80' : (s.size : Int) ≤ 80:=by omega
    clear h80
    go_wp2_with fail
    refine ⟨⟨q + 1, by omega, by go_num, ?_, trivial⟩, by simp [intOf]; omega⟩
    show _ = _
    rw [HE.out, decide_eq_true (by omega)]; rfl
  ·have hE2:=hE.out
   rw [List.drop_eq_nil_of_le (by omega), List.all_nil] at hE2
   have HR:=Lib.hid (show few (n + 1) (.mk k a v ss ks) = ks.all (few n) by rw [hr.out, hE2]; rfl)
   have hq2 : q = ss.length:=by omega
   subst hq2
   clear hE hE2 hr hb0
   go_wp2_with fail
   go_loopw [6] (fun i wr=>∃ q : Nat, q ≤ ks.length ∧ i = .int .i64 q ∧ Hid (few (n + 1) (.mk k a v ss ks) = (ks.drop q).all (few n)) ∧ Blk wr w.heap.size 25 #[.int .i64 k, .string a, .string v, .slice S ss.length sc, .slice A ks.length c] ∧ Below w.heap.size w wr) (fun i wr=>ks.length - (intOf i).toNat)
   case atStart=>exact ⟨0, Nat.zero_le _, rfl, HR, Blk.new _ _ _, (Below.refl _ _).alloc (Nat.le_refl _) _⟩
   case round =>
    obtain ⟨q, hq, rfl, hE, B, hb⟩:=hrel
    have hs:=hb.size
    have hblt:=B.lt
    have b4 : wr.cell? ⟨w.heap.size, 4, none⟩ = some (.slice A ks.length c):=B.cell 4
    by_cases hlt : q < ks.length
    ·obtain ⟨ad, k', a', v', S', m', d', A', n', c', rfl, hp, f0, f1, f2, f3, f4, hL⟩:=hK.kid hb hlt
     have hE2:=hE.out
     rw [all_drop hlt] at hE2
     have H:=Ih.out _ (List.getElem_mem hlt) n (d + 1) _ _ _ _ _ wr (by show _ = _; have:=hf.out; omega) (by omega) (by omega) hL
     generalize few n ks[q] = t at hE2 H
     have HE:=Lib.hid hE2
     have HH:=Lib.hid H
     clear hE hE2 H hL
     go_wp2_with fail
     refine HH.out.mono ?_
     rintro e w1 ⟨rfl, hb1⟩
     have hb2:=hb.trans (hb1.mono hs)
     have B1:=B.past hb1
     clear hb1
     cases t with
     | false =>
      go_wp2_with fail
      go_ret
      refine ⟨ret_bool ?_, hb2⟩
      rw [HE.out]; rfl
     | true =>
      go_wp2_with fail
      refine ⟨⟨q + 1, by omega, by go_num, HE.out, B1, hb2⟩, by simp [intOf]; omega⟩
    ·have hE2:=hE.out
     rw [List.drop_eq_nil_of_le (by omega), List.all_nil] at hE2
     have HE:=Lib.hid hE2
     clear hE hE2
     go_wp2_with fail
     go_ret
     exact ⟨ret_bool HE.out.symm, hb⟩
end Go.Proofs.YtconghaebebncaaGreatDoor.Fi
namespace Go.Proofs.YtconghaebebncaaGreatDoor.Fi
open Go.RowKit
theorem toList_eq (a b : ByteArray) : (a.toList == b.toList) = decide (a = b):=by
 rw [Bool.eq_iff_iff]
 simp only [beq_iff_eq, decide_eq_true_eq]
 constructor
 ·intro h
  have : a.data.toList = b.data.toList:=by simpa [ByteArray.toList_eq] using h
  cases a; cases b
  simp only [ByteArray.mk.injEq]
  simpa using this
 ·intro h; rw [h]
theorem StrsAt.row' {w : World} {P : Nat → Prop} {A : Option Addr} {ss : List ByteArray} (h : StrsAt w P A ss) (h0 : 0 < ss.length) : ∃ b o, A = some ⟨b, o, none⟩ ∧ P b ∧ ∀ i (h : i < ss.length), w.cell? ⟨b, o + i, none⟩ = some (.string ss[i]):=by
 obtain ⟨ad, e, hp, hc⟩:=h h0
 have h1:=hc 0 h0
 obtain ⟨b, o, sp⟩:=ad
 have hs : sp = none:=by
  unfold Addr.add at h1
  rw [if_pos rfl] at h1
  unfold World.cell? at h1
  split at h1
  ·cases sp with
   | none=>rfl
   | some x=>simp at h1
  ·cases h1
 subst hs
 refine ⟨b, o, e, hp, fun i hi=>?_⟩
 have:=hc i hi
 rwa [Addr.add_lit] at this
theorem drewN_below (B n : Nat) (w : World) : Below B w (w.drewN n):=⟨rfl, rfl, rfl, Nat.le_refl _, fun _ _=>rfl⟩
theorem eqS_any (ss ss' : List ByteArray) (S S' : Option Addr) (c c' : Nat) (w : World) (h : StrsAt w (· < w.heap.size) S ss) (h' : StrsAt w (· < w.heap.size) S' ss') (hl : ss.length ≤ maxLen) (hl' : ss'.length ≤ maxLen) :
  Calls Tryz.prog 38 #[.slice S ss.length c, .slice S' ss'.length c'] w fun e w'=>e = .returned (.bool (decide (ss = ss'))) ∧ Below w.heap.size w w':=by
 unfold maxLen at hl hl'
 by_cases hn : ss.length = ss'.length
 ·by_cases h0 : ss.length = 0
  ·rw [h0]
   refine (Tryz.slices_Equal_string_empty S S' c ss'.length c' w (by omega)).mono ?_
   rintro e w' ⟨rfl, rfl⟩
   refine ⟨ret_bool ?_, Below.refl _ _⟩
   rw [decide_eq_true (by omega), List.eq_nil_of_length_eq_zero h0, List.eq_nil_of_length_eq_zero (l:=ss') (by omega)]; rfl
  ·obtain ⟨b, o, rfl, hb, hc⟩:=h.row' (by omega)
   obtain ⟨b', o', rfl, hb', hc'⟩:=h'.row' (by omega)
   refine (Tryz.slices_Equal_string b o ss.length c b' o' ss'.length c' ss ss' w (Nat.le_refl _) (Nat.le_refl _) (by omega) (by omega) (fun j hj=>?_) (fun j hj=>?_)).mono ?_
   ·rw [hc j hj, List.getD_eq_getElem?_getD, List.getElem?_eq_getElem hj, Option.getD_some]
   ·rw [hc' j hj, List.getD_eq_getElem?_getD, List.getElem?_eq_getElem hj, Option.getD_some]
   ·rintro e w' ⟨rfl, q, rfl⟩
    exact ⟨by rw [List.take_length, List.take_length], drewN_below _ _ _⟩
 ·refine (Tryz.slices_Equal_string_lens S S' ss.length c ss'.length c' w hn).mono ?_
  rintro e w' ⟨rfl, rfl⟩
  exact ⟨ret_bool (by rw [decide_eq_false]; intro e; exact hn (by rw [e])), Below.refl _ _⟩
def SaidSame (f : Fil) : Prop:=∀ (g : Fil) (x0 x1 x2 x3 x4 y0 y1 y2 y3 y4 : Value) (w : World), Lies w (· < w.heap.size) f [x0, x1, x2, x3, x4] → Lies w (· < w.heap.size) g [y0, y1, y2, y3, y4] →
  Calls Tryz.prog 39 #[.agg #[x0, x1, x2, x3, x4], .agg #[y0, y1, y2, y3, y4]] w fun r w'=>r = .returned (.bool (eqF f g)) ∧ Below w.heap.size w w'
set_option maxHeartbeats 2000000 in
theorem eqK_any (ks : List Fil) (ih : ∀ f ∈ ks, SaidSame f) (ks' : List Fil) (A A' : Option Addr) (c c' : Nat) (ds ds' : Nat → List Value) (w : World)
  (hK : KidsAt w (· < w.heap.size) A ks ds) (hK' : KidsAt w (· < w.heap.size) A' ks' ds') (hl : ks.length ≤ maxLen) (hl' : ks'.length ≤ maxLen) :
  Calls Tryz.prog 69 #[.slice A ks.length c, .slice A' ks'.length c', .func (.func 39) #[] #[]] w
   fun r w'=>r = .returned (.bool (eqFs ks ks')) ∧ Below w.heap.size w w':=by
 unfold maxLen at hl hl'
 by_cases hn : ks.length = ks'.length
 ·have Ih:=Lib.hid ih
  have HN:=Lib.hid hn
  rw [← hn]
  clear ih hn hl'
  go_enter Tryz.func69, Tryz.ntmps69
  go_wp2_with fail
  go_loopw [17] (fun i wr=>∃ q : Nat, q ≤ ks.length ∧ i = .int .i64 q ∧ Hid (eqFs ks ks' = eqFs (ks.drop q) (ks'.drop q)) ∧ Below w.heap.size w wr) (fun i wr=>ks.length - (intOf i).toNat)
  case atStart=>exact ⟨0, Nat.zero_le _, rfl, rfl, Below.refl _ _⟩
  case round =>
   obtain ⟨q, hq, rfl, hE, hb⟩:=hrel
   have hs:=hb.size
   by_cases hlt : q < ks.length
   ·obtain ⟨ad, k', a', v', S', m', d', B', n', e', rfl, hp, f0, f1, f2, f3, f4, hL⟩:=hK.kid hb hlt
    have hb0:=hb.alloc hs (.cells #[.int .i64 k', .string a', .string v', .slice S' m' d', .slice B' n' e'] 25)
    obtain ⟨ad2, k2, a2, v2, S2, m2, d2, B2, n2, e2, rfl, hp2, g0, g1, g2, g3, g4, hL2⟩:=hK'.kid hb0 (i:=q) (by have:=HN.out; omega)
    have hb1:=hb0.alloc (by simp; omega) (.cells #[.int .i64 k2, .string a2, .string v2, .slice S2 m2 d2, .slice B2 n2 e2] 25)
    have hE2:=hE.out
    rw [eqFs_drop hlt (by have:=HN.out; omega)] at hE2
    have H:=Ih.out _ (List.getElem_mem hlt) _ _ _ _ _ _ _ _ _ _ _ _ ((hL.alloc (.cells #[.int .i64 k', .string a', .string v', .slice S' m' d', .slice B' n' e'] 25)).alloc (.cells #[.int .i64 k2, .string a2, .string v2, .slice S2 m2 d2, .slice B2 n2 e2] 25)) (hL2.alloc (.cells #[.int .i64 k2, .string a2, .string v2, .slice S2 m2 d2, .slice B2 n2 e2] 25))
    generalize eqF ks[q] (ks'[q]'(by have:=HN.out; omega)) = t at hE2 H
    have HE:=Lib.hid hE2
    have HH:=Lib.hid H
    clear hE hE2 H hL hL2 hb0
    cases t with
    | false =>
     go_wp2_with fail
     refine HH.out.mono ?_
     rintro e w1 ⟨rfl, hb2⟩
     have hb3:=hb1.trans (hb2.mono (by simp; omega))
     go_wp2_with fail
     go_ret
     refine ⟨ret_bool ?_, hb3⟩
     rw [HE.out]; rfl
    | true =>
     go_wp2_with fail
     refine HH.out.mono ?_
     rintro e w1 ⟨rfl, hb2⟩
     have hb3:=hb1.trans (hb2.mono (by simp; omega))
     go_wp2_with fail
     refine ⟨⟨q + 1, by omega, by go_num, HE.out, hb3⟩, by simp [intOf]; omega⟩
   ·have hE2:=hE.out
    rw [List.drop_eq_nil_of_le (by omega), List.drop_eq_nil_of_le (by have:=HN.out; omega), eqFs] at hE2
    have HE:=Lib.hid hE2
    clear hE hE2
    go_wp2_with fail
    go_ret
    exact ⟨ret_bool HE.out.symm, hb⟩
 ·have hr:=Lib.hid (eqFs_len hn)
  have h1 : ((ks.length : Int) != ks'.length) = true:=by rw [bne_iff_ne]; omega
  clear ih hn
  go_enter Tryz.func69, Tryz.ntmps69
  go_wp2_with fail
  go_ret
  exact ⟨ret_bool hr.out.symm, Below.refl _ _⟩
theorem eqF_bool (k k' : Int) (a a' v v' : ByteArray) (ss ss' : List ByteArray) (ks ks' : List Fil) : eqF (.mk k a v ss ks) (.mk k' a' v' ss' ks') = (decide (k = k') && (decide (a = a') && (decide (v = v') && (decide (ss = ss') && eqFs ks ks')))):=by rw [eqF]
set_option maxHeartbeats 4000000 in
theorem same_any (f : Fil) : SaidSame f:=by
 refine ind ?_ f
 intro k a v ss ks ih g x0 x1 x2 x3 x4 y0 y1 y2 y3 y4 w hL hL'
 obtain ⟨k', a', v', ss', ks'⟩:=g
 obtain ⟨S, sc, A, c, ds, hcs, ha, hv, hsl, hsc, hs, hss, hl, hcl, hK⟩:=hL.open_
 obtain ⟨S', sc', A', c', ds', hcs', ha', hv', hsl', hsc', hs', hss', hl', hcl', hK'⟩:=hL'.open_
 simp only [List.cons.injEq, and_true] at hcs hcs'
 obtain ⟨rfl, rfl, rfl, rfl, rfl⟩:=hcs
 obtain ⟨rfl, rfl, rfl, rfl, rfl⟩:=hcs'
 have hb0 : Below w.heap.size w ((w.alloc (.cells #[.int .i64 k, .string a, .string v, .slice S ss.length sc, .slice A ks.length c] 25)).alloc (.cells #[.int .i64 k', .string a', .string v', .slice S' ss'.length sc', .slice A' ks'.length c'] 25)) :=
  ((Below.refl _ _).alloc (Nat.le_refl _) _).alloc (by simp) _
 have hr:=eqF_bool k k' a a' v v' ss ss' ks ks'
 by_cases h1 : k = k'
 ·subst h1
  by_cases h2 : a = a'
  ·subst h2
   by_cases h3 : v = v'
   ·subst h3
    have CS:=Lib.hid (eqS_any ss ss' S S' sc sc' _ (hs.past hb0) (hs'.past hb0) hsl hsl')
    have CK:=fun w1 (hb : Below ((w.alloc (.cells #[.int .i64 k, .string a, .string v, .slice S ss.length sc, .slice A ks.length c] 25)).alloc (.cells #[.int .i64 k, .string a, .string v, .slice S' ss'.length sc', .slice A' ks'.length c'] 25)).heap.size ((w.alloc (.cells #[.int .i64 k, .string a, .string v, .slice S ss.length sc, .slice A ks.length c] 25)).alloc (.cells #[.int .i64 k, .string a, .string v, .slice S' ss'.length sc', .slice A' ks'.length c'] 25)) w1) =>
     eqK_any ks ih ks' A A' c c' ds ds' w1 (hK.past (hb0.trans (hb.mono hb0.size))) (hK'.past (hb0.trans (hb.mono hb0.size))) hl hl'
    have hcell:=fun w1 (hb : Below ((w.alloc (.cells #[.int .i64 k, .string a, .string v, .slice S ss.length sc, .slice A ks.length c] 25)).alloc (.cells #[.int .i64 k, .string a, .string v, .slice S' ss'.length sc', .slice A' ks'.length c'] 25)).heap.size ((w.alloc (.cells #[.int .i64 k, .string a, .string v, .slice S ss.length sc, .slice A ks.length c] 25)).alloc (.cells #[.int .i64 k, .string a, .string v, .slice S' ss'.length sc', .slice A' ks'.length c'] 25)) w1) =>
     And.intro ((((Blk.new w 25 #[.int .i64 k, .string a, .string v, .slice S ss.length sc, .slice A ks.length c]).alloc (.cells #[.int .i64 k, .string a, .string v, .slice S' ss'.length sc', .slice A' ks'.length c'] 25)).past hb).cell 4)
      (((Blk.new (w.alloc (.cells #[.int .i64 k, .string a, .string v, .slice S ss.length sc, .slice A ks.length c] 25)) 25 #[.int .i64 k, .string a, .string v, .slice S' ss'.length sc', .slice A' ks'.length c']).past hb).cell 4)
    rw [decide_eq_true (p:=k = k) rfl, decide_eq_true (p:=a = a) rfl, decide_eq_true (p:=v = v) rfl, Bool.true_and, Bool.true_and, Bool.true_and] at hr
    generalize decide (ss = ss') = t at CS hr
    generalize eqFs ks ks' = u at CK hr
    have HK:=Lib.hid CK
    have HR:=Lib.hid hr
    have HCell:=Lib.hid hcell
    clear CK hr hcell ih hL hL' hs hs' hss hss' hK hK'
    cases t with
    | false =>
     go_enter Tryz.func39, Tryz.ntmps39
     go_wp2_with fail
     refine CS.out.mono ?_
     rintro e w1 ⟨rfl, hb1⟩
     go_wp2_with fail
     go_ret
     exact ⟨ret_bool HR.out.symm, hb0.trans (hb1.mono hb0.size)⟩
    | true =>
     go_enter Tryz.func39, Tryz.ntmps39
     go_wp2_with fail
     refine CS.out.mono ?_
     rintro e w1 ⟨rfl, hb1⟩
     obtain ⟨c4, d4⟩:=HCell.out w1 hb1
     have c4' : w1.cell? ⟨w.heap.size, 4, none⟩ = some (.slice A ks.length c):=c4
     have d4' : w1.cell? ⟨w.heap.size + 1, 4, none⟩ = some (.slice A' ks'.length c'):=by simpa using d4
     clear c4 d4
     go_wp2_with fail
     refine (HK.out w1 hb1).mono ?_
     rintro e w2 ⟨rfl, hb2⟩
     go_wp2_with fail
     go_ret
     exact ⟨ret_bool HR.out.symm, hb0.trans ((hb1.mono hb0.size).trans (hb2.mono (Nat.le_trans hb0.size hb1.size)))⟩
   ·have HR:=Lib.hid (show eqF (.mk k a v ss ks) (.mk k a v' ss' ks') = false by rw [hr, decide_eq_false h3]; simp)
    have h5 : (v.toList == v'.toList) = false:=by rw [toList_eq, decide_eq_false h3]
    clear hr ih hL hL' h3
    go_enter Tryz.func39, Tryz.ntmps39
    go_wp2_with fail
    go_ret
    exact ⟨ret_bool HR.out.symm, hb0⟩
  ·have HR:=Lib.hid (show eqF (.mk k a v ss ks) (.mk k a' v' ss' ks') = false by rw [hr, decide_eq_false h2]; simp)
   have h5 : (a.toList == a'.toList) = false:=by rw [toList_eq, decide_eq_false h2]
   clear hr ih hL hL' h2
   go_enter Tryz.func39, Tryz.ntmps39
   go_wp2_with fail
   go_ret
   exact ⟨ret_bool HR.out.symm, hb0⟩
 ·have HR:=Lib.hid (show eqF (.mk k a v ss ks) (.mk k' a' v' ss' ks') = false by rw [hr, decide_eq_false h1]; rfl)
  have h5 : (k == k') = false:=by rw [beq_eq_false_iff_ne]; exact h1
  clear hr ih hL hL' h1
  go_enter Tryz.func39, Tryz.ntmps39
  go_wp2_with fail
  go_ret
  exact ⟨ret_bool HR.out.symm, hb0⟩
end Go.Proofs.YtconghaebebncaaGreatDoor.Fi
