import Derived.Test.YtbdpkfgllnbheaaGreatDoorZQ18
import Derived.Test.YtbdpkfgllnbheaaGreatDoorZQ21
set_option linter.unusedVariables false
set_option maxRecDepth 100000
namespace Go.Proofs.YtbdpkfgllnbheaaGreatDoor.Ch
open Go.RowKit
attribute [local go_sem ↓] loadAtG
theorem eqMos_len : ∀ {a b : List Mo}, a.length ≠ b.length → eqMos a b = false
 | [], [], h=>absurd rfl h
 | [], _ :: _, _=>by simp [eqMos]
 | _ :: _, [], _=>by simp [eqMos]
 | x :: a, y :: b, h=>by simp [eqMos, eqMos_len (a:=a) (b:=b) (by simpa using h)]
theorem eqMos_drop {a b : List Mo} {i : Nat} (h : i < a.length) (h' : i < b.length) : eqMos (a.drop i) (b.drop i) = (eqMo a[i] b[i] && eqMos (a.drop (i + 1)) (b.drop (i + 1))):=by
 rw [List.drop_eq_getElem_cons h, List.drop_eq_getElem_cons h', eqMos]
theorem cn_eq {a b : Cn} (h : eqCn a b = true) : (a.t == b.t) = true ∧ (a.s == b.s) = true ∧ (a.r == b.r) = true:=by
 unfold eqCn at h
 simpa using h
theorem cn_ne {a b : Cn} (h : eqCn a b = false) : (a.t == b.t) = false ∨ (a.t == b.t) = true ∧ (a.s == b.s) = false ∨ (a.t == b.t) = true ∧ (a.s == b.s) = true ∧ (a.r == b.r) = false:=by
 unfold eqCn at h
 rw [decide_eq_false_iff_not] at h
 simp only [beq_eq_false_iff_ne, beq_iff_eq, ne_eq]
 omega
set_option maxHeartbeats 2000000 in
theorem eqR_any (a b : List Nm.Ava) (A B : Option Addr) (c c' : Nat) (w : World) (ha : RAt w (· < w.heap.size) A a) (hb : RAt w (· < w.heap.size) B b) (hl : a.length ≤ maxLen) :
  Calls Tryz.prog 31 #[.slice A a.length c, .slice B b.length c'] w fun e w'=>e = .returned (.bool (decide (a = b))) ∧ Below w.heap.size w w':=by
 unfold maxLen at hl
 by_cases hlen : a.length = b.length
 ·have H0 : Hid (decide (a = b) = decide (a.drop 0 = b.drop 0)):=rfl
  rw [← hlen]
  have HL:=Lib.hid hlen
  clear hlen
  go_enter Tryz.func31, Tryz.ntmps31
  go_wp2_with fail
  go_loopw [13] (fun i wr=>∃ k : Nat, k ≤ a.length ∧ i = .int .i64 k ∧ Hid (decide (a = b) = decide (a.drop k = b.drop k)) ∧ Below w.heap.size w wr) (fun i wr=>a.length - (intOf i).toNat)
  case atStart=>exact ⟨0, Nat.zero_le _, rfl, H0, Below.refl _ _⟩
  case round =>
   obtain ⟨k, hk, rfl, hE, hbw⟩:=hrel
   have hs:=hbw.size
   by_cases hlt : k < a.length
   ·have hltb : k < b.length:=by rw [← HL.out]; exact hlt
    obtain ⟨ad, rfl, hp, f0, f1⟩:=ha.kid hbw hlt
    obtain ⟨bd, rfl, hq, g0, g1⟩:=hb.kid hbw hltb
    have hE2:=hE.out
    rw [same_drop hlt hltb] at hE2
    have e0 : decide (a[k] = b[k]) = (decide (a[k].1 = b[k].1) && decide (a[k].2 = b[k].2)):=by
     rw [Bool.eq_iff_iff]
     simp only [decide_eq_true_eq, Bool.and_eq_true]
     exact Prod.ext_iff
    rw [e0] at hE2
    generalize a[k].1 = x at f0 hE2
    generalize a[k].2 = y at f1 hE2
    generalize b[k].1 = x' at g0 hE2
    generalize b[k].2 = y' at g1 hE2
    have HE:=Lib.hid hE2
    clear hE hE2 e0 H0
    have f0d : wr.drew.cell? (ad.add (k * 2)) = some (.string x):=f0
    have f1d : wr.drew.cell? ⟨(ad.add (k * 2)).block, (ad.add (k * 2)).off + 1, none⟩ = some (.string y):=f1
    have g0d : wr.drew.cell? (bd.add (k * 2)) = some (.string x'):=g0
    have g1d : wr.drew.cell? ⟨(bd.add (k * 2)).block, (bd.add (k * 2)).off + 1, none⟩ = some (.string y'):=g1
    have hbd:=hbw.drew
    have hcase : (x = x' ∧ y = y') ∨ (x = x' ∧ ¬ y.toList = y'.toList ∧ Hid (decide (a = b) = false)) ∨ (¬ x.toList = x'.toList ∧ Hid (decide (a = b) = false)):=by
     by_cases hx : x = x'
     ·by_cases hy : y = y'
      ·exact Or.inl ⟨hx, hy⟩
      ·refine Or.inr (Or.inl ⟨hx, ?_, ?_⟩)
       ·have:=toList_inj' y y'
        rw [decide_eq_false hy] at this
        simpa using this
       ·show _ = _
        rw [HE.out, decide_eq_false hy]; simp
     ·refine Or.inr (Or.inr ⟨?_, ?_⟩)
      ·have:=toList_inj' x x'
       rw [decide_eq_false hx] at this
       simpa using this
      ·show _ = _
       rw [HE.out, decide_eq_false hx]; simp
    rcases hcase with ⟨rfl, rfl⟩ | ⟨rfl, hy, HF⟩ | ⟨hx, HF⟩
    ·clear f0 f1 g0 g1
     go_wp2_with fail
     go_region
     go_wp2_with fail
     go_roundw
     case rel =>
      refine ⟨k + 1, by omega, by go_num, ?_, hbd⟩
      show _ = _
      rw [HE.out]; simp
     case measure=>simp [intOf]; omega
    all_goals
     clear f0 f1 g0 g1
     go_wp2_with fail
     go_region
     go_wp2_with fail
     go_ret
     exact ⟨ret_bool HF.out.symm, hbd⟩
   ·have hk2 : k = a.length:=by omega
    have hE2:=hE.out
    rw [hk2, List.drop_length, HL.out, List.drop_length] at hE2
    have HE:=Lib.hid hE2
    clear hE hE2 hk2
    go_wp2_with fail
    go_ret
    refine ⟨ret_bool ?_, hbw⟩
    rw [HE.out]; rfl
 ·have HR : Hid (decide (a = b) = false):=by
   show _ = _
   rw [decide_eq_false_iff_not]
   intro h; exact hlen (by rw [h])
  have hne : ((a.length : Int) != b.length) = true:=by rw [bne_iff_ne]; omega
  clear hlen
  go_enter Tryz.func31, Tryz.ntmps31
  go_wp2_with fail
  go_ret
  exact ⟨ret_bool HR.out.symm, Below.refl _ _⟩
set_option maxHeartbeats 4000000 in
theorem sameMo_any (a b : Mo) (V V' : Option Addr) (vc vc' : Nat) (w : World) (h : MoAt w (· < w.heap.size) a [.int .i64 a.kind, .string a.attr, .slice V a.vals.length vc]) (h' : MoAt w (· < w.heap.size) b [.int .i64 b.kind, .string b.attr, .slice V' b.vals.length vc']) :
  Calls Tryz.prog 33 #[.agg #[.int .i64 a.kind, .string a.attr, .slice V a.vals.length vc], .agg #[.int .i64 b.kind, .string b.attr, .slice V' b.vals.length vc']] w fun e w'=>e = .returned (.bool (eqMo a b)) ∧ Below w.heap.size w w':=by
 obtain ⟨V1, vc1, e, h2, h3, h4, h5, h6⟩:=h
 simp only [List.cons.injEq, Value.slice.injEq, true_and, and_true] at e
 obtain ⟨rfl, rfl⟩:=e
 obtain ⟨V2, vc2, e, k2, k3, k4, k5, k6⟩:=h'
 simp only [List.cons.injEq, Value.slice.injEq, true_and, and_true] at e
 obtain ⟨rfl, rfl⟩:=e
 obtain ⟨k, t, v⟩:=a
 obtain ⟨k', t', v'⟩:=b
 simp only at h2 h3 h4 h5 h6 k2 k3 k4 k5 k6 ⊢
 have hb0 : Below w.heap.size w ((w.alloc (.cells #[.int .i64 k, .string t, .slice V v.length vc] 44)).alloc (.cells #[.int .i64 k', .string t', .slice V' v'.length vc'] 44)):=((Below.refl _ _).alloc (Nat.le_refl _) _).alloc (by simp) _
 have hr : eqMo ⟨k, t, v⟩ ⟨k', t', v'⟩ = (decide (k = k') && (decide (t = t') && decide (v = v'))):=rfl
 have HS:=Lib.hid (eqS_any v v' V V' vc vc' _ (h5.past hb0) (k5.past hb0) h3 k3)
 clear h2 h3 h4 h5 h6 k2 k3 k4 k5 k6
 by_cases h1 : k = k'
 ·subst h1
  by_cases h2 : t = t'
  ·subst h2
   rw [decide_eq_true (p:=k = k) rfl, decide_eq_true (p:=t = t) rfl, Bool.true_and, Bool.true_and] at hr
   have q2 : (t.toList == t.toList) = true:=by rw [toList_eq]; simp
   have HR:=Lib.hid hr
   clear hr
   go_enter Tryz.func33, Tryz.ntmps33
   go_wp2_with fail
   refine HS.out.mono ?_
   rintro e w1 ⟨rfl, hb1⟩
   go_wp2_with fail
   go_ret
   exact ⟨ret_bool HR.out.symm, hb0.trans (hb1.mono hb0.size)⟩
  ·rw [decide_eq_true (p:=k = k) rfl, decide_eq_false h2, Bool.true_and, Bool.false_and] at hr
   have q2 : (t.toList == t'.toList) = false:=by rw [toList_eq, decide_eq_false h2]
   have HR:=Lib.hid hr
   clear hr h2
   go_enter Tryz.func33, Tryz.ntmps33
   go_wp2_with fail
   go_ret
   exact ⟨ret_bool HR.out.symm, hb0⟩
 ·rw [decide_eq_false h1, Bool.false_and] at hr
  have q1 : (k == k') = false:=by rw [beq_eq_false_iff_ne]; exact h1
  have HR:=Lib.hid hr
  clear hr h1
  go_enter Tryz.func33, Tryz.ntmps33
  go_wp2_with fail
  go_ret
  exact ⟨ret_bool HR.out.symm, hb0⟩
set_option maxHeartbeats 4000000 in
theorem eqMos_any (l l' : List Mo) (A A' : Option Addr) (c c' : Nat) (ds ds' : Nat → List Value) (w : World) (hM : MosAt w (· < w.heap.size) A l ds) (hM' : MosAt w (· < w.heap.size) A' l' ds') (hl : l.length ≤ maxLen) (hl' : l'.length ≤ maxLen) :
  Calls Tryz.prog 32 #[.slice A l.length c, .slice A' l'.length c', .func (.func 33) #[] #[]] w
   fun r w'=>r = .returned (.bool (eqMos l l')) ∧ Below w.heap.size w w':=by
 unfold maxLen at hl hl'
 by_cases hn : l.length = l'.length
 ·have HN:=Lib.hid hn
  have Ih:=Lib.hid sameMo_any
  rw [← hn]
  clear hn hl'
  go_enter Tryz.func32, Tryz.ntmps32
  go_wp2_with fail
  go_loopw [17] (fun i wr=>∃ q : Nat, q ≤ l.length ∧ i = .int .i64 q ∧ Hid (eqMos l l' = eqMos (l.drop q) (l'.drop q)) ∧ Below w.heap.size w wr) (fun i wr=>l.length - (intOf i).toNat)
  case atStart=>exact ⟨0, Nat.zero_le _, rfl, rfl, Below.refl _ _⟩
  case round =>
   obtain ⟨q, hq, rfl, hE, hb⟩:=hrel
   have hs:=hb.size
   by_cases hlt : q < l.length
   ·obtain ⟨ad, V, vc, rfl, hp, f0, f1, f2, hL⟩:=hM.kid hb hlt
    have hb0:=hb.alloc hs (.cells #[.int .i64 l[q].kind, .string l[q].attr, .slice V l[q].vals.length vc] 44)
    obtain ⟨ad2, V2, vc2, rfl, hp2, g0, g1, g2, hL2⟩:=hM'.kid hb0 (i:=q) (by have:=HN.out; omega)
    have hb1:=hb0.alloc (by simp; omega) (.cells #[.int .i64 (l'[q]'(by have:=HN.out; omega)).kind, .string (l'[q]'(by have:=HN.out; omega)).attr, .slice V2 (l'[q]'(by have:=HN.out; omega)).vals.length vc2] 44)
    have hE2:=hE.out
    rw [eqMos_drop hlt (by have:=HN.out; omega)] at hE2
    have H:=Ih.out l[q] (l'[q]'(by have:=HN.out; omega)) V V2 vc vc2 _ ((hL.alloc (.cells #[.int .i64 l[q].kind, .string l[q].attr, .slice V l[q].vals.length vc] 44)).alloc (.cells #[.int .i64 (l'[q]'(by have:=HN.out; omega)).kind, .string (l'[q]'(by have:=HN.out; omega)).attr, .slice V2 (l'[q]'(by have:=HN.out; omega)).vals.length vc2] 44))
     (hL2.alloc (.cells #[.int .i64 (l'[q]'(by have:=HN.out; omega)).kind, .string (l'[q]'(by have:=HN.out; omega)).attr, .slice V2 (l'[q]'(by have:=HN.out; omega)).vals.length vc2] 44))
    generalize eqMo l[q] (l'[q]'(by have:=HN.out; omega)) = t at hE2 H
    generalize l[q] = d at f0 f1 f2 g0 g1 g2 H hb1 hL hL2 hb0
    generalize (l'[q]'(by have:=HN.out; omega)) = d2 at g0 g1 g2 H hb1 hL2
    have HE:=Lib.hid hE2
    have HH:=Lib.hid H
    clear hE hE2 H hL hL2 hb0
    cases t with
    | false =>
     go_wp2_with fail
     refine HH.out.mono ?_
     rintro e w1 ⟨rfl, hb2⟩
     have hb3:=hb1.trans (hb2.mono (by simp; omega))
     go_wp2_with fail
     go_ret
     refine ⟨ret_bool ?_, hb3⟩
     rw [HE.out]; rfl
    | true =>
     go_wp2_with fail
     refine HH.out.mono ?_
     rintro e w1 ⟨rfl, hb2⟩
     have hb3:=hb1.trans (hb2.mono (by simp; omega))
     go_wp2_with fail
     refine ⟨⟨q + 1, by omega, by go_num, HE.out, hb3⟩, by simp [intOf]; omega⟩
   ·have hE2:=hE.out
    rw [List.drop_eq_nil_of_le (by omega), List.drop_eq_nil_of_le (by have:=HN.out; omega), eqMos] at hE2
    have HE:=Lib.hid hE2
    clear hE hE2
    go_wp2_with fail
    go_ret
    exact ⟨ret_bool HE.out.symm, hb⟩
 ·have hr:=Lib.hid (eqMos_len hn)
  have h1 : ((l.length : Int) != l'.length) = true:=by rw [bne_iff_ne]; omega
  clear hn
  go_enter Tryz.func32, Tryz.ntmps32
  go_wp2_with fail
  go_ret
  exact ⟨ret_bool hr.out.symm, Below.refl _ _⟩
set_option maxHeartbeats 8000000 in
theorem Same_any (a b : Cg) (cs cs' : Array Value) (w : World) (h : GAt w (· < w.heap.size) a cs) (h' : GAt w (· < w.heap.size) b cs') : Calls Tryz.prog 12 #[.agg cs, .agg cs'] w (Flag w (eqG a b)):=by
 obtain ⟨R, rc, M, mc, ds, rfl, ⟨hR, hl, hrc⟩, hM, hml, hmc⟩:=h
 obtain ⟨R', rc', M', mc', ds', rfl, ⟨hR', hl', hrc'⟩, hM', hml', hmc'⟩:=h'
 have hr : eqG a b = (eqCn a.csn b.csn && (decide (a.kind = b.kind) && (eqCn a.id b.id && (eqCn a.par b.par && (decide (a.del = b.del) && (decide (a.rdn = b.rdn) && eqMos a.mods b.mods)))))):=rfl
 have hb0 : Below w.heap.size w ((w.alloc (.cells (gcs a R rc M mc) 28)).alloc (.cells (gcs b R' rc' M' mc') 28)):=((Below.refl _ _).alloc (Nat.le_refl _) _).alloc (by simp) _
 have A0:=(Blk.new w 28 (gcs a R rc M mc)).alloc (.cells (gcs b R' rc' M' mc') 28)
 have B0:=new2 w (gcs a R rc M mc) (gcs b R' rc' M' mc') 28 28
 have HA:=Lib.hid A0
 have HB:=Lib.hid B0
 have Hb:=Lib.hid hb0
 have HE:=Lib.hid (eqR_any a.rdn b.rdn R R' rc rc' _ (hR.past hb0) (hR'.past hb0) hl)
 have HM:=Lib.hid (fun w1 (hb : Below w.heap.size w w1)=>eqMos_any a.mods b.mods M M' mc mc' ds ds' w1 (hM.past hb) (hM'.past hb) hml hml')
 have a0:=A0.cell 0
 have b0:=B0.cell 0
 have a1:=A0.cell 1
 have b1':=B0.cell 1
 have a2:=A0.cell 2
 have b2':=B0.cell 2
 have a3:=A0.cell 3
 have b3:=B0.cell 3
 have a4:=A0.cell 4
 have b4:=B0.cell 4
 have a5:=A0.cell 5
 have b5:=B0.cell 5
 have a6:=A0.cell 6
 have b6:=B0.cell 6
 have a7:=A0.cell 7
 have b7:=B0.cell 7
 have a8:=A0.cell 8
 have b8:=B0.cell 8
 have a9:=A0.cell 9
 have b9:=B0.cell 9
 have a10:=A0.cell 10
 have b10:=B0.cell 10
 have a11 : ((w.alloc (.cells (gcs a R rc M mc) 28)).alloc (.cells (gcs b R' rc' M' mc') 28)).cell? ⟨w.heap.size, 11, none⟩ = some (.bool a.del):=A0.cell 11
 have b11 : ((w.alloc (.cells (gcs a R rc M mc) 28)).alloc (.cells (gcs b R' rc' M' mc') 28)).cell? ⟨w.heap.size + 1, 11, none⟩ = some (.bool b.del):=B0.cell 11
 clear hR hR' hM hM' hl hl' hml hml' hrc hrc' hmc hmc' A0 B0 hb0
 cases p : eqCn a.csn b.csn
 focus
  rw [p] at hr
  have HR:=Lib.hid hr
  have hq:=cn_ne p
  clear hr p
  rcases hq with u1 | ⟨u1, u2⟩ | ⟨u1, u2, u3⟩
  all_goals
   go_enter Tryz.func12, Tryz.ntmps12
   go_wp2_with fail
   go_ret
   exact ⟨ret_bool HR.out.symm, Hb.out⟩
 obtain ⟨p1, p2, p3⟩:=cn_eq p
 rw [p] at hr
 clear p
 by_cases k : a.kind = b.kind
 rotate_left
 focus
  have HR:=Lib.hid (show eqG a b = false by rw [hr, decide_eq_false k]; rfl)
  have k1 : (a.kind == b.kind) = false:=by rw [beq_eq_false_iff_ne]; exact k
  clear hr k
  go_enter Tryz.func12, Tryz.ntmps12
  go_wp2_with fail
  go_ret
  exact ⟨ret_bool HR.out.symm, Hb.out⟩
 have k1 : (a.kind == b.kind) = true:=by rw [beq_iff_eq]; exact k
 rw [decide_eq_true k] at hr
 clear k
 cases q : eqCn a.id b.id
 focus
  rw [q] at hr
  have HR:=Lib.hid hr
  have hq:=cn_ne q
  clear hr q
  rcases hq with u1 | ⟨u1, u2⟩ | ⟨u1, u2, u3⟩
  all_goals
   go_enter Tryz.func12, Tryz.ntmps12
   go_wp2_with fail
   go_ret
   exact ⟨ret_bool HR.out.symm, Hb.out⟩
 obtain ⟨q1, q2, q3⟩:=cn_eq q
 rw [q] at hr
 clear q
 cases v : eqCn a.par b.par
 focus
  rw [v] at hr
  have HR:=Lib.hid hr
  have hq:=cn_ne v
  clear hr v
  rcases hq with u1 | ⟨u1, u2⟩ | ⟨u1, u2, u3⟩
  all_goals
   go_enter Tryz.func12, Tryz.ntmps12
   go_wp2_with fail
   go_ret
   exact ⟨ret_bool HR.out.symm, Hb.out⟩
 obtain ⟨v1, v2, v3⟩:=cn_eq v
 rw [v] at hr
 clear v
 by_cases e : a.del = b.del
 rotate_left
 focus
  have HR:=Lib.hid (show eqG a b = false by rw [hr, decide_eq_false e]; rfl)
  have e1 : (a.del == b.del) = false:=by rw [beq_eq_false_iff_ne]; exact e
  clear hr e
  go_enter Tryz.func12, Tryz.ntmps12
  go_wp2_with fail
  go_ret
  exact ⟨ret_bool HR.out.symm, Hb.out⟩
 have e1 : (a.del == b.del) = true:=by rw [beq_iff_eq]; exact e
 rw [decide_eq_true e] at hr
 clear e
 generalize decide (a.rdn = b.rdn) = b1 at HE hr
 generalize eqMos a.mods b.mods = b2 at HM hr
 have HR:=Lib.hid hr
 clear hr
 go_enter Tryz.func12, Tryz.ntmps12
 go_wp2_with fail
 refine HE.out.mono ?_
 rintro e w1 ⟨rfl, hb1⟩
 have hb2:=Hb.out.trans (hb1.mono Hb.out.size)
 cases b1
 focus
  go_wp2_with fail
  go_ret
  exact ⟨ret_bool HR.out.symm, hb2⟩
 have d12:=(HA.out.past hb1).cell 12
 have e12:=(HB.out.past hb1).cell 12
 clear a0 a1 a2 a3 a4 a5 a6 a7 a8 a9 a10 a11 b0 b1' b2' b3 b4 b5 b6 b7 b8 b9 b10 b11
 go_wp2_with fail
 refine (HM.out _ hb2).mono ?_
 rintro e w2 ⟨rfl, hb3⟩
 go_wp2_with fail
 go_ret
 exact ⟨ret_bool HR.out.symm, hb2.trans (hb3.mono hb2.size)⟩
end Go.Proofs.YtbdpkfgllnbheaaGreatDoor.Ch
