import Derived.Test.YtconghaebebncaaGreatDoorZT4
namespace Go.Proofs.YtconghaebebncaaGreatDoor.Fi
open Go.RowKit
set_option linter.unusedVariables false
set_option maxRecDepth 100000
def SaidRSame (f : Fil) : Prop := ∀ (g : Fil) (x0 x1 x2 x3 x4 y0 y1 y2 y3 y4 : Value) (w : World), Lies w (· < w.heap.size) f [x0, x1, x2, x3, x4] → Lies w (· < w.heap.size) g [y0, y1, y2, y3, y4] →
  Calls Tryz.prog 42 #[.agg #[x0, x1, x2, x3, x4], .agg #[y0, y1, y2, y3, y4]] w fun r w' => r = .returned (.bool (eqF f g)) ∧ Below w.heap.size w w'
theorem eq_drop {l l' : List ByteArray} {i : Nat} (h : i < l.length) (h' : i < l'.length) : decide (l.drop i = l'.drop i) = (decide (l[i] = l'[i]) && decide (l.drop (i + 1) = l'.drop (i + 1))) := by
 rw [List.drop_eq_getElem_cons h, List.drop_eq_getElem_cons h', Bool.eq_iff_iff]
 simp only [decide_eq_true_eq, Bool.and_eq_true, List.cons.injEq]
set_option maxHeartbeats 4000000 in
theorem rsame_step (k : Int) (a v : ByteArray) (ss ss' : List ByteArray) (ks : List Fil) (ih : ∀ f ∈ ks, SaidRSame f) (ks' : List Fil) (S S' A A' : Option Addr) (sc sc' c c' : Nat) (ds ds' : Nat → List Value) (w : World)
  (hs : StrsAt w (· < w.heap.size) S ss) (hs' : StrsAt w (· < w.heap.size) S' ss') (hsl : ss.length ≤ maxLen)
  (hK : KidsAt w (· < w.heap.size) A ks ds) (hK' : KidsAt w (· < w.heap.size) A' ks' ds') (hl : ks.length ≤ maxLen) (hse : ss.length = ss'.length) (hke : ks.length = ks'.length) :
  Calls Tryz.prog 42 #[.agg #[.int .i64 k, .string a, .string v, .slice S ss.length sc, .slice A ks.length c], .agg #[.int .i64 k, .string a, .string v, .slice S' ss.length sc', .slice A' ks.length c']] w
   fun r w' => r = .returned (.bool (decide (ss = ss') && eqFs ks ks')) ∧ Below w.heap.size w w' := by
 unfold maxLen at hl hsl
 have Ih := Lib.hid ih
 have HSE := Lib.hid hse
 have HKE := Lib.hid hke
 have HS := Lib.hid hs
 have HS' := Lib.hid hs'
 have hb0 : Below w.heap.size w ((w.alloc (.cells #[.int .i64 k, .string a, .string v, .slice S ss.length sc, .slice A ks.length c] 25)).alloc (.cells #[.int .i64 k, .string a, .string v, .slice S' ss.length sc', .slice A' ks.length c'] 25)) :=
  ((Below.refl _ _).alloc (Nat.le_refl _) _).alloc (by simp) _
 have B0 : Blk ((w.alloc (.cells #[.int .i64 k, .string a, .string v, .slice S ss.length sc, .slice A ks.length c] 25)).alloc (.cells #[.int .i64 k, .string a, .string v, .slice S' ss.length sc', .slice A' ks.length c'] 25)) w.heap.size 25 #[.int .i64 k, .string a, .string v, .slice S ss.length sc, .slice A ks.length c] :=
  (Blk.new w 25 #[.int .i64 k, .string a, .string v, .slice S ss.length sc, .slice A ks.length c]).alloc _
 have B1 : Blk ((w.alloc (.cells #[.int .i64 k, .string a, .string v, .slice S ss.length sc, .slice A ks.length c] 25)).alloc (.cells #[.int .i64 k, .string a, .string v, .slice S' ss.length sc', .slice A' ks.length c'] 25)) (w.heap.size + 1) 25 #[.int .i64 k, .string a, .string v, .slice S' ss.length sc', .slice A' ks.length c'] := by
  have := Blk.new (w.alloc (.cells #[.int .i64 k, .string a, .string v, .slice S ss.length sc, .slice A ks.length c] 25)) 25 #[.int .i64 k, .string a, .string v, .slice S' ss.length sc', .slice A' ks.length c']
  simpa using this
 have HB0 := Lib.hid B0
 have HB1 := Lib.hid B1
 have Hb0 := Lib.hid hb0
 clear ih hse hke hs hs' B0 B1 hb0
 go_enter Tryz.func42, Tryz.ntmps42
 go_wp2_with fail
 go_loopw [5] (fun i wr => ∃ q : Nat, q ≤ ss.length ∧ i = .int .i64 q ∧ Hid (decide (ss = ss') = decide (ss.drop q = ss'.drop q)) ∧ Blk wr w.heap.size 25 #[.int .i64 k, .string a, .string v, .slice S ss.length sc, .slice A ks.length c] ∧ Blk wr (w.heap.size + 1) 25 #[.int .i64 k, .string a, .string v, .slice S' ss.length sc', .slice A' ks.length c'] ∧ Below w.heap.size w wr) (fun i wr => ss.length - (intOf i).toNat)
 case atStart => exact ⟨0, Nat.zero_le _, rfl, rfl, HB0.out, HB1.out, Hb0.out⟩
 case round =>
  obtain ⟨q, hq, rfl, hE, B, B', hb⟩ := hrel
  have b3 : wr.cell? ⟨w.heap.size, 3, none⟩ = some (.slice S ss.length sc) := B.cell 3
  have b3' : wr.cell? ⟨w.heap.size + 1, 3, none⟩ = some (.slice S' ss.length sc') := B'.cell 3
  by_cases hlt : q < ss.length
  ·obtain ⟨b, o, rfl, hp, hc⟩ := HS.out.row' (by omega)
   obtain ⟨b', o', rfl, hp', hc'⟩ := HS'.out.row' (by have := HSE.out; omega)
   have f0 := bat hb hp (hc q hlt)
   have f0' := bat hb hp' (hc' q (by have := HSE.out; omega))
   have hE2 := hE.out
   rw [eq_drop hlt (by have := HSE.out; omega)] at hE2
   generalize ss[q] = s at f0 hE2
   generalize ss'[q]'(by have := HSE.out; omega) = s' at f0' hE2
   have HE := Lib.hid hE2
   clear hE hE2 hc hc'
   by_cases hss : s = s'
   ·have h5 : (s.toList == s'.toList) = true := by rw [toList_eq, decide_eq_true hss]
    have h6 : (s.toList != s'.toList) = false := by unfold bne; rw [h5]; rfl
    have HF := Lib.hid (show decide (s = s') = true by rw [decide_eq_true hss])
    clear hss
    go_wp2_with fail
    go_region
    all_goals
     go_wp2_with fail
     refine ⟨⟨q + 1, by omega, by go_num, by show _ = _; rw [HE.out, HF.out]; rfl, B, B', hb.drew⟩, by simp [intOf]; omega⟩
   ·have h5 : (s.toList == s'.toList) = false := by rw [toList_eq, decide_eq_false hss]
    have h6 : (s.toList != s'.toList) = true := by unfold bne; rw [h5]; rfl
    have HF := Lib.hid (show decide (s = s') = false by rw [decide_eq_false hss])
    clear hss
    go_wp2_with fail
    go_region
    all_goals
     go_wp2_with fail
     go_ret
     refine ⟨ret_bool ?_, hb.drew⟩
     rw [HE.out, HF.out]; rfl
  ·have hE2 := hE.out
   rw [List.drop_eq_nil_of_le (by omega), List.drop_eq_nil_of_le (by have := HSE.out; omega), decide_eq_true rfl] at hE2
   have HQ : Hid ((decide (ss = ss') && eqFs ks ks') = eqFs ks ks') := by show _ = _; rw [hE2]; rfl
   clear hE hE2
   go_wp2_with fail
   go_loopw [6] (fun i wr => ∃ q : Nat, q ≤ ks.length ∧ i = .int .i64 q ∧ Hid ((decide (ss = ss') && eqFs ks ks') = eqFs (ks.drop q) (ks'.drop q)) ∧ Blk wr w.heap.size 25 #[.int .i64 k, .string a, .string v, .slice S ss.length sc, .slice A ks.length c] ∧ Blk wr (w.heap.size + 1) 25 #[.int .i64 k, .string a, .string v, .slice S' ss.length sc', .slice A' ks.length c'] ∧ Below w.heap.size w wr) (fun i wr => ks.length - (intOf i).toNat)
   case atStart => exact ⟨0, Nat.zero_le _, rfl, HQ, B, B', hb⟩
   case round =>
    clear b3 b3' B B' hb HQ hlt hq
    obtain ⟨q, hq, rfl, hE, B, B', hb⟩ := hrel
    have BB := B'
    have hs := hb.size
    have hblt := B.lt
    have hblt' := B'.lt
    have b4 : wr.cell? ⟨w.heap.size, 4, none⟩ = some (.slice A ks.length c) := B.cell 4
    have b4' : wr.cell? ⟨w.heap.size + 1, 4, none⟩ = some (.slice A' ks.length c') := B'.cell 4
    by_cases hlt : q < ks.length
    ·obtain ⟨ad, k', a', v', T', m', d', Q, n', e', rfl, hp, f0, f1, f2, f3, f4, hL⟩ := hK.kid hb hlt
     obtain ⟨ad2, k2, a2, v2, S2, m2, d2, B2, n2, e2, rfl, hp2, g0, g1, g2, g3, g4, hL2⟩ := hK'.kid hb (i := q) (by have := HKE.out; omega)
     have hE2 := hE.out
     rw [eqFs_drop hlt (by have := HKE.out; omega)] at hE2
     have H := Ih.out _ (List.getElem_mem hlt) _ _ _ _ _ _ _ _ _ _ _ _ hL.drew hL2.drew
     generalize eqF ks[q] (ks'[q]'(by have := HKE.out; omega)) = t at hE2 H
     have HE := Lib.hid hE2
     have HH := Lib.hid H
     clear hE hE2 H hL hL2
     have q1 : (ad.add (q * 5)).block < wr.heap.size := by rw [block_of_add]; omega
     have q2 : (ad2.add (q * 5)).block < wr.heap.size := by rw [block_of_add]; omega
     cases t with
     | false =>
      go_wp2_with fail
      go_region_held3 (fun w' => w'.cell? (ad.add (q * 5)) = some (.int .i64 k') ∧ w'.cell? ⟨(ad.add (q * 5)).block, (ad.add (q * 5)).off + 1, none⟩ = some (.string a') ∧ w'.cell? ⟨(ad.add (q * 5)).block, (ad.add (q * 5)).off + 2, none⟩ = some (.string v') ∧ w'.cell? ⟨(ad.add (q * 5)).block, (ad.add (q * 5)).off + 3, none⟩ = some (.slice T' m' d') ∧ w'.cell? ⟨(ad.add (q * 5)).block, (ad.add (q * 5)).off + 4, none⟩ = some (.slice Q n' e') ∧
       w'.cell? (ad2.add (q * 5)) = some (.int .i64 k2) ∧ w'.cell? ⟨(ad2.add (q * 5)).block, (ad2.add (q * 5)).off + 1, none⟩ = some (.string a2) ∧ w'.cell? ⟨(ad2.add (q * 5)).block, (ad2.add (q * 5)).off + 2, none⟩ = some (.string v2) ∧ w'.cell? ⟨(ad2.add (q * 5)).block, (ad2.add (q * 5)).off + 3, none⟩ = some (.slice S2 m2 d2) ∧ w'.cell? ⟨(ad2.add (q * 5)).block, (ad2.add (q * 5)).off + 4, none⟩ = some (.slice B2 n2 e2) ∧
       w'.cell? ⟨w.heap.size, 4, none⟩ = some (.slice (some ad) ks.length c) ∧ w'.cell? ⟨w.heap.size + 1, 4, none⟩ = some (.slice (some ad2) ks.length c')) (first | go_keep | exact ⟨batA hb2 q1 f0, bat hb2 q1 f1, bat hb2 q1 f2, bat hb2 q1 f3, bat hb2 q1 f4, batA hb2 q2 g0, bat hb2 q2 g1, bat hb2 q2 g2, bat hb2 q2 g3, bat hb2 q2 g4, bat hb2 (by show w.heap.size < wr.heap.size; omega) b4, bat hb2 (by show w.heap.size + 1 < wr.heap.size; omega) b4'⟩) (first | (go_at_call 42; refine HH.out.mono ?_; rintro e w1 ⟨rfl, hb2⟩))
      go_wp2_with fail
      have hb3 := hb.trans (Below.mono (B' := w.heap.size) ((Below.refl _ _).drew.trans hb2) (by show w.heap.size ≤ wr.heap.size; omega))
      go_ret
      refine ⟨ret_bool ?_, hb3⟩
      rw [HE.out]; rfl
     | true =>
      go_wp2_with fail
      go_region_held3 (fun w' => w'.cell? (ad.add (q * 5)) = some (.int .i64 k') ∧ w'.cell? ⟨(ad.add (q * 5)).block, (ad.add (q * 5)).off + 1, none⟩ = some (.string a') ∧ w'.cell? ⟨(ad.add (q * 5)).block, (ad.add (q * 5)).off + 2, none⟩ = some (.string v') ∧ w'.cell? ⟨(ad.add (q * 5)).block, (ad.add (q * 5)).off + 3, none⟩ = some (.slice T' m' d') ∧ w'.cell? ⟨(ad.add (q * 5)).block, (ad.add (q * 5)).off + 4, none⟩ = some (.slice Q n' e') ∧
       w'.cell? (ad2.add (q * 5)) = some (.int .i64 k2) ∧ w'.cell? ⟨(ad2.add (q * 5)).block, (ad2.add (q * 5)).off + 1, none⟩ = some (.string a2) ∧ w'.cell? ⟨(ad2.add (q * 5)).block, (ad2.add (q * 5)).off + 2, none⟩ = some (.string v2) ∧ w'.cell? ⟨(ad2.add (q * 5)).block, (ad2.add (q * 5)).off + 3, none⟩ = some (.slice S2 m2 d2) ∧ w'.cell? ⟨(ad2.add (q * 5)).block, (ad2.add (q * 5)).off + 4, none⟩ = some (.slice B2 n2 e2) ∧
       w'.cell? ⟨w.heap.size, 4, none⟩ = some (.slice (some ad) ks.length c) ∧ w'.cell? ⟨w.heap.size + 1, 4, none⟩ = some (.slice (some ad2) ks.length c')) (first | go_keep | exact ⟨batA hb2 q1 f0, bat hb2 q1 f1, bat hb2 q1 f2, bat hb2 q1 f3, bat hb2 q1 f4, batA hb2 q2 g0, bat hb2 q2 g1, bat hb2 q2 g2, bat hb2 q2 g3, bat hb2 q2 g4, bat hb2 (by show w.heap.size < wr.heap.size; omega) b4, bat hb2 (by show w.heap.size + 1 < wr.heap.size; omega) b4'⟩) (first | (go_at_call 42; refine HH.out.mono ?_; rintro e w1 ⟨rfl, hb2⟩))
      go_wp2_with fail
      have hb3 := hb.trans (Below.mono (B' := w.heap.size) ((Below.refl _ _).drew.trans hb2) (by show w.heap.size ≤ wr.heap.size; omega))
      have C := B.drew.past hb2
      have C' := Blk.past (Blk.drew BB) hb2
      go_roundw
      case rel => exact ⟨q + 1, by omega, by go_num, HE.out, C, C', hb3⟩
      case measure => simp [intOf]; omega
    ·have hE2 := hE.out
     rw [List.drop_eq_nil_of_le (by omega), List.drop_eq_nil_of_le (by have := HKE.out; omega), eqFs] at hE2
     have HE := Lib.hid hE2
     clear hE hE2
     go_wp2_with fail
     go_ret
     exact ⟨ret_bool HE.out.symm, hb⟩
set_option maxHeartbeats 4000000 in
theorem rsame_any (f : Fil) : SaidRSame f := by
 refine ind ?_ f
 intro k a v ss ks ih g x0 x1 x2 x3 x4 y0 y1 y2 y3 y4 w hL hL'
 obtain ⟨k', a', v', ss', ks'⟩ := g
 obtain ⟨S, sc, A, c, ds, hcs, ha, hv, hsl, hsc, hs, hss, hl, hcl, hK⟩ := hL.open_
 obtain ⟨S', sc', A', c', ds', hcs', ha', hv', hsl', hsc', hs', hss', hl', hcl', hK'⟩ := hL'.open_
 simp only [List.cons.injEq, and_true] at hcs hcs'
 obtain ⟨rfl, rfl, rfl, rfl, rfl⟩ := hcs
 obtain ⟨rfl, rfl, rfl, rfl, rfl⟩ := hcs'
 have hr := eqF_bool k k' a a' v v' ss ss' ks ks'
 have hb0 : Below w.heap.size w ((w.alloc (.cells #[.int .i64 k, .string a, .string v, .slice S ss.length sc, .slice A ks.length c] 25)).alloc (.cells #[.int .i64 k', .string a', .string v', .slice S' ss'.length sc', .slice A' ks'.length c'] 25)) :=
  ((Below.refl _ _).alloc (Nat.le_refl _) _).alloc (by simp) _
 by_cases hall : k = k' ∧ a = a' ∧ v = v' ∧ ss.length = ss'.length ∧ ks.length = ks'.length
 ·obtain ⟨rfl, rfl, rfl, h4, h5⟩ := hall
  have := rsame_step k a v ss ss' ks ih ks' S S' A A' sc sc' c c' ds ds' w hs hs' hsl hK hK' hl h4 h5
  rw [← h4, ← h5]
  refine this.mono ?_
  rintro r w' ⟨rfl, h⟩
  refine ⟨ret_bool ?_, h⟩
  rw [hr, decide_eq_true (p := k = k) rfl, decide_eq_true (p := a = a) rfl, decide_eq_true (p := v = v) rfl]; simp
 ·have HR := Lib.hid (show eqF (.mk k a v ss ks) (.mk k' a' v' ss' ks') = false by
   rw [hr]
   cases h : (decide (k = k') && (decide (a = a') && (decide (v = v') && (decide (ss = ss') && eqFs ks ks')))) with
   | false => rfl
   | true =>
    exfalso
    simp only [Bool.and_eq_true, decide_eq_true_eq] at h
    refine hall ⟨h.1, h.2.1, h.2.2.1, by rw [h.2.2.2.1], ?_⟩
    apply Classical.byContradiction
    intro hne
    rw [eqFs_len hne] at h
    exact absurd h.2.2.2.2 (by simp))
  have hcases : (k != k') = true ∨ (k != k') = false ∧ (a.toList == a'.toList) = false ∨ (k != k') = false ∧ (a.toList == a'.toList) = true ∧ (v.toList == v'.toList) = false ∨
    (k != k') = false ∧ (a.toList == a'.toList) = true ∧ (v.toList == v'.toList) = true ∧ ((ss.length : Int) != ss'.length) = true ∨
    (k != k') = false ∧ (a.toList == a'.toList) = true ∧ (v.toList == v'.toList) = true ∧ ((ss.length : Int) != ss'.length) = false ∧ ((ks.length : Int) != ks'.length) = true := by
   unfold bne
   rw [toList_eq, toList_eq]
   by_cases h1 : k = k'
   ·by_cases h2 : a = a'
    ·by_cases h3 : v = v'
     ·by_cases h4 : ss.length = ss'.length
      ·have h5 : ks.length ≠ ks'.length := fun h => hall ⟨h1, h2, h3, h4, h⟩
       have e4 : ((ss.length : Int) == ss'.length) = true := by rw [beq_iff_eq]; omega
       have e5 : ((ks.length : Int) == ks'.length) = false := by rw [beq_eq_false_iff_ne]; omega
       simp [h1, h2, h3, e4, e5]
      ·have e4 : ((ss.length : Int) == ss'.length) = false := by rw [beq_eq_false_iff_ne]; omega
       simp [h1, h2, h3, e4]
     ·simp [h1, h2, h3]
    ·simp [h1, h2]
   ·simp [h1]
  clear hr ih hL hL' hall hs hs' hss hss' hK hK'
  rcases hcases with h1 | ⟨h1, h2⟩ | ⟨h1, h2, h3⟩ | ⟨h1, h2, h3, h4⟩ | ⟨h1, h2, h3, h4, h5⟩
  all_goals
   go_enter Tryz.func42, Tryz.ntmps42
   go_wp2_with fail
   go_ret
   exact ⟨ret_bool HR.out.symm, hb0⟩
end Go.Proofs.YtconghaebebncaaGreatDoor.Fi
