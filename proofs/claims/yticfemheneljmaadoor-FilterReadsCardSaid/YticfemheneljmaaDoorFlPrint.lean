/- What sign, appendFilter, Print answer. -/
import Derived.Test.YticfemheneljmaaDoorFlEsc
import Derived.Test.YticfemheneljmaaDoorFlForm
namespace Go.Proofs.YticfemheneljmaaDoor.Fi
open Go.RowKit
set_option linter.unusedVariables false
set_option maxRecDepth 100000

set_option maxHeartbeats 400000 in
theorem sign_any (k : Int) (w : World) : Calls Tryd.prog 35 #[.int .i64 k] w fun e w' => e = .returned (.string (Nm.mk (sign k))) ∧ w = w' := by
  by_cases h : k = 1 ∨ k = 2 ∨ k = 3 ∨ k = 5 ∨ k = 6
  · rcases h with rfl | rfl | rfl | rfl | rfl
    all_goals
      go_enter Tryd.func35, Tryd.ntmps35
      go_wp2_with fail
      go_ret
      exact ⟨rfl, rfl⟩
  · have hr := Lib.hid (show sign k = [61] by unfold sign; rw [if_neg (by omega), if_neg (by omega), if_neg (by omega), if_neg (by omega), if_neg (by omega)])
    have h1 : (k == 1) = false := by rw [beq_eq_false_iff_ne]; omega
    have h2 : (k == 2) = false := by rw [beq_eq_false_iff_ne]; omega
    have h3 : (k == 3) = false := by rw [beq_eq_false_iff_ne]; omega
    have h5 : (k == 5) = false := by rw [beq_eq_false_iff_ne]; omega
    have h6 : (k == 6) = false := by rw [beq_eq_false_iff_ne]; omega
    clear h
    go_enter Tryd.func35, Tryd.ntmps35
    go_wp2_with fail
    go_ret
    rw [hr.out]
    exact ⟨rfl, rfl⟩
theorem five {w : World} {g : Nat} {t : TypeId} {x0 x1 x2 x3 x4 : Value} (h : Blk w g t #[x0, x1, x2, x3, x4]) : w.cell? ⟨g, 0, none⟩ = some x0 ∧ w.cell? ⟨g, 1, none⟩ = some x1 ∧ w.cell? ⟨g, 2, none⟩ = some x2 ∧ w.cell? ⟨g, 3, none⟩ = some x3 ∧ w.cell? ⟨g, 4, none⟩ = some x4 :=
  ⟨h.cell 0, h.cell 1, h.cell 2, h.cell 3, h.cell 4⟩
/-- A kid's cells, where all lie below B. -/
theorem KidsAt.kidB {w wr : World} {B : Nat} {ks : List Fil} {A : Option Addr} {ds : Nat → List Value} (hK : KidsAt w (· < B) A ks ds) (hb : Below B w wr)
    {i : Nat} (h : i < ks.length) : ∃ (ad : Addr) (k : Int) (a v : ByteArray) (S : Option Addr) (m d : Nat) (A' : Option Addr) (n c : Nat), A = some ad ∧ ad.block < B ∧ wr.cell? (ad.add (i * 5)) = some (.int .i64 k) ∧
      wr.cell? ⟨(ad.add (i * 5)).block, (ad.add (i * 5)).off + 1, none⟩ = some (.string a) ∧
      wr.cell? ⟨(ad.add (i * 5)).block, (ad.add (i * 5)).off + 2, none⟩ = some (.string v) ∧
      wr.cell? ⟨(ad.add (i * 5)).block, (ad.add (i * 5)).off + 3, none⟩ = some (.slice S m d) ∧
      wr.cell? ⟨(ad.add (i * 5)).block, (ad.add (i * 5)).off + 4, none⟩ = some (.slice A' n c) ∧ Lies wr (· < B) ks[i] [.int .i64 k, .string a, .string v, .slice S m d, .slice A' n c] := by
  obtain ⟨h5, hA, hk⟩ := hK
  obtain ⟨ad, e, hp, hc⟩ := hA (by omega)
  have hx := hk i h
  obtain ⟨k, a, v, S, m, d, A', n, c, hd⟩ := hx.form
  have hcc : ∀ j u, (ds i)[j]? = some u → wr.cell? (ad.add (i * 5 + j)) = some u := fun j u hu => (hb.cell (by rw [block_of_add]; exact hp)).trans (hc i h j u hu)
  rw [hd] at hcc hx
  have h0 := hcc 0 _ rfl
  have h1 := hcc 1 _ rfl
  have h2 := hcc 2 _ rfl
  have h3 := hcc 3 _ rfl
  have h4 := hcc 4 _ rfl
  rw [add_next _ _ _ (by omega)] at h1 h2 h3 h4
  exact ⟨ad, k, a, v, S, m, d, A', n, c, e, hp, h0, h1, h2, h3, h4, hx.kept hb⟩
theorem prs_drop {l : List Fil} {i : Nat} (h : i < l.length) : prs (l.drop i) = pr l[i] ++ prs (l.drop (i + 1)) := by
  rw [List.drop_eq_getElem_cons h, prs]
/-- The Subs from a place on. -/
def subsFrom (ss : List ByteArray) (q : Nat) : List UInt8 := if q = 0 then parts ss else stars (ss.drop q)
theorem subs_first {ss : List ByteArray} (h : 0 < ss.length) : subsFrom ss 0 = esc (Nm.bs ss[0]) ++ subsFrom ss 1 := by
  cases ss with
  | nil => simp at h
  | cons s r => rfl
theorem subs_one {ss : List ByteArray} {q : Nat} (h : q < ss.length) (hq : q = 0) : subsFrom ss q = esc (Nm.bs ss[q]) ++ subsFrom ss (q + 1) := by
  subst hq
  exact subs_first h
theorem subs_next {ss : List ByteArray} {q : Nat} (h : q < ss.length) (hq : q ≠ 0) : subsFrom ss q = 42 :: (esc (Nm.bs ss[q]) ++ subsFrom ss (q + 1)) := by
  unfold subsFrom
  rw [if_neg hq, if_neg (by omega), List.drop_eq_getElem_cons h, stars]
theorem subs_end {ss : List ByteArray} {q : Nat} (h : ss.length ≤ q) : subsFrom ss q = [] := by
  unfold subsFrom
  rw [List.drop_eq_nil_of_le h]
  split
  · have : ss = [] := List.eq_nil_of_length_eq_zero (by omega)
    rw [this]; rfl
  · rfl
def SaidApp (f : Fil) : Prop := ∀ (base : Nat) (v : Value) (l : List UInt8) (x0 x1 x2 x3 x4 : Value) (w : World), Own w base v l → base ≤ w.heap.size → Lies w (· < base) f [x0, x1, x2, x3, x4] → l.length + (pr f).length ≤ 100000000 →
    Calls Tryd.prog 24 #[v, .agg #[x0, x1, x2, x3, x4]] w fun e w' => ∃ v', e = .returned v' ∧ Own w' base v' (l ++ pr f) ∧ Below base w w' ∧ Tid w w'
set_option maxHeartbeats 4000000 in
theorem app_any (f : Fil) : SaidApp f := by
  refine ind ?_ f
  intro k a v ss ks ih base b l x0 x1 x2 x3 x4 w hO hbase hL hlen
  obtain ⟨S, sc, A, c, ds, hcs, ha, hv, hsl, hsc, hs, hss, hl, hcl, hK⟩ := hL.open_
  simp only [List.cons.injEq, and_true] at hcs
  obtain ⟨rfl, rfl, rfl, rfl, rfl⟩ := hcs
  unfold maxLen at hl hsl
  have Ih := Lib.hid ih
  have HS := Lib.hid hs
  have HO := Lib.hid hO
  have hpr : pr (.mk k a v ss ks) = 40 :: (Nm.bs a ++ (sign k ++ (prs ks ++ (parts ss ++ (esc (Nm.bs v) ++ ((if k = 7 then [42] else []) ++ [41])))))) := rfl
  have HP := Lib.hid hpr
  have hlen2 : l.length + (1 + (a.size + ((sign k).length + ((prs ks).length + ((parts ss).length + ((esc (Nm.bs v)).length + (((if k = 7 then [42] else []) : List UInt8).length + 1))))))) ≤ 100000000 := by
    rw [hpr] at hlen
    simp only [List.length_cons, List.length_append, List.length_nil] at hlen
    have : (Nm.bs a).length = a.size := rfl
    omega
  have CS := Lib.hid sign_any
  have Bk := Lib.hid (Blk.new w 25 #[.int .i64 k, .string a, .string v, .slice S ss.length sc, .slice A ks.length c])
  clear ih hs hO hL hpr hlen hss
  obtain ⟨b1, b2, b3, rfl⟩ := HO.out.form3
  have B40 : Hid (∀ (w : World) (g : Nat), g = w.heap.size → Blk (w.alloc (.cells #[.int .u8 40] 5)) g 5 (Lib.byteCells [40]).toArray) := fun w g h => h ▸ Blk.new w _ _
  have B41 : Hid (∀ (w : World) (g : Nat), g = w.heap.size → Blk (w.alloc (.cells #[.int .u8 41] 5)) g 5 (Lib.byteCells [41]).toArray) := fun w g h => h ▸ Blk.new w _ _
  have B42 : Hid (∀ (w : World) (g : Nat), g = w.heap.size → Blk (w.alloc (.cells #[.int .u8 42] 5)) g 5 (Lib.byteCells [42]).toArray) := fun w g h => h ▸ Blk.new w _ _
  have ht : 25 ≠ 5 := by decide
  have HT := Lib.hid ht
  clear ht
  go_enter Tryd.func24, Tryd.ntmps24
  go_wp2_with (at_builtin; go_loud (refine wpList_push rfl _ _ rfl base (.slice b1 b2 b3) l rfl ((HO.out.alloc _).alloc _) (w.heap.size + 1) 1 1 [40] rfl rfl (B40.out _ _ (by simp)) (by simp; omega) (by simp; omega) ?_))
  intro v1 w1 hown1 hb1 hg1
  have hi1 : Tid w w1 := (((Tid.refl w).alloc _).alloc _).trans (Tid.grown ((HO.out.alloc _).alloc _) hg1)
  have Bk1 := Lib.hid (Tid.blk (Tid.grown ((HO.out.alloc _).alloc _) hg1) (Bk.out.alloc _) HT.out)
  have hbb1 : Below base w w1 := (((Below.refl _ _).alloc hbase _).alloc (by simp; omega) _).trans hb1
  obtain ⟨c0, c1, c2, c3, c4⟩ := five Bk1.out
  obtain ⟨d1, d2, d3, rfl⟩ := hown1.form3
  obtain ⟨l1, hl1, hown1'⟩ : ∃ l1, l1 = l ++ [40] ∧ Own w1 base (.slice d1 d2 d3) l1 := ⟨_, rfl, by simpa using hown1⟩
  have HO1 := Lib.hid hown1'
  have hz1 : l1.length = l.length + 1 := by rw [hl1]; simp
  have HL1 := Lib.hid hl1
  clear hown1' hl1
  have hs1 : w.heap.size + 1 ≤ w1.heap.size := Bk1.out.lt
  clear hown1 hb1 hg1
  go_wp2_with (at_builtin; go_loud (refine wpList_pushS rfl _ _ rfl base (.slice d1 d2 d3) l1 rfl HO1.out a rfl (by omega) (by omega) ?_))
  intro v2 w2 hown2 hb2 hg2
  have hi2 := hi1.trans (Tid.grown HO1.out hg2)
  have Bk2 := Lib.hid (Tid.blk (Tid.grown HO1.out hg2) Bk1.out HT.out)
  have hbb2 := hbb1.trans hb2
  clear c0 c1 c2 c3 c4
  obtain ⟨c0, c1, c2, c3, c4⟩ := five Bk2.out
  obtain ⟨d1, d2, d3, rfl⟩ := hown2.form3
  obtain ⟨l2, hl2, hown2'⟩ : ∃ l2, l2 = l1 ++ Nm.bs a ∧ Own w2 base (.slice d1 d2 d3) l2 := ⟨_, rfl, by simpa using hown2⟩
  have HO2 := Lib.hid hown2'
  have hz2 : l2.length = l.length + 1 + a.size := by rw [hl2, List.length_append, hz1]; rfl
  have HL2 := Lib.hid hl2
  clear hown2' hl2
  have hs2 : w.heap.size + 1 ≤ w2.heap.size := Bk2.out.lt
  clear hown2 hb2 hg2
  go_wp2_with fail
  refine (CS.out _ _).mono ?_
  rintro e w3 ⟨rfl, rfl⟩
  go_wp2_with (at_builtin; go_loud (refine wpList_pushS rfl _ _ rfl base (.slice d1 d2 d3) l2 rfl HO2.out (Nm.mk (sign k)) rfl (by have : (Nm.mk (sign k)).size = (sign k).length := rfl; omega) (by omega) ?_))
  intro v3 w3 hown3 hb3 hg3
  have hi3 := hi2.trans (Tid.grown HO2.out hg3)
  have Bk3 := Lib.hid (Tid.blk (Tid.grown HO2.out hg3) Bk2.out HT.out)
  have hbb3 := hbb2.trans hb3
  clear c0 c1 c2 c3 c4
  obtain ⟨c0, c1, c2, c3, c4⟩ := five Bk3.out
  obtain ⟨d1, d2, d3, rfl⟩ := hown3.form3
  obtain ⟨l3, hl3, hown3'⟩ : ∃ l3, l3 = l2 ++ sign k ∧ Own w3 base (.slice d1 d2 d3) l3 := ⟨_, rfl, by simpa using hown3⟩
  have HO3 := Lib.hid hown3'
  have hz3 : l3.length = l.length + 1 + a.size + (sign k).length := by rw [hl3, List.length_append, hz2]
  have HL3 := Lib.hid hl3
  clear hown3' hl3
  have hs3 : w.heap.size + 1 ≤ w3.heap.size := Bk3.out.lt
  have HE3 : Hid (l ++ pr (.mk k a v ss ks) = l3 ++ (prs ks ++ (parts ss ++ (esc (Nm.bs v) ++ ((if k = 7 then [42] else []) ++ [41]))))) := by
    show _ = _
    rw [HP.out, HL3.out, HL2.out, HL1.out]; simp
  have HT0 : Hid (∃ R : List UInt8, R = parts ss ++ (esc (Nm.bs v) ++ ((if k = 7 then [42] else []) ++ [41])) ∧ l ++ pr (.mk k a v ss ks) = l3 ++ (prs ks ++ R)) := ⟨_, rfl, HE3.out⟩
  clear hown3 hb3 hg3 HE3 HL1 HL2 HL3 hz1 hz2 HO1 HO2 Bk1 Bk2 hbb1 hbb2 hi1 hi2 hs1 hs2 HP CS B40
  obtain ⟨R, hR, hE0⟩ := HT0.out
  have HR := Lib.hid hR
  have HE0 := Lib.hid hE0
  clear hR hE0 HT0
  go_wp2_with fail
  go_loopw [0, 24] (fun b i wr => ∃ (q : Nat) (l1 : List UInt8), q ≤ ks.length ∧ i = .int .i64 q ∧ Own wr base b l1 ∧ Hid (l ++ pr (.mk k a v ss ks) = l1 ++ (prs (ks.drop q) ++ R)) ∧ l1.length + (prs (ks.drop q)).length = l3.length + (prs ks).length ∧ Below base w wr ∧ Tid w wr ∧
      Blk wr w.heap.size 25 #[.int .i64 k, .string a, .string v, .slice S ss.length sc, .slice A ks.length c]) (fun b i wr => ks.length - (intOf i).toNat)
  case atStart => exact ⟨0, l3, Nat.zero_le _, rfl, HO3.out, HE0.out, rfl, hbb3, hi3, Bk3.out⟩
  case round =>
    clear c0 c1 c2 c3 c4 Bk3 HO3 hbb3 hi3 hs3
    obtain ⟨q, l1, hq, rfl, hO, hE, hl1, hb, hi, B⟩ := hrel
    have hs := hb.size
    have hblt := B.lt
    obtain ⟨e1, e2, e3, rfl⟩ := hO.form3
    by_cases hlt : q < ks.length
    · obtain ⟨ad, k', a', v', S', m', d', A', n', c', rfl, hp, f0, f1, f2, f3, f4, hL⟩ := hK.kidB hb hlt
      have hE2 := hE.out
      rw [prs_drop hlt, List.append_assoc, ← List.append_assoc] at hE2
      rw [prs_drop hlt, List.length_append] at hl1
      have hb0 := hb.alloc (by omega) (.cells #[.int .i64 k', .string a', .string v', .slice S' m' d', .slice A' n' c'] 25)
      have hi0 := hi.alloc (.cells #[.int .i64 k', .string a', .string v', .slice S' m' d', .slice A' n' c'] 25)
      have B0 := B.alloc (.cells #[.int .i64 k', .string a', .string v', .slice S' m' d', .slice A' n' c'] 25)
      have H := Ih.out _ (List.getElem_mem hlt) base (.slice e1 e2 e3) l1 _ _ _ _ _ (wr.alloc (.cells #[.int .i64 k', .string a', .string v', .slice S' m' d', .slice A' n' c'] 25)) (hO.alloc _) (by simp; omega) (hL.kept ((Below.refl base wr).alloc (by omega) _)) (by omega)
      have HE := Lib.hid hE2
      have HH := Lib.hid H
      have HB0 := Lib.hid B0
      clear hE hE2 H hL hO B B0 hi
      go_wp2_with fail
      refine HH.out.mono ?_
      rintro e w4 ⟨v4, rfl, hO4, hb4, hi4⟩
      obtain ⟨g1, g2, g3, rfl⟩ := hO4.form3
      have HO4 := Lib.hid hO4
      have HB4 := Lib.hid (Tid.blk hi4 HB0.out HT.out)
      clear hO4
      go_wp2_with fail
      refine ⟨⟨q + 1, _, by omega, by go_num, HO4.out, HE.out, by rw [List.length_append]; omega, hb0.trans hb4, hi0.trans hi4, HB4.out⟩, by simp [intOf]; omega⟩
    · have hE2 := hE.out
      rw [List.drop_eq_nil_of_le (by omega), prs, List.nil_append, HR.out] at hE2
      rw [List.drop_eq_nil_of_le (by omega), prs, List.length_nil, Nat.add_zero] at hl1
      have HE := Lib.hid hE2
      have HO := Lib.hid hO
      have HB := Lib.hid B
      obtain ⟨c0, c1, c2, c3, c4⟩ := five B
      clear hE hE2 HE0 HR hO B
      have HT1 : Hid (∃ R2 : List UInt8, R2 = esc (Nm.bs v) ++ ((if k = 7 then [42] else []) ++ [41]) ∧ l ++ pr (.mk k a v ss ks) = l1 ++ (subsFrom ss 0 ++ R2)) := ⟨_, rfl, HE.out⟩
      obtain ⟨R2, hR2, hE0⟩ := HT1.out
      have HR2 := Lib.hid hR2
      have HE0 := Lib.hid hE0
      have hp0 : (subsFrom ss 0).length = (parts ss).length := rfl
      have Ha := Lib.hid appV_any
      clear hR2 hE0 HT1 HE
      go_wp2_with fail
      go_loopw [0, 35] (fun b i w5 => ∃ (q : Nat) (l5 : List UInt8), q ≤ ss.length ∧ i = .int .i64 q ∧ Own w5 base b l5 ∧ Hid (l ++ pr (.mk k a v ss ks) = l5 ++ (subsFrom ss q ++ R2)) ∧ l5.length + (subsFrom ss q).length = l1.length + (parts ss).length ∧ Below base w w5 ∧ Tid w w5 ∧
          Blk w5 w.heap.size 25 #[.int .i64 k, .string a, .string v, .slice S ss.length sc, .slice A ks.length c]) (fun b i w5 => ss.length - (intOf i).toNat)
      case atStart => exact ⟨0, l1, Nat.zero_le _, rfl, HO.out, HE0.out, by omega, hb, hi, HB.out⟩
      case round =>
        clear c0 c1 c2 c3 c4 HB HO hb hi hs hblt HE0 hp0 hlt hq
        obtain ⟨q, l5, hq, rfl, hO, hE, hl5, hb, hi, B⟩ := hrel
        have hs := hb.size
        have hblt := B.lt
        obtain ⟨e1, e2, e3, rfl⟩ := hO.form3
        by_cases hlt : q < ss.length
        · obtain ⟨bb, oo, rfl, hp, hc⟩ := HS.out.row (by omega)
          have f0 := bat hb hp (hc q hlt)
          by_cases hq0 : q = 0
          · have hE2 := hE.out
            rw [subs_one hlt hq0, List.append_assoc, ← List.append_assoc] at hE2
            rw [subs_one hlt hq0, List.length_append] at hl5
            have hq1 : (q : Int) ≤ 0 := by omega
            have hes := esc_len (Nm.bs ss[q])
            have hsz : (Nm.bs ss[q]).length = ss[q].size := rfl
            have H := Ha.out base (.slice e1 e2 e3) l5 ss[q] wr hO (by omega) (by omega) (by omega)
            generalize ss[q] = s0 at f0 hE2 hl5 H
            have HE := Lib.hid hE2
            have HH := Lib.hid H
            have HB := Lib.hid B
            clear hE hE2 H hO B hc hes hsz hq0
            go_wp2_with fail
            refine HH.out.mono ?_
            rintro e w6 ⟨v6, rfl, hO6, hb6, hi6⟩
            obtain ⟨g1, g2, g3, rfl⟩ := hO6.form3
            have HO6 := Lib.hid hO6
            have HB6 := Lib.hid (Tid.blk hi6 HB.out HT.out)
            clear hO6
            go_wp2_with fail
            refine ⟨⟨q + 1, _, by omega, by go_num, HO6.out, HE.out, by rw [List.length_append]; omega, hb.trans hb6, hi.trans hi6, HB6.out⟩, by simp [intOf]; omega⟩
          · have hE2 := hE.out
            rw [subs_next hlt hq0, List.cons_append, List.append_assoc] at hE2
            rw [subs_next hlt hq0, List.length_cons, List.length_append] at hl5
            have hq1 : 0 < (q : Int) := by omega
            have hes := esc_len (Nm.bs ss[q])
            have hsz : (Nm.bs ss[q]).length = ss[q].size := rfl
            generalize ss[q] = s0 at f0 hE2 hl5 hes hsz
            have HE := Lib.hid hE2
            have HB := Lib.hid B
            have HO := Lib.hid hO
            clear hE hE2 hO B hc
            go_wp2_with (at_builtin; go_loud (refine wpList_push rfl _ _ rfl base (.slice e1 e2 e3) l5 rfl (HO.out.alloc _) wr.heap.size 1 1 [42] rfl rfl (B42.out _ _ rfl) (by simp; omega) (by simp; omega) ?_))
            intro v6 w6 hown6 hb6 hg6
            have hi6 : Tid wr w6 := ((Tid.refl wr).alloc _).trans (Tid.grown (HO.out.alloc _) hg6)
            have hbb6 : Below base wr w6 := ((Below.refl _ _).alloc (by omega) _).trans hb6
            obtain ⟨g1, g2, g3, rfl⟩ := hown6.form3
            obtain ⟨l6, hl6, hown6'⟩ : ∃ l6, l6 = l5 ++ [42] ∧ Own w6 base (.slice g1 g2 g3) l6 := ⟨_, rfl, by simpa using hown6⟩
            have hz6 : l6.length = l5.length + 1 := by rw [hl6]; simp
            have HL6 := Lib.hid hl6
            have hs6 := hbb6.size
            have H := Ha.out base (.slice g1 g2 g3) l6 s0 w6 hown6' (by omega) (by omega) (by omega)
            have HH := Lib.hid H
            clear hown6 hown6' hb6 hg6 hl6 H
            go_wp2_with fail
            refine HH.out.mono ?_
            rintro e w7 ⟨v7, rfl, hO7, hb7, hi7⟩
            obtain ⟨k1, k2, k3, rfl⟩ := hO7.form3
            have HO7 := Lib.hid hO7
            have HB7 := Lib.hid (Tid.blk (hi6.trans hi7) HB.out HT.out)
            clear hO7
            go_wp2_with fail
            refine ⟨⟨q + 1, _, by omega, by go_num, HO7.out, ?_, by rw [List.length_append]; omega, hb.trans (hbb6.trans hb7), hi.trans (hi6.trans hi7), HB7.out⟩, by simp [intOf]; omega⟩
            show _ = _
            rw [HE.out, HL6.out]; simp
        · have hE2 := hE.out
          rw [subs_end (by omega), List.nil_append] at hE2
          rw [subs_end (by omega), List.length_nil, Nat.add_zero] at hl5
          have HE := Lib.hid hE2
          have hes := esc_len (Nm.bs v)
          have hsz : (Nm.bs v).length = v.size := rfl
          have H := Ha.out base (.slice e1 e2 e3) l5 v wr hO (by omega) (by omega) (by omega)
          have HH := Lib.hid H
          have HB := Lib.hid B
          obtain ⟨c0, c1, c2, c3, c4⟩ := five B
          clear hE hE2 H hO B
          go_wp2_with fail
          refine HH.out.mono ?_
          rintro e w6 ⟨v6, rfl, hO6, hb6, hi6⟩
          obtain ⟨g1, g2, g3, rfl⟩ := hO6.form3
          have HB6 := Lib.hid (Tid.blk hi6 HB.out HT.out)
          clear c0 c1 c2 c3 c4
          obtain ⟨c0, c1, c2, c3, c4⟩ := five HB6.out
          obtain ⟨l6, hl6, hO6'⟩ : ∃ l6, l6 = l5 ++ esc (Nm.bs v) ∧ Own w6 base (.slice g1 g2 g3) l6 := ⟨_, rfl, hO6⟩
          have hz6 : l6.length = l5.length + (esc (Nm.bs v)).length := by rw [hl6]; simp
          have HL6 := Lib.hid hl6
          have HO6 := Lib.hid hO6'
          have hb7 := hb.trans hb6
          have hi7 := hi.trans hi6
          have hs7 := hb7.size
          have hblt6 := HB6.out.lt
          clear hO6 hO6' hl6 hb6 hi6
          by_cases h7 : k = 7
          · subst h7
            have HE7 : Hid (l ++ pr (.mk 7 a v ss ks) = l6 ++ [42] ++ [41]) := by show _ = _; rw [HE.out, HR2.out, HL6.out, if_pos rfl]; simp
            clear HE
            go_wp2_with (at_builtin; go_loud (refine wpList_push rfl _ _ rfl base (.slice g1 g2 g3) l6 rfl (HO6.out.alloc _) w6.heap.size 1 1 [42] rfl rfl (B42.out _ _ rfl) (by simp; omega) (by simp; omega) ?_))
            intro v8 w8 hown8 hb8 hg8
            have hi8 : Tid w6 w8 := ((Tid.refl w6).alloc _).trans (Tid.grown (HO6.out.alloc _) hg8)
            have hbb8 : Below base w6 w8 := ((Below.refl _ _).alloc (by omega) _).trans hb8
            obtain ⟨m1, m2, m3, rfl⟩ := hown8.form3
            obtain ⟨l8, hl8, hown8'⟩ : ∃ l8, l8 = l6 ++ [42] ∧ Own w8 base (.slice m1 m2 m3) l8 := ⟨_, rfl, by simpa using hown8⟩
            have hz8 : l8.length = l6.length + 1 := by rw [hl8]; simp
            have HL8 := Lib.hid hl8
            have HO8 := Lib.hid hown8'
            have hs8 := hbb8.size
            clear hown8 hown8' hb8 hg8 hl8
            go_wp2_with (at_builtin; go_loud (refine wpList_push rfl _ _ rfl base (.slice m1 m2 m3) l8 rfl (HO8.out.alloc _) w8.heap.size 1 1 [41] rfl rfl (B41.out _ _ rfl) (by simp; omega) (by simp; omega) ?_))
            intro v9 w9 hown9 hb9 hg9
            have hi9 : Tid w8 w9 := ((Tid.refl w8).alloc _).trans (Tid.grown (HO8.out.alloc _) hg9)
            have hbb9 : Below base w8 w9 := ((Below.refl _ _).alloc (by omega) _).trans hb9
            go_wp2_with fail
            go_ret
            refine ⟨_, rfl, ?_, hb7.trans (hbb8.trans hbb9), hi7.trans (hi8.trans hi9)⟩
            rw [HE7.out, ← HL8.out]
            simpa using hown9
          · have h7' : (k == 7) = false := by rw [beq_eq_false_iff_ne]; exact h7
            have HE7 : Hid (l ++ pr (.mk k a v ss ks) = l6 ++ [41]) := by show _ = _; rw [HE.out, HR2.out, HL6.out, if_neg h7]; simp
            clear HE h7
            go_wp2_with (at_builtin; go_loud (refine wpList_push rfl _ _ rfl base (.slice g1 g2 g3) l6 rfl (HO6.out.alloc _) w6.heap.size 1 1 [41] rfl rfl (B41.out _ _ rfl) (by simp; omega) (by simp; omega) ?_))
            intro v9 w9 hown9 hb9 hg9
            have hi9 : Tid w6 w9 := ((Tid.refl w6).alloc _).trans (Tid.grown (HO6.out.alloc _) hg9)
            have hbb9 : Below base w6 w9 := ((Below.refl _ _).alloc (by omega) _).trans hb9
            go_wp2_with fail
            go_ret
            refine ⟨_, rfl, ?_, hb7.trans hbb9, hi7.trans hi9⟩
            rw [HE7.out]
            simpa using hown9

theorem type_len {x : List UInt8} (h : Nm.isType x = true) : x.length ≤ 16 := by
  obtain ⟨c, r, _, _, _, h⟩ := type_head h
  exact h
theorem stars_len2 : ∀ ss : List ByteArray, ss.all (fun s => decide (s.size ≤ 60)) = true → (stars ss).length ≤ 181 * ss.length
  | [], _ => by simp [stars]
  | s :: r, h => by
    rw [List.all_cons, Bool.and_eq_true, decide_eq_true_eq] at h
    have h1 := stars_len2 r h.2
    have h2 := (esc_len (Nm.bs s)).2
    have h3 : (Nm.bs s).length = s.size := rfl
    rw [stars, List.length_cons, List.length_append, List.length_cons]
    omega
theorem parts_len2 (ss : List ByteArray) (h : ss.all (fun s => decide (s.size ≤ 60)) = true) : (parts ss).length ≤ 181 * ss.length := by
  cases ss with
  | nil => simp [parts]
  | cons s r =>
    have := stars_len2 (s :: r) h
    rw [stars, List.length_cons] at this
    rw [parts]
    omega
theorem sign_len (k : Int) : (sign k).length ≤ 2 := by
  unfold sign
  repeat' split
  all_goals simp
theorem pr_len (f : Fil) : frm f = true → (pr f).length ≤ 4000 * tot f := by
  refine ind (p := fun f => frm f = true → (pr f).length ≤ 4000 * tot f) ?_ f
  intro k a v ss ks ih h
  have hs := sign_len k
  have h7 : ((if k = 7 then [42] else []) : List UInt8).length ≤ 1 := by split <;> simp
  have hal : (Nm.bs a).length = a.size := rfl
  have hvl : (Nm.bs v).length = v.size := rfl
  have hev := esc_len (Nm.bs v)
  have hks : ∀ l : List Fil, (∀ f ∈ l, frm f = true → (pr f).length ≤ 4000 * tot f) → frms l = true → (prs l).length ≤ 4000 * tots l := by
    intro l hl
    induction l with
    | nil => intro _; simp [prs]
    | cons g r ihr =>
      intro h
      rw [frms, Bool.and_eq_true] at h
      have h1 := hl g (by simp) h.1
      have h2 := ihr (fun f hf => hl f (by simp [hf])) h.2
      rw [prs, tots, List.length_append]
      omega
  rw [pr]
  simp only [List.length_cons, List.length_append, List.length_nil]
  by_cases hk : 1 ≤ k ∧ k ≤ 3
  · rw [frm_kids hk] at h
    simp only [Bool.and_eq_true, decide_eq_true_eq] at h
    have h1 := hks ks ih h.2.2.2.2
    have h2 : ss = [] := List.eq_nil_of_length_eq_zero h.2.2.2.1
    subst h2
    rw [tot, show hasK k = true by unfold hasK; rw [decide_eq_true_eq]; exact hk, if_pos rfl]
    have h3 : (parts []).length = 0 := rfl
    omega
  · by_cases hk8 : 4 ≤ k ∧ k ≤ 8
    · rw [frm_item hk8] at h
      simp only [Bool.and_eq_true, decide_eq_true_eq] at h
      obtain ⟨hT, hk0, hR⟩ := h
      have hT := type_len hT
      have h2 : ks = [] := List.eq_nil_of_length_eq_zero hk0
      subst h2
      have hp := tot_pos (.mk k a v ss [])
      have h3 : (prs []).length = 0 := rfl
      have hpv : (parts ss).length ≤ 3620 ∧ v.size ≤ 60 := by
        by_cases h8 : k = 8
        · subst h8
          simp only [Int.reduceEq, if_true, if_false, Bool.and_eq_true, decide_eq_true_eq] at hR
          have h9 := hR.2
          unfold subsOk at h9
          simp only [Bool.and_eq_true, decide_eq_true_eq] at h9
          have := parts_len2 ss h9.2.2.1
          exact ⟨by omega, by omega⟩
        · have h0 : ss.length = 0 ∧ v.size ≤ 60 := by
            by_cases h77 : k = 7
            · subst h77
              simp only [if_true, Bool.and_eq_true, decide_eq_true_eq] at hR
              exact ⟨hR.2, by omega⟩
            · rw [if_neg h77, if_neg h8, Bool.and_eq_true, decide_eq_true_eq, decide_eq_true_eq] at hR
              exact ⟨hR.2, hR.1⟩
          rw [List.eq_nil_of_length_eq_zero h0.1]
          exact ⟨Nat.zero_le _, h0.2⟩
      omega
    · rw [frm_none (by omega)] at h
      cases h
set_option maxHeartbeats 400000 in
theorem Print_any (f : Fil) (x0 x1 x2 x3 x4 : Value) (w : World) (hL : Lies w (· < w.heap.size) f [x0, x1, x2, x3, x4]) :
    Calls Tryd.prog 13 #[.agg #[x0, x1, x2, x3, x4]] w fun r w' => r = .returned (.string (Nm.mk (print f))) ∧ Below w.heap.size w w' := by
  obtain ⟨k, a, v, S, m, d, A, n, c, hcs⟩ := hL.form
  simp only [List.cons.injEq, and_true] at hcs
  obtain ⟨rfl, rfl, rfl, rfl, rfl⟩ := hcs
  have hb0 : Below w.heap.size w (w.alloc (.cells #[.int .i64 k, .string a, .string v, .slice S m d, .slice A n c] 25)) := (Below.refl _ _).alloc (Nat.le_refl _) _
  have hL0 := hL.past hb0
  have HC := Is_any f _ _ _ _ _ _ hL0
  have Bk := Blk.new w 25 #[.int .i64 k, .string a, .string v, .slice S m d, .slice A n c]
  cases hi : isF f with
  | false =>
    rw [hi] at HC
    have HC := Lib.hid HC
    have hr := Lib.hid (show print f = [] by unfold print; rw [hi]; rfl)
    clear hL hL0 hi Bk
    go_enter Tryd.func13, Tryd.ntmps13
    go_wp2_with fail
    refine HC.out.mono ?_
    rintro e w1 ⟨rfl, hb1⟩
    go_wp2_with fail
    go_ret
    rw [hr.out]
    exact ⟨rfl, hb0.trans (hb1.mono hb0.size)⟩
  | true =>
    rw [hi] at HC
    have HC := Lib.hid HC
    have hr := Lib.hid (print_of hi)
    have hpl := pr_len f (isF_frm hi).1
    have htt := (isF_frm hi).2
    have HA := Lib.hid (fun w1 (hb : Below (w.alloc (.cells #[.int .i64 k, .string a, .string v, .slice S m d, .slice A n c] 25)).heap.size (w.alloc (.cells #[.int .i64 k, .string a, .string v, .slice S m d, .slice A n c] 25)) w1) =>
      app_any f w1.heap.size (.slice none 0 0) [] _ _ _ _ _ w1 (Own.nil _ _) (Nat.le_refl _) (hL0.past hb) (by simp; omega))
    have HB := Lib.hid (fun w1 (hb : Below (w.alloc (.cells #[.int .i64 k, .string a, .string v, .slice S m d, .slice A n c] 25)).heap.size (w.alloc (.cells #[.int .i64 k, .string a, .string v, .slice S m d, .slice A n c] 25)) w1) => five (Bk.past hb))
    clear hL hL0 hi Bk hpl htt
    go_enter Tryd.func13, Tryd.ntmps13
    go_wp2_with fail
    refine HC.out.mono ?_
    rintro e w1 ⟨rfl, hb1⟩
    obtain ⟨c0, c1, c2, c3, c4⟩ := HB.out w1 hb1
    go_wp2_with fail
    refine (HA.out w1 hb1).mono ?_
    rintro e w2 ⟨v2, rfl, hO2, hb2, _⟩
    have hV := Lib.hid hO2.string
    obtain ⟨g1, g2, g3, rfl⟩ := hO2.form3
    go_wp2_with fail
    rw [hV.out]
    simp only [Result.andThen]
    rw [Oper.upon_value]
    go_wp2_with fail
    go_ret
    refine ⟨?_, hb0.trans ((hb1.mono hb0.size).trans (hb2.mono (Nat.le_trans hb0.size hb1.size)))⟩
    rw [hr.out]
    rfl
end Go.Proofs.YticfemheneljmaaDoor.Fi
