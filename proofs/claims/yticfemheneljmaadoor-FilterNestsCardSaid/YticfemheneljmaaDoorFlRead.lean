/- What readKids, read answer. -/
import Derived.Test.YticfemheneljmaaDoorFlGath
namespace Go.Proofs.YticfemheneljmaaDoor.Fi
open Go.RowKit
set_option linter.unusedVariables false
set_option maxRecDepth 100000

theorem five_new (w : World) (x0 x1 x2 x3 x4 : Value) (t : TypeId) (g : Nat) (hg : g = w.heap.size) : ∀ (j : Nat) (u : Value), [x0, x1, x2, x3, x4][j]? = some u → (w.alloc (.cells #[x0, x1, x2, x3, x4] t)).cell? ((⟨g, 0, none⟩ : Addr).add j) = some u := by
  subst hg
  intro j u hj
  have B := Blk.new w t #[x0, x1, x2, x3, x4]
  match j, hj with
  | 0, hj => exact (B.cell 0).trans hj
  | 1, hj => exact (B.cell 1).trans hj
  | 2, hj => exact (B.cell 2).trans hj
  | 3, hj => exact (B.cell 3).trans hj
  | 4, hj => exact (B.cell 4).trans hj
  | j + 5, hj => simp at hj
theorem res_readK (W : World) (g : Nat) (x0 x1 x2 x3 x4 n p : Value) (tmps : Array Value) (h6 : tmps.getD 6 undef = .pointer (some ⟨g, 0, none⟩)) (h7 : tmps.getD 7 undef = n) (h8 : tmps.getD 8 undef = p)
    (B : Blk W g 25 #[x0, x1, x2, x3, x4]) : (results Tryd.f39 tmps).run Tryd.prog W = .ok (.tuple #[.agg #[x0, x1, x2, x3, x4], n, p]) W := by
  obtain ⟨q0, q1, q2, q3, q4⟩ := five B
  rw [Array.getD_eq_getD_getElem?] at h6 h7 h8
  simp [results, Tryd.results39, go_sem, h6, h7, h8, q0, q1, q2, q3, q4]
def lenS : Value → Nat
  | .string s => s.size
  | _ => 0
theorem rd_less {n m : Nat} {s : List UInt8} {f : Fil} {r : List UInt8} (h : rd n m s = some (f, r)) : r.length < s.length := by
  cases n with
  | zero => cases h
  | succ n =>
    rw [rd] at h
    split at h
    · cases h
    · rename_i h0
      have hh : s.head? = some 40 := Classical.byContradiction fun h1 => h0 (Or.inl h1)
      have hm : 1 ≤ m := by
        rcases Nat.eq_zero_or_pos m with h1 | h1
        · exact absurd (Or.inr h1) h0
        · exact h1
      have hp : 0 < s.length := by
        cases s with
        | nil => cases hh
        | cons c t => simp
      have ht : s.tail.length = s.length - 1 := List.length_tail
      have ht2 : s.tail.tail.length = s.tail.length - 1 := List.length_tail
      have hL : ∀ k, hasK k = true → lp (rd n) k m m [] s.tail.tail = some (f, r) → r.length < s.length := fun k hk h => by
        have := (lp_tot hk (fun m' s f r h => rd_tot n m' s f r h) m [] _ f r (by rw [tots]; exact hm) h).2
        omega
      split at h
      · exact hL 1 rfl h
      · split at h
        · exact hL 2 rfl h
        · split at h
          · exact hL 3 rfl h
          · injection h with h
            injection h with h1 h2
            subst h1 h2
            have := past_len 41 s.tail
            omega
/-- The post of a read: before it the world was w. -/
def ReadPost (w : World) : Option (Fil × List UInt8) → Ending → World → Prop
  | none, r, w' => r = .returned (.tuple #[.agg #[.int .i64 0, .string ⟨#[]⟩, .string ⟨#[]⟩, .slice none 0 0, .slice none 0 0], .string ⟨#[]⟩, .bool false]) ∧ Below w.heap.size w w'
  | some (f, t), r, w' => ∃ x0 x1 x2 x3 x4, r = .returned (.tuple #[.agg #[x0, x1, x2, x3, x4], .string (Nm.mk t), .bool true]) ∧ Below w.heap.size w w' ∧ Lies w' (fun b => w.heap.size ≤ b ∧ b < w'.heap.size) f [x0, x1, x2, x3, x4]
def SaidRead (n : Nat) : Prop := ∀ (m : Nat) (s : ByteArray) (w : World), m ≤ n → m ≤ 20 → s.size ≤ 1000000000 → Calls Tryd.prog 28 #[.string s, .int .i64 m] w (ReadPost w (rd n m (Nm.bs s)))
set_option maxHeartbeats 4000000 in
theorem readK_any (n : Nat) (ih : SaidRead n) (k : Int) (hk : hasK k = true) (m : Nat) (hm1 : 1 ≤ m) (hmn : m ≤ n + 1) (hm20 : m ≤ 20) (s : ByteArray) (w : World) (hs : s.size ≤ 1000000000) :
    Calls Tryd.prog 39 #[.int .i64 k, .string s, .int .i64 m] w (ReadPost w (lp (rd n) k m m [] (Nm.bs s))) := by
  obtain ⟨i0, hi, hz0, hz1, hz2⟩ := info_parts infoFil
  obtain ⟨R, hR⟩ : ∃ R, R = lp (rd n) k m m [] (Nm.bs s) := ⟨_, rfl⟩
  rw [← hR]
  have HR := Lib.hid hR
  have Ih := Lib.hid ih
  have CC := Lib.hid Count_any
  have CP := Lib.hid cutPre_any
  have HKK := Lib.hid hk
  clear hR ih hk
  go_enter Tryd.func39, Tryd.ntmps39
  go_wp2_with fail
  have Z1 := (Blk.new w 25 #[.int .i64 0, .string ⟨#[]⟩, .string ⟨#[]⟩, .slice none 0 0, .slice none 0 0]).alloc (.cells #[.int .i64 k, .string ⟨#[]⟩, .string ⟨#[]⟩, .slice none 0 0, .slice none 0 0] 25)
  have F1 := Blk.new (w.alloc (.cells #[.int .i64 0, .string ⟨#[]⟩, .string ⟨#[]⟩, .slice none 0 0, .slice none 0 0] 25)) 25 #[.int .i64 k, .string ⟨#[]⟩, .string ⟨#[]⟩, .slice none 0 0, .slice none 0 0]
  rw [show (w.alloc (.cells #[.int .i64 0, .string ⟨#[]⟩, .string ⟨#[]⟩, .slice none 0 0, .slice none 0 0] 25)).heap.size = w.heap.size + 1 by simp] at F1
  have hb1 := ((Below.refl w.heap.size w).alloc (Nat.le_refl _) (.cells #[.int .i64 0, .string ⟨#[]⟩, .string ⟨#[]⟩, .slice none 0 0, .slice none 0 0] 25)).alloc (by simp) (.cells #[.int .i64 k, .string ⟨#[]⟩, .string ⟨#[]⟩, .slice none 0 0, .slice none 0 0] 25)
  go_loopw [1] (fun b wr => ∃ (t : ByteArray) (done : List Fil) (v : Value) (xs : List Value) (j : Nat), b = .string t ∧ t.size ≤ s.size ∧ 1 + tots done ≤ m ∧ m ≤ j + tots done ∧ Hid (R = lp (rd n) k m j done (Nm.bs t)) ∧
      Blk wr w.heap.size 25 #[.int .i64 0, .string ⟨#[]⟩, .string ⟨#[]⟩, .slice none 0 0, .slice none 0 0] ∧
      Blk wr (w.heap.size + 1) 25 #[.int .i64 k, .string ⟨#[]⟩, .string ⟨#[]⟩, .slice none 0 0, v] ∧ Gath wr (w.heap.size + 2) v xs done ∧ Below w.heap.size w wr ∧ w.heap.size + 2 ≤ wr.heap.size) (fun b wr => lenS b)
  case atStart =>
    exact ⟨s, [], .slice none 0 0, [], m, rfl, Nat.le_refl _, by rw [tots]; omega, by rw [tots]; omega, HR, Z1, F1, Gath.nil _ _, hb1, by simp⟩
  case round =>
    clear Z1 F1 hb1
    obtain ⟨t, done, v, xs, j, rfl, hts, hdm, hmj, hE, BR, BE, hG, hb, hsz⟩ := hrel
    obtain ⟨j, rfl⟩ : ∃ j', j = j' + 1 := ⟨j - 1, by omega⟩
    have hE1 := hE.out
    rw [lp] at hE1
    have hCP := CP.out t 41
    unfold preV at hCP
    by_cases h41 : (Nm.bs t).head? = some 41
    · rw [if_pos h41] at hE1
      rw [if_pos h41, decide_eq_true h41] at hCP
      have HCP := Lib.hid hCP
      have HE1 := Lib.hid hE1
      obtain ⟨A, c, ds, hv, hc, hK⟩ := hG.shut
      subst hv
      obtain ⟨e0, e1, e2, e3, e4⟩ := five BE
      obtain ⟨r0, r1, r2, r3, r4⟩ := five BR
      obtain ⟨g0, g1, g2, g3, g4⟩ := five_set BR
      have hKK := Lib.hid hK
      have HBR := Lib.hid BR
      have HTL := Lib.hid (tots_len done)
      clear hE hE1 h41 hCP hG hK BR BE
      go_wp2_with fail
      refine (HCP.out _).mono ?_
      rintro e w2 ⟨rfl, rfl⟩
      go_wp2_with fail
      refine bodyPost_ret (res_readK _ w.heap.size _ _ _ _ _ _ _ _ rfl rfl rfl (fset5 HBR.out)) rfl ?_
      rw [HE1.out]
      refine ⟨_, _, _, _, _, rfl, below_set5 hb (Nat.le_refl _) _ _ _ _ _, ?_⟩
      refine Lies.shut (by decide) (by decide) (by simp [maxLen]) (Nat.zero_le _) (StrsAt.nil _ _ _) (by simp) (by have := HTL.out; unfold maxLen; omega) hc (hKK.out.imp (fun b hb' => ⟨by omega, by have := hb'.2; simp [World.setCell]; omega⟩) (fun p hp => ?_))
      have hpb : p.block ≠ w.heap.size := by omega
      rw [World.cell?_setCell_other _ _ _ _ (fun e => hpb (by rw [← e])), World.cell?_setCell_other _ _ _ _ (fun e => hpb (by rw [← e])), World.cell?_setCell_other _ _ _ _ (fun e => hpb (by rw [← e])), World.cell?_setCell_other _ _ _ _ (fun e => hpb (by rw [← e])), World.cell?_setCell_other _ _ _ _ (fun e => hpb (by rw [← e]))]
    · rw [if_neg h41] at hE1
      rw [if_neg h41, decide_eq_false h41, mk_bs] at hCP
      have HCP := Lib.hid hCP
      obtain ⟨A, c, ds, hv, hc, hK⟩ := hG.shut
      subst hv
      obtain ⟨cN, hcN⟩ : ∃ cN, cN = 1 + tots done := ⟨_, rfl⟩
      rw [← hcN] at hE1
      have htl := tots_len done
      have hCnt := CC.out (.mk k ⟨#[]⟩ ⟨#[]⟩ [] done) _ _ _ _ _ wr (Lies.shut (S := none) (sc := 0) (by decide) (by decide) (by simp [maxLen]) (Nat.zero_le _) (StrsAt.nil _ _ _) (by simp) (by unfold maxLen; omega) hc (hK.imp (fun b hb' => hb'.2) (fun _ _ => rfl)))
      rw [tot, HKK.out, if_pos rfl, ← hcN, show min (cN : Int) 21 = cN by omega] at hCnt
      have HCnt := Lib.hid hCnt
      obtain ⟨q, hq⟩ : ∃ q : Nat, (m : Int) - cN = q := ⟨m - cN, by omega⟩
      have hq2 : m - cN = q := by omega
      rw [hq2] at hE1
      have H := fun w1 => Ih.out q t w1 (by omega) (by omega) (by omega)
      have HG0 := Lib.hid hG
      obtain ⟨e0, e1, e2, e3, e4⟩ := five BE
      have HBR0 := Lib.hid BR
      have HBE0 := Lib.hid BE
      have HcN := Lib.hid hcN
      have HTL := Lib.hid htl
      have Hdm := Lib.hid hdm
      have Hmj := Lib.hid hmj
      clear hE h41 hCP hG hK BR BE hCnt hq2 hcN htl hdm hmj
      cases hres : rd n q (Nm.bs t) with
      | none =>
        rw [hres] at hE1 H
        have HE1 := Lib.hid hE1
        have HH := Lib.hid H
        clear hE1 H hres
        go_wp2_with fail
        refine (HCP.out _).mono ?_
        rintro e w2 ⟨rfl, rfl⟩
        go_wp2_with fail
        refine HCnt.out.mono ?_
        rintro e w1 ⟨rfl, hb1⟩
        have BR1 := HBR0.out.past hb1
        have hb2 := hb.trans (hb1.mono (by omega))
        have hs1 := hb1.size
        clear hb1
        go_wp2_with fail
        refine (HH.out _).mono ?_
        rintro e w2 ⟨rfl, hb3⟩
        have BR3 := (BR1.past hb3).alloc (.cells #[.int .i64 0, .string ⟨#[]⟩, .string ⟨#[]⟩, .slice none 0 0, .slice none 0 0] 25)
        have hs3 := hb3.size
        have hb4 := (hb2.trans (hb3.mono (by omega))).alloc (by omega) (.cells #[.int .i64 0, .string ⟨#[]⟩, .string ⟨#[]⟩, .slice none 0 0, .slice none 0 0] 25)
        obtain ⟨r0, r1, r2, r3, r4⟩ := five BR3
        obtain ⟨g0, g1, g2, g3, g4⟩ := five_set BR3
        have HBR3 := Lib.hid BR3
        clear hb3 hb2 BR1 BR3 e0 e1 e2 e3 e4
        go_wp2_with fail
        refine bodyPost_ret (res_readK _ w.heap.size _ _ _ _ _ _ _ _ rfl rfl rfl (fset5 HBR3.out)) rfl ?_
        rw [HE1.out]
        exact ⟨rfl, below_set5 hb4 (Nat.le_refl _) _ _ _ _ _⟩
      | some er =>
        obtain ⟨e, r⟩ := er
        have hle := rd_less hres
        have hte := (rd_tot _ _ _ _ _ hres).1
        have htp := tot_pos e
        have hts2 : (Nm.bs t).length = t.size := rfl
        have HLE := Lib.hid hle
        have HTE := Lib.hid hte
        clear hle hte
        rw [hres] at hE1 H
        have HE1 := Lib.hid hE1
        have HH := Lib.hid H
        clear hE1 H hres
        go_wp2_with fail
        refine (HCP.out _).mono ?_
        rintro e9 w2 ⟨rfl, rfl⟩
        go_wp2_with fail
        refine HCnt.out.mono ?_
        rintro e9 w1 ⟨rfl, hb1⟩
        have BR1 := HBR0.out.past hb1
        have BE1 := HBE0.out.past hb1
        have HG1 := HG0.out.past hb1
        have hb2 := hb.trans (hb1.mono (by omega))
        have hs1 := hb1.size
        clear hb1
        go_wp2_with fail
        refine (HH.out _).mono ?_
        rintro e9 w2 ⟨x0, x1, x2, x3, x4, rfl, hb3, hlies⟩
        obtain ⟨k', a', v', S', m', d', A', n', c', hcs⟩ := hlies.form
        simp only [List.cons.injEq, and_true] at hcs
        obtain ⟨rfl, rfl, rfl, rfl, rfl⟩ := hcs
        have hs3 := hb3.size
        have BE3 := (BE1.past hb3).alloc (.cells #[.int .i64 k', .string a', .string v', .slice S' m' d', .slice A' n' c'] 25)
        have BR3 := (BR1.past hb3).alloc (.cells #[.int .i64 k', .string a', .string v', .slice S' m' d', .slice A' n' c'] 25)
        have k4 : (w2.alloc (.cells #[.int .i64 k', .string a', .string v', .slice S' m' d', .slice A' n' c'] 25)).cell? ⟨w.heap.size + 1, 4, none⟩ = some (.slice A done.length c) := BE3.cell 4
        have hG3 := (HG1.past hb3).alloc (.cells #[.int .i64 k', .string a', .string v', .slice S' m' d', .slice A' n' c'] 25)
        have hlies3 : Lies (w2.alloc (.cells #[.int .i64 k', .string a', .string v', .slice S' m' d', .slice A' n' c'] 25)) (fun b => w.heap.size + 2 ≤ b ∧ b < (w2.alloc (.cells #[.int .i64 k', .string a', .string v', .slice S' m' d', .slice A' n' c'] 25)).heap.size ∧ (Value.slice A done.length c).ownBlock ≠ some b) e [.int .i64 k', .string a', .string v', .slice S' m' d', .slice A' n' c'] := by
          refine hlies.imp (fun b hb' => ⟨by omega, by simp; omega, fun e => ?_⟩) (fun p hp => World.cell?_alloc_lt _ _ _ hp.2)
          have := (HG1.1.lt _ e).2
          omega
        have hne1 : ∀ q, (Value.slice A done.length c).ownBlock = some q → w.heap.size + 2 ≤ q := fun q hq => (HG1.1.lt _ hq).1
        have HG := Lib.hid hG3
        have HLies := Lib.hid hlies3
        have HB1 := Lib.hid HG1
        clear hlies hlies3 hG3 HG1 BR1 BE1 e0 e1 e2 e3 e4
        go_wp2_with (at_builtin; go_loud (refine wpList_append_own_at _ rfl (.tmp 39) (.tmp 41) 23 rfl (w.heap.size + 2) 25 i0 (.agg #[.int .i64 0, .string ⟨#[]⟩, .string ⟨#[]⟩, .slice none 0 0, .slice none 0 0]) 5 88 Tryd.underlying23 hi hz0 hz1 hz2 rfl (by decide) (.slice A done.length c) done.length xs rfl (HG.out.alloc _).1 ⟨w2.heap.size + 1, 0, none⟩ 1 1 [.int .i64 k', .string a', .string v', .slice S' m' d', .slice A' n' c'] rfl rfl (five_new _ _ _ _ _ _ _ _ (by simp)) ?q2 ?q3 ?q4 ?q5 ?_))
        case q2 => intro u hu; simp at hu; rcases hu with rfl | rfl | rfl | rfl | rfl <;> rfl
        case q3 => have := HTL.out; have := Hdm.out; unfold maxLen; omega
        case q4 => have := HTL.out; have := Hdm.out; omega
        case q5 => simp; omega
        intro v2 w3 hown3 hg3 _ hat3
        have BR4 := (BR3.alloc (.cells #[.int .i64 k', .string a', .string v', .slice S' m' d', .slice A' n' c'] 25)).grown hg3 (fun e => by have := hne1 _ e.symm; omega)
        have BE4 := (BE3.alloc (.cells #[.int .i64 k', .string a', .string v', .slice S' m' d', .slice A' n' c'] 25)).grown hg3 (fun e => by have := hne1 _ e.symm; omega)
        have hl4 := HLies.out.imp (w' := (w2.alloc (.cells #[.int .i64 k', .string a', .string v', .slice S' m' d', .slice A' n' c'] 25)).alloc (.cells #[.int .i64 k', .string a', .string v', .slice S' m' d', .slice A' n' c'] 25)) (P' := fun b => w.heap.size + 2 ≤ b ∧ b < ((w2.alloc (.cells #[.int .i64 k', .string a', .string v', .slice S' m' d', .slice A' n' c'] 25)).alloc (.cells #[.int .i64 k', .string a', .string v', .slice S' m' d', .slice A' n' c'] 25)).heap.size ∧ (Value.slice A done.length c).ownBlock ≠ some b)
          (fun b hb' => ⟨hb'.1, by have := hb'.2.1; simp at this ⊢; omega, hb'.2.2⟩) (fun p hp => World.cell?_alloc_lt _ _ _ hp.2.1)
        have hG4 := Gath.step (HG.out.alloc (.cells #[.int .i64 k', .string a', .string v', .slice S' m' d', .slice A' n' c'] 25)) rfl hl4 hown3 hg3 (by simpa using hat3)
        have hb4 := (((hb2.trans (hb3.mono (by omega))).alloc (by omega) (.cells #[.int .i64 k', .string a', .string v', .slice S' m' d', .slice A' n' c'] 25)).alloc (by simp; omega) (.cells #[.int .i64 k', .string a', .string v', .slice S' m' d', .slice A' n' c'] 25)).grown hg3 (by simp; omega) (fun q hq => by have := hne1 _ hq; omega)
        have hs4 : w2.heap.size + 2 ≤ w3.heap.size := by have := hg3.size; simp at this; omega
        obtain ⟨ao, q4, cp, hv2⟩ : ∃ ao q cp, v2 = .slice ao q cp := by
          rcases hown3.2 with ⟨hv, _⟩ | ⟨g, cap, cur, hv, _⟩
          · exact ⟨_, _, _, hv⟩
          · exact ⟨_, _, _, hv⟩
        subst hv2
        have k5 : w3.cell? ⟨w.heap.size + 1, 4, none⟩ = some (.slice A done.length c) := BE4.cell 4
        have kf := BE4.frozen 4
        have HG4 := Lib.hid hG4
        clear hg3 hown3 hat3 hl4 hG4 k4 BE3 BR3 hb3
        go_wp2_with fail
        go_roundw
        case rel =>
          have := HLE.out
          have := HTE.out
          have := HcN.out
          have := Hdm.out
          have := Hmj.out
          refine ⟨Nm.mk r, done ++ [e], _, _, j, rfl, by show r.length ≤ _; omega, by rw [tots_app, tots, tots]; omega, by rw [tots_app, tots, tots]; omega, HE1.out, BR4.far (by show w.heap.size ≠ w.heap.size + 1; omega) _, BE4.set_ 4 _, HG4.out.set_ (p := ⟨w.heap.size + 1, 4, none⟩) (by show w.heap.size + 1 < w.heap.size + 2; omega) _,
            hb4.setCell (p := ⟨w.heap.size + 1, 4, none⟩) (by show w.heap.size ≤ w.heap.size + 1; omega) _, by simp [World.setCell]; omega⟩
        case measure => have := HLE.out; simp [lenS]; show r.length < t.size; omega
end Go.Proofs.YticfemheneljmaaDoor.Fi
