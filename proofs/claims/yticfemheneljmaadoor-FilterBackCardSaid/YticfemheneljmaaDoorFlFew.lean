/- What fewFilter answers: whether a filter is looked at. -/
import Derived.Test.YticfemheneljmaaDoorFlMem
import Derived.Test.YticfemheneljmaaDoorNType
import Derived.Deep.LoopGhost
namespace Go.Proofs.YticfemheneljmaaDoor.Fi
open Go.RowKit
set_option linter.unusedVariables false
set_option maxRecDepth 100000

def few : Nat → Fil → Bool
  | 0, _ => false
  | n + 1, .mk k a v ss ks => decide (ks.length ≤ 8) && (decide (a.size ≤ 30) && (decide (v.size ≤ 80) && (decide (ss.length ≤ 24) && (ss.all (fun s => decide (s.size ≤ 80)) && ks.all (few n)))))
theorem all_drop {α : Type} {p : α → Bool} {l : List α} {i : Nat} (h : i < l.length) : (l.drop i).all p = (p l[i] && (l.drop (i + 1)).all p) := by
  rw [List.drop_eq_getElem_cons h, List.all_cons]
def SaidFew (f : Fil) : Prop := ∀ (n : Nat) (d : Int) (x0 x1 x2 x3 x4 : Value) (w : World), Hid (d = 13 - n) → 0 ≤ d → d ≤ 13 → Lies w (· < w.heap.size) f [x0, x1, x2, x3, x4] →
    Calls Tryd.prog 9 #[.agg #[x0, x1, x2, x3, x4], .int .i64 d] w fun r w' => r = .returned (.bool (few n f)) ∧ Below w.heap.size w w'

set_option maxHeartbeats 2000000 in
theorem few_any (f : Fil) : SaidFew f := by
  refine ind ?_ f
  intro k a v ss ks ih n d x0 x1 x2 x3 x4 w hf hd0 hd hL
  obtain ⟨S, sc, A, c, ds, hcs, ha, hv, hsl, hsc, hs, hss, hl, hcl, hK⟩ := hL.open_
  simp only [List.cons.injEq, and_true] at hcs
  obtain ⟨rfl, rfl, rfl, rfl, rfl⟩ := hcs
  unfold maxLen at hl ha hv hsl
  cases n with
  | zero =>
    have hr := Lib.hid (show few 0 (.mk k a v ss ks) = false by simp [few])
    have hd12 : 12 < d := by have := hf.out; omega
    clear ih
    go_enter Tryd.func9, Tryd.ntmps9
    go_wp2_with fail
    go_ret
    rw [hr.out]
    exact ⟨rfl, (Below.refl _ _).alloc (Nat.le_refl _) _⟩
  | succ n =>
  have hd12 : d ≤ 12 := by have := hf.out; omega
  have hbad : (8 < (ks.length : Int) ∨ (ks.length : Int) ≤ 8 ∧ 30 < (a.size : Int) ∨ (ks.length : Int) ≤ 8 ∧ (a.size : Int) ≤ 30 ∧ 80 < (v.size : Int) ∨ (ks.length : Int) ≤ 8 ∧ (a.size : Int) ≤ 30 ∧ (v.size : Int) ≤ 80 ∧ 24 < (ss.length : Int)) →
      few (n + 1) (.mk k a v ss ks) = false := by
    intro h
    unfold few
    rcases h with h | ⟨_, h⟩ | ⟨_, _, h⟩ | ⟨_, _, _, h⟩
    · rw [decide_eq_false (by omega)]; rfl
    · rw [decide_eq_false (p := a.size ≤ 30) (by omega)]; simp
    · rw [decide_eq_false (p := v.size ≤ 80) (by omega)]; simp
    · rw [decide_eq_false (p := ss.length ≤ 24) (by omega)]; simp
  by_cases hb : (8 < (ks.length : Int) ∨ (ks.length : Int) ≤ 8 ∧ 30 < (a.size : Int) ∨ (ks.length : Int) ≤ 8 ∧ (a.size : Int) ≤ 30 ∧ 80 < (v.size : Int) ∨ (ks.length : Int) ≤ 8 ∧ (a.size : Int) ≤ 30 ∧ (v.size : Int) ≤ 80 ∧ 24 < (ss.length : Int))
  · have hr := Lib.hid (hbad hb)
    clear ih hbad
    rcases hb with h1 | ⟨h1, h2⟩ | ⟨h1, h2, h3⟩ | ⟨h1, h2, h3, h4⟩
    all_goals
      go_enter Tryd.func9, Tryd.ntmps9
      go_wp2_with fail
      go_ret
      rw [hr.out]
      exact ⟨rfl, (Below.refl _ _).alloc (Nat.le_refl _) _⟩
  have h1 : (ks.length : Int) ≤ 8 := by omega
  have h2 : (a.size : Int) ≤ 30 := by omega
  have h3 : (v.size : Int) ≤ 80 := by omega
  have h4 : (ss.length : Int) ≤ 24 := by omega
  have hr := Lib.hid (show few (n + 1) (.mk k a v ss ks) = (ss.all (fun s => decide (s.size ≤ 80)) && ks.all (few n)) by
    unfold few
    rw [decide_eq_true (by omega), decide_eq_true (p := a.size ≤ 30) (by omega), decide_eq_true (p := v.size ≤ 80) (by omega), decide_eq_true (p := ss.length ≤ 24) (by omega)]
    simp)
  have Ih := Lib.hid ih
  have HS := Lib.hid hs
  clear ih hbad hb hL hs
  go_enter Tryd.func9, Tryd.ntmps9
  go_wp2_with fail
  go_loopw [5] (fun i wr => ∃ q : Nat, q ≤ ss.length ∧ i = .int .i64 q ∧ Hid (ss.all (fun s => decide (s.size ≤ 80)) = (ss.drop q).all (fun s => decide (s.size ≤ 80))) ∧ wr = w.alloc (.cells #[.int .i64 k, .string a, .string v, .slice S ss.length sc, .slice A ks.length c] 25)) (fun i wr => ss.length - (intOf i).toNat)
  case atStart => exact ⟨0, Nat.zero_le _, rfl, rfl, rfl⟩
  case round =>
    obtain ⟨q, hq, rfl, hE, rfl⟩ := hrel
    have hb0 : Below w.heap.size w (w.alloc (.cells #[.int .i64 k, .string a, .string v, .slice S ss.length sc, .slice A ks.length c] 25)) := (Below.refl _ _).alloc (Nat.le_refl _) _
    by_cases hlt : q < ss.length
    · obtain ⟨ad, rfl, hp, hc⟩ := HS.out (by omega)
      have f0 := batA hb0 (by rw [block_of_add]; exact hp) (hc q hlt)
      have hE2 := hE.out
      rw [all_drop hlt] at hE2
      generalize ss[q] = s at f0 hE2
      have HE := Lib.hid hE2
      clear hE hE2 hc
      by_cases h80 : 80 < (s.size : Int)
      · go_wp2_with fail
        go_ret
        refine ⟨ret_bool ?_, hb0⟩
        rw [hr.out, HE.out, decide_eq_false (by omega)]; rfl
      · have h80' : (s.size : Int) ≤ 80 := by omega
        clear h80
        go_wp2_with fail
        refine ⟨⟨q + 1, by omega, by go_num, ?_, trivial⟩, by simp [intOf]; omega⟩
        show _ = _
        rw [HE.out, decide_eq_true (by omega)]; rfl
    · have hE2 := hE.out
      rw [List.drop_eq_nil_of_le (by omega), List.all_nil] at hE2
      have HR := Lib.hid (show few (n + 1) (.mk k a v ss ks) = ks.all (few n) by rw [hr.out, hE2]; rfl)
      have hq2 : q = ss.length := by omega
      subst hq2
      clear hE hE2 hr hb0
      go_wp2_with fail
      go_loopw [6] (fun i wr => ∃ q : Nat, q ≤ ks.length ∧ i = .int .i64 q ∧ Hid (few (n + 1) (.mk k a v ss ks) = (ks.drop q).all (few n)) ∧ Blk wr w.heap.size 25 #[.int .i64 k, .string a, .string v, .slice S ss.length sc, .slice A ks.length c] ∧ Below w.heap.size w wr) (fun i wr => ks.length - (intOf i).toNat)
      case atStart => exact ⟨0, Nat.zero_le _, rfl, HR, Blk.new _ _ _, (Below.refl _ _).alloc (Nat.le_refl _) _⟩
      case round =>
        obtain ⟨q, hq, rfl, hE, B, hb⟩ := hrel
        have hs := hb.size
        have hblt := B.lt
        have b4 : wr.cell? ⟨w.heap.size, 4, none⟩ = some (.slice A ks.length c) := B.cell 4
        by_cases hlt : q < ks.length
        · obtain ⟨ad, k', a', v', S', m', d', A', n', c', rfl, hp, f0, f1, f2, f3, f4, hL⟩ := hK.kid hb hlt
          have hE2 := hE.out
          rw [all_drop hlt] at hE2
          have H := Ih.out _ (List.getElem_mem hlt) n (d + 1) _ _ _ _ _ wr (by show _ = _; have := hf.out; omega) (by omega) (by omega) hL
          generalize few n ks[q] = t at hE2 H
          have HE := Lib.hid hE2
          have HH := Lib.hid H
          clear hE hE2 H hL
          go_wp2_with fail
          refine HH.out.mono ?_
          rintro e w1 ⟨rfl, hb1⟩
          have hb2 := hb.trans (hb1.mono hs)
          have B1 := B.past hb1
          clear hb1
          cases t with
          | false =>
            go_wp2_with fail
            go_ret
            refine ⟨ret_bool ?_, hb2⟩
            rw [HE.out]; rfl
          | true =>
            go_wp2_with fail
            refine ⟨⟨q + 1, by omega, by go_num, HE.out, B1, hb2⟩, by simp [intOf]; omega⟩
        · have hE2 := hE.out
          rw [List.drop_eq_nil_of_le (by omega), List.all_nil] at hE2
          have HE := Lib.hid hE2
          clear hE hE2
          go_wp2_with fail
          go_ret
          exact ⟨ret_bool HE.out.symm, hb⟩
end Go.Proofs.YticfemheneljmaaDoor.Fi
