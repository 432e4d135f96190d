/- What New, Feed, Next, Left of a Cutter answer, and what they leave as it was. -/
import Derived.Test.YtiaghkngafajgaaFirst
namespace Go.Proofs.Ytiaghkngafajgaa
open Go.RowKit
set_option linter.unusedVariables false
set_option maxRecDepth 100000

theorem New_any (w : World) : Calls Try.prog 7 #[] w fun e w' => e = .returned (.pointer (some ⟨w.heap.size, 0, none⟩)) ∧ Cut w' w.heap.size w.heap.size [] ∧ Below w.heap.size w w' ∧ w'.heap.size = w.heap.size + 1 := by
  go_enter Try.func7, Try.ntmps7
  go_wp2
  go_ret
  exact ⟨rfl, ⟨⟨_, Blk.new w _ _, Or.inl ⟨rfl, rfl⟩, fun _ => rfl⟩, by simp, by simp⟩, (Below.refl _ _).alloc (Nat.le_refl _) _, by simp⟩

theorem Left_any (p g : Nat) (l : List UInt8) (w : World) (h : Cut w p g l) :
    Calls Try.prog 13 #[.pointer (some ⟨p, 0, none⟩)] w fun e w' => e = .returned (.int .i64 l.length) ∧ w = w' := by
  obtain ⟨⟨v, hb, hh, hn⟩, hr, hlt⟩ := h
  obtain ⟨A, n, c, rfl⟩ := hh.slice
  obtain rfl := hh.len
  have c0 : w.cell? ⟨p, 0, none⟩ = some (.slice A l.length c) := hb.cell 0
  clear hb hh hn
  go_enter Try.func13, Try.ntmps13
  go_wp2
  go_ret
  exact ⟨rfl, rfl⟩

set_option maxHeartbeats 1000000 in
theorem Feed_any (p g : Nat) (l : List UInt8) (s : ByteArray) (w : World) (h : Cut w p g l) (hs : s.size ≤ maxLen) :
    Calls Try.prog 9 #[.pointer (some ⟨p, 0, none⟩), .string s] w fun e w' => e = .returned (.int .i64 (fd l s.data.toList).2) ∧
      ∃ g', (g' = g ∨ w.heap.size ≤ g' ∧ g' < w'.heap.size) ∧ Cut w' p g' (fd l s.data.toList).1 ∧ Kept (Two p g) w w' := by
  have hC := h
  obtain ⟨⟨v, hb, hh, hn⟩, hr, hlt⟩ := h
  obtain ⟨A, n, c, rfl⟩ := hh.slice
  obtain rfl := hh.len
  have c0 : w.cell? ⟨p, 0, none⟩ = some (.slice A l.length c) := hb.cell 0
  have hss : s.data.toList.length = s.size := rfl
  unfold maxLen at hs
  by_cases hfit : (16000 : Int) - l.length < s.size
  · have hf : fd l s.data.toList = (l, 13) := by unfold fd; rw [if_pos (by omega)]
    rw [hf]
    clear hf hh hn hb
    go_enter Try.func9, Try.ntmps9
    go_wp2
    go_ret
    exact ⟨rfl, g, Or.inl rfl, hC, Kept.refl _ _⟩
  · have hf : fd l s.data.toList = (l ++ s.data.toList, 0) := by unfold fd; rw [if_neg (by omega)]
    have hfit' : (s.size : Int) ≤ 16000 - l.length := by omega
    have hp := hb.lt
    rw [hf]
    clear hf hfit
    go_enter Try.func9, Try.ntmps9
    go_wp2_with (at_builtin; refine wpList_append_held rfl _ _ rfl _ g l rfl hh s rfl ?c3 ?_)
    case c3 => omega
    intro v' w1 g' hh' hgr hg'
    have Hg := Lib.hid hg'
    clear hg'
    have hpo : some p ≠ (Value.slice A l.length c).ownBlock := by
      rcases hh.own with ⟨e, _⟩ | e
      · rw [e]; simp
      · rw [e]
        intro h9
        injection h9 with h9
        have := hn h9
        rw [this] at e
        simp [Value.ownBlock] at e
    have hb1 : Blk w1 p 48 #[.slice A l.length c] := hb.grown hgr hpo
    have hk : Kept (Two p g) w w1 := ⟨hgr.os, hgr.tape, hgr.output, hgr.size, fun k hk hS => hgr.block k hk (fun e => by
      rcases hh.own with ⟨e2, _⟩ | e2
      · rw [e2] at e; cases e
      · rw [e2] at e; injection e with e; exact hS (Or.inr e))⟩
    have d0 : w1.cell? ⟨p, 0, none⟩ = some (.slice A l.length c) := hb1.cell 0
    have f0 : w1.frozen? ⟨p, 0, none⟩ = false := hb1.frozen 0
    obtain ⟨A', n', cc, rfl⟩ := hh'.slice
    go_wp2
    go_ret
    refine ⟨rfl, g', ?_, ⟨⟨_, hb1.set_ 0 _, ?_, ?_⟩, ?_, ?_⟩, ?_⟩
    · rcases Hg.out with ⟨h9, _⟩ | h9
      · exact Or.inl h9
      · exact Or.inr ⟨h9.1, by simpa [World.setCell] using h9.2⟩
    · rcases hh' with ⟨e1, e2⟩ | ⟨o, cap, cur, e1, e3, r⟩
      · exact Or.inl ⟨e1, e2⟩
      · have hne : g' ≠ p := by
          rintro rfl
          rw [hb1] at e3
          injection e3 with e3
          injection e3 with e4 e5 e6
          exact absurd e5 (by decide)
        exact Or.inr ⟨o, cap, cur, e1, (Below.heap_setCell w1 ⟨p, 0, none⟩ _ g' hne).trans e3, r⟩
    · intro e
      rcases Hg.out with ⟨rfl, h9⟩ | h9
      · have e2 := hn e
        simp only [Value.slice.injEq] at e2 h9 ⊢
        simp_all
      · omega
    · show (l ++ s.data.toList).length ≤ 16000
      rw [List.length_append]; omega
    · have h8 := hgr.size
      show g' < (w1.setCell _ _).heap.size
      simp only [World.setCell, Array.size_modify]
      rcases Hg.out with ⟨h9, _⟩ | h9 <;> omega
    · exact hk.trans (T := Two p g) ⟨rfl, rfl, rfl, by simp [World.setCell], fun k _ hS => Below.heap_setCell w1 ⟨p, 0, none⟩ _ k (fun e => hS (Or.inl e))⟩ (fun _ _ h => h)
end Go.Proofs.Ytiaghkngafajgaa
