/- What Next of a Cutter answers: the message that the plain function nx tells. -/
import Derived.Test.YtiaghkngafajgaaFace
namespace Go.Proofs.Ytiaghkngafajgaa
open Go.RowKit
set_option linter.unusedVariables false
set_option maxRecDepth 100000

/-- The answer of Next. -/
def nxV (l : List UInt8) : Value := .tuple #[.string ⟨(nx l).1.toArray⟩, .int .i64 (nx l).2.1]

theorem cut_drop {p g o c m o' c' : Nat} {l : List UInt8} {w : World} {cur : Array Value} (hB : Blk w p 48 #[.slice (some ⟨g, o, none⟩) l.length c]) (hg : w.heap[g]? = some (.cells cur 5 (0, 0)))
    (ht : (cur.toList.drop o).take l.length = Lib.byteCells l) (hm : m ≤ l.length) (hc : l.length ≤ c) (hoc : o + c ≤ cur.size) (hr : l.length ≤ 16000) (hne : p ≠ g) (ho : o' = o ∧ c = m ∧ c' = 0 ∨ o' = o + m ∧ c' = c - m) :
    Cut (w.setCell ⟨p, 0, none⟩ (.slice (some ⟨g, o', none⟩) (l.length - m) c')) p g (l.drop m) ∧ Kept (Two p g) w (w.setCell ⟨p, 0, none⟩ (.slice (some ⟨g, o', none⟩) (l.length - m) c')) := by
  have hd : (l.drop m).length = l.length - m := List.length_drop
  refine ⟨⟨⟨_, hB.set_ 0 _, Or.inr ⟨o', c', cur, by rw [hd], (Below.heap_setCell w ⟨p, 0, none⟩ _ g (fun e => hne e.symm)).trans hg, by omega, by omega, ?_⟩, fun e => absurd e hne⟩, by omega, by
    have h7 : g < w.heap.size := by
      rcases Nat.lt_or_ge g w.heap.size with h' | h'
      · exact h'
      · simp [Array.getElem?_eq_none h'] at hg
    simpa [World.setCell] using h7⟩, ⟨rfl, rfl, rfl, by simp [World.setCell], fun k _ hS => Below.heap_setCell w ⟨p, 0, none⟩ _ k (fun e => hS (Or.inl e))⟩⟩
  rw [hd]
  rcases ho with ⟨rfl, rfl, rfl⟩ | ⟨rfl, rfl⟩
  · have h0 : l.length - c = 0 := by omega
    have h1 : l.drop c = [] := List.eq_nil_of_length_eq_zero (by omega)
    rw [h0, h1]
    rfl
  · rw [← List.drop_drop, ← List.drop_take, ht, Lib.byteCells, Lib.byteCells, List.map_drop]

set_option maxHeartbeats 1000000 in
theorem Next_any (p g : Nat) (l : List UInt8) (w : World) (h : Cut w p g l) :
    Calls Try.prog 11 #[.pointer (some ⟨p, 0, none⟩)] w fun e w' => e = .returned (nxV l) ∧ Cut w' p g (nx l).2.2 ∧ Kept (Two p g) w w' := by
  have hC := h
  obtain ⟨⟨v, hb, hh, hn⟩, hr, hlt⟩ := h
  have CF := Lib.hid (first_any w v g l hh hr)
  obtain ⟨A, n, c, rfl⟩ := hh.slice
  obtain rfl := hh.len
  have c0 : w.cell? ⟨p, 0, none⟩ = some (.slice A l.length c) := hb.cell 0
  have Hn := Lib.hid hn
  clear hn
  go_enter Try.func11, Try.ntmps11
  go_wp2_with fail
  refine CF.out.mono ?_
  clear CF
  rintro r w1 ⟨hb1, ⟨h, n, rfl, h2, hfit, hx⟩ | ⟨pb, e, rfl, hcell, hor, hx⟩⟩
  · rcases hh with ⟨hv, rfl⟩ | ⟨o, cap, cur, hv, hg, hc, hoc, ht⟩
    · simp at hfit; omega
    obtain ⟨rfl, rfl⟩ : A = some ⟨g, o, none⟩ ∧ c = cap := by injection hv with a1 a2 a3; exact ⟨a1, a3⟩
    have hg1 : w1.heap[g]? = some (.cells cur 5 (0, 0)) := (hb1.block g (by
      rcases Nat.lt_or_ge g w.heap.size with h' | h'
      · exact h'
      · simp [Array.getElem?_eq_none h'] at hg)).trans hg
    have hB1 : Blk w1 p 48 #[.slice (some ⟨g, o, none⟩) l.length c] := hb.past hb1
    have cell := fun i hi => held_cell hg1 ht rfl i hi
    obtain ⟨m, hm⟩ : ∃ m, m = h + n := ⟨_, rfl⟩
    have hml : (l.take m).length = m := by rw [List.length_take]; omega
    have HV : ∀ w2, w2 = w1 → (convert 23 9 (.slice (some ⟨g, o, none⟩) m c)).run Try.prog w2 = .ok (.string ⟨(l.take m).toArray⟩) w2 := by
      rintro w2 rfl
      have := conv_mid w2 g o c (l.take m) (fun i hi => by
        rw [hml] at hi
        rw [cell i (by omega)]
        simp)
      rwa [hml] at this
    have V := Lib.hid (HV w1 rfl)
    have d0 : w1.cell? ⟨p, 0, none⟩ = some (.slice (some ⟨g, o, none⟩) l.length c) := hB1.cell 0
    have f0 : w1.frozen? ⟨p, 0, none⟩ = false := hB1.frozen 0
    have e1 : ((h : Int) + n) = (m : Int) := by omega
    rw [e1]
    rw [← hm] at hfit hx
    have hcl : (l.length : Int) ≤ c := by omega
    have hfit' : (m : Int) ≤ l.length := by omega
    have hX := Lib.hid hx
    have Hg := Lib.hid hg1
    have Ht := Lib.hid ht
    clear HV cell hx hv hg hg1 ht hm e1 hml c0
    go_wp2_with fail
    rw [V.out]
    simp only [Result.andThen]
    rw [Oper.upon_value]
    go_wp2_with fail
    all_goals go_ret2
    all_goals
      have hx := hX.out
      have hne : p ≠ g := fun e => by cases Hn.out e
      have key := fun o' c' => cut_drop (m := m) (o' := o') (c' := c') hB1 Hg.out Ht.out hfit hc hoc hr hne
      refine ⟨by unfold nxV; rw [hx]; rfl, ?_⟩
      rw [hx]
    · obtain ⟨k1, k2⟩ := key o 0 (Or.inl ⟨rfl, h, rfl⟩)
      exact ⟨k1, (Kept.of_below _ hb1).trans k2 (fun _ _ h => h)⟩
    · obtain ⟨k1, k2⟩ := key (o + m) (c - m) (Or.inr ⟨rfl, rfl⟩)
      exact ⟨k1, (Kept.of_below _ hb1).trans k2 (fun _ _ h => h)⟩
  · have C2 := Lib.hid (number_any pb e w1 hcell (by omega))
    have hX := Lib.hid hx
    clear hcell hx hh hb c0 hor
    go_wp2_with fail
    refine C2.out.mono ?_
    rintro r w2 ⟨rfl, rfl⟩
    go_wp2_with fail
    go_ret2
    have hx := hX.out
    refine ⟨by unfold nxV; rw [hx]; rfl, ?_, Kept.of_below _ hb1⟩
    rw [hx]
    exact hC.past hb1
end Go.Proofs.Ytiaghkngafajgaa
