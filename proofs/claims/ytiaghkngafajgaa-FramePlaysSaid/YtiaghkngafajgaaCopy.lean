/- What Copy of a Cutter answers: another one that holds the same bytes in memory of its own. What Feed and Next of the reference's Cutter answer. -/
import Derived.Test.YtiaghkngafajgaaFKnown
import Derived.Test.YtiaghkngafajgaaRHead
namespace Go.Proofs.Ytiaghkngafajgaa
open Go.RowKit
set_option linter.unusedVariables false
set_option maxRecDepth 100000

theorem held_of_own {w : World} {base : Nat} {v : Value} {n : Nat} {l : List UInt8} (h : w.ownsRow base 5 1 v n (Lib.byteCells l)) (hn : n = l.length) : v = .slice none 0 0 ∧ l = [] ∨ ∃ g, base ≤ g ∧ g < w.heap.size ∧ Held w v g l := by
  subst hn
  rcases h.2 with ⟨rfl, h0⟩ | ⟨g, cap, cur, rfl, hg, hh, hc, hm, hs, ht⟩
  · exact Or.inl ⟨rfl, List.eq_nil_of_length_eq_zero h0⟩
  · refine Or.inr ⟨g, hg, ?_, Or.inr ⟨0, cap, cur, rfl, hh, hc, by omega, by simpa using ht⟩⟩
    rcases Nat.lt_or_ge g w.heap.size with h' | h'
    · exact h'
    · simp [Array.getElem?_eq_none h'] at hh

/-- Of whatever program: a slice against nil. -/
theorem eq_slice_nil {P : Program} {T e : TypeId} (h : P.underlying T = some (.slice e)) (A : Option Addr) (n c : Nat) (w : World) : (binOp .eql T (.slice A n c) (.slice none 0 0)).run P w = .ok (.bool A.isNone) w := by
  have deep : ∀ k, (Op.equalIn (k + 1) T (.slice A n c) (.slice none 0 0)).run P w = .ok A.isNone w := fun k => by
    cases A <;> simp [Op.equalIn, run_underlying h]
  have h2 := deep 9999
  simp [binOp, Op.equal, Op.maxDepth, h2]

set_option maxHeartbeats 1000000 in
theorem cloneB_any (v : Value) (g : Nat) (l : List UInt8) (w : World) (hh : Held w v g l) (hl : l.length ≤ 16000) :
    Calls Try.prog 15 #[v] w fun e w' => ∃ A n c g', e = .returned (.slice A n c) ∧ Held w' (.slice A n c) g' l ∧ Below w.heap.size w w' ∧ (Value.slice A n c = .slice none 0 0 ∨ w.heap.size ≤ g' ∧ g' < w'.heap.size) := by
  obtain ⟨i0, hi, hz0, hz1, hz2⟩ := info_parts info8
  have hh0 := hh
  have En := fun A n c w => eq_slice_nil (P := Try.prog) Try.underlying23 A n c w
  rcases hh with ⟨rfl, rfl⟩ | ⟨o, cap, cur, rfl, hg, hc, hoc, ht⟩
  · go_enter Try.func15, Try.ntmps15
    go_wp2
    go_ret
    exact ⟨_, _, _, g, rfl, Or.inl ⟨rfl, rfl⟩, Below.refl _ _, Or.inl rfl⟩
  · have cell := fun i hi => held_cell hg ht rfl i hi
    have own0 : (w.alloc (.cells #[] 5)).ownsRow w.heap.size 5 1 (.slice (some ⟨w.heap.size, 0, none⟩) 0 0) 0 [] := ⟨rfl, Or.inr ⟨w.heap.size, 0, #[], rfl, Nat.le_refl _, heap_alloc_new w _, Nat.le_refl _, by unfold maxLen; omega, rfl, rfl⟩⟩
    have hlt : g < w.heap.size := by
      rcases Nat.lt_or_ge g w.heap.size with h' | h'
      · exact h'
      · simp [Array.getElem?_eq_none h'] at hg
    have news : ∀ j u, (Lib.byteCells l)[j]? = some u → (w.alloc (.cells #[] 5)).cell? ((⟨g, o, none⟩ : Addr).add j) = some u := fun j u hj => by
      have hjl : j < l.length := by
        have := (List.getElem?_eq_some_iff.1 hj).1
        rwa [Lib.byteCells_length] at this
      rw [Addr.add_lit, World.cell?_alloc_lt _ _ _ (by exact hlt), cell j hjl, ← hj, Lib.byteCells, List.getElem?_map, List.getElem?_eq_getElem hjl]
      rfl
    have Hc := Lib.hid cell
    clear cell ht hg
    go_enter Try.func15, Try.ntmps15
    go_wp2_with (at_builtin; refine wpList_append_own _ rfl _ _ 23 rfl w.heap.size 5 i0 (.int .u8 0) 1 1 Try.underlying23 hi hz0 hz1 hz2 rfl (by decide) _ 0 [] rfl own0 ⟨g, o, none⟩ l.length cap (Lib.byteCells l) rfl ?a0 news ?b0 ?c0 ?d0 ?e0 ?_)
    case a0 => rw [Lib.byteCells_length, Nat.mul_one]
    case b0 =>
      intro u hu
      simp only [Lib.byteCells, List.mem_map] at hu
      obtain ⟨b, _, rfl⟩ := hu
      rfl
    case c0 => unfold maxLen; omega
    case d0 => omega
    case e0 => simp
    intro v1 w1 hown1 hg1 hnil
    have hb1 : Below w.heap.size w w1 := ((Below.refl w.heap.size w).alloc (Nat.le_refl _) (.cells #[] 5)).grown hg1 (by simp) (fun k hk => by simp [Value.ownBlock] at hk; omega)
    have Hnil := Lib.hid hnil
    have Hown : Hid (w1.ownsRow w.heap.size 5 1 v1 l.length (Lib.byteCells l)) := hown1
    obtain ⟨A, n', c', rfl⟩ : ∃ A n c, v1 = .slice A n c := by
      rcases Hown.out.2 with ⟨h, _⟩ | ⟨_, _, _, h, _⟩
      · exact ⟨_, _, _, h⟩
      · exact ⟨_, _, _, h⟩
    clear hown1 hg1 hnil own0 news
    go_wp2
    go_ret
    rcases held_of_own Hown.out rfl with ⟨h1, h2⟩ | ⟨g', h1, h2, h3⟩
    · exact ⟨A, n', c', g, rfl, by rw [h1, h2]; exact Or.inl ⟨rfl, rfl⟩, hb1, Or.inl h1⟩
    · exact ⟨A, n', c', g', rfl, h3, hb1, Or.inr ⟨h1, h2⟩⟩

set_option maxHeartbeats 1000000 in
theorem Copy_any (p g : Nat) (l : List UInt8) (w : World) (h : Cut w p g l) :
    Calls Try.prog 8 #[.pointer (some ⟨p, 0, none⟩)] w fun e w' => ∃ p2 g2, e = .returned (.pointer (some ⟨p2, 0, none⟩)) ∧ w.heap.size ≤ p2 ∧ w.heap.size ≤ g2 ∧ Cut w' p2 g2 l ∧ Below w.heap.size w w' := by
  obtain ⟨⟨v, hb, hh, hn⟩, hr, hlt⟩ := h
  have CC := Lib.hid (cloneB_any v g l w hh hr)
  obtain ⟨A, n, c, rfl⟩ := hh.slice
  obtain rfl := hh.len
  have c0 : w.cell? ⟨p, 0, none⟩ = some (.slice A l.length c) := hb.cell 0
  clear hh hn hb
  go_enter Try.func8, Try.ntmps8
  go_wp2_with fail
  refine CC.out.mono ?_
  rintro r w1 ⟨A', n', c', g', rfl, hh', hb1, hor⟩
  have Hor := Lib.hid hor
  have hs1 := hb1.size
  clear hor CC c0
  go_wp2_with fail
  go_ret
  have hB := Blk.new w1 48 #[.slice A' n' c']
  have hbw := hb1.alloc hs1 (.cells #[.slice A' n' c'] 48)
  rcases Hor.out with h9 | h9
  · refine ⟨w1.heap.size, w1.heap.size, rfl, hs1, hs1, ⟨⟨_, hB, ?_, fun _ => h9⟩, hr, by simp⟩, hbw⟩
    rcases hh' with h8 | ⟨o, cap, cur, hv, _⟩
    · exact Or.inl h8
    · rw [h9] at hv; cases hv
  · refine ⟨w1.heap.size, g', rfl, hs1, h9.1, ⟨⟨_, hB, hh'.of_eq (Below.heap_alloc w1 _ g' h9.2), fun e => by omega⟩, hr, by simp; omega⟩, hbw⟩

/-- The reference's Cutter in block q holds the bytes l. -/
def Ref (w : World) (q : Nat) (l : List UInt8) : Prop := ∃ s : ByteArray, Blk w q 29 #[.string s] ∧ s.data.toList = l
theorem Ref.kept {S : Nat → Prop} {w w' : World} {q : Nat} {l : List UInt8} (h : Ref w q l) (k : Kept S w w') (hq : ¬ S q) : Ref w' q l := by
  obtain ⟨s, hb, hs⟩ := h
  exact ⟨s, k.blk hb hq, hs⟩
theorem Ref.lt {w : World} {q : Nat} {l : List UInt8} (h : Ref w q l) : q < w.heap.size := by
  obtain ⟨s, hb, hs⟩ := h
  exact hb.lt
theorem kept_set (w : World) (q : Nat) (u : Value) : Kept (· = q) w (w.setCell ⟨q, 0, none⟩ u) := ⟨rfl, rfl, rfl, by simp [World.setCell], fun k _ hS => Below.heap_setCell w ⟨q, 0, none⟩ _ k hS⟩

set_option maxHeartbeats 1000000 in
theorem RFeed_any (q : Nat) (l : List UInt8) (t : ByteArray) (w : World) (h : Ref w q l) (hl : l.length ≤ 16000) (ht : t.size ≤ 1000000) :
    Calls Try.prog 10 #[.pointer (some ⟨q, 0, none⟩), .string t] w fun e w' => e = .returned (.int .i64 (fd l t.data.toList).2) ∧ Ref w' q (fd l t.data.toList).1 ∧ Kept (· = q) w w' := by
  obtain ⟨s, hb, rfl⟩ := h
  have c0 : w.cell? ⟨q, 0, none⟩ = some (.string s) := hb.cell 0
  have f0 : w.frozen? ⟨q, 0, none⟩ = false := hb.frozen 0
  have e1 : s.data.toList.length = s.size := rfl
  have e2 : t.data.toList.length = t.size := rfl
  rw [e1] at hl
  by_cases hf : 16000 < (s.size : Int) + t.size
  · have hx : fd s.data.toList t.data.toList = (s.data.toList, 13) := by unfold fd; rw [if_pos (by omega)]
    rw [hx]
    clear hx
    go_enter Try.func10, Try.ntmps10
    go_wp2
    go_ret
    exact ⟨rfl, ⟨s, hb, rfl⟩, Kept.refl _ _⟩
  · have hx : fd s.data.toList t.data.toList = (s.data.toList ++ t.data.toList, 0) := by unfold fd; rw [if_neg (by omega)]
    have hf' : (s.size : Int) + t.size ≤ 16000 := by omega
    rw [hx]
    clear hx hf
    go_enter Try.func10, Try.ntmps10
    go_wp2
    go_ret
    exact ⟨rfl, ⟨s ++ t, hb.set_ 0 _, by rw [ByteArray.data_append, Array.toList_append]⟩, kept_set _ _ _⟩

theorem ext_take (s : ByteArray) (m : Nat) : s.extract 0 m = ⟨(s.data.toList.take m).toArray⟩ := by
  apply ByteArray.ext
  apply Array.toList_inj.1
  rw [Lib.extract_data]
  simp
theorem ext_drop (s : ByteArray) (m : Nat) : (s.extract m s.size).data.toList = s.data.toList.drop m := by
  rw [Lib.extract_data]
  refine List.take_of_length_le ?_
  have e1 : s.data.toList.length = s.size := rfl
  rw [List.length_drop]; omega

set_option maxHeartbeats 1000000 in
theorem RNext_any (q : Nat) (l : List UInt8) (w : World) (h : Ref w q l) (hl : l.length ≤ 16000) :
    Calls Try.prog 12 #[.pointer (some ⟨q, 0, none⟩)] w fun e w' => e = .returned (nxV l) ∧ Ref w' q (nx l).2.2 ∧ Kept (· = q) w w' := by
  obtain ⟨s, hb, rfl⟩ := h
  have c0 : w.cell? ⟨q, 0, none⟩ = some (.string s) := hb.cell 0
  have e1 : s.data.toList.length = s.size := rfl
  rw [e1] at hl
  have CH := rHead_any s w (by omega)
  rcases nx_cases s.data.toList with ⟨h, n, e, h2, h6, hn, hfit, hx⟩ | ⟨h, n, e, h2, h6, hn, hfit, hx⟩ | ⟨e, he, hor, hx⟩
  · rw [hdV_of e] at CH
    have CH := Lib.hid CH
    have Hx := Lib.hid hx
    have hfit' : (h : Int) + n ≤ s.size := by omega
    clear hx e
    go_enter Try.func12, Try.ntmps12
    go_wp2_with fail
    refine CH.out.mono ?_
    rintro r w1 ⟨rfl, hb1⟩
    have hB1 := hb.past hb1
    have d0 : w1.cell? ⟨q, 0, none⟩ = some (.string s) := hB1.cell 0
    have f0 : w1.frozen? ⟨q, 0, none⟩ = false := hB1.frozen 0
    clear CH c0
    go_wp2_with fail
    go_ret2
    have hx := Hx.out
    refine ⟨by unfold nxV; rw [hx]; show _ = Ending.returned (Value.tuple #[.string ⟨(s.data.toList.take (h + n)).toArray⟩, .int .i64 0]); rw [← ext_take]; rfl, ?_, (Kept.of_below _ hb1).trans (kept_set w1 q _) (fun _ _ h => h)⟩
    rw [hx]
    exact ⟨_, hB1.set_ 0 _, ext_drop s _⟩
  · rw [hdV_of e] at CH
    have CH := Lib.hid CH
    have Hx := Lib.hid hx
    have hfit' : (s.size : Int) < (h : Int) + n := by omega
    clear hx e
    go_enter Try.func12, Try.ntmps12
    go_wp2_with fail
    refine CH.out.mono ?_
    rintro r w1 ⟨rfl, hb1⟩
    have hB1 := hb.past hb1
    have d0 : w1.cell? ⟨q, 0, none⟩ = some (.string s) := hB1.cell 0
    clear CH c0
    go_wp2_with fail
    go_ret2
    have hx := Hx.out
    refine ⟨by unfold nxV; rw [hx]; rfl, ?_, Kept.of_below _ hb1⟩
    rw [hx]
    exact ⟨s, hB1, rfl⟩
  · rw [hdV_of he] at CH
    have CH := Lib.hid CH
    have Hx := Lib.hid hx
    have he2 : ((e : Int) != 0) = true := by rw [bne_iff_ne]; omega
    clear hx he hor
    go_enter Try.func12, Try.ntmps12
    go_wp2_with fail
    refine CH.out.mono ?_
    rintro r w1 ⟨rfl, hb1⟩
    have hB1 := hb.past hb1
    clear CH c0
    go_wp2_with fail
    go_ret2
    have hx := Hx.out
    refine ⟨by unfold nxV; rw [hx]; rfl, ?_, Kept.of_below _ hb1⟩
    rw [hx]
    exact ⟨s, hB1, rfl⟩
end Go.Proofs.Ytiaghkngafajgaa
