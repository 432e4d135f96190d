import Derived.Test.YtbnebpdpeegpbaaDoorZP2
set_option linter.unusedVariables false
set_option maxRecDepth 100000
namespace Go.Proofs.YtbnebpdpeegpbaaDoor.Cs
open Go.RowKit
theorem Turned.drew {g : Nat} {a b : World} (h : Turned g a b) : Turned g a b.drew:=⟨h.os, h.tape, h.output, h.size, h.block⟩
theorem Turned.far1 {g k i : Nat} {a b : World} (h : Turned g a b) (hk : a.heap.size ≤ k) {x : Value} : Turned g a (b.setCell ⟨k, i, none⟩ x):=by
 have q:=Turned.set_ k i x b
 refine ⟨q.os.trans h.os, q.tape.trans h.tape, q.output.trans h.output, Nat.le_trans h.size q.size, fun i hi hS=>(q.block i (Nat.lt_of_lt_of_le hi h.size) (by omega)).trans (h.block i hi hS)⟩
def seen (t s T S R : Int) : Int × Int:=if isC T S R = true ∧ above T S t s = true then (T, S) else (t, s)
set_option maxHeartbeats 1000000 in
theorem See_any (g : Nat) (t s r T S R : Int) (w : World) (h : IsGen w g t s r) : Calls Tryd.prog 21 #[.pointer (some ⟨g, 0, none⟩), cv T S R] w fun e w' =>
  e = .returned (.tuple #[]) ∧ Turned g w w' ∧ IsGen w' g (seen t s T S R).1 (seen t s T S R).2 r:=by
 have hl:=h.lt
 have C:=Lib.hid is_any
 have CC:=cmp_any T S r t s r
 have hP:=cmpC_pos T S r t s
 generalize cmpC T S r t s r = V at CC hP
 have CC:=Lib.hid CC
 have hP:=Lib.hid hP
 have BG:=h.alloc (.cells (gc T S R) 23)
 have BC:=Blk.new w 23 (gc T S R)
 obtain ⟨U, hU⟩ : ∃ U, Hid (U = seen t s T S R):=⟨_, rfl⟩
 rw [← hU.out]
 have hlt0 : g < (w.alloc (.cells (gc T S R) 23)).heap.size:=by simp; omega
 have ht0:=Turned.of_below g ((Below.refl w.heap.size w).alloc (Nat.le_refl _) (.cells (gc T S R) 23))
 by_cases hI : isC T S R = true
 ·have HI:=Lib.hid hI
  have Q : ∀ (V : Int), (∀ w : World, Calls Tryd.prog 14 #[cv T S r, cv t s r] w fun e w'=>e = .returned (.int .i64 V) ∧ Below w.heap.size w w') → ((0 < V ∧ U = (T, S)) ∨ (V ≤ 0 ∧ U = (t, s))) → Calls Tryd.prog 21 #[.pointer (some ⟨g, 0, none⟩), cv T S R] w fun e w' =>
  e = .returned (.tuple #[]) ∧ Turned g w w' ∧ IsGen w' g U.1 U.2 r:=by
   clear CC hP hU
   intro V CC hV
   have CC:=Lib.hid CC
   rcases hV with ⟨hV, rfl⟩ | ⟨hV, rfl⟩
   focus
    go_enter Tryd.func21, Tryd.ntmps21
    go_wp2_with fail
    refine (C.out _ _ _ _).mono ?_
    rintro e w1 ⟨rfl, hb1⟩
    have BG1:=BG.past hb1
    have BC1:=BC.past hb1
    have ht1:=ht0.trans (Turned.of_below g hb1)
    have hs1:=ht1.size
    have hne : g ≠ w.heap.size:=by omega
    have hne2 : w.heap.size ≠ g:=by omega
    rw [hI]
    clear hb1 BG BC h ht0
    obtain ⟨r0, r1, r2, s0, s1, s2⟩:=box BC1
    obtain ⟨q0, q1, q2, p0, p1, p2⟩:=box BG1
    go_wp2_with fail
    have BG2:=BG1.far hne (p:=⟨w.heap.size, 2, none⟩) (.int .i64 r)
    have BC2 : Blk (w1.setCell ⟨w.heap.size, 2, none⟩ (.int .i64 r)) w.heap.size 23 (gc T S r):=by simpa using BC1.set_ 2 (.int .i64 r)
    clear r0 r1 r2 s0 s1 s2 q0 q1 q2 p0 p1 p2
    go_region_held3 (fun w'=>w'.cell? ⟨w.heap.size, 0, none⟩ = some (.int .i64 T) ∧ w'.cell? ⟨w.heap.size, 1, none⟩ = some (.int .i64 S) ∧ w'.cell? ⟨w.heap.size, 2, none⟩ = some (.int .i64 r) ∧ w'.cell? ⟨g, 0, none⟩ = some (.int .i64 t) ∧ w'.cell? ⟨g, 1, none⟩ = some (.int .i64 s) ∧ w'.cell? ⟨g, 2, none⟩ = some (.int .i64 r)) (first | exact ⟨BC2.drew.cell 0, BC2.drew.cell 1, BC2.drew.cell 2, BG2.drew.cell 0, BG2.drew.cell 1, BG2.drew.cell 2⟩ | exact ⟨BC3.cell 0, BC3.cell 1, BC3.cell 2, BG3.cell 0, BG3.cell 1, BG3.cell 2⟩) (first | (go_at_call 14; refine (CC.out _).mono ?_; rintro e9 w2 ⟨rfl, hb2⟩; have BC3:=BC2.drew.past hb2; have BG3:=BG2.drew.past hb2))
    have BG4:=BG3
    obtain ⟨q0, q1, q2, p0, p1, p2⟩:=box BG4
    obtain ⟨r0, r1, r2, s0, s1, s2⟩:=box BC3
    go_wp2_with fail
    go_returns
    exact ⟨rfl, (((ht1.far1 (Nat.le_refl _)).drew.trans (Turned.of_below g hb2)).trans (Turned.set3 g _ _ _ _)), BG3.set3 T S r⟩
   go_enter Tryd.func21, Tryd.ntmps21
   go_wp2_with fail
   refine (C.out _ _ _ _).mono ?_
   rintro e w1 ⟨rfl, hb1⟩
   have BG1:=BG.past hb1
   have BC1:=BC.past hb1
   have ht1:=ht0.trans (Turned.of_below g hb1)
   have hs1:=ht1.size
   have hne : g ≠ w.heap.size:=by omega
   have hne2 : w.heap.size ≠ g:=by omega
   rw [hI]
   clear hb1 BG BC h ht0
   obtain ⟨r0, r1, r2, s0, s1, s2⟩:=box BC1
   obtain ⟨q0, q1, q2, p0, p1, p2⟩:=box BG1
   go_wp2_with fail
   have BG2:=BG1.far hne (p:=⟨w.heap.size, 2, none⟩) (.int .i64 r)
   have BC2 : Blk (w1.setCell ⟨w.heap.size, 2, none⟩ (.int .i64 r)) w.heap.size 23 (gc T S r):=by simpa using BC1.set_ 2 (.int .i64 r)
   clear r0 r1 r2 s0 s1 s2 q0 q1 q2 p0 p1 p2
   go_region_held3 (fun w'=>w'.cell? ⟨w.heap.size, 0, none⟩ = some (.int .i64 T) ∧ w'.cell? ⟨w.heap.size, 1, none⟩ = some (.int .i64 S) ∧ w'.cell? ⟨w.heap.size, 2, none⟩ = some (.int .i64 r) ∧ w'.cell? ⟨g, 0, none⟩ = some (.int .i64 t) ∧ w'.cell? ⟨g, 1, none⟩ = some (.int .i64 s) ∧ w'.cell? ⟨g, 2, none⟩ = some (.int .i64 r)) (first | exact ⟨BC2.drew.cell 0, BC2.drew.cell 1, BC2.drew.cell 2, BG2.drew.cell 0, BG2.drew.cell 1, BG2.drew.cell 2⟩ | exact ⟨BC3.cell 0, BC3.cell 1, BC3.cell 2, BG3.cell 0, BG3.cell 1, BG3.cell 2⟩) (first | (go_at_call 14; refine (CC.out _).mono ?_; rintro e9 w2 ⟨rfl, hb2⟩; have BC3:=BC2.drew.past hb2; have BG3:=BG2.drew.past hb2))
   have BG4:=BG3
   obtain ⟨q0, q1, q2, p0, p1, p2⟩:=box BG4
   obtain ⟨r0, r1, r2, s0, s1, s2⟩:=box BC3
   go_wp2_with fail
   go_returns
   exact ⟨rfl, ((ht1.far1 (Nat.le_refl _)).drew.trans (Turned.of_below g hb2)), BG3⟩
  refine Q V CC.out ?_
  rw [hU.out]
  unfold seen
  by_cases hA : above T S t s = true
  ·rw [if_pos ⟨hI, hA⟩]
   exact Or.inl ⟨hP.out.2 hA, rfl⟩
  ·rw [if_neg (fun h9=>hA h9.2)]
   exact Or.inr ⟨Int.not_lt.1 (fun h9=>hA (hP.out.1 h9)), rfl⟩
 ·go_enter Tryd.func21, Tryd.ntmps21
  go_wp2_with fail
  refine (C.out _ _ _ _).mono ?_
  rintro e w1 ⟨rfl, hb1⟩
  rw [show isC T S R = false by simpa using hI]
  go_wp2_with fail
  go_returns
  have hU2:=hU.out
  unfold seen at hU2
  rw [if_neg (fun h9=>hI h9.1)] at hU2
  rw [hU2]
  exact ⟨rfl, ht0.trans (Turned.of_below g hb1), BG.past hb1⟩
end Go.Proofs.YtbnebpdpeegpbaaDoor.Cs
