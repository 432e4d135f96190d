import Derived.Test.YtbnebpdpeegpbaaDoorZT2
import Derived.Laws.ResultCell
set_option linter.unusedVariables false
set_option maxRecDepth 100000
namespace Go.Proofs.YtbnebpdpeegpbaaDoor.Cs
open Go.RowKit
abbrev IsGen (w : World) (g : Nat) (t s r : Int) : Prop:=Blk w g 60 (gc t s r)
structure Turned (g : Nat) (w w' : World) : Prop where
 os : w'.os = w.os
 tape : w'.tape = w.tape
 output : w'.output = w.output
 size : w.heap.size ≤ w'.heap.size
 block : ∀ k, k < w.heap.size → k ≠ g → w'.heap[k]? = w.heap[k]?
theorem Turned.refl (g : Nat) (w : World) : Turned g w w:=⟨rfl, rfl, rfl, Nat.le_refl _, fun _ _ _=>rfl⟩
theorem Turned.trans {g : Nat} {a b c : World} (h : Turned g a b) (k : Turned g b c) : Turned g a c :=
 ⟨k.os.trans h.os, k.tape.trans h.tape, k.output.trans h.output, Nat.le_trans h.size k.size, fun i hi hS=>(k.block i (Nat.lt_of_lt_of_le hi h.size) hS).trans (h.block i hi hS)⟩
theorem Turned.of_below {w w' : World} (g : Nat) (h : Below w.heap.size w w') : Turned g w w':=⟨h.os, h.tape, h.output, h.size, fun k hk _=>h.block k hk⟩
theorem Turned.below {g B : Nat} {w w' : World} (h : Turned g w w') (hB : B ≤ w.heap.size) (hg : B ≤ g) : Below B w w' :=
 ⟨h.os, h.tape, h.output, h.size, fun k hk=>h.block k (by omega) (by omega)⟩
theorem Turned.blk {g k : Nat} {w w' : World} {t : TypeId} {cs : Array Value} (h : Turned g w w') (hb : Blk w k t cs) (hS : k ≠ g) : Blk w' k t cs:=(h.block k hb.lt hS).trans hb
theorem Turned.set_ (g i : Nat) (v : Value) (w : World) : Turned g w (w.setCell ⟨g, i, none⟩ v) :=
 ⟨rfl, rfl, rfl, by simp [World.setCell], fun k _ hS=>Below.heap_setCell w ⟨g, i, none⟩ v k hS⟩
theorem Turned.set3 (g : Nat) (a b c : Value) (w : World) : Turned g w (((w.setCell ⟨g, 0, none⟩ a).setCell ⟨g, 1, none⟩ b).setCell ⟨g, 2, none⟩ c):=((Turned.set_ g 0 a w).trans (Turned.set_ g 1 b _)).trans (Turned.set_ g 2 c _)
theorem Blk.set3 {w : World} {g : Nat} {ty : TypeId} {t s r : Int} (h : Blk w g ty (gc t s r)) (t2 s2 r2 : Int) : Blk (((w.setCell ⟨g, 0, none⟩ (.int .i64 t2)).setCell ⟨g, 1, none⟩ (.int .i64 s2)).setCell ⟨g, 2, none⟩ (.int .i64 r2)) g ty (gc t2 s2 r2):=by
 have:=((h.set_ 0 (.int .i64 t2)).set_ 1 (.int .i64 s2)).set_ 2 (.int .i64 r2)
 simpa using this
theorem New_any (rep : Int) (w : World) : Calls Tryd.prog 17 #[.int .i64 rep] w fun e w'=>e = .returned (.pointer (some ⟨w.heap.size, 0, none⟩)) ∧ IsGen w' w.heap.size 0 0 (max 0 (min rep 5)) ∧ Below w.heap.size w w' ∧ w'.heap.size = w.heap.size + 1:=by
 obtain ⟨K, hK⟩ : ∃ K, Hid (K = max 0 (min rep 5)):=⟨_, rfl⟩
 rw [← hK.out]
 go_enter Tryd.func17, Tryd.ntmps17
 go_wp2_with fail
 all_goals
  go_ret
  have hK2:=hK.out
  refine ⟨rfl, ?_, (Below.refl _ _).alloc (Nat.le_refl _) _, by simp⟩
  first
  |(obtain rfl : K = 5:=by omega); exact Blk.new _ _ _
  |(obtain rfl : K = rep:=by omega); exact Blk.new _ _ _
  |(obtain rfl : K = 0:=by omega); exact Blk.new _ _ _
theorem Last_any (g : Nat) (t s r : Int) (w : World) (h : IsGen w g t s r) : Calls Tryd.prog 23 #[.pointer (some ⟨g, 0, none⟩)] w fun e w'=>e = .returned (cv t s r) ∧ Below w.heap.size w w':=by
 have c0 : w.cell? ⟨g, 0, none⟩ = some (.int .i64 t):=h.cell 0
 have c1 : w.cell? ⟨g, 1, none⟩ = some (.int .i64 s):=h.cell 1
 have c2 : w.cell? ⟨g, 2, none⟩ = some (.int .i64 r):=h.cell 2
 have hl:=h.lt
 clear h
 go_enter Tryd.func23, Tryd.ntmps23
 go_wp2_with fail
 go_returns
 exact ⟨rfl, (Below.refl _ _).alloc (Nat.le_refl _) _⟩
theorem behind_any (t s r now : Int) (h0 : 0 ≤ t) (ht : t ≤ 1099511627776) (hs : 0 ≤ s) (w : World) : Calls Tryd.prog 32 #[cv t s r, .int .i64 now] w fun e w'=>e = .returned (cv (nxt t s now).1 (nxt t s now).2 r) ∧ Below w.heap.size w w':=by
 go_enter Tryd.func32, Tryd.ntmps32
 go_wp2_with fail
 all_goals
  go_returns
  refine ⟨?_, ((Below.refl _ _).alloc (Nat.le_refl _) _).alloc (by simp) _⟩
  unfold nxt
  try go_unwrap
  first
  | rw [if_pos (by omega), if_pos (by omega)]
  | rw [if_pos (by omega), if_neg (by omega)]
  | rw [if_neg (by omega)]
theorem res_cn {fn : Func} {p u : Tmp} (h : fn.results = #[.cell p 23, .tmp u]) (tmps : Array Value) (w : World) (g : Nat) (t s r : Int) (v : Value) (hp : tmps.getD p undef = .pointer (some ⟨g, 0, none⟩)) (hv : tmps.getD u undef = v) (hB : Blk w g 23 (gc t s r)) :
  (results fn tmps).run Tryd.prog w = .ok (.tuple #[cv t s r, v]) w:=by
 rw [results_cell_tmp h, hp, hv]
 have e:=run_loadVar_row (P:=Tryd.prog) w g 23 23 (gc t s r) (0, 0) _ hB Tryd.underlying23 rfl (by kernel_rfl)
 show (((loadVar 23 ⟨g, 0, none⟩).run Tryd.prog w).andThen fun v1 w₂=>Result.ok (Value.tuple #[v1, v]) w₂) = _
 rw [e]
 rfl
theorem box {w : World} {g : Nat} {ty : TypeId} {t s r : Int} (h : Blk w g ty (gc t s r)) : w.cell? ⟨g, 0, none⟩ = some (.int .i64 t) ∧ w.cell? ⟨g, 1, none⟩ = some (.int .i64 s) ∧ w.cell? ⟨g, 2, none⟩ = some (.int .i64 r) ∧ w.frozen? ⟨g, 0, none⟩ = false ∧ w.frozen? ⟨g, 1, none⟩ = false ∧ w.frozen? ⟨g, 2, none⟩ = false :=
 ⟨h.cell 0, h.cell 1, h.cell 2, h.frozen 0, h.frozen 1, h.frozen 2⟩
end Go.Proofs.YtbnebpdpeegpbaaDoor.Cs
namespace Go.Proofs.YtbnebpdpeegpbaaDoor.Cs
open Go.RowKit
theorem Turned.drew {g : Nat} {a b : World} (h : Turned g a b) : Turned g a b.drew:=⟨h.os, h.tape, h.output, h.size, h.block⟩
theorem Turned.far1 {g k i : Nat} {a b : World} (h : Turned g a b) (hk : a.heap.size ≤ k) {x : Value} : Turned g a (b.setCell ⟨k, i, none⟩ x):=by
 have q:=Turned.set_ k i x b
 refine ⟨q.os.trans h.os, q.tape.trans h.tape, q.output.trans h.output, Nat.le_trans h.size q.size, fun i hi hS=>(q.block i (Nat.lt_of_lt_of_le hi h.size) (by omega)).trans (h.block i hi hS)⟩
def seen (t s T S R : Int) : Int × Int:=if isC T S R = true ∧ above T S t s = true then (T, S) else (t, s)
set_option maxHeartbeats 1000000 in
theorem See_any (g : Nat) (t s r T S R : Int) (w : World) (h : IsGen w g t s r) : Calls Tryd.prog 21 #[.pointer (some ⟨g, 0, none⟩), cv T S R] w fun e w' =>
  e = .returned (.tuple #[]) ∧ Turned g w w' ∧ IsGen w' g (seen t s T S R).1 (seen t s T S R).2 r:=by
 have hl:=h.lt
 have C:=Lib.hid is_any
 have CC:=cmp_any T S r t s r
 have hP:=cmpC_pos T S r t s
 generalize cmpC T S r t s r = V at CC hP
 have CC:=Lib.hid CC
 have hP:=Lib.hid hP
 have BG:=h.alloc (.cells (gc T S R) 23)
 have BC:=Blk.new w 23 (gc T S R)
 obtain ⟨U, hU⟩ : ∃ U, Hid (U = seen t s T S R):=⟨_, rfl⟩
 rw [← hU.out]
 have hlt0 : g < (w.alloc (.cells (gc T S R) 23)).heap.size:=by simp; omega
 have ht0:=Turned.of_below g ((Below.refl w.heap.size w).alloc (Nat.le_refl _) (.cells (gc T S R) 23))
 by_cases hI : isC T S R = true
 ·have HI:=Lib.hid hI
  have Q : ∀ (V : Int), (∀ w : World, Calls Tryd.prog 14 #[cv T S r, cv t s r] w fun e w'=>e = .returned (.int .i64 V) ∧ Below w.heap.size w w') → ((0 < V ∧ U = (T, S)) ∨ (V ≤ 0 ∧ U = (t, s))) → Calls Tryd.prog 21 #[.pointer (some ⟨g, 0, none⟩), cv T S R] w fun e w' =>
  e = .returned (.tuple #[]) ∧ Turned g w w' ∧ IsGen w' g U.1 U.2 r:=by
   clear CC hP hU
   intro V CC hV
   have CC:=Lib.hid CC
   rcases hV with ⟨hV, rfl⟩ | ⟨hV, rfl⟩
   focus
    go_enter Tryd.func21, Tryd.ntmps21
    go_wp2_with fail
    refine (C.out _ _ _ _).mono ?_
    rintro e w1 ⟨rfl, hb1⟩
    have BG1:=BG.past hb1
    have BC1:=BC.past hb1
    have ht1:=ht0.trans (Turned.of_below g hb1)
    have hs1:=ht1.size
    have hne : g ≠ w.heap.size:=by omega
    have hne2 : w.heap.size ≠ g:=by omega
    rw [hI]
    clear hb1 BG BC h ht0
    obtain ⟨r0, r1, r2, s0, s1, s2⟩:=box BC1
    obtain ⟨q0, q1, q2, p0, p1, p2⟩:=box BG1
    go_wp2_with fail
    have BG2:=BG1.far hne (p:=⟨w.heap.size, 2, none⟩) (.int .i64 r)
    have BC2 : Blk (w1.setCell ⟨w.heap.size, 2, none⟩ (.int .i64 r)) w.heap.size 23 (gc T S r):=by simpa using BC1.set_ 2 (.int .i64 r)
    clear r0 r1 r2 s0 s1 s2 q0 q1 q2 p0 p1 p2
    go_region_held3 (fun w'=>w'.cell? ⟨w.heap.size, 0, none⟩ = some (.int .i64 T) ∧ w'.cell? ⟨w.heap.size, 1, none⟩ = some (.int .i64 S) ∧ w'.cell? ⟨w.heap.size, 2, none⟩ = some (.int .i64 r) ∧ w'.cell? ⟨g, 0, none⟩ = some (.int .i64 t) ∧ w'.cell? ⟨g, 1, none⟩ = some (.int .i64 s) ∧ w'.cell? ⟨g, 2, none⟩ = some (.int .i64 r)) (first | exact ⟨BC2.drew.cell 0, BC2.drew.cell 1, BC2.drew.cell 2, BG2.drew.cell 0, BG2.drew.cell 1, BG2.drew.cell 2⟩ | exact ⟨BC3.cell 0, BC3.cell 1, BC3.cell 2, BG3.cell 0, BG3.cell 1, BG3.cell 2⟩) (first | (go_at_call 14; refine (CC.out _).mono ?_; rintro e9 w2 ⟨rfl, hb2⟩; have BC3:=BC2.drew.past hb2; have BG3:=BG2.drew.past hb2))
    have BG4:=BG3
    obtain ⟨q0, q1, q2, p0, p1, p2⟩:=box BG4
    obtain ⟨r0, r1, r2, s0, s1, s2⟩:=box BC3
    go_wp2_with fail
    go_returns
    exact ⟨rfl, (((ht1.far1 (Nat.le_refl _)).drew.trans (Turned.of_below g hb2)).trans (Turned.set3 g _ _ _ _)), BG3.set3 T S r⟩
   go_enter Tryd.func21, Tryd.ntmps21
   go_wp2_with fail
   refine (C.out _ _ _ _).mono ?_
   rintro e w1 ⟨rfl, hb1⟩
   have BG1:=BG.past hb1
   have BC1:=BC.past hb1
   have ht1:=ht0.trans (Turned.of_below g hb1)
   have hs1:=ht1.size
   have hne : g ≠ w.heap.size:=by omega
   have hne2 : w.heap.size ≠ g:=by omega
   rw [hI]
   clear hb1 BG BC h ht0
   obtain ⟨r0, r1, r2, s0, s1, s2⟩:=box BC1
   obtain ⟨q0, q1, q2, p0, p1, p2⟩:=box BG1
   go_wp2_with fail
   have BG2:=BG1.far hne (p:=⟨w.heap.size, 2, none⟩) (.int .i64 r)
   have BC2 : Blk (w1.setCell ⟨w.heap.size, 2, none⟩ (.int .i64 r)) w.heap.size 23 (gc T S r):=by simpa using BC1.set_ 2 (.int .i64 r)
   clear r0 r1 r2 s0 s1 s2 q0 q1 q2 p0 p1 p2
   go_region_held3 (fun w'=>w'.cell? ⟨w.heap.size, 0, none⟩ = some (.int .i64 T) ∧ w'.cell? ⟨w.heap.size, 1, none⟩ = some (.int .i64 S) ∧ w'.cell? ⟨w.heap.size, 2, none⟩ = some (.int .i64 r) ∧ w'.cell? ⟨g, 0, none⟩ = some (.int .i64 t) ∧ w'.cell? ⟨g, 1, none⟩ = some (.int .i64 s) ∧ w'.cell? ⟨g, 2, none⟩ = some (.int .i64 r)) (first | exact ⟨BC2.drew.cell 0, BC2.drew.cell 1, BC2.drew.cell 2, BG2.drew.cell 0, BG2.drew.cell 1, BG2.drew.cell 2⟩ | exact ⟨BC3.cell 0, BC3.cell 1, BC3.cell 2, BG3.cell 0, BG3.cell 1, BG3.cell 2⟩) (first | (go_at_call 14; refine (CC.out _).mono ?_; rintro e9 w2 ⟨rfl, hb2⟩; have BC3:=BC2.drew.past hb2; have BG3:=BG2.drew.past hb2))
   have BG4:=BG3
   obtain ⟨q0, q1, q2, p0, p1, p2⟩:=box BG4
   obtain ⟨r0, r1, r2, s0, s1, s2⟩:=box BC3
   go_wp2_with fail
   go_returns
   exact ⟨rfl, ((ht1.far1 (Nat.le_refl _)).drew.trans (Turned.of_below g hb2)), BG3⟩
  refine Q V CC.out ?_
  rw [hU.out]
  unfold seen
  by_cases hA : above T S t s = true
  ·rw [if_pos ⟨hI, hA⟩]
   exact Or.inl ⟨hP.out.2 hA, rfl⟩
  ·rw [if_neg (fun h9=>hA h9.2)]
   exact Or.inr ⟨Int.not_lt.1 (fun h9=>hA (hP.out.1 h9)), rfl⟩
 ·go_enter Tryd.func21, Tryd.ntmps21
  go_wp2_with fail
  refine (C.out _ _ _ _).mono ?_
  rintro e w1 ⟨rfl, hb1⟩
  rw [show isC T S R = false by simpa using hI]
  go_wp2_with fail
  go_returns
  have hU2:=hU.out
  unfold seen at hU2
  rw [if_neg (fun h9=>hI h9.1)] at hU2
  rw [hU2]
  exact ⟨rfl, ht0.trans (Turned.of_below g hb1), BG.past hb1⟩
end Go.Proofs.YtbnebpdpeegpbaaDoor.Cs
