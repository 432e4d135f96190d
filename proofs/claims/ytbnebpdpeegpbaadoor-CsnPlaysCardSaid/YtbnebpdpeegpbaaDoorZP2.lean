import Derived.Test.YtbnebpdpeegpbaaDoorZP1
import Derived.Laws.ResultCell
set_option linter.unusedVariables false
set_option maxRecDepth 100000
namespace Go.Proofs.YtbnebpdpeegpbaaDoor.Cs
open Go.RowKit
abbrev IsGen (w : World) (g : Nat) (t s r : Int) : Prop:=Blk w g 60 (gc t s r)
abbrev IsRef (w : World) (g : Nat) (t s r : Int) : Prop:=Blk w g 37 (gc t s r)
structure Turned (g : Nat) (w w' : World) : Prop where
 os : w'.os = w.os
 tape : w'.tape = w.tape
 output : w'.output = w.output
 size : w.heap.size ≤ w'.heap.size
 block : ∀ k, k < w.heap.size → k ≠ g → w'.heap[k]? = w.heap[k]?
theorem Turned.refl (g : Nat) (w : World) : Turned g w w:=⟨rfl, rfl, rfl, Nat.le_refl _, fun _ _ _=>rfl⟩
theorem Turned.trans {g : Nat} {a b c : World} (h : Turned g a b) (k : Turned g b c) : Turned g a c :=
 ⟨k.os.trans h.os, k.tape.trans h.tape, k.output.trans h.output, Nat.le_trans h.size k.size, fun i hi hS=>(k.block i (Nat.lt_of_lt_of_le hi h.size) hS).trans (h.block i hi hS)⟩
theorem Turned.of_below {w w' : World} (g : Nat) (h : Below w.heap.size w w') : Turned g w w':=⟨h.os, h.tape, h.output, h.size, fun k hk _=>h.block k hk⟩
theorem Turned.below {g B : Nat} {w w' : World} (h : Turned g w w') (hB : B ≤ w.heap.size) (hg : B ≤ g) : Below B w w' :=
 ⟨h.os, h.tape, h.output, h.size, fun k hk=>h.block k (by omega) (by omega)⟩
theorem Turned.blk {g k : Nat} {w w' : World} {t : TypeId} {cs : Array Value} (h : Turned g w w') (hb : Blk w k t cs) (hS : k ≠ g) : Blk w' k t cs:=(h.block k hb.lt hS).trans hb
theorem Turned.set_ (g i : Nat) (v : Value) (w : World) : Turned g w (w.setCell ⟨g, i, none⟩ v) :=
 ⟨rfl, rfl, rfl, by simp [World.setCell], fun k _ hS=>Below.heap_setCell w ⟨g, i, none⟩ v k hS⟩
theorem Turned.set3 (g : Nat) (a b c : Value) (w : World) : Turned g w (((w.setCell ⟨g, 0, none⟩ a).setCell ⟨g, 1, none⟩ b).setCell ⟨g, 2, none⟩ c):=((Turned.set_ g 0 a w).trans (Turned.set_ g 1 b _)).trans (Turned.set_ g 2 c _)
theorem Blk.set3 {w : World} {g : Nat} {ty : TypeId} {t s r : Int} (h : Blk w g ty (gc t s r)) (t2 s2 r2 : Int) : Blk (((w.setCell ⟨g, 0, none⟩ (.int .i64 t2)).setCell ⟨g, 1, none⟩ (.int .i64 s2)).setCell ⟨g, 2, none⟩ (.int .i64 r2)) g ty (gc t2 s2 r2):=by
 have:=((h.set_ 0 (.int .i64 t2)).set_ 1 (.int .i64 s2)).set_ 2 (.int .i64 r2)
 simpa using this
theorem New_any (rep : Int) (w : World) : Calls Tryd.prog 17 #[.int .i64 rep] w fun e w'=>e = .returned (.pointer (some ⟨w.heap.size, 0, none⟩)) ∧ IsGen w' w.heap.size 0 0 (max 0 (min rep 5)) ∧ Below w.heap.size w w' ∧ w'.heap.size = w.heap.size + 1:=by
 obtain ⟨K, hK⟩ : ∃ K, Hid (K = max 0 (min rep 5)):=⟨_, rfl⟩
 rw [← hK.out]
 go_enter Tryd.func17, Tryd.ntmps17
 go_wp2_with fail
 all_goals
  go_ret
  have hK2:=hK.out
  refine ⟨rfl, ?_, (Below.refl _ _).alloc (Nat.le_refl _) _, by simp⟩
  first
  |(obtain rfl : K = 5:=by omega); exact Blk.new _ _ _
  |(obtain rfl : K = rep:=by omega); exact Blk.new _ _ _
  |(obtain rfl : K = 0:=by omega); exact Blk.new _ _ _
theorem Last_any (g : Nat) (t s r : Int) (w : World) (h : IsGen w g t s r) : Calls Tryd.prog 23 #[.pointer (some ⟨g, 0, none⟩)] w fun e w'=>e = .returned (cv t s r) ∧ Below w.heap.size w w':=by
 have c0 : w.cell? ⟨g, 0, none⟩ = some (.int .i64 t):=h.cell 0
 have c1 : w.cell? ⟨g, 1, none⟩ = some (.int .i64 s):=h.cell 1
 have c2 : w.cell? ⟨g, 2, none⟩ = some (.int .i64 r):=h.cell 2
 have hl:=h.lt
 clear h
 go_enter Tryd.func23, Tryd.ntmps23
 go_wp2_with fail
 go_returns
 exact ⟨rfl, (Below.refl _ _).alloc (Nat.le_refl _) _⟩
theorem Copy_any (g : Nat) (t s r : Int) (w : World) (h : IsGen w g t s r) : Calls Tryd.prog 18 #[.pointer (some ⟨g, 0, none⟩)] w fun e w'=>e = .returned (.pointer (some ⟨w.heap.size, 0, none⟩)) ∧ IsGen w' w.heap.size t s r ∧ Below w.heap.size w w' ∧ w'.heap.size = w.heap.size + 1:=by
 have c0 : w.cell? ⟨g, 0, none⟩ = some (.int .i64 t):=h.cell 0
 have c1 : w.cell? ⟨g, 1, none⟩ = some (.int .i64 s):=h.cell 1
 have c2 : w.cell? ⟨g, 2, none⟩ = some (.int .i64 r):=h.cell 2
 have hl:=h.lt
 clear h
 go_enter Tryd.func18, Tryd.ntmps18
 go_wp2_with fail
 go_ret
 exact ⟨rfl, Blk.new _ _ _, (Below.refl _ _).alloc (Nat.le_refl _) _, by simp⟩
theorem behind_any (t s r now : Int) (h0 : 0 ≤ t) (ht : t ≤ 1099511627776) (hs : 0 ≤ s) (w : World) : Calls Tryd.prog 32 #[cv t s r, .int .i64 now] w fun e w'=>e = .returned (cv (nxt t s now).1 (nxt t s now).2 r) ∧ Below w.heap.size w w':=by
 go_enter Tryd.func32, Tryd.ntmps32
 go_wp2_with fail
 all_goals
  go_returns
  refine ⟨?_, ((Below.refl _ _).alloc (Nat.le_refl _) _).alloc (by simp) _⟩
  unfold nxt
  try go_unwrap
  first
  | rw [if_pos (by omega), if_pos (by omega)]
  | rw [if_pos (by omega), if_neg (by omega)]
  | rw [if_neg (by omega)]
theorem res_cn {fn : Func} {p u : Tmp} (h : fn.results = #[.cell p 23, .tmp u]) (tmps : Array Value) (w : World) (g : Nat) (t s r : Int) (v : Value) (hp : tmps.getD p undef = .pointer (some ⟨g, 0, none⟩)) (hv : tmps.getD u undef = v) (hB : Blk w g 23 (gc t s r)) :
  (results fn tmps).run Tryd.prog w = .ok (.tuple #[cv t s r, v]) w:=by
 rw [results_cell_tmp h, hp, hv]
 have e:=run_loadVar_row (P:=Tryd.prog) w g 23 23 (gc t s r) (0, 0) _ hB Tryd.underlying23 rfl (by kernel_rfl)
 show (((loadVar 23 ⟨g, 0, none⟩).run Tryd.prog w).andThen fun v1 w₂=>Result.ok (Value.tuple #[v1, v]) w₂) = _
 rw [e]
 rfl
theorem box {w : World} {g : Nat} {ty : TypeId} {t s r : Int} (h : Blk w g ty (gc t s r)) : w.cell? ⟨g, 0, none⟩ = some (.int .i64 t) ∧ w.cell? ⟨g, 1, none⟩ = some (.int .i64 s) ∧ w.cell? ⟨g, 2, none⟩ = some (.int .i64 r) ∧ w.frozen? ⟨g, 0, none⟩ = false ∧ w.frozen? ⟨g, 1, none⟩ = false ∧ w.frozen? ⟨g, 2, none⟩ = false :=
 ⟨h.cell 0, h.cell 1, h.cell 2, h.frozen 0, h.frozen 1, h.frozen 2⟩
end Go.Proofs.YtbnebpdpeegpbaaDoor.Cs
namespace Go.Proofs.YtbnebpdpeegpbaaDoor.Cs
open Go.RowKit
theorem Turned.far3 {g k : Nat} {a b : World} (h : Turned g a b) (hk : a.heap.size ≤ k) {x y z : Value} : Turned g a (((b.setCell ⟨k, 0, none⟩ x).setCell ⟨k, 1, none⟩ y).setCell ⟨k, 2, none⟩ z):=by
 have q:=Turned.set3 k x y z b
 refine ⟨q.os.trans h.os, q.tape.trans h.tape, q.output.trans h.output, Nat.le_trans h.size q.size, fun i hi hS=>(q.block i (Nat.lt_of_lt_of_le hi h.size) (by omega)).trans (h.block i hi hS)⟩
set_option maxHeartbeats 1000000 in
theorem Next_any (g : Nat) (t s r now : Int) (h0 : 0 ≤ t) (ht : t ≤ 1099511627776) (hs : 0 ≤ s) (w : World) (h : IsGen w g t s r) : Calls Tryd.prog 19 #[.pointer (some ⟨g, 0, none⟩), .int .i64 now] w fun e w' =>
  Turned g w w' ∧ ((nxt t s now).1 ≤ 1099511627776 ∧ e = .returned (.tuple #[cv (nxt t s now).1 (nxt t s now).2 r, .int .i64 0]) ∧ IsGen w' g (nxt t s now).1 (nxt t s now).2 r ∨ 1099511627776 < (nxt t s now).1 ∧ e = .returned (.tuple #[cv 0 0 0, .int .i64 19]) ∧ IsGen w' g t s r):=by
 have c0 : w.cell? ⟨g, 0, none⟩ = some (.int .i64 t):=h.cell 0
 have c1 : w.cell? ⟨g, 1, none⟩ = some (.int .i64 s):=h.cell 1
 have c2 : w.cell? ⟨g, 2, none⟩ = some (.int .i64 r):=h.cell 2
 have hl:=h.lt
 have C:=Lib.hid (behind_any t s r now h0 ht hs)
 generalize (nxt t s now).1 = T at *
 generalize (nxt t s now).2 = S at *
 have hH:=Lib.hid h
 clear h h0 ht hs
 by_cases hT : 1099511627776 < T
 ·go_enter Tryd.func19, Tryd.ntmps19
  go_wp2_with fail
  refine (C.out _).mono ?_
  rintro e w1 ⟨rfl, hb1⟩
  have BR:=((Blk.new w 23 (gc 0 0 0)).past hb1).alloc (.cells (gc T S r) 23)
  have BG:=((hH.out.alloc (.cells (gc 0 0 0) 23)).past hb1).alloc (.cells (gc T S r) 23)
  have hne : g ≠ w.heap.size:=by omega
  have hsz:=hb1.size
  have htu:=(Turned.of_below g (((Below.refl w.heap.size w).alloc (Nat.le_refl _) (.cells (gc 0 0 0) 23)).trans (hb1.mono (by simp)))).trans (Turned.of_below g ((Below.refl w1.heap.size w1).alloc (Nat.le_refl _) (.cells (gc T S r) 23)))
  have BC:=Blk.new w1 23 (gc T S r)
  have hlt : w.heap.size + 1 ≤ w1.heap.size:=by simpa using hsz
  have hne2 : w1.heap.size ≠ g:=by omega
  have hne3 : w1.heap.size ≠ w.heap.size:=by omega
  have hne4 : w.heap.size ≠ g:=by omega
  have hne5 : g ≠ w1.heap.size:=by omega
  have l0 : (w1.alloc (.cells (gc T S r) 23)).cell? ⟨w1.heap.size, 0, none⟩ = some (.int .i64 T):=BC.cell 0
  have l1 : (w1.alloc (.cells (gc T S r) 23)).cell? ⟨w1.heap.size, 1, none⟩ = some (.int .i64 S):=BC.cell 1
  have l2 : (w1.alloc (.cells (gc T S r) 23)).cell? ⟨w1.heap.size, 2, none⟩ = some (.int .i64 r):=BC.cell 2
  obtain ⟨r0, r1, r2, s0, s1, s2⟩:=box BR
  obtain ⟨q0, q1, q2, p0, p1, p2⟩:=box BG
  clear c0 c1 c2 C hb1 hH
  go_wp2_with fail
  refine bodyPost_ret (res_cn rfl _ _ w.heap.size 0 0 0 (.int .i64 19) rfl rfl (BR.set3 0 0 0)) rfl ?_
  exact ⟨htu.far3 (Nat.le_refl _), Or.inr ⟨hT, rfl, ((BG.far hne _).far hne _).far hne _⟩⟩
 ·have hT : T ≤ 1099511627776:=by omega
  go_enter Tryd.func19, Tryd.ntmps19
  go_wp2_with fail
  refine (C.out _).mono ?_
  rintro e w1 ⟨rfl, hb1⟩
  have BR:=((Blk.new w 23 (gc 0 0 0)).past hb1).alloc (.cells (gc T S r) 23)
  have BG:=((hH.out.alloc (.cells (gc 0 0 0) 23)).past hb1).alloc (.cells (gc T S r) 23)
  have hne : g ≠ w.heap.size:=by omega
  have hsz:=hb1.size
  have htu:=(Turned.of_below g (((Below.refl w.heap.size w).alloc (Nat.le_refl _) (.cells (gc 0 0 0) 23)).trans (hb1.mono (by simp)))).trans (Turned.of_below g ((Below.refl w1.heap.size w1).alloc (Nat.le_refl _) (.cells (gc T S r) 23)))
  have BC:=Blk.new w1 23 (gc T S r)
  have hlt : w.heap.size + 1 ≤ w1.heap.size:=by simpa using hsz
  have hne2 : w1.heap.size ≠ g:=by omega
  have hne3 : w1.heap.size ≠ w.heap.size:=by omega
  have hne4 : w.heap.size ≠ g:=by omega
  have hne5 : g ≠ w1.heap.size:=by omega
  have l0 : (w1.alloc (.cells (gc T S r) 23)).cell? ⟨w1.heap.size, 0, none⟩ = some (.int .i64 T):=BC.cell 0
  have l1 : (w1.alloc (.cells (gc T S r) 23)).cell? ⟨w1.heap.size, 1, none⟩ = some (.int .i64 S):=BC.cell 1
  have l2 : (w1.alloc (.cells (gc T S r) 23)).cell? ⟨w1.heap.size, 2, none⟩ = some (.int .i64 r):=BC.cell 2
  obtain ⟨r0, r1, r2, s0, s1, s2⟩:=box BR
  obtain ⟨q0, q1, q2, p0, p1, p2⟩:=box BG
  clear c0 c1 c2 C hb1 hH
  go_wp2_with fail
  refine bodyPost_ret (res_cn rfl _ _ w.heap.size T S r (.int .i64 0) rfl rfl ((((BR.far hne4 _).far hne4 _).far hne4 _).set3 T S r)) rfl ?_
  exact ⟨(htu.trans (Turned.set3 g _ _ _ _)).far3 (Nat.le_refl _), Or.inl ⟨hT, rfl, (((BG.set3 T S r).far hne _).far hne _).far hne _⟩⟩
end Go.Proofs.YtbnebpdpeegpbaaDoor.Cs
