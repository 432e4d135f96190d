/- The later, the earlier one of two numbers. -/
import Derived.Test.YtiglepmgonmhiaaVcGen
import Derived.Test.YtiglepmgonmhiaaVcMem
namespace Go.Proofs.Ytiglepmgonmhiaa.Cs
open Go.RowKit
set_option linter.unusedVariables false
set_option maxRecDepth 100000

theorem later_t {a b : Nm} (h : a.cmp b < 0) : later a b = b := by unfold later; rw [if_pos h]
theorem later_f {a b : Nm} (h : ¬ a.cmp b < 0) : later a b = a := by unfold later; rw [if_neg h]
theorem earlier_t {a b : Nm} (h : b.cmp a < 0) : earlier a b = b := by unfold earlier; rw [if_pos h]
theorem earlier_f {a b : Nm} (h : ¬ b.cmp a < 0) : earlier a b = a := by unfold earlier; rw [if_neg h]
/-- Three boxes: their cells, their marks. -/
theorem box3 {w : World} {g : Nat} {ty : TypeId} {t s r : Int} (h : Blk w g ty (gc t s r)) : w.cell? ⟨g, 0, none⟩ = some (.int .i64 t) ∧ w.cell? ⟨g, 1, none⟩ = some (.int .i64 s) ∧ w.cell? ⟨g, 2, none⟩ = some (.int .i64 r) ∧ w.frozen? ⟨g, 0, none⟩ = false ∧ w.frozen? ⟨g, 1, none⟩ = false ∧ w.frozen? ⟨g, 2, none⟩ = false :=
  ⟨h.cell 0, h.cell 1, h.cell 2, h.frozen 0, h.frozen 1, h.frozen 2⟩
/-- A lone result of three cells in a block of its own. -/
theorem res_num {fn : Func} {p : Tmp} (h : fn.results = #[.cell p 25]) (tmps : Array Value) (w : World) (g : Nat) (t s r : Int) (hp : tmps.getD p undef = .pointer (some ⟨g, 0, none⟩)) (hB : Blk w g 25 (gc t s r)) :
    (results fn tmps).run Try.prog w = .ok (cv t s r) w :=
  results_cell_row h tmps w g _ _ _ _ hp hB Try.underlying25 rfl (by kernel_rfl)
theorem Blk.set3 {w : World} {g : Nat} {ty : TypeId} {t s r : Int} (h : Blk w g ty (gc t s r)) (t2 s2 r2 : Int) : Blk (((w.setCell ⟨g, 0, none⟩ (.int .i64 t2)).setCell ⟨g, 1, none⟩ (.int .i64 s2)).setCell ⟨g, 2, none⟩ (.int .i64 r2)) g ty (gc t2 s2 r2) := by
  have := ((h.set_ 0 (.int .i64 t2)).set_ 1 (.int .i64 s2)).set_ 2 (.int .i64 r2)
  simpa using this
theorem below3 {w w1 : World} {B g : Nat} (hb : Below B w w1) (hg : B ≤ g) (a b c : Value) : Below B w (((w1.setCell ⟨g, 0, none⟩ a).setCell ⟨g, 1, none⟩ b).setCell ⟨g, 2, none⟩ c) :=
  ((hb.setCell (p := ⟨g, 0, none⟩) hg _).setCell (p := ⟨g, 1, none⟩) hg _).setCell (p := ⟨g, 2, none⟩) hg _
theorem later_any (a b : Nm) (w : World) : Calls Try.prog 30 #[a.v, b.v] w fun e w' => e = .returned (later a b).v ∧ Below w.heap.size w w' := by
  obtain ⟨K, hK⟩ : ∃ K, Hid (K = a.cmp b) := ⟨_, rfl⟩
  have C := cmp_any a.t a.s a.r b.t b.s b.r
  rw [show cmpC a.t a.s a.r b.t b.s b.r = K from hK.out.symm] at C
  have CC := Lib.hid C
  obtain ⟨L, hL⟩ : ∃ L, Hid (L = later a b) := ⟨_, rfl⟩
  rw [← hL.out]
  have hlt : K < 0 ∧ L = b ∨ 0 ≤ K ∧ L = a := by
    have h1 := hK.out
    have h2 := hL.out
    by_cases h : K < 0
    · exact .inl ⟨h, by rw [h2]; exact later_t (by omega)⟩
    · exact .inr ⟨by omega, by rw [h2]; exact later_f (by omega)⟩
  clear hK hL C
  have BA := ((Blk.new w 25 (gc a.t a.s a.r)).alloc (.cells (gc b.t b.s b.r) 25)).alloc (.cells (gc 0 0 0) 25)
  have BB := (Blk.new (w.alloc (.cells (gc a.t a.s a.r) 25)) 25 (gc b.t b.s b.r)).alloc (.cells (gc 0 0 0) 25)
  have BC := Blk.new ((w.alloc (.cells (gc a.t a.s a.r) 25)).alloc (.cells (gc b.t b.s b.r) 25)) 25 (gc 0 0 0)
  rw [show (w.alloc (.cells (gc a.t a.s a.r) 25)).heap.size = w.heap.size + 1 by simp] at BB
  rw [show ((w.alloc (.cells (gc a.t a.s a.r) 25)).alloc (.cells (gc b.t b.s b.r) 25)).heap.size = w.heap.size + 1 + 1 by simp] at BC
  have hb0 : Below w.heap.size w (((w.alloc (.cells (gc a.t a.s a.r) 25)).alloc (.cells (gc b.t b.s b.r) 25)).alloc (.cells (gc 0 0 0) 25)) := (((Below.refl _ _).alloc (Nat.le_refl _) _).alloc (by simp) _).alloc (by simp; omega) _
  rcases hlt with ⟨hlt, rfl⟩ | ⟨hlt, rfl⟩
  all_goals
    go_enter Try.func30, Try.ntmps30
    go_wp2_with fail
    refine (CC.out _).mono ?_
    rintro e w1 ⟨rfl, hb1⟩
    have A1 := BA.past hb1
    have B1 := BB.past hb1
    have C1 := BC.past hb1
    have hb2 := hb0.trans (hb1.mono hb0.size)
    clear BA BB BC hb0 hb1 CC
    obtain ⟨a0, a1, a2, -, -, -⟩ := box3 A1
    obtain ⟨b0, b1, b2, -, -, -⟩ := box3 B1
    obtain ⟨c0, c1, c2, f0, f1, f2⟩ := box3 C1
    go_wp2_with fail
    exact bodyPost_ret (res_num rfl _ _ (w.heap.size + 1 + 1) _ _ _ rfl (C1.set3 _ _ _)) rfl ⟨rfl, below3 hb2 (by omega) _ _ _⟩
theorem earlier_any (a b : Nm) (w : World) : Calls Try.prog 32 #[a.v, b.v] w fun e w' => e = .returned (earlier a b).v ∧ Below w.heap.size w w' := by
  obtain ⟨K, hK⟩ : ∃ K, Hid (K = b.cmp a) := ⟨_, rfl⟩
  have C := cmp_any b.t b.s b.r a.t a.s a.r
  rw [show cmpC b.t b.s b.r a.t a.s a.r = K from hK.out.symm] at C
  have CC := Lib.hid C
  obtain ⟨L, hL⟩ : ∃ L, Hid (L = earlier a b) := ⟨_, rfl⟩
  rw [← hL.out]
  have hlt : K < 0 ∧ L = b ∨ 0 ≤ K ∧ L = a := by
    have h1 := hK.out
    have h2 := hL.out
    by_cases h : K < 0
    · exact .inl ⟨h, by rw [h2]; exact earlier_t (by omega)⟩
    · exact .inr ⟨by omega, by rw [h2]; exact earlier_f (by omega)⟩
  clear hK hL C
  have BA := ((Blk.new w 25 (gc a.t a.s a.r)).alloc (.cells (gc b.t b.s b.r) 25)).alloc (.cells (gc 0 0 0) 25)
  have BB := (Blk.new (w.alloc (.cells (gc a.t a.s a.r) 25)) 25 (gc b.t b.s b.r)).alloc (.cells (gc 0 0 0) 25)
  have BC := Blk.new ((w.alloc (.cells (gc a.t a.s a.r) 25)).alloc (.cells (gc b.t b.s b.r) 25)) 25 (gc 0 0 0)
  rw [show (w.alloc (.cells (gc a.t a.s a.r) 25)).heap.size = w.heap.size + 1 by simp] at BB
  rw [show ((w.alloc (.cells (gc a.t a.s a.r) 25)).alloc (.cells (gc b.t b.s b.r) 25)).heap.size = w.heap.size + 1 + 1 by simp] at BC
  have hb0 : Below w.heap.size w (((w.alloc (.cells (gc a.t a.s a.r) 25)).alloc (.cells (gc b.t b.s b.r) 25)).alloc (.cells (gc 0 0 0) 25)) := (((Below.refl _ _).alloc (Nat.le_refl _) _).alloc (by simp) _).alloc (by simp; omega) _
  rcases hlt with ⟨hlt, rfl⟩ | ⟨hlt, rfl⟩
  all_goals
    go_enter Try.func32, Try.ntmps32
    go_wp2_with fail
    refine (CC.out _).mono ?_
    rintro e w1 ⟨rfl, hb1⟩
    have A1 := BA.past hb1
    have B1 := BB.past hb1
    have C1 := BC.past hb1
    have hb2 := hb0.trans (hb1.mono hb0.size)
    clear BA BB BC hb0 hb1 CC
    obtain ⟨a0, a1, a2, -, -, -⟩ := box3 A1
    obtain ⟨b0, b1, b2, -, -, -⟩ := box3 B1
    obtain ⟨c0, c1, c2, f0, f1, f2⟩ := box3 C1
    go_wp2_with fail
    exact bodyPost_ret (res_num rfl _ _ (w.heap.size + 1 + 1) _ _ _ rfl (C1.set3 _ _ _)) rfl ⟨rfl, below3 hb2 (by omega) _ _ _⟩
theorem greater_any (a b : Nm) (w : World) : Calls Try.prog 31 #[a.v, b.v] w fun e w' => e = .returned (later a b).v ∧ Below w.heap.size w w' := by
  obtain ⟨K, hK⟩ : ∃ K, Hid (K = a.cmp b) := ⟨_, rfl⟩
  have C := rcmp_any a.t a.s a.r b.t b.s b.r
  rw [show cmpC a.t a.s a.r b.t b.s b.r = K from hK.out.symm] at C
  have CC := Lib.hid C
  obtain ⟨L, hL⟩ : ∃ L, Hid (L = later a b) := ⟨_, rfl⟩
  rw [← hL.out]
  have hlt : K < 0 ∧ L = b ∨ 0 ≤ K ∧ L = a := by
    have h1 := hK.out
    have h2 := hL.out
    by_cases h : K < 0
    · exact .inl ⟨h, by rw [h2]; exact later_t (by omega)⟩
    · exact .inr ⟨by omega, by rw [h2]; exact later_f (by omega)⟩
  clear hK hL C
  have BA := ((Blk.new w 25 (gc a.t a.s a.r)).alloc (.cells (gc b.t b.s b.r) 25)).alloc (.cells (gc 0 0 0) 25)
  have BB := (Blk.new (w.alloc (.cells (gc a.t a.s a.r) 25)) 25 (gc b.t b.s b.r)).alloc (.cells (gc 0 0 0) 25)
  have BC := Blk.new ((w.alloc (.cells (gc a.t a.s a.r) 25)).alloc (.cells (gc b.t b.s b.r) 25)) 25 (gc 0 0 0)
  rw [show (w.alloc (.cells (gc a.t a.s a.r) 25)).heap.size = w.heap.size + 1 by simp] at BB
  rw [show ((w.alloc (.cells (gc a.t a.s a.r) 25)).alloc (.cells (gc b.t b.s b.r) 25)).heap.size = w.heap.size + 1 + 1 by simp] at BC
  have hb0 : Below w.heap.size w (((w.alloc (.cells (gc a.t a.s a.r) 25)).alloc (.cells (gc b.t b.s b.r) 25)).alloc (.cells (gc 0 0 0) 25)) := (((Below.refl _ _).alloc (Nat.le_refl _) _).alloc (by simp) _).alloc (by simp; omega) _
  rcases hlt with ⟨hlt, rfl⟩ | ⟨hlt, rfl⟩
  all_goals
    go_enter Try.func31, Try.ntmps31
    go_wp2_with fail
    refine (CC.out _).mono ?_
    rintro e w1 ⟨rfl, hb1⟩
    have A1 := BA.past hb1
    have B1 := BB.past hb1
    have C1 := BC.past hb1
    have hb2 := hb0.trans (hb1.mono hb0.size)
    clear BA BB BC hb0 hb1 CC
    obtain ⟨a0, a1, a2, -, -, -⟩ := box3 A1
    obtain ⟨b0, b1, b2, -, -, -⟩ := box3 B1
    obtain ⟨c0, c1, c2, f0, f1, f2⟩ := box3 C1
    go_wp2_with fail
    exact bodyPost_ret (res_num rfl _ _ (w.heap.size + 1 + 1) _ _ _ rfl (C1.set3 _ _ _)) rfl ⟨rfl, below3 hb2 (by omega) _ _ _⟩
end Go.Proofs.Ytiglepmgonmhiaa.Cs
