/- What readItem answers: a filter without Kids, in new memory. -/
import Derived.Test.YticfemheneljmaaDoorFlVal
import Derived.Test.YticfemheneljmaaDoorNOwnS
import Derived.Deep.RegionHeldLaw
namespace Go.Proofs.YticfemheneljmaaDoor.Fi
open Go.RowKit
set_option linter.unusedVariables false
set_option maxRecDepth 100000

theorem five_set {w : World} {g : Nat} {t : TypeId} {x0 x1 x2 x3 x4 : Value} (h : Blk w g t #[x0, x1, x2, x3, x4]) :
    w.frozen? ⟨g, 0, none⟩ = false ∧ w.frozen? ⟨g, 1, none⟩ = false ∧ w.frozen? ⟨g, 2, none⟩ = false ∧ w.frozen? ⟨g, 3, none⟩ = false ∧ w.frozen? ⟨g, 4, none⟩ = false := ⟨h.frozen 0, h.frozen 1, h.frozen 2, h.frozen 3, h.frozen 4⟩
theorem five {w : World} {g : Nat} {t : TypeId} {x0 x1 x2 x3 x4 : Value} (h : Blk w g t #[x0, x1, x2, x3, x4]) : w.cell? ⟨g, 0, none⟩ = some x0 ∧ w.cell? ⟨g, 1, none⟩ = some x1 ∧ w.cell? ⟨g, 2, none⟩ = some x2 ∧ w.cell? ⟨g, 3, none⟩ = some x3 ∧ w.cell? ⟨g, 4, none⟩ = some x4 :=
  ⟨h.cell 0, h.cell 1, h.cell 2, h.cell 3, h.cell 4⟩
theorem res_fil {fn : Func} {p : Tmp} (h : fn.results = #[.cell p 25]) (tmps : Array Value) (w : World) (g : Nat) (x0 x1 x2 x3 x4 : Value) (hp : tmps.getD p undef = .pointer (some ⟨g, 0, none⟩)) (hB : Blk w g 25 #[x0, x1, x2, x3, x4]) :
    (results fn tmps).run Tryd.prog w = .ok (.agg #[x0, x1, x2, x3, x4]) w :=
  results_cell_row h tmps w g _ _ _ _ hp hB Tryd.underlying25 rfl (by kernel_rfl)
theorem fset5 {w : World} {g : Nat} {t : TypeId} {x0 x1 x2 x3 x4 y0 y1 y2 y3 y4 : Value} (h : Blk w g t #[x0, x1, x2, x3, x4]) :
    Blk (((((w.setCell ⟨g, 0, none⟩ y0).setCell ⟨g, 1, none⟩ y1).setCell ⟨g, 2, none⟩ y2).setCell ⟨g, 3, none⟩ y3).setCell ⟨g, 4, none⟩ y4) g t #[y0, y1, y2, y3, y4] :=
  ((((h.set_ 0 y0).set_ 1 y1).set_ 2 y2).set_ 3 y3).set_ 4 y4
theorem below_set5 {B : Nat} {w w' : World} (h : Below B w w') {g : Nat} (hg : B ≤ g) (y0 y1 y2 y3 y4 : Value) :
    Below B w (((((w'.setCell ⟨g, 0, none⟩ y0).setCell ⟨g, 1, none⟩ y1).setCell ⟨g, 2, none⟩ y2).setCell ⟨g, 3, none⟩ y3).setCell ⟨g, 4, none⟩ y4) :=
  ((((h.setCell (p := ⟨g, 0, none⟩) hg _).setCell (p := ⟨g, 1, none⟩) hg _).setCell (p := ⟨g, 2, none⟩) hg _).setCell (p := ⟨g, 3, none⟩) hg _).setCell (p := ⟨g, 4, none⟩) hg _
theorem trim_len (l : List UInt8) : (trim l).length ≤ l.length := by
  unfold trim
  rw [List.length_reverse]
  refine Nat.le_trans (List.Sublist.length_le (List.dropWhile_sublist _)) ?_
  rw [List.length_reverse]
  exact Nat.le_refl _
theorem rv_len : ∀ (n : Nat) (l : List UInt8), (rv n l).length ≤ n
  | 0, l => by simp [rv]
  | n + 1, [] => by simp [rv]
  | n + 1, c :: r => by
    rw [rv.eq_def]
    simp only
    split
    · split
      · have := rv_len n ‹List UInt8›; simp; omega
      · have := rv_len n r; simp; omega
    · have := rv_len n r; simp; omega
/-- A filter without Subs and Kids. -/
theorem Lies.plain {w : World} {P : Nat → Prop} {k : Int} {a v : ByteArray} (ha : a.size ≤ maxLen) (hv : v.size ≤ maxLen) : Lies w P (.mk k a v [] []) [.int .i64 k, .string a, .string v, .slice none 0 0, .slice none 0 0] :=
  Lies.shut (ss := []) (ks := []) (S := none) (sc := 0) (A := none) (c := 0) (ds := fun _ => []) ha hv (by simp) (by simp) (StrsAt.nil _ _ _) (fun s h => by cases h) (by simp) (by simp) (KidsAt.nil _ _ _ _)
theorem blk_below {w w' : World} {g B : Nat} {t : TypeId} {cs : Array Value} (h : Blk w g t cs) (hb : Below B w w') (hg : g < B) : Blk w' g t cs := (hb.block g hg).trans h
theorem step_pushWd {w : World} {ops : Array Oper} {o : Oper} {a : Act} {K : Act → World → Prop} {Q : Exit → Act → World → Prop} {E : Prop} (hgd : o.guard = none) (sl x : Operand) (dt : Option Nat) (hdt : o.dst = dt)
    (ho : o.op = .call { callee := .builtin .append, args := #[sl, x], argTypes := #[22, 22] })
    (base : Nat) (v : Value) (ps : List ByteArray) (hs : a.eval sl = v) (hown : OwnS w base v ps) (g : Nat) (t : ByteArray) (hx : a.eval x = .slice (some ⟨g, 0, none⟩) 1 1)
    (hB : Blk w g 9 #[.string t]) (hl : ps.length ≤ 1099511627776) (hbase : base ≤ w.heap.size)
    (h : ∀ v' w', OwnS w' base v' (ps ++ [t]) → Below base w w' → K (a.put dt v') w') :
    if Region.wanted o (yielded ops a.tmps) = true then Oper.wp Tryd.prog o a w K Q else E :=
  step_pushW hgd sl x ho base v ps hs hown g t hx hB hl hbase (by rw [hdt]; exact h)
theorem strs_own {w : World} {base : Nat} {v : Value} {ps : List ByteArray} (h : OwnS w base v ps) : ∃ A c, v = .slice A ps.length c ∧ ps.length ≤ c ∧ StrsAt w (fun b => base ≤ b ∧ b < w.heap.size) A ps := by
  have h9 := h
  rcases h.2 with ⟨rfl, h0⟩ | ⟨g, cap, cur, rfl, hg, hh, hc, hm, hs, ht⟩
  · exact ⟨none, 0, by rw [h0], by omega, fun h1 => by omega⟩
  · refine ⟨_, _, rfl, hc, fun h1 => ⟨⟨g, 0, none⟩, rfl, ⟨hg, ?_⟩, fun i hi => ?_⟩⟩
    · rcases Nat.lt_or_ge g w.heap.size with h' | h'
      · exact h'
      · simp [Array.getElem?_eq_none h'] at hh
    · rw [Addr.add_lit, Nat.zero_add]
      exact own_cell h9 i _ (by rw [List.getElem?_map, List.getElem?_eq_getElem hi]; rfl)
theorem own_set {w : World} {base : Nat} {e : TypeId} {size : Nat} {v : Value} {n : Nat} {xs : List Value} (h : w.ownsRow base e size v n xs) {p : Addr} (hp : p.block < base) (u : Value) : (w.setCell p u).ownsRow base e size v n xs := by
  obtain ⟨h1, h2⟩ := h
  refine ⟨h1, ?_⟩
  rcases h2 with h2 | ⟨g, cap, cur, hv, hg, hh, r⟩
  · exact Or.inl h2
  · exact Or.inr ⟨g, cap, cur, hv, hg, (Below.heap_setCell w p u g (by omega)).trans hh, r⟩
theorem take_rv {l : List (List UInt8)} {i : Nat} (h : i < l.length) : (l.take (i + 1)).map (fun l => Nm.mk (rv 61 l)) = (l.take i).map (fun l => Nm.mk (rv 61 l)) ++ [Nm.mk (rv 61 l[i])] := by
  rw [List.take_succ_eq_append_getElem h, List.map_append]; rfl
theorem star_lit : (⟨#[42]⟩ : ByteArray).toList = [42] := by rw [ByteArray.toList_eq]
theorem star_ne {y : ByteArray} (h : Nm.bs y ≠ [42]) : (y.toList == (⟨#[42]⟩ : ByteArray).toList) = false := by
  rw [star_lit, beq_eq_false_iff_ne, ByteArray.toList_eq]
  exact h
theorem star_no {y : ByteArray} (h : 42 ∉ Nm.bs y) : (y.toList == (⟨#[42]⟩ : ByteArray).toList) = false :=
  star_ne fun e => h (by rw [e]; simp)
def Fresh (w w' : World) : Nat → Prop := fun b => w.heap.size ≤ b ∧ b < w'.heap.size
set_option maxHeartbeats 4000000 in
theorem readI_5 (s x y : ByteArray) (t : Bool) (w : World) (hx : x.size ≤ 1000000000) (hy : y.size ≤ 1000000000)
    (HC : Hid (∀ w, Calls Tryd.prog 40 #[.string s, .string ⟨#[61]⟩] w fun e w' => e = .returned (.tuple #[.string x, .string y, .bool t]) ∧ Below w.heap.size w w')) (h1 : last (Nm.bs x) = 62) :
    Calls Tryd.prog 41 #[.string s] w fun e w' => ∃ x0 x1 x2 x3 x4, e = .returned (.agg #[x0, x1, x2, x3, x4]) ∧ Lies w' (fun b => w.heap.size ≤ b ∧ b < w'.heap.size) (itemOf 5 (Nm.bs x) (Nm.bs y)) [x0, x1, x2, x3, x4] ∧ Below w.heap.size w w' := by
  have S62 := fun w => suf_any x 62 w hx (by decide)
  have S60 := fun w => suf_any x 60 w hx (by decide)
  have SH := fun w => has_any y 42 w
  have CT := fun w => trim_any x w hx
  have htl := trim_len (Nm.bs x)
  have hxs : (Nm.bs x).length = x.size := rfl
  obtain ⟨a, ha⟩ : ∃ a, a = Nm.mk (trim (Nm.bs x)) := ⟨_, rfl⟩
  have haz : a.size = (trim (Nm.bs x)).length := by rw [ha]; rfl
  rw [← ha] at CT
  have CL := Lib.hid (fun w => clone_any a w (by omega))
  have CV := fun w => readV_any y w hy
  have hvl := rv_len 61 (Nm.bs y)
  obtain ⟨v, hv⟩ : ∃ v, v = Nm.mk (rv 61 (Nm.bs y)) := ⟨_, rfl⟩
  have hvz : v.size = (rv 61 (Nm.bs y)).length := by rw [hv]; rfl
  rw [← hv] at CV
  have haz2 : a.size ≤ 1000000000 := by omega
  have hvz2 : v.size ≤ 61 := by omega
  rw [decide_eq_true (show last (Nm.bs x) = (62 : UInt8).toNat from h1)] at S62
  have H62 := Lib.hid S62
  clear S62 S60 SH h1
  have HT := Lib.hid CT
  have HV := Lib.hid CV
  have HA := Lib.hid ha
  have HVv := Lib.hid hv
  clear CT CV ha hv htl hxs hvl haz hvz
  go_enter Tryd.func41, Tryd.ntmps41
  go_wp2_with fail
  refine (HC.out _).mono ?_
  rintro e w1 ⟨rfl, hb1⟩
  have hz1 := hb1.size
  have Z1 := (Blk.new w 25 #[.int .i64 0, .string ⟨#[]⟩, .string ⟨#[]⟩, .slice none 0 0, .slice none 0 0]).past hb1
  have hbw1 := ((Below.refl w.heap.size w).alloc (Nat.le_refl _) (.cells #[.int .i64 0, .string ⟨#[]⟩, .string ⟨#[]⟩, .slice none 0 0, .slice none 0 0] 25)).trans (hb1.mono (by simp))
  have hne : w.heap.size ≠ w1.heap.size := by simp at hz1; omega
  have hne' : w1.heap.size ≠ w.heap.size := hne.symm
  have hw01 : w.heap.size < w1.heap.size := by simp at hz1; omega
  clear hb1
  have F1 := Blk.new w1 25 #[.int .i64 4, .string ⟨#[]⟩, .string ⟨#[]⟩, .slice none 0 0, .slice none 0 0]
  have Z2 := Z1.alloc (.cells #[.int .i64 4, .string ⟨#[]⟩, .string ⟨#[]⟩, .slice none 0 0, .slice none 0 0] 25)
  have hbw2 := hbw1.alloc (by simp at hz1; omega) (.cells #[.int .i64 4, .string ⟨#[]⟩, .string ⟨#[]⟩, .slice none 0 0, .slice none 0 0] 25)
  go_wp2_with fail
  refine ((H62).out _).mono ?_
  rintro e w9 ⟨rfl, rfl⟩
  go_wp2_with fail
  have F2 := Blk.new w1 25 #[.int .i64 5, .string ⟨#[]⟩, .string ⟨#[]⟩, .slice none 0 0, .slice none 0 0]
  have Z3 := Z1.alloc (.cells #[.int .i64 5, .string ⟨#[]⟩, .string ⟨#[]⟩, .slice none 0 0, .slice none 0 0] 25)
  have hbw3 := hbw1.alloc (by simp at hz1; omega) (.cells #[.int .i64 5, .string ⟨#[]⟩, .string ⟨#[]⟩, .slice none 0 0, .slice none 0 0] 25)
  have hz3 := hbw3.size
  clear F1 Z2 hbw2 Z1 hbw1
  refine (HT.out _).mono ?_
  rintro e w4 ⟨rfl, hb4⟩
  have F4 := F2.past hb4
  have Z4 := Z3.past hb4
  have hbw4 := hbw3.trans (hb4.mono hz3)
  have hz4 := hbw4.size
  clear hb4 F2 Z3 hbw3 hz3
  go_wp2_with fail
  refine (CL.out _).mono ?_
  rintro e w5 ⟨rfl, hb5⟩
  have F5 := F4.past hb5
  have Z5 := Z4.past hb5
  have hbw5 := hbw4.trans (hb5.mono hz4)
  have hz5 := hbw5.size
  have hlt5 := F5.lt
  obtain ⟨c0, c1, c2, c3, c4⟩ := five F5
  obtain ⟨f0, f1, f2, f3, f4⟩ := five_set F5
  obtain ⟨e0, e1, e2, e3, e4⟩ := five Z5
  obtain ⟨g0, g1, g2, g3, g4⟩ := five_set Z5
  clear hb5 F4 Z4 hbw4 hz4
  go_wp2_with fail
  have F6 := F5.set_ 1 (.string a)
  have Z6 := Z5.far hne (p := ⟨w1.heap.size, 1, none⟩) (.string a)
  have hbw6 := hbw5.setCell (p := ⟨w1.heap.size, 1, none⟩) (by simp at hz1; show w.heap.size ≤ w1.heap.size; omega) (.string a)
  have hz6 := hbw6.size
  clear F5 Z5 hbw5 hz5 c0 c1 c2 c3 c4 f0 f1 f2 f3 f4 e0 e1 e2 e3 e4 g0 g1 g2 g3 g4
  refine (HV.out _).mono ?_
  rintro e w7 ⟨rfl, hb7⟩
  have F7 := F6.past hb7
  have Z7 := Z6.past hb7
  have hbw7 := hbw6.trans (hb7.mono hz6)
  have hlt7 := F7.lt
  obtain ⟨c0, c1, c2, c3, c4⟩ := five F7
  obtain ⟨f0, f1, f2, f3, f4⟩ := five_set F7
  obtain ⟨e0, e1, e2, e3, e4⟩ := five Z7
  obtain ⟨g0, g1, g2, g3, g4⟩ := five_set Z7
  clear hb7 F6 Z6 hbw6 hz6
  go_wp2_with fail
  have hbw8 := hbw7.setCell (p := ⟨w1.heap.size, 2, none⟩) (by simp at hz1; show w.heap.size ≤ w1.heap.size; omega) (.string v)
  have Z8 := Z7.far hne (p := ⟨w1.heap.size, 2, none⟩) (.string v)
  refine bodyPost_ret (res_fil rfl _ _ w.heap.size _ _ _ _ _ rfl (fset5 Z8)) rfl ⟨_, _, _, _, _, rfl, ?_, below_set5 hbw8 (Nat.le_refl _) _ _ _ _ _⟩
  have hit : itemOf 5 (Nm.bs x) (Nm.bs y) = .mk 5 a v [] [] := by
    unfold itemOf
    rw [← HA.out, ← HVv.out, if_neg (by omega), if_neg (by omega)]
  rw [hit]
  exact Lies.plain (by unfold maxLen; omega) (by unfold maxLen; omega)
set_option maxHeartbeats 4000000 in
theorem readI_6 (s x y : ByteArray) (t : Bool) (w : World) (hx : x.size ≤ 1000000000) (hy : y.size ≤ 1000000000)
    (HC : Hid (∀ w, Calls Tryd.prog 40 #[.string s, .string ⟨#[61]⟩] w fun e w' => e = .returned (.tuple #[.string x, .string y, .bool t]) ∧ Below w.heap.size w w')) (h1 : last (Nm.bs x) ≠ 62) (h2 : last (Nm.bs x) = 60) :
    Calls Tryd.prog 41 #[.string s] w fun e w' => ∃ x0 x1 x2 x3 x4, e = .returned (.agg #[x0, x1, x2, x3, x4]) ∧ Lies w' (fun b => w.heap.size ≤ b ∧ b < w'.heap.size) (itemOf 6 (Nm.bs x) (Nm.bs y)) [x0, x1, x2, x3, x4] ∧ Below w.heap.size w w' := by
  have S62 := fun w => suf_any x 62 w hx (by decide)
  have S60 := fun w => suf_any x 60 w hx (by decide)
  have SH := fun w => has_any y 42 w
  have CT := fun w => trim_any x w hx
  have htl := trim_len (Nm.bs x)
  have hxs : (Nm.bs x).length = x.size := rfl
  obtain ⟨a, ha⟩ : ∃ a, a = Nm.mk (trim (Nm.bs x)) := ⟨_, rfl⟩
  have haz : a.size = (trim (Nm.bs x)).length := by rw [ha]; rfl
  rw [← ha] at CT
  have CL := Lib.hid (fun w => clone_any a w (by omega))
  have CV := fun w => readV_any y w hy
  have hvl := rv_len 61 (Nm.bs y)
  obtain ⟨v, hv⟩ : ∃ v, v = Nm.mk (rv 61 (Nm.bs y)) := ⟨_, rfl⟩
  have hvz : v.size = (rv 61 (Nm.bs y)).length := by rw [hv]; rfl
  rw [← hv] at CV
  have haz2 : a.size ≤ 1000000000 := by omega
  have hvz2 : v.size ≤ 61 := by omega
  rw [decide_eq_false (show ¬ last (Nm.bs x) = (62 : UInt8).toNat from h1)] at S62
  rw [decide_eq_true (show last (Nm.bs x) = (60 : UInt8).toNat from h2)] at S60
  have H62 := Lib.hid S62
  have H60 := Lib.hid S60
  clear S62 S60 SH h1 h2
  have HT := Lib.hid CT
  have HV := Lib.hid CV
  have HA := Lib.hid ha
  have HVv := Lib.hid hv
  clear CT CV ha hv htl hxs hvl haz hvz
  go_enter Tryd.func41, Tryd.ntmps41
  go_wp2_with fail
  refine (HC.out _).mono ?_
  rintro e w1 ⟨rfl, hb1⟩
  have hz1 := hb1.size
  have Z1 := (Blk.new w 25 #[.int .i64 0, .string ⟨#[]⟩, .string ⟨#[]⟩, .slice none 0 0, .slice none 0 0]).past hb1
  have hbw1 := ((Below.refl w.heap.size w).alloc (Nat.le_refl _) (.cells #[.int .i64 0, .string ⟨#[]⟩, .string ⟨#[]⟩, .slice none 0 0, .slice none 0 0] 25)).trans (hb1.mono (by simp))
  have hne : w.heap.size ≠ w1.heap.size := by simp at hz1; omega
  have hne' : w1.heap.size ≠ w.heap.size := hne.symm
  have hw01 : w.heap.size < w1.heap.size := by simp at hz1; omega
  clear hb1
  have F1 := Blk.new w1 25 #[.int .i64 4, .string ⟨#[]⟩, .string ⟨#[]⟩, .slice none 0 0, .slice none 0 0]
  have Z2 := Z1.alloc (.cells #[.int .i64 4, .string ⟨#[]⟩, .string ⟨#[]⟩, .slice none 0 0, .slice none 0 0] 25)
  have hbw2 := hbw1.alloc (by simp at hz1; omega) (.cells #[.int .i64 4, .string ⟨#[]⟩, .string ⟨#[]⟩, .slice none 0 0, .slice none 0 0] 25)
  go_wp2_with fail
  refine ((H62).out _).mono ?_
  rintro e w9 ⟨rfl, rfl⟩
  go_wp2_with fail
  refine ((H60).out _).mono ?_
  rintro e w9 ⟨rfl, rfl⟩
  go_wp2_with fail
  have F2 := Blk.new w1 25 #[.int .i64 6, .string ⟨#[]⟩, .string ⟨#[]⟩, .slice none 0 0, .slice none 0 0]
  have Z3 := Z1.alloc (.cells #[.int .i64 6, .string ⟨#[]⟩, .string ⟨#[]⟩, .slice none 0 0, .slice none 0 0] 25)
  have hbw3 := hbw1.alloc (by simp at hz1; omega) (.cells #[.int .i64 6, .string ⟨#[]⟩, .string ⟨#[]⟩, .slice none 0 0, .slice none 0 0] 25)
  have hz3 := hbw3.size
  clear F1 Z2 hbw2 Z1 hbw1
  refine (HT.out _).mono ?_
  rintro e w4 ⟨rfl, hb4⟩
  have F4 := F2.past hb4
  have Z4 := Z3.past hb4
  have hbw4 := hbw3.trans (hb4.mono hz3)
  have hz4 := hbw4.size
  clear hb4 F2 Z3 hbw3 hz3
  go_wp2_with fail
  refine (CL.out _).mono ?_
  rintro e w5 ⟨rfl, hb5⟩
  have F5 := F4.past hb5
  have Z5 := Z4.past hb5
  have hbw5 := hbw4.trans (hb5.mono hz4)
  have hz5 := hbw5.size
  have hlt5 := F5.lt
  obtain ⟨c0, c1, c2, c3, c4⟩ := five F5
  obtain ⟨f0, f1, f2, f3, f4⟩ := five_set F5
  obtain ⟨e0, e1, e2, e3, e4⟩ := five Z5
  obtain ⟨g0, g1, g2, g3, g4⟩ := five_set Z5
  clear hb5 F4 Z4 hbw4 hz4
  go_wp2_with fail
  have F6 := F5.set_ 1 (.string a)
  have Z6 := Z5.far hne (p := ⟨w1.heap.size, 1, none⟩) (.string a)
  have hbw6 := hbw5.setCell (p := ⟨w1.heap.size, 1, none⟩) (by simp at hz1; show w.heap.size ≤ w1.heap.size; omega) (.string a)
  have hz6 := hbw6.size
  clear F5 Z5 hbw5 hz5 c0 c1 c2 c3 c4 f0 f1 f2 f3 f4 e0 e1 e2 e3 e4 g0 g1 g2 g3 g4
  refine (HV.out _).mono ?_
  rintro e w7 ⟨rfl, hb7⟩
  have F7 := F6.past hb7
  have Z7 := Z6.past hb7
  have hbw7 := hbw6.trans (hb7.mono hz6)
  have hlt7 := F7.lt
  obtain ⟨c0, c1, c2, c3, c4⟩ := five F7
  obtain ⟨f0, f1, f2, f3, f4⟩ := five_set F7
  obtain ⟨e0, e1, e2, e3, e4⟩ := five Z7
  obtain ⟨g0, g1, g2, g3, g4⟩ := five_set Z7
  clear hb7 F6 Z6 hbw6 hz6
  go_wp2_with fail
  have hbw8 := hbw7.setCell (p := ⟨w1.heap.size, 2, none⟩) (by simp at hz1; show w.heap.size ≤ w1.heap.size; omega) (.string v)
  have Z8 := Z7.far hne (p := ⟨w1.heap.size, 2, none⟩) (.string v)
  refine bodyPost_ret (res_fil rfl _ _ w.heap.size _ _ _ _ _ rfl (fset5 Z8)) rfl ⟨_, _, _, _, _, rfl, ?_, below_set5 hbw8 (Nat.le_refl _) _ _ _ _ _⟩
  have hit : itemOf 6 (Nm.bs x) (Nm.bs y) = .mk 6 a v [] [] := by
    unfold itemOf
    rw [← HA.out, ← HVv.out, if_neg (by omega), if_neg (by omega)]
  rw [hit]
  exact Lies.plain (by unfold maxLen; omega) (by unfold maxLen; omega)
set_option maxHeartbeats 4000000 in
theorem readI_4 (s x y : ByteArray) (t : Bool) (w : World) (hx : x.size ≤ 1000000000) (hy : y.size ≤ 1000000000)
    (HC : Hid (∀ w, Calls Tryd.prog 40 #[.string s, .string ⟨#[61]⟩] w fun e w' => e = .returned (.tuple #[.string x, .string y, .bool t]) ∧ Below w.heap.size w w')) (h1 : last (Nm.bs x) ≠ 62) (h2 : last (Nm.bs x) ≠ 60) (h3 : 42 ∉ Nm.bs y) :
    Calls Tryd.prog 41 #[.string s] w fun e w' => ∃ x0 x1 x2 x3 x4, e = .returned (.agg #[x0, x1, x2, x3, x4]) ∧ Lies w' (fun b => w.heap.size ≤ b ∧ b < w'.heap.size) (itemOf 4 (Nm.bs x) (Nm.bs y)) [x0, x1, x2, x3, x4] ∧ Below w.heap.size w w' := by
  have S62 := fun w => suf_any x 62 w hx (by decide)
  have S60 := fun w => suf_any x 60 w hx (by decide)
  have SH := fun w => has_any y 42 w
  have CT := fun w => trim_any x w hx
  have htl := trim_len (Nm.bs x)
  have hxs : (Nm.bs x).length = x.size := rfl
  obtain ⟨a, ha⟩ : ∃ a, a = Nm.mk (trim (Nm.bs x)) := ⟨_, rfl⟩
  have haz : a.size = (trim (Nm.bs x)).length := by rw [ha]; rfl
  rw [← ha] at CT
  have CL := Lib.hid (fun w => clone_any a w (by omega))
  have CV := fun w => readV_any y w hy
  have hvl := rv_len 61 (Nm.bs y)
  obtain ⟨v, hv⟩ : ∃ v, v = Nm.mk (rv 61 (Nm.bs y)) := ⟨_, rfl⟩
  have hvz : v.size = (rv 61 (Nm.bs y)).length := by rw [hv]; rfl
  rw [← hv] at CV
  have haz2 : a.size ≤ 1000000000 := by omega
  have hvz2 : v.size ≤ 61 := by omega
  rw [decide_eq_false (show ¬ last (Nm.bs x) = (62 : UInt8).toNat from h1)] at S62
  rw [decide_eq_false (show ¬ last (Nm.bs x) = (60 : UInt8).toNat from h2)] at S60
  have H62 := Lib.hid S62
  have H60 := Lib.hid S60
  rw [decide_eq_false h3] at SH
  have HH := Lib.hid SH
  have hyn := star_no h3
  have hyn2 := hyn
  rw [star_lit] at hyn2
  clear S62 S60 SH h1 h2 h3
  have HT := Lib.hid CT
  have HV := Lib.hid CV
  have HA := Lib.hid ha
  have HVv := Lib.hid hv
  clear CT CV ha hv htl hxs hvl haz hvz
  go_enter Tryd.func41, Tryd.ntmps41
  go_wp2_with fail
  refine (HC.out _).mono ?_
  rintro e w1 ⟨rfl, hb1⟩
  have hz1 := hb1.size
  have Z1 := (Blk.new w 25 #[.int .i64 0, .string ⟨#[]⟩, .string ⟨#[]⟩, .slice none 0 0, .slice none 0 0]).past hb1
  have hbw1 := ((Below.refl w.heap.size w).alloc (Nat.le_refl _) (.cells #[.int .i64 0, .string ⟨#[]⟩, .string ⟨#[]⟩, .slice none 0 0, .slice none 0 0] 25)).trans (hb1.mono (by simp))
  have hne : w.heap.size ≠ w1.heap.size := by simp at hz1; omega
  have hne' : w1.heap.size ≠ w.heap.size := hne.symm
  have hw01 : w.heap.size < w1.heap.size := by simp at hz1; omega
  clear hb1
  have F1 := Blk.new w1 25 #[.int .i64 4, .string ⟨#[]⟩, .string ⟨#[]⟩, .slice none 0 0, .slice none 0 0]
  have Z2 := Z1.alloc (.cells #[.int .i64 4, .string ⟨#[]⟩, .string ⟨#[]⟩, .slice none 0 0, .slice none 0 0] 25)
  have hbw2 := hbw1.alloc (by simp at hz1; omega) (.cells #[.int .i64 4, .string ⟨#[]⟩, .string ⟨#[]⟩, .slice none 0 0, .slice none 0 0] 25)
  go_wp2_with fail
  refine ((H62).out _).mono ?_
  rintro e w9 ⟨rfl, rfl⟩
  go_wp2_with fail
  refine ((H60).out _).mono ?_
  rintro e w9 ⟨rfl, rfl⟩
  go_wp2_with fail
  refine ((HH).out _).mono ?_
  rintro e w9 ⟨rfl, rfl⟩
  go_wp2_with fail
  have F2 := F1
  have Z3 := Z2
  have hbw3 := hbw2
  have hz3 := hbw3.size
  clear F1 Z2 hbw2 Z1 hbw1
  refine (HT.out _).mono ?_
  rintro e w4 ⟨rfl, hb4⟩
  have F4 := F2.past hb4
  have Z4 := Z3.past hb4
  have hbw4 := hbw3.trans (hb4.mono hz3)
  have hz4 := hbw4.size
  clear hb4 F2 Z3 hbw3 hz3
  go_wp2_with fail
  refine (CL.out _).mono ?_
  rintro e w5 ⟨rfl, hb5⟩
  have F5 := F4.past hb5
  have Z5 := Z4.past hb5
  have hbw5 := hbw4.trans (hb5.mono hz4)
  have hz5 := hbw5.size
  have hlt5 := F5.lt
  obtain ⟨c0, c1, c2, c3, c4⟩ := five F5
  obtain ⟨f0, f1, f2, f3, f4⟩ := five_set F5
  obtain ⟨e0, e1, e2, e3, e4⟩ := five Z5
  obtain ⟨g0, g1, g2, g3, g4⟩ := five_set Z5
  clear hb5 F4 Z4 hbw4 hz4
  go_wp2_with fail
  have F6 := F5.set_ 1 (.string a)
  have Z6 := Z5.far hne (p := ⟨w1.heap.size, 1, none⟩) (.string a)
  have hbw6 := hbw5.setCell (p := ⟨w1.heap.size, 1, none⟩) (by simp at hz1; show w.heap.size ≤ w1.heap.size; omega) (.string a)
  have hz6 := hbw6.size
  clear F5 Z5 hbw5 hz5 c0 c1 c2 c3 c4 f0 f1 f2 f3 f4 e0 e1 e2 e3 e4 g0 g1 g2 g3 g4
  refine (HV.out _).mono ?_
  rintro e w7 ⟨rfl, hb7⟩
  have F7 := F6.past hb7
  have Z7 := Z6.past hb7
  have hbw7 := hbw6.trans (hb7.mono hz6)
  have hlt7 := F7.lt
  obtain ⟨c0, c1, c2, c3, c4⟩ := five F7
  obtain ⟨f0, f1, f2, f3, f4⟩ := five_set F7
  obtain ⟨e0, e1, e2, e3, e4⟩ := five Z7
  obtain ⟨g0, g1, g2, g3, g4⟩ := five_set Z7
  clear hb7 F6 Z6 hbw6 hz6
  go_wp2_with fail
  have hbw8 := hbw7.setCell (p := ⟨w1.heap.size, 2, none⟩) (by simp at hz1; show w.heap.size ≤ w1.heap.size; omega) (.string v)
  have Z8 := Z7.far hne (p := ⟨w1.heap.size, 2, none⟩) (.string v)
  refine bodyPost_ret (res_fil rfl _ _ w.heap.size _ _ _ _ _ rfl (fset5 Z8)) rfl ⟨_, _, _, _, _, rfl, ?_, below_set5 hbw8 (Nat.le_refl _) _ _ _ _ _⟩
  have hit : itemOf 4 (Nm.bs x) (Nm.bs y) = .mk 4 a v [] [] := by
    unfold itemOf
    rw [← HA.out, ← HVv.out, if_neg (by omega), if_neg (by omega)]
  rw [hit]
  exact Lies.plain (by unfold maxLen; omega) (by unfold maxLen; omega)
set_option maxHeartbeats 4000000 in
theorem readI_7 (s x y : ByteArray) (t : Bool) (w : World) (hx : x.size ≤ 1000000000) (hy : y.size ≤ 1000000000)
    (HC : Hid (∀ w, Calls Tryd.prog 40 #[.string s, .string ⟨#[61]⟩] w fun e w' => e = .returned (.tuple #[.string x, .string y, .bool t]) ∧ Below w.heap.size w w')) (h1 : last (Nm.bs x) ≠ 62) (h2 : last (Nm.bs x) ≠ 60) (h3 : y = ⟨#[42]⟩) :
    Calls Tryd.prog 41 #[.string s] w fun e w' => ∃ x0 x1 x2 x3 x4, e = .returned (.agg #[x0, x1, x2, x3, x4]) ∧ Lies w' (fun b => w.heap.size ≤ b ∧ b < w'.heap.size) (itemOf 7 (Nm.bs x) (Nm.bs y)) [x0, x1, x2, x3, x4] ∧ Below w.heap.size w w' := by
  have S62 := fun w => suf_any x 62 w hx (by decide)
  have S60 := fun w => suf_any x 60 w hx (by decide)
  have SH := fun w => has_any y 42 w
  have CT := fun w => trim_any x w hx
  have htl := trim_len (Nm.bs x)
  have hxs : (Nm.bs x).length = x.size := rfl
  obtain ⟨a, ha⟩ : ∃ a, a = Nm.mk (trim (Nm.bs x)) := ⟨_, rfl⟩
  have haz : a.size = (trim (Nm.bs x)).length := by rw [ha]; rfl
  rw [← ha] at CT
  have CL := Lib.hid (fun w => clone_any a w (by omega))
  have CV := fun w => readV_any y w hy
  have hvl := rv_len 61 (Nm.bs y)
  obtain ⟨v, hv⟩ : ∃ v, v = Nm.mk (rv 61 (Nm.bs y)) := ⟨_, rfl⟩
  have hvz : v.size = (rv 61 (Nm.bs y)).length := by rw [hv]; rfl
  rw [← hv] at CV
  have haz2 : a.size ≤ 1000000000 := by omega
  have hvz2 : v.size ≤ 61 := by omega
  rw [decide_eq_false (show ¬ last (Nm.bs x) = (62 : UInt8).toNat from h1)] at S62
  rw [decide_eq_false (show ¬ last (Nm.bs x) = (60 : UInt8).toNat from h2)] at S60
  have H62 := Lib.hid S62
  have H60 := Lib.hid S60
  subst h3
  have hy1 := star_lit
  clear S62 S60 SH h1 h2
  have HT := Lib.hid CT
  have HV := Lib.hid CV
  have HA := Lib.hid ha
  have HVv := Lib.hid hv
  clear CT CV ha hv htl hxs hvl haz hvz
  go_enter Tryd.func41, Tryd.ntmps41
  go_wp2_with fail
  refine (HC.out _).mono ?_
  rintro e w1 ⟨rfl, hb1⟩
  have hz1 := hb1.size
  have Z1 := (Blk.new w 25 #[.int .i64 0, .string ⟨#[]⟩, .string ⟨#[]⟩, .slice none 0 0, .slice none 0 0]).past hb1
  have hbw1 := ((Below.refl w.heap.size w).alloc (Nat.le_refl _) (.cells #[.int .i64 0, .string ⟨#[]⟩, .string ⟨#[]⟩, .slice none 0 0, .slice none 0 0] 25)).trans (hb1.mono (by simp))
  have hne : w.heap.size ≠ w1.heap.size := by simp at hz1; omega
  have hne' : w1.heap.size ≠ w.heap.size := hne.symm
  have hw01 : w.heap.size < w1.heap.size := by simp at hz1; omega
  clear hb1
  have F1 := Blk.new w1 25 #[.int .i64 4, .string ⟨#[]⟩, .string ⟨#[]⟩, .slice none 0 0, .slice none 0 0]
  have Z2 := Z1.alloc (.cells #[.int .i64 4, .string ⟨#[]⟩, .string ⟨#[]⟩, .slice none 0 0, .slice none 0 0] 25)
  have hbw2 := hbw1.alloc (by simp at hz1; omega) (.cells #[.int .i64 4, .string ⟨#[]⟩, .string ⟨#[]⟩, .slice none 0 0, .slice none 0 0] 25)
  go_wp2_with fail
  refine ((H62).out _).mono ?_
  rintro e w9 ⟨rfl, rfl⟩
  go_wp2_with fail
  refine ((H60).out _).mono ?_
  rintro e w9 ⟨rfl, rfl⟩
  go_wp2_with fail
  have F2 := Blk.new w1 25 #[.int .i64 7, .string ⟨#[]⟩, .string ⟨#[]⟩, .slice none 0 0, .slice none 0 0]
  have Z3 := Z1.alloc (.cells #[.int .i64 7, .string ⟨#[]⟩, .string ⟨#[]⟩, .slice none 0 0, .slice none 0 0] 25)
  have hbw3 := hbw1.alloc (by simp at hz1; omega) (.cells #[.int .i64 7, .string ⟨#[]⟩, .string ⟨#[]⟩, .slice none 0 0, .slice none 0 0] 25)
  have hz3 := hbw3.size
  clear F1 Z2 hbw2 Z1 hbw1
  refine (HT.out _).mono ?_
  rintro e w4 ⟨rfl, hb4⟩
  have F4 := F2.past hb4
  have Z4 := Z3.past hb4
  have hbw4 := hbw3.trans (hb4.mono hz3)
  have hz4 := hbw4.size
  clear hb4 F2 Z3 hbw3 hz3
  go_wp2_with fail
  refine (CL.out _).mono ?_
  rintro e w5 ⟨rfl, hb5⟩
  have F5 := F4.past hb5
  have Z5 := Z4.past hb5
  have hbw5 := hbw4.trans (hb5.mono hz4)
  have hz5 := hbw5.size
  have hlt5 := F5.lt
  obtain ⟨c0, c1, c2, c3, c4⟩ := five F5
  obtain ⟨f0, f1, f2, f3, f4⟩ := five_set F5
  obtain ⟨e0, e1, e2, e3, e4⟩ := five Z5
  obtain ⟨g0, g1, g2, g3, g4⟩ := five_set Z5
  clear hb5 F4 Z4 hbw4 hz4
  go_wp2_with fail
  have F6 := F5.set_ 1 (.string a)
  have Z6 := Z5.far hne (p := ⟨w1.heap.size, 1, none⟩) (.string a)
  have hbw6 := hbw5.setCell (p := ⟨w1.heap.size, 1, none⟩) (by simp at hz1; show w.heap.size ≤ w1.heap.size; omega) (.string a)
  refine bodyPost_ret (res_fil rfl _ _ w.heap.size _ _ _ _ _ rfl (fset5 Z6)) rfl ⟨_, _, _, _, _, rfl, ?_, below_set5 hbw6 (Nat.le_refl _) _ _ _ _ _⟩
  have hit : itemOf 7 (Nm.bs x) [42] = .mk 7 a ⟨#[]⟩ [] [] := by
    unfold itemOf
    rw [← HA.out, if_pos (Or.inl rfl), if_neg (by omega)]
  have h9 : Nm.bs (⟨#[42]⟩ : ByteArray) = [42] := rfl
  rw [h9, hit]
  exact Lies.plain (by unfold maxLen; omega) (by decide)
set_option maxHeartbeats 4000000 in
theorem readI_8 (s x y : ByteArray) (t : Bool) (w : World) (hx : x.size ≤ 1000000000) (hy : y.size ≤ 1000000000)
    (HC : Hid (∀ w, Calls Tryd.prog 40 #[.string s, .string ⟨#[61]⟩] w fun e w' => e = .returned (.tuple #[.string x, .string y, .bool t]) ∧ Below w.heap.size w w')) (h1 : last (Nm.bs x) ≠ 62) (h2 : last (Nm.bs x) ≠ 60) (h3 : Nm.bs y ≠ [42]) (h4 : 42 ∈ Nm.bs y) :
    Calls Tryd.prog 41 #[.string s] w fun e w' => ∃ x0 x1 x2 x3 x4, e = .returned (.agg #[x0, x1, x2, x3, x4]) ∧ Lies w' (fun b => w.heap.size ≤ b ∧ b < w'.heap.size) (itemOf 8 (Nm.bs x) (Nm.bs y)) [x0, x1, x2, x3, x4] ∧ Below w.heap.size w w' := by
  have S62 := fun w => suf_any x 62 w hx (by decide)
  have S60 := fun w => suf_any x 60 w hx (by decide)
  have SH := fun w => has_any y 42 w
  have CT := fun w => trim_any x w hx
  have htl := trim_len (Nm.bs x)
  have hxs : (Nm.bs x).length = x.size := rfl
  obtain ⟨a, ha⟩ : ∃ a, a = Nm.mk (trim (Nm.bs x)) := ⟨_, rfl⟩
  have haz : a.size = (trim (Nm.bs x)).length := by rw [ha]; rfl
  rw [← ha] at CT
  have CL := Lib.hid (fun w => clone_any a w (by omega))
  have CV := fun w => readV_any y w hy
  have hvl := rv_len 61 (Nm.bs y)
  obtain ⟨v, hv⟩ : ∃ v, v = Nm.mk (rv 61 (Nm.bs y)) := ⟨_, rfl⟩
  have hvz : v.size = (rv 61 (Nm.bs y)).length := by rw [hv]; rfl
  rw [← hv] at CV
  have haz2 : a.size ≤ 1000000000 := by omega
  have hvz2 : v.size ≤ 61 := by omega
  rw [decide_eq_false (show ¬ last (Nm.bs x) = (62 : UInt8).toNat from h1)] at S62
  rw [decide_eq_false (show ¬ last (Nm.bs x) = (60 : UInt8).toNat from h2)] at S60
  have H62 := Lib.hid S62
  have H60 := Lib.hid S60
  rw [decide_eq_true h4] at SH
  have HH := Lib.hid SH
  have hyn := star_ne h3
  have hyn2 := hyn
  rw [star_lit] at hyn2
  have HSp := Lib.hid (fun w => split_any y w hy)
  have HR := Lib.hid readV_any
  have hsl := split_len 20 (Nm.bs y)
  have HSE := Lib.hid (split_each 20 (Nm.bs y))
  clear S62 S60 SH h1 h2 h3 h4
  have HT := Lib.hid CT
  have HV := Lib.hid CV
  have HA := Lib.hid ha
  have HVv := Lib.hid hv
  clear CT CV ha hv htl hxs hvl haz hvz
  go_enter Tryd.func41, Tryd.ntmps41
  go_wp2_with fail
  refine (HC.out _).mono ?_
  rintro e w1 ⟨rfl, hb1⟩
  have hz1 := hb1.size
  have Z1 := (Blk.new w 25 #[.int .i64 0, .string ⟨#[]⟩, .string ⟨#[]⟩, .slice none 0 0, .slice none 0 0]).past hb1
  have hbw1 := ((Below.refl w.heap.size w).alloc (Nat.le_refl _) (.cells #[.int .i64 0, .string ⟨#[]⟩, .string ⟨#[]⟩, .slice none 0 0, .slice none 0 0] 25)).trans (hb1.mono (by simp))
  have hne : w.heap.size ≠ w1.heap.size := by simp at hz1; omega
  have hne' : w1.heap.size ≠ w.heap.size := hne.symm
  have hw01 : w.heap.size < w1.heap.size := by simp at hz1; omega
  clear hb1
  have F1 := Blk.new w1 25 #[.int .i64 4, .string ⟨#[]⟩, .string ⟨#[]⟩, .slice none 0 0, .slice none 0 0]
  have Z2 := Z1.alloc (.cells #[.int .i64 4, .string ⟨#[]⟩, .string ⟨#[]⟩, .slice none 0 0, .slice none 0 0] 25)
  have hbw2 := hbw1.alloc (by simp at hz1; omega) (.cells #[.int .i64 4, .string ⟨#[]⟩, .string ⟨#[]⟩, .slice none 0 0, .slice none 0 0] 25)
  go_wp2_with fail
  refine ((H62).out _).mono ?_
  rintro e w9 ⟨rfl, rfl⟩
  go_wp2_with fail
  refine ((H60).out _).mono ?_
  rintro e w9 ⟨rfl, rfl⟩
  go_wp2_with fail
  refine ((HH).out _).mono ?_
  rintro e w9 ⟨rfl, rfl⟩
  go_wp2_with fail
  have F2 := Blk.new w1 25 #[.int .i64 8, .string ⟨#[]⟩, .string ⟨#[]⟩, .slice none 0 0, .slice none 0 0]
  have Z3 := Z1.alloc (.cells #[.int .i64 8, .string ⟨#[]⟩, .string ⟨#[]⟩, .slice none 0 0, .slice none 0 0] 25)
  have hbw3 := hbw1.alloc (by simp at hz1; omega) (.cells #[.int .i64 8, .string ⟨#[]⟩, .string ⟨#[]⟩, .slice none 0 0, .slice none 0 0] 25)
  have hz3 := hbw3.size
  clear F1 Z2 hbw2 Z1 hbw1
  refine (HT.out _).mono ?_
  rintro e w4 ⟨rfl, hb4⟩
  have F4 := F2.past hb4
  have Z4 := Z3.past hb4
  have hbw4 := hbw3.trans (hb4.mono hz3)
  have hz4 := hbw4.size
  clear hb4 F2 Z3 hbw3 hz3
  go_wp2_with fail
  refine (CL.out _).mono ?_
  rintro e w5 ⟨rfl, hb5⟩
  have F5 := F4.past hb5
  have Z5 := Z4.past hb5
  have hbw5 := hbw4.trans (hb5.mono hz4)
  have hz5 := hbw5.size
  have hlt5 := F5.lt
  obtain ⟨c0, c1, c2, c3, c4⟩ := five F5
  obtain ⟨f0, f1, f2, f3, f4⟩ := five_set F5
  obtain ⟨e0, e1, e2, e3, e4⟩ := five Z5
  obtain ⟨g0, g1, g2, g3, g4⟩ := five_set Z5
  clear hb5 F4 Z4 hbw4 hz4
  go_wp2_with fail
  have F6 := F5.set_ 1 (.string a)
  have Z6 := Z5.far hne (p := ⟨w1.heap.size, 1, none⟩) (.string a)
  have hbw6 := hbw5.setCell (p := ⟨w1.heap.size, 1, none⟩) (by simp at hz1; show w.heap.size ≤ w1.heap.size; omega) (.string a)
  have hz6 := hbw6.size
  clear F5 Z5 hbw5 hz5 c0 c1 c2 c3 c4 f0 f1 f2 f3 f4 e0 e1 e2 e3 e4 g0 g1 g2 g3 g4
  refine (HSp.out _).mono ?_
  rintro e w7 ⟨SA, sc, rfl, hSA, hb7⟩
  have F7 := F6.past hb7
  have Z7 := Z6.past hb7
  have hbw7 := hbw6.trans (hb7.mono hz6)
  have HSA := Lib.hid (hSA.imp (P' := (· < w7.heap.size)) (fun b h => h.2) (fun _ _ => rfl))
  have hSA2 : StrsAt w7 (fun b => b ≠ w1.heap.size ∧ b < w7.heap.size) SA ((split 20 (Nm.bs y)).map Nm.mk) := hSA.imp (fun b h => ⟨by have := F6.lt; omega, h.2⟩) (fun _ _ => rfl)
  have hlt7 := F7.lt
  have hz7 := hbw7.size
  clear hb7 F6 Z6 hbw6 hz6 hSA HSA
  go_wp2_with fail
  go_loopw [50] (fun i wr => ∃ (q : Nat) (v : Value) (ps : List ByteArray), q ≤ (split 20 (Nm.bs y)).length ∧ i = .int .i64 q ∧ Blk wr w1.heap.size 25 #[.int .i64 8, .string a, .string ⟨#[]⟩, v, .slice none 0 0] ∧ Blk wr w.heap.size 25 #[.int .i64 0, .string ⟨#[]⟩, .string ⟨#[]⟩, .slice none 0 0, .slice none 0 0] ∧
      OwnS wr w7.heap.size v ps ∧ Hid (ps = ((split 20 (Nm.bs y)).take q).map (fun l => Nm.mk (rv 61 l))) ∧ ps.length = q ∧ StrsAt wr (fun b => b ≠ w1.heap.size ∧ b < w7.heap.size) SA ((split 20 (Nm.bs y)).map Nm.mk) ∧ Below w.heap.size w wr ∧ w7.heap.size ≤ wr.heap.size) (fun i wr => (split 20 (Nm.bs y)).length - (intOf i).toNat)
  case atStart => exact ⟨0, .slice none 0 0, [], Nat.zero_le _, rfl, F7, Z7, OwnS.nil _ _, rfl, rfl, hSA2, hbw7, Nat.le_refl _⟩
  case round =>
    clear F7 Z7 hbw7 hSA2
    obtain ⟨q, v, ps, hq, rfl, F, Z, hO, hE, hps, hS, hb, hsz⟩ := hrel
    obtain ⟨A3, n3, c3', rfl⟩ := hO.form3
    obtain ⟨c0, c1, c2, c3, c4⟩ := five F
    obtain ⟨f0, f1, f2, f3, f4⟩ := five_set F
    have hFlt := F.lt
    by_cases hlt : q < (split 20 (Nm.bs y)).length
    · obtain ⟨bb, oo, rfl, hp, hcc⟩ := hS.row (by simp; omega)
      have k0 := hcc q (by simpa using hlt)
      rw [List.getElem_map] at k0
      have hT := take_rv hlt
      rw [← hE.out] at hT
      have hel := HSE.out _ (List.getElem_mem hlt)
      have H := fun w => HR.out (Nm.mk (split 20 (Nm.bs y))[q]) w (by show ((split 20 (Nm.bs y))[q]).length ≤ _; have : (Nm.bs y).length = y.size := rfl; omega)
      have hbm : Nm.bs (Nm.mk (split 20 (Nm.bs y))[q]) = (split 20 (Nm.bs y))[q] := rfl
      rw [hbm] at H
      generalize (split 20 (Nm.bs y))[q] = sub at k0 hT hel H hbm
      generalize Nm.mk (rv 61 sub) = U at H hT
      generalize Nm.mk sub = SB at k0 H hbm
      have HH := Lib.hid H
      have HT2 := Lib.hid hT
      have HS := Lib.hid hS
      have HO := Lib.hid hO
      have HZ := Lib.hid Z
      have HF := Lib.hid F
      clear hE hT H hcc hbm hel hS hO Z F
      go_wp2_with fail
      go_region_law
        (first
          | (go_simp; go_wp2_with (go_at_call 51; refine (HH.out _).mono ?_; rintro e9 w9 ⟨rfl, hb9⟩); have FB9 := (Blk.drew HF.out).past hb9; have m3 : w9.cell? ⟨w1.heap.size, 3, none⟩ = some (.slice A3 n3 c3') := FB9.cell 3; have m9 := FB9.lt)
          | (refine step_pushWd rfl (.tmp 55) (.tmp 58) (some 59) rfl rfl w7.heap.size (.slice A3 n3 c3') ps (by simp [Act.eval]) (((show OwnS wr.drew w7.heap.size (.slice A3 n3 c3') ps from HO.out).past hb9).alloc _) w9.heap.size U (by simp [Act.eval]) (Blk.new w9 9 #[.string U]) (by omega) (by have h9 : wr.heap.size ≤ w9.heap.size := hb9.size; show w7.heap.size ≤ (w9.alloc _).heap.size; simp; omega) ?_; intro v9 w10 hO9 hb10; obtain ⟨A9, n9, c9, rfl⟩ := hO9.form3; have FB10 := blk_below (FB9.alloc (.cells #[.string U] 9)) hb10 hlt7; have m10 : w10.frozen? ⟨w1.heap.size, 3, none⟩ = false := FB10.frozen 3; have m11 : w10.cell? ⟨w1.heap.size, 3, none⟩ = some (.slice A3 n3 c3') := FB10.cell 3))
      all_goals
        have FB11 := FB10.set_ 3 (.slice A9 n9 c9)
        have hlw : w.heap.size < w7.heap.size := by omega
        have Z10 := blk_below (((Blk.drew HZ.out).past hb9).alloc (.cells #[.string U] 9)) hb10 hlw
        have Z11 := Z10.far hne (p := ⟨w1.heap.size, 3, none⟩) (.slice A9 n9 c9)
        have hbA : Below w7.heap.size wr w10 := (((Below.refl w7.heap.size wr).drew.trans (hb9.mono hsz)).alloc (by have h9 : wr.heap.size ≤ w9.heap.size := hb9.size; omega) (.cells #[.string U] 9)).trans hb10
        have hS11 : StrsAt (w10.setCell ⟨w1.heap.size, 3, none⟩ (.slice A9 n9 c9)) (fun b => b ≠ w1.heap.size ∧ b < w7.heap.size) (some ⟨bb, oo, none⟩) ((split 20 (Nm.bs y)).map Nm.mk) :=
          HS.out.imp (fun b h => h) (fun p hp => (World.cell?_setCell_other _ _ _ _ (fun e => hp.1 (by rw [← e]))).trans (hbA.cell hp.2))
        have hO11 : OwnS (w10.setCell ⟨w1.heap.size, 3, none⟩ (.slice A9 n9 c9)) w7.heap.size (.slice A9 n9 c9) (ps ++ [U]) := own_set hO9 (p := ⟨w1.heap.size, 3, none⟩) hlt7 _
        have hb11 := (hb.trans (hbA.mono hz7)).setCell (p := ⟨w1.heap.size, 3, none⟩) (show w.heap.size ≤ w1.heap.size by simp at hz1; omega) (.slice A9 n9 c9)
        have hz11 : w7.heap.size ≤ (w10.setCell ⟨w1.heap.size, 3, none⟩ (.slice A9 n9 c9)).heap.size := by have := hbA.size; simp [World.setCell]; omega
        have HE11 : Hid (ps ++ [U] = ((split 20 (Nm.bs y)).take (q + 1)).map (fun l => Nm.mk (rv 61 l))) := HT2.out.symm
        clear m3 m9 m10 m11 hO9 hb10 hb9 FB9 FB10 Z10 hbA
        go_wp2_with fail
        go_roundw
        case rel => exact ⟨q + 1, _, _, by omega, by go_num, FB11, Z11, hO11, HE11.out, by simp [hps], hS11, hb11, hz11⟩
        case measure => simp [intOf]; omega
    · have hE2 := hE.out
      rw [List.take_of_length_le (by omega)] at hE2
      obtain ⟨A4, c4', hv4, hc4, hS4⟩ := strs_own hO
      have hn3 : (Value.slice A3 n3 c3') = .slice A4 ps.length c4' := hv4
      obtain ⟨e0, e1, e2, e3, e4⟩ := five Z
      obtain ⟨g0, g1, g2, g3, g4⟩ := five_set Z
      have HE2 := Lib.hid hE2
      have HS4 := Lib.hid hS4
      have HN := Lib.hid hn3
      have HC4 := Lib.hid hc4
      have HZ := Lib.hid Z
      have HPL := Lib.hid hps
      clear hE hE2 hS4 hn3 hc4 hv4 hO hS F Z hps
      go_wp2_with fail
      refine bodyPost_ret (res_fil rfl _ _ w.heap.size _ _ _ _ _ rfl (fset5 HZ.out)) rfl ⟨_, _, _, _, _, rfl, ?_, below_set5 hb (Nat.le_refl _) _ _ _ _ _⟩
      have hit : itemOf 8 (Nm.bs x) (Nm.bs y) = .mk 8 a ⟨#[]⟩ ps [] := by
        unfold itemOf
        rw [← HA.out, if_pos (Or.inr rfl), if_pos rfl, HE2.out]
      rw [hit, HN.out]
      refine Lies.shut (ks := []) (A := none) (c := 0) (ds := fun _ => []) (by unfold maxLen; omega) (by decide) (by have := HPL.out; unfold maxLen; omega) HC4.out ?_ ?_ (by simp) (by simp) (KidsAt.nil _ _ _ _)
      · refine HS4.out.imp (fun b h => ⟨Nat.le_trans hz7 h.1, by have := h.2; simp [World.setCell]; omega⟩) (fun p hp => ?_)
        have hpb : p.block ≠ w.heap.size := by have := hp.1; omega
        rw [World.cell?_setCell_other _ _ _ _ (fun e => hpb (by rw [← e])), World.cell?_setCell_other _ _ _ _ (fun e => hpb (by rw [← e])), World.cell?_setCell_other _ _ _ _ (fun e => hpb (by rw [← e])), World.cell?_setCell_other _ _ _ _ (fun e => hpb (by rw [← e])), World.cell?_setCell_other _ _ _ _ (fun e => hpb (by rw [← e]))]
      · intro s0 hs0
        rw [HE2.out] at hs0
        obtain ⟨l0, _, rfl⟩ := List.mem_map.1 hs0
        have := rv_len 61 l0
        show (rv 61 l0).length ≤ maxLen
        unfold maxLen; omega
theorem readI_any (s : ByteArray) (w : World) (hs : s.size ≤ 1000000000) :
    Calls Tryd.prog 41 #[.string s] w fun e w' => ∃ x0 x1 x2 x3 x4, e = .returned (.agg #[x0, x1, x2, x3, x4]) ∧ Lies w' (fun b => w.heap.size ≤ b ∧ b < w'.heap.size) (item (Nm.bs s)) [x0, x1, x2, x3, x4] ∧ Below w.heap.size w w' := by
  obtain ⟨x, hx⟩ : ∃ x, x = Nm.mk (upto 61 (Nm.bs s)) := ⟨_, rfl⟩
  obtain ⟨y, hy⟩ : ∃ y, y = Nm.mk (past 61 (Nm.bs s)) := ⟨_, rfl⟩
  have hxb : upto 61 (Nm.bs s) = Nm.bs x := by rw [hx]
  have hyb : past 61 (Nm.bs s) = Nm.bs y := by rw [hy]
  have hxl : x.size ≤ s.size := by rw [hx]; exact upto_len 61 (Nm.bs s)
  have hyl : y.size ≤ s.size := by rw [hy]; exact past_len 61 (Nm.bs s)
  have CC := fun w => cut_any s 61 w hs
  unfold cutV at CC
  rw [← hx, ← hy] at CC
  have HC := Lib.hid CC
  have hit : item (Nm.bs s) = itemOf (kindOf (Nm.bs x) (Nm.bs y)) (Nm.bs x) (Nm.bs y) := by unfold item; rw [hxb, hyb]
  rw [hit]
  unfold kindOf
  by_cases h1 : last (Nm.bs x) = 62
  · rw [if_pos h1]
    exact readI_5 s x y _ w (by omega) (by omega) HC h1
  rw [if_neg h1]
  by_cases h2 : last (Nm.bs x) = 60
  · rw [if_pos h2]
    exact readI_6 s x y _ w (by omega) (by omega) HC h1 h2
  rw [if_neg h2]
  by_cases h3 : Nm.bs y = [42]
  · rw [if_pos h3]
    have hy3 : y = ⟨#[42]⟩ := by rw [← mk_bs y, h3]
    exact readI_7 s x y _ w (by omega) (by omega) HC h1 h2 hy3
  rw [if_neg h3]
  by_cases h4 : 42 ∈ Nm.bs y
  · rw [if_pos h4]
    exact readI_8 s x y _ w (by omega) (by omega) HC h1 h2 h3 h4
  · rw [if_neg h4]
    exact readI_4 s x y _ w (by omega) (by omega) HC h1 h2 h4
end Go.Proofs.YticfemheneljmaaDoor.Fi
