import Derived.Test.YtconghaebebncaaGreatDoorMsRdA
import Derived.Test.YtconghaebebncaaGreatDoorG1
import Derived.Test.YtconghaebebncaaGreatDoorFlGatB
/- A modification, read of an element; Mods gathered one by one. -/
namespace Go.Proofs.YtconghaebebncaaGreatDoor.Ms
open Go.RowKit
set_option linter.unusedVariables false
set_option maxRecDepth 100000

theorem numAt_range (e : Be.El) (i : Nat) : -9223372036854775808 ≤ numAt e i ∧ numAt e i ≤ 9223372036854775807 := by
  unfold numAt
  generalize Nm.bs (textAt e i) = l
  unfold Be.rdI
  split
  · rename_i h
    have h1 := Be.sval_range l (by intro h0; rw [h0] at h; exact h.1 rfl)
    rcases (show l.length = 1 ∨ l.length = 2 ∨ l.length = 3 ∨ l.length = 4 ∨ l.length = 5 ∨ l.length = 6 ∨ l.length = 7 ∨ l.length = 8 by omega) with h2 | h2 | h2 | h2 | h2 | h2 | h2 | h2
    all_goals
      rw [h2] at h1
      simp only [Option.getD_some]
      simp only [Nat.reduceMul, Nat.reduceSub, Int.reducePow, Int.reduceNeg] at h1
      omega
  · simp only [Option.getD_none]; omega
/-- One more, as the machine counts. -/
def inc (n : Int) : Int := if n = 9223372036854775807 then -9223372036854775808 else n + 1
theorem wrap_inc {n : Int} (h0 : -9223372036854775808 ≤ n) (h1 : n ≤ 9223372036854775807) : IntKind.i64.wrap (n + 1) = inc n := by
  unfold inc
  split
  · rename_i h; subst h; rfl
  · exact IntWalk.i64_in _ (by omega)
def rdModW (e : Be.El) : Mo := { rdAttr (kidE e 1) with kind := inc (numAt e 0) }
set_option maxHeartbeats 4000000 in
theorem readMod_any (e : Be.El) (t : Nat) (b : ByteArray) (A : Option Addr) (n c : Nat) (w : World) (hfew : Few e) (hL : Be.Lies w (· < w.heap.size) e [.int .u8 (t : Nat), .string b, .slice A n c]) :
    Calls Tryz.prog 99 #[.agg #[.int .u8 (t : Nat), .string b, .slice A n c]] w (NewMo w (rdModW e)) := by
  have hb0 := two_below w #[.int .u8 (t : Nat), .string b, .slice A n c] #[.int .i64 0, .string ⟨#[]⟩, .slice none 0 0] 57 48
  have HK := Lib.hid (kid_any e 1 t b A n c _ (hL.past hb0))
  have HA := Lib.hid (fun t b A n c w h => readAttr_any (kidE e 1) t b A n c w (hfew.kid 1) h)
  have HN := Lib.hid (fun w1 hb => numberAt_any e 0 t b A n c w1 (hL.past hb))
  have hr := numAt_range e 0
  have hw := wrap_inc hr.1 hr.2
  have hd : rdModW e = { rdAttr (kidE e 1) with kind := inc (numAt e 0) } := rfl
  have BR := new2 w #[.int .u8 (t : Nat), .string b, .slice A n c] #[.int .i64 0, .string ⟨#[]⟩, .slice none 0 0] 57 48
  have BE := (Blk.new w 57 #[.int .u8 (t : Nat), .string b, .slice A n c]).alloc (.cells #[.int .i64 0, .string ⟨#[]⟩, .slice none 0 0] 48)
  generalize rdModW e = d at hd ⊢
  generalize numAt e 0 = m at HN hr hw hd
  generalize rdAttr (kidE e 1) = a at HA hd
  have HD := Lib.hid hd
  have hb := Lib.hid hb0
  have HBR := Lib.hid BR
  have HBE := Lib.hid BE
  clear hL hb0 hd hr hfew BR BE
  go_enter Tryz.func99, Tryz.ntmps99
  go_wp2_with fail
  refine HK.out.mono ?_
  rintro r w1 ⟨t1, b1, A1, n1, c1, rfl, hb1, hL1⟩
  have hb2 := hb.out.trans (hb1.mono hb.out.size)
  have HL1 := Lib.hid (hL1.past hb1)
  clear hL1
  go_wp2_with fail
  refine (HA.out _ _ _ _ _ _ HL1.out).mono ?_
  rintro r w2 ⟨V, vc, rfl, hb3, hM⟩
  have hbX := hb1.trans (hb3.mono hb1.size)
  have hb4 := hb2.trans (hb3.mono hb2.size)
  have HM := Lib.hid hM
  have BE1 := (HBE.out.past hbX).alloc (.cells #[.int .i64 a.kind, .string a.attr, .slice V a.vals.length vc] 48)
  have c0 := BE1.cell 0
  have c1' := BE1.cell 1
  have c2 := BE1.cell 2
  have hbY := hbX.alloc hbX.size (.cells #[.int .i64 a.kind, .string a.attr, .slice V a.vals.length vc] 48)
  have hb5 := hb4.alloc hb4.size (.cells #[.int .i64 a.kind, .string a.attr, .slice V a.vals.length vc] 48)
  have HB := Lib.hid (Blk.new w2 48 #[.int .i64 a.kind, .string a.attr, .slice V a.vals.length vc])
  have hs2 := hb4.size
  have HG := Lib.hid (Nat.lt_of_lt_of_le HBR.out.lt hbX.size)
  clear hM BE1
  go_wp2_with fail
  refine (HN.out _ hb5).mono ?_
  rintro r w3 ⟨rfl, hb6⟩
  have B3 := HB.out.past hb6
  have hbZ := hbY.trans (hb6.mono hbY.size)
  have hb7 := hb5.trans (hb6.mono hb5.size)
  have R3 := HBR.out.past hbZ
  have g0 := B3.cell 0
  have g1 := B3.cell 1
  have g2 := B3.cell 2
  have z0 := B3.frozen 0
  have r0 := R3.cell 0
  have r1 := R3.cell 1
  have r2 := R3.cell 2
  have y0 := R3.frozen 0
  have y1 := R3.frozen 1
  have y2 := R3.frozen 2
  have hne : w2.heap.size ≠ w.heap.size + 1 := by have := HG.out; omega
  have hne' : w.heap.size + 1 ≠ w2.heap.size := fun h => hne h.symm
  have HB3 := Lib.hid B3
  have HR3 := Lib.hid R3
  clear c0 c1' c2 B3 R3
  go_wp2_with fail
  have hbA := (Below.refl w2.heap.size w2).alloc (Nat.le_refl _) (.cells #[.int .i64 a.kind, .string a.attr, .slice V a.vals.length vc] 48)
  have hb8 := hbA.trans (hb6.mono hbA.size)
  have hs1 := hb2.size
  have hs3 := hb8.size
  have hBr := (HR3.out.far (p := ⟨w2.heap.size, 0, none⟩) hne' (.int .i64 (inc m)))
  have hbF := (((hb7.setCell (p := ⟨w2.heap.size, 0, none⟩) hs2 (.int .i64 (inc m))).setCell (p := ⟨w.heap.size + 1, 0, none⟩) (Nat.le_succ _) (.int .i64 (inc m))).setCell (p := ⟨w.heap.size + 1, 1, none⟩) (Nat.le_succ _) (.string a.attr)).setCell (p := ⟨w.heap.size + 1, 2, none⟩) (Nat.le_succ _) (.slice V a.vals.length vc)
  have hlt1 : w.heap.size + 1 < w1.heap.size := by
    have := hb1.size
    simp at this
    omega
  have hM2 : MoAt ((((w3.setCell ⟨w2.heap.size, 0, none⟩ (.int .i64 (inc m))).setCell ⟨w.heap.size + 1, 0, none⟩ (.int .i64 (inc m))).setCell ⟨w.heap.size + 1, 1, none⟩ (.string a.attr)).setCell ⟨w.heap.size + 1, 2, none⟩ (.slice V a.vals.length vc))
      (fun b => w.heap.size ≤ b ∧ b < ((((w3.setCell ⟨w2.heap.size, 0, none⟩ (.int .i64 (inc m))).setCell ⟨w.heap.size + 1, 0, none⟩ (.int .i64 (inc m))).setCell ⟨w.heap.size + 1, 1, none⟩ (.string a.attr)).setCell ⟨w.heap.size + 1, 2, none⟩ (.slice V a.vals.length vc)).heap.size) a
      [.int .i64 a.kind, .string a.attr, .slice V a.vals.length vc] := by
    refine HM.out.imp (fun b hb => ⟨by have := hb.1; omega, ?_⟩) (fun p hp => ?_)
    · have := hb.2
      simp [World.setCell]
      omega
    · have p1 : p.block ≠ w.heap.size + 1 := by have := hp.1; omega
      have p2 : p.block ≠ w2.heap.size := by have := hp.2; omega
      rw [World.cell?_setCell_other _ _ _ _ (fun e => p1 (by rw [← e])), World.cell?_setCell_other _ _ _ _ (fun e => p1 (by rw [← e])), World.cell?_setCell_other _ _ _ _ (fun e => p1 (by rw [← e])), World.cell?_setCell_other _ _ _ _ (fun e => p2 (by rw [← e]))]
      exact hb8.cell hp.2
  obtain ⟨V1, vc1, e, q2, q3, q4, q5, q6⟩ := hM2
  simp only [List.cons.injEq, Value.slice.injEq, true_and, and_true] at e
  obtain ⟨rfl, rfl⟩ := e
  have hd2 := HD.out
  subst hd2
  exact bodyPost_ret (results_cell_row rfl _ _ (w.heap.size + 1) _ _ (0, 0) _ rfl (Be.Blk.set3 hBr) Tryz.underlying48 rfl infoO3) rfl ⟨V, vc, rfl, hbF, V, vc, rfl, q2, q3, q4, q5, q6⟩
end Go.Proofs.YtconghaebebncaaGreatDoor.Ms

/- What is read of an element as the machine counts, what Decode makes of it: plain functions. -/
namespace Go.Proofs.YtconghaebebncaaGreatDoor.Ms
set_option linter.unusedVariables false
set_option maxRecDepth 100000

/-- Like rdM, counting as the machine does. -/
def rdMW (e : Be.El) : Mg :=
  let o := kidE e 1
  let z : Mg := { zero with id := numAt e 0, op := (opOf (tagE o)).1, ref := (opOf (tagE o)).2 }
  if z.op = 4 then { z with dn := textAt o 0, mods := (kidsE (kidE o 1)).map rdModW } else rdM e
/-- Two ways to count: alike, or of a number that is none of a Kind's. -/
theorem inc_or (n : Int) : inc n = n + 1 ∨ (inc n = -9223372036854775808 ∧ n + 1 = 9223372036854775808) := by
  unfold inc
  split
  · rename_i h; subst h; exact .inr ⟨rfl, rfl⟩
  · exact .inl rfl
theorem rdModW_or (e : Be.El) : rdModW e = rdMod e ∨ (noMod (rdModW e) = true ∧ noMod (rdMod e) = true) := by
  unfold rdModW rdMod
  rcases inc_or (numAt e 0) with h | ⟨h1, h2⟩
  · rw [h]; exact .inl rfl
  · rw [h1, h2]
    refine .inr ⟨?_, ?_⟩ <;> (unfold noMod within; simp)
theorem rdMods_or : ∀ ks : List Be.El, ks.map rdModW = ks.map rdMod ∨ ((ks.map rdModW).any noMod = true ∧ (ks.map rdMod).any noMod = true)
  | [] => .inl rfl
  | k :: ks => by
    rw [List.map_cons, List.map_cons, List.any_cons, List.any_cons]
    rcases rdMods_or ks with h | ⟨h1, h2⟩
    · rcases rdModW_or k with h' | ⟨h1, h2⟩
      · rw [h, h']; exact .inl rfl
      · rw [h1, h2]; exact .inr ⟨rfl, rfl⟩
    · rw [h1, h2, Bool.or_true, Bool.or_true]; exact .inr ⟨rfl, rfl⟩
theorem isM_mods {m : Mg} (h4 : m.op = 4) (h : m.mods.any noMod = true) : isM m = false := by
  unfold isM
  have : formed m = false := by
    unfold formed
    rw [if_neg (by omega), if_neg (by omega), if_neg (by omega), if_pos h4, h]
    simp
  rw [this]; simp
theorem rdMW_or (e : Be.El) : rdMW e = rdM e ∨ (isM (rdMW e) = false ∧ isM (rdM e) = false) := by
  by_cases h4 : (opOf (tagE (kidE e 1))).1 = 4
  · have h1 : rdMW e = { zero with id := numAt e 0, op := 4, ref := (opOf (tagE (kidE e 1))).2, dn := textAt (kidE e 1) 0, mods := (kidsE (kidE (kidE e 1) 1)).map rdModW } := by
      unfold rdMW; simp only [h4]; rfl
    have h2 : rdM e = { zero with id := numAt e 0, op := 4, ref := (opOf (tagE (kidE e 1))).2, dn := textAt (kidE e 1) 0, mods := (kidsE (kidE (kidE e 1) 1)).map rdMod } := by
      unfold rdM; simp only [h4]; rfl
    rcases rdMods_or (kidsE (kidE (kidE e 1) 1)) with h | ⟨h, h'⟩
    · left; rw [h1, h2, h]
    · right; exact ⟨isM_mods (by rw [h1]) (by rw [h1]; exact h), isM_mods (by rw [h2]) (by rw [h2]; exact h')⟩
  · left
    unfold rdMW
    simp only [h4, if_false]
/-- Like decM, counting as the machine does. -/
def decMW (s : List UInt8) : Mg × Nat := match Be.rd 20 s 0 with
  | .bad _ x => (zero, x)
  | .ok e _ => if (encM (rdMW e)).1 = s then (rdMW e, 0) else (zero, 14)
theorem encM_none {m : Mg} (h : isM m = false) : (encM m).1 = [] := by unfold encM; rw [if_pos h]
theorem decMW_eq (s : List UInt8) : decMW s = decM s := by
  unfold decMW decM
  cases hr : Be.rd 20 s 0 with
  | bad p x => rfl
  | ok e n =>
    simp only
    rcases rdMW_or e with h | ⟨h1, h2⟩
    · rw [h]
    · have hn := Be.rd_ok hr
      have hs : ([] : List UInt8) ≠ s := by rintro rfl; simp at hn; omega
      rw [encM_none h1, encM_none h2, if_neg hs, if_neg hs]
/-! ### What is read isn't more than there is -/
theorem fits_kids {f : Nat} (ih : ∀ l a e n, Be.rd f l a = .ok e n → Be.fitS 4000 4000 (f + 1) e = true) : ∀ (N : Nat) (l : List UInt8) (a : Nat) (ks : List Be.El), Be.rdKids (Be.rd f) N l a = .ok ks → ks.length ≤ N ∧ ∀ k ∈ ks, Be.fitS 4000 4000 (f + 1) k = true
  | 0, l, a, ks, h => by
    simp only [Be.rdKids, Be.RK.ok.injEq] at h
    subst h
    exact ⟨by simp, by simp⟩
  | N + 1, l, a, ks, h => by
    rw [Be.rdKids] at h
    split at h
    · injection h with h; subst h; exact ⟨by simp, by simp⟩
    · split at h
      · cases h
      · rename_i e n he
        split at h
        · cases h
        · rename_i es hes
          injection h with h
          subst h
          obtain ⟨h1, h2⟩ := fits_kids ih N _ _ _ hes
          refine ⟨by simp; omega, fun k hk => ?_⟩
          rcases List.mem_cons.1 hk with rfl | hk
          · exact ih _ _ _ _ he
          · exact h2 k hk
theorem rd_fits : ∀ (f : Nat) (l : List UInt8) (a : Nat) (e : Be.El) (n : Nat), Be.rd f l a = .ok e n → Be.fitS 4000 4000 (f + 1) e = true
  | 0, l, a, e, n, h => by simp [Be.rd] at h
  | f + 1, l, a, e, n, h => by
    simp only [Be.rd] at h
    split at h
    · cases h
    · rename_i hq
      have hq0 : (Be.rdHead (decide (f + 1 < 20)) l).2.2 = 0 := by simpa using hq
      have hok := Be.rdHead_ok (inner := decide (f + 1 < 20)) (l := l) (h := (Be.rdHead (decide (f + 1 < 20)) l).1) (n := (Be.rdHead (decide (f + 1 < 20)) l).2.1) (by rw [← hq0])
      have hb := Be.hd_ok hok.1
      split at h
      · injection h with h1 h2
        subst h1
        simp only [Be.fitS, Bool.and_eq_true, decide_eq_true_eq, List.all_nil, and_true]
        refine ⟨by simp, ?_⟩
        show ((l.drop _).take _).length ≤ 4000
        rw [List.length_take]
        omega
      · split at h
        · cases h
        · rename_i ks hks
          injection h with h1 h2
          subst h1
          obtain ⟨h3, h4⟩ := fits_kids (fun l a e n => rd_fits f l a e n) _ _ _ _ hks
          simp only [Be.fitS, Bool.and_eq_true, decide_eq_true_eq, List.all_eq_true]
          exact ⟨by omega, by decide, h4⟩
theorem rd_few {s : List UInt8} {a : Nat} {e : Be.El} {n : Nat} (h : Be.rd 20 s a = .ok e n) : Few e := ⟨21, Be.fitS_more (by decide) (by decide) (Nat.le_refl _) (rd_fits 20 s a e n h)⟩
end Go.Proofs.YtconghaebebncaaGreatDoor.Ms

/- Mods read one by one, gathered in a row that the call owns. -/
namespace Go.Proofs.YtconghaebebncaaGreatDoor.Ms
open Go.RowKit
set_option linter.unusedVariables false
set_option maxRecDepth 100000

/-- The Mods read so far: the slice v owns their cells xs; what hangs on them lies in other blocks from base on. -/
def GathM (w : World) (base : Nat) (v : Value) (xs : List Value) (done : List Mo) : Prop :=
  w.ownsRow base 48 3 v done.length xs ∧ ∀ i (h : i < done.length), MoAt w (fun b => base ≤ b ∧ b < w.heap.size ∧ v.ownBlock ≠ some b) done[i] ((xs.drop (i * 3)).take 3)
theorem GathM.nil (w : World) (base : Nat) : GathM w base (.slice none 0 0) [] [] := ⟨World.ownsRow_nil _ _ _ _, fun i h => absurd h (by simp)⟩
theorem GathM.past {w w' : World} {base : Nat} {v : Value} {xs : List Value} {done : List Mo} (h : GathM w base v xs done) (hb : Below w.heap.size w w') : GathM w' base v xs done :=
  ⟨own_past h.1 hb, fun i hi => (h.2 i hi).imp (fun b hb' => ⟨hb'.1, Nat.lt_of_lt_of_le hb'.2.1 hb.size, hb'.2.2⟩) (fun p hp => hb.cell hp.2.1)⟩
theorem GathM.alloc {w : World} {base : Nat} {v : Value} {xs : List Value} {done : List Mo} (h : GathM w base v xs done) (o : Obj) : GathM (w.alloc o) base v xs done := h.past ((Below.refl _ _).alloc (Nat.le_refl _) o)
theorem GathM.step {w w' : World} {base : Nat} {v v' : Value} {xs ys : List Value} {done : List Mo} {e : Mo} (h : GathM w base v xs done) (hys : ys.length = 3)
    (hl : MoAt w (fun b => base ≤ b ∧ b < w.heap.size ∧ v.ownBlock ≠ some b) e ys) (hown : w'.ownsRow base 48 3 v' (done.length + 1) (xs ++ ys))
    (hg : w.grownBy w' v.ownBlock) (hat : v'.ownBlock = v.ownBlock ∨ v'.ownBlock = some w.heap.size) : GathM w' base v' (xs ++ ys) (done ++ [e]) := by
  have hxl : xs.length = done.length * 3 := h.1.1
  have keep : ∀ {e : Mo} {cs : List Value}, MoAt w (fun b => base ≤ b ∧ b < w.heap.size ∧ v.ownBlock ≠ some b) e cs → MoAt w' (fun b => base ≤ b ∧ b < w'.heap.size ∧ v'.ownBlock ≠ some b) e cs := by
    intro e cs hl
    refine hl.imp (fun b hb => ⟨hb.1, Nat.lt_of_lt_of_le hb.2.1 hg.size, ?_⟩) (fun p hp => World.cell?_of_block (hg.block p.block hp.2.1 (fun e => hp.2.2 e.symm)))
    rcases hat with h' | h'
    · rw [h']; exact hb.2.2
    · rw [h']; intro h''; injection h'' with h''; have := hb.2.1; omega
  refine ⟨by simpa using hown, fun i hi => ?_⟩
  rw [List.length_append, List.length_singleton] at hi
  by_cases hlt : i < done.length
  · have e1 : ((xs ++ ys).drop (i * 3)).take 3 = (xs.drop (i * 3)).take 3 := by
      rw [List.drop_append_of_le_length (by omega), List.take_append_of_le_length (by rw [List.length_drop]; omega)]
    rw [e1, List.getElem_append_left hlt]
    exact keep (h.2 i hlt)
  · have hi' : i = done.length := by omega
    subst hi'
    have e1 : ((xs ++ ys).drop (done.length * 3)).take 3 = ys := by
      rw [← hxl, List.drop_left, List.take_of_length_le (by omega)]
    rw [e1, List.getElem_append_right (Nat.le_refl _)]
    simpa using keep hl
theorem freshM {w w1 : World} {base : Nat} {v : Value} {xs : List Value} {done : List Mo} {P : Nat → Prop} {e : Mo} {cs : List Value} (hG : GathM w base v xs done) (hbase : base ≤ w.heap.size) (h : MoAt w1 P e cs) (hP : ∀ b, P b → w.heap.size ≤ b ∧ b < w1.heap.size) :
    MoAt w1 (fun b => base ≤ b ∧ b < w1.heap.size ∧ v.ownBlock ≠ some b) e cs :=
  h.imp (fun b hb => ⟨Nat.le_trans hbase (hP b hb).1, (hP b hb).2, fun e => by have := (hG.1.lt b e).2; have := (hP b hb).1; omega⟩) (fun _ _ => rfl)
/-- A row of Mods, made anew. -/
def NewMos (w : World) (l : List Mo) (r : Ending) (w' : World) : Prop :=
  ∃ (A : Option Addr) (c : Nat) (ds : Nat → List Value), r = .returned (.slice A l.length c) ∧ Below w.heap.size w w' ∧ l.length ≤ c ∧ MosAt w' (fun b => w.heap.size ≤ b ∧ b < w'.heap.size) A l ds
theorem GathM.shut {w : World} {base : Nat} {v : Value} {xs : List Value} {done : List Mo} (h : GathM w base v xs done) :
    ∃ (A : Option Addr) (c : Nat) (ds : Nat → List Value), v = .slice A done.length c ∧ done.length ≤ c ∧ MosAt w (fun b => base ≤ b ∧ b < w.heap.size) A done ds := by
  have hf : ∃ (A : Option Addr) (c : Nat), v = .slice A done.length c ∧ done.length ≤ c := by
    rcases h.1.2 with ⟨rfl, h0⟩ | ⟨g, cap, cur, rfl, _, _, hc, _⟩
    · exact ⟨none, 0, by rw [h0], by omega⟩
    · exact ⟨_, _, rfl, hc⟩
  obtain ⟨A, c, rfl, hc⟩ := hf
  refine ⟨A, c, fun i => (xs.drop (i * 3)).take 3, rfl, hc, fun h0 => ?_, fun i hi => ?_⟩
  · obtain ⟨g, cap, hv, hg, hlt⟩ := World.ownsRow.form h.1 h0
    have hA : A = some ⟨g, 0, none⟩ := by injection hv
    subst hA
    refine ⟨_, rfl, ⟨hg, hlt⟩, fun i hi j u hu => ?_⟩
    refine World.ownsRow.cells h.1 (g := g) rfl (i * 3 + j) u ?_
    by_cases hj : j < 3
    · rw [List.getElem?_take_of_lt hj, List.getElem?_drop] at hu
      exact hu
    · rw [List.getElem?_eq_none (by rw [List.length_take]; omega)] at hu
      cases hu
  · exact (h.2 i hi).imp (fun b hb => ⟨hb.1, hb.2.1⟩) (fun _ _ => rfl)
theorem infoMo : (Tryz.prog.info? 48).map (fun i => (i.zero, i.size, i.bytes)) = some (some (.agg #[.int .i64 0, .string ⟨#[]⟩, .slice none 0 0]), 3, 48) := by kernel_rfl
/-- append(v, d), d a Mod in a row of its own. -/
theorem wpList_pushM {w : World} {ops : Array Oper} {rest : List Oper} {o : Oper} {a : Act} {Q : Exit → Act → World → Prop} (hgd : o.guard = none) (sl x : Operand)
    (ho : o.op = .call { callee := .builtin .append, args := #[sl, x], argTypes := #[26, 26] })
    (base : Nat) (v : Value) (xs : List Value) (done : List Mo) (hs : a.eval sl = v) (hG : GathM w base v xs done) (g : Nat) (hx : a.eval x = .slice (some ⟨g, 0, none⟩) 1 1)
    {e : Mo} {p q r : Value} (hB : Blk w g 48 #[p, q, r]) (hL : MoAt w (fun b => base ≤ b ∧ b < w.heap.size ∧ v.ownBlock ≠ some b) e [p, q, r]) (hl : done.length < 1000000) (hbase : base ≤ w.heap.size)
    (h : ∀ v' w', GathM w' base v' (xs ++ [p, q, r]) (done ++ [e]) → Below base w w' → wpList Tryz.prog ops Q rest (a.put o.dst v') w') : wpList Tryz.prog ops Q (o :: rest) a w := by
  obtain ⟨i0, hi, hz0, hz1, hz2⟩ := infoP infoMo
  refine wpList_append_own_at w hgd sl x 26 ho base 48 i0 _ 3 48 Tryz.underlying26 hi hz0 hz1 hz2 rfl (by decide) v done.length xs hs hG.1 ⟨g, 0, none⟩ 1 1 [p, q, r] hx rfl (fun j u hj => ?_) (fun u hu => ?_) (by unfold maxLen; omega) (by omega) hbase (fun v' w' hown' hgr _ hat => ?_)
  · rw [Addr.add_lit, Nat.zero_add, hB.cell j]
    simpa using hj
  · obtain ⟨V, vc, hcs, _⟩ := hL
    simp only [List.cons.injEq, and_true] at hcs
    obtain ⟨rfl, rfl, rfl⟩ := hcs
    simp at hu
    rcases hu with rfl | rfl | rfl <;> rfl
  · exact h v' w' (hG.step rfl hL hown' hgr hat) ((Below.refl _ _).grown hgr hbase (fun k hk => (hG.1.lt k hk).1))
set_option maxHeartbeats 4000000 in
theorem eachOfA_any (e : Be.El) (t : Nat) (b : ByteArray) (A : Option Addr) (n c : Nat) (w : World) (hfew : Few e) (hL : Be.Lies w (· < w.heap.size) e [.int .u8 (t : Nat), .string b, .slice A n c]) :
    Calls Tryz.prog 98 #[.agg #[.int .u8 (t : Nat), .string b, .slice A n c], .func (.func 100) #[] #[]] w (NewMos w ((kidsE e).map rdAttr)) := by
  obtain ⟨rfl, -, -, -, ds, hK⟩ := kids_of hL
  have hlen := hfew.len
  have hfk : ∀ k ∈ kidsE e, Few k := by
    cases e
    exact hfew.open_.2.2
  have hb0 := (Below.refl w.heap.size w).alloc (Nat.le_refl _) (.cells #[.int .u8 (t : Nat), .string b, .slice A (kidsE e).length c] 57)
  have hbW := Lib.hid hb0
  have HK := Lib.hid hK
  obtain ⟨l, hl⟩ : ∃ l, l = (kidsE e).map rdAttr := ⟨_, rfl⟩
  have hmt := map_take rdAttr (kidsE e)
  rw [← hl] at hmt ⊢
  have HM := Lib.hid hmt
  generalize kidsE e = ks at hlen HK HM hK hbW hb0 hl hmt hL hfk ⊢
  have HFK := Lib.hid hfk
  clear hK hb0 hl hmt hL hfew hfk
  go_enter Tryz.func98, Tryz.ntmps98
  go_wp2_with fail
  go_loopw [5, 11] (fun v i wr => ∃ (q : Nat) (xs : List Value), q ≤ ks.length ∧ i = .int .i64 q ∧ Hid (GathM wr w.heap.size v xs (l.take q)) ∧ Below w.heap.size w wr) (fun v i wr => ks.length - (intOf i).toNat)
  case atStart => exact ⟨0, [], Nat.zero_le _, rfl, GathM.nil _ _, hbW.out⟩
  case round =>
    obtain ⟨q, xs, hq, rfl, hG, hb⟩ := hrel
    have hsz := hb.size
    by_cases hlt : q < ks.length
    · obtain ⟨ad, t1, b1, A1, n1, c1, rfl, hp, f0, f1, f2, hL⟩ := HK.out.kid5 hb hlt
      have hb1 := hb.alloc hsz (.cells #[.int .u8 (t1 : Nat), .string b1, .slice A1 n1 c1] 57)
      have HC := Lib.hid (readAttr_any ks[q] t1 b1 A1 n1 c1 _ (HFK.out _ (List.getElem_mem hlt)) (hL.past ((Below.refl _ _).alloc (Nat.le_refl _) (.cells #[.int .u8 (t1 : Nat), .string b1, .slice A1 n1 c1] 57))))
      have HG := Lib.hid (hG.out.alloc (.cells #[.int .u8 (t1 : Nat), .string b1, .slice A1 n1 c1] 57))
      have hmt := Lib.hid (HM.out.2 q hlt)
      have hll := HM.out.1
      generalize rdAttr ks[q] = d at HC hmt
      clear hL hG hb
      go_wp2_with fail
      refine HC.out.mono ?_
      rintro e w1 ⟨V, vc, rfl, hb2, hM1⟩
      have hb3 := hb1.trans (hb2.mono hb1.size)
      have hz := hb3.size
      have hzz := hb1.size
      have hbA := (Below.refl w1.heap.size w1).alloc (Nat.le_refl _) (.cells #[.int .i64 d.kind, .string d.attr, .slice V d.vals.length vc] 48)
      have HB := Lib.hid (Blk.new w1 48 #[.int .i64 d.kind, .string d.attr, .slice V d.vals.length vc])
      have HG1 := Lib.hid ((HG.out.past hb2).alloc (.cells #[.int .i64 d.kind, .string d.attr, .slice V d.vals.length vc] 48))
      have hM2 := freshM HG.out hzz hM1 (fun _ h => h)
      have HL := Lib.hid (hM2.imp (fun b hb' => (⟨hb'.1, Nat.lt_of_lt_of_le hb'.2.1 hbA.size, hb'.2.2⟩ : w.heap.size ≤ b ∧ b < (w1.alloc (.cells #[.int .i64 d.kind, .string d.attr, .slice V d.vals.length vc] 48)).heap.size ∧ _)) (fun p hp => hbA.cell hp.2.1))
      have hz2 : w.heap.size ≤ (w1.alloc (.cells #[.int .i64 d.kind, .string d.attr, .slice V d.vals.length vc] 48)).heap.size := by simp; omega
      have hdl : (l.take q).length < 1000000 := by rw [List.length_take]; omega
      clear hb1 hb2 hll hM1 hM2 hbA hzz
      go_wp2_with (at_builtin; go_loud (refine wpList_pushM rfl _ _ rfl w.heap.size _ _ _ rfl HG1.out w1.heap.size rfl HB.out HL.out hdl hz2 ?_))
      intro v' w2 hG2 hb4
      rw [← hmt.out] at hG2
      have HG2 := Lib.hid hG2
      have hb5 := (hb3.alloc hz (.cells #[.int .i64 d.kind, .string d.attr, .slice V d.vals.length vc] 48)).trans hb4
      clear hG2
      go_wp2_with fail
      refine ⟨⟨q + 1, _, by omega, by go_num, HG2, hb5⟩, by simp [intOf]; omega⟩
    · have hq2 : q = ks.length := by omega
      subst hq2
      have hG1 := hG.out
      rw [List.take_of_length_le (by rw [HM.out.1]; omega)] at hG1
      obtain ⟨A', c', dd, rfl, hc', hS⟩ := hG1.shut
      have HS := Lib.hid hS
      clear hG hG1 hS
      go_wp2_with fail
      go_ret
      exact ⟨_, _, _, rfl, hb, hc', HS.out⟩
set_option maxHeartbeats 4000000 in
theorem eachOfM_any (e : Be.El) (t : Nat) (b : ByteArray) (A : Option Addr) (n c : Nat) (w : World) (hfew : Few e) (hL : Be.Lies w (· < w.heap.size) e [.int .u8 (t : Nat), .string b, .slice A n c]) :
    Calls Tryz.prog 98 #[.agg #[.int .u8 (t : Nat), .string b, .slice A n c], .func (.func 99) #[] #[]] w (NewMos w ((kidsE e).map rdModW)) := by
  obtain ⟨rfl, -, -, -, ds, hK⟩ := kids_of hL
  have hlen := hfew.len
  have hfk : ∀ k ∈ kidsE e, Few k := by
    cases e
    exact hfew.open_.2.2
  have hb0 := (Below.refl w.heap.size w).alloc (Nat.le_refl _) (.cells #[.int .u8 (t : Nat), .string b, .slice A (kidsE e).length c] 57)
  have hbW := Lib.hid hb0
  have HK := Lib.hid hK
  obtain ⟨l, hl⟩ : ∃ l, l = (kidsE e).map rdModW := ⟨_, rfl⟩
  have hmt := map_take rdModW (kidsE e)
  rw [← hl] at hmt ⊢
  have HM := Lib.hid hmt
  generalize kidsE e = ks at hlen HK HM hK hbW hb0 hl hmt hL hfk ⊢
  have HFK := Lib.hid hfk
  clear hK hb0 hl hmt hL hfew hfk
  go_enter Tryz.func98, Tryz.ntmps98
  go_wp2_with fail
  go_loopw [5, 11] (fun v i wr => ∃ (q : Nat) (xs : List Value), q ≤ ks.length ∧ i = .int .i64 q ∧ Hid (GathM wr w.heap.size v xs (l.take q)) ∧ Below w.heap.size w wr) (fun v i wr => ks.length - (intOf i).toNat)
  case atStart => exact ⟨0, [], Nat.zero_le _, rfl, GathM.nil _ _, hbW.out⟩
  case round =>
    obtain ⟨q, xs, hq, rfl, hG, hb⟩ := hrel
    have hsz := hb.size
    by_cases hlt : q < ks.length
    · obtain ⟨ad, t1, b1, A1, n1, c1, rfl, hp, f0, f1, f2, hL⟩ := HK.out.kid5 hb hlt
      have hb1 := hb.alloc hsz (.cells #[.int .u8 (t1 : Nat), .string b1, .slice A1 n1 c1] 57)
      have HC := Lib.hid (readMod_any ks[q] t1 b1 A1 n1 c1 _ (HFK.out _ (List.getElem_mem hlt)) (hL.past ((Below.refl _ _).alloc (Nat.le_refl _) (.cells #[.int .u8 (t1 : Nat), .string b1, .slice A1 n1 c1] 57))))
      have HG := Lib.hid (hG.out.alloc (.cells #[.int .u8 (t1 : Nat), .string b1, .slice A1 n1 c1] 57))
      have hmt := Lib.hid (HM.out.2 q hlt)
      have hll := HM.out.1
      generalize rdModW ks[q] = d at HC hmt
      clear hL hG hb
      go_wp2_with fail
      refine HC.out.mono ?_
      rintro e w1 ⟨V, vc, rfl, hb2, hM1⟩
      have hb3 := hb1.trans (hb2.mono hb1.size)
      have hz := hb3.size
      have hzz := hb1.size
      have hbA := (Below.refl w1.heap.size w1).alloc (Nat.le_refl _) (.cells #[.int .i64 d.kind, .string d.attr, .slice V d.vals.length vc] 48)
      have HB := Lib.hid (Blk.new w1 48 #[.int .i64 d.kind, .string d.attr, .slice V d.vals.length vc])
      have HG1 := Lib.hid ((HG.out.past hb2).alloc (.cells #[.int .i64 d.kind, .string d.attr, .slice V d.vals.length vc] 48))
      have hM2 := freshM HG.out hzz hM1 (fun _ h => h)
      have HL := Lib.hid (hM2.imp (fun b hb' => (⟨hb'.1, Nat.lt_of_lt_of_le hb'.2.1 hbA.size, hb'.2.2⟩ : w.heap.size ≤ b ∧ b < (w1.alloc (.cells #[.int .i64 d.kind, .string d.attr, .slice V d.vals.length vc] 48)).heap.size ∧ _)) (fun p hp => hbA.cell hp.2.1))
      have hz2 : w.heap.size ≤ (w1.alloc (.cells #[.int .i64 d.kind, .string d.attr, .slice V d.vals.length vc] 48)).heap.size := by simp; omega
      have hdl : (l.take q).length < 1000000 := by rw [List.length_take]; omega
      clear hb1 hb2 hll hM1 hM2 hbA hzz
      go_wp2_with (at_builtin; go_loud (refine wpList_pushM rfl _ _ rfl w.heap.size _ _ _ rfl HG1.out w1.heap.size rfl HB.out HL.out hdl hz2 ?_))
      intro v' w2 hG2 hb4
      rw [← hmt.out] at hG2
      have HG2 := Lib.hid hG2
      have hb5 := (hb3.alloc hz (.cells #[.int .i64 d.kind, .string d.attr, .slice V d.vals.length vc] 48)).trans hb4
      clear hG2
      go_wp2_with fail
      refine ⟨⟨q + 1, _, by omega, by go_num, HG2, hb5⟩, by simp [intOf]; omega⟩
    · have hq2 : q = ks.length := by omega
      subst hq2
      have hG1 := hG.out
      rw [List.take_of_length_le (by rw [HM.out.1]; omega)] at hG1
      obtain ⟨A', c', dd, rfl, hc', hS⟩ := hG1.shut
      have HS := Lib.hid hS
      clear hG hG1 hS
      go_wp2_with fail
      go_ret
      exact ⟨_, _, _, rfl, hb, hc', HS.out⟩
end Go.Proofs.YtconghaebebncaaGreatDoor.Ms
