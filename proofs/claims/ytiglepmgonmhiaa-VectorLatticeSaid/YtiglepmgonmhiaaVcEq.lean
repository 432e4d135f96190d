/- Whether two are alike. -/
import Derived.Test.YtiglepmgonmhiaaVcOwn
namespace Go.Proofs.Ytiglepmgonmhiaa.Cs
open Go.RowKit
set_option linter.unusedVariables false
set_option maxRecDepth 100000

/-- At a place they part. -/
theorem ne_at {a b : List Nm} {i : Nat} (ha : i < a.length) (hb : i < b.length) (h : a[i] ≠ b[i]) : a ≠ b := by
  intro e
  subst e
  exact h rfl
theorem eq_at {a b : List Nm} (hl : a.length = b.length) (h : ∀ j (ha : j < a.length) (hb : j < b.length), a[j] = b[j]) : a = b := List.ext_getElem hl h
theorem parts_ne {x y : Nm} (h : x ≠ y) : (x.t == y.t) = false ∨ (x.t == y.t) = true ∧ (x.s == y.s) = false ∨ (x.t == y.t) = true ∧ (x.s == y.s) = true ∧ (x.r == y.r) = false := by
  by_cases h1 : x.t = y.t
  · by_cases h2 : x.s = y.s
    · refine .inr (.inr ⟨beq_iff_eq.2 h1, beq_iff_eq.2 h2, beq_eq_false_iff_ne.2 (fun h3 => h (Nm.ext h1 h2 h3))⟩)
    · exact .inr (.inl ⟨beq_iff_eq.2 h1, beq_eq_false_iff_ne.2 h2⟩)
  · exact .inl (beq_eq_false_iff_ne.2 h1)
set_option maxHeartbeats 1000000 in
theorem Equal_any (A B : Option Addr) (c d : Nat) (a b : List Nm) (w : World) (hA : VecIn w A a) (hB : VecIn w B b) (hl : a.length ≤ 1000) : Calls Try.prog 7 #[.slice A a.length c, .slice B b.length d] w fun e w' => e = .returned (.bool (decide (a = b))) ∧ Below w.heap.size w w' := by
  obtain ⟨R, hR⟩ : ∃ R, Hid (R = decide (a = b)) := ⟨_, rfl⟩
  rw [← hR.out]
  have HA := Lib.hid hA
  have HB := Lib.hid hB
  clear hA hB
  by_cases hab : a.length = b.length
  · have hab2 : (a.length != b.length) = false := by simp [hab]
    have HAB := Lib.hid hab
    have hab3 : ((a.length : Int) != (b.length : Int)) = false := by simp [hab]
    clear hab
    go_enter Try.func7, Try.ntmps7
    go_wp2_with fail
    go_loopw [5] (fun i wr => ∃ (q : Nat), q ≤ a.length ∧ i = .int .i64 (q : Int) ∧ Hid (∀ j (ha : j < a.length) (hb : j < b.length), j < q → a[j] = b[j]) ∧ Hid (Below w.heap.size w wr)) (fun i wr => a.length - (intOf i).toNat)
    case atStart => exact ⟨0, by omega, rfl, by show ∀ j (ha : j < a.length) (hb : j < b.length), j < 0 → _; intro j ha hb h0; omega, Below.refl _ _⟩
    case round =>
      obtain ⟨q, hq, rfl, hd, hb⟩ := hrel
      have hab := HAB.out
      by_cases hlt : q < a.length
      · have hlt2 : (q : Int) < a.length := by omega
        have hltb : q < b.length := by omega
        have hlt3 : (q : Int) < b.length := by omega
        obtain ⟨ad, rfl, hp, f0, f1, f2⟩ := (HA.out.past hb.out).cells hlt
        obtain ⟨bd, rfl, hp2, g0, g1, g2⟩ := (HB.out.past hb.out).cells hltb
        obtain ⟨x, hx⟩ : ∃ x, Hid (x = a[q]) := ⟨a[q], rfl⟩
        obtain ⟨y, hy⟩ : ∃ y, Hid (y = b[q]) := ⟨b[q], rfl⟩
        rw [← hx.out] at f0 f1 f2
        rw [← hy.out] at g0 g1 g2
        clear hab
        by_cases he : x = y
        · subst he
          have hd2 : ∀ j (ha : j < a.length) (hb : j < b.length), j < q + 1 → a[j] = b[j] := by
            intro j ha hb2 hj
            by_cases hjq : j < q
            · exact hd.out j ha hb2 hjq
            · obtain rfl : j = q := by omega
              exact hx.out.symm.trans hy.out
          have HD := Lib.hid hd2
          clear hd2
          go_wp2_with fail
          go_region
          go_wp2_with fail
          refine ⟨⟨q + 1, by omega, by go_num, HD, hb.out.drew⟩, ?_⟩
          simp [intOf]; omega
        · have HN := Lib.hid (ne_at hlt hltb (by rw [← hx.out, ← hy.out]; exact he))
          have hpn := parts_ne he
          clear he
          rcases hpn with p0 | ⟨p0, p1⟩ | ⟨p0, p1, p2⟩
          all_goals
            go_wp2_with fail
            go_region
            go_wp2_with fail
            go_ret
            exact ⟨ret_bool (by rw [hR.out, decide_eq_false HN.out]), hb.out.drew⟩
      · obtain rfl : q = a.length := by omega
        go_wp2_with fail
        go_ret
        exact ⟨ret_bool (by rw [hR.out, decide_eq_true (eq_at hab (fun j h1 h2 => hd.out j h1 h2 h1))]), hb.out⟩
  · have hab3 : ((a.length : Int) != (b.length : Int)) = true := by simp; omega
    go_enter Try.func7, Try.ntmps7
    go_wp2_with fail
    go_ret
    exact ⟨ret_bool (by rw [hR.out, decide_eq_false (fun e => hab (by rw [e]))]), Below.refl _ _⟩
set_option maxHeartbeats 1000000 in
theorem Same_any (A B : Option Addr) (c d : Nat) (la lb : List Nm) (w : World) (hA : VecIn w A la) (hB : VecIn w B lb) : Calls Try.prog 24 #[.slice A la.length c, .slice B lb.length d] w fun e w' => e = .returned (.bool (decide (cnt la = cnt lb))) ∧ Below w.heap.size w w' := by
  have CO := Lib.hid counted_any
  have ha6 := cnt_len la
  obtain ⟨R, hR⟩ : ∃ R, Hid (R = decide (cnt la = cnt lb)) := ⟨_, rfl⟩
  rw [← hR.out]
  have HA := Lib.hid hA
  have HB := Lib.hid hB
  clear hA hB
  go_enter Try.func24, Try.ntmps24
  go_wp2_with fail
  refine (CO.out A c la _ HA.out).mono ?_
  rintro e w1 ⟨A1, c1, rfl, hA1, hb1⟩
  have HB1 := Lib.hid (HB.out.past hb1)
  go_wp2_with fail
  refine (CO.out B d lb _ HB1.out).mono ?_
  rintro e w2 ⟨B2, d2, rfl, hB2, hb2⟩
  have HA2 := Lib.hid (hA1.past hb2)
  have HB2 := Lib.hid hB2
  have Hb := Lib.hid (hb1.trans (hb2.mono hb1.size))
  clear hA1 HB1 hB2 hb1 hb2 HA HB CO
  generalize cnt la = a at hR ha6 HA2
  generalize cnt lb = b at hR HB2
  by_cases hab : a.length = b.length
  · have HAB := Lib.hid hab
    have hab3 : ((a.length : Int) != (b.length : Int)) = false := by simp [hab]
    clear hab
    go_wp2_with fail
    go_loopw [18] (fun i wr => ∃ (q : Nat), q ≤ a.length ∧ i = .int .i64 (q : Int) ∧ Hid (∀ j (ha : j < a.length) (hb : j < b.length), j < q → a[j] = b[j]) ∧ Hid (Below w.heap.size w wr) ∧ Hid (Below w2.heap.size w2 wr)) (fun i wr => a.length - (intOf i).toNat)
    case atStart => exact ⟨0, by omega, rfl, by show ∀ j (ha : j < a.length) (hb : j < b.length), j < 0 → _; intro j ha hb h0; omega, Hb.out, Below.refl _ _⟩
    case round =>
      obtain ⟨q, hq, rfl, hd, hb, hbx⟩ := hrel
      have hab := HAB.out
      by_cases hlt : q < a.length
      · have hlt2 : (q : Int) < a.length := by omega
        have hltb : q < b.length := by omega
        have hlt3 : (q : Int) < b.length := by omega
        obtain ⟨ad, rfl, hp, f0, f1, f2⟩ := (HA2.out.past hbx.out).cells hlt
        obtain ⟨bd, rfl, hp2, g0, g1, g2⟩ := (HB2.out.past hbx.out).cells hltb
        obtain ⟨x, hx⟩ : ∃ x, Hid (x = a[q]) := ⟨a[q], rfl⟩
        obtain ⟨y, hy⟩ : ∃ y, Hid (y = b[q]) := ⟨b[q], rfl⟩
        rw [← hx.out] at f0 f1 f2
        rw [← hy.out] at g0 g1 g2
        have HBN := Lib.hid ((hb.out.alloc hb.out.size (.cells (gc x.t x.s x.r) 25)).drew)
        have HBX := Lib.hid ((hbx.out.alloc hbx.out.size (.cells (gc x.t x.s x.r) 25)).drew)
        have g0' := (World.cell?_alloc_lt wr (.cells (gc x.t x.s x.r) 25) _ (by show (bd.add (q * 3)).block < _; rw [block_of_add]; exact hp2)).trans g0
        have g1' := (World.cell?_alloc_lt wr (.cells (gc x.t x.s x.r) 25) ⟨(bd.add (q * 3)).block, (bd.add (q * 3)).off + 1, none⟩ (by show (bd.add (q * 3)).block < _; rw [block_of_add]; exact hp2)).trans g1
        have g2' := (World.cell?_alloc_lt wr (.cells (gc x.t x.s x.r) 25) ⟨(bd.add (q * 3)).block, (bd.add (q * 3)).off + 2, none⟩ (by show (bd.add (q * 3)).block < _; rw [block_of_add]; exact hp2)).trans g2
        clear hab hb hbx g0 g1 g2
        by_cases he : x = y
        · subst he
          have hd2 : ∀ j (ha : j < a.length) (hb : j < b.length), j < q + 1 → a[j] = b[j] := by
            intro j ha hb2 hj
            by_cases hjq : j < q
            · exact hd.out j ha hb2 hjq
            · obtain rfl : j = q := by omega
              exact hx.out.symm.trans hy.out
          have HD := Lib.hid hd2
          clear hd2
          go_wp2_with fail
          go_region
          go_wp2_with fail
          refine ⟨⟨q + 1, by omega, by go_num, HD, HBN, HBX⟩, ?_⟩
          simp [intOf]; omega
        · have HN := Lib.hid (ne_at hlt hltb (by rw [← hx.out, ← hy.out]; exact he))
          have hpn := parts_ne he
          clear he
          rcases hpn with p0 | ⟨p0, p1⟩ | ⟨p0, p1, p2⟩
          all_goals
            go_wp2_with fail
            go_region
            go_wp2_with fail
            go_ret
            exact ⟨ret_bool (by rw [hR.out, decide_eq_false HN.out]), HBN.out⟩
      · obtain rfl : q = a.length := by omega
        go_wp2_with fail
        go_ret
        exact ⟨ret_bool (by rw [hR.out, decide_eq_true (eq_at hab (fun j h1 h2 => hd.out j h1 h2 h1))]), hb.out⟩
  · have hab3 : ((a.length : Int) != (b.length : Int)) = true := by simp; omega
    go_wp2_with fail
    go_ret
    exact ⟨ret_bool (by rw [hR.out, decide_eq_false (fun e => hab (by rw [e]))]), Hb.out⟩
end Go.Proofs.Ytiglepmgonmhiaa.Cs
