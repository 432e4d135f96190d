/- Whether it is a vector: the program's way, the reference's; as it counts; a copy. -/
import Derived.Test.YtiglepmgonmhiaaVcOps
import Derived.Test.YtiglepmgonmhiaaVcPick
namespace Go.Proofs.Ytiglepmgonmhiaa.Cs
open Go.RowKit
set_option linter.unusedVariables false
set_option maxRecDepth 100000

set_option maxHeartbeats 1000000 in
theorem Is_any (A : Option Addr) (c : Nat) (l : List Nm) (w : World) (hV : VecIn w A l) : Calls Try.prog 10 #[.slice A l.length c] w fun e w' => e = .returned (.bool (isV l)) ∧ Below w.heap.size w w' := by
  have C := Lib.hid (fun (a : Nm) => is_any a.t a.s a.r)
  have HV := Lib.hid hV
  obtain ⟨R, hR⟩ : ∃ R, Hid (R = isV l) := ⟨_, rfl⟩
  rw [← hR.out]
  clear hV
  by_cases h6 : 6 < (l.length : Int)
  · go_enter Try.func10, Try.ntmps10
    go_wp2_with fail
    go_ret
    exact ⟨ret_bool (by rw [hR.out, isV_long (by omega)]), Below.refl _ _⟩
  have h6' : (l.length : Int) ≤ 6 := by omega
  clear h6
  go_enter Try.func10, Try.ntmps10
  go_wp2_with fail
  go_loopw [10] (fun i wr => ∃ (q : Nat), q ≤ l.length ∧ i = .int .i64 (q : Int) ∧ Hid (∀ j (h : j < l.length), j < q → l[j].r = j ∧ l[j].is = true) ∧ Hid (Below w.heap.size w wr)) (fun i wr => l.length - (intOf i).toNat)
  case atStart => exact ⟨0, by omega, rfl, by show ∀ j (h : j < l.length), j < 0 → _; intro j h h0; omega, Below.refl _ _⟩
  case round =>
    obtain ⟨q, hq, rfl, hd, hb⟩ := hrel
    by_cases hlt : q < l.length
    · have hlt2 : (q : Int) < l.length := by omega
      obtain ⟨ad, rfl, hp, f0, f1, f2⟩ := (HV.out.past hb.out).cells hlt
      obtain ⟨x, hx⟩ : ∃ x, Hid (x = l[q]) := ⟨l[q], rfl⟩
      rw [← hx.out] at f0 f1 f2
      have hs := hb.out.size
      have BX := Blk.new wr 25 (gc x.t x.s x.r)
      have Hb := Lib.hid (hb.out.alloc hs (.cells (gc x.t x.s x.r) 25))
      clear hb
      by_cases hr : x.r = (q : Int)
      · have Cx := C.out x
        rw [show isC x.t x.s x.r = x.is from rfl] at Cx
        obtain ⟨I, hI⟩ : ∃ I, Hid (I = x.is) := ⟨_, rfl⟩
        rw [← hI.out] at Cx
        have HR := Lib.hid hr
        rw [hr] at f2 BX Hb Cx
        have Cx := Lib.hid Cx
        clear hr
        go_wp2_with fail
        refine (Cx.out _).mono ?_
        rintro e w1 ⟨rfl, hb1⟩
        have hb2 := Hb.out.trans (hb1.mono (Hb.out.size))
        clear hb1 Cx BX
        cases I
        · go_wp2_with fail
          go_ret
          refine ⟨ret_bool ?_, hb2⟩
          rw [hR.out, isV_bad hlt (.inr (by rw [← hx.out]; exact hI.out.symm))]
        · go_wp2_with fail
          go_roundw
          case rel =>
            refine ⟨q + 1, by omega, by go_num, ?_, hb2⟩
            show ∀ j (h : j < l.length), j < q + 1 → l[j].r = j ∧ l[j].is = true
            intro j hj hj2
            by_cases hjq : j < q
            · exact hd.out j hj hjq
            · obtain rfl : j = q := by omega
              rw [← hx.out]
              exact ⟨HR.out, hI.out.symm⟩
          case measure => simp [intOf]; omega
      · have hne : (x.r != (q : Int)) = true := bne_iff_ne.2 hr
        go_wp2_with fail
        go_ret
        refine ⟨ret_bool ?_, Hb.out⟩
        rw [hR.out, isV_bad hlt (.inl (by rw [← hx.out]; exact hr))]
    · obtain rfl : q = l.length := by omega
      go_wp2_with fail
      go_ret
      exact ⟨ret_bool (by rw [hR.out, isV_of (by omega) (fun j hj => hd.out j hj hj)]), hb.out⟩
set_option maxHeartbeats 1000000 in
theorem rIs_any (A : Option Addr) (c : Nat) (l : List Nm) (w : World) (hV : VecIn w A l) (hl : l.length ≤ 1000) : Calls Try.prog 11 #[.slice A l.length c] w fun e w' => e = .returned (.bool (isV l)) ∧ Below w.heap.size w w' := by
  have C := Lib.hid (fun (a : Nm) => ris_any a.t a.s a.r)
  have HV := Lib.hid hV
  obtain ⟨R, hR⟩ : ∃ R, Hid (R = isV l) := ⟨_, rfl⟩
  rw [← hR.out]
  clear hV
  go_enter Try.func11, Try.ntmps11
  go_wp2_with fail
  go_loopw [3] (fun i wr => ∃ (q : Nat), q ≤ l.length ∧ i = .int .i64 (q : Int) ∧ Hid (∀ j (h : j < l.length), j < q → l[j].r = j ∧ l[j].is = true) ∧ Hid (Below w.heap.size w wr)) (fun i wr => l.length - (intOf i).toNat)
  case atStart => exact ⟨0, by omega, rfl, by show ∀ j (h : j < l.length), j < 0 → _; intro j h h0; omega, Below.refl _ _⟩
  case round =>
    obtain ⟨q, hq, rfl, hd, hb⟩ := hrel
    by_cases hlt : q < l.length
    · have hlt2 : (q : Int) < l.length := by omega
      obtain ⟨ad, rfl, hp, f0, f1, f2⟩ := (HV.out.past hb.out).cells hlt
      obtain ⟨x, hx⟩ : ∃ x, Hid (x = l[q]) := ⟨l[q], rfl⟩
      rw [← hx.out] at f0 f1 f2
      have HF := Lib.hid (show ∀ w', Below wr.heap.size wr w' → w'.cell? ⟨(ad.add (q * 3)).block, (ad.add (q * 3)).off + 2, none⟩ = some (.int .i64 x.r) from fun w' h => (h.cell (by rw [block_of_add]; exact hp)).trans f2)
      have hs := hb.out.size
      have Cx := C.out x
      rw [show isC x.t x.s x.r = x.is from rfl] at Cx
      obtain ⟨I, hI⟩ : ∃ I, Hid (I = x.is) := ⟨_, rfl⟩
      rw [← hI.out] at Cx
      have Cx := Lib.hid Cx
      go_wp2_with fail
      refine (Cx.out _).mono ?_
      rintro e w1 ⟨rfl, hb1⟩
      have g2 := HF.out _ hb1
      have hb2 := Lib.hid (hb.out.trans (hb1.mono hs))
      clear hb1 Cx HF f0 f1 f2 hb
      cases I
      · go_wp2_with fail
        go_ret
        refine ⟨ret_bool ?_, hb2.out⟩
        rw [hR.out, isV_bad hlt (.inr (by rw [← hx.out]; exact hI.out.symm))]
      · by_cases hr : x.r = (q : Int)
        · have HR := Lib.hid hr
          rw [hr] at g2
          clear hr
          go_wp2_with fail
          go_roundw
          case rel =>
            refine ⟨q + 1, by omega, by go_num, ?_, hb2.out⟩
            show ∀ j (h : j < l.length), j < q + 1 → l[j].r = j ∧ l[j].is = true
            intro j hj hj2
            by_cases hjq : j < q
            · exact hd.out j hj hjq
            · obtain rfl : j = q := by omega
              rw [← hx.out]
              exact ⟨HR.out, hI.out.symm⟩
          case measure => simp [intOf]; omega
        · have hne : (x.r != (q : Int)) = true := bne_iff_ne.2 hr
          go_wp2_with fail
          go_ret
          refine ⟨ret_bool ?_, hb2.out⟩
          rw [hR.out, isV_bad hlt (.inl (by rw [← hx.out]; exact hr))]
    · obtain rfl : q = l.length := by omega
      go_wp2_with fail
      go_ret
      refine ⟨ret_bool ?_, hb.out⟩
      rw [hR.out]
      by_cases h6 : l.length ≤ 6
      · rw [isV_of h6 (fun j hj => hd.out j hj hj), decide_eq_true (by omega)]
      · rw [isV_long (by omega), decide_eq_false (by omega)]
end Go.Proofs.Ytiglepmgonmhiaa.Cs
