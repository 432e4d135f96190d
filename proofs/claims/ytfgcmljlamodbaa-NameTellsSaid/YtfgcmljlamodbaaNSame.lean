/- What SameRDN, same, fewRDN, few answer. -/
import Derived.Test.YtfgcmljlamodbaaNIs
import Derived.Deep.RegionHeld3
namespace Go.Proofs.Ytfgcmljlamodbaa
open Go.RowKit
set_option linter.unusedVariables false
set_option maxRecDepth 100000

theorem same_drop {a b : List Nm.Ava} {k : Nat} (h : k < a.length) (h2 : k < b.length) : decide (a.drop k = b.drop k) = (decide (a[k] = b[k]) && decide (a.drop (k + 1) = b.drop (k + 1))) := by
  rw [List.drop_eq_getElem_cons h, List.drop_eq_getElem_cons h2, Bool.eq_iff_iff]
  simp only [decide_eq_true_eq, Bool.and_eq_true, List.cons.injEq]
set_option maxHeartbeats 2000000 in
theorem sameR_any (a b : List Nm.Ava) (A B : Option Addr) (c c' : Nat) (w : World) (ha : RAt w (· < w.heap.size) A a) (hb : RAt w (· < w.heap.size) B b) (hl : a.length ≤ maxLen) :
    Calls Try.prog 20 #[.slice A a.length c, .slice B b.length c'] w fun e w' => e = .returned (.bool (decide (a = b))) ∧ Below w.heap.size w w' := by
  unfold maxLen at hl
  by_cases hlen : a.length = b.length
  · have H0 : Hid (decide (a = b) = decide (a.drop 0 = b.drop 0)) := rfl
    rw [← hlen]
    have HL := Lib.hid hlen
    clear hlen
    go_enter Try.func20, Try.ntmps20
    go_wp2_with fail
    go_loopw [5] (fun i wr => ∃ k : Nat, k ≤ a.length ∧ i = .int .i64 k ∧ Hid (decide (a = b) = decide (a.drop k = b.drop k)) ∧ Below w.heap.size w wr) (fun i wr => a.length - (intOf i).toNat)
    case atStart => exact ⟨0, Nat.zero_le _, rfl, H0, Below.refl _ _⟩
    case round =>
      obtain ⟨k, hk, rfl, hE, hbw⟩ := hrel
      have hs := hbw.size
      by_cases hlt : k < a.length
      · have hltb : k < b.length := by rw [← HL.out]; exact hlt
        obtain ⟨ad, rfl, hp, f0, f1⟩ := ha.kid hbw hlt
        obtain ⟨bd, rfl, hq, g0, g1⟩ := hb.kid hbw hltb
        have hE2 := hE.out
        rw [same_drop hlt hltb] at hE2
        have e0 : decide (a[k] = b[k]) = (decide (a[k].1 = b[k].1) && decide (a[k].2 = b[k].2)) := by
          rw [Bool.eq_iff_iff]
          simp only [decide_eq_true_eq, Bool.and_eq_true]
          exact Prod.ext_iff
        rw [e0] at hE2
        generalize a[k].1 = x at f0 hE2
        generalize a[k].2 = y at f1 hE2
        generalize b[k].1 = x' at g0 hE2
        generalize b[k].2 = y' at g1 hE2
        have HE := Lib.hid hE2
        clear hE hE2 e0 H0
        have f0d : wr.drew.cell? (ad.add (k * 2)) = some (.string x) := f0
        have f1d : wr.drew.cell? ⟨(ad.add (k * 2)).block, (ad.add (k * 2)).off + 1, none⟩ = some (.string y) := f1
        have g0d : wr.drew.cell? (bd.add (k * 2)) = some (.string x') := g0
        have g1d : wr.drew.cell? ⟨(bd.add (k * 2)).block, (bd.add (k * 2)).off + 1, none⟩ = some (.string y') := g1
        have hbd := hbw.drew
        have hcase : (x = x' ∧ y = y') ∨ (x = x' ∧ ¬ y.toList = y'.toList ∧ Hid (decide (a = b) = false)) ∨ (¬ x.toList = x'.toList ∧ Hid (decide (a = b) = false)) := by
          by_cases hx : x = x'
          · by_cases hy : y = y'
            · exact Or.inl ⟨hx, hy⟩
            · refine Or.inr (Or.inl ⟨hx, ?_, ?_⟩)
              · have := toList_inj' y y'
                rw [decide_eq_false hy] at this
                simpa using this
              · show _ = _
                rw [HE.out, decide_eq_false hy]; simp
          · refine Or.inr (Or.inr ⟨?_, ?_⟩)
            · have := toList_inj' x x'
              rw [decide_eq_false hx] at this
              simpa using this
            · show _ = _
              rw [HE.out, decide_eq_false hx]; simp
        rcases hcase with ⟨rfl, rfl⟩ | ⟨rfl, hy, HF⟩ | ⟨hx, HF⟩
        · clear f0 f1 g0 g1
          go_wp2_with fail
          go_region
          go_wp2_with fail
          go_roundw
          case rel =>
            refine ⟨k + 1, by omega, by go_num, ?_, hbd⟩
            show _ = _
            rw [HE.out]; simp
          case measure => simp [intOf]; omega
        all_goals
          clear f0 f1 g0 g1
          go_wp2_with fail
          go_region
          go_wp2_with fail
          go_ret
          exact ⟨ret_bool HF.out.symm, hbd⟩
      · have hk2 : k = a.length := by omega
        have hE2 := hE.out
        rw [hk2, List.drop_length, HL.out, List.drop_length] at hE2
        have HE := Lib.hid hE2
        clear hE hE2 hk2
        go_wp2_with fail
        go_ret
        refine ⟨ret_bool ?_, hbw⟩
        rw [HE.out]; rfl
  · have HR : Hid (decide (a = b) = false) := by
      show _ = _
      rw [decide_eq_false_iff_not]
      intro h; exact hlen (by rw [h])
    have hne : ((a.length : Int) != b.length) = true := by rw [bne_iff_ne]; omega
    clear hlen
    go_enter Try.func20, Try.ntmps20
    go_wp2_with fail
    go_ret
    exact ⟨ret_bool HR.out.symm, Below.refl _ _⟩
theorem sameD_drop {a b : List (List Nm.Ava)} {k : Nat} (h : k < a.length) (h2 : k < b.length) : decide (a.drop k = b.drop k) = (decide (a[k] = b[k]) && decide (a.drop (k + 1) = b.drop (k + 1))) := by
  rw [List.drop_eq_getElem_cons h, List.drop_eq_getElem_cons h2, Bool.eq_iff_iff]
  simp only [decide_eq_true_eq, Bool.and_eq_true, List.cons.injEq]
set_option maxHeartbeats 2000000 in
theorem same_any (a b : List (List Nm.Ava)) (A B : Option Addr) (c c' : Nat) (w : World) (ha : DAt w (· < w.heap.size) A a) (hb : DAt w (· < w.heap.size) B b) (hl : a.length ≤ maxLen) (hk : ∀ r ∈ a, r.length ≤ maxLen) :
    Calls Try.prog 19 #[.slice A a.length c, .slice B b.length c'] w fun e w' => e = .returned (.bool (decide (a = b))) ∧ Below w.heap.size w w' := by
  unfold maxLen at hl
  have CS := Lib.hid sameR_any
  by_cases hlen : a.length = b.length
  · have H0 : Hid (decide (a = b) = decide (a.drop 0 = b.drop 0)) := rfl
    rw [← hlen]
    have HL := Lib.hid hlen
    have HK := Lib.hid hk
    clear hlen hk
    go_enter Try.func19, Try.ntmps19
    go_wp2_with fail
    go_loopw [5] (fun i wr => ∃ k : Nat, k ≤ a.length ∧ i = .int .i64 k ∧ Hid (decide (a = b) = decide (a.drop k = b.drop k)) ∧ Below w.heap.size w wr) (fun i wr => a.length - (intOf i).toNat)
    case atStart => exact ⟨0, Nat.zero_le _, rfl, H0, Below.refl _ _⟩
    case round =>
      obtain ⟨k, hk, rfl, hE, hbw⟩ := hrel
      have hs := hbw.size
      by_cases hlt : k < a.length
      · have hltb : k < b.length := by rw [← HL.out]; exact hlt
        obtain ⟨ad, A1, c1, rfl, hp, f0, hc1, hR1⟩ := ha.kid hbw hlt
        obtain ⟨bd, B1, c2, rfl, hq, g0, hc2, hR2⟩ := hb.kid hbw hltb
        have hE2 := hE.out
        rw [sameD_drop hlt hltb] at hE2
        have C1 := fun (w : World) (h1 : RAt w (· < w.heap.size) A1 a[k]) (h2 : RAt w (· < w.heap.size) B1 b[k]) => CS.out a[k] b[k] A1 B1 c1 c2 w h1 h2 (HK.out _ (List.getElem_mem hlt))
        generalize a[k] = x at f0 hE2 C1 hR1 hc1
        generalize b[k] = y at g0 hE2 C1 hR2 hc2
        obtain ⟨n, hn⟩ : ∃ n, n = x.length := ⟨_, rfl⟩
        obtain ⟨m, hm⟩ : ∃ m, m = y.length := ⟨_, rfl⟩
        rw [← hn] at f0 C1
        rw [← hm] at g0 C1
        have HE := Lib.hid hE2
        have HC := Lib.hid C1
        have HR1 := Lib.hid hR1
        have HR2 := Lib.hid hR2
        clear hE hE2 hR1 hR2 C1 hn hm hc1 hc2 H0
        have la : (ad.add k).block < wr.heap.size := by rw [block_of_add]; omega
        have lb : (bd.add k).block < wr.heap.size := by rw [block_of_add]; omega
        cases hxy : decide (x = y) with
        | false =>
          have HF : Hid (decide (a = b) = false) := by show _ = _; rw [HE.out, hxy]; rfl
          have HC2 : Hid (∀ w, RAt w (· < w.heap.size) A1 x → RAt w (· < w.heap.size) B1 y → Calls Try.prog 20 #[.slice A1 n c1, .slice B1 m c2] w fun e w' => e = .returned (.bool false) ∧ Below w.heap.size w w') := fun w h1 h2 => by have := HC.out w h1 h2; rwa [hxy] at this
          clear HC hxy
          go_wp2_with fail
          go_region_held3 (fun w' => w'.cell? (ad.add k) = some (.slice A1 n c1) ∧ w'.cell? (bd.add k) = some (.slice B1 m c2)) (first | go_keep | exact ⟨batA hb1 la f0, batA hb1 lb g0⟩) (first | (go_at_call 20; refine (HC2.out _ HR1.out.drew HR2.out.drew).mono ?_; rintro e w1 ⟨rfl, hb1⟩))
          go_wp2_with fail
          go_ret
          exact ⟨ret_bool HF.out.symm, hbw.drew.trans (hb1.mono hs)⟩
        | true =>
          have HF : Hid (decide (a = b) = decide (a.drop (k + 1) = b.drop (k + 1))) := by show _ = _; rw [HE.out, hxy]; rfl
          have HC2 : Hid (∀ w, RAt w (· < w.heap.size) A1 x → RAt w (· < w.heap.size) B1 y → Calls Try.prog 20 #[.slice A1 n c1, .slice B1 m c2] w fun e w' => e = .returned (.bool true) ∧ Below w.heap.size w w') := fun w h1 h2 => by have := HC.out w h1 h2; rwa [hxy] at this
          clear HC hxy
          go_wp2_with fail
          go_region_held3 (fun w' => w'.cell? (ad.add k) = some (.slice A1 n c1) ∧ w'.cell? (bd.add k) = some (.slice B1 m c2)) (first | go_keep | exact ⟨batA hb1 la f0, batA hb1 lb g0⟩) (first | (go_at_call 20; refine (HC2.out _ HR1.out.drew HR2.out.drew).mono ?_; rintro e w1 ⟨rfl, hb1⟩))
          go_wp2_with fail
          go_roundw
          case rel =>
            exact ⟨k + 1, by omega, by go_num, HF.out, hbw.drew.trans (hb1.mono hs)⟩
          case measure => simp [intOf]; omega
      · have hk2 : k = a.length := by omega
        have hE2 := hE.out
        rw [hk2, List.drop_length, HL.out, List.drop_length] at hE2
        have HE := Lib.hid hE2
        clear hE hE2 hk2
        go_wp2_with fail
        go_ret
        refine ⟨ret_bool ?_, hbw⟩
        rw [HE.out]; rfl
  · have HR : Hid (decide (a = b) = false) := by
      show _ = _
      rw [decide_eq_false_iff_not]
      intro h; exact hlen (by rw [h])
    have hne : ((a.length : Int) != b.length) = true := by rw [bne_iff_ne]; omega
    clear hlen
    go_enter Try.func19, Try.ntmps19
    go_wp2_with fail
    go_ret
    exact ⟨ret_bool HR.out.symm, Below.refl _ _⟩
end Go.Proofs.Ytfgcmljlamodbaa
