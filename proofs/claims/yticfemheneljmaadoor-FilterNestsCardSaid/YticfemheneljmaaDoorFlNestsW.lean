/- FilterNests: the walk. -/
import Derived.Test.YticfemheneljmaaDoorFlReads
import Derived.Test.YticfemheneljmaaDoorFlBackW
import Derived.Test.YticfemheneljmaaDoorFlLists
namespace Go.Proofs.YticfemheneljmaaDoor.Fi
open Go.RowKit
set_option linter.unusedVariables false
set_option maxRecDepth 100000

def leaf : Fil := .mk 4 (Nm.mk [99, 110]) (Nm.mk [97]) [] []
def nest : List Int → Fil
  | [] => leaf
  | k :: r => .mk k (Nm.mk []) (Nm.mk []) [] [nest r]
theorem leaf_lies (w : World) (P : Nat → Prop) : Lies w P leaf [.int .i64 4, .string ⟨#[99, 110]⟩, .string ⟨#[97]⟩, .slice none 0 0, .slice none 0 0] :=
  Lies.shut (ks := []) (A := none) (c := 0) (S := none) (sc := 0) (ss := []) (ds := fun _ => []) (by decide) (by decide) (by simp [maxLen]) (Nat.zero_le _) (StrsAt.nil _ _ _) (by simp) (by simp [maxLen]) (Nat.zero_le _) (KidsAt.nil _ _ _ _)
theorem nest_frm : ∀ l : List Int, (∀ k ∈ l, 1 ≤ k ∧ k ≤ 3) → frm (nest l) = true ∧ tot (nest l) = l.length + 1
  | [], _ => ⟨by kernel_rfl, by kernel_rfl⟩
  | k :: r, h => by
    have hk := h k (by simp)
    obtain ⟨h1, h2⟩ := nest_frm r (fun x hx => h x (by simp [hx]))
    constructor
    · rw [nest, frm_kids hk]
      simp [frms, h1, Nm.mk]
      rfl
    · rw [nest, tot, show hasK k = true by unfold hasK; rw [decide_eq_true_eq]; exact hk, if_pos rfl, tots, tots, h2, List.length_cons]
      omega
theorem pr_inj {f g : Fil} (hf : frm f = true) (hg : frm g = true) (h : pr f = pr g) : f = g := by
  have h1 := rd_pr f hf (tot f + tot g) (tot f + tot g) [] (by omega) (Nat.le_refl _)
  have h2 := rd_pr g hg (tot f + tot g) (tot f + tot g) [] (by omega) (Nat.le_refl _)
  rw [h, h2] at h1
  injection h1 with h1
  injection h1 with h1 _
  exact h1.symm
theorem parse_big {f : Fil} (hf : frm f = true) (ht : 20 < tot f) : parse (pr f) = none := by
  cases hp : parse (pr f) with
  | none => rfl
  | some g =>
    obtain ⟨h1, h2⟩ := parse_some hp
    obtain ⟨h3, h4⟩ := isF_frm h1
    have := pr_inj h3 hf h2
    subst this
    omega
theorem lies_set5 {w : World} {g : Nat} {f : Fil} {cs : List Value} (h : Lies w (fun b => g < b ∧ b < w.heap.size) f cs) (y0 y1 y2 y3 y4 : Value) :
    Lies (((((w.setCell ⟨g, 0, none⟩ y0).setCell ⟨g, 1, none⟩ y1).setCell ⟨g, 2, none⟩ y2).setCell ⟨g, 3, none⟩ y3).setCell ⟨g, 4, none⟩ y4) (fun b => g < b ∧ b < (((((w.setCell ⟨g, 0, none⟩ y0).setCell ⟨g, 1, none⟩ y1).setCell ⟨g, 2, none⟩ y2).setCell ⟨g, 3, none⟩ y3).setCell ⟨g, 4, none⟩ y4).heap.size) f cs := by
  refine h.imp (fun b hb => ⟨hb.1, by have := hb.2; simpa [World.setCell] using this⟩) (fun p hp => ?_)
  have hpb : p.block ≠ g := by omega
  rw [World.cell?_setCell_other _ _ _ _ (fun e => hpb (by rw [← e])), World.cell?_setCell_other _ _ _ _ (fun e => hpb (by rw [← e])), World.cell?_setCell_other _ _ _ _ (fun e => hpb (by rw [← e])), World.cell?_setCell_other _ _ _ _ (fun e => hpb (by rw [← e])), World.cell?_setCell_other _ _ _ _ (fun e => hpb (by rw [← e]))]
theorem lies_more {w : World} {g : Nat} {f : Fil} {cs : List Value} (h : Lies w (fun b => g < b ∧ b < w.heap.size) f cs) (o : Obj) : Lies (w.alloc o) (fun b => g < b ∧ b < (w.alloc o).heap.size) f cs :=
  h.imp (fun b hb => ⟨hb.1, by have := hb.2; simp; omega⟩) (fun p hp => World.cell?_alloc_lt _ _ _ hp.2)
theorem kinds_more {l : List Int} (h : ∀ k ∈ l, 1 ≤ k ∧ k ≤ 3) {k : Int} (hk : 1 ≤ k ∧ k ≤ 3) : ∀ x ∈ k :: l, 1 ≤ x ∧ x ≤ 3 := by
  intro x hx
  rcases List.mem_cons.1 hx with rfl | hx
  · exact hk
  · exact h x hx
theorem nest_step (V : World) {g : Nat} {l : List Int} {x0 x1 x2 x3 x4 : Value} (k : Int) (B : Nat) (hB : B = V.heap.size) (hg : g < V.heap.size) (hL : Lies V (fun b => g < b ∧ b < V.heap.size) (nest l) [x0, x1, x2, x3, x4]) :
    Lies (V.alloc (.cells #[x0, x1, x2, x3, x4] 25)) (fun b => g < b ∧ b < (V.alloc (.cells #[x0, x1, x2, x3, x4] 25)).heap.size) (nest (k :: l)) [.int .i64 k, .string ⟨#[]⟩, .string ⟨#[]⟩, .slice none 0 0, .slice (some ⟨B, 0, none⟩) 1 1] := by
  subst hB
  refine Lies.shut (ks := [nest l]) (A := some ⟨V.heap.size, 0, none⟩) (c := 1) (S := none) (sc := 0) (ss := []) (ds := fun _ => [x0, x1, x2, x3, x4]) (by decide) (by decide) (by simp [maxLen]) (Nat.zero_le _) (StrsAt.nil _ _ _) (by simp) (by simp [maxLen]) (Nat.le_refl _) ⟨fun i hi => rfl, fun _ => ⟨_, rfl, ⟨hg, by simp⟩, fun i hi j u hu => ?_⟩, fun i hi => ?_⟩
  · obtain rfl : i = 0 := by simpa using hi
    rw [Nat.zero_mul, Nat.zero_add]
    exact five_new _ _ _ _ _ _ _ _ rfl j u hu
  · obtain rfl : i = 0 := by simpa using hi
    exact lies_more hL _
set_option maxHeartbeats 4000000 in
theorem fnests_go (w : World) (a : Int) (j : Nat) (a0 : 0 ≤ a) (a1 : a ≤ 255) (hj : a % 3 = j) (hj2 : j ≤ 2) (A : Option Addr) (len cap : Nat) (xs : List Int) (hA : NumsIn w A len xs) (hl : len ≤ maxLen) :
    Calls Tryd.prog 6 #[.int .u8 a, .slice A len cap] w fun r w' => r = .returned (.bool true) ∧ Below w.heap.size w w' := by
  have CK := Lib.hid known_any
  unfold maxLen at hl
  obtain ⟨hlen, hN⟩ := hA
  have HN := Lib.hid hN
  clear hN
  go_enter Tryd.func6, Tryd.ntmps6
  go_wp2_with fail
  refine (CK.out _).mono ?_
  rintro r w1 ⟨rfl, hb⟩
  have hs1 := hb.size
  have F1 := Blk.new w1 25 #[.int .i64 4, .string ⟨#[99, 110]⟩, .string ⟨#[97]⟩, .slice none 0 0, .slice none 0 0]
  have hb1 := hb.alloc hs1 (.cells #[.int .i64 4, .string ⟨#[99, 110]⟩, .string ⟨#[97]⟩, .slice none 0 0, .slice none 0 0] 25)
  clear hb
  go_wp2_with fail
  go_loopw [7] (fun i wr => ∃ (q : Nat) (l : List Int) (x0 x1 x2 x3 x4 : Value), q ≤ j + 18 ∧ i = .int .i64 q ∧ l.length = q ∧ Hid (∀ k ∈ l, 1 ≤ k ∧ k ≤ 3) ∧ Blk wr w1.heap.size 25 #[x0, x1, x2, x3, x4] ∧
      Lies wr (fun b => w1.heap.size < b ∧ b < wr.heap.size) (nest l) [x0, x1, x2, x3, x4] ∧ Below w.heap.size w wr) (fun i wr => j + 18 - (intOf i).toNat)
  case atStart => exact ⟨0, [], _, _, _, _, _, Nat.zero_le _, rfl, rfl, fun k hk => absurd hk (by simp), F1, leaf_lies _ _, hb1⟩
  case round =>
    obtain ⟨q, l, x0, x1, x2, x3, x4, hq, rfl, hll, hlk, F, hL, hbw⟩ := hrel
    obtain ⟨k', a', v', S', m', d', A', n', c', hcs⟩ := hL.form
    simp only [List.cons.injEq, and_true] at hcs
    obtain ⟨rfl, rfl, rfl, rfl, rfl⟩ := hcs
    have hFl := F.lt
    by_cases hlt : (q : Int) < (j : Int) + 20 - 2
    · by_cases hqx : (q : Int) < len
      · obtain ⟨ad, rfl, hp, hc0, hx0, hx1⟩ := HN.out.kid hbw (i := q) (by omega)
        obtain ⟨X, hX⟩ : ∃ X, X = xs[q]'(by omega) := ⟨_, rfl⟩
        rw [← hX] at hc0 hx0 hx1
        clear hX
        have k0 : (wr.alloc (.cells #[.int .i64 1, .int .i64 2, .int .i64 3] 3)).cell? (ad.add q) = some (.int .u8 X) := (World.cell?_alloc_lt _ _ _ (by rw [block_of_add]; have := hbw.size; omega)).trans hc0
        clear hc0
        obtain ⟨p0, p1, p2, p3, p4⟩ := five F
        obtain ⟨g0, g1, g2, g3, g4⟩ := five_set F
        have HF := Lib.hid F
        have HL := Lib.hid hL
        clear F hL
        obtain hr | hr | hr : X % 3 = 0 ∨ X % 3 = 1 ∨ X % 3 = 2 := by omega
        · go_wp2_with fail
          refine ⟨⟨q + 1, 1 :: l, _, _, _, _, _, by omega, by go_num, by simp [hll], kinds_more hlk.out (by decide), ((fset5 HF.out).alloc _).alloc _, nest_step _ 1 (wr.heap.size + 1) (by simp [World.setCell]) (by simp [World.setCell]; omega) (lies_more (lies_set5 HL.out _ _ _ _ _) _), ((below_set5 hbw hs1 _ _ _ _ _).alloc (below_set5 hbw hs1 _ _ _ _ _).size _).alloc ((below_set5 hbw hs1 _ _ _ _ _).alloc (below_set5 hbw hs1 _ _ _ _ _).size _).size _⟩, by simp [intOf]; omega⟩
        · go_wp2_with fail
          refine ⟨⟨q + 1, 2 :: l, _, _, _, _, _, by omega, by go_num, by simp [hll], kinds_more hlk.out (by decide), ((fset5 HF.out).alloc _).alloc _, nest_step _ 2 (wr.heap.size + 1) (by simp [World.setCell]) (by simp [World.setCell]; omega) (lies_more (lies_set5 HL.out _ _ _ _ _) _), ((below_set5 hbw hs1 _ _ _ _ _).alloc (below_set5 hbw hs1 _ _ _ _ _).size _).alloc ((below_set5 hbw hs1 _ _ _ _ _).alloc (below_set5 hbw hs1 _ _ _ _ _).size _).size _⟩, by simp [intOf]; omega⟩
        · go_wp2_with fail
          refine ⟨⟨q + 1, 3 :: l, _, _, _, _, _, by omega, by go_num, by simp [hll], kinds_more hlk.out (by decide), ((fset5 HF.out).alloc _).alloc _, nest_step _ 3 (wr.heap.size + 1) (by simp [World.setCell]) (by simp [World.setCell]; omega) (lies_more (lies_set5 HL.out _ _ _ _ _) _), ((below_set5 hbw hs1 _ _ _ _ _).alloc (below_set5 hbw hs1 _ _ _ _ _).size _).alloc ((below_set5 hbw hs1 _ _ _ _ _).alloc (below_set5 hbw hs1 _ _ _ _ _).size _).size _⟩, by simp [intOf]; omega⟩
      · obtain ⟨p0, p1, p2, p3, p4⟩ := five F
        obtain ⟨g0, g1, g2, g3, g4⟩ := five_set F
        have HF := Lib.hid F
        have HL := Lib.hid hL
        clear F hL
        go_wp2_with fail
        refine ⟨⟨q + 1, 3 :: l, _, _, _, _, _, by omega, by go_num, by simp [hll], kinds_more hlk.out (by decide), (fset5 HF.out).alloc _, nest_step _ 3 wr.heap.size (by simp [World.setCell]) (by simp [World.setCell]; omega) (lies_set5 HL.out _ _ _ _ _), (below_set5 hbw hs1 _ _ _ _ _).alloc (below_set5 hbw hs1 _ _ _ _ _).size _⟩, by simp [intOf]; omega⟩
    · obtain ⟨hfr, htot⟩ := nest_frm l hlk.out
      have hlj : l.length = j + 18 := by omega
      rw [hlj] at htot
      have H0 := Lib.hid (show One w w1.heap.size (nest l) _ _ _ _ _ wr from ⟨F, hL.imp (fun b h => h.2) (fun _ _ => rfl), hbw⟩)
      have CQ := fun x0 x1 x2 x3 x4 w hL => rpr_any (nest l) x0 x1 x2 x3 x4 w hfr (by have := pr_len (nest l) hfr; omega) hL
      have CC := fun x0 x1 x2 x3 x4 w hL => Count_any (nest l) x0 x1 x2 x3 x4 w hL
      have CI := fun x0 x1 x2 x3 x4 w hL => Is_any (nest l) x0 x1 x2 x3 x4 w hL
      have CP := fun x0 x1 x2 x3 x4 w hL => Print_any (nest l) x0 x1 x2 x3 x4 w hL
      have CS := fun x0 x1 x2 x3 x4 y0 y1 y2 y3 y4 w hL hL' => rsame_any (nest l) (nest l) x0 x1 x2 x3 x4 y0 y1 y2 y3 y4 w hL hL'
      rw [eqF_self] at CS
      obtain ⟨P, hP⟩ : ∃ P : ByteArray, P = Nm.mk (pr (nest l)) := ⟨_, rfl⟩
      have hPz : P.size ≤ 100000 := by rw [hP]; show (pr _).length ≤ _; have := pr_len (nest l) hfr; omega
      have hPb : Nm.bs P = pr (nest l) := by rw [hP]
      rw [← hP] at CQ
      have CA := fun w => parse_any P w (by omega)
      rw [hPb] at CA
      have HQ := Lib.hid CQ
      have HS := Lib.hid CS
      by_cases hj3 : j = 2
      · subst hj3
        have hno : isF (nest l) = false := by unfold isF; rw [htot]; rfl
        rw [parse_big hfr (by omega)] at CA
        rw [hno] at CI
        rw [show print (nest l) = [] by unfold print; rw [hno]; rfl] at CP
        rw [htot, show min (((2 + 18 + 1 : Nat) : Int)) 21 = 21 by decide] at CC
        have HA := Lib.hid CA
        have HI := Lib.hid CI
        have HP : Hid (∀ x0 x1 x2 x3 x4 w, Lies w (· < w.heap.size) (nest l) [x0, x1, x2, x3, x4] → Calls Tryd.prog 13 #[.agg #[x0, x1, x2, x3, x4]] w fun r w' => r = .returned (.string ⟨#[]⟩) ∧ Below w.heap.size w w') := CP
        have HC := Lib.hid CC
        clear CQ CC CI CP CS CA hP hPb hno hfr htot hlk F hL F1 hb1
        obtain ⟨p0, p1, p2, p3, p4⟩ := five H0.out.1
        go_wp2_with fail
        refine (HQ.out _ _ _ _ _ _ H0.out.2.1).mono ?_
        rintro r v1 ⟨rfl, hb⟩
        have H1 := Lib.hid (H0.out.past hb)
        clear p0 p1 p2 p3 p4 hb
        obtain ⟨p0, p1, p2, p3, p4⟩ := five H1.out.1
        go_wp2_with fail
        refine (HA.out _).mono ?_
        rintro r v2 ⟨rfl, hb⟩
        have H2 := Lib.hid ((H1.out.past hb).past ((Below.refl _ _).alloc (Nat.le_refl _) (.cells #[.int .i64 0, .string ⟨#[]⟩, .string ⟨#[]⟩, .slice none 0 0, .slice none 0 0] 25)))
        clear p0 p1 p2 p3 p4 hb
        obtain ⟨p0, p1, p2, p3, p4⟩ := five H2.out.1
        go_wp2_with fail
        refine (HI.out _ _ _ _ _ _ H2.out.2.1).mono ?_
        rintro r v3 ⟨rfl, hb⟩
        have H3 := Lib.hid (H2.out.past hb)
        clear p0 p1 p2 p3 p4 hb
        obtain ⟨p0, p1, p2, p3, p4⟩ := five H3.out.1
        go_wp2_with fail
        refine (HP.out _ _ _ _ _ _ H3.out.2.1).mono ?_
        rintro r v4 ⟨rfl, hb⟩
        have H4 := Lib.hid (H3.out.past hb)
        clear p0 p1 p2 p3 p4 hb
        obtain ⟨p0, p1, p2, p3, p4⟩ := five H4.out.1
        go_wp2_with fail
        refine (HC.out _ _ _ _ _ _ H4.out.2.1).mono ?_
        rintro r v5 ⟨rfl, hb⟩
        have H5 := Lib.hid (H4.out.past hb)
        clear p0 p1 p2 p3 p4 hb
        obtain ⟨p0, p1, p2, p3, p4⟩ := five H5.out.1
        go_wp2_with fail
        go_ret
        exact ⟨rfl, H5.out.2.2⟩
      · have hyes : isF (nest l) = true := by unfold isF; rw [htot, hfr, decide_eq_true (by omega)]; rfl
        rw [parse_pr hyes] at CA
        rw [hyes] at CI
        rw [htot, show min (((j + 18 + 1 : Nat) : Int)) 21 = (j : Int) + 20 - 2 + 1 by omega] at CC
        have HA := Lib.hid CA
        have HI := Lib.hid CI
        have HC := Lib.hid CC
        have hj4 : j ≤ 1 := by omega
        clear CQ CC CI CP CS CA hP hPb hyes hfr htot hlk F hL F1 hb1 hj3
        obtain ⟨p0, p1, p2, p3, p4⟩ := five H0.out.1
        go_wp2_with fail
        refine (HQ.out _ _ _ _ _ _ H0.out.2.1).mono ?_
        rintro r v1 ⟨rfl, hb⟩
        have H1 := Lib.hid (H0.out.past hb)
        clear p0 p1 p2 p3 p4 hb
        obtain ⟨p0, p1, p2, p3, p4⟩ := five H1.out.1
        go_wp2_with fail
        refine (HA.out _).mono ?_
        rintro r v2 ⟨y0, y1, y2, y3, y4, rfl, hb, hLg⟩
        have hLg5 := hLg.imp (w' := v2) (P' := (· < v2.heap.size)) (fun b h => h.2) (fun _ _ => rfl)
        obtain ⟨kg, ag, vg, Sg, mg, dg2, Ag, ng, cg, hcs⟩ := hLg.form
        simp only [List.cons.injEq, and_true] at hcs
        obtain ⟨rfl, rfl, rfl, rfl, rfl⟩ := hcs
        have G2 := Lib.hid (One.new hLg5)
        have H2 := Lib.hid ((H1.out.past hb).past ((Below.refl _ _).alloc (Nat.le_refl _) (.cells #[.int .i64 kg, .string ag, .string vg, .slice Sg mg dg2, .slice Ag ng cg] 25)))
        clear p0 p1 p2 p3 p4 hb hLg hLg5
        obtain ⟨p0, p1, p2, p3, p4⟩ := five H2.out.1
        obtain ⟨q0, q1, q2, q3, q4⟩ := five G2.out.1
        go_wp2_with fail
        refine (HS.out _ _ _ _ _ _ _ _ _ _ _ H2.out.2.1 G2.out.2.1).mono ?_
        rintro r v3 ⟨rfl, hb⟩
        have H3 := Lib.hid (H2.out.past hb)
        have G3 := Lib.hid (G2.out.past hb)
        clear q0 q1 q2 q3 q4
        obtain ⟨q0, q1, q2, q3, q4⟩ := five G3.out.1
        clear p0 p1 p2 p3 p4 hb
        obtain ⟨p0, p1, p2, p3, p4⟩ := five H3.out.1
        go_wp2_with fail
        refine (HI.out _ _ _ _ _ _ H3.out.2.1).mono ?_
        rintro r v4 ⟨rfl, hb⟩
        have H4 := Lib.hid (H3.out.past hb)
        have G4 := Lib.hid (G3.out.past hb)
        clear q0 q1 q2 q3 q4
        obtain ⟨q0, q1, q2, q3, q4⟩ := five G4.out.1
        clear p0 p1 p2 p3 p4 hb
        obtain ⟨p0, p1, p2, p3, p4⟩ := five H4.out.1
        go_wp2_with fail
        refine (HC.out _ _ _ _ _ _ H4.out.2.1).mono ?_
        rintro r v5 ⟨rfl, hb⟩
        have H5 := Lib.hid (H4.out.past hb)
        have G5 := Lib.hid (G4.out.past hb)
        clear q0 q1 q2 q3 q4
        obtain ⟨q0, q1, q2, q3, q4⟩ := five G5.out.1
        clear p0 p1 p2 p3 p4 hb
        obtain ⟨p0, p1, p2, p3, p4⟩ := five H5.out.1
        go_wp2_with fail
        go_ret
        exact ⟨rfl, H5.out.2.2⟩
theorem walk_FilterNests (w : World) (a : Int) (ha : (Lit.int .u8 a).wf = true) (A : Option Addr) (len cap : Nat) (xs : List Int) (hA : NumsIn w A len xs) (hl : len ≤ maxLen) :
    Calls Tryd.prog 6 #[.int .u8 a, .slice A len cap] w fun r w' => r = .returned (.bool true) ∧ Below w.heap.size w w' := by
  have h2 : 0 ≤ a ∧ a ≤ 255 := by simpa [Lit.wf, IntKind.min, IntKind.max, IntKind.signed, IntKind.bits] using ha
  exact fnests_go w a (a.toNat % 3) h2.1 h2.2 (by omega) (by omega) A len cap xs hA hl
end Go.Proofs.YticfemheneljmaaDoor.Fi
