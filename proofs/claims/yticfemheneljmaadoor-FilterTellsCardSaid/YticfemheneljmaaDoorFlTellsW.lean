/- FilterTells: the walk. -/
import Derived.Test.YticfemheneljmaaDoorFlReads
import Derived.Test.YticfemheneljmaaDoorFlRForm
import Derived.Deep.RegionHeld3
namespace Go.Proofs.YticfemheneljmaaDoor.Fi
open Go.RowKit
set_option linter.unusedVariables false
set_option maxRecDepth 100000

/-- Two filters in their boxes, and as trees; all that was there before is as it was. -/
def Hold (w0 : World) (b1 b2 : Nat) (f : Fil) (x0 x1 x2 x3 x4 : Value) (g : Fil) (y0 y1 y2 y3 y4 : Value) (w : World) : Prop :=
  Blk w b1 25 #[x0, x1, x2, x3, x4] ∧ Blk w b2 25 #[y0, y1, y2, y3, y4] ∧ Lies w (· < w.heap.size) f [x0, x1, x2, x3, x4] ∧ Lies w (· < w.heap.size) g [y0, y1, y2, y3, y4] ∧ Below w0.heap.size w0 w
theorem Hold.past {w0 : World} {b1 b2 : Nat} {f : Fil} {x0 x1 x2 x3 x4 : Value} {g : Fil} {y0 y1 y2 y3 y4 : Value} {w w' : World} (h : Hold w0 b1 b2 f x0 x1 x2 x3 x4 g y0 y1 y2 y3 y4 w) (hb : Below w.heap.size w w') :
    Hold w0 b1 b2 f x0 x1 x2 x3 x4 g y0 y1 y2 y3 y4 w' := ⟨h.1.past hb, h.2.1.past hb, h.2.2.1.past hb, h.2.2.2.1.past hb, h.2.2.2.2.trans (hb.mono h.2.2.2.2.size)⟩
theorem Hold.cells {w0 : World} {b1 b2 : Nat} {f : Fil} {x0 x1 x2 x3 x4 : Value} {g : Fil} {y0 y1 y2 y3 y4 : Value} {w : World} (h : Hold w0 b1 b2 f x0 x1 x2 x3 x4 g y0 y1 y2 y3 y4 w) :
    w.cell? ⟨b1, 0, none⟩ = some x0 ∧ w.cell? ⟨b1, 1, none⟩ = some x1 ∧ w.cell? ⟨b1, 2, none⟩ = some x2 ∧ w.cell? ⟨b1, 3, none⟩ = some x3 ∧ w.cell? ⟨b1, 4, none⟩ = some x4 ∧ w.cell? ⟨b2, 0, none⟩ = some y0 ∧ w.cell? ⟨b2, 1, none⟩ = some y1 ∧ w.cell? ⟨b2, 2, none⟩ = some y2 ∧ w.cell? ⟨b2, 3, none⟩ = some y3 ∧ w.cell? ⟨b2, 4, none⟩ = some y4 := by
  obtain ⟨p0, p1, p2, p3, p4⟩ := five h.1
  obtain ⟨q0, q1, q2, q3, q4⟩ := five h.2.1
  exact ⟨p0, p1, p2, p3, p4, q0, q1, q2, q3, q4⟩
theorem Hold.new {w : World} {f : Fil} {x0 x1 x2 x3 x4 : Value} {g : Fil} {y0 y1 y2 y3 y4 : Value} (hL : Lies w (· < w.heap.size) f [x0, x1, x2, x3, x4]) (hL' : Lies w (· < w.heap.size) g [y0, y1, y2, y3, y4]) :
    Hold w w.heap.size (w.heap.size + 1) f x0 x1 x2 x3 x4 g y0 y1 y2 y3 y4 ((w.alloc (.cells #[x0, x1, x2, x3, x4] 25)).alloc (.cells #[y0, y1, y2, y3, y4] 25)) := by
  have F1 := Blk.new (w.alloc (.cells #[x0, x1, x2, x3, x4] 25)) 25 #[y0, y1, y2, y3, y4]
  rw [show (w.alloc (.cells #[x0, x1, x2, x3, x4] 25)).heap.size = w.heap.size + 1 by simp] at F1
  exact ⟨(Blk.new w _ _).alloc _, F1, (hL.alloc _).alloc _, (hL'.alloc _).alloc _, ((Below.refl _ _).alloc (Nat.le_refl _) _).alloc (by simp) _⟩
set_option maxHeartbeats 4000000 in
theorem walk_FilterTells (w : World) (f : Fil) (x0 x1 x2 x3 x4 : Value) (hL : Lies w (· < w.heap.size) f [x0, x1, x2, x3, x4]) (g : Fil) (y0 y1 y2 y3 y4 : Value) (hL' : Lies w (· < w.heap.size) g [y0, y1, y2, y3, y4]) :
    Calls Tryd.prog 3 #[.agg #[x0, x1, x2, x3, x4], .agg #[y0, y1, y2, y3, y4]] w fun r w' => r = .returned (.bool true) ∧ Below w.heap.size w w' := by
  obtain ⟨k, a, v, S, m, d, A, n, c, hcs⟩ := hL.form
  simp only [List.cons.injEq, and_true] at hcs
  obtain ⟨rfl, rfl, rfl, rfl, rfl⟩ := hcs
  obtain ⟨k', a', v', S', m', d', A', n', c', hcs⟩ := hL'.form
  simp only [List.cons.injEq, and_true] at hcs
  obtain ⟨rfl, rfl, rfl, rfl, rfl⟩ := hcs
  have CK := Lib.hid known_any
  have H0 := Lib.hid (Hold.new hL hL')
  have HF := Lib.hid (fun (h : Fil) x0 x1 x2 x3 x4 w hL => few_any h 13 0 x0 x1 x2 x3 x4 w (by show (0 : Int) = 13 - (13 : Nat); omega) (by omega) (by omega) hL)
  clear hL hL'
  go_enter Tryd.func3, Tryd.ntmps3
  go_wp2_with fail
  refine (CK.out _).mono ?_
  rintro r w1 ⟨rfl, hb⟩
  have H1 := Lib.hid (H0.out.past hb)
  obtain ⟨p0, p1, p2, p3, p4⟩ := five H1.out.1
  obtain ⟨q0, q1, q2, q3, q4⟩ := five H1.out.2.1
  clear hb
  go_wp2_with fail
  refine (HF.out f _ _ _ _ _ _ H1.out.2.2.1).mono ?_
  rintro r w2 ⟨rfl, hb⟩
  have H2 := Lib.hid (H1.out.past hb)
  clear p0 p1 p2 p3 p4 q0 q1 q2 q3 q4
  obtain ⟨p0, p1, p2, p3, p4⟩ := five H2.out.1
  obtain ⟨q0, q1, q2, q3, q4⟩ := five H2.out.2.1
  clear hb
  cases few 13 f
  · go_wp2_with fail
    go_ret
    exact ⟨rfl, H2.out.2.2.2.2⟩
  go_wp2_with fail
  refine (HF.out g _ _ _ _ _ _ H2.out.2.2.2.1).mono ?_
  rintro r w3 ⟨rfl, hb⟩
  have H3 := Lib.hid (H2.out.past hb)
  clear p0 p1 p2 p3 p4 q0 q1 q2 q3 q4
  obtain ⟨p0, p1, p2, p3, p4⟩ := five H3.out.1
  obtain ⟨q0, q1, q2, q3, q4⟩ := five H3.out.2.1
  clear hb
  cases few 13 g
  · go_wp2_with fail
    go_ret
    exact ⟨rfl, H3.out.2.2.2.2⟩
  clear CK HF
  have CI := fun x0 x1 x2 x3 x4 w hL => Is_any f x0 x1 x2 x3 x4 w hL
  have CR := fun x0 x1 x2 x3 x4 w hL => rIs_any f x0 x1 x2 x3 x4 w hL
  have CP := fun x0 x1 x2 x3 x4 w hL => Print_any f x0 x1 x2 x3 x4 w hL
  have CC := fun x0 x1 x2 x3 x4 w hL => Count_any f x0 x1 x2 x3 x4 w hL
  have CD := fun x0 x1 x2 x3 x4 w hL => rcount_any f x0 x1 x2 x3 x4 w hL
  have CS := fun x0 x1 x2 x3 x4 y0 y1 y2 y3 y4 w hL hL' => same_any f g x0 x1 x2 x3 x4 y0 y1 y2 y3 y4 w hL hL'
  have CT := fun x0 x1 x2 x3 x4 y0 y1 y2 y3 y4 w hL hL' => rsame_any f g x0 x1 x2 x3 x4 y0 y1 y2 y3 y4 w hL hL'
  generalize min (tot f : Int) 21 = T at CC CD
  generalize eqF f g = E at CS CT
  have HS := Lib.hid CS
  have HT := Lib.hid CT
  have HC := Lib.hid CC
  have HD := Lib.hid CD
  clear CC CD CS CT
  cases hi : isF f with
  | false =>
    have hp : print f = [] := by unfold print; rw [hi]; rfl
    rw [hi] at CI CR
    rw [hp] at CP
    have HI := Lib.hid CI
    have HR := Lib.hid CR
    have HP : Hid (∀ x0 x1 x2 x3 x4 w, Lies w (· < w.heap.size) f [x0, x1, x2, x3, x4] → Calls Tryd.prog 13 #[.agg #[x0, x1, x2, x3, x4]] w fun r w' => r = .returned (.string ⟨#[]⟩) ∧ Below w.heap.size w w') := CP
    clear CI CR CP hp hi
    go_wp2_with fail
    refine (HR.out _ _ _ _ _ _ H3.out.2.2.1).mono ?_
    rintro r w4 ⟨rfl, hb⟩
    have H4 := Lib.hid (H3.out.past hb)
    clear p0 p1 p2 p3 p4 q0 q1 q2 q3 q4
    obtain ⟨p0, p1, p2, p3, p4⟩ := five H4.out.1
    obtain ⟨q0, q1, q2, q3, q4⟩ := five H4.out.2.1
    clear hb
    cases E
    all_goals
      go_wp2_with fail
      have H4d := Lib.hid (H4.out.past (Below.refl _ _).drew)
      go_region_held3 (fun w' => w'.cell? ⟨w.heap.size, 0, none⟩ = some (.int .i64 k) ∧ w'.cell? ⟨w.heap.size, 1, none⟩ = some (.string a) ∧ w'.cell? ⟨w.heap.size, 2, none⟩ = some (.string v) ∧ w'.cell? ⟨w.heap.size, 3, none⟩ = some (.slice S m d) ∧ w'.cell? ⟨w.heap.size, 4, none⟩ = some (.slice A n c) ∧ w'.cell? ⟨w.heap.size + 1, 0, none⟩ = some (.int .i64 k') ∧ w'.cell? ⟨w.heap.size + 1, 1, none⟩ = some (.string a') ∧ w'.cell? ⟨w.heap.size + 1, 2, none⟩ = some (.string v') ∧ w'.cell? ⟨w.heap.size + 1, 3, none⟩ = some (.slice S' m' d') ∧ w'.cell? ⟨w.heap.size + 1, 4, none⟩ = some (.slice A' n' c')) (first | exact Hold.cells H4d.out | exact Hold.cells H4.out | exact Hold.cells H5.out | exact Hold.cells H6.out | exact Hold.cells H7.out | exact Hold.cells H8.out | exact Hold.cells H9.out | exact Hold.cells H10.out) (first | (go_at_call 12; refine (HI.out _ _ _ _ _ _ H4d.out.2.2.1).mono ?_; rintro r w5 ⟨rfl, hb5⟩; have H5 := Lib.hid (H4d.out.past hb5)) | (go_at_call 13; refine (HP.out _ _ _ _ _ _ H5.out.2.2.1).mono ?_; rintro r w6 ⟨rfl, hb6⟩; have H6 := Lib.hid (H5.out.past hb6)) | (go_at_call 14; refine (HC.out _ _ _ _ _ _ H6.out.2.2.1).mono ?_; rintro r w7 ⟨rfl, hb7⟩; have H7 := Lib.hid (H6.out.past hb7)) | (go_at_call 15; refine (HD.out _ _ _ _ _ _ H7.out.2.2.1).mono ?_; rintro r w8 ⟨rfl, hb8⟩; have H8 := Lib.hid (H7.out.past hb8)) | (go_at_call 16; refine (HS.out _ _ _ _ _ _ _ _ _ _ _ H8.out.2.2.1 H8.out.2.2.2.1).mono ?_; rintro r w9 ⟨rfl, hb9⟩; have H9 := Lib.hid (H8.out.past hb9)) | (go_at_call 17; refine (HT.out _ _ _ _ _ _ _ _ _ _ _ H9.out.2.2.1 H9.out.2.2.2.1).mono ?_; rintro r w10 ⟨rfl, hb10⟩; have H10 := Lib.hid (H9.out.past hb10)))
      go_wp2_with fail
      go_ret
      exact ⟨rfl, H10.out.2.2.2.2⟩
  | true =>
    obtain ⟨hf, htt⟩ := isF_frm hi
    have hpl := pr_len f hf
    have CQ := fun x0 x1 x2 x3 x4 w hL => rpr_any f x0 x1 x2 x3 x4 w hf (by omega) hL
    rw [hi] at CI CR
    rw [print_of hi] at CP
    obtain ⟨P, hP⟩ : ∃ P : ByteArray, P = Nm.mk (pr f) := ⟨_, rfl⟩
    rw [← hP] at CP CQ
    have hss : (P.toList == P.toList) = true := by rw [toList_eq]; simp
    have HI := Lib.hid CI
    have HR := Lib.hid CR
    have HP := Lib.hid CP
    have HQ := Lib.hid CQ
    clear CI CR CP CQ hP hi hf htt hpl
    go_wp2_with fail
    refine (HR.out _ _ _ _ _ _ H3.out.2.2.1).mono ?_
    rintro r w9 ⟨rfl, hb⟩
    have H9 := Lib.hid (H3.out.past hb)
    clear p0 p1 p2 p3 p4 q0 q1 q2 q3 q4
    obtain ⟨p0, p1, p2, p3, p4⟩ := five H9.out.1
    obtain ⟨q0, q1, q2, q3, q4⟩ := five H9.out.2.1
    clear hb
    go_wp2_with fail
    refine (HQ.out _ _ _ _ _ _ H9.out.2.2.1).mono ?_
    rintro r w10 ⟨rfl, hb⟩
    have H10 := Lib.hid (H9.out.past hb)
    clear p0 p1 p2 p3 p4 q0 q1 q2 q3 q4
    obtain ⟨p0, p1, p2, p3, p4⟩ := five H10.out.1
    obtain ⟨q0, q1, q2, q3, q4⟩ := five H10.out.2.1
    clear hb
    cases E
    all_goals
      go_wp2_with fail
      have H10d := Lib.hid (H10.out.past (Below.refl _ _).drew)
      go_region_held3 (fun w' => w'.cell? ⟨w.heap.size, 0, none⟩ = some (.int .i64 k) ∧ w'.cell? ⟨w.heap.size, 1, none⟩ = some (.string a) ∧ w'.cell? ⟨w.heap.size, 2, none⟩ = some (.string v) ∧ w'.cell? ⟨w.heap.size, 3, none⟩ = some (.slice S m d) ∧ w'.cell? ⟨w.heap.size, 4, none⟩ = some (.slice A n c) ∧ w'.cell? ⟨w.heap.size + 1, 0, none⟩ = some (.int .i64 k') ∧ w'.cell? ⟨w.heap.size + 1, 1, none⟩ = some (.string a') ∧ w'.cell? ⟨w.heap.size + 1, 2, none⟩ = some (.string v') ∧ w'.cell? ⟨w.heap.size + 1, 3, none⟩ = some (.slice S' m' d') ∧ w'.cell? ⟨w.heap.size + 1, 4, none⟩ = some (.slice A' n' c')) (first | exact Hold.cells H10d.out | exact Hold.cells H10.out | exact Hold.cells H11.out | exact Hold.cells H12.out | exact Hold.cells H13.out | exact Hold.cells H14.out | exact Hold.cells H15.out | exact Hold.cells H16.out) (first | (go_at_call 12; refine (HI.out _ _ _ _ _ _ H10d.out.2.2.1).mono ?_; rintro r w11 ⟨rfl, hb11⟩; have H11 := Lib.hid (H10d.out.past hb11)) | (go_at_call 13; refine (HP.out _ _ _ _ _ _ H11.out.2.2.1).mono ?_; rintro r w12 ⟨rfl, hb12⟩; have H12 := Lib.hid (H11.out.past hb12)) | (go_at_call 14; refine (HC.out _ _ _ _ _ _ H12.out.2.2.1).mono ?_; rintro r w13 ⟨rfl, hb13⟩; have H13 := Lib.hid (H12.out.past hb13)) | (go_at_call 15; refine (HD.out _ _ _ _ _ _ H13.out.2.2.1).mono ?_; rintro r w14 ⟨rfl, hb14⟩; have H14 := Lib.hid (H13.out.past hb14)) | (go_at_call 16; refine (HS.out _ _ _ _ _ _ _ _ _ _ _ H14.out.2.2.1 H14.out.2.2.2.1).mono ?_; rintro r w15 ⟨rfl, hb15⟩; have H15 := Lib.hid (H14.out.past hb15)) | (go_at_call 17; refine (HT.out _ _ _ _ _ _ _ _ _ _ _ H15.out.2.2.1 H15.out.2.2.2.1).mono ?_; rintro r w16 ⟨rfl, hb16⟩; have H16 := Lib.hid (H15.out.past hb16)))
      go_wp2_with fail
      go_ret
      exact ⟨rfl, H16.out.2.2.2.2⟩
end Go.Proofs.YticfemheneljmaaDoor.Fi
