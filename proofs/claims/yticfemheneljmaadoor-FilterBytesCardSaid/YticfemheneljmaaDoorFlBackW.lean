/- FilterBack: the walk. -/
import Derived.Test.YticfemheneljmaaDoorFlReads
import Derived.Test.YticfemheneljmaaDoorFlForm
import Derived.Test.YticfemheneljmaaDoorNConv
namespace Go.Proofs.YticfemheneljmaaDoor.Fi
open Go.RowKit
set_option linter.unusedVariables false
set_option maxRecDepth 100000

/-- A filter in its box, and as a tree; all that was there before is as it was. -/
def One (w0 : World) (b1 : Nat) (f : Fil) (x0 x1 x2 x3 x4 : Value) (w : World) : Prop :=
  Blk w b1 25 #[x0, x1, x2, x3, x4] ∧ Lies w (· < w.heap.size) f [x0, x1, x2, x3, x4] ∧ Below w0.heap.size w0 w
theorem One.past {w0 : World} {b1 : Nat} {f : Fil} {x0 x1 x2 x3 x4 : Value} {w w' : World} (h : One w0 b1 f x0 x1 x2 x3 x4 w) (hb : Below w.heap.size w w') : One w0 b1 f x0 x1 x2 x3 x4 w' :=
  ⟨h.1.past hb, h.2.1.past hb, h.2.2.trans (hb.mono h.2.2.size)⟩
theorem One.new {w : World} {f : Fil} {x0 x1 x2 x3 x4 : Value} (hL : Lies w (· < w.heap.size) f [x0, x1, x2, x3, x4]) :
    One w w.heap.size f x0 x1 x2 x3 x4 (w.alloc (.cells #[x0, x1, x2, x3, x4] 25)) :=
  ⟨Blk.new w _ _, hL.alloc _, (Below.refl _ _).alloc (Nat.le_refl _) _⟩
set_option maxHeartbeats 4000000 in
theorem fback_go (w : World) (f : Fil) (x0 x1 x2 x3 x4 : Value) (hL : Lies w (· < w.heap.size) f [x0, x1, x2, x3, x4]) (cut : Nat) (hcut : cut < 65536) (ch : UInt8) :
    Calls Tryd.prog 4 #[.agg #[x0, x1, x2, x3, x4], .int .u16 cut, .int .u8 ch.toNat] w fun r w' => r = .returned (.bool true) ∧ Below w.heap.size w w' := by
  obtain ⟨k, a, v, S, m, d, A, n, c, hcs⟩ := hL.form
  simp only [List.cons.injEq, and_true] at hcs
  obtain ⟨rfl, rfl, rfl, rfl, rfl⟩ := hcs
  have CK := Lib.hid known_any
  have H0 := Lib.hid (One.new hL)
  have HF := Lib.hid (fun (h : Fil) x0 x1 x2 x3 x4 w hL => few_any h 13 0 x0 x1 x2 x3 x4 w (by show (0 : Int) = 13 - (13 : Nat); omega) (by omega) (by omega) hL)
  have CI := fun x0 x1 x2 x3 x4 w hL => Is_any f x0 x1 x2 x3 x4 w hL
  have CP := fun x0 x1 x2 x3 x4 w hL => Print_any f x0 x1 x2 x3 x4 w hL
  clear hL
  go_enter Tryd.func4, Tryd.ntmps4
  go_wp2_with fail
  refine (CK.out _).mono ?_
  rintro r w1 ⟨rfl, hb⟩
  have H1 := Lib.hid (H0.out.past hb)
  obtain ⟨p0, p1, p2, p3, p4⟩ := five H1.out.1
  clear hb H0
  go_wp2_with fail
  refine (HF.out f _ _ _ _ _ _ H1.out.2.1).mono ?_
  rintro r w2 ⟨rfl, hb⟩
  have H2 := Lib.hid (H1.out.past hb)
  clear p0 p1 p2 p3 p4 hb
  obtain ⟨p0, p1, p2, p3, p4⟩ := five H2.out.1
  cases few 13 f
  · go_wp2_with fail
    go_ret
    exact ⟨rfl, H2.out.2.2⟩
  clear CK HF H1
  cases hi : isF f with
  | false =>
    rw [hi] at CI
    have HI := Lib.hid CI
    clear CI CP hi
    go_wp2_with fail
    refine (HI.out _ _ _ _ _ _ H2.out.2.1).mono ?_
    rintro r w3 ⟨rfl, hb⟩
    have hb3 := H2.out.2.2.trans (hb.mono H2.out.2.2.size)
    go_wp2_with fail
    go_ret
    exact ⟨rfl, hb3⟩
  | true =>
    obtain ⟨hf, htt⟩ := isF_frm hi
    have hpl := pr_len f hf
    rw [hi] at CI
    rw [print_of hi] at CP
    obtain ⟨P, hP⟩ : ∃ P : ByteArray, P = Nm.mk (pr f) := ⟨_, rfl⟩
    have hPz : P.size ≤ 80000 := by rw [hP]; show (pr f).length ≤ _; omega
    have hPb : Nm.bs P = pr f := by rw [hP]
    obtain ⟨tl, htl⟩ := pr_head f
    have hP0 : 0 < P.size := by rw [hP]; show 0 < (pr f).length; rw [htl]; simp
    rw [← hP] at CP
    have CA := fun w => parse_any P w (by omega)
    rw [hPb, parse_pr hi] at CA
    have HI := Lib.hid CI
    have HP := Lib.hid CP
    have HA := Lib.hid CA
    have HIF := Lib.hid hi
    have HPb := Lib.hid hPb
    clear CI CP CA hi hP hf htt hpl htl hPb
    go_wp2_with fail
    refine (HI.out _ _ _ _ _ _ H2.out.2.1).mono ?_
    rintro r w3 ⟨rfl, hb⟩
    have H3 := Lib.hid (H2.out.past hb)
    clear p0 p1 p2 p3 p4 hb
    obtain ⟨p0, p1, p2, p3, p4⟩ := five H3.out.1
    go_wp2_with fail
    refine (HP.out _ _ _ _ _ _ H3.out.2.1).mono ?_
    rintro r w4 ⟨rfl, hb⟩
    have H4 := Lib.hid (H3.out.past hb)
    clear p0 p1 p2 p3 p4 hb
    obtain ⟨p0, p1, p2, p3, p4⟩ := five H4.out.1
    go_wp2_with fail
    refine (HA.out _).mono ?_
    rintro r w5 ⟨y0, y1, y2, y3, y4, rfl, hb, hLg⟩
    have H5 := Lib.hid (H4.out.past hb)
    have hLg5 := hLg.imp (w' := w5) (P' := (· < w5.heap.size)) (fun b h => h.2) (fun _ _ => rfl)
    obtain ⟨k', a', v', S', m', d', A', n', c', hcs⟩ := hLg.form
    simp only [List.cons.injEq, and_true] at hcs
    obtain ⟨rfl, rfl, rfl, rfl, rfl⟩ := hcs
    clear p0 p1 p2 p3 p4 hb hLg
    have HG5 := Lib.hid (One.new hLg5)
    have H6 := Lib.hid (H5.out.past ((Below.refl _ _).alloc (Nat.le_refl _) (.cells #[.int .i64 k', .string a', .string v', .slice S' m' d', .slice A' n' c'] 25)))
    obtain ⟨p0, p1, p2, p3, p4⟩ := five H6.out.1
    obtain ⟨q0, q1, q2, q3, q4⟩ := five HG5.out.1
    have CS := fun x0 x1 x2 x3 x4 y0 y1 y2 y3 y4 w hL hL' => rsame_any f f x0 x1 x2 x3 x4 y0 y1 y2 y3 y4 w hL hL'
    rw [eqF_self] at CS
    have HS := Lib.hid CS
    clear CS hLg5
    go_wp2_with fail
    refine (HS.out _ _ _ _ _ _ _ _ _ _ _ H6.out.2.1 HG5.out.2.1).mono ?_
    rintro r w7 ⟨rfl, hb⟩
    have H7 := Lib.hid (H6.out.past hb)
    clear p0 p1 p2 p3 p4 q0 q1 q2 q3 q4 hb
    obtain ⟨cap, w8, hc, hR, hb8, hsz⟩ := row_of_string P w7
    obtain ⟨q, hq⟩ : ∃ q : Nat, (cut : Int) % P.size = q := ⟨cut % P.size, by omega⟩
    have hqP : q < P.size := by
      have : (cut : Int) % P.size < P.size := Int.emod_lt_of_pos _ (by omega)
      omega
    have hP1 : ((P.size : Int) == 0) = false := by rw [beq_eq_false_iff_ne]; omega
    have hlen : (Nm.bs P).length = P.size := rfl
    have f0 : w8.frozen? ⟨w7.heap.size, q, none⟩ = false := hR.frozen hqP
    have H8 := Lib.hid (H7.out.2.2.trans (hb8.mono H7.out.2.2.size))
    have hR2 := hR.set_ q ch
    have c0 := hR.cell (i := q) (List.getElem?_eq_getElem hqP)
    have hb9 := (H8.out.setCell (p := ⟨w7.heap.size, q, none⟩) (H7.out.2.2.size) (.int .u8 (ch.toNat : Int)))
    have E := row_string (cap := cap) hR2
    rw [List.length_set, hlen] at E
    have HR2 := Lib.hid hR2
    clear hR hR2 hb8 hlen H2 H3 H4 H5 H6 HG5
    have hsz1 : (Nm.mk ((Nm.bs P).set q ch)).size = P.size := by show ((Nm.bs P).set q ch).length = _; rw [List.length_set]; rfl
    have R1 := Lib.hid (fun w => reads_any (Nm.mk ((Nm.bs P).set q ch)) w (by omega))
    have R2 := Lib.hid (fun w => reads_any (P ++ Nm.mk [ch]) w (by rw [ByteArray.size_append]; show P.size + 1 ≤ _; omega))
    have R3 := fun w => right_any (P.extract 0 q) w (by rw [ByteArray.size_extract]; omega)
    have hless : parse (Nm.bs (P.extract 0 q)) = none := by
      rw [ext_to]
      refine parse_less (r := (Nm.bs P).drop q) HIF.out (by rw [← HPb.out]; exact (List.take_append_drop q (Nm.bs P)).symm) ?_
      intro h0
      have h1 := congrArg List.length h0
      rw [List.length_drop, List.length_nil, show (Nm.bs P).length = P.size from rfl] at h1
      omega
    rw [hless] at R3
    have hR3 := Lib.hid R3
    have R4 := fun w => right_any (P ++ ⟨#[40, 41]⟩) w (by rw [ByteArray.size_append]; show P.size + 2 ≤ _; omega)
    have hmore : parse (Nm.bs (P ++ ⟨#[40, 41]⟩)) = none := by
      rw [bs_app, HPb.out]
      exact parse_more HIF.out (by decide)
    rw [hmore] at R4
    have hR4 := Lib.hid R4
    have hno1 : ¬ (9223372036854775807 < P.size + 1) := by omega
    have hno2 : ¬ (9223372036854775807 < P.size + 2) := by omega
    clear hsz1 R3 R4 hless hmore
    go_wp2_with fail
    refine (R1.out _).mono ?_
    rintro r w9 ⟨rfl, hb⟩
    have H9 := Lib.hid (hb9.trans (hb.mono hb9.size))
    have H10 := Lib.hid (H9.out.alloc H9.out.size (.cells #[.int .u8 (ch.toNat : Int)] 5))
    have hc2 := conv_blk (w9.alloc (.cells #[.int .u8 (ch.toNat : Int)] 5)) w9.heap.size 1 [ch] rfl (Blk.new _ _ _)
    clear hb hb9 c0 f0 E hc HR2
    go_wp2_with fail
    refine (R2.out _).mono ?_
    rintro r w10 ⟨rfl, hb⟩
    have H11 := Lib.hid (H10.out.trans (hb.mono H10.out.size))
    clear hb hc2
    go_wp2_with fail
    refine (hR3.out _).mono ?_
    rintro r w11 ⟨rfl, hb⟩
    have H12 := Lib.hid (H11.out.trans (hb.mono H11.out.size))
    clear hb
    go_wp2_with fail
    refine (hR4.out _).mono ?_
    rintro r w12 ⟨rfl, hb⟩
    have H13 := Lib.hid (H12.out.trans (hb.mono H12.out.size))
    clear hb
    go_wp2_with fail
    go_ret
    exact ⟨rfl, H13.out⟩
theorem u8_of {a : Int} (h : 0 ≤ a ∧ a ≤ 255) : ∃ c : UInt8, a = c.toNat := ⟨a.toNat.toUInt8, by rw [UInt8.toNat_ofNat']; omega⟩
theorem walk_FilterBack (w : World) (f : Fil) (x0 x1 x2 x3 x4 : Value) (hL : Lies w (· < w.heap.size) f [x0, x1, x2, x3, x4]) (a : Int) (ha : (Lit.int .u16 a).wf = true) (b : Int) (hb : (Lit.int .u8 b).wf = true) :
    Calls Tryd.prog 4 #[.agg #[x0, x1, x2, x3, x4], .int .u16 a, .int .u8 b] w fun r w' => r = .returned (.bool true) ∧ Below w.heap.size w w' := by
  obtain ⟨ch, rfl⟩ := u8_of (a := b) (by simpa [Lit.wf, IntKind.min, IntKind.max, IntKind.signed, IntKind.bits] using hb)
  have h2 : 0 ≤ a ∧ a ≤ 65535 := by simpa [Lit.wf, IntKind.min, IntKind.max, IntKind.signed, IntKind.bits] using ha
  obtain ⟨cut, rfl⟩ := Int.eq_ofNat_of_zero_le h2.1
  exact fback_go w f x0 x1 x2 x3 x4 hL cut (by omega) ch
end Go.Proofs.YticfemheneljmaaDoor.Fi
