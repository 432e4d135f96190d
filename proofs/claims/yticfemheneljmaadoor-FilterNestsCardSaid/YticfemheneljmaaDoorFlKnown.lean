/- What known answers. -/
import Derived.Test.YticfemheneljmaaDoorFlParse
namespace Go.Proofs.YticfemheneljmaaDoor.Fi
open Go.RowKit
set_option linter.unusedVariables false
set_option maxRecDepth 100000

def kOne : Fil := .mk 8 (Nm.mk [99, 110]) (Nm.mk []) [Nm.mk [97], Nm.mk []] []
def kTwo : Fil := .mk 3 (Nm.mk []) (Nm.mk []) [] [.mk 4 (Nm.mk [115, 110]) (Nm.mk [98]) [] []]
def kAll : Fil := .mk 1 (Nm.mk []) (Nm.mk []) [] [kOne, kTwo]
theorem kAll_is : isF kAll = true := by kernel_rfl
theorem kAll_pr : pr kAll = [40, 38, 40, 99, 110, 61, 97, 42, 41, 40, 33, 40, 115, 110, 61, 98, 41, 41, 41] := by kernel_rfl
theorem kAll_parse : parse (Nm.bs ⟨#[40, 38, 40, 99, 110, 61, 97, 42, 41, 40, 33, 40, 115, 110, 61, 98, 41, 41, 41]⟩) = some kAll := by
  show parse [40, 38, 40, 99, 110, 61, 97, 42, 41, 40, 33, 40, 115, 110, 61, 98, 41, 41, 41] = _
  rw [← kAll_pr]; exact parse_pr kAll_is
theorem kNone_parse : parse (Nm.bs ⟨#[40, 99, 110, 61]⟩) = none := by kernel_rfl
def kZero : Fil := .mk 0 (Nm.mk []) (Nm.mk []) [] []
theorem kZero_is : isF kZero = false := by kernel_rfl
theorem kZero_lies (w : World) (P : Nat → Prop) : Lies w P kZero [.int .i64 0, .string ⟨#[]⟩, .string ⟨#[]⟩, .slice none 0 0, .slice none 0 0] :=
  Lies.shut (ks := []) (A := none) (c := 0) (S := none) (sc := 0) (ss := []) (ds := fun _ => []) (by decide) (by decide) (by simp [maxLen]) (Nat.zero_le _) (StrsAt.nil _ _ _) (by simp) (by simp [maxLen]) (Nat.zero_le _) (KidsAt.nil _ _ _ _)
set_option maxHeartbeats 2000000 in
theorem known_any (w : World) : Calls Tryd.prog 8 #[] w fun r w' => r = .returned (.bool true) ∧ Below w.heap.size w w' := by
  have P1 := fun w => parse_any ⟨#[40, 38, 40, 99, 110, 61, 97, 42, 41, 40, 33, 40, 115, 110, 61, 98, 41, 41, 41]⟩ w (by decide)
  have P2 := fun w => parse_any ⟨#[40, 99, 110, 61]⟩ w (by decide)
  rw [kAll_parse] at P1
  rw [kNone_parse] at P2
  have H1 := Lib.hid P1
  have H2 := Lib.hid P2
  clear P1 P2
  go_enter Tryd.func8, Tryd.ntmps8
  go_wp2_with fail
  refine (H1.out _).mono ?_
  rintro r w1 ⟨x0, x1, x2, x3, x4, rfl, hb1, hL⟩
  have hL1 := hL.imp (w' := w1) (P' := (· < w1.heap.size)) (fun b h => h.2) (fun _ _ => rfl)
  obtain ⟨S, sc, A, c, ds, hcs, ha, hv, hsl, hsc, hs, hss, hl, hcl, hK⟩ := hL1.open_
  simp only [List.cons.injEq, and_true] at hcs
  obtain ⟨rfl, rfl, rfl, rfl, rfl⟩ := hcs
  have hs1 := hb1.size
  have hL2 : Lies w1 (· < w1.heap.size) kAll [.int .i64 1, .string ⟨#[]⟩, .string ⟨#[]⟩, .slice S 0 sc, .slice A 2 c] := hL1
  have HL := Lib.hid hL2
  have HK := Lib.hid hK
  have F1 := Blk.new w1 25 #[.int .i64 1, .string ⟨#[]⟩, .string ⟨#[]⟩, .slice S 0 sc, .slice A 2 c]
  have hc2 : 2 ≤ c := hcl
  have hb1' := hb1.alloc hs1 (.cells #[.int .i64 1, .string ⟨#[]⟩, .string ⟨#[]⟩, .slice S 0 sc, .slice A 2 c] 25)
  clear hL hL1 hL2 hK hs hss hsc hsl hv ha hl hcl hb1
  go_wp2_with fail
  refine (H2.out _).mono ?_
  rintro r w2 ⟨rfl, hb2⟩
  have hbA := ((Below.refl w1.heap.size w1).alloc (Nat.le_refl _) (.cells #[.int .i64 1, .string ⟨#[]⟩, .string ⟨#[]⟩, .slice S 0 sc, .slice A 2 c] 25)).trans (hb2.mono (by simp))
  obtain ⟨ad, k', a', v', S', m', d', A', n', c', rfl, hp, f0, f1, f2, f3, f4, hLk⟩ := KidsAt.kid HK.out hbA (i := 0) (by decide)
  obtain ⟨S3, sc3, A3, c3, ds3, hcs, ha, hv, hsl, hsc, hs, hss, hl, hcl, hK3⟩ := Lies.open_ (show Lies w2 (· < w2.heap.size) kOne _ from hLk)
  simp only [List.cons.injEq, and_true, Value.int.injEq, Value.string.injEq, Value.slice.injEq, true_and] at hcs
  obtain ⟨rfl, rfl, rfl, ⟨rfl, rfl, rfl⟩, rfl, rfl, rfl⟩ := hcs
  have F2 := F1.past hb2
  have hL2 := HL.out.past hbA
  have hb3 := hb1'.trans (hb2.mono (hb1'.size))
  have hs2 := hb2.size
  have F3 := F2.alloc (.cells #[.int .i64 0, .string ⟨#[]⟩, .string ⟨#[]⟩, .slice none 0 0, .slice none 0 0] 25)
  have hL3 := hL2.alloc (.cells #[.int .i64 0, .string ⟨#[]⟩, .string ⟨#[]⟩, .slice none 0 0, .slice none 0 0] 25)
  have hb4 := hb3.alloc hb3.size (.cells #[.int .i64 0, .string ⟨#[]⟩, .string ⟨#[]⟩, .slice none 0 0, .slice none 0 0] 25)
  obtain ⟨q0, q1, q2, q3, q4⟩ := five F3
  have HF3 := Lib.hid F3
  have HL3 := Lib.hid hL3
  have hz : Nm.mk (print kAll) = ⟨#[40, 38, 40, 99, 110, 61, 97, 42, 41, 40, 33, 40, 115, 110, 61, 98, 41, 41, 41]⟩ := by rw [print_of kAll_is, kAll_pr]
  have CP := fun w hL => Print_any kAll (.int .i64 1) (.string ⟨#[]⟩) (.string ⟨#[]⟩) (.slice S 0 sc) (.slice (some ad) 2 c) w hL
  rw [hz] at CP
  have CI := fun w hL => Is_any kAll (.int .i64 1) (.string ⟨#[]⟩) (.string ⟨#[]⟩) (.slice S 0 sc) (.slice (some ad) 2 c) w hL
  rw [kAll_is] at CI
  have CZ := fun w => Is_any kZero _ _ _ _ _ w (kZero_lies w _)
  rw [kZero_is] at CZ
  have CC := fun w hL => Count_any kAll (.int .i64 1) (.string ⟨#[]⟩) (.string ⟨#[]⟩) (.slice S 0 sc) (.slice (some ad) 2 c) w hL
  rw [show min (tot kAll : Int) 21 = 4 by kernel_rfl] at CC
  have CS := fun w hL hL' => same_any kAll kAll (.int .i64 1) (.string ⟨#[]⟩) (.string ⟨#[]⟩) (.slice S 0 sc) (.slice (some ad) 2 c) (.int .i64 1) (.string ⟨#[]⟩) (.string ⟨#[]⟩) (.slice S 0 sc) (.slice (some ad) 2 c) w hL hL'
  rw [eqF_self] at CS
  have HP := Lib.hid CP
  have HI := Lib.hid CI
  have HZ := Lib.hid CZ
  have HC := Lib.hid CC
  have HS := Lib.hid CS
  rw [Nat.zero_mul] at f0 f3
  have had : ad.add 0 = ad := rfl
  rw [had] at f0 f3
  have hp2 : ad.block < w2.heap.size := by simp at hs2; omega
  have f0' : (w2.alloc (.cells #[.int .i64 0, .string ⟨#[]⟩, .string ⟨#[]⟩, .slice none 0 0, .slice none 0 0] 25)).cell? ad = some (.int .i64 8) := (World.cell?_alloc_lt _ _ _ hp2).trans f0
  have f3' : (w2.alloc (.cells #[.int .i64 0, .string ⟨#[]⟩, .string ⟨#[]⟩, .slice none 0 0, .slice none 0 0] 25)).cell? ⟨ad.block, ad.off + 3, none⟩ = some (.slice S' 2 d') := (World.cell?_alloc_lt w2 _ ⟨ad.block, ad.off + 3, none⟩ hp2).trans f3
  clear CP CI CZ CC CS hz had f0 f1 f2 f3 f4 hLk HK HL ha hv hsl hss hl hs hsc hK3 hcl F1 F2 F3 hL2 hL3 hb1' hb2 hbA hs2 hb3
  go_wp2_with fail
  refine (HP.out _ HL3.out).mono ?_
  rintro r w5 ⟨rfl, hb5⟩
  have F5 := HF3.out.past hb5
  have hL5 := HL3.out.past hb5
  have hc5 := hb4.trans (hb5.mono hb4.size)
  clear q0 q1 q2 q3 q4 hb5
  obtain ⟨q0, q1, q2, q3, q4⟩ := five F5
  have HF5 := Lib.hid F5
  have HL5 := Lib.hid hL5
  clear F5 hL5
  go_wp2_with fail
  refine (HI.out _ HL5.out).mono ?_
  rintro r w6 ⟨rfl, hb6⟩
  have F6 := HF5.out.past hb6
  have hL6 := HL5.out.past hb6
  have hc6 := hc5.trans (hb6.mono hc5.size)
  clear q0 q1 q2 q3 q4 hb6
  obtain ⟨q0, q1, q2, q3, q4⟩ := five F6
  have HF6 := Lib.hid F6
  have HL6 := Lib.hid hL6
  clear F6 hL6
  go_wp2_with fail
  refine (HZ.out _).mono ?_
  rintro r w7 ⟨rfl, hb7⟩
  have F7 := HF6.out.past hb7
  have hL7 := HL6.out.past hb7
  have hc7 := hc6.trans (hb7.mono hc6.size)
  clear q0 q1 q2 q3 q4 hb7
  obtain ⟨q0, q1, q2, q3, q4⟩ := five F7
  have HF7 := Lib.hid F7
  have HL7 := Lib.hid hL7
  clear F7 hL7
  go_wp2_with fail
  refine (HC.out _ HL7.out).mono ?_
  rintro r w8 ⟨rfl, hb8⟩
  have F8 := HF7.out.past hb8
  have hL8 := HL7.out.past hb8
  have hc8 := hc7.trans (hb8.mono hc7.size)
  clear q0 q1 q2 q3 q4 hb8
  obtain ⟨q0, q1, q2, q3, q4⟩ := five F8
  have HF8 := Lib.hid F8
  have HL8 := Lib.hid hL8
  clear F8 hL8
  go_wp2_with fail
  refine (HS.out _ HL8.out HL8.out).mono ?_
  rintro r w9 ⟨rfl, hb9⟩
  have hc9 := hc8.trans (hb9.mono hc8.size)
  go_wp2_with fail
  go_ret
  exact ⟨rfl, hc9⟩
end Go.Proofs.YticfemheneljmaaDoor.Fi
