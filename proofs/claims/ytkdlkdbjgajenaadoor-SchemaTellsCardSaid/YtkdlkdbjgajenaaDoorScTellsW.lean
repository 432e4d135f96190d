/- SchemaTells: the walk. -/
import Derived.Test.YtkdlkdbjgajenaaDoorScKnown
import Derived.Test.YtkdlkdbjgajenaaDoorScRCheck
namespace Go.Proofs.YtkdlkdbjgajenaaDoor
open Go.RowKit
set_option linter.unusedVariables false
set_option maxRecDepth 100000

theorem findV_form (o : Option Sc.Ty) : ∃ (x : ByteArray) (sy : Nat) (sg ok : Bool), findV o = .tuple #[.agg #[.string x, .int .i64 sy, .bool sg], .bool ok] := by
  cases o with
  | none => exact ⟨⟨#[]⟩, 0, false, false, rfl⟩
  | some t => exact ⟨t.1, t.2.1, t.2.2, true, rfl⟩
set_option maxHeartbeats 4000000 in
theorem walk_SchemaTells (n : ByteArray) (hn : n.size ≤ maxLen) (v : ByteArray) (hv : v.size ≤ maxLen) (w : World) :
    Calls Tryd.prog 3 #[.string n, .string v] w fun r w' => r = .returned (.bool true) ∧ Below w.heap.size w w' := by
  have CK := Lib.hid sknown_any
  by_cases h40 : 40 < (n.size : Int)
  · go_enter Tryd.func3, Tryd.ntmps3
    go_wp2_with fail
    refine (CK.out _).mono ?_
    rintro r w1 ⟨rfl, hb1⟩
    go_wp2_with fail
    go_ret
    exact ⟨rfl, hb1⟩
  have h40' : (n.size : Int) ≤ 40 := by omega
  by_cases h100 : 100 < (v.size : Int)
  · clear h40
    go_enter Tryd.func3, Tryd.ntmps3
    go_wp2_with fail
    refine (CK.out _).mono ?_
    rintro r w1 ⟨rfl, hb1⟩
    go_wp2_with fail
    go_ret
    exact ⟨rfl, hb1⟩
  have h100' : (v.size : Int) ≤ 100 := by omega
  obtain ⟨x, sy, sg, ok, hfv⟩ := findV_form (Sc.find (Nm.bs n))
  have CF := fun w => find_any n w (by omega)
  have CR := fun w => rfind_any n w (by omega)
  have CC := fun w => check_any n v w (by omega)
  have CD := fun w => rcheck_any n v w (by omega)
  have CI := fun w => isInt_any v w
  have CJ := fun w => risInt_any v w (by omega)
  obtain ⟨K, hK⟩ : ∃ K, K = Sc.check (Nm.bs n) (Nm.bs v) := ⟨_, rfl⟩
  obtain ⟨I, hI⟩ : ∃ I, I = Sc.isInt (Nm.bs v) := ⟨_, rfl⟩
  rw [hfv] at CF CR
  rw [← hK] at CC CD
  rw [← hI] at CI CJ
  have CF := Lib.hid CF
  have CR := Lib.hid CR
  have CC := Lib.hid CC
  have CD := Lib.hid CD
  have CI := Lib.hid CI
  have CJ := Lib.hid CJ
  clear hfv hK hI h40 h100
  go_enter Tryd.func3, Tryd.ntmps3
  go_wp2_with fail
  refine (CK.out _).mono ?_
  rintro r w0 ⟨rfl, hb0⟩
  have hs0 := hb0.size
  go_wp2_with fail
  refine (CF.out _).mono ?_
  rintro r w1 ⟨rfl, hb1⟩
  have ha0 := hb0.trans (hb1.mono hs0)
  have hs1 := ha0.size
  have B1 := Blk.new w1 24 #[.string x, .int .i64 sy, .bool sg]
  have ha1 := ha0.alloc hs1 (.cells #[.string x, .int .i64 sy, .bool sg] 24)
  have hz1 := ha1.size
  clear hb1 hb0 hs0
  go_wp2_with fail
  refine (CR.out _).mono ?_
  rintro r w2 ⟨rfl, hb2⟩
  have hs2 := hb2.size
  have B2 := (B1.past hb2).alloc (.cells #[.string x, .int .i64 sy, .bool sg] 24)
  have D2 := Blk.new w2 24 #[.string x, .int .i64 sy, .bool sg]
  have ha2 := (ha1.trans (hb2.mono hz1)).alloc (Nat.le_trans hz1 hs2) (.cells #[.string x, .int .i64 sy, .bool sg] 24)
  have hz2 := ha2.size
  have c0 : (w2.alloc (.cells #[.string x, .int .i64 sy, .bool sg] 24)).cell? ⟨w1.heap.size, 0, none⟩ = some (.string x) := B2.cell 0
  have c1 : (w2.alloc (.cells #[.string x, .int .i64 sy, .bool sg] 24)).cell? ⟨w1.heap.size, 1, none⟩ = some (.int .i64 sy) := B2.cell 1
  have c2 : (w2.alloc (.cells #[.string x, .int .i64 sy, .bool sg] 24)).cell? ⟨w1.heap.size, 2, none⟩ = some (.bool sg) := B2.cell 2
  clear hb2 B1
  go_wp2_with fail
  refine (CC.out _).mono ?_
  rintro r w3 ⟨rfl, hb3⟩
  have ha3 := ha2.trans (hb3.mono hz2)
  have hz3 := ha3.size
  go_wp2_with fail
  refine (CD.out _).mono ?_
  rintro r w4 ⟨rfl, hb4⟩
  have ha4 := ha3.trans (hb4.mono hz3)
  have hz4 := ha4.size
  go_wp2_with fail
  refine (CI.out _).mono ?_
  rintro r w5 ⟨rfl, rfl⟩
  go_wp2_with fail
  refine (CJ.out _).mono ?_
  rintro r w6 ⟨rfl, rfl⟩
  go_wp2_with fail
  go_ret
  exact ⟨rfl, ha4⟩
end Go.Proofs.YtkdlkdbjgajenaaDoor
