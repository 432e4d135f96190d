/- 'known' of layer 5 answers true. -/
import Derived.Test.YtkdlkdbjgajenaaDoorScFits
namespace Go.Proofs.YtkdlkdbjgajenaaDoor
open Go.RowKit
set_option linter.unusedVariables false
set_option maxRecDepth 100000

def kUid : ByteArray := ⟨#[117, 105, 100, 110, 117, 109, 98, 101, 114]⟩
theorem sk1 : findV (Sc.find (Nm.bs ⟨#[85, 105, 100, 78, 117, 109, 98, 101, 114]⟩)) = .tuple #[.agg #[.string ⟨#[117, 105, 100, 110, 117, 109, 98, 101, 114]⟩, .int .i64 3, .bool true], .bool true] := by kernel_rfl
theorem sk2 : findV (Sc.find (Nm.bs ⟨#[120]⟩)) = .tuple #[.agg #[.string ⟨#[]⟩, .int .i64 0, .bool false], .bool false] := by kernel_rfl
theorem sk3 : ((Sc.check (Nm.bs kUid) (Nm.bs ⟨#[48, 55]⟩) : Nat) : Int) = 17 := by kernel_rfl
theorem sk4 : ((Sc.check (Nm.bs ⟨#[99, 110]⟩) (Nm.bs ⟨#[97]⟩) : Nat) : Int) = 0 := by kernel_rfl
theorem sk5 : ((Sc.check (Nm.bs ⟨#[120]⟩) (Nm.bs ⟨#[97]⟩) : Nat) : Int) = 16 := by kernel_rfl
theorem sk6 : Sc.isInt (Nm.bs ⟨#[45, 53]⟩) = true := by kernel_rfl
set_option maxHeartbeats 4000000 in
theorem sknown_any (w : World) : Calls Tryd.prog 6 #[] w fun r w' => r = .returned (.bool true) ∧ Below w.heap.size w w' := by
  have C1 := Lib.hid (fun w => sk1 ▸ find_any ⟨#[85, 105, 100, 78, 117, 109, 98, 101, 114]⟩ w (by decide))
  have C2 := Lib.hid (fun w => sk2 ▸ find_any ⟨#[120]⟩ w (by decide))
  have CA := Lib.hid all_any
  have C3 : Hid (∀ w, Calls Tryd.prog 9 #[.string ⟨#[117, 105, 100, 110, 117, 109, 98, 101, 114]⟩, .string ⟨#[48, 55]⟩] w fun e w' => e = .returned (.int .i64 17) ∧ Below w.heap.size w w') := fun w => sk3 ▸ check_any kUid ⟨#[48, 55]⟩ w (by decide)
  have C4 : Hid (∀ w, Calls Tryd.prog 9 #[.string ⟨#[99, 110]⟩, .string ⟨#[97]⟩] w fun e w' => e = .returned (.int .i64 0) ∧ Below w.heap.size w w') := fun w => sk4 ▸ check_any ⟨#[99, 110]⟩ ⟨#[97]⟩ w (by decide)
  have C5 : Hid (∀ w, Calls Tryd.prog 9 #[.string ⟨#[120]⟩, .string ⟨#[97]⟩] w fun e w' => e = .returned (.int .i64 16) ∧ Below w.heap.size w w') := fun w => sk5 ▸ check_any ⟨#[120]⟩ ⟨#[97]⟩ w (by decide)
  have C6 : Hid (∀ w, Calls Tryd.prog 11 #[.string ⟨#[45, 53]⟩] w fun e w' => e = .returned (.bool true) ∧ w = w') := fun w => sk6 ▸ isInt_any ⟨#[45, 53]⟩ w
  go_enter Tryd.func6, Tryd.ntmps6
  go_wp2_with fail
  refine (C1.out _).mono ?_
  rintro r w1 ⟨rfl, hb1⟩
  have hs1 := hb1.size
  have B1 := Blk.new w1 24 #[.string ⟨#[117, 105, 100, 110, 117, 109, 98, 101, 114]⟩, .int .i64 3, .bool true]
  have ha1 := hb1.alloc hs1 (.cells #[.string ⟨#[117, 105, 100, 110, 117, 109, 98, 101, 114]⟩, .int .i64 3, .bool true] 24)
  have hz1 := ha1.size
  clear hb1
  go_wp2_with fail
  refine (C2.out _).mono ?_
  rintro r w2 ⟨rfl, hb2⟩
  have hs2 := hb2.size
  have B2 := (B1.past hb2).alloc (.cells #[.string ⟨#[]⟩, .int .i64 0, .bool false] 24)
  have ha2 := (ha1.trans (hb2.mono hz1)).alloc (Nat.le_trans hz1 hs2) (.cells #[.string ⟨#[]⟩, .int .i64 0, .bool false] 24)
  have hz2 := ha2.size
  have c0 : (w2.alloc (.cells #[.string ⟨#[]⟩, .int .i64 0, .bool false] 24)).cell? ⟨w1.heap.size, 0, none⟩ = some (.string ⟨#[117, 105, 100, 110, 117, 109, 98, 101, 114]⟩) := B2.cell 0
  have c1 : (w2.alloc (.cells #[.string ⟨#[]⟩, .int .i64 0, .bool false] 24)).cell? ⟨w1.heap.size, 1, none⟩ = some (.int .i64 3) := B2.cell 1
  have c2 : (w2.alloc (.cells #[.string ⟨#[]⟩, .int .i64 0, .bool false] 24)).cell? ⟨w1.heap.size, 2, none⟩ = some (.bool true) := B2.cell 2
  clear hb2 B1
  go_wp2_with fail
  refine (CA.out _).mono ?_
  rintro r w3 ⟨rfl, hT, hb3⟩
  have ha3 := ha2.trans (hb3.mono hz2)
  have hz3 := ha3.size
  clear hT hb3
  go_wp2_with fail
  refine (C3.out _).mono ?_
  rintro r w4 ⟨rfl, hb4⟩
  have ha4 := ha3.trans (hb4.mono hz3)
  have hz4 := ha4.size
  go_wp2_with fail
  refine (C4.out _).mono ?_
  rintro r w5 ⟨rfl, hb5⟩
  have ha5 := ha4.trans (hb5.mono hz4)
  have hz5 := ha5.size
  go_wp2_with fail
  refine (C5.out _).mono ?_
  rintro r w6 ⟨rfl, hb6⟩
  have ha6 := ha5.trans (hb6.mono hz5)
  go_wp2_with fail
  refine (C6.out _).mono ?_
  rintro r w7 ⟨rfl, rfl⟩
  go_wp2_with fail
  go_ret
  exact ⟨rfl, ha6⟩
end Go.Proofs.YtkdlkdbjgajenaaDoor
