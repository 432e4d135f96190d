/- BerReads: the walk. -/
import Derived.Test.YthlpblipadgenaaKnown
import Derived.Test.YthlpblipadgenaaRRead
import Derived.Test.YthlpblipadgenaaRSame
namespace Go.Proofs.Ythlpblipadgenaa
open Go.RowKit
set_option linter.unusedVariables false
set_option maxRecDepth 100000

set_option maxHeartbeats 4000000 in
theorem reads_long (s : ByteArray) (w : World) (hs : 5000 < (s.size : Int)) :
    Calls Try.prog 3 #[.string s] w fun r w' => r = .returned (.bool true) ∧ Below w.heap.size w w' := by
  go_enter Try.func3, Try.ntmps3
  go_wp2_with fail
  refine (known_any _).mono ?_
  rintro r w1 ⟨rfl, hb1⟩
  go_wp2_with fail
  go_ret
  exact ⟨rfl, hb1⟩

set_option maxHeartbeats 4000000 in
theorem reads_bad (s : ByteArray) (w : World) (hs : (s.size : Int) ≤ 5000) (p x : Nat) (hr : rd 20 s.data.toList 0 = .bad p x) (a b c : Nat) (hh : Sp.hd s.data.toList = (a, b, c)) :
    Calls Try.prog 3 #[.string s] w fun r w' => r = .returned (.bool true) ∧ Below w.heap.size w w' := by
  have CR : Hid (∀ w, Calls Try.prog 11 #[.string s] w (ReadPost 0 w (.bad p x))) := fun w => hr ▸ Read_any s w (by omega)
  have CF : Hid (∀ w, Calls Try.prog 12 #[.string s] w (RPost w (.bad p x))) := fun w => hr ▸ rRead_any s w (by omega)
  have CH : Hid (∀ w, Calls Try.prog 13 #[.string s] w fun r w' => r = .returned (.tuple #[.int .i64 a, .int .i64 b, .int .i64 c]) ∧ Below w.heap.size w w') := fun w => by
    refine (Head_any s w (Nat.le_trans (by omega) (show 5000 ≤ maxLen by decide))).mono ?_
    rintro r w' ⟨rfl, hb⟩
    exact ⟨by rw [hdV_of hh], hb⟩
  have CG : Hid (∀ w, Calls Try.prog 14 #[.string s] w fun r w' => r = .returned (.tuple #[.int .i64 a, .int .i64 b, .int .i64 c]) ∧ Below w.heap.size w w') := fun w => by
    refine (rHead_any s w (by omega)).mono ?_
    rintro r w' ⟨rfl, hb⟩
    exact ⟨by rw [hdV_of hh], hb⟩
  have CS : Hid (∀ w, Calls Try.prog 15 #[.agg #[.int .u8 0, .string ⟨#[]⟩, .slice none 0 0], .agg #[.int .u8 0, .string ⟨#[]⟩, .slice none 0 0]] w fun r w' => r = .returned (.bool true) ∧ Below w.heap.size w w') := fun w => by
    refine (rsame_any (.mk 0 ⟨#[]⟩ []) (.mk 0 ⟨#[]⟩ []) _ _ _ _ _ _ w (Lies.leaf (by decide) (by decide)) (Lies.leaf (by decide) (by decide))).mono ?_
    rintro r w' ⟨rfl, hb⟩
    exact ⟨by rw [eqEl_self], hb⟩
  clear hr hh
  go_enter Try.func3, Try.ntmps3
  go_wp2_with fail
  refine (known_any _).mono ?_
  rintro r w1 ⟨rfl, hb1⟩
  have h1 := hb1
  have s1 := hb1.size
  clear hb1
  go_wp2_with fail
  refine (CR.out _).mono ?_
  rintro r w2 ⟨rfl, hb2⟩
  go_wp2_with fail
  have B2 := Blk.new w2 25 #[.int .u8 0, .string ⟨#[]⟩, .slice none 0 0]
  have s2 := hb2.size
  have h2 := (h1.trans (hb2.mono s1)).alloc (by omega) (.cells #[.int .u8 0, .string ⟨#[]⟩, .slice none 0 0] 25)
  clear h1 hb2
  refine (CF.out _).mono ?_
  rintro r w3 ⟨rfl, hb3⟩
  have B3 := B2.past hb3
  have s3 := hb3.size
  simp only [World.size_alloc] at s3
  have h3 := h2.trans (hb3.mono (by simp; omega))
  clear h2 B2 hb3
  go_wp2_with fail
  have B4 := B3.alloc (.cells #[.int .u8 0, .string ⟨#[]⟩, .slice none 0 0] 25)
  have D4 := Blk.new w3 25 #[.int .u8 0, .string ⟨#[]⟩, .slice none 0 0]
  have h4 := h3.alloc (by omega) (.cells #[.int .u8 0, .string ⟨#[]⟩, .slice none 0 0] 25)
  clear h3 B3
  refine (CH.out _).mono ?_
  rintro r w4 ⟨rfl, hb4⟩
  have B5 := B4.past hb4
  have D5 := D4.past hb4
  have s4 := hb4.size
  simp only [World.size_alloc] at s4
  have h5 := h4.trans (hb4.mono (by simp; omega))
  clear h4 B4 D4 hb4
  go_wp2_with fail
  refine (CG.out _).mono ?_
  rintro r w5 ⟨rfl, hb5⟩
  have B6 := B5.past hb5
  have D6 := D5.past hb5
  have s5 := hb5.size
  have h6 := h5.trans (hb5.mono (by omega))
  clear h5 B5 D5 hb5
  have c0 : w5.cell? ⟨w2.heap.size, 0, none⟩ = some (.int .u8 0) := B6.cell 0
  have c1 : w5.cell? ⟨w2.heap.size, 1, none⟩ = some (.string ⟨#[]⟩) := B6.cell 1
  have c2 : w5.cell? ⟨w2.heap.size, 2, none⟩ = some (.slice none 0 0) := B6.cell 2
  have d0 : w5.cell? ⟨w3.heap.size, 0, none⟩ = some (.int .u8 0) := D6.cell 0
  have d1 : w5.cell? ⟨w3.heap.size, 1, none⟩ = some (.string ⟨#[]⟩) := D6.cell 1
  have d2 : w5.cell? ⟨w3.heap.size, 2, none⟩ = some (.slice none 0 0) := D6.cell 2
  go_wp2_with fail
  refine (CS.out _).mono ?_
  rintro r w6 ⟨rfl, hb6⟩
  go_wp2_with fail
  go_ret
  exact ⟨rfl, h6.trans (hb6.mono (by omega))⟩
set_option maxHeartbeats 4000000 in
theorem reads_ok (s : ByteArray) (w : World) (hs : (s.size : Int) ≤ 5000) (e : El) (n : Nat) (hr : rd 20 s.data.toList 0 = .ok e n) (a b c : Nat) (hh : Sp.hd s.data.toList = (a, b, c)) :
    Calls Try.prog 3 #[.string s] w fun r w' => r = .returned (.bool true) ∧ Below w.heap.size w w' := by
  have CR : Hid (∀ w, Calls Try.prog 11 #[.string s] w (ReadPost 0 w (.ok e n))) := fun w => hr ▸ Read_any s w (by omega)
  have CF : Hid (∀ w, Calls Try.prog 12 #[.string s] w (RPost w (.ok e n))) := fun w => hr ▸ rRead_any s w (by omega)
  have CH : Hid (∀ w, Calls Try.prog 13 #[.string s] w fun r w' => r = .returned (.tuple #[.int .i64 a, .int .i64 b, .int .i64 c]) ∧ Below w.heap.size w w') := fun w => by
    refine (Head_any s w (Nat.le_trans (by omega) (show 5000 ≤ maxLen by decide))).mono ?_
    rintro r w' ⟨rfl, hb⟩
    exact ⟨by rw [hdV_of hh], hb⟩
  have CG : Hid (∀ w, Calls Try.prog 14 #[.string s] w fun r w' => r = .returned (.tuple #[.int .i64 a, .int .i64 b, .int .i64 c]) ∧ Below w.heap.size w w') := fun w => by
    refine (rHead_any s w (by omega)).mono ?_
    rintro r w' ⟨rfl, hb⟩
    exact ⟨by rw [hdV_of hh], hb⟩
  clear hr hh
  go_enter Try.func3, Try.ntmps3
  go_wp2_with fail
  refine (known_any _).mono ?_
  rintro r w1 ⟨rfl, hb1⟩
  have h1 := hb1
  have s1 := hb1.size
  clear hb1
  go_wp2_with fail
  refine (CR.out _).mono ?_
  rintro r w2 ⟨x, y, z, rfl, hb2, hl2⟩
  have L2 := hl2.imp (P' := (· < w2.heap.size)) (fun b h => h.2) (fun _ _ => rfl)
  clear hl2
  have hx : ∃ (t : Nat) (b : ByteArray) (A : Option Addr) (m c : Nat), [x, y, z] = [.int .u8 t, .string b, .slice A m c] := by
    obtain ⟨t, b, ks⟩ := e
    obtain ⟨A, c, ds, hcs, _⟩ := L2.open_
    exact ⟨t, b, A, ks.length, c, hcs⟩
  obtain ⟨t1, b1, A1, n1, c1, hx⟩ := hx
  simp only [List.cons.injEq, and_true] at hx
  obtain ⟨rfl, rfl, rfl⟩ := hx
  go_wp2_with fail
  have B2 := Blk.new w2 25 #[.int .u8 t1, .string b1, .slice A1 n1 c1]
  have s2 := hb2.size
  have h2 := (h1.trans (hb2.mono s1)).alloc (by omega) (.cells #[.int .u8 t1, .string b1, .slice A1 n1 c1] 25)
  clear h1 hb2
  have L2' := L2.alloc (.cells #[.int .u8 t1, .string b1, .slice A1 n1 c1] 25)
  refine (CF.out _).mono ?_
  rintro r w3 ⟨x', y', z', rfl, hb3, hl3⟩
  have M3 := hl3.imp (P' := (· < w3.heap.size)) (fun b h => h.2) (fun _ _ => rfl)
  have L3 := L2'.past hb3
  clear hl3 L2 L2'
  have hx : ∃ (t : Nat) (b : ByteArray) (A : Option Addr) (m c : Nat), [x', y', z'] = [.int .u8 t, .string b, .slice A m c] := by
    obtain ⟨t, b, ks⟩ := e
    obtain ⟨A, c, ds, hcs, _⟩ := M3.open_
    exact ⟨t, b, A, ks.length, c, hcs⟩
  obtain ⟨t2, b2, A2, n2, c2, hx⟩ := hx
  simp only [List.cons.injEq, and_true] at hx
  obtain ⟨rfl, rfl, rfl⟩ := hx
  have B3 := B2.past hb3
  have s3 := hb3.size
  simp only [World.size_alloc] at s3
  have h3 := h2.trans (hb3.mono (by simp; omega))
  clear h2 B2 hb3
  go_wp2_with fail
  have B4 := B3.alloc (.cells #[.int .u8 t2, .string b2, .slice A2 n2 c2] 25)
  have D4 := Blk.new w3 25 #[.int .u8 t2, .string b2, .slice A2 n2 c2]
  have h4 := h3.alloc (by omega) (.cells #[.int .u8 t2, .string b2, .slice A2 n2 c2] 25)
  have L4 := L3.alloc (.cells #[.int .u8 t2, .string b2, .slice A2 n2 c2] 25)
  have M4 := M3.alloc (.cells #[.int .u8 t2, .string b2, .slice A2 n2 c2] 25)
  clear h3 B3 L3 M3
  refine (CH.out _).mono ?_
  rintro r w4 ⟨rfl, hb4⟩
  have B5 := B4.past hb4
  have L5 := L4.past hb4
  have M5 := M4.past hb4
  have D5 := D4.past hb4
  have s4 := hb4.size
  simp only [World.size_alloc] at s4
  have h5 := h4.trans (hb4.mono (by simp; omega))
  clear h4 B4 D4 L4 M4 hb4
  go_wp2_with fail
  refine (CG.out _).mono ?_
  rintro r w5 ⟨rfl, hb5⟩
  have B6 := B5.past hb5
  have L6 := L5.past hb5
  have M6 := M5.past hb5
  have D6 := D5.past hb5
  have s5 := hb5.size
  have h6 := h5.trans (hb5.mono (by omega))
  clear h5 B5 D5 L5 M5 hb5
  have ec0 : w5.cell? ⟨w2.heap.size, 0, none⟩ = some (.int .u8 t1) := B6.cell 0
  have ec1 : w5.cell? ⟨w2.heap.size, 1, none⟩ = some (.string b1) := B6.cell 1
  have ec2 : w5.cell? ⟨w2.heap.size, 2, none⟩ = some (.slice A1 n1 c1) := B6.cell 2
  have ed0 : w5.cell? ⟨w3.heap.size, 0, none⟩ = some (.int .u8 t2) := D6.cell 0
  have ed1 : w5.cell? ⟨w3.heap.size, 1, none⟩ = some (.string b2) := D6.cell 1
  have ed2 : w5.cell? ⟨w3.heap.size, 2, none⟩ = some (.slice A2 n2 c2) := D6.cell 2
  have CS : Hid (Calls Try.prog 15 #[.agg #[.int .u8 t1, .string b1, .slice A1 n1 c1], .agg #[.int .u8 t2, .string b2, .slice A2 n2 c2]] w5 fun r w' => r = .returned (.bool true) ∧ Below w5.heap.size w5 w') := by
    refine (rsame_any e e _ _ _ _ _ _ w5 L6 M6).mono ?_
    rintro r w' ⟨rfl, hb⟩
    exact ⟨by rw [eqEl_self], hb⟩
  go_wp2_with fail
  refine CS.out.mono ?_
  rintro r w6 ⟨rfl, hb6⟩
  go_wp2_with fail
  go_ret
  exact ⟨rfl, h6.trans (hb6.mono (by omega))⟩

theorem walk_BerReads (s : ByteArray) (w0 : s.size ≤ 9223372036854775807) (w : World) :
    Calls Try.prog 3 #[.string s] w fun r w' => r = .returned (.bool true) ∧ Below w.heap.size w w' := by
  by_cases hs : 5000 < (s.size : Int)
  · exact reads_long s w hs
  · cases hr : rd 20 s.data.toList 0 with
    | bad p x => exact reads_bad s w (by omega) p x hr _ _ _ rfl
    | ok e n => exact reads_ok s w (by omega) e n hr _ _ _ rfl
end Go.Proofs.Ythlpblipadgenaa
