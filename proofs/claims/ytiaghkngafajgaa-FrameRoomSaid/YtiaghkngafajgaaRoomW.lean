/- FrameRoom: the walk. -/
import Derived.Test.YtiaghkngafajgaaFKnown
import Derived.Deep.RegionHeld3
namespace Go.Proofs.Ytiaghkngafajgaa
open Go.RowKit
set_option linter.unusedVariables false
set_option maxRecDepth 100000

/-- A new row of bytes made a string: the row's cells at block g of whatever world. -/
theorem conv_blk (w : World) (g n : Nat) (l : List UInt8) (hn : n = l.length) (h : Blk w g 5 (Lib.byteCells l).toArray) :
    (convert 23 9 (.slice (some ⟨g, 0, none⟩) n n)).run Try.prog w = .ok (.string ⟨l.toArray⟩) w := by
  subst hn
  refine conv_mid w g 0 _ l (fun i hi => ?_)
  rw [Nat.zero_add, h.cell i, List.getElem?_toArray, Lib.byteCells, List.getElem?_map, List.getElem?_eq_getElem hi]
  rfl
/-- make of a row of bytes: all 0. -/
theorem made_zero (m : Nat) : madeCells #[.int .u8 0] m = (Lib.byteCells (List.replicate m 0)).toArray := by
  apply Array.ext'
  simp only [madeCells, Array.toList_map, Array.toList_range, Lib.byteCells]
  rw [List.map_replicate]
  refine List.ext_getElem (by simp) (fun i h1 h2 => ?_)
  simp [Nat.mod_one]
theorem make_bytes (m : Nat) (hm : m ≤ 1000000) (w : World) :
    (Instr.makeSlice 23 (.int .i64 (m : Int)) (.int .i64 (m : Int))).run Try.prog w = .ok (.slice (some ⟨w.heap.size, 0, none⟩) m m) (w.alloc (.cells (Lib.byteCells (List.replicate m 0)).toArray 5)) := by
  obtain ⟨i, hi, hz, hs1, hb1⟩ := info_parts info8
  have h := run_makeSlice (P := Try.prog) w 23 5 i (.int .u8 0) Try.underlying23 hi hz .i64 .i64 m m (by omega) (by omega) (by rw [hs1]; omega) (by rw [hb1]; omega) (by omega)
  rw [hs1] at h
  rw [← made_zero]
  have e : (Value.int .u8 0).cells = #[.int .u8 0] := rfl
  rw [e] at h
  simpa using h
/-- The message of the statement: m bytes 0. -/
def one (m : Nat) : List UInt8 := 4 :: 130 :: 0 :: m.toUInt8 :: List.replicate m 0
theorem one_len (m : Nat) : (one m).length = 4 + m := by simp [one]; omega
theorem one_hd (m : Nat) (h : m ≤ 209) (X : List UInt8) : Sp.hd (one m ++ X) = (4, m, 0) := by
  have e1 : Sp.hd (one m ++ X) = Sp.hd (4 :: 130 :: 0 :: m.toUInt8 :: (List.replicate m 0 ++ X)) := rfl
  have e2 : (m.toUInt8).toNat = m := by rw [UInt8.toNat_ofNat']; omega
  have e3 : Sp.num ([0, m.toUInt8] : List UInt8) = m := by simp [Sp.num]; omega
  rw [e1, Sp.hd, if_neg (by decide)]
  show (if (130 : UInt8).toNat < 128 then _ else _) = _
  rw [if_neg (by decide), if_neg (by decide), if_neg (by simp)]
  have e4 : (0 :: m.toUInt8 :: (List.replicate m 0 ++ X)).take ((130 : UInt8).toNat - 128) = [0, m.toUInt8] := rfl
  rw [e4, e3, if_neg (by omega)]
  rfl
theorem one_nx (m : Nat) (h : m ≤ 209) (X : List UInt8) : nx (one m ++ X) = (one m, 0, X) := by
  have hl := one_len m
  unfold nx
  rw [one_hd m h X]
  simp only [ne_eq, not_true_eq_false, if_false]
  rw [if_neg (by rw [List.length_append]; omega), ← hl, List.take_left, List.drop_left]

set_option maxHeartbeats 4000000 in
theorem room_go (n k : Int) (r : Nat) (m m2 : Nat) (X : List UInt8) (v2 : Nat) (w : World) (hk0 : 0 ≤ k) (hk1 : k ≤ 65535) (hn0 : 0 ≤ n) (hn1 : n ≤ 255) (hr : n % 3 = r)
    (hm : (m : Int) = k % 200 + 10) (hm0 : 10 ≤ m) (hm1 : m ≤ 209) (hm2 : (16000 : Int) - ((4 : Int) + m) - 1 + r = m2) (hX : fd (one m) (List.replicate m2 0) = (one m ++ X, v2)) (hX2 : fd X (one m) = (X ++ one m, 0))
    (hv : v2 = 13 ∧ r = 2 ∨ v2 = 0 ∧ r ≠ 2) :
    Calls Try.prog 5 #[.int .u8 n, .int .u16 k] w fun r w' => r = .returned (.bool true) ∧ Below w.heap.size w w' := by
  have CN := Lib.hid New_any
  go_enter Try.func5, Try.ntmps5
  go_wp2_with fail
  refine (fknown_any _).mono ?_
  rintro r w1 ⟨rfl, hb1⟩
  go_wp2_with fail
  refine (CN.out _).mono ?_
  rintro r w2 ⟨rfl, h2, hb2, hs2⟩
  go_wp2_with fail
  rw [← hm]
  have q0 : (m : Int) / 256 = 0 := by omega
  have q1 : IntKind.u8.wrap (m : Int) = m := by simp [IntKind.wrap, IntKind.bits, IntKind.signed]; omega
  have q2 : IntKind.u8.wrap 0 = 0 := by decide
  have A1 : (#[.int .u8 0, .int .u8 m] : Array Value) = (Lib.byteCells [0, m.toUInt8]).toArray := by
    have h9 : (m : Int) % 256 = m := by omega
    simp [Lib.byteCells, h9]
  have mk := fun w => make_bytes m (by omega) w
  obtain ⟨Z, hZ⟩ : ∃ Z, Z = (Lib.byteCells (List.replicate m 0)).toArray := ⟨_, rfl⟩
  obtain ⟨sA, hsA⟩ : ∃ s : ByteArray, s = ⟨[0, m.toUInt8].toArray⟩ := ⟨_, rfl⟩
  obtain ⟨sB, hsB⟩ : ∃ s : ByteArray, s = ⟨(List.replicate m 0).toArray⟩ := ⟨_, rfl⟩
  have VA : ∀ (w : World) (g : Nat), Blk w g 5 #[.int .u8 0, .int .u8 m] → (convert 23 9 (.slice (some ⟨g, 0, none⟩) 2 2)).run Try.prog w = .ok (.string sA) w := fun w g h => by
    rw [hsA]
    exact conv_blk w g 2 _ rfl (by rw [← A1]; exact h)
  have VB : ∀ (w : World) (g : Nat), Blk w g 5 Z → (convert 23 9 (.slice (some ⟨g, 0, none⟩) m m)).run Try.prog w = .ok (.string sB) w := fun w g h => by
    rw [hsB]
    exact conv_blk w g m _ (by simp) (by rw [← hZ]; exact h)
  rw [← hZ] at mk
  have sA2 : sA.size = 2 := by rw [hsA]; rfl
  have sB2 : sB.size = m := by rw [hsB]; simp [ByteArray.size]
  have HsA := Lib.hid hsA
  have HsB := Lib.hid hsB
  clear hZ A1 hm hsA hsB
  have n1 : w1.heap.size + 1 = w2.heap.size := hs2.symm
  have n2 : ∀ o, w1.heap.size + 1 + 1 = (w2.alloc o).heap.size := fun o => by simp [hs2]
  have bA1 : Blk (w2.alloc (.cells #[.int .u8 0, .int .u8 m] 5)).drew (w1.heap.size + 1) 5 #[.int .u8 0, .int .u8 m] := by rw [n1]; exact (Blk.new w2 _ _).drew
  have bA2 : Blk ((w2.alloc (.cells #[.int .u8 0, .int .u8 m] 5)).alloc (.cells Z 5)).drew (w1.heap.size + 1) 5 #[.int .u8 0, .int .u8 m] := by rw [n1]; exact ((Blk.new w2 _ _).alloc _).drew
  have bB2 : Blk ((w2.alloc (.cells #[.int .u8 0, .int .u8 m] 5)).alloc (.cells Z 5)).drew (w1.heap.size + 1 + 1) 5 Z := by rw [n2]; exact (Blk.new (w2.alloc _) _ _).drew
  have bB1 : Blk (w2.alloc (.cells Z 5)).drew (w1.heap.size + 1) 5 Z := by rw [n1]; exact (Blk.new w2 _ _).drew
  have bB3 : Blk ((w2.alloc (.cells Z 5)).alloc (.cells #[.int .u8 0, .int .u8 m] 5)).drew (w1.heap.size + 1) 5 Z := by rw [n1]; exact ((Blk.new w2 _ _).alloc _).drew
  have bA3 : Blk ((w2.alloc (.cells Z 5)).alloc (.cells #[.int .u8 0, .int .u8 m] 5)).drew (w1.heap.size + 1 + 1) 5 #[.int .u8 0, .int .u8 m] := by rw [n2]; exact (Blk.new (w2.alloc _) _ _).drew
  have E1 := VA _ _ bA1
  have E2 := VA _ _ bA2
  have E3 := VA _ _ bA3
  have F1 := VB _ _ bB1
  have F2 := VB _ _ bB2
  have F3 := VB _ _ bB3
  clear n1 n2 VA VB bA1 bA2 bA3 bB1 bB2 bB3
  obtain ⟨O, hO⟩ : ∃ O, O = ⟨#[4, 130]⟩ ++ sA ++ sB := ⟨_, rfl⟩
  have hOl : O.data.toList = one m := by
    rw [hO, HsA.out, HsB.out, ByteArray.data_append, ByteArray.data_append]
    simp [one]
  have hOs : (O.size : Int) = 4 + m := by
    have : O.data.toList.length = O.size := rfl
    rw [hOl, one_len] at this
    omega
  have hO1 : (⟨(one m).toArray⟩ : ByteArray) = O := by rw [← hOl]
  have mk2 := fun w => make_bytes m2 (by omega) w
  obtain ⟨Z2, hZ2⟩ : ∃ Z, Z = (Lib.byteCells (List.replicate m2 0)).toArray := ⟨_, rfl⟩
  obtain ⟨sC, hsC⟩ : ∃ s : ByteArray, s = ⟨(List.replicate m2 0).toArray⟩ := ⟨_, rfl⟩
  have VC : ∀ (w : World) (g : Nat), Blk w g 5 Z2 → (convert 23 9 (.slice (some ⟨g, 0, none⟩) m2 m2)).run Try.prog w = .ok (.string sC) w := fun w g h => by
    rw [hsC]
    exact conv_blk w g m2 _ (by simp) (by rw [← hZ2]; exact h)
  rw [← hZ2] at mk2
  have sC2 : sC.size = m2 := by rw [hsC]; simp [ByteArray.size]
  have hCl : sC.data.toList = List.replicate m2 0 := by rw [hsC]
  have HV := Lib.hid VC
  have f1 : fd [] O.data.toList = (one m, 0) := by
    rw [hOl]
    unfold fd
    rw [one_len, if_neg (by simp only [List.length_nil]; omega)]
    rfl
  have f2 : fd (one m) sC.data.toList = (one m ++ X, v2) := by rw [hCl, hX]
  have f3 : nxV (one m ++ X) = Value.tuple #[.string O, .int .i64 0] := by
    unfold nxV
    rw [one_nx m hm1 X, hO1]
    rfl
  have f4 : fd X O.data.toList = (X ++ one m, 0) := by rw [hOl, hX2]
  have CF1 := Lib.hid (fun (p g : Nat) (w : World) (h : Cut w p g []) => f1 ▸ Feed_any p g [] O w h (by unfold maxLen; omega))
  have CF2 := Lib.hid (fun (p g : Nat) (w : World) (h : Cut w p g (one m)) => f2 ▸ Feed_any p g (one m) sC w h (by unfold maxLen; omega))
  have CN2 := Lib.hid (fun (p g : Nat) (w : World) (h : Cut w p g (one m ++ X)) => f3 ▸ (one_nx m hm1 X) ▸ Next_any p g (one m ++ X) w h)
  have CF3 := Lib.hid (fun (p g : Nat) (w : World) (h : Cut w p g X) => f4 ▸ Feed_any p g X O w h (by unfold maxLen; omega))
  clear f1 f2 f3 f4
  have key : ∀ OA OB, Below w2.heap.size w2 ((w2.alloc OA).alloc OB).drew := fun OA OB => (((Below.refl w2.heap.size w2).alloc (Nat.le_refl _) OA).alloc (by simp) OB).drew
  have HO := Lib.hid hO.symm
  have hb12 := hb1.trans (hb2.mono hb1.size)
  have sz1 := hb1.size
  clear hZ2 VC hO hOl hO1 hsC hCl HsA HsB hX hX2 CN hb2
  go_region_with fail
  all_goals (go_wp2_with fail)
  all_goals
    rw [HO.out]
    refine (CF1.out _ _ _ (h2.past (key _ _))).mono ?_
    rintro r w3 ⟨rfl, g3, hg3, h3, k3⟩
    obtain ⟨b3, hge3, s3⟩ := fed_own (hb12.trans ((key _ _).mono (by omega))) sz1 sz1 (by simp; omega) hg3 k3
    clear k3 hg3 E1 E2 E3 F1 F2 F3 CF1
    have E4 := HV.out (w3.alloc (.cells Z2 5)) w3.heap.size (Blk.new w3 _ _)
    go_wp2_with fail
    refine (CF2.out _ _ _ (h3.past ((Below.refl _ _).alloc (Nat.le_refl _) _))).mono ?_
    rintro r w4 ⟨rfl, g4, hg4, h4, k4⟩
    obtain ⟨b4, hge4, s4⟩ := fed_own (b3.alloc s3 _) sz1 hge3 (by simp; omega) hg4 k4
    clear k4 hg4 h3 b3 CF2 E4
    rcases hv with ⟨rfl, rfl⟩ | ⟨rfl, hr2⟩
  all_goals
    try have hr3 : ((r : Int) == 2) = false := by rw [beq_eq_false_iff_ne]; omega
    try have hr4 : (r : Int) ≤ 1 := by omega
    try clear hr2
    go_wp2_with fail
    refine (CN2.out _ _ _ h4).mono ?_
    rintro r w5 ⟨rfl, h5, k5⟩
    obtain ⟨b5, s5⟩ := nxt_own b4 sz1 hge4 s4 k5
    clear k5 h4 b4 CN2
    go_wp2_with fail
    refine (CF3.out _ _ _ h5).mono ?_
    rintro r w6 ⟨rfl, g6, hg6, h6, k6⟩
    obtain ⟨b6, hge6, s6⟩ := fed_own b5 sz1 hge4 s5 hg6 k6
    clear k6 hg6 h5 b5 CF3
    go_wp2_with fail
  all_goals
    go_ret
    exact ⟨ret_bool (by first | rfl | (rw [decide_eq_true_eq]; omega)), b6⟩

theorem wf_u8' {a : Int} (h : (Lit.int .u8 a).wf = true) : 0 ≤ a ∧ a ≤ 255 := by simpa [Lit.wf, IntKind.min, IntKind.max, IntKind.signed, IntKind.bits] using h
theorem wf_u16' {a : Int} (h : (Lit.int .u16 a).wf = true) : 0 ≤ a ∧ a ≤ 65535 := by simpa [Lit.wf, IntKind.min, IntKind.max, IntKind.signed, IntKind.bits] using h
theorem walk_FrameRoom (n : Int) (hn : (Lit.int .u8 n).wf = true) (k : Int) (hk : (Lit.int .u16 k).wf = true) (w : World) :
    Calls Try.prog 5 #[.int .u8 n, .int .u16 k] w fun r w' => r = .returned (.bool true) ∧ Below w.heap.size w w' := by
  obtain ⟨h0, h1⟩ := wf_u8' hn
  obtain ⟨h2, h3⟩ := wf_u16' hk
  obtain ⟨m, hm⟩ : ∃ m : Nat, (m : Int) = k % 200 + 10 := ⟨(k % 200 + 10).toNat, by omega⟩
  obtain ⟨r, hr⟩ : ∃ r : Nat, n % 3 = r := ⟨(n % 3).toNat, by omega⟩
  obtain ⟨m2, hm2⟩ : ∃ m2 : Nat, (16000 : Int) - ((4 : Int) + m) - 1 + r = m2 := ⟨((16000 : Int) - ((4 : Int) + m) - 1 + r).toNat, by omega⟩
  by_cases h9 : r = 2
  · refine room_go n k r m m2 [] 13 w h2 h3 h0 h1 hr hm (by omega) (by omega) hm2 ?_ ?_ (Or.inl ⟨rfl, h9⟩)
    · unfold fd
      rw [one_len, List.length_replicate, if_pos (by omega), List.append_nil]
    · unfold fd
      rw [one_len, if_neg (by simp only [List.length_nil]; omega)]
  · refine room_go n k r m m2 (List.replicate m2 0) 0 w h2 h3 h0 h1 hr hm (by omega) (by omega) hm2 ?_ ?_ (Or.inr ⟨rfl, h9⟩)
    · unfold fd
      rw [one_len, List.length_replicate, if_neg (by omega)]
    · unfold fd
      rw [one_len, List.length_replicate, if_neg (by omega)]
end Go.Proofs.Ytiaghkngafajgaa
