/- BerInner: the walk. -/
import Derived.Test.YthlpblipadgenaaLenW
namespace Go.Proofs.Ythlpblipadgenaa
open Go.RowKit
set_option linter.unusedVariables false
set_option maxRecDepth 100000

/-- i elements of tag 4 with the body x, one behind the other. -/
def rep : Nat → List UInt8
  | 0 => []
  | i + 1 => rep i ++ [4, 1, 120]
theorem rep_len : ∀ i, (rep i).length = 3 * i
  | 0 => rfl
  | i + 1 => by rw [rep, List.length_append, rep_len i]; simp; omega
def isBad (r : Res) (p x : Nat) : Bool :=
  match r with
  | .bad p' x' => p' == p && x' == x
  | .ok _ _ => false
theorem bad_of_isBad {r : Res} {p x : Nat} (h : isBad r p x = true) : r = .bad p x := by
  cases r with
  | bad p' x' => simp [isBad] at h; rw [h.1, h.2]
  | ok e n => simp [isBad] at h
theorem inner0 : ∀ k < 10, isBad (rd 20 (48 :: (3 * k + 2).toUInt8 :: (rep k ++ [4, 128])) 0) (2 + 3 * k) 11 = true := by decide +kernel
theorem inner1 : ∀ k < 10, isBad (rd 20 (48 :: (3 * k + 2).toUInt8 :: (rep k ++ [31, 0])) 0) (2 + 3 * k) 14 = true := by decide +kernel
theorem inner2 : ∀ k < 10, isBad (rd 20 (48 :: (3 * k + 2).toUInt8 :: (rep k ++ [4, 127])) 0) (2 + 3 * k) 11 = true := by decide +kernel
theorem inner3 : ∀ k < 10, isBad (rd 20 (48 :: (3 * k + 1).toUInt8 :: (rep k ++ [4])) 0) (2 + 3 * k) 11 = true := by decide +kernel
theorem size_list (b : ByteArray) (l : List UInt8) (h : b.data.toList = l) : b.size = l.length := by rw [← h]; rfl

set_option maxHeartbeats 4000000 in
theorem inner_walk0 (n m q : Int) (w : World) (hn0 : 0 ≤ n) (hn1 : n ≤ 255) (hq0 : 0 ≤ q) (hq1 : q ≤ 255) (hq : q % 4 = 0) :
    Calls Try.prog 9 #[.int .u8 n, .int .u8 m, .int .u8 q] w fun r w' => r = .returned (.bool true) ∧ Below w.heap.size w w' := by
  have hk0 : 0 ≤ n % 10 := by omega
  have hk1 : n % 10 < 10 := by omega
  have q1 : (q % 4 == 1) = false := by rw [hq]; rfl
  have q2 : (q % 4 == 2) = false := by rw [hq]; rfl
  have q3 : (q % 4 == 3) = false := by rw [hq]; rfl
  clear hq
  go_enter Try.func9, Try.ntmps9
  go_wp2_with (go_at_call 10; refine (known_any _).mono ?_; rintro e w1 ⟨rfl, hb1⟩)
  have hs1 := hb1.size
  go_loop [8, 9] (fun s i => ∃ (k : Nat) (b : ByteArray), (k : Int) ≤ n % 10 ∧ i = .int .i64 k ∧ s = .string b ∧ Hid (b.data.toList = rep k) ∧ b.size ≤ 27) (fun s i => 10 - (intOf i).toNat)
  case atStart => exact ⟨0, ⟨#[]⟩, by omega, rfl, rfl, rfl, by decide⟩
  case round =>
    obtain ⟨k, b, hk, rfl, rfl, hR, hb27⟩ := hrel
    by_cases hlt : (k : Int) < n % 10
    · have hbk : (b.size : Int) = 3 * k := by rw [size_list b _ hR.out, rep_len]; omega
      have hb24 : b.size ≤ 24 := by omega
      have Hbk := Lib.hid hbk
      clear hbk
      go_wp2_with fail
      go_round
      case rel =>
        refine ⟨k + 1, _, by omega, by go_num, rfl, ?_, ?_⟩
        · show _ = _
          rw [ByteArray.data_append, Array.toList_append, hR.out, rep]
        · rw [ByteArray.size_append]; show b.size + 3 ≤ 27; omega
      case measure => simp [intOf]; omega
    · have hke : n % 10 = k := by omega
      have hbk : b.size = 3 * k := by rw [size_list b _ hR.out, rep_len]
      have hk10 : k < 10 := by omega
      have Hke := Lib.hid hke
      have Hbk := Lib.hid hbk
      have hV : Hid (∀ (w : World) (x : Int), (convert 45 9 (.slice (some ⟨w.heap.size, 0, none⟩) 2 2)).run Try.prog (w.alloc (.cells #[.int .u8 48, .int .u8 x] 5)) = .ok (.string (strOfNums [48, x])) (w.alloc (.cells #[.int .u8 48, .int .u8 x] 5))) := fun w x => conv_lit w [48, x] (by simp)
      have hso : ∀ x : Int, (strOfNums [48, x]).size = 2 := fun x => strOfNums_size _
      have hC : Hid (∀ w, Calls Try.prog 11 #[.string (strOfNums [48, (b.size : Int) + 2] ++ b ++ ⟨#[4, 128]⟩)] w (ReadPost 0 w (.bad (2 + 3 * k) 11))) := fun w => by
        have := Read_any (strOfNums [48, (b.size : Int) + 2] ++ b ++ ⟨#[4, 128]⟩) w (by rw [ByteArray.size_append, ByteArray.size_append, hso]; show 2 + b.size + 2 ≤ _; omega)
        have hd : (strOfNums [48, (b.size : Int) + 2] ++ b ++ ⟨#[4, 128]⟩).data.toList = 48 :: (3 * k + 2).toUInt8 :: (rep k ++ [4, 128]) := by
          rw [ByteArray.data_append, Array.toList_append, ByteArray.data_append, Array.toList_append, hR.out, strOfNums_data]
          have e1 : ((b.size : Int) + 2).toNat = 3 * k + 2 := by omega
          simp only [List.map, e1]
          rfl
        rw [hd, bad_of_isBad (inner0 k hk10)] at this
        exact this
      clear hke hbk
      go_wp2_with fail
      rw [hV.out w1]
      simp only [Result.andThen]
      rw [Oper.upon_value]
      go_wp2_with fail
      refine (hC.out _).mono ?_
      rintro r w2 ⟨rfl, hb2⟩
      have hb2' := (hb1.alloc hs1 (.cells #[.int .u8 48, .int .u8 ((b.size : Int) + 2)] 5)).trans (hb2.mono (by simp; omega))
      have hs2 := hb2.size
      have hpl : ((2 + 3 * k : Nat) : Int) = 2 + (b.size : Int) := by have := Hbk.out; omega
      clear hb2 hC hV
      go_wp2_with fail
      go_ret
      exact ⟨rfl, hb2'.alloc (by simp at hs2; omega) _⟩

set_option maxHeartbeats 4000000 in
theorem inner_walk1 (n m q : Int) (w : World) (hn0 : 0 ≤ n) (hn1 : n ≤ 255) (hq0 : 0 ≤ q) (hq1 : q ≤ 255) (hq : q % 4 = 1) :
    Calls Try.prog 9 #[.int .u8 n, .int .u8 m, .int .u8 q] w fun r w' => r = .returned (.bool true) ∧ Below w.heap.size w w' := by
  have hk0 : 0 ≤ n % 10 := by omega
  have hk1 : n % 10 < 10 := by omega
  have q1 : (q % 4 == 1) = true := by rw [hq]; rfl
  have q2 : (q % 4 == 2) = false := by rw [hq]; rfl
  have q3 : (q % 4 == 3) = false := by rw [hq]; rfl
  clear hq
  go_enter Try.func9, Try.ntmps9
  go_wp2_with (go_at_call 10; refine (known_any _).mono ?_; rintro e w1 ⟨rfl, hb1⟩)
  have hs1 := hb1.size
  go_loop [8, 9] (fun s i => ∃ (k : Nat) (b : ByteArray), (k : Int) ≤ n % 10 ∧ i = .int .i64 k ∧ s = .string b ∧ Hid (b.data.toList = rep k) ∧ b.size ≤ 27) (fun s i => 10 - (intOf i).toNat)
  case atStart => exact ⟨0, ⟨#[]⟩, by omega, rfl, rfl, rfl, by decide⟩
  case round =>
    obtain ⟨k, b, hk, rfl, rfl, hR, hb27⟩ := hrel
    by_cases hlt : (k : Int) < n % 10
    · have hbk : (b.size : Int) = 3 * k := by rw [size_list b _ hR.out, rep_len]; omega
      have hb24 : b.size ≤ 24 := by omega
      have Hbk := Lib.hid hbk
      clear hbk
      go_wp2_with fail
      go_round
      case rel =>
        refine ⟨k + 1, _, by omega, by go_num, rfl, ?_, ?_⟩
        · show _ = _
          rw [ByteArray.data_append, Array.toList_append, hR.out, rep]
        · rw [ByteArray.size_append]; show b.size + 3 ≤ 27; omega
      case measure => simp [intOf]; omega
    · have hke : n % 10 = k := by omega
      have hbk : b.size = 3 * k := by rw [size_list b _ hR.out, rep_len]
      have hk10 : k < 10 := by omega
      have Hke := Lib.hid hke
      have Hbk := Lib.hid hbk
      have hV : Hid (∀ (w : World) (x : Int), (convert 45 9 (.slice (some ⟨w.heap.size, 0, none⟩) 2 2)).run Try.prog (w.alloc (.cells #[.int .u8 48, .int .u8 x] 5)) = .ok (.string (strOfNums [48, x])) (w.alloc (.cells #[.int .u8 48, .int .u8 x] 5))) := fun w x => conv_lit w [48, x] (by simp)
      have hso : ∀ x : Int, (strOfNums [48, x]).size = 2 := fun x => strOfNums_size _
      have hC : Hid (∀ w, Calls Try.prog 11 #[.string (strOfNums [48, (b.size : Int) + 2] ++ b ++ ⟨#[31, 0]⟩)] w (ReadPost 0 w (.bad (2 + 3 * k) 14))) := fun w => by
        have := Read_any (strOfNums [48, (b.size : Int) + 2] ++ b ++ ⟨#[31, 0]⟩) w (by rw [ByteArray.size_append, ByteArray.size_append, hso]; show 2 + b.size + 2 ≤ _; omega)
        have hd : (strOfNums [48, (b.size : Int) + 2] ++ b ++ ⟨#[31, 0]⟩).data.toList = 48 :: (3 * k + 2).toUInt8 :: (rep k ++ [31, 0]) := by
          rw [ByteArray.data_append, Array.toList_append, ByteArray.data_append, Array.toList_append, hR.out, strOfNums_data]
          have e1 : ((b.size : Int) + 2).toNat = 3 * k + 2 := by omega
          simp only [List.map, e1]
          rfl
        rw [hd, bad_of_isBad (inner1 k hk10)] at this
        exact this
      clear hke hbk
      go_wp2_with fail
      rw [hV.out w1]
      simp only [Result.andThen]
      rw [Oper.upon_value]
      go_wp2_with fail
      refine (hC.out _).mono ?_
      rintro r w2 ⟨rfl, hb2⟩
      have hb2' := (hb1.alloc hs1 (.cells #[.int .u8 48, .int .u8 ((b.size : Int) + 2)] 5)).trans (hb2.mono (by simp; omega))
      have hs2 := hb2.size
      have hpl : ((2 + 3 * k : Nat) : Int) = 2 + (b.size : Int) := by have := Hbk.out; omega
      clear hb2 hC hV
      go_wp2_with fail
      go_ret
      exact ⟨rfl, hb2'.alloc (by simp at hs2; omega) _⟩

set_option maxHeartbeats 4000000 in
theorem inner_walk2 (n m q : Int) (w : World) (hn0 : 0 ≤ n) (hn1 : n ≤ 255) (hq0 : 0 ≤ q) (hq1 : q ≤ 255) (hq : q % 4 = 2) :
    Calls Try.prog 9 #[.int .u8 n, .int .u8 m, .int .u8 q] w fun r w' => r = .returned (.bool true) ∧ Below w.heap.size w w' := by
  have hk0 : 0 ≤ n % 10 := by omega
  have hk1 : n % 10 < 10 := by omega
  have q1 : (q % 4 == 1) = false := by rw [hq]; rfl
  have q2 : (q % 4 == 2) = true := by rw [hq]; rfl
  have q3 : (q % 4 == 3) = false := by rw [hq]; rfl
  clear hq
  go_enter Try.func9, Try.ntmps9
  go_wp2_with (go_at_call 10; refine (known_any _).mono ?_; rintro e w1 ⟨rfl, hb1⟩)
  have hs1 := hb1.size
  go_loop [8, 9] (fun s i => ∃ (k : Nat) (b : ByteArray), (k : Int) ≤ n % 10 ∧ i = .int .i64 k ∧ s = .string b ∧ Hid (b.data.toList = rep k) ∧ b.size ≤ 27) (fun s i => 10 - (intOf i).toNat)
  case atStart => exact ⟨0, ⟨#[]⟩, by omega, rfl, rfl, rfl, by decide⟩
  case round =>
    obtain ⟨k, b, hk, rfl, rfl, hR, hb27⟩ := hrel
    by_cases hlt : (k : Int) < n % 10
    · have hbk : (b.size : Int) = 3 * k := by rw [size_list b _ hR.out, rep_len]; omega
      have hb24 : b.size ≤ 24 := by omega
      have Hbk := Lib.hid hbk
      clear hbk
      go_wp2_with fail
      go_round
      case rel =>
        refine ⟨k + 1, _, by omega, by go_num, rfl, ?_, ?_⟩
        · show _ = _
          rw [ByteArray.data_append, Array.toList_append, hR.out, rep]
        · rw [ByteArray.size_append]; show b.size + 3 ≤ 27; omega
      case measure => simp [intOf]; omega
    · have hke : n % 10 = k := by omega
      have hbk : b.size = 3 * k := by rw [size_list b _ hR.out, rep_len]
      have hk10 : k < 10 := by omega
      have Hke := Lib.hid hke
      have Hbk := Lib.hid hbk
      have hV : Hid (∀ (w : World) (x : Int), (convert 45 9 (.slice (some ⟨w.heap.size, 0, none⟩) 2 2)).run Try.prog (w.alloc (.cells #[.int .u8 48, .int .u8 x] 5)) = .ok (.string (strOfNums [48, x])) (w.alloc (.cells #[.int .u8 48, .int .u8 x] 5))) := fun w x => conv_lit w [48, x] (by simp)
      have hso : ∀ x : Int, (strOfNums [48, x]).size = 2 := fun x => strOfNums_size _
      have hC : Hid (∀ w, Calls Try.prog 11 #[.string (strOfNums [48, (b.size : Int) + 2] ++ b ++ ⟨#[4, 127]⟩)] w (ReadPost 0 w (.bad (2 + 3 * k) 11))) := fun w => by
        have := Read_any (strOfNums [48, (b.size : Int) + 2] ++ b ++ ⟨#[4, 127]⟩) w (by rw [ByteArray.size_append, ByteArray.size_append, hso]; show 2 + b.size + 2 ≤ _; omega)
        have hd : (strOfNums [48, (b.size : Int) + 2] ++ b ++ ⟨#[4, 127]⟩).data.toList = 48 :: (3 * k + 2).toUInt8 :: (rep k ++ [4, 127]) := by
          rw [ByteArray.data_append, Array.toList_append, ByteArray.data_append, Array.toList_append, hR.out, strOfNums_data]
          have e1 : ((b.size : Int) + 2).toNat = 3 * k + 2 := by omega
          simp only [List.map, e1]
          rfl
        rw [hd, bad_of_isBad (inner2 k hk10)] at this
        exact this
      clear hke hbk
      go_wp2_with fail
      rw [hV.out w1]
      simp only [Result.andThen]
      rw [Oper.upon_value]
      go_wp2_with fail
      refine (hC.out _).mono ?_
      rintro r w2 ⟨rfl, hb2⟩
      have hb2' := (hb1.alloc hs1 (.cells #[.int .u8 48, .int .u8 ((b.size : Int) + 2)] 5)).trans (hb2.mono (by simp; omega))
      have hs2 := hb2.size
      have hpl : ((2 + 3 * k : Nat) : Int) = 2 + (b.size : Int) := by have := Hbk.out; omega
      clear hb2 hC hV
      go_wp2_with fail
      go_ret
      exact ⟨rfl, hb2'.alloc (by simp at hs2; omega) _⟩

set_option maxHeartbeats 4000000 in
theorem inner_walk3 (n m q : Int) (w : World) (hn0 : 0 ≤ n) (hn1 : n ≤ 255) (hq0 : 0 ≤ q) (hq1 : q ≤ 255) (hq : q % 4 = 3) :
    Calls Try.prog 9 #[.int .u8 n, .int .u8 m, .int .u8 q] w fun r w' => r = .returned (.bool true) ∧ Below w.heap.size w w' := by
  have hk0 : 0 ≤ n % 10 := by omega
  have hk1 : n % 10 < 10 := by omega
  have q1 : (q % 4 == 1) = false := by rw [hq]; rfl
  have q2 : (q % 4 == 2) = false := by rw [hq]; rfl
  have q3 : (q % 4 == 3) = true := by rw [hq]; rfl
  clear hq
  go_enter Try.func9, Try.ntmps9
  go_wp2_with (go_at_call 10; refine (known_any _).mono ?_; rintro e w1 ⟨rfl, hb1⟩)
  have hs1 := hb1.size
  go_loop [8, 9] (fun s i => ∃ (k : Nat) (b : ByteArray), (k : Int) ≤ n % 10 ∧ i = .int .i64 k ∧ s = .string b ∧ Hid (b.data.toList = rep k) ∧ b.size ≤ 27) (fun s i => 10 - (intOf i).toNat)
  case atStart => exact ⟨0, ⟨#[]⟩, by omega, rfl, rfl, rfl, by decide⟩
  case round =>
    obtain ⟨k, b, hk, rfl, rfl, hR, hb27⟩ := hrel
    by_cases hlt : (k : Int) < n % 10
    · have hbk : (b.size : Int) = 3 * k := by rw [size_list b _ hR.out, rep_len]; omega
      have hb24 : b.size ≤ 24 := by omega
      have Hbk := Lib.hid hbk
      clear hbk
      go_wp2_with fail
      go_round
      case rel =>
        refine ⟨k + 1, _, by omega, by go_num, rfl, ?_, ?_⟩
        · show _ = _
          rw [ByteArray.data_append, Array.toList_append, hR.out, rep]
        · rw [ByteArray.size_append]; show b.size + 3 ≤ 27; omega
      case measure => simp [intOf]; omega
    · have hke : n % 10 = k := by omega
      have hbk : b.size = 3 * k := by rw [size_list b _ hR.out, rep_len]
      have hk10 : k < 10 := by omega
      have Hke := Lib.hid hke
      have Hbk := Lib.hid hbk
      have hV : Hid (∀ (w : World) (x : Int), (convert 45 9 (.slice (some ⟨w.heap.size, 0, none⟩) 2 2)).run Try.prog (w.alloc (.cells #[.int .u8 48, .int .u8 x] 5)) = .ok (.string (strOfNums [48, x])) (w.alloc (.cells #[.int .u8 48, .int .u8 x] 5))) := fun w x => conv_lit w [48, x] (by simp)
      have hso : ∀ x : Int, (strOfNums [48, x]).size = 2 := fun x => strOfNums_size _
      have hC : Hid (∀ w, Calls Try.prog 11 #[.string (strOfNums [48, (b.size : Int) + 1] ++ b ++ ⟨#[4]⟩)] w (ReadPost 0 w (.bad (2 + 3 * k) 11))) := fun w => by
        have := Read_any (strOfNums [48, (b.size : Int) + 1] ++ b ++ ⟨#[4]⟩) w (by rw [ByteArray.size_append, ByteArray.size_append, hso]; show 2 + b.size + 1 ≤ _; omega)
        have hd : (strOfNums [48, (b.size : Int) + 1] ++ b ++ ⟨#[4]⟩).data.toList = 48 :: (3 * k + 1).toUInt8 :: (rep k ++ [4]) := by
          rw [ByteArray.data_append, Array.toList_append, ByteArray.data_append, Array.toList_append, hR.out, strOfNums_data]
          have e1 : ((b.size : Int) + 1).toNat = 3 * k + 1 := by omega
          simp only [List.map, e1]
          rfl
        rw [hd, bad_of_isBad (inner3 k hk10)] at this
        exact this
      clear hke hbk
      go_wp2_with fail
      rw [hV.out w1]
      simp only [Result.andThen]
      rw [Oper.upon_value]
      go_wp2_with fail
      refine (hC.out _).mono ?_
      rintro r w2 ⟨rfl, hb2⟩
      have hb2' := (hb1.alloc hs1 (.cells #[.int .u8 48, .int .u8 ((b.size : Int) + 1)] 5)).trans (hb2.mono (by simp; omega))
      have hs2 := hb2.size
      have hpl : ((2 + 3 * k : Nat) : Int) = 2 + (b.size : Int) := by have := Hbk.out; omega
      clear hb2 hC hV
      go_wp2_with fail
      go_ret
      exact ⟨rfl, hb2'.alloc (by simp at hs2; omega) _⟩

theorem walk_BerInner (n : Int) (hn : (Lit.int .u8 n).wf = true) (m : Int) (hm : (Lit.int .u8 m).wf = true) (q : Int) (hq : (Lit.int .u8 q).wf = true) (w : World) :
    Calls Try.prog 9 #[.int .u8 n, .int .u8 m, .int .u8 q] w fun r w' => r = .returned (.bool true) ∧ Below w.heap.size w w' := by
  have hn' := wf_u8 hn
  have hq' := wf_u8 hq
  rcases (show q % 4 = 0 ∨ q % 4 = 1 ∨ q % 4 = 2 ∨ q % 4 = 3 by omega) with h | h | h | h
  · exact inner_walk0 n m q w hn'.1 hn'.2 hq'.1 hq'.2 h
  · exact inner_walk1 n m q w hn'.1 hn'.2 hq'.1 hq'.2 h
  · exact inner_walk2 n m q w hn'.1 hn'.2 hq'.1 hq'.2 h
  · exact inner_walk3 n m q w hn'.1 hn'.2 hq'.1 hq'.2 h
end Go.Proofs.Ythlpblipadgenaa
