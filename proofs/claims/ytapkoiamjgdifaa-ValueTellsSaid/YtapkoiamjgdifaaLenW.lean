/- BerLengths: the walk. -/
import Derived.Test.YtapkoiamjgdifaaKnown
namespace Go.Proofs.Ytapkoiamjgdifaa
open Go.RowKit
set_option linter.unusedVariables false
set_option maxRecDepth 100000

theorem tag_even (a : Int) (h0 : 0 ≤ a) (h1 : a ≤ 255) : ∃ t : Nat, bits .and .u8 (bits .andNot .u8 a 32) 254 = (t : Int) ∧ t ≤ 255 ∧ t % 32 ≠ 31 ∧ t / 32 % 2 = 0 := by
  have h2 : bits .andNot .u8 a 32 = ((a.toNat &&& (255 - (32 : Int).toNat) : Nat) : Int) := u8_andNot a 32 h0 (by omega) (by omega) (by omega)
  have hlt : a.toNat &&& 223 < 256 := Nat.lt_of_le_of_lt Nat.and_le_left (by omega)
  rw [h2]
  rw [show bits .and .u8 ((a.toNat &&& (255 - (32 : Int).toNat) : Nat) : Int) 254 = (((a.toNat &&& 223) &&& 254 : Nat) : Int) from u8_and_nat (a.toNat &&& 223) 254 hlt (by omega)]
  refine ⟨_, rfl, ?_, ?_, ?_⟩
  · have : (a.toNat &&& 223) &&& 254 ≤ 254 := Nat.and_le_right
    omega
  · have : ∀ n < 256, ((n &&& 223) &&& 254) % 32 ≠ 31 := by decide +kernel
    exact this _ (by omega)
  · have : ∀ n < 256, ((n &&& 223) &&& 254) / 32 % 2 = 0 := by decide +kernel
    exact this _ (by omega)

/-- The first m bytes of k's S bytes, the highest first. -/
def hiB (S : Nat) (k : Int) (m : Nat) : List Int := (List.range m).map fun r => k / 2 ^ (8 * (S - 1 - r)) % 256
theorem hiB_succ (S : Nat) (k : Int) (m : Nat) : hiB S k (m + 1) = hiB S k m ++ [k / 2 ^ (8 * (S - 1 - m)) % 256] := by
  unfold hiB
  rw [List.range_succ, List.map_append]; rfl
theorem hiB_len (S : Nat) (k : Int) (m : Nat) : (hiB S k m).length = m := by simp [hiB]
theorem toNat_ofNat (n : Nat) : (UInt8.ofNat n).toNat = n % 256 := rfl
theorem hd_len (t S : Nat) (k : Int) (ht : t ≤ 255) (h31 : t % 32 ≠ 31) (hS2 : 2 ≤ S) (hS4 : S ≤ 4) (hk0 : 0 ≤ k) (hk : k < 4200) :
    Sp.hd (([(t : Int), 128 + S] ++ hiB S k S).map fun n => UInt8.ofNat n.toNat) = if 4000 < k then (0, 0, 13) else (2 + S, k.toNat, 0) := by
  have ht2 : t % 256 = t := by omega
  rcases (show S = 2 ∨ S = 3 ∨ S = 4 by omega) with rfl | rfl | rfl
  · have e : (([(t : Int), 128 + (2 : Nat)] ++ hiB 2 k 2).map fun n => UInt8.ofNat n.toNat) = [UInt8.ofNat t, 130, UInt8.ofNat (k / 256 % 256).toNat, UInt8.ofNat (k % 256).toNat] := by
      simp [hiB, List.range_succ]
    have e1 : Sp.num [UInt8.ofNat (k / 256 % 256).toNat, UInt8.ofNat (k % 256).toNat] = k.toNat := by
      simp only [Sp.num, List.foldl, toNat_ofNat]; omega
    rw [e]
    simp only [Sp.hd, toNat_ofNat, ht2]
    rw [if_neg (by omega), if_neg (by decide), if_neg (by decide), if_neg (by simp)]
    simp only [show (130 : UInt8).toNat - 128 = 2 from rfl, List.take]
    rw [e1]
    by_cases h : 4000 < k
    · rw [if_pos (by omega), if_pos h]
    · rw [if_neg (by omega), if_neg h]
  · have e : (([(t : Int), 128 + (3 : Nat)] ++ hiB 3 k 3).map fun n => UInt8.ofNat n.toNat) = [UInt8.ofNat t, 131, UInt8.ofNat (k / 65536 % 256).toNat, UInt8.ofNat (k / 256 % 256).toNat, UInt8.ofNat (k % 256).toNat] := by
      simp [hiB, List.range_succ]
    have e1 : Sp.num [UInt8.ofNat (k / 65536 % 256).toNat, UInt8.ofNat (k / 256 % 256).toNat, UInt8.ofNat (k % 256).toNat] = k.toNat := by
      simp only [Sp.num, List.foldl, toNat_ofNat]; omega
    rw [e]
    simp only [Sp.hd, toNat_ofNat, ht2]
    rw [if_neg (by omega), if_neg (by decide), if_neg (by decide), if_neg (by simp)]
    simp only [show (131 : UInt8).toNat - 128 = 3 from rfl, List.take]
    rw [e1]
    by_cases h : 4000 < k
    · rw [if_pos (by omega), if_pos h]
    · rw [if_neg (by omega), if_neg h]
  · have e : (([(t : Int), 128 + (4 : Nat)] ++ hiB 4 k 4).map fun n => UInt8.ofNat n.toNat) = [UInt8.ofNat t, 132, UInt8.ofNat (k / 16777216 % 256).toNat, UInt8.ofNat (k / 65536 % 256).toNat, UInt8.ofNat (k / 256 % 256).toNat, UInt8.ofNat (k % 256).toNat] := by
      simp [hiB, List.range_succ]
    have e1 : Sp.num [UInt8.ofNat (k / 16777216 % 256).toNat, UInt8.ofNat (k / 65536 % 256).toNat, UInt8.ofNat (k / 256 % 256).toNat, UInt8.ofNat (k % 256).toNat] = k.toNat := by
      simp only [Sp.num, List.foldl, toNat_ofNat]; omega
    rw [e]
    simp only [Sp.hd, toNat_ofNat, ht2]
    rw [if_neg (by omega), if_neg (by decide), if_neg (by decide), if_neg (by simp)]
    simp only [show (132 : UInt8).toNat - 128 = 4 from rfl, List.take]
    rw [e1]
    by_cases h : 4000 < k
    · rw [if_pos (by omega), if_pos h]
    · rw [if_neg (by omega), if_neg h]

theorem own_lit (w : World) (xs : List Int) (h : xs.length ≤ 1000) : (w.alloc (.cells (xs.map (Value.int .u8)).toArray 5)).ownsRow w.heap.size 5 1 (.slice (some ⟨w.heap.size, 0, none⟩) xs.length xs.length) xs.length (xs.map (Value.int .u8)) :=
  ⟨by simp, Or.inr ⟨w.heap.size, xs.length, (xs.map (Value.int .u8)).toArray, rfl, Nat.le_refl _, heap_alloc_new w _, Nat.le_refl _, by unfold maxLen; omega, by simp, List.take_of_length_le (by simp)⟩⟩
theorem conv_lit (w : World) (xs : List Int) (h : xs.length ≤ 1000) : (convert 45 9 (.slice (some ⟨w.heap.size, 0, none⟩) xs.length xs.length)).run Try.prog (w.alloc (.cells (xs.map (Value.int .u8)).toArray 5)) =
    .ok (.string (strOfNums xs)) (w.alloc (.cells (xs.map (Value.int .u8)).toArray 5)) := conv_own _ _ _ _ _ (own_lit w xs h) rfl

set_option maxHeartbeats 4000000 in
theorem len_walk (n m2 tg : Int) (w : World) (hn0 : 0 ≤ n) (hn1 : n ≤ 65535) (hm0 : 0 ≤ m2) (hm1 : m2 ≤ 255) (ht0 : 0 ≤ tg) (ht1 : tg ≤ 255) :
    Calls Try.prog 6 #[.int .u16 n, .int .u8 m2, .int .u8 tg] w fun r w' => r = .returned (.bool true) ∧ Below w.heap.size w w' := by
  obtain ⟨t, ht, ht255, ht31, _⟩ := tag_even tg ht0 ht1
  have hK0 : 0 ≤ n % 4200 := by omega
  have hK1 : n % 4200 < 4200 := by omega
  obtain ⟨S, hS, hS2, hS4⟩ : ∃ S : Nat, m2 % 3 + 2 = (S : Int) ∧ 2 ≤ S ∧ S ≤ 4 := ⟨(m2 % 3 + 2).toNat, by omega, by omega, by omega⟩
  obtain ⟨i0, hi, hz0, hz1, hz2⟩ := info_parts bByte
  go_enter Try.func6, Try.ntmps6
  go_wp2_with (go_at_call 13; refine (known_any _).mono ?_; rintro e w1 ⟨rfl, hb1⟩)
  have own := own_two w1 t (128 + S)
  have hbb := hb1.alloc (by have := hb1.size; omega) (.cells #[.int .u8 t, .int .u8 (128 + S)] 5)
  have hs1 := hb1.size
  have HS := Lib.hid hS
  have Ht := Lib.hid ht
  clear hS ht hb1
  go_loopw [10, 11] (fun h i wr => ∃ m : Nat, m ≤ S ∧ i = .int .i64 ((S : Int) - 1 - m) ∧ wr.ownsRow w1.heap.size 5 1 h (2 + m) (([(t : Int), 128 + S] ++ hiB S (n % 4200) m).map (Value.int .u8)) ∧ Below w.heap.size w wr ∧ w1.heap.size ≤ wr.heap.size) (fun h i wr => (intOf i + 1).toNat)
  case atStart => exact ⟨0, Nat.zero_le _, by go_num, own, hbb, by simp⟩
  case round =>
    obtain ⟨m, hm, rfl, hown, hb, hsz⟩ := hrel
    by_cases hlt : (m : Int) < S
    · have hge : 0 ≤ (S : Int) - 1 - m := by omega
      go_wp2_with (at_builtin; go_loud (refine wpList_append_own _ rfl (.tmp 44) (.tmp 51) 45 rfl w1.heap.size 5 i0 (.int .u8 0) 1 1 Try.underlying45 hi hz0 hz1 hz2 rfl (by decide) _ (2 + m) _ rfl (hown.alloc _) ⟨wr.heap.size, 0, none⟩ 1 1 [.int .u8 (n % 4200 / 2 ^ (8 * (S - 1 - m)) % 256)] rfl rfl (one_new _ _ _ _ rfl) ?c2 ?c3 ?c4 ?c5 ?_))
      case c2 => intro u hu; simp at hu; subst hu; rfl
      case c3 => unfold maxLen; omega
      case c4 => omega
      case c5 => simp; omega
      intro v1 w2 hown1 hg1 _
      have hb2 := (hb.alloc (by omega) (.cells #[.int .u8 (n % 4200 / 2 ^ (8 * (S - 1 - m)) % 256)] 5)).grown hg1 (by simp; omega) (fun k hk => by have := (hown.lt k hk).1; omega)
      have hs2 := hg1.size
      have hown2 : w2.ownsRow w1.heap.size 5 1 v1 (2 + (m + 1)) (([(t : Int), 128 + S] ++ hiB S (n % 4200) (m + 1)).map (Value.int .u8)) := by
        rw [hiB_succ, ← List.append_assoc, List.map_append]
        exact hown1
      have Hown2 := Lib.hid hown2
      clear hown1 hg1 hown hown2
      go_wp2_with fail
      go_roundw
      case rel => exact ⟨m + 1, by omega, by go_num, Hown2.out, hb2, by simp at hs2; omega⟩
      case measure => simp [intOf]; omega
    · have hmS : m = S := by omega
      have hm' : (S : Int) - 1 - m < 0 := by omega
      rw [hmS] at hown
      have hcv := Lib.hid (conv_own wr _ _ _ _ hown (by simp [hiB_len]; omega))
      have hdS := hd_len t S (n % 4200) ht255 ht31 hS2 hS4 hK0 hK1
      clear hown own hbb
      go_wp2_with fail
      rw [hcv.out]
      simp only [Result.andThen]
      rw [Oper.upon_value]
      have hCa : Hid (∀ w, Calls Try.prog 16 #[.string (strOfNums ((t : Int) :: (128 + (S : Int)) :: hiB S (n % 4200) S))] w fun r w' => r = .returned (.tuple #[.int .i64 (if 4000 < n % 4200 then 0 else 2 + S), .int .i64 (if 4000 < n % 4200 then 0 else n % 4200), .int .i64 (if 4000 < n % 4200 then 13 else 0)]) ∧ Below w.heap.size w w') := fun w => by
        refine (Head_any _ w (by rw [strOfNums_size]; simp [hiB_len]; unfold maxLen; omega)).mono ?_
        rintro r w' ⟨rfl, hb⟩
        refine ⟨?_, hb⟩
        by_cases h4 : 4000 < n % 4200
        · rw [hdV_of (show Sp.hd (strOfNums ((t : Int) :: (128 + (S : Int)) :: hiB S (n % 4200) S)).data.toList = (0, 0, 13) from by rw [strOfNums_data]; exact hdS.trans (if_pos h4))]
          simp [h4]
        · rw [hdV_of (show Sp.hd (strOfNums ((t : Int) :: (128 + (S : Int)) :: hiB S (n % 4200) S)).data.toList = (2 + S, (n % 4200).toNat, 0) from by rw [strOfNums_data]; exact hdS.trans (if_neg h4))]
          simp [h4]
          omega
      have hCb : Hid (∀ w, Calls Try.prog 16 #[.string (strOfNums [(t : Int), 128, 1])] w fun r w' => r = .returned (.tuple #[.int .i64 0, .int .i64 0, .int .i64 11]) ∧ Below w.heap.size w w') := fun w => by
        refine (Head_any _ w (by rw [strOfNums_size]; simp [maxLen])).mono ?_
        rintro r w' ⟨rfl, hb⟩
        refine ⟨?_, hb⟩
        rw [hdV_of (show Sp.hd (strOfNums [(t : Int), 128, 1]).data.toList = (0, 0, 11) from by
          rw [strOfNums_data]
          simp only [List.map, Sp.hd, toNat_ofNat]
          rw [if_neg (by omega), if_neg (by decide), if_pos (by decide)])]
        rfl
      have hCc : Hid (∀ w, Calls Try.prog 16 #[.string (strOfNums [(t : Int), 133, 0, 0, 0, 0, 1])] w fun r w' => r = .returned (.tuple #[.int .i64 0, .int .i64 0, .int .i64 11]) ∧ Below w.heap.size w w') := fun w => by
        refine (Head_any _ w (by rw [strOfNums_size]; simp [maxLen])).mono ?_
        rintro r w' ⟨rfl, hb⟩
        refine ⟨?_, hb⟩
        rw [hdV_of (show Sp.hd (strOfNums [(t : Int), 133, 0, 0, 0, 0, 1]).data.toList = (0, 0, 11) from by
          rw [strOfNums_data]
          simp only [List.map, Sp.hd, toNat_ofNat]
          rw [if_neg (by omega), if_neg (by decide), if_pos (by decide)])]
        rfl
      have hVb : Hid (∀ w : World, (convert 45 9 (.slice (some ⟨w.heap.size, 0, none⟩) 3 3)).run Try.prog (w.alloc (.cells #[.int .u8 t, .int .u8 128, .int .u8 1] 5)) = .ok (.string (strOfNums [(t : Int), 128, 1])) (w.alloc (.cells #[.int .u8 t, .int .u8 128, .int .u8 1] 5))) := fun w => conv_lit w [(t : Int), 128, 1] (by simp)
      have hVc : Hid (∀ w : World, (convert 45 9 (.slice (some ⟨w.heap.size, 0, none⟩) 7 7)).run Try.prog (w.alloc (.cells #[.int .u8 t, .int .u8 133, .int .u8 0, .int .u8 0, .int .u8 0, .int .u8 0, .int .u8 1] 5)) = .ok (.string (strOfNums [(t : Int), 133, 0, 0, 0, 0, 1])) (w.alloc (.cells #[.int .u8 t, .int .u8 133, .int .u8 0, .int .u8 0, .int .u8 0, .int .u8 0, .int .u8 1] 5))) := fun w => conv_lit w [(t : Int), 133, 0, 0, 0, 0, 1] (by simp)
      clear hdS hcv
      go_wp2_with fail
      refine (hCa.out _).mono ?_
      rintro r w2 ⟨rfl, hb2⟩
      have hb2' := hb.trans (hb2.mono (by omega))
      have hs2 := hb2.size
      clear hb2 hCa hb
      by_cases h4 : 4000 < n % 4200
      · simp only [if_pos h4]
        go_wp2_with fail
        rw [hVb.out w2]
        simp only [Result.andThen]
        rw [Oper.upon_value]
        go_wp2_with fail
        refine (hCb.out _).mono ?_
        rintro r w3 ⟨rfl, hb3⟩
        have hb3' := (hb2'.alloc (by omega) (.cells #[.int .u8 t, .int .u8 128, .int .u8 1] 5)).trans (hb3.mono (by simp; omega))
        have hs3 := hb3.size
        clear hb3
        go_wp2_with fail
        rw [hVc.out w3]
        simp only [Result.andThen]
        rw [Oper.upon_value]
        go_wp2_with fail
        refine (hCc.out _).mono ?_
        rintro r w4 ⟨rfl, hb4⟩
        have hb4' := (hb3'.alloc (by simp at hs3; omega) (.cells #[.int .u8 t, .int .u8 133, .int .u8 0, .int .u8 0, .int .u8 0, .int .u8 0, .int .u8 1] 5)).trans (hb4.mono (by simp at hs3 ⊢; omega))
        clear hb4
        go_wp2_with fail
        go_ret
        exact ⟨rfl, hb4'⟩
      · simp only [if_neg h4]
        have h4' : n % 4200 ≤ 4000 := by omega
        go_wp2_with fail
        rw [hVb.out w2]
        simp only [Result.andThen]
        rw [Oper.upon_value]
        go_wp2_with fail
        refine (hCb.out _).mono ?_
        rintro r w3 ⟨rfl, hb3⟩
        have hb3' := (hb2'.alloc (by omega) (.cells #[.int .u8 t, .int .u8 128, .int .u8 1] 5)).trans (hb3.mono (by simp; omega))
        have hs3 := hb3.size
        clear hb3
        go_wp2_with fail
        rw [hVc.out w3]
        simp only [Result.andThen]
        rw [Oper.upon_value]
        go_wp2_with fail
        refine (hCc.out _).mono ?_
        rintro r w4 ⟨rfl, hb4⟩
        have hb4' := (hb3'.alloc (by simp at hs3; omega) (.cells #[.int .u8 t, .int .u8 133, .int .u8 0, .int .u8 0, .int .u8 0, .int .u8 0, .int .u8 1] 5)).trans (hb4.mono (by simp at hs3 ⊢; omega))
        clear hb4
        go_wp2_with fail
        go_ret
        exact ⟨rfl, hb4'⟩

theorem wf_u8 {a : Int} (h : (Lit.int .u8 a).wf = true) : 0 ≤ a ∧ a ≤ 255 := by simpa [Lit.wf, IntKind.min, IntKind.max, IntKind.signed, IntKind.bits] using h
theorem wf_u16 {a : Int} (h : (Lit.int .u16 a).wf = true) : 0 ≤ a ∧ a ≤ 65535 := by simpa [Lit.wf, IntKind.min, IntKind.max, IntKind.signed, IntKind.bits] using h
theorem walk_BerLengths (n : Int) (hn : (Lit.int .u16 n).wf = true) (m : Int) (hm : (Lit.int .u8 m).wf = true) (t : Int) (ht : (Lit.int .u8 t).wf = true) (w : World) :
    Calls Try.prog 6 #[.int .u16 n, .int .u8 m, .int .u8 t] w fun r w' => r = .returned (.bool true) ∧ Below w.heap.size w w' :=
  len_walk n m t w (wf_u16 hn).1 (wf_u16 hn).2 (wf_u8 hm).1 (wf_u8 hm).2 (wf_u8 ht).1 (wf_u8 ht).2
end Go.Proofs.Ytapkoiamjgdifaa
