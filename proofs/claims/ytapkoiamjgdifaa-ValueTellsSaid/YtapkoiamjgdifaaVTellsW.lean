/- ValueTells: the walk. -/
import Derived.Test.YtapkoiamjgdifaaVKnown
import Derived.Test.YtapkoiamjgdifaaRowsW
namespace Go.Proofs.Ytapkoiamjgdifaa
open Go.RowKit
set_option linter.unusedVariables false
set_option maxRecDepth 100000

set_option maxHeartbeats 4000000 in
theorem tells_long (n : Int) (s : ByteArray) (b : Bool) (tg : Int) (A : Option Addr) (c : Nat) (ss : List ByteArray) (w : World) (hl : 100 < (s.size : Int) ∨ 20 < (ss.length : Int)) :
    Calls Try.prog 10 #[.int .i64 n, .string s, .bool b, .int .u8 tg, .slice A ss.length c] w fun r w' => r = .returned (.bool true) ∧ Below w.heap.size w w' := by
  by_cases h1 : 100 < (s.size : Int)
  · clear hl
    go_enter Try.func10, Try.ntmps10
    go_wp2_with fail
    refine (vknown_any _).mono ?_
    rintro r w1 ⟨rfl, hb1⟩
    go_wp2_with fail
    go_ret
    exact ⟨rfl, hb1⟩
  · have h2 : 20 < (ss.length : Int) := by omega
    have h3 : (s.size : Int) ≤ 100 := by omega
    clear hl
    go_enter Try.func10, Try.ntmps10
    go_wp2_with fail
    refine (vknown_any _).mono ?_
    rintro r w1 ⟨rfl, hb1⟩
    go_wp2_with fail
    go_ret
    exact ⟨rfl, hb1⟩

theorem rdB_case (s : ByteArray) : (s.size = 1 ∧ (∀ h : 0 < s.size, ((s[0].toNat : Int) != 0) = true) ∧ (rdB s.data.toList).1 = true ∧ (rdB s.data.toList).2 = true) ∨
    (s.size = 1 ∧ (∀ h : 0 < s.size, ((s[0].toNat : Int) != 0) = false) ∧ (rdB s.data.toList).1 = false ∧ (rdB s.data.toList).2 = true) ∨ (s.size ≠ 1 ∧ (rdB s.data.toList).1 = false ∧ (rdB s.data.toList).2 = false) := by
  have hl : s.data.toList.length = s.size := rfl
  by_cases h1 : s.size = 1
  · obtain ⟨x, hx⟩ : ∃ x, s.data.toList = [x] := by
      match s.data.toList, hl.trans h1 with
      | [x], _ => exact ⟨x, rfl⟩
    have e0 : ∀ h : 0 < s.size, s[0] = x := fun h => get_of s _ hx 0 h x rfl
    by_cases h0 : x = 0
    · right; left
      refine ⟨h1, fun h => ?_, ?_, ?_⟩
      · rw [e0 h, h0]; rfl
      · rw [hx, h0]; rfl
      · rw [hx]; rfl
    · left
      refine ⟨h1, fun h => ?_, ?_, ?_⟩
      · rw [e0 h, bne_iff_ne]
        intro e
        apply h0
        apply UInt8.toNat_inj.1
        show x.toNat = 0
        omega
      · rw [hx]; simp [rdB, h0]
      · rw [hx]; rfl
  · right; right
    exact ⟨h1, by simp [rdB, hl, h1], by simp [rdB, hl, h1]⟩

set_option maxHeartbeats 4000000 in
theorem tells_go (n : Int) (s : ByteArray) (b : Bool) (tg : Nat) (A : Option Addr) (c : Nat) (ss : List ByteArray) (w : World) (hn0 : -9223372036854775808 ≤ n) (hn1 : n ≤ 9223372036854775807) (ht : tg ≤ 255) (hs : (s.size : Int) ≤ 100) (hl : (ss.length : Int) ≤ 20) (hS : StrsAt w A ss)
    (hsz : ∀ x ∈ ss, x.size ≤ 140737488351232) :
    Calls Try.prog 10 #[.int .i64 n, .string s, .bool b, .int .u8 tg, .slice A ss.length c] w fun r w' => r = .returned (.bool true) ∧ Below w.heap.size w w' := by
  obtain ⟨i0, hi, hz0, hz1, hz2⟩ := info_parts infoEl
  have CR : Hid (∀ w, Calls Try.prog 26 #[.string s] w fun e w' => e = .returned (.tuple #[.int .i64 ((rdI s.data.toList).getD 0), .bool (rdI s.data.toList).isSome]) ∧ Below w.heap.size w w') := fun w => ReadInt_any s w
  have CQ : Hid (∀ w, Calls Try.prog 27 #[.string s] w fun e w' => e = .returned (.tuple #[.int .i64 ((rdI s.data.toList).getD 0), .bool (rdI s.data.toList).isSome]) ∧ Below w.heap.size w w') := fun w => RReadInt_any s w
  have CB : Hid (∀ w, Calls Try.prog 28 #[.string s] w fun e w' => e = .returned (.tuple #[.bool (rdB s.data.toList).1, .bool (rdB s.data.toList).2]) ∧ w = w') := fun w => ReadBool_any s w
  have HS := Lib.hid hsz
  clear hsz
  generalize (rdI s.data.toList).getD 0 = rn at CR CQ
  generalize (rdI s.data.toList).isSome = rs at CR CQ
  obtain ⟨q1, hq1⟩ : ∃ q, q = (rdB s.data.toList).1 := ⟨_, rfl⟩
  obtain ⟨q2, hq2⟩ : ∃ q, q = (rdB s.data.toList).2 := ⟨_, rfl⟩
  rw [← hq1, ← hq2] at CB
  have Hq1 := Lib.hid hq1
  have Hq2 := Lib.hid hq2
  clear hq1 hq2
  go_enter Try.func10, Try.ntmps10
  go_wp2_with fail
  refine (vknown_any _).mono ?_
  rintro r w1 ⟨rfl, hb1⟩
  go_wp2_with fail
  refine (CR.out _).mono ?_
  rintro r w2 ⟨rfl, hb2⟩
  go_wp2_with fail
  refine (CQ.out _).mono ?_
  rintro r w3 ⟨rfl, hb3⟩
  go_wp2_with fail
  refine (CB.out _).mono ?_
  rintro r w4 ⟨rfl, rfl⟩
  have s1 := hb1.size
  have s2 := hb2.size
  have s3 := hb3.size
  have hbX := (hb1.trans (hb2.mono s1)).trans (hb3.mono (by omega))
  clear hb1 hb2 hb3 CR CQ CB
  go_wp2_with fail
  go_loopw [17, 18] (fun v i wr => ∃ (k : Nat) (xs : List Value), k ≤ ss.length ∧ i = .int .i64 k ∧ Hid (Gath wr w3.heap.size v xs (leaves 4 (ss.take k))) ∧ Below w.heap.size w wr ∧ w3.heap.size ≤ wr.heap.size) (fun v i wr => ss.length - (intOf i).toNat)
  case atStart => exact ⟨0, [], Nat.zero_le _, rfl, Gath.nil _ _, hbX, Nat.le_refl _⟩
  case round =>
    obtain ⟨k, xs, hk, rfl, hG, hb, hsz3⟩ := hrel
    have hsw := hb.size
    by_cases hlt : k < ss.length
    · obtain ⟨ad, rfl, hp, f0⟩ := hS.kid hb hlt
      obtain ⟨sk, hsk⟩ : ∃ sk, sk = ss[k] := ⟨_, rfl⟩
      rw [← hsk] at f0
      have hskl : sk.size ≤ 140737488351232 := by rw [hsk]; exact HS.out _ (List.getElem_mem hlt)
      have HSK := Lib.hid hsk
      clear hsk
      go_wp2_with fail
      refine (RText_any 4 sk _).mono ?_
      rintro r w5 ⟨rfl, hb5⟩
      have hs5 := hb5.size
      have hTL : (leaves 4 (ss.take k)).length = k := by simp [leaves]; omega
      have HG := Lib.hid (hG.out.past hb5)
      have hown := (HG.out.alloc (.cells #[.int .u8 4, .string sk, .slice none 0 0] 25)).1
      rw [hTL] at hown
      have Hown := Lib.hid hown
      clear hown
      go_wp2_with (at_builtin; go_loud (refine wpList_append_own_at _ rfl _ _ 23 rfl w3.heap.size 25 i0 (.agg #[.int .u8 0, .string ⟨#[]⟩, .slice none 0 0]) 3 48 Try.underlying23 hi hz0 hz1 hz2 rfl (by decide) _ k xs rfl Hown.out ⟨w5.heap.size, 0, none⟩ 1 1 [.int .u8 4, .string sk, .slice none 0 0] rfl rfl (three_new _ _ _ _ _ _ rfl) ?q2 ?q3 ?q4 ?q5 ?_))
      case q2 => intro u hu; simp at hu; rcases hu with rfl | rfl | rfl <;> rfl
      case q3 => unfold maxLen; omega
      case q4 => omega
      case q5 => simp; omega
      intro v2 w6 hown6 hg6 _ hat6
      have hne1 : ∀ q, u17.ownBlock = some q → w3.heap.size ≤ q := fun q hq => (HG.out.1.lt _ hq).1
      have hb6 := ((hb.trans (hb5.mono hsw)).alloc (by omega) (.cells #[.int .u8 4, .string sk, .slice none 0 0] 25)).grown hg6 (by simp; omega) (fun q hq => by have := hne1 _ hq; omega)
      have hl4 : Lies (w5.alloc (.cells #[.int .u8 4, .string sk, .slice none 0 0] 25)) (fun b => w3.heap.size ≤ b ∧ b < (w5.alloc (.cells #[.int .u8 4, .string sk, .slice none 0 0] 25)).heap.size ∧ u17.ownBlock ≠ some b) (.mk 4 sk []) [.int .u8 4, .string sk, .slice none 0 0] := Lies.leaf (by decide) (by unfold maxLen; omega)
      have HG6 := Lib.hid (Gath.step (HG.out.alloc (.cells #[.int .u8 4, .string sk, .slice none 0 0] 25)) hl4 (by rw [hTL]; exact hown6) hg6 (by simpa using hat6))
      have hs6 : w3.heap.size ≤ w6.heap.size := by have := hg6.size; simp at this; omega
      clear hl4 hg6 hown6 hat6 HG Hown hG hb5
      go_wp2_with fail
      go_roundw
      case rel =>
        refine ⟨k + 1, xs ++ [.int .u8 4, .string sk, .slice none 0 0], by omega, by go_num, ?_, hb6, hs6⟩
        show Gath _ _ _ _ _
        rw [leaves_take hlt, ← HSK.out]
        exact HG6.out
      case measure => simp [intOf]; omega
    · have hke : k = ss.length := by omega
      subst hke
      rw [List.take_length] at hG
      obtain ⟨A', c', ds, hv, hK⟩ := hG.out.shut
      have hll : (leaves 4 ss).length = ss.length := by simp [leaves]
      rw [hll] at hv
      subst hv
      have hKK : ∀ w', Below wr.heap.size wr w' → KidsAt w' (· < w'.heap.size) A' (leaves 4 ss) ds := fun w' h => (hK.imp (P' := (· < wr.heap.size)) (fun b hb => hb.2) (fun _ _ => rfl)).past h
      have hFit : ∀ i (h : i < (leaves 4 ss).length), fitS 20 281474976710656 1 (leaves 4 ss)[i] = true := fun i h => by
        have hi' : i < ss.length := by rw [hll] at h; exact h
        have := HS.out _ (List.getElem_mem hi')
        have e : (leaves 4 ss)[i] = .mk 4 ss[i] [] := by simp [leaves]
        rw [e]
        simp only [fitS, Bool.and_eq_true, decide_eq_true_eq, List.all_eq_true]
        exact ⟨by simp, by omega, by simp⟩
      have CI1 : Hid (∀ w, Calls Try.prog 30 #[.int .i64 n] w fun e w' => e = .returned (.string (strOfNums (intB n))) ∧ Below w.heap.size w w') := fun w => Int_any n w hn0 hn1
      have CI2 : Hid (∀ w, Calls Try.prog 31 #[.int .i64 n] w fun e w' => e = .returned (.string (strOfNums (intB n))) ∧ Below w.heap.size w w') := fun w => RInt_any n w hn0 hn1
      have CN1 : Hid (∀ w, Calls Try.prog 35 #[.int .u8 tg, .int .i64 n] w fun e w' => e = .returned (.agg #[.int .u8 tg, .string (strOfNums (intB n)), .slice none 0 0]) ∧ Below w.heap.size w w') := fun w => Number_any tg n w hn0 hn1
      have CN2 : Hid (∀ w, Calls Try.prog 36 #[.int .u8 tg, .int .i64 n] w fun e w' => e = .returned (.agg #[.int .u8 tg, .string (strOfNums (intB n)), .slice none 0 0]) ∧ Below w.heap.size w w') := fun w => RNumber_any tg n w hn0 hn1
      have CB1 : Hid (∀ w, Calls Try.prog 32 #[.bool b] w fun e w' => e = .returned (.string (boolB b)) ∧ w = w') := fun w => Bool_any b w
      have CB2 : Hid (∀ w, Calls Try.prog 33 #[.bool b] w fun e w' => e = .returned (.string (boolB b)) ∧ w = w') := fun w => RBool_any b w
      have CT1 : Hid (∀ w, Calls Try.prog 34 #[.int .u8 tg, .string s] w fun e w' => e = .returned (.agg #[.int .u8 tg, .string s, .slice none 0 0]) ∧ Below w.heap.size w w') := fun w => Text_any tg s w (by omega)
      have CT2 : Hid (∀ w, Calls Try.prog 29 #[.int .u8 tg, .string s] w fun e w' => e = .returned (.agg #[.int .u8 tg, .string s, .slice none 0 0]) ∧ Below w.heap.size w w') := fun w => RText_any tg s w
      have hS1 : ∀ q : ByteArray, q.size ≤ 1000 → ∀ w, Calls Try.prog 18 #[.agg #[.int .u8 tg, .string q, .slice none 0 0], .agg #[.int .u8 tg, .string q, .slice none 0 0]] w fun r w' => r = .returned (.bool true) ∧ Below w.heap.size w w' := fun q hq w => by
        have := rsame_any (.mk tg q []) (.mk tg q []) _ _ _ _ _ _ w (Lies.leaf ht (by unfold maxLen; omega)) (Lies.leaf ht (by unfold maxLen; omega))
        rw [eqEl_self] at this
        exact this
      have CS1 : Hid (∀ w, Calls Try.prog 18 #[.agg #[.int .u8 tg, .string s, .slice none 0 0], .agg #[.int .u8 tg, .string s, .slice none 0 0]] w fun r w' => r = .returned (.bool true) ∧ Below w.heap.size w w') := fun w => hS1 s (by omega) w
      have CS2 : Hid (∀ w, Calls Try.prog 18 #[.agg #[.int .u8 tg, .string (strOfNums (intB n)), .slice none 0 0], .agg #[.int .u8 tg, .string (strOfNums (intB n)), .slice none 0 0]] w fun r w' => r = .returned (.bool true) ∧ Below w.heap.size w w') := fun w =>
        hS1 _ (by rw [strOfNums_size, intB_len]; have := few_8 n hn0 hn1; omega) w
      have CL1 : Hid (∀ w', Below wr.heap.size wr w' → Calls Try.prog 37 #[.int .u8 tg, .slice A' ss.length c'] w' fun e w'' => ∃ x y z, e = .returned (.agg #[x, y, z]) ∧ Below w'.heap.size w' w'' ∧ Lies w'' (fun b => w'.heap.size ≤ b ∧ b < w''.heap.size) (.mk tg ⟨#[]⟩ (leaves 4 ss)) [x, y, z]) := fun w' h => by
        have := List_any tg ht (leaves 4 ss) 20 281474976710656 1 A' c' ds w' (by omega) (by omega) (by omega) hFit (hKK w' h)
        rw [hll] at this
        exact this
      have CL2 : Hid (∀ w, Calls Try.prog 38 #[.int .u8 tg, .slice A' ss.length c'] w fun e w' => e = .returned (.agg #[.int .u8 tg, .string ⟨#[]⟩, .slice A' ss.length c']) ∧ Below w.heap.size w w') := fun w => RList_any tg A' ss.length c' w
      have CS3 : Hid (∀ w' x y z, Below wr.heap.size wr w' → Lies w' (· < w'.heap.size) (.mk tg ⟨#[]⟩ (leaves 4 ss)) [x, y, z] → Calls Try.prog 18 #[.agg #[x, y, z], .agg #[.int .u8 tg, .string ⟨#[]⟩, .slice A' ss.length c']] w' fun r w'' => r = .returned (.bool true) ∧ Below w'.heap.size w' w'') := fun w' x y z h hL => by
        have hL2 := Lies.shut (c := c') ht (by decide : (⟨#[]⟩ : ByteArray).size ≤ maxLen) (by unfold maxLen; omega) (hKK w' h)
        rw [hll] at hL2
        have := rsame_any (.mk tg ⟨#[]⟩ (leaves 4 ss)) (.mk tg ⟨#[]⟩ (leaves 4 ss)) _ _ _ _ _ _ w' hL hL2
        rw [eqEl_self] at this
        exact this
      clear hS1 hFit hKK hK hG hS
      have hq := rdB_case s
      rw [← Hq1.out, ← Hq2.out] at hq
      generalize strOfNums (intB n) = S at *
      generalize boolB b = bb at *
      rcases hq with ⟨hz, h0, r1, r2⟩ | ⟨hz, h0, r1, r2⟩ | ⟨hz, r1, r2⟩
      · subst r1 r2
        have e1 : ((s.size : Int) == 1) = true := by rw [beq_iff_eq]; omega
        have hz1' : 0 < s.size := by omega
        have h0 := h0 hz1'
        clear hz
        go_wp2_with fail
        refine (CI1.out _).mono ?_
        rintro r w5 ⟨rfl, hb5⟩
        have t5 := hb5.size
        go_wp2_with fail
        refine (CI2.out _).mono ?_
        rintro r w6 ⟨rfl, hb6⟩
        have t6 := hb6.size
        have g6 := hb5.trans (hb6.mono t5)
        clear hb5 hb6 CI1 CI2
        go_wp2_with fail
        refine (CB1.out _).mono ?_
        rintro r w7 ⟨rfl, rfl⟩
        go_wp2_with fail
        refine (CB2.out _).mono ?_
        rintro r w7 ⟨rfl, rfl⟩
        clear CB1 CB2
        go_wp2_with fail
        refine (CT1.out _).mono ?_
        rintro r w8 ⟨rfl, hb8⟩
        have t8 := hb8.size
        go_wp2_with fail
        refine (CT2.out _).mono ?_
        rintro r w9 ⟨rfl, hb9⟩
        have t9 := hb9.size
        have g9 := (g6.trans (hb8.mono (by omega))).trans (hb9.mono (by omega))
        clear hb8 hb9 g6 CT1 CT2
        go_wp2_with fail
        refine (CS1.out _).mono ?_
        rintro r w10 ⟨rfl, hb10⟩
        have t10 := hb10.size
        go_wp2_with fail
        refine (CN1.out _).mono ?_
        rintro r w11 ⟨rfl, hb11⟩
        have t11 := hb11.size
        have g11 := (g9.trans (hb10.mono (by omega))).trans (hb11.mono (by omega))
        clear hb10 hb11 g9 CS1 CN1
        go_wp2_with fail
        refine (CN2.out _).mono ?_
        rintro r w12 ⟨rfl, hb12⟩
        have t12 := hb12.size
        go_wp2_with fail
        refine (CS2.out _).mono ?_
        rintro r w13 ⟨rfl, hb13⟩
        have t13 := hb13.size
        have g13 := (g11.trans (hb12.mono (by omega))).trans (hb13.mono (by omega))
        clear hb12 hb13 g11 CN2 CS2
        go_wp2_with fail
        refine (CL1.out _ g13).mono ?_
        rintro r w14 ⟨x, y, z, rfl, hb14, hL14⟩
        have t14 := hb14.size
        go_wp2_with fail
        refine (CL2.out _).mono ?_
        rintro r w15 ⟨rfl, hb15⟩
        have t15 := hb15.size
        have g15 := (g13.trans (hb14.mono (by omega))).trans (hb15.mono (by omega))
        have hL15 := Lib.hid ((hL14.imp (P' := (· < w14.heap.size)) (fun b h => h.2) (fun _ _ => rfl)).past hb15)
        clear hL14 hb14 hb15 g13 CL1 CL2
        go_wp2_with fail
        refine (CS3.out _ _ _ _ g15 hL15.out).mono ?_
        rintro r w16 ⟨rfl, hb16⟩
        have g16 := hb.trans ((g15.trans (hb16.mono (by omega))).mono hsw)
        clear hb16 g15 CS3
        go_wp2_with fail
        go_ret
        exact ⟨rfl, g16⟩
      · subst r1 r2
        have e1 : ((s.size : Int) == 1) = true := by rw [beq_iff_eq]; omega
        have hz1' : 0 < s.size := by omega
        have h0 := h0 hz1'
        clear hz
        go_wp2_with fail
        refine (CI1.out _).mono ?_
        rintro r w5 ⟨rfl, hb5⟩
        have t5 := hb5.size
        go_wp2_with fail
        refine (CI2.out _).mono ?_
        rintro r w6 ⟨rfl, hb6⟩
        have t6 := hb6.size
        have g6 := hb5.trans (hb6.mono t5)
        clear hb5 hb6 CI1 CI2
        go_wp2_with fail
        refine (CB1.out _).mono ?_
        rintro r w7 ⟨rfl, rfl⟩
        go_wp2_with fail
        refine (CB2.out _).mono ?_
        rintro r w7 ⟨rfl, rfl⟩
        clear CB1 CB2
        go_wp2_with fail
        refine (CT1.out _).mono ?_
        rintro r w8 ⟨rfl, hb8⟩
        have t8 := hb8.size
        go_wp2_with fail
        refine (CT2.out _).mono ?_
        rintro r w9 ⟨rfl, hb9⟩
        have t9 := hb9.size
        have g9 := (g6.trans (hb8.mono (by omega))).trans (hb9.mono (by omega))
        clear hb8 hb9 g6 CT1 CT2
        go_wp2_with fail
        refine (CS1.out _).mono ?_
        rintro r w10 ⟨rfl, hb10⟩
        have t10 := hb10.size
        go_wp2_with fail
        refine (CN1.out _).mono ?_
        rintro r w11 ⟨rfl, hb11⟩
        have t11 := hb11.size
        have g11 := (g9.trans (hb10.mono (by omega))).trans (hb11.mono (by omega))
        clear hb10 hb11 g9 CS1 CN1
        go_wp2_with fail
        refine (CN2.out _).mono ?_
        rintro r w12 ⟨rfl, hb12⟩
        have t12 := hb12.size
        go_wp2_with fail
        refine (CS2.out _).mono ?_
        rintro r w13 ⟨rfl, hb13⟩
        have t13 := hb13.size
        have g13 := (g11.trans (hb12.mono (by omega))).trans (hb13.mono (by omega))
        clear hb12 hb13 g11 CN2 CS2
        go_wp2_with fail
        refine (CL1.out _ g13).mono ?_
        rintro r w14 ⟨x, y, z, rfl, hb14, hL14⟩
        have t14 := hb14.size
        go_wp2_with fail
        refine (CL2.out _).mono ?_
        rintro r w15 ⟨rfl, hb15⟩
        have t15 := hb15.size
        have g15 := (g13.trans (hb14.mono (by omega))).trans (hb15.mono (by omega))
        have hL15 := Lib.hid ((hL14.imp (P' := (· < w14.heap.size)) (fun b h => h.2) (fun _ _ => rfl)).past hb15)
        clear hL14 hb14 hb15 g13 CL1 CL2
        go_wp2_with fail
        refine (CS3.out _ _ _ _ g15 hL15.out).mono ?_
        rintro r w16 ⟨rfl, hb16⟩
        have g16 := hb.trans ((g15.trans (hb16.mono (by omega))).mono hsw)
        clear hb16 g15 CS3
        go_wp2_with fail
        go_ret
        exact ⟨rfl, g16⟩
      · subst r1 r2
        have e1 : ((s.size : Int) == 1) = false := by rw [beq_eq_false_iff_ne]; omega
        clear hz
        go_wp2_with fail
        refine (CI1.out _).mono ?_
        rintro r w5 ⟨rfl, hb5⟩
        have t5 := hb5.size
        go_wp2_with fail
        refine (CI2.out _).mono ?_
        rintro r w6 ⟨rfl, hb6⟩
        have t6 := hb6.size
        have g6 := hb5.trans (hb6.mono t5)
        clear hb5 hb6 CI1 CI2
        go_wp2_with fail
        refine (CB1.out _).mono ?_
        rintro r w7 ⟨rfl, rfl⟩
        go_wp2_with fail
        refine (CB2.out _).mono ?_
        rintro r w7 ⟨rfl, rfl⟩
        clear CB1 CB2
        go_wp2_with fail
        refine (CT1.out _).mono ?_
        rintro r w8 ⟨rfl, hb8⟩
        have t8 := hb8.size
        go_wp2_with fail
        refine (CT2.out _).mono ?_
        rintro r w9 ⟨rfl, hb9⟩
        have t9 := hb9.size
        have g9 := (g6.trans (hb8.mono (by omega))).trans (hb9.mono (by omega))
        clear hb8 hb9 g6 CT1 CT2
        go_wp2_with fail
        refine (CS1.out _).mono ?_
        rintro r w10 ⟨rfl, hb10⟩
        have t10 := hb10.size
        go_wp2_with fail
        refine (CN1.out _).mono ?_
        rintro r w11 ⟨rfl, hb11⟩
        have t11 := hb11.size
        have g11 := (g9.trans (hb10.mono (by omega))).trans (hb11.mono (by omega))
        clear hb10 hb11 g9 CS1 CN1
        go_wp2_with fail
        refine (CN2.out _).mono ?_
        rintro r w12 ⟨rfl, hb12⟩
        have t12 := hb12.size
        go_wp2_with fail
        refine (CS2.out _).mono ?_
        rintro r w13 ⟨rfl, hb13⟩
        have t13 := hb13.size
        have g13 := (g11.trans (hb12.mono (by omega))).trans (hb13.mono (by omega))
        clear hb12 hb13 g11 CN2 CS2
        go_wp2_with fail
        refine (CL1.out _ g13).mono ?_
        rintro r w14 ⟨x, y, z, rfl, hb14, hL14⟩
        have t14 := hb14.size
        go_wp2_with fail
        refine (CL2.out _).mono ?_
        rintro r w15 ⟨rfl, hb15⟩
        have t15 := hb15.size
        have g15 := (g13.trans (hb14.mono (by omega))).trans (hb15.mono (by omega))
        have hL15 := Lib.hid ((hL14.imp (P' := (· < w14.heap.size)) (fun b h => h.2) (fun _ _ => rfl)).past hb15)
        clear hL14 hb14 hb15 g13 CL1 CL2
        go_wp2_with fail
        refine (CS3.out _ _ _ _ g15 hL15.out).mono ?_
        rintro r w16 ⟨rfl, hb16⟩
        have g16 := hb.trans ((g15.trans (hb16.mono (by omega))).mono hsw)
        clear hb16 g15 CS3
        go_wp2_with fail
        go_ret
        exact ⟨rfl, g16⟩
end Go.Proofs.Ytapkoiamjgdifaa
