/- NameBounds: the walk. -/
import Derived.Test.YtfgcmljlamodbaaNCasesW
namespace Go.Proofs.Ytfgcmljlamodbaa
open Go.RowKit
set_option linter.unusedVariables false
set_option maxRecDepth 100000

/-- The three texts: a value of k bytes; k parts; k AVAs. -/
def bndR (k : Nat) : List UInt8 := [99, 110, 61] ++ List.replicate k 120
def bndS (k S : Nat) : List UInt8 := bndR S ++ (List.replicate (k - 1) [44, 111, 117, 61, 121]).flatten
def bndT : Nat → List UInt8
  | 0 => []
  | k + 1 => bndT k ++ (if k = 0 then [] else [43]) ++ [97 + k.toUInt8, 61, 118]
theorem bnd1 : ([(8, 60), (8, 61), (9, 60), (9, 61)] : List (Nat × Nat)).all (fun q => (Nm.dnm (bndS q.1 q.2)).isSome == decide (q.1 ≤ 8 ∧ q.2 ≤ 60)) = true := by kernel_rfl
theorem bnd2 : ([4, 5] : List Nat).all (fun q => (Nm.rdn (bndT q)).isSome == decide (q ≤ 4)) = true := by kernel_rfl
theorem bnd3 : ([60, 61] : List Nat).all (fun q => (Nm.rdn (bndR q)).isSome == decide (q ≤ 60)) = true := by kernel_rfl
theorem bnd1_of {P S : Nat} (hP : P = 8 ∨ P = 9) (hS : S = 60 ∨ S = 61) : (Nm.dnm (bndS P S)).isSome = decide (P ≤ 8 ∧ S ≤ 60) := by
  rcases hP with rfl | rfl <;> rcases hS with rfl | rfl
  · exact eq_of_beq (List.all_eq_true.1 bnd1 (8, 60) (by simp))
  · exact eq_of_beq (List.all_eq_true.1 bnd1 (8, 61) (by simp))
  · exact eq_of_beq (List.all_eq_true.1 bnd1 (9, 60) (by simp))
  · exact eq_of_beq (List.all_eq_true.1 bnd1 (9, 61) (by simp))
theorem bnd2_of {M : Nat} (hM : M = 4 ∨ M = 5) : (Nm.rdn (bndT M)).isSome = decide (M ≤ 4) := by
  rcases hM with rfl | rfl
  · exact eq_of_beq (List.all_eq_true.1 bnd2 4 (by simp))
  · exact eq_of_beq (List.all_eq_true.1 bnd2 5 (by simp))
theorem bnd3_of {S : Nat} (hS : S = 60 ∨ S = 61) : (Nm.rdn (bndR S)).isSome = decide (S ≤ 60) := by
  rcases hS with rfl | rfl
  · exact eq_of_beq (List.all_eq_true.1 bnd3 60 (by simp))
  · exact eq_of_beq (List.all_eq_true.1 bnd3 61 (by simp))
/-- What is asked of a parse here: whether there is an error. -/
theorem parseD_err (s : ByteArray) (w : World) (hs : s.size ≤ 1000000000) (B : Bool) (h : (Nm.dnm (Nm.bs s)).isSome = B) :
    Calls Try.prog 15 #[.string s] w fun r w' => ∃ A l c, r = .returned (.tuple #[.slice A l c, .int .i64 (if B then 0 else 15)]) ∧ Below w.heap.size w w' := by
  refine (parseD_any s w hs).mono fun e w' hp => ?_
  cases hd : Nm.dnm (Nm.bs s) with
  | none =>
    rw [hd] at h hp
    obtain ⟨rfl, hb⟩ := hp
    subst h
    exact ⟨none, 0, 0, rfl, hb⟩
  | some d =>
    rw [hd] at h hp
    obtain ⟨A, c, rfl, _, _, hb⟩ := hp
    subst h
    exact ⟨A, _, c, rfl, hb⟩
theorem parseR_err (s : ByteArray) (w : World) (hs : s.size ≤ 1000000000) (B : Bool) (h : (Nm.rdn (Nm.bs s)).isSome = B) :
    Calls Try.prog 17 #[.string s] w fun r w' => ∃ A l c, r = .returned (.tuple #[.slice A l c, .int .i64 (if B then 0 else 15)]) ∧ Below w.heap.size w w' := by
  refine (parseR_any s w hs).mono fun e w' hp => ?_
  cases hd : Nm.rdn (Nm.bs s) with
  | none =>
    rw [hd] at h hp
    obtain ⟨rfl, hb⟩ := hp
    subst h
    exact ⟨none, 0, 0, rfl, hb⟩
  | some d =>
    rw [hd] at h hp
    obtain ⟨A, c, rfl, _, _, hb⟩ := hp
    subst h
    exact ⟨A, _, c, rfl, hb⟩
theorem make_none (w : World) :
    (Instr.makeSlice 45 (.int .i64 0) (.int .i64 0)).run Try.prog w = .ok (.slice (some ⟨w.heap.size, 0, none⟩) 0 0) (w.alloc (.cells #[] 5)) := by
  obtain ⟨i, hi, hz, hs1, hb1⟩ := infoP info8
  have h := run_makeSlice (P := Try.prog) w 45 5 i (.int .u8 0) Try.underlying45 hi hz .i64 .i64 0 0 (by omega) (by omega) (by rw [hs1]; omega) (by rw [hb1]; omega) (by omega)
  rw [hs1, show Int.toNat 0 = 0 from rfl, show 0 * 1 = 0 from rfl, show madeCells (Value.int .u8 0).cells 0 = #[] from by simp [madeCells]] at h
  exact h
theorem cat_mk (a b : List UInt8) : Nm.mk a ++ Nm.mk b = Nm.mk (a ++ b) := by
  refine ByteArray.ext ?_
  rw [ByteArray.data_append]
  refine Array.toList_inj.1 ?_
  simp
theorem bndR_zero : (⟨#[99, 110, 61]⟩ : ByteArray) ++ Nm.mk [] = Nm.mk (bndR 0) := cat_mk [99, 110, 61] []
theorem bndR_step (q : Nat) : Nm.mk (bndR q) ++ (⟨#[120]⟩ : ByteArray) = Nm.mk (bndR (q + 1)) := by
  refine (cat_mk (bndR q) [120]).trans ?_
  unfold bndR
  rw [List.replicate_succ', List.append_assoc]
theorem bndS_zero (S : Nat) : Nm.mk (bndR S) = Nm.mk (bndS 1 S) := by
  unfold bndS
  simp
theorem bndS_step (q S : Nat) : Nm.mk (bndS (q + 1) S) ++ (⟨#[44, 111, 117, 61, 121]⟩ : ByteArray) = Nm.mk (bndS (q + 1 + 1) S) := by
  refine (cat_mk (bndS (q + 1) S) [44, 111, 117, 61, 121]).trans ?_
  unfold bndS
  rw [List.append_assoc, show q + 1 + 1 - 1 = q + 1 from rfl, List.replicate_succ', List.flatten_append]
  simp
theorem bndT_one (c : UInt8) (hc : c = 97 + (0 : Nat).toUInt8) (V : ByteArray) (hV : V = Nm.mk (bndT 0)) : V ++ Nm.mk [c] ++ (⟨#[61, 118]⟩ : ByteArray) = Nm.mk (bndT 1) := by
  subst hV hc
  exact (congrArg (· ++ Nm.mk [61, 118]) (cat_mk (bndT 0) [97 + (0 : Nat).toUInt8])).trans (cat_mk _ [61, 118])
theorem bndT_more (q : Nat) (hq : q ≠ 0) (c : UInt8) (hc : c = 97 + q.toUInt8) (V : ByteArray) (hV : V = Nm.mk (bndT q)) : V ++ (⟨#[43]⟩ : ByteArray) ++ Nm.mk [c] ++ (⟨#[61, 118]⟩ : ByteArray) = Nm.mk (bndT (q + 1)) := by
  subst hV hc
  have h1 : Nm.mk (bndT q) ++ Nm.mk [43] ++ Nm.mk [97 + q.toUInt8] ++ Nm.mk [61, 118] = Nm.mk (bndT (q + 1)) := by
    rw [cat_mk, cat_mk, cat_mk, bndT, if_neg hq]
    simp
  exact h1
set_option maxHeartbeats 8000000 in
theorem bound_go (n m k : Int) (P M S : Nat) (w : World) (hn : 0 ≤ n ∧ n ≤ 255) (hm : 0 ≤ m ∧ m ≤ 255) (hk : 0 ≤ k ∧ k ≤ 255) (hP : 8 + n % 2 = P) (hM : 4 + m % 2 = M) (hS : 60 + k % 2 = S) :
    Calls Try.prog 7 #[.int .u8 n, .int .u8 m, .int .u8 k] w fun r w' => r = .returned (.bool true) ∧ Below w.heap.size w w' := by
  have HP := Lib.hid (show P = 8 ∨ P = 9 by omega)
  have HM := Lib.hid (show M = 4 ∨ M = 5 by omega)
  have HS := Lib.hid (show S = 60 ∨ S = 61 by omega)
  obtain ⟨hn0, hn1⟩ := hn
  obtain ⟨hm0, hm1⟩ := hm
  obtain ⟨hk0, hk1⟩ := hk
  have CV := Lib.hid conv_blk
  go_enter Try.func7, Try.ntmps7
  go_wp2_with fail
  refine (nknown_any _).mono ?_
  rintro r w1 ⟨rfl, hbw⟩
  have X0 := make_none w1
  have X1 := CV.out (w1.alloc (.cells #[] 5)) w1.heap.size 0 [] rfl (Blk.new w1 _ _)
  have HB := Lib.hid (hbw.trans (((Below.refl _ _).alloc (Nat.le_refl _) (.cells #[] 5)).mono hbw.size))
  obtain ⟨R0, hR0⟩ : ∃ R0, R0 = Nm.mk [] := ⟨_, rfl⟩
  have HR0 := Lib.hid hR0
  have z0 : R0.size = 0 := by rw [hR0]; rfl
  rw [← hR0] at X1
  clear hR0 hbw
  go_wp2_with fail
  have h0 : (⟨#[99, 110, 61]⟩ : ByteArray) ++ R0 = Nm.mk (bndR 0) := by rw [HR0.out, bndR_zero]
  obtain ⟨R1, hR1⟩ : ∃ R1, R1 = (⟨#[99, 110, 61]⟩ : ByteArray) ++ R0 := ⟨_, rfl⟩
  rw [← hR1]
  rw [← hR1] at h0
  have HR1 := Lib.hid h0
  have z1 : R1.size = 3 := by rw [h0]; rfl
  clear h0 hR1 X0 X1 z0
  obtain ⟨wa, hwa⟩ : ∃ wa, wa = w1.alloc (.cells #[] 5) := ⟨_, rfl⟩
  rw [← hwa] at HB ⊢
  clear hwa
  go_loopw [10, 11] (fun s i wr => ∃ (q : Nat) (T : ByteArray), q ≤ S ∧ i = .int .i64 q ∧ s = .string T ∧ T.size = 3 + q ∧ Hid (T = Nm.mk (bndR q)) ∧ wr = wa) (fun s i wr => S - (intOf i).toNat)
  case atStart => exact ⟨0, R1, Nat.zero_le _, rfl, rfl, z1, HR1, rfl⟩
  case round =>
    obtain ⟨q, T, hq, rfl, rfl, zT, hT, rfl⟩ := hrel
    have HS2 : S ≤ 61 := by have := HS.out; omega
    by_cases hlt : q < S
    · have k0 : ¬ (9223372036854775807 < T.size + 1) := by omega
      have HT := Lib.hid (show T ++ (⟨#[120]⟩ : ByteArray) = Nm.mk (bndR (q + 1)) by rw [hT.out, bndR_step])
      have zT2 := Lib.hid (show (T ++ (⟨#[120]⟩ : ByteArray)).size = 3 + (q + 1) by rw [ByteArray.size_append, zT]; rfl)
      clear zT hT hP hM hS
      go_wp2_with fail
      refine ⟨⟨q + 1, _, by omega, by go_num, rfl, zT2.out, HT, trivial⟩, by simp [intOf]; omega⟩
    · have hq2 : S = q := by omega
      subst hq2
      have HTR := hT
      have zR := Lib.hid zT
      have h1 : T = Nm.mk (bndS 1 S) := hT.out.trans (bndS_zero S)
      have HT1 := Lib.hid h1
      clear hT h1 hq HS2 hlt
      go_wp2_with fail
      go_loopw [12, 13] (fun s i wx => ∃ (q : Nat) (U : ByteArray), q + 1 ≤ P ∧ i = .int .i64 (q + 1 : Nat) ∧ s = .string U ∧ U.size = 3 + S + 5 * q ∧ Hid (U = Nm.mk (bndS (q + 1) S)) ∧ wx = wr) (fun s i wx => P - (intOf i).toNat)
      case atStart =>
        have := HP.out
        exact ⟨0, T, by omega, rfl, rfl, zT, HT1, rfl⟩
      case round =>
        obtain ⟨q, U, hq, rfl, rfl, zU, hU, rfl⟩ := hrel
        have HP2 : P ≤ 9 := by have := HP.out; omega
        have HS2 : S ≤ 61 := by have := HS.out; omega
        by_cases hlt : q + 1 < P
        · have k0 : ¬ (9223372036854775807 < U.size + 5) := by omega
          have HT := Lib.hid (show U ++ (⟨#[44, 111, 117, 61, 121]⟩ : ByteArray) = Nm.mk (bndS (q + 1 + 1) S) by rw [hU.out, bndS_step])
          have zT2 := Lib.hid (show (U ++ (⟨#[44, 111, 117, 61, 121]⟩ : ByteArray)).size = 3 + S + 5 * (q + 1) by rw [ByteArray.size_append, zU]; show _ + 5 = _; omega)
          clear zU hU hP hM hS
          go_wp2_with fail
          refine ⟨⟨q + 1, _, by omega, by go_num, rfl, zT2.out, HT, trivial⟩, by simp [intOf]; omega⟩
        · have hq2 : P = q + 1 := by omega
          have HU := Lib.hid (show U = Nm.mk (bndS P S) by rw [hU.out, hq2])
          have zU2 := Lib.hid (show U.size ≤ 200 by omega)
          clear zU zT HP2 HS2 hU
          go_wp2_with fail
          clear hlt hq2 hq HT1 HR1 HR0 z1
          go_loopw [14, 15] (fun s i wy => ∃ (q : Nat) (V : ByteArray), q ≤ M ∧ i = .int .i64 q ∧ s = .string V ∧ Hid (V.size ≤ 4 * q) ∧ Hid (V = Nm.mk (bndT q)) ∧ Hid (Below w.heap.size w wy)) (fun s i wy => M - (intOf i).toNat)
          case atStart => exact ⟨0, ⟨#[]⟩, by omega, rfl, rfl, Nat.le_refl _, rfl, HB⟩
          case round =>
            clear HB
            obtain ⟨q, V, hq, rfl, rfl, zV, hV, HB⟩ := hrel
            have HM2 : M ≤ 5 := by have := HM.out; omega
            have zV2 := zV.out
            by_cases hlt : q < M
            · by_cases h0 : q = 0
              · subst h0
                have X1 := CV.out (wr.alloc (.cells #[.int .u8 97] 5)) wr.heap.size 1 [97] rfl (Blk.new wr _ _)
                have z1 : (Nm.mk [97]).size = 1 := rfl
                have HB2 := Lib.hid (HB.out.trans (((Below.refl _ _).alloc (Nat.le_refl _) (.cells #[.int .u8 97] 5)).mono HB.out.size))
                have HF := Lib.hid (bndT_one 97 rfl V hV.out)
                have k1 : ¬ (9223372036854775807 < V.size + 1) := by omega
                have k2 : ¬ (9223372036854775807 < V.size + 1 + 2) := by omega
                have HZ := Lib.hid (show (V ++ Nm.mk [97] ++ (⟨#[61, 118]⟩ : ByteArray)).size ≤ 4 * 1 by
                  rw [ByteArray.size_append, ByteArray.size_append, z1]
                  show V.size + 1 + 2 ≤ _
                  omega)
                go_wp2_with fail
                refine ⟨⟨1, _, by omega, rfl, rfl, HZ.out, HF.out, HB2.out⟩, by simp [intOf]; omega⟩
              · obtain ⟨c, hc⟩ : ∃ c : UInt8, c = 97 + q.toUInt8 := ⟨_, rfl⟩
                have e1 : 97 + (q : Int) = c.toNat := by
                  have e2 : (q.toUInt8).toNat = q := by rw [UInt8.toNat_ofNat']; omega
                  rw [hc, UInt8.toNat_add, e2, show (97 : UInt8).toNat = 97 from rfl]; omega
                have X1 := CV.out (wr.alloc (.cells #[.int .u8 c.toNat] 5)) wr.heap.size 1 [c] rfl (Blk.new wr _ _)
                have z1 : (Nm.mk [c]).size = 1 := rfl
                have HB2 := Lib.hid (HB.out.trans (((Below.refl _ _).alloc (Nat.le_refl _) (.cells #[.int .u8 c.toNat] 5)).mono HB.out.size))
                have h1 : 0 < q := by omega
                have HF := Lib.hid (bndT_more q h0 c hc V hV.out)
                have k0 : ¬ (9223372036854775807 < V.size + 1) := by omega
                have k1 : ¬ (9223372036854775807 < V.size + 1 + 1) := by omega
                have k2 : ¬ (9223372036854775807 < V.size + 1 + 1 + 2) := by omega
                have HZ := Lib.hid (show (V ++ (⟨#[43]⟩ : ByteArray) ++ Nm.mk [c] ++ (⟨#[61, 118]⟩ : ByteArray)).size ≤ 4 * (q + 1) by
                  rw [ByteArray.size_append, ByteArray.size_append, ByteArray.size_append, z1]
                  show V.size + 1 + 1 + 2 ≤ _
                  omega)
                clear h0 hc
                go_wp2_with fail
                refine ⟨⟨q + 1, _, by omega, rfl, rfl, HZ.out, HF.out, HB2.out⟩, by simp [intOf]; omega⟩
            · have hq2 : M = q := by omega
              subst hq2
              have HV := hV
              have hTs : T.size ≤ 1000000000 := by
                have := zR.out
                have := HS.out
                omega
              have hUs : U.size ≤ 1000000000 := by
                have := zU2.out
                omega
              have hVs : V.size ≤ 1000000000 := by omega
              obtain ⟨y1, hy1⟩ : ∃ y : Int, y = if P ≤ 8 ∧ S ≤ 60 then 0 else 15 := ⟨_, rfl⟩
              obtain ⟨y2, hy2⟩ : ∃ y : Int, y = if M ≤ 4 then 0 else 15 := ⟨_, rfl⟩
              obtain ⟨y3, hy3⟩ : ∃ y : Int, y = if S ≤ 60 then 0 else 15 := ⟨_, rfl⟩
              have HY1 := Lib.hid hy1
              have HY2 := Lib.hid hy2
              have HY3 := Lib.hid hy3
              clear hy1 hy2 hy3
              have P1 : Hid (∀ w, Calls Try.prog 15 #[.string U] w fun r w' => ∃ A l c, r = .returned (.tuple #[.slice A l c, .int .i64 y1]) ∧ Below w.heap.size w w') := fun w => by
                have := parseD_err U w hUs (decide (P ≤ 8 ∧ S ≤ 60)) (by
                  rw [HU.out]
                  exact bnd1_of HP.out HS.out)
                rw [HY1.out]
                simpa only [decide_eq_true_eq] using this
              have P2 : Hid (∀ w, Calls Try.prog 17 #[.string V] w fun r w' => ∃ A l c, r = .returned (.tuple #[.slice A l c, .int .i64 y2]) ∧ Below w.heap.size w w') := fun w => by
                have := parseR_err V w hVs (decide (M ≤ 4)) (by
                  rw [HV.out]
                  exact bnd2_of HM.out)
                rw [HY2.out]
                simpa only [decide_eq_true_eq] using this
              have P3 : Hid (∀ w, Calls Try.prog 17 #[.string T] w fun r w' => ∃ A l c, r = .returned (.tuple #[.slice A l c, .int .i64 y3]) ∧ Below w.heap.size w w') := fun w => by
                have := parseR_err T w hTs (decide (S ≤ 60)) (by
                  rw [HTR.out]
                  exact bnd3_of HS.out)
                rw [HY3.out]
                simpa only [decide_eq_true_eq] using this
              clear HU HV HTR zR zU2 zV zV2 hV hTs hUs hVs hq HM2 CV hP hM hS
              go_wp2_with fail
              refine (P1.out _).mono ?_
              rintro r w2 ⟨A1, l1, c1, rfl, hb⟩
              have HB1 := Lib.hid (HB.out.trans (hb.mono HB.out.size))
              clear HB hb P1
              go_wp2_with fail
              refine (P2.out _).mono ?_
              rintro r w3 ⟨A2, l2, c2, rfl, hb⟩
              have HB2 := Lib.hid (HB1.out.trans (hb.mono HB1.out.size))
              clear HB1 hb P2
              go_wp2_with fail
              refine (P3.out _).mono ?_
              rintro r w4 ⟨A3, l3, c3, rfl, hb⟩
              have HB3 := Lib.hid (HB2.out.trans (hb.mono HB2.out.size))
              clear HB2 hb P3 hlt
              have hP := HP.out
              have hM := HM.out
              have hS := HS.out
              have y1' := HY1.out
              have y2' := HY2.out
              have y3' := HY3.out
              clear HP HM HS HY1 HY2 HY3
              rcases hP with rfl | rfl <;> rcases hM with rfl | rfl <;> rcases hS with rfl | rfl
              all_goals
                simp at y1' y2' y3'
                subst y1' y2' y3'
                go_wp2_with fail
                go_ret
                exact ⟨rfl, HB3.out⟩
theorem walk_NameBounds (n : Int) (hn : (Lit.int .u8 n).wf = true) (m : Int) (hm : (Lit.int .u8 m).wf = true) (k : Int) (hk : (Lit.int .u8 k).wf = true) (w : World) :
    Calls Try.prog 7 #[.int .u8 n, .int .u8 m, .int .u8 k] w fun r w' => r = .returned (.bool true) ∧ Below w.heap.size w w' := by
  have h1 := wf_u8 hn
  have h2 := wf_u8 hm
  have h3 := wf_u8 hk
  exact bound_go n m k (8 + n % 2).toNat (4 + m % 2).toNat (60 + k % 2).toNat w h1 h2 h3 (by omega) (by omega) (by omega)
end Go.Proofs.Ytfgcmljlamodbaa
