/- What the reference's value answers. -/
import Derived.Test.YtfgcmljlamodbaaNVal
namespace Go.Proofs.Ytfgcmljlamodbaa
open Go.RowKit
set_option linter.unusedVariables false
set_option maxRecDepth 100000

theorem ext1 (s : ByteArray) (k : Nat) (h : k < s.size) : s.extract k (k + 1) = ⟨#[s[k]]⟩ := by
  apply ByteArray.ext
  apply Array.toList_inj.1
  rw [Lib.extract_data]
  have : s.data.toList.drop k = s[k] :: s.data.toList.drop (k + 1) := drop_at h
  rw [this, Nat.add_sub_cancel_left]
  rfl
theorem mk_bs (q : ByteArray) : Nm.mk (Nm.bs q) = q := rfl
theorem one_size (c : UInt8) : (⟨#[c]⟩ : ByteArray).size = 1 := rfl
theorem bs_one (q : ByteArray) (c : UInt8) : Nm.bs (q ++ ⟨#[c]⟩) = Nm.bs q ++ [c] := by
  show (q ++ ⟨#[c]⟩ : ByteArray).data.toList = _
  rw [ByteArray.data_append, Array.toList_append]
theorem bs_app (q p : ByteArray) : Nm.bs (q ++ p) = Nm.bs q ++ Nm.bs p := by
  show (q ++ p : ByteArray).data.toList = _
  rw [ByteArray.data_append, Array.toList_append]
theorem bs_two (q : ByteArray) (b c : UInt8) : Nm.bs (q ++ ⟨#[b]⟩ ++ ⟨#[c]⟩) = Nm.bs q ++ [b, c] := by
  rw [bs_one, bs_one, List.append_assoc]
  rfl
theorem hex2_size (a b : UInt8) : (⟨#[a, b]⟩ : ByteArray).size = 2 := rfl
theorem bs_hex (q : ByteArray) (a b c : UInt8) : Nm.bs (q ++ ⟨#[a]⟩ ++ ⟨#[b, c]⟩) = Nm.bs q ++ [a, b, c] := by
  rw [bs_app, bs_one, List.append_assoc]
  rfl
theorem esc_cases (f t : Bool) (c : UInt8) :
    (Nm.escB f t c = [92, c] ∧ (Nm.special c = true ∨ Nm.special c = false ∧ f = true ∧ (c.toNat : Int) = 35 ∨ Nm.special c = false ∧ f = true ∧ (c.toNat : Int) = 32 ∨ Nm.special c = false ∧ f = false ∧ t = true ∧ (c.toNat : Int) = 32)) ∨
    Nm.special c = false ∧ (f && ((c.toNat : Int) == 35 || (c.toNat : Int) == 32)) = false ∧ (t && (c.toNat : Int) == 32) = false ∧ (Nm.escB f t c = [92, Nm.hexc (c.toNat / 16), Nm.hexc (c.toNat % 16)] ∧ ((c.toNat : Int) < 32 ∨ 32 ≤ (c.toNat : Int) ∧ 126 < (c.toNat : Int)) ∨ Nm.escB f t c = [c] ∧ 32 ≤ (c.toNat : Int) ∧ (c.toNat : Int) ≤ 126) := by
  by_cases h : c.toNat < 32 ∨ 126 < c.toNat
  · have e1 : Nm.special c = false := by unfold Nm.special; rw [decide_eq_false_iff_not]; omega
    have e2 : ((c.toNat : Int) == 35) = false := by rw [beq_eq_false_iff_ne]; omega
    have e3 : ((c.toNat : Int) == 32) = false := by rw [beq_eq_false_iff_ne]; omega
    refine Or.inr ⟨e1, by rw [e2, e3]; simp, by rw [e3]; simp, Or.inl ⟨escB_odd f t c h, by omega⟩⟩
  by_cases h3 : (Nm.special c || f && decide (c.toNat = 35 ∨ c.toNat = 32) || t && decide (c.toNat = 32)) = true
  · refine Or.inl ⟨escB_two f t c (by omega) (by omega) h3, ?_⟩
    cases hs : Nm.special c
    · rw [hs] at h3
      cases f
      · cases t
        · simp at h3
        · simp at h3
          exact Or.inr (Or.inr (Or.inr ⟨rfl, rfl, rfl, by omega⟩))
      · simp at h3
        rcases h3 with (h3 | h3) | h3
        · exact Or.inr (Or.inl ⟨rfl, rfl, by omega⟩)
        · exact Or.inr (Or.inr (Or.inl ⟨rfl, rfl, by omega⟩))
        · exact Or.inr (Or.inr (Or.inl ⟨rfl, rfl, by omega⟩))
    · exact Or.inl rfl
  · have h4 : (Nm.special c || f && decide (c.toNat = 35 ∨ c.toNat = 32) || t && decide (c.toNat = 32)) = false := by simpa using h3
    refine Or.inr ?_
    have h5 := escB_one f t c (by omega) (by omega) h4
    rw [Bool.or_eq_false_iff, Bool.or_eq_false_iff] at h4
    have e2 : ((c.toNat : Int) == 35) = decide (c.toNat = 35) := by rw [Bool.eq_iff_iff]; simp; omega
    have e3 : ((c.toNat : Int) == 32) = decide (c.toNat = 32) := by rw [Bool.eq_iff_iff]; simp; omega
    refine ⟨h4.1.1, ?_, by rw [e3]; exact h4.2, Or.inr ⟨h5, by omega, by omega⟩⟩
    rw [e2, e3]
    have := h4.1.2
    rw [Bool.eq_false_iff] at this ⊢
    intro h6; apply this
    simp only [Bool.and_eq_true, Bool.or_eq_true, decide_eq_true_eq] at h6 ⊢
    exact h6
set_option maxHeartbeats 1000000 in
theorem rvalue_any (s : ByteArray) (w : World) (hs : s.size ≤ 100000000) :
    Calls Try.prog 29 #[.string s] w fun e w' => e = .returned (.string (Nm.mk (Nm.escV true (Nm.bs s)))) ∧ Below w.heap.size w w' := by
  have CS := Lib.hid special_any
  have CH := Lib.hid hex_any
  go_enter Try.func29, Try.ntmps29
  go_wp2_with fail
  go_loopw [3, 4] (fun b i wr => ∃ (k : Nat) (q : ByteArray), k ≤ s.size ∧ i = .int .i64 k ∧ b = .string q ∧ Hid (Nm.escV true (Nm.bs s) = Nm.bs q ++ Nm.escV ((k : Int) == 0) ((Nm.bs s).drop k)) ∧ q.size ≤ 3 * k ∧ Below w.heap.size w wr) (fun b i wr => s.size - (intOf i).toNat)
  case atStart => exact ⟨0, ⟨#[]⟩, Nat.zero_le _, rfl, rfl, rfl, Nat.le_refl 0, Below.refl _ _⟩
  case round =>
    obtain ⟨k, q, hk, rfl, rfl, hE, hq, hb1⟩ := hrel
    have hs1 := hb1.size
    by_cases hlt : k < s.size
    · have hE2 := hE.out
      rw [escV_step _ s k hlt, ← List.append_assoc] at hE2
      have X1 := ext1 s k hlt
      obtain ⟨c, hc⟩ : ∃ c, c = s[k] := ⟨_, rfl⟩
      have hcr : ∀ h, s[k]'h = c := fun _ => hc.symm
      have h256 := u8_lt c
      rw [← hc] at hE2 X1
      have HE := Lib.hid hE2
      have hcases := esc_cases ((k : Int) == 0) ((k : Int) == s.size - 1) c
      have D := CS.out c
      have D2 := Lib.hid (CH.out c)
      have hN : (((k + 1 : Nat) : Int) == 0) = false := by rw [beq_eq_false_iff_ne]; omega
      have HN := Lib.hid hN
      clear hE hE2 hc CS CH hN
      rcases hcases with ⟨he, hc4⟩ | ⟨h1, h2, h3, hc4⟩
      · rw [he] at HE
        clear he
        rcases hc4 with h1 | ⟨h1, h2, h3⟩ | ⟨h1, h2, h3⟩ | ⟨h1, h2, h3, h4⟩
        all_goals
          rw [h1] at D
          try rw [h3] at D
          try rw [h4] at D
          have HD := Lib.hid D
          clear D h1
          go_wp2_with fail
          refine (HD.out _).mono ?_
          rintro r w2 ⟨rfl, rfl⟩
          go_wp2_with fail
          refine ⟨⟨k + 1, _, by omega, by go_num, rfl, ?_, ?_, hb1⟩, by simp [intOf]; omega⟩
          · show _ = _
            rw [HN.out, HE.out, bs_two]
          · rw [ByteArray.size_append, ByteArray.size_append, one_size, one_size]; omega
      · have hf : ((k : Int) == 0) = false ∨ ((k : Int) == 0) = true ∧ ((c.toNat : Int) == 35) = false ∧ ((c.toNat : Int) == 32) = false := by
          cases hk0 : ((k : Int) == 0)
          · exact Or.inl rfl
          · rw [hk0, Bool.true_and, Bool.or_eq_false_iff] at h2
            exact Or.inr ⟨rfl, h2⟩
        have ht : ((k : Int) == s.size - 1) = false ∨ ((k : Int) == s.size - 1) = true ∧ ((c.toNat : Int) == 32) = false := by
          cases hk0 : ((k : Int) == s.size - 1)
          · exact Or.inl rfl
          · rw [hk0, Bool.true_and] at h3
            exact Or.inr ⟨rfl, h3⟩
        rw [h1] at D
        have HD := Lib.hid D
        clear D h1 h2 h3
        rcases hc4 with ⟨he, h4⟩ | ⟨he, h4, h5⟩
        · rw [he] at HE
          clear he
          rcases hf with h2 | ⟨h2, h6, h7⟩
          all_goals
            rcases ht with h3 | ⟨h3, h8⟩
            all_goals
              rcases h4 with h4 | ⟨h4, h5⟩
              all_goals
                go_wp2_with fail
                refine (HD.out _).mono ?_
                rintro r w2 ⟨rfl, rfl⟩
                go_wp2_with fail
                refine (D2.out _).mono ?_
                rintro r w3 ⟨rfl, hb3⟩
                have hz3 := hex2_size (Nm.hexc (c.toNat / 16)) (Nm.hexc (c.toNat % 16))
                have hb4 := hb1.trans (hb3.mono hs1)
                go_wp2_with fail
                refine ⟨⟨k + 1, _, by omega, by go_num, rfl, ?_, ?_, hb4⟩, by simp [intOf]; omega⟩
                · show _ = _
                  rw [HN.out, HE.out, bs_hex]
                · rw [ByteArray.size_append, ByteArray.size_append, one_size, hz3]; omega
        · rw [he] at HE
          clear he
          rcases hf with h2 | ⟨h2, h6, h7⟩
          all_goals
            rcases ht with h3 | ⟨h3, h8⟩
            all_goals
              go_wp2_with fail
              refine (HD.out _).mono ?_
              rintro r w2 ⟨rfl, rfl⟩
              go_wp2_with fail
              refine ⟨⟨k + 1, _, by omega, by go_num, rfl, ?_, ?_, hb1⟩, by simp [intOf]; omega⟩
              · show _ = _
                rw [HN.out, HE.out, bs_one]
              · rw [ByteArray.size_append, one_size]; omega
    · have hk2 : k = s.size := by omega
      have hE2 := hE.out
      rw [hk2, ← size_eq, List.drop_length, Nm.escV, List.append_nil] at hE2
      have HE := Lib.hid hE2
      clear hE hE2 hk2
      go_wp2_with fail
      go_ret
      exact ⟨by rw [HE.out, mk_bs]; rfl, hb1⟩
end Go.Proofs.Ytfgcmljlamodbaa
