/- What the reference's escaped answers. -/
import Derived.Test.YticfemheneljmaaDoorFlEsc
namespace Go.Proofs.YticfemheneljmaaDoor.Fi
open Go.RowKit
set_option linter.unusedVariables false
set_option maxRecDepth 100000

theorem hexhi_all : (List.range 256).all (fun n => decide ((⟨#[48, 49, 50, 51, 52, 53, 54, 55, 56, 57, 97, 98, 99, 100, 101, 102]⟩ : ByteArray).extract (n / 16) (n / 16 + 1) = ⟨#[Nm.hexc (n / 16)]⟩)) = true := by kernel_rfl
theorem hexlo_all : (List.range 256).all (fun n => decide ((⟨#[48, 49, 50, 51, 52, 53, 54, 55, 56, 57, 97, 98, 99, 100, 101, 102]⟩ : ByteArray).extract (n % 16) (n % 16 + 1) = ⟨#[Nm.hexc (n % 16)]⟩)) = true := by kernel_rfl
theorem hexT (q : ByteArray) (c : UInt8) : Nm.bs (q ++ ⟨#[92]⟩ ++ (⟨#[48, 49, 50, 51, 52, 53, 54, 55, 56, 57, 97, 98, 99, 100, 101, 102]⟩ : ByteArray).extract (c.toNat / 16) (c.toNat / 16 + 1) ++ (⟨#[48, 49, 50, 51, 52, 53, 54, 55, 56, 57, 97, 98, 99, 100, 101, 102]⟩ : ByteArray).extract (c.toNat % 16) (c.toNat % 16 + 1)) = Nm.bs q ++ [92, Nm.hexc (c.toNat / 16), Nm.hexc (c.toNat % 16)] := by
  rw [of_decide_eq_true (List.all_eq_true.1 hexhi_all c.toNat (by simp [u8_lt c])), of_decide_eq_true (List.all_eq_true.1 hexlo_all c.toNat (by simp [u8_lt c])), bs_one, bs_one, bs_one]
  simp
theorem resc_cases (c : UInt8) : (escC c = [92, Nm.hexc (c.toNat / 16), Nm.hexc (c.toNat % 16)] ∧ (42 ≤ (c.toNat : Int) ∧ (c.toNat : Int) ≤ 42 ∨ ((c.toNat : Int) == 42) = false ∧ 40 ≤ (c.toNat : Int) ∧ (c.toNat : Int) ≤ 40 ∨ ((c.toNat : Int) == 42) = false ∧ ((c.toNat : Int) == 40) = false ∧ 41 ≤ (c.toNat : Int) ∧ (c.toNat : Int) ≤ 41 ∨
      ((c.toNat : Int) == 42) = false ∧ ((c.toNat : Int) == 40) = false ∧ ((c.toNat : Int) == 41) = false ∧ 92 ≤ (c.toNat : Int) ∧ (c.toNat : Int) ≤ 92 ∨
      ((c.toNat : Int) == 42) = false ∧ ((c.toNat : Int) == 40) = false ∧ ((c.toNat : Int) == 41) = false ∧ ((c.toNat : Int) == 92) = false ∧ (c.toNat : Int) < 32 ∨
      ((c.toNat : Int) == 42) = false ∧ ((c.toNat : Int) == 40) = false ∧ ((c.toNat : Int) == 41) = false ∧ ((c.toNat : Int) == 92) = false ∧ 32 ≤ (c.toNat : Int) ∧ 126 < (c.toNat : Int))) ∨
    (escC c = [c] ∧ ((c.toNat : Int) == 42) = false ∧ ((c.toNat : Int) == 40) = false ∧ ((c.toNat : Int) == 41) = false ∧ ((c.toNat : Int) == 92) = false ∧ 32 ≤ (c.toNat : Int) ∧ (c.toNat : Int) ≤ 126) := by
  unfold escC
  simp only [beq_eq_false_iff_ne, ne_eq]
  by_cases h : odd c = true
  · rw [if_pos h]
    unfold odd at h
    rw [decide_eq_true_eq] at h
    exact Or.inl ⟨rfl, by omega⟩
  · rw [if_neg h]
    unfold odd at h
    rw [decide_eq_true_eq] at h
    exact Or.inr ⟨rfl, by omega, by omega, by omega, by omega, by omega, by omega⟩
set_option maxHeartbeats 2000000 in
theorem rescaped_any (s : ByteArray) (w : World) (hs : s.size ≤ 100000000) :
    Calls Tryd.prog 22 #[.string s] w fun e w' => e = .returned (.string (Nm.mk (esc (Nm.bs s)))) ∧ Below w.heap.size w w' := by
  go_enter Tryd.func22, Tryd.ntmps22
  go_wp2_with fail
  go_loopw [4, 5] (fun b i wr => ∃ (k : Nat) (q : ByteArray), k ≤ s.size ∧ i = .int .i64 k ∧ b = .string q ∧ Hid (esc (Nm.bs s) = Nm.bs q ++ esc ((Nm.bs s).drop k)) ∧ q.size ≤ 3 * k ∧ Below w.heap.size w wr) (fun b i wr => s.size - (intOf i).toNat)
  case atStart => exact ⟨0, ⟨#[]⟩, Nat.zero_le _, rfl, rfl, rfl, Nat.le_refl 0, Below.refl _ _⟩
  case round =>
    obtain ⟨k, q, hk, rfl, rfl, hE, hq, hb1⟩ := hrel
    have hs1 := hb1.size
    by_cases hlt : k < s.size
    · have hE2 := hE.out
      rw [esc_step s k hlt, ← List.append_assoc] at hE2
      have X1 := ext1 s k hlt
      obtain ⟨c, hc⟩ : ∃ c, c = s[k] := ⟨_, rfl⟩
      have hcr : ∀ h, s[k]'h = c := fun _ => hc.symm
      have h256 := u8_lt c
      rw [← hc] at hE2 X1
      have hcases := resc_cases c
      have HT := Lib.hid (hexT q c)
      have hk2 : (k : Int) + 1 ≤ s.size := by omega
      clear hE hc
      rcases hcases with ⟨he, hc4⟩ | ⟨he, h1, h2, h3, h4, h5, h6⟩
      · rw [he] at hE2
        have HE := Lib.hid hE2
        have g0 : 0 ≤ (c.toNat : Int) / 16 := by omega
        have g1 : (c.toNat : Int) / 16 < 16 := by omega
        have g2 : (c.toNat : Int) % 16 < 16 := by omega
        have g3 : 0 ≤ (c.toNat : Int) % 16 := by omega
        have g4 : bits .and .u8 (c.toNat : Int) 15 = (c.toNat : Int) % 16 := and15 c
        have hz1 : (⟨#[92]⟩ : ByteArray).size = 1 := rfl
        clear he hE2
        rcases hc4 with ⟨h1, h2⟩ | ⟨h1, h2, h3⟩ | ⟨h1, h2, h3, h4⟩ | ⟨h1, h2, h3, h4, h5⟩ | ⟨h1, h2, h3, h4, h5⟩ | ⟨h1, h2, h3, h4, h5, h6⟩
        · have HC := Lib.hid (show c = 42 from u8_nat (show c.toNat = 42 by omega))
          go_wp2_with fail
          go_region
          all_goals
            go_wp2_with fail
            refine ⟨⟨k + 1, _, by omega, by go_num, rfl, ?_, ?_, hb1.drew⟩, by simp [intOf]; omega⟩
            · have e1 := HE.out
              have e2 := HT.out
              rw [HC.out] at e1 e2
              exact e1.trans (congrArg (· ++ esc (List.drop (k + 1) (Nm.bs s))) e2.symm)
            · have e := congrArg List.length HT.out
              rw [HC.out] at e
              have e2 : (Nm.bs q).length = q.size := rfl
              rw [List.length_append, e2] at e
              refine Nat.le_trans (Nat.le_of_eq e) ?_
              simp only [List.length_cons, List.length_nil]
              omega
        · have HC := Lib.hid (show c = 40 from u8_nat (show c.toNat = 40 by omega))
          go_wp2_with fail
          go_region
          all_goals
            go_wp2_with fail
            refine ⟨⟨k + 1, _, by omega, by go_num, rfl, ?_, ?_, hb1.drew⟩, by simp [intOf]; omega⟩
            · have e1 := HE.out
              have e2 := HT.out
              rw [HC.out] at e1 e2
              exact e1.trans (congrArg (· ++ esc (List.drop (k + 1) (Nm.bs s))) e2.symm)
            · have e := congrArg List.length HT.out
              rw [HC.out] at e
              have e2 : (Nm.bs q).length = q.size := rfl
              rw [List.length_append, e2] at e
              refine Nat.le_trans (Nat.le_of_eq e) ?_
              simp only [List.length_cons, List.length_nil]
              omega
        · have HC := Lib.hid (show c = 41 from u8_nat (show c.toNat = 41 by omega))
          go_wp2_with fail
          go_region
          all_goals
            go_wp2_with fail
            refine ⟨⟨k + 1, _, by omega, by go_num, rfl, ?_, ?_, hb1.drew⟩, by simp [intOf]; omega⟩
            · have e1 := HE.out
              have e2 := HT.out
              rw [HC.out] at e1 e2
              exact e1.trans (congrArg (· ++ esc (List.drop (k + 1) (Nm.bs s))) e2.symm)
            · have e := congrArg List.length HT.out
              rw [HC.out] at e
              have e2 : (Nm.bs q).length = q.size := rfl
              rw [List.length_append, e2] at e
              refine Nat.le_trans (Nat.le_of_eq e) ?_
              simp only [List.length_cons, List.length_nil]
              omega
        · have HC := Lib.hid (show c = 92 from u8_nat (show c.toNat = 92 by omega))
          go_wp2_with fail
          go_region
          all_goals
            go_wp2_with fail
            refine ⟨⟨k + 1, _, by omega, by go_num, rfl, ?_, ?_, hb1.drew⟩, by simp [intOf]; omega⟩
            · have e1 := HE.out
              have e2 := HT.out
              rw [HC.out] at e1 e2
              exact e1.trans (congrArg (· ++ esc (List.drop (k + 1) (Nm.bs s))) e2.symm)
            · have e := congrArg List.length HT.out
              rw [HC.out] at e
              have e2 : (Nm.bs q).length = q.size := rfl
              rw [List.length_append, e2] at e
              refine Nat.le_trans (Nat.le_of_eq e) ?_
              simp only [List.length_cons, List.length_nil]
              omega
        · go_wp2_with fail
          go_region
          all_goals
            go_wp2_with fail
            refine ⟨⟨k + 1, _, by omega, by go_num, rfl, ?_, ?_, hb1.drew⟩, by simp [intOf]; omega⟩
            · exact HE.out.trans (congrArg (· ++ esc (List.drop (k + 1) (Nm.bs s))) HT.out.symm)
            · have e := congrArg List.length HT.out
              have e2 : (Nm.bs q).length = q.size := rfl
              rw [List.length_append, e2] at e
              refine Nat.le_trans (Nat.le_of_eq e) ?_
              simp only [List.length_cons, List.length_nil]
              omega
        · go_wp2_with fail
          go_region
          all_goals
            go_wp2_with fail
            refine ⟨⟨k + 1, _, by omega, by go_num, rfl, ?_, ?_, hb1.drew⟩, by simp [intOf]; omega⟩
            · exact HE.out.trans (congrArg (· ++ esc (List.drop (k + 1) (Nm.bs s))) HT.out.symm)
            · have e := congrArg List.length HT.out
              have e2 : (Nm.bs q).length = q.size := rfl
              rw [List.length_append, e2] at e
              refine Nat.le_trans (Nat.le_of_eq e) ?_
              simp only [List.length_cons, List.length_nil]
              omega
      · rw [he] at hE2
        have HE := Lib.hid hE2
        have HQ := Lib.hid (bs_one q c)
        clear hE2 he
        go_wp2_with fail
        refine ⟨⟨k + 1, _, by omega, by go_num, rfl, ?_, ?_, hb1⟩, by simp [intOf]; omega⟩
        · exact HE.out.trans (congrArg (· ++ esc (List.drop (k + 1) (Nm.bs s))) HQ.out.symm)
        · rw [ByteArray.size_append]
          have : (⟨#[c]⟩ : ByteArray).size = 1 := rfl
          omega
    · have hk2 : k = s.size := by omega
      have hE2 := hE.out
      rw [hk2, ← size_eq, List.drop_length, show esc [] = [] from rfl, List.append_nil] at hE2
      have HE := Lib.hid hE2
      clear hE hE2 hk2
      go_wp2_with fail
      go_ret
      exact ⟨by rw [HE.out, mk_bs]; rfl, hb1⟩
end Go.Proofs.YticfemheneljmaaDoor.Fi
