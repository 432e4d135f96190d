/- What the reference's Check answers. -/
import Derived.Test.YtkdlkdbjgajenaaDoorScFits
import Derived.Test.YtkdlkdbjgajenaaDoorScRFind
import Derived.Test.YtkdlkdbjgajenaaDoorScRInt
import Derived.Test.YtkdlkdbjgajenaaDoorNRParseD
namespace Go.Proofs.YtkdlkdbjgajenaaDoor
open Go.RowKit
set_option linter.unusedVariables false
set_option maxRecDepth 100000

theorem rparseD_err (s : ByteArray) (w : World) (hs : s.size ≤ 1000000000) (B : Bool) (h : (Nm.dnm (Nm.bs s)).isSome = B) :
    Calls Tryd.prog 18 #[.string s] w fun r w' => ∃ A l c, r = .returned (.tuple #[.slice A l c, .bool B]) ∧ Below w.heap.size w w' := by
  refine (rparseD_any s w hs).mono fun e w' hp => ?_
  cases hd : Nm.dnm (Nm.bs s) with
  | none =>
    rw [hd] at h hp
    obtain ⟨rfl, hb⟩ := hp
    subst h
    exact ⟨none, 0, 0, rfl, hb⟩
  | some d =>
    rw [hd] at h hp
    obtain ⟨A, c, rfl, _, _, hb⟩ := hp
    subst h
    exact ⟨A, _, c, rfl, hb⟩
theorem tab_sy : ∀ t ∈ Sc.tab, t.2.1 = 1 ∨ t.2.1 = 2 ∨ t.2.1 = 3 ∨ t.2.1 = 4 ∨ t.2.1 = 5 := by
  have h : (Sc.tab.all fun t => decide (t.2.1 = 1 ∨ t.2.1 = 2 ∨ t.2.1 = 3 ∨ t.2.1 = 4 ∨ t.2.1 = 5)) = true := by kernel_rfl
  intro t ht
  exact of_decide_eq_true (List.all_eq_true.1 h t ht)
def noBl (c : UInt8) : Bool := decide (c.toNat ≠ 32)
set_option maxHeartbeats 8000000 in
theorem rcheck_any (n v : ByteArray) (w : World) (hn : n.size ≤ 1099511627776) :
    Calls Tryd.prog 10 #[.string n, .string v] w fun e w' => e = .returned (.int .i64 (Sc.check (Nm.bs n) (Nm.bs v) : Nat)) ∧ Below w.heap.size w w' := by
  have CF := Lib.hid (fun w => rfind_any n w hn)
  obtain ⟨R, hR⟩ : ∃ R, R = Sc.check (Nm.bs n) (Nm.bs v) := ⟨_, rfl⟩
  rw [← hR]
  cases hf : Sc.find (Nm.bs n) with
  | none =>
    rw [hf] at CF
    have HF := Lib.hid (show (R : Int) = 16 by rw [hR, check_none hf]; rfl)
    have C2 : Hid (∀ w, Calls Tryd.prog 8 #[.string n] w fun e w' => e = .returned (.tuple #[.agg #[.string ⟨#[]⟩, .int .i64 0, .bool false], .bool false]) ∧ Below w.heap.size w w') := CF.out
    clear hR hf CF
    go_enter Tryd.func10, Tryd.ntmps10
    go_wp2_with fail
    refine (C2.out _).mono ?_
    rintro r w1 ⟨rfl, hb1⟩
    go_wp2_with fail
    go_ret
    exact ⟨ret_int HF.out.symm, hb1.alloc hb1.size _⟩
  | some t =>
    rw [hf] at CF
    obtain ⟨x, sy, sg⟩ := t
    have hR2 : R = if Nm.bs v = [] ∨ 60 < (Nm.bs v).length ∨ Sc.fits sy (Nm.bs v) = false then 17 else 0 := by rw [hR, check_some hf]
    have C2 : Hid (∀ w, Calls Tryd.prog 8 #[.string n] w fun e w' => e = .returned (.tuple #[.agg #[.string x, .int .i64 sy, .bool sg], .bool true]) ∧ Below w.heap.size w w') := CF.out
    have hsy : sy = 1 ∨ sy = 2 ∨ sy = 3 ∨ sy = 4 ∨ sy = 5 := tab_sy _ (tab_nat _ _ _ hf)
    clear hR hf CF
    rw [size_eq] at hR2
    by_cases h0 : v.size = 0
    · have h1 : (v.size : Int) = 0 := by omega
      have HF := Lib.hid (show (R : Int) = 17 by rw [hR2, if_pos (Or.inl (nilD_of v h0))]; rfl)
      clear hR2 h0 hsy
      go_enter Tryd.func10, Tryd.ntmps10
      go_wp2_with fail
      refine (C2.out _).mono ?_
      rintro r w1 ⟨rfl, hb1⟩
      go_wp2_with fail
      go_ret
      exact ⟨ret_int HF.out.symm, hb1.alloc hb1.size _⟩
    have h1 : 1 ≤ (v.size : Int) := by omega
    by_cases h60 : 60 < (v.size : Int)
    · have HF := Lib.hid (show (R : Int) = 17 by rw [hR2, if_pos (Or.inr (Or.inl (by omega)))]; rfl)
      clear hR2 h0 hsy
      go_enter Tryd.func10, Tryd.ntmps10
      go_wp2_with fail
      refine (C2.out _).mono ?_
      rintro r w1 ⟨rfl, hb1⟩
      go_wp2_with fail
      go_ret
      exact ⟨ret_int HF.out.symm, hb1.alloc hb1.size _⟩
    have h60' : (v.size : Int) ≤ 60 := by omega
    have hne : Nm.bs v ≠ [] := by
      intro e
      have := size_eq v
      rw [show v.data.toList = [] from e] at this
      simp at this
      omega
    have CI := fun w => risInt_any v w (by omega)
    have CP := fun w => rparseD_err v w (by omega) _ rfl
    obtain ⟨I, hI⟩ : ∃ I, I = Sc.isInt (Nm.bs v) := ⟨_, rfl⟩
    obtain ⟨B, hB⟩ : ∃ B, B = (Nm.dnm (Nm.bs v)).isSome := ⟨_, rfl⟩
    obtain ⟨P, hP⟩ : ∃ P, P = (Nm.bs v).all Sc.prC := ⟨_, rfl⟩
    obtain ⟨O, hO⟩ : ∃ O, O = (Nm.bs v).any noBl := ⟨_, rfl⟩
    rw [← hI] at CI
    rw [← hB] at CP
    have CI := Lib.hid CI
    have CP := Lib.hid CP
    have HR : Hid ((R : Int) = if (if sy = 1 then O && P else if sy = 2 then P else if sy = 3 then I else if sy = 5 then B else true) = false then 17 else 0) := by
      show _ = _
      have e : Sc.fits sy (Nm.bs v) = (if sy = 1 then O && P else if sy = 2 then P else if sy = 3 then I else if sy = 5 then B else true) := by
        rw [hI, hB, hP, hO]; rfl
      rw [← e, hR2]
      by_cases hq : Sc.fits sy (Nm.bs v) = false
      · rw [if_pos (Or.inr (Or.inr hq)), if_pos hq]; rfl
      · rw [if_neg hq, if_neg]
        · rfl
        · rintro (h | h | h)
          · exact hne h
          · omega
          · exact hq h
    have HP : Hid (P = (true && ((Nm.bs v).drop 0).all Sc.prC)) := by
      show _ = _
      rw [hP]; rfl
    have HO : Hid (O = (false || ((Nm.bs v).drop 0).any noBl)) := by
      show _ = _
      rw [hO]; rfl
    clear hR2 hI hB hP hO hne h0 h60
    go_enter Tryd.func10, Tryd.ntmps10
    go_wp2_with fail
    refine (C2.out _).mono ?_
    rintro r w1 ⟨rfl, hb1⟩
    have hs1 := hb1.size
    have B0 := Blk.new w1 24 #[.string x, .int .i64 sy, .bool sg]
    have hb2 := hb1.alloc hs1 (.cells #[.string x, .int .i64 sy, .bool sg] 24)
    clear hb1 C2
    go_wp2_with fail
    go_loopw [7, 8, 9] (fun a o i wr => ∃ (k : Nat) (p q : Bool), k ≤ v.size ∧ i = .int .i64 k ∧ a = .bool p ∧ o = .bool q ∧ Hid (P = (p && ((Nm.bs v).drop k).all Sc.prC)) ∧ Hid (O = (q || ((Nm.bs v).drop k).any noBl)) ∧ Blk wr w1.heap.size 24 #[.string x, .int .i64 sy, .bool sg] ∧ Below w.heap.size w wr) (fun a o i wr => v.size - (intOf i).toNat)
    case atStart => exact ⟨0, true, false, Nat.zero_le _, rfl, rfl, rfl, HP, HO, B0, hb2⟩
    case round =>
      obtain ⟨k, p, q, hk, rfl, rfl, rfl, hE, hF, hB, hb⟩ := hrel
      by_cases hlt : k < v.size
      · have hD := hE.out
        have hG := hF.out
        rw [drop_at hlt, List.all_cons] at hD
        rw [drop_at hlt, List.any_cons] at hG
        obtain ⟨c, hc⟩ : ∃ c, c = v[k] := ⟨_, rfl⟩
        have hcr : ∀ h, v[k]'h = c := fun _ => hc.symm
        rw [← hc] at hD hG
        have h256 := u8_lt c
        have hcase : Sc.prC c = false ∧ noBl c = true ∧ (c.toNat : Int) < 32 ∨ Sc.prC c = false ∧ noBl c = true ∧ 32 ≤ (c.toNat : Int) ∧ 126 < (c.toNat : Int) ∨ Sc.prC c = true ∧ noBl c = false ∧ (c.toNat : Int) = 32 ∨ Sc.prC c = true ∧ noBl c = true ∧ 32 ≤ (c.toNat : Int) ∧ (c.toNat : Int) ≤ 126 ∧ (c.toNat : Int) ≠ 32 := by
          unfold Sc.prC noBl
          simp only [decide_eq_true_eq, decide_eq_false_iff_not]
          omega
        have hd1 : ∀ b : Bool, (b && Sc.prC c) = b ∨ Sc.prC c = false := fun b => by cases Sc.prC c <;> simp
        rw [← Bool.and_assoc] at hD
        rw [← Bool.or_assoc] at hG
        have HD := Lib.hid hD
        have HG := Lib.hid hG
        clear hE hF hD hG HP HO hc hd1 CI CP
        rcases hcase with ⟨e1, e2, h3⟩ | ⟨e1, e2, h3, h4⟩ | ⟨e1, e2, h3⟩ | ⟨e1, e2, h3, h4, h5⟩
        all_goals
          rw [e1] at HD
          rw [e2] at HG
          try have h6 : ((c.toNat : Int) != 32) = true := by simp; omega
          try have h6 : ((c.toNat : Int) != 32) = false := by simp; omega
          clear e1 e2
          cases p
          all_goals
            cases q
            all_goals
              go_wp2_with fail
              try rw [show decide ((c.toNat : Int) ≤ 126) = false from decide_eq_false (by omega)]
              refine ⟨⟨k + 1, _, _, by omega, by go_num, rfl, rfl, HD, HG, hB, hb⟩, by simp [intOf]; omega⟩
      · have hk2 : k = v.size := by omega
        have HP := Lib.hid (show p = P by rw [hE.out, hk2, ← size_eq, List.drop_length]; simp)
        have HO := Lib.hid (show q = O by rw [hF.out, hk2, ← size_eq, List.drop_length]; simp)
        obtain rfl := HP.out
        obtain rfl := HO.out
        have c1 : wr.cell? ⟨w1.heap.size, 1, none⟩ = some (.int .i64 sy) := hB.cell 1
        clear hE hF hk2
        rcases hsy with rfl | rfl | rfl | rfl | rfl
        · cases p
          · have HF := Lib.hid (show (R : Int) = 17 by rw [HR.out]; simp)
            go_wp2_with fail
            go_ret
            exact ⟨ret_int HF.out.symm, hb⟩
          · cases q
            · have HF := Lib.hid (show (R : Int) = 17 by rw [HR.out]; simp)
              go_wp2_with fail
              go_ret
              exact ⟨ret_int HF.out.symm, hb⟩
            · have HF := Lib.hid (show (R : Int) = 0 by rw [HR.out]; simp)
              go_wp2_with fail
              go_ret
              exact ⟨ret_int HF.out.symm, hb⟩
        · cases p
          · have HF := Lib.hid (show (R : Int) = 17 by rw [HR.out]; simp)
            go_wp2_with fail
            go_ret
            exact ⟨ret_int HF.out.symm, hb⟩
          · have HF := Lib.hid (show (R : Int) = 0 by rw [HR.out]; simp)
            go_wp2_with fail
            go_ret
            exact ⟨ret_int HF.out.symm, hb⟩
        · cases I
          · have HF := Lib.hid (show (R : Int) = 17 by rw [HR.out]; simp)
            go_wp2_with fail
            refine (CI.out _).mono ?_
            rintro r w2 ⟨rfl, rfl⟩
            go_wp2_with fail
            go_ret
            exact ⟨ret_int HF.out.symm, hb⟩
          · have HF := Lib.hid (show (R : Int) = 0 by rw [HR.out]; simp)
            go_wp2_with fail
            refine (CI.out _).mono ?_
            rintro r w2 ⟨rfl, rfl⟩
            go_wp2_with fail
            go_ret
            exact ⟨ret_int HF.out.symm, hb⟩
        · have HF := Lib.hid (show (R : Int) = 0 by rw [HR.out]; simp)
          go_wp2_with fail
          go_ret
          exact ⟨ret_int HF.out.symm, hb⟩
        · have hsz := hb.size
          cases B
          · have HF := Lib.hid (show (R : Int) = 17 by rw [HR.out]; simp)
            go_wp2_with fail
            refine (CP.out _).mono ?_
            rintro r w2 ⟨A, l, cc, rfl, hb3⟩
            go_wp2_with fail
            go_ret
            exact ⟨ret_int HF.out.symm, hb.trans (hb3.mono hsz)⟩
          · have HF := Lib.hid (show (R : Int) = 0 by rw [HR.out]; simp)
            go_wp2_with fail
            refine (CP.out _).mono ?_
            rintro r w2 ⟨A, l, cc, rfl, hb3⟩
            go_wp2_with fail
            go_ret
            exact ⟨ret_int HF.out.symm, hb.trans (hb3.mono hsz)⟩
end Go.Proofs.YtkdlkdbjgajenaaDoor
