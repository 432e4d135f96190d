/- What readByte answers. -/
import Derived.Test.YtkdlkdbjgajenaaDoorNRead
namespace Go.Proofs.YtkdlkdbjgajenaaDoor
open Go.RowKit
set_option linter.unusedVariables false
set_option maxRecDepth 100000

/-- Those that the program refuses in a value's text: all but + and the backslash. -/
def sp1 (c : UInt8) : Bool := decide (c.toNat = 44 ∨ c.toNat = 34 ∨ c.toNat = 60 ∨ c.toNat = 62 ∨ c.toNat = 59)
theorem unB_cons (sp : UInt8 → Bool) (f : Bool) (c : UInt8) (r : List UInt8) : Nm.unB sp f (c :: r) = if c = 92 then Nm.unE r else if sp c || f && decide (c.toNat = 35 ∨ c.toNat = 32) || r.isEmpty && decide (c.toNat = 32) then none else some (c, 1) := rfl
theorem unB_at (sp : UInt8 → Bool) (s : ByteArray) (k : Nat) (h : k < s.size) (c : UInt8) (hc : c = s[k]) (f : Bool) : Nm.unB sp f ((Nm.bs s).drop k) = if c = 92 then Nm.unE ((Nm.bs s).drop (k + 1)) else if sp c || f && decide (c.toNat = 35 ∨ c.toNat = 32) || decide ((k : Int) = s.size - 1) && decide (c.toNat = 32) then none else some (c, 1) := by
  have h1 := drop_at h
  rw [← hc] at h1
  have h2 : ((Nm.bs s).drop (k + 1)).isEmpty = decide ((k : Int) = s.size - 1) := by
    rw [Bool.eq_iff_iff, List.isEmpty_iff, List.drop_eq_nil_iff, decide_eq_true_eq, size_eq]
    omega
  show Nm.unB sp f (s.data.toList.drop k) = _
  rw [h1, unB_cons, ← h2]
set_option maxHeartbeats 1000000 in
theorem readB_any (s : ByteArray) (k : Nat) (w : World) (h : k < s.size) (hs : s.size ≤ 1000000000) :
    Calls Tryd.prog 62 #[.string s, .int .i64 k] w fun e w' => e = .returned (pairV (Nm.unB sp1 (decide (k = 0)) ((Nm.bs s).drop k))) ∧ Below w.heap.size w w' := by
  obtain ⟨c, hc⟩ : ∃ c, c = s[k] := ⟨_, rfl⟩
  have hcr : ∀ h, s[k]'h = c := fun _ => hc.symm
  have h256 := u8_lt c
  have hU := unB_at sp1 s k h c hc (decide (k = 0))
  have hk1 : (k : Int) + 1 ≤ s.size := by omega
  by_cases h92 : c = 92
  · rw [if_pos h92] at hU
    have hn : (c.toNat : Int) = 92 := by rw [h92]; rfl
    obtain ⟨t, ht⟩ : ∃ t, t = s.extract (k + 1) s.size := ⟨_, rfl⟩
    have hX : s.extract (k + 1) s.size = t := ht.symm
    have htb : Nm.bs t = (Nm.bs s).drop (k + 1) := by rw [ht]; exact Go.Lib.extract_to_end s (k + 1)
    rw [← htb] at hU
    have C := fun w => readE_any t w
    obtain ⟨b, m, hp⟩ : ∃ b m, pairV (Nm.unE (Nm.bs t)) = .tuple #[.int .u8 b, .int .i64 m] := by
      cases Nm.unE (Nm.bs t) with
      | none => exact ⟨0, 0, rfl⟩
      | some q => exact ⟨_, _, rfl⟩
    rw [← hU] at hp C
    rw [hp] at C ⊢
    have HC := Lib.hid C
    clear hU h92 hc ht htb hp C
    go_enter Tryd.func62, Tryd.ntmps62
    go_wp2_with fail
    refine (HC.out _).mono ?_
    rintro e w1 ⟨rfl, hb1⟩
    go_wp2_with fail
    go_ret2
    exact ⟨rfl, hb1⟩
  rw [if_neg h92] at hU
  have hn : ((c.toNat : Int) == 92) = false := by
    have := u8_eq c 92
    rw [decide_eq_false h92] at this
    exact this
  by_cases hbad : (sp1 c || decide (k = 0) && decide (c.toNat = 35 ∨ c.toNat = 32) || decide ((k : Int) = s.size - 1) && decide (c.toNat = 32)) = true
  · rw [if_pos hbad] at hU
    have h2 := Lib.hid hU
    have hq : (c.toNat : Int) = 32 ∧ ((k : Int) == s.size - 1) = true ∨ (c.toNat : Int) = 32 ∧ ((k : Int) == s.size - 1) = false ∧ ¬ 0 < k ∨ (c.toNat : Int) = 35 ∧ ¬ 0 < k ∨ (c.toNat : Int) = 44 ∨ (c.toNat : Int) = 34 ∨ (c.toNat : Int) = 60 ∨ (c.toNat : Int) = 62 ∨ (c.toNat : Int) = 59 := by
      unfold sp1 at hbad
      rw [Bool.or_eq_true, Bool.or_eq_true, Bool.and_eq_true, Bool.and_eq_true] at hbad
      simp only [decide_eq_true_eq] at hbad
      simp only [beq_iff_eq, beq_eq_false_iff_ne, ne_eq]
      omega
    clear hU hbad h92 hc
    rcases hq with ⟨h3, h4⟩ | ⟨h3, h4, h5⟩ | ⟨h3, h4⟩ | h3 | h3 | h3 | h3 | h3
    all_goals
      go_enter Tryd.func62, Tryd.ntmps62
      go_wp2_with fail
      go_ret2
      exact ⟨by rw [h2.out]; rfl, Below.refl _ _⟩
  · rw [if_neg hbad] at hU
    have h2 := Lib.hid (show pairV (Nm.unB sp1 (decide (k = 0)) ((Nm.bs s).drop k)) = .tuple #[.int .u8 (c.toNat : Int), .int .i64 1] by rw [hU]; rfl)
    have hq : (c.toNat : Int) = 32 ∧ ((k : Int) == s.size - 1) = false ∧ 0 < k ∨ (c.toNat : Int) = 35 ∧ 0 < k ∨ ((c.toNat : Int) == 32) = false ∧ ((c.toNat : Int) == 35) = false ∧ ((c.toNat : Int) == 44) = false ∧ ((c.toNat : Int) == 34) = false ∧ ((c.toNat : Int) == 60) = false ∧ ((c.toNat : Int) == 62) = false ∧ ((c.toNat : Int) == 59) = false := by
      unfold sp1 at hbad
      rw [Bool.or_eq_true, Bool.or_eq_true, Bool.and_eq_true, Bool.and_eq_true] at hbad
      simp only [decide_eq_true_eq] at hbad
      simp only [beq_eq_false_iff_ne, ne_eq]
      omega
    clear hU hbad h92 hc
    rcases hq with ⟨h3, h4, h5⟩ | ⟨h3, h4⟩ | ⟨a1, a2, a3, a4, a5, a6, a7⟩
    all_goals
      try rw [h3] at h2
      go_enter Tryd.func62, Tryd.ntmps62
      go_wp2_with fail
      go_ret2
      exact ⟨by rw [h2.out]; rfl, Below.refl _ _⟩
end Go.Proofs.YtkdlkdbjgajenaaDoor
