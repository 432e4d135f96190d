/- What the library's calls answer, said of lists: CutPrefix, Cut, HasSuffix, Contains, TrimRight, Clone. -/
import Derived.Test.YticfemheneljmaaDoorFlBack
import Derived.Test.YticfemheneljmaaDoorFlMem
import Derived.Test.YticfemheneljmaaDoorNType
import Derived.Shelf.Strings.SlTrimAscii
import Derived.Deep.RegionHeld3
namespace Go.Proofs.YticfemheneljmaaDoor.Fi
open Go.RowKit
set_option linter.unusedVariables false
set_option maxRecDepth 100000

theorem place (c : UInt8) : ∀ l : List UInt8, (c ∉ l ∧ Lib.indexByte l c = -1 ∧ upto c l = l ∧ past c l = []) ∨ (c ∈ l ∧ ∃ i : Nat, i < l.length ∧ Lib.indexByte l c = i ∧ upto c l = l.take i ∧ past c l = l.drop (i + 1))
  | [] => Or.inl ⟨by simp, rfl, rfl, rfl⟩
  | b :: r => by
    by_cases h : b = c
    · refine Or.inr ⟨by simp [h], 0, by simp, ?_, ?_, ?_⟩
      · rw [Lib.indexByte, if_pos (by rw [beq_iff_eq]; exact h)]; rfl
      · rw [upto, if_pos h]; rfl
      · rw [past, if_pos h]; rfl
    · rcases place c r with ⟨h1, h2, h3, h4⟩ | ⟨h1, i, h2, h3, h4, h5⟩
      · refine Or.inl ⟨by simp [h1]; exact fun e => h e.symm, ?_, ?_, ?_⟩
        · rw [Lib.indexByte, if_neg (by rw [beq_iff_eq]; exact h), h2]; rfl
        · rw [upto, if_neg h, h3]
        · rw [past, if_neg h, h4]
      · refine Or.inr ⟨by simp [h1], i + 1, by simp; omega, ?_, ?_, ?_⟩
        · rw [Lib.indexByte, if_neg (by rw [beq_iff_eq]; exact h), h3, if_neg (by rw [beq_iff_eq]; omega)]; omega
        · rw [upto, if_neg h, h4]; rfl
        · rw [past, if_neg h, h5]; rfl
theorem upto_len (c : UInt8) (l : List UInt8) : (upto c l).length ≤ l.length := by
  rcases place c l with ⟨_, _, h, _⟩ | ⟨_, i, _, _, h, _⟩
  · rw [h]; exact Nat.le_refl _
  · rw [h, List.length_take]; omega
theorem past_len (c : UInt8) (l : List UInt8) : (past c l).length ≤ l.length := by
  rcases place c l with ⟨_, _, _, h⟩ | ⟨_, i, _, _, _, h⟩
  · rw [h]; simp
  · rw [h, List.length_drop]; omega
def cutV (s : ByteArray) (c : UInt8) : Value := .tuple #[.string (Nm.mk (upto c (Nm.bs s))), .string (Nm.mk (past c (Nm.bs s))), .bool (decide (c ∈ Nm.bs s))]
theorem ext_to (s : ByteArray) (i : Nat) : s.extract 0 i = Nm.mk ((Nm.bs s).take i) := by
  rw [← mk_bs (s.extract 0 i)]
  congr 1
  show (s.extract 0 i).data.toList = _
  rw [Lib.extract_data]
  simp
theorem ext_from (s : ByteArray) (i : Nat) : s.extract i s.size = Nm.mk ((Nm.bs s).drop i) := by
  rw [← mk_bs (s.extract i s.size)]
  congr 1
  exact Go.Lib.extract_to_end s i
set_option maxHeartbeats 1000000 in
theorem cut_any (s : ByteArray) (c : UInt8) (w : World) (hs : s.size ≤ 1000000000) :
    Calls Tryd.prog 40 #[.string s, .string ⟨#[c]⟩] w fun e w' => e = .returned (cutV s c) ∧ Below w.heap.size w w' := by
  have C1 : Calls Tryd.prog 46 #[.string s, .string ⟨#[c]⟩] w fun e w' => e = .returned (cutV s c) ∧ Below w.heap.size w w' := by
    have CI := fun w => Tryd.stringslite_Index_one s c w
    rcases place c (Nm.bs s) with ⟨h1, h2, h3, h4⟩ | ⟨h1, i, h2, h3, h4, h5⟩
    · have HR := Lib.hid (show cutV s c = .tuple #[.string s, .string ⟨#[]⟩, .bool false] by unfold cutV; rw [h3, h4, decide_eq_false h1])
      rw [show Lib.indexByte s.data.toList c = -1 from h2] at CI
      have HC := Lib.hid CI
      clear CI h1 h2 h3 h4
      go_enter Tryd.func46, Tryd.ntmps46
      go_wp2_with fail
      refine (HC.out _).mono ?_
      rintro e w1 ⟨rfl, rfl⟩
      go_wp2_with fail
      go_ret3
      refine ⟨?_, Below.refl _ _⟩
      rw [HR.out]; rfl
    · have hil : i < s.size := h2
      have HR := Lib.hid (show cutV s c = .tuple #[.string (s.extract 0 i), .string (s.extract (i + 1) s.size), .bool true] by unfold cutV; rw [h4, h5, decide_eq_true h1, ext_to, ext_from])
      rw [show Lib.indexByte s.data.toList c = i from h3] at CI
      have HC := Lib.hid CI
      have h6 : (i : Int) + 1 ≤ s.size := by omega
      have h7 : (i : Int) ≤ s.size := by omega
      have h8 : (⟨#[c]⟩ : ByteArray).size = 1 := rfl
      clear CI h1 h2 h3 h4 h5
      go_enter Tryd.func46, Tryd.ntmps46
      go_wp2_with fail
      refine (HC.out _).mono ?_
      rintro e w1 ⟨rfl, rfl⟩
      go_wp2_with fail
      go_region
      all_goals
        go_wp2_with fail
        go_ret3
        refine ⟨?_, (Below.refl _ _).drew⟩
        rw [HR.out]; rfl
  unfold cutV at C1 ⊢
  generalize decide (c ∈ Nm.bs s) = t at C1 ⊢
  generalize Nm.mk (upto c (Nm.bs s)) = x at C1 ⊢
  generalize Nm.mk (past c (Nm.bs s)) = y at C1 ⊢
  have HC := Lib.hid C1
  clear C1
  go_enter Tryd.func40, Tryd.ntmps40
  go_wp2_with fail
  refine HC.out.mono ?_
  rintro e w1 ⟨rfl, hb⟩
  go_wp2_with fail
  go_ret3
  exact ⟨rfl, hb⟩
theorem hasPre_of (l : List UInt8) (c : UInt8) : Lib.hasPrefix l [c] = decide (l.head? = some c) := by
  cases l with
  | nil => rfl
  | cons b r =>
    show ((c == b) && List.isPrefixOf [] r) = decide (some b = some c)
    have h1 : List.isPrefixOf [] r = true := by cases r <;> rfl
    rw [h1, Bool.and_true]
    by_cases h : b = c
    · rw [h, decide_eq_true rfl, beq_iff_eq]
    · rw [decide_eq_false (fun e => h (Option.some.inj e)), beq_eq_false_iff_ne]
      exact fun e => h e.symm
theorem trimPre_of (l : List UInt8) (c : UInt8) : Lib.trimPrefix l [c] = if l.head? = some c then l.tail else l := by
  unfold Lib.trimPrefix
  rw [hasPre_of]
  by_cases h : l.head? = some c
  · rw [if_pos (decide_eq_true h), if_pos h]
    cases l <;> rfl
  · rw [if_neg (fun e => h (of_decide_eq_true e)), if_neg h]
/-- A prefix of one byte. -/
def preV (s : ByteArray) (c : UInt8) : Value := .tuple #[.string (Nm.mk (if (Nm.bs s).head? = some c then (Nm.bs s).tail else Nm.bs s)), .bool (decide ((Nm.bs s).head? = some c))]
theorem pre_of (s : ByteArray) (c : UInt8) : Value.tuple #[.string ⟨(Lib.trimPrefix s.data.toList [c]).toArray⟩, .bool (Lib.hasPrefix s.data.toList [c])] = preV s c := by
  rw [hasPre_of, trimPre_of]
  rfl
theorem cutPre_any (s : ByteArray) (c : UInt8) (w : World) : Calls Tryd.prog 38 #[.string s, .string ⟨#[c]⟩] w fun e w' => e = .returned (preV s c) ∧ w = w' := by
  refine (Tryd.strings_CutPrefix s ⟨#[c]⟩ w).mono ?_
  rintro e w' ⟨rfl, rfl⟩
  exact ⟨by rw [← pre_of], rfl⟩
theorem suf_any (s : ByteArray) (c : UInt8) (w : World) (hs : s.size ≤ 1000000000) (hc : c ≠ 0) : Calls Tryd.prog 47 #[.string s, .string ⟨#[c]⟩] w fun e w' => e = .returned (.bool (decide (last (Nm.bs s) = c.toNat))) ∧ w = w' := by
  refine (Tryd.strings_HasSuffix s ⟨#[c]⟩ w (by omega)).mono ?_
  rintro e w' ⟨rfl, rfl⟩
  refine ⟨ret_bool ?_, rfl⟩
  show Lib.hasSuffix (Nm.bs s) [c] = _
  generalize Nm.bs s = l
  unfold last
  cases hl : l.getLast? with
  | none =>
    have : l = [] := by simpa using hl
    subst this
    have : ¬ (0 = c.toNat) := fun e => hc (u8_nat e.symm)
    simp [Lib.hasSuffix, this]
  | some b =>
    obtain ⟨r, rfl⟩ : ∃ r, l = r ++ [b] := by
      have hne : l ≠ [] := fun e => by rw [e] at hl; cases hl
      refine ⟨l.dropLast, ?_⟩
      rw [List.getLast?_eq_some_getLast hne] at hl
      injection hl with hl
      rw [← hl, List.dropLast_concat_getLast]
    rw [Bool.eq_iff_iff]
    simp only [Lib.hasSuffix, decide_eq_true_eq]
    constructor
    · intro h
      simp at h
      rw [h]
    · intro h
      have := u8_nat h
      subst this
      simp
theorem has_any (s : ByteArray) (c : UInt8) (w : World) : Calls Tryd.prog 48 #[.string s, .string ⟨#[c]⟩] w fun e w' => e = .returned (.bool (decide (c ∈ Nm.bs s))) ∧ w = w' := by
  refine (Tryd.strings_Contains_one s c w).mono ?_
  rintro e w' ⟨rfl, rfl⟩
  refine ⟨ret_bool ?_, rfl⟩
  show decide (0 ≤ Lib.indexByte (Nm.bs s) c) = _
  rcases place c (Nm.bs s) with ⟨h1, h2, _⟩ | ⟨h1, i, _, h2, _⟩
  · rw [h2, decide_eq_false h1]; rfl
  · rw [h2, decide_eq_true h1, decide_eq_true (by omega)]
theorem info116 : (Tryd.prog.info? 80).map (fun i => (i.zero, i.size)) = some (some (.agg (Array.replicate 256 (.bool false))), 256) := by kernel_rfl
theorem trim_any (s : ByteArray) (w : World) (hs : s.size ≤ 1000000000) : Calls Tryd.prog 50 #[.string s, .string ⟨#[60, 62]⟩] w fun e w' => e = .returned (.string (Nm.mk (trim (Nm.bs s)))) ∧ Below w.heap.size w w' :=
  Any.strings_TrimRight_laid Tryd.lays162 info116 s ⟨#[60, 62]⟩ w (by omega) (by decide) (fun j b h => by
    have hm := List.mem_of_getElem? h
    have : b ∈ [(60 : UInt8), 62] := hm
    simp only [List.mem_cons, List.not_mem_nil, or_false] at this
    rcases this with rfl | rfl <;> decide)
set_option maxHeartbeats 400000 in
theorem clone_any (s : ByteArray) (w : World) (h : s.size ≤ 281474976710656) :
    Calls Tryd.prog 49 #[.string s] w fun e w' => e = .returned (.string s) ∧ Below w.heap.size w w' := by
  go_enter Tryd.func49, Tryd.ntmps49
  go_wp2_with (go_at_call 62; refine (Tryd.stringslite_Clone s _ h).mono ?_; rintro e w' ⟨rfl, hb⟩)
  go_ret
  exact ⟨rfl, by assumption⟩
end Go.Proofs.YticfemheneljmaaDoor.Fi
