/- What the program's cut answers: what is ahead of the first sep, what is behind it. -/
import Derived.Test.YtkdlkdbjgajenaaDoorNType
import Derived.Deep.RegionHeld3
namespace Go.Proofs.YtkdlkdbjgajenaaDoor
open Go.RowKit
set_option linter.unusedVariables false
set_option maxRecDepth 100000

theorem pos_cons (sep c : UInt8) (r : List UInt8) : Nm.pos sep (c :: r) = if c = 92 then (match r with
      | [] => none
      | _ :: r' => (Nm.pos sep r').map (· + 2))
    else if c = sep then some 0 else (Nm.pos sep r).map (· + 1) := by
  rw [Nm.pos.eq_def]
  rfl
theorem pos_esc (sep : UInt8) (l : List UInt8) (k : Nat) (h : k < l.length) (hc : l[k] = 92) : Nm.pos sep (l.drop k) = (Nm.pos sep (l.drop (k + 2))).map (· + 2) := by
  rw [List.drop_eq_getElem_cons h, pos_cons, if_pos hc]
  cases h2 : l.drop (k + 1) with
  | nil =>
    have : l.drop (k + 2) = [] := by
      rw [List.drop_eq_nil_iff] at h2 ⊢; omega
    rw [this]; rfl
  | cons d r =>
    have : l.drop (k + 2) = r := by
      rw [show k + 2 = (k + 1) + 1 by omega, ← List.drop_drop, h2]; rfl
    rw [this]
theorem pos_here (sep : UInt8) (l : List UInt8) (k : Nat) (h : k < l.length) (hc : l[k] ≠ 92) (hs : l[k] = sep) : Nm.pos sep (l.drop k) = some 0 := by
  rw [List.drop_eq_getElem_cons h, pos_cons, if_neg hc, if_pos hs]
theorem pos_on (sep : UInt8) (l : List UInt8) (k : Nat) (h : k < l.length) (hc : l[k] ≠ 92) (hs : l[k] ≠ sep) : Nm.pos sep (l.drop k) = (Nm.pos sep (l.drop (k + 1))).map (· + 1) := by
  rw [List.drop_eq_getElem_cons h, pos_cons, if_neg hc, if_neg hs]
theorem map_map_add (o : Option Nat) (a b : Nat) : (o.map (· + a)).map (· + b) = o.map (· + (b + a)) := by
  cases o with
  | none => rfl
  | some x => simp only [Option.map_some, Option.some.injEq]; omega
theorem pos_end (sep : UInt8) (l : List UInt8) (k : Nat) (h : l.length ≤ k) : Nm.pos sep (l.drop k) = none := by
  rw [List.drop_eq_nil_of_le h]; rfl
/-- What cut answers. -/
def cutV (s : ByteArray) (sep : UInt8) : Value := match Nm.pos sep (Nm.bs s) with
  | none => .tuple #[.string s, .string ⟨#[]⟩, .bool false]
  | some i => .tuple #[.string (s.extract 0 i), .string (s.extract (i + 1) s.size), .bool true]
theorem u8_eq (a b : UInt8) : ((a.toNat : Int) == b.toNat) = decide (a = b) := by
  rw [Bool.eq_iff_iff]
  simp only [beq_iff_eq, decide_eq_true_eq]
  constructor
  · intro h; apply UInt8.toNat_inj.1; omega
  · intro h; rw [h]
set_option maxHeartbeats 1000000 in
theorem cut_any (s : ByteArray) (sep : UInt8) (w : World) (hs : s.size ≤ 1000000000) :
    Calls Tryd.prog 35 #[.string s, .int .u8 sep.toNat] w fun e w' => e = .returned (cutV s sep) ∧ Below w.heap.size w w' := by
  go_enter Tryd.func35, Tryd.ntmps35
  go_wp2_with fail
  go_loopw [7] (fun i wr => ∃ k : Nat, k ≤ s.size + 1 ∧ i = .int .i64 k ∧ Hid (Nm.pos sep (Nm.bs s) = (Nm.pos sep ((Nm.bs s).drop k)).map (· + k)) ∧ Below w.heap.size w wr) (fun i wr => s.size + 1 - (intOf i).toNat)
  case atStart => exact ⟨0, Nat.zero_le _, rfl, by show _ = _; rw [List.drop_zero]; cases Nm.pos sep (Nm.bs s) <;> rfl, Below.refl _ _⟩
  case round =>
    obtain ⟨k, hk, rfl, hE, hb⟩ := hrel
    by_cases hlt : k < s.size
    · have hE2 := hE.out
      obtain ⟨c, hc⟩ : ∃ c, c = s[k] := ⟨_, rfl⟩
      have hcr : ∀ h, s[k]'h = c := fun _ => hc.symm
      have hcl : (Nm.bs s)[k]'hlt = c := hc.symm
      have h256 := u8_lt c
      clear hc
      by_cases h92 : c = 92
      · rw [pos_esc sep (Nm.bs s) k hlt (by rw [hcl, h92]), map_map_add] at hE2
        have HE := Lib.hid hE2
        have hn : (c.toNat : Int) = 92 := by rw [h92]; rfl
        clear hE hE2 h92 hcl
        go_wp2_with fail
        refine ⟨⟨k + 2, by omega, by go_num, HE.out, hb⟩, by simp [intOf]; omega⟩
      have hn : ((c.toNat : Int) == 92) = false := by
        have := u8_eq c 92
        rw [decide_eq_false h92] at this
        exact this
      by_cases hsp : c = sep
      · rw [pos_here sep (Nm.bs s) k hlt (by rw [hcl]; exact h92) (by rw [hcl]; exact hsp)] at hE2
        have HE := Lib.hid (show cutV s sep = .tuple #[.string (s.extract 0 k), .string (s.extract (k + 1) s.size), .bool true] by
          unfold cutV; rw [hE2]; simp)
        have hn2 : ((c.toNat : Int) == sep.toNat) = true := by rw [u8_eq, decide_eq_true hsp]
        clear hE hE2 hcl h92 hsp
        go_wp2_with fail
        go_region
        all_goals
          go_wp2_with fail
          go_ret3
          refine ⟨?_, hb.drew⟩
          rw [HE.out]
          rfl
      · rw [pos_on sep (Nm.bs s) k hlt (by rw [hcl]; exact h92) (by rw [hcl]; exact hsp), map_map_add] at hE2
        have HE := Lib.hid hE2
        have hn2 : ((c.toNat : Int) == sep.toNat) = false := by rw [u8_eq, decide_eq_false hsp]
        clear hE hE2 hcl h92 hsp
        go_wp2_with fail
        refine ⟨⟨k + 1, by omega, by go_num, HE.out, hb⟩, by simp [intOf]; omega⟩
    · have hE2 := hE.out
      rw [pos_end sep (Nm.bs s) k (by rw [size_eq]; omega)] at hE2
      have HE := Lib.hid (show cutV s sep = .tuple #[.string s, .string ⟨#[]⟩, .bool false] by unfold cutV; rw [hE2]; rfl)
      clear hE hE2
      go_wp2_with fail
      go_ret3
      refine ⟨?_, hb⟩
      rw [HE.out]
      rfl
end Go.Proofs.YtkdlkdbjgajenaaDoor
