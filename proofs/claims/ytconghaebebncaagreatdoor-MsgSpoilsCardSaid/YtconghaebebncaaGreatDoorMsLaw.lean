/- Messages by hand: results, searches: plain facts. -/
import Derived.Test.YtconghaebebncaaGreatDoorG1
import Derived.Test.YtconghaebebncaaGreatDoorMsSet
import Derived.ProofKit
namespace Go.Proofs.YtconghaebebncaaGreatDoor.Ms
open Be
set_option linter.unusedVariables false
set_option maxRecDepth 100000

theorem wf8 {a : Int} (h : (Lit.int .u8 a).wf = true) : 0 ≤ a ∧ a ≤ 255 := by simpa [Lit.wf, IntKind.min, IntKind.max, IntKind.signed, IntKind.bits] using h
theorem wf16 {a : Int} (h : (Lit.int .u16 a).wf = true) : 0 ≤ a ∧ a ≤ 65535 := by simpa [Lit.wf, IntKind.min, IntKind.max, IntKind.signed, IntKind.bits] using h
theorem enc_small {m : Mg} (h : isM m = true) (hl : (enc (msgEl m)).length ≤ 4000) (hd : dep (msgEl m) ≤ 20) : encM m = (enc (msgEl m), 0) := by
  unfold encM
  rw [if_neg (by rw [h]; simp), if_neg (by omega), if_neg (by omega)]
theorem encM_len {m : Mg} {s : List UInt8} (h : encM m = (s, 0)) : s.length ≤ 4000 := by
  unfold encM at h
  split at h
  · simp at h
  · split at h
    · simp at h
    · split at h
      · simp at h
      · injection h with h1 _
        rw [← h1]
        omega
theorem encM_bad2 {m : Mg} (h : isM m = false) : encM m = ([], 14) := by unfold encM; rw [if_pos h]
/-- What a message's numbers may be. -/
theorem isM_ranges {m : Mg} (h : isM m = true) : (0 ≤ m.ver ∧ m.ver ≤ 127) ∧ (0 ≤ m.scope ∧ m.scope ≤ 2) ∧ (0 ≤ m.code ∧ m.code ≤ 127) ∧ 0 ≤ m.size := by
  obtain ⟨_, _, hf, hfo, _⟩ := isM_open h
  obtain ⟨o1, o2⟩ := isM_op h
  unfold foreign at hf
  rcases (by omega : m.op = 1 ∨ m.op = 2 ∨ m.op = 3 ∨ m.op = 4 ∨ m.op = 5 ∨ m.op = 6 ∨ m.op = 7 ∨ m.op = 8 ∨ m.op = 9 ∨ m.op = 10) with e | e | e | e | e | e | e | e | e | e
  all_goals
    simp only [e] at hf
    have hv := congrArg Mg.ver hf
    have hs := congrArg Mg.scope hf
    have hc := congrArg Mg.code hf
    have hz := congrArg Mg.size hf
    simp [zero] at hv hs hc hz
  all_goals first
    | (have h1 := formed_bind e hfo; omega)
    | (have h1 := formed_search e hfo; omega)
    | (have h1 := formed_result e hfo; omega)
    | omega
/-- The operations that have results. -/
def opN (q : Nat) : Int := [1, 3, 4, 5, 6, 7, 8].getD q 0
theorem opN_range {q : Nat} (h : q < 7) : 1 ≤ opN q ∧ opN q ≤ 8 ∧ opN q ≠ 2 := by
  rcases (by omega : q = 0 ∨ q = 1 ∨ q = 2 ∨ q = 3 ∨ q = 4 ∨ q = 5 ∨ q = 6) with rfl | rfl | rfl | rfl | rfl | rfl | rfl <;> decide
theorem opN_inj {p q : Nat} (hp : p < 7) (hq : q < 7) (h : opN p = opN q) : p = q := by
  rcases (by omega : q = 0 ∨ q = 1 ∨ q = 2 ∨ q = 3 ∨ q = 4 ∨ q = 5 ∨ q = 6) with rfl | rfl | rfl | rfl | rfl | rfl | rfl <;>
    rcases (by omega : p = 0 ∨ p = 1 ∨ p = 2 ∨ p = 3 ∨ p = 4 ∨ p = 5 ∨ p = 6) with rfl | rfl | rfl | rfl | rfl | rfl | rfl <;> first | rfl | (exact absurd h (by decide))
def resM (id ref code : Int) (s : ByteArray) : Mg := { zero with id := id, op := 9, ref := ref, code := code, matched := s }
theorem res_is {id ref code : Int} {s : ByteArray} (h0 : 0 ≤ id) (h1 : id ≤ 65535) (h2 : 1 ≤ ref ∧ ref ≤ 8 ∧ ref ≠ 2) (h3 : 0 ≤ code) (h4 : code ≤ 127) (hs : s.size ≤ 400) : isM (resM id ref code s) = true := by
  have hf : foreign (resM id ref code s) = zero := rfl
  have hfo : formed (resM id ref code s) = (within ref 1 8 && (decide (ref ≠ 2) && within code 0 127)) := rfl
  have ht : areShort (textsM (resM id ref code s)) = true := by
    rw [short_open]
    intro x hx
    simp only [textsM, resM, zero, List.mem_cons, List.not_mem_nil, or_false] at hx
    rcases hx with rfl | rfl | rfl | rfl | rfl | rfl | rfl <;> first | exact hs | decide
  unfold isM
  rw [hf, eqM_self, hfo, ht]
  have h5 : within (resM id ref code s).id 0 2147483647 = true := within_open.2 ⟨h0, by show id ≤ _; omega⟩
  rw [h5, within_open.2 ⟨h2.1, h2.2.1⟩, within_open.2 ⟨h3, h4⟩, decide_eq_true h2.2.2]
  rfl
theorem res_len {id ref code : Int} {s : ByteArray} (h0 : 0 ≤ id) (h1 : id ≤ 65535) (h3 : 0 ≤ code) (h4 : code ≤ 127) (hs : s.size ≤ 400) : (enc (msgEl (resM id ref code s))).length ≤ 4000 := by
  have e : msgEl (resM id ref code s) = lst 48 [num 2 id, lst (opTag 9 ref) [num 10 code, txt 4 s, txt 4 no]] := rfl
  rw [e]
  have l0 := len_lst 48 [num 2 id, lst (opTag 9 ref) [num 10 code, txt 4 s, txt 4 no]]
  have l1 := len_num 2 id (by omega) (by omega)
  have l2 := len_lst (opTag 9 ref) [num 10 code, txt 4 s, txt 4 no]
  have l3 := len_num 10 code (by omega) (by omega)
  have l4 := len_txt 4 s
  have l5 := len_txt 4 no
  have l6 : no.size = 0 := rfl
  simp only [encs, List.length_append, List.length_nil] at l0 l2
  omega
theorem res_enc {id ref code : Int} {s : ByteArray} (h0 : 0 ≤ id) (h1 : id ≤ 65535) (h2 : 1 ≤ ref ∧ ref ≤ 8 ∧ ref ≠ 2) (h3 : 0 ≤ code) (h4 : code ≤ 127) (hs : s.size ≤ 400) : encM (resM id ref code s) = (enc (msgEl (resM id ref code s)), 0) :=
  enc_small (res_is h0 h1 h2 h3 h4 hs) (res_len h0 h1 h3 h4 hs) (by have e : dep (msgEl (resM id ref code s)) = 3 := rfl; rw [e]; decide)
theorem res_cells (id ref code : Int) (s : ByteArray) (hs : s.size ≤ maxLen) : ∃ cs : Array Value,
    cs = #[.int .i64 id, .int .i64 9, .int .i64 ref, .string ⟨#[]⟩, .int .i64 0, .string ⟨#[]⟩, .int .i64 0, .int .i64 0, .int .i64 0, .string ⟨#[]⟩, .string ⟨#[]⟩, .slice none 0 0, .slice none 0 0, .slice none 0 0, .slice none 0 0, .string ⟨#[]⟩, .bool false, .bool false, .string ⟨#[]⟩, .string ⟨#[]⟩, .string ⟨#[]⟩, .int .i64 code, .string s] ∧
    ∀ (w : World) (P : Nat → Prop), MAt w P (resM id ref code s) cs :=
  ⟨_, rfl, fun w P => ⟨_, _, _, _, _, none, 0, none, 0, fun _ => [], rfl, lies_noF w P, ⟨Fi.StrsAt.nil _ _ _, by simp [resM, zero], by simp [resM, zero], by simp [resM, zero]⟩, ⟨MosAt.nil _ _ _ _, by simp [resM, zero], by simp [resM, zero]⟩,
    by refine ⟨?_, ?_, ?_, ?_, ?_, ?_, ?_⟩ <;> first | exact hs | exact Nat.zero_le _⟩⟩
end Go.Proofs.YtconghaebebncaaGreatDoor.Ms
