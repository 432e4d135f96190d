/- What Read answers, as a plain function on a list of bytes. -/
import Derived.Test.YtapkoiamjgdifaaElSpec
import Derived.Lib.IndexBytes
namespace Go.Proofs.Ytapkoiamjgdifaa
set_option linter.unusedVariables false

inductive Res where
  | bad (p x : Nat)
  | ok (e : El) (n : Nat)
inductive RK where
  | bad (p x : Nat)
  | ok (ks : List El)
/-- Head's answer, and what becomes of it: short of bytes; within another element. -/
def rdHead (inner : Bool) (l : List UInt8) : Nat × Nat × Nat :=
  let x := if (Sp.hd l).2.2 = 0 ∧ l.length < (Sp.hd l).1 + (Sp.hd l).2.1 then 10 else (Sp.hd l).2.2
  ((Sp.hd l).1, (Sp.hd l).2.1, if x = 10 ∧ inner = true then 11 else x)
def rdKids (r : List UInt8 → Nat → Res) : Nat → List UInt8 → Nat → RK
  | 0, _, _ => .ok []
  | N + 1, l, a =>
    if l.length = 0 then .ok [] else
    match r l a with
    | .bad p x => .bad p x
    | .ok e n =>
      match rdKids r N (l.drop n) (a + n) with
      | .bad p x => .bad p x
      | .ok es => .ok (e :: es)
/-- P1.2: f: how many elements in elements there may still be; a: the place of l's first byte. -/
def rd : Nat → List UInt8 → Nat → Res
  | 0, _, a => .bad a 12
  | f + 1, l, a =>
    let q := rdHead (decide (f + 1 < 20)) l
    if q.2.2 ≠ 0 then .bad a q.2.2 else
    if (l.headD 0).toNat / 32 % 2 = 0 then .ok (.mk (l.headD 0).toNat ⟨((l.drop q.1).take q.2.1).toArray⟩ []) (q.1 + q.2.1) else
    match rdKids (rd f) q.2.1 ((l.drop q.1).take q.2.1) (a + q.1) with
    | .bad p x => .bad p x
    | .ok ks => .ok (.mk (l.headD 0).toNat ⟨#[]⟩ ks) (q.1 + q.2.1)
def pre (done : List El) : RK → RK
  | .bad p x => .bad p x
  | .ok ks => .ok (done ++ ks)
theorem pre_pre (a b : List El) (r : RK) : pre a (pre b r) = pre (a ++ b) r := by
  cases r <;> simp [pre]
theorem pre_nil (r : RK) : pre [] r = r := by cases r <;> simp [pre]

theorem hd_ok {l : List UInt8} {h n : Nat} (e : Sp.hd l = (h, n, 0)) : 2 ≤ h ∧ h ≤ 6 ∧ h ≤ l.length ∧ n ≤ 4000 := by
  cases l with
  | nil => simp [Sp.hd] at e
  | cons t r =>
    by_cases h1 : t.toNat % 32 = 31
    · simp [Sp.hd, h1] at e
    cases r with
    | nil => simp [Sp.hd, h1] at e
    | cons b r =>
      by_cases h2 : b.toNat < 128
      · simp only [Sp.hd, h1, h2, if_true, if_false, Prod.mk.injEq] at e
        simp; omega
      by_cases h3 : b.toNat = 128 ∨ 132 < b.toNat
      · simp [Sp.hd, h1, h2, h3] at e
      by_cases h4 : r.length < b.toNat - 128
      · simp [Sp.hd, h1, h2, h3, h4] at e
      by_cases h5 : 4000 < Sp.num (r.take (b.toNat - 128))
      · simp [Sp.hd, h1, h2, h3, h4, h5] at e
      · simp only [Sp.hd, h1, h2, h3, h4, h5, if_false, Prod.mk.injEq] at e
        simp; omega
/-- Head's error is one of its chapter; beside it there are zeros. -/
theorem hd_err (l : List UInt8) : (Sp.hd l).2.2 ≠ 0 → (Sp.hd l).1 = 0 ∧ (Sp.hd l).2.1 = 0 := by
  cases l with
  | nil => simp [Sp.hd]
  | cons t r =>
    by_cases h1 : t.toNat % 32 = 31
    · simp [Sp.hd, h1]
    cases r with
    | nil => simp [Sp.hd, h1]
    | cons b r =>
      by_cases h2 : b.toNat < 128
      · simp [Sp.hd, h1, h2]
      by_cases h3 : b.toNat = 128 ∨ 132 < b.toNat
      · simp [Sp.hd, h1, h2, h3]
      by_cases h4 : r.length < b.toNat - 128
      · simp [Sp.hd, h1, h2, h3, h4]
      by_cases h5 : 4000 < Sp.num (r.take (b.toNat - 128))
      · simp [Sp.hd, h1, h2, h3, h4, h5]
      · simp [Sp.hd, h1, h2, h3, h4, h5]
theorem rdHead_ok {inner : Bool} {l : List UInt8} {h n : Nat} (e : rdHead inner l = (h, n, 0)) : Sp.hd l = (h, n, 0) ∧ h + n ≤ l.length := by
  simp only [rdHead, Prod.mk.injEq] at e
  obtain ⟨e1, e2, e3⟩ := e
  by_cases c : (Sp.hd l).2.2 = 0 ∧ l.length < (Sp.hd l).1 + (Sp.hd l).2.1
  · rw [if_pos c] at e3
    cases inner <;> simp at e3
  · rw [if_neg c] at e3
    have e4 : (Sp.hd l).2.2 = 0 := by
      by_cases c2 : (Sp.hd l).2.2 = 10 ∧ inner = true
      · rw [if_pos c2] at e3; omega
      · rw [if_neg c2] at e3; exact e3
    refine ⟨?_, by omega⟩
    rw [← e1, ← e2, ← e4]
theorem rdHead_fit {i : Bool} {l : List UInt8} {h n : Nat} (e : Sp.hd l = (h, n, 0)) (hf : h + n ≤ l.length) : rdHead i l = (h, n, 0) := by
  have h1 : ¬ l.length < h + n := by omega
  simp [rdHead, e, h1]
theorem rdHead_past {i : Bool} {l : List UInt8} {h n : Nat} (e : Sp.hd l = (h, n, 0)) (hf : l.length < h + n) : rdHead i l = (h, n, if i = true then 11 else 10) := by
  simp [rdHead, e, hf]
theorem rdHead_short {i : Bool} {l : List UInt8} {h n : Nat} (e : Sp.hd l = (h, n, 10)) : rdHead i l = (h, n, if i = true then 11 else 10) := by
  unfold rdHead
  rw [e]
  simp
theorem rdHead_other {i : Bool} {l : List UInt8} {h n x : Nat} (e : Sp.hd l = (h, n, x)) (h0 : x ≠ 0) (h10 : x ≠ 10) : rdHead i l = (h, n, x) := by
  simp [rdHead, e, h0, h10]
theorem rd_ok : ∀ {f : Nat} {l : List UInt8} {a : Nat} {e : El} {n : Nat}, rd f l a = .ok e n → 2 ≤ n ∧ n ≤ l.length
  | 0, l, a, e, n, h => by simp [rd] at h
  | f + 1, l, a, e, n, h => by
    have key : ∃ hh nn, rdHead (decide (f + 1 < 20)) l = (hh, nn, 0) ∧ n = hh + nn := by
      simp only [rd] at h
      by_cases c : (rdHead (decide (f + 1 < 20)) l).2.2 = 0
      · refine ⟨_, _, by rw [← c], ?_⟩
        rw [if_neg (by simpa using c)] at h
        split at h
        · injection h with _ h2; exact h2.symm
        · split at h
          · simp at h
          · injection h with _ h2; exact h2.symm
      · rw [if_pos c] at h
        simp at h
    obtain ⟨hh, nn, hq, rfl⟩ := key
    obtain ⟨h1, h2⟩ := rdHead_ok hq
    have := hd_ok h1
    omega
theorem rdKids_bad {r : List UInt8 → Nat → Res} (hr : ∀ l a p x, r l a = .bad p x → x ≠ 0) : ∀ {N : Nat} {l : List UInt8} {a p x : Nat}, rdKids r N l a = .bad p x → x ≠ 0
  | 0, l, a, p, x, h => by simp [rdKids] at h
  | N + 1, l, a, p, x, h => by
    rw [rdKids] at h
    split at h
    · simp at h
    · split at h
      · rename_i p' x' hx
        injection h with h1 h2
        subst h2
        exact hr _ _ _ _ hx
      · split at h
        · rename_i p' x' hx
          injection h with h1 h2
          subst h2
          exact rdKids_bad hr hx
        · simp at h
theorem rd_bad : ∀ {f : Nat} {l : List UInt8} {a p x : Nat}, rd f l a = .bad p x → x ≠ 0
  | 0, l, a, p, x, h => by
    simp only [rd, Res.bad.injEq] at h
    omega
  | f + 1, l, a, p, x, h => by
    simp only [rd] at h
    split at h
    · rename_i hx
      injection h with h1 h2
      subst h2
      exact hx
    · split at h
      · simp at h
      · split at h
        · rename_i p' x' hx
          injection h with h1 h2
          subst h2
          exact rdKids_bad (fun l a p x => rd_bad) hx
        · simp at h
/-- Enough rounds are enough. -/
theorem rdKids_more (r : List UInt8 → Nat → Res) (hr : ∀ l a e n, r l a = .ok e n → 1 ≤ n) : ∀ (N M : Nat) (l : List UInt8) (a : Nat), l.length ≤ N → l.length ≤ M → rdKids r N l a = rdKids r M l a
  | 0, 0, _, _, _, _ => rfl
  | 0, M + 1, l, a, h, _ => by
    have : l.length = 0 := by omega
    simp [rdKids, this]
  | N + 1, 0, l, a, _, h => by
    have : l.length = 0 := by omega
    simp [rdKids, this]
  | N + 1, M + 1, l, a, h1, h2 => by
    rw [rdKids, rdKids]
    by_cases h0 : l.length = 0
    · rw [if_pos h0, if_pos h0]
    · rw [if_neg h0, if_neg h0]
      cases hx : r l a with
      | bad p x => rfl
      | ok e n =>
        have hn := hr _ _ _ _ hx
        have := rdKids_more r hr N M (l.drop n) (a + n) (by rw [List.length_drop]; omega) (by rw [List.length_drop]; omega)
        simp only [this]
theorem extract_mk (s : ByteArray) (i j : Nat) : s.extract i j = ⟨((s.data.toList.drop i).take (j - i)).toArray⟩ := by
  apply ByteArray.ext
  apply Array.toList_inj.1
  rw [Go.Lib.extract_data]
theorem take_drop_eq (l : List UInt8) (i n : Nat) : (l.take (i + n)).drop i = (l.drop i).take n := by
  rw [List.drop_take]
  congr 1
  omega
end Go.Proofs.Ytapkoiamjgdifaa
