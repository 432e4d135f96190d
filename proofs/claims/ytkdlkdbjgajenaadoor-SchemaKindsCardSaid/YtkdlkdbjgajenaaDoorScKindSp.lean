/- Numbers as digits, and which kinds take them: plain facts for SchemaKinds. -/
import Derived.Test.YtkdlkdbjgajenaaDoorNPlainC
import Derived.Test.YtkdlkdbjgajenaaDoorScFits
namespace Go.Proofs.YtkdlkdbjgajenaaDoor
set_option linter.unusedVariables false
set_option maxRecDepth 100000
namespace Sc
open _root_.Go.Proofs.YtkdlkdbjgajenaaDoor.Nm

/-- The digit of n's last place. -/
def dig1 (n : Nat) : UInt8 := (48 + n % 10).toUInt8
theorem dig1_nat (n : Nat) : (dig1 n).toNat = 48 + n % 10 := by
  unfold dig1
  rw [UInt8.toNat_ofNat']
  omega
/-- n by its digits, f of them at most. -/
def digs : Nat → Nat → List UInt8
  | 0, _ => []
  | f + 1, n => if n < 10 then [dig1 n] else digs f (n / 10) ++ [dig1 n]
theorem digC_dig1 (n : Nat) : digC (dig1 n) = true := by
  unfold digC
  rw [decide_eq_true_eq, dig1_nat]
  omega
theorem digs_all : ∀ (f n : Nat), ∀ c ∈ digs f n, digC c = true
  | 0, n, c, h => by cases h
  | f + 1, n, c, h => by
    rw [digs] at h
    split at h
    · rw [List.mem_singleton] at h
      rw [h]
      exact digC_dig1 n
    · rcases List.mem_append.1 h with h | h
      · exact digs_all f (n / 10) c h
      · rw [List.mem_singleton] at h
        rw [h]
        exact digC_dig1 n
theorem digs_len : ∀ (f n : Nat), (digs f n).length ≤ f
  | 0, n => Nat.le_refl _
  | f + 1, n => by
    rw [digs]
    split
    · simp
    · rw [List.length_append, List.length_singleton]
      have := digs_len f (n / 10)
      omega
theorem digs_ne (f n : Nat) : digs (f + 1) n ≠ [] := by
  rw [digs]
  split <;> simp
/-- The first digit is a nought of 0 alone. -/
theorem digs_head : ∀ (f n : Nat) (c : UInt8) (r : List UInt8), n < 10 ^ f → digs f n = c :: r → c.toNat = 48 → n = 0 ∧ r = []
  | 0, n, c, r, hn, h, _ => by cases h
  | f + 1, n, c, r, hn, h, hc => by
    rw [digs] at h
    split at h
    · injection h with h1 h2
      rw [← h1, dig1_nat] at hc
      exact ⟨by omega, h2.symm⟩
    · rename_i h10
      have hlt : n / 10 < 10 ^ f := by
        rw [Nat.pow_succ] at hn
        exact Nat.div_lt_of_lt_mul (by omega)
      cases hd : digs f (n / 10) with
      | nil =>
        exfalso
        cases f with
        | zero => simp at hlt; omega
        | succ f => exact digs_ne f _ hd
      | cons a b =>
        rw [hd, List.cons_append] at h
        injection h with h1 h2
        have := digs_head f (n / 10) a b hlt hd (by rw [h1]; exact hc)
        omega
theorem digs_zero (f : Nat) : digs (f + 1) 0 = [48] := by
  rw [digs, if_pos (by omega)]
  rfl
/-- What of them is a number: five digits at most. -/
structure Num (n : Nat) (l : List UInt8) : Prop where of ::
  all : ∀ c ∈ l, digC c = true
  len : l.length ≤ 5
  ne : l ≠ []
  head : ∀ c r, l = c :: r → c.toNat = 48 → n = 0 ∧ r = []
  zero : n = 0 → l = [48]
theorem num_digs (n : Nat) (h : n < 100000) : Num n (digs 5 n) :=
  ⟨digs_all 5 n, digs_len 5 n, digs_ne 4 n, fun c r e hc => digs_head 5 n c r h e hc, fun e => by rw [e]; exact digs_zero 4⟩
theorem digC_nat {c : UInt8} (h : digC c = true) : 48 ≤ c.toNat ∧ c.toNat ≤ 57 := by
  unfold digC at h
  exact of_decide_eq_true h
theorem digC_ne {c : UInt8} (h : digC c = true) (d : UInt8) (hd : d.toNat < 48 ∨ 57 < d.toNat) : c ≠ d := by
  intro e
  subst e
  have := digC_nat h
  omega
theorem digC_plain {c : UInt8} (h : digC c = true) : plainC c = true := by
  have h1 := digC_nat h
  unfold plainC special
  simp only [Bool.and_eq_true, decide_eq_true_eq, Bool.not_eq_true', decide_eq_false_iff_not]
  omega
theorem Num.plain {n : Nat} {l : List UInt8} (h : Num n l) : ∀ c ∈ l, plainC c = true := fun c hc => digC_plain (h.all c hc)
theorem Num.unsign {n : Nat} {l : List UInt8} (h : Num n l) : unsign l = l := by
  cases l with
  | nil => rfl
  | cons c r => rw [Sc.unsign, if_neg (digC_ne (h.all c (by simp)) 45 (by decide))]
theorem Num.int0 {n : Nat} {l : List UInt8} (h : Num n l) (L : List UInt8) : int0 L l = if n = 0 then decide (L = [48]) else true := by
  cases l with
  | nil => exact absurd rfl h.ne
  | cons c r =>
    have h5 := h.len
    rw [List.length_cons] at h5
    rw [Sc.int0, decide_eq_true (show r.length < 15 by omega), Bool.true_and]
    by_cases hc : c.toNat = 48
    · rw [if_pos hc, if_pos (h.head c r rfl hc).1]
    · have hn : n ≠ 0 := by
        intro e
        have e2 := h.zero e
        injection e2 with e3 _
        rw [e3] at hc
        exact hc rfl
      rw [if_neg hc, if_neg hn, List.all_eq_true]
      exact h.all
def nUid : List UInt8 := [117, 105, 100, 110, 117, 109, 98, 101, 114]
def nMem : List UInt8 := [109, 101, 109, 98, 101, 114]
theorem find_uid : find nUid = some (⟨#[117, 105, 100, 110, 117, 109, 98, 101, 114]⟩, 3, true) := by kernel_rfl
theorem find_mem : find nMem = some (⟨#[109, 101, 109, 98, 101, 114]⟩, 5, false) := by kernel_rfl
theorem fits3 (l : List UInt8) : fits 3 l = isInt l := rfl
theorem fits5 (l : List UInt8) : fits 5 l = (dnm l).isSome := rfl
theorem check_uid (l : List UInt8) (h1 : l ≠ []) (h2 : l.length ≤ 60) : check nUid l = if isInt l then 0 else 17 := by
  rw [check_some find_uid, fits3]
  cases isInt l
  · rw [if_pos (Or.inr (Or.inr rfl))]; rfl
  · rw [if_neg]
    · rfl
    · rintro (h | h | h)
      · exact h1 h
      · omega
      · cases h
theorem check_mem (l : List UInt8) (h1 : l ≠ []) (h2 : l.length ≤ 60) : check nMem l = if (dnm l).isSome then 0 else 17 := by
  rw [check_some find_mem, fits5]
  cases (dnm l).isSome
  · rw [if_pos (Or.inr (Or.inr rfl))]; rfl
  · rw [if_neg]
    · rfl
    · rintro (h | h | h)
      · exact h1 h
      · omega
      · cases h
theorem Num.k1 {n : Nat} {l : List UInt8} (h : Num n l) : check nUid l = 0 := by
  have h5 := h.len
  have e : isInt l = true := by
    unfold isInt
    rw [h.unsign, h.int0]
    by_cases hn : n = 0
    · rw [if_pos hn, decide_eq_true (h.zero hn)]
    · rw [if_neg hn]
  rw [check_uid l h.ne (by omega), e]; rfl
theorem Num.k2 {n : Nat} {l : List UInt8} (h : Num n l) : check nUid (45 :: l) = if n = 0 then 17 else 0 := by
  have h5 := h.len
  have e : isInt (45 :: l) = !decide (n = 0) := by
    unfold isInt
    rw [Sc.unsign, if_pos rfl, h.int0]
    by_cases hn : n = 0
    · rw [if_pos hn, decide_eq_true hn, h.zero hn]; rfl
    · rw [if_neg hn, decide_eq_false hn]; rfl
  rw [check_uid (45 :: l) (by simp) (by rw [List.length_cons]; omega), e]
  by_cases hn : n = 0
  · rw [if_pos hn, decide_eq_true hn]; rfl
  · rw [if_neg hn, decide_eq_false hn]; rfl
theorem Num.k3 {n : Nat} {l : List UInt8} (h : Num n l) : check nUid (48 :: l) = 17 := by
  have h5 := h.len
  have e : isInt (48 :: l) = false := by
    unfold isInt
    rw [Sc.unsign, if_neg (by decide), Sc.int0, if_pos (show (48 : UInt8).toNat = 48 from rfl), decide_eq_false (p := 48 :: l = [48]) (by intro e; injection e with _ e2; exact h.ne e2), Bool.and_false]
  rw [check_uid (48 :: l) (by simp) (by rw [List.length_cons]; omega), e]; rfl
theorem dig_ne {l : List UInt8} (h : ∀ c ∈ l, plainC c = true) : ∀ c ∈ ([99, 110] : List UInt8) ++ 61 :: l, c ≠ 92 ∧ c ≠ 43 ∧ c ≠ 44 := fun c hc => by
  rcases List.mem_append.1 hc with hc | hc
  · simp at hc
    rcases hc with rfl | rfl <;> decide
  · rcases List.mem_cons.1 hc with rfl | hc
    · decide
    · exact ⟨(plainC_ne (h c hc)).1, (plainC_ne (h c hc)).2.1, (plainC_ne (h c hc)).2.2.1⟩
theorem Num.k4 {n : Nat} {l : List UInt8} (h : Num n l) : check nMem (99 :: 110 :: 61 :: l) = 0 := by
  have h5 := h.len
  have hne := dig_ne h.plain
  have ha : ava (([99, 110] : List UInt8) ++ 61 :: l) = some (mk [99, 110], mk l) := ava_plain (q := [99, 110]) (by decide) (unVal_plain true l h.plain)
  have hl1 : 1 ≤ l.length := List.length_pos_iff.2 h.ne
  have hok : okAva (mk [99, 110], mk l) = true := by
    unfold okAva
    have e2 : (mk l).size = l.length := rfl
    rw [e2, decide_eq_true (show 1 ≤ l.length ∧ l.length ≤ 60 by omega)]
    rfl
  have hr1 : isRdn [(mk [99, 110], mk l)] = true := by
    unfold isRdn
    rw [okFrom, hok]
    rfl
  have hr : rdn (([99, 110] : List UInt8) ++ 61 :: l) = some [(mk [99, 110], mk l)] := by
    rw [rdn_of (r := [(mk [99, 110], mk l)]) (by rw [cuts_one (fun c hc => ⟨(hne c hc).1, (hne c hc).2.1⟩), avas_cons, ha]; rfl), if_pos hr1]
  have hd : dnm (([99, 110] : List UInt8) ++ 61 :: l) = some [[(mk [99, 110], mk l)]] := by
    rw [dnm_of (d := [[(mk [99, 110], mk l)]]) (by simp) (by rw [cuts_one (fun c hc => ⟨(hne c hc).1, (hne c hc).2.2⟩), rdns_cons, hr]; rfl), if_pos (by unfold isDn; simp [hr1])]
  have e : (dnm (99 :: 110 :: 61 :: l)).isSome = true := by
    have h0 : (99 :: 110 :: 61 :: l : List UInt8) = ([99, 110] : List UInt8) ++ 61 :: l := rfl
    rw [h0, hd]; rfl
  rw [check_mem (99 :: 110 :: 61 :: l) (by simp) (by simp only [List.length_cons]; omega), e]; rfl
theorem eqAt_none : ∀ (l : List UInt8), (∀ c ∈ l, c ≠ 61) → eqAt l = none
  | [], _ => rfl
  | c :: r, h => by
    rw [eqAt, if_neg (h c (by simp)), eqAt_none r (fun d hd => h d (by simp [hd]))]
    rfl
theorem Num.k5 {n : Nat} {l : List UInt8} (h : Num n l) : check nMem l = 17 := by
  have h5 := h.len
  have hp := h.plain
  have ha : ava l = none := by
    unfold ava
    rw [eqAt_none l (fun c hc => (plainC_ne (hp c hc)).2.2.2)]
  have hr : rdn l = none := by
    unfold rdn
    rw [cuts_one (fun c hc => ⟨(plainC_ne (hp c hc)).1, (plainC_ne (hp c hc)).2.1⟩), avas, ha]
    rfl
  have hd : dnm l = none := by
    unfold dnm
    rw [if_neg h.ne, cuts_one (fun c hc => ⟨(plainC_ne (hp c hc)).1, (plainC_ne (hp c hc)).2.2.1⟩), rdns, hr]
    rfl
  rw [check_mem l h.ne (by omega), hd]; rfl
/-- One byte, by the kinds. -/
def one3 (n : Nat) : Bool := let c := n.toUInt8
  decide (check [109, 97, 105, 108] [c] = if 32 ≤ n ∧ n ≤ 126 then 0 else 17) && (decide (check [99, 110] [c] = if (32 ≤ n ∧ n ≤ 126) ∧ n ≠ 32 then 0 else 17) && decide (check [117, 115, 101, 114, 112, 97, 115, 115, 119, 111, 114, 100] [c] = 0))
theorem one_all : (List.range 256).all one3 = true := by kernel_rfl
theorem one_of (c : UInt8) : check [109, 97, 105, 108] [c] = (if 32 ≤ c.toNat ∧ c.toNat ≤ 126 then 0 else 17) ∧ check [99, 110] [c] = (if (32 ≤ c.toNat ∧ c.toNat ≤ 126) ∧ c.toNat ≠ 32 then 0 else 17) ∧ check [117, 115, 101, 114, 112, 97, 115, 115, 119, 111, 114, 100] [c] = 0 := by
  have h := List.all_eq_true.1 one_all c.toNat (by simp [c.toNat_lt])
  unfold one3 at h
  simp only [Bool.and_eq_true, decide_eq_true_eq] at h
  have e : c.toNat.toUInt8 = c := by simp
  rw [e] at h
  exact h
theorem k6 : check [99, 110] [] = 17 := by kernel_rfl
end Sc
end Go.Proofs.YtkdlkdbjgajenaaDoor
