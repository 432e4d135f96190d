import Derived.Test.YtbnebpdpeegpbaaDoorZS1
import Derived.Lib.ItoaMem
import Derived.Lib.ParseIntBTie
set_option linter.unusedVariables false
set_option maxRecDepth 100000
namespace Go.Proofs.YtbnebpdpeegpbaaDoor.Cs
def text (t s r : Int) : List UInt8:=Lib.itoa t ++ 46 :: (Lib.itoa s ++ 46 :: Lib.itoa r)
def upto (c : UInt8) : List UInt8 → List UInt8
 | []=>[]
 | b :: r=>if b = c then [] else b :: upto c r
def past (c : UInt8) : List UInt8 → List UInt8
 | []=>[]
 | b :: r=>if b = c then r else past c r
theorem upto_app (c : UInt8) : ∀ (l r : List UInt8), c ∉ l → upto c (l ++ c :: r) = l
 | [], r, _=>by rw [List.nil_append, upto, if_pos rfl]
 | b :: l, r, h=>by
  rw [List.cons_append, upto, if_neg (fun e=>h (by simp [e])), upto_app c l r (fun e=>h (by simp [e]))]
theorem past_app (c : UInt8) : ∀ (l r : List UInt8), c ∉ l → past c (l ++ c :: r) = r
 | [], r, _=>by rw [List.nil_append, past, if_pos rfl]
 | b :: l, r, h=>by
  rw [List.cons_append, past, if_neg (fun e=>h (by simp [e])), past_app c l r (fun e=>h (by simp [e]))]
def rd (l : List UInt8) : Int :=
 match Lib.parseIntB 64 l with
 | .ok v=>v
 | .range=>Lib.intSat 64 l
 | _=>0
def pT (l : List UInt8) : Int:=rd (upto 46 l)
def pS (l : List UInt8) : Int:=rd (upto 46 (past 46 l))
def pR (l : List UInt8) : Int:=rd (past 46 (past 46 l))
def isT (l : List UInt8) : Bool:=isC (pT l) (pS l) (pR l) && decide (text (pT l) (pS l) (pR l) = l)
theorem parseM_app (M : Nat) : ∀ (l r : List UInt8) (acc a : Nat), Lib.parseUintM M acc l = .ok a → Lib.parseUintM M acc (l ++ r) = Lib.parseUintM M a r
 | [], r, acc, a, h=>by
  have : acc = a:=by simpa [Lib.parseUintM] using h
  rw [this]
  rfl
 | c :: l, r, acc, a, h=>by
  simp only [List.cons_append, Lib.parseUintM] at h ⊢
  split at h
  ·rename_i h1
   rw [if_pos h1]
   split at h
   ·cases h
   ·rename_i h2
    rw [if_neg h2]
    split at h
    ·cases h
    ·rename_i h3
     rw [if_neg h3]
     exact parseM_app M l r _ a h
  ·cases h
theorem digit_nat (k : Nat) (h : k < 10) : (UInt8.ofNat (48 + k)).toNat = 48 + k:=by
 rw [UInt8.toNat_ofNat']
 exact Nat.mod_eq_of_lt (by omega)
theorem parseM_dec (u : Nat) (h : u ≤ 18446744073709551615) : Lib.parseUintM 18446744073709551615 0 (Lib.decDigits u) = .ok u:=by
 induction u using Nat.strongRecOn with
 | _ u ih =>
  by_cases h10 : u < 10
  ·rw [Lib.decDigits, dif_pos h10]
   simp only [Lib.parseUintM, digit_nat u h10]
   rw [if_pos (by omega), if_neg (by omega), if_neg (by omega)]
   congr 1
   omega
  ·rw [Lib.decDigits, dif_neg h10, parseM_app _ _ _ _ _ (ih (u / 10) (by omega) (by omega))]
   simp only [Lib.parseUintM, digit_nat (u % 10) (by omega)]
   rw [if_pos (by omega), if_neg (by omega), if_neg (by omega)]
   congr 1
   omega
theorem dec_digit (u : Nat) : ∀ c ∈ Lib.decDigits u, 48 ≤ c.toNat ∧ c.toNat ≤ 57:=by
 induction u using Nat.strongRecOn with
 | _ u ih =>
  intro c hc
  by_cases h10 : u < 10
  ·rw [Lib.decDigits, dif_pos h10] at hc
   simp only [List.mem_singleton] at hc
   rw [hc, digit_nat u h10]
   omega
  ·rw [Lib.decDigits, dif_neg h10] at hc
   rcases List.mem_append.1 hc with h | h
   ·exact ih (u / 10) (by omega) c h
   ·simp only [List.mem_singleton] at h
    rw [h, digit_nat (u % 10) (by omega)]
    omega
theorem dec_cons (u : Nat) : ∃ c r, Lib.decDigits u = c :: r:=by
 have:=Lib.decDigits_length u
 have h1:=Lib.nDigits_pos u
 cases h : Lib.decDigits u with
 | nil=>rw [h] at this; simp at this; omega
 | cons c r=>exact ⟨c, r, rfl⟩
theorem parseU_dec (u : Nat) (h : u ≤ 18446744073709551615) : Lib.parseUintB 64 (Lib.decDigits u) = .ok u:=by
 obtain ⟨c, r, e⟩:=dec_cons u
 unfold Lib.parseUintB
 rw [if_neg (by rw [e]; simp)]
 exact parseM_dec u h
theorem rd_itoa (n : Int) (h1 : -9223372036854775808 ≤ n) (h2 : n ≤ 9223372036854775807) : rd (Lib.itoa n) = n := by
  unfold rd
  by_cases hn : n < 0
  · have e : Lib.itoa n = 45 :: Lib.decDigits n.natAbs := by unfold Lib.itoa; rw [if_pos hn]
    rw [e, Lib.parseIntB_minus, parseU_dec _ (by omega)]
    simp only [Lib.signedC]
    rw [if_neg (by have : (2 : Nat) ^ (64 - 1) = 9223372036854775808 := by decide
                   omega)]
    show -((n.natAbs : Int)) = n
    omega
  · have e : Lib.itoa n = Lib.decDigits n.toNat := by unfold Lib.itoa; rw [if_neg hn]
    obtain ⟨c, r, e2⟩ := dec_cons n.toNat
    have hc := dec_digit n.toNat c (by rw [e2]; simp)
    rw [e, e2, Lib.parseIntB_plain 64 c r (by omega) (by omega), ← e2, parseU_dec _ (by omega)]
    simp only [Lib.signlessC]
    rw [if_neg (by have : (2 : Nat) ^ (64 - 1) = 9223372036854775808 := by decide
                   omega)]
    show ((n.toNat : Int)) = n
    omega
theorem itoa_dot (n : Int) : (46 : UInt8) ∉ Lib.itoa n:=by
 intro h
 unfold Lib.itoa at h
 have e46 : (46 : UInt8).toNat = 46:=rfl
 split at h
 ·rcases List.mem_cons.1 h with h | h
  ·cases h
  ·have:=dec_digit _ _ h; omega
 ·have:=dec_digit _ _ h; omega
theorem nDigits_le (k : Nat) : ∀ u : Nat, u < 10 ^ (k + 1) → Lib.nDigits u ≤ k + 1:=by
 induction k with
 | zero=>intro u h; rw [Lib.nDigits_small (by simpa using h)]; exact Nat.le_refl _
 | succ k ih =>
  intro u h
  by_cases h10 : u < 10
  ·rw [Lib.nDigits_small h10]; omega
  ·rw [Lib.nDigits_big h10]
   have:=ih (u / 10) (by rw [Nat.pow_succ] at h; omega)
   omega
theorem itoa_len (n : Int) (h1 : -9223372036854775808 ≤ n) (h2 : n ≤ 9223372036854775807) : (Lib.itoa n).length ≤ 20:=by
 have h9 : (10 : Nat) ^ (18 + 1) = 10000000000000000000:=by decide
 unfold Lib.itoa
 split
 ·rw [List.length_cons, Lib.decDigits_length]
  have:=nDigits_le 18 n.natAbs (by omega)
  omega
 ·rw [Lib.decDigits_length]
  have:=nDigits_le 18 n.toNat (by omega)
  omega
theorem text_pT (t s r : Int) (h1 : -9223372036854775808 ≤ t) (h2 : t ≤ 9223372036854775807) : pT (text t s r) = t:=by
 unfold pT text
 rw [upto_app 46 _ _ (itoa_dot t), rd_itoa t h1 h2]
theorem text_pS (t s r : Int) (h1 : -9223372036854775808 ≤ s) (h2 : s ≤ 9223372036854775807) : pS (text t s r) = s:=by
 unfold pS text
 rw [past_app 46 _ _ (itoa_dot t), upto_app 46 _ _ (itoa_dot s), rd_itoa s h1 h2]
theorem text_pR (t s r : Int) (h1 : -9223372036854775808 ≤ r) (h2 : r ≤ 9223372036854775807) : pR (text t s r) = r:=by
 unfold pR text
 rw [past_app 46 _ _ (itoa_dot t), past_app 46 _ _ (itoa_dot s), rd_itoa r h1 h2]
theorem text_is (t s r : Int) (ht : I64 t) (hs : I64 s) (hr : I64 r) : isT (text t s r) = isC t s r:=by
 unfold isT
 rw [text_pT t s r ht.1 ht.2, text_pS t s r hs.1 hs.2, text_pR t s r hr.1 hr.2]
 simp
theorem rd_int (l : List UInt8) : I64 (rd l):=by
 unfold rd I64
 split
 ·rename_i v h
  have:=Lib.parseIntB_bounds h
  have e : ((2 ^ (64 - 1) : Nat) : Int) = 9223372036854775808:=by decide
  omega
 ·unfold Lib.intSat
  have e : ((2 ^ (64 - 1) : Nat) : Int) = 9223372036854775808:=by decide
  have e2 : ((2 ^ (64 - 1) - 1 : Nat) : Int) = 9223372036854775807:=by decide
  split <;> omega
 ·omega
end Go.Proofs.YtbnebpdpeegpbaaDoor.Cs
