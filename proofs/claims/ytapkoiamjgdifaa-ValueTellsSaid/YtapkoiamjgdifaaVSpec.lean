/- Plain functions on numbers: two's complement in k bytes, the fewest bytes, the number that bytes say. Nothing of the program is used here. -/
import Derived.Laws.MathBits
import Derived.Laws.BytesArg
namespace Go.Proofs.Ytapkoiamjgdifaa
set_option linter.unusedVariables false

/-- How far n is from the sign's own bits: n, or -1 - n. -/
def mag (n : Int) : Nat := if 0 ≤ n then n.toNat else (-1 - n).toNat
/-- P2.1: the fewest bytes that tell n. -/
def few (n : Int) : Nat := bitLen (mag n) / 8 + 1
/-- n's k low bytes, the highest first. -/
def tc : Nat → Int → List Int
  | 0, _ => []
  | k + 1, n => (n / 256 ^ k % 256) :: tc k n
/-- P2.1: n's bytes. -/
def intB (n : Int) : List Int := tc (few n) n
/-- What bytes say behind the sign's own bits. -/
def say (n : Int) (l : List UInt8) : Int := l.foldl (fun n b => 256 * n + b.toNat) n
/-- The number that bytes say. -/
def sval : List UInt8 → Int
  | [] => 0
  | b :: r => say (if b.toNat < 128 then (b.toNat : Int) else (b.toNat : Int) - 256) r
/-- P2.1: the number that Int tells so. -/
def rdI (l : List UInt8) : Option Int := if l.length ≠ 0 ∧ l.length ≤ 8 ∧ few (sval l) = l.length then some (sval l) else none

theorem tc_len (k : Nat) (n : Int) : (tc k n).length = k := by
  induction k with
  | zero => rfl
  | succ k ih => simp [tc, ih]
theorem intB_len (n : Int) : (intB n).length = few n := tc_len _ _
theorem few_pos (n : Int) : 1 ≤ few n := by unfold few; omega
theorem mag_lt (n : Int) (p : Nat) : mag n < p ↔ -(p : Int) ≤ n ∧ n < p := by
  unfold mag; split <;> omega
theorem bitLen_lt (m j : Nat) : bitLen m < j + 1 ↔ m < 2 ^ j := by
  have h := bitLen_spec m
  constructor
  · intro hl
    exact Nat.lt_of_lt_of_le h.1 (Nat.pow_le_pow_right (by omega) (by omega))
  · intro hm
    by_cases h0 : m = 0
    · subst h0; simp [bitLen]
    · have h2 := h.2 h0
      have h3 : 2 ^ (bitLen m - 1) < 2 ^ j := Nat.lt_of_le_of_lt h2 hm
      have h4 := (Nat.pow_lt_pow_iff_right (a := 2) (by omega)).1 h3
      omega
theorem few_le (n : Int) (k : Nat) (hk : 1 ≤ k) : few n ≤ k ↔ -(2 ^ (8 * k - 1) : Int) ≤ n ∧ n < 2 ^ (8 * k - 1) := by
  have h1 := bitLen_lt (mag n) (8 * k - 1)
  have h2 := mag_lt n (2 ^ (8 * k - 1))
  push_cast at h2
  rw [← h2, ← h1]
  unfold few; omega
theorem few_8 (n : Int) (h0 : -9223372036854775808 ≤ n) (h1 : n ≤ 9223372036854775807) : few n ≤ 8 := by
  rw [few_le n 8 (by omega)]
  show -9223372036854775808 ≤ n ∧ n < 9223372036854775808
  omega
theorem say_app (n : Int) (l : List UInt8) (b : UInt8) : say n (l ++ [b]) = 256 * say n l + b.toNat := by
  unfold say; rw [List.foldl_append]; rfl
theorem say_bound (l : List UInt8) (n : Int) : n * 256 ^ l.length ≤ say n l ∧ say n l < (n + 1) * 256 ^ l.length := by
  induction l generalizing n with
  | nil => simp [say]; omega
  | cons b l ih =>
    have := ih (256 * n + b.toNat)
    have hb : b.toNat < 256 := b.toNat_lt
    have e : say n (b :: l) = say (256 * n + b.toNat) l := rfl
    rw [e, List.length_cons, Int.pow_succ]
    have hp : (0 : Int) < 256 ^ l.length := Int.pow_pos (by omega)
    generalize (256 : Int) ^ l.length = p at *
    constructor
    · refine Int.le_trans ?_ this.1
      have : n * (p * 256) = (256 * n) * p := by rw [Int.mul_comm p 256, ← Int.mul_assoc, Int.mul_comm n 256]
      rw [this]
      exact Int.mul_le_mul_of_nonneg_right (by omega) (by omega)
    · refine Int.lt_of_lt_of_le this.2 ?_
      have : (n + 1) * (p * 256) = (256 * n + 256) * p := by rw [Int.mul_comm p 256, ← Int.mul_assoc, Int.mul_comm (n + 1) 256, Int.mul_add]; rfl
      rw [this]
      exact Int.mul_le_mul_of_nonneg_right (by omega) (by omega)
/-- The low bytes of what bytes say are those bytes. -/
theorem tc_say : ∀ (l : List UInt8) (n : Int), tc l.length (say n l) = l.map fun b => (b.toNat : Int)
  | [], n => rfl
  | b :: l, n => by
    have hb : b.toNat < 256 := b.toNat_lt
    have e : say n (b :: l) = say (256 * n + b.toNat) l := rfl
    rw [List.length_cons, tc, e, tc_say l, List.map_cons]
    have h := say_bound l (256 * n + b.toNat)
    have hp : (0 : Int) < 256 ^ l.length := Int.pow_pos (by omega)
    have hd : say (256 * n + b.toNat) l / 256 ^ l.length = 256 * n + b.toNat := by
      apply Int.le_antisymm
      · have := (Int.ediv_lt_iff_lt_mul hp).2 h.2; omega
      · exact (Int.le_ediv_iff_mul_le hp).2 h.1
    rw [hd]
    congr 1
    omega
theorem sval_range : ∀ (l : List UInt8), l ≠ [] → -(2 ^ (8 * l.length - 1) : Int) ≤ sval l ∧ sval l < 2 ^ (8 * l.length - 1)
  | [], h => absurd rfl h
  | b :: l, _ => by
    have hb : b.toNat < 256 := b.toNat_lt
    have h := say_bound l (if b.toNat < 128 then (b.toNat : Int) else (b.toNat : Int) - 256)
    have e : (2 : Int) ^ (8 * (b :: l).length - 1) = 128 * 256 ^ l.length := by
      rw [List.length_cons, show 8 * (l.length + 1) - 1 = 7 + 8 * l.length by omega, Int.pow_add, Int.pow_mul]; rfl
    rw [e]
    show _ ≤ say _ l ∧ say _ l < _
    have hp : (0 : Int) < 256 ^ l.length := Int.pow_pos (by omega)
    generalize (256 : Int) ^ l.length = p at *
    generalize hx : (if b.toNat < 128 then (b.toNat : Int) else (b.toNat : Int) - 256) = x at *
    have hx1 : -128 ≤ x ∧ x + 1 ≤ 128 := by subst hx; split <;> omega
    constructor
    · refine Int.le_trans ?_ h.1
      have := Int.mul_le_mul_of_nonneg_right hx1.1 (show (0 : Int) ≤ p by omega)
      omega
    · refine Int.lt_of_lt_of_le h.2 ?_
      exact Int.mul_le_mul_of_nonneg_right hx1.2 (by omega)
theorem tc_sval : ∀ l : List UInt8, tc l.length (sval l) = l.map fun b => (b.toNat : Int)
  | [] => rfl
  | b :: l => by
    have hb : b.toNat < 256 := b.toNat_lt
    have h := tc_say l (if b.toNat < 128 then (b.toNat : Int) else (b.toNat : Int) - 256)
    have hB := say_bound l (if b.toNat < 128 then (b.toNat : Int) else (b.toNat : Int) - 256)
    have hp : (0 : Int) < 256 ^ l.length := Int.pow_pos (by omega)
    rw [List.length_cons, tc, List.map_cons]
    show _ / _ % _ :: tc l.length (say _ l) = _
    rw [h]
    have hd : say (if b.toNat < 128 then (b.toNat : Int) else (b.toNat : Int) - 256) l / 256 ^ l.length = (if b.toNat < 128 then (b.toNat : Int) else (b.toNat : Int) - 256) := by
      apply Int.le_antisymm
      · have := (Int.ediv_lt_iff_lt_mul hp).2 hB.2; omega
      · exact (Int.le_ediv_iff_mul_le hp).2 hB.1
    show say _ l / _ % _ :: _ = _
    rw [hd]
    congr 1
    split <;> omega
/-- Bytes, from whole numbers. -/
def bytesI (xs : List Int) : List UInt8 := xs.map fun n => UInt8.ofNat n.toNat
theorem ofNat_toNat (m : Nat) (h : m < 256) : (UInt8.ofNat m).toNat = m := by show m % 256 = m; omega
theorem tc_bytes : ∀ (k : Nat) (n : Int), (bytesI (tc k n)).map (fun b => (b.toNat : Int)) = tc k n
  | 0, n => rfl
  | k + 1, n => by
    rw [tc, bytesI, List.map_cons, List.map_cons]
    have h := tc_bytes k n
    unfold bytesI at h
    rw [h]
    congr 1
    rw [ofNat_toNat _ (by omega)]; omega
/-- What the k low bytes say behind what is above them is the number. -/
theorem say_tc : ∀ (k : Nat) (n : Int), say (n / 256 ^ k) (bytesI (tc k n)) = n
  | 0, n => by simp [tc, bytesI, say]
  | k + 1, n => by
    rw [tc, bytesI, List.map_cons]
    have h := say_tc k n
    show say (256 * (n / 256 ^ (k + 1)) + (UInt8.ofNat (n / 256 ^ k % 256).toNat).toNat) (bytesI (tc k n)) = n
    rw [ofNat_toNat _ (by omega)]
    have e : n / 256 ^ (k + 1) = n / 256 ^ k / 256 := by
      rw [Int.pow_succ, Int.ediv_ediv_of_nonneg (Int.le_of_lt (Int.pow_pos (by omega)))]
    rw [e]
    have : 256 * (n / 256 ^ k / 256) + ((n / 256 ^ k % 256).toNat : Int) = n / 256 ^ k := by omega
    rw [this, h]
theorem sval_tc (k : Nat) (n : Int) (hk : 1 ≤ k) (h : few n ≤ k) : sval (bytesI (tc k n)) = n := by
  obtain ⟨k, rfl⟩ : ∃ k', k = k' + 1 := ⟨k - 1, by omega⟩
  rw [few_le n _ hk] at h
  have e : (2 : Int) ^ (8 * (k + 1) - 1) = 128 * 256 ^ k := by
    rw [show 8 * (k + 1) - 1 = 7 + 8 * k by omega, Int.pow_add, Int.pow_mul]; rfl
  rw [e] at h
  have hp : (0 : Int) < 256 ^ k := Int.pow_pos (by omega)
  have h1 : n / 256 ^ k < 128 := (Int.ediv_lt_iff_lt_mul hp).2 h.2
  have h2 : -128 ≤ n / 256 ^ k := (Int.le_ediv_iff_mul_le hp).2 (by omega)
  have hs := say_tc k n
  rw [tc, bytesI, List.map_cons]
  show say _ (bytesI (tc k n)) = n
  rw [ofNat_toNat _ (by omega)]
  have : (if (n / 256 ^ k % 256).toNat < 128 then ((n / 256 ^ k % 256).toNat : Int) else ((n / 256 ^ k % 256).toNat : Int) - 256) = n / 256 ^ k := by
    split <;> omega
  rw [this, hs]
theorem bytesI_len (xs : List Int) : (bytesI xs).length = xs.length := by simp [bytesI]
theorem rdI_int (n : Int) (h : few n ≤ 8) : rdI (bytesI (intB n)) = some n := by
  have h1 := sval_tc (few n) n (few_pos n) (Nat.le_refl _)
  have h2 : (bytesI (intB n)).length = few n := by rw [bytesI_len, intB_len]
  have h3 := few_pos n
  unfold rdI
  rw [h2]
  have h4 : sval (bytesI (intB n)) = n := h1
  rw [h4, if_pos ⟨by omega, h, rfl⟩]
/-- .. and with a byte ahead of them that says nothing they say the same: so they are none. -/
theorem rdI_more (n : Int) (m : UInt8) (hm : m = if n < 0 then 255 else 0) : rdI (m :: bytesI (intB n)) = none := by
  have h0 := few_pos n
  have h1 : m :: bytesI (intB n) = bytesI (tc (few n + 1) n) := by
    rw [tc, bytesI, bytesI, List.map_cons]
    show _ = _ :: List.map _ (intB n)
    congr 1
    have h := (few_le n (few n) h0).1 (Nat.le_refl _)
    have hp : (2 : Int) ^ (8 * few n - 1) ≤ 256 ^ few n := by
      rw [show (256 : Int) = 2 ^ 8 by rfl, ← Int.pow_mul]
      have := Nat.pow_le_pow_right (n := 2) (by omega) (show 8 * few n - 1 ≤ 8 * few n by omega)
      exact_mod_cast this
    by_cases hn : n < 0
    · have : n / 256 ^ few n = -1 := by
        have hp0 : (0 : Int) < 256 ^ few n := Int.pow_pos (by omega)
        apply Int.le_antisymm
        · have := (Int.ediv_lt_iff_lt_mul hp0 (a := n) (b := 0)).2 (by omega); omega
        · exact (Int.le_ediv_iff_mul_le hp0).2 (by omega)
      rw [hm, if_pos hn, this]; rfl
    · have : n / 256 ^ few n = 0 := Int.ediv_eq_zero_of_lt (by omega) (by omega)
      rw [hm, if_neg hn, this]; rfl
  have h2 : sval (m :: bytesI (intB n)) = n := by rw [h1]; exact sval_tc _ n (by omega) (by omega)
  have h3 : (m :: bytesI (intB n)).length = few n + 1 := by rw [List.length_cons, bytesI_len, intB_len]
  unfold rdI
  rw [h2, h3, if_neg (by omega)]
/-- Int of what bytes say is those bytes, if they are as few as may be. -/
theorem intB_sval (l : List UInt8) (h : l ≠ []) : bytesI (intB (sval l)) = l ↔ few (sval l) = l.length := by
  constructor
  · intro e
    have := congrArg List.length e
    rwa [bytesI_len, intB_len] at this
  · intro e
    unfold intB
    rw [e, tc_sval]
    unfold bytesI
    rw [List.map_map]
    refine Eq.trans (List.map_congr_left (g := id) fun b _ => ?_) (List.map_id _)
    simp
theorem few_sval_le (l : List UInt8) (h : l ≠ []) : few (sval l) ≤ l.length := by
  have : 1 ≤ l.length := by cases l with
    | nil => exact absurd rfl h
    | cons => simp
  rw [few_le _ _ this]
  exact sval_range l h
end Go.Proofs.Ytapkoiamjgdifaa
