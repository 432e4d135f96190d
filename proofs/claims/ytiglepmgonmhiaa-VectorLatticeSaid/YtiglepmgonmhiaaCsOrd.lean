/- Numbers of changes, said of whole numbers: which is any, which is less, which comes next. -/
import Derived.Lib.Hide
namespace Go.Proofs.Ytiglepmgonmhiaa.Cs
set_option linter.unusedVariables false

abbrev bs (x : ByteArray) : List UInt8 := x.data.toList
abbrev mk (l : List UInt8) : ByteArray := ⟨l.toArray⟩
theorem mk_bs (x : ByteArray) : mk (bs x) = x := rfl
theorem bs_mk (l : List UInt8) : bs (mk l) = l := rfl
theorem bs_inj {x y : ByteArray} (h : bs x = bs y) : x = y := by rw [← mk_bs x, h, mk_bs]

/-- Whether it may be a change's number. -/
def isC (t s r : Int) : Bool := decide (0 ≤ t ∧ t ≤ 1099511627776 ∧ 0 ≤ s ∧ s ≤ 65535 ∧ 0 ≤ r ∧ r < 6)
theorem isC_true {t s r : Int} (h : isC t s r = true) : 0 ≤ t ∧ t ≤ 1099511627776 ∧ 0 ≤ s ∧ s ≤ 65535 ∧ 0 ≤ r ∧ r < 6 := of_decide_eq_true h
def cmp1 (x y : Int) : Int := if x < y then -1 else if y < x then 1 else 0
def cmpC (t s r t2 s2 r2 : Int) : Int := if cmp1 t t2 ≠ 0 then cmp1 t t2 else if cmp1 s s2 ≠ 0 then cmp1 s s2 else cmp1 r r2
/-- Whether (t, s) is above (t2, s2). -/
def above (t s t2 s2 : Int) : Bool := decide (t2 < t ∨ t = t2 ∧ s2 < s)
theorem cmpC_pos (t s r t2 s2 : Int) : (0 < cmpC t s r t2 s2 r) ↔ above t s t2 s2 = true := by
  unfold cmpC above cmp1
  rw [decide_eq_true_iff]
  constructor
  · intro h
    split at h <;> split at h <;> (try split at h) <;> (try split at h) <;> omega
  · intro h
    split <;> split <;> (try split) <;> (try split) <;> omega
/-- What Next makes of its last one. -/
def nxt (t s now : Int) : Int × Int := if now ≤ t then (if s < 65535 then (t, s + 1) else (t + 1, 0)) else (now, 0)

/-- An int64. -/
def I64 (n : Int) : Prop := -9223372036854775808 ≤ n ∧ n ≤ 9223372036854775807
end Go.Proofs.Ytiglepmgonmhiaa.Cs
