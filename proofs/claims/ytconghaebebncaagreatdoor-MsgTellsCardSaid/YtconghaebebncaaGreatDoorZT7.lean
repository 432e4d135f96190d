import Derived.Laws.MathBits
import Derived.Laws.BytesArg
import Derived.Test.YtconghaebebncaaGreatDoorZT2
import Derived.Test.YtconghaebebncaaGreatDoorZT6
import Derived.Test.YtconghaebebncaaGreatDoorProg
import Derived.Test.YtconghaebebncaaGreatDoorZT1
import Derived.WalkKit
import Derived.WalkSpells
import Derived.WalkLawsBesides
import Derived.Deep.QuietTactic
import Derived.Lib.Hide
import Derived.Lib.BitFns
namespace Go.Proofs.YtconghaebebncaaGreatDoor.Be
set_option linter.unusedVariables false
def mag (n : Int) : Nat := if 0 ≤ n then n.toNat else (-1 - n).toNat
def few (n : Int) : Nat := bitLen (mag n) / 8 + 1
def tc : Nat → Int → List Int
 | 0, _ => []
 | k + 1, n => (n / 256 ^ k % 256) :: tc k n
def intB (n : Int) : List Int := tc (few n) n
def say (n : Int) (l : List UInt8) : Int := l.foldl (fun n b => 256 * n + b.toNat) n
def sval : List UInt8 → Int
 | [] => 0
 | b :: r => say (if b.toNat < 128 then (b.toNat : Int) else (b.toNat : Int) - 256) r
def rdI (l : List UInt8) : Option Int := if l.length ≠ 0 ∧ l.length ≤ 8 ∧ few (sval l) = l.length then some (sval l) else none
theorem tc_len (k : Nat) (n : Int) : (tc k n).length = k := by
 induction k with
 | zero => rfl
 | succ k ih => simp [tc, ih]
theorem intB_len (n : Int) : (intB n).length = few n := tc_len _ _
theorem few_pos (n : Int) : 1 ≤ few n := by unfold few; omega
theorem mag_lt (n : Int) (p : Nat) : mag n < p ↔ -(p : Int) ≤ n ∧ n < p := by
 unfold mag; split <;> omega
theorem bitLen_lt (m j : Nat) : bitLen m < j + 1 ↔ m < 2 ^ j := by
 have h := bitLen_spec m
 constructor
 ·intro hl
  exact Nat.lt_of_lt_of_le h.1 (Nat.pow_le_pow_right (by omega) (by omega))
 ·intro hm
  by_cases h0 : m = 0
  ·subst h0; simp [bitLen]
  ·have h2 := h.2 h0
   have h3 : 2 ^ (bitLen m - 1) < 2 ^ j := Nat.lt_of_le_of_lt h2 hm
   have h4 := (Nat.pow_lt_pow_iff_right (a := 2) (by omega)).1 h3
   omega
theorem few_le (n : Int) (k : Nat) (hk : 1 ≤ k) : few n ≤ k ↔ -(2 ^ (8 * k - 1) : Int) ≤ n ∧ n < 2 ^ (8 * k - 1) := by
 have h1 := bitLen_lt (mag n) (8 * k - 1)
 have h2 := mag_lt n (2 ^ (8 * k - 1))
 push_cast at h2
 rw [← h2, ← h1]
 unfold few; omega
theorem few_8 (n : Int) (h0 : -9223372036854775808 ≤ n) (h1 : n ≤ 9223372036854775807) : few n ≤ 8 := by
 rw [few_le n 8 (by omega)]
 show -9223372036854775808 ≤ n ∧ n < 9223372036854775808
 omega
theorem say_bound (l : List UInt8) (n : Int) : n * 256 ^ l.length ≤ say n l ∧ say n l < (n + 1) * 256 ^ l.length := by
 induction l generalizing n with
 | nil => simp [say]; omega
 | cons b l ih =>
  have := ih (256 * n + b.toNat)
  have hb : b.toNat < 256 := b.toNat_lt
  have e : say n (b :: l) = say (256 * n + b.toNat) l := rfl
  rw [e, List.length_cons, Int.pow_succ]
  have hp : (0 : Int) < 256 ^ l.length := Int.pow_pos (by omega)
  generalize (256 : Int) ^ l.length = p at *
  constructor
  ·refine Int.le_trans ?_ this.1
   have : n * (p * 256) = (256 * n) * p := by rw [Int.mul_comm p 256, ← Int.mul_assoc, Int.mul_comm n 256]
   rw [this]
   exact Int.mul_le_mul_of_nonneg_right (by omega) (by omega)
  ·refine Int.lt_of_lt_of_le this.2 ?_
   have : (n + 1) * (p * 256) = (256 * n + 256) * p := by rw [Int.mul_comm p 256, ← Int.mul_assoc, Int.mul_comm (n + 1) 256, Int.mul_add]; rfl
   rw [this]
   exact Int.mul_le_mul_of_nonneg_right (by omega) (by omega)
theorem sval_range : ∀ (l : List UInt8), l ≠ [] → -(2 ^ (8 * l.length - 1) : Int) ≤ sval l ∧ sval l < 2 ^ (8 * l.length - 1)
 | [], h => absurd rfl h
 | b :: l, _ => by
  have hb : b.toNat < 256 := b.toNat_lt
  have h := say_bound l (if b.toNat < 128 then (b.toNat : Int) else (b.toNat : Int) - 256)
  have e : (2 : Int) ^ (8 * (b :: l).length - 1) = 128 * 256 ^ l.length := by
   rw [List.length_cons, show 8 * (l.length + 1) - 1 = 7 + 8 * l.length by omega, Int.pow_add, Int.pow_mul]; rfl
  rw [e]
  show _ ≤ say _ l ∧ say _ l < _
  have hp : (0 : Int) < 256 ^ l.length := Int.pow_pos (by omega)
  generalize (256 : Int) ^ l.length = p at *
  generalize hx : (if b.toNat < 128 then (b.toNat : Int) else (b.toNat : Int) - 256) = x at *
  have hx1 : -128 ≤ x ∧ x + 1 ≤ 128 := by subst hx; split <;> omega
  constructor
  ·refine Int.le_trans ?_ h.1
   have := Int.mul_le_mul_of_nonneg_right hx1.1 (show (0 : Int) ≤ p by omega)
   omega
  ·refine Int.lt_of_lt_of_le h.2 ?_
   exact Int.mul_le_mul_of_nonneg_right hx1.2 (by omega)
end Go.Proofs.YtconghaebebncaaGreatDoor.Be
namespace Go.Proofs.YtconghaebebncaaGreatDoor
set_option linter.unusedVariables false
structure Mo where
 kind : Int
 attr : ByteArray
 vals : List ByteArray
structure Mg where
 id : Int
 op : Int
 ref : Int
 dn : ByteArray
 ver : Int
 pass : ByteArray
 scope : Int
 size : Int
 fil : Fil
 wants : List ByteArray
 mods : List Mo
 rdn : ByteArray
 del : Bool
 has : Bool
 sup : ByteArray
 attr : ByteArray
 value : ByteArray
 code : Int
 matched : ByteArray
namespace Ms
open _root_.Go.Proofs.YtconghaebebncaaGreatDoor.Nm _root_.Go.Proofs.YtconghaebebncaaGreatDoor.Be
abbrev no : ByteArray := ⟨#[]⟩
def noF : Fil := .mk 0 no no [] []
def zero : Mg := ⟨0, 0, 0, no, 0, no, 0, 0, noF, [], [], no, false, false, no, no, no, 0, no⟩
def eqMo (a b : Mo) : Bool := decide (a.kind = b.kind) && (decide (a.attr = b.attr) && decide (a.vals = b.vals))
def eqMos : List Mo → List Mo → Bool
 | [], [] => true
 | a :: r, b :: s => eqMo a b && eqMos r s
 | _, _ => false
def numsM (m : Mg) : List Int := [m.id, m.op, m.ref, m.ver, m.scope, m.size, m.code]
def textsM (m : Mg) : List ByteArray := [m.dn, m.pass, m.rdn, m.sup, m.attr, m.value, m.matched]
def eqM (a b : Mg) : Bool :=
 decide (numsM a = numsM b) && (decide (textsM a = textsM b) && (decide (a.del = b.del) && (decide (a.has = b.has) && (Fi.eqF a.fil b.fil && (decide (a.wants = b.wants) && eqMos a.mods b.mods)))))
def within (n a b : Int) : Bool := decide (a ≤ n ∧ n ≤ b)
def isLong (s : ByteArray) : Bool := decide (400 < s.size)
def areShort (l : List ByteArray) : Bool := !l.any isLong
def isList (l : List ByteArray) : Bool := decide (l.length ≤ 12) && areShort l
def noMod (d : Mo) : Bool := !within d.kind 1 3 || (isLong d.attr || !isList d.vals)
def takes (d : Mo) : Bool := decide (d.kind ≠ 1)
def foreign (m : Mg) : Mg :=
 let z : Mg := { m with id := 0, op := 0 }
 if m.op = 2 then z
 else if m.op = 9 then { z with ref := 0, code := 0, matched := no }
 else if m.op = 1 then { z with ver := 0, pass := no, dn := no }
 else if m.op = 3 then { z with scope := 0, size := 0, fil := noF, wants := [], dn := no }
 else if m.op = 4 ∨ m.op = 5 ∨ m.op = 10 then { z with mods := [], dn := no }
 else if m.op = 7 then { z with rdn := no, del := false, has := false, sup := no, dn := no }
 else if m.op = 8 then { z with attr := no, value := no, dn := no }
 else { z with dn := no }
def formed (m : Mg) : Bool :=
 if m.op = 1 then within m.ver 1 127
 else if m.op = 3 then within m.scope 0 2 && (within m.size 0 2147483647 && (Fi.isF m.fil && isList m.wants))
 else if m.op = 5 ∨ m.op = 10 then !m.mods.any takes && (decide (m.mods.length ≤ 12) && !m.mods.any noMod)
 else if m.op = 4 then decide (m.mods.length ≤ 12) && !m.mods.any noMod
 else if m.op = 7 then m.has || decide (m.sup = no)
 else if m.op = 9 then within m.ref 1 8 && (decide (m.ref ≠ 2) && within m.code 0 127)
 else decide (m.op = 2 ∨ m.op = 6 ∨ m.op = 8)
def isM (m : Mg) : Bool := within m.id 0 2147483647 && (eqM (foreign m) zero && (formed m && areShort (textsM m)))
def txt (t : Nat) (b : ByteArray) : El := .mk t b []
def num (t : Nat) (n : Int) : El := .mk t (strOfNums (intB n)) []
def lst (t : Nat) (ks : List El) : El := .mk t no ks
def boolB (b : Bool) : ByteArray := if b then ⟨#[255]⟩ else ⟨#[0]⟩
def flg (b : Bool) : El := txt 1 (boolB b)
def opTab : List (Int × Int × Nat) :=
 [(1, 0, 96), (2, 0, 66), (3, 0, 99), (4, 0, 102), (5, 0, 104), (6, 0, 74), (7, 0, 108), (8, 0, 110), (10, 0, 100), (9, 1, 97), (9, 3, 101), (9, 4, 103), (9, 5, 105), (9, 6, 107), (9, 7, 109), (9, 8, 111)]
def filTab : List (Int × Nat) := [(1, 160), (2, 161), (3, 162), (4, 163), (8, 164), (5, 165), (6, 166), (7, 135)]
def tagIn (op ref : Int) : List (Int × Int × Nat) → Nat
 | [] => 0
 | r :: l => if r.1 = op ∧ r.2.1 = ref then r.2.2 else tagIn op ref l
def opIn (t : Nat) : List (Int × Int × Nat) → Int × Int
 | [] => (0, 0)
 | r :: l => if r.2.2 = t then (r.1, r.2.1) else opIn t l
def ftagIn (k : Int) : List (Int × Nat) → Nat
 | [] => 0
 | r :: l => if r.1 = k then r.2 else ftagIn k l
def kindIn (t : Nat) : List (Int × Nat) → Int
 | [] => 0
 | r :: l => if r.2 = t then r.1 else kindIn t l
def opTag (op ref : Int) : Nat := tagIn op ref opTab
def opOf (t : Nat) : Int × Int := opIn t opTab
def filTag (k : Int) : Nat := ftagIn k filTab
def filKind (t : Nat) : Int := kindIn t filTab
def partTag (i n : Nat) : Nat := if i = 0 then 128 else if i = n - 1 then 130 else 129
def subEls (n : Nat) : Nat → List ByteArray → List El
 | _, [] => []
 | i, s :: r => if s.size = 0 then subEls n (i + 1) r else txt (partTag i n) s :: subEls n (i + 1) r
mutual
def filEl : Fil → El
 | .mk k a v ss ks =>
  if k = 1 ∨ k = 2 ∨ k = 3 then lst (filTag k) (filEls ks)
  else if k = 7 then txt (filTag k) a
  else if k = 8 then lst (filTag k) [txt 4 a, lst 48 (subEls ss.length 0 ss)]
  else lst (filTag k) [txt 4 a, txt 4 v]
def filEls : List Fil → List El
 | [] => []
 | f :: r => filEl f :: filEls r
end
def attrEl (d : Mo) : El := lst 48 [txt 4 d.attr, lst 49 (d.vals.map (txt 4))]
def modEl (d : Mo) : El := lst 48 [num 10 (d.kind - 1), attrEl d]
def parts (m : Mg) : List El :=
 if m.op = 1 then [num 2 m.ver, txt 4 m.dn, txt 128 m.pass]
 else if m.op = 3 then [txt 4 m.dn, num 10 m.scope, num 10 0, num 2 m.size, num 2 0, flg false, filEl m.fil, lst 48 (m.wants.map (txt 4))]
 else if m.op = 4 then [txt 4 m.dn, lst 48 (m.mods.map modEl)]
 else if m.op = 5 ∨ m.op = 10 then [txt 4 m.dn, lst 48 (m.mods.map attrEl)]
 else if m.op = 7 then [txt 4 m.dn, txt 4 m.rdn, flg m.del] ++ (if m.has then [txt 128 m.sup] else [])
 else if m.op = 8 then [txt 4 m.dn, lst 48 [txt 4 m.attr, txt 4 m.value]]
 else [num 10 m.code, txt 4 m.matched, txt 4 no]
def opEl (m : Mg) : El := if m.op = 2 ∨ m.op = 6 then txt (opTag m.op m.ref) m.dn else lst (opTag m.op m.ref) (parts m)
def msgEl (m : Mg) : El := lst 48 [num 2 m.id, opEl m]
def encM (m : Mg) : List UInt8 × Nat :=
 if isM m = false then ([], 14) else if 4000 < (enc (msgEl m)).length then ([], 13) else if 20 < dep (msgEl m) then ([], 12) else (enc (msgEl m), 0)
def bodyE : El → ByteArray
 | .mk _ b _ => b
def kidsE : El → List El
 | .mk _ _ ks => ks
def tagE : El → Nat
 | .mk t _ _ => t
def noE : El := .mk 0 no []
def kidE (e : El) (i : Nat) : El := (kidsE e).getD i noE
def textAt (e : El) (i : Nat) : ByteArray := bodyE (kidE e i)
def numAt (e : El) (i : Nat) : Int := (rdI (bs (textAt e i))).getD 0
def flagAt (e : El) (i : Nat) : Bool := decide ((bs (textAt e i)).length = 1) && decide (bs (textAt e i) ≠ [0])
def rdSubs : ByteArray → List ByteArray → ByteArray → List El → List ByteArray
 | x, l, y, [] => x :: (l ++ [y])
 | x, l, y, e :: r => if tagE e = 128 then rdSubs (bodyE e) l y r else if tagE e = 129 then rdSubs x (l ++ [bodyE e]) y r else if tagE e = 130 then rdSubs x l (bodyE e) r else rdSubs x l y r
mutual
def rdFil : El → Fil
 | .mk t b ks =>
  if filKind t = 1 ∨ filKind t = 2 ∨ filKind t = 3 then .mk (filKind t) no no [] (rdFils ks)
  else if filKind t = 7 then .mk (filKind t) b no [] []
  else if filKind t = 8 then .mk (filKind t) (bodyE (ks.getD 0 noE)) no (rdSubs no [] no (kidsE (ks.getD 1 noE))) []
  else .mk (filKind t) (bodyE (ks.getD 0 noE)) (bodyE (ks.getD 1 noE)) [] []
def rdFils : List El → List Fil
 | [] => []
 | e :: r => rdFil e :: rdFils r
end
def rdAttr (e : El) : Mo := ⟨1, textAt e 0, (kidsE (kidE e 1)).map bodyE⟩
def rdMod (e : El) : Mo := { rdAttr (kidE e 1) with kind := numAt e 0 + 1 }
def rdM (e : El) : Mg :=
 let o := kidE e 1
 let z : Mg := { zero with id := numAt e 0, op := (opOf (tagE o)).1, ref := (opOf (tagE o)).2 }
 if z.op = 1 then { z with ver := numAt o 0, dn := textAt o 1, pass := textAt o 2 }
 else if z.op = 3 then { z with dn := textAt o 0, scope := numAt o 1, size := numAt o 3, fil := rdFil (kidE o 6), wants := (kidsE (kidE o 7)).map bodyE }
 else if z.op = 4 then { z with dn := textAt o 0, mods := (kidsE (kidE o 1)).map rdMod }
 else if z.op = 5 ∨ z.op = 10 then { z with dn := textAt o 0, mods := (kidsE (kidE o 1)).map rdAttr }
 else if z.op = 6 then { z with dn := bodyE o }
 else if z.op = 7 then { z with dn := textAt o 0, rdn := textAt o 1, del := flagAt o 2, has := decide (3 < (kidsE o).length), sup := textAt o 3 }
 else if z.op = 8 then { z with dn := textAt o 0, attr := textAt (kidE o 1) 0, value := textAt (kidE o 1) 1 }
 else if z.op = 9 then { z with code := numAt o 0, matched := textAt o 1 }
 else z
def decM (s : List UInt8) : Mg × Nat := match rd 20 s 0 with
 | .bad _ x => (zero, x)
 | .ok e _ => if (encM (rdM e)).1 = s then (rdM e, 0) else (zero, 14)
end Ms
end Go.Proofs.YtconghaebebncaaGreatDoor
namespace Go.Proofs.YtconghaebebncaaGreatDoor.Be
open Go.RowKit
set_option linter.unusedVariables false
set_option maxRecDepth 100000
theorem ofInt_nat64 (x : Int) : (BitVec.ofInt 64 x).toNat = (x % 18446744073709551616).toNat := by
 rw [BitVec.toNat_ofInt]; rfl
theorem i64_or8 (x b : Int) (h0 : -9223372036854775808 ≤ x) (h1 : x ≤ 9223372036854775807) (h : x % 256 = 0) (hb0 : 0 ≤ b) (hb1 : b < 256) : bits .or .i64 x b = x + b := by
 show IntKind.i64.wrap ((BitVec.ofInt 64 x ||| BitVec.ofInt 64 b).toNat : Int) = _
 rw [BitVec.toNat_or, ofInt_nat64, ofInt_nat64]
 have hbb : (b % 18446744073709551616).toNat = b.toNat := by omega
 rw [hbb]
 have ha : (x % 18446744073709551616).toNat = 2 ^ 8 * ((x % 18446744073709551616).toNat / 256) := by
  show _ = 256 * _
  omega
 have hk : (x % 18446744073709551616).toNat ||| b.toNat = (x % 18446744073709551616).toNat + b.toNat := by
  rw [ha, ← Nat.two_pow_add_eq_or_of_lt (by omega) _]
 rw [hk, IntKind.wrap_i64]
 omega
theorem i64_xor0 (n : Int) (h0 : 0 ≤ n) (h1 : n ≤ 9223372036854775807) : bits .xor .i64 n 0 = n := by
 show IntKind.i64.wrap ((BitVec.ofInt 64 n ^^^ BitVec.ofInt 64 0).toNat : Int) = _
 have : BitVec.ofInt 64 0 = 0#64 := by decide
 rw [this, BitVec.xor_zero, ofInt_nat64, IntKind.wrap_i64]
 omega
theorem i64_xor1 (n : Int) (h0 : -9223372036854775808 ≤ n) (h1 : n < 0) : bits .xor .i64 n (-1) = -1 - n := by
 show IntKind.i64.wrap ((BitVec.ofInt 64 n ^^^ BitVec.ofInt 64 (-1)).toNat : Int) = _
 have : BitVec.ofInt 64 (-1) = BitVec.allOnes 64 := by decide
 rw [this, BitVec.xor_allOnes, BitVec.toNat_not, ofInt_nat64, IntKind.wrap_i64]
 omega
theorem xor_mag (n : Int) (h0 : -9223372036854775808 ≤ n) (h1 : n ≤ 9223372036854775807) : IntKind.u64.wrap (bits .xor .i64 n (n / 9223372036854775808)) = mag n := by
 unfold mag
 by_cases h : 0 ≤ n
 ·have e : n / 9223372036854775808 = 0 := by omega
  rw [e, i64_xor0 n h h1, if_pos h, IntKind.wrap_u64]
  omega
 ·have e : n / 9223372036854775808 = -1 := by omega
  rw [e, i64_xor1 n h0 (by omega), if_neg h, IntKind.wrap_u64]
  omega
theorem mag_le (n : Int) (h0 : -9223372036854775808 ≤ n) (h1 : n ≤ 9223372036854775807) : (mag n : Int) ≤ 9223372036854775807 := by
 unfold mag; split <;> omega
theorem bitLen_64 (m : Nat) (h : (m : Int) ≤ 9223372036854775807) : bitLen m ≤ 63 := by
 have := (bitLen_lt m 63).2 (by show m < 9223372036854775808; omega)
 omega
theorem bitLen_two (x : Nat) (h0 : x ≠ 0) : bitLen x = 1 + bitLen (x / 2) := by
 by_cases h : x / 2 = 0
 ·have : x = 1 := by omega
  subst this; decide
 ·exact bitLen_shift x 1 h
theorem lib_bitLen (x : Nat) (h : x < 2 ^ 64) : Lib.bitLen x = bitLen x := by
 induction x using Nat.strongRecOn with
 | _ x ih =>
  by_cases h0 : x = 0
  ·subst h0; decide
  ·rw [Lib.bitLen_half x h0 h, bitLen_two x h0, ih (x / 2) (by omega) (by omega)]
set_option maxHeartbeats 400000 in
theorem fewest_any (n : Int) (w : World) (h0 : -9223372036854775808 ≤ n) (h1 : n ≤ 9223372036854775807) :
  Calls Tryz.prog 149 #[.int .i64 n] w fun e w' => e = .returned (.int .i64 (few n)) ∧ w = w' := by
 have hx := Lib.hid (xor_mag n h0 h1)
 have hm := mag_le n h0 h1
 have hb := bitLen_64 _ hm
 have hf : Hid (few n = bitLen (mag n) / 8 + 1) := rfl
 have HC : Hid (∀ w, Calls Tryz.prog 157 #[.int .u64 (mag n)] w fun e w' => e = .returned (.int .i64 (bitLen (mag n))) ∧ w' = w) := fun w => by
  have := Tryz.bits_Len64 (mag n) w (by omega) (by omega)
  rwa [lib_bitLen _ (by omega)] at this
 generalize mag n = m at *
 go_enter Tryz.func149, Tryz.ntmps149
 go_wp2_with fail
 rw [hx.out]
 refine (HC.out _).mono ?_
 rintro e w' ⟨rfl, rfl⟩
 go_wp2_with fail
 go_ret
 rw [hf.out]
 refine ⟨?_, rfl⟩
 refine congrArg Ending.returned (congrArg (Value.int .i64) ?_)
 omega
end Go.Proofs.YtconghaebebncaaGreatDoor.Be
