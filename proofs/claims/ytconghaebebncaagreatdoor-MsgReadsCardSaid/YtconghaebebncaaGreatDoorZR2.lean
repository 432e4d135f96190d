import Derived.Laws.MathBits
import Derived.Laws.BytesArg
import Derived.Shelf.Strings.Builder1
import Derived.Shelf.Strings.Builder2
import Derived.Shelf.Strings.OnBuilder
import Derived.Shelf.Strings.BuilderF
import Derived.Shelf.Strings.BuilderK
import Derived.Shelf.Strings.Builder2Cap
import Derived.Shelf.Strconv.Itoa0
import Derived.Shelf.LaysM
import Derived.Shelf.Strconv.Clone
import Derived.Shelf.Strings.BuilderCap
import Derived.Shelf.Slices.Turned
import Derived.Shelf.Slices.Equal
import Derived.Shelf.Slices.Empties2
import Derived.Test.YtconghaebebncaaGreatDoorProg
import Derived.WalkKit
import Derived.WalkSpells
import Derived.WalkLawsBesides
import Derived.Deep.QuietTactic
import Derived.Lib.Hide
import Derived.Lib.BitFns
set_option linter.unusedVariables false
set_option maxRecDepth 100000
namespace Go.Proofs.YtconghaebebncaaGreatDoor.Be
def mag (n : Int) : Nat:=if 0 ≤ n then n.toNat else (-1 - n).toNat
def few (n : Int) : Nat:=bitLen (mag n) / 8 + 1
def tc : Nat → Int → List Int
 | 0, _=>[]
 | k + 1, n=>(n / 256 ^ k % 256) :: tc k n
def intB (n : Int) : List Int:=tc (few n) n
def say (n : Int) (l : List UInt8) : Int:=l.foldl (fun n b=>256 * n + b.toNat) n
def sval : List UInt8 → Int
 | []=>0
 | b :: r=>say (if b.toNat < 128 then (b.toNat : Int) else (b.toNat : Int) - 256) r
def rdI (l : List UInt8) : Option Int:=if l.length ≠ 0 ∧ l.length ≤ 8 ∧ few (sval l) = l.length then some (sval l) else none
theorem tc_len (k : Nat) (n : Int) : (tc k n).length = k:=by
 induction k with
 | zero=>rfl
 | succ k ih=>simp [tc, ih]
theorem intB_len (n : Int) : (intB n).length = few n:=tc_len _ _
theorem few_pos (n : Int) : 1 ≤ few n:=by unfold few; omega
theorem mag_lt (n : Int) (p : Nat) : mag n < p ↔ -(p : Int) ≤ n ∧ n < p:=by
 unfold mag; split <;> omega
theorem bitLen_lt (m j : Nat) : bitLen m < j + 1 ↔ m < 2 ^ j:=by
 have h:=bitLen_spec m
 constructor
 ·intro hl
  exact Nat.lt_of_lt_of_le h.1 (Nat.pow_le_pow_right (by omega) (by omega))
 ·intro hm
  by_cases h0 : m = 0
  ·subst h0; simp [bitLen]
  ·have h2:=h.2 h0
   have h3 : 2 ^ (bitLen m - 1) < 2 ^ j:=Nat.lt_of_le_of_lt h2 hm
   have h4:=(Nat.pow_lt_pow_iff_right (a:=2) (by omega)).1 h3
   omega
theorem few_le (n : Int) (k : Nat) (hk : 1 ≤ k) : few n ≤ k ↔ -(2 ^ (8 * k - 1) : Int) ≤ n ∧ n < 2 ^ (8 * k - 1):=by
 have h1:=bitLen_lt (mag n) (8 * k - 1)
 have h2:=mag_lt n (2 ^ (8 * k - 1))
 push_cast at h2
 rw [← h2, ← h1]
 unfold few; omega
theorem few_8 (n : Int) (h0 : -9223372036854775808 ≤ n) (h1 : n ≤ 9223372036854775807) : few n ≤ 8:=by
 rw [few_le n 8 (by omega)]
 show -9223372036854775808 ≤ n ∧ n < 9223372036854775808
 omega
theorem say_bound (l : List UInt8) (n : Int) : n * 256 ^ l.length ≤ say n l ∧ say n l < (n + 1) * 256 ^ l.length:=by
 induction l generalizing n with
 | nil=>simp [say]; omega
 | cons b l ih =>
  have:=ih (256 * n + b.toNat)
  have hb : b.toNat < 256:=b.toNat_lt
  have e : say n (b :: l) = say (256 * n + b.toNat) l:=rfl
  rw [e, List.length_cons, Int.pow_succ]
  have hp : (0 : Int) < 256 ^ l.length:=Int.pow_pos (by omega)
  generalize (256 : Int) ^ l.length = p at *
  constructor
  ·refine Int.le_trans ?_ this.1
   have : n * (p * 256) = (256 * n) * p:=by rw [Int.mul_comm p 256, ← Int.mul_assoc, Int.mul_comm n 256]
   rw [this]
   exact Int.mul_le_mul_of_nonneg_right (by omega) (by omega)
  ·refine Int.lt_of_lt_of_le this.2 ?_
   have : (n + 1) * (p * 256) = (256 * n + 256) * p:=by rw [Int.mul_comm p 256, ← Int.mul_assoc, Int.mul_comm (n + 1) 256, Int.mul_add]; rfl
   rw [this]
   exact Int.mul_le_mul_of_nonneg_right (by omega) (by omega)
theorem sval_range : ∀ (l : List UInt8), l ≠ [] → -(2 ^ (8 * l.length - 1) : Int) ≤ sval l ∧ sval l < 2 ^ (8 * l.length - 1)
 | [], h=>absurd rfl h
 | b :: l, _=>by
  have hb : b.toNat < 256:=b.toNat_lt
  have h:=say_bound l (if b.toNat < 128 then (b.toNat : Int) else (b.toNat : Int) - 256)
  have e : (2 : Int) ^ (8 * (b :: l).length - 1) = 128 * 256 ^ l.length:=by
   rw [List.length_cons, show 8 * (l.length + 1) - 1 = 7 + 8 * l.length by omega, Int.pow_add, Int.pow_mul]; rfl
  rw [e]
  show _ ≤ say _ l ∧ say _ l < _
  have hp : (0 : Int) < 256 ^ l.length:=Int.pow_pos (by omega)
  generalize (256 : Int) ^ l.length = p at *
  generalize hx : (if b.toNat < 128 then (b.toNat : Int) else (b.toNat : Int) - 256) = x at *
  have hx1 : -128 ≤ x ∧ x + 1 ≤ 128:=by subst hx; split <;> omega
  constructor
  ·refine Int.le_trans ?_ h.1
   have:=Int.mul_le_mul_of_nonneg_right hx1.1 (show (0 : Int) ≤ p by omega)
   omega
  ·refine Int.lt_of_lt_of_le h.2 ?_
   exact Int.mul_le_mul_of_nonneg_right hx1.2 (by omega)
def bytesI (xs : List Int) : List UInt8:=xs.map fun n=>UInt8.ofNat n.toNat
theorem ofNat_toNat (m : Nat) (h : m < 256) : (UInt8.ofNat m).toNat = m:=by show m % 256 = m; omega
theorem say_tc : ∀ (k : Nat) (n : Int), say (n / 256 ^ k) (bytesI (tc k n)) = n
 | 0, n=>by simp [tc, bytesI, say]
 | k + 1, n=>by
  rw [tc, bytesI, List.map_cons]
  have h:=say_tc k n
  show say (256 * (n / 256 ^ (k + 1)) + (UInt8.ofNat (n / 256 ^ k % 256).toNat).toNat) (bytesI (tc k n)) = n
  rw [ofNat_toNat _ (by omega)]
  have e : n / 256 ^ (k + 1) = n / 256 ^ k / 256:=by
   rw [Int.pow_succ, Int.ediv_ediv_of_nonneg (Int.le_of_lt (Int.pow_pos (by omega)))]
  rw [e]
  have : 256 * (n / 256 ^ k / 256) + ((n / 256 ^ k % 256).toNat : Int) = n / 256 ^ k:=by omega
  rw [this, h]
theorem sval_tc (k : Nat) (n : Int) (hk : 1 ≤ k) (h : few n ≤ k) : sval (bytesI (tc k n)) = n:=by
 obtain ⟨k, rfl⟩ : ∃ k', k = k' + 1:=⟨k - 1, by omega⟩
 rw [few_le n _ hk] at h
 have e : (2 : Int) ^ (8 * (k + 1) - 1) = 128 * 256 ^ k:=by
  rw [show 8 * (k + 1) - 1 = 7 + 8 * k by omega, Int.pow_add, Int.pow_mul]; rfl
 rw [e] at h
 have hp : (0 : Int) < 256 ^ k:=Int.pow_pos (by omega)
 have h1 : n / 256 ^ k < 128:=(Int.ediv_lt_iff_lt_mul hp).2 h.2
 have h2 : -128 ≤ n / 256 ^ k:=(Int.le_ediv_iff_mul_le hp).2 (by omega)
 have hs:=say_tc k n
 rw [tc, bytesI, List.map_cons]
 show say _ (bytesI (tc k n)) = n
 rw [ofNat_toNat _ (by omega)]
 have : (if (n / 256 ^ k % 256).toNat < 128 then ((n / 256 ^ k % 256).toNat : Int) else ((n / 256 ^ k % 256).toNat : Int) - 256) = n / 256 ^ k:=by
  split <;> omega
 rw [this, hs]
theorem bytesI_len (xs : List Int) : (bytesI xs).length = xs.length:=by simp [bytesI]
theorem rdI_int (n : Int) (h : few n ≤ 8) : rdI (bytesI (intB n)) = some n:=by
 have h1:=sval_tc (few n) n (few_pos n) (Nat.le_refl _)
 have h2 : (bytesI (intB n)).length = few n:=by rw [bytesI_len, intB_len]
 have h3:=few_pos n
 unfold rdI
 rw [h2]
 have h4 : sval (bytesI (intB n)) = n:=h1
 rw [h4, if_pos ⟨by omega, h, rfl⟩]
end Go.Proofs.YtconghaebebncaaGreatDoor.Be
namespace Go.Proofs
open Go.Shelf
def Tryz.lays170_ren : Go.Shelf.Ren:=⟨fun | 170=>113 | n=>n, fun | 70=>142 | 3=>3 | 0=>0 | 72=>144 | 37=>40 | 5=>5 | n=>n, fun | n=>n⟩
theorem Tryz.lays170 : Go.Proofs.Lays.n170 Tryz.prog Tryz.lays170_ren:={
 mixed:=by kernel_rfl
 f170:=Tryz.func113.trans (congrArg some (by kernel_rfl))
 t0:=Tryz.underlying0
 a0:=Tryz.isAgg0
 z0:=Tryz.sizeOf0
 v0:=Tryz.zeroValue0
 t3:=Tryz.underlying3
 a3:=Tryz.isAgg3
 z3:=Tryz.sizeOf3
 v3:=Tryz.zeroValue3
 t37:=Tryz.underlying40
 a37:=Tryz.isAgg40
 z37:=Tryz.sizeOf40
 v37:=Tryz.zeroValue40
 t70:=Tryz.underlying142
 a70:=Tryz.isAgg142
 z70:=Tryz.sizeOf142
 v70:=Tryz.zeroValue142
 t72:=Tryz.underlying144
 a72:=Tryz.isAgg144
 z72:=Tryz.sizeOf144
 v72:=Tryz.zeroValue144 }
open Go.RowKit in
theorem Tryz.Builder_Len (B b : Nat) (bs : List Value) (w : World) (h : Lib.IsBuilder 144 5 B b bs w) :
  Calls Tryz.prog 113 #[.pointer (some ⟨b, 0, none⟩)] w fun e w'=>e = .returned (.int .i64 bs.length) ∧ w' = w:=Any.Builder_Len Tryz.lays170 B b bs w h
def Tryz.lays169_ren : Go.Shelf.Ren:=⟨fun | 169=>114 | n=>n, fun | 70=>142 | 9=>9 | 0=>0 | 72=>144 | 37=>40 | 127=>185 | 3=>3 | 5=>5 | n=>n, fun | n=>n⟩
theorem Tryz.lays169 : Go.Proofs.Lays.n169 Tryz.prog Tryz.lays169_ren:={
 mixed:=by kernel_rfl
 f169:=Tryz.func114.trans (congrArg some (by kernel_rfl))
 t0:=Tryz.underlying0
 a0:=Tryz.isAgg0
 z0:=Tryz.sizeOf0
 v0:=Tryz.zeroValue0
 t3:=Tryz.underlying3
 a3:=Tryz.isAgg3
 z3:=Tryz.sizeOf3
 v3:=Tryz.zeroValue3
 t9:=Tryz.underlying9
 a9:=Tryz.isAgg9
 z9:=Tryz.sizeOf9
 v9:=Tryz.zeroValue9
 t37:=Tryz.underlying40
 a37:=Tryz.isAgg40
 z37:=Tryz.sizeOf40
 v37:=Tryz.zeroValue40
 t70:=Tryz.underlying142
 a70:=Tryz.isAgg142
 z70:=Tryz.sizeOf142
 v70:=Tryz.zeroValue142
 t72:=Tryz.underlying144
 a72:=Tryz.isAgg144
 z72:=Tryz.sizeOf144
 v72:=Tryz.zeroValue144
 t127:=Tryz.underlying185
 a127:=Tryz.isAgg185
 z127:=Tryz.sizeOf185
 v127:=Tryz.zeroValue185 }
theorem Tryz.Builder_Extra_169 : Builder.Extra Tryz.prog Tryz.lays169_ren:={
 sizeBuilder:=by kernel_rfl
 liesBuilder:=by kernel_rfl
 t5:=Tryz.underlying5
 a5:=Tryz.isAgg5
 z5:=Tryz.sizeOf5
 v5:=Tryz.zeroValue5
 infoByte:=by kernel_rfl
 cellsByte:=by kernel_rfl
 sizeByte:=by kernel_rfl
 neB5:=by decide }
open Go.RowKit in
open Go.RowKit in
open Go.RowKit in
theorem Tryz.Builder_String_any (B b : Nat) (l : List UInt8) (w : World) (h : Lib.IsBuilder 144 5 B b (Lib.byteCells l) w) (hBw : B ≤ w.heap.size) :
  Calls Tryz.prog 114 #[.pointer (some ⟨b, 0, none⟩)] w fun e w'=>e = .returned (.string ⟨l.toArray⟩) ∧ Below B w w':=Any.Builder_String_any Tryz.lays169 Tryz.Builder_Extra_169 B b l w h hBw
open Go.RowKit in
open Go.RowKit in
def Tryz.lays156_ren : Go.Shelf.Ren:=⟨fun | 156=>146 | 165=>156 | 166=>111 | 169=>114 | 240=>143 | 241=>159 | 276=>154 | 277=>160 | n=>n, fun | 31=>22 | 9=>9 | 3=>3 | 4=>4 | 0=>0 | 20=>20 | 72=>144 | 76=>145 | 70=>142 | 37=>40 | 75=>51 | 127=>185 | 164=>110 | 5=>5 | 80=>149 | n=>n, fun | n=>n⟩
theorem Tryz.lays156 : Go.Proofs.Lays.n156 Tryz.prog Tryz.lays156_ren:={
 mixed:=by kernel_rfl
 f156:=Tryz.func146.trans (congrArg some (by kernel_rfl))
 f165:=Tryz.func156.trans (congrArg some (by kernel_rfl))
 f166:=Tryz.func111.trans (congrArg some (by kernel_rfl))
 f169:=Tryz.func114.trans (congrArg some (by kernel_rfl))
 f240:=Tryz.func143.trans (congrArg some (by kernel_rfl))
 f241:=Tryz.func159.trans (congrArg some (by kernel_rfl))
 f276:=Tryz.func154.trans (congrArg some (by kernel_rfl))
 f277:=Tryz.func160.trans (congrArg some (by kernel_rfl))
 t0:=Tryz.underlying0
 a0:=Tryz.isAgg0
 z0:=Tryz.sizeOf0
 v0:=Tryz.zeroValue0
 t3:=Tryz.underlying3
 a3:=Tryz.isAgg3
 z3:=Tryz.sizeOf3
 v3:=Tryz.zeroValue3
 t4:=Tryz.underlying4
 a4:=Tryz.isAgg4
 z4:=Tryz.sizeOf4
 v4:=Tryz.zeroValue4
 t9:=Tryz.underlying9
 a9:=Tryz.isAgg9
 z9:=Tryz.sizeOf9
 v9:=Tryz.zeroValue9
 t20:=Tryz.underlying20
 a20:=Tryz.isAgg20
 z20:=Tryz.sizeOf20
 v20:=Tryz.zeroValue20
 t31:=Tryz.underlying22
 a31:=Tryz.isAgg22
 z31:=Tryz.sizeOf22
 v31:=Tryz.zeroValue22
 t37:=Tryz.underlying40
 a37:=Tryz.isAgg40
 z37:=Tryz.sizeOf40
 v37:=Tryz.zeroValue40
 t70:=Tryz.underlying142
 a70:=Tryz.isAgg142
 z70:=Tryz.sizeOf142
 v70:=Tryz.zeroValue142
 t72:=Tryz.underlying144
 a72:=Tryz.isAgg144
 z72:=Tryz.sizeOf144
 v72:=Tryz.zeroValue144
 t75:=Tryz.underlying51
 a75:=Tryz.isAgg51
 z75:=Tryz.sizeOf51
 v75:=Tryz.zeroValue51
 t76:=Tryz.underlying145
 a76:=Tryz.isAgg145
 z76:=Tryz.sizeOf145
 v76:=Tryz.zeroValue145
 t127:=Tryz.underlying185
 a127:=Tryz.isAgg185
 z127:=Tryz.sizeOf185
 v127:=Tryz.zeroValue185
 t164:=Tryz.underlying110
 a164:=Tryz.isAgg110
 z164:=Tryz.sizeOf110
 v164:=Tryz.zeroValue110 }
theorem Tryz.Builder_Extra_156 : Builder.Extra Tryz.prog Tryz.lays156_ren:={
 sizeBuilder:=by kernel_rfl
 liesBuilder:=by kernel_rfl
 t5:=Tryz.underlying5
 a5:=Tryz.isAgg5
 z5:=Tryz.sizeOf5
 v5:=Tryz.zeroValue5
 infoByte:=by kernel_rfl
 cellsByte:=by kernel_rfl
 sizeByte:=by kernel_rfl
 neB5:=by decide }
open Go.RowKit in
open Go.RowKit in
theorem Tryz.strings_Join (bk o c : Nat) (xs : List ByteArray) (sep : ByteArray) (w : World) (hcells : ∀ (j : Nat) x, xs[j]? = some x → w.cell? ⟨bk, o + j, none⟩ = some (.string x)) (hbk : bk < w.heap.size) (hN : xs.length ≤ 140737488355328) (hcap : xs.length ≤ c) (hlen : (Lib.join (xs.map (·.data.toList)) sep.data.toList).length ≤ 140737488355328) :
  Calls Tryz.prog 146 #[.slice (some ⟨bk, o, none⟩) xs.length c, .string sep] w fun e w'=>e = .returned (.string ⟨(Lib.join (xs.map (·.data.toList)) sep.data.toList).toArray⟩) ∧ Below w.heap.size w w':=Any.strings_Join Tryz.lays156 Tryz.Builder_Extra_156 bk o c xs sep w hcells hbk hN hcap hlen
open Go.RowKit in
open Go.RowKit in
open Go.RowKit in
open Go.RowKit in
open Go.RowKit in
open Go.RowKit in
open Go.RowKit in
open Go.RowKit in
open Go.RowKit in
def Tryz.lays129_ren : Go.Shelf.Ren:=⟨fun | 129=>157 | n=>n, fun | 53=>202 | 3=>3 | 4=>4 | 46=>164 | 5=>5 | 9=>9 | n=>n, fun | n=>n⟩
theorem Tryz.lays129 : Go.Proofs.Lays.n129 Tryz.prog Tryz.lays129_ren:={
 mixed:=by kernel_rfl
 f129:=Tryz.func157.trans (congrArg some (by kernel_rfl))
 t3:=Tryz.underlying3
 a3:=Tryz.isAgg3
 z3:=Tryz.sizeOf3
 v3:=Tryz.zeroValue3
 t4:=Tryz.underlying4
 a4:=Tryz.isAgg4
 z4:=Tryz.sizeOf4
 v4:=Tryz.zeroValue4
 t5:=Tryz.underlying5
 a5:=Tryz.isAgg5
 z5:=Tryz.sizeOf5
 v5:=Tryz.zeroValue5
 t9:=Tryz.underlying9
 a9:=Tryz.isAgg9
 z9:=Tryz.sizeOf9
 v9:=Tryz.zeroValue9
 t46:=Tryz.underlying164
 a46:=Tryz.isAgg164
 z46:=Tryz.sizeOf164
 v46:=Tryz.zeroValue164
 t53:=Tryz.underlying202
 a53:=Tryz.isAgg202
 z53:=Tryz.sizeOf202
 v53:=Tryz.zeroValue202 }
theorem Tryz.bits_Len64 (x : Int) (w : World) (h0 : 0 ≤ x) (h1 : x ≤ 18446744073709551615) :
  Calls Tryz.prog 157 #[.int .u64 x] w fun e w'=>e = .returned (.int .i64 (Lib.bitLen x.toNat)) ∧ w' = w:=Any.bits_Len64 Tryz.lays129 x w h0 h1
def Tryz.laysM316_ren : Go.Shelf.Ren:=⟨fun | 316=>148 | n=>n, fun | 9=>9 | 3=>3 | 4=>4 | 37=>40 | 0=>0 | 127=>185 | 5=>5 | n=>n, fun | n=>n⟩
theorem Tryz.laysM316 : Go.Proofs.LaysM.n316 Tryz.prog Tryz.laysM316_ren:={
 mixed:=by kernel_rfl
 f316:=Tryz.func148.trans (congrArg some (by kernel_rfl))
 t0:=Tryz.underlying0
 a0:=Tryz.isAgg0
 z0:=Tryz.sizeOf0
 v0:=Tryz.zeroValue0
 t3:=Tryz.underlying3
 a3:=Tryz.isAgg3
 z3:=Tryz.sizeOf3
 v3:=Tryz.zeroValue3
 t4:=Tryz.underlying4
 a4:=Tryz.isAgg4
 z4:=Tryz.sizeOf4
 v4:=Tryz.zeroValue4
 t9:=Tryz.underlying9
 a9:=Tryz.isAgg9
 z9:=Tryz.sizeOf9
 v9:=Tryz.zeroValue9
 t37:=Tryz.underlying40
 a37:=Tryz.isAgg40
 z37:=Tryz.sizeOf40
 v37:=Tryz.zeroValue40
 t127:=Tryz.underlying185
 a127:=Tryz.isAgg185
 z127:=Tryz.sizeOf185
 v127:=Tryz.zeroValue185
 t5:=Tryz.underlying5
 a5:=Tryz.isAgg5
 z5:=Tryz.sizeOf5
 v5:=Tryz.zeroValue5
 i0:=by kernel_rfl
 i3:=by kernel_rfl
 i4:=by kernel_rfl
 i5:=by kernel_rfl
 i9:=by kernel_rfl
 i37:=by kernel_rfl
 i127:=by kernel_rfl }
open Go.RowKit in
theorem Tryz.stringslite_Clone (s : ByteArray) (w : World) (hlim : s.size ≤ 281474976710656) :
  Calls Tryz.prog 148 #[.string s] w fun e w'=>e = .returned (.string s) ∧ Below w.heap.size w w':=Any.stringslite_Clone Tryz.laysM316 s w hlim
open Go.Lib in
open Go.Lib in
def Tryz.lays110_ren : Go.Shelf.Ren:=⟨fun | 110=>145 | 109=>155 | n=>n, fun | 31=>22 | 9=>9 | 4=>4 | 3=>3 | 0=>0 | n=>n, fun | n=>n⟩
theorem Tryz.lays110 : Go.Proofs.Lays.n110 Tryz.prog Tryz.lays110_ren:={
 mixed:=by kernel_rfl
 f109:=Tryz.func155.trans (congrArg some (by kernel_rfl))
 f110:=Tryz.func145.trans (congrArg some (by kernel_rfl))
 t0:=Tryz.underlying0
 a0:=Tryz.isAgg0
 z0:=Tryz.sizeOf0
 v0:=Tryz.zeroValue0
 t3:=Tryz.underlying3
 a3:=Tryz.isAgg3
 z3:=Tryz.sizeOf3
 v3:=Tryz.zeroValue3
 t4:=Tryz.underlying4
 a4:=Tryz.isAgg4
 z4:=Tryz.sizeOf4
 v4:=Tryz.zeroValue4
 t9:=Tryz.underlying9
 a9:=Tryz.isAgg9
 z9:=Tryz.sizeOf9
 v9:=Tryz.zeroValue9
 t31:=Tryz.underlying22
 a31:=Tryz.isAgg22
 z31:=Tryz.sizeOf22
 v31:=Tryz.zeroValue22 }
open Go.Lib in
theorem Tryz.slices_Contains_string (b off n c : Nat) (zs : List ByteArray) (x : ByteArray) (w : World) (hz : n ≤ zs.length) (hbig : n ≤ 9223372036854775807) (hc : ∀ j, j < zs.length → w.cell? ⟨b, off + j, none⟩ = some (.string (zs.getD j ByteArray.empty))) :
  Calls Tryz.prog 145 #[.slice (some ⟨b, off, none⟩) n c, .string x] w fun e w'=>e = .returned (.bool (Lib.containsS (zs.take n) x)) ∧ w' = w:=Any.slices_Contains_string Tryz.lays110 b off n c zs x w hz hbig hc
open Go.Lib in
def Tryz.lays111_ren : Go.Shelf.Ren:=⟨fun | 111=>36 | n=>n, fun | 28=>71 | 3=>3 | 4=>4 | 0=>0 | n=>n, fun | n=>n⟩
theorem Tryz.lays111 : Go.Proofs.Lays.n111 Tryz.prog Tryz.lays111_ren:={
 mixed:=by kernel_rfl
 f111:=Tryz.func36.trans (congrArg some (by kernel_rfl))
 t0:=Tryz.underlying0
 a0:=Tryz.isAgg0
 z0:=Tryz.sizeOf0
 v0:=Tryz.zeroValue0
 t3:=Tryz.underlying3
 a3:=Tryz.isAgg3
 z3:=Tryz.sizeOf3
 v3:=Tryz.zeroValue3
 t4:=Tryz.underlying4
 a4:=Tryz.isAgg4
 z4:=Tryz.sizeOf4
 v4:=Tryz.zeroValue4
 t28:=Tryz.underlying71
 a28:=Tryz.isAgg71
 z28:=Tryz.sizeOf71
 v28:=Tryz.zeroValue71 }
open Go.RowKit Go.Lib in
theorem Tryz.slices_Equal_int (b1 o1 n c b2 o2 m d : Nat) (xs ys : List Int) (w : World) (hx : n ≤ xs.length) (hy : m ≤ ys.length) (hbig : n ≤ 9223372036854775807) (hbig2 : m ≤ 9223372036854775807) (hc1 : ∀ j, j < xs.length → w.cell? ⟨b1, o1 + j, none⟩ = some (.int .i64 (xs.getD j 0))) (hc2 : ∀ j, j < ys.length → w.cell? ⟨b2, o2 + j, none⟩ = some (.int .i64 (ys.getD j 0))) :
  Calls Tryz.prog 36 #[.slice (some ⟨b1, o1, none⟩) n c, .slice (some ⟨b2, o2, none⟩) m d] w fun e w'=>e = .returned (.bool (xs.take n == ys.take m)) ∧ ∃ q, w' = w.drewN q:=Any.slices_Equal_int Tryz.lays111 b1 o1 n c b2 o2 m d xs ys w hx hy hbig hbig2 hc1 hc2
open Go.RowKit Go.Lib in
def Tryz.lays193_ren : Go.Shelf.Ren:=⟨fun | 193=>38 | n=>n, fun | 31=>22 | 9=>9 | 4=>4 | 3=>3 | 0=>0 | n=>n, fun | n=>n⟩
theorem Tryz.lays193 : Go.Proofs.Lays.n193 Tryz.prog Tryz.lays193_ren:={
 mixed:=by kernel_rfl
 f193:=Tryz.func38.trans (congrArg some (by kernel_rfl))
 t0:=Tryz.underlying0
 a0:=Tryz.isAgg0
 z0:=Tryz.sizeOf0
 v0:=Tryz.zeroValue0
 t3:=Tryz.underlying3
 a3:=Tryz.isAgg3
 z3:=Tryz.sizeOf3
 v3:=Tryz.zeroValue3
 t4:=Tryz.underlying4
 a4:=Tryz.isAgg4
 z4:=Tryz.sizeOf4
 v4:=Tryz.zeroValue4
 t9:=Tryz.underlying9
 a9:=Tryz.isAgg9
 z9:=Tryz.sizeOf9
 v9:=Tryz.zeroValue9
 t31:=Tryz.underlying22
 a31:=Tryz.isAgg22
 z31:=Tryz.sizeOf22
 v31:=Tryz.zeroValue22 }
open Go.RowKit Go.Lib in
theorem Tryz.slices_Equal_string (b1 o1 n c b2 o2 m d : Nat) (xs ys : List ByteArray) (w : World) (hx : n ≤ xs.length) (hy : m ≤ ys.length) (hbig : n ≤ 9223372036854775807) (hbig2 : m ≤ 9223372036854775807) (hc1 : ∀ j, j < xs.length → w.cell? ⟨b1, o1 + j, none⟩ = some (.string (xs.getD j ByteArray.empty))) (hc2 : ∀ j, j < ys.length → w.cell? ⟨b2, o2 + j, none⟩ = some (.string (ys.getD j ByteArray.empty))) :
  Calls Tryz.prog 38 #[.slice (some ⟨b1, o1, none⟩) n c, .slice (some ⟨b2, o2, none⟩) m d] w fun e w'=>e = .returned (.bool (decide (xs.take n = ys.take m))) ∧ ∃ q, w' = w.drewN q:=Any.slices_Equal_string Tryz.lays193 b1 o1 n c b2 o2 m d xs ys w hx hy hbig hbig2 hc1 hc2
open Go.RowKit Go.Lib in
theorem Tryz.slices_Equal_string_empty (a1 a2 : Option Addr) (c m d : Nat) (w : World) (hbig2 : m ≤ 9223372036854775807) :
  Calls Tryz.prog 38 #[.slice a1 0 c, .slice a2 m d] w fun e w'=>e = .returned (.bool (decide (m = 0))) ∧ w' = w:=Any.slices_Equal_string_empty Tryz.lays193 a1 a2 c m d w hbig2
open Go.RowKit Go.Lib in
open Go.RowKit Go.Lib in
theorem Tryz.slices_Equal_string_lens (a1 a2 : Option Addr) (n c m d : Nat) (w : World) (hnm : n ≠ m) :
  Calls Tryz.prog 38 #[.slice a1 n c, .slice a2 m d] w fun e w'=>e = .returned (.bool false) ∧ w' = w:=Any.slices_Equal_string_lens Tryz.lays193 a1 a2 n c m d w hnm
end Go.Proofs
namespace Go.Proofs.YtconghaebebncaaGreatDoor.Be
open Go.RowKit
theorem ofInt_nat64 (x : Int) : (BitVec.ofInt 64 x).toNat = (x % 18446744073709551616).toNat:=by
 rw [BitVec.toNat_ofInt]; rfl
theorem i64_or8 (x b : Int) (h0 : -9223372036854775808 ≤ x) (h1 : x ≤ 9223372036854775807) (h : x % 256 = 0) (hb0 : 0 ≤ b) (hb1 : b < 256) : bits .or .i64 x b = x + b:=by
 show IntKind.i64.wrap ((BitVec.ofInt 64 x ||| BitVec.ofInt 64 b).toNat : Int) = _
 rw [BitVec.toNat_or, ofInt_nat64, ofInt_nat64]
 have hbb : (b % 18446744073709551616).toNat = b.toNat:=by omega
 rw [hbb]
 have ha : (x % 18446744073709551616).toNat = 2 ^ 8 * ((x % 18446744073709551616).toNat / 256):=by
  show _ = 256 * _
  omega
 have hk : (x % 18446744073709551616).toNat ||| b.toNat = (x % 18446744073709551616).toNat + b.toNat:=by
  rw [ha, ← Nat.two_pow_add_eq_or_of_lt (by omega) _]
 rw [hk, IntKind.wrap_i64]
 omega
theorem i64_xor0 (n : Int) (h0 : 0 ≤ n) (h1 : n ≤ 9223372036854775807) : bits .xor .i64 n 0 = n:=by
 show IntKind.i64.wrap ((BitVec.ofInt 64 n ^^^ BitVec.ofInt 64 0).toNat : Int) = _
 have : BitVec.ofInt 64 0 = 0#64:=by decide
 rw [this, BitVec.xor_zero, ofInt_nat64, IntKind.wrap_i64]
 omega
theorem i64_xor1 (n : Int) (h0 : -9223372036854775808 ≤ n) (h1 : n < 0) : bits .xor .i64 n (-1) = -1 - n:=by
 show IntKind.i64.wrap ((BitVec.ofInt 64 n ^^^ BitVec.ofInt 64 (-1)).toNat : Int) = _
 have : BitVec.ofInt 64 (-1) = BitVec.allOnes 64:=by decide
 rw [this, BitVec.xor_allOnes, BitVec.toNat_not, ofInt_nat64, IntKind.wrap_i64]
 omega
theorem xor_mag (n : Int) (h0 : -9223372036854775808 ≤ n) (h1 : n ≤ 9223372036854775807) : IntKind.u64.wrap (bits .xor .i64 n (n / 9223372036854775808)) = mag n:=by
 unfold mag
 by_cases h : 0 ≤ n
 ·have e : n / 9223372036854775808 = 0:=by omega
  rw [e, i64_xor0 n h h1, if_pos h, IntKind.wrap_u64]
  omega
 ·have e : n / 9223372036854775808 = -1:=by omega
  rw [e, i64_xor1 n h0 (by omega), if_neg h, IntKind.wrap_u64]
  omega
theorem mag_le (n : Int) (h0 : -9223372036854775808 ≤ n) (h1 : n ≤ 9223372036854775807) : (mag n : Int) ≤ 9223372036854775807:=by
 unfold mag; split <;> omega
theorem bitLen_64 (m : Nat) (h : (m : Int) ≤ 9223372036854775807) : bitLen m ≤ 63:=by
 have:=(bitLen_lt m 63).2 (by show m < 9223372036854775808; omega)
 omega
theorem bitLen_two (x : Nat) (h0 : x ≠ 0) : bitLen x = 1 + bitLen (x / 2):=by
 by_cases h : x / 2 = 0
 ·have : x = 1:=by omega
  subst this; decide
 ·exact bitLen_shift x 1 h
theorem lib_bitLen (x : Nat) (h : x < 2 ^ 64) : Lib.bitLen x = bitLen x:=by
 induction x using Nat.strongRecOn with
 | _ x ih =>
  by_cases h0 : x = 0
  ·subst h0; decide
  ·rw [Lib.bitLen_half x h0 h, bitLen_two x h0, ih (x / 2) (by omega) (by omega)]
set_option maxHeartbeats 400000 in
theorem fewest_any (n : Int) (w : World) (h0 : -9223372036854775808 ≤ n) (h1 : n ≤ 9223372036854775807) :
  Calls Tryz.prog 149 #[.int .i64 n] w fun e w'=>e = .returned (.int .i64 (few n)) ∧ w = w':=by
 have hx:=Lib.hid (xor_mag n h0 h1)
 have hm:=mag_le n h0 h1
 have hb:=bitLen_64 _ hm
 have hf : Hid (few n = bitLen (mag n) / 8 + 1):=rfl
 have HC : Hid (∀ w, Calls Tryz.prog 157 #[.int .u64 (mag n)] w fun e w'=>e = .returned (.int .i64 (bitLen (mag n))) ∧ w' = w):=fun w=>by
  have:=Tryz.bits_Len64 (mag n) w (by omega) (by omega)
  rwa [lib_bitLen _ (by omega)] at this
 generalize mag n = m at *
 go_enter Tryz.func149, Tryz.ntmps149
 go_wp2_with fail
 rw [hx.out]
 refine (HC.out _).mono ?_
 rintro e w' ⟨rfl, rfl⟩
 go_wp2_with fail
 go_ret
 rw [hf.out]
 refine ⟨?_, rfl⟩
 refine congrArg Ending.returned (congrArg (Value.int .i64) ?_)
 omega
end Go.Proofs.YtconghaebebncaaGreatDoor.Be
