import Derived.Test.YtpnlalfdgngcdaaDoorZA1
import Derived.Test.YtpnlalfdgngcdaaDoorZA2
import Derived.WalkKit
import Derived.WalkSpells
import Derived.WalkLawsBesides
import Derived.Deep.QuietTactic
import Derived.BigQuiet
import Derived.Lib.Hide
import Derived.Laws.IdiomStrings
import Derived.Laws.BytesArg
import Derived.Laws.OwnMore
import Derived.Laws.Rows
import Derived.Below
set_option linter.unusedVariables false
set_option maxRecDepth 100000
namespace Go.Proofs.YtpnlalfdgngcdaaDoor
open Go.RowKit
theorem ret_int {k : IntKind} {a b : Int} (h : a = b) : Ending.returned (.int k a) = .returned (.int k b):=by rw [h]
theorem ret_bool {a b : Bool} (h : a = b) : Ending.returned (.bool a) = .returned (.bool b):=by rw [h]
theorem ret_str {a b : ByteArray} (h : a = b) : Ending.returned (.string a) = .returned (.string b):=by rw [h]
theorem u8_lt (b : UInt8) : b.toNat < 256:=b.toNat_lt
end Go.Proofs.YtpnlalfdgngcdaaDoor
namespace Go.Proofs.YtpnlalfdgngcdaaDoor
open Go.RowKit
def Row (w : World) (g : Nat) (l : List UInt8) : Prop :=
 ∃ (cur : Array Value) (n m : Nat), w.heap[g]? = some (.cells cur 5 (n, m)) ∧ cur.size ≤ n ∧ l.length ≤ cur.size ∧ cur.toList.take l.length = l.map fun b=>Value.int .u8 (b.toNat : Int)
theorem Row.lt {w : World} {g : Nat} {l : List UInt8} (h : Row w g l) : g < w.heap.size:=by
 obtain ⟨cur, n, m, hg, _⟩:=h
 rcases Nat.lt_or_ge g w.heap.size with h' | h'
 ·exact h'
 ·simp [Array.getElem?_eq_none h'] at hg
theorem Row.past {w w' : World} {g : Nat} {l : List UInt8} (h : Row w g l) (hb : Below w.heap.size w w') : Row w' g l:=by
 have hlt:=h.lt
 obtain ⟨cur, n, m, hg, r⟩:=h
 exact ⟨cur, n, m, (hb.block g hlt).trans hg, r⟩
theorem Row.drew {w : World} {g : Nat} {l : List UInt8} (h : Row w g l) : Row w.drew g l:=h
theorem cell_of_mark (w : World) (g i : Nat) (cur : Array Value) (t : TypeId) (f : Nat × Nat) (h : w.heap[g]? = some (.cells cur t f)) : w.cell? ⟨g, i, none⟩ = cur[i]?:=by
 unfold World.cell?
 rw [h]
 simp
theorem Row.cell {w : World} {g : Nat} {l : List UInt8} (h : Row w g l) {i : Nat} {c : UInt8} (hi : l[i]? = some c) : w.cell? ⟨g, i, none⟩ = some (.int .u8 (c.toNat : Int)):=by
 obtain ⟨cur, n, m, hg, hn, hl, ht⟩:=h
 have hlt:=(List.getElem?_eq_some_iff.1 hi).1
 rw [cell_of_mark w g i cur _ _ hg]
 have h1 : (cur.toList.take l.length)[i]? = some (.int .u8 (c.toNat : Int)):=by
  rw [ht, List.getElem?_map, hi]
  rfl
 rw [List.getElem?_take_of_lt hlt] at h1
 simpa using h1
theorem Row.frozen {w : World} {g : Nat} {l : List UInt8} (h : Row w g l) {i : Nat} (hi : i < l.length) : w.frozen? ⟨g, i, none⟩ = false:=by
 obtain ⟨cur, n, m, hg, hn, hl, ht⟩:=h
 unfold World.frozen?
 rw [hg]
 simp
 omega
theorem Row.set_ {w : World} {g : Nat} {l : List UInt8} (h : Row w g l) (i : Nat) (c : UInt8) : Row (w.setCell ⟨g, i, none⟩ (.int .u8 (c.toNat : Int))) g (l.set i c):=by
 obtain ⟨cur, n, m, hg, hn, hl, ht⟩:=h
 refine ⟨cur.setIfInBounds i (.int .u8 (c.toNat : Int)), n, m, ?_, by simpa using hn, by simpa using hl, ?_⟩
 ·simp [World.setCell, Array.getElem?_modify, hg]
 ·rw [List.length_set, Array.toList_setIfInBounds, List.map_set, ← ht, List.take_set]
theorem row_of_string (s : ByteArray) (w : World) : ∃ cap w', (convert 9 72 (.string s)).run Tryd.prog w = .ok (.slice (some ⟨w.heap.size, 0, none⟩) s.size cap) w' ∧
  Row w' w.heap.size (Nm.bs s) ∧ Below w.heap.size w w' ∧ w'.heap.size = w.heap.size + 1:=by
 refine ⟨_, _, run_bytes_of_string (P:=Tryd.prog) w 9 72 5 s Tryd.underlying9 Tryd.underlying72 Tryd.underlying5, ?_, ?_, by simp⟩
 ·refine ⟨_, _, _, heap_alloc_new w.drew _, Nat.le_refl _, ?_, ?_⟩
  ·show s.size ≤ _
   simp [bytesRow]
  ·unfold bytesRow
   have e : ((s.data.map fun b=>Value.int .u8 (b.toNat : Int)).toList).length = (Nm.bs s).length:=by simp
   rw [Array.toList_append, ← e, List.take_left]
   simp
 ·exact ((Below.refl _ _).drew).alloc (by simp) _
theorem row_string {w : World} {g cap : Nat} {l : List UInt8} (h : Row w g l) : (convert 72 9 (.slice (some ⟨g, 0, none⟩) l.length cap)).run Tryd.prog w = .ok (.string (Nm.mk l)) w :=
 run_convert_bytes_back (P:=Tryd.prog) w 72 9 5 ⟨g, 0, none⟩ cap l Tryd.underlying72 Tryd.underlying5 Tryd.underlying9 (fun j hj=>by
  rw [Addr.add_lit, Nat.zero_add]
  exact h.cell (List.getElem?_eq_getElem hj))
end Go.Proofs.YtpnlalfdgngcdaaDoor
namespace Go.Proofs.YtpnlalfdgngcdaaDoor
open Go.RowKit
theorem sm_nat (c : UInt8) : (Nm.sm c).toNat = if 65 ≤ c.toNat ∧ c.toNat ≤ 90 then c.toNat + 32 else c.toNat:=by
 unfold Nm.sm
 split
 ·rw [UInt8.toNat_add]; show (c.toNat + 32) % 256 = _; omega
 ·rfl
set_option maxHeartbeats 400000 in
theorem small_any (c : UInt8) (w : World) :
  Calls Tryd.prog 70 #[.int .u8 c.toNat] w fun e w'=>e = .returned (.int .u8 (Nm.sm c).toNat) ∧ w = w':=by
 have hs:=Lib.hid (sm_nat c)
 have hc:=u8_lt c
 by_cases h : 65 ≤ c.toNat ∧ c.toNat ≤ 90
 ·obtain ⟨h1, h2⟩:=h
  go_enter Tryd.func70, Tryd.ntmps70
  go_wp2
  go_ret
  refine ⟨ret_int ?_, rfl⟩
  rw [hs.out, if_pos ⟨h1, h2⟩]
  omega
 ·have h' : c.toNat < 65 ∨ 90 < c.toNat:=by omega
  clear h
  go_enter Tryd.func70, Tryd.ntmps70
  go_wp2
  all_goals
   go_ret
   refine ⟨ret_int ?_, rfl⟩
   rw [hs.out, if_neg (by omega)]
set_option maxHeartbeats 400000 in
theorem special_any (c : UInt8) (w : World) :
  Calls Tryd.prog 58 #[.int .u8 c.toNat] w fun e w'=>e = .returned (.bool (Nm.special c)) ∧ w = w':=by
 have hc:=u8_lt c
 obtain ⟨b, hb⟩ : ∃ b, b = Nm.special c:=⟨_, rfl⟩
 rw [← hb]
 have hB:=Lib.hid hb
 clear hb
 go_enter Tryd.func58, Tryd.ntmps58
 go_wp2
 all_goals
  go_ret
  refine ⟨ret_bool ?_, rfl⟩
  rw [hB.out]
  unfold Nm.special
  rw [Bool.eq_iff_iff]
  simp
  omega
def digI (c : UInt8) : Int:=match Nm.dig c with
 | some d=>d
 | none=>-1
theorem dig_lt {c : UInt8} {d : Nat} (h : Nm.dig c = some d) : d < 16:=by
 unfold Nm.dig at h
 have:=u8_lt c
 split at h
 ·injection h; omega
 ·split at h
  ·injection h; omega
  ·split at h
   ·injection h; omega
   ·cases h
theorem digI_some {c : UInt8} {d : Nat} (h : Nm.dig c = some d) : digI c = d:=by unfold digI; rw [h]
theorem digI_none {c : UInt8} (h : Nm.dig c = none) : digI c = -1:=by unfold digI; rw [h]
theorem digI_lt (c : UInt8) : -1 ≤ digI c ∧ digI c ≤ 15:=by
 cases h : Nm.dig c with
 | none=>rw [digI_none h]; omega
 | some d=>rw [digI_some h]; have:=dig_lt h; omega
theorem digI_of (c : UInt8) : digI c = if 48 ≤ c.toNat ∧ c.toNat ≤ 57 then (c.toNat : Int) - 48 else if 97 ≤ c.toNat ∧ c.toNat ≤ 102 then (c.toNat : Int) - 87 else if 65 ≤ c.toNat ∧ c.toNat ≤ 70 then (c.toNat : Int) - 55 else -1:=by
 unfold digI Nm.dig
 split
 ·rename_i d h
  split at h
  ·injection h; simp_all; omega
  ·split at h
   ·injection h; simp_all; omega
   ·split at h
    ·injection h; simp_all; omega
    ·cases h
 ·rename_i h
  split at h
  ·cases h
  ·split at h
   ·cases h
   ·split at h
    ·cases h
    ·rw [if_neg (by assumption), if_neg (by assumption), if_neg (by assumption)]
set_option maxHeartbeats 400000 in
theorem rdigit_any (c : UInt8) (w : World) :
  Calls Tryd.prog 59 #[.int .u8 c.toNat] w fun e w'=>e = .returned (.int .i64 (digI c)) ∧ w = w':=by
 have hc:=u8_lt c
 have hD:=Lib.hid (digI_of c)
 go_enter Tryd.func59, Tryd.ntmps59
 go_wp2
 all_goals
  go_ret
  refine ⟨ret_int ?_, rfl⟩
  rw [hD.out]
  repeat' split
  all_goals omega
def digs : List UInt8:=[48, 49, 50, 51, 52, 53, 54, 55, 56, 57, 97, 98, 99, 100, 101, 102]
theorem digs_all : (List.range 256).all (fun n=>decide (Lib.indexByte digs (Nm.sm n.toUInt8) = digI n.toUInt8)) = true:=by kernel_rfl
theorem digs_any (c : UInt8) : Lib.indexByte digs (Nm.sm c) = digI c:=by
 have h:=List.all_eq_true.1 digs_all c.toNat (by simp [u8_lt c])
 simpa using h
set_option maxHeartbeats 400000 in
theorem digit_any (c : UInt8) (w : World) :
  Calls Tryd.prog 94 #[.int .u8 c.toNat] w fun e w'=>e = .returned (.int .i64 (digI c)) ∧ w = w':=by
 have hD:=Lib.hid (digs_any c)
 have C1:=Lib.hid (small_any c)
 have C2:=Lib.hid (fun w=>Tryd.strings_IndexByte ⟨#[48, 49, 50, 51, 52, 53, 54, 55, 56, 57, 97, 98, 99, 100, 101, 102]⟩ (Nm.sm c).toNat w)
 go_enter Tryd.func94, Tryd.ntmps94
 go_wp2_with fail
 refine (C1.out _).mono ?_
 rintro r w1 ⟨rfl, rfl⟩
 go_wp2_with fail
 refine (C2.out _).mono ?_
 rintro r w1 ⟨rfl, rfl⟩
 go_wp2_with fail
 go_ret
 refine ⟨ret_int ?_, rfl⟩
 rw [← hD.out]
 simp [digs]
end Go.Proofs.YtpnlalfdgngcdaaDoor
