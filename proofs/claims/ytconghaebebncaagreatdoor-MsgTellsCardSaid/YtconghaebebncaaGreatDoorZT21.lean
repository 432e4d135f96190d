import Derived.Test.YtconghaebebncaaGreatDoorZT20
import Derived.Test.YtconghaebebncaaGreatDoorZT6
import Derived.Deep.LoopGhost
import Derived.Laws.BytesArg
import Derived.Laws.Externs
import Derived.Lib.AppendStr
import Derived.Lib.Builder
import Derived.Lib.Hide
import Derived.Test.YtconghaebebncaaGreatDoorZT1
import Derived.Deep.RegionWith
namespace Go.Proofs.YtconghaebebncaaGreatDoor.Be
open Go.RowKit
set_option linter.unusedVariables false
set_option maxRecDepth 100000
theorem conv_own (w : World) (base : Nat) (v : Value) (n : Nat) (xs : List Int) (h : w.ownsRow base 5 1 v n (xs.map (Value.int .u8))) (hn : n = xs.length) :
  (convert 40 9 v).run Tryz.prog w = .ok (.string (strOfNums xs)) w := by
 subst hn
 rcases h.2 with ⟨rfl, h0⟩ | ⟨g, cap, cur, rfl, hg, hh, hc, hm, hs, ht⟩
 ·have : xs = [] := List.eq_nil_of_length_eq_zero h0
  subst this
  exact run_convert_bytes_nil (P := Tryz.prog) w 40 5 Tryz.underlying40 Tryz.underlying5 0 0 9 Tryz.underlying9
 ·refine run_convert_bytes_arg (P := Tryz.prog) w 40 5 Tryz.underlying40 Tryz.underlying5 g 0 xs.length cap xs rfl (fun i hi => ?_) 9 Tryz.underlying9
  rw [Nat.zero_add, cell_of_row w g i cur _ _ hh]
  have h1 : (cur.toList.take (xs.length * 1))[i]? = some (.int .u8 (xs.getD i 0)) := by
   rw [ht, List.getElem?_map, List.getElem?_eq_getElem hi]
   simp [List.getD, List.getElem?_eq_getElem hi]
  rw [List.getElem?_take_of_lt (by omega)] at h1
  simpa using h1
theorem own_lit (w : World) (xs : List Int) (h : xs.length ≤ 1000) : (w.alloc (.cells (xs.map (Value.int .u8)).toArray 5)).ownsRow w.heap.size 5 1 (.slice (some ⟨w.heap.size, 0, none⟩) xs.length xs.length) xs.length (xs.map (Value.int .u8)) :=
 ⟨by simp, Or.inr ⟨w.heap.size, xs.length, (xs.map (Value.int .u8)).toArray, rfl, Nat.le_refl _, heap_alloc_new w _, Nat.le_refl _, by unfold maxLen; omega, by simp, List.take_of_length_le (by simp)⟩⟩
theorem conv_lit (w : World) (xs : List Int) (h : xs.length ≤ 1000) : (convert 40 9 (.slice (some ⟨w.heap.size, 0, none⟩) xs.length xs.length)).run Tryz.prog (w.alloc (.cells (xs.map (Value.int .u8)).toArray 5)) =
  .ok (.string (strOfNums xs)) (w.alloc (.cells (xs.map (Value.int .u8)).toArray 5)) := conv_own _ _ _ _ _ (own_lit w xs h) rfl
theorem size_list (b : ByteArray) (l : List UInt8) (h : b.data.toList = l) : b.size = l.length := by rw [← h]; rfl
theorem isCons_eq (t : Nat) (h : t ≤ 255) : (bits .and .u8 (t : Int) 32 != 0) = decide (t / 32 % 2 = 1) := by
 have h1 : bits .and .u8 (t : Int) 32 = ((t &&& 32 : Nat) : Int) := u8_and_nat t 32 (by omega) (by omega)
 have h2 : t &&& 32 = t / 32 % 2 * 32 := nat_bit 5 t
 rw [h1, h2, Bool.eq_iff_iff]
 simp
 omega
def errV (e : El) : Nat := if formed e = false then 14 else if 20 < dep e then 12 else if 4000 < bodyLen e then 13 else 0
theorem wr_err (e : El) : (wr e).2 = errV e := by
 unfold wr errV
 split
 ·rfl
 ·split
  ·rfl
  ·split <;> rfl
theorem wr_bytes (e : El) : (wr e).1 = if errV e = 0 then enc e else [] := by
 unfold wr errV
 split
 ·simp
 ·split
  ·simp
  ·split <;> simp
def wrV (e : El) : Value := .tuple #[.string ⟨(wr e).1.toArray⟩, .int .i64 (wr e).2]
theorem own_past {w w' : World} {base : Nat} {e : TypeId} {size : Nat} {v : Value} {n : Nat} {xs : List Value} (h : w.ownsRow base e size v n xs) (hb : Below w.heap.size w w') : w'.ownsRow base e size v n xs := by
 obtain ⟨h1, h2⟩ := h
 refine ⟨h1, ?_⟩
 rcases h2 with h2 | ⟨g, cap, cur, hv, hg, hh, r⟩
 ·exact Or.inl h2
 ·have hlt : g < w.heap.size := by
   rcases Nat.lt_or_ge g w.heap.size with h' | h'
   ·exact h'
   ·simp [Array.getElem?_eq_none h'] at hh
  exact Or.inr ⟨g, cap, cur, hv, hg, (hb.block g hlt).trans hh, r⟩
theorem Lies.head {w : World} {P : Nat → Prop} {e : El} {t : Nat} {b : ByteArray} {z : Value} (h : Lies w P e [.int .u8 t, .string b, z]) : t ≤ 255 ∧ b.size ≤ maxLen := by
 obtain ⟨t', b', ks⟩ := e
 obtain ⟨A, c, ds, hcs, ht, hb, _, _⟩ := h.open_
 simp only [List.cons.injEq, Value.int.injEq, Value.string.injEq, true_and] at hcs
 obtain ⟨h1, h2, _⟩ := hcs
 have : t = t' := by omega
 subst this h2
 exact ⟨ht, hb⟩
end Go.Proofs.YtconghaebebncaaGreatDoor.Be
namespace Go.Proofs.YtconghaebebncaaGreatDoor.Be
open Go.RowKit
set_option linter.unusedVariables false
set_option maxRecDepth 100000
theorem bSize : (Tryz.prog.info? 144).map (·.size) = some 2 := by kernel_rfl
theorem bByte : (Tryz.prog.info? 5).map (fun i => (i.zero, i.size, i.bytes)) = some (some (.int .u8 0), 1, 1) := by kernel_rfl
theorem bLies : liesAt Tryz.prog Tryz.prog.depth 144 (2 / Tryz.prog.cellsOf 144) 0 144 1 = true := by kernel_rfl
set_option maxHeartbeats 1000000 in
theorem check_used (b : Nat) (w : World) (h0 : w.cell? ⟨b, 0, none⟩ = some (.pointer (some ⟨b, 0, none⟩))) :
  Calls Tryz.prog 143 #[.pointer (some ⟨b, 0, none⟩)] w fun e w' => e = .returned (.tuple #[]) ∧ w' = w := by
 obtain ⟨j, hj, _⟩ := Option.map_eq_some_iff.1 bSize
 go_enter Tryz.func143, Tryz.ntmps143
 go_wp2
 rw [Lib.run_neq_ptr_same w _ Tryz.underlying142 hj]
 go_wp2
 go_end0
 exact ⟨rfl, rfl⟩
set_option maxHeartbeats 1000000 in
theorem check_fresh (b : Nat) (w : World) (h0 : w.cell? ⟨b, 0, none⟩ = some (.pointer none)) (hsh : w.shape? b = some (144, 2)) (hfz : w.frozen? ⟨b, 0, none⟩ = false) :
  Calls Tryz.prog 143 #[.pointer (some ⟨b, 0, none⟩)] w fun e w' => e = .returned (.tuple #[]) ∧ w' = w.setCell ⟨b, 0, none⟩ (.pointer (some ⟨b, 0, none⟩)) := by
 obtain ⟨j, hj, hjs⟩ := Option.map_eq_some_iff.1 bSize
 go_enter Tryz.func143, Tryz.ntmps143
 go_wp2
 rw [Lib.run_to_unsafe w ⟨b, 0, none⟩ Tryz.underlying142 Tryz.underlying110 hj (by rw [hjs]; decide) hsh (Nat.zero_lt_succ 1)]
 simp only [Result.andThen]
 rw [Oper.upon_value]
 go_wp2
 rw [run_callFunc_extern Tryz.func154 (by kernel_rfl) (by kernel_rfl) (by kernel_rfl) (e := Extern.AbiNoEscape.same) (by kernel_rfl)]
 rw [Lib.run_noEscape]
 simp only [Result.andThen]
 rw [Oper.upon_value]
 go_wp2
 rw [Lib.run_from_unsafe w ⟨b, 0, none⟩ Tryz.underlying110 Tryz.underlying142 hj hsh bLies]
 simp only [Result.andThen]
 rw [Oper.upon_value]
 go_wp2
 go_end0
 exact ⟨rfl, rfl⟩
def Bld (B b : Nat) (l : List UInt8) (w : World) : Prop := Lib.IsBuilder 144 5 B b (Lib.byteCells l) w
theorem check_any (B b : Nat) (l : List UInt8) (w : World) (h : Bld B b l w) :
  Calls Tryz.prog 143 #[.pointer (some ⟨b, 0, none⟩)] w fun e w' => e = .returned (.tuple #[]) ∧
   (Lib.BuilderAt 144 5 B b (.pointer (some ⟨b, 0, none⟩)) (Lib.byteCells l) w' ∧ Below B w w') := by
 rcases h with h | h
 ·refine (check_fresh b w h.cell0 h.shape h.frozen0).mono ?_
  rintro e w' ⟨rfl, rfl⟩
  exact ⟨rfl, h.used _, (Below.refl B w).setCell (p := ⟨b, 0, none⟩) h.1 _⟩
 ·refine (check_used b w h.cell0).mono ?_
  rintro e w' ⟨rfl, rfl⟩
  exact ⟨rfl, h, Below.refl B _⟩
set_option maxHeartbeats 2000000 in
theorem bwrite_any (B b : Nat) (l : List UInt8) (s : ByteArray) (w : World) (h : Bld B b l w) (hlen : l.length + s.size ≤ 140737488355328) (hBw : B ≤ w.heap.size) :
  Calls Tryz.prog 111 #[.pointer (some ⟨b, 0, none⟩), .string s] w fun e w' => e = .returned (.tuple #[.int .i64 s.size, .nilIface]) ∧ (Bld B b (l ++ s.data.toList) w' ∧ Below B w w') := by
 obtain ⟨i0, hi, hz0, hz1, hz2⟩ := info_parts bByte
 go_enter Tryz.func111, Tryz.ntmps111
 go_wp2_with (go_at_call 143; refine (check_any B b l _ h).mono ?_)
 rintro e w1 ⟨rfl, h1, hb1⟩
 obtain ⟨hB, v, hbk, hown, hne⟩ := h1
 have c0 : w1.cell? ⟨b, 0, none⟩ = some (.pointer (some ⟨b, 0, none⟩)) := by rw [Lib.cell_of_heap hbk]; rfl
 have c1 : w1.cell? ⟨b, 1, none⟩ = some v := by rw [Lib.cell_of_heap hbk]; rfl
 go_wp2_with (at_builtin; refine Lib.wpList_append_own_string _ rfl _ _ 40 9 rfl B 5 i0 Tryz.underlying40 Tryz.underlying9 hi hz0 hz1 hz2 _ _ _ rfl hown s rfl ?c3 ?c4 ?c5 ?_)
 case c3 => rw [Lib.byteCells_length]; unfold maxLen; omega
 case c4 => rw [Lib.byteCells_length]; omega
 case c5 => have := hb1.size; omega
 intro v' w2 hown' hgrow _
 have hlt : b < w1.heap.size := by
  rcases Nat.lt_or_ge b w1.heap.size with h' | h'
  ·exact h'
  ·simp [Array.getElem?_eq_none h'] at hbk
 have hb2 : w2.heap[b]? = some (.cells #[.pointer (some ⟨b, 0, none⟩), v] 144 (0, 0)) := by
  rw [hgrow.block b hlt (fun e => hne e.symm)]
  exact hbk
 have d0 : w2.cell? ⟨b, 0, none⟩ = some (.pointer (some ⟨b, 0, none⟩)) := by rw [Lib.cell_of_heap hb2]; rfl
 have d1 : w2.cell? ⟨b, 1, none⟩ = some v := by rw [Lib.cell_of_heap hb2]; rfl
 have f1 : w2.frozen? ⟨b, 1, none⟩ = false := Lib.frozen_of_heap hb2 1
 obtain ⟨ao, n', cap, rfl⟩ : ∃ ao n' cap, v' = .slice ao n' cap := by
  rcases hown'.2 with ⟨hv, _⟩ | ⟨g, cap, cur, hv, _⟩
  ·exact ⟨_, _, _, hv⟩
  ·exact ⟨_, _, _, hv⟩
 go_wp2
 go_ret2
 refine ⟨rfl, ?_, ?_⟩
 ·have hx : Lib.byteCells (l ++ s.data.toList) = Lib.byteCells l ++ Lib.strCells s := by rw [Lib.byteCells_append, Lib.strCells_eq]
  show Lib.IsBuilder _ _ _ _ _ _
  rw [hx]
  exact Or.inr (Lib.BuilderAt.put (T := 144) (e := 5) hB hb2 (bs' := Lib.byteCells l ++ Lib.strCells s) (by simpa [Lib.strCells_length] using hown') (by decide))
 ·exact (hb1.grown hgrow (by have := hb1.size; omega) (fun k hk => (hown.lt k hk).1)).setCell (p := ⟨b, 1, none⟩) hB _
theorem one_new (w : World) (u : Value) (t : TypeId) (g : Nat) (hg : g = w.heap.size) : ∀ (j : Nat) (v : Value), [u][j]? = some v → (w.alloc (.cells #[u] t)).cell? ((⟨g, 0, none⟩ : Addr).add j) = some v := by
 subst hg
 exact cell_one_new w u t
theorem Bld.past {B b : Nat} {l : List UInt8} {w w' : World} (h : Bld B b l w) (hb : Below w.heap.size w w') : Bld B b l w' := by
 have key : ∀ p, Lib.BuilderAt 144 5 B b p (Lib.byteCells l) w → Lib.BuilderAt 144 5 B b p (Lib.byteCells l) w' := by
  rintro p ⟨hB, v, hbk, hown, hne⟩
  have hlt : b < w.heap.size := by
   rcases Nat.lt_or_ge b w.heap.size with h' | h'
   ·exact h'
   ·simp [Array.getElem?_eq_none h'] at hbk
  exact ⟨hB, v, (hb.block b hlt).trans hbk, own_past hown hb, hne⟩
 rcases h with h | h
 ·exact Or.inl (key _ h)
 ·exact Or.inr (key _ h)
theorem Bld.fresh (w : World) : Bld w.heap.size w.heap.size [] (w.alloc (.cells #[.pointer none, .slice none 0 0] 144)) := Lib.fresh_isBuilder _ _ w
theorem Bld.drew {B b : Nat} {l : List UInt8} {w : World} (h : Bld B b l w) : Bld B b l w.drew := h
theorem Bld.alloc {B b : Nat} {l : List UInt8} {w : World} (h : Bld B b l w) (o : Obj) : Bld B b l (w.alloc o) := h.past ((Below.refl _ _).alloc (Nat.le_refl _) o)
theorem blen_any (B b : Nat) (l : List UInt8) (w : World) (h : Bld B b l w) :
  Calls Tryz.prog 113 #[.pointer (some ⟨b, 0, none⟩)] w fun e w' => e = .returned (.int .i64 l.length) ∧ w = w' := by
 refine (Tryz.Builder_Len B b _ w h).mono ?_
 rintro e w' ⟨rfl, rfl⟩
 exact ⟨by rw [Lib.byteCells_length], rfl⟩
theorem bstring_any (B b : Nat) (l : List UInt8) (w : World) (h : Bld B b l w) (hBw : B ≤ w.heap.size) :
  Calls Tryz.prog 114 #[.pointer (some ⟨b, 0, none⟩)] w fun e w' => e = .returned (.string ⟨l.toArray⟩) ∧ Below B w w' := Tryz.Builder_String_any B b l w h hBw
set_option maxHeartbeats 400000 in
theorem clone_any (s : ByteArray) (w : World) (h : s.size ≤ 281474976710656) :
  Calls Tryz.prog 125 #[.string s] w fun e w' => e = .returned (.string s) ∧ Below w.heap.size w w' := by
 go_enter Tryz.func125, Tryz.ntmps125
 go_wp2_with (go_at_call 148; refine (Tryz.stringslite_Clone s _ h).mono ?_; rintro e w' ⟨rfl, hb⟩)
 go_ret
 exact ⟨rfl, by assumption⟩
end Go.Proofs.YtconghaebebncaaGreatDoor.Be
namespace Go.Proofs.YtconghaebebncaaGreatDoor.Be
open Go.RowKit
set_option linter.unusedVariables false
set_option maxRecDepth 100000
end Go.Proofs.YtconghaebebncaaGreatDoor.Be
namespace Go.Proofs.YtconghaebebncaaGreatDoor.Be
open Go.RowKit
set_option linter.unusedVariables false
set_option maxRecDepth 100000
theorem ret_str {x y : ByteArray} (h : x = y) : Ending.returned (.string x) = .returned (.string y) := by rw [h]
def lenB (n : Nat) : List UInt8 := if n < 128 then [n.toUInt8] else if n < 256 then [129, n.toUInt8] else [130, (n / 256).toUInt8, n.toUInt8]
theorem encHead_lenB (t n : Nat) : encHead t n = t.toUInt8 :: lenB n := by
 unfold encHead lenB
 split
 ·rfl
 ·split <;> rfl
set_option maxHeartbeats 1000000 in
theorem rlen_0 (n : Int) (w : World) (h0 : 0 ≤ n) (h1 : n < 128) :
  Calls Tryz.prog 59 #[.int .i64 n] w fun r w' => r = .returned (.string ⟨(lenB n.toNat).toArray⟩) ∧ Below w.heap.size w w' := by
 have hr := Lib.hid (show lenB n.toNat = [n.toNat.toUInt8] by unfold lenB; rw [if_pos (by omega)])
 have hV : Hid (∀ (w : World) (x : Int), (convert 40 9 (.slice (some ⟨w.heap.size, 0, none⟩) 1 1)).run Tryz.prog (w.alloc (.cells #[.int .u8 x] 5)) = .ok (.string (strOfNums [x])) (w.alloc (.cells #[.int .u8 x] 5))) := fun w x => conv_lit w [x] (by simp)
 go_enter Tryz.func59, Tryz.ntmps59
 go_wp2_with fail
 rw [hV.out w]
 simp only [Result.andThen]
 rw [Oper.upon_value]
 go_wp2_with fail
 go_ret
 rw [hr.out]
 exact ⟨rfl, (Below.refl _ _).alloc (Nat.le_refl _) _⟩
def lenSt (n k : Int) (l : List UInt8) : Prop := (k = n ∧ l = []) ∨ (k = n / 256 ∧ l = [n.toNat.toUInt8]) ∨ (k = 0 ∧ 256 ≤ n ∧ l = [(n.toNat / 256).toUInt8, n.toNat.toUInt8])
theorem toU8_mod (n : Nat) : (n % 256).toUInt8 = n.toUInt8 := by
 apply UInt8.toNat_inj.1
 show (n % 256) % 256 = n % 256
 omega
theorem lenSt_step {n k : Int} {l : List UInt8} (h0 : 128 ≤ n) (h1 : n ≤ 4000) (hk : 0 < k) (h : lenSt n k l) : lenSt n (k / 256) ((k % 256).toNat.toUInt8 :: l) := by
 rcases h with ⟨rfl, rfl⟩ | ⟨rfl, rfl⟩ | ⟨rfl, _, _⟩
 ·right; left
  refine ⟨rfl, ?_⟩
  have : (k % 256).toNat = k.toNat % 256 := by omega
  rw [this, toU8_mod]
 ·right; right
  refine ⟨by omega, by omega, ?_⟩
  have : (n / 256 % 256).toNat = n.toNat / 256 := by omega
  rw [this]
 ·omega
theorem lenSt_end {n k : Int} {l : List UInt8} (h0 : 128 ≤ n) (h1 : n ≤ 4000) (hk : ¬ 0 < k) (h : lenSt n k l) : l.length ≤ 2 ∧ lenB n.toNat = (128 + l.length).toUInt8 :: l := by
 rcases h with ⟨rfl, rfl⟩ | ⟨rfl, rfl⟩ | ⟨rfl, h2, rfl⟩
 ·omega
 ·refine ⟨by simp, ?_⟩
  unfold lenB; rw [if_neg (by omega), if_pos (by omega)]; rfl
 ·refine ⟨by simp, ?_⟩
  unfold lenB; rw [if_neg (by omega), if_neg (by omega)]; rfl
theorem lenSt_len {n k : Int} {l : List UInt8} (h : lenSt n k l) : l.length ≤ 2 := by
 rcases h with ⟨_, rfl⟩ | ⟨_, rfl⟩ | ⟨_, _, rfl⟩ <;> simp
theorem lenSt_small {n k : Int} {l : List UInt8} (h0 : 128 ≤ n) (h1 : n ≤ 4000) (h : lenSt n k l) : 0 ≤ k ∧ k ≤ 4000 := by
 rcases h with ⟨rfl, rfl⟩ | ⟨rfl, rfl⟩ | ⟨rfl, h2, rfl⟩ <;> omega
set_option maxHeartbeats 1000000 in
theorem rlen_1 (n : Int) (w : World) (h0 : 128 ≤ n) (h1 : n ≤ 4000) :
  Calls Tryz.prog 59 #[.int .i64 n] w fun r w' => r = .returned (.string ⟨(lenB n.toNat).toArray⟩) ∧ Below w.heap.size w w' := by
 have hV : Hid (∀ (w : World) (x : Int), (convert 40 9 (.slice (some ⟨w.heap.size, 0, none⟩) 1 1)).run Tryz.prog (w.alloc (.cells #[.int .u8 x] 5)) = .ok (.string (strOfNums [x])) (w.alloc (.cells #[.int .u8 x] 5))) := fun w x => conv_lit w [x] (by simp)
 have hso : ∀ x : Int, (strOfNums [x]).size = 1 := fun x => strOfNums_size _
 go_enter Tryz.func59, Tryz.ntmps59
 go_wp2_with fail
 go_loopw [3, 4] (fun s k wr => ∃ (b : ByteArray) (j : Int), s = .string b ∧ k = .int .i64 j ∧ Hid (lenSt n j b.data.toList) ∧ Below w.heap.size w wr) (fun s k wr => (intOf k).toNat)
 case atStart => exact ⟨⟨#[]⟩, n, rfl, rfl, Or.inl ⟨rfl, rfl⟩, Below.refl _ _⟩
 case round =>
  obtain ⟨b, j, rfl, rfl, hE, hb⟩ := hrel
  have hj := lenSt_small h0 h1 hE.out
  obtain ⟨hj0, hj1⟩ := hj
  have hb2 : b.size ≤ 2 := lenSt_len hE.out
  by_cases hlt : 0 < j
  ·have hE2 := Lib.hid (lenSt_step h0 h1 hlt hE.out)
   go_wp2_with fail
   rw [hV.out wr]
   simp only [Result.andThen]
   rw [Oper.upon_value]
   go_wp2_with fail
   go_roundw
   case rel =>
    refine ⟨_, _, rfl, rfl, ?_, hb.alloc hb.size _⟩
    show lenSt _ _ _
    rw [ByteArray.data_append, Array.toList_append, strOfNums_data]
    exact hE2.out
   case measure => simp [intOf]; omega
  ·have hE2 := Lib.hid (lenSt_end h0 h1 hlt hE.out)
   go_wp2_with fail
   rw [hV.out wr]
   simp only [Result.andThen]
   rw [Oper.upon_value]
   go_wp2_with fail
   go_ret
   refine ⟨ret_str ?_, hb.alloc hb.size _⟩
   apply ByteArray.ext
   apply Array.toList_inj.1
   rw [ByteArray.data_append, Array.toList_append, strOfNums_data, hE2.out.2]
   have h5 : ((128 : Int) + b.size).toNat = 128 + b.data.toList.length := by
    show ((128 : Int) + b.size).toNat = 128 + b.size
    omega
   simp only [List.map, h5]
   rfl
theorem rlen_any (n : Int) (w : World) (h0 : 0 ≤ n) (h1 : n ≤ 4000) :
  Calls Tryz.prog 59 #[.int .i64 n] w fun r w' => r = .returned (.string ⟨(lenB n.toNat).toArray⟩) ∧ Below w.heap.size w w' := by
 by_cases h : n < 128
 ·exact rlen_0 n w h0 h
 ·exact rlen_1 n w (by omega) h1
theorem lenB_le (n : Nat) : (⟨(lenB n).toArray⟩ : ByteArray).size ≤ 3 := by
 show (lenB n).toArray.size ≤ 3
 unfold lenB
 split
 ·simp
 ·split <;> simp
theorem conv_one (w : World) (g : Nat) (x : Int) (h : Blk w g 5 #[.int .u8 x]) :
  (convert 40 9 (.slice (some ⟨g, 0, none⟩) 1 1)).run Tryz.prog w = .ok (.string (strOfNums [x])) w :=
 conv_own w g _ 1 [x] ⟨rfl, Or.inr ⟨g, 1, #[.int .u8 x], rfl, Nat.le_refl _, h, Nat.le_refl _, by unfold maxLen; omega, rfl, rfl⟩⟩ rfl
def rbV (e : El) : Value := .tuple #[.string ⟨(if bodyLen e ≤ 4000 then enc e else []).toArray⟩, .bool (decide (bodyLen e ≤ 4000))]
def SaidRBytes (e : El) : Prop := ∀ (K L d : Nat) (x y z : Value) (w : World), fitS K L d e = true → K ≤ 10000 → L ≤ 10000 → Lies w (· < w.heap.size) e [x, y, z] →
  Calls Tryz.prog 25 #[.agg #[x, y, z]] w fun r w' => r = .returned (rbV e) ∧ Below w.heap.size w w'
theorem rbV_ok {e : El} (h : bodyLen e ≤ 4000) : rbV e = .tuple #[.string ⟨(enc e).toArray⟩, .bool true] := by simp [rbV, h]
theorem rbV_bad {e : El} (h : 4000 < bodyLen e) : rbV e = .tuple #[.string ⟨#[]⟩, .bool false] := by
 have : ¬ bodyLen e ≤ 4000 := by omega
 simp [rbV, this]
theorem body_kid {t : Nat} {b : ByteArray} {ks : List El} {i : Nat} (hi : i < ks.length) : bodyLen ks[i] < bodyLen (.mk t b ks) := by
 have h1 := encs_take_le ks (i + 1)
 rw [encs_take hi, List.length_append] at h1
 have h2 := enc_len ks[i]
 rw [bodyLen]
 omega
set_option maxHeartbeats 1000000 in
theorem rbytes_any (e : El) : SaidRBytes e := by
 refine El.ind ?_ e
 intro t b ks ih K L d x y z w hF hK1 hL1 hL
 obtain ⟨A, c, ds, hcs, ht, hb, hl, hK⟩ := hL.open_
 simp only [List.cons.injEq, and_true] at hcs
 obtain ⟨rfl, rfl, rfl⟩ := hcs
 unfold maxLen at hl
 obtain ⟨d, rfl⟩ : ∃ d', d = d' + 1 := by
  cases d with
  | zero => exact (fitS_zero hF).elim
  | succ d => exact ⟨d, rfl⟩
 obtain ⟨hkK, hbL, hkF⟩ := fitS_open hF
 have hkl : ks.length ≤ 10000 := by omega
 have hbl : b.size ≤ 10000 := by omega
 have Ih := Lib.hid ih
 have HF := Lib.hid hkF
 clear ih hL hkF hF hb
 go_enter Tryz.func25, Tryz.ntmps25
 go_wp2_with fail
 go_loopw [4, 5] (fun s i wr => ∃ (k : Nat) (q : ByteArray), k ≤ ks.length ∧ i = .int .i64 k ∧ s = .string q ∧ Hid (q.data.toList = b.data.toList ++ encs (ks.take k)) ∧ q.size ≤ 10000 + 4010 * k ∧ Blk wr w.heap.size 57 #[.int .u8 t, .string b, .slice A ks.length c] ∧ Below w.heap.size w wr) (fun s i wr => ks.length - (intOf i).toNat)
 case atStart => exact ⟨0, b, Nat.zero_le _, rfl, rfl, by show _ = _; simp [encs], by omega, Blk.new w _ _, (Below.refl _ _).alloc (Nat.le_refl _) _⟩
 case round =>
  obtain ⟨k, q, hk, rfl, rfl, hE, hq, B, hb⟩ := hrel
  have c0 : wr.cell? ⟨w.heap.size, 0, none⟩ = some (.int .u8 t) := B.cell 0
  have c2 : wr.cell? ⟨w.heap.size, 2, none⟩ = some (.slice A ks.length c) := B.cell 2
  have hs := hb.size
  by_cases hlt : k < ks.length
  ·obtain ⟨ad, t', b', A', n', c', rfl, hp, f0, f1, f2, hL⟩ := hK.kid5 hb hlt
   have hD := Lib.hid (encs_take hlt)
   have H := Ih.out _ (List.getElem_mem hlt) K L d _ _ _ _ (HF.out k hlt) hK1 hL1 hL
   by_cases hbk : bodyLen ks[k] ≤ 4000
   ·rw [rbV_ok hbk] at H
    obtain ⟨p, hp2⟩ : ∃ p : ByteArray, p = ⟨(enc ks[k]).toArray⟩ := ⟨_, rfl⟩
    have hpl : p.size ≤ 4004 := by
     have h1 := enc_len ks[k]
     have h2 := more_le (bodyLen ks[k])
     rw [hp2]
     show (enc ks[k]).toArray.size ≤ 4004
     simp; omega
    have Hp := Lib.hid (show p.data.toList = enc ks[k] by rw [hp2])
    rw [← hp2] at H
    clear hp2
    go_wp2_with fail
    refine H.mono ?_
    rintro e w1 ⟨rfl, hb1⟩
    clear H
    have hb2 := hb.trans (hb1.mono hs)
    have B2 := B.past hb1
    go_wp2_with fail
    go_roundw
    case rel =>
     refine ⟨k + 1, q ++ p, by omega, by go_num, rfl, ?_, ?_, B2, hb2⟩
     ·show _ = _
      rw [ByteArray.data_append, Array.toList_append, hE.out, Hp.out, hD.out, List.append_assoc]
     ·rw [ByteArray.size_append]; omega
    case measure => simp [intOf]; omega
   ·have hbig := body_kid (t := t) (b := b) hlt
    rw [rbV_bad (by omega)] at H
    have HR := Lib.hid (rbV_bad (e := .mk t b ks) (by omega))
    go_wp2_with fail
    refine H.mono ?_
    rintro e w1 ⟨rfl, hb1⟩
    clear H
    have hb2 := hb.trans (hb1.mono hs)
    go_wp2_with fail
    go_ret2
    rw [HR.out]
    exact ⟨rfl, hb2⟩
  ·have hk2 : k = ks.length := by omega
   have h2 := hE.out
   rw [hk2, List.take_length] at h2
   have hqs : q.size = bodyLen (.mk t b ks) := by
    rw [size_list q _ h2, List.length_append, bodyLen]; rfl
   have H2 := Lib.hid h2
   clear h2
   by_cases hbk : bodyLen (.mk t b ks) ≤ 4000
   ·have HR := Lib.hid (rbV_ok hbk)
    have hq4 : (q.size : Int) ≤ 4000 := by omega
    have HL := Lib.hid (fun w => rlen_any q.size w (by omega) hq4)
    have C1 := fun w g => conv_one w g t
    have hp1 : (strOfNums [t]).size ≤ 1 := Nat.le_of_eq (strOfNums_size _)
    have hp2 : (⟨(lenB (q.size : Int).toNat).toArray⟩ : ByteArray).size ≤ 3 := lenB_le _
    have hfin : (strOfNums [t] ++ ⟨(lenB (q.size : Int).toNat).toArray⟩ ++ q : ByteArray) = ⟨(enc (.mk t b ks)).toArray⟩ := by
     apply ByteArray.ext
     apply Array.toList_inj.1
     have e1 : (q.size : Int).toNat = bodyLen (.mk t b ks) := by omega
     rw [ByteArray.data_append, Array.toList_append, ByteArray.data_append, Array.toList_append, strOfNums_data, H2.out, e1]
     rw [enc, encHead_lenB]
     rfl
    rw [← hfin] at HR
    clear hfin
    generalize strOfNums [t] = p1 at C1 hp1 HR
    generalize (⟨(lenB (q.size : Int).toNat).toArray⟩ : ByteArray) = p2 at HL hp2 HR
    have C1 := Lib.hid C1
    clear hqs hbk
    go_wp2_with fail
    have N0 : Blk (wr.alloc (.cells #[.int .u8 t] 5)).drew wr.heap.size 5 #[.int .u8 t] := Blk.new wr 5 #[.int .u8 t]
    have E1 := C1.out _ _ N0
    go_region_with (first | (go_at_call 59; refine (HL.out (wr.alloc (.cells #[.int .u8 t] 5)).drew).mono ?_; rintro e w1 ⟨rfl, hbX⟩; have E3 := C1.out _ _ (N0.past hbX)) | (go_at_call 59; refine (HL.out wr.drew).mono ?_; rintro e w1 ⟨rfl, hbX⟩; have c0X : w1.cell? ⟨w.heap.size, 0, none⟩ = some (.int .u8 t) := (B.drew.past hbX).cell 0; have E2 := C1.out _ _ (Blk.new w1 5 #[.int .u8 t])))
    all_goals (go_wp2_with fail; go_ret2; rw [HR.out])
    all_goals first
     | exact ⟨rfl, hb.trans (Below.mono (B := wr.heap.size) ((((Below.refl wr.heap.size wr).alloc (Nat.le_refl _) _).drew).trans (hbX.mono (by simp))) hs)⟩
     | exact ⟨rfl, hb.trans (Below.mono (B := wr.heap.size) (((Below.refl wr.heap.size wr).drew.trans hbX).alloc hbX.size _) hs)⟩
   ·have HR := Lib.hid (rbV_bad (e := .mk t b ks) (by omega))
    have hq4 : 4000 < (q.size : Int) := by omega
    clear hqs hbk
    go_wp2_with fail
    go_ret2
    rw [HR.out]
    exact ⟨rfl, hb⟩
end Go.Proofs.YtconghaebebncaaGreatDoor.Be
namespace Go.Proofs.YtconghaebebncaaGreatDoor.Be
open Go.RowKit
set_option linter.unusedVariables false
set_option maxRecDepth 100000
theorem deps_take {l : List El} {i : Nat} (h : i < l.length) : deps (l.take (i + 1)) = max (deps (l.take i)) (dep l[i]) := by
 have key : ∀ (a b : List El), deps (a ++ b) = max (deps a) (deps b) := by
  intro a b
  induction a with
  | nil => simp [deps]
  | cons x a ih => simp only [deps, List.cons_append, ih]; omega
 rw [List.take_succ_eq_append_getElem h, key]
 simp [deps]
def SaidRDeep (e : El) : Prop := ∀ (K L d : Nat) (x y z : Value) (w : World), fitS K L d e = true → d ≤ 10000 → Lies w (· < w.heap.size) e [x, y, z] →
  Calls Tryz.prog 26 #[.agg #[x, y, z]] w fun r w' => r = .returned (.int .i64 (dep e : Nat)) ∧ Below w.heap.size w w'
theorem dep_fit {K L : Nat} : ∀ {d : Nat} {e : El}, fitS K L d e = true → dep e ≤ d
 | 0, e, h => (fitS_zero h).elim
 | d + 1, .mk t b ks, h => by
  obtain ⟨_, _, hk⟩ := fitS_open h
  have key : ∀ l : List El, (∀ k ∈ l, dep k ≤ d) → deps l ≤ d := by
   intro l
   induction l with
   | nil => intro _; simp [deps]
   | cons k l ihl =>
    intro hl
    have h1 := hl k (by simp)
    have h2 := ihl (fun x hx => hl x (by simp [hx]))
    rw [deps]; omega
  have := key ks (fun k hkm => by
   obtain ⟨i, hi, rfl⟩ := List.getElem_of_mem hkm
   exact dep_fit (hk i hi))
  rw [dep]; omega
set_option maxHeartbeats 1000000 in
theorem rdeep_any (e : El) : SaidRDeep e := by
 refine El.ind ?_ e
 intro t b ks ih K L d x y z w hF hd hL
 obtain ⟨A, c, ds, hcs, ht, hb, hl, hK⟩ := hL.open_
 simp only [List.cons.injEq, and_true] at hcs
 obtain ⟨rfl, rfl, rfl⟩ := hcs
 unfold maxLen at hl
 obtain ⟨d, rfl⟩ : ∃ d', d = d' + 1 := by
  cases d with
  | zero => exact (fitS_zero hF).elim
  | succ d => exact ⟨d, rfl⟩
 have hD := dep_fit hF
 obtain ⟨_, _, hkF⟩ := fitS_open hF
 have hdp : ∀ i (hi : i < ks.length), dep ks[i] ≤ d := fun i hi => dep_fit (hkF i hi)
 have hdt : ∀ i, deps (ks.take i) ≤ d := by
  intro i
  have key : ∀ l : List El, (∀ k ∈ l, dep k ≤ d) → deps l ≤ d := by
   intro l
   induction l with
   | nil => intro _; simp [deps]
   | cons k l ihl =>
    intro hl
    have h1 := hl k (by simp)
    have h2 := ihl (fun x hx => hl x (by simp [hx]))
    rw [deps]; omega
  refine key _ (fun k hk => ?_)
  obtain ⟨j, hj, rfl⟩ := List.getElem_of_mem (List.mem_of_mem_take hk)
  exact hdp j hj
 have Ih := Lib.hid ih
 have HF := Lib.hid hkF
 have HP := Lib.hid hdp
 have HT := Lib.hid hdt
 clear ih hL hD hkF hdp hdt hF
 go_enter Tryz.func26, Tryz.ntmps26
 go_wp2_with fail
 go_loopw [3, 4] (fun n i wr => ∃ (k m : Nat), k ≤ ks.length ∧ i = .int .i64 k ∧ n = .int .i64 m ∧ Hid (m = deps (ks.take k)) ∧ Blk wr w.heap.size 57 #[.int .u8 t, .string b, .slice A ks.length c] ∧ Below w.heap.size w wr) (fun n i wr => ks.length - (intOf i).toNat)
 case atStart => exact ⟨0, 0, Nat.zero_le _, rfl, rfl, rfl, Blk.new w _ _, (Below.refl _ _).alloc (Nat.le_refl _) _⟩
 case round =>
  obtain ⟨k, m, hk, rfl, rfl, hE, B, hb⟩ := hrel
  have c2 : wr.cell? ⟨w.heap.size, 2, none⟩ = some (.slice A ks.length c) := B.cell 2
  have hm : m ≤ d := by rw [hE.out]; exact HT.out k
  by_cases hlt : k < ks.length
  ·obtain ⟨ad, t', b', A', n', c', rfl, hp, f0, f1, f2, hL⟩ := hK.kid5 hb hlt
   have hs := hb.size
   have hD := Lib.hid (deps_take hlt)
   have hq := HP.out k hlt
   have H := Ih.out _ (List.getElem_mem hlt) K L d _ _ _ _ (HF.out k hlt) (by omega) hL
   obtain ⟨q, hqe⟩ : ∃ q, q = dep ks[k] := ⟨_, rfl⟩
   rw [← hqe] at H hq
   have Hq := Lib.hid hqe
   clear hqe
   go_wp2_with fail
   refine H.mono ?_
   rintro e w1 ⟨rfl, hb1⟩
   clear H
   have hb2 := hb.trans (hb1.mono hs)
   have B2 := B.past hb1
   go_wp2_with fail
   go_roundw
   case rel =>
    refine ⟨k + 1, max m q, by omega, by go_num, ?_, ?_, B2, hb2⟩
    ·congr 1; omega
    ·show _ = _
     rw [hD.out, ← hE.out, ← Hq.out]
   case measure => simp [intOf]; omega
  ·go_wp2_with fail
   go_ret
   refine ⟨?_, hb⟩
   have : k = ks.length := by omega
   have h2 := hE.out
   rw [this, List.take_length] at h2
   rw [dep, h2]
   go_num
end Go.Proofs.YtconghaebebncaaGreatDoor.Be
