import Derived.Test.YtconghaebebncaaGreatDoorZR13
import Derived.Deep.LoopGhost
import Derived.Laws.Externs
import Derived.Lib.AppendStr
import Derived.Lib.Builder
import Derived.Test.YtconghaebebncaaGreatDoorZR2
set_option linter.unusedVariables false
set_option maxRecDepth 100000
namespace Go.Proofs.YtconghaebebncaaGreatDoor.Be
open Go.RowKit
theorem conv_own (w : World) (base : Nat) (v : Value) (n : Nat) (xs : List Int) (h : w.ownsRow base 5 1 v n (xs.map (Value.int .u8))) (hn : n = xs.length) :
  (convert 40 9 v).run Tryz.prog w = .ok (.string (strOfNums xs)) w:=by
 subst hn
 rcases h.2 with ⟨rfl, h0⟩ | ⟨g, cap, cur, rfl, hg, hh, hc, hm, hs, ht⟩
 ·have : xs = []:=List.eq_nil_of_length_eq_zero h0
  subst this
  exact run_convert_bytes_nil (P:=Tryz.prog) w 40 5 Tryz.underlying40 Tryz.underlying5 0 0 9 Tryz.underlying9
 ·refine run_convert_bytes_arg (P:=Tryz.prog) w 40 5 Tryz.underlying40 Tryz.underlying5 g 0 xs.length cap xs rfl (fun i hi=>?_) 9 Tryz.underlying9
  rw [Nat.zero_add, cell_of_row w g i cur _ _ hh]
  have h1 : (cur.toList.take (xs.length * 1))[i]? = some (.int .u8 (xs.getD i 0)):=by
   rw [ht, List.getElem?_map, List.getElem?_eq_getElem hi]
   simp [List.getD, List.getElem?_eq_getElem hi]
  rw [List.getElem?_take_of_lt (by omega)] at h1
  simpa using h1
theorem own_lit (w : World) (xs : List Int) (h : xs.length ≤ 1000) : (w.alloc (.cells (xs.map (Value.int .u8)).toArray 5)).ownsRow w.heap.size 5 1 (.slice (some ⟨w.heap.size, 0, none⟩) xs.length xs.length) xs.length (xs.map (Value.int .u8)) :=
 ⟨by simp, Or.inr ⟨w.heap.size, xs.length, (xs.map (Value.int .u8)).toArray, rfl, Nat.le_refl _, heap_alloc_new w _, Nat.le_refl _, by unfold maxLen; omega, by simp, List.take_of_length_le (by simp)⟩⟩
theorem conv_lit (w : World) (xs : List Int) (h : xs.length ≤ 1000) : (convert 40 9 (.slice (some ⟨w.heap.size, 0, none⟩) xs.length xs.length)).run Tryz.prog (w.alloc (.cells (xs.map (Value.int .u8)).toArray 5)) =
  .ok (.string (strOfNums xs)) (w.alloc (.cells (xs.map (Value.int .u8)).toArray 5)):=conv_own _ _ _ _ _ (own_lit w xs h) rfl
theorem size_list (b : ByteArray) (l : List UInt8) (h : b.data.toList = l) : b.size = l.length:=by rw [← h]; rfl
theorem isCons_eq (t : Nat) (h : t ≤ 255) : (bits .and .u8 (t : Int) 32 != 0) = decide (t / 32 % 2 = 1):=by
 have h1 : bits .and .u8 (t : Int) 32 = ((t &&& 32 : Nat) : Int):=u8_and_nat t 32 (by omega) (by omega)
 have h2 : t &&& 32 = t / 32 % 2 * 32:=nat_bit 5 t
 rw [h1, h2, Bool.eq_iff_iff]
 simp
 omega
theorem and32_eq0 (t : Nat) (h : t ≤ 255) (h0 : t / 32 % 2 = 0) : (bits .and .u8 (t : Int) 32 == 0) = true:=by
 have:=isCons_eq t h
 rw [h0] at this
 simpa using this
theorem and32_ne0 (t : Nat) (h : t ≤ 255) (h0 : t / 32 % 2 = 1) : (bits .and .u8 (t : Int) 32 == 0) = false:=by
 have:=isCons_eq t h
 rw [h0] at this
 simpa using this
def errV (e : El) : Nat:=if formed e = false then 14 else if 20 < dep e then 12 else if 4000 < bodyLen e then 13 else 0
theorem wr_err (e : El) : (wr e).2 = errV e:=by
 unfold wr errV
 split
 ·rfl
 ·split
  ·rfl
  ·split <;> rfl
theorem wr_bytes (e : El) : (wr e).1 = if errV e = 0 then enc e else []:=by
 unfold wr errV
 split
 ·simp
 ·split
  ·simp
  ·split <;> simp
def wrV (e : El) : Value:=.tuple #[.string ⟨(wr e).1.toArray⟩, .int .i64 (wr e).2]
theorem own_past {w w' : World} {base : Nat} {e : TypeId} {size : Nat} {v : Value} {n : Nat} {xs : List Value} (h : w.ownsRow base e size v n xs) (hb : Below w.heap.size w w') : w'.ownsRow base e size v n xs:=by
 obtain ⟨h1, h2⟩:=h
 refine ⟨h1, ?_⟩
 rcases h2 with h2 | ⟨g, cap, cur, hv, hg, hh, r⟩
 ·exact Or.inl h2
 ·have hlt : g < w.heap.size:=by
   rcases Nat.lt_or_ge g w.heap.size with h' | h'
   ·exact h'
   ·simp [Array.getElem?_eq_none h'] at hh
  exact Or.inr ⟨g, cap, cur, hv, hg, (hb.block g hlt).trans hh, r⟩
theorem Lies.head {w : World} {P : Nat → Prop} {e : El} {t : Nat} {b : ByteArray} {z : Value} (h : Lies w P e [.int .u8 t, .string b, z]) : t ≤ 255 ∧ b.size ≤ maxLen:=by
 obtain ⟨t', b', ks⟩:=e
 obtain ⟨A, c, ds, hcs, ht, hb, _, _⟩:=h.open_
 simp only [List.cons.injEq, Value.int.injEq, Value.string.injEq, true_and] at hcs
 obtain ⟨h1, h2, _⟩:=hcs
 have : t = t':=by omega
 subst this h2
 exact ⟨ht, hb⟩
end Go.Proofs.YtconghaebebncaaGreatDoor.Be
namespace Go.Proofs.YtconghaebebncaaGreatDoor.Be
open Go.RowKit
theorem bSize : (Tryz.prog.info? 144).map (·.size) = some 2:=by kernel_rfl
theorem bByte : (Tryz.prog.info? 5).map (fun i=>(i.zero, i.size, i.bytes)) = some (some (.int .u8 0), 1, 1):=by kernel_rfl
theorem bLies : liesAt Tryz.prog Tryz.prog.depth 144 (2 / Tryz.prog.cellsOf 144) 0 144 1 = true:=by kernel_rfl
set_option maxHeartbeats 1000000 in
theorem check_used (b : Nat) (w : World) (h0 : w.cell? ⟨b, 0, none⟩ = some (.pointer (some ⟨b, 0, none⟩))) :
  Calls Tryz.prog 143 #[.pointer (some ⟨b, 0, none⟩)] w fun e w'=>e = .returned (.tuple #[]) ∧ w' = w:=by
 obtain ⟨j, hj, _⟩:=Option.map_eq_some_iff.1 bSize
 go_enter Tryz.func143, Tryz.ntmps143
 go_wp2
 rw [Lib.run_neq_ptr_same w _ Tryz.underlying142 hj]
 go_wp2
 go_end0
 exact ⟨rfl, rfl⟩
set_option maxHeartbeats 1000000 in
theorem check_fresh (b : Nat) (w : World) (h0 : w.cell? ⟨b, 0, none⟩ = some (.pointer none)) (hsh : w.shape? b = some (144, 2)) (hfz : w.frozen? ⟨b, 0, none⟩ = false) :
  Calls Tryz.prog 143 #[.pointer (some ⟨b, 0, none⟩)] w fun e w'=>e = .returned (.tuple #[]) ∧ w' = w.setCell ⟨b, 0, none⟩ (.pointer (some ⟨b, 0, none⟩)):=by
 obtain ⟨j, hj, hjs⟩:=Option.map_eq_some_iff.1 bSize
 go_enter Tryz.func143, Tryz.ntmps143
 go_wp2
 rw [Lib.run_to_unsafe w ⟨b, 0, none⟩ Tryz.underlying142 Tryz.underlying110 hj (by rw [hjs]; decide) hsh (Nat.zero_lt_succ 1)]
 simp only [Result.andThen]
 rw [Oper.upon_value]
 go_wp2
 rw [run_callFunc_extern Tryz.func154 (by kernel_rfl) (by kernel_rfl) (by kernel_rfl) (e:=Extern.AbiNoEscape.same) (by kernel_rfl)]
 rw [Lib.run_noEscape]
 simp only [Result.andThen]
 rw [Oper.upon_value]
 go_wp2
 rw [Lib.run_from_unsafe w ⟨b, 0, none⟩ Tryz.underlying110 Tryz.underlying142 hj hsh bLies]
 simp only [Result.andThen]
 rw [Oper.upon_value]
 go_wp2
 go_end0
 exact ⟨rfl, rfl⟩
def Bld (B b : Nat) (l : List UInt8) (w : World) : Prop:=Lib.IsBuilder 144 5 B b (Lib.byteCells l) w
theorem check_any (B b : Nat) (l : List UInt8) (w : World) (h : Bld B b l w) :
  Calls Tryz.prog 143 #[.pointer (some ⟨b, 0, none⟩)] w fun e w'=>e = .returned (.tuple #[]) ∧
   (Lib.BuilderAt 144 5 B b (.pointer (some ⟨b, 0, none⟩)) (Lib.byteCells l) w' ∧ Below B w w'):=by
 rcases h with h | h
 ·refine (check_fresh b w h.cell0 h.shape h.frozen0).mono ?_
  rintro e w' ⟨rfl, rfl⟩
  exact ⟨rfl, h.used _, (Below.refl B w).setCell (p:=⟨b, 0, none⟩) h.1 _⟩
 ·refine (check_used b w h.cell0).mono ?_
  rintro e w' ⟨rfl, rfl⟩
  exact ⟨rfl, h, Below.refl B _⟩
set_option maxHeartbeats 2000000 in
theorem bwrite_any (B b : Nat) (l : List UInt8) (s : ByteArray) (w : World) (h : Bld B b l w) (hlen : l.length + s.size ≤ 140737488355328) (hBw : B ≤ w.heap.size) :
  Calls Tryz.prog 111 #[.pointer (some ⟨b, 0, none⟩), .string s] w fun e w'=>e = .returned (.tuple #[.int .i64 s.size, .nilIface]) ∧ (Bld B b (l ++ s.data.toList) w' ∧ Below B w w'):=by
 obtain ⟨i0, hi, hz0, hz1, hz2⟩:=info_parts bByte
 go_enter Tryz.func111, Tryz.ntmps111
 go_wp2_with (go_at_call 143; refine (check_any B b l _ h).mono ?_)
 rintro e w1 ⟨rfl, h1, hb1⟩
 obtain ⟨hB, v, hbk, hown, hne⟩:=h1
 have c0 : w1.cell? ⟨b, 0, none⟩ = some (.pointer (some ⟨b, 0, none⟩)):=by rw [Lib.cell_of_heap hbk]; rfl
 have c1 : w1.cell? ⟨b, 1, none⟩ = some v:=by rw [Lib.cell_of_heap hbk]; rfl
 go_wp2_with (at_builtin; refine Lib.wpList_append_own_string _ rfl _ _ 40 9 rfl B 5 i0 Tryz.underlying40 Tryz.underlying9 hi hz0 hz1 hz2 _ _ _ rfl hown s rfl ?c3 ?c4 ?c5 ?_)
 case c3=>rw [Lib.byteCells_length]; unfold maxLen; omega
 case c4=>rw [Lib.byteCells_length]; omega
 case c5=>have:=hb1.size; omega
 intro v' w2 hown' hgrow _
 have hlt : b < w1.heap.size:=by
  rcases Nat.lt_or_ge b w1.heap.size with h' | h'
  ·exact h'
  ·simp [Array.getElem?_eq_none h'] at hbk
 have hb2 : w2.heap[b]? = some (.cells #[.pointer (some ⟨b, 0, none⟩), v] 144 (0, 0)):=by
  rw [hgrow.block b hlt (fun e=>hne e.symm)]
  exact hbk
 have d0 : w2.cell? ⟨b, 0, none⟩ = some (.pointer (some ⟨b, 0, none⟩)):=by rw [Lib.cell_of_heap hb2]; rfl
 have d1 : w2.cell? ⟨b, 1, none⟩ = some v:=by rw [Lib.cell_of_heap hb2]; rfl
 have f1 : w2.frozen? ⟨b, 1, none⟩ = false:=Lib.frozen_of_heap hb2 1
 obtain ⟨ao, n', cap, rfl⟩ : ∃ ao n' cap, v' = .slice ao n' cap:=by
  rcases hown'.2 with ⟨hv, _⟩ | ⟨g, cap, cur, hv, _⟩
  ·exact ⟨_, _, _, hv⟩
  ·exact ⟨_, _, _, hv⟩
 go_wp2
 go_ret2
 refine ⟨rfl, ?_, ?_⟩
 ·have hx : Lib.byteCells (l ++ s.data.toList) = Lib.byteCells l ++ Lib.strCells s:=by rw [Lib.byteCells_append, Lib.strCells_eq]
  show Lib.IsBuilder _ _ _ _ _ _
  rw [hx]
  exact Or.inr (Lib.BuilderAt.put (T:=144) (e:=5) hB hb2 (bs':=Lib.byteCells l ++ Lib.strCells s) (by simpa [Lib.strCells_length] using hown') (by decide))
 ·exact (hb1.grown hgrow (by have:=hb1.size; omega) (fun k hk=>(hown.lt k hk).1)).setCell (p:=⟨b, 1, none⟩) hB _
theorem one_new (w : World) (u : Value) (t : TypeId) (g : Nat) (hg : g = w.heap.size) : ∀ (j : Nat) (v : Value), [u][j]? = some v → (w.alloc (.cells #[u] t)).cell? ((⟨g, 0, none⟩ : Addr).add j) = some v:=by
 subst hg
 exact cell_one_new w u t
theorem Bld.past {B b : Nat} {l : List UInt8} {w w' : World} (h : Bld B b l w) (hb : Below w.heap.size w w') : Bld B b l w':=by
 have key : ∀ p, Lib.BuilderAt 144 5 B b p (Lib.byteCells l) w → Lib.BuilderAt 144 5 B b p (Lib.byteCells l) w':=by
  rintro p ⟨hB, v, hbk, hown, hne⟩
  have hlt : b < w.heap.size:=by
   rcases Nat.lt_or_ge b w.heap.size with h' | h'
   ·exact h'
   ·simp [Array.getElem?_eq_none h'] at hbk
  exact ⟨hB, v, (hb.block b hlt).trans hbk, own_past hown hb, hne⟩
 rcases h with h | h
 ·exact Or.inl (key _ h)
 ·exact Or.inr (key _ h)
theorem Bld.fresh (w : World) : Bld w.heap.size w.heap.size [] (w.alloc (.cells #[.pointer none, .slice none 0 0] 144)):=Lib.fresh_isBuilder _ _ w
theorem Bld.drew {B b : Nat} {l : List UInt8} {w : World} (h : Bld B b l w) : Bld B b l w.drew:=h
theorem Bld.alloc {B b : Nat} {l : List UInt8} {w : World} (h : Bld B b l w) (o : Obj) : Bld B b l (w.alloc o):=h.past ((Below.refl _ _).alloc (Nat.le_refl _) o)
theorem blen_any (B b : Nat) (l : List UInt8) (w : World) (h : Bld B b l w) :
  Calls Tryz.prog 113 #[.pointer (some ⟨b, 0, none⟩)] w fun e w'=>e = .returned (.int .i64 l.length) ∧ w = w':=by
 refine (Tryz.Builder_Len B b _ w h).mono ?_
 rintro e w' ⟨rfl, rfl⟩
 exact ⟨by rw [Lib.byteCells_length], rfl⟩
theorem bstring_any (B b : Nat) (l : List UInt8) (w : World) (h : Bld B b l w) (hBw : B ≤ w.heap.size) :
  Calls Tryz.prog 114 #[.pointer (some ⟨b, 0, none⟩)] w fun e w'=>e = .returned (.string ⟨l.toArray⟩) ∧ Below B w w':=Tryz.Builder_String_any B b l w h hBw
set_option maxHeartbeats 400000 in
theorem clone_any (s : ByteArray) (w : World) (h : s.size ≤ 281474976710656) :
  Calls Tryz.prog 125 #[.string s] w fun e w'=>e = .returned (.string s) ∧ Below w.heap.size w w':=by
 go_enter Tryz.func125, Tryz.ntmps125
 go_wp2_with (go_at_call 148; refine (Tryz.stringslite_Clone s _ h).mono ?_; rintro e w' ⟨rfl, hb⟩)
 go_ret
 exact ⟨rfl, by assumption⟩
end Go.Proofs.YtconghaebebncaaGreatDoor.Be
namespace Go.Proofs.YtconghaebebncaaGreatDoor.Be
open Go.RowKit
theorem num_snoc (l : List UInt8) (c : UInt8) : Sp.num (l ++ [c]) = 256 * Sp.num l + c.toNat:=by simp [Sp.num, List.foldl_append]
set_option maxHeartbeats 400000 in
theorem rhead_0 (s : ByteArray) (w : World) (h0 : s.size = 0) :
  Calls Tryz.prog 102 #[.string s] w fun e w'=>e = .returned (.tuple #[.int .i64 0, .int .i64 0, .int .i64 10]) ∧ Below w.heap.size w w':=by
 have h0 : ((s.size : Int) == 0) = true:=by simp [h0]
 go_enter Tryz.func102, Tryz.ntmps102
 go_wp2_with fail
 go_ret3
 exact ⟨rfl, Below.refl _ _⟩
set_option maxHeartbeats 400000 in
theorem rhead_1 (s : ByteArray) (w : World) (h0 : 0 < s.size) (ht : ((s[0].toNat : Int) % 32 == 31) = true) :
  Calls Tryz.prog 102 #[.string s] w fun e w'=>e = .returned (.tuple #[.int .i64 0, .int .i64 0, .int .i64 14]) ∧ Below w.heap.size w w':=by
 have h1 : ((s.size : Int) == 0) = false:=beq_eq_false_iff_ne.2 (by omega)
 have hb:=u8_lt s[0]
 go_enter Tryz.func102, Tryz.ntmps102
 go_wp2_with fail
 go_ret3
 exact ⟨rfl, Below.refl _ _⟩
set_option maxHeartbeats 400000 in
theorem rhead_2 (s : ByteArray) (w : World) (h0 : 0 < s.size) (ht : ((s[0].toNat : Int) % 32 == 31) = false) (hs : s.size = 1) :
  Calls Tryz.prog 102 #[.string s] w fun e w'=>e = .returned (.tuple #[.int .i64 0, .int .i64 0, .int .i64 10]) ∧ Below w.heap.size w w':=by
 have h1 : ((s.size : Int) == 0) = false:=beq_eq_false_iff_ne.2 (by omega)
 have h2 : ((s.size : Int) == 1) = true:=by simp [hs]
 have hb:=u8_lt s[0]
 clear hs
 go_enter Tryz.func102, Tryz.ntmps102
 go_wp2_with fail
 go_ret3
 exact ⟨rfl, Below.refl _ _⟩
set_option maxHeartbeats 400000 in
theorem rhead_3 (s : ByteArray) (w : World) (h0 : 1 < s.size) (h00 : 0 < s.size) (ht : ((s[0].toNat : Int) % 32 == 31) = false) (hb : (s[1].toNat : Int) < 128) :
  Calls Tryz.prog 102 #[.string s] w fun e w'=>e = .returned (.tuple #[.int .i64 2, .int .i64 s[1].toNat, .int .i64 0]) ∧ Below w.heap.size w w':=by
 have h1 : ((s.size : Int) == 0) = false:=beq_eq_false_iff_ne.2 (by omega)
 have h2 : ((s.size : Int) == 1) = false:=beq_eq_false_iff_ne.2 (by omega)
 have hb0:=u8_lt s[0]
 go_enter Tryz.func102, Tryz.ntmps102
 go_wp2_with fail
 go_region
 go_wp2_with fail
 go_ret3
 exact ⟨rfl, (Below.refl _ _).drew⟩
set_option maxHeartbeats 400000 in
theorem rhead_4 (s : ByteArray) (w : World) (h0 : 1 < s.size) (h00 : 0 < s.size) (ht : ((s[0].toNat : Int) % 32 == 31) = false) (hb1 : (128 : Int) ≤ s[1].toNat) (hb : (s[1].toNat : Int) - 128 < 1) :
  Calls Tryz.prog 102 #[.string s] w fun e w'=>e = .returned (.tuple #[.int .i64 0, .int .i64 0, .int .i64 11]) ∧ Below w.heap.size w w':=by
 have h1 : ((s.size : Int) == 0) = false:=beq_eq_false_iff_ne.2 (by omega)
 have h2 : ((s.size : Int) == 1) = false:=beq_eq_false_iff_ne.2 (by omega)
 have hb0:=u8_lt s[0]
 go_enter Tryz.func102, Tryz.ntmps102
 go_wp2_with fail
 go_ret3
 exact ⟨rfl, (Below.refl _ _)⟩
set_option maxHeartbeats 400000 in
theorem rhead_5 (s : ByteArray) (w : World) (h0 : 1 < s.size) (h00 : 0 < s.size) (ht : ((s[0].toNat : Int) % 32 == 31) = false) (hb1 : (128 : Int) ≤ s[1].toNat) (hb : 4 < (s[1].toNat : Int) - 128) :
  Calls Tryz.prog 102 #[.string s] w fun e w'=>e = .returned (.tuple #[.int .i64 0, .int .i64 0, .int .i64 11]) ∧ Below w.heap.size w w':=by
 have h1 : ((s.size : Int) == 0) = false:=beq_eq_false_iff_ne.2 (by omega)
 have h2 : ((s.size : Int) == 1) = false:=beq_eq_false_iff_ne.2 (by omega)
 have hb0:=u8_lt s[0]
 have hb2:=u8_lt s[1]
 go_enter Tryz.func102, Tryz.ntmps102
 go_wp2_with fail
 go_ret3
 exact ⟨rfl, (Below.refl _ _)⟩
set_option maxHeartbeats 400000 in
theorem rhead_6 (s : ByteArray) (w : World) (h : s.size ≤ 1099511627776) (h0 : 1 < s.size) (h00 : 0 < s.size) (ht : ((s[0].toNat : Int) % 32 == 31) = false) (hb1 : (128 : Int) < s[1].toNat) (hb : (s[1].toNat : Int) - 128 ≤ 4) (hs : (s.size : Int) < 2 + (s[1].toNat - 128)) :
  Calls Tryz.prog 102 #[.string s] w fun e w'=>e = .returned (.tuple #[.int .i64 0, .int .i64 0, .int .i64 10]) ∧ Below w.heap.size w w':=by
 have h1 : ((s.size : Int) == 0) = false:=beq_eq_false_iff_ne.2 (by omega)
 have h2 : ((s.size : Int) == 1) = false:=beq_eq_false_iff_ne.2 (by omega)
 have hb0:=u8_lt s[0]
 have hb2:=u8_lt s[1]
 go_enter Tryz.func102, Tryz.ntmps102
 go_wp2_with fail
 go_ret3
 exact ⟨rfl, (Below.refl _ _)⟩
def rh7 (m : Nat) (b : Int) : Value:=.tuple #[.int .i64 (if 4000 < m then 0 else 2 + b), .int .i64 (if 4000 < m then 0 else m), .int .i64 (if 4000 < m then 13 else 0)]
set_option maxHeartbeats 1000000 in
theorem rhead_7 (s : ByteArray) (w : World) (h : s.size ≤ 1099511627776) (h0 : 1 < s.size) (h00 : 0 < s.size) (ht : ((s[0].toNat : Int) % 32 == 31) = false) (hb1 : (128 : Int) < s[1].toNat) (hb : (s[1].toNat : Int) - 128 ≤ 4) (hs : 2 + ((s[1].toNat : Int) - 128) ≤ s.size)
  (m : Nat) (hm : m = Sp.num ((s.data.toList.drop 2).take (s[1].toNat - 128))) :
  Calls Tryz.prog 102 #[.string s] w fun e w'=>e = .returned (rh7 m ((s[1].toNat : Int) - 128)) ∧ Below w.heap.size w w':=by
 have h1 : ((s.size : Int) == 0) = false:=beq_eq_false_iff_ne.2 (by omega)
 have h2 : ((s.size : Int) == 1) = false:=beq_eq_false_iff_ne.2 (by omega)
 have hb0:=u8_lt s[0]
 have hb2:=u8_lt s[1]
 have Hm:=Lib.hid hm
 clear hm
 go_enter Tryz.func102, Tryz.ntmps102
 go_wp2_with fail
 go_loop [6, 7] (fun z i=>∃ (k : Nat) (v : Nat), (k : Int) ≤ (s[1].toNat : Int) - 128 ∧ i = .int .i64 k ∧ z = .int .i64 v ∧ v ≤ 4294967295 ∧ Hid (v = Sp.num ((s.data.toList.drop 2).take k))) (fun z i=>5 - (intOf i).toNat)
 case atStart=>exact ⟨0, 0, by omega, rfl, rfl, by omega, rfl⟩
 case round =>
  obtain ⟨k, v, hk, rfl, rfl, hv, hE⟩:=hrel
  by_cases hlt : (k : Int) < (s[1].toNat : Int) - 128
  ·have hk4 : k < 4:=by omega
   have hsk : 2 + k < s.size:=by omega
   have hbk:=u8_lt s[2 + k]
   have hv2 : v < 256 ^ k:=by
    rw [hE.out]
    refine Nat.lt_of_lt_of_le (num_lt _) (Nat.pow_le_pow_right (by omega) (List.length_take_le _ _))
   have hv3 : v ≤ 16777215:=by
    have : (256 : Nat) ^ k ≤ 256 ^ 3:=Nat.pow_le_pow_right (by omega) (by omega)
    have h3 : (256 : Nat) ^ 3 = 16777216:=by decide
    omega
   have hEn : Hid (256 * v + s[2 + k].toNat = Sp.num ((s.data.toList.drop 2).take (k + 1))):=by
    show _ = _
    have hl : k < (s.data.toList.drop 2).length:=by rw [List.length_drop]; show k < s.size - 2; omega
    rw [List.take_succ_eq_append_getElem hl, num_snoc, ← hE.out]
    congr 2
    rw [List.getElem_drop]
    rfl
   clear hv2
   go_wp2_with fail
   go_round
   case rel=>exact ⟨k + 1, 256 * v + s[2 + k].toNat, by omega, by go_num, by go_num, by omega, hEn⟩
   case measure=>simp [intOf]; omega
  ·have hke : k = s[1].toNat - 128:=by omega
   have hvm : v = m:=by rw [hE.out, Hm.out, hke]
   by_cases h4 : (4000 : Int) < v
   ·have hr:=Lib.hid (show (4000 < m) from by omega)
    have Hke:=Lib.hid hke
    clear hke hvm
    go_wp2_with fail
    go_ret3
    unfold rh7
    rw [if_pos hr.out, if_pos hr.out, if_pos hr.out]
    exact ⟨rfl, Below.refl _ _⟩
   ·have hr:=Lib.hid (show ¬ (4000 < m) from by omega)
    have Hvm:=Lib.hid hvm
    have Hke:=Lib.hid hke
    clear hke hvm
    go_wp2_with fail
    go_ret3
    unfold rh7
    rw [if_neg hr.out, if_neg hr.out, if_neg hr.out, ← Hvm.out]
    exact ⟨rfl, Below.refl _ _⟩
theorem beq31 (t : UInt8) : (((t.toNat : Int) % 32) == 31) = decide (t.toNat % 32 = 31):=by
 rw [Bool.eq_iff_iff]; simp; omega
theorem rHead_any (s : ByteArray) (w : World) (h : s.size ≤ 1099511627776) :
  Calls Tryz.prog 102 #[.string s] w fun e w'=>e = .returned (hdV s.data.toList) ∧ Below w.heap.size w w':=by
 have hsz : s.data.toList.length = s.size:=rfl
 cases hl : s.data.toList with
 | nil =>
  rw [hl] at hsz
  exact (rhead_0 s w hsz.symm).mono fun e w' ⟨he, hb⟩=>⟨he.trans (ret_hd (a:=0) (b:=0) (c:=10) rfl rfl rfl rfl), hb⟩
 | cons t r =>
  rw [hl] at hsz
  simp only [List.length_cons] at hsz
  have h00 : 0 < s.size:=by omega
  have e0 : s[0] = t:=get_of s _ hl 0 h00 t rfl
  by_cases ht : t.toNat % 32 = 31
  ·exact (rhead_1 s w h00 (by rw [e0, beq31]; simp [ht])).mono fun e w' ⟨he, hb⟩=>⟨he.trans (ret_hd (a:=0) (b:=0) (c:=14) (by simp [Sp.hd, ht]) rfl rfl rfl), hb⟩
  have ht' : ((s[0].toNat : Int) % 32 == 31) = false:=by rw [e0, beq31]; simp [ht]
  cases r with
  | nil=>exact (rhead_2 s w h00 ht' (by simp at hsz; omega)).mono fun e w' ⟨he, hb⟩=>⟨he.trans (ret_hd (a:=0) (b:=0) (c:=10) (by simp [Sp.hd, ht]) rfl rfl rfl), hb⟩
  | cons b r =>
   simp only [List.length_cons] at hsz
   have h0 : 1 < s.size:=by omega
   have e1 : s[1] = b:=get_of s _ hl 1 h0 b rfl
   have hb:=u8_lt b
   by_cases c1 : b.toNat < 128
   ·exact (rhead_3 s w h0 h00 ht' (by rw [e1]; omega)).mono fun e w' ⟨he, hb⟩=>⟨he.trans (ret_hd (a:=2) (b:=b.toNat) (c:=0) (by simp [Sp.hd, ht, c1]) rfl (by rw [e1]) rfl), hb⟩
   by_cases c2 : b.toNat = 128
   ·exact (rhead_4 s w h0 h00 ht' (by rw [e1]; omega) (by rw [e1]; omega)).mono fun e w' ⟨he, hb⟩=>⟨he.trans (ret_hd (a:=0) (b:=0) (c:=11) (by simp [Sp.hd, ht, c2]) rfl rfl rfl), hb⟩
   by_cases c3 : 132 < b.toNat
   ·exact (rhead_5 s w h0 h00 ht' (by rw [e1]; omega) (by rw [e1]; omega)).mono fun e w' ⟨he, hb⟩=>⟨he.trans (ret_hd (a:=0) (b:=0) (c:=11) (by simp [Sp.hd, ht, c1, c3]) rfl rfl rfl), hb⟩
   by_cases c4 : r.length < b.toNat - 128
   ·exact (rhead_6 s w h h0 h00 ht' (by rw [e1]; omega) (by rw [e1]; omega) (by rw [e1]; omega)).mono fun e w' ⟨he, hb⟩ =>
     ⟨he.trans (ret_hd (a:=0) (b:=0) (c:=10) (by simp [Sp.hd, ht, c1, c2, c3, c4]) rfl rfl rfl), hb⟩
   have hx : (s.data.toList.drop 2).take (s[1].toNat - 128) = r.take (b.toNat - 128):=by rw [hl, e1]; rfl
   refine (rhead_7 s w h h0 h00 ht' (by rw [e1]; omega) (by rw [e1]; omega) (by rw [e1]; omega) _ rfl).mono fun e w' ⟨he, hb⟩=>⟨he.trans ?_, hb⟩
   unfold rh7
   rw [hx]
   by_cases c5 : 4000 < Sp.num (r.take (b.toNat - 128))
   ·simp only [if_pos c5]
    exact ret_hd (a:=0) (b:=0) (c:=13) (by simp [Sp.hd, ht, c1, c2, c3, c4, c5]) rfl rfl rfl
   ·simp only [if_neg c5]
    exact ret_hd (a:=2 + (b.toNat - 128)) (b:=Sp.num (r.take (b.toNat - 128))) (c:=0) (by simp [Sp.hd, ht, c1, c2, c3, c4, c5]) (by rw [e1]; omega) rfl rfl
end Go.Proofs.YtconghaebebncaaGreatDoor.Be
namespace Go.Proofs.YtconghaebebncaaGreatDoor.Be
open Go.RowKit
theorem deps_take {l : List El} {i : Nat} (h : i < l.length) : deps (l.take (i + 1)) = max (deps (l.take i)) (dep l[i]):=by
 have key : ∀ (a b : List El), deps (a ++ b) = max (deps a) (deps b):=by
  intro a b
  induction a with
  | nil=>simp [deps]
  | cons x a ih=>simp only [deps, List.cons_append, ih]; omega
 rw [List.take_succ_eq_append_getElem h, key]
 simp [deps]
def SaidRDeep (e : El) : Prop:=∀ (K L d : Nat) (x y z : Value) (w : World), fitS K L d e = true → d ≤ 10000 → Lies w (· < w.heap.size) e [x, y, z] →
  Calls Tryz.prog 26 #[.agg #[x, y, z]] w fun r w'=>r = .returned (.int .i64 (dep e : Nat)) ∧ Below w.heap.size w w'
theorem dep_fit {K L : Nat} : ∀ {d : Nat} {e : El}, fitS K L d e = true → dep e ≤ d
 | 0, e, h=>(fitS_zero h).elim
 | d + 1, .mk t b ks, h=>by
  obtain ⟨_, _, hk⟩:=fitS_open h
  have key : ∀ l : List El, (∀ k ∈ l, dep k ≤ d) → deps l ≤ d:=by
   intro l
   induction l with
   | nil=>intro _; simp [deps]
   | cons k l ihl =>
    intro hl
    have h1:=hl k (by simp)
    have h2:=ihl (fun x hx=>hl x (by simp [hx]))
    rw [deps]; omega
  have:=key ks (fun k hkm=>by
   obtain ⟨i, hi, rfl⟩:=List.getElem_of_mem hkm
   exact dep_fit (hk i hi))
  rw [dep]; omega
set_option maxHeartbeats 1000000 in
theorem rdeep_any (e : El) : SaidRDeep e:=by
 refine El.ind ?_ e
 intro t b ks ih K L d x y z w hF hd hL
 obtain ⟨A, c, ds, hcs, ht, hb, hl, hK⟩:=hL.open_
 simp only [List.cons.injEq, and_true] at hcs
 obtain ⟨rfl, rfl, rfl⟩:=hcs
 unfold maxLen at hl
 obtain ⟨d, rfl⟩ : ∃ d', d = d' + 1:=by
  cases d with
  | zero=>exact (fitS_zero hF).elim
  | succ d=>exact ⟨d, rfl⟩
 have hD:=dep_fit hF
 obtain ⟨_, _, hkF⟩:=fitS_open hF
 have hdp : ∀ i (hi : i < ks.length), dep ks[i] ≤ d:=fun i hi=>dep_fit (hkF i hi)
 have hdt : ∀ i, deps (ks.take i) ≤ d:=by
  intro i
  have key : ∀ l : List El, (∀ k ∈ l, dep k ≤ d) → deps l ≤ d:=by
   intro l
   induction l with
   | nil=>intro _; simp [deps]
   | cons k l ihl =>
    intro hl
    have h1:=hl k (by simp)
    have h2:=ihl (fun x hx=>hl x (by simp [hx]))
    rw [deps]; omega
  refine key _ (fun k hk=>?_)
  obtain ⟨j, hj, rfl⟩:=List.getElem_of_mem (List.mem_of_mem_take hk)
  exact hdp j hj
 have Ih:=Lib.hid ih
 have HF:=Lib.hid hkF
 have HP:=Lib.hid hdp
 have HT:=Lib.hid hdt
 clear ih hL hD hkF hdp hdt hF
 go_enter Tryz.func26, Tryz.ntmps26
 go_wp2_with fail
 go_loopw [3, 4] (fun n i wr=>∃ (k m : Nat), k ≤ ks.length ∧ i = .int .i64 k ∧ n = .int .i64 m ∧ Hid (m = deps (ks.take k)) ∧ Blk wr w.heap.size 57 #[.int .u8 t, .string b, .slice A ks.length c] ∧ Below w.heap.size w wr) (fun n i wr=>ks.length - (intOf i).toNat)
 case atStart=>exact ⟨0, 0, Nat.zero_le _, rfl, rfl, rfl, Blk.new w _ _, (Below.refl _ _).alloc (Nat.le_refl _) _⟩
 case round =>
  obtain ⟨k, m, hk, rfl, rfl, hE, B, hb⟩:=hrel
  have c2 : wr.cell? ⟨w.heap.size, 2, none⟩ = some (.slice A ks.length c):=B.cell 2
  have hm : m ≤ d:=by rw [hE.out]; exact HT.out k
  by_cases hlt : k < ks.length
  ·obtain ⟨ad, t', b', A', n', c', rfl, hp, f0, f1, f2, hL⟩:=hK.kid5 hb hlt
   have hs:=hb.size
   have hD:=Lib.hid (deps_take hlt)
   have hq:=HP.out k hlt
   have H:=Ih.out _ (List.getElem_mem hlt) K L d _ _ _ _ (HF.out k hlt) (by omega) hL
   obtain ⟨q, hqe⟩ : ∃ q, q = dep ks[k]:=⟨_, rfl⟩
   rw [← hqe] at H hq
   have Hq:=Lib.hid hqe
   clear hqe
   go_wp2_with fail
   refine H.mono ?_
   rintro e w1 ⟨rfl, hb1⟩
   clear H
   have hb2:=hb.trans (hb1.mono hs)
   have B2:=B.past hb1
   go_wp2_with fail
   go_roundw
   case rel =>
    refine ⟨k + 1, max m q, by omega, by go_num, ?_, ?_, B2, hb2⟩
    ·congr 1; omega
    ·show _ = _
     rw [hD.out, ← hE.out, ← Hq.out]
   case measure=>simp [intOf]; omega
  ·go_wp2_with fail
   go_ret
   refine ⟨?_, hb⟩
   have : k = ks.length:=by omega
   have h2:=hE.out
   rw [this, List.take_length] at h2
   rw [dep, h2]
   go_num
end Go.Proofs.YtconghaebebncaaGreatDoor.Be
