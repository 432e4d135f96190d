import Derived.Test.YtconghaebebncaaGreatDoorZR19
set_option linter.unusedVariables false
set_option maxRecDepth 100000
namespace Go.Proofs.YtconghaebebncaaGreatDoor.Be
open Go.RowKit
def slLen : Value → Nat
 | .slice _ n _=>n
 | _=>0
theorem stop_iff (n : Int) (m : Nat) (hm : 1 ≤ m) : (-128 ≤ n / 256 ^ (m - 1) ∧ n / 256 ^ (m - 1) < 128) ↔ few n ≤ m:=by
 rw [few_le n m hm]
 obtain ⟨k, rfl⟩ : ∃ k, m = k + 1:=⟨m - 1, by omega⟩
 have e : (2 : Int) ^ (8 * (k + 1) - 1) = 128 * 256 ^ k:=by
  rw [show 8 * (k + 1) - 1 = 7 + 8 * k by omega, Int.pow_add, Int.pow_mul]; rfl
 rw [e, Nat.add_sub_cancel]
 have hp : (0 : Int) < 256 ^ k:=Int.pow_pos (by omega)
 have h1:=Int.ediv_lt_iff_lt_mul hp (a:=n) (b:=128)
 have h2:=Int.le_ediv_iff_mul_le hp (a:=-128) (b:=n)
 rw [h1, h2]
 constructor
 ·intro h; omega
 ·intro h; omega
theorem pow_div (n : Int) (m : Nat) (hm : 1 ≤ m) : n / 256 ^ m = n / 256 ^ (m - 1) / 256:=by
 obtain ⟨k, rfl⟩ : ∃ k, m = k + 1:=⟨m - 1, by omega⟩
 rw [Nat.add_sub_cancel, Int.pow_succ, Int.ediv_ediv_of_nonneg (Int.le_of_lt (Int.pow_pos (by omega)))]
theorem tc_head (n : Int) (m : Nat) (hm : 1 ≤ m) : ((tc m n).map (Value.int .u8))[0]? = some (.int .u8 (n / 256 ^ (m - 1) % 256)):=by
 obtain ⟨k, rfl⟩ : ∃ k, m = k + 1:=⟨m - 1, by omega⟩
 simp [tc]
theorem cell_below {w : World} {p : Addr} {v : Value} (h : w.cell? p = some v) : p.block < w.heap.size:=by
 rcases Nat.lt_or_ge p.block w.heap.size with hlt | hge
 ·exact hlt
 ·simp [World.cell?, Array.getElem?_eq_none hge] at h
theorem own_cell {w : World} {base g n cap : Nat} {t : TypeId} {xs : List Value} (h : w.ownsRow base t 1 (.slice (some ⟨g, 0, none⟩) n cap) n xs) (j : Nat) (u : Value) (hj : xs[j]? = some u) : w.cell? ⟨g, j, none⟩ = some u:=by
 rcases h.2 with ⟨e, _⟩ | ⟨g', cap', cur, e, hg, hh, hc, hm, hs, ht⟩
 ·cases e
 ·injection e with e1 e2 e3
  injection e1 with e1
  injection e1 with e1
  subst e1
  rw [cell_of_row w g j cur _ _ hh]
  have h1 : (cur.toList.take (n * 1))[j]? = some u:=by rw [ht]; exact hj
  have hjl : j < n * 1:=by
   have:=(List.getElem?_eq_some_iff.1 h1).1
   simp at this; omega
  rw [List.getElem?_take_of_lt hjl] at h1
  simpa using h1
theorem own_new1 (w : World) (base : Nat) (hb : base ≤ w.heap.size) (x : Value) : (w.alloc (.cells #[x] 5)).ownsRow base 5 1 (.slice (some ⟨w.heap.size, 0, none⟩) 1 1) 1 [x] :=
 ⟨rfl, Or.inr ⟨w.heap.size, 1, #[x], rfl, hb, heap_alloc_new w _, Nat.le_refl _, by unfold maxLen; omega, rfl, rfl⟩⟩
theorem own_form {w : World} {base n : Nat} {t : TypeId} {v : Value} {xs : List Value} (h : w.ownsRow base t 1 v n xs) (hn : 1 ≤ n) : ∃ g cap, v = .slice (some ⟨g, 0, none⟩) n cap:=by
 rcases h.2 with ⟨e, e2⟩ | ⟨g', cap', cur, e, hg, hh, hc, hm, hs, ht⟩
 ·omega
 ·exact ⟨g', cap', e⟩
set_option maxHeartbeats 1000000 in
theorem RInt_any (n : Int) (w : World) (h0 : -9223372036854775808 ≤ n) (h1 : n ≤ 9223372036854775807) :
  Calls Tryz.prog 82 #[.int .i64 n] w fun e w'=>e = .returned (.string (strOfNums (intB n))) ∧ Below w.heap.size w w':=by
 obtain ⟨i0, hi, hz0, hz1, hz2⟩:=info_parts bByte
 have hf8:=few_8 n h0 h1
 have hf1:=few_pos n
 have own0:=own_new1 w w.heap.size (Nat.le_refl _) (.int .u8 (n % 256))
 go_enter Tryz.func82, Tryz.ntmps82
 go_wp2_with fail
 go_loopw [3, 4] (fun b x wr=>∃ (m g cap : Nat), b = .slice (some ⟨g, 0, none⟩) m cap ∧ x = .int .i64 (n / 256 ^ m) ∧ 1 ≤ m ∧ m ≤ few n ∧ wr.ownsRow w.heap.size 5 1 (.slice (some ⟨g, 0, none⟩) m cap) m ((tc m n).map (Value.int .u8)) ∧ Below w.heap.size w wr) (fun b x wr=>9 - slLen b)
 case atStart =>
  refine ⟨1, w.heap.size, 1, rfl, by simp, by omega, hf1, ?_, (Below.refl _ _).alloc (Nat.le_refl _) _⟩
  have : (tc 1 n).map (Value.int .u8) = [.int .u8 (n % 256)]:=by simp [tc]
  rw [this]; exact own0
 case round =>
  obtain ⟨m, g, cap, rfl, rfl, hm1, hmf, hown, hb⟩:=hrel
  have c0:=own_cell hown 0 _ (tc_head n m hm1)
  have hst:=stop_iff n m hm1
  have hpd:=pow_div n m hm1
  have hsrc : ∀ (j : Nat) (u : Value), ((tc m n).map (Value.int .u8))[j]? = some u → wr.cell? ((⟨g, 0, none⟩ : Addr).add j) = some u:=by
   intro j u hj
   have:=own_cell hown j u hj
   rw [← this]
   unfold Addr.add
   split
   ·rename_i h; subst h; rfl
   ·simp
  have hnx : Hid (tc (m + 1) n = (n / 256 ^ m % 256) :: tc m n):=rfl
  have Hown:=Lib.hid hown
  have Hsrc:=Lib.hid hsrc
  obtain ⟨x, hX⟩ : ∃ x, n / 256 ^ m = x:=⟨_, rfl⟩
  have HX:=Lib.hid hX
  rw [hX] at hpd hnx ⊢
  clear hX
  generalize n / 256 ^ (m - 1) = q at *
  clear hown hsrc own0
  rcases (show (0 ≤ q ∧ q < 128) ∨ (-128 ≤ q ∧ q < 0) ∨ (128 ≤ q ∧ q < 256) ∨ (-256 ≤ q ∧ q < -128) ∨ (q < -256 ∨ 256 ≤ q) by omega) with hq | hq | hq | hq | hq
  ·have hmm : m = few n:=by have:=hst.1 (by omega); omega
   have hx : (x == 0) = true:=by rw [beq_iff_eq]; omega
   have hc : q % 256 < 128:=by omega
   have hcv:=Lib.hid (conv_own wr _ _ _ _ Hown.out (by rw [tc_len]))
   have hr : Hid (intB n = tc m n):=by unfold intB; rw [← hmm]; rfl
   clear hst hmm
   go_wp2_with fail
   rw [hcv.out]
   simp only [Result.andThen]
   rw [Oper.upon_value]
   go_wp2_with fail
   go_ret
   rw [hr.out]
   exact ⟨rfl, hb⟩
  ·have hmm : m = few n:=by have:=hst.1 (by omega); omega
   have hx : (x == 0) = false:=by rw [beq_eq_false_iff_ne]; omega
   have hx1 : (x == -1) = true:=by rw [beq_iff_eq]; omega
   have hc : 128 ≤ q % 256:=by omega
   have hcv:=Lib.hid (conv_own wr _ _ _ _ Hown.out (by rw [tc_len]))
   have hr : Hid (intB n = tc m n):=by unfold intB; rw [← hmm]; rfl
   clear hst hmm
   go_wp2_with fail
   rw [hcv.out]
   simp only [Result.andThen]
   rw [Oper.upon_value]
   go_wp2_with fail
   go_ret
   rw [hr.out]
   exact ⟨rfl, hb⟩
  ·have hlt : m < few n:=by
    have h9 : ¬ few n ≤ m:=fun h=>by have:=hst.2 h; omega
    omega
   have hx : (x == 0) = true:=by rw [beq_iff_eq]; omega
   have hx1 : (x == -1) = false:=by rw [beq_eq_false_iff_ne]; omega
   have hc : decide (q % 256 < 128) = false:=by simp; omega
   have hs:=hb.size
   have hsrc : ∀ (j : Nat) (u : Value), ((tc m n).map (Value.int .u8))[j]? = some u → (wr.alloc (.cells #[.int .u8 (x % 256)] 5)).cell? ((⟨g, 0, none⟩ : Addr).add j) = some u:=by
    intro j u hj
    have h1:=Hsrc.out j u hj
    exact (((Below.refl wr.heap.size wr).alloc (Nat.le_refl _) _).cell (cell_below h1)).trans h1
   have Hsrc2:=Lib.hid hsrc
   clear hst hpd hsrc
   go_wp2_with (at_builtin; go_loud (refine wpList_append_own _ rfl _ _ 40 rfl w.heap.size 5 i0 (.int .u8 0) 1 1 Tryz.underlying40 hi hz0 hz1 hz2 rfl (by decide) (.slice (some ⟨wr.heap.size, 0, none⟩) 1 1) 1 [.int .u8 (x % 256)] rfl (own_new1 wr w.heap.size hs (.int .u8 (x % 256))) ⟨g, 0, none⟩ m cap ((tc m n).map (Value.int .u8)) rfl ?e1 Hsrc2.out ?a0 ?b0 ?c0 ?d0 ?_))
   case e1=>simp [tc_len]
   case a0=>intro u hu; obtain ⟨z, _, rfl⟩:=List.mem_map.1 hu; rfl
   case b0=>unfold maxLen; omega
   case c0=>omega
   case d0=>simp; omega
   intro v1 w2 hown1 hg1 _
   have hb2:=(hb.alloc hs (.cells #[.int .u8 (x % 256)] 5)).grown hg1 (by simp; omega) (fun k hk=>by simp [Value.ownBlock] at hk; omega)
   rw [Nat.add_comm 1 m] at hown1
   obtain ⟨g2, cap2, rfl⟩:=own_form hown1 (by omega)
   have hown2 : w2.ownsRow w.heap.size 5 1 (.slice (some ⟨g2, 0, none⟩) (m + 1) cap2) (m + 1) ((tc (m + 1) n).map (Value.int .u8)):=by
    rw [hnx.out]
    exact hown1
   have Hown2:=Lib.hid hown2
   clear hown1 hown2 hg1
   go_wp2_with fail
   go_roundw
   case rel=>exact ⟨m + 1, g2, cap2, rfl, by rw [pow_div n (m + 1) (by omega), Nat.add_sub_cancel, HX.out], by omega, by omega, Hown2.out, hb2⟩
   case measure=>simp [slLen]; omega
  ·have hlt : m < few n:=by
    have h9 : ¬ few n ≤ m:=fun h=>by have:=hst.2 h; omega
    omega
   have hx : (x == 0) = false:=by rw [beq_eq_false_iff_ne]; omega
   have hx1 : (x == -1) = true:=by rw [beq_iff_eq]; omega
   have hc : decide (128 ≤ q % 256) = false:=by simp; omega
   have hs:=hb.size
   have hsrc : ∀ (j : Nat) (u : Value), ((tc m n).map (Value.int .u8))[j]? = some u → (wr.alloc (.cells #[.int .u8 (x % 256)] 5)).cell? ((⟨g, 0, none⟩ : Addr).add j) = some u:=by
    intro j u hj
    have h1:=Hsrc.out j u hj
    exact (((Below.refl wr.heap.size wr).alloc (Nat.le_refl _) _).cell (cell_below h1)).trans h1
   have Hsrc2:=Lib.hid hsrc
   clear hst hpd hsrc
   go_wp2_with (at_builtin; go_loud (refine wpList_append_own _ rfl _ _ 40 rfl w.heap.size 5 i0 (.int .u8 0) 1 1 Tryz.underlying40 hi hz0 hz1 hz2 rfl (by decide) (.slice (some ⟨wr.heap.size, 0, none⟩) 1 1) 1 [.int .u8 (x % 256)] rfl (own_new1 wr w.heap.size hs (.int .u8 (x % 256))) ⟨g, 0, none⟩ m cap ((tc m n).map (Value.int .u8)) rfl ?e1 Hsrc2.out ?a0 ?b0 ?c0 ?d0 ?_))
   case e1=>simp [tc_len]
   case a0=>intro u hu; obtain ⟨z, _, rfl⟩:=List.mem_map.1 hu; rfl
   case b0=>unfold maxLen; omega
   case c0=>omega
   case d0=>simp; omega
   intro v1 w2 hown1 hg1 _
   have hb2:=(hb.alloc hs (.cells #[.int .u8 (x % 256)] 5)).grown hg1 (by simp; omega) (fun k hk=>by simp [Value.ownBlock] at hk; omega)
   rw [Nat.add_comm 1 m] at hown1
   obtain ⟨g2, cap2, rfl⟩:=own_form hown1 (by omega)
   have hown2 : w2.ownsRow w.heap.size 5 1 (.slice (some ⟨g2, 0, none⟩) (m + 1) cap2) (m + 1) ((tc (m + 1) n).map (Value.int .u8)):=by
    rw [hnx.out]
    exact hown1
   have Hown2:=Lib.hid hown2
   clear hown1 hown2 hg1
   go_wp2_with fail
   go_roundw
   case rel=>exact ⟨m + 1, g2, cap2, rfl, by rw [pow_div n (m + 1) (by omega), Nat.add_sub_cancel, HX.out], by omega, by omega, Hown2.out, hb2⟩
   case measure=>simp [slLen]; omega
  ·have hlt : m < few n:=by
    have h9 : ¬ few n ≤ m:=fun h=>by have:=hst.2 h; omega
    omega
   have hx : (x == 0) = false:=by rw [beq_eq_false_iff_ne]; omega
   have hx1 : (x == -1) = false:=by rw [beq_eq_false_iff_ne]; omega
   have hs:=hb.size
   have hsrc : ∀ (j : Nat) (u : Value), ((tc m n).map (Value.int .u8))[j]? = some u → (wr.alloc (.cells #[.int .u8 (x % 256)] 5)).cell? ((⟨g, 0, none⟩ : Addr).add j) = some u:=by
    intro j u hj
    have h1:=Hsrc.out j u hj
    exact (((Below.refl wr.heap.size wr).alloc (Nat.le_refl _) _).cell (cell_below h1)).trans h1
   have Hsrc2:=Lib.hid hsrc
   clear hst hpd hsrc
   go_wp2_with (at_builtin; go_loud (refine wpList_append_own _ rfl _ _ 40 rfl w.heap.size 5 i0 (.int .u8 0) 1 1 Tryz.underlying40 hi hz0 hz1 hz2 rfl (by decide) (.slice (some ⟨wr.heap.size, 0, none⟩) 1 1) 1 [.int .u8 (x % 256)] rfl (own_new1 wr w.heap.size hs (.int .u8 (x % 256))) ⟨g, 0, none⟩ m cap ((tc m n).map (Value.int .u8)) rfl ?e1 Hsrc2.out ?a0 ?b0 ?c0 ?d0 ?_))
   case e1=>simp [tc_len]
   case a0=>intro u hu; obtain ⟨z, _, rfl⟩:=List.mem_map.1 hu; rfl
   case b0=>unfold maxLen; omega
   case c0=>omega
   case d0=>simp; omega
   intro v1 w2 hown1 hg1 _
   have hb2:=(hb.alloc hs (.cells #[.int .u8 (x % 256)] 5)).grown hg1 (by simp; omega) (fun k hk=>by simp [Value.ownBlock] at hk; omega)
   rw [Nat.add_comm 1 m] at hown1
   obtain ⟨g2, cap2, rfl⟩:=own_form hown1 (by omega)
   have hown2 : w2.ownsRow w.heap.size 5 1 (.slice (some ⟨g2, 0, none⟩) (m + 1) cap2) (m + 1) ((tc (m + 1) n).map (Value.int .u8)):=by
    rw [hnx.out]
    exact hown1
   have Hown2:=Lib.hid hown2
   clear hown1 hown2 hg1
   go_wp2_with fail
   go_roundw
   case rel=>exact ⟨m + 1, g2, cap2, rfl, by rw [pow_div n (m + 1) (by omega), Nat.add_sub_cancel, HX.out], by omega, by omega, Hown2.out, hb2⟩
   case measure=>simp [slLen]; omega
end Go.Proofs.YtconghaebebncaaGreatDoor.Be
namespace Go.Proofs.YtconghaebebncaaGreatDoor.Be
open Go.RowKit
def boolB (b : Bool) : ByteArray:=if b then ⟨#[255]⟩ else ⟨#[0]⟩
set_option maxHeartbeats 400000 in
theorem Bool_any (b : Bool) (w : World) : Calls Tryz.prog 150 #[.bool b] w fun e w'=>e = .returned (.string (boolB b)) ∧ w = w':=by
 cases b
 all_goals (
  go_enter Tryz.func150, Tryz.ntmps150
  go_wp2_with fail
  go_ret
  exact ⟨rfl, rfl⟩)
set_option maxHeartbeats 400000 in
theorem RBool_any (b : Bool) (w : World) : Calls Tryz.prog 83 #[.bool b] w fun e w'=>e = .returned (.string (boolB b)) ∧ w = w':=by
 cases b
 all_goals (
  go_enter Tryz.func83, Tryz.ntmps83
  go_wp2_with fail
  go_ret
  exact ⟨rfl, rfl⟩)
def rdB (l : List UInt8) : Bool × Bool:=(decide (l.length = 1) && decide (l ≠ [0]), decide (l.length = 1))
set_option maxHeartbeats 400000 in
theorem ReadBool_any (s : ByteArray) (w : World) : Calls Tryz.prog 130 #[.string s] w fun e w'=>e = .returned (.tuple #[.bool (rdB s.data.toList).1, .bool (rdB s.data.toList).2]) ∧ w = w':=by
 have hl : s.data.toList.length = s.size:=rfl
 by_cases h1 : s.size = 1
 ·have q1 : ((s.size : Int) != 1) = false:=by rw [bne_eq_false_iff_eq]; omega
  have hr : Hid (rdB s.data.toList = (!s.toList == [0], true)):=by
   unfold rdB; simp only [Go.Lib.toList_data]; show _ = _; rw [hl]; simp [h1]
   rw [Bool.eq_iff_iff]; simp
  clear hl h1
  go_enter Tryz.func130, Tryz.ntmps130
  go_wp2_with fail
  go_ret2
  rw [hr.out]
  exact ⟨rfl, rfl⟩
 ·have q1 : ((s.size : Int) != 1) = true:=by rw [bne_iff_ne]; omega
  have hr : Hid (rdB s.data.toList = (false, false)):=by unfold rdB; show _ = _; rw [hl]; simp [h1]
  clear hl h1
  go_enter Tryz.func130, Tryz.ntmps130
  go_wp2_with fail
  go_ret2
  rw [hr.out]
  exact ⟨rfl, rfl⟩
theorem res_el {fn : Func} {p : Tmp} (h : fn.results = #[.cell p 57]) (tmps : Array Value) (w : World) (g : Nat) (x y z : Value) (hp : tmps.getD p undef = .pointer (some ⟨g, 0, none⟩)) (hB : Blk w g 57 #[x, y, z]) :
  (results fn tmps).run Tryz.prog w = .ok (.agg #[x, y, z]) w :=
 results_cell_row h tmps w g _ _ _ _ hp hB Tryz.underlying57 rfl (by kernel_rfl)
set_option maxHeartbeats 400000 in
theorem Text_any (t : Int) (s : ByteArray) (w : World) (hs : s.size ≤ 281474976710656) :
  Calls Tryz.prog 106 #[.int .u8 t, .string s] w fun e w'=>e = .returned (.agg #[.int .u8 t, .string s, .slice none 0 0]) ∧ Below w.heap.size w w':=by
 go_enter Tryz.func106, Tryz.ntmps106
 go_wp2_with fail
 refine (clone_any _ _ hs).mono ?_
 rintro e w1 ⟨rfl, hb1⟩
 have B1:=(Blk.new w 57 #[.int .u8 0, .string ⟨#[]⟩, .slice none 0 0]).past hb1
 have c0 : w1.cell? ⟨w.heap.size, 0, none⟩ = some (.int .u8 0):=B1.cell 0
 have c1 : w1.cell? ⟨w.heap.size, 1, none⟩ = some (.string ⟨#[]⟩):=B1.cell 1
 have c2 : w1.cell? ⟨w.heap.size, 2, none⟩ = some (.slice none 0 0):=B1.cell 2
 have g0:=B1.frozen 0
 have g1:=B1.frozen 1
 have g2:=B1.frozen 2
 go_wp2_with fail
 exact bodyPost_ret (res_el rfl _ _ w.heap.size _ _ _ rfl B1.set3) rfl ⟨rfl, ((((((Below.refl w.heap.size w).alloc (Nat.le_refl _) _).trans (hb1.mono (by simp))).setCell (p:=⟨w.heap.size, 0, none⟩) (Nat.le_refl _) _).setCell (p:=⟨w.heap.size, 1, none⟩) (Nat.le_refl _) _).setCell (p:=⟨w.heap.size, 2, none⟩) (Nat.le_refl _) _)⟩
set_option maxHeartbeats 400000 in
theorem RText_any (t : Int) (s : ByteArray) (w : World) :
  Calls Tryz.prog 53 #[.int .u8 t, .string s] w fun e w'=>e = .returned (.agg #[.int .u8 t, .string s, .slice none 0 0]) ∧ Below w.heap.size w w':=by
 go_enter Tryz.func53, Tryz.ntmps53
 go_wp2_with fail
 exact bodyPost_ret (res_el rfl _ _ w.heap.size _ _ _ rfl (Blk.new w _ _)) rfl ⟨rfl, (Below.refl _ _).alloc (Nat.le_refl _) _⟩
set_option maxHeartbeats 400000 in
theorem Number_any (t n : Int) (w : World) (h0 : -9223372036854775808 ≤ n) (h1 : n ≤ 9223372036854775807) :
  Calls Tryz.prog 104 #[.int .u8 t, .int .i64 n] w fun e w'=>e = .returned (.agg #[.int .u8 t, .string (strOfNums (intB n)), .slice none 0 0]) ∧ Below w.heap.size w w':=by
 have HI:=Lib.hid (fun w=>Int_any n w h0 h1)
 go_enter Tryz.func104, Tryz.ntmps104
 go_wp2_with fail
 refine (HI.out _).mono ?_
 rintro e w1 ⟨rfl, hb1⟩
 have B1:=(Blk.new w 57 #[.int .u8 0, .string ⟨#[]⟩, .slice none 0 0]).past hb1
 have c0 : w1.cell? ⟨w.heap.size, 0, none⟩ = some (.int .u8 0):=B1.cell 0
 have c1 : w1.cell? ⟨w.heap.size, 1, none⟩ = some (.string ⟨#[]⟩):=B1.cell 1
 have c2 : w1.cell? ⟨w.heap.size, 2, none⟩ = some (.slice none 0 0):=B1.cell 2
 have g0:=B1.frozen 0
 have g1:=B1.frozen 1
 have g2:=B1.frozen 2
 go_wp2_with fail
 exact bodyPost_ret (res_el rfl _ _ w.heap.size _ _ _ rfl B1.set3) rfl ⟨rfl, ((((((Below.refl w.heap.size w).alloc (Nat.le_refl _) _).trans (hb1.mono (by simp))).setCell (p:=⟨w.heap.size, 0, none⟩) (Nat.le_refl _) _).setCell (p:=⟨w.heap.size, 1, none⟩) (Nat.le_refl _) _).setCell (p:=⟨w.heap.size, 2, none⟩) (Nat.le_refl _) _)⟩
set_option maxHeartbeats 400000 in
theorem RNumber_any (t n : Int) (w : World) (h0 : -9223372036854775808 ≤ n) (h1 : n ≤ 9223372036854775807) :
  Calls Tryz.prog 51 #[.int .u8 t, .int .i64 n] w fun e w'=>e = .returned (.agg #[.int .u8 t, .string (strOfNums (intB n)), .slice none 0 0]) ∧ Below w.heap.size w w':=by
 have HI:=Lib.hid (fun w=>RInt_any n w h0 h1)
 go_enter Tryz.func51, Tryz.ntmps51
 go_wp2_with fail
 refine (HI.out _).mono ?_
 rintro e w1 ⟨rfl, hb1⟩
 have B1:=(Blk.new w 57 #[.int .u8 0, .string ⟨#[]⟩, .slice none 0 0]).past hb1
 have c0 : w1.cell? ⟨w.heap.size, 0, none⟩ = some (.int .u8 0):=B1.cell 0
 have c1 : w1.cell? ⟨w.heap.size, 1, none⟩ = some (.string ⟨#[]⟩):=B1.cell 1
 have c2 : w1.cell? ⟨w.heap.size, 2, none⟩ = some (.slice none 0 0):=B1.cell 2
 have g0:=B1.frozen 0
 have g1:=B1.frozen 1
 have g2:=B1.frozen 2
 go_wp2_with fail
 exact bodyPost_ret (res_el rfl _ _ w.heap.size _ _ _ rfl B1.set3) rfl ⟨rfl, ((((((Below.refl w.heap.size w).alloc (Nat.le_refl _) _).trans (hb1.mono (by simp))).setCell (p:=⟨w.heap.size, 0, none⟩) (Nat.le_refl _) _).setCell (p:=⟨w.heap.size, 1, none⟩) (Nat.le_refl _) _).setCell (p:=⟨w.heap.size, 2, none⟩) (Nat.le_refl _) _)⟩
set_option maxHeartbeats 400000 in
theorem RList_any (t : Int) (A : Option Addr) (n c : Nat) (w : World) :
  Calls Tryz.prog 22 #[.int .u8 t, .slice A n c] w fun e w'=>e = .returned (.agg #[.int .u8 t, .string ⟨#[]⟩, .slice A n c]) ∧ Below w.heap.size w w':=by
 go_enter Tryz.func22, Tryz.ntmps22
 go_wp2_with fail
 exact bodyPost_ret (res_el rfl _ _ w.heap.size _ _ _ rfl (Blk.new w _ _)) rfl ⟨rfl, (Below.refl _ _).alloc (Nat.le_refl _) _⟩
set_option maxHeartbeats 400000 in
theorem List_any (t : Nat) (ht : t ≤ 255) (ks : List El) (K L d : Nat) (A : Option Addr) (c : Nat) (ds : Nat → List Value) (w : World) (hl : ks.length ≤ K) (hK6 : K ≤ 1000000) (hL6 : L ≤ 281474976710656) (hF : ∀ i (h : i < ks.length), fitS K L d ks[i] = true)
  (hK : KidsAt w (· < w.heap.size) A ks ds) :
  Calls Tryz.prog 103 #[.int .u8 t, .slice A ks.length c] w fun e w'=>∃ x y z, e = .returned (.agg #[x, y, z]) ∧ Below w.heap.size w w' ∧ Lies w' (fun b=>w.heap.size ≤ b ∧ b < w'.heap.size) (.mk t ⟨#[]⟩ ks) [x, y, z]:=by
 have H:=Lib.hid (anew_any d ks K L A c ds)
 have HK:=Lib.hid (fun o=>hK.past ((Below.refl w.heap.size w).alloc (Nat.le_refl _) o))
 have HF:=Lib.hid hF
 clear hK hF
 go_enter Tryz.func103, Tryz.ntmps103
 go_wp2_with fail
 refine (H.out _ hl hK6 hL6 HF.out (HK.out _)).mono ?_
 rintro e w1 ⟨A', c', ds', rfl, hb1, hK1⟩
 have B1:=(Blk.new w 57 #[.int .u8 0, .string ⟨#[]⟩, .slice none 0 0]).past hb1
 have c0 : w1.cell? ⟨w.heap.size, 0, none⟩ = some (.int .u8 0):=B1.cell 0
 have c1 : w1.cell? ⟨w.heap.size, 1, none⟩ = some (.string ⟨#[]⟩):=B1.cell 1
 have c2 : w1.cell? ⟨w.heap.size, 2, none⟩ = some (.slice none 0 0):=B1.cell 2
 have g0:=B1.frozen 0
 have g1:=B1.frozen 1
 have g2:=B1.frozen 2
 have HK1:=Lib.hid hK1
 clear hK1
 go_wp2_with fail
 refine bodyPost_ret (res_el rfl _ _ w.heap.size _ _ _ rfl B1.set3) rfl ⟨_, _, _, rfl, ((((((Below.refl w.heap.size w).alloc (Nat.le_refl _) _).trans (hb1.mono (by simp))).setCell (p:=⟨w.heap.size, 0, none⟩) (Nat.le_refl _) _).setCell (p:=⟨w.heap.size, 1, none⟩) (Nat.le_refl _) _).setCell (p:=⟨w.heap.size, 2, none⟩) (Nat.le_refl _) _), ?_⟩
 refine Lies.shut ht (by decide) (by unfold maxLen; omega) (HK1.out.imp (fun b hb'=>⟨?_, by have:=hb'.2; simp [World.setCell]; omega⟩) (fun p hp=>?_))
 ·have:=hb'.1; simp at this; omega
 ·have hpb : p.block ≠ w.heap.size:=by have:=hp.1; simp at this; omega
  rw [World.cell?_setCell_other _ _ _ _ (fun e=>hpb (by rw [← e])), World.cell?_setCell_other _ _ _ _ (fun e=>hpb (by rw [← e])), World.cell?_setCell_other _ _ _ _ (fun e=>hpb (by rw [← e]))]
end Go.Proofs.YtconghaebebncaaGreatDoor.Be
