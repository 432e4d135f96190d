import Derived.Test.YtbdpkfgllnbheaaGreatDoorZQ5
import Derived.Test.YtbdpkfgllnbheaaGreatDoorZQ12
set_option linter.unusedVariables false
set_option maxRecDepth 100000
namespace Go.Proofs.YtbdpkfgllnbheaaGreatDoor.Be
open Go.RowKit
set_option maxHeartbeats 1000000 in
theorem int_1 (n : Int) (w : World) (hf : few n = 1) (h0 : -9223372036854775808 ≤ n) (h1 : n ≤ 9223372036854775807) :
  Calls Tryz.prog 114 #[.int .i64 n] w fun e w'=>e = .returned (.string (strOfNums (intB n))) ∧ Below w.heap.size w w':=by
 obtain ⟨i0, hi, hz0, hz1, hz2⟩:=info_parts bByte
 have HC : Hid (∀ w, Calls Tryz.prog 134 #[.int .i64 n] w fun e w'=>e = .returned (.int .i64 1) ∧ w = w'):=fun w=>by have:=fewest_any n w h0 h1; rw [hf] at this; exact this
 have hr : Hid (intB n = [n % 256]):=by unfold intB; rw [hf]; simp [tc, Hid]
 have own0 : w.ownsRow w.heap.size 5 1 (.slice none 0 0) 0 []:=⟨rfl, Or.inl ⟨rfl, rfl⟩⟩
 clear hf
 go_enter Tryz.func114, Tryz.ntmps114
 go_wp2_with fail
 refine (HC.out _).mono ?_
 rintro e w' ⟨rfl, rfl⟩
 go_wp2_with (at_builtin; go_loud (refine wpList_append_own _ rfl _ _ 36 rfl w.heap.size 5 i0 (.int .u8 0) 1 1 Tryz.underlying36 hi hz0 hz1 hz2 rfl (by decide) (.slice none 0 0) 0 _ rfl (own0.alloc _) ⟨w.heap.size, 0, none⟩ 1 1 [.int .u8 (n % 256)] rfl rfl (one_new _ _ _ _ rfl) ?a0 ?b0 ?c0 ?d0 ?_))
 case a0=>intro u hu; simp at hu; subst hu; rfl
 case b0=>unfold maxLen; omega
 case c0=>omega
 case d0=>simp
 intro v1 w1 hown1 hg1 _
 have hb1:=Lib.hid (((Below.refl w.heap.size w).alloc (Nat.le_refl _) (.cells #[.int .u8 (n % 256)] 5)).grown hg1 (by simp) (fun k hk=>by simp [Value.ownBlock] at hk))
 have hsz1:=hb1.out.size
 clear hg1 own0
 have hc:=Lib.hid (conv_own w1 _ v1 1 [n % 256] hown1 rfl)
 clear hown1
 go_wp2_with fail
 rw [hc.out]
 simp only [Result.andThen]
 rw [Oper.upon_value]
 go_wp2_with fail
 go_ret
 rw [hr.out]
 exact ⟨rfl, hb1.out⟩
set_option maxHeartbeats 1000000 in
theorem int_2 (n : Int) (w : World) (hf : few n = 2) (h0 : -9223372036854775808 ≤ n) (h1 : n ≤ 9223372036854775807) :
  Calls Tryz.prog 114 #[.int .i64 n] w fun e w'=>e = .returned (.string (strOfNums (intB n))) ∧ Below w.heap.size w w':=by
 obtain ⟨i0, hi, hz0, hz1, hz2⟩:=info_parts bByte
 have HC : Hid (∀ w, Calls Tryz.prog 134 #[.int .i64 n] w fun e w'=>e = .returned (.int .i64 2) ∧ w = w'):=fun w=>by have:=fewest_any n w h0 h1; rw [hf] at this; exact this
 have hr : Hid (intB n = [n / 256 % 256, n % 256]):=by unfold intB; rw [hf]; simp [tc, Hid]
 have own0 : w.ownsRow w.heap.size 5 1 (.slice none 0 0) 0 []:=⟨rfl, Or.inl ⟨rfl, rfl⟩⟩
 clear hf
 go_enter Tryz.func114, Tryz.ntmps114
 go_wp2_with fail
 refine (HC.out _).mono ?_
 rintro e w' ⟨rfl, rfl⟩
 go_wp2_with (at_builtin; go_loud (refine wpList_append_own _ rfl _ _ 36 rfl w.heap.size 5 i0 (.int .u8 0) 1 1 Tryz.underlying36 hi hz0 hz1 hz2 rfl (by decide) (.slice none 0 0) 0 _ rfl (own0.alloc _) ⟨w.heap.size, 0, none⟩ 1 1 [.int .u8 (n / 256 % 256)] rfl rfl (one_new _ _ _ _ rfl) ?a0 ?b0 ?c0 ?d0 ?_))
 case a0=>intro u hu; simp at hu; subst hu; rfl
 case b0=>unfold maxLen; omega
 case c0=>omega
 case d0=>simp
 intro v1 w1 hown1 hg1 _
 have hb1:=Lib.hid (((Below.refl w.heap.size w).alloc (Nat.le_refl _) (.cells #[.int .u8 (n / 256 % 256)] 5)).grown hg1 (by simp) (fun k hk=>by simp [Value.ownBlock] at hk))
 have hsz1:=hb1.out.size
 clear hg1 own0
 go_wp2_with (at_builtin; go_loud (refine wpList_append_own _ rfl _ _ 36 rfl w.heap.size 5 i0 (.int .u8 0) 1 1 Tryz.underlying36 hi hz0 hz1 hz2 rfl (by decide) (v1) 1 _ rfl (hown1.alloc _) ⟨w1.heap.size, 0, none⟩ 1 1 [.int .u8 (n % 256)] rfl rfl (one_new _ _ _ _ rfl) ?a1 ?b1 ?c1 ?d1 ?_))
 case a1=>intro u hu; simp at hu; subst hu; rfl
 case b1=>unfold maxLen; omega
 case c1=>omega
 case d1=>simp; omega
 intro v2 w2 hown2 hg2 _
 have hb2:=Lib.hid ((hb1.out.alloc hsz1 (.cells #[.int .u8 (n % 256)] 5)).grown hg2 (by simp; omega) (fun k hk=>(hown1.lt k hk).1))
 have hsz2:=hb2.out.size
 clear hg2 hown1
 have hc:=Lib.hid (conv_own w2 _ v2 2 [n / 256 % 256, n % 256] hown2 rfl)
 clear hown2
 go_wp2_with fail
 rw [hc.out]
 simp only [Result.andThen]
 rw [Oper.upon_value]
 go_wp2_with fail
 go_ret
 rw [hr.out]
 exact ⟨rfl, hb2.out⟩
set_option maxHeartbeats 1000000 in
theorem int_3 (n : Int) (w : World) (hf : few n = 3) (h0 : -9223372036854775808 ≤ n) (h1 : n ≤ 9223372036854775807) :
  Calls Tryz.prog 114 #[.int .i64 n] w fun e w'=>e = .returned (.string (strOfNums (intB n))) ∧ Below w.heap.size w w':=by
 obtain ⟨i0, hi, hz0, hz1, hz2⟩:=info_parts bByte
 have HC : Hid (∀ w, Calls Tryz.prog 134 #[.int .i64 n] w fun e w'=>e = .returned (.int .i64 3) ∧ w = w'):=fun w=>by have:=fewest_any n w h0 h1; rw [hf] at this; exact this
 have hr : Hid (intB n = [n / 65536 % 256, n / 256 % 256, n % 256]):=by unfold intB; rw [hf]; simp [tc, Hid]
 have own0 : w.ownsRow w.heap.size 5 1 (.slice none 0 0) 0 []:=⟨rfl, Or.inl ⟨rfl, rfl⟩⟩
 clear hf
 go_enter Tryz.func114, Tryz.ntmps114
 go_wp2_with fail
 refine (HC.out _).mono ?_
 rintro e w' ⟨rfl, rfl⟩
 go_wp2_with (at_builtin; go_loud (refine wpList_append_own _ rfl _ _ 36 rfl w.heap.size 5 i0 (.int .u8 0) 1 1 Tryz.underlying36 hi hz0 hz1 hz2 rfl (by decide) (.slice none 0 0) 0 _ rfl (own0.alloc _) ⟨w.heap.size, 0, none⟩ 1 1 [.int .u8 (n / 65536 % 256)] rfl rfl (one_new _ _ _ _ rfl) ?a0 ?b0 ?c0 ?d0 ?_))
 case a0=>intro u hu; simp at hu; subst hu; rfl
 case b0=>unfold maxLen; omega
 case c0=>omega
 case d0=>simp
 intro v1 w1 hown1 hg1 _
 have hb1:=Lib.hid (((Below.refl w.heap.size w).alloc (Nat.le_refl _) (.cells #[.int .u8 (n / 65536 % 256)] 5)).grown hg1 (by simp) (fun k hk=>by simp [Value.ownBlock] at hk))
 have hsz1:=hb1.out.size
 clear hg1 own0
 go_wp2_with (at_builtin; go_loud (refine wpList_append_own _ rfl _ _ 36 rfl w.heap.size 5 i0 (.int .u8 0) 1 1 Tryz.underlying36 hi hz0 hz1 hz2 rfl (by decide) (v1) 1 _ rfl (hown1.alloc _) ⟨w1.heap.size, 0, none⟩ 1 1 [.int .u8 (n / 256 % 256)] rfl rfl (one_new _ _ _ _ rfl) ?a1 ?b1 ?c1 ?d1 ?_))
 case a1=>intro u hu; simp at hu; subst hu; rfl
 case b1=>unfold maxLen; omega
 case c1=>omega
 case d1=>simp; omega
 intro v2 w2 hown2 hg2 _
 have hb2:=Lib.hid ((hb1.out.alloc hsz1 (.cells #[.int .u8 (n / 256 % 256)] 5)).grown hg2 (by simp; omega) (fun k hk=>(hown1.lt k hk).1))
 have hsz2:=hb2.out.size
 clear hg2 hown1
 go_wp2_with (at_builtin; go_loud (refine wpList_append_own _ rfl _ _ 36 rfl w.heap.size 5 i0 (.int .u8 0) 1 1 Tryz.underlying36 hi hz0 hz1 hz2 rfl (by decide) (v2) 2 _ rfl (hown2.alloc _) ⟨w2.heap.size, 0, none⟩ 1 1 [.int .u8 (n % 256)] rfl rfl (one_new _ _ _ _ rfl) ?a2 ?b2 ?c2 ?d2 ?_))
 case a2=>intro u hu; simp at hu; subst hu; rfl
 case b2=>unfold maxLen; omega
 case c2=>omega
 case d2=>simp; omega
 intro v3 w3 hown3 hg3 _
 have hb3:=Lib.hid ((hb2.out.alloc hsz2 (.cells #[.int .u8 (n % 256)] 5)).grown hg3 (by simp; omega) (fun k hk=>(hown2.lt k hk).1))
 have hsz3:=hb3.out.size
 clear hg3 hown2
 have hc:=Lib.hid (conv_own w3 _ v3 3 [n / 65536 % 256, n / 256 % 256, n % 256] hown3 rfl)
 clear hown3
 go_wp2_with fail
 rw [hc.out]
 simp only [Result.andThen]
 rw [Oper.upon_value]
 go_wp2_with fail
 go_ret
 rw [hr.out]
 exact ⟨rfl, hb3.out⟩
set_option maxHeartbeats 1000000 in
theorem int_4 (n : Int) (w : World) (hf : few n = 4) (h0 : -9223372036854775808 ≤ n) (h1 : n ≤ 9223372036854775807) :
  Calls Tryz.prog 114 #[.int .i64 n] w fun e w'=>e = .returned (.string (strOfNums (intB n))) ∧ Below w.heap.size w w':=by
 obtain ⟨i0, hi, hz0, hz1, hz2⟩:=info_parts bByte
 have HC : Hid (∀ w, Calls Tryz.prog 134 #[.int .i64 n] w fun e w'=>e = .returned (.int .i64 4) ∧ w = w'):=fun w=>by have:=fewest_any n w h0 h1; rw [hf] at this; exact this
 have hr : Hid (intB n = [n / 16777216 % 256, n / 65536 % 256, n / 256 % 256, n % 256]):=by unfold intB; rw [hf]; simp [tc, Hid]
 have own0 : w.ownsRow w.heap.size 5 1 (.slice none 0 0) 0 []:=⟨rfl, Or.inl ⟨rfl, rfl⟩⟩
 clear hf
 go_enter Tryz.func114, Tryz.ntmps114
 go_wp2_with fail
 refine (HC.out _).mono ?_
 rintro e w' ⟨rfl, rfl⟩
 go_wp2_with (at_builtin; go_loud (refine wpList_append_own _ rfl _ _ 36 rfl w.heap.size 5 i0 (.int .u8 0) 1 1 Tryz.underlying36 hi hz0 hz1 hz2 rfl (by decide) (.slice none 0 0) 0 _ rfl (own0.alloc _) ⟨w.heap.size, 0, none⟩ 1 1 [.int .u8 (n / 16777216 % 256)] rfl rfl (one_new _ _ _ _ rfl) ?a0 ?b0 ?c0 ?d0 ?_))
 case a0=>intro u hu; simp at hu; subst hu; rfl
 case b0=>unfold maxLen; omega
 case c0=>omega
 case d0=>simp
 intro v1 w1 hown1 hg1 _
 have hb1:=Lib.hid (((Below.refl w.heap.size w).alloc (Nat.le_refl _) (.cells #[.int .u8 (n / 16777216 % 256)] 5)).grown hg1 (by simp) (fun k hk=>by simp [Value.ownBlock] at hk))
 have hsz1:=hb1.out.size
 clear hg1 own0
 go_wp2_with (at_builtin; go_loud (refine wpList_append_own _ rfl _ _ 36 rfl w.heap.size 5 i0 (.int .u8 0) 1 1 Tryz.underlying36 hi hz0 hz1 hz2 rfl (by decide) (v1) 1 _ rfl (hown1.alloc _) ⟨w1.heap.size, 0, none⟩ 1 1 [.int .u8 (n / 65536 % 256)] rfl rfl (one_new _ _ _ _ rfl) ?a1 ?b1 ?c1 ?d1 ?_))
 case a1=>intro u hu; simp at hu; subst hu; rfl
 case b1=>unfold maxLen; omega
 case c1=>omega
 case d1=>simp; omega
 intro v2 w2 hown2 hg2 _
 have hb2:=Lib.hid ((hb1.out.alloc hsz1 (.cells #[.int .u8 (n / 65536 % 256)] 5)).grown hg2 (by simp; omega) (fun k hk=>(hown1.lt k hk).1))
 have hsz2:=hb2.out.size
 clear hg2 hown1
 go_wp2_with (at_builtin; go_loud (refine wpList_append_own _ rfl _ _ 36 rfl w.heap.size 5 i0 (.int .u8 0) 1 1 Tryz.underlying36 hi hz0 hz1 hz2 rfl (by decide) (v2) 2 _ rfl (hown2.alloc _) ⟨w2.heap.size, 0, none⟩ 1 1 [.int .u8 (n / 256 % 256)] rfl rfl (one_new _ _ _ _ rfl) ?a2 ?b2 ?c2 ?d2 ?_))
 case a2=>intro u hu; simp at hu; subst hu; rfl
 case b2=>unfold maxLen; omega
 case c2=>omega
 case d2=>simp; omega
 intro v3 w3 hown3 hg3 _
 have hb3:=Lib.hid ((hb2.out.alloc hsz2 (.cells #[.int .u8 (n / 256 % 256)] 5)).grown hg3 (by simp; omega) (fun k hk=>(hown2.lt k hk).1))
 have hsz3:=hb3.out.size
 clear hg3 hown2
 go_wp2_with (at_builtin; go_loud (refine wpList_append_own _ rfl _ _ 36 rfl w.heap.size 5 i0 (.int .u8 0) 1 1 Tryz.underlying36 hi hz0 hz1 hz2 rfl (by decide) (v3) 3 _ rfl (hown3.alloc _) ⟨w3.heap.size, 0, none⟩ 1 1 [.int .u8 (n % 256)] rfl rfl (one_new _ _ _ _ rfl) ?a3 ?b3 ?c3 ?d3 ?_))
 case a3=>intro u hu; simp at hu; subst hu; rfl
 case b3=>unfold maxLen; omega
 case c3=>omega
 case d3=>simp; omega
 intro v4 w4 hown4 hg4 _
 have hb4:=Lib.hid ((hb3.out.alloc hsz3 (.cells #[.int .u8 (n % 256)] 5)).grown hg4 (by simp; omega) (fun k hk=>(hown3.lt k hk).1))
 have hsz4:=hb4.out.size
 clear hg4 hown3
 have hc:=Lib.hid (conv_own w4 _ v4 4 [n / 16777216 % 256, n / 65536 % 256, n / 256 % 256, n % 256] hown4 rfl)
 clear hown4
 go_wp2_with fail
 rw [hc.out]
 simp only [Result.andThen]
 rw [Oper.upon_value]
 go_wp2_with fail
 go_ret
 rw [hr.out]
 exact ⟨rfl, hb4.out⟩
set_option maxHeartbeats 1000000 in
theorem int_5 (n : Int) (w : World) (hf : few n = 5) (h0 : -9223372036854775808 ≤ n) (h1 : n ≤ 9223372036854775807) :
  Calls Tryz.prog 114 #[.int .i64 n] w fun e w'=>e = .returned (.string (strOfNums (intB n))) ∧ Below w.heap.size w w':=by
 obtain ⟨i0, hi, hz0, hz1, hz2⟩:=info_parts bByte
 have HC : Hid (∀ w, Calls Tryz.prog 134 #[.int .i64 n] w fun e w'=>e = .returned (.int .i64 5) ∧ w = w'):=fun w=>by have:=fewest_any n w h0 h1; rw [hf] at this; exact this
 have hr : Hid (intB n = [n / 4294967296 % 256, n / 16777216 % 256, n / 65536 % 256, n / 256 % 256, n % 256]):=by unfold intB; rw [hf]; simp [tc, Hid]
 have own0 : w.ownsRow w.heap.size 5 1 (.slice none 0 0) 0 []:=⟨rfl, Or.inl ⟨rfl, rfl⟩⟩
 clear hf
 go_enter Tryz.func114, Tryz.ntmps114
 go_wp2_with fail
 refine (HC.out _).mono ?_
 rintro e w' ⟨rfl, rfl⟩
 go_wp2_with (at_builtin; go_loud (refine wpList_append_own _ rfl _ _ 36 rfl w.heap.size 5 i0 (.int .u8 0) 1 1 Tryz.underlying36 hi hz0 hz1 hz2 rfl (by decide) (.slice none 0 0) 0 _ rfl (own0.alloc _) ⟨w.heap.size, 0, none⟩ 1 1 [.int .u8 (n / 4294967296 % 256)] rfl rfl (one_new _ _ _ _ rfl) ?a0 ?b0 ?c0 ?d0 ?_))
 case a0=>intro u hu; simp at hu; subst hu; rfl
 case b0=>unfold maxLen; omega
 case c0=>omega
 case d0=>simp
 intro v1 w1 hown1 hg1 _
 have hb1:=Lib.hid (((Below.refl w.heap.size w).alloc (Nat.le_refl _) (.cells #[.int .u8 (n / 4294967296 % 256)] 5)).grown hg1 (by simp) (fun k hk=>by simp [Value.ownBlock] at hk))
 have hsz1:=hb1.out.size
 clear hg1 own0
 go_wp2_with (at_builtin; go_loud (refine wpList_append_own _ rfl _ _ 36 rfl w.heap.size 5 i0 (.int .u8 0) 1 1 Tryz.underlying36 hi hz0 hz1 hz2 rfl (by decide) (v1) 1 _ rfl (hown1.alloc _) ⟨w1.heap.size, 0, none⟩ 1 1 [.int .u8 (n / 16777216 % 256)] rfl rfl (one_new _ _ _ _ rfl) ?a1 ?b1 ?c1 ?d1 ?_))
 case a1=>intro u hu; simp at hu; subst hu; rfl
 case b1=>unfold maxLen; omega
 case c1=>omega
 case d1=>simp; omega
 intro v2 w2 hown2 hg2 _
 have hb2:=Lib.hid ((hb1.out.alloc hsz1 (.cells #[.int .u8 (n / 16777216 % 256)] 5)).grown hg2 (by simp; omega) (fun k hk=>(hown1.lt k hk).1))
 have hsz2:=hb2.out.size
 clear hg2 hown1
 go_wp2_with (at_builtin; go_loud (refine wpList_append_own _ rfl _ _ 36 rfl w.heap.size 5 i0 (.int .u8 0) 1 1 Tryz.underlying36 hi hz0 hz1 hz2 rfl (by decide) (v2) 2 _ rfl (hown2.alloc _) ⟨w2.heap.size, 0, none⟩ 1 1 [.int .u8 (n / 65536 % 256)] rfl rfl (one_new _ _ _ _ rfl) ?a2 ?b2 ?c2 ?d2 ?_))
 case a2=>intro u hu; simp at hu; subst hu; rfl
 case b2=>unfold maxLen; omega
 case c2=>omega
 case d2=>simp; omega
 intro v3 w3 hown3 hg3 _
 have hb3:=Lib.hid ((hb2.out.alloc hsz2 (.cells #[.int .u8 (n / 65536 % 256)] 5)).grown hg3 (by simp; omega) (fun k hk=>(hown2.lt k hk).1))
 have hsz3:=hb3.out.size
 clear hg3 hown2
 go_wp2_with (at_builtin; go_loud (refine wpList_append_own _ rfl _ _ 36 rfl w.heap.size 5 i0 (.int .u8 0) 1 1 Tryz.underlying36 hi hz0 hz1 hz2 rfl (by decide) (v3) 3 _ rfl (hown3.alloc _) ⟨w3.heap.size, 0, none⟩ 1 1 [.int .u8 (n / 256 % 256)] rfl rfl (one_new _ _ _ _ rfl) ?a3 ?b3 ?c3 ?d3 ?_))
 case a3=>intro u hu; simp at hu; subst hu; rfl
 case b3=>unfold maxLen; omega
 case c3=>omega
 case d3=>simp; omega
 intro v4 w4 hown4 hg4 _
 have hb4:=Lib.hid ((hb3.out.alloc hsz3 (.cells #[.int .u8 (n / 256 % 256)] 5)).grown hg4 (by simp; omega) (fun k hk=>(hown3.lt k hk).1))
 have hsz4:=hb4.out.size
 clear hg4 hown3
 go_wp2_with (at_builtin; go_loud (refine wpList_append_own _ rfl _ _ 36 rfl w.heap.size 5 i0 (.int .u8 0) 1 1 Tryz.underlying36 hi hz0 hz1 hz2 rfl (by decide) (v4) 4 _ rfl (hown4.alloc _) ⟨w4.heap.size, 0, none⟩ 1 1 [.int .u8 (n % 256)] rfl rfl (one_new _ _ _ _ rfl) ?a4 ?b4 ?c4 ?d4 ?_))
 case a4=>intro u hu; simp at hu; subst hu; rfl
 case b4=>unfold maxLen; omega
 case c4=>omega
 case d4=>simp; omega
 intro v5 w5 hown5 hg5 _
 have hb5:=Lib.hid ((hb4.out.alloc hsz4 (.cells #[.int .u8 (n % 256)] 5)).grown hg5 (by simp; omega) (fun k hk=>(hown4.lt k hk).1))
 have hsz5:=hb5.out.size
 clear hg5 hown4
 have hc:=Lib.hid (conv_own w5 _ v5 5 [n / 4294967296 % 256, n / 16777216 % 256, n / 65536 % 256, n / 256 % 256, n % 256] hown5 rfl)
 clear hown5
 go_wp2_with fail
 rw [hc.out]
 simp only [Result.andThen]
 rw [Oper.upon_value]
 go_wp2_with fail
 go_ret
 rw [hr.out]
 exact ⟨rfl, hb5.out⟩
set_option maxHeartbeats 1000000 in
theorem int_6 (n : Int) (w : World) (hf : few n = 6) (h0 : -9223372036854775808 ≤ n) (h1 : n ≤ 9223372036854775807) :
  Calls Tryz.prog 114 #[.int .i64 n] w fun e w'=>e = .returned (.string (strOfNums (intB n))) ∧ Below w.heap.size w w':=by
 obtain ⟨i0, hi, hz0, hz1, hz2⟩:=info_parts bByte
 have HC : Hid (∀ w, Calls Tryz.prog 134 #[.int .i64 n] w fun e w'=>e = .returned (.int .i64 6) ∧ w = w'):=fun w=>by have:=fewest_any n w h0 h1; rw [hf] at this; exact this
 have hr : Hid (intB n = [n / 1099511627776 % 256, n / 4294967296 % 256, n / 16777216 % 256, n / 65536 % 256, n / 256 % 256, n % 256]):=by unfold intB; rw [hf]; simp [tc, Hid]
 have own0 : w.ownsRow w.heap.size 5 1 (.slice none 0 0) 0 []:=⟨rfl, Or.inl ⟨rfl, rfl⟩⟩
 clear hf
 go_enter Tryz.func114, Tryz.ntmps114
 go_wp2_with fail
 refine (HC.out _).mono ?_
 rintro e w' ⟨rfl, rfl⟩
 go_wp2_with (at_builtin; go_loud (refine wpList_append_own _ rfl _ _ 36 rfl w.heap.size 5 i0 (.int .u8 0) 1 1 Tryz.underlying36 hi hz0 hz1 hz2 rfl (by decide) (.slice none 0 0) 0 _ rfl (own0.alloc _) ⟨w.heap.size, 0, none⟩ 1 1 [.int .u8 (n / 1099511627776 % 256)] rfl rfl (one_new _ _ _ _ rfl) ?a0 ?b0 ?c0 ?d0 ?_))
 case a0=>intro u hu; simp at hu; subst hu; rfl
 case b0=>unfold maxLen; omega
 case c0=>omega
 case d0=>simp
 intro v1 w1 hown1 hg1 _
 have hb1:=Lib.hid (((Below.refl w.heap.size w).alloc (Nat.le_refl _) (.cells #[.int .u8 (n / 1099511627776 % 256)] 5)).grown hg1 (by simp) (fun k hk=>by simp [Value.ownBlock] at hk))
 have hsz1:=hb1.out.size
 clear hg1 own0
 go_wp2_with (at_builtin; go_loud (refine wpList_append_own _ rfl _ _ 36 rfl w.heap.size 5 i0 (.int .u8 0) 1 1 Tryz.underlying36 hi hz0 hz1 hz2 rfl (by decide) (v1) 1 _ rfl (hown1.alloc _) ⟨w1.heap.size, 0, none⟩ 1 1 [.int .u8 (n / 4294967296 % 256)] rfl rfl (one_new _ _ _ _ rfl) ?a1 ?b1 ?c1 ?d1 ?_))
 case a1=>intro u hu; simp at hu; subst hu; rfl
 case b1=>unfold maxLen; omega
 case c1=>omega
 case d1=>simp; omega
 intro v2 w2 hown2 hg2 _
 have hb2:=Lib.hid ((hb1.out.alloc hsz1 (.cells #[.int .u8 (n / 4294967296 % 256)] 5)).grown hg2 (by simp; omega) (fun k hk=>(hown1.lt k hk).1))
 have hsz2:=hb2.out.size
 clear hg2 hown1
 go_wp2_with (at_builtin; go_loud (refine wpList_append_own _ rfl _ _ 36 rfl w.heap.size 5 i0 (.int .u8 0) 1 1 Tryz.underlying36 hi hz0 hz1 hz2 rfl (by decide) (v2) 2 _ rfl (hown2.alloc _) ⟨w2.heap.size, 0, none⟩ 1 1 [.int .u8 (n / 16777216 % 256)] rfl rfl (one_new _ _ _ _ rfl) ?a2 ?b2 ?c2 ?d2 ?_))
 case a2=>intro u hu; simp at hu; subst hu; rfl
 case b2=>unfold maxLen; omega
 case c2=>omega
 case d2=>simp; omega
 intro v3 w3 hown3 hg3 _
 have hb3:=Lib.hid ((hb2.out.alloc hsz2 (.cells #[.int .u8 (n / 16777216 % 256)] 5)).grown hg3 (by simp; omega) (fun k hk=>(hown2.lt k hk).1))
 have hsz3:=hb3.out.size
 clear hg3 hown2
 go_wp2_with (at_builtin; go_loud (refine wpList_append_own _ rfl _ _ 36 rfl w.heap.size 5 i0 (.int .u8 0) 1 1 Tryz.underlying36 hi hz0 hz1 hz2 rfl (by decide) (v3) 3 _ rfl (hown3.alloc _) ⟨w3.heap.size, 0, none⟩ 1 1 [.int .u8 (n / 65536 % 256)] rfl rfl (one_new _ _ _ _ rfl) ?a3 ?b3 ?c3 ?d3 ?_))
 case a3=>intro u hu; simp at hu; subst hu; rfl
 case b3=>unfold maxLen; omega
 case c3=>omega
 case d3=>simp; omega
 intro v4 w4 hown4 hg4 _
 have hb4:=Lib.hid ((hb3.out.alloc hsz3 (.cells #[.int .u8 (n / 65536 % 256)] 5)).grown hg4 (by simp; omega) (fun k hk=>(hown3.lt k hk).1))
 have hsz4:=hb4.out.size
 clear hg4 hown3
 go_wp2_with (at_builtin; go_loud (refine wpList_append_own _ rfl _ _ 36 rfl w.heap.size 5 i0 (.int .u8 0) 1 1 Tryz.underlying36 hi hz0 hz1 hz2 rfl (by decide) (v4) 4 _ rfl (hown4.alloc _) ⟨w4.heap.size, 0, none⟩ 1 1 [.int .u8 (n / 256 % 256)] rfl rfl (one_new _ _ _ _ rfl) ?a4 ?b4 ?c4 ?d4 ?_))
 case a4=>intro u hu; simp at hu; subst hu; rfl
 case b4=>unfold maxLen; omega
 case c4=>omega
 case d4=>simp; omega
 intro v5 w5 hown5 hg5 _
 have hb5:=Lib.hid ((hb4.out.alloc hsz4 (.cells #[.int .u8 (n / 256 % 256)] 5)).grown hg5 (by simp; omega) (fun k hk=>(hown4.lt k hk).1))
 have hsz5:=hb5.out.size
 clear hg5 hown4
 go_wp2_with (at_builtin; go_loud (refine wpList_append_own _ rfl _ _ 36 rfl w.heap.size 5 i0 (.int .u8 0) 1 1 Tryz.underlying36 hi hz0 hz1 hz2 rfl (by decide) (v5) 5 _ rfl (hown5.alloc _) ⟨w5.heap.size, 0, none⟩ 1 1 [.int .u8 (n % 256)] rfl rfl (one_new _ _ _ _ rfl) ?a5 ?b5 ?c5 ?d5 ?_))
 case a5=>intro u hu; simp at hu; subst hu; rfl
 case b5=>unfold maxLen; omega
 case c5=>omega
 case d5=>simp; omega
 intro v6 w6 hown6 hg6 _
 have hb6:=Lib.hid ((hb5.out.alloc hsz5 (.cells #[.int .u8 (n % 256)] 5)).grown hg6 (by simp; omega) (fun k hk=>(hown5.lt k hk).1))
 have hsz6:=hb6.out.size
 clear hg6 hown5
 have hc:=Lib.hid (conv_own w6 _ v6 6 [n / 1099511627776 % 256, n / 4294967296 % 256, n / 16777216 % 256, n / 65536 % 256, n / 256 % 256, n % 256] hown6 rfl)
 clear hown6
 go_wp2_with fail
 rw [hc.out]
 simp only [Result.andThen]
 rw [Oper.upon_value]
 go_wp2_with fail
 go_ret
 rw [hr.out]
 exact ⟨rfl, hb6.out⟩
set_option maxHeartbeats 1000000 in
theorem int_7 (n : Int) (w : World) (hf : few n = 7) (h0 : -9223372036854775808 ≤ n) (h1 : n ≤ 9223372036854775807) :
  Calls Tryz.prog 114 #[.int .i64 n] w fun e w'=>e = .returned (.string (strOfNums (intB n))) ∧ Below w.heap.size w w':=by
 obtain ⟨i0, hi, hz0, hz1, hz2⟩:=info_parts bByte
 have HC : Hid (∀ w, Calls Tryz.prog 134 #[.int .i64 n] w fun e w'=>e = .returned (.int .i64 7) ∧ w = w'):=fun w=>by have:=fewest_any n w h0 h1; rw [hf] at this; exact this
 have hr : Hid (intB n = [n / 281474976710656 % 256, n / 1099511627776 % 256, n / 4294967296 % 256, n / 16777216 % 256, n / 65536 % 256, n / 256 % 256, n % 256]):=by unfold intB; rw [hf]; simp [tc, Hid]
 have own0 : w.ownsRow w.heap.size 5 1 (.slice none 0 0) 0 []:=⟨rfl, Or.inl ⟨rfl, rfl⟩⟩
 clear hf
 go_enter Tryz.func114, Tryz.ntmps114
 go_wp2_with fail
 refine (HC.out _).mono ?_
 rintro e w' ⟨rfl, rfl⟩
 go_wp2_with (at_builtin; go_loud (refine wpList_append_own _ rfl _ _ 36 rfl w.heap.size 5 i0 (.int .u8 0) 1 1 Tryz.underlying36 hi hz0 hz1 hz2 rfl (by decide) (.slice none 0 0) 0 _ rfl (own0.alloc _) ⟨w.heap.size, 0, none⟩ 1 1 [.int .u8 (n / 281474976710656 % 256)] rfl rfl (one_new _ _ _ _ rfl) ?a0 ?b0 ?c0 ?d0 ?_))
 case a0=>intro u hu; simp at hu; subst hu; rfl
 case b0=>unfold maxLen; omega
 case c0=>omega
 case d0=>simp
 intro v1 w1 hown1 hg1 _
 have hb1:=Lib.hid (((Below.refl w.heap.size w).alloc (Nat.le_refl _) (.cells #[.int .u8 (n / 281474976710656 % 256)] 5)).grown hg1 (by simp) (fun k hk=>by simp [Value.ownBlock] at hk))
 have hsz1:=hb1.out.size
 clear hg1 own0
 go_wp2_with (at_builtin; go_loud (refine wpList_append_own _ rfl _ _ 36 rfl w.heap.size 5 i0 (.int .u8 0) 1 1 Tryz.underlying36 hi hz0 hz1 hz2 rfl (by decide) (v1) 1 _ rfl (hown1.alloc _) ⟨w1.heap.size, 0, none⟩ 1 1 [.int .u8 (n / 1099511627776 % 256)] rfl rfl (one_new _ _ _ _ rfl) ?a1 ?b1 ?c1 ?d1 ?_))
 case a1=>intro u hu; simp at hu; subst hu; rfl
 case b1=>unfold maxLen; omega
 case c1=>omega
 case d1=>simp; omega
 intro v2 w2 hown2 hg2 _
 have hb2:=Lib.hid ((hb1.out.alloc hsz1 (.cells #[.int .u8 (n / 1099511627776 % 256)] 5)).grown hg2 (by simp; omega) (fun k hk=>(hown1.lt k hk).1))
 have hsz2:=hb2.out.size
 clear hg2 hown1
 go_wp2_with (at_builtin; go_loud (refine wpList_append_own _ rfl _ _ 36 rfl w.heap.size 5 i0 (.int .u8 0) 1 1 Tryz.underlying36 hi hz0 hz1 hz2 rfl (by decide) (v2) 2 _ rfl (hown2.alloc _) ⟨w2.heap.size, 0, none⟩ 1 1 [.int .u8 (n / 4294967296 % 256)] rfl rfl (one_new _ _ _ _ rfl) ?a2 ?b2 ?c2 ?d2 ?_))
 case a2=>intro u hu; simp at hu; subst hu; rfl
 case b2=>unfold maxLen; omega
 case c2=>omega
 case d2=>simp; omega
 intro v3 w3 hown3 hg3 _
 have hb3:=Lib.hid ((hb2.out.alloc hsz2 (.cells #[.int .u8 (n / 4294967296 % 256)] 5)).grown hg3 (by simp; omega) (fun k hk=>(hown2.lt k hk).1))
 have hsz3:=hb3.out.size
 clear hg3 hown2
 go_wp2_with (at_builtin; go_loud (refine wpList_append_own _ rfl _ _ 36 rfl w.heap.size 5 i0 (.int .u8 0) 1 1 Tryz.underlying36 hi hz0 hz1 hz2 rfl (by decide) (v3) 3 _ rfl (hown3.alloc _) ⟨w3.heap.size, 0, none⟩ 1 1 [.int .u8 (n / 16777216 % 256)] rfl rfl (one_new _ _ _ _ rfl) ?a3 ?b3 ?c3 ?d3 ?_))
 case a3=>intro u hu; simp at hu; subst hu; rfl
 case b3=>unfold maxLen; omega
 case c3=>omega
 case d3=>simp; omega
 intro v4 w4 hown4 hg4 _
 have hb4:=Lib.hid ((hb3.out.alloc hsz3 (.cells #[.int .u8 (n / 16777216 % 256)] 5)).grown hg4 (by simp; omega) (fun k hk=>(hown3.lt k hk).1))
 have hsz4:=hb4.out.size
 clear hg4 hown3
 go_wp2_with (at_builtin; go_loud (refine wpList_append_own _ rfl _ _ 36 rfl w.heap.size 5 i0 (.int .u8 0) 1 1 Tryz.underlying36 hi hz0 hz1 hz2 rfl (by decide) (v4) 4 _ rfl (hown4.alloc _) ⟨w4.heap.size, 0, none⟩ 1 1 [.int .u8 (n / 65536 % 256)] rfl rfl (one_new _ _ _ _ rfl) ?a4 ?b4 ?c4 ?d4 ?_))
 case a4=>intro u hu; simp at hu; subst hu; rfl
 case b4=>unfold maxLen; omega
 case c4=>omega
 case d4=>simp; omega
 intro v5 w5 hown5 hg5 _
 have hb5:=Lib.hid ((hb4.out.alloc hsz4 (.cells #[.int .u8 (n / 65536 % 256)] 5)).grown hg5 (by simp; omega) (fun k hk=>(hown4.lt k hk).1))
 have hsz5:=hb5.out.size
 clear hg5 hown4
 go_wp2_with (at_builtin; go_loud (refine wpList_append_own _ rfl _ _ 36 rfl w.heap.size 5 i0 (.int .u8 0) 1 1 Tryz.underlying36 hi hz0 hz1 hz2 rfl (by decide) (v5) 5 _ rfl (hown5.alloc _) ⟨w5.heap.size, 0, none⟩ 1 1 [.int .u8 (n / 256 % 256)] rfl rfl (one_new _ _ _ _ rfl) ?a5 ?b5 ?c5 ?d5 ?_))
 case a5=>intro u hu; simp at hu; subst hu; rfl
 case b5=>unfold maxLen; omega
 case c5=>omega
 case d5=>simp; omega
 intro v6 w6 hown6 hg6 _
 have hb6:=Lib.hid ((hb5.out.alloc hsz5 (.cells #[.int .u8 (n / 256 % 256)] 5)).grown hg6 (by simp; omega) (fun k hk=>(hown5.lt k hk).1))
 have hsz6:=hb6.out.size
 clear hg6 hown5
 go_wp2_with (at_builtin; go_loud (refine wpList_append_own _ rfl _ _ 36 rfl w.heap.size 5 i0 (.int .u8 0) 1 1 Tryz.underlying36 hi hz0 hz1 hz2 rfl (by decide) (v6) 6 _ rfl (hown6.alloc _) ⟨w6.heap.size, 0, none⟩ 1 1 [.int .u8 (n % 256)] rfl rfl (one_new _ _ _ _ rfl) ?a6 ?b6 ?c6 ?d6 ?_))
 case a6=>intro u hu; simp at hu; subst hu; rfl
 case b6=>unfold maxLen; omega
 case c6=>omega
 case d6=>simp; omega
 intro v7 w7 hown7 hg7 _
 have hb7:=Lib.hid ((hb6.out.alloc hsz6 (.cells #[.int .u8 (n % 256)] 5)).grown hg7 (by simp; omega) (fun k hk=>(hown6.lt k hk).1))
 have hsz7:=hb7.out.size
 clear hg7 hown6
 have hc:=Lib.hid (conv_own w7 _ v7 7 [n / 281474976710656 % 256, n / 1099511627776 % 256, n / 4294967296 % 256, n / 16777216 % 256, n / 65536 % 256, n / 256 % 256, n % 256] hown7 rfl)
 clear hown7
 go_wp2_with fail
 rw [hc.out]
 simp only [Result.andThen]
 rw [Oper.upon_value]
 go_wp2_with fail
 go_ret
 rw [hr.out]
 exact ⟨rfl, hb7.out⟩
set_option maxHeartbeats 1000000 in
theorem int_8 (n : Int) (w : World) (hf : few n = 8) (h0 : -9223372036854775808 ≤ n) (h1 : n ≤ 9223372036854775807) :
  Calls Tryz.prog 114 #[.int .i64 n] w fun e w'=>e = .returned (.string (strOfNums (intB n))) ∧ Below w.heap.size w w':=by
 obtain ⟨i0, hi, hz0, hz1, hz2⟩:=info_parts bByte
 have HC : Hid (∀ w, Calls Tryz.prog 134 #[.int .i64 n] w fun e w'=>e = .returned (.int .i64 8) ∧ w = w'):=fun w=>by have:=fewest_any n w h0 h1; rw [hf] at this; exact this
 have hr : Hid (intB n = [n / 72057594037927936 % 256, n / 281474976710656 % 256, n / 1099511627776 % 256, n / 4294967296 % 256, n / 16777216 % 256, n / 65536 % 256, n / 256 % 256, n % 256]):=by unfold intB; rw [hf]; simp [tc, Hid]
 have own0 : w.ownsRow w.heap.size 5 1 (.slice none 0 0) 0 []:=⟨rfl, Or.inl ⟨rfl, rfl⟩⟩
 clear hf
 go_enter Tryz.func114, Tryz.ntmps114
 go_wp2_with fail
 refine (HC.out _).mono ?_
 rintro e w' ⟨rfl, rfl⟩
 go_wp2_with (at_builtin; go_loud (refine wpList_append_own _ rfl _ _ 36 rfl w.heap.size 5 i0 (.int .u8 0) 1 1 Tryz.underlying36 hi hz0 hz1 hz2 rfl (by decide) (.slice none 0 0) 0 _ rfl (own0.alloc _) ⟨w.heap.size, 0, none⟩ 1 1 [.int .u8 (n / 72057594037927936 % 256)] rfl rfl (one_new _ _ _ _ rfl) ?a0 ?b0 ?c0 ?d0 ?_))
 case a0=>intro u hu; simp at hu; subst hu; rfl
 case b0=>unfold maxLen; omega
 case c0=>omega
 case d0=>simp
 intro v1 w1 hown1 hg1 _
 have hb1:=Lib.hid (((Below.refl w.heap.size w).alloc (Nat.le_refl _) (.cells #[.int .u8 (n / 72057594037927936 % 256)] 5)).grown hg1 (by simp) (fun k hk=>by simp [Value.ownBlock] at hk))
 have hsz1:=hb1.out.size
 clear hg1 own0
 go_wp2_with (at_builtin; go_loud (refine wpList_append_own _ rfl _ _ 36 rfl w.heap.size 5 i0 (.int .u8 0) 1 1 Tryz.underlying36 hi hz0 hz1 hz2 rfl (by decide) (v1) 1 _ rfl (hown1.alloc _) ⟨w1.heap.size, 0, none⟩ 1 1 [.int .u8 (n / 281474976710656 % 256)] rfl rfl (one_new _ _ _ _ rfl) ?a1 ?b1 ?c1 ?d1 ?_))
 case a1=>intro u hu; simp at hu; subst hu; rfl
 case b1=>unfold maxLen; omega
 case c1=>omega
 case d1=>simp; omega
 intro v2 w2 hown2 hg2 _
 have hb2:=Lib.hid ((hb1.out.alloc hsz1 (.cells #[.int .u8 (n / 281474976710656 % 256)] 5)).grown hg2 (by simp; omega) (fun k hk=>(hown1.lt k hk).1))
 have hsz2:=hb2.out.size
 clear hg2 hown1
 go_wp2_with (at_builtin; go_loud (refine wpList_append_own _ rfl _ _ 36 rfl w.heap.size 5 i0 (.int .u8 0) 1 1 Tryz.underlying36 hi hz0 hz1 hz2 rfl (by decide) (v2) 2 _ rfl (hown2.alloc _) ⟨w2.heap.size, 0, none⟩ 1 1 [.int .u8 (n / 1099511627776 % 256)] rfl rfl (one_new _ _ _ _ rfl) ?a2 ?b2 ?c2 ?d2 ?_))
 case a2=>intro u hu; simp at hu; subst hu; rfl
 case b2=>unfold maxLen; omega
 case c2=>omega
 case d2=>simp; omega
 intro v3 w3 hown3 hg3 _
 have hb3:=Lib.hid ((hb2.out.alloc hsz2 (.cells #[.int .u8 (n / 1099511627776 % 256)] 5)).grown hg3 (by simp; omega) (fun k hk=>(hown2.lt k hk).1))
 have hsz3:=hb3.out.size
 clear hg3 hown2
 go_wp2_with (at_builtin; go_loud (refine wpList_append_own _ rfl _ _ 36 rfl w.heap.size 5 i0 (.int .u8 0) 1 1 Tryz.underlying36 hi hz0 hz1 hz2 rfl (by decide) (v3) 3 _ rfl (hown3.alloc _) ⟨w3.heap.size, 0, none⟩ 1 1 [.int .u8 (n / 4294967296 % 256)] rfl rfl (one_new _ _ _ _ rfl) ?a3 ?b3 ?c3 ?d3 ?_))
 case a3=>intro u hu; simp at hu; subst hu; rfl
 case b3=>unfold maxLen; omega
 case c3=>omega
 case d3=>simp; omega
 intro v4 w4 hown4 hg4 _
 have hb4:=Lib.hid ((hb3.out.alloc hsz3 (.cells #[.int .u8 (n / 4294967296 % 256)] 5)).grown hg4 (by simp; omega) (fun k hk=>(hown3.lt k hk).1))
 have hsz4:=hb4.out.size
 clear hg4 hown3
 go_wp2_with (at_builtin; go_loud (refine wpList_append_own _ rfl _ _ 36 rfl w.heap.size 5 i0 (.int .u8 0) 1 1 Tryz.underlying36 hi hz0 hz1 hz2 rfl (by decide) (v4) 4 _ rfl (hown4.alloc _) ⟨w4.heap.size, 0, none⟩ 1 1 [.int .u8 (n / 16777216 % 256)] rfl rfl (one_new _ _ _ _ rfl) ?a4 ?b4 ?c4 ?d4 ?_))
 case a4=>intro u hu; simp at hu; subst hu; rfl
 case b4=>unfold maxLen; omega
 case c4=>omega
 case d4=>simp; omega
 intro v5 w5 hown5 hg5 _
 have hb5:=Lib.hid ((hb4.out.alloc hsz4 (.cells #[.int .u8 (n / 16777216 % 256)] 5)).grown hg5 (by simp; omega) (fun k hk=>(hown4.lt k hk).1))
 have hsz5:=hb5.out.size
 clear hg5 hown4
 go_wp2_with (at_builtin; go_loud (refine wpList_append_own _ rfl _ _ 36 rfl w.heap.size 5 i0 (.int .u8 0) 1 1 Tryz.underlying36 hi hz0 hz1 hz2 rfl (by decide) (v5) 5 _ rfl (hown5.alloc _) ⟨w5.heap.size, 0, none⟩ 1 1 [.int .u8 (n / 65536 % 256)] rfl rfl (one_new _ _ _ _ rfl) ?a5 ?b5 ?c5 ?d5 ?_))
 case a5=>intro u hu; simp at hu; subst hu; rfl
 case b5=>unfold maxLen; omega
 case c5=>omega
 case d5=>simp; omega
 intro v6 w6 hown6 hg6 _
 have hb6:=Lib.hid ((hb5.out.alloc hsz5 (.cells #[.int .u8 (n / 65536 % 256)] 5)).grown hg6 (by simp; omega) (fun k hk=>(hown5.lt k hk).1))
 have hsz6:=hb6.out.size
 clear hg6 hown5
 go_wp2_with (at_builtin; go_loud (refine wpList_append_own _ rfl _ _ 36 rfl w.heap.size 5 i0 (.int .u8 0) 1 1 Tryz.underlying36 hi hz0 hz1 hz2 rfl (by decide) (v6) 6 _ rfl (hown6.alloc _) ⟨w6.heap.size, 0, none⟩ 1 1 [.int .u8 (n / 256 % 256)] rfl rfl (one_new _ _ _ _ rfl) ?a6 ?b6 ?c6 ?d6 ?_))
 case a6=>intro u hu; simp at hu; subst hu; rfl
 case b6=>unfold maxLen; omega
 case c6=>omega
 case d6=>simp; omega
 intro v7 w7 hown7 hg7 _
 have hb7:=Lib.hid ((hb6.out.alloc hsz6 (.cells #[.int .u8 (n / 256 % 256)] 5)).grown hg7 (by simp; omega) (fun k hk=>(hown6.lt k hk).1))
 have hsz7:=hb7.out.size
 clear hg7 hown6
 go_wp2_with (at_builtin; go_loud (refine wpList_append_own _ rfl _ _ 36 rfl w.heap.size 5 i0 (.int .u8 0) 1 1 Tryz.underlying36 hi hz0 hz1 hz2 rfl (by decide) (v7) 7 _ rfl (hown7.alloc _) ⟨w7.heap.size, 0, none⟩ 1 1 [.int .u8 (n % 256)] rfl rfl (one_new _ _ _ _ rfl) ?a7 ?b7 ?c7 ?d7 ?_))
 case a7=>intro u hu; simp at hu; subst hu; rfl
 case b7=>unfold maxLen; omega
 case c7=>omega
 case d7=>simp; omega
 intro v8 w8 hown8 hg8 _
 have hb8:=Lib.hid ((hb7.out.alloc hsz7 (.cells #[.int .u8 (n % 256)] 5)).grown hg8 (by simp; omega) (fun k hk=>(hown7.lt k hk).1))
 have hsz8:=hb8.out.size
 clear hg8 hown7
 have hc:=Lib.hid (conv_own w8 _ v8 8 [n / 72057594037927936 % 256, n / 281474976710656 % 256, n / 1099511627776 % 256, n / 4294967296 % 256, n / 16777216 % 256, n / 65536 % 256, n / 256 % 256, n % 256] hown8 rfl)
 clear hown8
 go_wp2_with fail
 rw [hc.out]
 simp only [Result.andThen]
 rw [Oper.upon_value]
 go_wp2_with fail
 go_ret
 rw [hr.out]
 exact ⟨rfl, hb8.out⟩
theorem Int_any (n : Int) (w : World) (h0 : -9223372036854775808 ≤ n) (h1 : n ≤ 9223372036854775807) :
  Calls Tryz.prog 114 #[.int .i64 n] w fun e w'=>e = .returned (.string (strOfNums (intB n))) ∧ Below w.heap.size w w':=by
 have hp:=few_pos n
 have hm:=few_8 n h0 h1
 rcases (show few n = 1 ∨ few n = 2 ∨ few n = 3 ∨ few n = 4 ∨ few n = 5 ∨ few n = 6 ∨ few n = 7 ∨ few n = 8 by omega) with h | h | h | h | h | h | h | h
 ·exact int_1 n w h h0 h1
 ·exact int_2 n w h h0 h1
 ·exact int_3 n w h h0 h1
 ·exact int_4 n w h h0 h1
 ·exact int_5 n w h h0 h1
 ·exact int_6 n w h h0 h1
 ·exact int_7 n w h h0 h1
 ·exact int_8 n w h h0 h1
end Go.Proofs.YtbdpkfgllnbheaaGreatDoor.Be
