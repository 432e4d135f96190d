import Derived.Test.YtconghaebebncaaGreatDoorProg
import Derived.Test.YtconghaebebncaaGreatDoorZR1
import Derived.WalkKit
import Derived.WalkSpells
import Derived.WalkLawsBesides
import Derived.Deep.QuietTactic
import Derived.BigQuiet
set_option linter.unusedVariables false
set_option maxRecDepth 100000
namespace Go.Proofs.YtconghaebebncaaGreatDoor.Be
open Go.RowKit
theorem ret_int {k : IntKind} {a b : Int} (h : a = b) : Ending.returned (.int k a) = .returned (.int k b):=by rw [h]
theorem ret_bool {a b : Bool} (h : a = b) : Ending.returned (.bool a) = .returned (.bool b):=by rw [h]
theorem get_of (s : ByteArray) (l : List UInt8) (h : s.data.toList = l) (i : Nat) (hi : i < s.size) (x : UInt8) (hx : l[i]? = some x) : s[i] = x:=by
 subst h
 have:=(List.getElem?_eq_some_iff.1 hx).2
 rw [← this]; rfl
theorem u32_join (i : Nat) (a b : Int) (h1 : 0 ≤ a) (h2 : a < 4294967296) (h3 : 0 ≤ b) (h4 : b < 4294967296) (h5 : a.toNat % 2 ^ i = 0) (h6 : b.toNat < 2 ^ i) : bits .or .u32 a b = a + b:=by
 rw [u32_or a b h1 h2 h3 h4, nat_join i _ _ h5 h6]; omega
theorem u8_lt (b : UInt8) : b.toNat < 256:=b.toNat_lt
set_option maxHeartbeats 400000 in
theorem isTag_any (t : Int) (w : World) (h0 : 0 ≤ t) (h1 : t ≤ 255) :
  Calls Tryz.prog 141 #[.int .u8 t] w fun e w'=>e = .returned (.bool (t % 32 != 31)) ∧ w = w':=by
 go_enter Tryz.func141, Tryz.ntmps141
 go_wp2
 go_ret
 exact ⟨rfl, rfl⟩
set_option maxHeartbeats 400000 in
theorem rl4_any (s : ByteArray) (w : World) (h : s.size = 4) :
  Calls Tryz.prog 147 #[.string s] w fun e w'=>e = .returned (.int .u32 (Sp.num s.data.toList)) ∧ w = w':=by
 have hl : s.data.toList.length = 4:=h
 obtain ⟨a, b, c, d, hl⟩ : ∃ a b c d, s.data.toList = [a, b, c, d]:=by
  match s.data.toList, hl with
  | [a, b, c, d], _=>exact ⟨a, b, c, d, rfl⟩
 have key:=get_of s _ hl
 have e0:=key 0 (by omega) a rfl
 have e1:=key (s.size - 1 - 2) (by omega) b (by rw [h]; rfl)
 have e2:=key (s.size - 1 - 1) (by omega) c (by rw [h]; rfl)
 have e3:=key (s.size - 1) (by omega) d (by rw [h]; rfl)
 have ha:=u8_lt a
 have hb:=u8_lt b
 have hc:=u8_lt c
 have hd:=u8_lt d
 have H : Hid (bits .or .u32 (bits .or .u32 (bits .or .u32 (bits .or .u32 0 ((a.toNat:Int) % 4294967296 * 16777216 % 4294967296)) ((b.toNat:Int) % 4294967296 * 65536 % 4294967296)) ((c.toNat:Int) % 4294967296 * 256 % 4294967296)) ((d.toNat:Int) % 4294967296) = (Sp.num s.data.toList : Int)):=by
  show _ = _
  rw [hl]
  rw [u32_join 32 0 _ (by omega) (by omega) (by omega) (by omega) (by decide) (by omega)]
  rw [u32_join 24 (0 + _) _ (by omega) (by omega) (by omega) (by omega) (by omega) (by omega)]
  rw [u32_join 16 (0 + _ + _) _ (by omega) (by omega) (by omega) (by omega) (by omega) (by omega)]
  rw [u32_join 8 (0 + _ + _ + _) _ (by omega) (by omega) (by omega) (by omega) (by omega) (by omega)]
  simp only [Sp.num, List.foldl]
  push_cast
  omega
 have h1 : ((s.size : Int) == 4) = true:=by simp [h]
 have h2 : s.size ≤ 4:=by omega
 have h3 : 4 ≤ s.size:=by omega
 have E : Hid (∀ h0 h1 h2 h3, s[0]'h0 = a ∧ s[s.size - 1 - 2]'h1 = b ∧ s[s.size - 1 - 1]'h2 = c ∧ s[s.size - 1]'h3 = d):=fun _ _ _ _=>⟨e0, e1, e2, e3⟩
 clear h hl key e0 e1 e2 e3
 go_enter Tryz.func147, Tryz.ntmps147
 go_wp2
 go_ret
 obtain ⟨e0, e1, e2, e3⟩:=E.out (by omega) (by omega) (by omega) (by omega)
 refine ⟨?_, rfl⟩
 refine ret_int ?_
 rw [e0, e1, e2, e3]
 exact H.out
set_option maxHeartbeats 400000 in
theorem rl3_any (s : ByteArray) (w : World) (h : s.size = 3) :
  Calls Tryz.prog 147 #[.string s] w fun e w'=>e = .returned (.int .u32 (Sp.num s.data.toList)) ∧ w = w':=by
 have hl : s.data.toList.length = 3:=h
 obtain ⟨b, c, d, hl⟩ : ∃ b c d, s.data.toList = [b, c, d]:=by
  match s.data.toList, hl with
  | [b, c, d], _=>exact ⟨b, c, d, rfl⟩
 have key:=get_of s _ hl
 have e1:=key 0 (by omega) b rfl
 have e2:=key (s.size - 1 - 1) (by omega) c (by rw [h]; rfl)
 have e3:=key (s.size - 1) (by omega) d (by rw [h]; rfl)
 have hb:=u8_lt b
 have hc:=u8_lt c
 have hd:=u8_lt d
 have H : Hid (bits .or .u32 (bits .or .u32 (bits .or .u32 0 ((b.toNat:Int) % 4294967296 * 65536 % 4294967296)) ((c.toNat:Int) % 4294967296 * 256 % 4294967296)) ((d.toNat:Int) % 4294967296) = (Sp.num s.data.toList : Int)):=by
  show _ = _
  rw [hl]
  rw [u32_join 32 0 _ (by omega) (by omega) (by omega) (by omega) (by decide) (by omega)]
  rw [u32_join 16 (0 + _) _ (by omega) (by omega) (by omega) (by omega) (by omega) (by omega)]
  rw [u32_join 8 (0 + _ + _) _ (by omega) (by omega) (by omega) (by omega) (by omega) (by omega)]
  simp only [Sp.num, List.foldl]
  push_cast
  omega
 have h1 : ((s.size : Int) == 4) = false:=beq_eq_false_iff_ne.2 (by omega)
 have h1' : ((s.size : Int) == 3) = true:=by simp [h]
 have h2 : s.size ≤ 3:=by omega
 have h3 : 3 ≤ s.size:=by omega
 have E : Hid (∀ h0 h1 h2, s[0]'h0 = b ∧ s[s.size - 1 - 1]'h1 = c ∧ s[s.size - 1]'h2 = d):=fun _ _ _=>⟨e1, e2, e3⟩
 clear h hl key e1 e2 e3
 go_enter Tryz.func147, Tryz.ntmps147
 go_wp2
 go_ret
 obtain ⟨e1, e2, e3⟩:=E.out (by omega) (by omega) (by omega)
 refine ⟨?_, rfl⟩
 refine ret_int ?_
 rw [e1, e2, e3]
 exact H.out
set_option maxHeartbeats 400000 in
theorem rl2_any (s : ByteArray) (w : World) (h : s.size = 2) :
  Calls Tryz.prog 147 #[.string s] w fun e w'=>e = .returned (.int .u32 (Sp.num s.data.toList)) ∧ w = w':=by
 have hl : s.data.toList.length = 2:=h
 obtain ⟨c, d, hl⟩ : ∃ c d, s.data.toList = [c, d]:=by
  match s.data.toList, hl with
  | [c, d], _=>exact ⟨c, d, rfl⟩
 have key:=get_of s _ hl
 have e2:=key 0 (by omega) c rfl
 have e3:=key (s.size - 1) (by omega) d (by rw [h]; rfl)
 have hc:=u8_lt c
 have hd:=u8_lt d
 have H : Hid (bits .or .u32 (bits .or .u32 0 ((c.toNat:Int) % 4294967296 * 256 % 4294967296)) ((d.toNat:Int) % 4294967296) = (Sp.num s.data.toList : Int)):=by
  show _ = _
  rw [hl]
  rw [u32_join 32 0 _ (by omega) (by omega) (by omega) (by omega) (by decide) (by omega)]
  rw [u32_join 8 (0 + _) _ (by omega) (by omega) (by omega) (by omega) (by omega) (by omega)]
  simp only [Sp.num, List.foldl]
  push_cast
  omega
 have h1 : ((s.size : Int) == 4) = false:=beq_eq_false_iff_ne.2 (by omega)
 have h1' : ((s.size : Int) == 3) = false:=beq_eq_false_iff_ne.2 (by omega)
 have h1'' : ((s.size : Int) == 2) = true:=by simp [h]
 have h2 : s.size ≤ 2:=by omega
 have h3 : 2 ≤ s.size:=by omega
 have E : Hid (∀ h1 h2, s[0]'h1 = c ∧ s[s.size - 1]'h2 = d):=fun _ _=>⟨e2, e3⟩
 clear h hl key e2 e3
 go_enter Tryz.func147, Tryz.ntmps147
 go_wp2
 go_ret
 obtain ⟨e2, e3⟩:=E.out (by omega) (by omega)
 refine ⟨?_, rfl⟩
 refine ret_int ?_
 rw [e2, e3]
 exact H.out
set_option maxHeartbeats 400000 in
theorem rl1_any (s : ByteArray) (w : World) (h : s.size = 1) :
  Calls Tryz.prog 147 #[.string s] w fun e w'=>e = .returned (.int .u32 (Sp.num s.data.toList)) ∧ w = w':=by
 have hl : s.data.toList.length = 1:=h
 obtain ⟨d, hl⟩ : ∃ d, s.data.toList = [d]:=by
  match s.data.toList, hl with
  | [d], _=>exact ⟨d, rfl⟩
 have key:=get_of s _ hl
 have e3:=key 0 (by omega) d rfl
 have hd:=u8_lt d
 have H : Hid (bits .or .u32 0 ((d.toNat:Int) % 4294967296) = (Sp.num s.data.toList : Int)):=by
  show _ = _
  rw [hl]
  rw [u32_join 32 0 _ (by omega) (by omega) (by omega) (by omega) (by decide) (by omega)]
  simp only [Sp.num, List.foldl]
  push_cast
  omega
 have h1 : ((s.size : Int) == 4) = false:=beq_eq_false_iff_ne.2 (by omega)
 have h1' : ((s.size : Int) == 3) = false:=beq_eq_false_iff_ne.2 (by omega)
 have h1'' : ((s.size : Int) == 2) = false:=beq_eq_false_iff_ne.2 (by omega)
 have h1''' : ((s.size : Int) == 1) = true:=by simp [h]
 have h2 : s.size ≤ 1:=by omega
 have h3 : 1 ≤ s.size:=by omega
 have E : Hid (∀ h2, s[0]'h2 = d):=fun _=>e3
 clear h hl key e3
 go_enter Tryz.func147, Tryz.ntmps147
 go_wp2
 go_ret
 have e3:=E.out (by omega)
 refine ⟨?_, rfl⟩
 refine ret_int ?_
 rw [e3]
 exact H.out
theorem rl_any (s : ByteArray) (w : World) (h : 1 ≤ s.size) (h' : s.size ≤ 4) :
  Calls Tryz.prog 147 #[.string s] w fun e w'=>e = .returned (.int .u32 (Sp.num s.data.toList)) ∧ w = w':=by
 rcases (show s.size = 1 ∨ s.size = 2 ∨ s.size = 3 ∨ s.size = 4 by omega) with h | h | h | h
 ·exact rl1_any s w h
 ·exact rl2_any s w h
 ·exact rl3_any s w h
 ·exact rl4_any s w h
set_option maxHeartbeats 400000 in
theorem head_0 (s : ByteArray) (w : World) (h : s.size ≤ maxLen) (h0 : s.size = 0) :
  Calls Tryz.prog 123 #[.string s] w fun e w'=>e = .returned (.tuple #[.int .i64 0, .int .i64 0, .int .i64 10]) ∧ Below w.heap.size w w':=by
 have h0 : ((s.size : Int) == 0) = true:=by simp [h0]
 go_enter Tryz.func123, Tryz.ntmps123
 go_wp2_with fail
 go_ret3
 exact ⟨rfl, Below.refl _ _⟩
set_option maxHeartbeats 400000 in
theorem head_1 (s : ByteArray) (w : World) (h : s.size ≤ maxLen) (h0 : 0 < s.size) (ht : ((s[0].toNat : Int) % 32 != 31) = false) :
  Calls Tryz.prog 123 #[.string s] w fun e w'=>e = .returned (.tuple #[.int .i64 0, .int .i64 0, .int .i64 14]) ∧ Below w.heap.size w w':=by
 have h1 : ((s.size : Int) == 0) = false:=beq_eq_false_iff_ne.2 (by omega)
 have hb:=u8_lt s[0]
 go_enter Tryz.func123, Tryz.ntmps123
 go_wp2_with (go_at_call 141; refine (isTag_any _ _ (by omega) (by omega)).mono ?_; rintro e w' ⟨rfl, rfl⟩)
 go_ret3
 exact ⟨rfl, Below.refl _ _⟩
set_option maxHeartbeats 400000 in
theorem head_2 (s : ByteArray) (w : World) (h : s.size ≤ maxLen) (h0 : 0 < s.size) (ht : ((s[0].toNat : Int) % 32 != 31) = true) (hs : s.size = 1) :
  Calls Tryz.prog 123 #[.string s] w fun e w'=>e = .returned (.tuple #[.int .i64 0, .int .i64 0, .int .i64 10]) ∧ Below w.heap.size w w':=by
 have h1 : ((s.size : Int) == 0) = false:=beq_eq_false_iff_ne.2 (by omega)
 have h2 : ((s.size : Int) == 1) = true:=by simp [hs]
 have hb:=u8_lt s[0]
 clear hs
 go_enter Tryz.func123, Tryz.ntmps123
 go_wp2_with (go_at_call 141; refine (isTag_any _ _ (by omega) (by omega)).mono ?_; rintro e w' ⟨rfl, rfl⟩)
 go_ret3
 exact ⟨rfl, Below.refl _ _⟩
set_option maxHeartbeats 400000 in
theorem head_3 (s : ByteArray) (w : World) (h : s.size ≤ maxLen) (h0 : 1 < s.size) (h00 : 0 < s.size) (ht : ((s[0].toNat : Int) % 32 != 31) = true) (hb : (s[1].toNat : Int) < 128) :
  Calls Tryz.prog 123 #[.string s] w fun e w'=>e = .returned (.tuple #[.int .i64 2, .int .i64 s[1].toNat, .int .i64 0]) ∧ Below w.heap.size w w':=by
 have h1 : ((s.size : Int) == 0) = false:=beq_eq_false_iff_ne.2 (by omega)
 have h2 : ((s.size : Int) == 1) = false:=beq_eq_false_iff_ne.2 (by omega)
 have hb0:=u8_lt s[0]
 go_enter Tryz.func123, Tryz.ntmps123
 go_wp2_with (go_at_call 141; refine (isTag_any _ _ (by omega) (by omega)).mono ?_; rintro e w' ⟨rfl, rfl⟩)
 go_region
 go_wp2_with fail
 go_ret3
 exact ⟨rfl, (Below.refl _ _).drew⟩
set_option maxHeartbeats 400000 in
theorem head_4 (s : ByteArray) (w : World) (h : s.size ≤ maxLen) (h0 : 1 < s.size) (h00 : 0 < s.size) (ht : ((s[0].toNat : Int) % 32 != 31) = true) (hb : s[1].toNat = 128) :
  Calls Tryz.prog 123 #[.string s] w fun e w'=>e = .returned (.tuple #[.int .i64 0, .int .i64 0, .int .i64 11]) ∧ Below w.heap.size w w':=by
 have h1 : ((s.size : Int) == 0) = false:=beq_eq_false_iff_ne.2 (by omega)
 have h2 : ((s.size : Int) == 1) = false:=beq_eq_false_iff_ne.2 (by omega)
 have hb0:=u8_lt s[0]
 have hb1 : ((s[1].toNat : Int) == 128) = true:=by simp [hb]
 have hb2 : (128 : Int) ≤ (s[1].toNat : Int):=by omega
 clear hb
 go_enter Tryz.func123, Tryz.ntmps123
 go_wp2_with (go_at_call 141; refine (isTag_any _ _ (by omega) (by omega)).mono ?_; rintro e w' ⟨rfl, rfl⟩)
 go_ret3
 exact ⟨rfl, (Below.refl _ _)⟩
set_option maxHeartbeats 400000 in
theorem head_5 (s : ByteArray) (w : World) (h : s.size ≤ maxLen) (h0 : 1 < s.size) (h00 : 0 < s.size) (ht : ((s[0].toNat : Int) % 32 != 31) = true) (hb : (132 : Int) < s[1].toNat) :
  Calls Tryz.prog 123 #[.string s] w fun e w'=>e = .returned (.tuple #[.int .i64 0, .int .i64 0, .int .i64 11]) ∧ Below w.heap.size w w':=by
 have h1 : ((s.size : Int) == 0) = false:=beq_eq_false_iff_ne.2 (by omega)
 have h2 : ((s.size : Int) == 1) = false:=beq_eq_false_iff_ne.2 (by omega)
 have hb0:=u8_lt s[0]
 have hb1 : ((s[1].toNat : Int) == 128) = false:=beq_eq_false_iff_ne.2 (by omega)
 have hb2 : (128 : Int) ≤ (s[1].toNat : Int):=by omega
 go_enter Tryz.func123, Tryz.ntmps123
 go_wp2_with (go_at_call 141; refine (isTag_any _ _ (by omega) (by omega)).mono ?_; rintro e w' ⟨rfl, rfl⟩)
 go_ret3
 exact ⟨rfl, (Below.refl _ _)⟩
set_option maxHeartbeats 400000 in
theorem head_6 (s : ByteArray) (w : World) (h : s.size ≤ maxLen) (h0 : 1 < s.size) (h00 : 0 < s.size) (ht : ((s[0].toNat : Int) % 32 != 31) = true) (hb : (128 : Int) < s[1].toNat) (hb' : (s[1].toNat : Int) ≤ 132)
  (hs : (s.size : Int) < 2 + (s[1].toNat - 128)) :
  Calls Tryz.prog 123 #[.string s] w fun e w'=>e = .returned (.tuple #[.int .i64 0, .int .i64 0, .int .i64 10]) ∧ Below w.heap.size w w':=by
 have h1 : ((s.size : Int) == 0) = false:=beq_eq_false_iff_ne.2 (by omega)
 have h2 : ((s.size : Int) == 1) = false:=beq_eq_false_iff_ne.2 (by omega)
 have hb0:=u8_lt s[0]
 have hb1 : ((s[1].toNat : Int) == 128) = false:=beq_eq_false_iff_ne.2 (by omega)
 go_enter Tryz.func123, Tryz.ntmps123
 go_wp2_with (go_at_call 141; refine (isTag_any _ _ (by omega) (by omega)).mono ?_; rintro e w' ⟨rfl, rfl⟩)
 go_ret3
 exact ⟨rfl, (Below.refl _ _)⟩
theorem num_lt_from (l : List UInt8) : ∀ n : Nat, l.foldl (fun n b=>256 * n + b.toNat) n < (n + 1) * 256 ^ l.length:=by
 induction l with
 | nil=>intro n; simp
 | cons b l ih =>
  intro n
  refine Nat.lt_of_lt_of_le (ih _) ?_
  have hb:=u8_lt b
  rw [List.length_cons, Nat.pow_succ, Nat.mul_comm (256 ^ l.length) 256, ← Nat.mul_assoc]
  refine Nat.mul_le_mul_right _ (?_ : 256 * n + b.toNat + 1 ≤ (n + 1) * 256)
  omega
theorem num_lt (l : List UInt8) : Sp.num l < 256 ^ l.length:=by
 have:=num_lt_from l 0
 simpa [Sp.num] using this
theorem num_lt4 (l : List UInt8) (h : l.length ≤ 4) : Sp.num l ≤ 4294967295:=by
 have h1:=num_lt l
 have h2 : (256 : Nat) ^ l.length ≤ 256 ^ 4:=Nat.pow_le_pow_right (by omega) h
 have h3 : (256 : Nat) ^ 4 = 4294967296:=by decide
 omega
set_option maxHeartbeats 400000 in
theorem head_7 (s : ByteArray) (w : World) (h : s.size ≤ maxLen) (h0 : 1 < s.size) (h00 : 0 < s.size) (ht : ((s[0].toNat : Int) % 32 != 31) = true) (hb : (128 : Int) < s[1].toNat) (hb' : (s[1].toNat : Int) ≤ 132)
  (hs : 2 + ((s[1].toNat : Int) - 128) ≤ s.size) (m : Nat) (hm : (m : Int) ≤ 4000)
  (C : ∀ w, Calls Tryz.prog 147 #[.string (s.extract 2 (2 + (s[1].toNat - 128)))] w fun e w'=>e = .returned (.int .u32 m) ∧ w = w') :
  Calls Tryz.prog 123 #[.string s] w fun e w'=>e = .returned (.tuple #[.int .i64 (2 + ((s[1].toNat : Int) - 128)), .int .i64 m, .int .i64 0]) ∧ Below w.heap.size w w':=by
 have h1 : ((s.size : Int) == 0) = false:=beq_eq_false_iff_ne.2 (by omega)
 have h2 : ((s.size : Int) == 1) = false:=beq_eq_false_iff_ne.2 (by omega)
 have hb0:=u8_lt s[0]
 have hb1 : ((s[1].toNat : Int) == 128) = false:=beq_eq_false_iff_ne.2 (by omega)
 go_enter Tryz.func123, Tryz.ntmps123
 go_wp2_with (go_at_call 141; refine (isTag_any _ _ (by omega) (by omega)).mono ?_; rintro e w' ⟨rfl, rfl⟩)
 go_wp2_with (go_at_call 147; refine (C _).mono ?_; rintro e w' ⟨rfl, rfl⟩)
 go_ret3
 exact ⟨rfl, (Below.refl _ _)⟩
set_option maxHeartbeats 400000 in
theorem head_8 (s : ByteArray) (w : World) (h : s.size ≤ maxLen) (h0 : 1 < s.size) (h00 : 0 < s.size) (ht : ((s[0].toNat : Int) % 32 != 31) = true) (hb : (128 : Int) < s[1].toNat) (hb' : (s[1].toNat : Int) ≤ 132)
  (hs : 2 + ((s[1].toNat : Int) - 128) ≤ s.size) (m : Nat) (hm : (4000 : Int) < m) (hm' : (m : Int) ≤ 4294967295)
  (C : ∀ w, Calls Tryz.prog 147 #[.string (s.extract 2 (2 + (s[1].toNat - 128)))] w fun e w'=>e = .returned (.int .u32 m) ∧ w = w') :
  Calls Tryz.prog 123 #[.string s] w fun e w'=>e = .returned (.tuple #[.int .i64 0, .int .i64 0, .int .i64 13]) ∧ Below w.heap.size w w':=by
 have h1 : ((s.size : Int) == 0) = false:=beq_eq_false_iff_ne.2 (by omega)
 have h2 : ((s.size : Int) == 1) = false:=beq_eq_false_iff_ne.2 (by omega)
 have hb0:=u8_lt s[0]
 have hb1 : ((s[1].toNat : Int) == 128) = false:=beq_eq_false_iff_ne.2 (by omega)
 go_enter Tryz.func123, Tryz.ntmps123
 go_wp2_with (go_at_call 141; refine (isTag_any _ _ (by omega) (by omega)).mono ?_; rintro e w' ⟨rfl, rfl⟩)
 go_wp2_with (go_at_call 147; refine (C _).mono ?_; rintro e w' ⟨rfl, rfl⟩)
 go_ret3
 exact ⟨rfl, (Below.refl _ _)⟩
def hdV (l : List UInt8) : Value:=.tuple #[.int .i64 (Sp.hd l).1, .int .i64 (Sp.hd l).2.1, .int .i64 (Sp.hd l).2.2]
theorem hdV_of {l : List UInt8} {a b c : Nat} (h : Sp.hd l = (a, b, c)) : hdV l = .tuple #[.int .i64 a, .int .i64 b, .int .i64 c]:=by
 unfold hdV; rw [h]
theorem bne31 (t : UInt8) : (((t.toNat : Int) % 32) != 31) = !decide (t.toNat % 32 = 31):=by
 rw [Bool.eq_iff_iff]; simp; omega
theorem ret_hd {l : List UInt8} {a b c : Nat} {x y z : Int} (h : Sp.hd l = (a, b, c)) (hx : x = a) (hy : y = b) (hz : z = c) :
  Ending.returned (.tuple #[.int .i64 x, .int .i64 y, .int .i64 z]) = .returned (hdV l):=by
 subst hx hy hz; rw [hdV_of h]
theorem Head_any (s : ByteArray) (w : World) (h : s.size ≤ maxLen) :
  Calls Tryz.prog 123 #[.string s] w fun e w'=>e = .returned (hdV s.data.toList) ∧ Below w.heap.size w w':=by
 have hsz : s.data.toList.length = s.size:=rfl
 cases hl : s.data.toList with
 | nil =>
  rw [hl] at hsz
  exact (head_0 s w h hsz.symm).mono fun e w' ⟨he, hb⟩=>⟨he.trans (ret_hd (a:=0) (b:=0) (c:=10) rfl rfl rfl rfl), hb⟩
 | cons t r =>
  rw [hl] at hsz
  simp only [List.length_cons] at hsz
  have h00 : 0 < s.size:=by omega
  have e0 : s[0] = t:=get_of s _ hl 0 h00 t rfl
  by_cases ht : t.toNat % 32 = 31
  ·exact (head_1 s w h h00 (by rw [e0, bne31]; simp [ht])).mono fun e w' ⟨he, hb⟩=>⟨he.trans (ret_hd (a:=0) (b:=0) (c:=14) (by simp [Sp.hd, ht]) rfl rfl rfl), hb⟩
  have ht' : ((s[0].toNat : Int) % 32 != 31) = true:=by rw [e0, bne31]; simp [ht]
  cases r with
  | nil=>exact (head_2 s w h h00 ht' (by simp at hsz; omega)).mono fun e w' ⟨he, hb⟩=>⟨he.trans (ret_hd (a:=0) (b:=0) (c:=10) (by simp [Sp.hd, ht]) rfl rfl rfl), hb⟩
  | cons b r =>
   simp only [List.length_cons] at hsz
   have h0 : 1 < s.size:=by omega
   have e1 : s[1] = b:=get_of s _ hl 1 h0 b rfl
   have hb:=u8_lt b
   by_cases c1 : b.toNat < 128
   ·exact (head_3 s w h h0 h00 ht' (by rw [e1]; omega)).mono fun e w' ⟨he, hb⟩=>⟨he.trans (ret_hd (a:=2) (b:=b.toNat) (c:=0) (by simp [Sp.hd, ht, c1]) rfl (by rw [e1]) rfl), hb⟩
   by_cases c2 : b.toNat = 128
   ·exact (head_4 s w h h0 h00 ht' (by rw [e1]; omega)).mono fun e w' ⟨he, hb⟩=>⟨he.trans (ret_hd (a:=0) (b:=0) (c:=11) (by simp [Sp.hd, ht, c2]) rfl rfl rfl), hb⟩
   by_cases c3 : 132 < b.toNat
   ·exact (head_5 s w h h0 h00 ht' (by rw [e1]; omega)).mono fun e w' ⟨he, hb⟩=>⟨he.trans (ret_hd (a:=0) (b:=0) (c:=11) (by simp [Sp.hd, ht, c1, c3]) rfl rfl rfl), hb⟩
   by_cases c4 : r.length < b.toNat - 128
   ·exact (head_6 s w h h0 h00 ht' (by rw [e1]; omega) (by rw [e1]; omega) (by rw [e1]; omega)).mono fun e w' ⟨he, hb⟩ =>
     ⟨he.trans (ret_hd (a:=0) (b:=0) (c:=10) (by simp [Sp.hd, ht, c1, c2, c3, c4]) rfl rfl rfl), hb⟩
   have hx : (s.extract 2 (2 + (s[1].toNat - 128))).data.toList = r.take (b.toNat - 128):=by
    rw [Go.Lib.extract_data, hl, e1]; simp
   have hlen : (r.take (b.toNat - 128)).length = b.toNat - 128:=by simp; omega
   have hxs : (s.extract 2 (2 + (s[1].toNat - 128))).size = b.toNat - 128:=by
    rw [← hlen, ← hx]; rfl
   have C : ∀ w, Calls Tryz.prog 147 #[.string (s.extract 2 (2 + (s[1].toNat - 128)))] w fun e w'=>e = .returned (.int .u32 (Sp.num (r.take (b.toNat - 128)))) ∧ w = w':=by
    intro w
    have:=rl_any (s.extract 2 (2 + (s[1].toNat - 128))) w (by omega) (by omega)
    rwa [hx] at this
   have hm':=num_lt4 (r.take (b.toNat - 128)) (by omega)
   by_cases c5 : 4000 < Sp.num (r.take (b.toNat - 128))
   ·exact (head_8 s w h h0 h00 ht' (by rw [e1]; omega) (by rw [e1]; omega) (by rw [e1]; omega) _ (by omega) (by omega) C).mono fun e w' ⟨he, hb⟩ =>
     ⟨he.trans (ret_hd (a:=0) (b:=0) (c:=13) (by simp [Sp.hd, ht, c1, c2, c3, c4, c5]) rfl rfl rfl), hb⟩
   ·exact (head_7 s w h h0 h00 ht' (by rw [e1]; omega) (by rw [e1]; omega) (by rw [e1]; omega) _ (by omega) C).mono fun e w' ⟨he, hb⟩ =>
     ⟨he.trans (ret_hd (a:=2 + (b.toNat - 128)) (b:=Sp.num (r.take (b.toNat - 128))) (c:=0) (by simp [Sp.hd, ht, c1, c2, c3, c4, c5]) (by rw [e1]; omega) rfl rfl), hb⟩
end Go.Proofs.YtconghaebebncaaGreatDoor.Be
