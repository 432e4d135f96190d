import Derived.Test.YtbdpkfgllnbheaaGreatDoorZQ5
import Derived.Test.YtbdpkfgllnbheaaGreatDoorZQ12
set_option linter.unusedVariables false
set_option maxRecDepth 100000
namespace Go.Proofs.YtbdpkfgllnbheaaGreatDoor.Be
open Go.RowKit
theorem toList_size (s : ByteArray) : s.toList.length = s.size:=by rw [Go.Lib.toList_data]; rfl
theorem isEmpty_false (s : ByteArray) (h : 0 < s.size) : s.toList.isEmpty = false:=by
 rw [List.isEmpty_eq_false_iff]
 intro e
 have:=toList_size s
 rw [e] at this
 simp at this; omega
theorem or_first (b : UInt8) : bits .or .i64 (wrap64 (wrap64 (IntKind.i8.wrap (b.toNat : Int) / 128) * 256)) (wrap64 (b.toNat : Int)) = if b.toNat < 128 then (b.toNat : Int) else (b.toNat : Int) - 256:=by
 have hb:=u8_lt b
 have e : IntKind.i8.wrap (b.toNat : Int) / 128 = if b.toNat < 128 then 0 else -1:=by
  have : IntKind.i8.wrap (b.toNat : Int) = ((b.toNat : Int) + 128) % 256 - 128:=by
   simp [IntKind.wrap, IntKind.bits, IntKind.signed]
   split <;> omega
  rw [this]
  split <;> omega
 have e2 : wrap64 (b.toNat : Int) = b.toNat:=by unfold wrap64; omega
 rw [e, e2]
 split
 ·rw [show wrap64 (wrap64 (0 : Int) * 256) = 0 by unfold wrap64; omega, i64_or8 _ _ (by omega) (by omega) (by omega) (by omega) (by omega)]; omega
 ·rw [show wrap64 (wrap64 (-1 : Int) * 256) = -256 by unfold wrap64; omega, i64_or8 _ _ (by omega) (by omega) (by omega) (by omega) (by omega)]; omega
theorem or_next (x : Int) (b : UInt8) (h0 : -36028797018963968 ≤ x) (h1 : x ≤ 36028797018963967) : bits .or .i64 (wrap64 (x * 256)) (wrap64 (b.toNat : Int)) = 256 * x + b.toNat:=by
 have hb:=u8_lt b
 have e2 : wrap64 (b.toNat : Int) = b.toNat:=by unfold wrap64; omega
 have e3 : wrap64 (x * 256) = x * 256:=by unfold wrap64; omega
 rw [e2, e3, i64_or8 _ _ (by omega) (by omega) (by omega) (by omega) (by omega)]; omega
def rdV (l : List UInt8) : Value:=.tuple #[.int .i64 ((rdI l).getD 0), .bool (rdI l).isSome]
theorem rdV_some {l : List UInt8} {n : Int} (h : rdI l = some n) : rdV l = .tuple #[.int .i64 n, .bool true]:=by simp [rdV, h]
theorem rdV_none {l : List UInt8} (h : rdI l = none) : rdV l = .tuple #[.int .i64 0, .bool false]:=by simp [rdV, h]
theorem rdI_ok {l : List UInt8} (h0 : 1 ≤ l.length) (h8 : l.length ≤ 8) (h : few (sval l) = l.length) : rdI l = some (sval l):=by
 unfold rdI; rw [if_pos ⟨by omega, h8, h⟩]
theorem rdI_bad {l : List UInt8} (h : few (sval l) ≠ l.length) : rdI l = none:=by
 unfold rdI; rw [if_neg (fun h'=>h h'.2.2)]
theorem rdI_long {l : List UInt8} (h : 8 < l.length) : rdI l = none:=by
 unfold rdI; rw [if_neg (by omega)]
theorem sval_i64 {l : List UInt8} (h1 : 1 ≤ l.length) (h : l.length ≤ 8) : -9223372036854775808 ≤ sval l ∧ sval l ≤ 9223372036854775807:=by
 have hr:=sval_range l (by intro e; rw [e] at h1; simp at h1)
 have hp : (2 : Int) ^ (8 * l.length - 1) ≤ 9223372036854775808:=by
  have:=Nat.pow_le_pow_right (n:=2) (by omega) (show 8 * l.length - 1 ≤ 63 by omega)
  have h3 : (2 : Nat) ^ 63 = 9223372036854775808:=by decide
  rw [h3] at this
  have h4 : ((2 ^ (8 * l.length - 1) : Nat) : Int) ≤ 9223372036854775808:=by omega
  rwa [Int.natCast_pow] at h4
 omega
theorem read_1_e (s : ByteArray) (h : s.size = 1) : ∃ b0 : UInt8, s.data.toList = [b0] ∧ (∀ h0, s[0]'h0 = b0):=by
 have hl : s.data.toList.length = 1:=h
 obtain ⟨b0, hl⟩ : ∃ b0, s.data.toList = [b0]:=by
  match s.data.toList, hl with
  | [b0], _=>exact ⟨b0, rfl⟩
 have key:=get_of s _ hl
 refine ⟨b0, hl, fun h0=>?_⟩
 exact key 0 h0 b0 (by rfl)
theorem read_1_v (s : ByteArray) (h : s.size = 1) (H : True ∧ 0 < s.size) :
  bits .or .i64 (wrap64 (wrap64 (IntKind.i8.wrap ((s[0]'(H.2)).toNat : Int) / 128) * 256)) (wrap64 ((s[0]'(H.2)).toNat : Int)) = sval s.data.toList:=by
 obtain ⟨b0, hl, hE⟩:=read_1_e s h
 have e0:=hE H.2
 rw [hl, e0]
 have c0:=u8_lt b0
 rw [or_first b0]
 have hsv : sval [b0] = say (if b0.toNat < 128 then (b0.toNat : Int) else (b0.toNat : Int) - 256) []:=rfl
 rw [hsv]
 have ha : -128 ≤ (if b0.toNat < 128 then (b0.toNat : Int) else (b0.toNat : Int) - 256) ∧ (if b0.toNat < 128 then (b0.toNat : Int) else (b0.toNat : Int) - 256) ≤ 127:=by split <;> omega
 generalize (if b0.toNat < 128 then (b0.toNat : Int) else (b0.toNat : Int) - 256) = a at *
 rfl
set_option maxHeartbeats 1000000 in
theorem read_1_ok (s : ByteArray) (w : World) (h : s.size = 1) (hf : few (sval s.data.toList) = s.data.toList.length) :
  Calls Tryz.prog 104 #[.string s] w fun e w'=>e = .returned (rdV s.data.toList) ∧ Below w.heap.size w w':=by
 have hlen : s.data.toList.length = s.size:=rfl
 have hsv:=sval_i64 (l:=s.data.toList) (by omega) (by omega)
 have HR:=Lib.hid (rdV_some (rdI_ok (l:=s.data.toList) (by omega) (by omega) hf))
 have HC : Hid (∀ w, Calls Tryz.prog 134 #[.int .i64 (sval s.data.toList)] w fun e w'=>e = .returned (.int .i64 (few (sval s.data.toList))) ∧ w = w'):=fun w=>fewest_any _ w hsv.1 hsv.2
 have HV:=Lib.hid (read_1_v s h)
 have hs0:=isEmpty_false s (by omega)
 have q8 : ((s.size : Int) == 8) = false:=beq_eq_false_iff_ne.2 (by omega)
 have q7 : ((s.size : Int) == 7) = false:=beq_eq_false_iff_ne.2 (by omega)
 have q6 : ((s.size : Int) == 6) = false:=beq_eq_false_iff_ne.2 (by omega)
 have q5 : ((s.size : Int) == 5) = false:=beq_eq_false_iff_ne.2 (by omega)
 have q4 : ((s.size : Int) == 4) = false:=beq_eq_false_iff_ne.2 (by omega)
 have q3 : ((s.size : Int) == 3) = false:=beq_eq_false_iff_ne.2 (by omega)
 have q2 : ((s.size : Int) == 2) = false:=beq_eq_false_iff_ne.2 (by omega)
 have q1 : ((s.size : Int) == 1) = true:=by simp [h]
 have hA : 1 ≤ s.size:=by omega
 have hB : s.size ≤ 1:=by omega
 have hcmp : ((few (sval s.data.toList) : Int) != s.size) = false:=by rw [bne_eq_false_iff_eq]; omega
 generalize hgv : sval s.data.toList = v at *
 clear h hf hlen hgv
 go_enter Tryz.func104, Tryz.ntmps104
 go_wp2_with fail
 rw [HV.out (by refine ⟨trivial, ?_⟩; omega)]
 refine (HC.out _).mono ?_
 rintro e w' ⟨rfl, rfl⟩
 go_wp2_with fail
 go_ret2
 rw [HR.out]
 exact ⟨rfl, Below.refl _ _⟩
set_option maxHeartbeats 1000000 in
theorem read_1_bad (s : ByteArray) (w : World) (h : s.size = 1) (hf : few (sval s.data.toList) ≠ s.data.toList.length) :
  Calls Tryz.prog 104 #[.string s] w fun e w'=>e = .returned (rdV s.data.toList) ∧ Below w.heap.size w w':=by
 have hlen : s.data.toList.length = s.size:=rfl
 have hsv:=sval_i64 (l:=s.data.toList) (by omega) (by omega)
 have HR:=Lib.hid (rdV_none (rdI_bad hf))
 have HC : Hid (∀ w, Calls Tryz.prog 134 #[.int .i64 (sval s.data.toList)] w fun e w'=>e = .returned (.int .i64 (few (sval s.data.toList))) ∧ w = w'):=fun w=>fewest_any _ w hsv.1 hsv.2
 have HV:=Lib.hid (read_1_v s h)
 have hs0:=isEmpty_false s (by omega)
 have q8 : ((s.size : Int) == 8) = false:=beq_eq_false_iff_ne.2 (by omega)
 have q7 : ((s.size : Int) == 7) = false:=beq_eq_false_iff_ne.2 (by omega)
 have q6 : ((s.size : Int) == 6) = false:=beq_eq_false_iff_ne.2 (by omega)
 have q5 : ((s.size : Int) == 5) = false:=beq_eq_false_iff_ne.2 (by omega)
 have q4 : ((s.size : Int) == 4) = false:=beq_eq_false_iff_ne.2 (by omega)
 have q3 : ((s.size : Int) == 3) = false:=beq_eq_false_iff_ne.2 (by omega)
 have q2 : ((s.size : Int) == 2) = false:=beq_eq_false_iff_ne.2 (by omega)
 have q1 : ((s.size : Int) == 1) = true:=by simp [h]
 have hA : 1 ≤ s.size:=by omega
 have hB : s.size ≤ 1:=by omega
 have hcmp : ((few (sval s.data.toList) : Int) != s.size) = true:=by rw [bne_iff_ne]; omega
 generalize hgv : sval s.data.toList = v at *
 clear h hf hlen hgv
 go_enter Tryz.func104, Tryz.ntmps104
 go_wp2_with fail
 rw [HV.out (by refine ⟨trivial, ?_⟩; omega)]
 refine (HC.out _).mono ?_
 rintro e w' ⟨rfl, rfl⟩
 go_wp2_with fail
 go_ret2
 rw [HR.out]
 exact ⟨rfl, Below.refl _ _⟩
theorem read_2_e (s : ByteArray) (h : s.size = 2) : ∃ b0 b1 : UInt8, s.data.toList = [b0, b1] ∧ (∀ h0 h1, s[0]'h0 = b0 ∧ s[s.size - 1]'h1 = b1):=by
 have hl : s.data.toList.length = 2:=h
 obtain ⟨b0, b1, hl⟩ : ∃ b0 b1, s.data.toList = [b0, b1]:=by
  match s.data.toList, hl with
  | [b0, b1], _=>exact ⟨b0, b1, rfl⟩
 have key:=get_of s _ hl
 refine ⟨b0, b1, hl, fun h0 h1=>?_⟩
 exact ⟨key 0 h0 b0 (by rfl), key (s.size - 1) h1 b1 (by rw [h]; rfl)⟩
theorem read_2_v (s : ByteArray) (h : s.size = 2) (H : True ∧ 0 < s.size ∧ s.size - 1 < s.size) :
  bits .or .i64 (wrap64 ((bits .or .i64 (wrap64 (wrap64 (IntKind.i8.wrap ((s[0]'(H.2.1)).toNat : Int) / 128) * 256)) (wrap64 ((s[0]'(H.2.1)).toNat : Int))) * 256)) (wrap64 ((s[s.size - 1]'(H.2.2)).toNat : Int)) = sval s.data.toList:=by
 obtain ⟨b0, b1, hl, hE⟩:=read_2_e s h
 obtain ⟨e0, e1⟩:=hE H.2.1 H.2.2
 rw [hl, e0, e1]
 have c0:=u8_lt b0
 have c1:=u8_lt b1
 rw [or_first b0]
 have hsv : sval [b0, b1] = say (if b0.toNat < 128 then (b0.toNat : Int) else (b0.toNat : Int) - 256) [b1]:=rfl
 rw [hsv]
 have ha : -128 ≤ (if b0.toNat < 128 then (b0.toNat : Int) else (b0.toNat : Int) - 256) ∧ (if b0.toNat < 128 then (b0.toNat : Int) else (b0.toNat : Int) - 256) ≤ 127:=by split <;> omega
 generalize (if b0.toNat < 128 then (b0.toNat : Int) else (b0.toNat : Int) - 256) = a at *
 rw [or_next _ b1 (by omega) (by omega)]
 rfl
set_option maxHeartbeats 1000000 in
theorem read_2_ok (s : ByteArray) (w : World) (h : s.size = 2) (hf : few (sval s.data.toList) = s.data.toList.length) :
  Calls Tryz.prog 104 #[.string s] w fun e w'=>e = .returned (rdV s.data.toList) ∧ Below w.heap.size w w':=by
 have hlen : s.data.toList.length = s.size:=rfl
 have hsv:=sval_i64 (l:=s.data.toList) (by omega) (by omega)
 have HR:=Lib.hid (rdV_some (rdI_ok (l:=s.data.toList) (by omega) (by omega) hf))
 have HC : Hid (∀ w, Calls Tryz.prog 134 #[.int .i64 (sval s.data.toList)] w fun e w'=>e = .returned (.int .i64 (few (sval s.data.toList))) ∧ w = w'):=fun w=>fewest_any _ w hsv.1 hsv.2
 have HV:=Lib.hid (read_2_v s h)
 have hs0:=isEmpty_false s (by omega)
 have q8 : ((s.size : Int) == 8) = false:=beq_eq_false_iff_ne.2 (by omega)
 have q7 : ((s.size : Int) == 7) = false:=beq_eq_false_iff_ne.2 (by omega)
 have q6 : ((s.size : Int) == 6) = false:=beq_eq_false_iff_ne.2 (by omega)
 have q5 : ((s.size : Int) == 5) = false:=beq_eq_false_iff_ne.2 (by omega)
 have q4 : ((s.size : Int) == 4) = false:=beq_eq_false_iff_ne.2 (by omega)
 have q3 : ((s.size : Int) == 3) = false:=beq_eq_false_iff_ne.2 (by omega)
 have q2 : ((s.size : Int) == 2) = true:=by simp [h]
 have hA : 2 ≤ s.size:=by omega
 have hB : s.size ≤ 2:=by omega
 have hcmp : ((few (sval s.data.toList) : Int) != s.size) = false:=by rw [bne_eq_false_iff_eq]; omega
 generalize hgv : sval s.data.toList = v at *
 clear h hf hlen hgv
 go_enter Tryz.func104, Tryz.ntmps104
 go_wp2_with fail
 rw [HV.out (by refine ⟨trivial, ?_⟩; omega)]
 refine (HC.out _).mono ?_
 rintro e w' ⟨rfl, rfl⟩
 go_wp2_with fail
 go_ret2
 rw [HR.out]
 exact ⟨rfl, Below.refl _ _⟩
set_option maxHeartbeats 1000000 in
theorem read_2_bad (s : ByteArray) (w : World) (h : s.size = 2) (hf : few (sval s.data.toList) ≠ s.data.toList.length) :
  Calls Tryz.prog 104 #[.string s] w fun e w'=>e = .returned (rdV s.data.toList) ∧ Below w.heap.size w w':=by
 have hlen : s.data.toList.length = s.size:=rfl
 have hsv:=sval_i64 (l:=s.data.toList) (by omega) (by omega)
 have HR:=Lib.hid (rdV_none (rdI_bad hf))
 have HC : Hid (∀ w, Calls Tryz.prog 134 #[.int .i64 (sval s.data.toList)] w fun e w'=>e = .returned (.int .i64 (few (sval s.data.toList))) ∧ w = w'):=fun w=>fewest_any _ w hsv.1 hsv.2
 have HV:=Lib.hid (read_2_v s h)
 have hs0:=isEmpty_false s (by omega)
 have q8 : ((s.size : Int) == 8) = false:=beq_eq_false_iff_ne.2 (by omega)
 have q7 : ((s.size : Int) == 7) = false:=beq_eq_false_iff_ne.2 (by omega)
 have q6 : ((s.size : Int) == 6) = false:=beq_eq_false_iff_ne.2 (by omega)
 have q5 : ((s.size : Int) == 5) = false:=beq_eq_false_iff_ne.2 (by omega)
 have q4 : ((s.size : Int) == 4) = false:=beq_eq_false_iff_ne.2 (by omega)
 have q3 : ((s.size : Int) == 3) = false:=beq_eq_false_iff_ne.2 (by omega)
 have q2 : ((s.size : Int) == 2) = true:=by simp [h]
 have hA : 2 ≤ s.size:=by omega
 have hB : s.size ≤ 2:=by omega
 have hcmp : ((few (sval s.data.toList) : Int) != s.size) = true:=by rw [bne_iff_ne]; omega
 generalize hgv : sval s.data.toList = v at *
 clear h hf hlen hgv
 go_enter Tryz.func104, Tryz.ntmps104
 go_wp2_with fail
 rw [HV.out (by refine ⟨trivial, ?_⟩; omega)]
 refine (HC.out _).mono ?_
 rintro e w' ⟨rfl, rfl⟩
 go_wp2_with fail
 go_ret2
 rw [HR.out]
 exact ⟨rfl, Below.refl _ _⟩
theorem read_3_e (s : ByteArray) (h : s.size = 3) : ∃ b0 b1 b2 : UInt8, s.data.toList = [b0, b1, b2] ∧ (∀ h0 h1 h2, s[0]'h0 = b0 ∧ s[s.size - 1 - 1]'h1 = b1 ∧ s[s.size - 1]'h2 = b2):=by
 have hl : s.data.toList.length = 3:=h
 obtain ⟨b0, b1, b2, hl⟩ : ∃ b0 b1 b2, s.data.toList = [b0, b1, b2]:=by
  match s.data.toList, hl with
  | [b0, b1, b2], _=>exact ⟨b0, b1, b2, rfl⟩
 have key:=get_of s _ hl
 refine ⟨b0, b1, b2, hl, fun h0 h1 h2=>?_⟩
 exact ⟨key 0 h0 b0 (by rfl), key (s.size - 1 - 1) h1 b1 (by rw [h]; rfl), key (s.size - 1) h2 b2 (by rw [h]; rfl)⟩
theorem read_3_v (s : ByteArray) (h : s.size = 3) (H : True ∧ 0 < s.size ∧ s.size - 1 - 1 < s.size ∧ s.size - 1 < s.size) :
  bits .or .i64 (wrap64 ((bits .or .i64 (wrap64 ((bits .or .i64 (wrap64 (wrap64 (IntKind.i8.wrap ((s[0]'(H.2.1)).toNat : Int) / 128) * 256)) (wrap64 ((s[0]'(H.2.1)).toNat : Int))) * 256)) (wrap64 ((s[s.size - 1 - 1]'(H.2.2.1)).toNat : Int))) * 256)) (wrap64 ((s[s.size - 1]'(H.2.2.2)).toNat : Int)) = sval s.data.toList:=by
 obtain ⟨b0, b1, b2, hl, hE⟩:=read_3_e s h
 obtain ⟨e0, e1, e2⟩:=hE H.2.1 H.2.2.1 H.2.2.2
 rw [hl, e0, e1, e2]
 have c0:=u8_lt b0
 have c1:=u8_lt b1
 have c2:=u8_lt b2
 rw [or_first b0]
 have hsv : sval [b0, b1, b2] = say (if b0.toNat < 128 then (b0.toNat : Int) else (b0.toNat : Int) - 256) [b1, b2]:=rfl
 rw [hsv]
 have ha : -128 ≤ (if b0.toNat < 128 then (b0.toNat : Int) else (b0.toNat : Int) - 256) ∧ (if b0.toNat < 128 then (b0.toNat : Int) else (b0.toNat : Int) - 256) ≤ 127:=by split <;> omega
 generalize (if b0.toNat < 128 then (b0.toNat : Int) else (b0.toNat : Int) - 256) = a at *
 rw [or_next _ b1 (by omega) (by omega)]
 rw [or_next _ b2 (by omega) (by omega)]
 rfl
set_option maxHeartbeats 1000000 in
theorem read_3_ok (s : ByteArray) (w : World) (h : s.size = 3) (hf : few (sval s.data.toList) = s.data.toList.length) :
  Calls Tryz.prog 104 #[.string s] w fun e w'=>e = .returned (rdV s.data.toList) ∧ Below w.heap.size w w':=by
 have hlen : s.data.toList.length = s.size:=rfl
 have hsv:=sval_i64 (l:=s.data.toList) (by omega) (by omega)
 have HR:=Lib.hid (rdV_some (rdI_ok (l:=s.data.toList) (by omega) (by omega) hf))
 have HC : Hid (∀ w, Calls Tryz.prog 134 #[.int .i64 (sval s.data.toList)] w fun e w'=>e = .returned (.int .i64 (few (sval s.data.toList))) ∧ w = w'):=fun w=>fewest_any _ w hsv.1 hsv.2
 have HV:=Lib.hid (read_3_v s h)
 have hs0:=isEmpty_false s (by omega)
 have q8 : ((s.size : Int) == 8) = false:=beq_eq_false_iff_ne.2 (by omega)
 have q7 : ((s.size : Int) == 7) = false:=beq_eq_false_iff_ne.2 (by omega)
 have q6 : ((s.size : Int) == 6) = false:=beq_eq_false_iff_ne.2 (by omega)
 have q5 : ((s.size : Int) == 5) = false:=beq_eq_false_iff_ne.2 (by omega)
 have q4 : ((s.size : Int) == 4) = false:=beq_eq_false_iff_ne.2 (by omega)
 have q3 : ((s.size : Int) == 3) = true:=by simp [h]
 have hA : 3 ≤ s.size:=by omega
 have hB : s.size ≤ 3:=by omega
 have hcmp : ((few (sval s.data.toList) : Int) != s.size) = false:=by rw [bne_eq_false_iff_eq]; omega
 generalize hgv : sval s.data.toList = v at *
 clear h hf hlen hgv
 go_enter Tryz.func104, Tryz.ntmps104
 go_wp2_with fail
 rw [HV.out (by refine ⟨trivial, ?_⟩; omega)]
 refine (HC.out _).mono ?_
 rintro e w' ⟨rfl, rfl⟩
 go_wp2_with fail
 go_ret2
 rw [HR.out]
 exact ⟨rfl, Below.refl _ _⟩
set_option maxHeartbeats 1000000 in
theorem read_3_bad (s : ByteArray) (w : World) (h : s.size = 3) (hf : few (sval s.data.toList) ≠ s.data.toList.length) :
  Calls Tryz.prog 104 #[.string s] w fun e w'=>e = .returned (rdV s.data.toList) ∧ Below w.heap.size w w':=by
 have hlen : s.data.toList.length = s.size:=rfl
 have hsv:=sval_i64 (l:=s.data.toList) (by omega) (by omega)
 have HR:=Lib.hid (rdV_none (rdI_bad hf))
 have HC : Hid (∀ w, Calls Tryz.prog 134 #[.int .i64 (sval s.data.toList)] w fun e w'=>e = .returned (.int .i64 (few (sval s.data.toList))) ∧ w = w'):=fun w=>fewest_any _ w hsv.1 hsv.2
 have HV:=Lib.hid (read_3_v s h)
 have hs0:=isEmpty_false s (by omega)
 have q8 : ((s.size : Int) == 8) = false:=beq_eq_false_iff_ne.2 (by omega)
 have q7 : ((s.size : Int) == 7) = false:=beq_eq_false_iff_ne.2 (by omega)
 have q6 : ((s.size : Int) == 6) = false:=beq_eq_false_iff_ne.2 (by omega)
 have q5 : ((s.size : Int) == 5) = false:=beq_eq_false_iff_ne.2 (by omega)
 have q4 : ((s.size : Int) == 4) = false:=beq_eq_false_iff_ne.2 (by omega)
 have q3 : ((s.size : Int) == 3) = true:=by simp [h]
 have hA : 3 ≤ s.size:=by omega
 have hB : s.size ≤ 3:=by omega
 have hcmp : ((few (sval s.data.toList) : Int) != s.size) = true:=by rw [bne_iff_ne]; omega
 generalize hgv : sval s.data.toList = v at *
 clear h hf hlen hgv
 go_enter Tryz.func104, Tryz.ntmps104
 go_wp2_with fail
 rw [HV.out (by refine ⟨trivial, ?_⟩; omega)]
 refine (HC.out _).mono ?_
 rintro e w' ⟨rfl, rfl⟩
 go_wp2_with fail
 go_ret2
 rw [HR.out]
 exact ⟨rfl, Below.refl _ _⟩
theorem read_4_e (s : ByteArray) (h : s.size = 4) : ∃ b0 b1 b2 b3 : UInt8, s.data.toList = [b0, b1, b2, b3] ∧ (∀ h0 h1 h2 h3, s[0]'h0 = b0 ∧ s[s.size - 1 - 2]'h1 = b1 ∧ s[s.size - 1 - 1]'h2 = b2 ∧ s[s.size - 1]'h3 = b3):=by
 have hl : s.data.toList.length = 4:=h
 obtain ⟨b0, b1, b2, b3, hl⟩ : ∃ b0 b1 b2 b3, s.data.toList = [b0, b1, b2, b3]:=by
  match s.data.toList, hl with
  | [b0, b1, b2, b3], _=>exact ⟨b0, b1, b2, b3, rfl⟩
 have key:=get_of s _ hl
 refine ⟨b0, b1, b2, b3, hl, fun h0 h1 h2 h3=>?_⟩
 exact ⟨key 0 h0 b0 (by rfl), key (s.size - 1 - 2) h1 b1 (by rw [h]; rfl), key (s.size - 1 - 1) h2 b2 (by rw [h]; rfl), key (s.size - 1) h3 b3 (by rw [h]; rfl)⟩
theorem read_4_v (s : ByteArray) (h : s.size = 4) (H : True ∧ 0 < s.size ∧ s.size - 1 - 2 < s.size ∧ s.size - 1 - 1 < s.size ∧ s.size - 1 < s.size) :
  bits .or .i64 (wrap64 ((bits .or .i64 (wrap64 ((bits .or .i64 (wrap64 ((bits .or .i64 (wrap64 (wrap64 (IntKind.i8.wrap ((s[0]'(H.2.1)).toNat : Int) / 128) * 256)) (wrap64 ((s[0]'(H.2.1)).toNat : Int))) * 256)) (wrap64 ((s[s.size - 1 - 2]'(H.2.2.1)).toNat : Int))) * 256)) (wrap64 ((s[s.size - 1 - 1]'(H.2.2.2.1)).toNat : Int))) * 256)) (wrap64 ((s[s.size - 1]'(H.2.2.2.2)).toNat : Int)) = sval s.data.toList:=by
 obtain ⟨b0, b1, b2, b3, hl, hE⟩:=read_4_e s h
 obtain ⟨e0, e1, e2, e3⟩:=hE H.2.1 H.2.2.1 H.2.2.2.1 H.2.2.2.2
 rw [hl, e0, e1, e2, e3]
 have c0:=u8_lt b0
 have c1:=u8_lt b1
 have c2:=u8_lt b2
 have c3:=u8_lt b3
 rw [or_first b0]
 have hsv : sval [b0, b1, b2, b3] = say (if b0.toNat < 128 then (b0.toNat : Int) else (b0.toNat : Int) - 256) [b1, b2, b3]:=rfl
 rw [hsv]
 have ha : -128 ≤ (if b0.toNat < 128 then (b0.toNat : Int) else (b0.toNat : Int) - 256) ∧ (if b0.toNat < 128 then (b0.toNat : Int) else (b0.toNat : Int) - 256) ≤ 127:=by split <;> omega
 generalize (if b0.toNat < 128 then (b0.toNat : Int) else (b0.toNat : Int) - 256) = a at *
 rw [or_next _ b1 (by omega) (by omega)]
 rw [or_next _ b2 (by omega) (by omega)]
 rw [or_next _ b3 (by omega) (by omega)]
 rfl
set_option maxHeartbeats 1000000 in
theorem read_4_ok (s : ByteArray) (w : World) (h : s.size = 4) (hf : few (sval s.data.toList) = s.data.toList.length) :
  Calls Tryz.prog 104 #[.string s] w fun e w'=>e = .returned (rdV s.data.toList) ∧ Below w.heap.size w w':=by
 have hlen : s.data.toList.length = s.size:=rfl
 have hsv:=sval_i64 (l:=s.data.toList) (by omega) (by omega)
 have HR:=Lib.hid (rdV_some (rdI_ok (l:=s.data.toList) (by omega) (by omega) hf))
 have HC : Hid (∀ w, Calls Tryz.prog 134 #[.int .i64 (sval s.data.toList)] w fun e w'=>e = .returned (.int .i64 (few (sval s.data.toList))) ∧ w = w'):=fun w=>fewest_any _ w hsv.1 hsv.2
 have HV:=Lib.hid (read_4_v s h)
 have hs0:=isEmpty_false s (by omega)
 have q8 : ((s.size : Int) == 8) = false:=beq_eq_false_iff_ne.2 (by omega)
 have q7 : ((s.size : Int) == 7) = false:=beq_eq_false_iff_ne.2 (by omega)
 have q6 : ((s.size : Int) == 6) = false:=beq_eq_false_iff_ne.2 (by omega)
 have q5 : ((s.size : Int) == 5) = false:=beq_eq_false_iff_ne.2 (by omega)
 have q4 : ((s.size : Int) == 4) = true:=by simp [h]
 have hA : 4 ≤ s.size:=by omega
 have hB : s.size ≤ 4:=by omega
 have hcmp : ((few (sval s.data.toList) : Int) != s.size) = false:=by rw [bne_eq_false_iff_eq]; omega
 generalize hgv : sval s.data.toList = v at *
 clear h hf hlen hgv
 go_enter Tryz.func104, Tryz.ntmps104
 go_wp2_with fail
 rw [HV.out (by refine ⟨trivial, ?_⟩; omega)]
 refine (HC.out _).mono ?_
 rintro e w' ⟨rfl, rfl⟩
 go_wp2_with fail
 go_ret2
 rw [HR.out]
 exact ⟨rfl, Below.refl _ _⟩
set_option maxHeartbeats 1000000 in
theorem read_4_bad (s : ByteArray) (w : World) (h : s.size = 4) (hf : few (sval s.data.toList) ≠ s.data.toList.length) :
  Calls Tryz.prog 104 #[.string s] w fun e w'=>e = .returned (rdV s.data.toList) ∧ Below w.heap.size w w':=by
 have hlen : s.data.toList.length = s.size:=rfl
 have hsv:=sval_i64 (l:=s.data.toList) (by omega) (by omega)
 have HR:=Lib.hid (rdV_none (rdI_bad hf))
 have HC : Hid (∀ w, Calls Tryz.prog 134 #[.int .i64 (sval s.data.toList)] w fun e w'=>e = .returned (.int .i64 (few (sval s.data.toList))) ∧ w = w'):=fun w=>fewest_any _ w hsv.1 hsv.2
 have HV:=Lib.hid (read_4_v s h)
 have hs0:=isEmpty_false s (by omega)
 have q8 : ((s.size : Int) == 8) = false:=beq_eq_false_iff_ne.2 (by omega)
 have q7 : ((s.size : Int) == 7) = false:=beq_eq_false_iff_ne.2 (by omega)
 have q6 : ((s.size : Int) == 6) = false:=beq_eq_false_iff_ne.2 (by omega)
 have q5 : ((s.size : Int) == 5) = false:=beq_eq_false_iff_ne.2 (by omega)
 have q4 : ((s.size : Int) == 4) = true:=by simp [h]
 have hA : 4 ≤ s.size:=by omega
 have hB : s.size ≤ 4:=by omega
 have hcmp : ((few (sval s.data.toList) : Int) != s.size) = true:=by rw [bne_iff_ne]; omega
 generalize hgv : sval s.data.toList = v at *
 clear h hf hlen hgv
 go_enter Tryz.func104, Tryz.ntmps104
 go_wp2_with fail
 rw [HV.out (by refine ⟨trivial, ?_⟩; omega)]
 refine (HC.out _).mono ?_
 rintro e w' ⟨rfl, rfl⟩
 go_wp2_with fail
 go_ret2
 rw [HR.out]
 exact ⟨rfl, Below.refl _ _⟩
theorem read_5_e (s : ByteArray) (h : s.size = 5) : ∃ b0 b1 b2 b3 b4 : UInt8, s.data.toList = [b0, b1, b2, b3, b4] ∧ (∀ h0 h1 h2 h3 h4, s[0]'h0 = b0 ∧ s[s.size - 1 - 3]'h1 = b1 ∧ s[s.size - 1 - 2]'h2 = b2 ∧ s[s.size - 1 - 1]'h3 = b3 ∧ s[s.size - 1]'h4 = b4):=by
 have hl : s.data.toList.length = 5:=h
 obtain ⟨b0, b1, b2, b3, b4, hl⟩ : ∃ b0 b1 b2 b3 b4, s.data.toList = [b0, b1, b2, b3, b4]:=by
  match s.data.toList, hl with
  | [b0, b1, b2, b3, b4], _=>exact ⟨b0, b1, b2, b3, b4, rfl⟩
 have key:=get_of s _ hl
 refine ⟨b0, b1, b2, b3, b4, hl, fun h0 h1 h2 h3 h4=>?_⟩
 exact ⟨key 0 h0 b0 (by rfl), key (s.size - 1 - 3) h1 b1 (by rw [h]; rfl), key (s.size - 1 - 2) h2 b2 (by rw [h]; rfl), key (s.size - 1 - 1) h3 b3 (by rw [h]; rfl), key (s.size - 1) h4 b4 (by rw [h]; rfl)⟩
theorem read_5_v (s : ByteArray) (h : s.size = 5) (H : True ∧ 0 < s.size ∧ s.size - 1 - 3 < s.size ∧ s.size - 1 - 2 < s.size ∧ s.size - 1 - 1 < s.size ∧ s.size - 1 < s.size) :
  bits .or .i64 (wrap64 ((bits .or .i64 (wrap64 ((bits .or .i64 (wrap64 ((bits .or .i64 (wrap64 ((bits .or .i64 (wrap64 (wrap64 (IntKind.i8.wrap ((s[0]'(H.2.1)).toNat : Int) / 128) * 256)) (wrap64 ((s[0]'(H.2.1)).toNat : Int))) * 256)) (wrap64 ((s[s.size - 1 - 3]'(H.2.2.1)).toNat : Int))) * 256)) (wrap64 ((s[s.size - 1 - 2]'(H.2.2.2.1)).toNat : Int))) * 256)) (wrap64 ((s[s.size - 1 - 1]'(H.2.2.2.2.1)).toNat : Int))) * 256)) (wrap64 ((s[s.size - 1]'(H.2.2.2.2.2)).toNat : Int)) = sval s.data.toList:=by
 obtain ⟨b0, b1, b2, b3, b4, hl, hE⟩:=read_5_e s h
 obtain ⟨e0, e1, e2, e3, e4⟩:=hE H.2.1 H.2.2.1 H.2.2.2.1 H.2.2.2.2.1 H.2.2.2.2.2
 rw [hl, e0, e1, e2, e3, e4]
 have c0:=u8_lt b0
 have c1:=u8_lt b1
 have c2:=u8_lt b2
 have c3:=u8_lt b3
 have c4:=u8_lt b4
 rw [or_first b0]
 have hsv : sval [b0, b1, b2, b3, b4] = say (if b0.toNat < 128 then (b0.toNat : Int) else (b0.toNat : Int) - 256) [b1, b2, b3, b4]:=rfl
 rw [hsv]
 have ha : -128 ≤ (if b0.toNat < 128 then (b0.toNat : Int) else (b0.toNat : Int) - 256) ∧ (if b0.toNat < 128 then (b0.toNat : Int) else (b0.toNat : Int) - 256) ≤ 127:=by split <;> omega
 generalize (if b0.toNat < 128 then (b0.toNat : Int) else (b0.toNat : Int) - 256) = a at *
 rw [or_next _ b1 (by omega) (by omega)]
 rw [or_next _ b2 (by omega) (by omega)]
 rw [or_next _ b3 (by omega) (by omega)]
 rw [or_next _ b4 (by omega) (by omega)]
 rfl
set_option maxHeartbeats 1000000 in
theorem read_5_ok (s : ByteArray) (w : World) (h : s.size = 5) (hf : few (sval s.data.toList) = s.data.toList.length) :
  Calls Tryz.prog 104 #[.string s] w fun e w'=>e = .returned (rdV s.data.toList) ∧ Below w.heap.size w w':=by
 have hlen : s.data.toList.length = s.size:=rfl
 have hsv:=sval_i64 (l:=s.data.toList) (by omega) (by omega)
 have HR:=Lib.hid (rdV_some (rdI_ok (l:=s.data.toList) (by omega) (by omega) hf))
 have HC : Hid (∀ w, Calls Tryz.prog 134 #[.int .i64 (sval s.data.toList)] w fun e w'=>e = .returned (.int .i64 (few (sval s.data.toList))) ∧ w = w'):=fun w=>fewest_any _ w hsv.1 hsv.2
 have HV:=Lib.hid (read_5_v s h)
 have hs0:=isEmpty_false s (by omega)
 have q8 : ((s.size : Int) == 8) = false:=beq_eq_false_iff_ne.2 (by omega)
 have q7 : ((s.size : Int) == 7) = false:=beq_eq_false_iff_ne.2 (by omega)
 have q6 : ((s.size : Int) == 6) = false:=beq_eq_false_iff_ne.2 (by omega)
 have q5 : ((s.size : Int) == 5) = true:=by simp [h]
 have hA : 5 ≤ s.size:=by omega
 have hB : s.size ≤ 5:=by omega
 have hcmp : ((few (sval s.data.toList) : Int) != s.size) = false:=by rw [bne_eq_false_iff_eq]; omega
 generalize hgv : sval s.data.toList = v at *
 clear h hf hlen hgv
 go_enter Tryz.func104, Tryz.ntmps104
 go_wp2_with fail
 rw [HV.out (by refine ⟨trivial, ?_⟩; omega)]
 refine (HC.out _).mono ?_
 rintro e w' ⟨rfl, rfl⟩
 go_wp2_with fail
 go_ret2
 rw [HR.out]
 exact ⟨rfl, Below.refl _ _⟩
set_option maxHeartbeats 1000000 in
theorem read_5_bad (s : ByteArray) (w : World) (h : s.size = 5) (hf : few (sval s.data.toList) ≠ s.data.toList.length) :
  Calls Tryz.prog 104 #[.string s] w fun e w'=>e = .returned (rdV s.data.toList) ∧ Below w.heap.size w w':=by
 have hlen : s.data.toList.length = s.size:=rfl
 have hsv:=sval_i64 (l:=s.data.toList) (by omega) (by omega)
 have HR:=Lib.hid (rdV_none (rdI_bad hf))
 have HC : Hid (∀ w, Calls Tryz.prog 134 #[.int .i64 (sval s.data.toList)] w fun e w'=>e = .returned (.int .i64 (few (sval s.data.toList))) ∧ w = w'):=fun w=>fewest_any _ w hsv.1 hsv.2
 have HV:=Lib.hid (read_5_v s h)
 have hs0:=isEmpty_false s (by omega)
 have q8 : ((s.size : Int) == 8) = false:=beq_eq_false_iff_ne.2 (by omega)
 have q7 : ((s.size : Int) == 7) = false:=beq_eq_false_iff_ne.2 (by omega)
 have q6 : ((s.size : Int) == 6) = false:=beq_eq_false_iff_ne.2 (by omega)
 have q5 : ((s.size : Int) == 5) = true:=by simp [h]
 have hA : 5 ≤ s.size:=by omega
 have hB : s.size ≤ 5:=by omega
 have hcmp : ((few (sval s.data.toList) : Int) != s.size) = true:=by rw [bne_iff_ne]; omega
 generalize hgv : sval s.data.toList = v at *
 clear h hf hlen hgv
 go_enter Tryz.func104, Tryz.ntmps104
 go_wp2_with fail
 rw [HV.out (by refine ⟨trivial, ?_⟩; omega)]
 refine (HC.out _).mono ?_
 rintro e w' ⟨rfl, rfl⟩
 go_wp2_with fail
 go_ret2
 rw [HR.out]
 exact ⟨rfl, Below.refl _ _⟩
theorem read_6_e (s : ByteArray) (h : s.size = 6) : ∃ b0 b1 b2 b3 b4 b5 : UInt8, s.data.toList = [b0, b1, b2, b3, b4, b5] ∧ (∀ h0 h1 h2 h3 h4 h5, s[0]'h0 = b0 ∧ s[s.size - 1 - 4]'h1 = b1 ∧ s[s.size - 1 - 3]'h2 = b2 ∧ s[s.size - 1 - 2]'h3 = b3 ∧ s[s.size - 1 - 1]'h4 = b4 ∧ s[s.size - 1]'h5 = b5):=by
 have hl : s.data.toList.length = 6:=h
 obtain ⟨b0, b1, b2, b3, b4, b5, hl⟩ : ∃ b0 b1 b2 b3 b4 b5, s.data.toList = [b0, b1, b2, b3, b4, b5]:=by
  match s.data.toList, hl with
  | [b0, b1, b2, b3, b4, b5], _=>exact ⟨b0, b1, b2, b3, b4, b5, rfl⟩
 have key:=get_of s _ hl
 refine ⟨b0, b1, b2, b3, b4, b5, hl, fun h0 h1 h2 h3 h4 h5=>?_⟩
 exact ⟨key 0 h0 b0 (by rfl), key (s.size - 1 - 4) h1 b1 (by rw [h]; rfl), key (s.size - 1 - 3) h2 b2 (by rw [h]; rfl), key (s.size - 1 - 2) h3 b3 (by rw [h]; rfl), key (s.size - 1 - 1) h4 b4 (by rw [h]; rfl), key (s.size - 1) h5 b5 (by rw [h]; rfl)⟩
theorem read_6_v (s : ByteArray) (h : s.size = 6) (H : True ∧ 0 < s.size ∧ s.size - 1 - 4 < s.size ∧ s.size - 1 - 3 < s.size ∧ s.size - 1 - 2 < s.size ∧ s.size - 1 - 1 < s.size ∧ s.size - 1 < s.size) :
  bits .or .i64 (wrap64 ((bits .or .i64 (wrap64 ((bits .or .i64 (wrap64 ((bits .or .i64 (wrap64 ((bits .or .i64 (wrap64 ((bits .or .i64 (wrap64 (wrap64 (IntKind.i8.wrap ((s[0]'(H.2.1)).toNat : Int) / 128) * 256)) (wrap64 ((s[0]'(H.2.1)).toNat : Int))) * 256)) (wrap64 ((s[s.size - 1 - 4]'(H.2.2.1)).toNat : Int))) * 256)) (wrap64 ((s[s.size - 1 - 3]'(H.2.2.2.1)).toNat : Int))) * 256)) (wrap64 ((s[s.size - 1 - 2]'(H.2.2.2.2.1)).toNat : Int))) * 256)) (wrap64 ((s[s.size - 1 - 1]'(H.2.2.2.2.2.1)).toNat : Int))) * 256)) (wrap64 ((s[s.size - 1]'(H.2.2.2.2.2.2)).toNat : Int)) = sval s.data.toList:=by
 obtain ⟨b0, b1, b2, b3, b4, b5, hl, hE⟩:=read_6_e s h
 obtain ⟨e0, e1, e2, e3, e4, e5⟩:=hE H.2.1 H.2.2.1 H.2.2.2.1 H.2.2.2.2.1 H.2.2.2.2.2.1 H.2.2.2.2.2.2
 rw [hl, e0, e1, e2, e3, e4, e5]
 have c0:=u8_lt b0
 have c1:=u8_lt b1
 have c2:=u8_lt b2
 have c3:=u8_lt b3
 have c4:=u8_lt b4
 have c5:=u8_lt b5
 rw [or_first b0]
 have hsv : sval [b0, b1, b2, b3, b4, b5] = say (if b0.toNat < 128 then (b0.toNat : Int) else (b0.toNat : Int) - 256) [b1, b2, b3, b4, b5]:=rfl
 rw [hsv]
 have ha : -128 ≤ (if b0.toNat < 128 then (b0.toNat : Int) else (b0.toNat : Int) - 256) ∧ (if b0.toNat < 128 then (b0.toNat : Int) else (b0.toNat : Int) - 256) ≤ 127:=by split <;> omega
 generalize (if b0.toNat < 128 then (b0.toNat : Int) else (b0.toNat : Int) - 256) = a at *
 rw [or_next _ b1 (by omega) (by omega)]
 rw [or_next _ b2 (by omega) (by omega)]
 rw [or_next _ b3 (by omega) (by omega)]
 rw [or_next _ b4 (by omega) (by omega)]
 rw [or_next _ b5 (by omega) (by omega)]
 rfl
set_option maxHeartbeats 1000000 in
theorem read_6_ok (s : ByteArray) (w : World) (h : s.size = 6) (hf : few (sval s.data.toList) = s.data.toList.length) :
  Calls Tryz.prog 104 #[.string s] w fun e w'=>e = .returned (rdV s.data.toList) ∧ Below w.heap.size w w':=by
 have hlen : s.data.toList.length = s.size:=rfl
 have hsv:=sval_i64 (l:=s.data.toList) (by omega) (by omega)
 have HR:=Lib.hid (rdV_some (rdI_ok (l:=s.data.toList) (by omega) (by omega) hf))
 have HC : Hid (∀ w, Calls Tryz.prog 134 #[.int .i64 (sval s.data.toList)] w fun e w'=>e = .returned (.int .i64 (few (sval s.data.toList))) ∧ w = w'):=fun w=>fewest_any _ w hsv.1 hsv.2
 have HV:=Lib.hid (read_6_v s h)
 have hs0:=isEmpty_false s (by omega)
 have q8 : ((s.size : Int) == 8) = false:=beq_eq_false_iff_ne.2 (by omega)
 have q7 : ((s.size : Int) == 7) = false:=beq_eq_false_iff_ne.2 (by omega)
 have q6 : ((s.size : Int) == 6) = true:=by simp [h]
 have hA : 6 ≤ s.size:=by omega
 have hB : s.size ≤ 6:=by omega
 have hcmp : ((few (sval s.data.toList) : Int) != s.size) = false:=by rw [bne_eq_false_iff_eq]; omega
 generalize hgv : sval s.data.toList = v at *
 clear h hf hlen hgv
 go_enter Tryz.func104, Tryz.ntmps104
 go_wp2_with fail
 rw [HV.out (by refine ⟨trivial, ?_⟩; omega)]
 refine (HC.out _).mono ?_
 rintro e w' ⟨rfl, rfl⟩
 go_wp2_with fail
 go_ret2
 rw [HR.out]
 exact ⟨rfl, Below.refl _ _⟩
set_option maxHeartbeats 1000000 in
theorem read_6_bad (s : ByteArray) (w : World) (h : s.size = 6) (hf : few (sval s.data.toList) ≠ s.data.toList.length) :
  Calls Tryz.prog 104 #[.string s] w fun e w'=>e = .returned (rdV s.data.toList) ∧ Below w.heap.size w w':=by
 have hlen : s.data.toList.length = s.size:=rfl
 have hsv:=sval_i64 (l:=s.data.toList) (by omega) (by omega)
 have HR:=Lib.hid (rdV_none (rdI_bad hf))
 have HC : Hid (∀ w, Calls Tryz.prog 134 #[.int .i64 (sval s.data.toList)] w fun e w'=>e = .returned (.int .i64 (few (sval s.data.toList))) ∧ w = w'):=fun w=>fewest_any _ w hsv.1 hsv.2
 have HV:=Lib.hid (read_6_v s h)
 have hs0:=isEmpty_false s (by omega)
 have q8 : ((s.size : Int) == 8) = false:=beq_eq_false_iff_ne.2 (by omega)
 have q7 : ((s.size : Int) == 7) = false:=beq_eq_false_iff_ne.2 (by omega)
 have q6 : ((s.size : Int) == 6) = true:=by simp [h]
 have hA : 6 ≤ s.size:=by omega
 have hB : s.size ≤ 6:=by omega
 have hcmp : ((few (sval s.data.toList) : Int) != s.size) = true:=by rw [bne_iff_ne]; omega
 generalize hgv : sval s.data.toList = v at *
 clear h hf hlen hgv
 go_enter Tryz.func104, Tryz.ntmps104
 go_wp2_with fail
 rw [HV.out (by refine ⟨trivial, ?_⟩; omega)]
 refine (HC.out _).mono ?_
 rintro e w' ⟨rfl, rfl⟩
 go_wp2_with fail
 go_ret2
 rw [HR.out]
 exact ⟨rfl, Below.refl _ _⟩
theorem read_7_e (s : ByteArray) (h : s.size = 7) : ∃ b0 b1 b2 b3 b4 b5 b6 : UInt8, s.data.toList = [b0, b1, b2, b3, b4, b5, b6] ∧ (∀ h0 h1 h2 h3 h4 h5 h6, s[0]'h0 = b0 ∧ s[s.size - 1 - 5]'h1 = b1 ∧ s[s.size - 1 - 4]'h2 = b2 ∧ s[s.size - 1 - 3]'h3 = b3 ∧ s[s.size - 1 - 2]'h4 = b4 ∧ s[s.size - 1 - 1]'h5 = b5 ∧ s[s.size - 1]'h6 = b6):=by
 have hl : s.data.toList.length = 7:=h
 obtain ⟨b0, b1, b2, b3, b4, b5, b6, hl⟩ : ∃ b0 b1 b2 b3 b4 b5 b6, s.data.toList = [b0, b1, b2, b3, b4, b5, b6]:=by
  match s.data.toList, hl with
  | [b0, b1, b2, b3, b4, b5, b6], _=>exact ⟨b0, b1, b2, b3, b4, b5, b6, rfl⟩
 have key:=get_of s _ hl
 refine ⟨b0, b1, b2, b3, b4, b5, b6, hl, fun h0 h1 h2 h3 h4 h5 h6=>?_⟩
 exact ⟨key 0 h0 b0 (by rfl), key (s.size - 1 - 5) h1 b1 (by rw [h]; rfl), key (s.size - 1 - 4) h2 b2 (by rw [h]; rfl), key (s.size - 1 - 3) h3 b3 (by rw [h]; rfl), key (s.size - 1 - 2) h4 b4 (by rw [h]; rfl), key (s.size - 1 - 1) h5 b5 (by rw [h]; rfl), key (s.size - 1) h6 b6 (by rw [h]; rfl)⟩
theorem read_7_v (s : ByteArray) (h : s.size = 7) (H : True ∧ 0 < s.size ∧ s.size - 1 - 5 < s.size ∧ s.size - 1 - 4 < s.size ∧ s.size - 1 - 3 < s.size ∧ s.size - 1 - 2 < s.size ∧ s.size - 1 - 1 < s.size ∧ s.size - 1 < s.size) :
  bits .or .i64 (wrap64 ((bits .or .i64 (wrap64 ((bits .or .i64 (wrap64 ((bits .or .i64 (wrap64 ((bits .or .i64 (wrap64 ((bits .or .i64 (wrap64 ((bits .or .i64 (wrap64 (wrap64 (IntKind.i8.wrap ((s[0]'(H.2.1)).toNat : Int) / 128) * 256)) (wrap64 ((s[0]'(H.2.1)).toNat : Int))) * 256)) (wrap64 ((s[s.size - 1 - 5]'(H.2.2.1)).toNat : Int))) * 256)) (wrap64 ((s[s.size - 1 - 4]'(H.2.2.2.1)).toNat : Int))) * 256)) (wrap64 ((s[s.size - 1 - 3]'(H.2.2.2.2.1)).toNat : Int))) * 256)) (wrap64 ((s[s.size - 1 - 2]'(H.2.2.2.2.2.1)).toNat : Int))) * 256)) (wrap64 ((s[s.size - 1 - 1]'(H.2.2.2.2.2.2.1)).toNat : Int))) * 256)) (wrap64 ((s[s.size - 1]'(H.2.2.2.2.2.2.2)).toNat : Int)) = sval s.data.toList:=by
 obtain ⟨b0, b1, b2, b3, b4, b5, b6, hl, hE⟩:=read_7_e s h
 obtain ⟨e0, e1, e2, e3, e4, e5, e6⟩:=hE H.2.1 H.2.2.1 H.2.2.2.1 H.2.2.2.2.1 H.2.2.2.2.2.1 H.2.2.2.2.2.2.1 H.2.2.2.2.2.2.2
 rw [hl, e0, e1, e2, e3, e4, e5, e6]
 have c0:=u8_lt b0
 have c1:=u8_lt b1
 have c2:=u8_lt b2
 have c3:=u8_lt b3
 have c4:=u8_lt b4
 have c5:=u8_lt b5
 have c6:=u8_lt b6
 rw [or_first b0]
 have hsv : sval [b0, b1, b2, b3, b4, b5, b6] = say (if b0.toNat < 128 then (b0.toNat : Int) else (b0.toNat : Int) - 256) [b1, b2, b3, b4, b5, b6]:=rfl
 rw [hsv]
 have ha : -128 ≤ (if b0.toNat < 128 then (b0.toNat : Int) else (b0.toNat : Int) - 256) ∧ (if b0.toNat < 128 then (b0.toNat : Int) else (b0.toNat : Int) - 256) ≤ 127:=by split <;> omega
 generalize (if b0.toNat < 128 then (b0.toNat : Int) else (b0.toNat : Int) - 256) = a at *
 rw [or_next _ b1 (by omega) (by omega)]
 rw [or_next _ b2 (by omega) (by omega)]
 rw [or_next _ b3 (by omega) (by omega)]
 rw [or_next _ b4 (by omega) (by omega)]
 rw [or_next _ b5 (by omega) (by omega)]
 rw [or_next _ b6 (by omega) (by omega)]
 rfl
set_option maxHeartbeats 1000000 in
theorem read_7_ok (s : ByteArray) (w : World) (h : s.size = 7) (hf : few (sval s.data.toList) = s.data.toList.length) :
  Calls Tryz.prog 104 #[.string s] w fun e w'=>e = .returned (rdV s.data.toList) ∧ Below w.heap.size w w':=by
 have hlen : s.data.toList.length = s.size:=rfl
 have hsv:=sval_i64 (l:=s.data.toList) (by omega) (by omega)
 have HR:=Lib.hid (rdV_some (rdI_ok (l:=s.data.toList) (by omega) (by omega) hf))
 have HC : Hid (∀ w, Calls Tryz.prog 134 #[.int .i64 (sval s.data.toList)] w fun e w'=>e = .returned (.int .i64 (few (sval s.data.toList))) ∧ w = w'):=fun w=>fewest_any _ w hsv.1 hsv.2
 have HV:=Lib.hid (read_7_v s h)
 have hs0:=isEmpty_false s (by omega)
 have q8 : ((s.size : Int) == 8) = false:=beq_eq_false_iff_ne.2 (by omega)
 have q7 : ((s.size : Int) == 7) = true:=by simp [h]
 have hA : 7 ≤ s.size:=by omega
 have hB : s.size ≤ 7:=by omega
 have hcmp : ((few (sval s.data.toList) : Int) != s.size) = false:=by rw [bne_eq_false_iff_eq]; omega
 generalize hgv : sval s.data.toList = v at *
 clear h hf hlen hgv
 go_enter Tryz.func104, Tryz.ntmps104
 go_wp2_with fail
 rw [HV.out (by refine ⟨trivial, ?_⟩; omega)]
 refine (HC.out _).mono ?_
 rintro e w' ⟨rfl, rfl⟩
 go_wp2_with fail
 go_ret2
 rw [HR.out]
 exact ⟨rfl, Below.refl _ _⟩
set_option maxHeartbeats 1000000 in
theorem read_7_bad (s : ByteArray) (w : World) (h : s.size = 7) (hf : few (sval s.data.toList) ≠ s.data.toList.length) :
  Calls Tryz.prog 104 #[.string s] w fun e w'=>e = .returned (rdV s.data.toList) ∧ Below w.heap.size w w':=by
 have hlen : s.data.toList.length = s.size:=rfl
 have hsv:=sval_i64 (l:=s.data.toList) (by omega) (by omega)
 have HR:=Lib.hid (rdV_none (rdI_bad hf))
 have HC : Hid (∀ w, Calls Tryz.prog 134 #[.int .i64 (sval s.data.toList)] w fun e w'=>e = .returned (.int .i64 (few (sval s.data.toList))) ∧ w = w'):=fun w=>fewest_any _ w hsv.1 hsv.2
 have HV:=Lib.hid (read_7_v s h)
 have hs0:=isEmpty_false s (by omega)
 have q8 : ((s.size : Int) == 8) = false:=beq_eq_false_iff_ne.2 (by omega)
 have q7 : ((s.size : Int) == 7) = true:=by simp [h]
 have hA : 7 ≤ s.size:=by omega
 have hB : s.size ≤ 7:=by omega
 have hcmp : ((few (sval s.data.toList) : Int) != s.size) = true:=by rw [bne_iff_ne]; omega
 generalize hgv : sval s.data.toList = v at *
 clear h hf hlen hgv
 go_enter Tryz.func104, Tryz.ntmps104
 go_wp2_with fail
 rw [HV.out (by refine ⟨trivial, ?_⟩; omega)]
 refine (HC.out _).mono ?_
 rintro e w' ⟨rfl, rfl⟩
 go_wp2_with fail
 go_ret2
 rw [HR.out]
 exact ⟨rfl, Below.refl _ _⟩
theorem read_8_e (s : ByteArray) (h : s.size = 8) : ∃ b0 b1 b2 b3 b4 b5 b6 b7 : UInt8, s.data.toList = [b0, b1, b2, b3, b4, b5, b6, b7] ∧ (∀ h0 h1 h2 h3 h4 h5 h6 h7, s[0]'h0 = b0 ∧ s[s.size - 1 - 6]'h1 = b1 ∧ s[s.size - 1 - 5]'h2 = b2 ∧ s[s.size - 1 - 4]'h3 = b3 ∧ s[s.size - 1 - 3]'h4 = b4 ∧ s[s.size - 1 - 2]'h5 = b5 ∧ s[s.size - 1 - 1]'h6 = b6 ∧ s[s.size - 1]'h7 = b7):=by
 have hl : s.data.toList.length = 8:=h
 obtain ⟨b0, b1, b2, b3, b4, b5, b6, b7, hl⟩ : ∃ b0 b1 b2 b3 b4 b5 b6 b7, s.data.toList = [b0, b1, b2, b3, b4, b5, b6, b7]:=by
  match s.data.toList, hl with
  | [b0, b1, b2, b3, b4, b5, b6, b7], _=>exact ⟨b0, b1, b2, b3, b4, b5, b6, b7, rfl⟩
 have key:=get_of s _ hl
 refine ⟨b0, b1, b2, b3, b4, b5, b6, b7, hl, fun h0 h1 h2 h3 h4 h5 h6 h7=>?_⟩
 exact ⟨key 0 h0 b0 (by rfl), key (s.size - 1 - 6) h1 b1 (by rw [h]; rfl), key (s.size - 1 - 5) h2 b2 (by rw [h]; rfl), key (s.size - 1 - 4) h3 b3 (by rw [h]; rfl), key (s.size - 1 - 3) h4 b4 (by rw [h]; rfl), key (s.size - 1 - 2) h5 b5 (by rw [h]; rfl), key (s.size - 1 - 1) h6 b6 (by rw [h]; rfl), key (s.size - 1) h7 b7 (by rw [h]; rfl)⟩
theorem read_8_v (s : ByteArray) (h : s.size = 8) (H : True ∧ 0 < s.size ∧ s.size - 1 - 6 < s.size ∧ s.size - 1 - 5 < s.size ∧ s.size - 1 - 4 < s.size ∧ s.size - 1 - 3 < s.size ∧ s.size - 1 - 2 < s.size ∧ s.size - 1 - 1 < s.size ∧ s.size - 1 < s.size) :
  bits .or .i64 (wrap64 ((bits .or .i64 (wrap64 ((bits .or .i64 (wrap64 ((bits .or .i64 (wrap64 ((bits .or .i64 (wrap64 ((bits .or .i64 (wrap64 ((bits .or .i64 (wrap64 ((bits .or .i64 (wrap64 (wrap64 (IntKind.i8.wrap ((s[0]'(H.2.1)).toNat : Int) / 128) * 256)) (wrap64 ((s[0]'(H.2.1)).toNat : Int))) * 256)) (wrap64 ((s[s.size - 1 - 6]'(H.2.2.1)).toNat : Int))) * 256)) (wrap64 ((s[s.size - 1 - 5]'(H.2.2.2.1)).toNat : Int))) * 256)) (wrap64 ((s[s.size - 1 - 4]'(H.2.2.2.2.1)).toNat : Int))) * 256)) (wrap64 ((s[s.size - 1 - 3]'(H.2.2.2.2.2.1)).toNat : Int))) * 256)) (wrap64 ((s[s.size - 1 - 2]'(H.2.2.2.2.2.2.1)).toNat : Int))) * 256)) (wrap64 ((s[s.size - 1 - 1]'(H.2.2.2.2.2.2.2.1)).toNat : Int))) * 256)) (wrap64 ((s[s.size - 1]'(H.2.2.2.2.2.2.2.2)).toNat : Int)) = sval s.data.toList:=by
 obtain ⟨b0, b1, b2, b3, b4, b5, b6, b7, hl, hE⟩:=read_8_e s h
 obtain ⟨e0, e1, e2, e3, e4, e5, e6, e7⟩:=hE H.2.1 H.2.2.1 H.2.2.2.1 H.2.2.2.2.1 H.2.2.2.2.2.1 H.2.2.2.2.2.2.1 H.2.2.2.2.2.2.2.1 H.2.2.2.2.2.2.2.2
 rw [hl, e0, e1, e2, e3, e4, e5, e6, e7]
 have c0:=u8_lt b0
 have c1:=u8_lt b1
 have c2:=u8_lt b2
 have c3:=u8_lt b3
 have c4:=u8_lt b4
 have c5:=u8_lt b5
 have c6:=u8_lt b6
 have c7:=u8_lt b7
 rw [or_first b0]
 have hsv : sval [b0, b1, b2, b3, b4, b5, b6, b7] = say (if b0.toNat < 128 then (b0.toNat : Int) else (b0.toNat : Int) - 256) [b1, b2, b3, b4, b5, b6, b7]:=rfl
 rw [hsv]
 have ha : -128 ≤ (if b0.toNat < 128 then (b0.toNat : Int) else (b0.toNat : Int) - 256) ∧ (if b0.toNat < 128 then (b0.toNat : Int) else (b0.toNat : Int) - 256) ≤ 127:=by split <;> omega
 generalize (if b0.toNat < 128 then (b0.toNat : Int) else (b0.toNat : Int) - 256) = a at *
 rw [or_next _ b1 (by omega) (by omega)]
 rw [or_next _ b2 (by omega) (by omega)]
 rw [or_next _ b3 (by omega) (by omega)]
 rw [or_next _ b4 (by omega) (by omega)]
 rw [or_next _ b5 (by omega) (by omega)]
 rw [or_next _ b6 (by omega) (by omega)]
 rw [or_next _ b7 (by omega) (by omega)]
 rfl
set_option maxHeartbeats 1000000 in
theorem read_8_ok (s : ByteArray) (w : World) (h : s.size = 8) (hf : few (sval s.data.toList) = s.data.toList.length) :
  Calls Tryz.prog 104 #[.string s] w fun e w'=>e = .returned (rdV s.data.toList) ∧ Below w.heap.size w w':=by
 have hlen : s.data.toList.length = s.size:=rfl
 have hsv:=sval_i64 (l:=s.data.toList) (by omega) (by omega)
 have HR:=Lib.hid (rdV_some (rdI_ok (l:=s.data.toList) (by omega) (by omega) hf))
 have HC : Hid (∀ w, Calls Tryz.prog 134 #[.int .i64 (sval s.data.toList)] w fun e w'=>e = .returned (.int .i64 (few (sval s.data.toList))) ∧ w = w'):=fun w=>fewest_any _ w hsv.1 hsv.2
 have HV:=Lib.hid (read_8_v s h)
 have hs0:=isEmpty_false s (by omega)
 have q8 : ((s.size : Int) == 8) = true:=by simp [h]
 have hA : 8 ≤ s.size:=by omega
 have hB : s.size ≤ 8:=by omega
 have hcmp : ((few (sval s.data.toList) : Int) != s.size) = false:=by rw [bne_eq_false_iff_eq]; omega
 generalize hgv : sval s.data.toList = v at *
 clear h hf hlen hgv
 go_enter Tryz.func104, Tryz.ntmps104
 go_wp2_with fail
 rw [HV.out (by refine ⟨trivial, ?_⟩; omega)]
 refine (HC.out _).mono ?_
 rintro e w' ⟨rfl, rfl⟩
 go_wp2_with fail
 go_ret2
 rw [HR.out]
 exact ⟨rfl, Below.refl _ _⟩
set_option maxHeartbeats 1000000 in
theorem read_8_bad (s : ByteArray) (w : World) (h : s.size = 8) (hf : few (sval s.data.toList) ≠ s.data.toList.length) :
  Calls Tryz.prog 104 #[.string s] w fun e w'=>e = .returned (rdV s.data.toList) ∧ Below w.heap.size w w':=by
 have hlen : s.data.toList.length = s.size:=rfl
 have hsv:=sval_i64 (l:=s.data.toList) (by omega) (by omega)
 have HR:=Lib.hid (rdV_none (rdI_bad hf))
 have HC : Hid (∀ w, Calls Tryz.prog 134 #[.int .i64 (sval s.data.toList)] w fun e w'=>e = .returned (.int .i64 (few (sval s.data.toList))) ∧ w = w'):=fun w=>fewest_any _ w hsv.1 hsv.2
 have HV:=Lib.hid (read_8_v s h)
 have hs0:=isEmpty_false s (by omega)
 have q8 : ((s.size : Int) == 8) = true:=by simp [h]
 have hA : 8 ≤ s.size:=by omega
 have hB : s.size ≤ 8:=by omega
 have hcmp : ((few (sval s.data.toList) : Int) != s.size) = true:=by rw [bne_iff_ne]; omega
 generalize hgv : sval s.data.toList = v at *
 clear h hf hlen hgv
 go_enter Tryz.func104, Tryz.ntmps104
 go_wp2_with fail
 rw [HV.out (by refine ⟨trivial, ?_⟩; omega)]
 refine (HC.out _).mono ?_
 rintro e w' ⟨rfl, rfl⟩
 go_wp2_with fail
 go_ret2
 rw [HR.out]
 exact ⟨rfl, Below.refl _ _⟩
set_option maxHeartbeats 1000000 in
theorem read_0 (s : ByteArray) (w : World) (h : s.size = 0) :
  Calls Tryz.prog 104 #[.string s] w fun e w'=>e = .returned (rdV s.data.toList) ∧ Below w.heap.size w w':=by
 have hl : s.data.toList = []:=List.eq_nil_of_length_eq_zero h
 have HR : Hid (rdV s.data.toList = .tuple #[.int .i64 0, .bool false]):=by rw [hl]; rfl
 have hs0 : s.toList.isEmpty = true:=by rw [Go.Lib.toList_data, hl]; rfl
 clear h hl
 go_enter Tryz.func104, Tryz.ntmps104
 go_wp2_with fail
 go_ret2
 rw [HR.out]
 exact ⟨rfl, Below.refl _ _⟩
theorem i8_sign (b : UInt8) : wrap64 (IntKind.i8.wrap (b.toNat : Int) / 128) = 0 ∨ wrap64 (IntKind.i8.wrap (b.toNat : Int) / 128) = -1:=by
 have hb:=u8_lt b
 have : IntKind.i8.wrap (b.toNat : Int) = ((b.toNat : Int) + 128) % 256 - 128:=by
  simp [IntKind.wrap, IntKind.bits, IntKind.signed]
  split <;> omega
 rw [this]
 unfold wrap64
 omega
theorem few_sign (x : Int) (h : x = 0 ∨ x = -1) : few x = 1:=by
 rcases h with rfl | rfl <;> decide
set_option maxHeartbeats 1000000 in
theorem read_9 (s : ByteArray) (w : World) (h : 8 < s.size) :
  Calls Tryz.prog 104 #[.string s] w fun e w'=>e = .returned (rdV s.data.toList) ∧ Below w.heap.size w w':=by
 have HR:=Lib.hid (rdV_none (rdI_long (l:=s.data.toList) h))
 have hs0:=isEmpty_false s (by omega)
 have hA : 0 < s.size:=by omega
 have q8 : ((s.size : Int) == 8) = false:=beq_eq_false_iff_ne.2 (by omega)
 have q7 : ((s.size : Int) == 7) = false:=beq_eq_false_iff_ne.2 (by omega)
 have q6 : ((s.size : Int) == 6) = false:=beq_eq_false_iff_ne.2 (by omega)
 have q5 : ((s.size : Int) == 5) = false:=beq_eq_false_iff_ne.2 (by omega)
 have q4 : ((s.size : Int) == 4) = false:=beq_eq_false_iff_ne.2 (by omega)
 have q3 : ((s.size : Int) == 3) = false:=beq_eq_false_iff_ne.2 (by omega)
 have q2 : ((s.size : Int) == 2) = false:=beq_eq_false_iff_ne.2 (by omega)
 have q1 : ((s.size : Int) == 1) = false:=beq_eq_false_iff_ne.2 (by omega)
 have hcmp : ((1 : Int) != s.size) = true:=by rw [bne_iff_ne]; omega
 have HC : Hid (∀ w, Calls Tryz.prog 134 #[.int .i64 (wrap64 (IntKind.i8.wrap (s[0].toNat : Int) / 128))] w fun e w'=>e = .returned (.int .i64 1) ∧ w = w'):=fun w=>by
  have hx:=i8_sign s[0]
  have:=fewest_any (wrap64 (IntKind.i8.wrap (s[0].toNat : Int) / 128)) w (by omega) (by omega)
  rw [few_sign _ hx] at this
  exact this
 clear h
 go_enter Tryz.func104, Tryz.ntmps104
 go_wp2_with fail
 refine (HC.out _).mono ?_
 rintro e w' ⟨rfl, rfl⟩
 go_wp2_with fail
 go_ret2
 rw [HR.out]
 exact ⟨rfl, Below.refl _ _⟩
theorem ReadInt_any (s : ByteArray) (w : World) :
  Calls Tryz.prog 104 #[.string s] w fun e w'=>e = .returned (rdV s.data.toList) ∧ Below w.heap.size w w':=by
 by_cases h9 : 8 < s.size
 ·exact read_9 s w h9
 by_cases h0 : s.size = 0
 ·exact read_0 s w h0
 rcases (show s.size = 1 ∨ s.size = 2 ∨ s.size = 3 ∨ s.size = 4 ∨ s.size = 5 ∨ s.size = 6 ∨ s.size = 7 ∨ s.size = 8 by omega) with h | h | h | h | h | h | h | h
 ·by_cases hf : few (sval s.data.toList) = s.data.toList.length
  ·exact read_1_ok s w h hf
  ·exact read_1_bad s w h hf
 ·by_cases hf : few (sval s.data.toList) = s.data.toList.length
  ·exact read_2_ok s w h hf
  ·exact read_2_bad s w h hf
 ·by_cases hf : few (sval s.data.toList) = s.data.toList.length
  ·exact read_3_ok s w h hf
  ·exact read_3_bad s w h hf
 ·by_cases hf : few (sval s.data.toList) = s.data.toList.length
  ·exact read_4_ok s w h hf
  ·exact read_4_bad s w h hf
 ·by_cases hf : few (sval s.data.toList) = s.data.toList.length
  ·exact read_5_ok s w h hf
  ·exact read_5_bad s w h hf
 ·by_cases hf : few (sval s.data.toList) = s.data.toList.length
  ·exact read_6_ok s w h hf
  ·exact read_6_bad s w h hf
 ·by_cases hf : few (sval s.data.toList) = s.data.toList.length
  ·exact read_7_ok s w h hf
  ·exact read_7_bad s w h hf
 ·by_cases hf : few (sval s.data.toList) = s.data.toList.length
  ·exact read_8_ok s w h hf
  ·exact read_8_bad s w h hf
end Go.Proofs.YtbdpkfgllnbheaaGreatDoor.Be
