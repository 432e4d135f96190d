import Derived.Test.YtbnebpdpeegpbaaDoorZT7
import Derived.Laws.BytesArg
import Derived.Deep.RegionWith
set_option linter.unusedVariables false
set_option maxRecDepth 100000
namespace Go.Proofs.YtbnebpdpeegpbaaDoor.Cs
open Go.RowKit
theorem conv_blk (w : World) (g n : Nat) (l : List UInt8) (hn : n = l.length) (h : Blk w g 5 (Lib.byteCells l).toArray) :
  (convert 67 9 (.slice (some ⟨g, 0, none⟩) n n)).run Tryd.prog w = .ok (.string (mk l)) w:=by
 subst hn
 refine run_convert_bytes_back (P:=Tryd.prog) w 67 9 5 ⟨g, 0, none⟩ _ l Tryd.underlying67 Tryd.underlying5 Tryd.underlying9 (fun j hj=>?_)
 rw [Addr.add_lit, Nat.zero_add, h.cell j]
 simp only [List.getElem?_toArray, Lib.byteCells, List.getElem?_map, List.getElem?_eq_getElem hj]
 rfl
theorem conv_digit (k : Nat) (hk : k < 10) (w : World) (g : Nat) (hg : g = w.heap.size) : (convert 67 9 (.slice (some ⟨g, 0, none⟩) 1 1)).run Tryd.prog (w.alloc (.cells #[.int .u8 (48 + (k : Int))] 5)) = .ok (.string (mk [UInt8.ofNat (48 + k)])) (w.alloc (.cells #[.int .u8 (48 + (k : Int))] 5)):=by
 subst hg
 have e : #[Value.int .u8 (48 + (k : Int))] = (Lib.byteCells [UInt8.ofNat (48 + k)]).toArray:=by
  have:=digit_nat k hk
  simp only [Lib.byteCells, List.map_cons, List.map_nil, List.toArray]
  rw [this]
  simp
 rw [e]
 exact conv_blk _ _ 1 [UInt8.ofNat (48 + k)] rfl (Blk.new _ _ _)
def Told (U q : Nat) (D : List UInt8) : Prop:=Lib.decDigits U = Lib.decDigits q ++ D
theorem told_one {U q : Nat} {D : List UInt8} (h : Told U q D) (hq : q < 10) : Lib.decDigits U = UInt8.ofNat (48 + q % 10) :: D:=by
 unfold Told at h
 rw [h, Lib.decDigits, dif_pos hq, Nat.mod_eq_of_lt hq]
 rfl
theorem told_more {U q : Nat} {D : List UInt8} (h : Told U q D) (hq : ¬ q < 10) : Told U (q / 10) (UInt8.ofNat (48 + q % 10) :: D):=by
 unfold Told at h ⊢
 rw [h, Lib.decDigits, dif_neg hq]
 simp
theorem mk_cons (c : UInt8) (D : List UInt8) : mk [c] ++ mk D = mk (c :: D):=by
 apply bs_inj
 show (mk [c] ++ mk D).data.toList = c :: D
 simp [ByteArray.data_append]
theorem told_len {U q : Nat} {D : List UInt8} (hU : U ≤ 9223372036854775808) (h : Told U q D) : D.length ≤ 20:=by
 have h1:=congrArg List.length h
 rw [List.length_append, Lib.decDigits_length] at h1
 have h9 : (10 : Nat) ^ (18 + 1) = 10000000000000000000:=by decide
 have:=nDigits_le 18 U (by omega)
 omega
set_option maxHeartbeats 2000000 in
theorem num_any (n : Int) (hn : I64 n) (w : World) : Calls Tryd.prog 26 #[.int .i64 n] w fun e w'=>e = .returned (.string (mk (Lib.itoa n))) ∧ Below w.heap.size w w':=by
 obtain ⟨h1, h2⟩:=hn
 have hU : n.natAbs ≤ 9223372036854775808:=by omega
 obtain ⟨Z, hZ⟩ : ∃ Z, Hid (Z = mk (Lib.itoa n)):=⟨_, rfl⟩
 rw [← hZ.out]
 by_cases h0 : n < 0
 ·have hW : IntKind.u64.wrap (-IntKind.u64.wrap n) = (n.natAbs : Int):=by
   simp [IntKind.wrap, IntKind.signed, IntKind.bits]
   omega
  have hZ2:=Lib.hid (show Z = mk (45 :: Lib.decDigits n.natAbs) by rw [hZ.out]; unfold Lib.itoa; rw [if_pos h0])
  clear hZ
  go_enter Tryd.func26, Tryd.ntmps26
  go_wp2_with fail
  go_loopw [5, 3] (fun s u wr=>∃ (q : Nat) (D : List UInt8), u = .int .u64 (q : Int) ∧ s = .string (mk D) ∧ q ≤ 9223372036854775808 ∧ Hid (Told n.natAbs q D) ∧ Below w.heap.size w wr) (fun s u wr=>(intOf u).toNat)
  case atStart=>exact ⟨n.natAbs, [], rfl, rfl, by omega, by show Told _ _ _; unfold Told; rw [List.append_nil], Below.refl _ _⟩
  case round =>
   obtain ⟨q, D, rfl, rfl, hq, hT, hb⟩:=hrel
   have hs:=hb.size
   have hl:=told_len hU hT.out
   rw [← mk_size] at hl
   have hc:=conv_digit (q % 10) (by omega) wr wr.heap.size rfl
   rw [show ((q % 10 : Nat) : Int) = (q : Int) % 10 by omega] at hc
   have hx:=mk_cons (UInt8.ofNat (48 + q % 10)) D
   have hxs : (mk [UInt8.ofNat (48 + q % 10)]).size = 1:=rfl
   have HX:=Lib.hid hx
   have hb9:=hb.alloc hs (.cells #[.int .u8 (48 + (q : Int) % 10)] 5)
   generalize mk [UInt8.ofNat (48 + q % 10)] = X at hc hx HX hxs
   generalize hS : mk D = S at *
   have hS:=Lib.hid hS
   have a1 : ¬ (9223372036854775807 < X.size + S.size):=by omega
   have a2 : ¬ (9223372036854775807 < 1 + (X.size + S.size)):=by omega
   have a3 : ¬ (9223372036854775807 < 0 + (X.size + S.size)):=by omega
   clear hx hxs hl
   by_cases h10 : q < 10
   ·have HT:=Lib.hid (told_one hT.out h10)
    have hd : ((q : Int) / 10 == 0) = true:=by rw [beq_iff_eq]; omega
    clear hT
    go_wp2_with fail
    go_ret
    refine ⟨?_, hb9⟩
    rw [HX.out]
    show Ending.returned (.string (⟨#[45]⟩ ++ mk (UInt8.ofNat (48 + q % 10) :: D))) = _
    rw [← HT.out]
    rw [hZ2.out]
    exact ret_str (mk_cons 45 _)
   ·have HT:=Lib.hid (told_more hT.out h10)
    have hd : ((q : Int) / 10 == 0) = false:=by rw [beq_eq_false_iff_ne]; omega
    clear hT
    go_wp2_with fail
    go_roundw
    case rel=>exact ⟨q / 10, UInt8.ofNat (48 + q % 10) :: D, by rw [show ((q / 10 : Nat) : Int) = (q : Int) / 10 by omega], by rw [HX.out], by omega, HT.out, hb9⟩
    case measure=>simp [intOf]; omega
 ·have hW : IntKind.u64.wrap n = (n.natAbs : Int):=by
   simp [IntKind.wrap, IntKind.signed, IntKind.bits]
   omega
  have hZ2:=Lib.hid (show Z = mk (Lib.decDigits n.natAbs) by rw [hZ.out]; unfold Lib.itoa; rw [if_neg h0, show n.toNat = n.natAbs by omega])
  clear hZ
  go_enter Tryd.func26, Tryd.ntmps26
  go_wp2_with fail
  go_loopw [5, 3] (fun s u wr=>∃ (q : Nat) (D : List UInt8), u = .int .u64 (q : Int) ∧ s = .string (mk D) ∧ q ≤ 9223372036854775808 ∧ Hid (Told n.natAbs q D) ∧ Below w.heap.size w wr) (fun s u wr=>(intOf u).toNat)
  case atStart=>exact ⟨n.natAbs, [], rfl, rfl, by omega, by show Told _ _ _; unfold Told; rw [List.append_nil], Below.refl _ _⟩
  case round =>
   obtain ⟨q, D, rfl, rfl, hq, hT, hb⟩:=hrel
   have hs:=hb.size
   have hl:=told_len hU hT.out
   rw [← mk_size] at hl
   have hc:=conv_digit (q % 10) (by omega) wr wr.heap.size rfl
   rw [show ((q % 10 : Nat) : Int) = (q : Int) % 10 by omega] at hc
   have hx:=mk_cons (UInt8.ofNat (48 + q % 10)) D
   have hxs : (mk [UInt8.ofNat (48 + q % 10)]).size = 1:=rfl
   have HX:=Lib.hid hx
   have hb9:=hb.alloc hs (.cells #[.int .u8 (48 + (q : Int) % 10)] 5)
   generalize mk [UInt8.ofNat (48 + q % 10)] = X at hc hx HX hxs
   generalize hS : mk D = S at *
   have hS:=Lib.hid hS
   have a1 : ¬ (9223372036854775807 < X.size + S.size):=by omega
   have a2 : ¬ (9223372036854775807 < 1 + (X.size + S.size)):=by omega
   have a3 : ¬ (9223372036854775807 < 0 + (X.size + S.size)):=by omega
   clear hx hxs hl
   by_cases h10 : q < 10
   ·have HT:=Lib.hid (told_one hT.out h10)
    have hd : ((q : Int) / 10 == 0) = true:=by rw [beq_iff_eq]; omega
    clear hT
    go_wp2_with fail
    go_ret
    refine ⟨?_, hb9⟩
    rw [HX.out]
    show Ending.returned (.string (⟨#[]⟩ ++ mk (UInt8.ofNat (48 + q % 10) :: D))) = _
    rw [← HT.out]
    rw [hZ2.out]
    exact ret_str (by apply bs_inj; show (⟨#[]⟩ ++ mk (Lib.decDigits n.natAbs) : ByteArray).data.toList = _; simp [ByteArray.data_append])
   ·have HT:=Lib.hid (told_more hT.out h10)
    have hd : ((q : Int) / 10 == 0) = false:=by rw [beq_eq_false_iff_ne]; omega
    clear hT
    go_wp2_with fail
    go_roundw
    case rel=>exact ⟨q / 10, UInt8.ofNat (48 + q % 10) :: D, by rw [show ((q / 10 : Nat) : Int) = (q : Int) / 10 by omega], by rw [HX.out], by omega, HT.out, hb9⟩
    case measure=>simp [intOf]; omega
set_option maxHeartbeats 1000000 in
theorem rText_any (t s r : Int) (ht : I64 t) (hs : I64 s) (hr : I64 r) (w : World) : Calls Tryd.prog 10 #[cv t s r] w fun e w'=>e = .returned (.string (mk (text t s r))) ∧ Below w.heap.size w w':=by
 have C1:=num_any t ht
 have C2:=num_any s hs
 have C3:=num_any r hr
 have l1:=itoa_len t ht.1 ht.2
 have l2:=itoa_len s hs.1 hs.2
 have l3:=itoa_len r hr.1 hr.2
 rw [← mk_size] at l1 l2 l3
 have HE:=text_mk t s r
 generalize mk (text t s r) = Z at HE ⊢
 generalize mk (Lib.itoa t) = A at *
 generalize mk (Lib.itoa s) = B at *
 generalize mk (Lib.itoa r) = D at *
 have C1:=Lib.hid C1
 have C2:=Lib.hid C2
 have C3:=Lib.hid C3
 have HE:=Lib.hid HE
 have a1 : ¬ (9223372036854775807 < A.size + 1):=by omega
 have a2 : ¬ (9223372036854775807 < A.size + 1 + B.size):=by omega
 have a3 : ¬ (9223372036854775807 < A.size + 1 + B.size + 1):=by omega
 have a4 : ¬ (9223372036854775807 < A.size + 1 + B.size + 1 + D.size):=by omega
 have B0:=(Blk.new w 23 (gc t s r)).drew
 have hb0:=((Below.refl w.heap.size w).alloc (Nat.le_refl _) (.cells (gc t s r) 23)).drew
 have hz0:=hb0.size
 clear ht hs hr
 go_enter Tryd.func10, Tryd.ntmps10
 go_wp2_with fail
 go_region_held3 (fun w'=>w'.cell? ⟨w.heap.size, 0, none⟩ = some (.int .i64 t) ∧ w'.cell? ⟨w.heap.size, 1, none⟩ = some (.int .i64 s) ∧ w'.cell? ⟨w.heap.size, 2, none⟩ = some (.int .i64 r)) (first | exact ⟨B0.cell 0, B0.cell 1, B0.cell 2⟩ | exact ⟨B3.cell 0, B3.cell 1, B3.cell 2⟩ | exact ⟨B2.cell 0, B2.cell 1, B2.cell 2⟩ | exact ⟨B1.cell 0, B1.cell 1, B1.cell 2⟩) (first | (go_at_call_of 26 (Value.int IntKind.i64 t); refine (C1.out _).mono ?_; rintro e9 w1 ⟨rfl, hb1⟩; have B1:=B0.past hb1; have hc1:=hb0.trans (hb1.mono hz0); have hz1:=hc1.size) | (go_at_call_of 26 (Value.int IntKind.i64 r); refine (C3.out _).mono ?_; rintro e9 w3 ⟨rfl, hb3⟩; have B3:=B2.past hb3; have hc3:=hc2.trans (hb3.mono hz2)) | (go_at_call_of 26 (Value.int IntKind.i64 s); refine (C2.out _).mono ?_; rintro e9 w2 ⟨rfl, hb2⟩; have B2:=B1.past hb2; have hc2:=hc1.trans (hb2.mono hz1); have hz2:=hc2.size))
 all_goals
  go_wp2_with fail
  go_ret
  refine ⟨?_, hc3⟩
  rw [← HE.out]
  rfl
end Go.Proofs.YtbnebpdpeegpbaaDoor.Cs
