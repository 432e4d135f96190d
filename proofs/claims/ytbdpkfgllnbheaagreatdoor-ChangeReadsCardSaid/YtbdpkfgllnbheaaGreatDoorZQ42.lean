import Derived.Test.YtbdpkfgllnbheaaGreatDoorZQ39
import Derived.RegionTactic
import Derived.ChangeAlike
set_option linter.unusedVariables false
set_option maxRecDepth 100000
namespace Go.Proofs.YtbdpkfgllnbheaaGreatDoor
open Go.RowKit
end Go.Proofs.YtbdpkfgllnbheaaGreatDoor
namespace Go.Proofs.YtbdpkfgllnbheaaGreatDoor.Ch
open Go.RowKit
attribute [local go_sem ↓] loadAtG storeAtG
theorem xor_u8 (a b : UInt8) : ∃ c : UInt8, bits .xor .u8 (a.toNat : Int) (b.toNat : Int) = (c.toNat : Int):=by
 have h:=(BitVec.ofInt 8 (a.toNat : Int) ^^^ BitVec.ofInt 8 (b.toNat : Int)).isLt
 refine ⟨((BitVec.ofInt 8 (a.toNat : Int) ^^^ BitVec.ofInt 8 (b.toNat : Int)).toNat).toUInt8, ?_⟩
 show IntKind.u8.wrap ((BitVec.ofInt 8 (a.toNat : Int) ^^^ BitVec.ofInt 8 (b.toNat : Int)).toNat : Int) = _
 rw [UInt8.toNat_ofNat', IntKind.wrap_u8]
 omega
theorem wrC_len (c : Cg) (h : (wrC c).2 = 0) : (wrC c).1.length ≤ 4000:=by
 unfold wrC at h ⊢
 split
 ·exact Nat.zero_le _
 ·split
  ·exact Nat.zero_le _
  ·rename_i h1
   have : ¬ 4000 < (Be.wr (chEl c)).1.length:=fun h2=>h1 (.inr h2)
   show (Be.wr (chEl c)).1.length ≤ 4000
   omega
set_option maxHeartbeats 8000000 in
theorem reads_go (w : World) (c : Cg) (cs : Array Value) (ha : GAt w (· < w.heap.size) c cs) (at_ : Nat) (hat : at_ < 65536) (by_ : UInt8) (s : ByteArray) (hG : Cs.Glob w) :
  Calls Tryz.prog 4 #[.agg cs, .int .u16 at_, .int .u8 by_.toNat, .string s] w (Flag w true):=by
 have hB:=Box.new ha
 have HB:=Lib.hid hB
 have Hb0:=Lib.hid ((Below.refl w.heap.size w).alloc (Nat.le_refl _) (.cells cs 28))
 have HG:=Lib.hid hG
 have HF:=Lib.hid (few_any c cs)
 have HC:=Lib.hid (Bytes_any c cs)
 have hlen:=wrC_len c
 generalize wrC c = p at HC hlen
 obtain ⟨l, e⟩:=p
 have hlen' : e = 0 → (⟨l.toArray⟩ : ByteArray).size ≤ 4000:=fun h=>by simpa [ByteArray.size] using hlen h
 have HC' : Hid (∀ (w : World), Cs.Glob w → smA c → GAt w (· < w.heap.size) c cs → Calls Tryz.prog 9 #[.agg cs] w fun r w'=>r = .returned (.tuple #[.string ⟨l.toArray⟩, .int .i64 e]) ∧ Below w.heap.size w w'):=HC
 generalize (⟨l.toArray⟩ : ByteArray) = P at HC' hlen'
 clear hG ha hB HC hlen
 go_enter Tryz.func4, Tryz.ntmps4
 go_wp2_with fail
 refine (known_any _ (HG.out.past Hb0.out)).mono ?_
 rintro r w1 ⟨rfl, hk1⟩
 have HB1:=Lib.hid (HB.out.past hk1)
 have Hb2:=Lib.hid (Hb0.out.trans (hk1.mono Hb0.out.size))
 have hld:=HB1.out.load
 clear HB Hb0 hk1
 go_wp2_with fail
 refine (HF.out _ HB1.out.2).mono ?_
 rintro r w2 ⟨f1, rfl, hf, hk2⟩
 have HB2:=Lib.hid (HB1.out.past hk2)
 have Hb4:=Lib.hid (Hb2.out.trans (hk2.mono Hb2.out.size))
 have HFW:=Lib.hid hf
 clear HB1 Hb2 hk2 hf hld
 cases f1 with
 | false =>
  go_wp2_with fail
  go_ret
  exact ⟨rfl, Hb4.out⟩
 | true =>
  by_cases h6 : 600 < (s.size : Int)
  ·go_wp2_with fail
   go_ret
   exact ⟨rfl, Hb4.out⟩
  have h6' : (s.size : Int) ≤ 600:=by omega
  clear h6
  have RS:=Lib.hid (fun w hG=>reads_any s w hG (by omega))
  have hsm : smA c:=fun d hd=>by have:=((HFW.out rfl).1.2 d hd).1; omega
  have hld:=HB2.out.load
  have HSM:=Lib.hid hsm
  clear hsm HFW
  go_wp2_with fail
  refine (HC'.out _ (HG.out.past Hb4.out) HSM.out HB2.out.2).mono ?_
  rintro r w3 ⟨rfl, hk3⟩
  have Hb6:=Lib.hid (Hb4.out.trans (hk3.mono Hb4.out.size))
  clear HB2 Hb4 hk3 hld HC' HF
  by_cases he : e = 0
  case neg =>
   have e1 : (((e : Nat) : Int) == 0) = false:=by rw [beq_eq_false_iff_ne]; omega
   go_wp2_with fail
   refine (RS.out _ (HG.out.past Hb6.out)).mono ?_
   rintro r wl ⟨rfl, hkl⟩
   have hbl:=Hb6.out.trans (hkl.mono Hb6.out.size)
   go_wp2_with fail
   go_ret
   exact ⟨rfl, hbl⟩
  subst he
  have hP4:=hlen' rfl
  by_cases hP0 : (P.size : Int) ≤ 0
  ·have hP1 : ¬ (0 < (P.size : Int)):=by omega
   go_wp2_with fail
   refine (RS.out _ (HG.out.past Hb6.out)).mono ?_
   rintro r wl ⟨rfl, hkl⟩
   have hbl:=Hb6.out.trans (hkl.mono Hb6.out.size)
   go_wp2_with fail
   go_ret
   exact ⟨rfl, hbl⟩
  have hP1 : 0 < (P.size : Int):=by omega
  clear hP0 hlen'
  obtain ⟨cap, w8, hc, hR, hb8, hsz⟩:=row_of_string P w3
  obtain ⟨q, hq⟩ : ∃ q : Nat, (at_ : Int) % P.size = q:=⟨at_ % P.size, by omega⟩
  have hqP : q < P.size:=by
   have : (at_ : Int) % P.size < P.size:=Int.emod_lt_of_pos _ (by omega)
   omega
  have hP2 : ((P.size : Int) == 0) = false:=by rw [beq_eq_false_iff_ne]; omega
  have hln : (Nm.bs P).length = P.size:=rfl
  have f0 : w8.frozen? ⟨w3.heap.size, q, none⟩ = false:=hR.frozen hqP
  have c0:=hR.cell (i:=q) (List.getElem?_eq_getElem hqP)
  generalize hb0 : (Nm.bs P)[q] = b0 at c0
  obtain ⟨ch, hch⟩ : ∃ ch : UInt8, bits .xor .u8 (b0.toNat : Int) (by_.toNat : Int) = (ch.toNat : Int):=xor_u8 b0 by_
  have H8:=Lib.hid (Hb6.out.trans (hb8.mono Hb6.out.size))
  have hR2:=hR.set_ q ch
  have hb9:=(H8.out.setCell (p:=⟨w3.heap.size, q, none⟩) (Hb6.out.size) (.int .u8 (ch.toNat : Int))).drew
  have E:=row_string (cap:=cap) (show Row (w8.setCell ⟨w3.heap.size, q, none⟩ (.int .u8 (ch.toNat : Int))).drew w3.heap.size _ from hR2.drew)
  rw [List.length_set, hln] at E
  clear hR hR2 hb8 hln
  have hsz1 : (Nm.mk ((Nm.bs P).set q ch)).size = P.size:=by show ((Nm.bs P).set q ch).length = _; rw [List.length_set]; rfl
  have R1:=Lib.hid (fun w hG=>reads_any (Nm.mk ((Nm.bs P).set q ch)) w hG (by omega))
  clear hsz1 hb0
  go_wp2_with fail
  go_region
  go_wp2_with fail
  refine (R1.out _ (HG.out.past hb9)).mono ?_
  rintro r w9 ⟨rfl, hb⟩
  have H9:=Lib.hid (hb9.trans (hb.mono hb9.size))
  clear hb hb9 c0 f0 E hc hch
  go_wp2_with fail
  refine (RS.out _ (HG.out.past H9.out)).mono ?_
  rintro r wl ⟨rfl, hkl⟩
  have hbl:=H9.out.trans (hkl.mono H9.out.size)
  go_wp2_with fail
  go_ret
  exact ⟨rfl, hbl⟩
theorem walk_ChangeReads (w : World) (m : Cg) (cm : Array Value) (ha : GAt w (· < w.heap.size) m cm) (a : Int) (h1 : (Lit.int .u16 a).wf = true) (c : Int) (h3 : (Lit.int .u8 c).wf = true) (s : ByteArray) (hs : s.size ≤ maxLen) (hG : Cs.Glob w) :
  Calls Tryz.prog 4 #[.agg cm, .int .u16 a, .int .u8 c, .string s] w fun r w'=>r = .returned (.bool true) ∧ Below w.heap.size w w':=by
 have g1 : 0 ≤ a ∧ a ≤ 65535:=by simpa [Lit.wf, IntKind.min, IntKind.max, IntKind.signed, IntKind.bits] using h1
 have g3 : 0 ≤ c ∧ c ≤ 255:=by simpa [Lit.wf, IntKind.min, IntKind.max, IntKind.signed, IntKind.bits] using h3
 obtain ⟨x, rfl⟩:=Int.eq_ofNat_of_zero_le g1.1
 obtain ⟨z, rfl⟩ : ∃ z : UInt8, c = z.toNat:=⟨c.toNat.toUInt8, by rw [UInt8.toNat_ofNat']; omega⟩
 exact reads_go w m cm ha x (by omega) z s hG
end Go.Proofs.YtbdpkfgllnbheaaGreatDoor.Ch
