import Derived.Test.YtbdpkfgllnbheaaGreatDoorZQ7
import Derived.Test.YtbdpkfgllnbheaaGreatDoorZQ6
import Derived.Deep.RegionWith
set_option linter.unusedVariables false
set_option maxRecDepth 100000
namespace Go.Proofs.YtbdpkfgllnbheaaGreatDoor
open Go.RowKit
theorem pos_cons (sep c : UInt8) (r : List UInt8) : Nm.pos sep (c :: r) = if c = 92 then (match r with
   | []=>none
   | _ :: r'=>(Nm.pos sep r').map (· + 2))
  else if c = sep then some 0 else (Nm.pos sep r).map (· + 1):=by
 rw [Nm.pos.eq_def]
 rfl
theorem pos_esc (sep : UInt8) (l : List UInt8) (k : Nat) (h : k < l.length) (hc : l[k] = 92) : Nm.pos sep (l.drop k) = (Nm.pos sep (l.drop (k + 2))).map (· + 2):=by
 rw [List.drop_eq_getElem_cons h, pos_cons, if_pos hc]
 cases h2 : l.drop (k + 1) with
 | nil =>
  have : l.drop (k + 2) = []:=by
   rw [List.drop_eq_nil_iff] at h2 ⊢; omega
  rw [this]; rfl
 | cons d r =>
  have : l.drop (k + 2) = r:=by
   rw [show k + 2 = (k + 1) + 1 by omega, ← List.drop_drop, h2]; rfl
  rw [this]
theorem pos_here (sep : UInt8) (l : List UInt8) (k : Nat) (h : k < l.length) (hc : l[k] ≠ 92) (hs : l[k] = sep) : Nm.pos sep (l.drop k) = some 0:=by
 rw [List.drop_eq_getElem_cons h, pos_cons, if_neg hc, if_pos hs]
theorem pos_on (sep : UInt8) (l : List UInt8) (k : Nat) (h : k < l.length) (hc : l[k] ≠ 92) (hs : l[k] ≠ sep) : Nm.pos sep (l.drop k) = (Nm.pos sep (l.drop (k + 1))).map (· + 1):=by
 rw [List.drop_eq_getElem_cons h, pos_cons, if_neg hc, if_neg hs]
theorem map_map_add (o : Option Nat) (a b : Nat) : (o.map (· + a)).map (· + b) = o.map (· + (b + a)):=by
 cases o with
 | none=>rfl
 | some x=>simp only [Option.map_some, Option.some.injEq]; omega
theorem pos_end (sep : UInt8) (l : List UInt8) (k : Nat) (h : l.length ≤ k) : Nm.pos sep (l.drop k) = none:=by
 rw [List.drop_eq_nil_of_le h]; rfl
def cutV (s : ByteArray) (sep : UInt8) : Value:=match Nm.pos sep (Nm.bs s) with
 | none=>.tuple #[.string s, .string ⟨#[]⟩, .bool false]
 | some i=>.tuple #[.string (s.extract 0 i), .string (s.extract (i + 1) s.size), .bool true]
theorem u8_eq (a b : UInt8) : ((a.toNat : Int) == b.toNat) = decide (a = b):=by
 rw [Bool.eq_iff_iff]
 simp only [beq_iff_eq, decide_eq_true_eq]
 constructor
 ·intro h; apply UInt8.toNat_inj.1; omega
 ·intro h; rw [h]
set_option maxHeartbeats 1000000 in
theorem cut_any (s : ByteArray) (sep : UInt8) (w : World) (hs : s.size ≤ 1000000000) :
  Calls Tryz.prog 137 #[.string s, .int .u8 sep.toNat] w fun e w'=>e = .returned (cutV s sep) ∧ Below w.heap.size w w':=by
 go_enter Tryz.func137, Tryz.ntmps137
 go_wp2_with fail
 go_loopw [7] (fun i wr=>∃ k : Nat, k ≤ s.size + 1 ∧ i = .int .i64 k ∧ Hid (Nm.pos sep (Nm.bs s) = (Nm.pos sep ((Nm.bs s).drop k)).map (· + k)) ∧ Below w.heap.size w wr) (fun i wr=>s.size + 1 - (intOf i).toNat)
 case atStart=>exact ⟨0, Nat.zero_le _, rfl, by show _ = _; rw [List.drop_zero]; cases Nm.pos sep (Nm.bs s) <;> rfl, Below.refl _ _⟩
 case round =>
  obtain ⟨k, hk, rfl, hE, hb⟩:=hrel
  by_cases hlt : k < s.size
  ·have hE2:=hE.out
   obtain ⟨c, hc⟩ : ∃ c, c = s[k]:=⟨_, rfl⟩
   have hcr : ∀ h, s[k]'h = c:=fun _=>hc.symm
   have hcl : (Nm.bs s)[k]'hlt = c:=hc.symm
   have h256:=u8_lt c
   clear hc
   by_cases h92 : c = 92
   ·rw [pos_esc sep (Nm.bs s) k hlt (by rw [hcl, h92]), map_map_add] at hE2
    have HE:=Lib.hid hE2
    have hn : (c.toNat : Int) = 92:=by rw [h92]; rfl
    clear hE hE2 h92 hcl
    go_wp2_with fail
    refine ⟨⟨k + 2, by omega, by go_num, HE.out, hb⟩, by simp [intOf]; omega⟩
   have hn : ((c.toNat : Int) == 92) = false:=by
    have:=u8_eq c 92
    rw [decide_eq_false h92] at this
    exact this
   by_cases hsp : c = sep
   ·rw [pos_here sep (Nm.bs s) k hlt (by rw [hcl]; exact h92) (by rw [hcl]; exact hsp)] at hE2
    have HE:=Lib.hid (show cutV s sep = .tuple #[.string (s.extract 0 k), .string (s.extract (k + 1) s.size), .bool true] by
     unfold cutV; rw [hE2]; simp)
    have hn2 : ((c.toNat : Int) == sep.toNat) = true:=by rw [u8_eq, decide_eq_true hsp]
    clear hE hE2 hcl h92 hsp
    go_wp2_with fail
    go_region
    all_goals
     go_wp2_with fail
     go_ret3
     refine ⟨?_, hb.drew⟩
     rw [HE.out]
     rfl
   ·rw [pos_on sep (Nm.bs s) k hlt (by rw [hcl]; exact h92) (by rw [hcl]; exact hsp), map_map_add] at hE2
    have HE:=Lib.hid hE2
    have hn2 : ((c.toNat : Int) == sep.toNat) = false:=by rw [u8_eq, decide_eq_false hsp]
    clear hE hE2 hcl h92 hsp
    go_wp2_with fail
    refine ⟨⟨k + 1, by omega, by go_num, HE.out, hb⟩, by simp [intOf]; omega⟩
  ·have hE2:=hE.out
   rw [pos_end sep (Nm.bs s) k (by rw [size_eq]; omega)] at hE2
   have HE:=Lib.hid (show cutV s sep = .tuple #[.string s, .string ⟨#[]⟩, .bool false] by unfold cutV; rw [hE2]; rfl)
   clear hE hE2
   go_wp2_with fail
   go_ret3
   refine ⟨?_, hb⟩
   rw [HE.out]
   rfl
end Go.Proofs.YtbdpkfgllnbheaaGreatDoor
namespace Go.Proofs.YtbdpkfgllnbheaaGreatDoor
open Go.RowKit
def pairV : Option (UInt8 × Nat) → Value
 | none=>.tuple #[.int .u8 0, .int .i64 0]
 | some (c, n)=>.tuple #[.int .u8 c.toNat, .int .i64 n]
theorem head_of (s : ByteArray) (h : 0 < s.size) : Nm.bs s = s[0] :: (Nm.bs s).drop 1:=by
 have:=drop_at (s:=s) (k:=0) h
 rw [List.drop_zero] at this
 exact this
theorem unE_ok {c : UInt8} {r : List UInt8} (h : Nm.escOk c = true) : Nm.unE (c :: r) = some (c, 2):=by
 show (if Nm.escOk c = true then _ else _) = _
 rw [if_pos h]
theorem unE_short {c : UInt8} (h : Nm.escOk c = false) : Nm.unE [c] = none:=by
 show (if Nm.escOk c = true then _ else _) = _
 rw [if_neg (by rw [h]; exact Bool.false_ne_true)]
theorem unE_two {c e : UInt8} {r : List UInt8} (h : Nm.escOk c = false) : Nm.unE (c :: e :: r) = match Nm.dig c, Nm.dig e with
   | some h, some l=>some ((16 * h + l).toUInt8, 3)
   | _, _=>none:=by
 show (if Nm.escOk c = true then _ else _) = _
 rw [if_neg (by rw [h]; exact Bool.false_ne_true)]
 cases Nm.dig c <;> cases Nm.dig e <;> rfl
theorem escOk_of (c : UInt8) : Nm.escOk c = true ↔ ((c.toNat : Int) = 44 ∨ (c.toNat : Int) = 43 ∨ (c.toNat : Int) = 34 ∨ (c.toNat : Int) = 92 ∨ (c.toNat : Int) = 60 ∨ (c.toNat : Int) = 62 ∨ (c.toNat : Int) = 59 ∨ (c.toNat : Int) = 35 ∨ (c.toNat : Int) = 61 ∨ (c.toNat : Int) = 32):=by
 unfold Nm.escOk Nm.special
 rw [Bool.or_eq_true, decide_eq_true_eq, decide_eq_true_eq]
 omega
theorem or_all : (List.range 16).all (fun h=>(List.range 16).all (fun l=>decide (bits .or .i64 ((h : Int) * 16) (l : Int) = ((16 * h + l : Nat) : Int)))) = true:=by kernel_rfl
theorem or_hex (h l : Nat) (h1 : h < 16) (h2 : l < 16) : bits .or .i64 ((h : Int) * 16) (l : Int) = ((16 * h + l : Nat) : Int):=by
 have h3:=List.all_eq_true.1 or_all h (by simp [h1])
 have h4:=List.all_eq_true.1 h3 l (by simp [h2])
 exact of_decide_eq_true h4
set_option maxHeartbeats 1000000 in
theorem readE_any (s : ByteArray) (w : World) : Calls Tryz.prog 189 #[.string s] w fun e w'=>e = .returned (pairV (Nm.unE (Nm.bs s))) ∧ Below w.heap.size w w':=by
 by_cases h0 : s.size = 0
 ·have h1:=nil_of s h0
  have h2:=Lib.hid (show Nm.unE (Nm.bs s) = none by rw [show Nm.bs s = [] from nilD_of s h0]; rfl)
  clear h0
  go_enter Tryz.func189, Tryz.ntmps189
  go_wp2_with fail
  go_ret2
  exact ⟨by rw [h2.out]; rfl, Below.refl _ _⟩
 have hd:=head_of s (by omega)
 have hne:=isE_of s (by omega)
 have h1 : 0 < s.size:=by omega
 obtain ⟨c, hc⟩ : ∃ c, c = s[0]:=⟨_, rfl⟩
 have hcr : ∀ h, s[0]'h = c:=fun _=>hc.symm
 have h256:=u8_lt c
 rw [← hc] at hd
 by_cases hok : Nm.escOk c = true
 ·have h2:=Lib.hid (show pairV (Nm.unE (Nm.bs s)) = .tuple #[.int .u8 (c.toNat : Int), .int .i64 2] by rw [hd, unE_ok hok]; rfl)
  rw [escOk_of] at hok
  clear h0 hd hc
  rcases hok with h3 | h3 | h3 | h3 | h3 | h3 | h3 | h3 | h3 | h3
  all_goals
   rw [h3] at h2
   go_enter Tryz.func189, Tryz.ntmps189
   go_wp2_with fail
   go_ret2
   refine ⟨?_, Below.refl _ _⟩
   rw [h2.out]
   rfl
 have hok' : Nm.escOk c = false:=by simpa using hok
 have hn : ((c.toNat : Int) == 44) = false ∧ ((c.toNat : Int) == 43) = false ∧ ((c.toNat : Int) == 34) = false ∧ ((c.toNat : Int) == 92) = false ∧ ((c.toNat : Int) == 60) = false ∧ ((c.toNat : Int) == 62) = false ∧ ((c.toNat : Int) == 59) = false ∧ ((c.toNat : Int) == 35) = false ∧ ((c.toNat : Int) == 61) = false ∧ ((c.toNat : Int) == 32) = false:=by
  have h3 : ¬ _:=fun h=>hok ((escOk_of c).2 h)
  simp only [beq_eq_false_iff_ne, ne_eq]
  omega
 obtain ⟨a1, a2, a3, a4, a5, a6, a7, a8, a9, a10⟩:=hn
 by_cases h5 : s.size = 1
 ·have h2:=Lib.hid (show Nm.unE (Nm.bs s) = none by
   rw [hd, List.drop_eq_nil_of_le (by rw [size_eq]; omega)]; exact unE_short hok')
  have h6 : (s.size : Int) = 1:=by omega
  clear h0 hd hc hok hok' h5
  go_enter Tryz.func189, Tryz.ntmps189
  go_wp2_with fail
  go_ret2
  exact ⟨by rw [h2.out]; rfl, Below.refl _ _⟩
 have h6 : ((s.size : Int) == 1) = false:=by rw [beq_eq_false_iff_ne]; omega
 have h7 : 1 < s.size:=by omega
 have hd1:=drop_at (s:=s) (k:=1) h7
 obtain ⟨d, hdd⟩ : ∃ d, d = s[1]:=⟨_, rfl⟩
 have hdr : ∀ h, s[1]'h = d:=fun _=>hdd.symm
 rw [← hdd] at hd1
 have hU:=unE_two (e:=d) (r:=(Nm.bs s).drop 2) hok'
 rw [← show (Nm.bs s).drop 1 = d :: (Nm.bs s).drop 2 from hd1, ← hd] at hU
 have C1:=Lib.hid (digit_any c)
 have C2:=Lib.hid (digit_any d)
 clear h0 hd hc hok hok' h5 hd1 hdd
 cases hdc : Nm.dig c with
 | none =>
  rw [hdc] at hU
  rw [digI_none hdc] at C1
  have hx : digI d = -1 ∨ 0 ≤ digI d:=by have:=digI_lt d; omega
  have hx2:=digI_lt d
  have h2:=Lib.hid hU
  generalize digI d = y at C2 hx hx2
  clear hU hdc
  go_enter Tryz.func189, Tryz.ntmps189
  go_wp2_with fail
  go_region_with (first | (go_at_call 197; refine (C1.out _).mono ?_; rintro e9 w9 ⟨rfl, rfl⟩) | (go_at_call 197; refine (C2.out _).mono ?_; rintro e9 w9 ⟨rfl, rfl⟩))
  all_goals
   go_wp2_with fail
   go_ret2
   exact ⟨by rw [h2.out]; rfl, (Below.refl _ _).drew⟩
 | some h =>
  have hh:=dig_lt hdc
  rw [hdc] at hU
  rw [digI_some hdc] at C1
  cases hdd : Nm.dig d with
  | none =>
   rw [hdd] at hU
   rw [digI_none hdd] at C2
   have h2:=Lib.hid hU
   have h0h : (0 : Int) ≤ h:=by omega
   clear hU hdc hdd
   go_enter Tryz.func189, Tryz.ntmps189
   go_wp2_with fail
   go_region_with (first | (go_at_call 197; refine (C1.out _).mono ?_; rintro e9 w9 ⟨rfl, rfl⟩) | (go_at_call 197; refine (C2.out _).mono ?_; rintro e9 w9 ⟨rfl, rfl⟩))
   all_goals
    go_wp2_with fail
    go_ret2
    exact ⟨by rw [h2.out]; rfl, (Below.refl _ _).drew⟩
  | some l =>
   have hl:=dig_lt hdd
   rw [hdd] at hU
   rw [digI_some hdd] at C2
   have h2:=Lib.hid hU
   have h0h : (0 : Int) ≤ h:=by omega
   have h0l : (0 : Int) ≤ l:=by omega
   clear hU hdc hdd
   go_enter Tryz.func189, Tryz.ntmps189
   go_wp2_with fail
   go_region_with (first | (go_at_call 197; refine (C1.out _).mono ?_; rintro e9 w9 ⟨rfl, rfl⟩) | (go_at_call 197; refine (C2.out _).mono ?_; rintro e9 w9 ⟨rfl, rfl⟩))
   all_goals
    go_wp2_with fail
    go_ret2
    refine ⟨?_, (Below.refl _ _).drew⟩
    rw [h2.out]
    show Ending.returned (Value.tuple #[.int .u8 (bits .or .i64 ((h : Int) * 16) (l : Int) % 256), .int .i64 3]) = .returned (.tuple #[.int .u8 (((16 * h + l).toUInt8).toNat : Int), .int .i64 3])
    rw [or_hex h l hh hl]
    have e1 : (16 * h + l).toUInt8.toNat = (16 * h + l) % 256:=by rw [UInt8.toNat_ofNat']
    rw [e1]
    rfl
end Go.Proofs.YtbdpkfgllnbheaaGreatDoor
namespace Go.Proofs.YtbdpkfgllnbheaaGreatDoor
open Go.RowKit
def sp1 (c : UInt8) : Bool:=decide (c.toNat = 44 ∨ c.toNat = 34 ∨ c.toNat = 60 ∨ c.toNat = 62 ∨ c.toNat = 59)
theorem unB_cons (sp : UInt8 → Bool) (f : Bool) (c : UInt8) (r : List UInt8) : Nm.unB sp f (c :: r) = if c = 92 then Nm.unE r else if sp c || f && decide (c.toNat = 35 ∨ c.toNat = 32) || r.isEmpty && decide (c.toNat = 32) then none else some (c, 1):=rfl
theorem unB_at (sp : UInt8 → Bool) (s : ByteArray) (k : Nat) (h : k < s.size) (c : UInt8) (hc : c = s[k]) (f : Bool) : Nm.unB sp f ((Nm.bs s).drop k) = if c = 92 then Nm.unE ((Nm.bs s).drop (k + 1)) else if sp c || f && decide (c.toNat = 35 ∨ c.toNat = 32) || decide ((k : Int) = s.size - 1) && decide (c.toNat = 32) then none else some (c, 1):=by
 have h1:=drop_at h
 rw [← hc] at h1
 have h2 : ((Nm.bs s).drop (k + 1)).isEmpty = decide ((k : Int) = s.size - 1):=by
  rw [Bool.eq_iff_iff, List.isEmpty_iff, List.drop_eq_nil_iff, decide_eq_true_eq, size_eq]
  omega
 show Nm.unB sp f (s.data.toList.drop k) = _
 rw [h1, unB_cons, ← h2]
set_option maxHeartbeats 1000000 in
theorem readB_any (s : ByteArray) (k : Nat) (w : World) (h : k < s.size) (hs : s.size ≤ 1000000000) :
  Calls Tryz.prog 173 #[.string s, .int .i64 k] w fun e w'=>e = .returned (pairV (Nm.unB sp1 (decide (k = 0)) ((Nm.bs s).drop k))) ∧ Below w.heap.size w w':=by
 obtain ⟨c, hc⟩ : ∃ c, c = s[k]:=⟨_, rfl⟩
 have hcr : ∀ h, s[k]'h = c:=fun _=>hc.symm
 have h256:=u8_lt c
 have hU:=unB_at sp1 s k h c hc (decide (k = 0))
 have hk1 : (k : Int) + 1 ≤ s.size:=by omega
 by_cases h92 : c = 92
 ·rw [if_pos h92] at hU
  have hn : (c.toNat : Int) = 92:=by rw [h92]; rfl
  obtain ⟨t, ht⟩ : ∃ t, t = s.extract (k + 1) s.size:=⟨_, rfl⟩
  have hX : s.extract (k + 1) s.size = t:=ht.symm
  have htb : Nm.bs t = (Nm.bs s).drop (k + 1):=by rw [ht]; exact Go.Lib.extract_to_end s (k + 1)
  rw [← htb] at hU
  have C:=fun w=>readE_any t w
  obtain ⟨b, m, hp⟩ : ∃ b m, pairV (Nm.unE (Nm.bs t)) = .tuple #[.int .u8 b, .int .i64 m]:=by
   cases Nm.unE (Nm.bs t) with
   | none=>exact ⟨0, 0, rfl⟩
   | some q=>exact ⟨_, _, rfl⟩
  rw [← hU] at hp C
  rw [hp] at C ⊢
  have HC:=Lib.hid C
  clear hU h92 hc ht htb hp C
  go_enter Tryz.func173, Tryz.ntmps173
  go_wp2_with fail
  refine (HC.out _).mono ?_
  rintro e w1 ⟨rfl, hb1⟩
  go_wp2_with fail
  go_ret2
  exact ⟨rfl, hb1⟩
 rw [if_neg h92] at hU
 have hn : ((c.toNat : Int) == 92) = false:=by
  have:=u8_eq c 92
  rw [decide_eq_false h92] at this
  exact this
 by_cases hbad : (sp1 c || decide (k = 0) && decide (c.toNat = 35 ∨ c.toNat = 32) || decide ((k : Int) = s.size - 1) && decide (c.toNat = 32)) = true
 ·rw [if_pos hbad] at hU
  have h2:=Lib.hid hU
  have hq : (c.toNat : Int) = 32 ∧ ((k : Int) == s.size - 1) = true ∨ (c.toNat : Int) = 32 ∧ ((k : Int) == s.size - 1) = false ∧ ¬ 0 < k ∨ (c.toNat : Int) = 35 ∧ ¬ 0 < k ∨ (c.toNat : Int) = 44 ∨ (c.toNat : Int) = 34 ∨ (c.toNat : Int) = 60 ∨ (c.toNat : Int) = 62 ∨ (c.toNat : Int) = 59:=by
   unfold sp1 at hbad
   rw [Bool.or_eq_true, Bool.or_eq_true, Bool.and_eq_true, Bool.and_eq_true] at hbad
   simp only [decide_eq_true_eq] at hbad
   simp only [beq_iff_eq, beq_eq_false_iff_ne, ne_eq]
   omega
  clear hU hbad h92 hc
  rcases hq with ⟨h3, h4⟩ | ⟨h3, h4, h5⟩ | ⟨h3, h4⟩ | h3 | h3 | h3 | h3 | h3
  all_goals
   go_enter Tryz.func173, Tryz.ntmps173
   go_wp2_with fail
   go_ret2
   exact ⟨by rw [h2.out]; rfl, Below.refl _ _⟩
 ·rw [if_neg hbad] at hU
  have h2:=Lib.hid (show pairV (Nm.unB sp1 (decide (k = 0)) ((Nm.bs s).drop k)) = .tuple #[.int .u8 (c.toNat : Int), .int .i64 1] by rw [hU]; rfl)
  have hq : (c.toNat : Int) = 32 ∧ ((k : Int) == s.size - 1) = false ∧ 0 < k ∨ (c.toNat : Int) = 35 ∧ 0 < k ∨ ((c.toNat : Int) == 32) = false ∧ ((c.toNat : Int) == 35) = false ∧ ((c.toNat : Int) == 44) = false ∧ ((c.toNat : Int) == 34) = false ∧ ((c.toNat : Int) == 60) = false ∧ ((c.toNat : Int) == 62) = false ∧ ((c.toNat : Int) == 59) = false:=by
   unfold sp1 at hbad
   rw [Bool.or_eq_true, Bool.or_eq_true, Bool.and_eq_true, Bool.and_eq_true] at hbad
   simp only [decide_eq_true_eq] at hbad
   simp only [beq_eq_false_iff_ne, ne_eq]
   omega
  clear hU hbad h92 hc
  rcases hq with ⟨h3, h4, h5⟩ | ⟨h3, h4⟩ | ⟨a1, a2, a3, a4, a5, a6, a7⟩
  all_goals
   try rw [h3] at h2
   go_enter Tryz.func173, Tryz.ntmps173
   go_wp2_with fail
   go_ret2
   exact ⟨by rw [h2.out]; rfl, Below.refl _ _⟩
end Go.Proofs.YtbdpkfgllnbheaaGreatDoor
namespace Go.Proofs.YtbdpkfgllnbheaaGreatDoor
open Go.RowKit
def valR (l : List UInt8) : Option (List UInt8):=match Nm.unVal sp1 true l with
 | none=>none
 | some v=>if v.length ≤ 60 then some v else none
def valV : Option (List UInt8) → Value
 | none=>.tuple #[.string ⟨#[]⟩, .bool false]
 | some v=>.tuple #[.string (Nm.mk v), .bool true]
theorem map_nil_app (o : Option (List UInt8)) : o.map ([] ++ ·) = o:=by cases o <;> rfl
theorem map_snoc (o : Option (List UInt8)) (L : List UInt8) (c : UInt8) : (o.map (c :: ·)).map (L ++ ·) = o.map ((L ++ [c]) ++ ·):=by
 cases o with
 | none=>rfl
 | some v=>simp
set_option maxHeartbeats 1000000 in
theorem readV_any (s : ByteArray) (w : World) (hs : s.size ≤ 1000000000) :
  Calls Tryz.prog 158 #[.string s] w fun e w'=>e = .returned (valV (valR (Nm.bs s))) ∧ Below w.heap.size w w':=by
 have C:=Lib.hid readB_any
 go_enter Tryz.func158, Tryz.ntmps158
 go_wp2_with fail
 go_loopw [4, 5] (fun v i wr=>∃ (k : Nat) (L : List UInt8), k ≤ s.size ∧ i = .int .i64 k ∧ Own wr w.heap.size v L ∧ Hid (Nm.unVal sp1 true (Nm.bs s) = (Nm.unVal sp1 (decide (k = 0)) ((Nm.bs s).drop k)).map (L ++ ·)) ∧ L.length ≤ 60 ∧ Below w.heap.size w wr) (fun v i wr=>s.size - (intOf i).toNat)
 case atStart=>exact ⟨0, [], Nat.zero_le _, rfl, Own.nil _ _, (map_nil_app _).symm, by simp, Below.refl _ _⟩
 case round =>
  obtain ⟨k, L, hk, rfl, hO, hE, hL, hb⟩:=hrel
  have hsz:=hb.size
  by_cases hlt : k < s.size
  ·have hne : (Nm.bs s).drop k ≠ []:=by rw [ne_eq, List.drop_eq_nil_iff, size_eq]; omega
   have CB:=C.out s k wr hlt hs
   cases hu : Nm.unB sp1 (decide (k = 0)) ((Nm.bs s).drop k) with
   | none =>
    have hE2:=hE.out
    rw [Nm.unVal_bad hu hne] at hE2
    have HR:=Lib.hid (show valV (valR (Nm.bs s)) = .tuple #[.string ⟨#[]⟩, .bool false] by unfold valR; rw [hE2]; rfl)
    rw [hu] at CB
    have HC:=Lib.hid (show Calls Tryz.prog 173 #[.string s, .int .i64 k] wr fun e w'=>e = .returned (.tuple #[.int .u8 0, .int .i64 0]) ∧ Below wr.heap.size wr w' from CB)
    clear hE hE2 hu CB hne
    go_wp2_with fail
    refine HC.out.mono ?_
    rintro e w1 ⟨rfl, hb1⟩
    go_wp2_with fail
    go_ret2
    exact ⟨by rw [HR.out]; rfl, hb.trans (hb1.mono hsz)⟩
   | some q =>
    obtain ⟨c, m⟩:=q
    have hm:=Nm.unB_bound hu
    rw [List.length_drop, size_eq] at hm
    have hE2:=hE.out
    rw [Nm.unVal_step hu, List.drop_drop] at hE2
    rw [hu] at CB
    have HC:=Lib.hid (show Calls Tryz.prog 173 #[.string s, .int .i64 k] wr fun e w'=>e = .returned (.tuple #[.int .u8 c.toNat, .int .i64 m]) ∧ Below wr.heap.size wr w' from CB)
    have hm0 : ((m : Int) == 0) = false:=by rw [beq_eq_false_iff_ne]; omega
    have hE3:=Lib.hid hE2
    obtain ⟨A, n, cp, rfl⟩:=hO.form3
    have hn : n = L.length:=by
     rcases hO.2 with ⟨e, h0⟩ | ⟨g', cap', cur, e, _⟩
     ·injection e with _ e _; omega
     ·injection e
    subst hn
    clear hE hE2 hu CB hne
    by_cases h60 : (L.length : Int) = 60
    ·have HR:=Lib.hid (show valV (valR (Nm.bs s)) = .tuple #[.string ⟨#[]⟩, .bool false] by
      unfold valR
      rw [hE3.out]
      cases Nm.unVal sp1 false ((Nm.bs s).drop (k + m)) with
      | none=>rfl
      | some v =>
       simp only [Option.map_some]
       rw [if_neg (by rw [List.length_append, List.length_cons]; omega)]
       rfl)
     go_wp2_with fail
     refine HC.out.mono ?_
     rintro e w1 ⟨rfl, hb1⟩
     go_wp2_with fail
     go_ret2
     exact ⟨by rw [HR.out]; rfl, hb.trans (hb1.mono hsz)⟩
    ·have h60' : ((L.length : Int) == 60) = false:=by rw [beq_eq_false_iff_ne]; exact h60
     clear h60
     go_wp2_with fail
     refine HC.out.mono ?_
     rintro e w1 ⟨rfl, hb1⟩
     have hb2:=hb.trans (hb1.mono hsz)
     have hs2:=hb2.size
     have hO2:=hO.past hb1
     have B1 : Blk (w1.alloc (.cells #[.int .u8 (c.toNat : Int)] 5)) w1.heap.size 5 (Lib.byteCells [c]).toArray:=Blk.new w1 _ _
     clear hO hb1 hb HC
     go_wp2_with (at_builtin; go_loud (refine wpList_push rfl _ _ rfl w.heap.size _ L rfl (hO2.alloc _) w1.heap.size 1 1 [c] rfl rfl B1 (by simp only [List.length_singleton]; omega) (by simp; omega) ?_))
     intro v2 w2 hO3 hb3 hg3
     obtain ⟨A2, n2, c2, rfl⟩:=hO3.form3
     have HO3:=Lib.hid hO3
     have hb4:=(hb2.alloc hs2 (.cells #[.int .u8 (c.toNat : Int)] 5)).trans hb3
     clear hO2 hO3 hb3 hg3 B1 hb2
     go_wp2_with fail
     go_roundw
     case rel =>
      refine ⟨k + m, L ++ [c], by omega, by go_num, HO3.out, ?_, by rw [List.length_append, List.length_singleton]; simp only [beq_eq_false_iff_ne, ne_eq] at h60'; omega, hb4⟩
      show _ = _
      rw [hE3.out, map_snoc]
      have e1 : decide (k + m = 0) = false:=by rw [decide_eq_false_iff_not]; omega
      rw [e1]
     case measure=>simp [intOf]; omega
  ·have hE2:=hE.out
   rw [List.drop_eq_nil_of_le (by rw [size_eq]; omega), Nm.unVal_nil] at hE2
   have HR:=Lib.hid (show valV (valR (Nm.bs s)) = .tuple #[.string (Nm.mk L), .bool true] by
    unfold valR
    rw [hE2]
    simp only [Option.map_some, List.append_nil]
    rw [if_pos hL]
    rfl)
   have E:=hO.string
   clear hE hE2
   go_wp2_with fail
   go_ret2
   exact ⟨by rw [HR.out]; rfl, hb⟩
end Go.Proofs.YtbdpkfgllnbheaaGreatDoor
