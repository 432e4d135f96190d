import Derived.Test.YtpnlalfdgngcdaaDoorZA6
import Derived.Deep.RegionHeld3
import Derived.Deep.RegionWith
set_option linter.unusedVariables false
set_option maxRecDepth 100000
namespace Go.Proofs.YtpnlalfdgngcdaaDoor
open Go.RowKit
theorem pos_cons (sep c : UInt8) (r : List UInt8) : Nm.pos sep (c :: r) = if c = 92 then (match r with
   | []=>none
   | _ :: r'=>(Nm.pos sep r').map (· + 2))
  else if c = sep then some 0 else (Nm.pos sep r).map (· + 1):=by
 rw [Nm.pos.eq_def]
 rfl
theorem pos_esc (sep : UInt8) (l : List UInt8) (k : Nat) (h : k < l.length) (hc : l[k] = 92) : Nm.pos sep (l.drop k) = (Nm.pos sep (l.drop (k + 2))).map (· + 2):=by
 rw [List.drop_eq_getElem_cons h, pos_cons, if_pos hc]
 cases h2 : l.drop (k + 1) with
 | nil =>
  have : l.drop (k + 2) = []:=by
   rw [List.drop_eq_nil_iff] at h2 ⊢; omega
  rw [this]; rfl
 | cons d r =>
  have : l.drop (k + 2) = r:=by
   rw [show k + 2 = (k + 1) + 1 by omega, ← List.drop_drop, h2]; rfl
  rw [this]
theorem pos_here (sep : UInt8) (l : List UInt8) (k : Nat) (h : k < l.length) (hc : l[k] ≠ 92) (hs : l[k] = sep) : Nm.pos sep (l.drop k) = some 0:=by
 rw [List.drop_eq_getElem_cons h, pos_cons, if_neg hc, if_pos hs]
theorem pos_on (sep : UInt8) (l : List UInt8) (k : Nat) (h : k < l.length) (hc : l[k] ≠ 92) (hs : l[k] ≠ sep) : Nm.pos sep (l.drop k) = (Nm.pos sep (l.drop (k + 1))).map (· + 1):=by
 rw [List.drop_eq_getElem_cons h, pos_cons, if_neg hc, if_neg hs]
theorem map_map_add (o : Option Nat) (a b : Nat) : (o.map (· + a)).map (· + b) = o.map (· + (b + a)):=by
 cases o with
 | none=>rfl
 | some x=>simp only [Option.map_some, Option.some.injEq]; omega
theorem pos_end (sep : UInt8) (l : List UInt8) (k : Nat) (h : l.length ≤ k) : Nm.pos sep (l.drop k) = none:=by
 rw [List.drop_eq_nil_of_le h]; rfl
def cutV (s : ByteArray) (sep : UInt8) : Value:=match Nm.pos sep (Nm.bs s) with
 | none=>.tuple #[.string s, .string ⟨#[]⟩, .bool false]
 | some i=>.tuple #[.string (s.extract 0 i), .string (s.extract (i + 1) s.size), .bool true]
theorem u8_eq (a b : UInt8) : ((a.toNat : Int) == b.toNat) = decide (a = b):=by
 rw [Bool.eq_iff_iff]
 simp only [beq_iff_eq, decide_eq_true_eq]
 constructor
 ·intro h; apply UInt8.toNat_inj.1; omega
 ·intro h; rw [h]
set_option maxHeartbeats 1000000 in
theorem cut_any (s : ByteArray) (sep : UInt8) (w : World) (hs : s.size ≤ 1000000000) :
  Calls Tryd.prog 51 #[.string s, .int .u8 sep.toNat] w fun e w'=>e = .returned (cutV s sep) ∧ Below w.heap.size w w':=by
 go_enter Tryd.func51, Tryd.ntmps51
 go_wp2_with fail
 go_loopw [7] (fun i wr=>∃ k : Nat, k ≤ s.size + 1 ∧ i = .int .i64 k ∧ Hid (Nm.pos sep (Nm.bs s) = (Nm.pos sep ((Nm.bs s).drop k)).map (· + k)) ∧ Below w.heap.size w wr) (fun i wr=>s.size + 1 - (intOf i).toNat)
 case atStart=>exact ⟨0, Nat.zero_le _, rfl, by show _ = _; rw [List.drop_zero]; cases Nm.pos sep (Nm.bs s) <;> rfl, Below.refl _ _⟩
 case round =>
  obtain ⟨k, hk, rfl, hE, hb⟩:=hrel
  by_cases hlt : k < s.size
  ·have hE2:=hE.out
   obtain ⟨c, hc⟩ : ∃ c, c = s[k]:=⟨_, rfl⟩
   have hcr : ∀ h, s[k]'h = c:=fun _=>hc.symm
   have hcl : (Nm.bs s)[k]'hlt = c:=hc.symm
   have h256:=u8_lt c
   clear hc
   by_cases h92 : c = 92
   ·rw [pos_esc sep (Nm.bs s) k hlt (by rw [hcl, h92]), map_map_add] at hE2
    have HE:=Lib.hid hE2
    have hn : (c.toNat : Int) = 92:=by rw [h92]; rfl
    clear hE hE2 h92 hcl
    go_wp2_with fail
    refine ⟨⟨k + 2, by omega, by go_num, HE.out, hb⟩, by simp [intOf]; omega⟩
   have hn : ((c.toNat : Int) == 92) = false:=by
    have:=u8_eq c 92
    rw [decide_eq_false h92] at this
    exact this
   by_cases hsp : c = sep
   ·rw [pos_here sep (Nm.bs s) k hlt (by rw [hcl]; exact h92) (by rw [hcl]; exact hsp)] at hE2
    have HE:=Lib.hid (show cutV s sep = .tuple #[.string (s.extract 0 k), .string (s.extract (k + 1) s.size), .bool true] by
     unfold cutV; rw [hE2]; simp)
    have hn2 : ((c.toNat : Int) == sep.toNat) = true:=by rw [u8_eq, decide_eq_true hsp]
    clear hE hE2 hcl h92 hsp
    go_wp2_with fail
    go_region
    all_goals
     go_wp2_with fail
     go_ret3
     refine ⟨?_, hb.drew⟩
     rw [HE.out]
     rfl
   ·rw [pos_on sep (Nm.bs s) k hlt (by rw [hcl]; exact h92) (by rw [hcl]; exact hsp), map_map_add] at hE2
    have HE:=Lib.hid hE2
    have hn2 : ((c.toNat : Int) == sep.toNat) = false:=by rw [u8_eq, decide_eq_false hsp]
    clear hE hE2 hcl h92 hsp
    go_wp2_with fail
    refine ⟨⟨k + 1, by omega, by go_num, HE.out, hb⟩, by simp [intOf]; omega⟩
  ·have hE2:=hE.out
   rw [pos_end sep (Nm.bs s) k (by rw [size_eq]; omega)] at hE2
   have HE:=Lib.hid (show cutV s sep = .tuple #[.string s, .string ⟨#[]⟩, .bool false] by unfold cutV; rw [hE2]; rfl)
   clear hE hE2
   go_wp2_with fail
   go_ret3
   refine ⟨?_, hb⟩
   rw [HE.out]
   rfl
end Go.Proofs.YtpnlalfdgngcdaaDoor
namespace Go.Proofs.YtpnlalfdgngcdaaDoor
open Go.RowKit
def pairV : Option (UInt8 × Nat) → Value
 | none=>.tuple #[.int .u8 0, .int .i64 0]
 | some (c, n)=>.tuple #[.int .u8 c.toNat, .int .i64 n]
theorem head_of (s : ByteArray) (h : 0 < s.size) : Nm.bs s = s[0] :: (Nm.bs s).drop 1:=by
 have:=drop_at (s:=s) (k:=0) h
 rw [List.drop_zero] at this
 exact this
theorem unE_ok {c : UInt8} {r : List UInt8} (h : Nm.escOk c = true) : Nm.unE (c :: r) = some (c, 2):=by
 show (if Nm.escOk c = true then _ else _) = _
 rw [if_pos h]
theorem unE_short {c : UInt8} (h : Nm.escOk c = false) : Nm.unE [c] = none:=by
 show (if Nm.escOk c = true then _ else _) = _
 rw [if_neg (by rw [h]; exact Bool.false_ne_true)]
theorem unE_two {c e : UInt8} {r : List UInt8} (h : Nm.escOk c = false) : Nm.unE (c :: e :: r) = match Nm.dig c, Nm.dig e with
   | some h, some l=>some ((16 * h + l).toUInt8, 3)
   | _, _=>none:=by
 show (if Nm.escOk c = true then _ else _) = _
 rw [if_neg (by rw [h]; exact Bool.false_ne_true)]
 cases Nm.dig c <;> cases Nm.dig e <;> rfl
theorem escOk_of (c : UInt8) : Nm.escOk c = true ↔ ((c.toNat : Int) = 44 ∨ (c.toNat : Int) = 43 ∨ (c.toNat : Int) = 34 ∨ (c.toNat : Int) = 92 ∨ (c.toNat : Int) = 60 ∨ (c.toNat : Int) = 62 ∨ (c.toNat : Int) = 59 ∨ (c.toNat : Int) = 35 ∨ (c.toNat : Int) = 61 ∨ (c.toNat : Int) = 32):=by
 unfold Nm.escOk Nm.special
 rw [Bool.or_eq_true, decide_eq_true_eq, decide_eq_true_eq]
 omega
theorem or_all : (List.range 16).all (fun h=>(List.range 16).all (fun l=>decide (bits .or .i64 ((h : Int) * 16) (l : Int) = ((16 * h + l : Nat) : Int)))) = true:=by kernel_rfl
theorem or_hex (h l : Nat) (h1 : h < 16) (h2 : l < 16) : bits .or .i64 ((h : Int) * 16) (l : Int) = ((16 * h + l : Nat) : Int):=by
 have h3:=List.all_eq_true.1 or_all h (by simp [h1])
 have h4:=List.all_eq_true.1 h3 l (by simp [h2])
 exact of_decide_eq_true h4
set_option maxHeartbeats 1000000 in
theorem readE_any (s : ByteArray) (w : World) : Calls Tryd.prog 93 #[.string s] w fun e w'=>e = .returned (pairV (Nm.unE (Nm.bs s))) ∧ Below w.heap.size w w':=by
 by_cases h0 : s.size = 0
 ·have h1:=nil_of s h0
  have h2:=Lib.hid (show Nm.unE (Nm.bs s) = none by rw [show Nm.bs s = [] from nilD_of s h0]; rfl)
  clear h0
  go_enter Tryd.func93, Tryd.ntmps93
  go_wp2_with fail
  go_ret2
  exact ⟨by rw [h2.out]; rfl, Below.refl _ _⟩
 have hd:=head_of s (by omega)
 have hne:=isE_of s (by omega)
 have h1 : 0 < s.size:=by omega
 obtain ⟨c, hc⟩ : ∃ c, c = s[0]:=⟨_, rfl⟩
 have hcr : ∀ h, s[0]'h = c:=fun _=>hc.symm
 have h256:=u8_lt c
 rw [← hc] at hd
 by_cases hok : Nm.escOk c = true
 ·have h2:=Lib.hid (show pairV (Nm.unE (Nm.bs s)) = .tuple #[.int .u8 (c.toNat : Int), .int .i64 2] by rw [hd, unE_ok hok]; rfl)
  rw [escOk_of] at hok
  clear h0 hd hc
  rcases hok with h3 | h3 | h3 | h3 | h3 | h3 | h3 | h3 | h3 | h3
  all_goals
   rw [h3] at h2
   go_enter Tryd.func93, Tryd.ntmps93
   go_wp2_with fail
   go_ret2
   refine ⟨?_, Below.refl _ _⟩
   rw [h2.out]
   rfl
 have hok' : Nm.escOk c = false:=by simpa using hok
 have hn : ((c.toNat : Int) == 44) = false ∧ ((c.toNat : Int) == 43) = false ∧ ((c.toNat : Int) == 34) = false ∧ ((c.toNat : Int) == 92) = false ∧ ((c.toNat : Int) == 60) = false ∧ ((c.toNat : Int) == 62) = false ∧ ((c.toNat : Int) == 59) = false ∧ ((c.toNat : Int) == 35) = false ∧ ((c.toNat : Int) == 61) = false ∧ ((c.toNat : Int) == 32) = false:=by
  have h3 : ¬ _:=fun h=>hok ((escOk_of c).2 h)
  simp only [beq_eq_false_iff_ne, ne_eq]
  omega
 obtain ⟨a1, a2, a3, a4, a5, a6, a7, a8, a9, a10⟩:=hn
 by_cases h5 : s.size = 1
 ·have h2:=Lib.hid (show Nm.unE (Nm.bs s) = none by
   rw [hd, List.drop_eq_nil_of_le (by rw [size_eq]; omega)]; exact unE_short hok')
  have h6 : (s.size : Int) = 1:=by omega
  clear h0 hd hc hok hok' h5
  go_enter Tryd.func93, Tryd.ntmps93
  go_wp2_with fail
  go_ret2
  exact ⟨by rw [h2.out]; rfl, Below.refl _ _⟩
 have h6 : ((s.size : Int) == 1) = false:=by rw [beq_eq_false_iff_ne]; omega
 have h7 : 1 < s.size:=by omega
 have hd1:=drop_at (s:=s) (k:=1) h7
 obtain ⟨d, hdd⟩ : ∃ d, d = s[1]:=⟨_, rfl⟩
 have hdr : ∀ h, s[1]'h = d:=fun _=>hdd.symm
 rw [← hdd] at hd1
 have hU:=unE_two (e:=d) (r:=(Nm.bs s).drop 2) hok'
 rw [← show (Nm.bs s).drop 1 = d :: (Nm.bs s).drop 2 from hd1, ← hd] at hU
 have C1:=Lib.hid (digit_any c)
 have C2:=Lib.hid (digit_any d)
 clear h0 hd hc hok hok' h5 hd1 hdd
 cases hdc : Nm.dig c with
 | none =>
  rw [hdc] at hU
  rw [digI_none hdc] at C1
  have hx : digI d = -1 ∨ 0 ≤ digI d:=by have:=digI_lt d; omega
  have hx2:=digI_lt d
  have h2:=Lib.hid hU
  generalize digI d = y at C2 hx hx2
  clear hU hdc
  go_enter Tryd.func93, Tryd.ntmps93
  go_wp2_with fail
  go_region_with (first | (go_at_call 94; refine (C1.out _).mono ?_; rintro e9 w9 ⟨rfl, rfl⟩) | (go_at_call 94; refine (C2.out _).mono ?_; rintro e9 w9 ⟨rfl, rfl⟩))
  all_goals
   go_wp2_with fail
   go_ret2
   exact ⟨by rw [h2.out]; rfl, (Below.refl _ _).drew⟩
 | some h =>
  have hh:=dig_lt hdc
  rw [hdc] at hU
  rw [digI_some hdc] at C1
  cases hdd : Nm.dig d with
  | none =>
   rw [hdd] at hU
   rw [digI_none hdd] at C2
   have h2:=Lib.hid hU
   have h0h : (0 : Int) ≤ h:=by omega
   clear hU hdc hdd
   go_enter Tryd.func93, Tryd.ntmps93
   go_wp2_with fail
   go_region_with (first | (go_at_call 94; refine (C1.out _).mono ?_; rintro e9 w9 ⟨rfl, rfl⟩) | (go_at_call 94; refine (C2.out _).mono ?_; rintro e9 w9 ⟨rfl, rfl⟩))
   all_goals
    go_wp2_with fail
    go_ret2
    exact ⟨by rw [h2.out]; rfl, (Below.refl _ _).drew⟩
  | some l =>
   have hl:=dig_lt hdd
   rw [hdd] at hU
   rw [digI_some hdd] at C2
   have h2:=Lib.hid hU
   have h0h : (0 : Int) ≤ h:=by omega
   have h0l : (0 : Int) ≤ l:=by omega
   clear hU hdc hdd
   go_enter Tryd.func93, Tryd.ntmps93
   go_wp2_with fail
   go_region_with (first | (go_at_call 94; refine (C1.out _).mono ?_; rintro e9 w9 ⟨rfl, rfl⟩) | (go_at_call 94; refine (C2.out _).mono ?_; rintro e9 w9 ⟨rfl, rfl⟩))
   all_goals
    go_wp2_with fail
    go_ret2
    refine ⟨?_, (Below.refl _ _).drew⟩
    rw [h2.out]
    show Ending.returned (Value.tuple #[.int .u8 (bits .or .i64 ((h : Int) * 16) (l : Int) % 256), .int .i64 3]) = .returned (.tuple #[.int .u8 (((16 * h + l).toUInt8).toNat : Int), .int .i64 3])
    rw [or_hex h l hh hl]
    have e1 : (16 * h + l).toUInt8.toNat = (16 * h + l) % 256:=by rw [UInt8.toNat_ofNat']
    rw [e1]
    rfl
end Go.Proofs.YtpnlalfdgngcdaaDoor
