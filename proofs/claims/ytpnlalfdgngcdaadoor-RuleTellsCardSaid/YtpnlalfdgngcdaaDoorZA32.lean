import Derived.Test.YtpnlalfdgngcdaaDoorZA11
import Derived.Test.YtpnlalfdgngcdaaDoorZA19
set_option linter.unusedVariables false
set_option maxRecDepth 100000
namespace Go.Proofs.YtpnlalfdgngcdaaDoor.Ru
open Go.RowKit
def sp : List UInt8 → List UInt8 → List (List UInt8)
 | acc, []=>[acc]
 | acc, c :: r=>if c = 44 then acc :: sp [] r else sp (acc ++ [c]) r
def first (x : List UInt8) : List (List UInt8) → List (List UInt8)
 | []=>[]
 | y :: r=>(x ++ y) :: r
theorem first_nil (l : List (List UInt8)) : first [] l = l:=by cases l <;> rfl
theorem sp_split : ∀ (l : List UInt8) (n : Nat) (acc : List UInt8), l.length ≤ n → sp acc l = first acc (split 44 n l)
 | [], n, acc, h=>by
  rw [sp]
  cases n with
  | zero=>show _ = [acc ++ []]; rw [List.append_nil]
  | succ n=>show _ = [acc ++ []]; rw [List.append_nil]
 | c :: r, n, acc, h=>by
  cases n with
  | zero=>simp at h
  | succ n =>
   rw [sp]
   by_cases hc : c = 44
   ·rw [if_pos hc, split, cutAt, if_pos hc, sp_split r n [] (by simpa using h), first_nil]
    show _ = (acc ++ []) :: _
    rw [List.append_nil]
   ·rw [if_neg hc, sp_split r (n + 1) (acc ++ [c]) (by simp at h; omega), split, split, cutAt, if_neg hc]
    cases cutAt 44 r with
    | none =>
     show [acc ++ [c] ++ r] = [acc ++ c :: r]
     rw [List.append_assoc]; rfl
    | some p =>
     obtain ⟨a, b⟩:=p
     show (acc ++ [c] ++ a) :: _ = (acc ++ c :: a) :: _
     rw [List.append_assoc]; rfl
def rest (l : List UInt8) (q k : Nat) : List (List UInt8):=if k ≤ l.length then sp (seg l q k) (l.drop k) else []
theorem rest_here {l : List UInt8} {q k : Nat} (h : k = l.length ∨ ∃ hk : k < l.length, l[k] = 44) : rest l q k = seg l q k :: rest l (k + 1) (k + 1):=by
 unfold rest
 rcases h with h | ⟨hk, h⟩
 ·rw [if_pos (by omega), if_neg (by omega), List.drop_eq_nil_of_le (by omega), sp]
 ·rw [if_pos (by omega), if_pos (by omega), List.drop_eq_getElem_cons hk, sp, if_pos h, seg_self]
theorem rest_on {l : List UInt8} {q k : Nat} (hk : k < l.length) (hq : q ≤ k) (h : ¬ l[k] = 44) : rest l q k = rest l q (k + 1):=by
 unfold rest
 rw [if_pos (by omega), if_pos (by omega), List.drop_eq_getElem_cons hk, sp, if_neg h, seg_one l q k hk hq]
theorem rest_zero (l : List UInt8) (n : Nat) (h : l.length ≤ n) : rest l 0 0 = split 44 n l:=by
 unfold rest
 rw [if_pos (Nat.zero_le _), seg_self]
 show sp [] l = _
 rw [sp_split l n [] h, first_nil]
theorem rest_end {l : List UInt8} {q k : Nat} (h : l.length < k) : rest l q k = []:=by
 unfold rest
 rw [if_neg (by omega)]
set_option maxHeartbeats 2000000 in
theorem rsplit_any (s : ByteArray) (w : World) (hs : s.size ≤ 1000000000) (n : Nat) (hn : s.size ≤ n) :
  Calls Tryd.prog 21 #[.string s] w fun e w'=>∃ v, e = .returned v ∧ OwnS w' w.heap.size v ((split 44 n (Nm.bs s)).map Nm.mk) ∧ Below w.heap.size w w':=by
 obtain ⟨R, hR⟩ : ∃ R, R = (split 44 n (Nm.bs s)).map Nm.mk:=⟨_, rfl⟩
 have H0 : Hid (R = [] ++ (rest (Nm.bs s) 0 0).map Nm.mk):=by
  show _ = _
  rw [hR, rest_zero _ n hn]; rfl
 rw [← hR]
 clear hR
 go_enter Tryd.func21, Tryd.ntmps21
 go_wp2_with fail
 go_loopw [3, 4, 5] (fun o f i wr=>∃ (k q : Nat) (ps : List ByteArray), k ≤ s.size + 1 ∧ q ≤ k ∧ i = .int .i64 k ∧ f = .int .i64 q ∧ OwnS wr w.heap.size o ps ∧ Hid (R = ps ++ (rest (Nm.bs s) q k).map Nm.mk) ∧ ps.length ≤ k ∧ Below w.heap.size w wr) (fun o f i wr=>s.size + 1 - (intOf i).toNat)
 case atStart=>exact ⟨0, 0, [], Nat.zero_le _, Nat.le_refl _, rfl, rfl, OwnS.nil _ _, H0, Nat.le_refl _, Below.refl _ _⟩
 case round =>
  obtain ⟨k, q, ps, hk, hqk, rfl, rfl, hO, hE, hps, hb⟩:=hrel
  have hsz:=hb.size
  by_cases hle : k ≤ s.size
  ·by_cases hhit : k = (Nm.bs s).length ∨ ∃ hk : k < (Nm.bs s).length, (Nm.bs s)[k] = 44
   ·have hE2:=hE.out
    rw [rest_here hhit, List.map_cons, ← ext_seg] at hE2
    obtain ⟨t, ht⟩ : ∃ t, t = s.extract q k:=⟨_, rfl⟩
    have hX : s.extract q k = t:=ht.symm
    rw [← ht] at hE2
    have HE:=Lib.hid hE2
    have hqk' : (q : Int) ≤ k:=by omega
    have hle' : (k : Int) ≤ s.size:=by omega
    have B1:=Blk.new wr 9 #[.string t]
    have HH : Hid (R = (ps ++ [t]) ++ (rest (Nm.bs s) (k + 1) (k + 1)).map Nm.mk):=by
     show _ = _
     rw [HE.out, List.append_assoc]; rfl
    rcases hhit with hhit | ⟨hlt, hhit⟩
    ·have hk1 : ((k : Int) == (s.size : Int)) = true:=by rw [beq_iff_eq]; have : (Nm.bs s).length = s.size:=rfl; omega
     clear hE hE2 ht H0 HE hhit
     go_wp2_with (at_builtin; go_loud (refine wpList_pushW rfl _ _ rfl w.heap.size _ ps rfl (hO.alloc _) wr.heap.size t rfl B1 (by omega) (by simp; omega) ?_))
     intro v2 w2 hO2 hb2
     obtain ⟨A2, n2, c2, rfl⟩:=hO2.form3
     have HO2:=Lib.hid hO2
     have hb3:=(hb.alloc hsz (.cells #[.string t] 9)).trans hb2
     clear hO hO2 hb2 hX B1
     go_wp2_with fail
     go_roundw
     case rel=>exact ⟨k + 1, k + 1, _, by omega, by omega, by go_num, by go_num, HO2.out, HH, by rw [List.length_append, List.length_singleton]; omega, hb3⟩
     case measure=>simp [intOf]; omega
    ·have hlt2 : k < s.size:=hlt
     have hk1 : ((k : Int) == (s.size : Int)) = false:=by rw [beq_eq_false_iff_ne]; omega
     have hc1 : ((s[k].toNat : Int) == 44) = true:=by
      have : s[k] = 44:=hhit
      rw [this]; rfl
     clear hE hE2 ht H0 HE hhit
     go_wp2_with (at_builtin; go_loud (refine wpList_pushW rfl _ _ rfl w.heap.size _ ps rfl (hO.alloc _) wr.heap.size t rfl B1 (by omega) (by simp; omega) ?_))
     intro v2 w2 hO2 hb2
     obtain ⟨A2, n2, c2, rfl⟩:=hO2.form3
     have HO2:=Lib.hid hO2
     have hb3:=(hb.alloc hsz (.cells #[.string t] 9)).trans hb2
     clear hO hO2 hb2 hX B1
     go_wp2_with fail
     go_roundw
     case rel=>exact ⟨k + 1, k + 1, _, by omega, by omega, by go_num, by go_num, HO2.out, HH, by rw [List.length_append, List.length_singleton]; omega, hb3⟩
     case measure=>simp [intOf]; omega
   ·have hlt : k < s.size:=by
     have : (Nm.bs s).length = s.size:=rfl
     have : k ≠ (Nm.bs s).length:=fun e=>hhit (Or.inl e)
     omega
    have hne : ¬ (Nm.bs s)[k]'hlt = 44:=fun e=>hhit (Or.inr ⟨hlt, e⟩)
    have hE2:=hE.out
    rw [rest_on hlt hqk hne] at hE2
    have HE:=Lib.hid hE2
    have hk1 : ((k : Int) == (s.size : Int)) = false:=by rw [beq_eq_false_iff_ne]; omega
    have hc1 : ((s[k].toNat : Int) == 44) = false:=by
     rw [beq_eq_false_iff_ne]
     intro e
     exact hne (UInt8.toNat_inj.1 (by show s[k].toNat = 44; omega))
    clear hE hE2 hhit hne H0
    go_wp2_with fail
    refine ⟨⟨k + 1, q, ps, by omega, by omega, by go_num, rfl, hO, HE.out, by omega, hb⟩, by simp [intOf]; omega⟩
  ·have hE2:=hE.out
   rw [rest_end (show (Nm.bs s).length < k by show s.size < k; omega), List.map_nil, List.append_nil] at hE2
   have HE:=Lib.hid hE2
   obtain ⟨A2, n2, c2, rfl⟩:=hO.form3
   have HO:=Lib.hid hO
   clear hE hE2 H0 hO
   go_wp2_with fail
   go_ret
   exact ⟨_, rfl, by rw [HE.out]; exact HO.out, hb⟩
end Go.Proofs.YtpnlalfdgngcdaaDoor.Ru
