import Derived.Test.YtpnlalfdgngcdaaDoorZA26
set_option linter.unusedVariables false
set_option maxRecDepth 100000
namespace Go.Proofs.YtpnlalfdgngcdaaDoor.Ru
open Go.RowKit
def putAhead (x : List UInt8) : Option (List UInt8 × List UInt8) → Option (List UInt8 × List UInt8)
 | none=>none
 | some (a, b)=>some (x ++ a, b)
theorem cut_zero (c : UInt8) (l : List UInt8) : cutAt c l = putAhead (l.take 0) (cutAt c (l.drop 0)):=by
 show cutAt c l = putAhead [] (cutAt c l)
 cases cutAt c l with
 | none=>rfl
 | some p=>rfl
theorem cut_hit {c : UInt8} {l : List UInt8} {k : Nat} (h : k < l.length) (hc : l[k] = c) : putAhead (l.take k) (cutAt c (l.drop k)) = some (l.take k, l.drop (k + 1)):=by
 rw [List.drop_eq_getElem_cons h, cutAt, if_pos hc]
 show some (l.take k ++ [], l.drop (k + 1)) = _
 rw [List.append_nil]
theorem cut_miss {c : UInt8} {l : List UInt8} {k : Nat} (h : k < l.length) (hc : ¬ l[k] = c) : putAhead (l.take k) (cutAt c (l.drop k)) = putAhead (l.take (k + 1)) (cutAt c (l.drop (k + 1))):=by
 rw [List.drop_eq_getElem_cons h, cutAt, if_neg hc, List.take_succ_eq_append_getElem h]
 cases cutAt c (l.drop (k + 1)) with
 | none=>rfl
 | some p =>
  obtain ⟨a, b⟩:=p
  show some (l.take k ++ l[k] :: a, b) = some (l.take k ++ [l[k]] ++ a, b)
  rw [List.append_assoc]; rfl
theorem cut_end {c : UInt8} {l : List UInt8} {k : Nat} (h : l.length ≤ k) : putAhead (l.take k) (cutAt c (l.drop k)) = none:=by
 rw [List.drop_eq_nil_of_le h]; rfl
def wordV : Option (List UInt8 × List UInt8) → Value
 | none=>.tuple #[.string ⟨#[]⟩, .string ⟨#[]⟩, .bool false]
 | some (a, b)=>.tuple #[.string (Nm.mk a), .string (Nm.mk b), .bool true]
set_option maxHeartbeats 2000000 in
theorem word_any (s : ByteArray) (w : World) (hs : s.size ≤ 1000000000) :
  Calls Tryd.prog 20 #[.string s] w fun e w'=>e = .returned (wordV (cutAt 32 (Nm.bs s))) ∧ Below w.heap.size w w':=by
 obtain ⟨X, hX⟩ : ∃ X, X = cutAt 32 (Nm.bs s):=⟨_, rfl⟩
 have H0 : Hid (X = putAhead ((Nm.bs s).take 0) (cutAt 32 ((Nm.bs s).drop 0))):=hX.trans (cut_zero _ _)
 rw [← hX]
 clear hX
 go_enter Tryd.func20, Tryd.ntmps20
 go_wp2_with fail
 go_loopw [5] (fun i wr=>∃ k : Nat, k ≤ s.size ∧ i = .int .i64 k ∧ Hid (X = putAhead ((Nm.bs s).take k) (cutAt 32 ((Nm.bs s).drop k))) ∧ Below w.heap.size w wr) (fun i wr=>s.size - (intOf i).toNat)
 case atStart=>exact ⟨0, Nat.zero_le _, rfl, H0, Below.refl _ _⟩
 case round =>
  obtain ⟨k, hk, rfl, hE, hb⟩:=hrel
  by_cases hlt : k < s.size
  ·have hlt2 : k < (Nm.bs s).length:=hlt
   have hE2:=hE.out
   have hsk : (Nm.bs s)[k] = s[k]:=rfl
   by_cases hq : s[k] = 32
   ·have HE:=Lib.hid (hE2.trans (cut_hit hlt2 hq))
    have hq2 : ((s[k].toNat : Int) == 32) = true:=by rw [hq]; rfl
    have h7 : (k : Int) + 1 ≤ s.size:=by omega
    clear hE hE2 H0 hq hsk
    go_wp2_with fail
    go_region
    all_goals
     go_wp2_with fail
     go_ret3
     refine ⟨?_, hb.drew⟩
     rw [HE.out]
     show _ = Ending.returned (.tuple #[.string (Nm.mk ((Nm.bs s).take k)), .string (Nm.mk ((Nm.bs s).drop (k + 1))), .bool true])
     rw [← ext_take, ← ext_drop]
     rfl
   ·have HE:=Lib.hid (hE2.trans (cut_miss hlt2 hq))
    have hq2 : ((s[k].toNat : Int) == 32) = false:=by
     rw [beq_eq_false_iff_ne]
     intro e
     exact hq (UInt8.toNat_inj.1 (by show s[k].toNat = 32; omega))
    clear hE hE2 H0 hq hsk
    go_wp2_with fail
    refine ⟨⟨k + 1, by omega, by go_num, HE, hb⟩, by simp [intOf]; omega⟩
  ·have HE:=Lib.hid (hE.out.trans (cut_end (c:=32) (l:=Nm.bs s) (k:=k) (by show s.size ≤ k; omega)))
   clear hE H0
   go_wp2_with fail
   go_ret3
   refine ⟨?_, hb⟩
   rw [HE.out]; rfl
end Go.Proofs.YtpnlalfdgngcdaaDoor.Ru
