import Derived.Test.YtpnlalfdgngcdaaDoorZA9
set_option linter.unusedVariables false
set_option maxRecDepth 100000
namespace Go.Proofs.YtpnlalfdgngcdaaDoor
namespace Ru
open _root_.Go.Proofs.YtpnlalfdgngcdaaDoor.Nm
theorem skips_nil' : ∀ cs : List UInt8, skips cs [] = []
 | []=>rfl
 | c :: cs=>by rw [skips, skip, skips_nil' cs]
theorem skips_snoc : ∀ (cs l : List UInt8) (c : UInt8), skips (cs ++ [c]) l = skip c (skips cs l)
 | [], l, c=>by show skips [c] l = _; rw [skips, skips, skips]
 | x :: cs, l, c=>by
  show skips (x :: (cs ++ [c])) l = _
  rw [skips, skips_snoc cs (skip x l) c, skips]
theorem skips_more : ∀ (cs l : List UInt8) (c : UInt8), skips cs l = [] → c ∉ cs → skips cs (l ++ [c]) = [c]
 | [], l, c, h, _=>by rw [skips] at h ⊢; rw [h]; rfl
 | x :: cs, l, c, h, hc=>by
  simp only [List.mem_cons, not_or] at hc
  rw [skips] at h ⊢
  cases l with
  | nil =>
   show skips cs (skip x [c]) = _
   rw [skip, if_neg hc.1]
   exact skips_more cs [] c (skips_nil' cs) hc.2
  | cons b r =>
   show skips cs (skip x (b :: (r ++ [c]))) = _
   rw [skip] at h ⊢
   by_cases hb : b = x
   ·rw [if_pos hb] at h ⊢
    exact skips_more cs r c h hc.2
   ·rw [if_neg hb] at h ⊢
    exact skips_more cs (b :: r) c h hc.2
theorem let_free : ((List.range 6).all fun k=>!(letters.take k).contains (letters.getD k 0)) = true:=by kernel_rfl
theorem let_not {k : Nat} (hk : k < letters.length) : letters[k]'hk ∉ letters.take k:=by
 have:=List.all_eq_true.1 let_free k (List.mem_range.2 hk)
 rw [List.getD_eq_getElem?_getD, List.getElem?_eq_getElem hk, Option.getD_some] at this
 simpa using this
theorem let_take {k : Nat} (hk : k < letters.length) : letters.take (k + 1) = letters.take k ++ [letters[k]'hk]:=List.take_succ_eq_append_getElem hk
theorem let_put {k : Nat} (hk : k < letters.length) {l : List UInt8} (h : skips (letters.take k) l = []) : skips (letters.take (k + 1)) (l ++ [letters[k]'hk]) = []:=by
 rw [let_take hk, skips_snoc, skips_more _ _ _ h (let_not hk), skip, if_pos rfl]
theorem let_pass {k : Nat} (hk : k < letters.length) {l : List UInt8} (h : skips (letters.take k) l = []) : skips (letters.take (k + 1)) l = []:=by
 rw [let_take hk, skips_snoc, h, skip]
theorem two_all : ((List.range 6).all fun x=>(List.range 6).all fun y=>isRights [letters.getD x 0, letters.getD y 0] == decide (x < y)) = true:=by kernel_rfl
theorem two_of {x y : Nat} (hx : x < letters.length) (hy : y < letters.length) : isRights [letters[x]'hx, letters[y]'hy] = decide (x < y):=by
 have:=List.all_eq_true.1 (List.all_eq_true.1 two_all x (List.mem_range.2 hx)) y (List.mem_range.2 hy)
 rw [List.getD_eq_getElem?_getD, List.getElem?_eq_getElem hx, Option.getD_some, List.getD_eq_getElem?_getD, List.getElem?_eq_getElem hy, Option.getD_some] at this
 simpa using this
theorem isR_self (d sb : Bool) (R : ByteArray) (h : skips letters (bs R) = []) : isR ⟨d, R, sb, ⟨#[115, 101, 108, 102]⟩, []⟩ = !(bs R).isEmpty:=by
 show ((!(bs R).isEmpty && (skips letters (bs R)).isEmpty) && (isWho [115, 101, 108, 102] && true)) = _
 rw [h, show isWho [115, 101, 108, 102] = true by rfl]
 simp
theorem isR_any (R : ByteArray) : isR ⟨false, R, false, ⟨#[97, 110, 121]⟩, []⟩ = isRights (bs R):=by
 show (isRights (bs R) && (isWho [97, 110, 121] && true)) = _
 rw [show isWho [97, 110, 121] = true by rfl]
 simp
end Ru
end Go.Proofs.YtpnlalfdgngcdaaDoor
