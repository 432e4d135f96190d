import Derived.Lib.Strings
set_option linter.unusedVariables false
set_option maxRecDepth 100000
namespace Go.Proofs.YtpnlalfdgngcdaaDoor
namespace Nm
abbrev Ava:=ByteArray × ByteArray
abbrev bs (b : ByteArray) : List UInt8:=b.data.toList
abbrev mk (l : List UInt8) : ByteArray:=⟨l.toArray⟩
def sm (c : UInt8) : UInt8:=if 65 ≤ c.toNat ∧ c.toNat ≤ 90 then c + 32 else c
def lower (l : List UInt8) : List UInt8:=l.map sm
def smallC (c : UInt8) : Bool:=decide (97 ≤ c.toNat ∧ c.toNat ≤ 122)
def typeC (c : UInt8) : Bool:=decide (97 ≤ c.toNat ∧ c.toNat ≤ 122 ∨ 48 ≤ c.toNat ∧ c.toNat ≤ 57 ∨ c.toNat = 45)
def isType (l : List UInt8) : Bool:=decide (l.length ≤ 16) && match l with
 | []=>false
 | c :: r=>smallC c && r.all typeC
def okAva (a : Ava) : Bool:=isType (bs a.1) && decide (1 ≤ a.2.size ∧ a.2.size ≤ 60)
def okFrom : List Ava → List Ava → Bool
 | _, []=>true
 | pre, a :: r=>okAva a && pre.all (fun b=>!decide (b.1 = a.1)) && okFrom (pre ++ [a]) r
def isRdn (r : List Ava) : Bool:=decide (1 ≤ r.length) && decide (r.length ≤ 4) && okFrom [] r
def isDn (d : List (List Ava)) : Bool:=decide (d.length ≤ 8) && d.all isRdn
def special (c : UInt8) : Bool:=decide (c.toNat = 44 ∨ c.toNat = 43 ∨ c.toNat = 34 ∨ c.toNat = 92 ∨ c.toNat = 60 ∨ c.toNat = 62 ∨ c.toNat = 59)
def hexc (n : Nat) : UInt8:=if n < 10 then (48 + n).toUInt8 else (87 + n).toUInt8
def escB (first last : Bool) (c : UInt8) : List UInt8 :=
 if c.toNat < 32 ∨ 126 < c.toNat then [92, hexc (c.toNat / 16), hexc (c.toNat % 16)]
 else if special c || first && decide (c.toNat = 35 ∨ c.toNat = 32) || last && decide (c.toNat = 32) then [92, c]
 else [c]
def escV : Bool → List UInt8 → List UInt8
 | _, []=>[]
 | f, c :: r=>escB f r.isEmpty c ++ escV false r
def prAva (a : Ava) : List UInt8:=bs a.1 ++ 61 :: escV true (bs a.2)
def join (sep : UInt8) : List (List UInt8) → List UInt8
 | []=>[]
 | [x]=>x
 | x :: y :: r=>x ++ sep :: join sep (y :: r)
def prRdn (r : List Ava) : List UInt8:=join 43 (r.map prAva)
def prDn (d : List (List Ava)) : List UInt8:=join 44 (d.map prRdn)
def dig (c : UInt8) : Option Nat :=
 if 48 ≤ c.toNat ∧ c.toNat ≤ 57 then some (c.toNat - 48)
 else if 97 ≤ c.toNat ∧ c.toNat ≤ 102 then some (c.toNat - 87)
 else if 65 ≤ c.toNat ∧ c.toNat ≤ 70 then some (c.toNat - 55)
 else none
def escOk (c : UInt8) : Bool:=special c || decide (c.toNat = 35 ∨ c.toNat = 61 ∨ c.toNat = 32)
def unE : List UInt8 → Option (UInt8 × Nat)
 | []=>none
 | c :: r=>if escOk c then some (c, 2) else match r with
  | []=>none
  | e :: _=>match dig c, dig e with
   | some h, some l=>some ((16 * h + l).toUInt8, 3)
   | _, _=>none
def unB (sp : UInt8 → Bool) (first : Bool) : List UInt8 → Option (UInt8 × Nat)
 | []=>none
 | c :: r=>if c = 92 then unE r else if sp c || first && decide (c.toNat = 35 ∨ c.toNat = 32) || r.isEmpty && decide (c.toNat = 32) then none else some (c, 1)
def unV (sp : UInt8 → Bool) : Nat → Bool → List UInt8 → Option (List UInt8)
 | 0, _, _=>some []
 | _ + 1, _, []=>some []
 | n + 1, f, c :: r=>match unB sp f (c :: r) with
  | none=>none
  | some (b, k)=>match unV sp n false ((c :: r).drop k) with
   | none=>none
   | some v=>some (b :: v)
def pos (sep : UInt8) : List UInt8 → Option Nat
 | []=>none
 | c :: r=>if c = 92 then (match r with
   | []=>none
   | _ :: r'=>(pos sep r').map (· + 2))
  else if c = sep then some 0 else (pos sep r).map (· + 1)
def cons1 (x : List UInt8) : List (List UInt8) → List (List UInt8)
 | []=>[x]
 | y :: r=>(x ++ y) :: r
def cuts (sep : UInt8) : List UInt8 → List (List UInt8)
 | []=>[[]]
 | c :: r=>if c = 92 then (match r with
   | []=>[[c]]
   | d :: r'=>cons1 [c, d] (cuts sep r'))
  else if c = sep then [] :: cuts sep r else cons1 [c] (cuts sep r)
def eqAt : List UInt8 → Option Nat
 | []=>none
 | c :: r=>if c = 61 then some 0 else (eqAt r).map (· + 1)
def ava (p : List UInt8) : Option Ava:=match eqAt p with
 | none=>none
 | some k=>match unV special p.length true (p.drop (k + 1)) with
  | none=>none
  | some v=>some (mk (lower (p.take k)), mk v)
def avas : List (List UInt8) → Option (List Ava)
 | []=>some []
 | p :: r=>match ava p with
  | none=>none
  | some a=>match avas r with
   | none=>none
   | some l=>some (a :: l)
def ifRdn (r : List Ava) : Option (List Ava):=if isRdn r then some r else none
def rdn (s : List UInt8) : Option (List Ava):=(avas (cuts 43 s)).bind ifRdn
def rdns : List (List UInt8) → Option (List (List Ava))
 | []=>some []
 | p :: r=>match rdn p with
  | none=>none
  | some a=>match rdns r with
   | none=>none
   | some l=>some (a :: l)
def ifDn (d : List (List Ava)) : Option (List (List Ava)):=if isDn d then some d else none
def dnm (s : List UInt8) : Option (List (List Ava)):=if s = [] then some [] else (rdns (cuts 44 s)).bind ifDn
end Nm
end Go.Proofs.YtpnlalfdgngcdaaDoor
namespace Go.Proofs.YtpnlalfdgngcdaaDoor
namespace Nm
theorem unE_bound {l : List UInt8} {c : UInt8} {k : Nat} (h : unE l = some (c, k)) : 2 ≤ k ∧ k ≤ l.length + 1:=by
 match l with
 | []=>cases h
 | d :: r =>
  have h' : (if escOk d then some (d, 2) else match r with
   | []=>none
   | e :: _=>match dig d, dig e with
    | some h, some l=>some ((16 * h + l).toUInt8, 3)
    | _, _=>none) = some (c, k):=h
  by_cases hd : escOk d = true
  ·rw [if_pos hd] at h'
   simp only [Option.some.injEq, Prod.mk.injEq] at h'
   simp; omega
  ·rw [if_neg hd] at h'
   match r with
   | []=>cases h'
   | e :: q =>
    simp only at h'
    split at h'
    ·simp only [Option.some.injEq, Prod.mk.injEq] at h'
     simp; omega
    ·cases h'
theorem unB_bound {sp : UInt8 → Bool} {f : Bool} {l : List UInt8} {c : UInt8} {k : Nat} (h : unB sp f l = some (c, k)) : 1 ≤ k ∧ k ≤ l.length:=by
 match l with
 | []=>cases h
 | d :: r =>
  have h' : (if d = 92 then unE r else if sp d || f && decide (d.toNat = 35 ∨ d.toNat = 32) || r.isEmpty && decide (d.toNat = 32) then none else some (d, 1)) = some (c, k):=h
  split at h'
  ·have:=unE_bound h'
   simp; omega
  ·split at h'
   ·cases h'
   ·simp only [Option.some.injEq, Prod.mk.injEq] at h'
    simp; omega
theorem unV_succ (sp : UInt8 → Bool) (n : Nat) (f : Bool) (c : UInt8) (r : List UInt8) : unV sp (n + 1) f (c :: r) = match unB sp f (c :: r) with
  | none=>none
  | some (b, k)=>match unV sp n false ((c :: r).drop k) with
   | none=>none
   | some v=>some (b :: v):=rfl
theorem unV_fuel (sp : UInt8 → Bool) : ∀ (n m : Nat) (f : Bool) (l : List UInt8), l.length ≤ n → l.length ≤ m → unV sp n f l = unV sp m f l
 | 0, m, f, l, h, _=>by
  have : l = []:=List.eq_nil_of_length_eq_zero (by omega)
  subst this
  cases m <;> rfl
 | n + 1, 0, f, l, _, h=>by
  have : l = []:=List.eq_nil_of_length_eq_zero (by omega)
  subst this
  rfl
 | n + 1, m + 1, f, [], _, _=>rfl
 | n + 1, m + 1, f, c :: r, h1, h2=>by
  rw [unV_succ, unV_succ]
  cases hb : unB sp f (c :: r) with
  | none=>rfl
  | some q =>
   obtain ⟨b, k⟩:=q
   have hk:=unB_bound hb
   have hl : ((c :: r).drop k).length ≤ n ∧ ((c :: r).drop k).length ≤ m:=by
    rw [List.length_drop]
    simp only [List.length_cons] at h1 h2 hk ⊢
    omega
   simp only
   rw [unV_fuel sp n m false _ hl.1 hl.2]
def unVal (sp : UInt8 → Bool) (f : Bool) (l : List UInt8) : Option (List UInt8):=unV sp l.length f l
theorem unVal_nil (sp : UInt8 → Bool) (f : Bool) : unVal sp f [] = some []:=rfl
theorem unVal_bad {sp : UInt8 → Bool} {f : Bool} {l : List UInt8} (h : unB sp f l = none) (hl : l ≠ []) : unVal sp f l = none:=by
 match l with
 | []=>exact absurd rfl hl
 | c :: r =>
  unfold unVal
  rw [List.length_cons, unV_succ, h]
theorem unVal_step {sp : UInt8 → Bool} {f : Bool} {l : List UInt8} {b : UInt8} {k : Nat} (h : unB sp f l = some (b, k)) : unVal sp f l = (unVal sp false (l.drop k)).map (b :: ·):=by
 match l with
 | []=>cases h
 | c :: r =>
  have hk:=unB_bound h
  unfold unVal
  rw [List.length_cons, unV_succ, h]
  simp only
  rw [unV_fuel sp r.length ((c :: r).drop k).length false _ (by
   rw [List.length_drop]
   simp only [List.length_cons] at hk ⊢
   omega) (Nat.le_refl _)]
  cases unV sp ((c :: r).drop k).length false ((c :: r).drop k) <;> rfl
end Nm
end Go.Proofs.YtpnlalfdgngcdaaDoor
namespace Go.Proofs.YtpnlalfdgngcdaaDoor
namespace Nm
theorem join_snoc (sep : UInt8) (l : List (List UInt8)) (x : List UInt8) : join sep (l ++ [x]) = if l = [] then x else join sep l ++ sep :: x:=by
 induction l with
 | nil=>rfl
 | cons y r ih =>
  cases r with
  | nil=>rfl
  | cons z q =>
   have h1 : (y :: z :: q) ++ [x] = y :: (z :: (q ++ [x])):=rfl
   rw [h1, join]
   have h2 : z :: (q ++ [x]) = (z :: q) ++ [x]:=rfl
   rw [h2, ih, if_neg (by simp), if_neg (by simp), join]
   simp
theorem escB_le (f t : Bool) (c : UInt8) : (escB f t c).length ≤ 3:=by
 unfold escB
 split
 ·simp
 ·split
  ·simp
  ·simp
theorem escV_le (f : Bool) (l : List UInt8) : (escV f l).length ≤ 3 * l.length:=by
 induction l generalizing f with
 | nil=>simp [escV]
 | cons c r ih =>
  rw [escV, List.length_append, List.length_cons]
  have h1:=ih false
  have h2:=escB_le f r.isEmpty c
  omega
theorem okFrom_all {p r : List Ava} (h : okFrom p r = true) : ∀ a ∈ r, okAva a = true:=by
 induction r generalizing p with
 | nil=>intro a ha; simp at ha
 | cons b r ih =>
  rw [okFrom, Bool.and_eq_true, Bool.and_eq_true] at h
  intro a ha
  rcases List.mem_cons.1 ha with rfl | ha
  ·exact h.1.1
  ·exact ih h.2 a ha
theorem isRdn_all {r : List Ava} (h : isRdn r = true) : 1 ≤ r.length ∧ r.length ≤ 4 ∧ ∀ a ∈ r, okAva a = true:=by
 unfold isRdn at h
 rw [Bool.and_eq_true, Bool.and_eq_true, decide_eq_true_eq, decide_eq_true_eq] at h
 exact ⟨h.1.1, h.1.2, okFrom_all h.2⟩
theorem okAva_le {a : Ava} (h : okAva a = true) : a.1.size ≤ 16 ∧ 1 ≤ a.1.size ∧ 1 ≤ a.2.size ∧ a.2.size ≤ 60:=by
 unfold okAva isType at h
 rw [Bool.and_eq_true, Bool.and_eq_true, decide_eq_true_eq, decide_eq_true_eq] at h
 have e : (bs a.1).length = a.1.size:=rfl
 refine ⟨by omega, ?_, h.2⟩
 rcases Nat.lt_or_ge 0 a.1.size with h9 | h9
 ·exact h9
 ·have : bs a.1 = []:=List.eq_nil_of_length_eq_zero (by omega)
  have h2:=h.1.2
  rw [this] at h2
  cases h2
theorem prAva_le {a : Ava} (h : okAva a = true) : (prAva a).length ≤ 197:=by
 obtain ⟨h1, _, _, h2⟩:=okAva_le h
 unfold prAva
 rw [List.length_append, List.length_cons]
 have h3:=escV_le true (bs a.2)
 have e1 : (bs a.1).length = a.1.size:=rfl
 have e2 : (bs a.2).length = a.2.size:=rfl
 omega
theorem prRdn_step {r : List Ava} {k : Nat} (h : k < r.length) : prRdn (r.take (k + 1)) = (if k = 0 then [] else prRdn (r.take k) ++ [43]) ++ prAva r[k]:=by
 unfold prRdn
 rw [List.take_succ_eq_append_getElem h, List.map_append]
 show join 43 (List.map prAva (List.take k r) ++ [prAva r[k]]) = _
 rw [join_snoc]
 by_cases hk : k = 0
 ·subst hk; simp
 ·rw [if_neg hk, if_neg (by
   intro h9
   have:=congrArg List.length h9
   rw [List.length_map, List.length_take, List.length_nil] at this
   omega)]
  simp
theorem prDn_step {d : List (List Ava)} {k : Nat} (h : k < d.length) : prDn (d.take (k + 1)) = (if k = 0 then [] else prDn (d.take k) ++ [44]) ++ prRdn d[k]:=by
 unfold prDn
 rw [List.take_succ_eq_append_getElem h, List.map_append]
 show join 44 (List.map prRdn (List.take k d) ++ [prRdn d[k]]) = _
 rw [join_snoc]
 by_cases hk : k = 0
 ·subst hk; simp
 ·rw [if_neg hk, if_neg (by
   intro h9
   have:=congrArg List.length h9
   rw [List.length_map, List.length_take, List.length_nil] at this
   omega)]
  simp
theorem prRdn_take_le {r : List Ava} (h : ∀ a ∈ r, okAva a = true) (k : Nat) (hk : k ≤ r.length) : (prRdn (r.take k)).length ≤ 198 * k:=by
 induction k with
 | zero=>simp [prRdn, join]
 | succ k ih =>
  have h1:=ih (by omega)
  have h2:=prAva_le (h r[k] (List.getElem_mem (by omega)))
  rw [prRdn_step (by omega), List.length_append]
  split
  ·simp; omega
  ·rw [List.length_append, List.length_singleton]; omega
theorem prRdn_le {r : List Ava} (h : isRdn r = true) : (prRdn r).length ≤ 792:=by
 obtain ⟨h1, h2, h3⟩:=isRdn_all h
 have:=prRdn_take_le h3 r.length (Nat.le_refl _)
 rw [List.take_length] at this
 omega
theorem isDn_all {d : List (List Ava)} (h : isDn d = true) : d.length ≤ 8 ∧ ∀ r ∈ d, isRdn r = true:=by
 unfold isDn at h
 rw [Bool.and_eq_true, decide_eq_true_eq, List.all_eq_true] at h
 exact h
theorem prDn_take_le {d : List (List Ava)} (h : ∀ r ∈ d, isRdn r = true) (k : Nat) (hk : k ≤ d.length) : (prDn (d.take k)).length ≤ 793 * k:=by
 induction k with
 | zero=>simp [prDn, join]
 | succ k ih =>
  have h1:=ih (by omega)
  have h2:=prRdn_le (h d[k] (List.getElem_mem (by omega)))
  rw [prDn_step (by omega), List.length_append]
  split
  ·simp; omega
  ·rw [List.length_append, List.length_singleton]; omega
end Nm
end Go.Proofs.YtpnlalfdgngcdaaDoor
