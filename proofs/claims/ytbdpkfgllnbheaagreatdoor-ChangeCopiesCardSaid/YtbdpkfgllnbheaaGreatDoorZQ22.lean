import Derived.Test.YtbdpkfgllnbheaaGreatDoorZQ9
set_option linter.unusedVariables false
set_option maxRecDepth 100000
namespace Go.Proofs.YtbdpkfgllnbheaaGreatDoor
open Go.RowKit
theorem index_eq (l : List UInt8) : Lib.indexByte l 61 = match Nm.eqAt l with
  | none=>-1
  | some i=>(i : Int):=by
 induction l with
 | nil=>rfl
 | cons c r ih =>
  rw [Lib.indexByte, Nm.eqAt]
  by_cases hc : c = 61
  ·rw [if_pos (by rw [hc]; rfl), if_pos hc]; rfl
  ·rw [if_neg (by rw [beq_iff_eq]; exact hc), if_neg hc, ih]
   cases Nm.eqAt r with
   | none=>rfl
   | some i =>
    simp only [Option.map_some]
    rw [if_neg (by rw [beq_iff_eq]; omega)]
    show (i : Int) + 1 = ((i + 1 : Nat) : Int)
    omega
theorem eqAt_lt {l : List UInt8} {i : Nat} (h : Nm.eqAt l = some i) : i < l.length:=by
 induction l generalizing i with
 | nil=>cases h
 | cons c r ih =>
  rw [Nm.eqAt] at h
  split at h
  ·injection h with h; simp; omega
  ·cases hr : Nm.eqAt r with
   | none=>rw [hr] at h; cases h
   | some j =>
    rw [hr] at h
    simp only [Option.map_some, Option.some.injEq] at h
    have:=ih hr
    simp; omega
def eqV (s : ByteArray) : Value:=match Nm.eqAt (Nm.bs s) with
 | none=>.tuple #[.string s, .string ⟨#[]⟩, .bool false]
 | some i=>.tuple #[.string (s.extract 0 i), .string (s.extract (i + 1) s.size), .bool true]
set_option maxHeartbeats 1000000 in
theorem scut_any (s : ByteArray) (w : World) (hs : s.size ≤ 1000000000) :
  Calls Tryz.prog 156 #[.string s, .string ⟨#[61]⟩] w fun e w'=>e = .returned (eqV s) ∧ Below w.heap.size w w':=by
 have CI:=fun w=>Tryz.stringslite_Index_one s 61 w
 have hi:=index_eq s.data.toList
 cases he : Nm.eqAt (Nm.bs s) with
 | none =>
  have HR:=Lib.hid (show eqV s = .tuple #[.string s, .string ⟨#[]⟩, .bool false] by unfold eqV; rw [he])
  rw [show Nm.eqAt s.data.toList = none from he] at hi
  rw [hi] at CI
  have HC:=Lib.hid CI
  clear CI hi he
  go_enter Tryz.func156, Tryz.ntmps156
  go_wp2_with fail
  refine (HC.out _).mono ?_
  rintro e w1 ⟨rfl, rfl⟩
  go_wp2_with fail
  go_ret3
  refine ⟨?_, Below.refl _ _⟩
  rw [HR.out]; rfl
 | some i =>
  have hil : i < s.size:=eqAt_lt he
  have HR:=Lib.hid (show eqV s = .tuple #[.string (s.extract 0 i), .string (s.extract (i + 1) s.size), .bool true] by unfold eqV; rw [he])
  rw [show Nm.eqAt s.data.toList = some i from he] at hi
  rw [hi] at CI
  have HC:=Lib.hid CI
  have h1 : (i : Int) + 1 ≤ s.size:=by omega
  have h2 : (i : Int) ≤ s.size:=by omega
  clear CI hi he
  go_enter Tryz.func156, Tryz.ntmps156
  go_wp2_with fail
  refine (HC.out _).mono ?_
  rintro e w1 ⟨rfl, rfl⟩
  go_wp2_with fail
  go_region
  all_goals
   go_wp2_with fail
   go_ret3
   refine ⟨?_, (Below.refl _ _).drew⟩
   rw [HR.out]; rfl
set_option maxHeartbeats 1000000 in
theorem strcut_any (s : ByteArray) (w : World) (hs : s.size ≤ 1000000000) :
  Calls Tryz.prog 135 #[.string s, .string ⟨#[61]⟩] w fun e w'=>e = .returned (eqV s) ∧ Below w.heap.size w w':=by
 have CI:=fun w=>scut_any s w hs
 obtain ⟨a, b, c, hp⟩ : ∃ a b c, eqV s = .tuple #[.string a, .string b, .bool c]:=by
  unfold eqV
  cases Nm.eqAt (Nm.bs s) with
  | none=>exact ⟨_, _, _, rfl⟩
  | some i=>exact ⟨_, _, _, rfl⟩
 rw [hp] at CI ⊢
 have HC:=Lib.hid CI
 clear CI hp
 go_enter Tryz.func135, Tryz.ntmps135
 go_wp2_with fail
 refine (HC.out _).mono ?_
 rintro e w1 ⟨rfl, hb⟩
 go_wp2_with fail
 go_ret3
 exact ⟨rfl, hb⟩
def dnAva (l : List UInt8) : Option Nm.Ava:=match Nm.eqAt l with
 | none=>some (Nm.mk (Nm.lower l), ⟨#[]⟩)
 | some i=>match valR (l.drop (i + 1)) with
  | none=>none
  | some v=>some (Nm.mk (Nm.lower (l.take i)), Nm.mk v)
def dnAttr (l : List UInt8) : ByteArray:=match Nm.eqAt l with
 | none=>Nm.mk (Nm.lower l)
 | some i=>Nm.mk (Nm.lower (l.take i))
def avaV (l : List UInt8) : Value:=match dnAva l with
 | none=>.tuple #[.agg #[.string (dnAttr l), .string ⟨#[]⟩], .bool false]
 | some a=>.tuple #[.agg #[.string a.1, .string a.2], .bool true]
theorem Blk.set2 {w : World} {g : Nat} {t : TypeId} {x y x' y' : Value} (h : Blk w g t #[x, y]) : Blk ((w.setCell ⟨g, 0, none⟩ x').setCell ⟨g, 1, none⟩ y') g t #[x', y']:=(h.set_ 0 x').set_ 1 y'
theorem res_ava (W : World) (g : Nat) (x y n : Value) (tmps : Array Value) (h6 : tmps.getD 2 undef = .pointer (some ⟨g, 0, none⟩)) (h7 : tmps.getD 3 undef = n)
  (B : Blk W g 41 #[x, y]) : (results Tryz.f138 tmps).run Tryz.prog W = .ok (.tuple #[.agg #[x, y], n]) W:=by
 have q0 : W.cell? ⟨g, 0, none⟩ = some x:=B.cell 0
 have q1 : W.cell? ⟨g, 1, none⟩ = some y:=B.cell 1
 rw [Array.getD_eq_getD_getElem?] at h6 h7
 simp [results, Tryz.results138, go_sem, h6, h7, q0, q1]
set_option maxHeartbeats 1000000 in
theorem readAva_go (s a b x y : ByteArray) (f t : Bool) (w : World) (hs : s.size ≤ 1000000000)
  (C1 : ∀ w, Calls Tryz.prog 135 #[.string s, .string ⟨#[61]⟩] w fun e w'=>e = .returned (.tuple #[.string a, .string b, .bool f]) ∧ Below w.heap.size w w')
  (C2 : ∀ w, Calls Tryz.prog 158 #[.string b] w fun e w'=>e = .returned (.tuple #[.string y, .bool t]) ∧ Below w.heap.size w w')
  (C3 : ∀ w, Calls Tryz.prog 92 #[.string a] w fun e w'=>e = .returned (.string x) ∧ Below w.heap.size w w') :
  Calls Tryz.prog 138 #[.string s] w fun e w'=>e = .returned (.tuple #[.agg #[.string x, .string y], .bool t]) ∧ Below w.heap.size w w':=by
 have H1:=Lib.hid C1
 have H2:=Lib.hid C2
 have H3:=Lib.hid C3
 clear C1 C2 C3
 go_enter Tryz.func138, Tryz.ntmps138
 go_wp2_with fail
 refine (H1.out _).mono ?_
 rintro e w1 ⟨rfl, hb1⟩
 go_wp2_with fail
 refine (H2.out _).mono ?_
 rintro e w2 ⟨rfl, hb2⟩
 have hs1:=hb1.size
 have hb3:=hb1.trans (hb2.mono hs1)
 clear hb1 hb2
 go_wp2_with fail
 refine (H3.out _).mono ?_
 rintro e w3 ⟨rfl, hb4⟩
 have hs3:=hb3.size
 have hb5:=hb3.trans (hb4.mono hs3)
 have B:=(Blk.new w 41 #[.string ⟨#[]⟩, .string ⟨#[]⟩]).past hb5
 have c0 : w3.cell? ⟨w.heap.size, 0, none⟩ = some (.string ⟨#[]⟩):=B.cell 0
 have c1 : w3.cell? ⟨w.heap.size, 1, none⟩ = some (.string ⟨#[]⟩):=B.cell 1
 have f0:=B.frozen 0
 have f1:=B.frozen 1
 have hb6:=((Below.refl w.heap.size w).alloc (Nat.le_refl _) (.cells #[.string ⟨#[]⟩, .string ⟨#[]⟩] 41)).trans (hb5.mono (by simp))
 clear hb4 hb3 hb5
 go_wp2_with fail
 exact bodyPost_ret (res_ava _ w.heap.size _ _ _ _ rfl rfl B.set2) rfl ⟨rfl, (hb6.setCell (p:=⟨w.heap.size, 0, none⟩) (Nat.le_refl _) _).setCell (p:=⟨w.heap.size, 1, none⟩) (Nat.le_refl _) _⟩
theorem ext_to (s : ByteArray) (i : Nat) : Nm.bs (s.extract 0 i) = (Nm.bs s).take i:=by
 show (s.extract 0 i).data.toList = _
 rw [Lib.extract_data]
 simp
theorem ext_from (s : ByteArray) (i : Nat) : Nm.bs (s.extract i s.size) = (Nm.bs s).drop i:=Go.Lib.extract_to_end s i
theorem readAva_any (s : ByteArray) (w : World) (hs : s.size ≤ 1000000000) :
  Calls Tryz.prog 138 #[.string s] w fun e w'=>e = .returned (avaV (Nm.bs s)) ∧ Below w.heap.size w w':=by
 have C1:=fun w=>strcut_any s w hs
 cases he : Nm.eqAt (Nm.bs s) with
 | none =>
  have h1 : eqV s = .tuple #[.string s, .string ⟨#[]⟩, .bool false]:=by unfold eqV; rw [he]
  rw [h1] at C1
  have h2 : avaV (Nm.bs s) = .tuple #[.agg #[.string (Nm.mk (Nm.lower (Nm.bs s))), .string ⟨#[]⟩], .bool true]:=by unfold avaV dnAva; rw [he]
  rw [h2]
  exact readAva_go s s ⟨#[]⟩ _ ⟨#[]⟩ false true w hs C1 (fun w=>readV_any ⟨#[]⟩ w (by decide)) (fun w=>lower_any s w (by omega))
 | some i =>
  have h1 : eqV s = .tuple #[.string (s.extract 0 i), .string (s.extract (i + 1) s.size), .bool true]:=by unfold eqV; rw [he]
  rw [h1] at C1
  have C2:=fun w=>readV_any (s.extract (i + 1) s.size) w (by rw [ByteArray.size_extract]; omega)
  have C3:=fun w=>lower_any (s.extract 0 i) w (by rw [ByteArray.size_extract]; omega)
  rw [ext_from] at C2
  rw [ext_to] at C3
  cases hv : valR ((Nm.bs s).drop (i + 1)) with
  | none =>
   have h2 : avaV (Nm.bs s) = .tuple #[.agg #[.string (Nm.mk (Nm.lower ((Nm.bs s).take i))), .string ⟨#[]⟩], .bool false]:=by unfold avaV dnAva dnAttr; simp only [he, hv]
   rw [h2]
   rw [hv] at C2
   exact readAva_go s _ _ _ _ true false w hs C1 C2 C3
  | some v =>
   have h2 : avaV (Nm.bs s) = .tuple #[.agg #[.string (Nm.mk (Nm.lower ((Nm.bs s).take i))), .string (Nm.mk v)], .bool true]:=by unfold avaV dnAva; simp only [he, hv]
   rw [h2]
   rw [hv] at C2
   exact readAva_go s _ _ _ _ true true w hs C1 C2 C3
end Go.Proofs.YtbdpkfgllnbheaaGreatDoor
namespace Go.Proofs.YtbdpkfgllnbheaaGreatDoor
namespace Nm
theorem cuts_pos (sep : UInt8) : ∀ (l : List UInt8), cuts sep l = match pos sep l with
  | none=>[l]
  | some i=>l.take i :: cuts sep (l.drop (i + 1))
 | []=>rfl
 | [c]=>by
  rw [cuts_cons, pos_cons]
  by_cases h1 : c = 92
  ·rw [if_pos h1, if_pos h1]
  ·rw [if_neg h1, if_neg h1]
   by_cases h2 : c = sep
   ·rw [if_pos h2, if_pos h2]; rfl
   ·rw [if_neg h2, if_neg h2]; rfl
 | c :: d :: r=>by
  rw [cuts_cons, pos_cons]
  by_cases h1 : c = 92
  ·rw [if_pos h1, if_pos h1]
   simp only
   rw [cuts_pos sep r]
   cases pos sep r with
   | none=>rfl
   | some j=>simp [cons1]
  ·rw [if_neg h1, if_neg h1]
   by_cases h2 : c = sep
   ·rw [if_pos h2, if_pos h2]; rfl
   ·rw [if_neg h2, if_neg h2, cuts_pos sep (d :: r)]
    cases pos sep (d :: r) with
    | none=>rfl
    | some j=>simp [cons1]
theorem mem_cons1 {x : List UInt8} {z : List (List UInt8)} {p : List UInt8} (h : p ∈ cons1 x z) : p = x ∨ (∃ y, y ∈ z ∧ p = x ++ y) ∨ p ∈ z:=by
 cases z with
 | nil=>exact Or.inl (by simpa [cons1] using h)
 | cons y r =>
  rcases List.mem_cons.1 h with h | h
  ·exact Or.inr (Or.inl ⟨y, by simp, h⟩)
  ·exact Or.inr (Or.inr (by simp [h]))
theorem cuts_whole (sep : UInt8) : ∀ (l : List UInt8) (p : List UInt8), p ∈ cuts sep l → pos sep p = none
 | [], p, h=>by
  have : p = []:=by simpa [cuts] using h
  rw [this]; rfl
 | [c], p, h=>by
  rw [cuts_cons] at h
  by_cases h1 : c = 92
  ·rw [if_pos h1] at h
   have : p = [c]:=by simpa using h
   rw [this, pos_cons, if_pos h1]
  ·rw [if_neg h1] at h
   by_cases h2 : c = sep
   ·rw [if_pos h2] at h
    have : p = []:=by simpa [cuts] using h
    rw [this]; rfl
   ·rw [if_neg h2] at h
    have : p = [c]:=by simpa [cuts, cons1] using h
    rw [this, pos_cons, if_neg h1, if_neg h2]; rfl
 | c :: d :: r, p, h=>by
  rw [cuts_cons] at h
  by_cases h1 : c = 92
  ·rw [if_pos h1] at h
   rcases mem_cons1 h with rfl | ⟨y, hy, rfl⟩ | h
   ·rw [pos_cons, if_pos h1]; rfl
   ·show pos sep (c :: d :: y) = none
    rw [pos_cons, if_pos h1]
    simp only
    rw [cuts_whole sep r y hy]; rfl
   ·exact cuts_whole sep r p h
  ·rw [if_neg h1] at h
   by_cases h2 : c = sep
   ·rw [if_pos h2] at h
    rcases List.mem_cons.1 h with rfl | h
    ·rfl
    ·exact cuts_whole sep (d :: r) p h
   ·rw [if_neg h2] at h
    rcases mem_cons1 h with rfl | ⟨y, hy, rfl⟩ | h
    ·rw [pos_cons, if_neg h1, if_neg h2]; rfl
    ·show pos sep (c :: y) = none
     rw [pos_cons, if_neg h1, if_neg h2, cuts_whole sep (d :: r) y hy]; rfl
    ·exact cuts_whole sep (d :: r) p h
theorem pos_plain (sep : UInt8) (q r : List UInt8) (h : ∀ c ∈ q, c ≠ 92 ∧ c ≠ sep) : pos sep (q ++ r) = (pos sep r).map (· + q.length):=by
 induction q with
 | nil=>cases h9 : pos sep r <;> simp [h9]
 | cons c q ih =>
  obtain ⟨h1, h2⟩:=h c (by simp)
  show pos sep (c :: (q ++ r)) = _
  rw [pos_cons, if_neg h1, if_neg h2, ih (fun c hc=>h c (by simp [hc]))]
  cases pos sep r with
  | none=>rfl
  | some j=>simp only [Option.map_some, List.length_cons, Option.some.injEq]; omega
theorem typeC_sm {c : UInt8} (h : typeC (sm c) = true) : c ≠ 92 ∧ c ≠ 43 ∧ c ≠ 44 ∧ c ≠ 61:=by
 refine ⟨?_, ?_, ?_, ?_⟩
 all_goals
  intro e
  subst e
  revert h
  decide
theorem smallC_type {c : UInt8} (h : smallC c = true) : typeC c = true:=by
 unfold smallC at h; unfold typeC
 rw [decide_eq_true_eq] at h ⊢
 exact Or.inl h
theorem isType_mem {l : List UInt8} (h : isType l = true) : ∀ c ∈ l, typeC c = true:=by
 unfold isType at h
 rw [Bool.and_eq_true] at h
 match l with
 | []=>intro c hc; simp at hc
 | d :: r =>
  have h2 : (smallC d && r.all typeC) = true:=h.2
  rw [Bool.and_eq_true, List.all_eq_true] at h2
  intro c hc
  rcases List.mem_cons.1 hc with rfl | hc
  ·exact smallC_type h2.1
  ·exact h2.2 c hc
theorem lower_mem {q : List UInt8} (h : isType (lower q) = true) : ∀ c ∈ q, c ≠ 92 ∧ c ≠ 43 ∧ c ≠ 44 ∧ c ≠ 61:=fun c hc =>
 typeC_sm (isType_mem h (sm c) (List.mem_map.2 ⟨c, hc, rfl⟩))
theorem dig_ne {c : UInt8} {d : Nat} (h : dig c = some d) : c ≠ 92 ∧ c ≠ 43 ∧ c ≠ 44:=by
 refine ⟨?_, ?_, ?_⟩
 all_goals
  intro e
  subst e
  revert h
  unfold dig
  simp
theorem unE_some {l : List UInt8} {b : UInt8} {k : Nat} (h : unE l = some (b, k)) : (∃ d r, l = d :: r ∧ escOk d = true ∧ b = d ∧ k = 2) ∨ (∃ d e r x y, l = d :: e :: r ∧ escOk d = false ∧ dig d = some x ∧ dig e = some y ∧ b = (16 * x + y).toUInt8 ∧ k = 3):=by
 match l with
 | []=>cases h
 | d :: r =>
  by_cases hd : escOk d = true
  ·rw [unE_ok hd] at h
   simp only [Option.some.injEq, Prod.mk.injEq] at h
   exact Or.inl ⟨d, r, rfl, hd, h.1.symm, h.2.symm⟩
  ·have hd' : escOk d = false:=by simpa using hd
   match r with
   | []=>rw [unE_short hd'] at h; cases h
   | e :: q =>
    rw [unE_two hd'] at h
    cases hx : dig d with
    | none=>rw [hx] at h; cases h
    | some x =>
     cases hy : dig e with
     | none=>rw [hx, hy] at h; cases h
     | some y =>
      rw [hx, hy] at h
      simp only [Option.some.injEq, Prod.mk.injEq] at h
      exact Or.inr ⟨d, e, q, x, y, rfl, hd', hx, hy, h.1.symm, h.2.symm⟩
theorem unB_pos {sp : UInt8 → Bool} {f : Bool} {sep : UInt8} {l : List UInt8} {b : UInt8} {k : Nat} (h : unB sp f l = some (b, k)) (hs : sep = 43 ∨ sep = 44) (hsp : sp sep = true ∨ pos sep l = none) : pos sep l = (pos sep (l.drop k)).map (· + k):=by
 match l with
 | []=>cases h
 | c :: r =>
  rw [unB_cons] at h
  by_cases hc : c = 92
  ·rw [if_pos hc] at h
   rcases unE_some h with ⟨d, q, rfl, _, _, rfl⟩ | ⟨d, e, q, x, y, rfl, _, hx, hy, _, rfl⟩
   ·rw [pos_cons, if_pos hc]; rfl
   ·have he:=dig_ne hy
    have hes : e ≠ sep:=by rcases hs with rfl | rfl; exact he.2.1; exact he.2.2
    rw [pos_cons, if_pos hc]
    simp only
    rw [pos_cons, if_neg he.1, if_neg hes]
    show _ = (pos sep q).map (· + 3)
    cases pos sep q <;> simp
  ·rw [if_neg hc] at h
   by_cases hcs : c = sep
   ·rcases hsp with hsp | hsp
    ·rw [hcs, hsp] at h
     simp at h
    ·rw [pos_cons, if_neg hc, if_pos hcs] at hsp
     cases hsp
   ·split at h
    ·cases h
    ·simp only [Option.some.injEq, Prod.mk.injEq] at h
     obtain ⟨_, rfl⟩:=h
     rw [pos_cons, if_neg hc, if_neg hcs]; rfl
theorem unVal_sep (sep : UInt8) (hs : sep = 43 ∨ sep = 44) : ∀ (n : Nat) (f : Bool) (l : List UInt8), l.length ≤ n → pos sep l ≠ none → unVal special f l = none
 | 0, f, l, h, hp=>by
  have : l = []:=List.eq_nil_of_length_eq_zero (by omega)
  subst this
  exact absurd rfl hp
 | n + 1, f, l, h, hp=>by
  have hl : l ≠ []:=by rintro rfl; exact hp rfl
  cases hb : unB special f l with
  | none=>exact unVal_bad hb hl
  | some q =>
   obtain ⟨b, k⟩:=q
   have hk:=unB_bound hb
   rw [unVal_step hb]
   have h1:=unB_pos hb hs (Or.inl (by rcases hs with rfl | rfl <;> decide))
   have h2 : pos sep (l.drop k) ≠ none:=by
    intro h9
    rw [h9] at h1
    exact hp h1
   rw [unVal_sep sep hs n false (l.drop k) (by rw [List.length_drop]; omega) h2]
   rfl
theorem sp_eq {c : UInt8} (h1 : c ≠ 92) (h2 : c ≠ 43) : sp1 c = special c:=by
 have e1 : c.toNat ≠ 92:=fun e=>h1 (UInt8.toNat_inj.1 e)
 have e2 : c.toNat ≠ 43:=fun e=>h2 (UInt8.toNat_inj.1 e)
 unfold sp1 special
 rw [Bool.eq_iff_iff, decide_eq_true_eq, decide_eq_true_eq]
 omega
theorem unB_sp {f : Bool} {l : List UInt8} (h : pos 43 l = none) : unB sp1 f l = unB special f l:=by
 match l with
 | []=>rfl
 | c :: r =>
  rw [unB_cons, unB_cons]
  by_cases hc : c = 92
  ·rw [if_pos hc, if_pos hc]
  ·rw [if_neg hc, if_neg hc]
   have h2 : c ≠ 43:=by
    intro e
    rw [pos_cons, if_neg hc, if_pos e] at h
    cases h
   rw [sp_eq hc h2]
theorem unVal_sp : ∀ (n : Nat) (f : Bool) (l : List UInt8), l.length ≤ n → pos 43 l = none → unVal sp1 f l = unVal special f l
 | 0, f, l, h, hp=>by
  have : l = []:=List.eq_nil_of_length_eq_zero (by omega)
  subst this
  rfl
 | n + 1, f, l, h, hp=>by
  by_cases hl : l = []
  ·subst hl; rfl
  have e:=unB_sp (f:=f) hp
  cases hb : unB special f l with
  | none=>rw [unVal_bad hb hl, unVal_bad (by rw [e, hb]) hl]
  | some q =>
   obtain ⟨b, k⟩:=q
   have hk:=unB_bound hb
   have h1:=unB_pos hb (Or.inl rfl) (Or.inr hp)
   have h2 : pos 43 (l.drop k) = none:=by
    rw [hp] at h1
    cases h9 : pos 43 (l.drop k) with
    | none=>rfl
    | some j=>rw [h9] at h1; cases h1
   rw [unVal_step hb, unVal_step (by rw [e, hb]), unVal_sp n false (l.drop k) (by rw [List.length_drop]; omega) h2]
end Nm
end Go.Proofs.YtbdpkfgllnbheaaGreatDoor
namespace Go.Proofs.YtbdpkfgllnbheaaGreatDoor
namespace Nm
theorem okFrom_app (p l r : List Ava) : okFrom p (l ++ r) = (okFrom p l && okFrom (p ++ l) r):=by
 induction l generalizing p with
 | nil=>simp [okFrom]
 | cons a l ih =>
  show okFrom p (a :: (l ++ r)) = _
  rw [okFrom, okFrom, ih]
  simp only [List.append_assoc, List.singleton_append, Bool.and_assoc]
theorem isRdn_pre {l r : List Ava} (h : isRdn (l ++ r) = true) (hl : l ≠ []) : isRdn l = true:=by
 unfold isRdn at h ⊢
 rw [Bool.and_eq_true, Bool.and_eq_true, decide_eq_true_eq, decide_eq_true_eq, okFrom_app, Bool.and_eq_true] at h
 rw [Bool.and_eq_true, Bool.and_eq_true, decide_eq_true_eq, decide_eq_true_eq]
 rw [List.length_append] at h
 refine ⟨⟨?_, by omega⟩, h.2.1⟩
 rcases Nat.lt_or_ge 0 l.length with h9 | h9
 ·exact h9
 ·exact absurd (List.eq_nil_of_length_eq_zero (by omega)) hl
theorem isRdn_bad {l r : List Ava} {a : Ava} (h : okAva a = false) : isRdn (l ++ a :: r) = false:=by
 cases h9 : isRdn (l ++ a :: r) with
 | false=>rfl
 | true =>
  have:=(isRdn_all h9).2.2 a (by simp)
  rw [h] at this
  cases this
theorem okAva_noType {x y : ByteArray} (h : isType (bs x) = false) : okAva (x, y) = false:=by
 unfold okAva; rw [h]; rfl
theorem okAva_long {x : ByteArray} {v : List UInt8} (h : ¬ v.length ≤ 60) : okAva (x, mk v) = false:=by
 unfold okAva
 have e : (mk v).size = v.length:=rfl
 rw [e]
 rw [show decide (1 ≤ v.length ∧ v.length ≤ 60) = false by rw [decide_eq_false_iff_not]; omega]
 simp
theorem okAva_none {x : ByteArray} : okAva (x, (⟨#[]⟩ : ByteArray)) = false:=by
 unfold okAva
 rw [show decide (1 ≤ (⟨#[]⟩ : ByteArray).size ∧ (⟨#[]⟩ : ByteArray).size ≤ 60) = false by decide]
 simp
theorem eqAt_split {l : List UInt8} {k : Nat} (h : eqAt l = some k) : l = l.take k ++ 61 :: l.drop (k + 1):=by
 induction l generalizing k with
 | nil=>cases h
 | cons c r ih =>
  rw [eqAt] at h
  split at h
  ·rename_i hc
   injection h with h
   subst h
   rw [hc]; rfl
  ·cases hr : eqAt r with
   | none=>rw [hr] at h; cases h
   | some j =>
    rw [hr] at h
    simp only [Option.map_some, Option.some.injEq] at h
    subst h
    simp only [List.take_succ_cons, List.drop_succ_cons, List.cons_append]
    rw [← ih hr]
theorem ava_some {p : List UInt8} {a : Ava} (h : ava p = some a) : ∃ k v, eqAt p = some k ∧ unVal special true (p.drop (k + 1)) = some v ∧ a = (mk (lower (p.take k)), mk v):=by
 unfold ava at h
 cases he : eqAt p with
 | none=>rw [he] at h; cases h
 | some k =>
  rw [he] at h
  simp only at h
  rw [unV_fuel special p.length (p.drop (k + 1)).length true _ (by rw [List.length_drop]; omega) (Nat.le_refl _)] at h
  cases hv : unV special (p.drop (k + 1)).length true (p.drop (k + 1)) with
  | none=>rw [hv] at h; cases h
  | some v =>
   rw [hv] at h
   simp only [Option.some.injEq] at h
   exact ⟨k, v, rfl, hv, h.symm⟩
theorem ava_mk {p : List UInt8} {k : Nat} {v : List UInt8} (he : eqAt p = some k) (hv : unVal special true (p.drop (k + 1)) = some v) : ava p = some (mk (lower (p.take k)), mk v):=by
 unfold ava
 rw [he]
 simp only
 rw [unV_fuel special p.length (p.drop (k + 1)).length true _ (by rw [List.length_drop]; omega) (Nat.le_refl _), show unV special (p.drop (k + 1)).length true (p.drop (k + 1)) = some v from hv]
theorem pos_text {p : List UInt8} {k : Nat} {sep : UInt8} (he : eqAt p = some k) (ht : isType (lower (p.take k)) = true) (hs : sep = 43 ∨ sep = 44) : pos sep p = none ↔ pos sep (p.drop (k + 1)) = none:=by
 have h1 : pos sep p = pos sep (p.take k ++ 61 :: p.drop (k + 1)):=by rw [← eqAt_split he]
 have h2:=lower_mem ht
 rw [h1, pos_plain sep _ _ (fun c hc=>by
  obtain ⟨a, b, c', _⟩:=h2 c hc
  rcases hs with rfl | rfl
  ·exact ⟨a, b⟩
  ·exact ⟨a, c'⟩), pos_cons, if_neg (by decide), if_neg (by rcases hs with rfl | rfl <;> decide)]
 cases pos sep (p.drop (k + 1)) <;> simp
theorem ava_key {p : List UInt8} (hp : pos 43 p = none) (done : List Ava) :
  (∃ a, dnAva p = some a ∧ ava p = some a ∧ isRdn (done ++ [a]) = true) ∨
  ((∀ a, dnAva p = some a → isRdn (done ++ [a]) = false) ∧ ∀ a r, ava p = some a → isRdn (done ++ a :: r) = false):=by
 cases he : eqAt p with
 | none =>
  refine Or.inr ⟨fun a ha=>?_, fun a r ha=>?_⟩
  ·unfold dnAva at ha
   rw [he] at ha
   simp only [Option.some.injEq] at ha
   subst ha
   exact isRdn_bad okAva_none
  ·obtain ⟨k, v, h, _⟩:=ava_some ha
   rw [he] at h; cases h
 | some k =>
  have hd : dnAva p = match valR (p.drop (k + 1)) with
    | none=>none
    | some v=>some (mk (lower (p.take k)), mk v):=by
   unfold dnAva
   rw [he]
   first
    | done
    |(simp only; cases valR (p.drop (k + 1)) <;> rfl)
  cases ht : isType (lower (p.take k)) with
  | false =>
   have hb : ∀ y, okAva (mk (lower (p.take k)), y) = false:=fun y=>okAva_noType ht
   refine Or.inr ⟨fun a ha=>?_, fun a r ha=>?_⟩
   ·rw [hd] at ha
    cases hv : valR (p.drop (k + 1)) with
    | none=>rw [hv] at ha; cases ha
    | some v =>
     rw [hv] at ha
     simp only [Option.some.injEq] at ha
     subst ha
     exact isRdn_bad (hb _)
   ·obtain ⟨k', v, h, _, rfl⟩:=ava_some ha
    rw [he] at h
    injection h with h
    subst h
    exact isRdn_bad (hb _)
  | true =>
   have hpt:=(pos_text he ht (Or.inl rfl)).1 hp
   have hu:=unVal_sp _ true (p.drop (k + 1)) (Nat.le_refl _) hpt
   cases hv : unVal special true (p.drop (k + 1)) with
   | none =>
    refine Or.inr ⟨fun a ha=>?_, fun a r ha=>?_⟩
    ·rw [hd] at ha
     unfold valR at ha
     rw [hu, hv] at ha
     cases ha
    ·obtain ⟨k', v, h, h2, _⟩:=ava_some ha
     rw [he] at h
     injection h with h
     subst h
     rw [hv] at h2; cases h2
   | some v =>
    have ha:=ava_mk he hv
    by_cases hl : v.length ≤ 60
    ·have hda : dnAva p = some (mk (lower (p.take k)), mk v):=by
      rw [hd]
      unfold valR
      rw [hu, hv]
      simp only
      rw [if_pos hl]
     cases hr : isRdn (done ++ [(mk (lower (p.take k)), mk v)]) with
     | true=>exact Or.inl ⟨_, hda, ha, hr⟩
     | false =>
      refine Or.inr ⟨fun a h=>?_, fun a r h=>?_⟩
      ·rw [hda] at h
       injection h with h
       rw [← h]; exact hr
      ·rw [ha] at h
       injection h with h
       subst h
       cases h9 : isRdn (done ++ (mk (lower (p.take k)), mk v) :: r) with
       | false=>rfl
       | true =>
        have : done ++ (mk (lower (p.take k)), mk v) :: r = (done ++ [(mk (lower (p.take k)), mk v)]) ++ r:=by simp
        rw [this] at h9
        rw [isRdn_pre h9 (by simp)] at hr
        cases hr
    ·refine Or.inr ⟨fun a h=>?_, fun a r h=>?_⟩
     ·rw [hd] at h
      unfold valR at h
      rw [hu, hv] at h
      simp only at h
      rw [if_neg hl] at h
      cases h
     ·rw [ha] at h
      injection h with h
      subst h
      exact isRdn_bad (okAva_long hl)
def rdnD : List Ava → List (List UInt8) → Option (List Ava)
 | done, []=>some done
 | done, p :: ps=>match dnAva p with
  | none=>none
  | some a=>if isRdn (done ++ [a]) then rdnD (done ++ [a]) ps else none
theorem avas_cons (p : List UInt8) (ps : List (List UInt8)) : avas (p :: ps) = match ava p with
  | none=>none
  | some a=>match avas ps with
   | none=>none
   | some l=>some (a :: l):=rfl
theorem rdnD_eq : ∀ (ps : List (List UInt8)) (done : List Ava), (∀ p ∈ ps, pos 43 p = none) → (ps ≠ [] ∨ isRdn done = true) → rdnD done ps = (avas ps).bind fun r=>ifRdn (done ++ r)
 | [], done, _, h=>by
  have h2 : isRdn done = true:=by
   rcases h with h | h
   ·exact absurd rfl h
   ·exact h
  show some done = ifRdn (done ++ [])
  rw [List.append_nil]
  unfold ifRdn
  rw [if_pos h2]
 | p :: ps, done, hw, _=>by
  rw [rdnD, avas_cons]
  rcases ava_key (hw p (by simp)) done with ⟨a, h1, h2, h3⟩ | ⟨h1, h2⟩
  ·rw [h1, h2]
   simp only
   rw [if_pos h3, rdnD_eq ps (done ++ [a]) (fun q hq=>hw q (by simp [hq])) (Or.inr h3)]
   cases avas ps with
   | none=>rfl
   | some l =>
    show ifRdn ((done ++ [a]) ++ l) = ifRdn (done ++ a :: l)
    rw [List.append_assoc]; rfl
  ·have e1 : (match dnAva p with
     | none=>none
     | some a=>if isRdn (done ++ [a]) then rdnD (done ++ [a]) ps else none) = none:=by
    cases hd : dnAva p with
    | none=>rfl
    | some a =>
     simp only
     rw [h1 a hd]
     rfl
   rw [e1]
   cases ha : ava p with
   | none=>rfl
   | some a =>
    cases avas ps with
    | none=>rfl
    | some l =>
     show none = ifRdn (done ++ a :: l)
     unfold ifRdn
     rw [h2 a l ha]
     rfl
theorem rdnD_rdn (l : List UInt8) : rdnD [] (cuts 43 l) = rdn l:=rdnD_eq _ _ (cuts_whole 43 l) (Or.inl (cuts_ne 43 l))
def dnD : List (List Ava) → List (List UInt8) → Option (List (List Ava))
 | done, []=>some done
 | done, p :: ps=>match rdn p with
  | none=>none
  | some r=>if done.length = 8 then none else dnD (done ++ [r]) ps
theorem rdns_cons (p : List UInt8) (ps : List (List UInt8)) : rdns (p :: ps) = match rdn p with
  | none=>none
  | some a=>match rdns ps with
   | none=>none
   | some l=>some (a :: l):=rfl
theorem rdn_is {p : List UInt8} {r : List Ava} (h : rdn p = some r) : isRdn r = true:=by
 unfold rdn ifRdn at h
 cases ha : avas (cuts 43 p) with
 | none=>rw [ha] at h; cases h
 | some l =>
  rw [ha] at h
  have h2 : (if isRdn l then some l else none) = some r:=h
  split at h2
  ·rename_i h3
   injection h2 with h2
   rw [← h2]; exact h3
  ·cases h2
theorem dnD_eq : ∀ (ps : List (List UInt8)) (done : List (List Ava)), done.length ≤ 8 → done.all isRdn = true → dnD done ps = (rdns ps).bind fun d=>ifDn (done ++ d)
 | [], done, h8, ha=>by
  show some done = ifDn (done ++ [])
  rw [List.append_nil]
  unfold ifDn isDn
  rw [decide_eq_true h8, ha]; rfl
 | p :: ps, done, h8, ha=>by
  rw [dnD, rdns_cons]
  cases hr : rdn p with
  | none=>rfl
  | some r =>
   simp only
   by_cases h9 : done.length = 8
   ·rw [if_pos h9]
    cases rdns ps with
    | none=>rfl
    | some l =>
     show none = ifDn (done ++ r :: l)
     unfold ifDn isDn
     rw [decide_eq_false (by rw [List.length_append, List.length_cons]; omega)]; rfl
   ·rw [if_neg h9, dnD_eq ps (done ++ [r]) (by rw [List.length_append, List.length_singleton]; omega) (by rw [List.all_append, ha]; simp [rdn_is hr])]
    cases rdns ps with
    | none=>rfl
    | some l =>
     show ifDn ((done ++ [r]) ++ l) = ifDn (done ++ r :: l)
     rw [List.append_assoc]; rfl
theorem dnD_dnm (l : List UInt8) (h : l ≠ []) : dnD [] (cuts 44 l) = dnm l:=by
 unfold dnm
 rw [if_neg h, dnD_eq _ _ (by simp) rfl]
 rfl
def refAva (p : List UInt8) : Option Ava:=if 1 < (cuts 44 p).length then none else ava p
def refAvas : List (List UInt8) → Option (List Ava)
 | []=>some []
 | p :: r=>match refAva p with
  | none=>none
  | some a=>match refAvas r with
   | none=>none
   | some l=>some (a :: l)
theorem cuts_many {sep : UInt8} {p : List UInt8} (h : 1 < (cuts sep p).length) : pos sep p ≠ none:=by
 rw [cuts_pos] at h
 intro h9
 rw [h9] at h
 simp at h
theorem ava_comma {p : List UInt8} {a : Ava} (h : 1 < (cuts 44 p).length) (ha : ava p = some a) : okAva a = false:=by
 obtain ⟨k, v, he, hv, rfl⟩:=ava_some ha
 cases ht : isType (lower (p.take k)) with
 | false=>exact okAva_noType ht
 | true =>
  have h1 : pos 44 (p.drop (k + 1)) ≠ none:=fun h9=>cuts_many h ((pos_text he ht (Or.inr rfl)).2 h9)
  rw [unVal_sep 44 (Or.inr rfl) _ true _ (Nat.le_refl _) h1] at hv
  cases hv
theorem refAvas_eq : ∀ (ps : List (List UInt8)), refAvas ps = avas ps ∨ refAvas ps = none ∧ ∀ l, avas ps = some l → ∃ a ∈ l, okAva a = false
 | []=>Or.inl rfl
 | p :: ps=>by
  have h1 : refAvas (p :: ps) = match refAva p with
   | none=>none
   | some a=>match refAvas ps with
    | none=>none
    | some l=>some (a :: l):=rfl
  rw [h1, avas_cons]
  unfold refAva
  by_cases hc : 1 < (cuts 44 p).length
  ·rw [if_pos hc]
   refine Or.inr ⟨rfl, fun l hl=>?_⟩
   cases ha : ava p with
   | none=>rw [ha] at hl; cases hl
   | some a =>
    rw [ha] at hl
    simp only at hl
    cases hs : avas ps with
    | none=>rw [hs] at hl; cases hl
    | some q =>
     rw [hs] at hl
     simp only [Option.some.injEq] at hl
     subst hl
     exact ⟨a, by simp, ava_comma hc ha⟩
  ·rw [if_neg hc]
   cases ha : ava p with
   | none=>exact Or.inl rfl
   | some a =>
    simp only
    rcases refAvas_eq ps with h2 | ⟨h2, h3⟩
    ·rw [h2]; exact Or.inl rfl
    ·rw [h2]
     refine Or.inr ⟨rfl, fun l hl=>?_⟩
     cases hs : avas ps with
     | none=>rw [hs] at hl; cases hl
     | some q =>
      rw [hs] at hl
      simp only [Option.some.injEq] at hl
      subst hl
      obtain ⟨b, hb, hb2⟩:=h3 q hs
      exact ⟨b, by simp [hb], hb2⟩
theorem ref_rdn (l : List UInt8) : (refAvas (cuts 43 l)).bind ifRdn = rdn l:=by
 unfold rdn
 rcases refAvas_eq (cuts 43 l) with h | ⟨h, h2⟩
 ·rw [h]
 ·rw [h]
  cases ha : avas (cuts 43 l) with
  | none=>rfl
  | some q =>
   obtain ⟨a, hm, hb⟩:=h2 q ha
   show none = ifRdn q
   unfold ifRdn
   cases h9 : isRdn q with
   | false=>rfl
   | true =>
    have:=(isRdn_all h9).2.2 a hm
    rw [hb] at this; cases this
end Nm
end Go.Proofs.YtbdpkfgllnbheaaGreatDoor
