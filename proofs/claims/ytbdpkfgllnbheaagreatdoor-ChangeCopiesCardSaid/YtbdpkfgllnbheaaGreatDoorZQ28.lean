import Derived.Test.YtbdpkfgllnbheaaGreatDoorZQ24
set_option linter.unusedVariables false
set_option maxRecDepth 100000
namespace Go.Proofs.YtbdpkfgllnbheaaGreatDoor.Ch
open Go.RowKit
theorem entry_list : entryid.toList = [101, 110, 116, 114, 121, 105, 100]:=by rw [ByteArray.toList_eq]; rfl
theorem any_drop {α : Type} {p : α → Bool} {l : List α} {i : Nat} (h : i < l.length) : (l.drop i).any p = (p l[i] || (l.drop (i + 1)).any p):=by
 rw [List.drop_eq_getElem_cons h, List.any_cons]
def IndexPost (b : Bool) (w : World) (e : Ending) (w' : World) : Prop:=(∃ i : Int, e = .returned (.int .i64 i) ∧ (decide (0 ≤ i) = b)) ∧ Below w.heap.size w w'
set_option maxHeartbeats 400000 in
theorem takes_any (d : Mo) (V : Option Addr) (vc : Nat) (w : World) :
  Calls Tryz.prog 53 #[.agg #[.int .i64 d.kind, .string d.attr, .slice V d.vals.length vc]] w fun e w'=>e = .returned (.bool (takes d)) ∧ Below w.heap.size w w':=by
 have hr:=Lib.hid (show (d.kind != 1) = takes d by unfold takes; rw [Bool.eq_iff_iff]; simp)
 go_enter Tryz.func53, Tryz.ntmps53
 go_wp2_with fail
 go_ret
 exact ⟨ret_bool hr.out, (Below.refl _ _).alloc (Nat.le_refl _) _⟩
def noV (t v : ByteArray) : Bool:=decide (Sc.check (Nm.bs t) (Nm.bs v) ≠ 0)
theorem check_bool (n v : ByteArray) : (((Sc.check (Nm.bs n) (Nm.bs v) : Nat) : Int) != 0) = noV n v:=by
 unfold noV
 rw [Bool.eq_iff_iff]
 simp
set_option maxHeartbeats 1000000 in
theorem noAva_any (x y : ByteArray) (w : World) (hx : x.size ≤ 1099511627776) :
  Calls Tryz.prog 90 #[.agg #[.string x, .string y]] w fun e w'=>e = .returned (.bool (noAva (x, y))) ∧ Below w.heap.size w w':=by
 have hb0:=(Below.refl w.heap.size w).alloc (Nat.le_refl _) (.cells #[.string x, .string y] 41)
 have HC:=Lib.hid (fun w=>check_any x y w hx)
 have hr : noAva (x, y) = (decide (x = entryid) || noV x y):=rfl
 have hE : (x.toList == [101, 110, 116, 114, 121, 105, 100]) = decide (x = entryid):=by
  rw [← toList_eq, entry_list]
 have HB:=Lib.hid (check_bool x y)
 cases he : decide (x = entryid)
 ·rw [he, Bool.false_or] at hr
  rw [he] at hE
  have HR:=Lib.hid hr
  clear hr he
  go_enter Tryz.func90, Tryz.ntmps90
  go_wp2_with fail
  refine (HC.out _).mono ?_
  rintro e w1 ⟨rfl, hb1⟩
  go_wp2_with fail
  go_ret
  exact ⟨ret_bool (by rw [HR.out]; exact HB.out), hb0.trans (hb1.mono hb0.size)⟩
 ·rw [he, Bool.true_or] at hr
  rw [he] at hE
  have HR:=Lib.hid hr
  clear hr he
  go_enter Tryz.func90, Tryz.ntmps90
  go_wp2_with fail
  go_ret
  exact ⟨ret_bool HR.out.symm, hb0⟩
set_option maxHeartbeats 1000000 in
theorem cloV_any (x v : ByteArray) (g : Nat) (w : World) (hx : x.size ≤ 1099511627776) (h : w.cell? ⟨g, 0, none⟩ = some (.string x)) :
  Calls Tryz.prog 59 #[.string v, .pointer (some ⟨g, 0, none⟩)] w fun e w'=>e = .returned (.bool (noV x v)) ∧ Below w.heap.size w w':=by
 have HC:=Lib.hid (fun w=>check_any x v w hx)
 have HB:=Lib.hid (check_bool x v)
 go_enter Tryz.func59, Tryz.ntmps59
 go_wp2_with fail
 refine (HC.out _).mono ?_
 rintro e w1 ⟨rfl, hb1⟩
 go_wp2_with fail
 go_ret
 exact ⟨ret_bool HB.out, hb1⟩
set_option maxHeartbeats 2000000 in
theorem indexT_any (A : Option Addr) (c : Nat) (l : List Mo) (cs : Nat → List Value) (w : World) (hl : l.length ≤ maxLen) (hA : MosAt w (· < w.heap.size) A l cs) :
  Calls Tryz.prog 56 #[(.slice A l.length c), .func (.func 53) #[] #[]] w (IndexPost (l.any takes) w):=by
 unfold maxLen at hl
 go_enter Tryz.func56, Tryz.ntmps56
 go_wp2_with fail
 go_loopw [8] (fun i wr=>∃ q : Nat, q ≤ l.length ∧ i = .int .i64 q ∧ Hid (l.any takes = (l.drop q).any takes) ∧ Below w.heap.size w wr) (fun i wr=>l.length - (intOf i).toNat)
 case atStart=>exact ⟨0, Nat.zero_le _, rfl, rfl, Below.refl _ _⟩
 case round =>
  obtain ⟨q, hq, rfl, hE, hb⟩:=hrel
  have hs:=hb.size
  by_cases hlt : q < l.length
  ·obtain ⟨ad, V, vc, rfl, hp, f0, f1, f2, hM⟩:=hA.kid hb hlt
   have hE2:=hE.out
   rw [any_drop hlt] at hE2
   have C:=takes_any l[q] V vc wr
   generalize l[q] = d at f0 f1 f2 hE2 C hM
   generalize takes d = b at hE2 C
   clear hM
   have HE:=Lib.hid hE2
   have HC:=Lib.hid C
   clear hE hE2 C
   cases b
   ·go_wp2_with fail
    refine HC.out.mono ?_
    rintro e w1 ⟨rfl, hb1⟩
    go_wp2_with fail
    refine ⟨⟨q + 1, by omega, by go_num, HE.out, hb.trans (hb1.mono hs)⟩, by simp [intOf]; omega⟩
   ·go_wp2_with fail
    refine HC.out.mono ?_
    rintro e w1 ⟨rfl, hb1⟩
    go_wp2_with fail
    go_ret
    refine ⟨⟨_, rfl, ?_⟩, hb.trans (hb1.mono hs)⟩
    rw [HE.out, decide_eq_true (by omega)]; rfl
  ·have hE2:=hE.out
   rw [List.drop_eq_nil_of_le (by omega), List.any_nil] at hE2
   have HE:=Lib.hid hE2
   clear hE hE2
   go_wp2_with fail
   go_ret
   refine ⟨⟨_, rfl, ?_⟩, hb⟩
   rw [HE.out]; rfl
set_option maxHeartbeats 400000 in
theorem containsT_any (A : Option Addr) (c : Nat) (l : List Mo) (cs : Nat → List Value) (w : World) (hl : l.length ≤ maxLen) (hA : MosAt w (· < w.heap.size) A l cs) :
  Calls Tryz.prog 24 #[(.slice A l.length c), .func (.func 53) #[] #[]] w fun e w'=>e = .returned (.bool (l.any takes)) ∧ Below w.heap.size w w':=by
 have HI:=Lib.hid (indexT_any A c l cs w hl hA)
 clear hl hA
 go_enter Tryz.func24, Tryz.ntmps24
 go_wp2_with fail
 refine HI.out.mono ?_
 rintro e w1 ⟨⟨i, rfl, hi⟩, hb⟩
 have HE:=Lib.hid hi
 clear hi
 go_wp2_with fail
 go_ret
 exact ⟨ret_bool HE.out, hb⟩
set_option maxHeartbeats 2000000 in
theorem indexV_any (A : Option Addr) (c : Nat) (l : List ByteArray) (x : ByteArray) (g : Nat) (w : World) (hl : l.length ≤ maxLen) (hx : x.size ≤ 1099511627776) (hg : w.cell? ⟨g, 0, none⟩ = some (.string x)) (hA : StrsAt w (· < w.heap.size) A l) :
  Calls Tryz.prog 94 #[.slice A l.length c, .func (.func 59) #[] #[.pointer (some ⟨g, 0, none⟩)]] w (IndexPost (l.any (noV x)) w):=by
 unfold maxLen at hl
 go_enter Tryz.func94, Tryz.ntmps94
 go_wp2_with fail
 go_loopw [8] (fun i wr=>∃ q : Nat, q ≤ l.length ∧ i = .int .i64 q ∧ Hid (l.any (noV x) = (l.drop q).any (noV x)) ∧ Below w.heap.size w wr) (fun i wr=>l.length - (intOf i).toNat)
 case atStart=>exact ⟨0, Nat.zero_le _, rfl, rfl, Below.refl _ _⟩
 case round =>
  obtain ⟨q, hq, rfl, hE, hb⟩:=hrel
  have hs:=hb.size
  by_cases hlt : q < l.length
  ·obtain ⟨ad, rfl, hp, hc⟩:=hA (by omega)
   have f0:=batA hb (by rw [block_of_add]; exact hp) (hc q hlt)
   have hg2:=bat hb (cell_lt hg) hg
   have hE2:=hE.out
   rw [any_drop hlt] at hE2
   have C:=cloV_any x l[q] g wr hx hg2
   generalize l[q] = d at f0 hE2 C
   generalize noV x d = b at hE2 C
   clear hc hg2
   have HE:=Lib.hid hE2
   have HC:=Lib.hid C
   clear hE hE2 C
   cases b
   ·go_wp2_with fail
    refine HC.out.mono ?_
    rintro e w1 ⟨rfl, hb1⟩
    go_wp2_with fail
    refine ⟨⟨q + 1, by omega, by go_num, HE.out, hb.trans (hb1.mono hs)⟩, by simp [intOf]; omega⟩
   ·go_wp2_with fail
    refine HC.out.mono ?_
    rintro e w1 ⟨rfl, hb1⟩
    go_wp2_with fail
    go_ret
    refine ⟨⟨_, rfl, ?_⟩, hb.trans (hb1.mono hs)⟩
    rw [HE.out, decide_eq_true (by omega)]; rfl
  ·have hE2:=hE.out
   rw [List.drop_eq_nil_of_le (by omega), List.any_nil] at hE2
   have HE:=Lib.hid hE2
   clear hE hE2
   go_wp2_with fail
   go_ret
   refine ⟨⟨_, rfl, ?_⟩, hb⟩
   rw [HE.out]; rfl
set_option maxHeartbeats 400000 in
theorem containsV_any (A : Option Addr) (c : Nat) (l : List ByteArray) (x : ByteArray) (g : Nat) (w : World) (hl : l.length ≤ maxLen) (hx : x.size ≤ 1099511627776) (hg : w.cell? ⟨g, 0, none⟩ = some (.string x)) (hA : StrsAt w (· < w.heap.size) A l) :
  Calls Tryz.prog 58 #[.slice A l.length c, .func (.func 59) #[] #[.pointer (some ⟨g, 0, none⟩)]] w fun e w'=>e = .returned (.bool (l.any (noV x))) ∧ Below w.heap.size w w':=by
 have HI:=Lib.hid (indexV_any A c l x g w hl hx hg hA)
 clear hl hx hg hA
 go_enter Tryz.func58, Tryz.ntmps58
 go_wp2_with fail
 refine HI.out.mono ?_
 rintro e w1 ⟨⟨i, rfl, hi⟩, hb⟩
 have HE:=Lib.hid hi
 clear hi
 go_wp2_with fail
 go_ret
 exact ⟨ret_bool HE.out, hb⟩
set_option maxHeartbeats 2000000 in
theorem indexA_any (A : Option Addr) (c : Nat) (l : List Nm.Ava) (w : World) (hl : l.length ≤ maxLen) (hz : ∀ a ∈ l, a.1.size ≤ 1099511627776) (hA : RAt w (· < w.heap.size) A l) :
  Calls Tryz.prog 121 #[.slice A l.length c, .func (.func 90) #[] #[]] w (IndexPost (l.any noAva) w):=by
 unfold maxLen at hl
 have HZ:=Lib.hid hz
 clear hz
 go_enter Tryz.func121, Tryz.ntmps121
 go_wp2_with fail
 go_loopw [8] (fun i wr=>∃ q : Nat, q ≤ l.length ∧ i = .int .i64 q ∧ Hid (l.any noAva = (l.drop q).any noAva) ∧ Below w.heap.size w wr) (fun i wr=>l.length - (intOf i).toNat)
 case atStart=>exact ⟨0, Nat.zero_le _, rfl, rfl, Below.refl _ _⟩
 case round =>
  obtain ⟨q, hq, rfl, hE, hb⟩:=hrel
  have hs:=hb.size
  by_cases hlt : q < l.length
  ·obtain ⟨ad, rfl, hp, f0, f1⟩:=hA.kid hb hlt
   have hzq:=HZ.out _ (List.getElem_mem hlt)
   have hE2:=hE.out
   rw [any_drop hlt] at hE2
   have C:=noAva_any l[q].1 l[q].2 wr hzq
   generalize l[q] = d at f0 f1 hE2 C hzq
   obtain ⟨x, y⟩:=d
   generalize noAva (x, y) = b at hE2 C
   clear hzq
   have HE:=Lib.hid hE2
   have HC:=Lib.hid C
   clear hE hE2 C
   cases b
   ·go_wp2_with fail
    refine HC.out.mono ?_
    rintro e w1 ⟨rfl, hb1⟩
    go_wp2_with fail
    refine ⟨⟨q + 1, by omega, by go_num, HE.out, hb.trans (hb1.mono hs)⟩, by simp [intOf]; omega⟩
   ·go_wp2_with fail
    refine HC.out.mono ?_
    rintro e w1 ⟨rfl, hb1⟩
    go_wp2_with fail
    go_ret
    refine ⟨⟨_, rfl, ?_⟩, hb.trans (hb1.mono hs)⟩
    rw [HE.out, decide_eq_true (by omega)]; rfl
  ·have hE2:=hE.out
   rw [List.drop_eq_nil_of_le (by omega), List.any_nil] at hE2
   have HE:=Lib.hid hE2
   clear hE hE2
   go_wp2_with fail
   go_ret
   refine ⟨⟨_, rfl, ?_⟩, hb⟩
   rw [HE.out]; rfl
set_option maxHeartbeats 400000 in
theorem containsA_any (A : Option Addr) (c : Nat) (l : List Nm.Ava) (w : World) (hl : l.length ≤ maxLen) (hz : ∀ a ∈ l, a.1.size ≤ 1099511627776) (hA : RAt w (· < w.heap.size) A l) :
  Calls Tryz.prog 89 #[.slice A l.length c, .func (.func 90) #[] #[]] w fun e w'=>e = .returned (.bool (l.any noAva)) ∧ Below w.heap.size w w':=by
 have HI:=Lib.hid (indexA_any A c l w hl hz hA)
 clear hl hz hA
 go_enter Tryz.func89, Tryz.ntmps89
 go_wp2_with fail
 refine HI.out.mono ?_
 rintro e w1 ⟨⟨i, rfl, hi⟩, hb⟩
 have HE:=Lib.hid hi
 clear hi
 go_wp2_with fail
 go_ret
 exact ⟨ret_bool HE.out, hb⟩
abbrev bad1 (d : Mo) : Prop:=d.kind < 1 ∨ 3 < d.kind ∨ d.kind = 1 ∧ d.vals.length = 0
theorem noMo_bad {d : Mo} (h : bad1 d) : noMo d = true:=by unfold noMo; rw [decide_eq_true h]; rfl
theorem noMo_none {d : Mo} (h : ¬ bad1 d) (hf : Sc.find (Nm.bs d.attr) = none) : noMo d = true:=by unfold noMo; rw [hf]; simp
theorem noMo_some {d : Mo} {t : Sc.Ty} (h : ¬ bad1 d) (hf : Sc.find (Nm.bs d.attr) = some t) : noMo d = (decide (t.1 ≠ d.attr ∨ t.1 = entryid ∨ 12 < d.vals.length) || d.vals.any (noV t.1)):=by
 unfold noMo
 rw [decide_eq_false h, hf, Bool.false_or]
 rfl
set_option maxHeartbeats 4000000 in
theorem noMod_any (d : Mo) (V : Option Addr) (vc : Nat) (w : World) (hz : d.attr.size ≤ 1099511627776) (h : MoAt w (· < w.heap.size) d [.int .i64 d.kind, .string d.attr, .slice V d.vals.length vc]) :
  Calls Tryz.prog 25 #[.agg #[.int .i64 d.kind, .string d.attr, .slice V d.vals.length vc]] w fun e w'=>e = .returned (.bool (noMo d)) ∧ Below w.heap.size w w':=by
 obtain ⟨V1, vc1, e, h2, h3, h4, h5, h6⟩:=h
 simp only [List.cons.injEq, Value.slice.injEq, true_and, and_true] at e
 obtain ⟨rfl, rfl⟩:=e
 have hb0:=(Below.refl w.heap.size w).alloc (Nat.le_refl _) (.cells #[.int .i64 d.kind, .string d.attr, .slice V d.vals.length vc] 44)
 have B0:=Blk.new w 44 #[.int .i64 d.kind, .string d.attr, .slice V d.vals.length vc]
 by_cases hbad : bad1 d
 ·have HR:=Lib.hid (noMo_bad hbad)
  clear h2 h3 h4 h5 h6 hz
  rcases hbad with h | h | ⟨h, h'⟩
  ·go_enter Tryz.func25, Tryz.ntmps25
   go_wp2_with fail
   go_ret
   exact ⟨ret_bool HR.out.symm, hb0⟩
  ·have h1 : 1 ≤ d.kind:=by omega
   go_enter Tryz.func25, Tryz.ntmps25
   go_wp2_with fail
   go_ret
   exact ⟨ret_bool HR.out.symm, hb0⟩
  ·have h1 : 1 ≤ d.kind:=by omega
   have h3 : d.kind ≤ 3:=by omega
   have k1 : (d.kind == 1) = true:=by rw [beq_iff_eq]; exact h
   have k2 : ((d.vals.length : Int) == 0) = true:=by rw [beq_iff_eq]; omega
   clear h h'
   go_enter Tryz.func25, Tryz.ntmps25
   go_wp2_with fail
   go_ret
   exact ⟨ret_bool HR.out.symm, hb0⟩
 ·have k1 : 1 ≤ d.kind ∧ d.kind ≤ 3:=by unfold bad1 at hbad; omega
  have k2 : (d.kind == 1) = false ∨ (d.kind == 1) = true ∧ ((d.vals.length : Int) == 0) = false:=by
   unfold bad1 at hbad
   by_cases h : d.kind = 1
   ·refine .inr ⟨by rw [beq_iff_eq]; exact h, by rw [beq_eq_false_iff_ne]; omega⟩
   ·exact .inl (by rw [beq_eq_false_iff_ne]; exact h)
  obtain ⟨k3, k4⟩:=k1
  have HF:=Lib.hid (fun w=>find_any d.attr w hz)
  have HH:=Lib.hid hbad
  have HB0:=Lib.hid B0
  have Hb0:=Lib.hid hb0
  unfold maxLen at h3
  cases hf : Sc.find (Nm.bs d.attr) with
  | none =>
   rw [hf] at HF
   have HR:=Lib.hid (noMo_none hbad hf)
   have C2 : Hid (∀ w, Calls Tryz.prog 57 #[.string d.attr] w fun e w'=>e = .returned (.tuple #[.agg #[.string ⟨#[]⟩, .int .i64 0, .bool false], .bool false]) ∧ Below w.heap.size w w'):=HF.out
   clear HF hf hbad h2 h4 h5 h6
   rcases k2 with k2 | ⟨k2, k5⟩
   all_goals
    go_enter Tryz.func25, Tryz.ntmps25
    go_wp2_with fail
    refine (C2.out _).mono ?_
    rintro r w1 ⟨rfl, hb1⟩
    have hb2:=Hb0.out.trans (hb1.mono Hb0.out.size)
    go_wp2_with fail
    go_ret
    exact ⟨ret_bool HR.out.symm, hb2.alloc hb2.size _⟩
  | some t =>
   rw [hf] at HF
   have hx12:=find_le hf
   have hr:=noMo_some hbad hf
   obtain ⟨x, sy, sg⟩:=t
   have C2 : Hid (∀ w, Calls Tryz.prog 57 #[.string d.attr] w fun e w'=>e = .returned (.tuple #[.agg #[.string x, .int .i64 sy, .bool sg], .bool true]) ∧ Below w.heap.size w w'):=HF.out
   have q1 : (x.toList == d.attr.toList) = decide (x = d.attr):=toList_eq x d.attr
   have q2 : (x.toList == [101, 110, 116, 114, 121, 105, 100]) = decide (x = entryid):=by rw [← toList_eq, entry_list]
   have HV:=Lib.hid (fun g w1 (hb : Below w.heap.size w w1) hg=>containsV_any V vc d.vals x g w1 (by unfold maxLen; omega) (by have : x.size ≤ 12:=hx12; omega) hg (h5.past hb))
   have hr2 : noMo d = (decide (x ≠ d.attr ∨ x = entryid ∨ 12 < d.vals.length) || d.vals.any (noV x)):=hr
   generalize d.vals.any (noV x) = b at HV hr2
   clear HF hf hbad h2 h4 h5 h6 hr hx12
   by_cases e1 : x = d.attr
   ·rw [decide_eq_true e1] at q1
    by_cases e2 : x = entryid
    ·rw [decide_eq_true e2] at q2
     have HR:=Lib.hid (show noMo d = true by rw [hr2, decide_eq_true (Or.inr (Or.inl e2))]; rfl)
     clear hr2 e1 e2 HV
     rcases k2 with k2 | ⟨k2, k5⟩
     all_goals
      go_enter Tryz.func25, Tryz.ntmps25
      go_wp2_with fail
      refine (C2.out _).mono ?_
      rintro r w1 ⟨rfl, hb1⟩
      have hb2:=Hb0.out.trans (hb1.mono Hb0.out.size)
      have B1:=HB0.out.past hb1
      have c0:=B1.cell 0
      have c1':=B1.cell 1
      have c2':=B1.cell 2
      have hlt:=B1.lt
      go_wp2_with fail
      go_ret
      exact ⟨ret_bool HR.out.symm, hb2.alloc hb2.size _⟩
    ·rw [decide_eq_false e2] at q2
     by_cases e3 : 12 < (d.vals.length : Int)
     ·have HR:=Lib.hid (show noMo d = true by rw [hr2, decide_eq_true (Or.inr (Or.inr (by omega)))]; rfl)
      clear hr2 e1 e2 HV
      rcases k2 with k2 | ⟨k2, k5⟩
      all_goals
       go_enter Tryz.func25, Tryz.ntmps25
       go_wp2_with fail
       refine (C2.out _).mono ?_
       rintro r w1 ⟨rfl, hb1⟩
       have hb2:=Hb0.out.trans (hb1.mono Hb0.out.size)
       have B1:=HB0.out.past hb1
       have c0:=B1.cell 0
       have c1':=B1.cell 1
       have c2':=B1.cell 2
       have hlt:=B1.lt
       go_wp2_with fail
       go_ret
       exact ⟨ret_bool HR.out.symm, hb2.alloc hb2.size _⟩
     ·have HR:=Lib.hid (show noMo d = b by rw [hr2, decide_eq_false (fun h=>h.elim (fun h=>h e1) (fun h=>h.elim e2 (fun h=>by omega)))]; rfl)
      have e4 : (d.vals.length : Int) ≤ 12:=by omega
      clear hr2 e1 e2 e3
      rcases k2 with k2 | ⟨k2, k5⟩
      all_goals
       go_enter Tryz.func25, Tryz.ntmps25
       go_wp2_with fail
       refine (C2.out _).mono ?_
       rintro r w1 ⟨rfl, hb1⟩
       have hb2:=Hb0.out.trans (hb1.mono Hb0.out.size)
       have B1:=HB0.out.past hb1
       have c0:=B1.cell 0
       have c1':=B1.cell 1
       have c2':=B1.cell 2
       have hlt:=B1.lt
       have hb3:=hb2.alloc hb2.size (.cells #[.string x, .int .i64 sy, .bool sg] 85)
       have HX:=Lib.hid ((Blk.new w1 85 #[.string x, .int .i64 sy, .bool sg]).cell 0)
       go_wp2_with fail
       refine (HV.out _ _ hb3 HX.out).mono ?_
       rintro r w2 ⟨rfl, hb4⟩
       go_wp2_with fail
       go_ret
       exact ⟨ret_bool HR.out.symm, hb3.trans (hb4.mono hb3.size)⟩
   ·rw [decide_eq_false e1] at q1
    have HR:=Lib.hid (show noMo d = true by rw [hr2, decide_eq_true (Or.inl e1)]; rfl)
    clear hr2 e1 HV q2
    rcases k2 with k2 | ⟨k2, k5⟩
    all_goals
     go_enter Tryz.func25, Tryz.ntmps25
     go_wp2_with fail
     refine (C2.out _).mono ?_
     rintro r w1 ⟨rfl, hb1⟩
     have hb2:=Hb0.out.trans (hb1.mono Hb0.out.size)
     have B1:=HB0.out.past hb1
     have c0:=B1.cell 0
     have c1':=B1.cell 1
     have c2':=B1.cell 2
     have hlt:=B1.lt
     go_wp2_with fail
     go_ret
     exact ⟨ret_bool HR.out.symm, hb2.alloc hb2.size _⟩
set_option maxHeartbeats 2000000 in
theorem indexN_any (A : Option Addr) (c : Nat) (l : List Mo) (cs : Nat → List Value) (w : World) (hl : l.length ≤ maxLen) (hz : ∀ d ∈ l, d.attr.size ≤ 1099511627776) (hA : MosAt w (· < w.heap.size) A l cs) :
  Calls Tryz.prog 56 #[(.slice A l.length c), .func (.func 25) #[] #[]] w (IndexPost (l.any noMo) w):=by
 unfold maxLen at hl
 have HZ:=Lib.hid hz
 clear hz
 go_enter Tryz.func56, Tryz.ntmps56
 go_wp2_with fail
 go_loopw [8] (fun i wr=>∃ q : Nat, q ≤ l.length ∧ i = .int .i64 q ∧ Hid (l.any noMo = (l.drop q).any noMo) ∧ Below w.heap.size w wr) (fun i wr=>l.length - (intOf i).toNat)
 case atStart=>exact ⟨0, Nat.zero_le _, rfl, rfl, Below.refl _ _⟩
 case round =>
  obtain ⟨q, hq, rfl, hE, hb⟩:=hrel
  have hs:=hb.size
  by_cases hlt : q < l.length
  ·obtain ⟨ad, V, vc, rfl, hp, f0, f1, f2, hM⟩:=hA.kid hb hlt
   have hzq:=HZ.out _ (List.getElem_mem hlt)
   have hE2:=hE.out
   rw [any_drop hlt] at hE2
   have C:=noMod_any l[q] V vc wr hzq hM
   generalize l[q] = d at f0 f1 f2 hE2 C hM hzq
   generalize noMo d = b at hE2 C
   clear hM hzq
   have HE:=Lib.hid hE2
   have HC:=Lib.hid C
   clear hE hE2 C
   cases b
   ·go_wp2_with fail
    refine HC.out.mono ?_
    rintro e w1 ⟨rfl, hb1⟩
    go_wp2_with fail
    refine ⟨⟨q + 1, by omega, by go_num, HE.out, hb.trans (hb1.mono hs)⟩, by simp [intOf]; omega⟩
   ·go_wp2_with fail
    refine HC.out.mono ?_
    rintro e w1 ⟨rfl, hb1⟩
    go_wp2_with fail
    go_ret
    refine ⟨⟨_, rfl, ?_⟩, hb.trans (hb1.mono hs)⟩
    rw [HE.out, decide_eq_true (by omega)]; rfl
  ·have hE2:=hE.out
   rw [List.drop_eq_nil_of_le (by omega), List.any_nil] at hE2
   have HE:=Lib.hid hE2
   clear hE hE2
   go_wp2_with fail
   go_ret
   refine ⟨⟨_, rfl, ?_⟩, hb⟩
   rw [HE.out]; rfl
set_option maxHeartbeats 400000 in
theorem containsN_any (A : Option Addr) (c : Nat) (l : List Mo) (cs : Nat → List Value) (w : World) (hl : l.length ≤ maxLen) (hz : ∀ d ∈ l, d.attr.size ≤ 1099511627776) (hA : MosAt w (· < w.heap.size) A l cs) :
  Calls Tryz.prog 24 #[(.slice A l.length c), .func (.func 25) #[] #[]] w fun e w'=>e = .returned (.bool (l.any noMo)) ∧ Below w.heap.size w w':=by
 have HI:=Lib.hid (indexN_any A c l cs w hl hz hA)
 clear hl hz hA
 go_enter Tryz.func24, Tryz.ntmps24
 go_wp2_with fail
 refine HI.out.mono ?_
 rintro e w1 ⟨⟨i, rfl, hi⟩, hb⟩
 have HE:=Lib.hid hi
 clear hi
 go_wp2_with fail
 go_ret
 exact ⟨ret_bool HE.out, hb⟩
end Go.Proofs.YtbdpkfgllnbheaaGreatDoor.Ch
