import Derived.Test.YtconghaebebncaaGreatDoorZR8
import Derived.Test.YtconghaebebncaaGreatDoorZR4
set_option linter.unusedVariables false
set_option maxRecDepth 100000
namespace Go.Proofs.YtconghaebebncaaGreatDoor.Ms
open Go.RowKit
theorem within_any (n a b : Int) (w : World) : Calls Tryz.prog 27 #[.int .i64 n, .int .i64 a, .int .i64 b] w fun e w'=>e = .returned (.bool (within n a b)) ∧ w = w':=by
 by_cases h1 : a ≤ n
 ·by_cases h2 : n ≤ b
  ·have hr:=Lib.hid (show within n a b = true by unfold within; exact decide_eq_true ⟨h1, h2⟩)
   go_enter Tryz.func27, Tryz.ntmps27
   go_wp2_with fail
   go_ret
   exact ⟨ret_bool hr.out.symm, rfl⟩
  ·have hr:=Lib.hid (show within n a b = false by unfold within; exact decide_eq_false (fun h=>h2 h.2))
   go_enter Tryz.func27, Tryz.ntmps27
   go_wp2_with fail
   go_ret
   exact ⟨ret_bool hr.out.symm, rfl⟩
 ·have hr:=Lib.hid (show within n a b = false by unfold within; exact decide_eq_false (fun h=>h1 h.1))
  go_enter Tryz.func27, Tryz.ntmps27
  go_wp2_with fail
  go_ret
  exact ⟨ret_bool hr.out.symm, rfl⟩
theorem isLong_any (s : ByteArray) (w : World) (hs : s.size ≤ maxLen) : Calls Tryz.prog 66 #[.string s] w fun e w'=>e = .returned (.bool (isLong s)) ∧ w = w':=by
 unfold maxLen at hs
 by_cases h1 : 400 < (s.size : Int)
 ·have hr:=Lib.hid (show isLong s = true by unfold isLong; exact decide_eq_true (by omega))
  go_enter Tryz.func66, Tryz.ntmps66
  go_wp2_with fail
  go_ret
  exact ⟨ret_bool hr.out.symm, rfl⟩
 ·have hr:=Lib.hid (show isLong s = false by unfold isLong; exact decide_eq_false (by omega))
  have h2 : (s.size : Int) ≤ 400:=by omega
  clear h1
  go_enter Tryz.func66, Tryz.ntmps66
  go_wp2_with fail
  go_ret
  exact ⟨ret_bool (by rw [hr.out]; exact decide_eq_false (by omega)), rfl⟩
theorem any_drop {α : Type} {p : α → Bool} {l : List α} {i : Nat} (h : i < l.length) : (l.drop i).any p = (p l[i] || (l.drop (i + 1)).any p):=by
 rw [List.drop_eq_getElem_cons h, List.any_cons]
set_option maxHeartbeats 1000000 in
theorem indexL_any (A : Option Addr) (c : Nat) (l : List ByteArray) (w : World) (hl : l.length ≤ maxLen) (hs : ∀ s ∈ l, s.size ≤ maxLen) (hA : Fi.StrsAt w (· < w.heap.size) A l) :
  Calls Tryz.prog 87 #[.slice A l.length c, .func (.func 66) #[] #[]] w fun e w'=>(∃ i : Int, e = .returned (.int .i64 i) ∧ (decide (0 ≤ i) = l.any isLong)) ∧ w = w':=by
 unfold maxLen at hl
 have HA:=Lib.hid hA
 have HS:=Lib.hid hs
 clear hA hs
 go_enter Tryz.func87, Tryz.ntmps87
 go_wp2_with fail
 go_loop [8] (fun i=>∃ q : Nat, q ≤ l.length ∧ i = .int .i64 q ∧ Hid (l.any isLong = (l.drop q).any isLong)) (fun i=>l.length - (intOf i).toNat)
 case atStart=>exact ⟨0, Nat.zero_le _, rfl, rfl⟩
 case round =>
  obtain ⟨q, hq, rfl, hE⟩:=hrel
  by_cases hlt : q < l.length
  ·obtain ⟨ad, rfl, hp, hc⟩:=HA.out (by omega)
   have f0:=hc q hlt
   have hE2:=hE.out
   rw [any_drop hlt] at hE2
   have C:=isLong_any l[q] w (HS.out _ (List.getElem_mem hlt))
   generalize l[q] = s at f0 hE2 C
   generalize isLong s = b at hE2 C
   have HE:=Lib.hid hE2
   have HC:=Lib.hid C
   clear hE hE2 hc C
   cases b
   ·go_wp2_with fail
    refine HC.out.mono ?_
    rintro e w1 ⟨rfl, rfl⟩
    go_wp2_with fail
    go_round
    case rel=>exact ⟨q + 1, by omega, by go_num, HE.out⟩
    case measure=>simp [intOf]; omega
   ·go_wp2_with fail
    refine HC.out.mono ?_
    rintro e w1 ⟨rfl, rfl⟩
    go_wp2_with fail
    go_ret
    refine ⟨⟨_, rfl, ?_⟩, rfl⟩
    rw [HE.out, decide_eq_true (by omega)]; rfl
  ·have hE2:=hE.out
   rw [List.drop_eq_nil_of_le (by omega), List.any_nil] at hE2
   have HE:=Lib.hid hE2
   clear hE hE2
   go_wp2_with fail
   go_ret
   refine ⟨⟨_, rfl, ?_⟩, rfl⟩
   rw [HE.out]; rfl
set_option maxHeartbeats 400000 in
theorem longs_any (A : Option Addr) (c : Nat) (l : List ByteArray) (w : World) (hl : l.length ≤ maxLen) (hs : ∀ s ∈ l, s.size ≤ maxLen) (hA : Fi.StrsAt w (· < w.heap.size) A l) :
  Calls Tryz.prog 65 #[.slice A l.length c, .func (.func 66) #[] #[]] w fun e w'=>e = .returned (.bool (l.any isLong)) ∧ w = w':=by
 have HI:=Lib.hid (indexL_any A c l w hl hs hA)
 clear hl hs hA
 go_enter Tryz.func65, Tryz.ntmps65
 go_wp2_with fail
 refine HI.out.mono ?_
 rintro e w1 ⟨⟨i, rfl, hi⟩, rfl⟩
 have HE:=Lib.hid hi
 clear hi
 go_wp2_with fail
 go_ret
 exact ⟨ret_bool HE.out, rfl⟩
set_option maxHeartbeats 400000 in
theorem areShort_any (A : Option Addr) (c : Nat) (l : List ByteArray) (w : World) (hl : l.length ≤ maxLen) (hs : ∀ s ∈ l, s.size ≤ maxLen) (hA : Fi.StrsAt w (· < w.heap.size) A l) :
  Calls Tryz.prog 30 #[.slice A l.length c] w fun e w'=>e = .returned (.bool (areShort l)) ∧ w = w':=by
 have HI:=Lib.hid (longs_any A c l w hl hs hA)
 clear hl hs hA
 go_enter Tryz.func30, Tryz.ntmps30
 go_wp2_with fail
 refine HI.out.mono ?_
 rintro e w1 ⟨rfl, rfl⟩
 go_wp2_with fail
 go_ret
 exact ⟨rfl, rfl⟩
set_option maxHeartbeats 400000 in
theorem isList_any (A : Option Addr) (c : Nat) (l : List ByteArray) (w : World) (hl : l.length ≤ maxLen) (hs : ∀ s ∈ l, s.size ≤ maxLen) (hA : Fi.StrsAt w (· < w.heap.size) A l) :
  Calls Tryz.prog 61 #[.slice A l.length c] w fun e w'=>e = .returned (.bool (isList l)) ∧ w = w':=by
 have HI:=Lib.hid (areShort_any A c l w hl hs hA)
 clear hs hA
 unfold maxLen at hl
 by_cases h1 : (l.length : Int) ≤ 12
 ·have hr:=Lib.hid (show isList l = areShort l by unfold isList; rw [decide_eq_true (by omega)]; rfl)
  go_enter Tryz.func61, Tryz.ntmps61
  go_wp2_with fail
  refine HI.out.mono ?_
  rintro e w1 ⟨rfl, rfl⟩
  go_wp2_with fail
  go_ret
  exact ⟨ret_bool hr.out.symm, rfl⟩
 ·have hr:=Lib.hid (show isList l = false by unfold isList; rw [decide_eq_false (by omega)]; rfl)
  have h2 : 12 < (l.length : Int):=by omega
  clear h1
  go_enter Tryz.func61, Tryz.ntmps61
  go_wp2_with fail
  go_ret
  exact ⟨ret_bool hr.out.symm, rfl⟩
set_option maxHeartbeats 400000 in
theorem takes_any (d : Mo) (V : Option Addr) (vc : Nat) (w : World) :
  Calls Tryz.prog 63 #[.agg #[.int .i64 d.kind, .string d.attr, .slice V d.vals.length vc]] w fun e w'=>e = .returned (.bool (takes d)) ∧ Below w.heap.size w w':=by
 have hr:=Lib.hid (show (d.kind != 1) = takes d by unfold takes; rw [Bool.eq_iff_iff]; simp)
 go_enter Tryz.func63, Tryz.ntmps63
 go_wp2_with fail
 go_ret
 exact ⟨ret_bool hr.out, (Below.refl _ _).alloc (Nat.le_refl _) _⟩
set_option maxHeartbeats 1000000 in
theorem noMod_any (d : Mo) (V : Option Addr) (vc : Nat) (w : World) (h : MoAt w (· < w.heap.size) d [.int .i64 d.kind, .string d.attr, .slice V d.vals.length vc]) :
  Calls Tryz.prog 64 #[.agg #[.int .i64 d.kind, .string d.attr, .slice V d.vals.length vc]] w fun e w'=>e = .returned (.bool (noMod d)) ∧ Below w.heap.size w w':=by
 have hb0:=(Below.refl w.heap.size w).alloc (Nat.le_refl _) (.cells #[.int .i64 d.kind, .string d.attr, .slice V d.vals.length vc] 48)
 have h':=h.past hb0
 obtain ⟨V', vc', e, h2, h3, h4, h5, h6⟩:=h'
 simp only [List.cons.injEq, Value.slice.injEq, true_and, and_true] at e
 obtain ⟨rfl, rfl⟩:=e
 have HW:=Lib.hid (within_any d.kind 1 3 (w.alloc (.cells #[.int .i64 d.kind, .string d.attr, .slice V d.vals.length vc] 48)))
 have HL:=Lib.hid (isLong_any d.attr (w.alloc (.cells #[.int .i64 d.kind, .string d.attr, .slice V d.vals.length vc] 48)) h2)
 have HV:=Lib.hid (isList_any V vc d.vals (w.alloc (.cells #[.int .i64 d.kind, .string d.attr, .slice V d.vals.length vc] 48)) h3 h6 h5)
 have hn : noMod d = (!within d.kind 1 3 || (isLong d.attr || !isList d.vals)):=rfl
 generalize within d.kind 1 3 = a at HW hn
 generalize isLong d.attr = b at HL hn
 generalize isList d.vals = c at HV hn
 have HN:=Lib.hid hn
 clear h h2 h3 h4 h5 h6 hn
 go_enter Tryz.func64, Tryz.ntmps64
 go_wp2_with fail
 refine HW.out.mono ?_
 rintro e w1 ⟨rfl, rfl⟩
 cases a
 ·go_wp2_with fail
  go_ret
  exact ⟨ret_bool HN.out.symm, hb0⟩
 go_wp2_with fail
 refine HL.out.mono ?_
 rintro e w1 ⟨rfl, rfl⟩
 cases b
 ·go_wp2_with fail
  refine HV.out.mono ?_
  rintro e w1 ⟨rfl, rfl⟩
  go_wp2_with fail
  go_ret
  exact ⟨ret_bool HN.out.symm, hb0⟩
 ·go_wp2_with fail
  go_ret
  exact ⟨ret_bool HN.out.symm, hb0⟩
def IndexPost (b : Bool) (w : World) (e : Ending) (w' : World) : Prop:=(∃ i : Int, e = .returned (.int .i64 i) ∧ (decide (0 ≤ i) = b)) ∧ Below w.heap.size w w'
set_option maxHeartbeats 2000000 in
theorem indexT_any
  (A : Option Addr) (c : Nat) (l : List Mo) (cs : Nat → List Value) (w : World) (hl : l.length ≤ maxLen) (hA : MosAt w (· < w.heap.size) A l cs) :
  Calls Tryz.prog 86 #[.slice A l.length c, .func (.func 63) #[] #[]] w (IndexPost (l.any takes) w):=by
 unfold maxLen at hl
 have HF:=Lib.hid (fun (d : Mo) (V : Option Addr) (vc : Nat) (w : World) (_ : MoAt w (· < w.heap.size) d [.int .i64 d.kind, .string d.attr, .slice V d.vals.length vc])=>takes_any d V vc w)
 go_enter Tryz.func86, Tryz.ntmps86
 go_wp2_with fail
 go_loopw [8] (fun i wr=>∃ q : Nat, q ≤ l.length ∧ i = .int .i64 q ∧ Hid (l.any takes = (l.drop q).any takes) ∧ Below w.heap.size w wr) (fun i wr=>l.length - (intOf i).toNat)
 case atStart=>exact ⟨0, Nat.zero_le _, rfl, rfl, Below.refl _ _⟩
 case round =>
  obtain ⟨q, hq, rfl, hE, hb⟩:=hrel
  have hs:=hb.size
  by_cases hlt : q < l.length
  ·obtain ⟨ad, V, vc, rfl, hp, f0, f1, f2, hM⟩:=hA.kid hb hlt
   have hE2:=hE.out
   rw [any_drop hlt] at hE2
   have C:=HF.out l[q] V vc wr hM
   generalize l[q] = d at f0 f1 f2 hE2 C hM
   generalize takes d = b at hE2 C
   have HE:=Lib.hid hE2
   have HC:=Lib.hid C
   clear hE hE2 C hM
   cases b
   ·go_wp2_with fail
    refine HC.out.mono ?_
    rintro e w1 ⟨rfl, hb1⟩
    go_wp2_with fail
    refine ⟨⟨q + 1, by omega, by go_num, HE.out, hb.trans (hb1.mono hs)⟩, by simp [intOf]; omega⟩
   ·go_wp2_with fail
    refine HC.out.mono ?_
    rintro e w1 ⟨rfl, hb1⟩
    go_wp2_with fail
    go_ret
    refine ⟨⟨_, rfl, ?_⟩, hb.trans (hb1.mono hs)⟩
    rw [HE.out, decide_eq_true (by omega)]; rfl
  ·have hE2:=hE.out
   rw [List.drop_eq_nil_of_le (by omega), List.any_nil] at hE2
   have HE:=Lib.hid hE2
   clear hE hE2
   go_wp2_with fail
   go_ret
   refine ⟨⟨_, rfl, ?_⟩, hb⟩
   rw [HE.out]; rfl
set_option maxHeartbeats 400000 in
theorem containsT_any
  (A : Option Addr) (c : Nat) (l : List Mo) (cs : Nat → List Value) (w : World) (hl : l.length ≤ maxLen) (hA : MosAt w (· < w.heap.size) A l cs) :
  Calls Tryz.prog 62 #[.slice A l.length c, .func (.func 63) #[] #[]] w fun e w'=>e = .returned (.bool (l.any takes)) ∧ Below w.heap.size w w':=by
 have HI:=Lib.hid (indexT_any A c l cs w hl hA)
 clear hl hA
 go_enter Tryz.func62, Tryz.ntmps62
 go_wp2_with fail
 refine HI.out.mono ?_
 rintro e w1 ⟨⟨i, rfl, hi⟩, hb⟩
 have HE:=Lib.hid hi
 clear hi
 go_wp2_with fail
 go_ret
 exact ⟨ret_bool HE.out, hb⟩
set_option maxHeartbeats 2000000 in
theorem indexN_any
  (A : Option Addr) (c : Nat) (l : List Mo) (cs : Nat → List Value) (w : World) (hl : l.length ≤ maxLen) (hA : MosAt w (· < w.heap.size) A l cs) :
  Calls Tryz.prog 86 #[.slice A l.length c, .func (.func 64) #[] #[]] w (IndexPost (l.any noMod) w):=by
 unfold maxLen at hl
 have HF:=Lib.hid (fun (d : Mo) (V : Option Addr) (vc : Nat) (w : World) (h : MoAt w (· < w.heap.size) d [.int .i64 d.kind, .string d.attr, .slice V d.vals.length vc])=>noMod_any (d : Mo) (V : Option Addr) (vc : Nat) (w : World) (h : MoAt w (· < w.heap.size) d [.int .i64 d.kind, .string d.attr, .slice V d.vals.length vc]))
 go_enter Tryz.func86, Tryz.ntmps86
 go_wp2_with fail
 go_loopw [8] (fun i wr=>∃ q : Nat, q ≤ l.length ∧ i = .int .i64 q ∧ Hid (l.any noMod = (l.drop q).any noMod) ∧ Below w.heap.size w wr) (fun i wr=>l.length - (intOf i).toNat)
 case atStart=>exact ⟨0, Nat.zero_le _, rfl, rfl, Below.refl _ _⟩
 case round =>
  obtain ⟨q, hq, rfl, hE, hb⟩:=hrel
  have hs:=hb.size
  by_cases hlt : q < l.length
  ·obtain ⟨ad, V, vc, rfl, hp, f0, f1, f2, hM⟩:=hA.kid hb hlt
   have hE2:=hE.out
   rw [any_drop hlt] at hE2
   have C:=HF.out l[q] V vc wr hM
   generalize l[q] = d at f0 f1 f2 hE2 C hM
   generalize noMod d = b at hE2 C
   have HE:=Lib.hid hE2
   have HC:=Lib.hid C
   clear hE hE2 C hM
   cases b
   ·go_wp2_with fail
    refine HC.out.mono ?_
    rintro e w1 ⟨rfl, hb1⟩
    go_wp2_with fail
    refine ⟨⟨q + 1, by omega, by go_num, HE.out, hb.trans (hb1.mono hs)⟩, by simp [intOf]; omega⟩
   ·go_wp2_with fail
    refine HC.out.mono ?_
    rintro e w1 ⟨rfl, hb1⟩
    go_wp2_with fail
    go_ret
    refine ⟨⟨_, rfl, ?_⟩, hb.trans (hb1.mono hs)⟩
    rw [HE.out, decide_eq_true (by omega)]; rfl
  ·have hE2:=hE.out
   rw [List.drop_eq_nil_of_le (by omega), List.any_nil] at hE2
   have HE:=Lib.hid hE2
   clear hE hE2
   go_wp2_with fail
   go_ret
   refine ⟨⟨_, rfl, ?_⟩, hb⟩
   rw [HE.out]; rfl
set_option maxHeartbeats 400000 in
theorem containsN_any
  (A : Option Addr) (c : Nat) (l : List Mo) (cs : Nat → List Value) (w : World) (hl : l.length ≤ maxLen) (hA : MosAt w (· < w.heap.size) A l cs) :
  Calls Tryz.prog 62 #[.slice A l.length c, .func (.func 64) #[] #[]] w fun e w'=>e = .returned (.bool (l.any noMod)) ∧ Below w.heap.size w w':=by
 have HI:=Lib.hid (indexN_any A c l cs w hl hA)
 clear hl hA
 go_enter Tryz.func62, Tryz.ntmps62
 go_wp2_with fail
 refine HI.out.mono ?_
 rintro e w1 ⟨⟨i, rfl, hi⟩, hb⟩
 have HE:=Lib.hid hi
 clear hi
 go_wp2_with fail
 go_ret
 exact ⟨ret_bool HE.out, hb⟩
end Go.Proofs.YtconghaebebncaaGreatDoor.Ms
namespace Go.Proofs.YtconghaebebncaaGreatDoor.Ms
open Go.RowKit
def NewRow (t : TypeId) (cs : Array Value) (w : World) (r : Ending) (w' : World) : Prop :=
 ∃ g, r = .returned (.slice (some ⟨g, 0, none⟩) cs.size cs.size) ∧ Blk w' g t cs ∧ w.heap.size ≤ g ∧ Below w.heap.size w w'
set_option maxHeartbeats 1000000 in
theorem texts_any (m : Mg) (cs : Array Value) (w : World) (h : MAt w (· < w.heap.size) m cs) :
  Calls Tryz.prog 31 #[.agg cs] w (NewRow 9 #[.string m.dn, .string m.pass, .string m.rdn, .string m.sup, .string m.attr, .string m.value, .string m.matched] w):=by
 have B:=Box.new h
 have hb0:=(Below.refl w.heap.size w).alloc (Nat.le_refl _) (.cells cs 28)
 have c3:=(B.1.cell 3).trans h.g3
 have c5:=(B.1.cell 5).trans h.g5
 have c15:=(B.1.cell 15).trans h.g15
 have c18:=(B.1.cell 18).trans h.g18
 have c19:=(B.1.cell 19).trans h.g19
 have c20:=(B.1.cell 20).trans h.g20
 have c22:=(B.1.cell 22).trans h.g22
 have HB:=Lib.hid hb0
 clear h B hb0
 go_enter Tryz.func31, Tryz.ntmps31
 go_wp2_with fail
 go_ret
 refine ⟨w.heap.size + 1, rfl, ?_, Nat.le_succ _, HB.out.alloc HB.out.size _⟩
 have:=Blk.new (w.alloc (.cells cs 28)) 9 #[.string m.dn, .string m.pass, .string m.rdn, .string m.sup, .string m.attr, .string m.value, .string m.matched]
 rwa [show (w.alloc (.cells cs 28)).heap.size = w.heap.size + 1 by simp] at this
set_option maxHeartbeats 1000000 in
theorem numbers_any (m : Mg) (cs : Array Value) (w : World) (h : MAt w (· < w.heap.size) m cs) :
  Calls Tryz.prog 37 #[.agg cs] w (NewRow 3 #[.int .i64 m.id, .int .i64 m.op, .int .i64 m.ref, .int .i64 m.ver, .int .i64 m.scope, .int .i64 m.size, .int .i64 m.code] w):=by
 have B:=Box.new h
 have hb0:=(Below.refl w.heap.size w).alloc (Nat.le_refl _) (.cells cs 28)
 have c0:=(B.1.cell 0).trans h.g0
 have c1:=(B.1.cell 1).trans h.g1
 have c2:=(B.1.cell 2).trans h.g2
 have c4:=(B.1.cell 4).trans h.g4
 have c6:=(B.1.cell 6).trans h.g6
 have c7:=(B.1.cell 7).trans h.g7
 have c21:=(B.1.cell 21).trans h.g21
 have HB:=Lib.hid hb0
 clear h B hb0
 go_enter Tryz.func37, Tryz.ntmps37
 go_wp2_with fail
 go_ret
 refine ⟨w.heap.size + 1, rfl, ?_, Nat.le_succ _, HB.out.alloc HB.out.size _⟩
 have:=Blk.new (w.alloc (.cells cs 28)) 3 #[.int .i64 m.id, .int .i64 m.op, .int .i64 m.ref, .int .i64 m.ver, .int .i64 m.scope, .int .i64 m.size, .int .i64 m.code]
 rwa [show (w.alloc (.cells cs 28)).heap.size = w.heap.size + 1 by simp] at this
theorem rowS {w : World} {g : Nat} {m : Mg} (h : Blk w g 9 #[.string m.dn, .string m.pass, .string m.rdn, .string m.sup, .string m.attr, .string m.value, .string m.matched]) : Fi.StrsAt w (· < w.heap.size) (some ⟨g, 0, none⟩) (textsM m):=by
 intro _
 refine ⟨_, rfl, h.lt, fun i hi=>?_⟩
 have h7 : i < 7:=hi
 rw [Addr.add_lit, Nat.zero_add, h.cell i]
 match i, h7 with
 | 0, _=>rfl
 | 1, _=>rfl
 | 2, _=>rfl
 | 3, _=>rfl
 | 4, _=>rfl
 | 5, _=>rfl
 | 6, _=>rfl
set_option maxHeartbeats 400000 in
theorem eqS_texts (m n : Mg) (g g' : Nat) (w : World) (h : Blk w g 9 #[.string m.dn, .string m.pass, .string m.rdn, .string m.sup, .string m.attr, .string m.value, .string m.matched])
  (h' : Blk w g' 9 #[.string n.dn, .string n.pass, .string n.rdn, .string n.sup, .string n.attr, .string n.value, .string n.matched]) :
  Calls Tryz.prog 38 #[.slice (some ⟨g, 0, none⟩) 7 7, .slice (some ⟨g', 0, none⟩) 7 7] w fun e w'=>e = .returned (.bool (decide (textsM m = textsM n))) ∧ Below w.heap.size w w' :=
 Fi.eqS_any (textsM m) (textsM n) _ _ 7 7 w (rowS h) (rowS h') (by show 7 ≤ _; decide) (by show 7 ≤ _; decide)
theorem cellI {w : World} {g : Nat} {m : Mg} (h : Blk w g 3 #[.int .i64 m.id, .int .i64 m.op, .int .i64 m.ref, .int .i64 m.ver, .int .i64 m.scope, .int .i64 m.size, .int .i64 m.code]) (j : Nat) (hj : j < 7) :
  w.cell? ⟨g, 0 + j, none⟩ = some (.int .i64 ((numsM m).getD j 0)):=by
 rw [Nat.zero_add, h.cell j]
 match j, hj with
 | 0, _=>rfl
 | 1, _=>rfl
 | 2, _=>rfl
 | 3, _=>rfl
 | 4, _=>rfl
 | 5, _=>rfl
 | 6, _=>rfl
set_option maxHeartbeats 400000 in
theorem eqI_nums (m n : Mg) (g g' : Nat) (w : World) (h : Blk w g 3 #[.int .i64 m.id, .int .i64 m.op, .int .i64 m.ref, .int .i64 m.ver, .int .i64 m.scope, .int .i64 m.size, .int .i64 m.code])
  (h' : Blk w g' 3 #[.int .i64 n.id, .int .i64 n.op, .int .i64 n.ref, .int .i64 n.ver, .int .i64 n.scope, .int .i64 n.size, .int .i64 n.code]) :
  Calls Tryz.prog 36 #[.slice (some ⟨g, 0, none⟩) 7 7, .slice (some ⟨g', 0, none⟩) 7 7] w fun e w'=>e = .returned (.bool (decide (numsM m = numsM n))) ∧ Below w.heap.size w w':=by
 refine (Tryz.slices_Equal_int g 0 7 7 g' 0 7 7 (numsM m) (numsM n) w (by show 7 ≤ 7; decide) (by show 7 ≤ 7; decide) (by omega) (by omega) (fun j hj=>cellI h j hj) (fun j hj=>cellI h' j hj)).mono ?_
 rintro e w' ⟨rfl, q, rfl⟩
 refine ⟨ret_bool ?_, Fi.drewN_below _ _ _⟩
 rw [List.take_of_length_le (by show 7 ≤ 7; decide), List.take_of_length_le (by show 7 ≤ 7; decide), Bool.eq_iff_iff]
 simp
end Go.Proofs.YtconghaebebncaaGreatDoor.Ms
namespace Go.Proofs.YtconghaebebncaaGreatDoor.Ms
open Go.RowKit
set_option maxHeartbeats 4000000 in
theorem sameMo_any (a b : Mo) (V V' : Option Addr) (vc vc' : Nat) (w : World) (h : MoAt w (· < w.heap.size) a [.int .i64 a.kind, .string a.attr, .slice V a.vals.length vc]) (h' : MoAt w (· < w.heap.size) b [.int .i64 b.kind, .string b.attr, .slice V' b.vals.length vc']) :
  Calls Tryz.prog 41 #[.agg #[.int .i64 a.kind, .string a.attr, .slice V a.vals.length vc], .agg #[.int .i64 b.kind, .string b.attr, .slice V' b.vals.length vc']] w fun e w'=>e = .returned (.bool (eqMo a b)) ∧ Below w.heap.size w w':=by
 obtain ⟨V1, vc1, e, h2, h3, h4, h5, h6⟩:=h
 simp only [List.cons.injEq, Value.slice.injEq, true_and, and_true] at e
 obtain ⟨rfl, rfl⟩:=e
 obtain ⟨V2, vc2, e, k2, k3, k4, k5, k6⟩:=h'
 simp only [List.cons.injEq, Value.slice.injEq, true_and, and_true] at e
 obtain ⟨rfl, rfl⟩:=e
 obtain ⟨k, t, v⟩:=a
 obtain ⟨k', t', v'⟩:=b
 simp only at h2 h3 h4 h5 h6 k2 k3 k4 k5 k6 ⊢
 have hb0 : Below w.heap.size w ((w.alloc (.cells #[.int .i64 k, .string t, .slice V v.length vc] 48)).alloc (.cells #[.int .i64 k', .string t', .slice V' v'.length vc'] 48)):=((Below.refl _ _).alloc (Nat.le_refl _) _).alloc (by simp) _
 have hr : eqMo ⟨k, t, v⟩ ⟨k', t', v'⟩ = (decide (k = k') && (decide (t = t') && decide (v = v'))):=rfl
 have HS:=Lib.hid (Fi.eqS_any v v' V V' vc vc' _ (h5.past hb0) (k5.past hb0) h3 k3)
 clear h2 h3 h4 h5 h6 k2 k3 k4 k5 k6
 by_cases h1 : k = k'
 ·subst h1
  by_cases h2 : t = t'
  ·subst h2
   rw [decide_eq_true (p:=k = k) rfl, decide_eq_true (p:=t = t) rfl, Bool.true_and, Bool.true_and] at hr
   have q2 : (t.toList == t.toList) = true:=by rw [Fi.toList_eq]; simp
   have HR:=Lib.hid hr
   clear hr
   go_enter Tryz.func41, Tryz.ntmps41
   go_wp2_with fail
   refine HS.out.mono ?_
   rintro e w1 ⟨rfl, hb1⟩
   go_wp2_with fail
   go_ret
   exact ⟨ret_bool HR.out.symm, hb0.trans (hb1.mono hb0.size)⟩
  ·rw [decide_eq_true (p:=k = k) rfl, decide_eq_false h2, Bool.true_and, Bool.false_and] at hr
   have q2 : (t.toList == t'.toList) = false:=by rw [Fi.toList_eq, decide_eq_false h2]
   have HR:=Lib.hid hr
   clear hr h2
   go_enter Tryz.func41, Tryz.ntmps41
   go_wp2_with fail
   go_ret
   exact ⟨ret_bool HR.out.symm, hb0⟩
 ·rw [decide_eq_false h1, Bool.false_and] at hr
  have q1 : (k == k') = false:=by rw [beq_eq_false_iff_ne]; exact h1
  have HR:=Lib.hid hr
  clear hr h1
  go_enter Tryz.func41, Tryz.ntmps41
  go_wp2_with fail
  go_ret
  exact ⟨ret_bool HR.out.symm, hb0⟩
theorem MoAt.alloc {w : World} {d : Mo} {cs : List Value} (h : MoAt w (· < w.heap.size) d cs) (o : Obj) : MoAt (w.alloc o) (· < (w.alloc o).heap.size) d cs:=h.past ((Below.refl _ _).alloc (Nat.le_refl _) o)
set_option maxHeartbeats 4000000 in
theorem eqMos_any (l l' : List Mo) (A A' : Option Addr) (c c' : Nat) (ds ds' : Nat → List Value) (w : World) (hM : MosAt w (· < w.heap.size) A l ds) (hM' : MosAt w (· < w.heap.size) A' l' ds') (hl : l.length ≤ maxLen) (hl' : l'.length ≤ maxLen) :
  Calls Tryz.prog 40 #[.slice A l.length c, .slice A' l'.length c', .func (.func 41) #[] #[]] w
   fun r w'=>r = .returned (.bool (eqMos l l')) ∧ Below w.heap.size w w':=by
 unfold maxLen at hl hl'
 by_cases hn : l.length = l'.length
 ·have HN:=Lib.hid hn
  have Ih:=Lib.hid sameMo_any
  rw [← hn]
  clear hn hl'
  go_enter Tryz.func40, Tryz.ntmps40
  go_wp2_with fail
  go_loopw [17] (fun i wr=>∃ q : Nat, q ≤ l.length ∧ i = .int .i64 q ∧ Hid (eqMos l l' = eqMos (l.drop q) (l'.drop q)) ∧ Below w.heap.size w wr) (fun i wr=>l.length - (intOf i).toNat)
  case atStart=>exact ⟨0, Nat.zero_le _, rfl, rfl, Below.refl _ _⟩
  case round =>
   obtain ⟨q, hq, rfl, hE, hb⟩:=hrel
   have hs:=hb.size
   by_cases hlt : q < l.length
   ·obtain ⟨ad, V, vc, rfl, hp, f0, f1, f2, hL⟩:=hM.kid hb hlt
    have hb0:=hb.alloc hs (.cells #[.int .i64 l[q].kind, .string l[q].attr, .slice V l[q].vals.length vc] 48)
    obtain ⟨ad2, V2, vc2, rfl, hp2, g0, g1, g2, hL2⟩:=hM'.kid hb0 (i:=q) (by have:=HN.out; omega)
    have hb1:=hb0.alloc (by simp; omega) (.cells #[.int .i64 (l'[q]'(by have:=HN.out; omega)).kind, .string (l'[q]'(by have:=HN.out; omega)).attr, .slice V2 (l'[q]'(by have:=HN.out; omega)).vals.length vc2] 48)
    have hE2:=hE.out
    rw [eqMos_drop hlt (by have:=HN.out; omega)] at hE2
    have H:=Ih.out l[q] (l'[q]'(by have:=HN.out; omega)) V V2 vc vc2 _ ((hL.alloc (.cells #[.int .i64 l[q].kind, .string l[q].attr, .slice V l[q].vals.length vc] 48)).alloc (.cells #[.int .i64 (l'[q]'(by have:=HN.out; omega)).kind, .string (l'[q]'(by have:=HN.out; omega)).attr, .slice V2 (l'[q]'(by have:=HN.out; omega)).vals.length vc2] 48))
     (hL2.alloc (.cells #[.int .i64 (l'[q]'(by have:=HN.out; omega)).kind, .string (l'[q]'(by have:=HN.out; omega)).attr, .slice V2 (l'[q]'(by have:=HN.out; omega)).vals.length vc2] 48))
    generalize eqMo l[q] (l'[q]'(by have:=HN.out; omega)) = t at hE2 H
    generalize l[q] = d at f0 f1 f2 g0 g1 g2 H hb1 hL hL2 hb0
    generalize (l'[q]'(by have:=HN.out; omega)) = d2 at g0 g1 g2 H hb1 hL2
    have HE:=Lib.hid hE2
    have HH:=Lib.hid H
    clear hE hE2 H hL hL2 hb0
    cases t with
    | false =>
     go_wp2_with fail
     refine HH.out.mono ?_
     rintro e w1 ⟨rfl, hb2⟩
     have hb3:=hb1.trans (hb2.mono (by simp; omega))
     go_wp2_with fail
     go_ret
     refine ⟨ret_bool ?_, hb3⟩
     rw [HE.out]; rfl
    | true =>
     go_wp2_with fail
     refine HH.out.mono ?_
     rintro e w1 ⟨rfl, hb2⟩
     have hb3:=hb1.trans (hb2.mono (by simp; omega))
     go_wp2_with fail
     refine ⟨⟨q + 1, by omega, by go_num, HE.out, hb3⟩, by simp [intOf]; omega⟩
   ·have hE2:=hE.out
    rw [List.drop_eq_nil_of_le (by omega), List.drop_eq_nil_of_le (by have:=HN.out; omega), eqMos] at hE2
    have HE:=Lib.hid hE2
    clear hE hE2
    go_wp2_with fail
    go_ret
    exact ⟨ret_bool HE.out.symm, hb⟩
 ·have hr:=Lib.hid (eqMos_len hn)
  have h1 : ((l.length : Int) != l'.length) = true:=by rw [bne_iff_ne]; omega
  clear hn
  go_enter Tryz.func40, Tryz.ntmps40
  go_wp2_with fail
  go_ret
  exact ⟨ret_bool hr.out.symm, Below.refl _ _⟩
end Go.Proofs.YtconghaebebncaaGreatDoor.Ms
