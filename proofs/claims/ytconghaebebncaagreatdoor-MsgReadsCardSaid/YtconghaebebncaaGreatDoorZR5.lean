import Derived.Test.YtconghaebebncaaGreatDoorZR3
import Derived.Lib.AppendStr
import Derived.Laws.AppendOwn
import Derived.Maps.AppendAt
import Derived.Deep.LoopGhost
set_option linter.unusedVariables false
set_option maxRecDepth 100000
namespace Go.Proofs.YtconghaebebncaaGreatDoor
open Go.RowKit
theorem block_of_add (a : Addr) (n : Nat) : (a.add n).block = a.block:=by unfold Addr.add; split <;> rfl
theorem add_of_add (a : Addr) (i j : Nat) : (a.add i).add j = a.add (i + j):=by
 unfold Addr.add
 by_cases hi : i = 0 <;> by_cases hj : j = 0 <;> simp [hi, hj, Nat.add_assoc]
theorem bat {B : Nat} {w w' : World} (hb : Below B w w') {b o : Nat} {v : Value} (h : b < B) (f : w.cell? ⟨b, o, none⟩ = some v) : w'.cell? ⟨b, o, none⟩ = some v:=(hb.cell (p:=⟨b, o, none⟩) h).trans f
theorem batA {B : Nat} {w w' : World} (hb : Below B w w') {p : Addr} {v : Value} (h : p.block < B) (f : w.cell? p = some v) : w'.cell? p = some v:=(hb.cell h).trans f
theorem cell_lt {w : World} {p : Addr} {v : Value} (h : w.cell? p = some v) : p.block < w.heap.size:=by
 rcases Nat.lt_or_ge p.block w.heap.size with hlt | hge
 ·exact hlt
 ·simp [World.cell?, Array.getElem?_eq_none hge] at h
def Blk (w : World) (g : Nat) (t : TypeId) (cs : Array Value) : Prop:=w.heap[g]? = some (.cells cs t (0, 0))
theorem Blk.lt {w : World} {g : Nat} {t : TypeId} {cs : Array Value} (h : Blk w g t cs) : g < w.heap.size:=by
 rcases Nat.lt_or_ge g w.heap.size with hlt | hge
 ·exact hlt
 ·unfold Blk at h; rw [Array.getElem?_eq_none hge] at h; cases h
theorem Blk.cell {w : World} {g : Nat} {t : TypeId} {cs : Array Value} (h : Blk w g t cs) (i : Nat) : w.cell? ⟨g, i, none⟩ = cs[i]?:=cell_of_row w g i cs t (0, 0) h
theorem Blk.frozen {w : World} {g : Nat} {t : TypeId} {cs : Array Value} (h : Blk w g t cs) (i : Nat) : w.frozen? ⟨g, i, none⟩ = false:=by
 unfold Blk at h
 simp [World.frozen?, h]
theorem Blk.new (w : World) (t : TypeId) (cs : Array Value) : Blk (w.alloc (.cells cs t)) w.heap.size t cs:=heap_alloc_new w _
theorem Blk.past {w w' : World} {g : Nat} {t : TypeId} {cs : Array Value} (h : Blk w g t cs) (hb : Below w.heap.size w w') : Blk w' g t cs:=(hb.block g h.lt).trans h
theorem Blk.drew {w : World} {g : Nat} {t : TypeId} {cs : Array Value} (h : Blk w g t cs) : Blk w.drew g t cs:=h
theorem Blk.alloc {w : World} {g : Nat} {t : TypeId} {cs : Array Value} (h : Blk w g t cs) (o : Obj) : Blk (w.alloc o) g t cs:=(Below.heap_alloc w o g h.lt).trans h
theorem Blk.set_ {w : World} {g : Nat} {t : TypeId} {cs : Array Value} (h : Blk w g t cs) (i : Nat) (u : Value) : Blk (w.setCell ⟨g, i, none⟩ u) g t (cs.setIfInBounds i u):=by
 unfold Blk at h ⊢
 simp [World.setCell, Array.getElem?_modify, h]
theorem Blk.far {w : World} {g : Nat} {t : TypeId} {cs : Array Value} (h : Blk w g t cs) {p : Addr} (hp : g ≠ p.block) (u : Value) : Blk (w.setCell p u) g t cs:=(Below.heap_setCell w p u g hp).trans h
theorem Blk.grown {w w' : World} {g : Nat} {t : TypeId} {cs : Array Value} {row : Option Nat} (h : Blk w g t cs) (hb : w.grownBy w' row) (hg : some g ≠ row) : Blk w' g t cs:=(hb.block g h.lt hg).trans h
theorem infoP {P : Program} {t : TypeId} {z : Value} {m k : Nat} (h : (P.info? t).map (fun i=>(i.zero, i.size, i.bytes)) = some (some z, m, k)) : ∃ i, P.info? t = some i ∧ i.zero = some z ∧ i.size = m ∧ i.bytes = k:=by
 cases h1 : P.info? t with
 | none=>rw [h1] at h; cases h
 | some i =>
  rw [h1] at h
  simp only [Option.map_some, Option.some.injEq, Prod.mk.injEq] at h
  exact ⟨i, rfl, h.1, h.2.1, h.2.2⟩
def Own (w : World) (base : Nat) (v : Value) (l : List UInt8) : Prop:=w.ownsRow base 5 1 v l.length (Lib.byteCells l)
theorem own_past {w w' : World} {base : Nat} {e : TypeId} {size : Nat} {v : Value} {n : Nat} {xs : List Value} (h : w.ownsRow base e size v n xs) (hb : Below w.heap.size w w') : w'.ownsRow base e size v n xs:=by
 obtain ⟨h1, h2⟩:=h
 refine ⟨h1, ?_⟩
 rcases h2 with h2 | ⟨g, cap, cur, hv, hg, hh, r⟩
 ·exact Or.inl h2
 ·have hlt : g < w.heap.size:=by
   rcases Nat.lt_or_ge g w.heap.size with h' | h'
   ·exact h'
   ·simp [Array.getElem?_eq_none h'] at hh
  exact Or.inr ⟨g, cap, cur, hv, hg, (hb.block g hlt).trans hh, r⟩
theorem Own.past {w w' : World} {base : Nat} {v : Value} {l : List UInt8} (h : Own w base v l) (hb : Below w.heap.size w w') : Own w' base v l:=own_past h hb
theorem Own.nil (w : World) (base : Nat) : Own w base (.slice none 0 0) []:=World.ownsRow_nil w base _ 1
theorem Own.drew {w : World} {base : Nat} {v : Value} {l : List UInt8} (h : Own w base v l) : Own w.drew base v l:=h
theorem Own.alloc {w : World} {base : Nat} {v : Value} {l : List UInt8} (h : Own w base v l) (o : Obj) : Own (w.alloc o) base v l:=h.past ((Below.refl _ _).alloc (Nat.le_refl _) o)
theorem Own.form {w : World} {base : Nat} {v : Value} {l : List UInt8} (h : Own w base v l) : ∃ A c, v = .slice A l.length c:=by
 rcases h.2 with ⟨rfl, h0⟩ | ⟨g, cap, cur, rfl, _⟩
 ·exact ⟨none, 0, by rw [h0]⟩
 ·exact ⟨_, _, rfl⟩
theorem own_cell {w : World} {base g n cap : Nat} {t : TypeId} {size : Nat} {xs : List Value} (h : w.ownsRow base t size (.slice (some ⟨g, 0, none⟩) n cap) n xs) (j : Nat) (u : Value) (hj : xs[j]? = some u) : w.cell? ⟨g, j, none⟩ = some u:=by
 rcases h.2 with ⟨e, _⟩ | ⟨g', cap', cur, e, hg, hh, hc, hm, hs, ht⟩
 ·cases e
 ·injection e with e1 e2 e3
  injection e1 with e1
  injection e1 with e1
  subst e1
  rw [cell_of_row w g j cur _ _ hh]
  have h1 : (cur.toList.take (n * size))[j]? = some u:=by rw [ht]; exact hj
  have hjl : j < n * size:=by
   have:=(List.getElem?_eq_some_iff.1 h1).1
   simp at this; omega
  rw [List.getElem?_take_of_lt hjl] at h1
  simpa using h1
theorem Own.cell {w : World} {base g n cap : Nat} {l : List UInt8} (h : Own w base (.slice (some ⟨g, 0, none⟩) n cap) l) (hn : n = l.length) {i : Nat} {c : UInt8} (hi : l[i]? = some c) : w.cell? ⟨g, i, none⟩ = some (.int .u8 (c.toNat : Int)):=by
 subst hn
 exact own_cell h i _ (by rw [Lib.byteCells, List.getElem?_map, hi]; rfl)
theorem Own.string {w : World} {base : Nat} {v : Value} {l : List UInt8} (h : Own w base v l) : (convert 40 9 v).run Tryz.prog w = .ok (.string (Nm.mk l)) w:=by
 rcases h.2 with ⟨rfl, h0⟩ | ⟨g, cap, cur, rfl, hg, hh, hc, hm, hs, ht⟩
 ·have : l = []:=List.eq_nil_of_length_eq_zero h0
  subst this
  exact run_convert_bytes_nil (P:=Tryz.prog) w 40 5 Tryz.underlying40 Tryz.underlying5 0 0 9 Tryz.underlying9
 ·exact run_convert_bytes_back (P:=Tryz.prog) w 40 9 5 ⟨g, 0, none⟩ cap l Tryz.underlying40 Tryz.underlying5 Tryz.underlying9 (fun j hj=>by
   rw [Addr.add_lit, Nat.zero_add]
   exact Own.cell (cap:=cap) ⟨h.1, Or.inr ⟨g, cap, cur, rfl, hg, hh, hc, hm, hs, ht⟩⟩ rfl (List.getElem?_eq_getElem hj))
end Go.Proofs.YtconghaebebncaaGreatDoor
namespace Go.Proofs.YtconghaebebncaaGreatDoor
open Go.RowKit
def tyR : Bool → List UInt8 → Bool
 | _, []=>true
 | f, c :: r=>(if f then Nm.smallC c else Nm.typeC c) && tyR false r
theorem tyR_all (l : List UInt8) : tyR false l = l.all Nm.typeC:=by
 induction l with
 | nil=>rfl
 | cons c r ih=>simp [tyR, ih]
theorem isType_tyR (l : List UInt8) : Nm.isType l = (decide (l.length ≤ 16) && (!l.isEmpty && tyR true l)):=by
 unfold Nm.isType
 cases l with
 | nil=>rfl
 | cons c r=>simp [tyR, tyR_all]
theorem size_eq (s : ByteArray) : s.data.toList.length = s.size:=rfl
theorem drop_at {s : ByteArray} {k : Nat} (h : k < s.size) : s.data.toList.drop k = s[k] :: s.data.toList.drop (k + 1):=List.drop_eq_getElem_cons (show k < s.data.toList.length from h)
theorem isE (s : ByteArray) : s.toList.isEmpty = decide (s.size = 0):=by
 rw [Bool.eq_iff_iff]
 simp only [List.isEmpty_iff, decide_eq_true_eq]
 rw [ByteArray.toList_eq]
 constructor
 ·intro h; rw [← size_eq, h]; rfl
 ·intro h; exact List.eq_nil_of_length_eq_zero h
theorem nil_of (s : ByteArray) (h : s.size = 0) : s.toList = []:=by
 have:=isE s
 simpa [h] using this
theorem nilD_of (s : ByteArray) (h : s.size = 0) : s.data.toList = []:=List.eq_nil_of_length_eq_zero h
theorem isE_of (s : ByteArray) (h : 0 < s.size) : s.toList.isEmpty = false:=by
 rw [isE]
 simp only [decide_eq_false_iff_not]; omega
theorem tyC_not (k : Nat) (c : UInt8) (h : ¬ (97 ≤ c.toNat ∧ c.toNat ≤ 122 ∨ k ≠ 0 ∧ (48 ≤ c.toNat ∧ c.toNat ≤ 57 ∨ c.toNat = 45))) : (if decide (k = 0) = true then Nm.smallC c else Nm.typeC c) = false:=by
 unfold Nm.smallC Nm.typeC
 split
 ·simp_all
 ·have : k ≠ 0:=by simpa using ‹¬ decide (k = 0) = true›
  rw [decide_eq_false_iff_not]
  omega
theorem tyC_is (k : Nat) (c : UInt8) (h : 97 ≤ c.toNat ∧ c.toNat ≤ 122 ∨ k ≠ 0 ∧ (48 ≤ c.toNat ∧ c.toNat ≤ 57 ∨ c.toNat = 45)) : (if decide (k = 0) = true then Nm.smallC c else Nm.typeC c) = true:=by
 unfold Nm.smallC Nm.typeC
 split
 ·have : k = 0:=by simpa using ‹decide (k = 0) = true›
  rw [decide_eq_true_eq]
  omega
 ·rw [decide_eq_true_eq]
  omega
theorem isED_of (s : ByteArray) (h : 0 < s.size) : s.data.toList.isEmpty = false:=by
 have:=isE_of s h
 simpa [ByteArray.toList_eq] using this
set_option maxHeartbeats 400000 in
theorem isType_any (s : ByteArray) (w : World) :
  Calls Tryz.prog 120 #[.string s] w fun e w'=>e = .returned (.bool (Nm.isType s.data.toList)) ∧ w = w':=by
 have hT:=Lib.hid (isType_tyR s.data.toList)
 by_cases h0 : s.size = 0
 ·have h1:=nil_of s h0
  have h2:=Lib.hid (nilD_of s h0)
  clear h0
  go_enter Tryz.func120, Tryz.ntmps120
  go_wp2_with fail
  go_ret
  refine ⟨ret_bool ?_, rfl⟩
  rw [hT.out, h2.out]; rfl
 have h1:=isE_of s (by omega)
 have h3:=Lib.hid (isED_of s (by omega))
 by_cases h2 : 16 < (s.size : Int)
 ·clear h0
  go_enter Tryz.func120, Tryz.ntmps120
  go_wp2_with fail
  go_ret
  refine ⟨ret_bool ?_, rfl⟩
  rw [hT.out, size_eq, decide_eq_false (by omega)]; rfl
 have h2' : (s.size : Int) ≤ 16:=by omega
 have hR:=Lib.hid (show Nm.isType s.data.toList = tyR (decide (0 = 0)) (s.data.toList.drop 0) by
  rw [hT.out, h3.out, size_eq, decide_eq_true (by omega)]; rfl)
 clear hT h0 h2 h3
 go_enter Tryz.func120, Tryz.ntmps120
 go_wp2_with fail
 go_loopw [14] (fun i wr=>∃ k : Nat, k ≤ s.size ∧ i = .int .i64 k ∧ Hid (Nm.isType s.data.toList = tyR (decide (k = 0)) (s.data.toList.drop k)) ∧ w = wr) (fun i wr=>s.size - (intOf i).toNat)
 case atStart=>exact ⟨0, Nat.zero_le _, rfl, hR, rfl⟩
 case round =>
  obtain ⟨k, hk, rfl, hE, rfl⟩:=hrel
  by_cases hlt : k < s.size
  ·have hD:=hE.out
   rw [drop_at hlt, tyR] at hD
   have HD:=Lib.hid hD
   have hc:=u8_lt s[k]
   clear hE hD hR
   go_wp2_with fail
   all_goals first
    |(go_ret
      refine ⟨ret_bool ?_, rfl⟩
      rw [HD.out]
      clear HD
      simp only [beq_iff_eq, beq_eq_false_iff_ne, ne_eq] at *
      rw [tyC_not _ _ (by omega)]
      rfl)
    |(refine ⟨⟨k + 1, by omega, by go_num, ?_, trivial⟩, by simp [intOf]; omega⟩
      show _ = _
      rw [HD.out]
      clear HD
      simp only [beq_iff_eq, beq_eq_false_iff_ne, ne_eq] at *
      rw [tyC_is _ _ (by omega)]
      rfl)
  ·go_wp2_with fail
   go_ret
   refine ⟨ret_bool ?_, rfl⟩
   have : k = s.size:=by omega
   rw [hE.out, this, ← size_eq, List.drop_length]
   rfl
theorem isType_all (s : ByteArray) (h : 0 < s.size) : Nm.isType s.data.toList = (decide (s.size ≤ 16) && (Nm.smallC s[0] && s.data.toList.all Nm.typeC)):=by
 have h1:=drop_at (s:=s) (k:=0) h
 rw [List.drop_zero] at h1
 have h2 : Nm.smallC s[0] = (Nm.smallC s[0] && Nm.typeC s[0]):=by
  unfold Nm.smallC Nm.typeC
  rw [Bool.eq_iff_iff]
  simp only [Bool.and_eq_true, decide_eq_true_eq]
  omega
 rw [isType_tyR, size_eq, h1]
 simp only [tyR, List.isEmpty_cons, Bool.not_false, Bool.true_and, if_true, List.all_cons, ← Bool.and_assoc]
 rw [tyR_all]
 rw [Bool.and_assoc (decide (s.size ≤ 16)) (Nm.smallC s[0]) (Nm.typeC s[0]), ← h2]
set_option maxHeartbeats 400000 in
theorem rIsType_any (s : ByteArray) (w : World) :
  Calls Tryz.prog 88 #[.string s] w fun e w'=>e = .returned (.bool (Nm.isType s.data.toList)) ∧ w = w':=by
 by_cases h0 : s.size = 0
 ·have h2:=Lib.hid (show Nm.isType s.data.toList = false by rw [nilD_of s h0]; rfl)
  have h0' : (s.size : Int) < 1:=by omega
  clear h0
  go_enter Tryz.func88, Tryz.ntmps88
  go_wp2_with fail
  go_ret
  refine ⟨ret_bool ?_, rfl⟩
  rw [h2.out]
 have hT:=isType_all s (by omega)
 by_cases h2 : 16 < (s.size : Int)
 ·have h3:=Lib.hid (show Nm.isType s.data.toList = false by rw [hT, decide_eq_false (by omega)]; rfl)
  have h0' : 1 ≤ (s.size : Int):=by omega
  clear h0 hT
  go_enter Tryz.func88, Tryz.ntmps88
  go_wp2_with fail
  go_ret
  refine ⟨ret_bool ?_, rfl⟩
  rw [h3.out]
 have h2' : (s.size : Int) ≤ 16:=by omega
 have h0' : 1 ≤ (s.size : Int):=by omega
 have h0s : 0 < s.size:=by omega
 rw [decide_eq_true (by omega), Bool.true_and] at hT
 have hc:=u8_lt s[0]
 by_cases h4 : Nm.smallC s[0] = false
 ·have h3:=Lib.hid (show Nm.isType s.data.toList = false by rw [hT, h4]; rfl)
  have h5 : (s[0].toNat : Int) < 97 ∨ 97 ≤ (s[0].toNat : Int) ∧ 122 < (s[0].toNat : Int):=by unfold Nm.smallC at h4; rw [decide_eq_false_iff_not] at h4; omega
  clear h0 hT h2 h4
  rcases h5 with h5 | ⟨h5, h6⟩
  all_goals
   go_enter Tryz.func88, Tryz.ntmps88
   go_wp2_with fail
   go_ret
   refine ⟨ret_bool ?_, rfl⟩
   rw [h3.out]
 ·have h4' : Nm.smallC s[0] = true:=by simpa using h4
  have h5 : 97 ≤ (s[0].toNat : Int) ∧ (s[0].toNat : Int) ≤ 122:=by unfold Nm.smallC at h4'; rw [decide_eq_true_eq] at h4'; omega
  obtain ⟨h5, h6⟩:=h5
  rw [h4', Bool.true_and] at hT
  have hR:=Lib.hid (show Nm.isType s.data.toList = (s.data.toList.drop 0).all Nm.typeC from hT)
  clear h0 hT h2 h4 h4'
  go_enter Tryz.func88, Tryz.ntmps88
  go_wp2_with fail
  go_loopw [3] (fun i wr=>∃ k : Nat, k ≤ s.size ∧ i = .int .i64 k ∧ Hid (Nm.isType s.data.toList = (s.data.toList.drop k).all Nm.typeC) ∧ w = wr) (fun i wr=>s.size - (intOf i).toNat)
  case atStart=>exact ⟨0, Nat.zero_le _, rfl, hR, rfl⟩
  case round =>
   obtain ⟨k, hk, rfl, hE, rfl⟩:=hrel
   by_cases hlt : k < s.size
   ·have hD:=hE.out
    rw [drop_at hlt, List.all_cons] at hD
    have HD:=Lib.hid hD
    have hc:=u8_lt s[k]
    clear hE hD hR
    go_wp2_with fail
    all_goals first
     |(go_ret
       refine ⟨ret_bool ?_, rfl⟩
       rw [HD.out]
       clear HD
       simp only [bne_iff_ne, ne_eq] at *
       rw [show Nm.typeC s[k] = false by unfold Nm.typeC; rw [decide_eq_false_iff_not]; omega]
       rfl)
     |(refine ⟨⟨k + 1, by omega, by go_num, ?_, trivial⟩, by simp [intOf]; omega⟩
       show _ = _
       rw [HD.out]
       clear HD
       try simp only [bne_eq_false_iff_eq] at *
       rw [show Nm.typeC s[k] = true by unfold Nm.typeC; rw [decide_eq_true_eq]; omega]
       rfl)
   ·go_wp2_with fail
    go_ret
    refine ⟨ret_bool ?_, rfl⟩
    have : k = s.size:=by omega
    rw [hE.out, this, ← size_eq, List.drop_length]
    rfl
end Go.Proofs.YtconghaebebncaaGreatDoor
namespace Go.Proofs.YtconghaebebncaaGreatDoor
open Go.RowKit
end Go.Proofs.YtconghaebebncaaGreatDoor
namespace Go.Proofs.YtconghaebebncaaGreatDoor
open Go.RowKit
theorem infoS : (Tryz.prog.info? 9).map (fun i=>(i.zero, i.size, i.bytes)) = some (some (.string ⟨#[]⟩), 1, 16):=by kernel_rfl
def OwnS (w : World) (base : Nat) (v : Value) (ps : List ByteArray) : Prop:=w.ownsRow base 9 1 v ps.length (ps.map Value.string)
theorem OwnS.past {w w' : World} {base : Nat} {v : Value} {ps : List ByteArray} (h : OwnS w base v ps) (hb : Below w.heap.size w w') : OwnS w' base v ps:=own_past h hb
theorem OwnS.nil (w : World) (base : Nat) : OwnS w base (.slice none 0 0) []:=World.ownsRow_nil w base _ 1
theorem OwnS.alloc {w : World} {base : Nat} {v : Value} {ps : List ByteArray} (h : OwnS w base v ps) (o : Obj) : OwnS (w.alloc o) base v ps:=h.past ((Below.refl _ _).alloc (Nat.le_refl _) o)
theorem wpList_pushW {w : World} {ops : Array Oper} {rest : List Oper} {o : Oper} {a : Act} {Q : Exit → Act → World → Prop} (hgd : o.guard = none) (sl x : Operand)
  (ho : o.op = .call { callee:=.builtin .append, args:=#[sl, x], argTypes:=#[22, 22] })
  (base : Nat) (v : Value) (ps : List ByteArray) (hs : a.eval sl = v) (hown : OwnS w base v ps) (g : Nat) (t : ByteArray) (hx : a.eval x = .slice (some ⟨g, 0, none⟩) 1 1)
  (hB : Blk w g 9 #[.string t]) (hl : ps.length ≤ 1099511627776) (hbase : base ≤ w.heap.size)
  (h : ∀ v' w', OwnS w' base v' (ps ++ [t]) → Below base w w' → wpList Tryz.prog ops Q rest (a.put o.dst v') w') : wpList Tryz.prog ops Q (o :: rest) a w:=by
 obtain ⟨i0, hi, hz0, hz1, hz2⟩:=infoP infoS
 refine wpList_append_own w hgd sl x 22 ho base 9 i0 (.string ⟨#[]⟩) 1 16 Tryz.underlying22 hi hz0 hz1 hz2 rfl (by decide) v ps.length _ hs hown ⟨g, 0, none⟩ 1 1 [.string t] hx rfl (fun j u hj=>?_) (fun u hu=>?_) (by unfold maxLen; omega) (by omega) hbase (fun v' w' hown' hgr _=>h v' w' ?_ ?_)
 ·rw [Addr.add_lit, Nat.zero_add, hB.cell j]
  simpa using hj
 ·simp at hu; subst hu; rfl
 ·unfold OwnS
  rw [List.length_append, List.map_append]
  exact hown'
 ·exact (Below.refl _ _).grown hgr hbase (fun k hk=>(hown.lt k hk).1)
end Go.Proofs.YtconghaebebncaaGreatDoor
namespace Go.Proofs.YtconghaebebncaaGreatDoor
open Go.RowKit
theorem conv_blk (w : World) (g n : Nat) (l : List UInt8) (hn : n = l.length) (h : Blk w g 5 (Lib.byteCells l).toArray) :
  (convert 40 9 (.slice (some ⟨g, 0, none⟩) n n)).run Tryz.prog w = .ok (.string (Nm.mk l)) w:=by
 subst hn
 refine run_convert_bytes_back (P:=Tryz.prog) w 40 9 5 ⟨g, 0, none⟩ _ l Tryz.underlying40 Tryz.underlying5 Tryz.underlying9 (fun j hj=>?_)
 rw [Addr.add_lit, Nat.zero_add, h.cell j]
 simp only [List.getElem?_toArray, Lib.byteCells, List.getElem?_map, List.getElem?_eq_getElem hj]
 rfl
end Go.Proofs.YtconghaebebncaaGreatDoor
