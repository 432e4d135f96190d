import Derived.Lib.TrimByte
import Derived.KernelRfl
import Derived.Test.YtpnlalfdgngcdaaDoorZA6
import Derived.Deep.RegionHeld3
set_option linter.unusedVariables false
set_option maxRecDepth 100000
namespace Go.Proofs.YtpnlalfdgngcdaaDoor
namespace Sc
open _root_.Go.Proofs.YtpnlalfdgngcdaaDoor.Nm
abbrev Ty:=ByteArray × Nat × Bool
def tab : List Ty:=[(⟨#[97, 99, 105]⟩, 2, false), (⟨#[99]⟩, 1, true), (⟨#[99, 110]⟩, 1, false), (⟨#[100, 99]⟩, 1, false),
 (⟨#[100, 101, 115, 99, 114, 105, 112, 116, 105, 111, 110]⟩, 1, false), (⟨#[101, 110, 116, 114, 121, 105, 100]⟩, 2, true), (⟨#[109, 97, 105, 108]⟩, 2, false),
 (⟨#[109, 101, 109, 98, 101, 114]⟩, 5, false), (⟨#[111]⟩, 1, false), (⟨#[111, 117]⟩, 1, false), (⟨#[115, 110]⟩, 1, false), (⟨#[116, 105, 116, 108, 101]⟩, 1, true),
 (⟨#[117, 105, 100]⟩, 1, false), (⟨#[117, 105, 100, 110, 117, 109, 98, 101, 114]⟩, 3, true), (⟨#[117, 115, 101, 114, 112, 97, 115, 115, 119, 111, 114, 100]⟩, 4, false)]
def look (x : ByteArray) : List Ty → Option Ty
 | []=>none
 | t :: r=>if t.1 = x then some t else look x r
def find (l : List UInt8) : Option Ty:=look (mk (lower l)) tab
theorem look_step {x : ByteArray} {l : List Ty} {k : Nat} (h : k < l.length) : look x (l.drop k) = if l[k].1 = x then some l[k] else look x (l.drop (k + 1)):=by
 rw [List.drop_eq_getElem_cons h, look]
end Sc
end Go.Proofs.YtpnlalfdgngcdaaDoor
namespace Go.Proofs.YtpnlalfdgngcdaaDoor
namespace Ru
open _root_.Go.Proofs.YtpnlalfdgngcdaaDoor.Nm
structure Rul where
 deny : Bool
 rights : ByteArray
 sub : Bool
 who : ByteArray
 attrs : List ByteArray
def letters : List UInt8:=[114, 115, 99, 119, 97, 100]
def skip (c : UInt8) : List UInt8 → List UInt8
 | []=>[]
 | b :: r=>if b = c then r else b :: r
def skips : List UInt8 → List UInt8 → List UInt8
 | [], l=>l
 | c :: cs, l=>skips cs (skip c l)
def isRights (l : List UInt8) : Bool:=!l.isEmpty && (skips letters l).isEmpty
def anyT : List UInt8:=[97, 110, 121]
def selfT : List UInt8:=[115, 101, 108, 102]
def dnT : List UInt8:=[100, 110, 58]
def isName (t : List UInt8) : Bool:=!t.isEmpty && match dnm t with
 | none=>false
 | some d=>decide (prDn d = t)
def isWho (l : List UInt8) : Bool:=decide (l = anyT) || decide (l = selfT) || (decide (l.take 3 = dnT) && isName (l.drop 3))
def isTy (a : ByteArray) : Bool:=match Sc.find (bs a) with
 | none=>false
 | some t=>decide (t.1 = a)
def less (a b : ByteArray) : Bool:=Op.bytesLess a.toList b.toList
def behind : Option ByteArray → ByteArray → Bool
 | none, _=>true
 | some q, a=>less q a
def attrsOk : Option ByteArray → List ByteArray → Bool
 | _, []=>true
 | p, a :: r=>isTy a && (behind p a && attrsOk (some a) r)
def isR (r : Rul) : Bool:=isRights (bs r.rights) && (isWho (bs r.who) && attrsOk none r.attrs)
def verb (d : Bool) : List UInt8:=if d then [100, 101, 110, 121] else [103, 114, 97, 110, 116]
def reach (s : Bool) : List UInt8:=if s then [115, 117, 98] else [98, 97, 115, 101]
def attrsT (l : List ByteArray) : List UInt8:=if l = [] then [42] else join 44 (l.map bs)
def pr (r : Rul) : List UInt8:=verb r.deny ++ 32 :: (bs r.rights ++ 32 :: (reach r.sub ++ 32 :: (attrsT r.attrs ++ 32 :: bs r.who)))
def cutAt (c : UInt8) : List UInt8 → Option (List UInt8 × List UInt8)
 | []=>none
 | b :: r=>if b = c then some ([], r) else (cutAt c r).map fun p=>(b :: p.1, p.2)
def split (c : UInt8) : Nat → List UInt8 → List (List UInt8)
 | 0, l=>[l]
 | n + 1, l=>match cutAt c l with
  | none=>[l]
  | some (a, b)=>a :: split c n b
def attrsN (n : Nat) (l : List UInt8) : List ByteArray:=if l = [42] then [] else (split 44 n l).map mk
def cand (n : Nat) (s : List UInt8) : Option Rul:=match cutAt 32 s with
 | none=>none
 | some (v, a)=>match cutAt 32 a with
  | none=>none
  | some (r, b)=>match cutAt 32 b with
   | none=>none
   | some (h, c)=>match cutAt 32 c with
    | none=>none
    | some (t, w)=>some ⟨decide (v = verb true), mk r, decide (h = reach true), mk w, attrsN n t⟩
def good (s : List UInt8) (r : Rul) : Bool:=isR r && decide (pr r = s)
def keep (s : List UInt8) (r : Rul) : Option Rul:=if good s r then some r else none
def parse (s : List UInt8) : Option Rul:=match cand (s.length + 14) s with
 | none=>none
 | some r=>keep s r
theorem cutAt_some {c : UInt8} : ∀ {l a b : List UInt8}, cutAt c l = some (a, b) → l = a ++ c :: b ∧ c ∉ a
 | [], a, b, h=>by cases h
 | x :: r, a, b, h=>by
  rw [cutAt] at h
  split at h
  ·rename_i hx
   injection h with h
   injection h with h1 h2
   subst h1 h2 hx
   exact ⟨rfl, by simp⟩
  ·rename_i hx
   cases hc : cutAt c r with
   | none=>rw [hc] at h; cases h
   | some p =>
    obtain ⟨p1, p2⟩:=p
    rw [hc] at h
    injection h with h
    injection h with h1 h2
    obtain ⟨e, hn⟩:=cutAt_some hc
    subst h1 h2
    refine ⟨by rw [e]; rfl, ?_⟩
    simp only [List.mem_cons, not_or]
    exact ⟨fun e=>hx e.symm, hn⟩
theorem cutAt_at {c : UInt8} : ∀ {a : List UInt8} (b : List UInt8), c ∉ a → cutAt c (a ++ c :: b) = some (a, b)
 | [], b, h=>by
  show cutAt c (c :: b) = _
  rw [cutAt, if_pos rfl]
 | x :: r, b, h=>by
  simp only [List.mem_cons, not_or] at h
  show cutAt c (x :: (r ++ c :: b)) = _
  rw [cutAt, if_neg (fun e=>h.1 e.symm), cutAt_at b h.2]
  rfl
theorem cutAt_no {c : UInt8} : ∀ {a : List UInt8}, c ∉ a → cutAt c a = none
 | [], h=>rfl
 | x :: r, h=>by
  simp only [List.mem_cons, not_or] at h
  rw [cutAt, if_neg (fun e=>h.1 e.symm), cutAt_no h.2]
  rfl
theorem cutAt_len {c : UInt8} {l a b : List UInt8} (h : cutAt c l = some (a, b)) : l.length = a.length + b.length + 1:=by
 rw [(cutAt_some h).1]
 simp
 omega
theorem split_more {c : UInt8} : ∀ (n k : Nat) (l : List UInt8), n ≤ k → split c n l = split c k l ∨ (n < (split c k l).length - 1 ∧ ∃ x ∈ split c n l, c ∈ x)
 | 0, k, l, h=>by
  cases hc : cutAt c l with
  | none =>
   refine Or.inl ?_
   cases k with
   | zero=>rfl
   | succ k=>rw [split, split, hc]
  | some p =>
   obtain ⟨a, b⟩:=p
   cases k with
   | zero=>exact Or.inl rfl
   | succ k =>
    refine Or.inr ⟨?_, l, by rw [split]; simp, ?_⟩
    ·rw [split, hc]
     simp only [List.length_cons]
     have : 0 < (split c k b).length:=by
      cases k with
      | zero=>simp [split]
      | succ k =>
       rw [split]
       split <;> simp
     omega
    ·rw [(cutAt_some hc).1]
     simp
 | n + 1, k, l, h=>by
  cases k with
  | zero=>omega
  | succ k =>
   rw [split, split]
   cases hc : cutAt c l with
   | none=>exact Or.inl rfl
   | some p =>
    obtain ⟨a, b⟩:=p
    rcases split_more n k b (by omega) with h1 | ⟨h1, x, h2, h3⟩
    ·left
     show a :: split c n b = a :: split c k b
     rw [h1]
    ·refine Or.inr ⟨?_, x, by simp [h2], h3⟩
     simp only [List.length_cons]
     omega
theorem split_len {c : UInt8} : ∀ (n : Nat) (l : List UInt8), 0 < (split c n l).length ∧ (split c n l).length ≤ n + 1
 | 0, l=>by simp [split]
 | n + 1, l=>by
  rw [split]
  cases hc : cutAt c l with
  | none=>simp
  | some p =>
   obtain ⟨a, b⟩:=p
   have:=split_len (c:=c) n b
   simp only [List.length_cons]
   omega
theorem split_each {c : UInt8} : ∀ (n : Nat) (l : List UInt8), ∀ x ∈ split c n l, x.length ≤ l.length
 | 0, l, x, h=>by simp [split] at h; rw [h]; exact Nat.le_refl _
 | n + 1, l, x, h=>by
  rw [split] at h
  cases hc : cutAt c l with
  | none=>rw [hc] at h; simp at h; rw [h]; exact Nat.le_refl _
  | some p =>
   obtain ⟨a, b⟩:=p
   rw [hc] at h
   have hl:=cutAt_len hc
   rcases List.mem_cons.1 h with rfl | h
   ·omega
   ·have:=split_each n b x h
    omega
theorem split_join {c : UInt8} : ∀ (l : List (List UInt8)) (n : Nat), l ≠ [] → (∀ x ∈ l, c ∉ x) → l.length ≤ n + 1 → split c n (join c l) = l
 | [], n, h, _, _=>absurd rfl h
 | [x], n, _, h, _=>by
  have hx:=h x (by simp)
  show split c n x = _
  cases n with
  | zero=>rfl
  | succ n=>rw [split, cutAt_no hx]
 | x :: y :: r, n, _, h, hl=>by
  have hx:=h x (by simp)
  cases n with
  | zero=>simp at hl
  | succ n =>
   show split c (n + 1) (x ++ c :: join c (y :: r)) = _
   rw [split, cutAt_at _ hx]
   show x :: split c n (join c (y :: r)) = _
   rw [split_join (y :: r) n (by simp) (fun z hz=>h z (by simp [hz])) (by simp at hl ⊢; omega)]
end Ru
end Go.Proofs.YtpnlalfdgngcdaaDoor
namespace Go.Proofs.YtpnlalfdgngcdaaDoor
open Go.RowKit
theorem ext1 (s : ByteArray) (k : Nat) (h : k < s.size) : s.extract k (k + 1) = ⟨#[s[k]]⟩:=by
 apply ByteArray.ext
 apply Array.toList_inj.1
 rw [Lib.extract_data]
 have : s.data.toList.drop k = s[k] :: s.data.toList.drop (k + 1):=drop_at h
 rw [this, Nat.add_sub_cancel_left]
 rfl
theorem mk_bs (q : ByteArray) : Nm.mk (Nm.bs q) = q:=rfl
theorem one_size (c : UInt8) : (⟨#[c]⟩ : ByteArray).size = 1:=rfl
theorem bs_one (q : ByteArray) (c : UInt8) : Nm.bs (q ++ ⟨#[c]⟩) = Nm.bs q ++ [c]:=by
 show (q ++ ⟨#[c]⟩ : ByteArray).data.toList = _
 rw [ByteArray.data_append, Array.toList_append]
theorem bs_app (q p : ByteArray) : Nm.bs (q ++ p) = Nm.bs q ++ Nm.bs p:=by
 show (q ++ p : ByteArray).data.toList = _
 rw [ByteArray.data_append, Array.toList_append]
theorem bs_two (q : ByteArray) (b c : UInt8) : Nm.bs (q ++ ⟨#[b]⟩ ++ ⟨#[c]⟩) = Nm.bs q ++ [b, c]:=by
 rw [bs_one, bs_one, List.append_assoc]
 rfl
theorem hex2_size (a b : UInt8) : (⟨#[a, b]⟩ : ByteArray).size = 2:=rfl
theorem bs_hex (q : ByteArray) (a b c : UInt8) : Nm.bs (q ++ ⟨#[a]⟩ ++ ⟨#[b, c]⟩) = Nm.bs q ++ [a, b, c]:=by
 rw [bs_app, bs_one, List.append_assoc]
 rfl
end Go.Proofs.YtpnlalfdgngcdaaDoor
namespace Go.Proofs.YtpnlalfdgngcdaaDoor
open Go.RowKit
def TAt (w : World) (g : Nat) (l : List Sc.Ty) : Prop:=∀ k (h : k < l.length), w.cell? ⟨g, k * 3, none⟩ = some (.string l[k].1) ∧ w.cell? ⟨g, k * 3 + 1, none⟩ = some (.int .i64 l[k].2.1) ∧ w.cell? ⟨g, k * 3 + 2, none⟩ = some (.bool l[k].2.2)
theorem TAt.past {w w' : World} {g B : Nat} {l : List Sc.Ty} (h : TAt w g l) (hg : g < B) (hb : Below B w w') : TAt w' g l:=fun k hk =>
 ⟨bat hb hg (h k hk).1, bat hb hg (h k hk).2.1, bat hb hg (h k hk).2.2⟩
theorem TAt.lt {w : World} {g : Nat} {l : List Sc.Ty} (h : TAt w g l) (h0 : 0 < l.length) : g < w.heap.size:=cell_lt (h 0 h0).1
def tabL : List Value:=Sc.tab.flatMap fun t=>[.string t.1, .int .i64 t.2.1, .bool t.2.2]
theorem tabL_at : ∀ k (h : k < Sc.tab.length), tabL[k * 3]? = some (.string Sc.tab[k].1) ∧ tabL[k * 3 + 1]? = some (.int .i64 Sc.tab[k].2.1) ∧ tabL[k * 3 + 2]? = some (.bool Sc.tab[k].2.2):=fun k h=>by
 have h' : k < 15:=h
 have : k = 0 ∨ k = 1 ∨ k = 2 ∨ k = 3 ∨ k = 4 ∨ k = 5 ∨ k = 6 ∨ k = 7 ∨ k = 8 ∨ k = 9 ∨ k = 10 ∨ k = 11 ∨ k = 12 ∨ k = 13 ∨ k = 14:=by omega
 rcases this with rfl | rfl | rfl | rfl | rfl | rfl | rfl | rfl | rfl | rfl | rfl | rfl | rfl | rfl | rfl
 all_goals exact ⟨rfl, rfl, rfl⟩
theorem TAt.of_blk {w : World} {g : Nat} (h : Blk w g 39 tabL.toArray) : TAt w g Sc.tab:=fun k hk=>by
 obtain ⟨h1, h2, h3⟩:=tabL_at k hk
 refine ⟨?_, ?_, ?_⟩
 ·rw [h.cell, List.getElem?_toArray, h1]
 ·rw [h.cell, List.getElem?_toArray, h2]
 ·rw [h.cell, List.getElem?_toArray, h3]
set_option maxHeartbeats 1000000 in
theorem all_any (w : World) :
  Calls Tryd.prog 35 #[] w fun e w'=>e = .returned (.slice (some ⟨w.heap.size, 0, none⟩) 15 15) ∧ TAt w' w.heap.size Sc.tab ∧ Below w.heap.size w w':=by
 go_enter Tryd.func35, Tryd.ntmps35
 go_wp2_with fail
 go_ret
 exact ⟨rfl, TAt.of_blk (Blk.new _ _ _), (Below.refl _ _).alloc (Nat.le_refl _) _⟩
set_option maxHeartbeats 1000000 in
theorem rall_any (w : World) :
  Calls Tryd.prog 27 #[] w fun e w'=>e = .returned (.slice (some ⟨w.heap.size, 0, none⟩) 15 15) ∧ TAt w' w.heap.size Sc.tab ∧ Below w.heap.size w w':=by
 go_enter Tryd.func27, Tryd.ntmps27
 go_wp2_with fail
 go_ret
 exact ⟨rfl, TAt.of_blk (Blk.new _ _ _), (Below.refl _ _).alloc (Nat.le_refl _) _⟩
end Go.Proofs.YtpnlalfdgngcdaaDoor
namespace Go.Proofs.YtpnlalfdgngcdaaDoor
open Go.RowKit
theorem infoS : (Tryd.prog.info? 9).map (fun i=>(i.zero, i.size, i.bytes)) = some (some (.string ⟨#[]⟩), 1, 16):=by kernel_rfl
def OwnS (w : World) (base : Nat) (v : Value) (ps : List ByteArray) : Prop:=w.ownsRow base 9 1 v ps.length (ps.map Value.string)
theorem OwnS.past {w w' : World} {base : Nat} {v : Value} {ps : List ByteArray} (h : OwnS w base v ps) (hb : Below w.heap.size w w') : OwnS w' base v ps:=own_past h hb
theorem OwnS.nil (w : World) (base : Nat) : OwnS w base (.slice none 0 0) []:=World.ownsRow_nil w base _ 1
theorem OwnS.alloc {w : World} {base : Nat} {v : Value} {ps : List ByteArray} (h : OwnS w base v ps) (o : Obj) : OwnS (w.alloc o) base v ps:=h.past ((Below.refl _ _).alloc (Nat.le_refl _) o)
theorem OwnS.form3 {w : World} {base : Nat} {v : Value} {ps : List ByteArray} (h : OwnS w base v ps) : ∃ A n c, v = .slice A n c:=by
 rcases h.2 with ⟨rfl, h0⟩ | ⟨g, cap, cur, rfl, _⟩
 ·exact ⟨none, 0, 0, rfl⟩
 ·exact ⟨_, _, _, rfl⟩
theorem wpList_pushW {w : World} {ops : Array Oper} {rest : List Oper} {o : Oper} {a : Act} {Q : Exit → Act → World → Prop} (hgd : o.guard = none) (sl x : Operand)
  (ho : o.op = .call { callee:=.builtin .append, args:=#[sl, x], argTypes:=#[22, 22] })
  (base : Nat) (v : Value) (ps : List ByteArray) (hs : a.eval sl = v) (hown : OwnS w base v ps) (g : Nat) (t : ByteArray) (hx : a.eval x = .slice (some ⟨g, 0, none⟩) 1 1)
  (hB : Blk w g 9 #[.string t]) (hl : ps.length ≤ 1099511627776) (hbase : base ≤ w.heap.size)
  (h : ∀ v' w', OwnS w' base v' (ps ++ [t]) → Below base w w' → wpList Tryd.prog ops Q rest (a.put o.dst v') w') : wpList Tryd.prog ops Q (o :: rest) a w:=by
 obtain ⟨i0, hi, hz0, hz1, hz2⟩:=infoP infoS
 refine wpList_append_own w hgd sl x 22 ho base 9 i0 (.string ⟨#[]⟩) 1 16 Tryd.underlying22 hi hz0 hz1 hz2 rfl (by decide) v ps.length _ hs hown ⟨g, 0, none⟩ 1 1 [.string t] hx rfl (fun j u hj=>?_) (fun u hu=>?_) (by unfold maxLen; omega) (by omega) hbase (fun v' w' hown' hgr _=>h v' w' ?_ ?_)
 ·rw [Addr.add_lit, Nat.zero_add, hB.cell j]
  simpa using hj
 ·simp at hu; subst hu; rfl
 ·unfold OwnS
  rw [List.length_append, List.map_append]
  exact hown'
 ·exact (Below.refl _ _).grown hgr hbase (fun k hk=>(hown.lt k hk).1)
end Go.Proofs.YtpnlalfdgngcdaaDoor
