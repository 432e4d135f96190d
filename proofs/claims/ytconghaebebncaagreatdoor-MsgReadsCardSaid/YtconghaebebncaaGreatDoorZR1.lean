import Derived.Lib.Strings
import Derived.Below
import Derived.Laws.OwnMore
import Derived.Laws.Rows
import Derived.Lib.IndexBytes
set_option linter.unusedVariables false
set_option maxRecDepth 100000
namespace Go.Proofs.YtconghaebebncaaGreatDoor
namespace Sp
def num (l : List UInt8) : Nat:=l.foldl (fun n b=>256 * n + b.toNat) 0
def hd : List UInt8 → Nat × Nat × Nat
 | []=>(0, 0, 10)
 | t :: r =>
  if t.toNat % 32 = 31 then (0, 0, 14) else
  match r with
  | []=>(0, 0, 10)
  | b :: r =>
   if b.toNat < 128 then (2, b.toNat, 0)
   else if b.toNat = 128 ∨ 132 < b.toNat then (0, 0, 11)
   else if r.length < b.toNat - 128 then (0, 0, 10)
   else if 4000 < num (r.take (b.toNat - 128)) then (0, 0, 13)
   else (2 + (b.toNat - 128), num (r.take (b.toNat - 128)), 0)
end Sp
end Go.Proofs.YtconghaebebncaaGreatDoor
namespace Go.Proofs.YtconghaebebncaaGreatDoor.Be
open Go.RowKit
inductive El where
 | mk (tag : Nat) (body : ByteArray) (kids : List El)
theorem El.ind {p : El → Prop} (h : ∀ t b ks, (∀ k ∈ ks, p k) → p (.mk t b ks)) (e : El) : p e :=
 El.rec (motive_1:=p) (motive_2:=fun ks=>∀ k ∈ ks, p k) (fun t b ks ih=>h t b ks ih) (fun k hk=>by cases hk)
  (fun k ks hk hks x hx=>by
   rcases List.mem_cons.1 hx with rfl | hx
   ·exact hk
   ·exact hks x hx) e
theorem block_of_add (a : Addr) (n : Nat) : (a.add n).block = a.block:=by unfold Addr.add; split <;> rfl
theorem add_of_add (a : Addr) (i j : Nat) : (a.add i).add j = a.add (i + j):=by
 unfold Addr.add
 by_cases hi : i = 0 <;> by_cases hj : j = 0 <;> simp [hi, hj, Nat.add_assoc]
theorem bat {B : Nat} {w w' : World} (hb : Below B w w') {b o : Nat} {v : Value} (h : b < B) (f : w.cell? ⟨b, o, none⟩ = some v) : w'.cell? ⟨b, o, none⟩ = some v:=(hb.cell (p:=⟨b, o, none⟩) h).trans f
theorem batA {B : Nat} {w w' : World} (hb : Below B w w') {p : Addr} {v : Value} (h : p.block < B) (f : w.cell? p = some v) : w'.cell? p = some v:=(hb.cell h).trans f
inductive Lies (w : World) (P : Nat → Prop) : El → List Value → Prop
 | mk (tag : Nat) (body : ByteArray) (kids : List El) (A : Option Addr) (c : Nat) (cs : Nat → List Value)
   (ht : tag ≤ 255) (hb : body.size ≤ maxLen) (hl : kids.length ≤ maxLen) (h3 : ∀ i, i < kids.length → (cs i).length = 3)
   (hA : 0 < kids.length → ∃ ad, A = some ad ∧ P ad.block ∧ ∀ i, i < kids.length → ∀ j u, (cs i)[j]? = some u → w.cell? (ad.add (i * 3 + j)) = some u)
   (hk : ∀ i (h : i < kids.length), Lies w P kids[i] (cs i)) :
   Lies w P (.mk tag body kids) [.int .u8 tag, .string body, .slice A kids.length c]
theorem Lies.imp {w w' : World} {P P' : Nat → Prop} {e : El} {cs : List Value} (h : Lies w P e cs) (hP : ∀ b, P b → P' b) (hw : ∀ p : Addr, P p.block → w'.cell? p = w.cell? p) : Lies w' P' e cs:=by
 induction h with
 | mk tag body kids A c cs ht hb hl h3 hA hk ih =>
  refine .mk tag body kids A c cs ht hb hl h3 (fun h0=>?_) ih
  obtain ⟨ad, e, hp, hc⟩:=hA h0
  exact ⟨ad, e, hP _ hp, fun i hi j u hu=>(hw _ (by rw [block_of_add]; exact hp)).trans (hc i hi j u hu)⟩
theorem Lies.kept {w w' : World} {B : Nat} {e : El} {cs : List Value} (h : Lies w (· < B) e cs) (hb : Below B w w') : Lies w' (· < B) e cs :=
 h.imp (fun _ h=>h) (fun p hp=>hb.cell hp)
theorem Lies.more {w : World} {B B' : Nat} {e : El} {cs : List Value} (h : Lies w (· < B) e cs) (hb : B ≤ B') : Lies w (· < B') e cs :=
 h.imp (fun _ h=>Nat.lt_of_lt_of_le h hb) (fun p hp=>rfl)
theorem Lies.drew {w : World} {P : Nat → Prop} {e : El} {cs : List Value} (h : Lies w P e cs) : Lies w.drew P e cs:=h.imp (fun _ h=>h) (fun _ _=>rfl)
theorem Lies.past {w w' : World} {e : El} {cs : List Value} (h : Lies w (· < w.heap.size) e cs) (hb : Below w.heap.size w w') : Lies w' (· < w'.heap.size) e cs :=
 (h.kept hb).more hb.size
def KidsAt (w : World) (P : Nat → Prop) (A : Option Addr) (ks : List El) (ds : Nat → List Value) : Prop :=
 (∀ i, i < ks.length → (ds i).length = 3) ∧
 (0 < ks.length → ∃ ad, A = some ad ∧ P ad.block ∧ ∀ i, i < ks.length → ∀ j u, (ds i)[j]? = some u → w.cell? (ad.add (i * 3 + j)) = some u) ∧
 ∀ i (h : i < ks.length), Lies w P ks[i] (ds i)
theorem KidsAt.imp {w w' : World} {P P' : Nat → Prop} {A : Option Addr} {ks : List El} {ds : Nat → List Value} (h : KidsAt w P A ks ds) (hP : ∀ b, P b → P' b) (hw : ∀ p : Addr, P p.block → w'.cell? p = w.cell? p) :
  KidsAt w' P' A ks ds:=by
 refine ⟨h.1, fun h0=>?_, fun i hi=>(h.2.2 i hi).imp hP hw⟩
 obtain ⟨ad, e, hp, hc⟩:=h.2.1 h0
 exact ⟨ad, e, hP _ hp, fun i hi j u hu=>(hw _ (by rw [block_of_add]; exact hp)).trans (hc i hi j u hu)⟩
theorem KidsAt.past {w w' : World} {A : Option Addr} {ks : List El} {ds : Nat → List Value} (h : KidsAt w (· < w.heap.size) A ks ds) (hb : Below w.heap.size w w') : KidsAt w' (· < w'.heap.size) A ks ds :=
 h.imp (fun _ h=>Nat.lt_of_lt_of_le h hb.size) (fun p hp=>hb.cell hp)
theorem Lies.open_ {w : World} {P : Nat → Prop} {t : Nat} {b : ByteArray} {ks : List El} {cs : List Value} (h : Lies w P (.mk t b ks) cs) :
  ∃ (A : Option Addr) (c : Nat) (ds : Nat → List Value), cs = [.int .u8 t, .string b, .slice A ks.length c] ∧ t ≤ 255 ∧ b.size ≤ maxLen ∧ ks.length ≤ maxLen ∧ KidsAt w P A ks ds:=by
 cases h with
 | mk tag body kids A c cs ht hb hl h3 hA hk=>exact ⟨A, c, cs, rfl, ht, hb, hl, h3, hA, hk⟩
theorem Lies.shut {w : World} {P : Nat → Prop} {t : Nat} {b : ByteArray} {ks : List El} {A : Option Addr} {c : Nat} {ds : Nat → List Value} (ht : t ≤ 255) (hb : b.size ≤ maxLen) (hl : ks.length ≤ maxLen) (h : KidsAt w P A ks ds) :
  Lies w P (.mk t b ks) [.int .u8 t, .string b, .slice A ks.length c]:=.mk t b ks A c ds ht hb hl h.1 h.2.1 h.2.2
theorem Lies.leaf {w : World} {P : Nat → Prop} {t : Nat} {b : ByteArray} (ht : t ≤ 255) (hb : b.size ≤ maxLen) : Lies w P (.mk t b []) [.int .u8 t, .string b, .slice none 0 0] :=
 Lies.shut (ks:=[]) (A:=none) (c:=0) (ds:=fun _=>[]) ht hb (by simp) ⟨fun i h=>absurd h (by simp), fun h=>absurd h (by simp), fun i h=>absurd h (by simp)⟩
theorem add_one_two (a : Addr) (n i : Nat) (hi : 0 < i) : a.add (n + i) = ⟨(a.add n).block, (a.add n).off + i, none⟩:=by
 rw [← add_of_add]
 show Addr.add _ i = _
 unfold Addr.add
 rw [if_neg (by omega)]
theorem KidsAt.kid {w wr : World} {ks : List El} {A : Option Addr} {ds : Nat → List Value} (hK : KidsAt w (· < w.heap.size) A ks ds) (hb : Below w.heap.size w wr)
  {i : Nat} (h : i < ks.length) : ∃ ad x y z, A = some ad ∧ ad.block < w.heap.size ∧ wr.cell? (ad.add (i * 3)) = some x ∧ wr.cell? ⟨(ad.add (i * 3)).block, (ad.add (i * 3)).off + 1, none⟩ = some y ∧
   wr.cell? ⟨(ad.add (i * 3)).block, (ad.add (i * 3)).off + 2, none⟩ = some z ∧ Lies wr (· < wr.heap.size) ks[i] [x, y, z]:=by
 obtain ⟨h3, hA, hk⟩:=hK
 obtain ⟨ad, e, hp, hc⟩:=hA (by omega)
 have hl:=h3 i h
 have hx:=hk i h
 match hd : ds i, hl, hx with
 | [x, y, z], _, hx =>
  have h0:=(hb.cell (by rw [block_of_add]; exact hp)).trans (hc i h 0 x (by rw [hd]; rfl))
  have h1:=(hb.cell (by rw [block_of_add]; exact hp)).trans (hc i h 1 y (by rw [hd]; rfl))
  have h2:=(hb.cell (by rw [block_of_add]; exact hp)).trans (hc i h 2 z (by rw [hd]; rfl))
  rw [add_one_two _ _ _ (by omega)] at h1 h2
  exact ⟨ad, x, y, z, e, hp, h0, h1, h2, hx.past hb⟩
theorem Lies.form {w : World} {P : Nat → Prop} {e : El} {cs : List Value} (h : Lies w P e cs) : ∃ (t : Nat) (b : ByteArray) (A : Option Addr) (n c : Nat), cs = [.int .u8 t, .string b, .slice A n c]:=by
 cases h with
 | mk tag body kids A c cs ht hb hl h3 hA hk=>exact ⟨_, _, _, _, _, rfl⟩
theorem KidsAt.kid5 {w wr : World} {ks : List El} {A : Option Addr} {ds : Nat → List Value} (hK : KidsAt w (· < w.heap.size) A ks ds) (hb : Below w.heap.size w wr)
  {i : Nat} (h : i < ks.length) : ∃ (ad : Addr) (t : Nat) (b : ByteArray) (A' : Option Addr) (n c : Nat), A = some ad ∧ ad.block < w.heap.size ∧ wr.cell? (ad.add (i * 3)) = some (.int .u8 t) ∧
   wr.cell? ⟨(ad.add (i * 3)).block, (ad.add (i * 3)).off + 1, none⟩ = some (.string b) ∧
   wr.cell? ⟨(ad.add (i * 3)).block, (ad.add (i * 3)).off + 2, none⟩ = some (.slice A' n c) ∧ Lies wr (· < wr.heap.size) ks[i] [.int .u8 t, .string b, .slice A' n c]:=by
 obtain ⟨ad, x, y, z, e, hp, f0, f1, f2, hL⟩:=hK.kid hb h
 obtain ⟨t, b, A', n, c, hcs⟩:=hL.form
 simp only [List.cons.injEq, and_true] at hcs
 obtain ⟨rfl, rfl, rfl⟩:=hcs
 exact ⟨ad, t, b, A', n, c, e, hp, f0, f1, f2, hL⟩
theorem Lies.alloc {w : World} {e : El} {cs : List Value} (h : Lies w (· < w.heap.size) e cs) (o : Obj) : Lies (w.alloc o) (· < (w.alloc o).heap.size) e cs:=h.past ((Below.refl _ _).alloc (Nat.le_refl _) o)
def Blk (w : World) (g : Nat) (t : TypeId) (cs : Array Value) : Prop:=w.heap[g]? = some (.cells cs t (0, 0))
section
variable {w w' : World} {g : Nat} {t : TypeId} {cs : Array Value}
theorem Blk.lt (h : Blk w g t cs) : g < w.heap.size:=by
 rcases Nat.lt_or_ge g w.heap.size with hlt | hge
 ·exact hlt
 ·unfold Blk at h; rw [Array.getElem?_eq_none hge] at h; cases h
theorem Blk.cell (h : Blk w g t cs) (i : Nat) : w.cell? ⟨g, i, none⟩ = cs[i]?:=cell_of_row w g i cs t (0, 0) h
theorem Blk.frozen (h : Blk w g t cs) (i : Nat) : w.frozen? ⟨g, i, none⟩ = false:=by
 unfold Blk at h
 simp [World.frozen?, h]
theorem Blk.new (w : World) (t : TypeId) (cs : Array Value) : Blk (w.alloc (.cells cs t)) w.heap.size t cs:=heap_alloc_new w _
theorem Blk.past (h : Blk w g t cs) (hb : Below w.heap.size w w') : Blk w' g t cs:=(hb.block g h.lt).trans h
theorem Blk.drew (h : Blk w g t cs) : Blk w.drew g t cs:=h
theorem Blk.alloc (h : Blk w g t cs) (o : Obj) : Blk (w.alloc o) g t cs:=(Below.heap_alloc w o g h.lt).trans h
theorem Blk.set_ (h : Blk w g t cs) (i : Nat) (u : Value) : Blk (w.setCell ⟨g, i, none⟩ u) g t (cs.setIfInBounds i u):=by
 unfold Blk at h ⊢
 simp [World.setCell, Array.getElem?_modify, h]
theorem Blk.far (h : Blk w g t cs) {p : Addr} (hp : g ≠ p.block) (u : Value) : Blk (w.setCell p u) g t cs:=(Below.heap_setCell w p u g hp).trans h
theorem Blk.grown {row : Option Nat} (h : Blk w g t cs) (hb : w.grownBy w' row) (hg : some g ≠ row) : Blk w' g t cs:=(hb.block g h.lt hg).trans h
theorem Blk.set3 {x y z x' y' z' : Value} (h : Blk w g t #[x, y, z]) : Blk (((w.setCell ⟨g, 0, none⟩ x').setCell ⟨g, 1, none⟩ y').setCell ⟨g, 2, none⟩ z') g t #[x', y', z']:=((h.set_ 0 x').set_ 1 y').set_ 2 z'
end
end Go.Proofs.YtconghaebebncaaGreatDoor.Be
namespace Go.Proofs.YtconghaebebncaaGreatDoor.Be
mutual
def formed : El → Bool
 | .mk t b ks=>if t % 32 = 31 then false else if t / 32 % 2 = 0 then decide (ks.length = 0) else if b.size ≠ 0 then false else formeds ks
def formeds : List El → Bool
 | []=>true
 | k :: ks=>formed k && formeds ks
end
mutual
def dep : El → Nat
 | .mk _ _ ks=>deps ks + 1
def deps : List El → Nat
 | []=>0
 | k :: ks=>max (dep k) (deps ks)
end
def more (n : Nat) : Nat:=if n < 128 then 0 else if n < 256 then 1 else 2
mutual
def tsz : El → Nat
 | .mk _ b ks=>tszs b.size ks
def tszs : Nat → List El → Nat
 | n, []=>n
 | n, k :: ks=>if 4000 < n then n else tszs (n + (2 + more (tsz k) + tsz k)) ks
end
def encHead (t n : Nat) : List UInt8 :=
 if n < 128 then [t.toUInt8, n.toUInt8] else if n < 256 then [t.toUInt8, 129, n.toUInt8] else [t.toUInt8, 130, (n / 256).toUInt8, n.toUInt8]
mutual
def enc : El → List UInt8
 | .mk t b ks=>encHead t (b.size + (encs ks).length) ++ (b.data.toList ++ encs ks)
def encs : List El → List UInt8
 | []=>[]
 | k :: ks=>enc k ++ encs ks
end
def bodyLen : El → Nat
 | .mk _ b ks=>b.size + (encs ks).length
def wr (e : El) : List UInt8 × Nat:=if formed e = false then ([], 14) else if 20 < dep e then ([], 12) else if 4000 < bodyLen e then ([], 13) else (enc e, 0)
def fitS (K L : Nat) : Nat → El → Bool
 | 0, _=>false
 | d + 1, .mk t b ks=>decide (ks.length ≤ K) && (decide (b.size ≤ L) && ks.all (fitS K L d))
theorem formeds_drop {l : List El} {i : Nat} (h : i < l.length) : formeds (l.drop i) = (formed l[i] && formeds (l.drop (i + 1))):=by
 rw [List.drop_eq_getElem_cons h, formeds]
theorem tszs_drop {n : Nat} {l : List El} {i : Nat} (h : i < l.length) : tszs n (l.drop i) = if 4000 < n then n else tszs (n + (2 + more (tsz l[i]) + tsz l[i])) (l.drop (i + 1)):=by
 rw [List.drop_eq_getElem_cons h, tszs]
theorem encs_take {l : List El} {i : Nat} (h : i < l.length) : encs (l.take (i + 1)) = encs (l.take i) ++ enc l[i]:=by
 have key : ∀ (a b : List El), encs (a ++ b) = encs a ++ encs b:=by
  intro a b
  induction a with
  | nil=>simp [encs]
  | cons x a ih=>simp [encs, ih]
 rw [List.take_succ_eq_append_getElem h, key]
 simp [encs]
theorem encs_app : ∀ (a b : List El), encs (a ++ b) = encs a ++ encs b
 | [], b=>by simp [encs]
 | x :: a, b=>by simp [encs, encs_app a b]
theorem encs_take_le (l : List El) (i : Nat) : (encs (l.take i)).length ≤ (encs l).length:=by
 have h:=congrArg (fun x=>(encs x).length) (List.take_append_drop i l)
 simp only [encs_app, List.length_append] at h
 omega
theorem encHead_len (t n : Nat) : (encHead t n).length = 2 + more n:=by
 unfold encHead more
 split
 ·rfl
 ·split <;> rfl
theorem enc_len (e : El) : (enc e).length = 2 + more (bodyLen e) + bodyLen e:=by
 cases e with
 | mk t b ks =>
  rw [enc, List.length_append, encHead_len, bodyLen, List.length_append]
  have : b.data.toList.length = b.size:=rfl
  omega
theorem tsz_body (e : El) : (bodyLen e ≤ 4000 → tsz e = bodyLen e) ∧ (4000 < bodyLen e → 4000 < tsz e):=by
 refine El.ind (p:=fun e=>(bodyLen e ≤ 4000 → tsz e = bodyLen e) ∧ (4000 < bodyLen e → 4000 < tsz e)) ?_ e
 intro t b ks ih
 have key : ∀ (l : List El) (n : Nat), (∀ k ∈ l, (bodyLen k ≤ 4000 → tsz k = bodyLen k) ∧ (4000 < bodyLen k → 4000 < tsz k)) →
   (n + (encs l).length ≤ 4000 → tszs n l = n + (encs l).length) ∧ (4000 < n + (encs l).length → 4000 < tszs n l):=by
  intro l
  induction l with
  | nil=>intro n _; simp [tszs, encs]
  | cons k l ihl =>
   intro n hl
   have hk:=hl k (by simp)
   have hr:=fun m=>ihl m (fun x hx=>hl x (by simp [hx]))
   have he:=enc_len k
   rw [tszs, encs, List.length_append]
   by_cases h1 : 4000 < n
   ·rw [if_pos h1]; exact ⟨fun h=>by omega, fun _=>h1⟩
   ·rw [if_neg h1]
    by_cases h2 : bodyLen k ≤ 4000
    ·rw [hk.1 h2]
     have h3:=hr (n + (2 + more (bodyLen k) + bodyLen k))
     exact ⟨fun h=>by rw [h3.1 (by omega)]; omega, fun h=>h3.2 (by omega)⟩
    ·have h3:=hk.2 (by omega)
     refine ⟨fun h=>by omega, fun _=>?_⟩
     have h4:=hr (n + (2 + more (tsz k) + tsz k))
     by_cases h5 : n + (2 + more (tsz k) + tsz k) + (encs l).length ≤ 4000
     ·omega
     ·exact h4.2 (by omega)
 have:=key ks b.size ih
 simp only [bodyLen, tsz]
 exact this
theorem more_le (n : Nat) : more n ≤ 2:=by
 unfold more
 split
 ·omega
 ·split <;> omega
theorem fitS_open {K L d t : Nat} {b : ByteArray} {ks : List El} (h : fitS K L (d + 1) (.mk t b ks) = true) : ks.length ≤ K ∧ b.size ≤ L ∧ ∀ i (hi : i < ks.length), fitS K L d ks[i] = true:=by
 simp only [fitS, Bool.and_eq_true, decide_eq_true_eq, List.all_eq_true] at h
 exact ⟨h.1, h.2.1, fun i hi=>h.2.2 _ (List.getElem_mem hi)⟩
theorem fitS_zero {K L : Nat} {e : El} (h : fitS K L 0 e = true) : False:=by simp [fitS] at h
theorem fitS_more {K L K' L' : Nat} (hK : K ≤ K') (hL : L ≤ L') : ∀ {d d' : Nat} (_ : d ≤ d') {e : El}, fitS K L d e = true → fitS K' L' d' e = true
 | 0, _, _, e, h=>absurd h (by simp [fitS])
 | d + 1, 0, hd, e, h=>absurd hd (by omega)
 | d + 1, d' + 1, hd, .mk t b ks, h=>by
  simp only [fitS, Bool.and_eq_true, decide_eq_true_eq, List.all_eq_true] at h ⊢
  exact ⟨by omega, by omega, fun k hk=>fitS_more hK hL (d:=d) (by omega) (h.2.2 k hk)⟩
theorem tsz_bound {K L : Nat} : ∀ {d : Nat} {e : El}, fitS K L d e = true → tsz e ≤ L + 4004 * d
 | 0, e, h=>(fitS_zero h).elim
 | d + 1, .mk t b ks, h=>by
  obtain ⟨_, hb, hk⟩:=fitS_open h
  have key : ∀ (l : List El) (n : Nat), (∀ k ∈ l, tsz k ≤ L + 4004 * d) → n ≤ L + 4004 * (d + 1) → tszs n l ≤ L + 4004 * (d + 1):=by
   intro l
   induction l with
   | nil=>intro n _ h; simpa [tszs] using h
   | cons k l ihl =>
    intro n hl hn
    rw [tszs]
    by_cases h1 : 4000 < n
    ·rw [if_pos h1]; exact hn
    ·rw [if_neg h1]
     have:=hl k (by simp)
     have hm:=more_le (tsz k)
     exact ihl _ (fun x hx=>hl x (by simp [hx])) (by omega)
  rw [tsz]
  refine key ks b.size (fun k hkm=>?_) (by omega)
  obtain ⟨i, hi, rfl⟩:=List.getElem_of_mem hkm
  exact tsz_bound (hk i hi)
end Go.Proofs.YtconghaebebncaaGreatDoor.Be
namespace Go.Proofs.YtconghaebebncaaGreatDoor.Be
inductive Res where
 | bad (p x : Nat)
 | ok (e : El) (n : Nat)
inductive RK where
 | bad (p x : Nat)
 | ok (ks : List El)
def rdHead (inner : Bool) (l : List UInt8) : Nat × Nat × Nat :=
 let x:=if (Sp.hd l).2.2 = 0 ∧ l.length < (Sp.hd l).1 + (Sp.hd l).2.1 then 10 else (Sp.hd l).2.2
 ((Sp.hd l).1, (Sp.hd l).2.1, if x = 10 ∧ inner = true then 11 else x)
def rdKids (r : List UInt8 → Nat → Res) : Nat → List UInt8 → Nat → RK
 | 0, _, _=>.ok []
 | N + 1, l, a =>
  if l.length = 0 then .ok [] else
  match r l a with
  | .bad p x=>.bad p x
  | .ok e n =>
   match rdKids r N (l.drop n) (a + n) with
   | .bad p x=>.bad p x
   | .ok es=>.ok (e :: es)
def rd : Nat → List UInt8 → Nat → Res
 | 0, _, a=>.bad a 12
 | f + 1, l, a =>
  let q:=rdHead (decide (f + 1 < 20)) l
  if q.2.2 ≠ 0 then .bad a q.2.2 else
  if (l.headD 0).toNat / 32 % 2 = 0 then .ok (.mk (l.headD 0).toNat ⟨((l.drop q.1).take q.2.1).toArray⟩ []) (q.1 + q.2.1) else
  match rdKids (rd f) q.2.1 ((l.drop q.1).take q.2.1) (a + q.1) with
  | .bad p x=>.bad p x
  | .ok ks=>.ok (.mk (l.headD 0).toNat ⟨#[]⟩ ks) (q.1 + q.2.1)
def pre (done : List El) : RK → RK
 | .bad p x=>.bad p x
 | .ok ks=>.ok (done ++ ks)
theorem pre_nil (r : RK) : pre [] r = r:=by cases r <;> simp [pre]
theorem hd_ok {l : List UInt8} {h n : Nat} (e : Sp.hd l = (h, n, 0)) : 2 ≤ h ∧ h ≤ 6 ∧ h ≤ l.length ∧ n ≤ 4000:=by
 cases l with
 | nil=>simp [Sp.hd] at e
 | cons t r =>
  by_cases h1 : t.toNat % 32 = 31
  ·simp [Sp.hd, h1] at e
  cases r with
  | nil=>simp [Sp.hd, h1] at e
  | cons b r =>
   by_cases h2 : b.toNat < 128
   ·simp only [Sp.hd, h1, h2, if_true, if_false, Prod.mk.injEq] at e
    simp; omega
   by_cases h3 : b.toNat = 128 ∨ 132 < b.toNat
   ·simp [Sp.hd, h1, h2, h3] at e
   by_cases h4 : r.length < b.toNat - 128
   ·simp [Sp.hd, h1, h2, h3, h4] at e
   by_cases h5 : 4000 < Sp.num (r.take (b.toNat - 128))
   ·simp [Sp.hd, h1, h2, h3, h4, h5] at e
   ·simp only [Sp.hd, h1, h2, h3, h4, h5, if_false, Prod.mk.injEq] at e
    simp; omega
theorem rdHead_ok {inner : Bool} {l : List UInt8} {h n : Nat} (e : rdHead inner l = (h, n, 0)) : Sp.hd l = (h, n, 0) ∧ h + n ≤ l.length:=by
 simp only [rdHead, Prod.mk.injEq] at e
 obtain ⟨e1, e2, e3⟩:=e
 by_cases c : (Sp.hd l).2.2 = 0 ∧ l.length < (Sp.hd l).1 + (Sp.hd l).2.1
 ·rw [if_pos c] at e3
  cases inner <;> simp at e3
 ·rw [if_neg c] at e3
  have e4 : (Sp.hd l).2.2 = 0:=by
   by_cases c2 : (Sp.hd l).2.2 = 10 ∧ inner = true
   ·rw [if_pos c2] at e3; omega
   ·rw [if_neg c2] at e3; exact e3
  refine ⟨?_, by omega⟩
  rw [← e1, ← e2, ← e4]
theorem rdHead_fit {i : Bool} {l : List UInt8} {h n : Nat} (e : Sp.hd l = (h, n, 0)) (hf : h + n ≤ l.length) : rdHead i l = (h, n, 0):=by
 have h1 : ¬ l.length < h + n:=by omega
 simp [rdHead, e, h1]
theorem rdHead_past {i : Bool} {l : List UInt8} {h n : Nat} (e : Sp.hd l = (h, n, 0)) (hf : l.length < h + n) : rdHead i l = (h, n, if i = true then 11 else 10):=by
 simp [rdHead, e, hf]
theorem rdHead_short {i : Bool} {l : List UInt8} {h n : Nat} (e : Sp.hd l = (h, n, 10)) : rdHead i l = (h, n, if i = true then 11 else 10):=by
 unfold rdHead
 rw [e]
 simp
theorem rdHead_other {i : Bool} {l : List UInt8} {h n x : Nat} (e : Sp.hd l = (h, n, x)) (h0 : x ≠ 0) (h10 : x ≠ 10) : rdHead i l = (h, n, x):=by
 simp [rdHead, e, h0, h10]
theorem rd_ok : ∀ {f : Nat} {l : List UInt8} {a : Nat} {e : El} {n : Nat}, rd f l a = .ok e n → 2 ≤ n ∧ n ≤ l.length
 | 0, l, a, e, n, h=>by simp [rd] at h
 | f + 1, l, a, e, n, h=>by
  have key : ∃ hh nn, rdHead (decide (f + 1 < 20)) l = (hh, nn, 0) ∧ n = hh + nn:=by
   simp only [rd] at h
   by_cases c : (rdHead (decide (f + 1 < 20)) l).2.2 = 0
   ·refine ⟨_, _, by rw [← c], ?_⟩
    rw [if_neg (by simpa using c)] at h
    split at h
    ·injection h with _ h2; exact h2.symm
    ·split at h
     ·simp at h
     ·injection h with _ h2; exact h2.symm
   ·rw [if_pos c] at h
    simp at h
  obtain ⟨hh, nn, hq, rfl⟩:=key
  obtain ⟨h1, h2⟩:=rdHead_ok hq
  have:=hd_ok h1
  omega
theorem rdKids_bad {r : List UInt8 → Nat → Res} (hr : ∀ l a p x, r l a = .bad p x → x ≠ 0) : ∀ {N : Nat} {l : List UInt8} {a p x : Nat}, rdKids r N l a = .bad p x → x ≠ 0
 | 0, l, a, p, x, h=>by simp [rdKids] at h
 | N + 1, l, a, p, x, h=>by
  rw [rdKids] at h
  split at h
  ·simp at h
  ·split at h
   ·rename_i p' x' hx
    injection h with h1 h2
    subst h2
    exact hr _ _ _ _ hx
   ·split at h
    ·rename_i p' x' hx
     injection h with h1 h2
     subst h2
     exact rdKids_bad hr hx
    ·simp at h
theorem rd_bad : ∀ {f : Nat} {l : List UInt8} {a p x : Nat}, rd f l a = .bad p x → x ≠ 0
 | 0, l, a, p, x, h=>by
  simp only [rd, Res.bad.injEq] at h
  omega
 | f + 1, l, a, p, x, h=>by
  simp only [rd] at h
  split at h
  ·rename_i hx
   injection h with h1 h2
   subst h2
   exact hx
  ·split at h
   ·simp at h
   ·split at h
    ·rename_i p' x' hx
     injection h with h1 h2
     subst h2
     exact rdKids_bad (fun l a p x=>rd_bad) hx
    ·simp at h
theorem extract_mk (s : ByteArray) (i j : Nat) : s.extract i j = ⟨((s.data.toList.drop i).take (j - i)).toArray⟩:=by
 apply ByteArray.ext
 apply Array.toList_inj.1
 rw [Go.Lib.extract_data]
theorem take_drop_eq (l : List UInt8) (i n : Nat) : (l.take (i + n)).drop i = (l.drop i).take n:=by
 rw [List.drop_take]
 congr 1
 omega
end Go.Proofs.YtconghaebebncaaGreatDoor.Be
