import Derived.Lib.Strings
import Derived.Below
import Derived.Laws.OwnMore
import Derived.Laws.Rows
import Derived.Test.YtbdpkfgllnbheaaGreatDoorProg
import Derived.WalkKit
import Derived.WalkSpells
import Derived.WalkLawsBesides
import Derived.Deep.QuietTactic
import Derived.BigQuiet
set_option linter.unusedVariables false
set_option maxRecDepth 100000
namespace Go.Proofs.YtbdpkfgllnbheaaGreatDoor
namespace Sp
def num (l : List UInt8) : Nat:=l.foldl (fun n b=>256 * n + b.toNat) 0
def hd : List UInt8 → Nat × Nat × Nat
 | []=>(0, 0, 10)
 | t :: r =>
  if t.toNat % 32 = 31 then (0, 0, 14) else
  match r with
  | []=>(0, 0, 10)
  | b :: r =>
   if b.toNat < 128 then (2, b.toNat, 0)
   else if b.toNat = 128 ∨ 132 < b.toNat then (0, 0, 11)
   else if r.length < b.toNat - 128 then (0, 0, 10)
   else if 4000 < num (r.take (b.toNat - 128)) then (0, 0, 13)
   else (2 + (b.toNat - 128), num (r.take (b.toNat - 128)), 0)
end Sp
end Go.Proofs.YtbdpkfgllnbheaaGreatDoor
namespace Go.Proofs.YtbdpkfgllnbheaaGreatDoor.Be
open Go.RowKit
inductive El where
 | mk (tag : Nat) (body : ByteArray) (kids : List El)
theorem El.ind {p : El → Prop} (h : ∀ t b ks, (∀ k ∈ ks, p k) → p (.mk t b ks)) (e : El) : p e :=
 El.rec (motive_1:=p) (motive_2:=fun ks=>∀ k ∈ ks, p k) (fun t b ks ih=>h t b ks ih) (fun k hk=>by cases hk)
  (fun k ks hk hks x hx=>by
   rcases List.mem_cons.1 hx with rfl | hx
   ·exact hk
   ·exact hks x hx) e
theorem block_of_add (a : Addr) (n : Nat) : (a.add n).block = a.block:=by unfold Addr.add; split <;> rfl
theorem add_of_add (a : Addr) (i j : Nat) : (a.add i).add j = a.add (i + j):=by
 unfold Addr.add
 by_cases hi : i = 0 <;> by_cases hj : j = 0 <;> simp [hi, hj, Nat.add_assoc]
theorem bat {B : Nat} {w w' : World} (hb : Below B w w') {b o : Nat} {v : Value} (h : b < B) (f : w.cell? ⟨b, o, none⟩ = some v) : w'.cell? ⟨b, o, none⟩ = some v:=(hb.cell (p:=⟨b, o, none⟩) h).trans f
theorem batA {B : Nat} {w w' : World} (hb : Below B w w') {p : Addr} {v : Value} (h : p.block < B) (f : w.cell? p = some v) : w'.cell? p = some v:=(hb.cell h).trans f
inductive Lies (w : World) (P : Nat → Prop) : El → List Value → Prop
 | mk (tag : Nat) (body : ByteArray) (kids : List El) (A : Option Addr) (c : Nat) (cs : Nat → List Value)
   (ht : tag ≤ 255) (hb : body.size ≤ maxLen) (hl : kids.length ≤ maxLen) (h3 : ∀ i, i < kids.length → (cs i).length = 3)
   (hA : 0 < kids.length → ∃ ad, A = some ad ∧ P ad.block ∧ ∀ i, i < kids.length → ∀ j u, (cs i)[j]? = some u → w.cell? (ad.add (i * 3 + j)) = some u)
   (hk : ∀ i (h : i < kids.length), Lies w P kids[i] (cs i)) :
   Lies w P (.mk tag body kids) [.int .u8 tag, .string body, .slice A kids.length c]
theorem Lies.imp {w w' : World} {P P' : Nat → Prop} {e : El} {cs : List Value} (h : Lies w P e cs) (hP : ∀ b, P b → P' b) (hw : ∀ p : Addr, P p.block → w'.cell? p = w.cell? p) : Lies w' P' e cs:=by
 induction h with
 | mk tag body kids A c cs ht hb hl h3 hA hk ih =>
  refine .mk tag body kids A c cs ht hb hl h3 (fun h0=>?_) ih
  obtain ⟨ad, e, hp, hc⟩:=hA h0
  exact ⟨ad, e, hP _ hp, fun i hi j u hu=>(hw _ (by rw [block_of_add]; exact hp)).trans (hc i hi j u hu)⟩
theorem Lies.kept {w w' : World} {B : Nat} {e : El} {cs : List Value} (h : Lies w (· < B) e cs) (hb : Below B w w') : Lies w' (· < B) e cs :=
 h.imp (fun _ h=>h) (fun p hp=>hb.cell hp)
theorem Lies.more {w : World} {B B' : Nat} {e : El} {cs : List Value} (h : Lies w (· < B) e cs) (hb : B ≤ B') : Lies w (· < B') e cs :=
 h.imp (fun _ h=>Nat.lt_of_lt_of_le h hb) (fun p hp=>rfl)
theorem Lies.drew {w : World} {P : Nat → Prop} {e : El} {cs : List Value} (h : Lies w P e cs) : Lies w.drew P e cs:=h.imp (fun _ h=>h) (fun _ _=>rfl)
theorem Lies.past {w w' : World} {e : El} {cs : List Value} (h : Lies w (· < w.heap.size) e cs) (hb : Below w.heap.size w w') : Lies w' (· < w'.heap.size) e cs :=
 (h.kept hb).more hb.size
def KidsAt (w : World) (P : Nat → Prop) (A : Option Addr) (ks : List El) (ds : Nat → List Value) : Prop :=
 (∀ i, i < ks.length → (ds i).length = 3) ∧
 (0 < ks.length → ∃ ad, A = some ad ∧ P ad.block ∧ ∀ i, i < ks.length → ∀ j u, (ds i)[j]? = some u → w.cell? (ad.add (i * 3 + j)) = some u) ∧
 ∀ i (h : i < ks.length), Lies w P ks[i] (ds i)
theorem KidsAt.imp {w w' : World} {P P' : Nat → Prop} {A : Option Addr} {ks : List El} {ds : Nat → List Value} (h : KidsAt w P A ks ds) (hP : ∀ b, P b → P' b) (hw : ∀ p : Addr, P p.block → w'.cell? p = w.cell? p) :
  KidsAt w' P' A ks ds:=by
 refine ⟨h.1, fun h0=>?_, fun i hi=>(h.2.2 i hi).imp hP hw⟩
 obtain ⟨ad, e, hp, hc⟩:=h.2.1 h0
 exact ⟨ad, e, hP _ hp, fun i hi j u hu=>(hw _ (by rw [block_of_add]; exact hp)).trans (hc i hi j u hu)⟩
theorem KidsAt.past {w w' : World} {A : Option Addr} {ks : List El} {ds : Nat → List Value} (h : KidsAt w (· < w.heap.size) A ks ds) (hb : Below w.heap.size w w') : KidsAt w' (· < w'.heap.size) A ks ds :=
 h.imp (fun _ h=>Nat.lt_of_lt_of_le h hb.size) (fun p hp=>hb.cell hp)
theorem Lies.open_ {w : World} {P : Nat → Prop} {t : Nat} {b : ByteArray} {ks : List El} {cs : List Value} (h : Lies w P (.mk t b ks) cs) :
  ∃ (A : Option Addr) (c : Nat) (ds : Nat → List Value), cs = [.int .u8 t, .string b, .slice A ks.length c] ∧ t ≤ 255 ∧ b.size ≤ maxLen ∧ ks.length ≤ maxLen ∧ KidsAt w P A ks ds:=by
 cases h with
 | mk tag body kids A c cs ht hb hl h3 hA hk=>exact ⟨A, c, cs, rfl, ht, hb, hl, h3, hA, hk⟩
theorem Lies.shut {w : World} {P : Nat → Prop} {t : Nat} {b : ByteArray} {ks : List El} {A : Option Addr} {c : Nat} {ds : Nat → List Value} (ht : t ≤ 255) (hb : b.size ≤ maxLen) (hl : ks.length ≤ maxLen) (h : KidsAt w P A ks ds) :
  Lies w P (.mk t b ks) [.int .u8 t, .string b, .slice A ks.length c]:=.mk t b ks A c ds ht hb hl h.1 h.2.1 h.2.2
theorem Lies.leaf {w : World} {P : Nat → Prop} {t : Nat} {b : ByteArray} (ht : t ≤ 255) (hb : b.size ≤ maxLen) : Lies w P (.mk t b []) [.int .u8 t, .string b, .slice none 0 0] :=
 Lies.shut (ks:=[]) (A:=none) (c:=0) (ds:=fun _=>[]) ht hb (by simp) ⟨fun i h=>absurd h (by simp), fun h=>absurd h (by simp), fun i h=>absurd h (by simp)⟩
theorem add_one_two (a : Addr) (n i : Nat) (hi : 0 < i) : a.add (n + i) = ⟨(a.add n).block, (a.add n).off + i, none⟩:=by
 rw [← add_of_add]
 show Addr.add _ i = _
 unfold Addr.add
 rw [if_neg (by omega)]
theorem KidsAt.kid {w wr : World} {ks : List El} {A : Option Addr} {ds : Nat → List Value} (hK : KidsAt w (· < w.heap.size) A ks ds) (hb : Below w.heap.size w wr)
  {i : Nat} (h : i < ks.length) : ∃ ad x y z, A = some ad ∧ ad.block < w.heap.size ∧ wr.cell? (ad.add (i * 3)) = some x ∧ wr.cell? ⟨(ad.add (i * 3)).block, (ad.add (i * 3)).off + 1, none⟩ = some y ∧
   wr.cell? ⟨(ad.add (i * 3)).block, (ad.add (i * 3)).off + 2, none⟩ = some z ∧ Lies wr (· < wr.heap.size) ks[i] [x, y, z]:=by
 obtain ⟨h3, hA, hk⟩:=hK
 obtain ⟨ad, e, hp, hc⟩:=hA (by omega)
 have hl:=h3 i h
 have hx:=hk i h
 match hd : ds i, hl, hx with
 | [x, y, z], _, hx =>
  have h0:=(hb.cell (by rw [block_of_add]; exact hp)).trans (hc i h 0 x (by rw [hd]; rfl))
  have h1:=(hb.cell (by rw [block_of_add]; exact hp)).trans (hc i h 1 y (by rw [hd]; rfl))
  have h2:=(hb.cell (by rw [block_of_add]; exact hp)).trans (hc i h 2 z (by rw [hd]; rfl))
  rw [add_one_two _ _ _ (by omega)] at h1 h2
  exact ⟨ad, x, y, z, e, hp, h0, h1, h2, hx.past hb⟩
theorem Lies.form {w : World} {P : Nat → Prop} {e : El} {cs : List Value} (h : Lies w P e cs) : ∃ (t : Nat) (b : ByteArray) (A : Option Addr) (n c : Nat), cs = [.int .u8 t, .string b, .slice A n c]:=by
 cases h with
 | mk tag body kids A c cs ht hb hl h3 hA hk=>exact ⟨_, _, _, _, _, rfl⟩
theorem KidsAt.kid5 {w wr : World} {ks : List El} {A : Option Addr} {ds : Nat → List Value} (hK : KidsAt w (· < w.heap.size) A ks ds) (hb : Below w.heap.size w wr)
  {i : Nat} (h : i < ks.length) : ∃ (ad : Addr) (t : Nat) (b : ByteArray) (A' : Option Addr) (n c : Nat), A = some ad ∧ ad.block < w.heap.size ∧ wr.cell? (ad.add (i * 3)) = some (.int .u8 t) ∧
   wr.cell? ⟨(ad.add (i * 3)).block, (ad.add (i * 3)).off + 1, none⟩ = some (.string b) ∧
   wr.cell? ⟨(ad.add (i * 3)).block, (ad.add (i * 3)).off + 2, none⟩ = some (.slice A' n c) ∧ Lies wr (· < wr.heap.size) ks[i] [.int .u8 t, .string b, .slice A' n c]:=by
 obtain ⟨ad, x, y, z, e, hp, f0, f1, f2, hL⟩:=hK.kid hb h
 obtain ⟨t, b, A', n, c, hcs⟩:=hL.form
 simp only [List.cons.injEq, and_true] at hcs
 obtain ⟨rfl, rfl, rfl⟩:=hcs
 exact ⟨ad, t, b, A', n, c, e, hp, f0, f1, f2, hL⟩
theorem Lies.alloc {w : World} {e : El} {cs : List Value} (h : Lies w (· < w.heap.size) e cs) (o : Obj) : Lies (w.alloc o) (· < (w.alloc o).heap.size) e cs:=h.past ((Below.refl _ _).alloc (Nat.le_refl _) o)
def Blk (w : World) (g : Nat) (t : TypeId) (cs : Array Value) : Prop:=w.heap[g]? = some (.cells cs t (0, 0))
section
variable {w w' : World} {g : Nat} {t : TypeId} {cs : Array Value}
theorem Blk.lt (h : Blk w g t cs) : g < w.heap.size:=by
 rcases Nat.lt_or_ge g w.heap.size with hlt | hge
 ·exact hlt
 ·unfold Blk at h; rw [Array.getElem?_eq_none hge] at h; cases h
theorem Blk.cell (h : Blk w g t cs) (i : Nat) : w.cell? ⟨g, i, none⟩ = cs[i]?:=cell_of_row w g i cs t (0, 0) h
theorem Blk.frozen (h : Blk w g t cs) (i : Nat) : w.frozen? ⟨g, i, none⟩ = false:=by
 unfold Blk at h
 simp [World.frozen?, h]
theorem Blk.new (w : World) (t : TypeId) (cs : Array Value) : Blk (w.alloc (.cells cs t)) w.heap.size t cs:=heap_alloc_new w _
theorem Blk.past (h : Blk w g t cs) (hb : Below w.heap.size w w') : Blk w' g t cs:=(hb.block g h.lt).trans h
theorem Blk.drew (h : Blk w g t cs) : Blk w.drew g t cs:=h
theorem Blk.alloc (h : Blk w g t cs) (o : Obj) : Blk (w.alloc o) g t cs:=(Below.heap_alloc w o g h.lt).trans h
theorem Blk.set_ (h : Blk w g t cs) (i : Nat) (u : Value) : Blk (w.setCell ⟨g, i, none⟩ u) g t (cs.setIfInBounds i u):=by
 unfold Blk at h ⊢
 simp [World.setCell, Array.getElem?_modify, h]
theorem Blk.far (h : Blk w g t cs) {p : Addr} (hp : g ≠ p.block) (u : Value) : Blk (w.setCell p u) g t cs:=(Below.heap_setCell w p u g hp).trans h
theorem Blk.grown {row : Option Nat} (h : Blk w g t cs) (hb : w.grownBy w' row) (hg : some g ≠ row) : Blk w' g t cs:=(hb.block g h.lt hg).trans h
theorem Blk.set3 {x y z x' y' z' : Value} (h : Blk w g t #[x, y, z]) : Blk (((w.setCell ⟨g, 0, none⟩ x').setCell ⟨g, 1, none⟩ y').setCell ⟨g, 2, none⟩ z') g t #[x', y', z']:=((h.set_ 0 x').set_ 1 y').set_ 2 z'
end
end Go.Proofs.YtbdpkfgllnbheaaGreatDoor.Be
namespace Go.Proofs.YtbdpkfgllnbheaaGreatDoor.Be
open Go.RowKit
theorem ret_int {k : IntKind} {a b : Int} (h : a = b) : Ending.returned (.int k a) = .returned (.int k b):=by rw [h]
theorem ret_bool {a b : Bool} (h : a = b) : Ending.returned (.bool a) = .returned (.bool b):=by rw [h]
theorem get_of (s : ByteArray) (l : List UInt8) (h : s.data.toList = l) (i : Nat) (hi : i < s.size) (x : UInt8) (hx : l[i]? = some x) : s[i] = x:=by
 subst h
 have:=(List.getElem?_eq_some_iff.1 hx).2
 rw [← this]; rfl
theorem u32_join (i : Nat) (a b : Int) (h1 : 0 ≤ a) (h2 : a < 4294967296) (h3 : 0 ≤ b) (h4 : b < 4294967296) (h5 : a.toNat % 2 ^ i = 0) (h6 : b.toNat < 2 ^ i) : bits .or .u32 a b = a + b:=by
 rw [u32_or a b h1 h2 h3 h4, nat_join i _ _ h5 h6]; omega
theorem u8_lt (b : UInt8) : b.toNat < 256:=b.toNat_lt
set_option maxHeartbeats 400000 in
theorem isTag_any (t : Int) (w : World) (h0 : 0 ≤ t) (h1 : t ≤ 255) :
  Calls Tryz.prog 111 #[.int .u8 t] w fun e w'=>e = .returned (.bool (t % 32 != 31)) ∧ w = w':=by
 go_enter Tryz.func111, Tryz.ntmps111
 go_wp2
 go_ret
 exact ⟨rfl, rfl⟩
set_option maxHeartbeats 400000 in
theorem rl4_any (s : ByteArray) (w : World) (h : s.size = 4) :
  Calls Tryz.prog 133 #[.string s] w fun e w'=>e = .returned (.int .u32 (Sp.num s.data.toList)) ∧ w = w':=by
 have hl : s.data.toList.length = 4:=h
 obtain ⟨a, b, c, d, hl⟩ : ∃ a b c d, s.data.toList = [a, b, c, d]:=by
  match s.data.toList, hl with
  | [a, b, c, d], _=>exact ⟨a, b, c, d, rfl⟩
 have key:=get_of s _ hl
 have e0:=key 0 (by omega) a rfl
 have e1:=key (s.size - 1 - 2) (by omega) b (by rw [h]; rfl)
 have e2:=key (s.size - 1 - 1) (by omega) c (by rw [h]; rfl)
 have e3:=key (s.size - 1) (by omega) d (by rw [h]; rfl)
 have ha:=u8_lt a
 have hb:=u8_lt b
 have hc:=u8_lt c
 have hd:=u8_lt d
 have H : Hid (bits .or .u32 (bits .or .u32 (bits .or .u32 (bits .or .u32 0 ((a.toNat:Int) % 4294967296 * 16777216 % 4294967296)) ((b.toNat:Int) % 4294967296 * 65536 % 4294967296)) ((c.toNat:Int) % 4294967296 * 256 % 4294967296)) ((d.toNat:Int) % 4294967296) = (Sp.num s.data.toList : Int)):=by
  show _ = _
  rw [hl]
  rw [u32_join 32 0 _ (by omega) (by omega) (by omega) (by omega) (by decide) (by omega)]
  rw [u32_join 24 (0 + _) _ (by omega) (by omega) (by omega) (by omega) (by omega) (by omega)]
  rw [u32_join 16 (0 + _ + _) _ (by omega) (by omega) (by omega) (by omega) (by omega) (by omega)]
  rw [u32_join 8 (0 + _ + _ + _) _ (by omega) (by omega) (by omega) (by omega) (by omega) (by omega)]
  simp only [Sp.num, List.foldl]
  push_cast
  omega
 have h1 : ((s.size : Int) == 4) = true:=by simp [h]
 have h2 : s.size ≤ 4:=by omega
 have h3 : 4 ≤ s.size:=by omega
 have E : Hid (∀ h0 h1 h2 h3, s[0]'h0 = a ∧ s[s.size - 1 - 2]'h1 = b ∧ s[s.size - 1 - 1]'h2 = c ∧ s[s.size - 1]'h3 = d):=fun _ _ _ _=>⟨e0, e1, e2, e3⟩
 clear h hl key e0 e1 e2 e3
 go_enter Tryz.func133, Tryz.ntmps133
 go_wp2
 go_ret
 obtain ⟨e0, e1, e2, e3⟩:=E.out (by omega) (by omega) (by omega) (by omega)
 refine ⟨?_, rfl⟩
 refine ret_int ?_
 rw [e0, e1, e2, e3]
 exact H.out
set_option maxHeartbeats 400000 in
theorem rl3_any (s : ByteArray) (w : World) (h : s.size = 3) :
  Calls Tryz.prog 133 #[.string s] w fun e w'=>e = .returned (.int .u32 (Sp.num s.data.toList)) ∧ w = w':=by
 have hl : s.data.toList.length = 3:=h
 obtain ⟨b, c, d, hl⟩ : ∃ b c d, s.data.toList = [b, c, d]:=by
  match s.data.toList, hl with
  | [b, c, d], _=>exact ⟨b, c, d, rfl⟩
 have key:=get_of s _ hl
 have e1:=key 0 (by omega) b rfl
 have e2:=key (s.size - 1 - 1) (by omega) c (by rw [h]; rfl)
 have e3:=key (s.size - 1) (by omega) d (by rw [h]; rfl)
 have hb:=u8_lt b
 have hc:=u8_lt c
 have hd:=u8_lt d
 have H : Hid (bits .or .u32 (bits .or .u32 (bits .or .u32 0 ((b.toNat:Int) % 4294967296 * 65536 % 4294967296)) ((c.toNat:Int) % 4294967296 * 256 % 4294967296)) ((d.toNat:Int) % 4294967296) = (Sp.num s.data.toList : Int)):=by
  show _ = _
  rw [hl]
  rw [u32_join 32 0 _ (by omega) (by omega) (by omega) (by omega) (by decide) (by omega)]
  rw [u32_join 16 (0 + _) _ (by omega) (by omega) (by omega) (by omega) (by omega) (by omega)]
  rw [u32_join 8 (0 + _ + _) _ (by omega) (by omega) (by omega) (by omega) (by omega) (by omega)]
  simp only [Sp.num, List.foldl]
  push_cast
  omega
 have h1 : ((s.size : Int) == 4) = false:=beq_eq_false_iff_ne.2 (by omega)
 have h1' : ((s.size : Int) == 3) = true:=by simp [h]
 have h2 : s.size ≤ 3:=by omega
 have h3 : 3 ≤ s.size:=by omega
 have E : Hid (∀ h0 h1 h2, s[0]'h0 = b ∧ s[s.size - 1 - 1]'h1 = c ∧ s[s.size - 1]'h2 = d):=fun _ _ _=>⟨e1, e2, e3⟩
 clear h hl key e1 e2 e3
 go_enter Tryz.func133, Tryz.ntmps133
 go_wp2
 go_ret
 obtain ⟨e1, e2, e3⟩:=E.out (by omega) (by omega) (by omega)
 refine ⟨?_, rfl⟩
 refine ret_int ?_
 rw [e1, e2, e3]
 exact H.out
set_option maxHeartbeats 400000 in
theorem rl2_any (s : ByteArray) (w : World) (h : s.size = 2) :
  Calls Tryz.prog 133 #[.string s] w fun e w'=>e = .returned (.int .u32 (Sp.num s.data.toList)) ∧ w = w':=by
 have hl : s.data.toList.length = 2:=h
 obtain ⟨c, d, hl⟩ : ∃ c d, s.data.toList = [c, d]:=by
  match s.data.toList, hl with
  | [c, d], _=>exact ⟨c, d, rfl⟩
 have key:=get_of s _ hl
 have e2:=key 0 (by omega) c rfl
 have e3:=key (s.size - 1) (by omega) d (by rw [h]; rfl)
 have hc:=u8_lt c
 have hd:=u8_lt d
 have H : Hid (bits .or .u32 (bits .or .u32 0 ((c.toNat:Int) % 4294967296 * 256 % 4294967296)) ((d.toNat:Int) % 4294967296) = (Sp.num s.data.toList : Int)):=by
  show _ = _
  rw [hl]
  rw [u32_join 32 0 _ (by omega) (by omega) (by omega) (by omega) (by decide) (by omega)]
  rw [u32_join 8 (0 + _) _ (by omega) (by omega) (by omega) (by omega) (by omega) (by omega)]
  simp only [Sp.num, List.foldl]
  push_cast
  omega
 have h1 : ((s.size : Int) == 4) = false:=beq_eq_false_iff_ne.2 (by omega)
 have h1' : ((s.size : Int) == 3) = false:=beq_eq_false_iff_ne.2 (by omega)
 have h1'' : ((s.size : Int) == 2) = true:=by simp [h]
 have h2 : s.size ≤ 2:=by omega
 have h3 : 2 ≤ s.size:=by omega
 have E : Hid (∀ h1 h2, s[0]'h1 = c ∧ s[s.size - 1]'h2 = d):=fun _ _=>⟨e2, e3⟩
 clear h hl key e2 e3
 go_enter Tryz.func133, Tryz.ntmps133
 go_wp2
 go_ret
 obtain ⟨e2, e3⟩:=E.out (by omega) (by omega)
 refine ⟨?_, rfl⟩
 refine ret_int ?_
 rw [e2, e3]
 exact H.out
set_option maxHeartbeats 400000 in
theorem rl1_any (s : ByteArray) (w : World) (h : s.size = 1) :
  Calls Tryz.prog 133 #[.string s] w fun e w'=>e = .returned (.int .u32 (Sp.num s.data.toList)) ∧ w = w':=by
 have hl : s.data.toList.length = 1:=h
 obtain ⟨d, hl⟩ : ∃ d, s.data.toList = [d]:=by
  match s.data.toList, hl with
  | [d], _=>exact ⟨d, rfl⟩
 have key:=get_of s _ hl
 have e3:=key 0 (by omega) d rfl
 have hd:=u8_lt d
 have H : Hid (bits .or .u32 0 ((d.toNat:Int) % 4294967296) = (Sp.num s.data.toList : Int)):=by
  show _ = _
  rw [hl]
  rw [u32_join 32 0 _ (by omega) (by omega) (by omega) (by omega) (by decide) (by omega)]
  simp only [Sp.num, List.foldl]
  push_cast
  omega
 have h1 : ((s.size : Int) == 4) = false:=beq_eq_false_iff_ne.2 (by omega)
 have h1' : ((s.size : Int) == 3) = false:=beq_eq_false_iff_ne.2 (by omega)
 have h1'' : ((s.size : Int) == 2) = false:=beq_eq_false_iff_ne.2 (by omega)
 have h1''' : ((s.size : Int) == 1) = true:=by simp [h]
 have h2 : s.size ≤ 1:=by omega
 have h3 : 1 ≤ s.size:=by omega
 have E : Hid (∀ h2, s[0]'h2 = d):=fun _=>e3
 clear h hl key e3
 go_enter Tryz.func133, Tryz.ntmps133
 go_wp2
 go_ret
 have e3:=E.out (by omega)
 refine ⟨?_, rfl⟩
 refine ret_int ?_
 rw [e3]
 exact H.out
theorem rl_any (s : ByteArray) (w : World) (h : 1 ≤ s.size) (h' : s.size ≤ 4) :
  Calls Tryz.prog 133 #[.string s] w fun e w'=>e = .returned (.int .u32 (Sp.num s.data.toList)) ∧ w = w':=by
 rcases (show s.size = 1 ∨ s.size = 2 ∨ s.size = 3 ∨ s.size = 4 by omega) with h | h | h | h
 ·exact rl1_any s w h
 ·exact rl2_any s w h
 ·exact rl3_any s w h
 ·exact rl4_any s w h
set_option maxHeartbeats 400000 in
theorem head_0 (s : ByteArray) (w : World) (h : s.size ≤ maxLen) (h0 : s.size = 0) :
  Calls Tryz.prog 102 #[.string s] w fun e w'=>e = .returned (.tuple #[.int .i64 0, .int .i64 0, .int .i64 10]) ∧ Below w.heap.size w w':=by
 have h0 : ((s.size : Int) == 0) = true:=by simp [h0]
 go_enter Tryz.func102, Tryz.ntmps102
 go_wp2_with fail
 go_ret3
 exact ⟨rfl, Below.refl _ _⟩
set_option maxHeartbeats 400000 in
theorem head_1 (s : ByteArray) (w : World) (h : s.size ≤ maxLen) (h0 : 0 < s.size) (ht : ((s[0].toNat : Int) % 32 != 31) = false) :
  Calls Tryz.prog 102 #[.string s] w fun e w'=>e = .returned (.tuple #[.int .i64 0, .int .i64 0, .int .i64 14]) ∧ Below w.heap.size w w':=by
 have h1 : ((s.size : Int) == 0) = false:=beq_eq_false_iff_ne.2 (by omega)
 have hb:=u8_lt s[0]
 go_enter Tryz.func102, Tryz.ntmps102
 go_wp2_with (go_at_call 111; refine (isTag_any _ _ (by omega) (by omega)).mono ?_; rintro e w' ⟨rfl, rfl⟩)
 go_ret3
 exact ⟨rfl, Below.refl _ _⟩
set_option maxHeartbeats 400000 in
theorem head_2 (s : ByteArray) (w : World) (h : s.size ≤ maxLen) (h0 : 0 < s.size) (ht : ((s[0].toNat : Int) % 32 != 31) = true) (hs : s.size = 1) :
  Calls Tryz.prog 102 #[.string s] w fun e w'=>e = .returned (.tuple #[.int .i64 0, .int .i64 0, .int .i64 10]) ∧ Below w.heap.size w w':=by
 have h1 : ((s.size : Int) == 0) = false:=beq_eq_false_iff_ne.2 (by omega)
 have h2 : ((s.size : Int) == 1) = true:=by simp [hs]
 have hb:=u8_lt s[0]
 clear hs
 go_enter Tryz.func102, Tryz.ntmps102
 go_wp2_with (go_at_call 111; refine (isTag_any _ _ (by omega) (by omega)).mono ?_; rintro e w' ⟨rfl, rfl⟩)
 go_ret3
 exact ⟨rfl, Below.refl _ _⟩
set_option maxHeartbeats 400000 in
theorem head_3 (s : ByteArray) (w : World) (h : s.size ≤ maxLen) (h0 : 1 < s.size) (h00 : 0 < s.size) (ht : ((s[0].toNat : Int) % 32 != 31) = true) (hb : (s[1].toNat : Int) < 128) :
  Calls Tryz.prog 102 #[.string s] w fun e w'=>e = .returned (.tuple #[.int .i64 2, .int .i64 s[1].toNat, .int .i64 0]) ∧ Below w.heap.size w w':=by
 have h1 : ((s.size : Int) == 0) = false:=beq_eq_false_iff_ne.2 (by omega)
 have h2 : ((s.size : Int) == 1) = false:=beq_eq_false_iff_ne.2 (by omega)
 have hb0:=u8_lt s[0]
 go_enter Tryz.func102, Tryz.ntmps102
 go_wp2_with (go_at_call 111; refine (isTag_any _ _ (by omega) (by omega)).mono ?_; rintro e w' ⟨rfl, rfl⟩)
 go_region
 go_wp2_with fail
 go_ret3
 exact ⟨rfl, (Below.refl _ _).drew⟩
set_option maxHeartbeats 400000 in
theorem head_4 (s : ByteArray) (w : World) (h : s.size ≤ maxLen) (h0 : 1 < s.size) (h00 : 0 < s.size) (ht : ((s[0].toNat : Int) % 32 != 31) = true) (hb : s[1].toNat = 128) :
  Calls Tryz.prog 102 #[.string s] w fun e w'=>e = .returned (.tuple #[.int .i64 0, .int .i64 0, .int .i64 11]) ∧ Below w.heap.size w w':=by
 have h1 : ((s.size : Int) == 0) = false:=beq_eq_false_iff_ne.2 (by omega)
 have h2 : ((s.size : Int) == 1) = false:=beq_eq_false_iff_ne.2 (by omega)
 have hb0:=u8_lt s[0]
 have hb1 : ((s[1].toNat : Int) == 128) = true:=by simp [hb]
 have hb2 : (128 : Int) ≤ (s[1].toNat : Int):=by omega
 clear hb
 go_enter Tryz.func102, Tryz.ntmps102
 go_wp2_with (go_at_call 111; refine (isTag_any _ _ (by omega) (by omega)).mono ?_; rintro e w' ⟨rfl, rfl⟩)
 go_ret3
 exact ⟨rfl, (Below.refl _ _)⟩
set_option maxHeartbeats 400000 in
theorem head_5 (s : ByteArray) (w : World) (h : s.size ≤ maxLen) (h0 : 1 < s.size) (h00 : 0 < s.size) (ht : ((s[0].toNat : Int) % 32 != 31) = true) (hb : (132 : Int) < s[1].toNat) :
  Calls Tryz.prog 102 #[.string s] w fun e w'=>e = .returned (.tuple #[.int .i64 0, .int .i64 0, .int .i64 11]) ∧ Below w.heap.size w w':=by
 have h1 : ((s.size : Int) == 0) = false:=beq_eq_false_iff_ne.2 (by omega)
 have h2 : ((s.size : Int) == 1) = false:=beq_eq_false_iff_ne.2 (by omega)
 have hb0:=u8_lt s[0]
 have hb1 : ((s[1].toNat : Int) == 128) = false:=beq_eq_false_iff_ne.2 (by omega)
 have hb2 : (128 : Int) ≤ (s[1].toNat : Int):=by omega
 go_enter Tryz.func102, Tryz.ntmps102
 go_wp2_with (go_at_call 111; refine (isTag_any _ _ (by omega) (by omega)).mono ?_; rintro e w' ⟨rfl, rfl⟩)
 go_ret3
 exact ⟨rfl, (Below.refl _ _)⟩
set_option maxHeartbeats 400000 in
theorem head_6 (s : ByteArray) (w : World) (h : s.size ≤ maxLen) (h0 : 1 < s.size) (h00 : 0 < s.size) (ht : ((s[0].toNat : Int) % 32 != 31) = true) (hb : (128 : Int) < s[1].toNat) (hb' : (s[1].toNat : Int) ≤ 132)
  (hs : (s.size : Int) < 2 + (s[1].toNat - 128)) :
  Calls Tryz.prog 102 #[.string s] w fun e w'=>e = .returned (.tuple #[.int .i64 0, .int .i64 0, .int .i64 10]) ∧ Below w.heap.size w w':=by
 have h1 : ((s.size : Int) == 0) = false:=beq_eq_false_iff_ne.2 (by omega)
 have h2 : ((s.size : Int) == 1) = false:=beq_eq_false_iff_ne.2 (by omega)
 have hb0:=u8_lt s[0]
 have hb1 : ((s[1].toNat : Int) == 128) = false:=beq_eq_false_iff_ne.2 (by omega)
 go_enter Tryz.func102, Tryz.ntmps102
 go_wp2_with (go_at_call 111; refine (isTag_any _ _ (by omega) (by omega)).mono ?_; rintro e w' ⟨rfl, rfl⟩)
 go_ret3
 exact ⟨rfl, (Below.refl _ _)⟩
theorem num_lt_from (l : List UInt8) : ∀ n : Nat, l.foldl (fun n b=>256 * n + b.toNat) n < (n + 1) * 256 ^ l.length:=by
 induction l with
 | nil=>intro n; simp
 | cons b l ih =>
  intro n
  refine Nat.lt_of_lt_of_le (ih _) ?_
  have hb:=u8_lt b
  rw [List.length_cons, Nat.pow_succ, Nat.mul_comm (256 ^ l.length) 256, ← Nat.mul_assoc]
  refine Nat.mul_le_mul_right _ (?_ : 256 * n + b.toNat + 1 ≤ (n + 1) * 256)
  omega
theorem num_lt (l : List UInt8) : Sp.num l < 256 ^ l.length:=by
 have:=num_lt_from l 0
 simpa [Sp.num] using this
theorem num_lt4 (l : List UInt8) (h : l.length ≤ 4) : Sp.num l ≤ 4294967295:=by
 have h1:=num_lt l
 have h2 : (256 : Nat) ^ l.length ≤ 256 ^ 4:=Nat.pow_le_pow_right (by omega) h
 have h3 : (256 : Nat) ^ 4 = 4294967296:=by decide
 omega
set_option maxHeartbeats 400000 in
theorem head_7 (s : ByteArray) (w : World) (h : s.size ≤ maxLen) (h0 : 1 < s.size) (h00 : 0 < s.size) (ht : ((s[0].toNat : Int) % 32 != 31) = true) (hb : (128 : Int) < s[1].toNat) (hb' : (s[1].toNat : Int) ≤ 132)
  (hs : 2 + ((s[1].toNat : Int) - 128) ≤ s.size) (m : Nat) (hm : (m : Int) ≤ 4000)
  (C : ∀ w, Calls Tryz.prog 133 #[.string (s.extract 2 (2 + (s[1].toNat - 128)))] w fun e w'=>e = .returned (.int .u32 m) ∧ w = w') :
  Calls Tryz.prog 102 #[.string s] w fun e w'=>e = .returned (.tuple #[.int .i64 (2 + ((s[1].toNat : Int) - 128)), .int .i64 m, .int .i64 0]) ∧ Below w.heap.size w w':=by
 have h1 : ((s.size : Int) == 0) = false:=beq_eq_false_iff_ne.2 (by omega)
 have h2 : ((s.size : Int) == 1) = false:=beq_eq_false_iff_ne.2 (by omega)
 have hb0:=u8_lt s[0]
 have hb1 : ((s[1].toNat : Int) == 128) = false:=beq_eq_false_iff_ne.2 (by omega)
 go_enter Tryz.func102, Tryz.ntmps102
 go_wp2_with (go_at_call 111; refine (isTag_any _ _ (by omega) (by omega)).mono ?_; rintro e w' ⟨rfl, rfl⟩)
 go_wp2_with (go_at_call 133; refine (C _).mono ?_; rintro e w' ⟨rfl, rfl⟩)
 go_ret3
 exact ⟨rfl, (Below.refl _ _)⟩
set_option maxHeartbeats 400000 in
theorem head_8 (s : ByteArray) (w : World) (h : s.size ≤ maxLen) (h0 : 1 < s.size) (h00 : 0 < s.size) (ht : ((s[0].toNat : Int) % 32 != 31) = true) (hb : (128 : Int) < s[1].toNat) (hb' : (s[1].toNat : Int) ≤ 132)
  (hs : 2 + ((s[1].toNat : Int) - 128) ≤ s.size) (m : Nat) (hm : (4000 : Int) < m) (hm' : (m : Int) ≤ 4294967295)
  (C : ∀ w, Calls Tryz.prog 133 #[.string (s.extract 2 (2 + (s[1].toNat - 128)))] w fun e w'=>e = .returned (.int .u32 m) ∧ w = w') :
  Calls Tryz.prog 102 #[.string s] w fun e w'=>e = .returned (.tuple #[.int .i64 0, .int .i64 0, .int .i64 13]) ∧ Below w.heap.size w w':=by
 have h1 : ((s.size : Int) == 0) = false:=beq_eq_false_iff_ne.2 (by omega)
 have h2 : ((s.size : Int) == 1) = false:=beq_eq_false_iff_ne.2 (by omega)
 have hb0:=u8_lt s[0]
 have hb1 : ((s[1].toNat : Int) == 128) = false:=beq_eq_false_iff_ne.2 (by omega)
 go_enter Tryz.func102, Tryz.ntmps102
 go_wp2_with (go_at_call 111; refine (isTag_any _ _ (by omega) (by omega)).mono ?_; rintro e w' ⟨rfl, rfl⟩)
 go_wp2_with (go_at_call 133; refine (C _).mono ?_; rintro e w' ⟨rfl, rfl⟩)
 go_ret3
 exact ⟨rfl, (Below.refl _ _)⟩
def hdV (l : List UInt8) : Value:=.tuple #[.int .i64 (Sp.hd l).1, .int .i64 (Sp.hd l).2.1, .int .i64 (Sp.hd l).2.2]
theorem hdV_of {l : List UInt8} {a b c : Nat} (h : Sp.hd l = (a, b, c)) : hdV l = .tuple #[.int .i64 a, .int .i64 b, .int .i64 c]:=by
 unfold hdV; rw [h]
theorem bne31 (t : UInt8) : (((t.toNat : Int) % 32) != 31) = !decide (t.toNat % 32 = 31):=by
 rw [Bool.eq_iff_iff]; simp; omega
theorem ret_hd {l : List UInt8} {a b c : Nat} {x y z : Int} (h : Sp.hd l = (a, b, c)) (hx : x = a) (hy : y = b) (hz : z = c) :
  Ending.returned (.tuple #[.int .i64 x, .int .i64 y, .int .i64 z]) = .returned (hdV l):=by
 subst hx hy hz; rw [hdV_of h]
theorem Head_any (s : ByteArray) (w : World) (h : s.size ≤ maxLen) :
  Calls Tryz.prog 102 #[.string s] w fun e w'=>e = .returned (hdV s.data.toList) ∧ Below w.heap.size w w':=by
 have hsz : s.data.toList.length = s.size:=rfl
 cases hl : s.data.toList with
 | nil =>
  rw [hl] at hsz
  exact (head_0 s w h hsz.symm).mono fun e w' ⟨he, hb⟩=>⟨he.trans (ret_hd (a:=0) (b:=0) (c:=10) rfl rfl rfl rfl), hb⟩
 | cons t r =>
  rw [hl] at hsz
  simp only [List.length_cons] at hsz
  have h00 : 0 < s.size:=by omega
  have e0 : s[0] = t:=get_of s _ hl 0 h00 t rfl
  by_cases ht : t.toNat % 32 = 31
  ·exact (head_1 s w h h00 (by rw [e0, bne31]; simp [ht])).mono fun e w' ⟨he, hb⟩=>⟨he.trans (ret_hd (a:=0) (b:=0) (c:=14) (by simp [Sp.hd, ht]) rfl rfl rfl), hb⟩
  have ht' : ((s[0].toNat : Int) % 32 != 31) = true:=by rw [e0, bne31]; simp [ht]
  cases r with
  | nil=>exact (head_2 s w h h00 ht' (by simp at hsz; omega)).mono fun e w' ⟨he, hb⟩=>⟨he.trans (ret_hd (a:=0) (b:=0) (c:=10) (by simp [Sp.hd, ht]) rfl rfl rfl), hb⟩
  | cons b r =>
   simp only [List.length_cons] at hsz
   have h0 : 1 < s.size:=by omega
   have e1 : s[1] = b:=get_of s _ hl 1 h0 b rfl
   have hb:=u8_lt b
   by_cases c1 : b.toNat < 128
   ·exact (head_3 s w h h0 h00 ht' (by rw [e1]; omega)).mono fun e w' ⟨he, hb⟩=>⟨he.trans (ret_hd (a:=2) (b:=b.toNat) (c:=0) (by simp [Sp.hd, ht, c1]) rfl (by rw [e1]) rfl), hb⟩
   by_cases c2 : b.toNat = 128
   ·exact (head_4 s w h h0 h00 ht' (by rw [e1]; omega)).mono fun e w' ⟨he, hb⟩=>⟨he.trans (ret_hd (a:=0) (b:=0) (c:=11) (by simp [Sp.hd, ht, c2]) rfl rfl rfl), hb⟩
   by_cases c3 : 132 < b.toNat
   ·exact (head_5 s w h h0 h00 ht' (by rw [e1]; omega)).mono fun e w' ⟨he, hb⟩=>⟨he.trans (ret_hd (a:=0) (b:=0) (c:=11) (by simp [Sp.hd, ht, c1, c3]) rfl rfl rfl), hb⟩
   by_cases c4 : r.length < b.toNat - 128
   ·exact (head_6 s w h h0 h00 ht' (by rw [e1]; omega) (by rw [e1]; omega) (by rw [e1]; omega)).mono fun e w' ⟨he, hb⟩ =>
     ⟨he.trans (ret_hd (a:=0) (b:=0) (c:=10) (by simp [Sp.hd, ht, c1, c2, c3, c4]) rfl rfl rfl), hb⟩
   have hx : (s.extract 2 (2 + (s[1].toNat - 128))).data.toList = r.take (b.toNat - 128):=by
    rw [Go.Lib.extract_data, hl, e1]; simp
   have hlen : (r.take (b.toNat - 128)).length = b.toNat - 128:=by simp; omega
   have hxs : (s.extract 2 (2 + (s[1].toNat - 128))).size = b.toNat - 128:=by
    rw [← hlen, ← hx]; rfl
   have C : ∀ w, Calls Tryz.prog 133 #[.string (s.extract 2 (2 + (s[1].toNat - 128)))] w fun e w'=>e = .returned (.int .u32 (Sp.num (r.take (b.toNat - 128)))) ∧ w = w':=by
    intro w
    have:=rl_any (s.extract 2 (2 + (s[1].toNat - 128))) w (by omega) (by omega)
    rwa [hx] at this
   have hm':=num_lt4 (r.take (b.toNat - 128)) (by omega)
   by_cases c5 : 4000 < Sp.num (r.take (b.toNat - 128))
   ·exact (head_8 s w h h0 h00 ht' (by rw [e1]; omega) (by rw [e1]; omega) (by rw [e1]; omega) _ (by omega) (by omega) C).mono fun e w' ⟨he, hb⟩ =>
     ⟨he.trans (ret_hd (a:=0) (b:=0) (c:=13) (by simp [Sp.hd, ht, c1, c2, c3, c4, c5]) rfl rfl rfl), hb⟩
   ·exact (head_7 s w h h0 h00 ht' (by rw [e1]; omega) (by rw [e1]; omega) (by rw [e1]; omega) _ (by omega) C).mono fun e w' ⟨he, hb⟩ =>
     ⟨he.trans (ret_hd (a:=2 + (b.toNat - 128)) (b:=Sp.num (r.take (b.toNat - 128))) (c:=0) (by simp [Sp.hd, ht, c1, c2, c3, c4, c5]) (by rw [e1]; omega) rfl rfl), hb⟩
end Go.Proofs.YtbdpkfgllnbheaaGreatDoor.Be
