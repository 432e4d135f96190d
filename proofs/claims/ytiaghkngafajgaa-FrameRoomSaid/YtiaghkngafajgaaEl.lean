/- Elements as trees, and how they lie in memory: 'Lies w P e cs': the three cells cs of an element read as the tree e in the world w, through blocks of which P holds. -/
import Derived.Test.YtiaghkngafajgaaSpec
import Derived.Below
import Derived.Laws.OwnMore
import Derived.Laws.Rows
namespace Go.Proofs.Ytiaghkngafajgaa
open Go.RowKit
set_option linter.unusedVariables false

inductive El where
  | mk (tag : Nat) (body : ByteArray) (kids : List El)

theorem El.ind {p : El → Prop} (h : ∀ t b ks, (∀ k ∈ ks, p k) → p (.mk t b ks)) (e : El) : p e :=
  El.rec (motive_1 := p) (motive_2 := fun ks => ∀ k ∈ ks, p k) (fun t b ks ih => h t b ks ih) (fun k hk => by cases hk)
    (fun k ks hk hks x hx => by
      rcases List.mem_cons.1 hx with rfl | hx
      · exact hk
      · exact hks x hx) e

mutual
def eqEl : El → El → Bool
  | .mk t b ks, .mk t' b' ks' => decide (t = t') && (decide (b = b') && eqEls ks ks')
def eqEls : List El → List El → Bool
  | [], [] => true
  | k :: ks, k' :: ks' => eqEl k k' && eqEls ks ks'
  | _, _ => false
end
theorem eqEl_self (e : El) : eqEl e e = true := by
  refine El.ind (p := fun e => eqEl e e = true) ?_ e
  intro t b ks ih
  have : ∀ l : List El, (∀ k ∈ l, eqEl k k = true) → eqEls l l = true := by
    intro l hl
    induction l with
    | nil => simp [eqEls]
    | cons k l ihl => simp [eqEls, hl k (by simp), ihl (fun x hx => hl x (by simp [hx]))]
  simp [eqEl, this ks ih]
theorem eqEls_len : ∀ {l l' : List El}, l.length ≠ l'.length → eqEls l l' = false
  | [], [], h => absurd rfl h
  | [], _ :: _, _ => by simp [eqEls]
  | _ :: _, [], _ => by simp [eqEls]
  | k :: l, k' :: l', h => by simp [eqEls, eqEls_len (l := l) (l' := l') (by simpa using h)]
theorem eqEls_drop {l l' : List El} {i : Nat} (h : i < l.length) (h' : i < l'.length) : eqEls (l.drop i) (l'.drop i) = (eqEl l[i] l'[i] && eqEls (l.drop (i + 1)) (l'.drop (i + 1))) := by
  rw [List.drop_eq_getElem_cons h, List.drop_eq_getElem_cons h', eqEls]

theorem block_of_add (a : Addr) (n : Nat) : (a.add n).block = a.block := by unfold Addr.add; split <;> rfl
theorem add_of_add (a : Addr) (i j : Nat) : (a.add i).add j = a.add (i + j) := by
  unfold Addr.add
  by_cases hi : i = 0 <;> by_cases hj : j = 0 <;> simp [hi, hj, Nat.add_assoc]

theorem bat {B : Nat} {w w' : World} (hb : Below B w w') {b o : Nat} {v : Value} (h : b < B) (f : w.cell? ⟨b, o, none⟩ = some v) : w'.cell? ⟨b, o, none⟩ = some v := (hb.cell (p := ⟨b, o, none⟩) h).trans f
theorem batA {B : Nat} {w w' : World} (hb : Below B w w') {p : Addr} {v : Value} (h : p.block < B) (f : w.cell? p = some v) : w'.cell? p = some v := (hb.cell h).trans f

inductive Lies (w : World) (P : Nat → Prop) : El → List Value → Prop
  | mk (tag : Nat) (body : ByteArray) (kids : List El) (A : Option Addr) (c : Nat) (cs : Nat → List Value)
      (ht : tag ≤ 255) (hb : body.size ≤ maxLen) (hl : kids.length ≤ maxLen) (h3 : ∀ i, i < kids.length → (cs i).length = 3)
      (hA : 0 < kids.length → ∃ ad, A = some ad ∧ P ad.block ∧ ∀ i, i < kids.length → ∀ j u, (cs i)[j]? = some u → w.cell? (ad.add (i * 3 + j)) = some u)
      (hk : ∀ i (h : i < kids.length), Lies w P kids[i] (cs i)) :
      Lies w P (.mk tag body kids) [.int .u8 tag, .string body, .slice A kids.length c]

theorem Lies.imp {w w' : World} {P P' : Nat → Prop} {e : El} {cs : List Value} (h : Lies w P e cs) (hP : ∀ b, P b → P' b) (hw : ∀ p : Addr, P p.block → w'.cell? p = w.cell? p) : Lies w' P' e cs := by
  induction h with
  | mk tag body kids A c cs ht hb hl h3 hA hk ih =>
    refine .mk tag body kids A c cs ht hb hl h3 (fun h0 => ?_) ih
    obtain ⟨ad, e, hp, hc⟩ := hA h0
    exact ⟨ad, e, hP _ hp, fun i hi j u hu => (hw _ (by rw [block_of_add]; exact hp)).trans (hc i hi j u hu)⟩
theorem Lies.kept {w w' : World} {B : Nat} {e : El} {cs : List Value} (h : Lies w (· < B) e cs) (hb : Below B w w') : Lies w' (· < B) e cs :=
  h.imp (fun _ h => h) (fun p hp => hb.cell hp)
theorem Lies.more {w : World} {B B' : Nat} {e : El} {cs : List Value} (h : Lies w (· < B) e cs) (hb : B ≤ B') : Lies w (· < B') e cs :=
  h.imp (fun _ h => Nat.lt_of_lt_of_le h hb) (fun p hp => rfl)
theorem Lies.drew {w : World} {P : Nat → Prop} {e : El} {cs : List Value} (h : Lies w P e cs) : Lies w.drew P e cs := h.imp (fun _ h => h) (fun _ _ => rfl)
/-- At the size of the world itself: behind a call that leaves all that was there. -/
theorem Lies.past {w w' : World} {e : El} {cs : List Value} (h : Lies w (· < w.heap.size) e cs) (hb : Below w.heap.size w w') : Lies w' (· < w'.heap.size) e cs :=
  (h.kept hb).more hb.size
/-- The kids' cells: three each, one kid behind the other from A on. -/
def KidsAt (w : World) (P : Nat → Prop) (A : Option Addr) (ks : List El) (ds : Nat → List Value) : Prop :=
  (∀ i, i < ks.length → (ds i).length = 3) ∧
  (0 < ks.length → ∃ ad, A = some ad ∧ P ad.block ∧ ∀ i, i < ks.length → ∀ j u, (ds i)[j]? = some u → w.cell? (ad.add (i * 3 + j)) = some u) ∧
  ∀ i (h : i < ks.length), Lies w P ks[i] (ds i)
theorem KidsAt.imp {w w' : World} {P P' : Nat → Prop} {A : Option Addr} {ks : List El} {ds : Nat → List Value} (h : KidsAt w P A ks ds) (hP : ∀ b, P b → P' b) (hw : ∀ p : Addr, P p.block → w'.cell? p = w.cell? p) :
    KidsAt w' P' A ks ds := by
  refine ⟨h.1, fun h0 => ?_, fun i hi => (h.2.2 i hi).imp hP hw⟩
  obtain ⟨ad, e, hp, hc⟩ := h.2.1 h0
  exact ⟨ad, e, hP _ hp, fun i hi j u hu => (hw _ (by rw [block_of_add]; exact hp)).trans (hc i hi j u hu)⟩
theorem KidsAt.past {w w' : World} {A : Option Addr} {ks : List El} {ds : Nat → List Value} (h : KidsAt w (· < w.heap.size) A ks ds) (hb : Below w.heap.size w w') : KidsAt w' (· < w'.heap.size) A ks ds :=
  h.imp (fun _ h => Nat.lt_of_lt_of_le h hb.size) (fun p hp => hb.cell hp)
theorem Lies.open_ {w : World} {P : Nat → Prop} {t : Nat} {b : ByteArray} {ks : List El} {cs : List Value} (h : Lies w P (.mk t b ks) cs) :
    ∃ (A : Option Addr) (c : Nat) (ds : Nat → List Value), cs = [.int .u8 t, .string b, .slice A ks.length c] ∧ t ≤ 255 ∧ b.size ≤ maxLen ∧ ks.length ≤ maxLen ∧ KidsAt w P A ks ds := by
  cases h with
  | mk tag body kids A c cs ht hb hl h3 hA hk => exact ⟨A, c, cs, rfl, ht, hb, hl, h3, hA, hk⟩
theorem Lies.shut {w : World} {P : Nat → Prop} {t : Nat} {b : ByteArray} {ks : List El} {A : Option Addr} {c : Nat} {ds : Nat → List Value} (ht : t ≤ 255) (hb : b.size ≤ maxLen) (hl : ks.length ≤ maxLen) (h : KidsAt w P A ks ds) :
    Lies w P (.mk t b ks) [.int .u8 t, .string b, .slice A ks.length c] := .mk t b ks A c ds ht hb hl h.1 h.2.1 h.2.2
theorem Lies.leaf {w : World} {P : Nat → Prop} {t : Nat} {b : ByteArray} (ht : t ≤ 255) (hb : b.size ≤ maxLen) : Lies w P (.mk t b []) [.int .u8 t, .string b, .slice none 0 0] :=
  Lies.shut (ks := []) (A := none) (c := 0) (ds := fun _ => []) ht hb (by simp) ⟨fun i h => absurd h (by simp), fun h => absurd h (by simp), fun i h => absurd h (by simp)⟩
theorem add_one_two (a : Addr) (n i : Nat) (hi : 0 < i) : a.add (n + i) = ⟨(a.add n).block, (a.add n).off + i, none⟩ := by
  rw [← add_of_add]
  show Addr.add _ i = _
  unfold Addr.add
  rw [if_neg (by omega)]
/-- A kid's cells, one by one: in a later world, in which all that lay below is as it was. -/
theorem KidsAt.kid {w wr : World} {ks : List El} {A : Option Addr} {ds : Nat → List Value} (hK : KidsAt w (· < w.heap.size) A ks ds) (hb : Below w.heap.size w wr)
    {i : Nat} (h : i < ks.length) : ∃ ad x y z, A = some ad ∧ ad.block < w.heap.size ∧ wr.cell? (ad.add (i * 3)) = some x ∧ wr.cell? ⟨(ad.add (i * 3)).block, (ad.add (i * 3)).off + 1, none⟩ = some y ∧
      wr.cell? ⟨(ad.add (i * 3)).block, (ad.add (i * 3)).off + 2, none⟩ = some z ∧ Lies wr (· < wr.heap.size) ks[i] [x, y, z] := by
  obtain ⟨h3, hA, hk⟩ := hK
  obtain ⟨ad, e, hp, hc⟩ := hA (by omega)
  have hl := h3 i h
  have hx := hk i h
  match hd : ds i, hl, hx with
  | [x, y, z], _, hx =>
    have h0 := (hb.cell (by rw [block_of_add]; exact hp)).trans (hc i h 0 x (by rw [hd]; rfl))
    have h1 := (hb.cell (by rw [block_of_add]; exact hp)).trans (hc i h 1 y (by rw [hd]; rfl))
    have h2 := (hb.cell (by rw [block_of_add]; exact hp)).trans (hc i h 2 z (by rw [hd]; rfl))
    rw [add_one_two _ _ _ (by omega)] at h1 h2
    exact ⟨ad, x, y, z, e, hp, h0, h1, h2, hx.past hb⟩
theorem Lies.form {w : World} {P : Nat → Prop} {e : El} {cs : List Value} (h : Lies w P e cs) : ∃ (t : Nat) (b : ByteArray) (A : Option Addr) (n c : Nat), cs = [.int .u8 t, .string b, .slice A n c] := by
  cases h with
  | mk tag body kids A c cs ht hb hl h3 hA hk => exact ⟨_, _, _, _, _, rfl⟩
/-- .. each cell's make written out, so that it can be stored. -/
theorem KidsAt.kid5 {w wr : World} {ks : List El} {A : Option Addr} {ds : Nat → List Value} (hK : KidsAt w (· < w.heap.size) A ks ds) (hb : Below w.heap.size w wr)
    {i : Nat} (h : i < ks.length) : ∃ (ad : Addr) (t : Nat) (b : ByteArray) (A' : Option Addr) (n c : Nat), A = some ad ∧ ad.block < w.heap.size ∧ wr.cell? (ad.add (i * 3)) = some (.int .u8 t) ∧
      wr.cell? ⟨(ad.add (i * 3)).block, (ad.add (i * 3)).off + 1, none⟩ = some (.string b) ∧
      wr.cell? ⟨(ad.add (i * 3)).block, (ad.add (i * 3)).off + 2, none⟩ = some (.slice A' n c) ∧ Lies wr (· < wr.heap.size) ks[i] [.int .u8 t, .string b, .slice A' n c] := by
  obtain ⟨ad, x, y, z, e, hp, f0, f1, f2, hL⟩ := hK.kid hb h
  obtain ⟨t, b, A', n, c, hcs⟩ := hL.form
  simp only [List.cons.injEq, and_true] at hcs
  obtain ⟨rfl, rfl, rfl⟩ := hcs
  exact ⟨ad, t, b, A', n, c, e, hp, f0, f1, f2, hL⟩
theorem Lies.alloc {w : World} {e : El} {cs : List Value} (h : Lies w (· < w.heap.size) e cs) (o : Obj) : Lies (w.alloc o) (· < (w.alloc o).heap.size) e cs := h.past ((Below.refl _ _).alloc (Nat.le_refl _) o)
/-- Block g holds just the cells cs, of type t; none is frozen. -/
def Blk (w : World) (g : Nat) (t : TypeId) (cs : Array Value) : Prop := w.heap[g]? = some (.cells cs t (0, 0))
section
variable {w w' : World} {g : Nat} {t : TypeId} {cs : Array Value}
theorem Blk.lt (h : Blk w g t cs) : g < w.heap.size := by
  rcases Nat.lt_or_ge g w.heap.size with hlt | hge
  · exact hlt
  · unfold Blk at h; rw [Array.getElem?_eq_none hge] at h; cases h
theorem Blk.cell (h : Blk w g t cs) (i : Nat) : w.cell? ⟨g, i, none⟩ = cs[i]? := cell_of_row w g i cs t (0, 0) h
theorem Blk.frozen (h : Blk w g t cs) (i : Nat) : w.frozen? ⟨g, i, none⟩ = false := by
  unfold Blk at h
  simp [World.frozen?, h]
theorem Blk.new (w : World) (t : TypeId) (cs : Array Value) : Blk (w.alloc (.cells cs t)) w.heap.size t cs := heap_alloc_new w _
theorem Blk.past (h : Blk w g t cs) (hb : Below w.heap.size w w') : Blk w' g t cs := (hb.block g h.lt).trans h
theorem Blk.drew (h : Blk w g t cs) : Blk w.drew g t cs := h
theorem Blk.alloc (h : Blk w g t cs) (o : Obj) : Blk (w.alloc o) g t cs := (Below.heap_alloc w o g h.lt).trans h
theorem Blk.set_ (h : Blk w g t cs) (i : Nat) (u : Value) : Blk (w.setCell ⟨g, i, none⟩ u) g t (cs.setIfInBounds i u) := by
  unfold Blk at h ⊢
  simp [World.setCell, Array.getElem?_modify, h]
theorem Blk.far (h : Blk w g t cs) {p : Addr} (hp : g ≠ p.block) (u : Value) : Blk (w.setCell p u) g t cs := (Below.heap_setCell w p u g hp).trans h
theorem Blk.grown {row : Option Nat} (h : Blk w g t cs) (hb : w.grownBy w' row) (hg : some g ≠ row) : Blk w' g t cs := (hb.block g h.lt hg).trans h
theorem Blk.set3 {x y z x' y' z' : Value} (h : Blk w g t #[x, y, z]) : Blk (((w.setCell ⟨g, 0, none⟩ x').setCell ⟨g, 1, none⟩ y').setCell ⟨g, 2, none⟩ z') g t #[x', y', z'] := ((h.set_ 0 x').set_ 1 y').set_ 2 z'
end
end Go.Proofs.Ytiaghkngafajgaa
