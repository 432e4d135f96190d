import Derived.Deep.RegionHeld3
import Derived.Lib.ItoaMem
import Derived.Lib.ParseIntBTie
import Derived.Test.YtbdpkfgllnbheaaGreatDoorZQ3
import Derived.Test.YtbdpkfgllnbheaaGreatDoorZQ4
import Derived.Lib.TrimByte
import Derived.KernelRfl
import Derived.Laws.MathBits
import Derived.Lib.BitFns
set_option linter.unusedVariables false
set_option maxRecDepth 100000
namespace Go.Proofs.YtbdpkfgllnbheaaGreatDoor.Cs
abbrev bs (x : ByteArray) : List UInt8:=x.data.toList
abbrev mk (l : List UInt8) : ByteArray:=⟨l.toArray⟩
theorem mk_bs (x : ByteArray) : mk (bs x) = x:=rfl
theorem bs_mk (l : List UInt8) : bs (mk l) = l:=rfl
theorem bs_inj {x y : ByteArray} (h : bs x = bs y) : x = y:=by rw [← mk_bs x, h, mk_bs]
def isC (t s r : Int) : Bool:=decide (0 ≤ t ∧ t ≤ 1099511627776 ∧ 0 ≤ s ∧ s ≤ 65535 ∧ 0 ≤ r ∧ r < 6)
theorem isC_true {t s r : Int} (h : isC t s r = true) : 0 ≤ t ∧ t ≤ 1099511627776 ∧ 0 ≤ s ∧ s ≤ 65535 ∧ 0 ≤ r ∧ r < 6:=of_decide_eq_true h
def cmp1 (x y : Int) : Int:=if x < y then -1 else if y < x then 1 else 0
def cmpC (t s r t2 s2 r2 : Int) : Int:=if cmp1 t t2 ≠ 0 then cmp1 t t2 else if cmp1 s s2 ≠ 0 then cmp1 s s2 else cmp1 r r2
def I64 (n : Int) : Prop:=-9223372036854775808 ≤ n ∧ n ≤ 9223372036854775807
end Go.Proofs.YtbdpkfgllnbheaaGreatDoor.Cs
namespace Go.Proofs.YtbdpkfgllnbheaaGreatDoor.Cs
open Go.RowKit
theorem ret_int {k : IntKind} {a b : Int} (h : a = b) : Ending.returned (.int k a) = .returned (.int k b):=by rw [h]
theorem ret_bool {a b : Bool} (h : a = b) : Ending.returned (.bool a) = .returned (.bool b):=by rw [h]
theorem u8_lt (b : UInt8) : b.toNat < 256:=b.toNat_lt
theorem block_of_add (a : Addr) (n : Nat) : (a.add n).block = a.block:=by unfold Addr.add; split <;> rfl
theorem add_of_add (a : Addr) (i j : Nat) : (a.add i).add j = a.add (i + j):=by
 unfold Addr.add
 by_cases hi : i = 0 <;> by_cases hj : j = 0 <;> simp [hi, hj, Nat.add_assoc]
theorem bat {B : Nat} {w w' : World} (hb : Below B w w') {b o : Nat} {v : Value} (h : b < B) (f : w.cell? ⟨b, o, none⟩ = some v) : w'.cell? ⟨b, o, none⟩ = some v:=(hb.cell (p:=⟨b, o, none⟩) h).trans f
theorem batA {B : Nat} {w w' : World} (hb : Below B w w') {p : Addr} {v : Value} (h : p.block < B) (f : w.cell? p = some v) : w'.cell? p = some v:=(hb.cell h).trans f
theorem cell_lt {w : World} {p : Addr} {v : Value} (h : w.cell? p = some v) : p.block < w.heap.size:=by
 rcases Nat.lt_or_ge p.block w.heap.size with hlt | hge
 ·exact hlt
 ·simp [World.cell?, Array.getElem?_eq_none hge] at h
def Blk (w : World) (g : Nat) (t : TypeId) (cs : Array Value) : Prop:=w.heap[g]? = some (.cells cs t (0, 0))
theorem Blk.lt {w : World} {g : Nat} {t : TypeId} {cs : Array Value} (h : Blk w g t cs) : g < w.heap.size:=by
 rcases Nat.lt_or_ge g w.heap.size with hlt | hge
 ·exact hlt
 ·unfold Blk at h; rw [Array.getElem?_eq_none hge] at h; cases h
theorem Blk.cell {w : World} {g : Nat} {t : TypeId} {cs : Array Value} (h : Blk w g t cs) (i : Nat) : w.cell? ⟨g, i, none⟩ = cs[i]?:=cell_of_row w g i cs t (0, 0) h
theorem Blk.frozen {w : World} {g : Nat} {t : TypeId} {cs : Array Value} (h : Blk w g t cs) (i : Nat) : w.frozen? ⟨g, i, none⟩ = false:=by
 unfold Blk at h
 simp [World.frozen?, h]
theorem Blk.new (w : World) (t : TypeId) (cs : Array Value) : Blk (w.alloc (.cells cs t)) w.heap.size t cs:=heap_alloc_new w _
theorem Blk.newd (w : World) (t : TypeId) (cs : Array Value) : Blk (w.alloc (.cells cs t)).drew w.heap.size t cs:=heap_alloc_new w _
theorem Blk.past {w w' : World} {g : Nat} {t : TypeId} {cs : Array Value} (h : Blk w g t cs) (hb : Below w.heap.size w w') : Blk w' g t cs:=(hb.block g h.lt).trans h
theorem Blk.drew {w : World} {g : Nat} {t : TypeId} {cs : Array Value} (h : Blk w g t cs) : Blk w.drew g t cs:=h
theorem Blk.alloc {w : World} {g : Nat} {t : TypeId} {cs : Array Value} (h : Blk w g t cs) (o : Obj) : Blk (w.alloc o) g t cs:=(Below.heap_alloc w o g h.lt).trans h
theorem Blk.set_ {w : World} {g : Nat} {t : TypeId} {cs : Array Value} (h : Blk w g t cs) (i : Nat) (u : Value) : Blk (w.setCell ⟨g, i, none⟩ u) g t (cs.setIfInBounds i u):=by
 unfold Blk at h ⊢
 simp [World.setCell, Array.getElem?_modify, h]
theorem Blk.far {w : World} {g : Nat} {t : TypeId} {cs : Array Value} (h : Blk w g t cs) {p : Addr} (hp : g ≠ p.block) (u : Value) : Blk (w.setCell p u) g t cs:=(Below.heap_setCell w p u g hp).trans h
theorem Blk.grown {w w' : World} {g : Nat} {t : TypeId} {cs : Array Value} {row : Option Nat} (h : Blk w g t cs) (hb : w.grownBy w' row) (hg : some g ≠ row) : Blk w' g t cs:=(hb.block g h.lt hg).trans h
abbrev cv (t s r : Int) : Value:=.agg #[.int .i64 t, .int .i64 s, .int .i64 r]
abbrev gc (t s r : Int) : Array Value:=#[.int .i64 t, .int .i64 s, .int .i64 r]
end Go.Proofs.YtbdpkfgllnbheaaGreatDoor.Cs
namespace Go.Proofs.YtbdpkfgllnbheaaGreatDoor.Cs
def text (t s r : Int) : List UInt8:=Lib.itoa t ++ 46 :: (Lib.itoa s ++ 46 :: Lib.itoa r)
def upto (c : UInt8) : List UInt8 → List UInt8
 | []=>[]
 | b :: r=>if b = c then [] else b :: upto c r
def past (c : UInt8) : List UInt8 → List UInt8
 | []=>[]
 | b :: r=>if b = c then r else past c r
theorem upto_app (c : UInt8) : ∀ (l r : List UInt8), c ∉ l → upto c (l ++ c :: r) = l
 | [], r, _=>by rw [List.nil_append, upto, if_pos rfl]
 | b :: l, r, h=>by
  rw [List.cons_append, upto, if_neg (fun e=>h (by simp [e])), upto_app c l r (fun e=>h (by simp [e]))]
theorem past_app (c : UInt8) : ∀ (l r : List UInt8), c ∉ l → past c (l ++ c :: r) = r
 | [], r, _=>by rw [List.nil_append, past, if_pos rfl]
 | b :: l, r, h=>by
  rw [List.cons_append, past, if_neg (fun e=>h (by simp [e])), past_app c l r (fun e=>h (by simp [e]))]
def rd (l : List UInt8) : Int :=
 match Lib.parseIntB 64 l with
 | .ok v=>v
 | .range=>Lib.intSat 64 l
 | _=>0
def pT (l : List UInt8) : Int:=rd (upto 46 l)
def pS (l : List UInt8) : Int:=rd (upto 46 (past 46 l))
def pR (l : List UInt8) : Int:=rd (past 46 (past 46 l))
def isT (l : List UInt8) : Bool:=isC (pT l) (pS l) (pR l) && decide (text (pT l) (pS l) (pR l) = l)
theorem parseM_app (M : Nat) : ∀ (l r : List UInt8) (acc a : Nat), Lib.parseUintM M acc l = .ok a → Lib.parseUintM M acc (l ++ r) = Lib.parseUintM M a r
 | [], r, acc, a, h=>by
  have : acc = a:=by simpa [Lib.parseUintM] using h
  rw [this]
  rfl
 | c :: l, r, acc, a, h=>by
  simp only [List.cons_append, Lib.parseUintM] at h ⊢
  split at h
  ·rename_i h1
   rw [if_pos h1]
   split at h
   ·cases h
   ·rename_i h2
    rw [if_neg h2]
    split at h
    ·cases h
    ·rename_i h3
     rw [if_neg h3]
     exact parseM_app M l r _ a h
  ·cases h
theorem digit_nat (k : Nat) (h : k < 10) : (UInt8.ofNat (48 + k)).toNat = 48 + k:=by
 rw [UInt8.toNat_ofNat']
 exact Nat.mod_eq_of_lt (by omega)
theorem parseM_dec (u : Nat) (h : u ≤ 18446744073709551615) : Lib.parseUintM 18446744073709551615 0 (Lib.decDigits u) = .ok u:=by
 induction u using Nat.strongRecOn with
 | _ u ih =>
  by_cases h10 : u < 10
  ·rw [Lib.decDigits, dif_pos h10]
   simp only [Lib.parseUintM, digit_nat u h10]
   rw [if_pos (by omega), if_neg (by omega), if_neg (by omega)]
   congr 1
   omega
  ·rw [Lib.decDigits, dif_neg h10, parseM_app _ _ _ _ _ (ih (u / 10) (by omega) (by omega))]
   simp only [Lib.parseUintM, digit_nat (u % 10) (by omega)]
   rw [if_pos (by omega), if_neg (by omega), if_neg (by omega)]
   congr 1
   omega
theorem dec_digit (u : Nat) : ∀ c ∈ Lib.decDigits u, 48 ≤ c.toNat ∧ c.toNat ≤ 57:=by
 induction u using Nat.strongRecOn with
 | _ u ih =>
  intro c hc
  by_cases h10 : u < 10
  ·rw [Lib.decDigits, dif_pos h10] at hc
   simp only [List.mem_singleton] at hc
   rw [hc, digit_nat u h10]
   omega
  ·rw [Lib.decDigits, dif_neg h10] at hc
   rcases List.mem_append.1 hc with h | h
   ·exact ih (u / 10) (by omega) c h
   ·simp only [List.mem_singleton] at h
    rw [h, digit_nat (u % 10) (by omega)]
    omega
theorem dec_cons (u : Nat) : ∃ c r, Lib.decDigits u = c :: r:=by
 have:=Lib.decDigits_length u
 have h1:=Lib.nDigits_pos u
 cases h : Lib.decDigits u with
 | nil=>rw [h] at this; simp at this; omega
 | cons c r=>exact ⟨c, r, rfl⟩
theorem parseU_dec (u : Nat) (h : u ≤ 18446744073709551615) : Lib.parseUintB 64 (Lib.decDigits u) = .ok u:=by
 obtain ⟨c, r, e⟩:=dec_cons u
 unfold Lib.parseUintB
 rw [if_neg (by rw [e]; simp)]
 exact parseM_dec u h
theorem rd_itoa (n : Int) (h1 : -9223372036854775808 ≤ n) (h2 : n ≤ 9223372036854775807) : rd (Lib.itoa n) = n := by
  unfold rd
  by_cases hn : n < 0
  · have e : Lib.itoa n = 45 :: Lib.decDigits n.natAbs := by unfold Lib.itoa; rw [if_pos hn]
    rw [e, Lib.parseIntB_minus, parseU_dec _ (by omega)]
    simp only [Lib.signedC]
    rw [if_neg (by have : (2 : Nat) ^ (64 - 1) = 9223372036854775808 := by decide
                   omega)]
    show -((n.natAbs : Int)) = n
    omega
  · have e : Lib.itoa n = Lib.decDigits n.toNat := by unfold Lib.itoa; rw [if_neg hn]
    obtain ⟨c, r, e2⟩ := dec_cons n.toNat
    have hc := dec_digit n.toNat c (by rw [e2]; simp)
    rw [e, e2, Lib.parseIntB_plain 64 c r (by omega) (by omega), ← e2, parseU_dec _ (by omega)]
    simp only [Lib.signlessC]
    rw [if_neg (by have : (2 : Nat) ^ (64 - 1) = 9223372036854775808 := by decide
                   omega)]
    show ((n.toNat : Int)) = n
    omega
theorem itoa_dot (n : Int) : (46 : UInt8) ∉ Lib.itoa n:=by
 intro h
 unfold Lib.itoa at h
 have e46 : (46 : UInt8).toNat = 46:=rfl
 split at h
 ·rcases List.mem_cons.1 h with h | h
  ·cases h
  ·have:=dec_digit _ _ h; omega
 ·have:=dec_digit _ _ h; omega
theorem nDigits_le (k : Nat) : ∀ u : Nat, u < 10 ^ (k + 1) → Lib.nDigits u ≤ k + 1:=by
 induction k with
 | zero=>intro u h; rw [Lib.nDigits_small (by simpa using h)]; exact Nat.le_refl _
 | succ k ih =>
  intro u h
  by_cases h10 : u < 10
  ·rw [Lib.nDigits_small h10]; omega
  ·rw [Lib.nDigits_big h10]
   have:=ih (u / 10) (by rw [Nat.pow_succ] at h; omega)
   omega
theorem itoa_len (n : Int) (h1 : -9223372036854775808 ≤ n) (h2 : n ≤ 9223372036854775807) : (Lib.itoa n).length ≤ 20:=by
 have h9 : (10 : Nat) ^ (18 + 1) = 10000000000000000000:=by decide
 unfold Lib.itoa
 split
 ·rw [List.length_cons, Lib.decDigits_length]
  have:=nDigits_le 18 n.natAbs (by omega)
  omega
 ·rw [Lib.decDigits_length]
  have:=nDigits_le 18 n.toNat (by omega)
  omega
theorem text_pT (t s r : Int) (h1 : -9223372036854775808 ≤ t) (h2 : t ≤ 9223372036854775807) : pT (text t s r) = t:=by
 unfold pT text
 rw [upto_app 46 _ _ (itoa_dot t), rd_itoa t h1 h2]
theorem text_pS (t s r : Int) (h1 : -9223372036854775808 ≤ s) (h2 : s ≤ 9223372036854775807) : pS (text t s r) = s:=by
 unfold pS text
 rw [past_app 46 _ _ (itoa_dot t), upto_app 46 _ _ (itoa_dot s), rd_itoa s h1 h2]
theorem text_pR (t s r : Int) (h1 : -9223372036854775808 ≤ r) (h2 : r ≤ 9223372036854775807) : pR (text t s r) = r:=by
 unfold pR text
 rw [past_app 46 _ _ (itoa_dot t), past_app 46 _ _ (itoa_dot s), rd_itoa r h1 h2]
theorem text_is (t s r : Int) (ht : I64 t) (hs : I64 s) (hr : I64 r) : isT (text t s r) = isC t s r:=by
 unfold isT
 rw [text_pT t s r ht.1 ht.2, text_pS t s r hs.1 hs.2, text_pR t s r hr.1 hr.2]
 simp
theorem rd_int (l : List UInt8) : I64 (rd l):=by
 unfold rd I64
 split
 ·rename_i v h
  have:=Lib.parseIntB_bounds h
  have e : ((2 ^ (64 - 1) : Nat) : Int) = 9223372036854775808:=by decide
  omega
 ·unfold Lib.intSat
  have e : ((2 ^ (64 - 1) : Nat) : Int) = 9223372036854775808:=by decide
  have e2 : ((2 ^ (64 - 1) - 1 : Nat) : Int) = 9223372036854775807:=by decide
  split <;> omega
 ·omega
end Go.Proofs.YtbdpkfgllnbheaaGreatDoor.Cs
namespace Go.Proofs.YtbdpkfgllnbheaaGreatDoor.Be
end Go.Proofs.YtbdpkfgllnbheaaGreatDoor.Be
namespace Go.Proofs.YtbdpkfgllnbheaaGreatDoor
namespace Sc
open _root_.Go.Proofs.YtbdpkfgllnbheaaGreatDoor.Nm
abbrev Ty:=ByteArray × Nat × Bool
def tab : List Ty:=[(⟨#[97, 99, 105]⟩, 2, false), (⟨#[99]⟩, 1, true), (⟨#[99, 110]⟩, 1, false), (⟨#[100, 99]⟩, 1, false),
 (⟨#[100, 101, 115, 99, 114, 105, 112, 116, 105, 111, 110]⟩, 1, false), (⟨#[101, 110, 116, 114, 121, 105, 100]⟩, 2, true), (⟨#[109, 97, 105, 108]⟩, 2, false),
 (⟨#[109, 101, 109, 98, 101, 114]⟩, 5, false), (⟨#[111]⟩, 1, false), (⟨#[111, 117]⟩, 1, false), (⟨#[115, 110]⟩, 1, false), (⟨#[116, 105, 116, 108, 101]⟩, 1, true),
 (⟨#[117, 105, 100]⟩, 1, false), (⟨#[117, 105, 100, 110, 117, 109, 98, 101, 114]⟩, 3, true), (⟨#[117, 115, 101, 114, 112, 97, 115, 115, 119, 111, 114, 100]⟩, 4, false)]
def look (x : ByteArray) : List Ty → Option Ty
 | []=>none
 | t :: r=>if t.1 = x then some t else look x r
def find (l : List UInt8) : Option Ty:=look (mk (lower l)) tab
theorem look_step {x : ByteArray} {l : List Ty} {k : Nat} (h : k < l.length) : look x (l.drop k) = if l[k].1 = x then some l[k] else look x (l.drop (k + 1)):=by
 rw [List.drop_eq_getElem_cons h, look]
def unsign : List UInt8 → List UInt8
 | []=>[]
 | c :: r=>if c = 45 then r else c :: r
def digC (c : UInt8) : Bool:=decide (48 ≤ c.toNat ∧ c.toNat ≤ 57)
def prC (c : UInt8) : Bool:=decide (32 ≤ c.toNat ∧ c.toNat ≤ 126)
def int0 (l : List UInt8) : List UInt8 → Bool
 | []=>false
 | c :: r=>decide (r.length < 15) && if c.toNat = 48 then decide (l = [48]) else (c :: r).all digC
def isInt (l : List UInt8) : Bool:=int0 l (unsign l)
def fits (s : Nat) (l : List UInt8) : Bool :=
 if s = 1 then l.any (fun c=>decide (c.toNat ≠ 32)) && l.all prC
 else if s = 2 then l.all prC
 else if s = 3 then isInt l
 else if s = 5 then (dnm l).isSome
 else true
def check (n v : List UInt8) : Nat:=match find n with
 | none=>16
 | some t=>if v = [] ∨ 60 < v.length ∨ fits t.2.1 v = false then 17 else 0
theorem tw : ∀ (l : List UInt8) (c : UInt8), c ∈ l.takeWhile (· == 32) → (c == 32) = true
 | [], c, h=>by cases h
 | d :: r, c, h=>by
  rw [List.takeWhile_cons] at h
  split at h
  ·rcases List.mem_cons.1 h with rfl | h
   ·assumption
   ·exact tw r c h
  ·cases h
theorem trim_nil (l : List UInt8) : (Lib.trimB l 32).isEmpty = !l.any (fun c=>decide (c.toNat ≠ 32)):=by
 have h1 : ∀ m : List UInt8, (m.dropWhile (· == 32)).isEmpty = m.all (· == 32):=fun m=>by
  induction m with
  | nil=>rfl
  | cons c r ih =>
   rw [List.dropWhile_cons, List.all_cons]
   cases hc : (c == 32)
   ·simp
   ·simpa using ih
 have h2 : ∀ m : List UInt8, m.all (· == 32) = true → m.dropWhile (· == 32) = []:=fun m h=>by
  have:=h1 m
  rw [h] at this
  simpa using this
 have h3 : (!l.any (fun c=>decide (c.toNat ≠ 32))) = l.all (· == 32):=by
  rw [Bool.eq_iff_iff]
  simp only [Bool.not_eq_true', List.any_eq_false, List.all_eq_true, decide_eq_true_eq, beq_iff_eq]
  constructor
  ·intro h c hc
   have:=h c hc
   have h5 : c.toNat = 32:=by omega
   exact UInt8.toNat_inj.1 h5
  ·intro h c hc h6
   rw [h c hc] at h6
   exact h6 rfl
 rw [h3]
 unfold Lib.trimB Lib.trimLeftB Lib.trimRightB
 rw [h1, List.all_reverse]
 cases hl : l.all (· == 32)
 ·rw [Bool.eq_false_iff] at hl ⊢
  intro h
  apply hl
  have h4:=List.takeWhile_append_dropWhile (p:=(· == (32 : UInt8))) (l:=l.reverse)
  have h5 : l.reverse.all (· == 32) = true:=by
   rw [← h4, List.all_append, h, Bool.and_true, List.all_eq_true]
   exact fun c hc=>tw l.reverse c hc
  rwa [List.all_reverse] at h5
 ·rw [h2 l.reverse (by rwa [List.all_reverse])]
  rfl
theorem trim_sign (l : List UInt8) : Lib.trimPrefix l [45] = unsign l:=by
 cases l with
 | nil=>rfl
 | cons c r =>
  rw [unsign]
  unfold Lib.trimPrefix Lib.hasPrefix
  by_cases h : c = 45
  ·subst h
   simp
  ·rw [if_neg h, if_neg]
   simp
   exact fun e=>h e.symm
end Sc
end Go.Proofs.YtbdpkfgllnbheaaGreatDoor
namespace Go.Proofs.YtbdpkfgllnbheaaGreatDoor.Be
def mag (n : Int) : Nat:=if 0 ≤ n then n.toNat else (-1 - n).toNat
def few (n : Int) : Nat:=bitLen (mag n) / 8 + 1
def tc : Nat → Int → List Int
 | 0, _=>[]
 | k + 1, n=>(n / 256 ^ k % 256) :: tc k n
def intB (n : Int) : List Int:=tc (few n) n
def say (n : Int) (l : List UInt8) : Int:=l.foldl (fun n b=>256 * n + b.toNat) n
def sval : List UInt8 → Int
 | []=>0
 | b :: r=>say (if b.toNat < 128 then (b.toNat : Int) else (b.toNat : Int) - 256) r
def rdI (l : List UInt8) : Option Int:=if l.length ≠ 0 ∧ l.length ≤ 8 ∧ few (sval l) = l.length then some (sval l) else none
theorem tc_len (k : Nat) (n : Int) : (tc k n).length = k:=by
 induction k with
 | zero=>rfl
 | succ k ih=>simp [tc, ih]
theorem intB_len (n : Int) : (intB n).length = few n:=tc_len _ _
theorem few_pos (n : Int) : 1 ≤ few n:=by unfold few; omega
theorem mag_lt (n : Int) (p : Nat) : mag n < p ↔ -(p : Int) ≤ n ∧ n < p:=by
 unfold mag; split <;> omega
theorem bitLen_lt (m j : Nat) : bitLen m < j + 1 ↔ m < 2 ^ j:=by
 have h:=bitLen_spec m
 constructor
 ·intro hl
  exact Nat.lt_of_lt_of_le h.1 (Nat.pow_le_pow_right (by omega) (by omega))
 ·intro hm
  by_cases h0 : m = 0
  ·subst h0; simp [bitLen]
  ·have h2:=h.2 h0
   have h3 : 2 ^ (bitLen m - 1) < 2 ^ j:=Nat.lt_of_le_of_lt h2 hm
   have h4:=(Nat.pow_lt_pow_iff_right (a:=2) (by omega)).1 h3
   omega
theorem few_le (n : Int) (k : Nat) (hk : 1 ≤ k) : few n ≤ k ↔ -(2 ^ (8 * k - 1) : Int) ≤ n ∧ n < 2 ^ (8 * k - 1):=by
 have h1:=bitLen_lt (mag n) (8 * k - 1)
 have h2:=mag_lt n (2 ^ (8 * k - 1))
 push_cast at h2
 rw [← h2, ← h1]
 unfold few; omega
theorem few_8 (n : Int) (h0 : -9223372036854775808 ≤ n) (h1 : n ≤ 9223372036854775807) : few n ≤ 8:=by
 rw [few_le n 8 (by omega)]
 show -9223372036854775808 ≤ n ∧ n < 9223372036854775808
 omega
theorem say_bound (l : List UInt8) (n : Int) : n * 256 ^ l.length ≤ say n l ∧ say n l < (n + 1) * 256 ^ l.length:=by
 induction l generalizing n with
 | nil=>simp [say]; omega
 | cons b l ih =>
  have:=ih (256 * n + b.toNat)
  have hb : b.toNat < 256:=b.toNat_lt
  have e : say n (b :: l) = say (256 * n + b.toNat) l:=rfl
  rw [e, List.length_cons, Int.pow_succ]
  have hp : (0 : Int) < 256 ^ l.length:=Int.pow_pos (by omega)
  generalize (256 : Int) ^ l.length = p at *
  constructor
  ·refine Int.le_trans ?_ this.1
   have : n * (p * 256) = (256 * n) * p:=by rw [Int.mul_comm p 256, ← Int.mul_assoc, Int.mul_comm n 256]
   rw [this]
   exact Int.mul_le_mul_of_nonneg_right (by omega) (by omega)
  ·refine Int.lt_of_lt_of_le this.2 ?_
   have : (n + 1) * (p * 256) = (256 * n + 256) * p:=by rw [Int.mul_comm p 256, ← Int.mul_assoc, Int.mul_comm (n + 1) 256, Int.mul_add]; rfl
   rw [this]
   exact Int.mul_le_mul_of_nonneg_right (by omega) (by omega)
theorem sval_range : ∀ (l : List UInt8), l ≠ [] → -(2 ^ (8 * l.length - 1) : Int) ≤ sval l ∧ sval l < 2 ^ (8 * l.length - 1)
 | [], h=>absurd rfl h
 | b :: l, _=>by
  have hb : b.toNat < 256:=b.toNat_lt
  have h:=say_bound l (if b.toNat < 128 then (b.toNat : Int) else (b.toNat : Int) - 256)
  have e : (2 : Int) ^ (8 * (b :: l).length - 1) = 128 * 256 ^ l.length:=by
   rw [List.length_cons, show 8 * (l.length + 1) - 1 = 7 + 8 * l.length by omega, Int.pow_add, Int.pow_mul]; rfl
  rw [e]
  show _ ≤ say _ l ∧ say _ l < _
  have hp : (0 : Int) < 256 ^ l.length:=Int.pow_pos (by omega)
  generalize (256 : Int) ^ l.length = p at *
  generalize hx : (if b.toNat < 128 then (b.toNat : Int) else (b.toNat : Int) - 256) = x at *
  have hx1 : -128 ≤ x ∧ x + 1 ≤ 128:=by subst hx; split <;> omega
  constructor
  ·refine Int.le_trans ?_ h.1
   have:=Int.mul_le_mul_of_nonneg_right hx1.1 (show (0 : Int) ≤ p by omega)
   omega
  ·refine Int.lt_of_lt_of_le h.2 ?_
   exact Int.mul_le_mul_of_nonneg_right hx1.2 (by omega)
end Go.Proofs.YtbdpkfgllnbheaaGreatDoor.Be
namespace Go.Proofs.YtbdpkfgllnbheaaGreatDoor
structure Cn where
 t : Int
 s : Int
 r : Int
structure Mo where
 kind : Int
 attr : ByteArray
 vals : List ByteArray
structure Cg where
 csn : Cn
 kind : Int
 id : Cn
 par : Cn
 rdn : List Nm.Ava
 del : Bool
 mods : List Mo
namespace Ch
open _root_.Go.Proofs.YtbdpkfgllnbheaaGreatDoor.Nm _root_.Go.Proofs.YtbdpkfgllnbheaaGreatDoor.Be
abbrev no : ByteArray:=⟨#[]⟩
def z3 : Cn:=⟨0, 0, 0⟩
def zero : Cg:=⟨z3, 0, z3, z3, [], false, []⟩
def entryid : ByteArray:=⟨#[101, 110, 116, 114, 121, 105, 100]⟩
def isCn (c : Cn) : Bool:=Cs.isC c.t c.s c.r
def zCn (c : Cn) : Bool:=decide (c.t = 0 ∧ c.s = 0 ∧ c.r = 0)
def lt (a b : Cn) : Bool:=decide (Cs.cmpC a.t a.s a.r b.t b.s b.r < 0)
def eqCn (a b : Cn) : Bool:=decide (a.t = b.t ∧ a.s = b.s ∧ a.r = b.r)
def noAva (a : Ava) : Bool:=decide (a.1 = entryid) || decide (Sc.check (bs a.1) (bs a.2) ≠ 0)
def okR (r : List Ava) : Bool:=isRdn r && (decide (r.length < 4) && !r.any noAva)
def place (c : Cg) : Bool:=lt c.par c.csn && okR c.rdn
def noPlace (c : Cg) : Bool:=zCn c.par && (decide (c.rdn.length = 0) && !c.del)
def takes (d : Mo) : Bool:=decide (d.kind ≠ 1)
def noVals (t : ByteArray) (l : List ByteArray) : Bool:=l.any (fun v=>decide (Sc.check (bs t) (bs v) ≠ 0))
def noMo (d : Mo) : Bool :=
 decide (d.kind < 1 ∨ 3 < d.kind ∨ d.kind = 1 ∧ d.vals.length = 0) || match Sc.find (bs d.attr) with
 | none=>true
 | some t=>decide (t.1 ≠ d.attr ∨ t.1 = entryid ∨ 12 < d.vals.length) || noVals t.1 d.vals
def isDel (c : Cg) : Bool:=!zCn c.id && (lt c.id c.csn && (noPlace c && decide (c.mods.length = 0)))
def formed (c : Cg) : Bool :=
 if c.kind = 1 then eqCn c.id c.csn && (place c && (!c.del && !c.mods.any takes))
 else if c.kind = 3 then lt c.id c.csn && (noPlace c && decide (0 < c.mods.length))
 else if c.kind = 4 then place c && isDel { c with par:=z3, rdn:=[], del:=false }
 else if c.kind = 2 then isDel c
 else false
def isG (c : Cg) : Bool :=
 (isCn c.csn && (!zCn c.csn && (isCn c.id && isCn c.par))) && (formed c && (decide (c.mods.length ≤ 8) && !c.mods.any noMo))
def eqMo (a b : Mo) : Bool:=decide (a.kind = b.kind) && (decide (a.attr = b.attr) && decide (a.vals = b.vals))
def eqMos : List Mo → List Mo → Bool
 | [], []=>true
 | a :: r, b :: s=>eqMo a b && eqMos r s
 | _, _=>false
def eqG (a b : Cg) : Bool :=
 eqCn a.csn b.csn && (decide (a.kind = b.kind) && (eqCn a.id b.id && (eqCn a.par b.par && (decide (a.del = b.del) && (decide (a.rdn = b.rdn) && eqMos a.mods b.mods)))))
def txt (t : Nat) (b : ByteArray) : El:=.mk t b []
def num (t : Nat) (n : Int) : El:=.mk t (strOfNums (intB n)) []
def lst (t : Nat) (ks : List El) : El:=.mk t no ks
def boolB (b : Bool) : ByteArray:=if b then ⟨#[255]⟩ else ⟨#[0]⟩
def cnTxt (c : Cn) : ByteArray:=Cs.mk (Cs.text c.t c.s c.r)
def rdnTxt (r : List Ava) : ByteArray:=Nm.mk (if isRdn r then prRdn r else [])
def modEl (d : Mo) : El:=lst 48 [num 2 d.kind, txt 4 d.attr, lst 48 (d.vals.map (txt 4))]
def chEl (c : Cg) : El:=lst 48 [num 2 c.kind, txt 4 (cnTxt c.csn), txt 4 (cnTxt c.id), txt 4 (cnTxt c.par), txt 4 (rdnTxt c.rdn), txt 1 (boolB c.del), lst 48 (c.mods.map modEl)]
def wrC (c : Cg) : List UInt8 × Nat :=
 if isG c = false then ([], 14) else if (wr (chEl c)).2 ≠ 0 ∨ 4000 < (wr (chEl c)).1.length then ([], 13) else ((wr (chEl c)).1, 0)
def bodyE : El → ByteArray
 | .mk _ b _=>b
def kidsE : El → List El
 | .mk _ _ ks=>ks
def tagE : El → Nat
 | .mk t _ _=>t
def noE : El:=.mk 0 no []
def kidE (e : El) (i : Nat) : El:=(kidsE e).getD i noE
def textAt (e : El) (i : Nat) : ByteArray:=bodyE (kidE e i)
def numAt (e : El) (i : Nat) : Int:=(rdI (bs (textAt e i))).getD 0
def flagAt (e : El) (i : Nat) : Bool:=decide ((bs (textAt e i)).length = 1) && decide (bs (textAt e i) ≠ [0])
def cnOf (l : List UInt8) : Cn:=if Cs.isT l = true then ⟨Cs.pT l, Cs.pS l, Cs.pR l⟩ else z3
def cnAt (e : El) (i : Nat) : Cn:=cnOf (bs (textAt e i))
def rdnAt (e : El) (i : Nat) : List Ava:=(rdn (bs (textAt e i))).getD []
def rdMod (e : El) : Mo:=⟨numAt e 0, textAt e 1, (kidsE (kidE e 2)).map bodyE⟩
def rdG (e : El) : Cg:=⟨cnAt e 1, numAt e 0, cnAt e 2, cnAt e 3, rdnAt e 4, flagAt e 5, (kidsE (kidE e 6)).map rdMod⟩
def elOf (s : List UInt8) : El:=match rd 20 s 0 with
 | .bad _ _=>noE
 | .ok e _=>e
def rdC (s : List UInt8) : Cg × Nat:=if wrC (rdG (elOf s)) = (s, 0) then (rdG (elOf s), 0) else (zero, 14)
end Ch
end Go.Proofs.YtbdpkfgllnbheaaGreatDoor
namespace Go.Proofs.YtbdpkfgllnbheaaGreatDoor.Be
open Go.RowKit
theorem ofInt_nat64 (x : Int) : (BitVec.ofInt 64 x).toNat = (x % 18446744073709551616).toNat:=by
 rw [BitVec.toNat_ofInt]; rfl
theorem i64_or8 (x b : Int) (h0 : -9223372036854775808 ≤ x) (h1 : x ≤ 9223372036854775807) (h : x % 256 = 0) (hb0 : 0 ≤ b) (hb1 : b < 256) : bits .or .i64 x b = x + b:=by
 show IntKind.i64.wrap ((BitVec.ofInt 64 x ||| BitVec.ofInt 64 b).toNat : Int) = _
 rw [BitVec.toNat_or, ofInt_nat64, ofInt_nat64]
 have hbb : (b % 18446744073709551616).toNat = b.toNat:=by omega
 rw [hbb]
 have ha : (x % 18446744073709551616).toNat = 2 ^ 8 * ((x % 18446744073709551616).toNat / 256):=by
  show _ = 256 * _
  omega
 have hk : (x % 18446744073709551616).toNat ||| b.toNat = (x % 18446744073709551616).toNat + b.toNat:=by
  rw [ha, ← Nat.two_pow_add_eq_or_of_lt (by omega) _]
 rw [hk, IntKind.wrap_i64]
 omega
theorem i64_xor0 (n : Int) (h0 : 0 ≤ n) (h1 : n ≤ 9223372036854775807) : bits .xor .i64 n 0 = n:=by
 show IntKind.i64.wrap ((BitVec.ofInt 64 n ^^^ BitVec.ofInt 64 0).toNat : Int) = _
 have : BitVec.ofInt 64 0 = 0#64:=by decide
 rw [this, BitVec.xor_zero, ofInt_nat64, IntKind.wrap_i64]
 omega
theorem i64_xor1 (n : Int) (h0 : -9223372036854775808 ≤ n) (h1 : n < 0) : bits .xor .i64 n (-1) = -1 - n:=by
 show IntKind.i64.wrap ((BitVec.ofInt 64 n ^^^ BitVec.ofInt 64 (-1)).toNat : Int) = _
 have : BitVec.ofInt 64 (-1) = BitVec.allOnes 64:=by decide
 rw [this, BitVec.xor_allOnes, BitVec.toNat_not, ofInt_nat64, IntKind.wrap_i64]
 omega
theorem xor_mag (n : Int) (h0 : -9223372036854775808 ≤ n) (h1 : n ≤ 9223372036854775807) : IntKind.u64.wrap (bits .xor .i64 n (n / 9223372036854775808)) = mag n:=by
 unfold mag
 by_cases h : 0 ≤ n
 ·have e : n / 9223372036854775808 = 0:=by omega
  rw [e, i64_xor0 n h h1, if_pos h, IntKind.wrap_u64]
  omega
 ·have e : n / 9223372036854775808 = -1:=by omega
  rw [e, i64_xor1 n h0 (by omega), if_neg h, IntKind.wrap_u64]
  omega
theorem mag_le (n : Int) (h0 : -9223372036854775808 ≤ n) (h1 : n ≤ 9223372036854775807) : (mag n : Int) ≤ 9223372036854775807:=by
 unfold mag; split <;> omega
theorem bitLen_64 (m : Nat) (h : (m : Int) ≤ 9223372036854775807) : bitLen m ≤ 63:=by
 have:=(bitLen_lt m 63).2 (by show m < 9223372036854775808; omega)
 omega
theorem bitLen_two (x : Nat) (h0 : x ≠ 0) : bitLen x = 1 + bitLen (x / 2):=by
 by_cases h : x / 2 = 0
 ·have : x = 1:=by omega
  subst this; decide
 ·exact bitLen_shift x 1 h
theorem lib_bitLen (x : Nat) (h : x < 2 ^ 64) : Lib.bitLen x = bitLen x:=by
 induction x using Nat.strongRecOn with
 | _ x ih =>
  by_cases h0 : x = 0
  ·subst h0; decide
  ·rw [Lib.bitLen_half x h0 h, bitLen_two x h0, ih (x / 2) (by omega) (by omega)]
set_option maxHeartbeats 400000 in
theorem fewest_any (n : Int) (w : World) (h0 : -9223372036854775808 ≤ n) (h1 : n ≤ 9223372036854775807) :
  Calls Tryz.prog 134 #[.int .i64 n] w fun e w'=>e = .returned (.int .i64 (few n)) ∧ w = w':=by
 have hx:=Lib.hid (xor_mag n h0 h1)
 have hm:=mag_le n h0 h1
 have hb:=bitLen_64 _ hm
 have hf : Hid (few n = bitLen (mag n) / 8 + 1):=rfl
 have HC : Hid (∀ w, Calls Tryz.prog 155 #[.int .u64 (mag n)] w fun e w'=>e = .returned (.int .i64 (bitLen (mag n))) ∧ w' = w):=fun w=>by
  have:=Tryz.bits_Len64 (mag n) w (by omega) (by omega)
  rwa [lib_bitLen _ (by omega)] at this
 generalize mag n = m at *
 go_enter Tryz.func134, Tryz.ntmps134
 go_wp2_with fail
 rw [hx.out]
 refine (HC.out _).mono ?_
 rintro e w' ⟨rfl, rfl⟩
 go_wp2_with fail
 go_ret
 rw [hf.out]
 refine ⟨?_, rfl⟩
 refine congrArg Ending.returned (congrArg (Value.int .i64) ?_)
 omega
end Go.Proofs.YtbdpkfgllnbheaaGreatDoor.Be
