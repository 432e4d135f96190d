import Derived.Lib.Hide
import Derived.Test.YtbnebpdpeegpbaaDoorProg
import Derived.WalkKit
import Derived.WalkSpells
import Derived.WalkLawsBesides
import Derived.Deep.QuietTactic
import Derived.BigQuiet
import Derived.Laws.Rows
import Derived.Below
import Derived.Deep.RegionHeld3
import Derived.Lib.ItoaMem
import Derived.Lib.ParseIntBTie
import Derived.ProofKit
import Derived.OpenShut
import Derived.Deep.Strs
import Derived.Lib.SmallJoins
set_option linter.unusedVariables false
set_option maxRecDepth 100000
namespace Go.Proofs.YtbnebpdpeegpbaaDoor.Cs
abbrev bs (x : ByteArray) : List UInt8:=x.data.toList
abbrev mk (l : List UInt8) : ByteArray:=⟨l.toArray⟩
theorem mk_bs (x : ByteArray) : mk (bs x) = x:=rfl
theorem bs_mk (l : List UInt8) : bs (mk l) = l:=rfl
theorem bs_inj {x y : ByteArray} (h : bs x = bs y) : x = y:=by rw [← mk_bs x, h, mk_bs]
def isC (t s r : Int) : Bool:=decide (0 ≤ t ∧ t ≤ 1099511627776 ∧ 0 ≤ s ∧ s ≤ 65535 ∧ 0 ≤ r ∧ r < 6)
def cmp1 (x y : Int) : Int:=if x < y then -1 else if y < x then 1 else 0
def cmpC (t s r t2 s2 r2 : Int) : Int:=if cmp1 t t2 ≠ 0 then cmp1 t t2 else if cmp1 s s2 ≠ 0 then cmp1 s s2 else cmp1 r r2
def above (t s t2 s2 : Int) : Bool:=decide (t2 < t ∨ t = t2 ∧ s2 < s)
theorem cmpC_pos (t s r t2 s2 : Int) : (0 < cmpC t s r t2 s2 r) ↔ above t s t2 s2 = true:=by
 unfold cmpC above cmp1
 rw [decide_eq_true_iff]
 constructor
 ·intro h
  split at h <;> split at h <;> (try split at h) <;> (try split at h) <;> omega
 ·intro h
  split <;> split <;> (try split) <;> (try split) <;> omega
def nxt (t s now : Int) : Int × Int:=if now ≤ t then (if s < 65535 then (t, s + 1) else (t + 1, 0)) else (now, 0)
def I64 (n : Int) : Prop:=-9223372036854775808 ≤ n ∧ n ≤ 9223372036854775807
end Go.Proofs.YtbnebpdpeegpbaaDoor.Cs
namespace Go.Proofs.YtbnebpdpeegpbaaDoor.Cs
open Go.RowKit
theorem ret_int {k : IntKind} {a b : Int} (h : a = b) : Ending.returned (.int k a) = .returned (.int k b):=by rw [h]
theorem ret_bool {a b : Bool} (h : a = b) : Ending.returned (.bool a) = .returned (.bool b):=by rw [h]
theorem ret_str {a b : ByteArray} (h : a = b) : Ending.returned (.string a) = .returned (.string b):=by rw [h]
theorem cell_lt {w : World} {p : Addr} {v : Value} (h : w.cell? p = some v) : p.block < w.heap.size:=by
 rcases Nat.lt_or_ge p.block w.heap.size with hlt | hge
 ·exact hlt
 ·simp [World.cell?, Array.getElem?_eq_none hge] at h
def Blk (w : World) (g : Nat) (t : TypeId) (cs : Array Value) : Prop:=w.heap[g]? = some (.cells cs t (0, 0))
theorem Blk.lt {w : World} {g : Nat} {t : TypeId} {cs : Array Value} (h : Blk w g t cs) : g < w.heap.size:=by
 rcases Nat.lt_or_ge g w.heap.size with hlt | hge
 ·exact hlt
 ·unfold Blk at h; rw [Array.getElem?_eq_none hge] at h; cases h
theorem Blk.cell {w : World} {g : Nat} {t : TypeId} {cs : Array Value} (h : Blk w g t cs) (i : Nat) : w.cell? ⟨g, i, none⟩ = cs[i]?:=cell_of_row w g i cs t (0, 0) h
theorem Blk.frozen {w : World} {g : Nat} {t : TypeId} {cs : Array Value} (h : Blk w g t cs) (i : Nat) : w.frozen? ⟨g, i, none⟩ = false:=by
 unfold Blk at h
 simp [World.frozen?, h]
theorem Blk.new (w : World) (t : TypeId) (cs : Array Value) : Blk (w.alloc (.cells cs t)) w.heap.size t cs:=heap_alloc_new w _
theorem Blk.past {w w' : World} {g : Nat} {t : TypeId} {cs : Array Value} (h : Blk w g t cs) (hb : Below w.heap.size w w') : Blk w' g t cs:=(hb.block g h.lt).trans h
theorem Blk.drew {w : World} {g : Nat} {t : TypeId} {cs : Array Value} (h : Blk w g t cs) : Blk w.drew g t cs:=h
theorem Blk.alloc {w : World} {g : Nat} {t : TypeId} {cs : Array Value} (h : Blk w g t cs) (o : Obj) : Blk (w.alloc o) g t cs:=(Below.heap_alloc w o g h.lt).trans h
theorem Blk.set_ {w : World} {g : Nat} {t : TypeId} {cs : Array Value} (h : Blk w g t cs) (i : Nat) (u : Value) : Blk (w.setCell ⟨g, i, none⟩ u) g t (cs.setIfInBounds i u):=by
 unfold Blk at h ⊢
 simp [World.setCell, Array.getElem?_modify, h]
theorem Blk.far {w : World} {g : Nat} {t : TypeId} {cs : Array Value} (h : Blk w g t cs) {p : Addr} (hp : g ≠ p.block) (u : Value) : Blk (w.setCell p u) g t cs:=(Below.heap_setCell w p u g hp).trans h
abbrev cv (t s r : Int) : Value:=.agg #[.int .i64 t, .int .i64 s, .int .i64 r]
abbrev gc (t s r : Int) : Array Value:=#[.int .i64 t, .int .i64 s, .int .i64 r]
end Go.Proofs.YtbnebpdpeegpbaaDoor.Cs
namespace Go.Proofs.YtbnebpdpeegpbaaDoor.Cs
def text (t s r : Int) : List UInt8:=Lib.itoa t ++ 46 :: (Lib.itoa s ++ 46 :: Lib.itoa r)
def upto (c : UInt8) : List UInt8 → List UInt8
 | []=>[]
 | b :: r=>if b = c then [] else b :: upto c r
def past (c : UInt8) : List UInt8 → List UInt8
 | []=>[]
 | b :: r=>if b = c then r else past c r
theorem upto_app (c : UInt8) : ∀ (l r : List UInt8), c ∉ l → upto c (l ++ c :: r) = l
 | [], r, _=>by rw [List.nil_append, upto, if_pos rfl]
 | b :: l, r, h=>by
  rw [List.cons_append, upto, if_neg (fun e=>h (by simp [e])), upto_app c l r (fun e=>h (by simp [e]))]
theorem past_app (c : UInt8) : ∀ (l r : List UInt8), c ∉ l → past c (l ++ c :: r) = r
 | [], r, _=>by rw [List.nil_append, past, if_pos rfl]
 | b :: l, r, h=>by
  rw [List.cons_append, past, if_neg (fun e=>h (by simp [e])), past_app c l r (fun e=>h (by simp [e]))]
def rd (l : List UInt8) : Int :=
 match Lib.parseIntB 64 l with
 | .ok v=>v
 | .range=>Lib.intSat 64 l
 | _=>0
def pT (l : List UInt8) : Int:=rd (upto 46 l)
def pS (l : List UInt8) : Int:=rd (upto 46 (past 46 l))
def pR (l : List UInt8) : Int:=rd (past 46 (past 46 l))
def isT (l : List UInt8) : Bool:=isC (pT l) (pS l) (pR l) && decide (text (pT l) (pS l) (pR l) = l)
theorem parseM_app (M : Nat) : ∀ (l r : List UInt8) (acc a : Nat), Lib.parseUintM M acc l = .ok a → Lib.parseUintM M acc (l ++ r) = Lib.parseUintM M a r
 | [], r, acc, a, h=>by
  have : acc = a:=by simpa [Lib.parseUintM] using h
  rw [this]
  rfl
 | c :: l, r, acc, a, h=>by
  simp only [List.cons_append, Lib.parseUintM] at h ⊢
  split at h
  ·rename_i h1
   rw [if_pos h1]
   split at h
   ·cases h
   ·rename_i h2
    rw [if_neg h2]
    split at h
    ·cases h
    ·rename_i h3
     rw [if_neg h3]
     exact parseM_app M l r _ a h
  ·cases h
theorem digit_nat (k : Nat) (h : k < 10) : (UInt8.ofNat (48 + k)).toNat = 48 + k:=by
 rw [UInt8.toNat_ofNat']
 exact Nat.mod_eq_of_lt (by omega)
theorem parseM_dec (u : Nat) (h : u ≤ 18446744073709551615) : Lib.parseUintM 18446744073709551615 0 (Lib.decDigits u) = .ok u:=by
 induction u using Nat.strongRecOn with
 | _ u ih =>
  by_cases h10 : u < 10
  ·rw [Lib.decDigits, dif_pos h10]
   simp only [Lib.parseUintM, digit_nat u h10]
   rw [if_pos (by omega), if_neg (by omega), if_neg (by omega)]
   congr 1
   omega
  ·rw [Lib.decDigits, dif_neg h10, parseM_app _ _ _ _ _ (ih (u / 10) (by omega) (by omega))]
   simp only [Lib.parseUintM, digit_nat (u % 10) (by omega)]
   rw [if_pos (by omega), if_neg (by omega), if_neg (by omega)]
   congr 1
   omega
theorem dec_digit (u : Nat) : ∀ c ∈ Lib.decDigits u, 48 ≤ c.toNat ∧ c.toNat ≤ 57:=by
 induction u using Nat.strongRecOn with
 | _ u ih =>
  intro c hc
  by_cases h10 : u < 10
  ·rw [Lib.decDigits, dif_pos h10] at hc
   simp only [List.mem_singleton] at hc
   rw [hc, digit_nat u h10]
   omega
  ·rw [Lib.decDigits, dif_neg h10] at hc
   rcases List.mem_append.1 hc with h | h
   ·exact ih (u / 10) (by omega) c h
   ·simp only [List.mem_singleton] at h
    rw [h, digit_nat (u % 10) (by omega)]
    omega
theorem dec_cons (u : Nat) : ∃ c r, Lib.decDigits u = c :: r:=by
 have:=Lib.decDigits_length u
 have h1:=Lib.nDigits_pos u
 cases h : Lib.decDigits u with
 | nil=>rw [h] at this; simp at this; omega
 | cons c r=>exact ⟨c, r, rfl⟩
theorem parseU_dec (u : Nat) (h : u ≤ 18446744073709551615) : Lib.parseUintB 64 (Lib.decDigits u) = .ok u:=by
 obtain ⟨c, r, e⟩:=dec_cons u
 unfold Lib.parseUintB
 rw [if_neg (by rw [e]; simp)]
 exact parseM_dec u h
theorem rd_itoa (n : Int) (h1 : -9223372036854775808 ≤ n) (h2 : n ≤ 9223372036854775807) : rd (Lib.itoa n) = n := by
  unfold rd
  by_cases hn : n < 0
  · have e : Lib.itoa n = 45 :: Lib.decDigits n.natAbs := by unfold Lib.itoa; rw [if_pos hn]
    rw [e, Lib.parseIntB_minus, parseU_dec _ (by omega)]
    simp only [Lib.signedC]
    rw [if_neg (by have : (2 : Nat) ^ (64 - 1) = 9223372036854775808 := by decide
                   omega)]
    show -((n.natAbs : Int)) = n
    omega
  · have e : Lib.itoa n = Lib.decDigits n.toNat := by unfold Lib.itoa; rw [if_neg hn]
    obtain ⟨c, r, e2⟩ := dec_cons n.toNat
    have hc := dec_digit n.toNat c (by rw [e2]; simp)
    rw [e, e2, Lib.parseIntB_plain 64 c r (by omega) (by omega), ← e2, parseU_dec _ (by omega)]
    simp only [Lib.signlessC]
    rw [if_neg (by have : (2 : Nat) ^ (64 - 1) = 9223372036854775808 := by decide
                   omega)]
    show ((n.toNat : Int)) = n
    omega
theorem itoa_dot (n : Int) : (46 : UInt8) ∉ Lib.itoa n:=by
 intro h
 unfold Lib.itoa at h
 have e46 : (46 : UInt8).toNat = 46:=rfl
 split at h
 ·rcases List.mem_cons.1 h with h | h
  ·cases h
  ·have:=dec_digit _ _ h; omega
 ·have:=dec_digit _ _ h; omega
theorem nDigits_le (k : Nat) : ∀ u : Nat, u < 10 ^ (k + 1) → Lib.nDigits u ≤ k + 1:=by
 induction k with
 | zero=>intro u h; rw [Lib.nDigits_small (by simpa using h)]; exact Nat.le_refl _
 | succ k ih =>
  intro u h
  by_cases h10 : u < 10
  ·rw [Lib.nDigits_small h10]; omega
  ·rw [Lib.nDigits_big h10]
   have:=ih (u / 10) (by rw [Nat.pow_succ] at h; omega)
   omega
theorem itoa_len (n : Int) (h1 : -9223372036854775808 ≤ n) (h2 : n ≤ 9223372036854775807) : (Lib.itoa n).length ≤ 20:=by
 have h9 : (10 : Nat) ^ (18 + 1) = 10000000000000000000:=by decide
 unfold Lib.itoa
 split
 ·rw [List.length_cons, Lib.decDigits_length]
  have:=nDigits_le 18 n.natAbs (by omega)
  omega
 ·rw [Lib.decDigits_length]
  have:=nDigits_le 18 n.toNat (by omega)
  omega
theorem text_pT (t s r : Int) (h1 : -9223372036854775808 ≤ t) (h2 : t ≤ 9223372036854775807) : pT (text t s r) = t:=by
 unfold pT text
 rw [upto_app 46 _ _ (itoa_dot t), rd_itoa t h1 h2]
theorem text_pS (t s r : Int) (h1 : -9223372036854775808 ≤ s) (h2 : s ≤ 9223372036854775807) : pS (text t s r) = s:=by
 unfold pS text
 rw [past_app 46 _ _ (itoa_dot t), upto_app 46 _ _ (itoa_dot s), rd_itoa s h1 h2]
theorem text_pR (t s r : Int) (h1 : -9223372036854775808 ≤ r) (h2 : r ≤ 9223372036854775807) : pR (text t s r) = r:=by
 unfold pR text
 rw [past_app 46 _ _ (itoa_dot t), past_app 46 _ _ (itoa_dot s), rd_itoa r h1 h2]
theorem text_is (t s r : Int) (ht : I64 t) (hs : I64 s) (hr : I64 r) : isT (text t s r) = isC t s r:=by
 unfold isT
 rw [text_pT t s r ht.1 ht.2, text_pS t s r hs.1 hs.2, text_pR t s r hr.1 hr.2]
 simp
theorem rd_int (l : List UInt8) : I64 (rd l):=by
 unfold rd I64
 split
 ·rename_i v h
  have:=Lib.parseIntB_bounds h
  have e : ((2 ^ (64 - 1) : Nat) : Int) = 9223372036854775808:=by decide
  omega
 ·unfold Lib.intSat
  have e : ((2 ^ (64 - 1) : Nat) : Int) = 9223372036854775808:=by decide
  have e2 : ((2 ^ (64 - 1) - 1 : Nat) : Int) = 9223372036854775807:=by decide
  split <;> omega
 ·omega
end Go.Proofs.YtbnebpdpeegpbaaDoor.Cs
namespace Go.Proofs.YtbnebpdpeegpbaaDoor.Cs
open Go.ChangeShapes Go.WideShapes Go.RowKit Go.Deep
theorem cellsCsn : Tryd.prog.cellsOf 23 = 3:=by kernel_rfl
theorem cells64 : Tryd.prog.cellsOf 2 = 1:=by kernel_rfl
theorem cellsI : Tryd.prog.cellsOf 3 = 1:=by kernel_rfl
theorem wf64' {n : Int} (h : (Lit.int .i64 n).wf = true) : I64 n:=by
 simpa [I64, Lit.wf, IntKind.min, IntKind.max, IntKind.signed, IntKind.bits] using h
structure St where
 wh : Int
 nw : Int
 t : Int
 s : Int
 r : Int
abbrev St.cs (k : St) : List Value:=[.int .i64 k.wh, .int .i64 k.nw, .int .i64 k.t, .int .i64 k.s, .int .i64 k.r]
def St.ok (k : St) : Prop:=I64 k.wh ∧ I64 k.nw ∧ I64 k.t ∧ I64 k.s ∧ I64 k.r
section
variable {H : Type} {enc : TypeId × Value → H} {w : World} {base : Nat} {spare : Nat → Bool} {held : Bool}
theorem int_of_trod {fuel : Nat} {t : TypeId} {c : Value} {x : DataW H × List MemPlace} (ht : Tryd.prog.underlying t = some (.int .i64)) (h : DataW.trod enc Tryd.prog w base spare held fuel t [c] = some x) : ∃ n, c = .int .i64 n ∧ I64 n:=by
 obtain ⟨n, hn, _, hwf⟩:=DataW.trod_int ht h
 simp only [List.cons.injEq, and_true] at hn
 exact ⟨n, hn, wf64' hwf⟩
theorem csn_of_trod {fuel : Nat} {cs : List Value} {x : DataW H × List MemPlace} (h : DataW.trod enc Tryd.prog w base spare held fuel 23 cs = some x) : ∃ t s r, cs = [.int .i64 t, .int .i64 s, .int .i64 r] ∧ I64 t ∧ I64 s ∧ I64 r:=by
 obtain ⟨xs, n, rfl, _, hl, hlen, hg⟩:=DataW.trod_struct Tryd.underlying23 h
 rw [cellsCsn] at hl
 match cs, hl with
 | [c0, c1, c2], _ =>
  have l3 : xs.length = 3:=hlen
  match xs, l3 with
  | [y0, y1, y2], _ =>
  have g0' : DataW.trod enc Tryd.prog w base spare held n 2 [c0] = some y0:=by simpa [cells64] using hg 0 _ rfl
  have g1' : DataW.trod enc Tryd.prog w base spare held n 3 [c1] = some y1:=by simpa [cellsI] using hg 1 _ rfl
  have g2' : DataW.trod enc Tryd.prog w base spare held n 3 [c2] = some y2:=by simpa [cellsI] using hg 2 _ rfl
  obtain ⟨a, rfl, ha⟩:=int_of_trod Tryd.underlying2 g0'
  obtain ⟨b, rfl, hb⟩:=int_of_trod Tryd.underlying3 g1'
  obtain ⟨c, rfl, hc⟩:=int_of_trod Tryd.underlying3 g2'
  exact ⟨a, b, c, rfl, ha, hb, hc⟩
theorem open_csn {r : Reach} {b0 : Nat} {v : Value} {d : DataW H} {p : List MemPlace}
  (hv : Value.okWide Tryd.prog w r b0 23 v) (h : DataW.Trod enc Tryd.prog w base spare held 23 v d p) :
  ∃ t s r, v = cv t s r ∧ I64 t ∧ I64 s ∧ I64 r:=by
 obtain ⟨cs, rfl, hsz⟩:=okWide_struct Tryd.underlying23 hv
 obtain ⟨fuel, hf⟩:=h
 obtain ⟨t, s, r, hcs, h1, h2, h3⟩:=csn_of_trod hf
 have hcs' : cs.toList = [.int .i64 t, .int .i64 s, .int .i64 r]:=hcs
 have : cs = #[.int .i64 t, .int .i64 s, .int .i64 r]:=Array.toList_inj.1 hcs'
 subst this
 exact ⟨t, s, r, rfl, h1, h2, h3⟩
end
end Go.Proofs.YtbnebpdpeegpbaaDoor.Cs
