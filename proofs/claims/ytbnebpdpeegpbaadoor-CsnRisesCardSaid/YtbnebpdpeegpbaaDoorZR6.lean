import Derived.Lib.ItoaMem
import Derived.Lib.ParseIntBTie
import Derived.Test.YtbnebpdpeegpbaaDoorZR4
import Derived.Test.YtbnebpdpeegpbaaDoorZR5
import Derived.Lib.AppendIntMem
import Derived.Test.YtbnebpdpeegpbaaDoorRows
import Derived.Lib.LaidTab
import Derived.LaidLaws
import Derived.LaidMore
import Derived.Stop.Joined
import Derived.MakeChecks
set_option linter.unusedVariables false
set_option maxRecDepth 100000
namespace Go.Proofs.YtbnebpdpeegpbaaDoor.Cs
def text (t s r : Int) : List UInt8:=Lib.itoa t ++ 46 :: (Lib.itoa s ++ 46 :: Lib.itoa r)
def upto (c : UInt8) : List UInt8 → List UInt8
 | []=>[]
 | b :: r=>if b = c then [] else b :: upto c r
def past (c : UInt8) : List UInt8 → List UInt8
 | []=>[]
 | b :: r=>if b = c then r else past c r
theorem upto_app (c : UInt8) : ∀ (l r : List UInt8), c ∉ l → upto c (l ++ c :: r) = l
 | [], r, _=>by rw [List.nil_append, upto, if_pos rfl]
 | b :: l, r, h=>by
  rw [List.cons_append, upto, if_neg (fun e=>h (by simp [e])), upto_app c l r (fun e=>h (by simp [e]))]
theorem past_app (c : UInt8) : ∀ (l r : List UInt8), c ∉ l → past c (l ++ c :: r) = r
 | [], r, _=>by rw [List.nil_append, past, if_pos rfl]
 | b :: l, r, h=>by
  rw [List.cons_append, past, if_neg (fun e=>h (by simp [e])), past_app c l r (fun e=>h (by simp [e]))]
def rd (l : List UInt8) : Int :=
 match Lib.parseIntB 64 l with
 | .ok v=>v
 | .range=>Lib.intSat 64 l
 | _=>0
def pT (l : List UInt8) : Int:=rd (upto 46 l)
def pS (l : List UInt8) : Int:=rd (upto 46 (past 46 l))
def pR (l : List UInt8) : Int:=rd (past 46 (past 46 l))
def isT (l : List UInt8) : Bool:=isC (pT l) (pS l) (pR l) && decide (text (pT l) (pS l) (pR l) = l)
theorem parseM_app (M : Nat) : ∀ (l r : List UInt8) (acc a : Nat), Lib.parseUintM M acc l = .ok a → Lib.parseUintM M acc (l ++ r) = Lib.parseUintM M a r
 | [], r, acc, a, h=>by
  have : acc = a:=by simpa [Lib.parseUintM] using h
  rw [this]
  rfl
 | c :: l, r, acc, a, h=>by
  simp only [List.cons_append, Lib.parseUintM] at h ⊢
  split at h
  ·rename_i h1
   rw [if_pos h1]
   split at h
   ·cases h
   ·rename_i h2
    rw [if_neg h2]
    split at h
    ·cases h
    ·rename_i h3
     rw [if_neg h3]
     exact parseM_app M l r _ a h
  ·cases h
theorem digit_nat (k : Nat) (h : k < 10) : (UInt8.ofNat (48 + k)).toNat = 48 + k:=by
 rw [UInt8.toNat_ofNat']
 exact Nat.mod_eq_of_lt (by omega)
theorem parseM_dec (u : Nat) (h : u ≤ 18446744073709551615) : Lib.parseUintM 18446744073709551615 0 (Lib.decDigits u) = .ok u:=by
 induction u using Nat.strongRecOn with
 | _ u ih =>
  by_cases h10 : u < 10
  ·rw [Lib.decDigits, dif_pos h10]
   simp only [Lib.parseUintM, digit_nat u h10]
   rw [if_pos (by omega), if_neg (by omega), if_neg (by omega)]
   congr 1
   omega
  ·rw [Lib.decDigits, dif_neg h10, parseM_app _ _ _ _ _ (ih (u / 10) (by omega) (by omega))]
   simp only [Lib.parseUintM, digit_nat (u % 10) (by omega)]
   rw [if_pos (by omega), if_neg (by omega), if_neg (by omega)]
   congr 1
   omega
theorem dec_digit (u : Nat) : ∀ c ∈ Lib.decDigits u, 48 ≤ c.toNat ∧ c.toNat ≤ 57:=by
 induction u using Nat.strongRecOn with
 | _ u ih =>
  intro c hc
  by_cases h10 : u < 10
  ·rw [Lib.decDigits, dif_pos h10] at hc
   simp only [List.mem_singleton] at hc
   rw [hc, digit_nat u h10]
   omega
  ·rw [Lib.decDigits, dif_neg h10] at hc
   rcases List.mem_append.1 hc with h | h
   ·exact ih (u / 10) (by omega) c h
   ·simp only [List.mem_singleton] at h
    rw [h, digit_nat (u % 10) (by omega)]
    omega
theorem dec_cons (u : Nat) : ∃ c r, Lib.decDigits u = c :: r:=by
 have:=Lib.decDigits_length u
 have h1:=Lib.nDigits_pos u
 cases h : Lib.decDigits u with
 | nil=>rw [h] at this; simp at this; omega
 | cons c r=>exact ⟨c, r, rfl⟩
theorem parseU_dec (u : Nat) (h : u ≤ 18446744073709551615) : Lib.parseUintB 64 (Lib.decDigits u) = .ok u:=by
 obtain ⟨c, r, e⟩:=dec_cons u
 unfold Lib.parseUintB
 rw [if_neg (by rw [e]; simp)]
 exact parseM_dec u h
theorem rd_itoa (n : Int) (h1 : -9223372036854775808 ≤ n) (h2 : n ≤ 9223372036854775807) : rd (Lib.itoa n) = n := by
  unfold rd
  by_cases hn : n < 0
  · have e : Lib.itoa n = 45 :: Lib.decDigits n.natAbs := by unfold Lib.itoa; rw [if_pos hn]
    rw [e, Lib.parseIntB_minus, parseU_dec _ (by omega)]
    simp only [Lib.signedC]
    rw [if_neg (by have : (2 : Nat) ^ (64 - 1) = 9223372036854775808 := by decide
                   omega)]
    show -((n.natAbs : Int)) = n
    omega
  · have e : Lib.itoa n = Lib.decDigits n.toNat := by unfold Lib.itoa; rw [if_neg hn]
    obtain ⟨c, r, e2⟩ := dec_cons n.toNat
    have hc := dec_digit n.toNat c (by rw [e2]; simp)
    rw [e, e2, Lib.parseIntB_plain 64 c r (by omega) (by omega), ← e2, parseU_dec _ (by omega)]
    simp only [Lib.signlessC]
    rw [if_neg (by have : (2 : Nat) ^ (64 - 1) = 9223372036854775808 := by decide
                   omega)]
    show ((n.toNat : Int)) = n
    omega
theorem itoa_dot (n : Int) : (46 : UInt8) ∉ Lib.itoa n:=by
 intro h
 unfold Lib.itoa at h
 have e46 : (46 : UInt8).toNat = 46:=rfl
 split at h
 ·rcases List.mem_cons.1 h with h | h
  ·cases h
  ·have:=dec_digit _ _ h; omega
 ·have:=dec_digit _ _ h; omega
theorem nDigits_le (k : Nat) : ∀ u : Nat, u < 10 ^ (k + 1) → Lib.nDigits u ≤ k + 1:=by
 induction k with
 | zero=>intro u h; rw [Lib.nDigits_small (by simpa using h)]; exact Nat.le_refl _
 | succ k ih =>
  intro u h
  by_cases h10 : u < 10
  ·rw [Lib.nDigits_small h10]; omega
  ·rw [Lib.nDigits_big h10]
   have:=ih (u / 10) (by rw [Nat.pow_succ] at h; omega)
   omega
theorem itoa_len (n : Int) (h1 : -9223372036854775808 ≤ n) (h2 : n ≤ 9223372036854775807) : (Lib.itoa n).length ≤ 20:=by
 have h9 : (10 : Nat) ^ (18 + 1) = 10000000000000000000:=by decide
 unfold Lib.itoa
 split
 ·rw [List.length_cons, Lib.decDigits_length]
  have:=nDigits_le 18 n.natAbs (by omega)
  omega
 ·rw [Lib.decDigits_length]
  have:=nDigits_le 18 n.toNat (by omega)
  omega
theorem text_pT (t s r : Int) (h1 : -9223372036854775808 ≤ t) (h2 : t ≤ 9223372036854775807) : pT (text t s r) = t:=by
 unfold pT text
 rw [upto_app 46 _ _ (itoa_dot t), rd_itoa t h1 h2]
theorem text_pS (t s r : Int) (h1 : -9223372036854775808 ≤ s) (h2 : s ≤ 9223372036854775807) : pS (text t s r) = s:=by
 unfold pS text
 rw [past_app 46 _ _ (itoa_dot t), upto_app 46 _ _ (itoa_dot s), rd_itoa s h1 h2]
theorem text_pR (t s r : Int) (h1 : -9223372036854775808 ≤ r) (h2 : r ≤ 9223372036854775807) : pR (text t s r) = r:=by
 unfold pR text
 rw [past_app 46 _ _ (itoa_dot t), past_app 46 _ _ (itoa_dot s), rd_itoa r h1 h2]
theorem text_is (t s r : Int) (ht : I64 t) (hs : I64 s) (hr : I64 r) : isT (text t s r) = isC t s r:=by
 unfold isT
 rw [text_pT t s r ht.1 ht.2, text_pS t s r hs.1 hs.2, text_pR t s r hr.1 hr.2]
 simp
theorem rd_int (l : List UInt8) : I64 (rd l):=by
 unfold rd I64
 split
 ·rename_i v h
  have:=Lib.parseIntB_bounds h
  have e : ((2 ^ (64 - 1) : Nat) : Int) = 9223372036854775808:=by decide
  omega
 ·unfold Lib.intSat
  have e : ((2 ^ (64 - 1) : Nat) : Int) = 9223372036854775808:=by decide
  have e2 : ((2 ^ (64 - 1) - 1 : Nat) : Int) = 9223372036854775807:=by decide
  split <;> omega
 ·omega
end Go.Proofs.YtbnebpdpeegpbaaDoor.Cs
namespace Go.Proofs.YtbnebpdpeegpbaaDoor.Cs
open Go.RowKit
structure Glob (w : World) : Prop where
 tab : Lib.TabIs Tryd.prog w "internal/strconv.uint64pow10" .u64 Lib.pow10Tab
 syn : ∃ t p, w.cell? ⟨2, 0, none⟩ = some (.iface t p)
 rng : ∃ t p, w.cell? ⟨3, 0, none⟩ = some (.iface t p)
theorem tabN : Tryd.prog.globalNamed "internal/strconv.uint64pow10" = some 1:=by kernel_rfl
theorem Glob.past {w w' : World} (h : Glob w) (hb : Below w.heap.size w w') : Glob w':=by
 obtain ⟨h1, ⟨t, p, h2⟩, ⟨u, q, h3⟩⟩:=h
 refine ⟨?_, ⟨t, p, (hb.cell (cell_lt h2)).trans h2⟩, ⟨u, q, (hb.cell (cell_lt h3)).trans h3⟩⟩
 have h4:=h1.cell tabN 0 (by decide)
 have h5:=cell_lt h4
 have h6 : w'.var? Tryd.prog "internal/strconv.uint64pow10" = w.var? Tryd.prog "internal/strconv.uint64pow10":=by
  unfold World.var?
  rw [tabN]
  simp only [Option.bind_some]
  rw [hb.block _ h5]
 exact h6.trans h1
theorem fmt_any (n : Int) (hn : I64 n) (w : World) (hG : Glob w) : Calls Tryd.prog 30 #[.int .i64 n, .int .i64 10] w fun e w'=>e = .returned (.string (mk (Lib.itoa n))) ∧ Below w.heap.size w w' :=
 (Tryd.strconv_FormatInt_10 n hn.1 hn.2 w hG.tab).mono fun e w' ⟨h1, k, os, h2⟩=>⟨h1, h2 ▸ Lib.below_grow _ w (Nat.le_refl _) k os⟩
theorem itoa_any (n : Int) (hn : I64 n) (w : World) (hG : Glob w) : Calls Tryd.prog 31 #[.int .i64 n] w fun e w'=>e = .returned (.string (mk (Lib.itoa n))) ∧ Below w.heap.size w w' :=
 (Tryd.strconv_Itoa n hn.1 hn.2 w hG.tab).mono fun e w' ⟨h1, k, os, h2⟩=>⟨h1, h2 ▸ Lib.below_grow _ w (Nat.le_refl _) k os⟩
theorem parseInt_any (s : ByteArray) (hs : s.size ≤ 1000000000) (w : World) (hG : Glob w) : Calls Tryd.prog 34 #[.string s, .int .i64 10, .int .i64 64] w fun e w'=>∃ x, e = .returned (.tuple #[.int .i64 (rd (bs s)), x]) ∧ Below w.heap.size w w':=by
 unfold rd
 cases h : Lib.parseIntB 64 (bs s)
 ·rename_i v
  exact (Any.strconv_ParseInt_10_at64_ok Tryd.laysC174 s (by omega) v h w).mono fun e w' ⟨h1, h2⟩=>⟨_, h1, by
   rcases h2 with rfl | ⟨t, rfl⟩
   ·exact Below.refl _ _
   ·exact Lib.bytesWorld_below _ _ _⟩
 ·obtain ⟨t, p, h2⟩:=hG.syn
  exact (Any.strconv_ParseInt_10_at64_syntax Tryd.laysC174 s (by omega) h _ w h2 (Or.inr ⟨t, p, rfl⟩)).mono fun e w' ⟨N, h3, _, _, h4⟩=>⟨_, h3, h4⟩
 ·obtain ⟨t, p, h2⟩:=hG.rng
  exact (Any.strconv_ParseInt_10_at64_range Tryd.laysC174 s (by omega) h _ w h2 (Or.inr ⟨t, p, rfl⟩)).mono fun e w' ⟨N, h3, _, _, h4⟩=>⟨_, h3, h4⟩
theorem number_any (s : ByteArray) (hs : s.size ≤ 1000000000) (w : World) (hG : Glob w) : Calls Tryd.prog 25 #[.string s] w fun e w'=>e = .returned (.int .i64 (rd (bs s))) ∧ Below w.heap.size w w':=by
 have C:=parseInt_any s hs w hG
 generalize rd (bs s) = n at C ⊢
 have C:=Lib.hid C
 go_enter Tryd.func25, Tryd.ntmps25
 go_wp2_with fail
 refine C.out.mono ?_
 rintro e w1 ⟨x, rfl, hb⟩
 go_wp2_with fail
 go_ret
 exact ⟨rfl, hb⟩
theorem mk_size (l : List UInt8) : (mk l).size = l.length:=by show l.toArray.size = _; simp
theorem text_mk (t s r : Int) : mk (Lib.itoa t) ++ ⟨#[46]⟩ ++ mk (Lib.itoa s) ++ ⟨#[46]⟩ ++ mk (Lib.itoa r) = mk (text t s r):=by
 apply bs_inj
 show (mk (Lib.itoa t) ++ ⟨#[46]⟩ ++ mk (Lib.itoa s) ++ ⟨#[46]⟩ ++ mk (Lib.itoa r)).data.toList = text t s r
 simp [text, ByteArray.data_append]
set_option maxHeartbeats 1000000 in
theorem Text_any (t s r : Int) (ht : I64 t) (hs : I64 s) (hr : I64 r) (w : World) (hG : Glob w) : Calls Tryd.prog 16 #[cv t s r] w fun e w'=>e = .returned (.string (mk (text t s r))) ∧ Below w.heap.size w w':=by
 have C1:=fmt_any t ht
 have C2:=itoa_any s hs
 have C3:=itoa_any r hr
 have l1:=itoa_len t ht.1 ht.2
 have l2:=itoa_len s hs.1 hs.2
 have l3:=itoa_len r hr.1 hr.2
 rw [← mk_size] at l1 l2 l3
 have HE:=text_mk t s r
 generalize mk (text t s r) = Z at HE ⊢
 generalize mk (Lib.itoa t) = A at *
 generalize mk (Lib.itoa s) = B at *
 generalize mk (Lib.itoa r) = D at *
 have C1:=Lib.hid C1
 have C2:=Lib.hid C2
 have C3:=Lib.hid C3
 have HE:=Lib.hid HE
 have a1 : ¬ (9223372036854775807 < A.size + 1):=by omega
 have a2 : ¬ (9223372036854775807 < A.size + 1 + B.size):=by omega
 have a3 : ¬ (9223372036854775807 < A.size + 1 + B.size + 1):=by omega
 have a4 : ¬ (9223372036854775807 < A.size + 1 + B.size + 1 + D.size):=by omega
 have B0:=(Blk.new w 23 (gc t s r)).drew
 have hb0:=((Below.refl w.heap.size w).alloc (Nat.le_refl _) (.cells (gc t s r) 23)).drew
 have G0:=hG.past hb0
 have hz0:=hb0.size
 clear hG ht hs hr
 go_enter Tryd.func16, Tryd.ntmps16
 go_wp2_with fail
 go_region_held3 (fun w'=>w'.cell? ⟨w.heap.size, 0, none⟩ = some (.int .i64 t) ∧ w'.cell? ⟨w.heap.size, 1, none⟩ = some (.int .i64 s) ∧ w'.cell? ⟨w.heap.size, 2, none⟩ = some (.int .i64 r)) (first | exact ⟨B0.cell 0, B0.cell 1, B0.cell 2⟩ | exact ⟨B3.cell 0, B3.cell 1, B3.cell 2⟩ | exact ⟨B2.cell 0, B2.cell 1, B2.cell 2⟩ | exact ⟨B1.cell 0, B1.cell 1, B1.cell 2⟩) (first | (go_at_call 30; refine (C1.out _ G0).mono ?_; rintro e9 w1 ⟨rfl, hb1⟩; have B1:=B0.past hb1; have G1:=G0.past hb1; have hc1:=hb0.trans (hb1.mono hz0); have hz1:=hc1.size) | (go_at_call 31; refine (C3.out _ G2).mono ?_; rintro e9 w3 ⟨rfl, hb3⟩; have B3:=B2.past hb3; have hc3:=hc2.trans (hb3.mono hz2)) | (go_at_call 31; refine (C2.out _ G1).mono ?_; rintro e9 w2 ⟨rfl, hb2⟩; have B2:=B1.past hb2; have G2:=G1.past hb2; have hc2:=hc1.trans (hb2.mono hz1); have hz2:=hc2.size))
 all_goals
  go_wp2_with fail
  go_ret
  refine ⟨?_, hc3⟩
  rw [← HE.out]
  rfl
end Go.Proofs.YtbnebpdpeegpbaaDoor.Cs
namespace Go.Proofs.YtbnebpdpeegpbaaDoor.Cs
open Go.ChangeShapes Go.WideShapes Go.RowKit
def laidL : List (String × DataW Unit):=[("math/bits.deBruijn32tab", Rows.laid_math_bits_deBruijn32tab), ("math/bits.deBruijn64tab", Rows.laid_math_bits_deBruijn64tab), ("internal/strconv.uint64pow10", Rows.laid_internal_strconv_uint64pow10), ("strconv.ErrRange", Rows.laid_strconv_ErrRange), ("strconv.ErrSyntax", Rows.laid_strconv_ErrSyntax)]
theorem powAt : (Rows.laid_internal_strconv_uint64pow10 : DataW Unit) = Lib.tabData .u64 Lib.pow10Tab:=by rfl
theorem rngN : Tryd.prog.globalNamed "strconv.ErrRange" = some 3:=by kernel_rfl
theorem synN : Tryd.prog.globalNamed "strconv.ErrSyntax" = some 2:=by kernel_rfl
theorem glob_of_laid {W : World} (h : laidMetH Tryd.prog laidL W) : Glob W:=by
 rw [MakeChecks.laidMetH_plain _ _ _ (by kernel_rfl)] at h
 obtain ⟨ps, ⟨_, _, _, _, _, _, _, _, _, _, ⟨_, _, _, _, _, _, _, _, _, _, ⟨g2, t2, cs2, f2, p2, q2, a1, a2, a3, a4, ⟨g3, t3, cs3, f3, p3, q3, b1, b2, b3, b4, ⟨g4, t4, cs4, f4, p4, q4, c1, c2, c3, c4, _⟩, _⟩, _⟩, _⟩, _⟩, _⟩:=h
 refine ⟨?_, ?_, ?_⟩
 ·obtain rfl:=Option.some.inj (tabN.symm.trans a1)
  have ht : t2 = 88:=Option.some.inj (a2.symm.trans (by kernel_rfl))
  subst ht
  rw [powAt] at a4
  have e:=Lib.cells_of_tab Tryd.underlying88 Tryd.underlying66 (by kernel_rfl) (by kernel_rfl) a4
  unfold Lib.TabIs
  rw [a3, ← e]
 ·obtain rfl:=Option.some.inj (synN.symm.trans c1)
  have ht : t4 = 63:=Option.some.inj (c2.symm.trans (by kernel_rfl))
  subst ht
  obtain ⟨_, u, v, e, _, _⟩:=iface_of_trod Tryd.underlying63 c4
  refine ⟨u, v, ?_⟩
  have:=World.var?_cell synN c3 0
  rw [this, ← Array.getElem?_toList, e]
  rfl
 ·obtain rfl:=Option.some.inj (rngN.symm.trans b1)
  have ht : t3 = 63:=Option.some.inj (b2.symm.trans (by kernel_rfl))
  subst ht
  obtain ⟨_, u, v, e, _, _⟩:=iface_of_trod Tryd.underlying63 b4
  refine ⟨u, v, ?_⟩
  have:=World.var?_cell rngN b3 0
  rw [this, ← Array.getElem?_toList, e]
  rfl
end Go.Proofs.YtbnebpdpeegpbaaDoor.Cs
