import Derived.Test.YtbdpkfgllnbheaaGreatDoorZQ1
import Derived.Lib.IndexBytes
import Derived.Deep.LoopGhost
import Derived.Laws.BytesArg
import Derived.Laws.Externs
import Derived.Lib.AppendStr
import Derived.Lib.Builder
import Derived.Lib.Hide
import Derived.Test.YtbdpkfgllnbheaaGreatDoorZQ2
set_option linter.unusedVariables false
set_option maxRecDepth 100000
namespace Go.Proofs.YtbdpkfgllnbheaaGreatDoor.Be
mutual
def formed : El → Bool
 | .mk t b ks=>if t % 32 = 31 then false else if t / 32 % 2 = 0 then decide (ks.length = 0) else if b.size ≠ 0 then false else formeds ks
def formeds : List El → Bool
 | []=>true
 | k :: ks=>formed k && formeds ks
end
mutual
def dep : El → Nat
 | .mk _ _ ks=>deps ks + 1
def deps : List El → Nat
 | []=>0
 | k :: ks=>max (dep k) (deps ks)
end
def more (n : Nat) : Nat:=if n < 128 then 0 else if n < 256 then 1 else 2
mutual
def tsz : El → Nat
 | .mk _ b ks=>tszs b.size ks
def tszs : Nat → List El → Nat
 | n, []=>n
 | n, k :: ks=>if 4000 < n then n else tszs (n + (2 + more (tsz k) + tsz k)) ks
end
def encHead (t n : Nat) : List UInt8 :=
 if n < 128 then [t.toUInt8, n.toUInt8] else if n < 256 then [t.toUInt8, 129, n.toUInt8] else [t.toUInt8, 130, (n / 256).toUInt8, n.toUInt8]
mutual
def enc : El → List UInt8
 | .mk t b ks=>encHead t (b.size + (encs ks).length) ++ (b.data.toList ++ encs ks)
def encs : List El → List UInt8
 | []=>[]
 | k :: ks=>enc k ++ encs ks
end
def bodyLen : El → Nat
 | .mk _ b ks=>b.size + (encs ks).length
def wr (e : El) : List UInt8 × Nat:=if formed e = false then ([], 14) else if 20 < dep e then ([], 12) else if 4000 < bodyLen e then ([], 13) else (enc e, 0)
def fitS (K L : Nat) : Nat → El → Bool
 | 0, _=>false
 | d + 1, .mk t b ks=>decide (ks.length ≤ K) && (decide (b.size ≤ L) && ks.all (fitS K L d))
theorem formeds_drop {l : List El} {i : Nat} (h : i < l.length) : formeds (l.drop i) = (formed l[i] && formeds (l.drop (i + 1))):=by
 rw [List.drop_eq_getElem_cons h, formeds]
theorem tszs_drop {n : Nat} {l : List El} {i : Nat} (h : i < l.length) : tszs n (l.drop i) = if 4000 < n then n else tszs (n + (2 + more (tsz l[i]) + tsz l[i])) (l.drop (i + 1)):=by
 rw [List.drop_eq_getElem_cons h, tszs]
theorem encs_take {l : List El} {i : Nat} (h : i < l.length) : encs (l.take (i + 1)) = encs (l.take i) ++ enc l[i]:=by
 have key : ∀ (a b : List El), encs (a ++ b) = encs a ++ encs b:=by
  intro a b
  induction a with
  | nil=>simp [encs]
  | cons x a ih=>simp [encs, ih]
 rw [List.take_succ_eq_append_getElem h, key]
 simp [encs]
theorem encs_app : ∀ (a b : List El), encs (a ++ b) = encs a ++ encs b
 | [], b=>by simp [encs]
 | x :: a, b=>by simp [encs, encs_app a b]
theorem encs_take_le (l : List El) (i : Nat) : (encs (l.take i)).length ≤ (encs l).length:=by
 have h:=congrArg (fun x=>(encs x).length) (List.take_append_drop i l)
 simp only [encs_app, List.length_append] at h
 omega
theorem encHead_len (t n : Nat) : (encHead t n).length = 2 + more n:=by
 unfold encHead more
 split
 ·rfl
 ·split <;> rfl
theorem enc_len (e : El) : (enc e).length = 2 + more (bodyLen e) + bodyLen e:=by
 cases e with
 | mk t b ks =>
  rw [enc, List.length_append, encHead_len, bodyLen, List.length_append]
  have : b.data.toList.length = b.size:=rfl
  omega
theorem tsz_body (e : El) : (bodyLen e ≤ 4000 → tsz e = bodyLen e) ∧ (4000 < bodyLen e → 4000 < tsz e):=by
 refine El.ind (p:=fun e=>(bodyLen e ≤ 4000 → tsz e = bodyLen e) ∧ (4000 < bodyLen e → 4000 < tsz e)) ?_ e
 intro t b ks ih
 have key : ∀ (l : List El) (n : Nat), (∀ k ∈ l, (bodyLen k ≤ 4000 → tsz k = bodyLen k) ∧ (4000 < bodyLen k → 4000 < tsz k)) →
   (n + (encs l).length ≤ 4000 → tszs n l = n + (encs l).length) ∧ (4000 < n + (encs l).length → 4000 < tszs n l):=by
  intro l
  induction l with
  | nil=>intro n _; simp [tszs, encs]
  | cons k l ihl =>
   intro n hl
   have hk:=hl k (by simp)
   have hr:=fun m=>ihl m (fun x hx=>hl x (by simp [hx]))
   have he:=enc_len k
   rw [tszs, encs, List.length_append]
   by_cases h1 : 4000 < n
   ·rw [if_pos h1]; exact ⟨fun h=>by omega, fun _=>h1⟩
   ·rw [if_neg h1]
    by_cases h2 : bodyLen k ≤ 4000
    ·rw [hk.1 h2]
     have h3:=hr (n + (2 + more (bodyLen k) + bodyLen k))
     exact ⟨fun h=>by rw [h3.1 (by omega)]; omega, fun h=>h3.2 (by omega)⟩
    ·have h3:=hk.2 (by omega)
     refine ⟨fun h=>by omega, fun _=>?_⟩
     have h4:=hr (n + (2 + more (tsz k) + tsz k))
     by_cases h5 : n + (2 + more (tsz k) + tsz k) + (encs l).length ≤ 4000
     ·omega
     ·exact h4.2 (by omega)
 have:=key ks b.size ih
 simp only [bodyLen, tsz]
 exact this
theorem more_le (n : Nat) : more n ≤ 2:=by
 unfold more
 split
 ·omega
 ·split <;> omega
theorem fitS_open {K L d t : Nat} {b : ByteArray} {ks : List El} (h : fitS K L (d + 1) (.mk t b ks) = true) : ks.length ≤ K ∧ b.size ≤ L ∧ ∀ i (hi : i < ks.length), fitS K L d ks[i] = true:=by
 simp only [fitS, Bool.and_eq_true, decide_eq_true_eq, List.all_eq_true] at h
 exact ⟨h.1, h.2.1, fun i hi=>h.2.2 _ (List.getElem_mem hi)⟩
theorem fitS_zero {K L : Nat} {e : El} (h : fitS K L 0 e = true) : False:=by simp [fitS] at h
theorem fitS_more {K L K' L' : Nat} (hK : K ≤ K') (hL : L ≤ L') : ∀ {d d' : Nat} (_ : d ≤ d') {e : El}, fitS K L d e = true → fitS K' L' d' e = true
 | 0, _, _, e, h=>absurd h (by simp [fitS])
 | d + 1, 0, hd, e, h=>absurd hd (by omega)
 | d + 1, d' + 1, hd, .mk t b ks, h=>by
  simp only [fitS, Bool.and_eq_true, decide_eq_true_eq, List.all_eq_true] at h ⊢
  exact ⟨by omega, by omega, fun k hk=>fitS_more hK hL (d:=d) (by omega) (h.2.2 k hk)⟩
theorem tsz_bound {K L : Nat} : ∀ {d : Nat} {e : El}, fitS K L d e = true → tsz e ≤ L + 4004 * d
 | 0, e, h=>(fitS_zero h).elim
 | d + 1, .mk t b ks, h=>by
  obtain ⟨_, hb, hk⟩:=fitS_open h
  have key : ∀ (l : List El) (n : Nat), (∀ k ∈ l, tsz k ≤ L + 4004 * d) → n ≤ L + 4004 * (d + 1) → tszs n l ≤ L + 4004 * (d + 1):=by
   intro l
   induction l with
   | nil=>intro n _ h; simpa [tszs] using h
   | cons k l ihl =>
    intro n hl hn
    rw [tszs]
    by_cases h1 : 4000 < n
    ·rw [if_pos h1]; exact hn
    ·rw [if_neg h1]
     have:=hl k (by simp)
     have hm:=more_le (tsz k)
     exact ihl _ (fun x hx=>hl x (by simp [hx])) (by omega)
  rw [tsz]
  refine key ks b.size (fun k hkm=>?_) (by omega)
  obtain ⟨i, hi, rfl⟩:=List.getElem_of_mem hkm
  exact tsz_bound (hk i hi)
end Go.Proofs.YtbdpkfgllnbheaaGreatDoor.Be
namespace Go.Proofs.YtbdpkfgllnbheaaGreatDoor.Be
inductive Res where
 | bad (p x : Nat)
 | ok (e : El) (n : Nat)
inductive RK where
 | bad (p x : Nat)
 | ok (ks : List El)
def rdHead (inner : Bool) (l : List UInt8) : Nat × Nat × Nat :=
 let x:=if (Sp.hd l).2.2 = 0 ∧ l.length < (Sp.hd l).1 + (Sp.hd l).2.1 then 10 else (Sp.hd l).2.2
 ((Sp.hd l).1, (Sp.hd l).2.1, if x = 10 ∧ inner = true then 11 else x)
def rdKids (r : List UInt8 → Nat → Res) : Nat → List UInt8 → Nat → RK
 | 0, _, _=>.ok []
 | N + 1, l, a =>
  if l.length = 0 then .ok [] else
  match r l a with
  | .bad p x=>.bad p x
  | .ok e n =>
   match rdKids r N (l.drop n) (a + n) with
   | .bad p x=>.bad p x
   | .ok es=>.ok (e :: es)
def rd : Nat → List UInt8 → Nat → Res
 | 0, _, a=>.bad a 12
 | f + 1, l, a =>
  let q:=rdHead (decide (f + 1 < 20)) l
  if q.2.2 ≠ 0 then .bad a q.2.2 else
  if (l.headD 0).toNat / 32 % 2 = 0 then .ok (.mk (l.headD 0).toNat ⟨((l.drop q.1).take q.2.1).toArray⟩ []) (q.1 + q.2.1) else
  match rdKids (rd f) q.2.1 ((l.drop q.1).take q.2.1) (a + q.1) with
  | .bad p x=>.bad p x
  | .ok ks=>.ok (.mk (l.headD 0).toNat ⟨#[]⟩ ks) (q.1 + q.2.1)
def pre (done : List El) : RK → RK
 | .bad p x=>.bad p x
 | .ok ks=>.ok (done ++ ks)
theorem pre_nil (r : RK) : pre [] r = r:=by cases r <;> simp [pre]
theorem hd_ok {l : List UInt8} {h n : Nat} (e : Sp.hd l = (h, n, 0)) : 2 ≤ h ∧ h ≤ 6 ∧ h ≤ l.length ∧ n ≤ 4000:=by
 cases l with
 | nil=>simp [Sp.hd] at e
 | cons t r =>
  by_cases h1 : t.toNat % 32 = 31
  ·simp [Sp.hd, h1] at e
  cases r with
  | nil=>simp [Sp.hd, h1] at e
  | cons b r =>
   by_cases h2 : b.toNat < 128
   ·simp only [Sp.hd, h1, h2, if_true, if_false, Prod.mk.injEq] at e
    simp; omega
   by_cases h3 : b.toNat = 128 ∨ 132 < b.toNat
   ·simp [Sp.hd, h1, h2, h3] at e
   by_cases h4 : r.length < b.toNat - 128
   ·simp [Sp.hd, h1, h2, h3, h4] at e
   by_cases h5 : 4000 < Sp.num (r.take (b.toNat - 128))
   ·simp [Sp.hd, h1, h2, h3, h4, h5] at e
   ·simp only [Sp.hd, h1, h2, h3, h4, h5, if_false, Prod.mk.injEq] at e
    simp; omega
theorem rdHead_ok {inner : Bool} {l : List UInt8} {h n : Nat} (e : rdHead inner l = (h, n, 0)) : Sp.hd l = (h, n, 0) ∧ h + n ≤ l.length:=by
 simp only [rdHead, Prod.mk.injEq] at e
 obtain ⟨e1, e2, e3⟩:=e
 by_cases c : (Sp.hd l).2.2 = 0 ∧ l.length < (Sp.hd l).1 + (Sp.hd l).2.1
 ·rw [if_pos c] at e3
  cases inner <;> simp at e3
 ·rw [if_neg c] at e3
  have e4 : (Sp.hd l).2.2 = 0:=by
   by_cases c2 : (Sp.hd l).2.2 = 10 ∧ inner = true
   ·rw [if_pos c2] at e3; omega
   ·rw [if_neg c2] at e3; exact e3
  refine ⟨?_, by omega⟩
  rw [← e1, ← e2, ← e4]
theorem rdHead_fit {i : Bool} {l : List UInt8} {h n : Nat} (e : Sp.hd l = (h, n, 0)) (hf : h + n ≤ l.length) : rdHead i l = (h, n, 0):=by
 have h1 : ¬ l.length < h + n:=by omega
 simp [rdHead, e, h1]
theorem rdHead_past {i : Bool} {l : List UInt8} {h n : Nat} (e : Sp.hd l = (h, n, 0)) (hf : l.length < h + n) : rdHead i l = (h, n, if i = true then 11 else 10):=by
 simp [rdHead, e, hf]
theorem rdHead_short {i : Bool} {l : List UInt8} {h n : Nat} (e : Sp.hd l = (h, n, 10)) : rdHead i l = (h, n, if i = true then 11 else 10):=by
 unfold rdHead
 rw [e]
 simp
theorem rdHead_other {i : Bool} {l : List UInt8} {h n x : Nat} (e : Sp.hd l = (h, n, x)) (h0 : x ≠ 0) (h10 : x ≠ 10) : rdHead i l = (h, n, x):=by
 simp [rdHead, e, h0, h10]
theorem rd_ok : ∀ {f : Nat} {l : List UInt8} {a : Nat} {e : El} {n : Nat}, rd f l a = .ok e n → 2 ≤ n ∧ n ≤ l.length
 | 0, l, a, e, n, h=>by simp [rd] at h
 | f + 1, l, a, e, n, h=>by
  have key : ∃ hh nn, rdHead (decide (f + 1 < 20)) l = (hh, nn, 0) ∧ n = hh + nn:=by
   simp only [rd] at h
   by_cases c : (rdHead (decide (f + 1 < 20)) l).2.2 = 0
   ·refine ⟨_, _, by rw [← c], ?_⟩
    rw [if_neg (by simpa using c)] at h
    split at h
    ·injection h with _ h2; exact h2.symm
    ·split at h
     ·simp at h
     ·injection h with _ h2; exact h2.symm
   ·rw [if_pos c] at h
    simp at h
  obtain ⟨hh, nn, hq, rfl⟩:=key
  obtain ⟨h1, h2⟩:=rdHead_ok hq
  have:=hd_ok h1
  omega
theorem rdKids_bad {r : List UInt8 → Nat → Res} (hr : ∀ l a p x, r l a = .bad p x → x ≠ 0) : ∀ {N : Nat} {l : List UInt8} {a p x : Nat}, rdKids r N l a = .bad p x → x ≠ 0
 | 0, l, a, p, x, h=>by simp [rdKids] at h
 | N + 1, l, a, p, x, h=>by
  rw [rdKids] at h
  split at h
  ·simp at h
  ·split at h
   ·rename_i p' x' hx
    injection h with h1 h2
    subst h2
    exact hr _ _ _ _ hx
   ·split at h
    ·rename_i p' x' hx
     injection h with h1 h2
     subst h2
     exact rdKids_bad hr hx
    ·simp at h
theorem rd_bad : ∀ {f : Nat} {l : List UInt8} {a p x : Nat}, rd f l a = .bad p x → x ≠ 0
 | 0, l, a, p, x, h=>by
  simp only [rd, Res.bad.injEq] at h
  omega
 | f + 1, l, a, p, x, h=>by
  simp only [rd] at h
  split at h
  ·rename_i hx
   injection h with h1 h2
   subst h2
   exact hx
  ·split at h
   ·simp at h
   ·split at h
    ·rename_i p' x' hx
     injection h with h1 h2
     subst h2
     exact rdKids_bad (fun l a p x=>rd_bad) hx
    ·simp at h
theorem extract_mk (s : ByteArray) (i j : Nat) : s.extract i j = ⟨((s.data.toList.drop i).take (j - i)).toArray⟩:=by
 apply ByteArray.ext
 apply Array.toList_inj.1
 rw [Go.Lib.extract_data]
theorem take_drop_eq (l : List UInt8) (i n : Nat) : (l.take (i + n)).drop i = (l.drop i).take n:=by
 rw [List.drop_take]
 congr 1
 omega
end Go.Proofs.YtbdpkfgllnbheaaGreatDoor.Be
namespace Go.Proofs.YtbdpkfgllnbheaaGreatDoor.Be
open Go.RowKit
theorem conv_own (w : World) (base : Nat) (v : Value) (n : Nat) (xs : List Int) (h : w.ownsRow base 5 1 v n (xs.map (Value.int .u8))) (hn : n = xs.length) :
  (convert 36 9 v).run Tryz.prog w = .ok (.string (strOfNums xs)) w:=by
 subst hn
 rcases h.2 with ⟨rfl, h0⟩ | ⟨g, cap, cur, rfl, hg, hh, hc, hm, hs, ht⟩
 ·have : xs = []:=List.eq_nil_of_length_eq_zero h0
  subst this
  exact run_convert_bytes_nil (P:=Tryz.prog) w 36 5 Tryz.underlying36 Tryz.underlying5 0 0 9 Tryz.underlying9
 ·refine run_convert_bytes_arg (P:=Tryz.prog) w 36 5 Tryz.underlying36 Tryz.underlying5 g 0 xs.length cap xs rfl (fun i hi=>?_) 9 Tryz.underlying9
  rw [Nat.zero_add, cell_of_row w g i cur _ _ hh]
  have h1 : (cur.toList.take (xs.length * 1))[i]? = some (.int .u8 (xs.getD i 0)):=by
   rw [ht, List.getElem?_map, List.getElem?_eq_getElem hi]
   simp [List.getD, List.getElem?_eq_getElem hi]
  rw [List.getElem?_take_of_lt (by omega)] at h1
  simpa using h1
theorem isCons_eq (t : Nat) (h : t ≤ 255) : (bits .and .u8 (t : Int) 32 != 0) = decide (t / 32 % 2 = 1):=by
 have h1 : bits .and .u8 (t : Int) 32 = ((t &&& 32 : Nat) : Int):=u8_and_nat t 32 (by omega) (by omega)
 have h2 : t &&& 32 = t / 32 % 2 * 32:=nat_bit 5 t
 rw [h1, h2, Bool.eq_iff_iff]
 simp
 omega
def errV (e : El) : Nat:=if formed e = false then 14 else if 20 < dep e then 12 else if 4000 < bodyLen e then 13 else 0
theorem wr_err (e : El) : (wr e).2 = errV e:=by
 unfold wr errV
 split
 ·rfl
 ·split
  ·rfl
  ·split <;> rfl
theorem wr_bytes (e : El) : (wr e).1 = if errV e = 0 then enc e else []:=by
 unfold wr errV
 split
 ·simp
 ·split
  ·simp
  ·split <;> simp
def wrV (e : El) : Value:=.tuple #[.string ⟨(wr e).1.toArray⟩, .int .i64 (wr e).2]
theorem own_past {w w' : World} {base : Nat} {e : TypeId} {size : Nat} {v : Value} {n : Nat} {xs : List Value} (h : w.ownsRow base e size v n xs) (hb : Below w.heap.size w w') : w'.ownsRow base e size v n xs:=by
 obtain ⟨h1, h2⟩:=h
 refine ⟨h1, ?_⟩
 rcases h2 with h2 | ⟨g, cap, cur, hv, hg, hh, r⟩
 ·exact Or.inl h2
 ·have hlt : g < w.heap.size:=by
   rcases Nat.lt_or_ge g w.heap.size with h' | h'
   ·exact h'
   ·simp [Array.getElem?_eq_none h'] at hh
  exact Or.inr ⟨g, cap, cur, hv, hg, (hb.block g hlt).trans hh, r⟩
end Go.Proofs.YtbdpkfgllnbheaaGreatDoor.Be
namespace Go.Proofs.YtbdpkfgllnbheaaGreatDoor.Be
open Go.RowKit
theorem bSize : (Tryz.prog.info? 106).map (·.size) = some 2:=by kernel_rfl
theorem bByte : (Tryz.prog.info? 5).map (fun i=>(i.zero, i.size, i.bytes)) = some (some (.int .u8 0), 1, 1):=by kernel_rfl
theorem bLies : liesAt Tryz.prog Tryz.prog.depth 106 (2 / Tryz.prog.cellsOf 106) 0 106 1 = true:=by kernel_rfl
set_option maxHeartbeats 1000000 in
theorem check_used (b : Nat) (w : World) (h0 : w.cell? ⟨b, 0, none⟩ = some (.pointer (some ⟨b, 0, none⟩))) :
  Calls Tryz.prog 113 #[.pointer (some ⟨b, 0, none⟩)] w fun e w'=>e = .returned (.tuple #[]) ∧ w' = w:=by
 obtain ⟨j, hj, _⟩:=Option.map_eq_some_iff.1 bSize
 go_enter Tryz.func113, Tryz.ntmps113
 go_wp2
 rw [Lib.run_neq_ptr_same w _ Tryz.underlying104 hj]
 go_wp2
 go_end0
 exact ⟨rfl, rfl⟩
set_option maxHeartbeats 1000000 in
theorem check_fresh (b : Nat) (w : World) (h0 : w.cell? ⟨b, 0, none⟩ = some (.pointer none)) (hsh : w.shape? b = some (106, 2)) (hfz : w.frozen? ⟨b, 0, none⟩ = false) :
  Calls Tryz.prog 113 #[.pointer (some ⟨b, 0, none⟩)] w fun e w'=>e = .returned (.tuple #[]) ∧ w' = w.setCell ⟨b, 0, none⟩ (.pointer (some ⟨b, 0, none⟩)):=by
 obtain ⟨j, hj, hjs⟩:=Option.map_eq_some_iff.1 bSize
 go_enter Tryz.func113, Tryz.ntmps113
 go_wp2
 rw [Lib.run_to_unsafe w ⟨b, 0, none⟩ Tryz.underlying104 Tryz.underlying173 hj (by rw [hjs]; decide) hsh (Nat.zero_lt_succ 1)]
 simp only [Result.andThen]
 rw [Oper.upon_value]
 go_wp2
 rw [run_callFunc_extern Tryz.func139 (by kernel_rfl) (by kernel_rfl) (by kernel_rfl) (e:=Extern.AbiNoEscape.same) (by kernel_rfl)]
 rw [Lib.run_noEscape]
 simp only [Result.andThen]
 rw [Oper.upon_value]
 go_wp2
 rw [Lib.run_from_unsafe w ⟨b, 0, none⟩ Tryz.underlying173 Tryz.underlying104 hj hsh bLies]
 simp only [Result.andThen]
 rw [Oper.upon_value]
 go_wp2
 go_end0
 exact ⟨rfl, rfl⟩
def Bld (B b : Nat) (l : List UInt8) (w : World) : Prop:=Lib.IsBuilder 106 5 B b (Lib.byteCells l) w
theorem check_any (B b : Nat) (l : List UInt8) (w : World) (h : Bld B b l w) :
  Calls Tryz.prog 113 #[.pointer (some ⟨b, 0, none⟩)] w fun e w'=>e = .returned (.tuple #[]) ∧
   (Lib.BuilderAt 106 5 B b (.pointer (some ⟨b, 0, none⟩)) (Lib.byteCells l) w' ∧ Below B w w'):=by
 rcases h with h | h
 ·refine (check_fresh b w h.cell0 h.shape h.frozen0).mono ?_
  rintro e w' ⟨rfl, rfl⟩
  exact ⟨rfl, h.used _, (Below.refl B w).setCell (p:=⟨b, 0, none⟩) h.1 _⟩
 ·refine (check_used b w h.cell0).mono ?_
  rintro e w' ⟨rfl, rfl⟩
  exact ⟨rfl, h, Below.refl B _⟩
set_option maxHeartbeats 2000000 in
theorem bwrite_any (B b : Nat) (l : List UInt8) (s : ByteArray) (w : World) (h : Bld B b l w) (hlen : l.length + s.size ≤ 140737488355328) (hBw : B ≤ w.heap.size) :
  Calls Tryz.prog 78 #[.pointer (some ⟨b, 0, none⟩), .string s] w fun e w'=>e = .returned (.tuple #[.int .i64 s.size, .nilIface]) ∧ (Bld B b (l ++ s.data.toList) w' ∧ Below B w w'):=by
 obtain ⟨i0, hi, hz0, hz1, hz2⟩:=info_parts bByte
 go_enter Tryz.func78, Tryz.ntmps78
 go_wp2_with (go_at_call 113; refine (check_any B b l _ h).mono ?_)
 rintro e w1 ⟨rfl, h1, hb1⟩
 obtain ⟨hB, v, hbk, hown, hne⟩:=h1
 have c0 : w1.cell? ⟨b, 0, none⟩ = some (.pointer (some ⟨b, 0, none⟩)):=by rw [Lib.cell_of_heap hbk]; rfl
 have c1 : w1.cell? ⟨b, 1, none⟩ = some v:=by rw [Lib.cell_of_heap hbk]; rfl
 go_wp2_with (at_builtin; refine Lib.wpList_append_own_string _ rfl _ _ 36 9 rfl B 5 i0 Tryz.underlying36 Tryz.underlying9 hi hz0 hz1 hz2 _ _ _ rfl hown s rfl ?c3 ?c4 ?c5 ?_)
 case c3=>rw [Lib.byteCells_length]; unfold maxLen; omega
 case c4=>rw [Lib.byteCells_length]; omega
 case c5=>have:=hb1.size; omega
 intro v' w2 hown' hgrow _
 have hlt : b < w1.heap.size:=by
  rcases Nat.lt_or_ge b w1.heap.size with h' | h'
  ·exact h'
  ·simp [Array.getElem?_eq_none h'] at hbk
 have hb2 : w2.heap[b]? = some (.cells #[.pointer (some ⟨b, 0, none⟩), v] 106 (0, 0)):=by
  rw [hgrow.block b hlt (fun e=>hne e.symm)]
  exact hbk
 have d0 : w2.cell? ⟨b, 0, none⟩ = some (.pointer (some ⟨b, 0, none⟩)):=by rw [Lib.cell_of_heap hb2]; rfl
 have d1 : w2.cell? ⟨b, 1, none⟩ = some v:=by rw [Lib.cell_of_heap hb2]; rfl
 have f1 : w2.frozen? ⟨b, 1, none⟩ = false:=Lib.frozen_of_heap hb2 1
 obtain ⟨ao, n', cap, rfl⟩ : ∃ ao n' cap, v' = .slice ao n' cap:=by
  rcases hown'.2 with ⟨hv, _⟩ | ⟨g, cap, cur, hv, _⟩
  ·exact ⟨_, _, _, hv⟩
  ·exact ⟨_, _, _, hv⟩
 go_wp2
 go_ret2
 refine ⟨rfl, ?_, ?_⟩
 ·have hx : Lib.byteCells (l ++ s.data.toList) = Lib.byteCells l ++ Lib.strCells s:=by rw [Lib.byteCells_append, Lib.strCells_eq]
  show Lib.IsBuilder _ _ _ _ _ _
  rw [hx]
  exact Or.inr (Lib.BuilderAt.put (T:=106) (e:=5) hB hb2 (bs':=Lib.byteCells l ++ Lib.strCells s) (by simpa [Lib.strCells_length] using hown') (by decide))
 ·exact (hb1.grown hgrow (by have:=hb1.size; omega) (fun k hk=>(hown.lt k hk).1)).setCell (p:=⟨b, 1, none⟩) hB _
theorem one_new (w : World) (u : Value) (t : TypeId) (g : Nat) (hg : g = w.heap.size) : ∀ (j : Nat) (v : Value), [u][j]? = some v → (w.alloc (.cells #[u] t)).cell? ((⟨g, 0, none⟩ : Addr).add j) = some v:=by
 subst hg
 exact cell_one_new w u t
theorem Bld.past {B b : Nat} {l : List UInt8} {w w' : World} (h : Bld B b l w) (hb : Below w.heap.size w w') : Bld B b l w':=by
 have key : ∀ p, Lib.BuilderAt 106 5 B b p (Lib.byteCells l) w → Lib.BuilderAt 106 5 B b p (Lib.byteCells l) w':=by
  rintro p ⟨hB, v, hbk, hown, hne⟩
  have hlt : b < w.heap.size:=by
   rcases Nat.lt_or_ge b w.heap.size with h' | h'
   ·exact h'
   ·simp [Array.getElem?_eq_none h'] at hbk
  exact ⟨hB, v, (hb.block b hlt).trans hbk, own_past hown hb, hne⟩
 rcases h with h | h
 ·exact Or.inl (key _ h)
 ·exact Or.inr (key _ h)
theorem Bld.fresh (w : World) : Bld w.heap.size w.heap.size [] (w.alloc (.cells #[.pointer none, .slice none 0 0] 106)):=Lib.fresh_isBuilder _ _ w
theorem Bld.drew {B b : Nat} {l : List UInt8} {w : World} (h : Bld B b l w) : Bld B b l w.drew:=h
theorem Bld.alloc {B b : Nat} {l : List UInt8} {w : World} (h : Bld B b l w) (o : Obj) : Bld B b l (w.alloc o):=h.past ((Below.refl _ _).alloc (Nat.le_refl _) o)
theorem blen_any (B b : Nat) (l : List UInt8) (w : World) (h : Bld B b l w) :
  Calls Tryz.prog 80 #[.pointer (some ⟨b, 0, none⟩)] w fun e w'=>e = .returned (.int .i64 l.length) ∧ w = w':=by
 refine (Tryz.Builder_Len B b _ w h).mono ?_
 rintro e w' ⟨rfl, rfl⟩
 exact ⟨by rw [Lib.byteCells_length], rfl⟩
theorem bstring_any (B b : Nat) (l : List UInt8) (w : World) (h : Bld B b l w) (hBw : B ≤ w.heap.size) :
  Calls Tryz.prog 81 #[.pointer (some ⟨b, 0, none⟩)] w fun e w'=>e = .returned (.string ⟨l.toArray⟩) ∧ Below B w w':=Tryz.Builder_String_any B b l w h hBw
set_option maxHeartbeats 400000 in
theorem clone_any (s : ByteArray) (w : World) (h : s.size ≤ 281474976710656) :
  Calls Tryz.prog 65 #[.string s] w fun e w'=>e = .returned (.string s) ∧ Below w.heap.size w w':=by
 go_enter Tryz.func65, Tryz.ntmps65
 go_wp2_with (go_at_call 101; refine (Tryz.stringslite_Clone s _ h).mono ?_; rintro e w' ⟨rfl, hb⟩)
 go_ret
 exact ⟨rfl, by assumption⟩
end Go.Proofs.YtbdpkfgllnbheaaGreatDoor.Be
