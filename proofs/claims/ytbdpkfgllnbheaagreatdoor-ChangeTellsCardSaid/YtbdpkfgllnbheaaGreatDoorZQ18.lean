import Derived.Test.YtbdpkfgllnbheaaGreatDoorZQ15
import Derived.Test.YtbdpkfgllnbheaaGreatDoorZQ17
import Derived.Test.YtbdpkfgllnbheaaGreatDoorZQ16
set_option linter.unusedVariables false
set_option maxRecDepth 100000
namespace Go.Proofs.YtbdpkfgllnbheaaGreatDoor.Ch
open Go.RowKit
def Flag (w : World) (b : Bool) (r : Ending) (w' : World) : Prop:=r = .returned (.bool b) ∧ Below w.heap.size w w'
def Told' (w : World) (n : Int) (r : Ending) (w' : World) : Prop:=r = .returned (.int .i64 n) ∧ Below w.heap.size w w'
def Few (e : Be.El) : Prop:=∃ d, Be.fitS 10000 10000 d e = true
theorem few_noE : Few noE:=⟨1, by kernel_rfl⟩
theorem Few.open_ {t : Nat} {b : ByteArray} {ks : List Be.El} (h : Few (.mk t b ks)) : ks.length ≤ 10000 ∧ b.size ≤ 10000 ∧ ∀ k ∈ ks, Few k:=by
 obtain ⟨d, h⟩:=h
 cases d with
 | zero=>exact absurd h (by simp [Be.fitS])
 | succ d =>
  simp only [Be.fitS, Bool.and_eq_true, decide_eq_true_eq, List.all_eq_true] at h
  exact ⟨h.1, h.2.1, fun k hk=>⟨d, h.2.2 k hk⟩⟩
theorem Few.len {e : Be.El} (h : Few e) : (kidsE e).length ≤ 10000:=by cases e; exact h.open_.1
theorem Few.body {e : Be.El} (h : Few e) : (bodyE e).size ≤ 10000:=by cases e; exact h.open_.2.1
theorem Few.kid {e : Be.El} (h : Few e) (i : Nat) : Few (kidE e i):=by
 cases e with
 | mk t b ks =>
  show Few (ks.getD i noE)
  rw [List.getD_eq_getElem?_getD]
  by_cases hi : i < ks.length
  ·rw [List.getElem?_eq_getElem hi]; exact h.open_.2.2 _ (List.getElem_mem hi)
  ·rw [List.getElem?_eq_none (by omega)]; exact few_noE
theorem Few.text {e : Be.El} (h : Few e) (i : Nat) : (textAt e i).size ≤ 10000:=(h.kid i).body
def KidV (w : World) (e : Be.El) (r : Ending) (w' : World) : Prop :=
 ∃ (t : Nat) (b : ByteArray) (A : Option Addr) (n c : Nat), r = .returned (.agg #[.int .u8 (t : Nat), .string b, .slice A n c]) ∧ Below w.heap.size w w' ∧ Be.Lies w (· < w.heap.size) e [.int .u8 (t : Nat), .string b, .slice A n c]
theorem lies_noE (w : World) (P : Nat → Prop) : Be.Lies w P noE [.int .u8 (0 : Nat), .string ⟨#[]⟩, .slice none 0 0]:=Be.Lies.leaf (by decide) (by decide)
theorem Lies_cells {w : World} {P : Nat → Prop} {e : Be.El} {cs : List Value} (h : Be.Lies w P e cs) : ∃ (A : Option Addr) (c : Nat), cs = [.int .u8 (tagE e : Nat), .string (bodyE e), .slice A (kidsE e).length c]:=by
 cases e
 obtain ⟨A, c, ds, hcs, _⟩:=h.open_
 exact ⟨A, c, hcs⟩
theorem two_below (w : World) (a b : Array Value) (s t : TypeId) : Below w.heap.size w ((w.alloc (.cells a s)).alloc (.cells b t)) :=
 ((Below.refl w.heap.size w).alloc (Nat.le_refl _) (.cells a s)).alloc (by simp) (.cells b t)
theorem new2 (w : World) (a b : Array Value) (s t : TypeId) : Blk ((w.alloc (.cells a s)).alloc (.cells b t)) (w.heap.size + 1) t b:=by
 have B:=Blk.new (w.alloc (.cells a s)) t b
 rwa [show (w.alloc (.cells a s)).heap.size = w.heap.size + 1 by simp] at B
set_option maxHeartbeats 2000000 in
theorem kid_any (e : Be.El) (i : Nat) (t : Nat) (b : ByteArray) (A : Option Addr) (n c : Nat) (w : World) (hL : Be.Lies w (· < w.heap.size) e [.int .u8 (t : Nat), .string b, .slice A n c]) :
  Calls Tryz.prog 73 #[.agg #[.int .u8 (t : Nat), .string b, .slice A n c], .int .i64 i] w (KidV w (kidE e i)):=by
 obtain ⟨t', b', ks⟩:=e
 obtain ⟨A', c', ds, hcs, _, _, hl, hK⟩:=hL.open_
 simp only [List.cons.injEq, and_true, Value.slice.injEq] at hcs
 obtain ⟨-, -, rfl, rfl, rfl⟩:=hcs
 have hb0:=((Below.refl w.heap.size w).alloc (Nat.le_refl _) (.cells #[.int .u8 (t : Nat), .string b, .slice A ks.length c] 53)).alloc (by simp) (.cells #[.int .u8 0, .string ⟨#[]⟩, .slice none 0 0] 53)
 have hz : (w.alloc (.cells #[.int .u8 (t : Nat), .string b, .slice A ks.length c] 53)).heap.size = w.heap.size + 1:=by simp
 have B1:=Blk.new (w.alloc (.cells #[.int .u8 (t : Nat), .string b, .slice A ks.length c] 53)) 53 #[.int .u8 0, .string ⟨#[]⟩, .slice none 0 0]
 rw [hz] at B1
 have g0:=B1.frozen 0
 have g1:=B1.frozen 1
 have g2:=B1.frozen 2
 have c0:=B1.cell 0
 have c1:=B1.cell 1
 have c2:=B1.cell 2
 have HB:=Lib.hid B1
 have hb:=Lib.hid hb0
 by_cases hi : i < ks.length
 ·obtain ⟨ad, t1, b1, A1, n1, c1', rfl, hp, f0, f1, f2, hL1⟩:=hK.kid5 hb0 hi
  have hE : kidE (.mk t' b' ks) i = ks[i]:=by
   show ks.getD i noE = _
   rw [List.getD_eq_getElem?_getD, List.getElem?_eq_getElem hi]; rfl
  rw [hE]
  have hL2 : Be.Lies w (· < w.heap.size) ks[i] [.int .u8 (t1 : Nat), .string b1, .slice A1 n1 c1']:=by
   obtain ⟨h3, hA, hk⟩:=hK
   obtain ⟨ad', e', hp', hc⟩:=hA (by omega)
   cases e'
   have hx:=hk i hi
   have e0 : ds i = [.int .u8 (t1 : Nat), .string b1, .slice A1 n1 c1']:=by
    match hd : ds i, h3 i hi with
    | [x, y, z], _ =>
     have q0:=(hb0.cell (by rw [block_of_add]; exact hp')).trans (hc i hi 0 x (by rw [hd]; rfl))
     have q1:=(hb0.cell (by rw [block_of_add]; exact hp')).trans (hc i hi 1 y (by rw [hd]; rfl))
     have q2:=(hb0.cell (by rw [block_of_add]; exact hp')).trans (hc i hi 2 z (by rw [hd]; rfl))
     rw [Be.add_one_two _ _ _ (by omega)] at q1 q2
     rw [Nat.add_zero] at q0
     rw [f0] at q0; rw [f1] at q1; rw [f2] at q2
     injection q0 with q0; injection q1 with q1; injection q2 with q2
     rw [q0, q1, q2]
   rw [e0] at hx
   exact hx
  have HL:=Lib.hid hL2
  have hi1 : (i : Int) < ks.length:=by omega
  have hi2 : (0 : Int) ≤ i:=by omega
  clear hL1 hL2 hK hL hE hb0
  go_enter Tryz.func73, Tryz.ntmps73
  go_wp2_with fail
  exact bodyPost_ret (Be.res_el rfl _ _ (w.heap.size + 1) _ _ _ rfl (new2 w _ _ _ _)) rfl ⟨_, _, _, _, _, rfl, two_below w _ _ _ _, HL.out⟩
 ·have hE : kidE (.mk t' b' ks) i = noE:=by
   show ks.getD i noE = _
   rw [List.getD_eq_getElem?_getD, List.getElem?_eq_none (by omega)]; rfl
  rw [hE]
  have hi1 : ¬ (i : Int) < ks.length:=by omega
  clear hK hL hE hb0
  go_enter Tryz.func73, Tryz.ntmps73
  go_wp2_with fail
  exact bodyPost_ret (Be.res_el rfl _ _ (w.heap.size + 1) _ _ _ rfl (new2 w _ _ _ _)) rfl ⟨0, _, _, _, _, rfl, two_below w _ _ _ _, lies_noE _ _⟩
theorem body_any (e : Be.El) (t : Nat) (b : ByteArray) (A : Option Addr) (n c : Nat) (w : World) (hL : Be.Lies w (· < w.heap.size) e [.int .u8 (t : Nat), .string b, .slice A n c]) :
  Calls Tryz.prog 110 #[.agg #[.int .u8 (t : Nat), .string b, .slice A n c]] w fun r w'=>r = .returned (.string (bodyE e)) ∧ Below w.heap.size w w':=by
 obtain ⟨A', c', hcs⟩:=Lies_cells hL
 simp only [List.cons.injEq, and_true, Value.string.injEq] at hcs
 obtain ⟨-, rfl, -⟩:=hcs
 have hb0:=(Below.refl w.heap.size w).alloc (Nat.le_refl _) (.cells #[.int .u8 (t : Nat), .string (bodyE e), .slice A n c] 53)
 generalize bodyE e = b at hb0 ⊢
 clear hL
 go_enter Tryz.func110, Tryz.ntmps110
 go_wp2_with fail
 go_ret
 exact ⟨rfl, hb0⟩
theorem fieldB (x y z : Value) (w : World) : (Instr.field 53 (.agg #[x, y, z]) 1).run Tryz.prog w = .ok y w:=by kernel_rfl
def TextV (w : World) (s : ByteArray) (r : Ending) (w' : World) : Prop:=r = .returned (.string s) ∧ Below w.heap.size w w'
set_option maxHeartbeats 2000000 in
theorem textAt_any (e : Be.El) (i : Nat) (t : Nat) (b : ByteArray) (A : Option Addr) (n c : Nat) (w : World) (hL : Be.Lies w (· < w.heap.size) e [.int .u8 (t : Nat), .string b, .slice A n c]) :
  Calls Tryz.prog 105 #[.agg #[.int .u8 (t : Nat), .string b, .slice A n c], .int .i64 i] w (TextV w (textAt e i)):=by
 have hb0:=(Below.refl w.heap.size w).alloc (Nat.le_refl _) (.cells #[.int .u8 (t : Nat), .string b, .slice A n c] 53)
 have HK:=Lib.hid (kid_any e i t b A n c _ (hL.past hb0))
 have hb:=Lib.hid hb0
 obtain ⟨s, hs⟩ : ∃ s, s = textAt e i:=⟨_, rfl⟩
 rw [← hs]
 have HS:=Lib.hid hs
 clear hL hb0 hs
 go_enter Tryz.func105, Tryz.ntmps105
 go_wp2_with fail
 refine HK.out.mono ?_
 rintro r w1 ⟨t1, b1, A1, n1, c1, rfl, hb1, hL1⟩
 have hs1 : s = b1:=by
  obtain ⟨A', c', hcs⟩:=Lies_cells hL1
  simp only [List.cons.injEq, and_true, Value.string.injEq] at hcs
  rw [HS.out, hcs.2.1]; rfl
 have HS1:=Lib.hid hs1
 have hb2:=hb.out.trans (hb1.mono hb.out.size)
 clear hs1 hL1
 have hfB:=fieldB
 go_wp2_with fail
 go_ret
 exact ⟨by rw [HS1.out]; rfl, hb2⟩
set_option maxHeartbeats 2000000 in
theorem numberAt_any (e : Be.El) (i : Nat) (t : Nat) (b : ByteArray) (A : Option Addr) (n c : Nat) (w : World) (hL : Be.Lies w (· < w.heap.size) e [.int .u8 (t : Nat), .string b, .slice A n c]) :
  Calls Tryz.prog 68 #[.agg #[.int .u8 (t : Nat), .string b, .slice A n c], .int .i64 i] w (Told' w (numAt e i)):=by
 have hb0:=(Below.refl w.heap.size w).alloc (Nat.le_refl _) (.cells #[.int .u8 (t : Nat), .string b, .slice A n c] 53)
 have HK:=Lib.hid (textAt_any e i t b A n c _ (hL.past hb0))
 have HR:=Lib.hid (fun w=>Be.ReadInt_any (textAt e i) w)
 have hn : numAt e i = (Be.rdI (textAt e i).data.toList).getD 0:=rfl
 generalize numAt e i = m at hn ⊢
 generalize textAt e i = s at HK HR hn
 unfold Be.rdV at HR
 rw [← hn] at HR
 have hb:=Lib.hid hb0
 clear hL hb0 hn
 go_enter Tryz.func68, Tryz.ntmps68
 go_wp2_with fail
 refine HK.out.mono ?_
 rintro r w1 ⟨rfl, hb1⟩
 have hb2:=hb.out.trans (hb1.mono hb.out.size)
 go_wp2_with fail
 refine (HR.out _).mono ?_
 rintro r w2 ⟨rfl, hb3⟩
 have hb4:=hb2.trans (hb3.mono hb2.size)
 go_wp2_with fail
 go_ret
 exact ⟨rfl, hb4⟩
set_option maxHeartbeats 2000000 in
theorem flagAt_any (e : Be.El) (i : Nat) (t : Nat) (b : ByteArray) (A : Option Addr) (n c : Nat) (w : World) (hL : Be.Lies w (· < w.heap.size) e [.int .u8 (t : Nat), .string b, .slice A n c]) :
  Calls Tryz.prog 71 #[.agg #[.int .u8 (t : Nat), .string b, .slice A n c], .int .i64 i] w (Flag w (flagAt e i)):=by
 have hb0:=(Below.refl w.heap.size w).alloc (Nat.le_refl _) (.cells #[.int .u8 (t : Nat), .string b, .slice A n c] 53)
 have HK:=Lib.hid (textAt_any e i t b A n c _ (hL.past hb0))
 have HR:=Lib.hid (fun w=>Be.ReadBool_any (textAt e i) w)
 have hn : flagAt e i = (Be.rdB (textAt e i).data.toList).1:=rfl
 generalize flagAt e i = m at hn ⊢
 generalize textAt e i = s at HK HR hn
 rw [← hn] at HR
 have hb:=Lib.hid hb0
 clear hL hb0 hn
 go_enter Tryz.func71, Tryz.ntmps71
 go_wp2_with fail
 refine HK.out.mono ?_
 rintro r w1 ⟨rfl, hb1⟩
 have hb2:=hb.out.trans (hb1.mono hb.out.size)
 go_wp2_with fail
 refine (HR.out _).mono ?_
 rintro r w2 ⟨rfl, rfl⟩
 go_wp2_with fail
 go_ret
 exact ⟨rfl, hb2⟩
theorem fits_kids {f : Nat} (ih : ∀ l a e n, Be.rd f l a = .ok e n → Be.fitS 4000 4000 (f + 1) e = true) : ∀ (N : Nat) (l : List UInt8) (a : Nat) (ks : List Be.El), Be.rdKids (Be.rd f) N l a = .ok ks → ks.length ≤ N ∧ ∀ k ∈ ks, Be.fitS 4000 4000 (f + 1) k = true
 | 0, l, a, ks, h=>by
  simp only [Be.rdKids, Be.RK.ok.injEq] at h
  subst h
  exact ⟨by simp, by simp⟩
 | N + 1, l, a, ks, h=>by
  rw [Be.rdKids] at h
  split at h
  ·injection h with h; subst h; exact ⟨by simp, by simp⟩
  ·split at h
   ·cases h
   ·rename_i e n he
    split at h
    ·cases h
    ·rename_i es hes
     injection h with h
     subst h
     obtain ⟨h1, h2⟩:=fits_kids ih N _ _ _ hes
     refine ⟨by simp; omega, fun k hk=>?_⟩
     rcases List.mem_cons.1 hk with rfl | hk
     ·exact ih _ _ _ _ he
     ·exact h2 k hk
theorem rd_fits : ∀ (f : Nat) (l : List UInt8) (a : Nat) (e : Be.El) (n : Nat), Be.rd f l a = .ok e n → Be.fitS 4000 4000 (f + 1) e = true
 | 0, l, a, e, n, h=>by simp [Be.rd] at h
 | f + 1, l, a, e, n, h=>by
  simp only [Be.rd] at h
  split at h
  ·cases h
  ·rename_i hq
   have hq0 : (Be.rdHead (decide (f + 1 < 20)) l).2.2 = 0:=by simpa using hq
   have hok:=Be.rdHead_ok (inner:=decide (f + 1 < 20)) (l:=l) (h:=(Be.rdHead (decide (f + 1 < 20)) l).1) (n:=(Be.rdHead (decide (f + 1 < 20)) l).2.1) (by rw [← hq0])
   have hb:=Be.hd_ok hok.1
   split at h
   ·injection h with h1 h2
    subst h1
    simp only [Be.fitS, Bool.and_eq_true, decide_eq_true_eq, List.all_nil, and_true]
    refine ⟨by simp, ?_⟩
    show ((l.drop _).take _).length ≤ 4000
    rw [List.length_take]
    omega
   ·split at h
    ·cases h
    ·rename_i ks hks
     injection h with h1 h2
     subst h1
     obtain ⟨h3, h4⟩:=fits_kids (fun l a e n=>rd_fits f l a e n) _ _ _ _ hks
     simp only [Be.fitS, Bool.and_eq_true, decide_eq_true_eq, List.all_eq_true]
     exact ⟨by omega, by decide, h4⟩
theorem rd_few {s : List UInt8} {a : Nat} {e : Be.El} {n : Nat} (h : Be.rd 20 s a = .ok e n) : Few e:=⟨21, Be.fitS_more (by decide) (by decide) (Nat.le_refl _) (rd_fits 20 s a e n h)⟩
end Go.Proofs.YtbdpkfgllnbheaaGreatDoor.Ch
namespace Go.Proofs.YtbdpkfgllnbheaaGreatDoor.Ch
open Go.RowKit
def fwMo (d : Mo) : Prop:=d.attr.size ≤ 30 ∧ d.vals.length ≤ 20 ∧ ∀ s ∈ d.vals, s.size ≤ 80
def fwMs (l : List Mo) : Prop:=l.length ≤ 14 ∧ ∀ d ∈ l, fwMo d
def fwR (r : List Nm.Ava) : Prop:=r.length ≤ 6 ∧ ∀ a ∈ r, a.1.size ≤ 30 ∧ a.2.size ≤ 80
def fwG (c : Cg) : Prop:=fwMs c.mods ∧ fwR c.rdn
def FlagIf (w : World) (P : Prop) (r : Ending) (w' : World) : Prop:=∃ b : Bool, r = .returned (.bool b) ∧ (b = true → P) ∧ Below w.heap.size w w'
theorem all_more {α : Type} {P : α → Prop} {l : List α} {q : Nat} (h : ∀ d ∈ l.take q, P d) (hq : q < l.length) (h1 : P l[q]) : ∀ d ∈ l.take (q + 1), P d:=by
 intro d hd
 rw [List.take_succ_eq_append_getElem hq] at hd
 rcases List.mem_append.1 hd with h2 | h2
 ·exact h d h2
 ·rw [List.mem_singleton.1 h2]; exact h1
set_option maxHeartbeats 4000000 in
theorem fewMods_any (A : Option Addr) (c : Nat) (l : List Mo) (ds : Nat → List Value) (w : World) (hl : l.length ≤ maxLen) (hM : MosAt w (· < w.heap.size) A l ds) :
  Calls Tryz.prog 17 #[.slice A l.length c] w (FlagIf w (fwMs l)):=by
 unfold maxLen at hl
 have HM:=Lib.hid hM
 clear hM
 go_enter Tryz.func17, Tryz.ntmps17
 go_wp2_with fail
 go_loopw [3] (fun i wr=>∃ q : Nat, q ≤ l.length ∧ i = .int .i64 q ∧ w = wr ∧ Hid (∀ d ∈ l.take q, fwMo d)) (fun i wr=>l.length - (intOf i).toNat)
 case atStart=>exact ⟨0, Nat.zero_le _, rfl, rfl, fun d hd=>by simp at hd⟩
 case round =>
  obtain ⟨q, hq, rfl, rfl, hT⟩:=hrel
  by_cases hlt : q < l.length
  ·obtain ⟨ad, V, vc, rfl, hp, f0, f1, f2, hL⟩:=HM.out.kid (Below.refl _ _) hlt
   obtain ⟨V1, vc1, ev, _, lv, _, hV, _⟩:=hL
   simp only [List.cons.injEq, Value.slice.injEq, true_and, and_true] at ev
   obtain ⟨rfl, rfl⟩:=ev
   have HN:=Lib.hid (fun h1=>all_more (P:=fwMo) hT.out hlt h1)
   generalize l[q] = d at f0 f1 f2 hV lv HN
   obtain ⟨dk, da, dv⟩:=d
   simp only at f0 f1 f2 hV lv
   unfold maxLen at lv
   have HV:=Lib.hid hV
   clear f0 hV
   rcases (by omega : (30 < (da.size : Int)) ∨ ((da.size : Int) ≤ 30 ∧ 20 < (dv.length : Int)) ∨ ((da.size : Int) ≤ 30 ∧ (dv.length : Int) ≤ 20)) with h1 | ⟨h1, h2⟩ | ⟨h1, h2⟩
   ·go_wp2_with fail
    go_ret
    exact ⟨false, rfl, (fun h=>nomatch h), Below.refl _ _⟩
   ·go_wp2_with fail
    go_ret
    exact ⟨false, rfl, (fun h=>nomatch h), Below.refl _ _⟩
   ·go_wp2_with fail
    go_loopw [4] (fun i wr=>∃ p : Nat, p ≤ dv.length ∧ i = .int .i64 p ∧ w = wr ∧ Hid (∀ s ∈ dv.take p, s.size ≤ 80)) (fun i wr=>dv.length - (intOf i).toNat)
    case atStart=>exact ⟨0, Nat.zero_le _, rfl, rfl, fun d hd=>by simp at hd⟩
    case round =>
     obtain ⟨p, hp2, rfl, rfl, hS⟩:=hrel
     by_cases hlt2 : p < dv.length
     ·obtain ⟨ad2, rfl, hp3, hc3⟩:=HV.out (by omega)
      have g0:=hc3 p hlt2
      have HS:=Lib.hid (fun h1=>all_more (P:=fun s : ByteArray=>s.size ≤ 80) hS.out hlt2 h1)
      generalize dv[p] = s at g0 HS
      clear hc3
      by_cases h80 : 80 < (s.size : Int)
      ·go_wp2_with fail
       go_ret
       exact ⟨false, rfl, (fun h=>nomatch h), Below.refl _ _⟩
      ·have h80' : (s.size : Int) ≤ 80:=by omega
       have HS2:=Lib.hid (HS.out (by omega))
       clear h80
       go_wp2_with fail
       exact ⟨⟨p + 1, by omega, by go_num, trivial, HS2⟩, by simp [intOf]; omega⟩
     ·obtain rfl : p = dv.length:=by omega
      have HS2:=Lib.hid (HN.out ⟨by show da.size ≤ 30; omega, by show dv.length ≤ 20; omega, by have:=hS.out; rwa [List.take_length] at this⟩)
      clear hlt2 hp2
      go_wp2_with fail
      exact ⟨⟨q + 1, by omega, by go_num, trivial, HS2⟩, by simp [intOf]; omega⟩
  ·obtain rfl : q = l.length:=by omega
   have HT:=Lib.hid (show ∀ d ∈ l, fwMo d by have:=hT.out; rwa [List.take_length] at this)
   clear hT
   go_wp2_with fail
   go_ret
   exact ⟨_, rfl, fun h=>⟨by have:=of_decide_eq_true h; omega, HT.out⟩, Below.refl _ _⟩
set_option maxHeartbeats 4000000 in
theorem fewRDN_any (A : Option Addr) (c : Nat) (l : List Nm.Ava) (w : World) (hl : l.length ≤ maxLen) (hM : RAt w (· < w.heap.size) A l) :
  Calls Tryz.prog 18 #[.slice A l.length c] w (FlagIf w (fwR l)):=by
 unfold maxLen at hl
 have HM:=Lib.hid hM
 clear hM
 go_enter Tryz.func18, Tryz.ntmps18
 go_wp2_with fail
 go_loopw [3] (fun i wr=>∃ q : Nat, q ≤ l.length ∧ i = .int .i64 q ∧ w = wr ∧ Hid (∀ d ∈ l.take q, d.1.size ≤ 30 ∧ d.2.size ≤ 80)) (fun i wr=>l.length - (intOf i).toNat)
 case atStart=>exact ⟨0, Nat.zero_le _, rfl, rfl, fun d hd=>by simp at hd⟩
 case round =>
  obtain ⟨q, hq, rfl, rfl, hT⟩:=hrel
  by_cases hlt : q < l.length
  ·obtain ⟨ad, rfl, hp, f0, f1⟩:=HM.out.kid (Below.refl _ _) hlt
   have HN:=Lib.hid (fun h1=>all_more (P:=fun d : Nm.Ava=>d.1.size ≤ 30 ∧ d.2.size ≤ 80) hT.out hlt h1)
   generalize l[q] = d at f0 f1 HN
   obtain ⟨da, dv⟩:=d
   simp only at f0 f1
   rcases (by omega : (30 < (da.size : Int)) ∨ ((da.size : Int) ≤ 30 ∧ 80 < (dv.size : Int)) ∨ ((da.size : Int) ≤ 30 ∧ (dv.size : Int) ≤ 80)) with h1 | ⟨h1, h2⟩ | ⟨h1, h2⟩
   ·go_wp2_with fail
    go_ret
    exact ⟨false, rfl, (fun h=>nomatch h), Below.refl _ _⟩
   ·go_wp2_with fail
    go_ret
    exact ⟨false, rfl, (fun h=>nomatch h), Below.refl _ _⟩
   ·have HS2:=Lib.hid (HN.out ⟨by show da.size ≤ 30; omega, by show dv.size ≤ 80; omega⟩)
    go_wp2_with fail
    exact ⟨⟨q + 1, by omega, by go_num, trivial, HS2⟩, by simp [intOf]; omega⟩
  ·obtain rfl : q = l.length:=by omega
   have HT:=Lib.hid (show ∀ d ∈ l, d.1.size ≤ 30 ∧ d.2.size ≤ 80 by have:=hT.out; rwa [List.take_length] at this)
   clear hT
   go_wp2_with fail
   go_ret
   exact ⟨_, rfl, fun h=>⟨by have:=of_decide_eq_true h; omega, HT.out⟩, Below.refl _ _⟩
set_option maxHeartbeats 1000000 in
theorem few_any (c : Cg) (cs : Array Value) (w : World) (h : GAt w (· < w.heap.size) c cs) : Calls Tryz.prog 8 #[.agg cs] w (FlagIf w (fwG c)):=by
 have B:=Box.new h
 have hb0:=(Below.refl w.heap.size w).alloc (Nat.le_refl _) (.cells cs 28)
 obtain ⟨R, rc, M, mc, ds, rfl, ⟨hR, hl, hrc⟩, hM, hml, hmc⟩:=h
 have hB:=B.1
 have HF:=Lib.hid (fewMods_any M mc c.mods ds _ hml (hM.past hb0))
 have HR:=Lib.hid (fun w1 hb=>fewRDN_any R rc c.rdn w1 hl (hR.past hb))
 have d12:=hB.cell 12
 have HB:=Lib.hid hB
 have Hb:=Lib.hid hb0
 clear B hB hR hM hb0
 go_enter Tryz.func8, Tryz.ntmps8
 go_wp2_with fail
 refine HF.out.mono ?_
 rintro e w1 ⟨b, rfl, hm, hb1⟩
 have hb2:=Hb.out.trans (hb1.mono Hb.out.size)
 have d10:=(HB.out.past hb1).cell 10
 have Hm:=Lib.hid hm
 clear d12 hm
 cases b
 ·go_wp2_with fail
  go_ret
  exact ⟨false, rfl, (fun h=>nomatch h), hb2⟩
 go_wp2_with fail
 refine (HR.out _ hb2).mono ?_
 rintro e w2 ⟨b, rfl, hr, hb3⟩
 have Hr:=Lib.hid hr
 clear hr
 go_wp2_with fail
 go_ret
 exact ⟨b, rfl, fun h=>⟨Hm.out trivial, Hr.out h⟩, hb2.trans (hb3.mono hb2.size)⟩
end Go.Proofs.YtbdpkfgllnbheaaGreatDoor.Ch
