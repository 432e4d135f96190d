import Derived.Test.YtconghaebebncaaGreatDoorZR35
import Derived.Test.YtconghaebebncaaGreatDoorZR36
import Derived.Laws.AppendOwnNone
set_option linter.unusedVariables false
set_option maxRecDepth 100000
namespace Go.Proofs.YtconghaebebncaaGreatDoor.Ms
open Go.RowKit
def Few (e : Be.El) : Prop:=∃ d, Be.fitS 10000 10000 d e = true
theorem few_noE : Few noE:=⟨1, by kernel_rfl⟩
theorem Few.open_ {t : Nat} {b : ByteArray} {ks : List Be.El} (h : Few (.mk t b ks)) : ks.length ≤ 10000 ∧ b.size ≤ 10000 ∧ ∀ k ∈ ks, Few k:=by
 obtain ⟨d, h⟩:=h
 cases d with
 | zero=>exact absurd h (by simp [Be.fitS])
 | succ d =>
  simp only [Be.fitS, Bool.and_eq_true, decide_eq_true_eq, List.all_eq_true] at h
  exact ⟨h.1, h.2.1, fun k hk=>⟨d, h.2.2 k hk⟩⟩
theorem Few.len {e : Be.El} (h : Few e) : (kidsE e).length ≤ 10000:=by cases e; exact h.open_.1
theorem Few.body {e : Be.El} (h : Few e) : (bodyE e).size ≤ 10000:=by cases e; exact h.open_.2.1
theorem Few.kid {e : Be.El} (h : Few e) (i : Nat) : Few (kidE e i):=by
 cases e with
 | mk t b ks =>
  show Few (ks.getD i noE)
  rw [List.getD_eq_getElem?_getD]
  by_cases hi : i < ks.length
  ·rw [List.getElem?_eq_getElem hi]; exact h.open_.2.2 _ (List.getElem_mem hi)
  ·rw [List.getElem?_eq_none (by omega)]; exact few_noE
theorem Few.text {e : Be.El} (h : Few e) (i : Nat) : (textAt e i).size ≤ 10000:=(h.kid i).body
def KidV (w : World) (e : Be.El) (r : Ending) (w' : World) : Prop :=
 ∃ (t : Nat) (b : ByteArray) (A : Option Addr) (n c : Nat), r = .returned (.agg #[.int .u8 (t : Nat), .string b, .slice A n c]) ∧ Below w.heap.size w w' ∧ Be.Lies w (· < w.heap.size) e [.int .u8 (t : Nat), .string b, .slice A n c]
theorem lies_noE (w : World) (P : Nat → Prop) : Be.Lies w P noE [.int .u8 (0 : Nat), .string ⟨#[]⟩, .slice none 0 0]:=Be.Lies.leaf (by decide) (by decide)
theorem Lies_cells {w : World} {P : Nat → Prop} {e : Be.El} {cs : List Value} (h : Be.Lies w P e cs) : ∃ (A : Option Addr) (c : Nat), cs = [.int .u8 (tagE e : Nat), .string (bodyE e), .slice A (kidsE e).length c]:=by
 cases e
 obtain ⟨A, c, ds, hcs, _⟩:=h.open_
 exact ⟨A, c, hcs⟩
theorem two_below (w : World) (a b : Array Value) (s t : TypeId) : Below w.heap.size w ((w.alloc (.cells a s)).alloc (.cells b t)) :=
 ((Below.refl w.heap.size w).alloc (Nat.le_refl _) (.cells a s)).alloc (by simp) (.cells b t)
theorem new2 (w : World) (a b : Array Value) (s t : TypeId) : Blk ((w.alloc (.cells a s)).alloc (.cells b t)) (w.heap.size + 1) t b:=by
 have B:=Blk.new (w.alloc (.cells a s)) t b
 rwa [show (w.alloc (.cells a s)).heap.size = w.heap.size + 1 by simp] at B
set_option maxHeartbeats 2000000 in
theorem kid_any (e : Be.El) (i : Nat) (t : Nat) (b : ByteArray) (A : Option Addr) (n c : Nat) (w : World) (hL : Be.Lies w (· < w.heap.size) e [.int .u8 (t : Nat), .string b, .slice A n c]) :
  Calls Tryz.prog 91 #[.agg #[.int .u8 (t : Nat), .string b, .slice A n c], .int .i64 i] w (KidV w (kidE e i)):=by
 obtain ⟨t', b', ks⟩:=e
 obtain ⟨A', c', ds, hcs, _, _, hl, hK⟩:=hL.open_
 simp only [List.cons.injEq, and_true, Value.slice.injEq] at hcs
 obtain ⟨-, -, rfl, rfl, rfl⟩:=hcs
 have hb0:=((Below.refl w.heap.size w).alloc (Nat.le_refl _) (.cells #[.int .u8 (t : Nat), .string b, .slice A ks.length c] 57)).alloc (by simp) (.cells #[.int .u8 0, .string ⟨#[]⟩, .slice none 0 0] 57)
 have hz : (w.alloc (.cells #[.int .u8 (t : Nat), .string b, .slice A ks.length c] 57)).heap.size = w.heap.size + 1:=by simp
 have B1:=Blk.new (w.alloc (.cells #[.int .u8 (t : Nat), .string b, .slice A ks.length c] 57)) 57 #[.int .u8 0, .string ⟨#[]⟩, .slice none 0 0]
 rw [hz] at B1
 have g0:=B1.frozen 0
 have g1:=B1.frozen 1
 have g2:=B1.frozen 2
 have c0:=B1.cell 0
 have c1:=B1.cell 1
 have c2:=B1.cell 2
 have HB:=Lib.hid B1
 have hb:=Lib.hid hb0
 by_cases hi : i < ks.length
 ·obtain ⟨ad, t1, b1, A1, n1, c1', rfl, hp, f0, f1, f2, hL1⟩:=hK.kid5 hb0 hi
  have hE : kidE (.mk t' b' ks) i = ks[i]:=by
   show ks.getD i noE = _
   rw [List.getD_eq_getElem?_getD, List.getElem?_eq_getElem hi]; rfl
  rw [hE]
  have hL2 : Be.Lies w (· < w.heap.size) ks[i] [.int .u8 (t1 : Nat), .string b1, .slice A1 n1 c1']:=by
   obtain ⟨h3, hA, hk⟩:=hK
   obtain ⟨ad', e', hp', hc⟩:=hA (by omega)
   cases e'
   have hx:=hk i hi
   have e0 : ds i = [.int .u8 (t1 : Nat), .string b1, .slice A1 n1 c1']:=by
    match hd : ds i, h3 i hi with
    | [x, y, z], _ =>
     have q0:=(hb0.cell (by rw [block_of_add]; exact hp')).trans (hc i hi 0 x (by rw [hd]; rfl))
     have q1:=(hb0.cell (by rw [block_of_add]; exact hp')).trans (hc i hi 1 y (by rw [hd]; rfl))
     have q2:=(hb0.cell (by rw [block_of_add]; exact hp')).trans (hc i hi 2 z (by rw [hd]; rfl))
     rw [Be.add_one_two _ _ _ (by omega)] at q1 q2
     rw [Nat.add_zero] at q0
     rw [f0] at q0; rw [f1] at q1; rw [f2] at q2
     injection q0 with q0; injection q1 with q1; injection q2 with q2
     rw [q0, q1, q2]
   rw [e0] at hx
   exact hx
  have HL:=Lib.hid hL2
  have hi1 : (i : Int) < ks.length:=by omega
  have hi2 : (0 : Int) ≤ i:=by omega
  clear hL1 hL2 hK hL hE hb0
  go_enter Tryz.func91, Tryz.ntmps91
  go_wp2_with fail
  exact bodyPost_ret (Be.res_el rfl _ _ (w.heap.size + 1) _ _ _ rfl (new2 w _ _ _ _)) rfl ⟨_, _, _, _, _, rfl, two_below w _ _ _ _, HL.out⟩
 ·have hE : kidE (.mk t' b' ks) i = noE:=by
   show ks.getD i noE = _
   rw [List.getD_eq_getElem?_getD, List.getElem?_eq_none (by omega)]; rfl
  rw [hE]
  have hi1 : ¬ (i : Int) < ks.length:=by omega
  clear hK hL hE hb0
  go_enter Tryz.func91, Tryz.ntmps91
  go_wp2_with fail
  exact bodyPost_ret (Be.res_el rfl _ _ (w.heap.size + 1) _ _ _ rfl (new2 w _ _ _ _)) rfl ⟨0, _, _, _, _, rfl, two_below w _ _ _ _, lies_noE _ _⟩
theorem body_any (e : Be.El) (t : Nat) (b : ByteArray) (A : Option Addr) (n c : Nat) (w : World) (hL : Be.Lies w (· < w.heap.size) e [.int .u8 (t : Nat), .string b, .slice A n c]) :
  Calls Tryz.prog 97 #[.agg #[.int .u8 (t : Nat), .string b, .slice A n c]] w fun r w'=>r = .returned (.string (bodyE e)) ∧ Below w.heap.size w w':=by
 obtain ⟨A', c', hcs⟩:=Lies_cells hL
 simp only [List.cons.injEq, and_true, Value.string.injEq] at hcs
 obtain ⟨-, rfl, -⟩:=hcs
 have hb0:=(Below.refl w.heap.size w).alloc (Nat.le_refl _) (.cells #[.int .u8 (t : Nat), .string (bodyE e), .slice A n c] 57)
 generalize bodyE e = b at hb0 ⊢
 clear hL
 go_enter Tryz.func97, Tryz.ntmps97
 go_wp2_with fail
 go_ret
 exact ⟨rfl, hb0⟩
theorem fieldB (x y z : Value) (w : World) : (Instr.field 57 (.agg #[x, y, z]) 1).run Tryz.prog w = .ok y w:=by kernel_rfl
def TextV (w : World) (s : ByteArray) (r : Ending) (w' : World) : Prop:=r = .returned (.string s) ∧ Below w.heap.size w w'
set_option maxHeartbeats 2000000 in
theorem textAt_any (e : Be.El) (i : Nat) (t : Nat) (b : ByteArray) (A : Option Addr) (n c : Nat) (w : World) (hL : Be.Lies w (· < w.heap.size) e [.int .u8 (t : Nat), .string b, .slice A n c]) :
  Calls Tryz.prog 94 #[.agg #[.int .u8 (t : Nat), .string b, .slice A n c], .int .i64 i] w (TextV w (textAt e i)):=by
 have hb0:=(Below.refl w.heap.size w).alloc (Nat.le_refl _) (.cells #[.int .u8 (t : Nat), .string b, .slice A n c] 57)
 have HK:=Lib.hid (kid_any e i t b A n c _ (hL.past hb0))
 have hb:=Lib.hid hb0
 obtain ⟨s, hs⟩ : ∃ s, s = textAt e i:=⟨_, rfl⟩
 rw [← hs]
 have HS:=Lib.hid hs
 clear hL hb0 hs
 go_enter Tryz.func94, Tryz.ntmps94
 go_wp2_with fail
 refine HK.out.mono ?_
 rintro r w1 ⟨t1, b1, A1, n1, c1, rfl, hb1, hL1⟩
 have hs1 : s = b1:=by
  obtain ⟨A', c', hcs⟩:=Lies_cells hL1
  simp only [List.cons.injEq, and_true, Value.string.injEq] at hcs
  rw [HS.out, hcs.2.1]; rfl
 have HS1:=Lib.hid hs1
 have hb2:=hb.out.trans (hb1.mono hb.out.size)
 clear hs1 hL1
 have hfB:=fieldB
 go_wp2_with fail
 go_ret
 exact ⟨by rw [HS1.out]; rfl, hb2⟩
set_option maxHeartbeats 2000000 in
theorem numberAt_any (e : Be.El) (i : Nat) (t : Nat) (b : ByteArray) (A : Option Addr) (n c : Nat) (w : World) (hL : Be.Lies w (· < w.heap.size) e [.int .u8 (t : Nat), .string b, .slice A n c]) :
  Calls Tryz.prog 92 #[.agg #[.int .u8 (t : Nat), .string b, .slice A n c], .int .i64 i] w (Told' w (numAt e i)):=by
 have hb0:=(Below.refl w.heap.size w).alloc (Nat.le_refl _) (.cells #[.int .u8 (t : Nat), .string b, .slice A n c] 57)
 have HK:=Lib.hid (textAt_any e i t b A n c _ (hL.past hb0))
 have HR:=Lib.hid (fun w=>Be.ReadInt_any (textAt e i) w)
 have hn : numAt e i = (Be.rdI (textAt e i).data.toList).getD 0:=rfl
 generalize numAt e i = m at hn ⊢
 generalize textAt e i = s at HK HR hn
 unfold Be.rdV at HR
 rw [← hn] at HR
 have hb:=Lib.hid hb0
 clear hL hb0 hn
 go_enter Tryz.func92, Tryz.ntmps92
 go_wp2_with fail
 refine HK.out.mono ?_
 rintro r w1 ⟨rfl, hb1⟩
 have hb2:=hb.out.trans (hb1.mono hb.out.size)
 go_wp2_with fail
 refine (HR.out _).mono ?_
 rintro r w2 ⟨rfl, hb3⟩
 have hb4:=hb2.trans (hb3.mono hb2.size)
 go_wp2_with fail
 go_ret
 exact ⟨rfl, hb4⟩
set_option maxHeartbeats 2000000 in
theorem flagAt_any (e : Be.El) (i : Nat) (t : Nat) (b : ByteArray) (A : Option Addr) (n c : Nat) (w : World) (hL : Be.Lies w (· < w.heap.size) e [.int .u8 (t : Nat), .string b, .slice A n c]) :
  Calls Tryz.prog 101 #[.agg #[.int .u8 (t : Nat), .string b, .slice A n c], .int .i64 i] w (Flag w (flagAt e i)):=by
 have hb0:=(Below.refl w.heap.size w).alloc (Nat.le_refl _) (.cells #[.int .u8 (t : Nat), .string b, .slice A n c] 57)
 have HK:=Lib.hid (textAt_any e i t b A n c _ (hL.past hb0))
 have HR:=Lib.hid (fun w=>Be.ReadBool_any (textAt e i) w)
 have hn : flagAt e i = (Be.rdB (textAt e i).data.toList).1:=rfl
 generalize flagAt e i = m at hn ⊢
 generalize textAt e i = s at HK HR hn
 rw [← hn] at HR
 have hb:=Lib.hid hb0
 clear hL hb0 hn
 go_enter Tryz.func101, Tryz.ntmps101
 go_wp2_with fail
 refine HK.out.mono ?_
 rintro r w1 ⟨rfl, hb1⟩
 have hb2:=hb.out.trans (hb1.mono hb.out.size)
 go_wp2_with fail
 refine (HR.out _).mono ?_
 rintro r w2 ⟨rfl, rfl⟩
 go_wp2_with fail
 go_ret
 exact ⟨rfl, hb2⟩
end Go.Proofs.YtconghaebebncaaGreatDoor.Ms
namespace Go.Proofs.YtconghaebebncaaGreatDoor.Ms
open Go.RowKit
def NewStrs (w : World) (l : List ByteArray) (r : Ending) (w' : World) : Prop :=
 ∃ (A : Option Addr) (c : Nat), r = .returned (.slice A l.length c) ∧ Below w.heap.size w w' ∧ l.length ≤ c ∧ Fi.StrsAt w' (fun b=>w.heap.size ≤ b ∧ b < w'.heap.size) A l
theorem OwnS_shut {w : World} {base : Nat} {v : Value} {ps : List ByteArray} (h : OwnS w base v ps) :
  ∃ (A : Option Addr) (c : Nat), v = .slice A ps.length c ∧ ps.length ≤ c ∧ Fi.StrsAt w (fun b=>base ≤ b ∧ b < w.heap.size) A ps:=by
 have h':=h
 rcases h'.2 with ⟨rfl, h0⟩ | ⟨g, cap, cur, rfl, _, _, hc, _⟩
 ·refine ⟨none, 0, by rw [h0], by omega, fun h1=>by omega⟩
 ·refine ⟨_, _, rfl, hc, fun h0=>?_⟩
  obtain ⟨g', cap', hv, hg, hlt⟩:=World.ownsRow.form h h0
  injection hv with hv1 hv2 hv3
  injection hv1 with hv1
  injection hv1 with hv1
  subst hv1
  refine ⟨_, rfl, ⟨hg, hlt⟩, fun i hi=>?_⟩
  have:=World.ownsRow.cells h (g:=g) rfl i (.string ps[i]) (by rw [List.getElem?_map, List.getElem?_eq_getElem hi]; rfl)
  exact this
theorem kids_of {w : World} {e : Be.El} {t n c : Nat} {b : ByteArray} {A : Option Addr} (hL : Be.Lies w (· < w.heap.size) e [.int .u8 (t : Nat), .string b, .slice A n c]) :
  n = (kidsE e).length ∧ t = tagE e ∧ b = bodyE e ∧ t ≤ 255 ∧ ∃ ds, Be.KidsAt w (· < w.heap.size) A (kidsE e) ds:=by
 obtain ⟨t', b', ks⟩:=e
 obtain ⟨A', c', ds, hcs, ht, _, hl, hK⟩:=hL.open_
 simp only [List.cons.injEq, and_true, Value.slice.injEq, Value.string.injEq, Value.int.injEq, true_and] at hcs
 obtain ⟨h1, rfl, rfl, rfl, rfl⟩:=hcs
 exact ⟨rfl, by show t = t'; omega, rfl, by omega, ds, hK⟩
set_option maxHeartbeats 2000000 in
theorem eachB_any (e : Be.El) (t : Nat) (b : ByteArray) (A : Option Addr) (n c : Nat) (w : World) (hfew : Few e) (hL : Be.Lies w (· < w.heap.size) e [.int .u8 (t : Nat), .string b, .slice A n c]) :
  Calls Tryz.prog 96 #[.agg #[.int .u8 (t : Nat), .string b, .slice A n c], .func (.func 97) #[] #[]] w (NewStrs w ((kidsE e).map bodyE)):=by
 obtain ⟨rfl, -, -, -, ds, hK⟩:=kids_of hL
 have hlen:=hfew.len
 have hb0:=(Below.refl w.heap.size w).alloc (Nat.le_refl _) (.cells #[.int .u8 (t : Nat), .string b, .slice A (kidsE e).length c] 57)
 have hbW:=Lib.hid hb0
 have HK:=Lib.hid hK
 obtain ⟨l, hl⟩ : ∃ l, l = (kidsE e).map bodyE:=⟨_, rfl⟩
 have hmt:=map_take bodyE (kidsE e)
 rw [← hl] at hmt ⊢
 have HM:=Lib.hid hmt
 generalize kidsE e = ks at hlen HK HM hK hbW hb0 hl hmt hL ⊢
 clear hK hb0 hl hmt hL hfew
 go_enter Tryz.func96, Tryz.ntmps96
 go_wp2_with fail
 go_loopw [5, 11] (fun v i wr=>∃ (q : Nat), q ≤ ks.length ∧ i = .int .i64 q ∧ Hid (OwnS wr w.heap.size v (l.take q)) ∧ Below w.heap.size w wr) (fun v i wr=>ks.length - (intOf i).toNat)
 case atStart=>exact ⟨0, Nat.zero_le _, rfl, OwnS.nil _ _, hbW.out⟩
 case round =>
  obtain ⟨q, hq, rfl, hG, hb⟩:=hrel
  have hsz:=hb.size
  by_cases hlt : q < ks.length
  ·obtain ⟨ad, t1, b1, A1, n1, c1, rfl, hp, f0, f1, f2, hL⟩:=HK.out.kid5 hb hlt
   have hb1:=hb.alloc hsz (.cells #[.int .u8 (t1 : Nat), .string b1, .slice A1 n1 c1] 57)
   have HC:=Lib.hid (body_any ks[q] t1 b1 A1 n1 c1 _ (hL.past ((Below.refl _ _).alloc (Nat.le_refl _) (.cells #[.int .u8 (t1 : Nat), .string b1, .slice A1 n1 c1] 57))))
   have HG:=Lib.hid (hG.out.alloc (.cells #[.int .u8 (t1 : Nat), .string b1, .slice A1 n1 c1] 57))
   have hmt:=Lib.hid (HM.out.2 q hlt)
   have hll:=HM.out.1
   generalize bodyE ks[q] = s at HC hmt
   clear hL hG hb
   go_wp2_with fail
   refine HC.out.mono ?_
   rintro e w1 ⟨rfl, hb2⟩
   have hb3:=hb1.trans (hb2.mono hb1.size)
   have hz:=hb3.size
   have HB:=Lib.hid (Blk.new w1 9 #[.string s])
   have HG1:=Lib.hid ((HG.out.past hb2).alloc (.cells #[.string s] 9))
   have hz2 : w.heap.size ≤ (w1.alloc (.cells #[.string s] 9)).heap.size:=by simp; omega
   have hdl : (l.take q).length ≤ 1099511627776:=by rw [List.length_take]; omega
   clear hb1 hb2 hll
   go_wp2_with (at_builtin; go_loud (refine wpList_pushW rfl _ _ rfl w.heap.size _ _ rfl HG1.out w1.heap.size s rfl HB.out hdl hz2 ?_))
   intro v' w2 hG2 hb4
   rw [← hmt.out] at hG2
   have HG2:=Lib.hid hG2
   have hb5:=(hb3.alloc hz (.cells #[.string s] 9)).trans hb4
   clear hG2
   go_wp2_with fail
   refine ⟨⟨q + 1, by omega, by go_num, HG2, hb5⟩, by simp [intOf]; omega⟩
  ·have hq2 : q = ks.length:=by omega
   subst hq2
   have hG1:=hG.out
   rw [List.take_of_length_le (by rw [HM.out.1]; omega)] at hG1
   obtain ⟨A', c', rfl, hc', hS⟩:=OwnS_shut hG1
   have HS:=Lib.hid hS
   clear hG hG1 hS
   go_wp2_with fail
   go_ret
   exact ⟨_, _, rfl, hb, hc', HS.out⟩
end Go.Proofs.YtconghaebebncaaGreatDoor.Ms
namespace Go.Proofs.YtconghaebebncaaGreatDoor.Ms
open Go.RowKit
theorem ownS_one (w : World) (base : Nat) (s : ByteArray) (hb : base ≤ w.heap.size) : OwnS (w.alloc (.cells #[.string s] 9)) base (.slice (some ⟨w.heap.size, 0, none⟩) 1 1) [s] :=
 ⟨rfl, Or.inr ⟨w.heap.size, 1, #[.string s], rfl, hb, heap_alloc_new w _, Nat.le_refl _, by unfold maxLen; omega, rfl, rfl⟩⟩
theorem wpList_appS {w : World} {ops : Array Oper} {rest : List Oper} {o : Oper} {a : Act} {Q : Exit → Act → World → Prop} (hgd : o.guard = none) (sl x : Operand)
  (ho : o.op = .call { callee:=.builtin .append, args:=#[sl, x], argTypes:=#[22, 22] })
  (base : Nat) (v : Value) (ps : List ByteArray) (hs : a.eval sl = v) (hown : OwnS w base v ps) (base' : Nat) (u : Value) (qs : List ByteArray) (hx : a.eval x = u) (hq : OwnS w base' u qs)
  (hl : ps.length + qs.length ≤ 1099511627776) (hbase : base ≤ w.heap.size)
  (h : ∀ v' w', OwnS w' base v' (ps ++ qs) → Below base w w' → wpList Tryz.prog ops Q rest (a.put o.dst v') w') : wpList Tryz.prog ops Q (o :: rest) a w:=by
 obtain ⟨i0, hi, hz0, hz1, hz2⟩:=infoP infoS
 have hq':=hq
 rcases hq'.2 with ⟨rfl, h0⟩ | ⟨g, cap, cur, rfl, _, _, hc, _⟩
 ·have : qs = []:=List.length_eq_zero_iff.1 h0
  subst this
  refine wpList_append_own_none hgd sl x 22 ho base 9 i0 1 Tryz.underlying22 hi v _ _ hs hown hx (h v w ?_ (Below.refl _ _))
  rw [List.append_nil]
  exact hown
 ·refine wpList_append_own w hgd sl x 22 ho base 9 i0 (.string ⟨#[]⟩) 1 16 Tryz.underlying22 hi hz0 hz1 hz2 rfl (by decide) v ps.length _ hs hown ⟨g, 0, none⟩ qs.length cap (qs.map Value.string) hx (by simp) (fun j u hj=>?_) (fun u hu=>?_) (by unfold maxLen; omega) (by omega) hbase (fun v' w' hown' hgr _=>h v' w' ?_ ?_)
  ·by_cases h0 : 0 < qs.length
   ·obtain ⟨g', cap', hv, hg, hlt⟩:=World.ownsRow.form hq h0
    injection hv with hv1 hv2 hv3
    injection hv1 with hv1
    injection hv1 with hv1
    subst hv1
    exact World.ownsRow.cells hq (g:=g) rfl j u hj
   ·have : qs = []:=List.length_eq_zero_iff.1 (by omega)
    subst this
    simp at hj
  ·obtain ⟨s, _, rfl⟩:=List.mem_map.1 hu
   rfl
  ·unfold OwnS
   rw [List.length_append, List.map_append]
   exact hown'
  ·exact (Below.refl _ _).grown hgr hbase (fun k hk=>(hown.lt k hk).1)
theorem rdSubs_at {x y : ByteArray} {l : List ByteArray} {ks : List Be.El} {q : Nat} (h : q < ks.length) :
  rdSubs x l y (ks.drop q) = if tagE ks[q] = 128 then rdSubs (bodyE ks[q]) l y (ks.drop (q + 1)) else if tagE ks[q] = 129 then rdSubs x (l ++ [bodyE ks[q]]) y (ks.drop (q + 1)) else if tagE ks[q] = 130 then rdSubs x l (bodyE ks[q]) (ks.drop (q + 1)) else rdSubs x l y (ks.drop (q + 1)):=by
 rw [List.drop_eq_getElem_cons h, rdSubs]
set_option maxHeartbeats 4000000 in
theorem readSubs_any (e : Be.El) (t : Nat) (b : ByteArray) (A : Option Addr) (n c : Nat) (w : World) (hfew : Few e) (hL : Be.Lies w (· < w.heap.size) e [.int .u8 (t : Nat), .string b, .slice A n c]) :
  Calls Tryz.prog 129 #[.agg #[.int .u8 (t : Nat), .string b, .slice A n c]] w (NewStrs w (rdSubs no [] no (kidsE e))):=by
 obtain ⟨rfl, -, -, -, ds, hK⟩:=kids_of hL
 have hlen:=hfew.len
 have hb0:=(Below.refl w.heap.size w).alloc (Nat.le_refl _) (.cells #[.int .u8 (t : Nat), .string b, .slice A (kidsE e).length c] 57)
 have hbW:=Lib.hid hb0
 have HK:=Lib.hid hK
 obtain ⟨R, hR⟩ : ∃ R, R = rdSubs no [] no (kidsE e):=⟨_, rfl⟩
 rw [← hR]
 have HR:=Lib.hid hR
 generalize kidsE e = ks at hlen HK hK hbW hb0 hR HR hL ⊢
 clear hK hb0 hR hL hfew
 go_enter Tryz.func129, Tryz.ntmps129
 go_wp2_with fail
 go_loopw [3, 4, 5, 11] (fun x y v i wr=>∃ (q : Nat) (bx bl : ByteArray) (l : List ByteArray), q ≤ ks.length ∧ i = .int .i64 q ∧ x = .string bx ∧ y = .string bl ∧ l.length ≤ q ∧ Hid (R = rdSubs bx l bl (ks.drop q)) ∧ Hid (OwnS wr w.heap.size v l) ∧ Below w.heap.size w wr) (fun x y v i wr=>ks.length - (intOf i).toNat)
 case atStart=>exact ⟨0, no, no, [], Nat.zero_le _, rfl, rfl, rfl, Nat.le_refl _, HR.out, OwnS.nil _ _, hbW.out⟩
 case round =>
  obtain ⟨q, bx, bl, l, hq, rfl, rfl, rfl, hlq, hE, hG, hb⟩:=hrel
  have hsz:=hb.size
  by_cases hlt : q < ks.length
  ·obtain ⟨ad, t1, b1, A1, n1, c1, rfl, hp, f0, f1, f2, hL⟩:=HK.out.kid5 hb hlt
   have hb1:=hb.alloc hsz (.cells #[.int .u8 (t1 : Nat), .string b1, .slice A1 n1 c1] 57)
   have hE1:=hE.out
   rw [rdSubs_at hlt] at hE1
   obtain ⟨-, ht1, hb1', -⟩:=kids_of hL
   rw [← ht1, ← hb1'] at hE1
   have HG:=Lib.hid (hG.out.alloc (.cells #[.int .u8 (t1 : Nat), .string b1, .slice A1 n1 c1] 57))
   clear hL hG hb ht1 hb1' hE
   by_cases h1 : t1 = 128
   ·subst h1
    rw [if_pos rfl] at hE1
    have HE:=Lib.hid hE1
    clear hE1
    go_wp2_with fail
    refine ⟨⟨q + 1, _, _, l, by omega, by go_num, rfl, rfl, by omega, HE, HG, hb1⟩, by simp [intOf]; omega⟩
   have k1 : ((t1 : Int) == 128) = false:=by rw [beq_eq_false_iff_ne]; omega
   rw [if_neg h1] at hE1
   by_cases h2 : t1 = 129
   ·subst h2
    rw [if_pos rfl] at hE1
    have HE:=Lib.hid hE1
    have HB:=Lib.hid (new2 wr #[.int .u8 (129 : Nat), .string b1, .slice A1 n1 c1] #[.string b1] 57 9)
    have HG1:=Lib.hid (HG.out.alloc (.cells #[.string b1] 9))
    have hz2 : w.heap.size ≤ ((wr.alloc (.cells #[.int .u8 (129 : Nat), .string b1, .slice A1 n1 c1] 57)).alloc (.cells #[.string b1] 9)).heap.size:=by simp; omega
    have hdl : l.length ≤ 1099511627776:=by omega
    clear hE1
    go_wp2_with (at_builtin; go_loud (refine wpList_pushW rfl _ _ rfl w.heap.size _ _ rfl HG1.out _ b1 rfl HB.out hdl hz2 ?_))
    intro v' w2 hG2 hb4
    have HG2:=Lib.hid hG2
    have hb5:=(hb1.alloc hb1.size (.cells #[.string b1] 9)).trans hb4
    clear hG2
    go_wp2_with fail
    refine ⟨⟨q + 1, _, _, l ++ [b1], by omega, by go_num, rfl, rfl, by rw [List.length_append]; simp; omega, HE, HG2, hb5⟩, by simp [intOf]; omega⟩
   have k2 : ((t1 : Int) == 129) = false:=by rw [beq_eq_false_iff_ne]; omega
   rw [if_neg h2] at hE1
   by_cases h3 : t1 = 130
   ·subst h3
    rw [if_pos rfl] at hE1
    have HE:=Lib.hid hE1
    clear hE1
    go_wp2_with fail
    refine ⟨⟨q + 1, _, _, l, by omega, by go_num, rfl, rfl, by omega, HE, HG, hb1⟩, by simp [intOf]; omega⟩
   have k3 : ((t1 : Int) == 130) = false:=by rw [beq_eq_false_iff_ne]; omega
   rw [if_neg h3] at hE1
   have HE:=Lib.hid hE1
   clear hE1 h1 h2 h3
   go_wp2_with fail
   refine ⟨⟨q + 1, _, _, l, by omega, by go_num, rfl, rfl, by omega, HE, HG, hb1⟩, by simp [intOf]; omega⟩
  ·have hq2 : q = ks.length:=by omega
   subst hq2
   have hE1:=hE.out
   rw [List.drop_length, rdSubs] at hE1
   have HE:=Lib.hid hE1
   have HG:=Lib.hid (hG.out.alloc (.cells #[.string bx] 9))
   have HO:=Lib.hid (ownS_one wr w.heap.size bx hsz)
   have hb1:=hb.alloc hsz (.cells #[.string bx] 9)
   have hl1 : [bx].length + l.length ≤ 1099511627776:=by simp; omega
   have hsz1:=hb1.size
   clear hG hE hE1
   go_wp2_with (at_builtin; go_loud (refine wpList_appS rfl _ _ rfl w.heap.size _ _ rfl HO.out w.heap.size _ _ rfl HG.out hl1 hsz1 ?_))
   intro v' w2 hG2 hb4
   have hb5:=hb1.trans hb4
   have hsz2:=hb5.size
   have HB:=Lib.hid (Blk.new w2 9 #[.string bl])
   have HG3:=Lib.hid ((show OwnS w2 w.heap.size v' ([bx] ++ l) from hG2).alloc (.cells #[.string bl] 9))
   have hz2 : w.heap.size ≤ (w2.alloc (.cells #[.string bl] 9)).heap.size:=by simp; omega
   have hdl : ([bx] ++ l).length ≤ 1099511627776:=by simp; omega
   clear hG2
   go_wp2_with (at_builtin; go_loud (refine wpList_pushW rfl _ _ rfl w.heap.size _ _ rfl HG3.out _ bl rfl HB.out hdl hz2 ?_))
   intro v2 w3 hG4 hb6
   have hb7:=(hb5.alloc hsz2 (.cells #[.string bl] 9)).trans hb6
   obtain ⟨A', c', rfl, hc', hS⟩:=OwnS_shut hG4
   have HS:=Lib.hid hS
   have HC:=Lib.hid hc'
   clear hG4 hS
   go_wp2_with fail
   go_ret
   have hRl : R = [bx] ++ l ++ [bl]:=HE.out
   rw [hRl]
   exact ⟨_, _, rfl, hb7, HC.out, HS.out⟩
end Go.Proofs.YtconghaebebncaaGreatDoor.Ms
