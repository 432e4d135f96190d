import Derived.Test.YtconghaebebncaaGreatDoorZR24
import Derived.Test.YtconghaebebncaaGreatDoorZR22
set_option linter.unusedVariables false
set_option maxRecDepth 100000
namespace Go.Proofs.YtconghaebebncaaGreatDoor.Ms
open Go.RowKit
def NewKids (w : World) (ks : List Be.El) (r : Ending) (w' : World) : Prop :=
 ∃ (A : Option Addr) (c : Nat) (ds : Nat → List Value), r = .returned (.slice A ks.length c) ∧ Below w.heap.size w w' ∧ Be.KidsAt w' (fun b=>w.heap.size ≤ b ∧ b < w'.heap.size) A ks ds
theorem wpList_pushE {w : World} {ops : Array Oper} {rest : List Oper} {o : Oper} {a : Act} {Q : Exit → Act → World → Prop} (hgd : o.guard = none) (sl x : Operand)
  (ho : o.op = .call { callee:=.builtin .append, args:=#[sl, x], argTypes:=#[55, 55] })
  (base : Nat) (v : Value) (xs : List Value) (done : List Be.El) (hs : a.eval sl = v) (hG : Be.Gath w base v xs done) (g : Nat) (hx : a.eval x = .slice (some ⟨g, 0, none⟩) 1 1)
  {e : Be.El} {p q r : Value} (hB : Blk w g 57 #[p, q, r]) (hone : ∀ u ∈ [p, q, r], u.oneCell' = true) (hL : Be.Lies w (fun b=>base ≤ b ∧ b < w.heap.size ∧ v.ownBlock ≠ some b) e [p, q, r]) (hl : done.length < 1000000) (hbase : base ≤ w.heap.size)
  (h : ∀ v' w', Be.Gath w' base v' (xs ++ [p, q, r]) (done ++ [e]) → Below base w w' → wpList Tryz.prog ops Q rest (a.put o.dst v') w') : wpList Tryz.prog ops Q (o :: rest) a w:=by
 obtain ⟨i0, hi, hz0, hz1, hz2⟩:=infoP Be.infoElV
 refine wpList_append_own_at w hgd sl x 55 ho base 57 i0 _ 3 48 Tryz.underlying55 hi hz0 hz1 hz2 rfl (by decide) v done.length xs hs hG.1 ⟨g, 0, none⟩ 1 1 [p, q, r] hx rfl (fun j u hj=>?_) hone (by unfold maxLen; omega) (by omega) hbase (fun v' w' hown' hgr _ hat=>?_)
 ·rw [Addr.add_lit, Nat.zero_add, hB.cell j]
  simpa using hj
 ·exact h v' w' (hG.step hL hown' hgr hat) ((Below.refl _ _).grown hgr hbase (fun k hk=>(hG.1.lt k hk).1))
theorem fresh_own {w w1 : World} {base : Nat} {v : Value} {xs : List Value} {done : List Be.El} {P : Nat → Prop} {e : Be.El} {cs : List Value} (hG : Be.Gath w base v xs done) (hbase : base ≤ w.heap.size) (h : Be.Lies w1 P e cs) (hP : ∀ b, P b → w.heap.size ≤ b ∧ b < w1.heap.size) :
  Be.Lies w1 (fun b=>base ≤ b ∧ b < w1.heap.size ∧ v.ownBlock ≠ some b) e cs :=
 h.imp (fun b hb=>⟨Nat.le_trans hbase (hP b hb).1, (hP b hb).2, fun e=>by have:=(hG.1.lt b e).2; have:=(hP b hb).1; omega⟩) (fun _ _=>rfl)
theorem one3 {t : Int} {b : ByteArray} {A : Option Addr} {n c : Nat} : ∀ u ∈ [Value.int .u8 t, .string b, .slice A n c], u.oneCell' = true:=by
 intro u hu
 simp at hu
 rcases hu with rfl | rfl | rfl <;> rfl
theorem map_take {α β : Type} (f : α → β) (l : List α) : (l.map f).length = l.length ∧ ∀ i (h : i < l.length), (l.map f).take (i + 1) = (l.map f).take i ++ [f l[i]] :=
 ⟨List.length_map _, fun i h=>by rw [← List.map_take, ← List.map_take, List.take_succ_eq_append_getElem h, List.map_append]; rfl⟩
theorem take_len {α : Type} {ks : List α} {q n : Nat} (h : ks.length = n) (hq : q ≤ n) (hn : n ≤ 1000) : (ks.take q).length < 1000000:=by rw [List.length_take]; omega
theorem Gath_tell {w w' : World} {v : Value} {xs : List Value} {ks : List Be.El} {n : Nat} (hlen : ks.length = n) (hb : Below w.heap.size w w') (hG : Be.Gath w' w.heap.size v xs (ks.take n)) : NewKids w ks (.returned v) w':=by
 rw [List.take_of_length_le (by omega)] at hG
 obtain ⟨A, c, ds, rfl, hK⟩:=hG.shut
 exact ⟨A, c, ds, rfl, hb, hK⟩
theorem Gath_tell' {w w' : World} {v : Value} {xs : List Value} {D ks : List Be.El} (hD : D = ks) (hb : Below w.heap.size w w') (hG : Be.Gath w' w.heap.size v xs D) : NewKids w ks (.returned v) w':=by
 subst hD
 obtain ⟨A, c, ds, rfl, hK⟩:=hG.shut
 exact ⟨A, c, ds, rfl, hb, hK⟩
set_option maxHeartbeats 2000000 in
theorem eachS_any (A : Option Addr) (c : Nat) (l : List ByteArray) (w : World) (hl : l.length ≤ 1000) (hs : ∀ s ∈ l, s.size ≤ 281474976710656) (hA : Fi.StrsAt w (· < w.heap.size) A l) :
  Calls Tryz.prog 137 #[.slice A l.length c, .func (.func 133) #[] #[]] w (NewKids w (l.map (txt 4))):=by
 have HA:=Lib.hid hA
 have HS:=Lib.hid hs
 obtain ⟨ks, hks⟩ : ∃ ks, ks = l.map (txt 4):=⟨_, rfl⟩
 have hmt:=map_take (txt 4) l
 rw [← hks] at hmt ⊢
 have HM:=Lib.hid hmt
 clear hA hs hks hmt
 go_enter Tryz.func137, Tryz.ntmps137
 go_wp2_with fail
 go_loopw [5, 10] (fun v i wr=>∃ (q : Nat) (xs : List Value), q ≤ l.length ∧ i = .int .i64 q ∧ Hid (Be.Gath wr w.heap.size v xs (ks.take q)) ∧ Below w.heap.size w wr) (fun v i wr=>l.length - (intOf i).toNat)
 case atStart=>exact ⟨0, [], Nat.zero_le _, rfl, Be.Gath.nil _ _, Below.refl _ _⟩
 case round =>
  obtain ⟨q, xs, hq, rfl, hG, hb⟩:=hrel
  have hsz:=hb.size
  by_cases hlt : q < l.length
  ·obtain ⟨ad, rfl, hp, hc⟩:=HA.out (by omega)
   have f0:=batA hb (by rw [block_of_add]; exact hp) (hc q hlt)
   have hsq:=HS.out _ (List.getElem_mem hlt)
   have hdl:=take_len HM.out.1 hq hl
   have hmt:=Lib.hid (HM.out.2 q hlt)
   generalize l[q] = s at f0 hsq hmt
   clear hc
   go_wp2_with fail
   refine (text_any s wr hsq).mono ?_
   rintro e w1 ⟨rfl, hb1⟩
   have HB:=Lib.hid (Blk.new w1 57 #[.int .u8 4, .string s, .slice none 0 0])
   have HG1:=Lib.hid ((hG.out.past hb1).alloc (.cells #[.int .u8 4, .string s, .slice none 0 0] 57))
   have hbw:=hb.trans (hb1.mono hsz)
   have hz:=hbw.size
   have hz2 : w.heap.size ≤ (w1.alloc (.cells #[.int .u8 4, .string s, .slice none 0 0] 57)).heap.size:=by simp; omega
   clear hG hb hb1
   go_wp2_with (at_builtin; go_loud (refine wpList_pushE rfl _ _ rfl w.heap.size _ _ _ rfl HG1.out w1.heap.size rfl HB.out one3 (lies_leaf (by decide) hsq) hdl hz2 ?_))
   intro v' w2 hG2 hb2
   rw [← hmt.out] at hG2
   have HG2:=Lib.hid hG2
   have hb3:=(hbw.alloc hz (.cells #[.int .u8 4, .string s, .slice none 0 0] 57)).trans hb2
   clear hG2
   go_wp2_with fail
   refine ⟨⟨q + 1, _, by omega, by go_num, HG2, hb3⟩, by simp [intOf]; omega⟩
  ·have hq2 : q = l.length:=by omega
   subst hq2
   have HE:=Lib.hid (Gath_tell HM.out.1 hb hG.out)
   clear hG
   go_wp2_with fail
   go_ret
   exact HE.out
set_option maxHeartbeats 2000000 in
theorem subEls_step {n i : Nat} {ks : List ByteArray} (h : i < ks.length) : subEls n 0 (ks.take (i + 1)) = subEls n 0 (ks.take i) ++ (if ks[i].size = 0 then [] else [txt (partTag i n) ks[i]]):=by
 have key : ∀ (a b : List ByteArray) (j : Nat), subEls n j (a ++ b) = subEls n j a ++ subEls n (j + a.length) b:=by
  intro a
  induction a with
  | nil=>intro b j; simp [subEls]
  | cons x a ih =>
   intro b j
   rw [List.cons_append, subEls, subEls, ih b (j + 1), List.length_cons, show j + 1 + a.length = j + (a.length + 1) by omega]
   split <;> rfl
 rw [List.take_succ_eq_append_getElem h, key, List.length_take, show 0 + min i ks.length = i by omega]
 congr 1
set_option maxHeartbeats 2000000 in
theorem subs_any (A : Option Addr) (c : Nat) (l : List ByteArray) (w : World) (hl : l.length ≤ 1000) (hs : ∀ s ∈ l, s.size ≤ 281474976710656) (hA : Fi.StrsAt w (· < w.heap.size) A l) :
  Calls Tryz.prog 153 #[.slice A l.length c] w (NewKids w (subEls l.length 0 l)):=by
 have HA:=Lib.hid hA
 have HS:=Lib.hid hs
 clear hA hs
 go_enter Tryz.func153, Tryz.ntmps153
 go_wp2_with fail
 go_loopw [3, 8] (fun v i wr=>∃ (q : Nat) (xs : List Value) (D : List Be.El), q ≤ l.length ∧ i = .int .i64 q ∧ Hid (D = subEls l.length 0 (l.take q)) ∧ Hid (Be.Gath wr w.heap.size v xs D) ∧ Below w.heap.size w wr) (fun v i wr=>l.length - (intOf i).toNat)
 case atStart=>exact ⟨0, [], [], Nat.zero_le _, rfl, by show _ = _; simp [subEls], Be.Gath.nil _ _, Below.refl _ _⟩
 case round =>
  obtain ⟨q, xs, D, hq, rfl, hD, hG, hb⟩:=hrel
  have hsz:=hb.size
  by_cases hlt : q < l.length
  ·obtain ⟨ad, rfl, hp, hc⟩:=HA.out (by omega)
   have f0:=batA hb (by rw [block_of_add]; exact hp) (hc q hlt)
   have hsq:=HS.out _ (List.getElem_mem hlt)
   have hmt:=subEls_step (n:=l.length) hlt
   rw [← hD.out] at hmt
   have hdl : D.length < 1000000:=by rw [hD.out]; have:=subEls_len l.length (l.take q) 0; rw [List.length_take] at this; omega
   generalize l[q] = s at f0 hsq hmt
   clear hc hD
   by_cases h0 : s.size = 0
   ·rw [if_pos h0, List.append_nil] at hmt
    have HM:=Lib.hid hmt.symm
    have q1 : s.toList = []:=by rw [no_of h0, ByteArray.toList_eq]
    have q0 : s.toList.isEmpty = true:=by rw [q1]; rfl
    clear hmt h0
    go_wp2_with fail
    refine ⟨⟨q + 1, _, _, by omega, by go_num, HM, hG, hb⟩, by simp [intOf]; omega⟩
   ·rw [if_neg h0] at hmt
    have HM:=Lib.hid hmt
    have q0 : s.toList.isEmpty = false:=by
     cases h : s.toList with
     | nil =>
      have h1 : s.size = 0:=by
       have : s.data.toList = []:=by simpa [ByteArray.toList_eq] using h
       show s.data.size = 0
       rw [← Array.length_toList, this]; rfl
      exact absurd h1 h0
     | cons x r=>rfl
    have q1 : (s.toList != []) = true:=by
     cases h : s.toList with
     | nil=>rw [h] at q0; simp at q0
     | cons x r=>rfl
    clear hmt h0
    have ht : partTag q l.length ≤ 255:=by rcases partTag_cases q l.length with h | h | h <;> rw [h] <;> decide
    have HP:=Lib.hid (fun w=>partTag_any q l.length w (by omega) (by omega))
    generalize partTag q l.length = t at HM ht HP
    go_wp2_with fail
    refine (HP.out _).mono ?_
    rintro e w0 ⟨rfl, rfl⟩
    go_wp2_with fail
    refine (Be.Text_any t s wr hsq).mono ?_
    rintro e w1 ⟨rfl, hb1⟩
    have HB:=Lib.hid (Blk.new w1 57 #[.int .u8 t, .string s, .slice none 0 0])
    have HG1:=Lib.hid ((hG.out.past hb1).alloc (.cells #[.int .u8 t, .string s, .slice none 0 0] 57))
    have hbw:=hb.trans (hb1.mono hsz)
    have hz:=hbw.size
    have hz2 : w.heap.size ≤ (w1.alloc (.cells #[.int .u8 t, .string s, .slice none 0 0] 57)).heap.size:=by simp; omega
    clear hG hb hb1
    go_wp2_with (at_builtin; go_loud (refine wpList_pushE rfl _ _ rfl w.heap.size _ _ _ rfl HG1.out w1.heap.size rfl HB.out one3 (lies_leaf ht hsq) hdl hz2 ?_))
    intro v' w2 hG2 hb2
    rw [← HM.out] at hG2
    have HG2:=Lib.hid hG2
    have hb3:=(hbw.alloc hz (.cells #[.int .u8 t, .string s, .slice none 0 0] 57)).trans hb2
    clear hG2
    go_wp2_with fail
    refine ⟨⟨q + 1, _, _, by omega, by go_num, rfl, HG2, hb3⟩, by simp [intOf]; omega⟩
  ·have hq2 : q = l.length:=by omega
   subst hq2
   have hD2:=hD.out
   rw [List.take_length] at hD2
   have HE:=Lib.hid (Gath_tell' hD2 hb hG.out)
   clear hG hD hD2
   go_wp2_with fail
   go_ret
   exact HE.out
end Go.Proofs.YtconghaebebncaaGreatDoor.Ms
namespace Go.Proofs.YtconghaebebncaaGreatDoor.Ms
open Go.RowKit
set_option maxHeartbeats 400000 in
theorem rtext_any (s : ByteArray) (w : World) :
  Calls Tryz.prog 52 #[.string s] w fun e w'=>e = .returned (.agg #[.int .u8 4, .string s, .slice none 0 0]) ∧ Below w.heap.size w w':=by
 go_enter Tryz.func52, Tryz.ntmps52
 go_wp2_with fail
 refine (Be.RText_any 4 s _).mono ?_
 rintro e w1 ⟨rfl, hb1⟩
 have B1:=(Blk.new w 57 #[.int .u8 0, .string ⟨#[]⟩, .slice none 0 0]).past hb1
 have c0 : w1.cell? ⟨w.heap.size, 0, none⟩ = some (.int .u8 0):=B1.cell 0
 have c1 : w1.cell? ⟨w.heap.size, 1, none⟩ = some (.string ⟨#[]⟩):=B1.cell 1
 have c2 : w1.cell? ⟨w.heap.size, 2, none⟩ = some (.slice none 0 0):=B1.cell 2
 have g0:=B1.frozen 0
 have g1:=B1.frozen 1
 have g2:=B1.frozen 2
 go_wp2_with fail
 exact bodyPost_ret (Be.res_el rfl _ _ w.heap.size _ _ _ rfl (Be.Blk.set3 B1)) rfl ⟨rfl, below_el hb1⟩
set_option maxHeartbeats 400000 in
theorem rnum_any (t : Int) (n : Int) (w : World) (h0 : -9223372036854775808 ≤ n) (h1 : n ≤ 9223372036854775807) :
  Calls Tryz.prog 23 #[.int .u8 t, .int .i64 n] w fun e w'=>e = .returned (.agg #[.int .u8 t, .string (strOfNums (Be.intB n)), .slice none 0 0]) ∧ Below w.heap.size w w':=by
 go_enter Tryz.func23, Tryz.ntmps23
 go_wp2_with fail
 refine (Be.RNumber_any t n _ h0 h1).mono ?_
 rintro e w1 ⟨rfl, hb1⟩
 have B1:=(Blk.new w 57 #[.int .u8 0, .string ⟨#[]⟩, .slice none 0 0]).past hb1
 have c0 : w1.cell? ⟨w.heap.size, 0, none⟩ = some (.int .u8 0):=B1.cell 0
 have c1 : w1.cell? ⟨w.heap.size, 1, none⟩ = some (.string ⟨#[]⟩):=B1.cell 1
 have c2 : w1.cell? ⟨w.heap.size, 2, none⟩ = some (.slice none 0 0):=B1.cell 2
 have g0:=B1.frozen 0
 have g1:=B1.frozen 1
 have g2:=B1.frozen 2
 go_wp2_with fail
 exact bodyPost_ret (Be.res_el rfl _ _ w.heap.size _ _ _ rfl (Be.Blk.set3 B1)) rfl ⟨rfl, below_el hb1⟩
set_option maxHeartbeats 400000 in
theorem rflag_any (b : Bool) (w : World) :
  Calls Tryz.prog 54 #[.bool b] w fun e w'=>e = .returned (.agg #[.int .u8 1, .string (boolB b), .slice none 0 0]) ∧ Below w.heap.size w w':=by
 have HB:=Lib.hid (fun w=>Be.RBool_any b w)
 rw [boolB_eq] at HB
 go_enter Tryz.func54, Tryz.ntmps54
 go_wp2_with fail
 refine (HB.out _).mono ?_
 rintro e w0 ⟨rfl, rfl⟩
 go_wp2_with fail
 refine (Be.RText_any 1 _ _).mono ?_
 rintro e w1 ⟨rfl, hb1⟩
 have B1:=(Blk.new w 57 #[.int .u8 0, .string ⟨#[]⟩, .slice none 0 0]).past hb1
 have c0 : w1.cell? ⟨w.heap.size, 0, none⟩ = some (.int .u8 0):=B1.cell 0
 have c1 : w1.cell? ⟨w.heap.size, 1, none⟩ = some (.string ⟨#[]⟩):=B1.cell 1
 have c2 : w1.cell? ⟨w.heap.size, 2, none⟩ = some (.slice none 0 0):=B1.cell 2
 have g0:=B1.frozen 0
 have g1:=B1.frozen 1
 have g2:=B1.frozen 2
 go_wp2_with fail
 exact bodyPost_ret (Be.res_el rfl _ _ w.heap.size _ _ _ rfl (Be.Blk.set3 B1)) rfl ⟨rfl, below_el hb1⟩
theorem isList_cases (l : List ByteArray) : isList l = (!l.any isLong && decide (l.length ≤ 12)):=by
 unfold isList areShort
 rw [Bool.and_comm]
set_option maxHeartbeats 2000000 in
theorem rtexts_any (A : Option Addr) (c : Nat) (l : List ByteArray) (w : World) (hl : l.length ≤ maxLen) (hA : Fi.StrsAt w (· < w.heap.size) A l) :
  Calls Tryz.prog 33 #[.slice A l.length c] w fun r w'=>r = .returned (.bool (isList l)) ∧ w' = w:=by
 unfold maxLen at hl
 have HS:=Lib.hid hA
 have HR:=Lib.hid (isList_cases l)
 clear hA
 go_enter Tryz.func33, Tryz.ntmps33
 go_wp2_with fail
 go_loopw [3] (fun i wr=>∃ q : Nat, q ≤ l.length ∧ i = .int .i64 q ∧ Hid (l.any isLong = (l.drop q).any isLong) ∧ wr = w) (fun i wr=>l.length - (intOf i).toNat)
 case atStart=>exact ⟨0, Nat.zero_le _, rfl, rfl, rfl⟩
 case round =>
  obtain ⟨q, hq, rfl, hE, rfl⟩:=hrel
  by_cases hlt : q < l.length
  ·obtain ⟨ad, rfl, hp, hc⟩:=HS.out (by omega)
   have f0:=hc q hlt
   have hE2:=hE.out
   rw [any_drop hlt] at hE2
   generalize l[q] = s at f0 hE2
   have HE:=Lib.hid hE2
   clear hE hE2 hc
   by_cases h4 : 400 < (s.size : Int)
   ·go_wp2_with fail
    go_ret
    refine ⟨ret_bool ?_, rfl⟩
    rw [HR.out, HE.out, show isLong s = true by unfold isLong; exact decide_eq_true (by omega)]; rfl
   ·have h4' : (s.size : Int) ≤ 400:=by omega
    clear h4
    go_wp2_with fail
    refine ⟨⟨q + 1, by omega, by go_num, ?_, trivial⟩, by simp [intOf]; omega⟩
    show _ = _
    rw [HE.out, show isLong s = false by unfold isLong; exact decide_eq_false (by omega)]; rfl
  ·have hE2:=hE.out
   rw [List.drop_eq_nil_of_le (by omega), List.any_nil] at hE2
   have HE:=Lib.hid hE2
   obtain rfl : q = l.length:=by omega
   clear hE hE2 hlt
   by_cases h12 : (l.length : Int) ≤ 12
   ·go_wp2_with fail
    go_ret
    refine ⟨ret_bool ?_, rfl⟩
    rw [HR.out, HE.out, decide_eq_true (by omega)]; all_goals (first | rfl | (simp; done) | (simp; omega))
   ·have h12' : 12 < (l.length : Int):=by omega
    go_wp2_with fail
    go_ret
    refine ⟨ret_bool ?_, rfl⟩
    rw [HR.out, HE.out, decide_eq_false (by omega)]; all_goals (first | rfl | (simp; done) | (simp; omega))
end Go.Proofs.YtconghaebebncaaGreatDoor.Ms
namespace Go.Proofs.YtconghaebebncaaGreatDoor.Ms
open Go.RowKit
theorem noModR_of {any : Bool} {d : Mo} : (d.kind < 1 ∨ (1 ≤ d.kind ∧ 3 < d.kind) ∨ (1 ≤ d.kind ∧ d.kind ≤ 3 ∧ any = false ∧ d.kind ≠ 1) ∨ (1 ≤ d.kind ∧ d.kind ≤ 3 ∧ (any = true ∨ d.kind = 1) ∧ 400 < (d.attr.size : Int))) → noModR any d = true:=by
 intro h
 unfold noModR isLong
 rcases h with h | ⟨_, h⟩ | ⟨_, _, h, h'⟩ | ⟨_, _, _, h⟩
 ·rw [decide_eq_true h]; rfl
 ·rw [decide_eq_true h]; simp
 ·rw [h, decide_eq_true h']; simp
 ·rw [decide_eq_true (show 400 < d.attr.size by omega)]; simp
theorem noModR_eq {any : Bool} {d : Mo} (h1 : 1 ≤ d.kind) (h2 : d.kind ≤ 3) (h3 : any = true ∨ d.kind = 1) (h4 : (d.attr.size : Int) ≤ 400) : noModR any d = !isList d.vals:=by
 unfold noModR isLong
 rw [decide_eq_false (show ¬ d.kind < 1 by omega), decide_eq_false (show ¬ 3 < d.kind by omega), decide_eq_false (show ¬ 400 < d.attr.size by omega)]
 rcases h3 with h3 | h3
 ·rw [h3]; simp
 ·rw [h3]; simp
set_option maxHeartbeats 4000000 in
theorem rmods_any (A : Option Addr) (c : Nat) (l : List Mo) (ds : Nat → List Value) (any : Bool) (w : World) (hl : l.length ≤ maxLen) (hM : MosAt w (· < w.heap.size) A l ds) :
  Calls Tryz.prog 34 #[.slice A l.length c, .bool any] w fun r w'=>r = .returned (.bool (modsR l any)) ∧ w' = w:=by
 unfold maxLen at hl
 have HM:=Lib.hid hM
 have HR:=Lib.hid (show modsR l any = (!l.any (noModR any) && decide (l.length ≤ 12)) from rfl)
 clear hM
 go_enter Tryz.func34, Tryz.ntmps34
 go_wp2_with fail
 go_loopw [5] (fun i wr=>∃ q : Nat, q ≤ l.length ∧ i = .int .i64 q ∧ Hid (l.any (noModR any) = (l.drop q).any (noModR any)) ∧ wr = w) (fun i wr=>l.length - (intOf i).toNat)
 case atStart=>exact ⟨0, Nat.zero_le _, rfl, rfl, rfl⟩
 case round =>
  obtain ⟨q, hq, rfl, hE, rfl⟩:=hrel
  by_cases hlt : q < l.length
  ·obtain ⟨ad, V, vc, rfl, hp, f0, f1, f2, hL⟩:=HM.out.kid (Below.refl _ _) hlt
   obtain ⟨V1, vc1, ev, _, lv, _, hV, _⟩:=hL
   simp only [List.cons.injEq, Value.slice.injEq, true_and, and_true] at ev
   obtain ⟨rfl, rfl⟩:=ev
   have hE2:=hE.out
   rw [any_drop hlt] at hE2
   generalize l[q] = d at f0 f1 f2 hV lv hE2
   have hbad:=@noModR_of any d
   have heq:=@noModR_eq any d
   obtain ⟨k, a, v⟩:=d
   simp only at f0 f1 f2 hV lv hbad heq
   have HT:=Lib.hid (rtexts_any V vc v wr lv hV)
   have HE:=Lib.hid hE2
   have HBad:=Lib.hid hbad
   have HEq:=Lib.hid heq
   clear hE hE2 hV hbad heq
   rcases (by omega : k < 1 ∨ (1 ≤ k ∧ 3 < k) ∨ (1 ≤ k ∧ k ≤ 3)) with h1 | ⟨h1, h2⟩ | ⟨h1, h2⟩
   ·go_wp2_with fail
    go_ret
    refine ⟨ret_bool ?_, rfl⟩
    rw [HR.out, HE.out, HBad.out (.inl h1)]; rfl
   ·go_wp2_with fail
    go_ret
    refine ⟨ret_bool ?_, rfl⟩
    rw [HR.out, HE.out, HBad.out (.inr (.inl ⟨h1, h2⟩))]; rfl
   ·have hq1 : (decide (k < 1)) = false:=decide_eq_false (by omega)
    have hq3 : (decide (3 < k)) = false:=decide_eq_false (by omega)
    cases any with
    | false =>
     by_cases hk : k = 1
     ·subst hk
      by_cases h4 : 400 < (a.size : Int)
      ·go_wp2_with fail
       go_ret
       refine ⟨ret_bool ?_, rfl⟩
       rw [HR.out, HE.out, HBad.out (.inr (.inr (.inr ⟨h1, h2, .inr (by simp), h4⟩)))]; rfl
      ·have h4' : (a.size : Int) ≤ 400:=by omega
       have HN:=Lib.hid (HEq.out h1 h2 (.inr rfl) h4')
       clear h4
       go_wp2_with fail
       refine HT.out.mono ?_
       rintro r w1 ⟨rfl, rfl⟩
       generalize isList v = t at HN
       cases t with
       | false =>
        go_wp2_with fail
        go_ret
        refine ⟨ret_bool ?_, rfl⟩
        rw [HR.out, HE.out, HN.out]; rfl
       | true =>
        go_wp2_with fail
        refine ⟨⟨q + 1, by omega, by go_num, ?_, trivial⟩, by simp [intOf]; omega⟩
        show _ = _
        rw [HE.out, HN.out]; rfl
     ·have hk2 : (k != 1) = true:=by rw [bne_iff_ne]; exact hk
      go_wp2_with fail
      go_ret
      refine ⟨ret_bool ?_, rfl⟩
      rw [HR.out, HE.out, HBad.out (.inr (.inr (.inl ⟨h1, h2, (by simp), hk⟩)))]; rfl
    | true =>
     by_cases h4 : 400 < (a.size : Int)
     ·go_wp2_with fail
      go_ret
      refine ⟨ret_bool ?_, rfl⟩
      rw [HR.out, HE.out, HBad.out (.inr (.inr (.inr ⟨h1, h2, .inl (by simp), h4⟩)))]; rfl
     ·have h4' : (a.size : Int) ≤ 400:=by omega
      have HN:=Lib.hid (HEq.out h1 h2 (.inl rfl) h4')
      clear h4
      go_wp2_with fail
      refine HT.out.mono ?_
      rintro r w1 ⟨rfl, rfl⟩
      generalize isList v = t at HN
      cases t with
      | false =>
       go_wp2_with fail
       go_ret
       refine ⟨ret_bool ?_, rfl⟩
       rw [HR.out, HE.out, HN.out]; rfl
      | true =>
       go_wp2_with fail
       refine ⟨⟨q + 1, by omega, by go_num, ?_, trivial⟩, by simp [intOf]; omega⟩
       show _ = _
       rw [HE.out, HN.out]; rfl
  ·have hE2:=hE.out
   rw [List.drop_eq_nil_of_le (by omega), List.any_nil] at hE2
   have HE:=Lib.hid hE2
   obtain rfl : q = l.length:=by omega
   clear hE hE2 hlt
   by_cases h12 : (l.length : Int) ≤ 12
   ·go_wp2_with fail
    go_ret
    refine ⟨ret_bool ?_, rfl⟩
    rw [HR.out, HE.out, decide_eq_true (by omega)]; all_goals (first | rfl | (simp; done) | (simp; omega))
   ·have h12' : 12 < (l.length : Int):=by omega
    go_wp2_with fail
    go_ret
    refine ⟨ret_bool ?_, rfl⟩
    rw [HR.out, HE.out, decide_eq_false (by omega)]; all_goals (first | rfl | (simp; done) | (simp; omega))
end Go.Proofs.YtconghaebebncaaGreatDoor.Ms
namespace Go.Proofs.YtconghaebebncaaGreatDoor.Ms
open Go.RowKit
theorem run_pushE {w : World} {o : Oper} {ev : Operand → Value} (sl x : Operand)
  (ho : o.op = .call { callee:=.builtin .append, args:=#[sl, x], argTypes:=#[55, 55] })
  (base : Nat) (v : Value) (xs : List Value) (done : List Be.El) (hs : ev sl = v) (hG : Be.Gath w base v xs done) (g : Nat) (hx : ev x = .slice (some ⟨g, 0, none⟩) 1 1)
  {e : Be.El} {p q r : Value} (hB : Blk w g 57 #[p, q, r]) (hone : ∀ u ∈ [p, q, r], u.oneCell' = true) (hL : Be.Lies w (fun b=>base ≤ b ∧ b < w.heap.size ∧ v.ownBlock ≠ some b) e [p, q, r]) (hl : done.length < 1000000) (hbase : base ≤ w.heap.size) :
  ∃ v' w', (execOp ev o).run Tryz.prog w = .ok (.value v') w' ∧ Be.Gath w' base v' (xs ++ [p, q, r]) (done ++ [e]) ∧ Below base w w' ∧ w.grownBy w' v.ownBlock:=by
 obtain ⟨i0, hi, hz0, hz1, hz2⟩:=infoP Be.infoElV
 obtain ⟨v', w', hr, h2, h3, h4, h5⟩:=run_append_own_at (P:=Tryz.prog) w base 55 o.type 57 i0 _ 3 48 Tryz.underlying55 hi hz0 hz1 hz2 rfl (by decide) v done.length xs hG.1 ⟨g, 0, none⟩ 1 1 [p, q, r] rfl (fun j u hj=>by
  rw [Addr.add_lit, Nat.zero_add, hB.cell j]
  simpa using hj) hone (by unfold maxLen; omega) (by omega) hbase
 refine ⟨v', w', ?_, hG.step hL h2 h3 h5, (Below.refl _ _).grown h3 hbase (fun k hk=>(hG.1.lt k hk).1), h3⟩
 unfold execOp
 simp only [ho, resolve, invoke, builtin, Sem.run_bind, Sem.run_pure, Result.andThen_ok, List.map_toArray, List.map_cons, List.map_nil, hs, hx, hr]
theorem kids_litP {w : World} {B : Nat} (hB : B ≤ w.heap.size) (es : List Be.El) (css : List (List Value)) (hlen : es.length = css.length) (h3 : ∀ cs ∈ css, cs.length = 3) (hL : ∀ i (h : i < es.length), Be.Lies w (fun b=>B ≤ b ∧ b < w.heap.size) es[i] (css.getD i [])) :
  Be.KidsAt (w.alloc (.cells css.flatten.toArray 57)) (fun b=>B ≤ b ∧ b < (w.alloc (.cells css.flatten.toArray 57)).heap.size) (some ⟨w.heap.size, 0, none⟩) es (fun i=>css.getD i []):=by
 have hget : ∀ i, i < css.length → css.getD i [] ∈ css:=fun i hi=>by rw [List.getD_eq_getElem?_getD, List.getElem?_eq_getElem hi]; exact List.getElem_mem hi
 have hfl : ∀ (l : List (List Value)), (∀ cs ∈ l, cs.length = 3) → ∀ i j u, i < l.length → (l.getD i [])[j]? = some u → l.flatten[i * 3 + j]? = some u:=by
  intro l
  induction l with
  | nil=>intro _ i j u hi; exact absurd hi (by simp)
  | cons c l ih =>
   intro h i j u hi hj
   have hc:=h c (by simp)
   cases i with
   | zero =>
    have hjl : j < c.length:=(List.getElem?_eq_some_iff.1 hj).1
    rw [List.flatten_cons, List.getElem?_append_left (by omega)]
    simpa using hj
   | succ i =>
    rw [List.flatten_cons, List.getElem?_append_right (by omega), hc, show (i + 1) * 3 + j - 3 = i * 3 + j by omega]
    exact ih (fun cs hcs=>h cs (by simp [hcs])) i j u (by simpa using hi) (by simpa using hj)
 refine ⟨fun i hi=>h3 _ (hget i (by omega)), fun _=>⟨_, rfl, ⟨hB, by simp⟩, fun i hi j u hu=>?_⟩, fun i hi=>(hL i hi).imp (fun b h=>⟨h.1, by have:=h.2; simp; omega⟩) (fun p hp=>World.cell?_alloc_lt _ _ p hp.2)⟩
 rw [Addr.add_lit, Nat.zero_add, (Blk.new w 57 css.flatten.toArray).cell]
 simpa using hfl css h3 i j u (by omega) hu
theorem kids_litQ {w : World} {P : Nat → Prop} (hP : P w.heap.size) (es : List Be.El) (css : List (List Value)) (hlen : es.length = css.length) (h3 : ∀ cs ∈ css, cs.length = 3) (hL : ∀ i (h : i < es.length), Be.Lies w (fun b=>P b ∧ b < w.heap.size) es[i] (css.getD i [])) :
  Be.KidsAt (w.alloc (.cells css.flatten.toArray 57)) (fun b=>P b ∧ b < (w.alloc (.cells css.flatten.toArray 57)).heap.size) (some ⟨w.heap.size, 0, none⟩) es (fun i=>css.getD i []):=by
 have hget : ∀ i, i < css.length → css.getD i [] ∈ css:=fun i hi=>by rw [List.getD_eq_getElem?_getD, List.getElem?_eq_getElem hi]; exact List.getElem_mem hi
 have hfl : ∀ (l : List (List Value)), (∀ cs ∈ l, cs.length = 3) → ∀ i j u, i < l.length → (l.getD i [])[j]? = some u → l.flatten[i * 3 + j]? = some u:=by
  intro l
  induction l with
  | nil=>intro _ i j u hi; exact absurd hi (by simp)
  | cons c l ih =>
   intro h i j u hi hj
   have hc:=h c (by simp)
   cases i with
   | zero =>
    have hjl : j < c.length:=(List.getElem?_eq_some_iff.1 hj).1
    rw [List.flatten_cons, List.getElem?_append_left (by omega)]
    simpa using hj
   | succ i =>
    rw [List.flatten_cons, List.getElem?_append_right (by omega), hc, show (i + 1) * 3 + j - 3 = i * 3 + j by omega]
    exact ih (fun cs hcs=>h cs (by simp [hcs])) i j u (by simpa using hi) (by simpa using hj)
 refine ⟨fun i hi=>h3 _ (hget i (by omega)), fun _=>⟨_, rfl, ⟨hP, by simp⟩, fun i hi j u hu=>?_⟩, fun i hi=>(hL i hi).imp (fun b h=>⟨h.1, by have:=h.2; simp; omega⟩) (fun p hp=>World.cell?_alloc_lt _ _ p hp.2)⟩
 rw [Addr.add_lit, Nat.zero_add, (Blk.new w 57 css.flatten.toArray).cell]
 simpa using hfl css h3 i j u (by omega) hu
theorem step_pushE {ops : Array Oper} {Q : Exit → Act → World → Prop} {md : Region.Mode} {S : World → Prop} {fuel : Nat} {lm : Array Bool} {a : Act} {w : World} (i : Nat) {o : Oper} (hi : ops[i]? = some o) (hrd : Region.ready md ops lm = [i]) (hw : Region.wanted o (yielded ops a.tmps) = true) (sl x : Operand)
  (ho : o.op = .call { callee:=.builtin .append, args:=#[sl, x], argTypes:=#[55, 55] })
  (base : Nat) (v : Value) (xs : List Value) (done : List Be.El) (hs : a.eval sl = v) (hG : Be.Gath w base v xs done) (g : Nat) (hx : a.eval x = .slice (some ⟨g, 0, none⟩) 1 1)
  {e : Be.El} {p q r : Value} (hB : Blk w g 57 #[p, q, r]) (hone : ∀ u ∈ [p, q, r], u.oneCell' = true) (hL : Be.Lies w (fun b=>base ≤ b ∧ b < w.heap.size ∧ v.ownBlock ≠ some b) e [p, q, r]) (hl : done.length < 1000000) (hbase : base ≤ w.heap.size)
  (h : ∀ v' w', Be.Gath w' base v' (xs ++ [p, q, r]) (done ++ [e]) → Below base w w' → S w' ∧ wpAnyH Tryz.prog md ops Q S fuel (lm.setIfInBounds i true) (a.put o.dst v') w') : wpAnyH Tryz.prog md ops Q S (fuel + 1) lm a w:=by
 obtain ⟨v', w', hr, hG', hb, _⟩:=run_pushE sl x ho base v xs done hs hG g hx hB hone hL hl hbase
 obtain ⟨hS, hK⟩:=h v' w' hG' hb
 exact Rg.run i hi hrd hw v' w' hr hS hK
theorem step_pushF {ops : Array Oper} {Q : Exit → Act → World → Prop} {md : Region.Mode} {S : World → Prop} {fuel : Nat} {lm : Array Bool} {a : Act} {w : World} (i : Nat) {o : Oper} (hi : ops[i]? = some o) (hrd : Region.ready md ops lm = [i]) (hw : Region.wanted o (yielded ops a.tmps) = true) (sl x : Operand)
  (ho : o.op = .call { callee:=.builtin .append, args:=#[sl, x], argTypes:=#[55, 55] })
  (base : Nat) (v : Value) (xs : List Value) (done : List Be.El) (hs : a.eval sl = v) (hG : Be.Gath w base v xs done) (g : Nat) (hx : a.eval x = .slice (some ⟨g, 0, none⟩) 1 1)
  {e : Be.El} {p q r : Value} (hB : Blk w g 57 #[p, q, r]) (hone : ∀ u ∈ [p, q, r], u.oneCell' = true) (hL : Be.Lies w (fun b=>base ≤ b ∧ b < w.heap.size ∧ v.ownBlock ≠ some b) e [p, q, r]) (hl : done.length < 1000000) (hbase : base ≤ w.heap.size)
  (h : ∀ v' w', Be.Gath w' base v' (xs ++ [p, q, r]) (done ++ [e]) → Below base w w' → w.grownBy w' v.ownBlock → S w' ∧ wpAnyH Tryz.prog md ops Q S fuel (lm.setIfInBounds i true) (a.put o.dst v') w') : wpAnyH Tryz.prog md ops Q S (fuel + 1) lm a w:=by
 obtain ⟨v', w', hr, hG', hb, hgr⟩:=run_pushE sl x ho base v xs done hs hG g hx hB hone hL hl hbase
 obtain ⟨hS, hK⟩:=h v' w' hG' hb hgr
 exact Rg.run i hi hrd hw v' w' hr hS hK
end Go.Proofs.YtconghaebebncaaGreatDoor.Ms
namespace Go.Proofs.YtconghaebebncaaGreatDoor.Rg
open Go.RowKit
section
variable {P : Program} {ops : Array Oper} {Q : Exit → Act → World → Prop} {md : Region.Mode} {S : World → Prop} {fuel : Nat} {l : Array Bool} {a : Act} {w : World}
theorem fork (i j : Nat) (hr : Region.ready md ops l = [i, j]) (h1 : wpOp P ops Q i (fun a' w'=>S w' ∧ wpAnyH P md ops Q S fuel (l.setIfInBounds i true) a' w') a w)
  (h2 : wpOp P ops Q j (fun a' w'=>S w' ∧ wpAnyH P md ops Q S fuel (l.setIfInBounds j true) a' w') a w) : wpAnyH P md ops Q S (fuel + 1) l a w :=
 wpAnyH_all hr (by simp) (fun k hk=>by
  simp only [List.mem_cons, List.not_mem_nil, or_false] at hk
  rcases hk with rfl | rfl
  ·exact h1
  ·exact h2)
theorem opCall (i : Nat) {o : Oper} (hi : ops[i]? = some o) (hw : Region.wanted o (yielded ops a.tmps) = true) (f : FuncId) (args : Array Value)
  (hrun : (execOp a.eval o).run P w = .ok (.enter f args) w) {R : Ending → World → Prop} (hc : Calls P f args w R)
  (h : ∀ e w', R e w' → ∃ v, e = .returned v ∧ S w' ∧ wpAnyH P md ops Q S fuel (l.setIfInBounds i true) (a.put o.dst v) w') : wpOp P ops Q i (fun a' w'=>S w' ∧ wpAnyH P md ops Q S fuel (l.setIfInBounds i true) a' w') a w :=
 wpOp_step hi (fun K hK=>by
  rw [if_pos hw]
  unfold Oper.wp
  rw [hrun, Oper.upon_enter]
  refine hc.mono fun e w' hR=>?_
  obtain ⟨v, rfl, hS, hW⟩:=h e w' hR
  exact hK _ _ ⟨hS, hW⟩)
theorem opRun (i : Nat) {o : Oper} (hi : ops[i]? = some o) (hw : Region.wanted o (yielded ops a.tmps) = true) (v : Value) (w' : World)
  (hrun : (execOp a.eval o).run P w = .ok (.value v) w') (hS : S w') (h : wpAnyH P md ops Q S fuel (l.setIfInBounds i true) (a.put o.dst v) w') : wpOp P ops Q i (fun a' w'=>S w' ∧ wpAnyH P md ops Q S fuel (l.setIfInBounds i true) a' w') a w :=
 wpOp_step hi (fun K hK=>by
  rw [if_pos hw]
  unfold Oper.wp
  rw [hrun, Oper.upon_value]
  exact hK _ _ ⟨hS, h⟩)
end
end Go.Proofs.YtconghaebebncaaGreatDoor.Rg
namespace Go.Proofs.YtconghaebebncaaGreatDoor.Ms
open Go.RowKit
theorem rlist_tell {w w1 w2 : World} {t : Nat} {v : Value} {xs : List Value} {D ks : List Be.El} (hD : D = ks) (hb : Below w.heap.size w w1) (hb2 : Below w1.heap.size w1 w2) (hG : Be.Gath w1 (w.heap.size + 1) v xs D) :
  ∃ A c, v = .slice A ks.length c ∧ NewLst w t ks (.returned (.agg #[.int .u8 (t : Nat), .string ⟨#[]⟩, v])) (((w2.setCell ⟨w.heap.size, 0, none⟩ (.int .u8 (t : Nat))).setCell ⟨w.heap.size, 1, none⟩ (.string ⟨#[]⟩)).setCell ⟨w.heap.size, 2, none⟩ v):=by
 subst hD
 obtain ⟨A, c, ds, rfl, hK⟩:=hG.shut
 exact ⟨A, c, rfl, new_lst (hb.trans (hb2.mono hb.size)) (hK.imp (P':=fun b=>w.heap.size < b ∧ b < w2.heap.size) (fun b h=>⟨by have:=h.1; omega, Nat.lt_of_lt_of_le h.2 hb2.size⟩) (fun p hp=>hb2.cell hp.2)) (fun b h=>h)⟩
set_option maxHeartbeats 2000000 in
theorem rall_any (t : Nat) (ht : t ≤ 255) (A : Option Addr) (c : Nat) (l : List ByteArray) (w : World) (hl : l.length ≤ 1000) (hs : ∀ s ∈ l, s.size ≤ 281474976710656) (hA : Fi.StrsAt w (· < w.heap.size) A l) :
  Calls Tryz.prog 56 #[.int .u8 (t : Nat), .slice A l.length c] w (NewLst w t (l.map (txt 4))):=by
 have HA:=Lib.hid hA
 have HS:=Lib.hid hs
 obtain ⟨ks, hks⟩ : ∃ ks, ks = l.map (txt 4):=⟨_, rfl⟩
 have hmt:=map_take (txt 4) l
 rw [← hks] at hmt ⊢
 have HM:=Lib.hid hmt
 have B0:=Blk.new w 57 #[.int .u8 0, .string ⟨#[]⟩, .slice none 0 0]
 have hb0:=(Below.refl w.heap.size w).alloc (Nat.le_refl _) (.cells #[.int .u8 0, .string ⟨#[]⟩, .slice none 0 0] 57)
 have HB0:=Lib.hid B0
 have Hb0:=Lib.hid hb0
 clear hA hs hks hmt B0 hb0
 go_enter Tryz.func56, Tryz.ntmps56
 go_wp2_with fail
 go_loopw [5, 6] (fun v i wr=>∃ (q : Nat) (xs : List Value), q ≤ l.length ∧ i = .int .i64 q ∧ Hid (Be.Gath wr (w.heap.size + 1) v xs (ks.take q)) ∧ Hid (Blk wr w.heap.size 57 #[.int .u8 0, .string ⟨#[]⟩, .slice none 0 0]) ∧ Below w.heap.size w wr ∧ w.heap.size + 1 ≤ wr.heap.size) (fun v i wr=>l.length - (intOf i).toNat)
 case atStart=>exact ⟨0, [], Nat.zero_le _, rfl, Be.Gath.nil _ _, HB0, Hb0.out, by simp⟩
 case round =>
  obtain ⟨q, xs, hq, rfl, hG, hBr, hb, hge⟩:=hrel
  have hsz:=hb.size
  by_cases hlt : q < l.length
  ·obtain ⟨ad, rfl, hp, hc⟩:=HA.out (by omega)
   have f0:=batA hb (by rw [block_of_add]; exact hp) (hc q hlt)
   have hsq:=HS.out _ (List.getElem_mem hlt)
   have hdl:=take_len HM.out.1 hq hl
   have hmt:=Lib.hid (HM.out.2 q hlt)
   generalize l[q] = s at f0 hsq hmt
   clear hc
   go_wp2_with fail
   refine (rtext_any s wr).mono ?_
   rintro e w1 ⟨rfl, hb1⟩
   have HB:=Lib.hid (Blk.new w1 57 #[.int .u8 4, .string s, .slice none 0 0])
   have HG1:=Lib.hid ((hG.out.past hb1).alloc (.cells #[.int .u8 4, .string s, .slice none 0 0] 57))
   have HBr:=Lib.hid ((hBr.out.past hb1).alloc (.cells #[.int .u8 4, .string s, .slice none 0 0] 57))
   have hbw:=hb.trans (hb1.mono hsz)
   have hz:=hbw.size
   have hge1 : w.heap.size + 1 ≤ w1.heap.size:=Nat.le_trans hge hb1.size
   have hz2 : w.heap.size + 1 ≤ (w1.alloc (.cells #[.int .u8 4, .string s, .slice none 0 0] 57)).heap.size:=by simp; omega
   clear hG hb hb1 hBr
   go_wp2_with (at_builtin; go_loud (refine wpList_pushE rfl _ _ rfl (w.heap.size + 1) _ _ _ rfl HG1.out w1.heap.size rfl HB.out one3 (lies_leaf (by decide) hsq) hdl hz2 ?_))
   intro v' w2 hG2 hb2
   rw [← hmt.out] at hG2
   have HG2:=Lib.hid hG2
   have HBr2:=Lib.hid ((hb2.block w.heap.size (by omega)).trans HBr.out)
   have hb3:=(hbw.alloc hz (.cells #[.int .u8 4, .string s, .slice none 0 0] 57)).trans (hb2.mono (by omega))
   have hge2 : w.heap.size + 1 ≤ w2.heap.size:=Nat.le_trans hz2 hb2.size
   clear hG2 hb2
   go_wp2_with fail
   refine ⟨⟨q + 1, _, by omega, by go_num, HG2, HBr2, hb3, hge2⟩, by simp [intOf]; omega⟩
  ·have hq2 : q = l.length:=by omega
   subst hq2
   have htl:=rlist_tell (t:=t) (w2:=wr) (show ks.take l.length = ks from List.take_of_length_le (by rw [HM.out.1]; omega)) hb (Below.refl _ _) hG.out
   obtain ⟨A2, c2, rfl, _⟩:=htl
   have HT:=Lib.hid (fun w2 (h : Below wr.heap.size wr w2)=>rlist_tell (t:=t) (show ks.take l.length = ks from List.take_of_length_le (by rw [HM.out.1]; omega)) hb h hG.out)
   clear hG
   go_wp2_with fail
   refine (Be.RList_any (t : Nat) A2 ks.length c2 wr).mono ?_
   rintro e w1 ⟨rfl, hb1⟩
   have B1:=hBr.out.past hb1
   have c0 : w1.cell? ⟨w.heap.size, 0, none⟩ = some (.int .u8 0):=B1.cell 0
   have c1 : w1.cell? ⟨w.heap.size, 1, none⟩ = some (.string ⟨#[]⟩):=B1.cell 1
   have c2' : w1.cell? ⟨w.heap.size, 2, none⟩ = some (.slice none 0 0):=B1.cell 2
   have g0:=B1.frozen 0
   have g1:=B1.frozen 1
   have g2:=B1.frozen 2
   obtain ⟨_, _, _, hN⟩:=HT.out w1 hb1
   have HN:=Lib.hid hN
   clear hN hb
   go_wp2_with fail
   exact bodyPost_ret (Be.res_el rfl _ _ w.heap.size _ _ _ rfl (Be.Blk.set3 B1)) rfl HN.out
end Go.Proofs.YtconghaebebncaaGreatDoor.Ms
