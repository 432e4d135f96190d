import Derived.Test.YtconghaebebncaaGreatDoorZT28
import Derived.Test.YtconghaebebncaaGreatDoorZT9
import Derived.Test.YtconghaebebncaaGreatDoorZT8
import Derived.Test.YtconghaebebncaaGreatDoorZT31
namespace Go.Proofs.YtconghaebebncaaGreatDoor.Ms
open Go.RowKit
set_option linter.unusedVariables false
set_option maxRecDepth 100000
set_option maxHeartbeats 400000 in
theorem rtext_any (s : ByteArray) (w : World) :
  Calls Tryz.prog 52 #[.string s] w fun e w' => e = .returned (.agg #[.int .u8 4, .string s, .slice none 0 0]) ∧ Below w.heap.size w w' := by
 go_enter Tryz.func52, Tryz.ntmps52
 go_wp2_with fail
 refine (Be.RText_any 4 s _).mono ?_
 rintro e w1 ⟨rfl, hb1⟩
 have B1 := (Blk.new w 57 #[.int .u8 0, .string ⟨#[]⟩, .slice none 0 0]).past hb1
 have c0 : w1.cell? ⟨w.heap.size, 0, none⟩ = some (.int .u8 0) := B1.cell 0
 have c1 : w1.cell? ⟨w.heap.size, 1, none⟩ = some (.string ⟨#[]⟩) := B1.cell 1
 have c2 : w1.cell? ⟨w.heap.size, 2, none⟩ = some (.slice none 0 0) := B1.cell 2
 have g0 := B1.frozen 0
 have g1 := B1.frozen 1
 have g2 := B1.frozen 2
 go_wp2_with fail
 exact bodyPost_ret (Be.res_el rfl _ _ w.heap.size _ _ _ rfl (Be.Blk.set3 B1)) rfl ⟨rfl, below_el hb1⟩
set_option maxHeartbeats 400000 in
theorem rnum_any (t : Int) (n : Int) (w : World) (h0 : -9223372036854775808 ≤ n) (h1 : n ≤ 9223372036854775807) :
  Calls Tryz.prog 23 #[.int .u8 t, .int .i64 n] w fun e w' => e = .returned (.agg #[.int .u8 t, .string (strOfNums (Be.intB n)), .slice none 0 0]) ∧ Below w.heap.size w w' := by
 go_enter Tryz.func23, Tryz.ntmps23
 go_wp2_with fail
 refine (Be.RNumber_any t n _ h0 h1).mono ?_
 rintro e w1 ⟨rfl, hb1⟩
 have B1 := (Blk.new w 57 #[.int .u8 0, .string ⟨#[]⟩, .slice none 0 0]).past hb1
 have c0 : w1.cell? ⟨w.heap.size, 0, none⟩ = some (.int .u8 0) := B1.cell 0
 have c1 : w1.cell? ⟨w.heap.size, 1, none⟩ = some (.string ⟨#[]⟩) := B1.cell 1
 have c2 : w1.cell? ⟨w.heap.size, 2, none⟩ = some (.slice none 0 0) := B1.cell 2
 have g0 := B1.frozen 0
 have g1 := B1.frozen 1
 have g2 := B1.frozen 2
 go_wp2_with fail
 exact bodyPost_ret (Be.res_el rfl _ _ w.heap.size _ _ _ rfl (Be.Blk.set3 B1)) rfl ⟨rfl, below_el hb1⟩
set_option maxHeartbeats 400000 in
theorem rflag_any (b : Bool) (w : World) :
  Calls Tryz.prog 54 #[.bool b] w fun e w' => e = .returned (.agg #[.int .u8 1, .string (boolB b), .slice none 0 0]) ∧ Below w.heap.size w w' := by
 have HB := Lib.hid (fun w => Be.RBool_any b w)
 rw [boolB_eq] at HB
 go_enter Tryz.func54, Tryz.ntmps54
 go_wp2_with fail
 refine (HB.out _).mono ?_
 rintro e w0 ⟨rfl, rfl⟩
 go_wp2_with fail
 refine (Be.RText_any 1 _ _).mono ?_
 rintro e w1 ⟨rfl, hb1⟩
 have B1 := (Blk.new w 57 #[.int .u8 0, .string ⟨#[]⟩, .slice none 0 0]).past hb1
 have c0 : w1.cell? ⟨w.heap.size, 0, none⟩ = some (.int .u8 0) := B1.cell 0
 have c1 : w1.cell? ⟨w.heap.size, 1, none⟩ = some (.string ⟨#[]⟩) := B1.cell 1
 have c2 : w1.cell? ⟨w.heap.size, 2, none⟩ = some (.slice none 0 0) := B1.cell 2
 have g0 := B1.frozen 0
 have g1 := B1.frozen 1
 have g2 := B1.frozen 2
 go_wp2_with fail
 exact bodyPost_ret (Be.res_el rfl _ _ w.heap.size _ _ _ rfl (Be.Blk.set3 B1)) rfl ⟨rfl, below_el hb1⟩
theorem isList_cases (l : List ByteArray) : isList l = (!l.any isLong && decide (l.length ≤ 12)) := by
 unfold isList areShort
 rw [Bool.and_comm]
set_option maxHeartbeats 2000000 in
theorem rtexts_any (A : Option Addr) (c : Nat) (l : List ByteArray) (w : World) (hl : l.length ≤ maxLen) (hA : Fi.StrsAt w (· < w.heap.size) A l) :
  Calls Tryz.prog 33 #[.slice A l.length c] w fun r w' => r = .returned (.bool (isList l)) ∧ w' = w := by
 unfold maxLen at hl
 have HS := Lib.hid hA
 have HR := Lib.hid (isList_cases l)
 clear hA
 go_enter Tryz.func33, Tryz.ntmps33
 go_wp2_with fail
 go_loopw [3] (fun i wr => ∃ q : Nat, q ≤ l.length ∧ i = .int .i64 q ∧ Hid (l.any isLong = (l.drop q).any isLong) ∧ wr = w) (fun i wr => l.length - (intOf i).toNat)
 case atStart => exact ⟨0, Nat.zero_le _, rfl, rfl, rfl⟩
 case round =>
  obtain ⟨q, hq, rfl, hE, rfl⟩ := hrel
  by_cases hlt : q < l.length
  ·obtain ⟨ad, rfl, hp, hc⟩ := HS.out (by omega)
   have f0 := hc q hlt
   have hE2 := hE.out
   rw [any_drop hlt] at hE2
   generalize l[q] = s at f0 hE2
   have HE := Lib.hid hE2
   clear hE hE2 hc
   by_cases h4 : 400 < (s.size : Int)
   ·go_wp2_with fail
    go_ret
    refine ⟨ret_bool ?_, rfl⟩
    rw [HR.out, HE.out, show isLong s = true by unfold isLong; exact decide_eq_true (by omega)]; rfl
   ·have h4' : (s.size : Int) ≤ 400 := by omega
    clear h4
    go_wp2_with fail
    refine ⟨⟨q + 1, by omega, by go_num, ?_, trivial⟩, by simp [intOf]; omega⟩
    show _ = _
    rw [HE.out, show isLong s = false by unfold isLong; exact decide_eq_false (by omega)]; rfl
  ·have hE2 := hE.out
   rw [List.drop_eq_nil_of_le (by omega), List.any_nil] at hE2
   have HE := Lib.hid hE2
   obtain rfl : q = l.length := by omega
   clear hE hE2 hlt
   by_cases h12 : (l.length : Int) ≤ 12
   ·go_wp2_with fail
    go_ret
    refine ⟨ret_bool ?_, rfl⟩
    rw [HR.out, HE.out, decide_eq_true (by omega)]; all_goals (first | rfl | (simp; done) | (simp; omega))
   ·have h12' : 12 < (l.length : Int) := by omega
    go_wp2_with fail
    go_ret
    refine ⟨ret_bool ?_, rfl⟩
    rw [HR.out, HE.out, decide_eq_false (by omega)]; all_goals (first | rfl | (simp; done) | (simp; omega))
end Go.Proofs.YtconghaebebncaaGreatDoor.Ms
namespace Go.Proofs.YtconghaebebncaaGreatDoor.Ms
open Go.RowKit
set_option linter.unusedVariables false
set_option maxRecDepth 100000
theorem noModR_of {any : Bool} {d : Mo} : (d.kind < 1 ∨ (1 ≤ d.kind ∧ 3 < d.kind) ∨ (1 ≤ d.kind ∧ d.kind ≤ 3 ∧ any = false ∧ d.kind ≠ 1) ∨ (1 ≤ d.kind ∧ d.kind ≤ 3 ∧ (any = true ∨ d.kind = 1) ∧ 400 < (d.attr.size : Int))) → noModR any d = true := by
 intro h
 unfold noModR isLong
 rcases h with h | ⟨_, h⟩ | ⟨_, _, h, h'⟩ | ⟨_, _, _, h⟩
 ·rw [decide_eq_true h]; rfl
 ·rw [decide_eq_true h]; simp
 ·rw [h, decide_eq_true h']; simp
 ·rw [decide_eq_true (show 400 < d.attr.size by omega)]; simp
theorem noModR_eq {any : Bool} {d : Mo} (h1 : 1 ≤ d.kind) (h2 : d.kind ≤ 3) (h3 : any = true ∨ d.kind = 1) (h4 : (d.attr.size : Int) ≤ 400) : noModR any d = !isList d.vals := by
 unfold noModR isLong
 rw [decide_eq_false (show ¬ d.kind < 1 by omega), decide_eq_false (show ¬ 3 < d.kind by omega), decide_eq_false (show ¬ 400 < d.attr.size by omega)]
 rcases h3 with h3 | h3
 ·rw [h3]; simp
 ·rw [h3]; simp
set_option maxHeartbeats 4000000 in
theorem rmods_any (A : Option Addr) (c : Nat) (l : List Mo) (ds : Nat → List Value) (any : Bool) (w : World) (hl : l.length ≤ maxLen) (hM : MosAt w (· < w.heap.size) A l ds) :
  Calls Tryz.prog 34 #[.slice A l.length c, .bool any] w fun r w' => r = .returned (.bool (modsR l any)) ∧ w' = w := by
 unfold maxLen at hl
 have HM := Lib.hid hM
 have HR := Lib.hid (show modsR l any = (!l.any (noModR any) && decide (l.length ≤ 12)) from rfl)
 clear hM
 go_enter Tryz.func34, Tryz.ntmps34
 go_wp2_with fail
 go_loopw [5] (fun i wr => ∃ q : Nat, q ≤ l.length ∧ i = .int .i64 q ∧ Hid (l.any (noModR any) = (l.drop q).any (noModR any)) ∧ wr = w) (fun i wr => l.length - (intOf i).toNat)
 case atStart => exact ⟨0, Nat.zero_le _, rfl, rfl, rfl⟩
 case round =>
  obtain ⟨q, hq, rfl, hE, rfl⟩ := hrel
  by_cases hlt : q < l.length
  ·obtain ⟨ad, V, vc, rfl, hp, f0, f1, f2, hL⟩ := HM.out.kid (Below.refl _ _) hlt
   obtain ⟨V1, vc1, ev, _, lv, _, hV, _⟩ := hL
   simp only [List.cons.injEq, Value.slice.injEq, true_and, and_true] at ev
   obtain ⟨rfl, rfl⟩ := ev
   have hE2 := hE.out
   rw [any_drop hlt] at hE2
   generalize l[q] = d at f0 f1 f2 hV lv hE2
   have hbad := @noModR_of any d
   have heq := @noModR_eq any d
   obtain ⟨k, a, v⟩ := d
   simp only at f0 f1 f2 hV lv hbad heq
   have HT := Lib.hid (rtexts_any V vc v wr lv hV)
   have HE := Lib.hid hE2
   have HBad := Lib.hid hbad
   have HEq := Lib.hid heq
   clear hE hE2 hV hbad heq
   rcases (by omega : k < 1 ∨ (1 ≤ k ∧ 3 < k) ∨ (1 ≤ k ∧ k ≤ 3)) with h1 | ⟨h1, h2⟩ | ⟨h1, h2⟩
   ·go_wp2_with fail
    go_ret
    refine ⟨ret_bool ?_, rfl⟩
    rw [HR.out, HE.out, HBad.out (.inl h1)]; rfl
   ·go_wp2_with fail
    go_ret
    refine ⟨ret_bool ?_, rfl⟩
    rw [HR.out, HE.out, HBad.out (.inr (.inl ⟨h1, h2⟩))]; rfl
   ·have hq1 : (decide (k < 1)) = false := decide_eq_false (by omega)
    have hq3 : (decide (3 < k)) = false := decide_eq_false (by omega)
    cases any with
    | false =>
     by_cases hk : k = 1
     ·subst hk
      by_cases h4 : 400 < (a.size : Int)
      ·go_wp2_with fail
       go_ret
       refine ⟨ret_bool ?_, rfl⟩
       rw [HR.out, HE.out, HBad.out (.inr (.inr (.inr ⟨h1, h2, .inr (by simp), h4⟩)))]; rfl
      ·have h4' : (a.size : Int) ≤ 400 := by omega
       have HN := Lib.hid (HEq.out h1 h2 (.inr rfl) h4')
       clear h4
       go_wp2_with fail
       refine HT.out.mono ?_
       rintro r w1 ⟨rfl, rfl⟩
       generalize isList v = t at HN
       cases t with
       | false =>
        go_wp2_with fail
        go_ret
        refine ⟨ret_bool ?_, rfl⟩
        rw [HR.out, HE.out, HN.out]; rfl
       | true =>
        go_wp2_with fail
        refine ⟨⟨q + 1, by omega, by go_num, ?_, trivial⟩, by simp [intOf]; omega⟩
        show _ = _
        rw [HE.out, HN.out]; rfl
     ·have hk2 : (k != 1) = true := by rw [bne_iff_ne]; exact hk
      go_wp2_with fail
      go_ret
      refine ⟨ret_bool ?_, rfl⟩
      rw [HR.out, HE.out, HBad.out (.inr (.inr (.inl ⟨h1, h2, (by simp), hk⟩)))]; rfl
    | true =>
     by_cases h4 : 400 < (a.size : Int)
     ·go_wp2_with fail
      go_ret
      refine ⟨ret_bool ?_, rfl⟩
      rw [HR.out, HE.out, HBad.out (.inr (.inr (.inr ⟨h1, h2, .inl (by simp), h4⟩)))]; rfl
     ·have h4' : (a.size : Int) ≤ 400 := by omega
      have HN := Lib.hid (HEq.out h1 h2 (.inl rfl) h4')
      clear h4
      go_wp2_with fail
      refine HT.out.mono ?_
      rintro r w1 ⟨rfl, rfl⟩
      generalize isList v = t at HN
      cases t with
      | false =>
       go_wp2_with fail
       go_ret
       refine ⟨ret_bool ?_, rfl⟩
       rw [HR.out, HE.out, HN.out]; rfl
      | true =>
       go_wp2_with fail
       refine ⟨⟨q + 1, by omega, by go_num, ?_, trivial⟩, by simp [intOf]; omega⟩
       show _ = _
       rw [HE.out, HN.out]; rfl
  ·have hE2 := hE.out
   rw [List.drop_eq_nil_of_le (by omega), List.any_nil] at hE2
   have HE := Lib.hid hE2
   obtain rfl : q = l.length := by omega
   clear hE hE2 hlt
   by_cases h12 : (l.length : Int) ≤ 12
   ·go_wp2_with fail
    go_ret
    refine ⟨ret_bool ?_, rfl⟩
    rw [HR.out, HE.out, decide_eq_true (by omega)]; all_goals (first | rfl | (simp; done) | (simp; omega))
   ·have h12' : 12 < (l.length : Int) := by omega
    go_wp2_with fail
    go_ret
    refine ⟨ret_bool ?_, rfl⟩
    rw [HR.out, HE.out, decide_eq_false (by omega)]; all_goals (first | rfl | (simp; done) | (simp; omega))
end Go.Proofs.YtconghaebebncaaGreatDoor.Ms
namespace Go.Proofs.YtconghaebebncaaGreatDoor.Ms
open Go.RowKit
set_option linter.unusedVariables false
set_option maxRecDepth 100000
theorem rlist_tell {w w1 w2 : World} {t : Nat} {v : Value} {xs : List Value} {D ks : List Be.El} (hD : D = ks) (hb : Below w.heap.size w w1) (hb2 : Below w1.heap.size w1 w2) (hG : Be.Gath w1 (w.heap.size + 1) v xs D) :
  ∃ A c, v = .slice A ks.length c ∧ NewLst w t ks (.returned (.agg #[.int .u8 (t : Nat), .string ⟨#[]⟩, v])) (((w2.setCell ⟨w.heap.size, 0, none⟩ (.int .u8 (t : Nat))).setCell ⟨w.heap.size, 1, none⟩ (.string ⟨#[]⟩)).setCell ⟨w.heap.size, 2, none⟩ v) := by
 subst hD
 obtain ⟨A, c, ds, rfl, hK⟩ := hG.shut
 exact ⟨A, c, rfl, new_lst (hb.trans (hb2.mono hb.size)) (hK.imp (P' := fun b => w.heap.size < b ∧ b < w2.heap.size) (fun b h => ⟨by have := h.1; omega, Nat.lt_of_lt_of_le h.2 hb2.size⟩) (fun p hp => hb2.cell hp.2)) (fun b h => h)⟩
set_option maxHeartbeats 2000000 in
theorem rall_any (t : Nat) (ht : t ≤ 255) (A : Option Addr) (c : Nat) (l : List ByteArray) (w : World) (hl : l.length ≤ 1000) (hs : ∀ s ∈ l, s.size ≤ 281474976710656) (hA : Fi.StrsAt w (· < w.heap.size) A l) :
  Calls Tryz.prog 56 #[.int .u8 (t : Nat), .slice A l.length c] w (NewLst w t (l.map (txt 4))) := by
 have HA := Lib.hid hA
 have HS := Lib.hid hs
 obtain ⟨ks, hks⟩ : ∃ ks, ks = l.map (txt 4) := ⟨_, rfl⟩
 have hmt := map_take (txt 4) l
 rw [← hks] at hmt ⊢
 have HM := Lib.hid hmt
 have B0 := Blk.new w 57 #[.int .u8 0, .string ⟨#[]⟩, .slice none 0 0]
 have hb0 := (Below.refl w.heap.size w).alloc (Nat.le_refl _) (.cells #[.int .u8 0, .string ⟨#[]⟩, .slice none 0 0] 57)
 have HB0 := Lib.hid B0
 have Hb0 := Lib.hid hb0
 clear hA hs hks hmt B0 hb0
 go_enter Tryz.func56, Tryz.ntmps56
 go_wp2_with fail
 go_loopw [5, 6] (fun v i wr => ∃ (q : Nat) (xs : List Value), q ≤ l.length ∧ i = .int .i64 q ∧ Hid (Be.Gath wr (w.heap.size + 1) v xs (ks.take q)) ∧ Hid (Blk wr w.heap.size 57 #[.int .u8 0, .string ⟨#[]⟩, .slice none 0 0]) ∧ Below w.heap.size w wr ∧ w.heap.size + 1 ≤ wr.heap.size) (fun v i wr => l.length - (intOf i).toNat)
 case atStart => exact ⟨0, [], Nat.zero_le _, rfl, Be.Gath.nil _ _, HB0, Hb0.out, by simp⟩
 case round =>
  obtain ⟨q, xs, hq, rfl, hG, hBr, hb, hge⟩ := hrel
  have hsz := hb.size
  by_cases hlt : q < l.length
  ·obtain ⟨ad, rfl, hp, hc⟩ := HA.out (by omega)
   have f0 := batA hb (by rw [block_of_add]; exact hp) (hc q hlt)
   have hsq := HS.out _ (List.getElem_mem hlt)
   have hdl := take_len HM.out.1 hq hl
   have hmt := Lib.hid (HM.out.2 q hlt)
   generalize l[q] = s at f0 hsq hmt
   clear hc
   go_wp2_with fail
   refine (rtext_any s wr).mono ?_
   rintro e w1 ⟨rfl, hb1⟩
   have HB := Lib.hid (Blk.new w1 57 #[.int .u8 4, .string s, .slice none 0 0])
   have HG1 := Lib.hid ((hG.out.past hb1).alloc (.cells #[.int .u8 4, .string s, .slice none 0 0] 57))
   have HBr := Lib.hid ((hBr.out.past hb1).alloc (.cells #[.int .u8 4, .string s, .slice none 0 0] 57))
   have hbw := hb.trans (hb1.mono hsz)
   have hz := hbw.size
   have hge1 : w.heap.size + 1 ≤ w1.heap.size := Nat.le_trans hge hb1.size
   have hz2 : w.heap.size + 1 ≤ (w1.alloc (.cells #[.int .u8 4, .string s, .slice none 0 0] 57)).heap.size := by simp; omega
   clear hG hb hb1 hBr
   go_wp2_with (at_builtin; go_loud (refine wpList_pushE rfl _ _ rfl (w.heap.size + 1) _ _ _ rfl HG1.out w1.heap.size rfl HB.out one3 (lies_leaf (by decide) hsq) hdl hz2 ?_))
   intro v' w2 hG2 hb2
   rw [← hmt.out] at hG2
   have HG2 := Lib.hid hG2
   have HBr2 := Lib.hid ((hb2.block w.heap.size (by omega)).trans HBr.out)
   have hb3 := (hbw.alloc hz (.cells #[.int .u8 4, .string s, .slice none 0 0] 57)).trans (hb2.mono (by omega))
   have hge2 : w.heap.size + 1 ≤ w2.heap.size := Nat.le_trans hz2 hb2.size
   clear hG2 hb2
   go_wp2_with fail
   refine ⟨⟨q + 1, _, by omega, by go_num, HG2, HBr2, hb3, hge2⟩, by simp [intOf]; omega⟩
  ·have hq2 : q = l.length := by omega
   subst hq2
   have htl := rlist_tell (t := t) (w2 := wr) (show ks.take l.length = ks from List.take_of_length_le (by rw [HM.out.1]; omega)) hb (Below.refl _ _) hG.out
   obtain ⟨A2, c2, rfl, _⟩ := htl
   have HT := Lib.hid (fun w2 (h : Below wr.heap.size wr w2) => rlist_tell (t := t) (show ks.take l.length = ks from List.take_of_length_le (by rw [HM.out.1]; omega)) hb h hG.out)
   clear hG
   go_wp2_with fail
   refine (Be.RList_any (t : Nat) A2 ks.length c2 wr).mono ?_
   rintro e w1 ⟨rfl, hb1⟩
   have B1 := hBr.out.past hb1
   have c0 : w1.cell? ⟨w.heap.size, 0, none⟩ = some (.int .u8 0) := B1.cell 0
   have c1 : w1.cell? ⟨w.heap.size, 1, none⟩ = some (.string ⟨#[]⟩) := B1.cell 1
   have c2' : w1.cell? ⟨w.heap.size, 2, none⟩ = some (.slice none 0 0) := B1.cell 2
   have g0 := B1.frozen 0
   have g1 := B1.frozen 1
   have g2 := B1.frozen 2
   obtain ⟨_, _, _, hN⟩ := HT.out w1 hb1
   have HN := Lib.hid hN
   clear hN hb
   go_wp2_with fail
   exact bodyPost_ret (Be.res_el rfl _ _ w.heap.size _ _ _ rfl (Be.Blk.set3 B1)) rfl HN.out
end Go.Proofs.YtconghaebebncaaGreatDoor.Ms
