/- Elements gathered one by one: of texts, of the parts of a filter's value. -/
import Derived.Test.YtconghaebebncaaGreatDoorMsText
import Derived.Test.YtconghaebebncaaGreatDoorRead2
import Derived.Test.YtconghaebebncaaGreatDoorG1
namespace Go.Proofs.YtconghaebebncaaGreatDoor.Ms
open Go.RowKit
set_option linter.unusedVariables false
set_option maxRecDepth 100000

/-- A new slice of elements. -/
def NewKids (w : World) (ks : List Be.El) (r : Ending) (w' : World) : Prop :=
  ∃ (A : Option Addr) (c : Nat) (ds : Nat → List Value), r = .returned (.slice A ks.length c) ∧ Below w.heap.size w w' ∧ Be.KidsAt w' (fun b => w.heap.size ≤ b ∧ b < w'.heap.size) A ks ds
/-- append(v, e), e an element in a row of its own. -/
theorem wpList_pushE {w : World} {ops : Array Oper} {rest : List Oper} {o : Oper} {a : Act} {Q : Exit → Act → World → Prop} (hgd : o.guard = none) (sl x : Operand)
    (ho : o.op = .call { callee := .builtin .append, args := #[sl, x], argTypes := #[55, 55] })
    (base : Nat) (v : Value) (xs : List Value) (done : List Be.El) (hs : a.eval sl = v) (hG : Be.Gath w base v xs done) (g : Nat) (hx : a.eval x = .slice (some ⟨g, 0, none⟩) 1 1)
    {e : Be.El} {p q r : Value} (hB : Blk w g 57 #[p, q, r]) (hone : ∀ u ∈ [p, q, r], u.oneCell' = true) (hL : Be.Lies w (fun b => base ≤ b ∧ b < w.heap.size ∧ v.ownBlock ≠ some b) e [p, q, r]) (hl : done.length < 1000000) (hbase : base ≤ w.heap.size)
    (h : ∀ v' w', Be.Gath w' base v' (xs ++ [p, q, r]) (done ++ [e]) → Below base w w' → wpList Tryz.prog ops Q rest (a.put o.dst v') w') : wpList Tryz.prog ops Q (o :: rest) a w := by
  obtain ⟨i0, hi, hz0, hz1, hz2⟩ := infoP Be.infoElV
  refine wpList_append_own_at w hgd sl x 55 ho base 57 i0 _ 3 48 Tryz.underlying55 hi hz0 hz1 hz2 rfl (by decide) v done.length xs hs hG.1 ⟨g, 0, none⟩ 1 1 [p, q, r] hx rfl (fun j u hj => ?_) hone (by unfold maxLen; omega) (by omega) hbase (fun v' w' hown' hgr _ hat => ?_)
  · rw [Addr.add_lit, Nat.zero_add, hB.cell j]
    simpa using hj
  · exact h v' w' (hG.step hL hown' hgr hat) ((Below.refl _ _).grown hgr hbase (fun k hk => (hG.1.lt k hk).1))
/-- What is new behind a world is none of an elder row. -/
theorem fresh_own {w w1 : World} {base : Nat} {v : Value} {xs : List Value} {done : List Be.El} {P : Nat → Prop} {e : Be.El} {cs : List Value} (hG : Be.Gath w base v xs done) (hbase : base ≤ w.heap.size) (h : Be.Lies w1 P e cs) (hP : ∀ b, P b → w.heap.size ≤ b ∧ b < w1.heap.size) :
    Be.Lies w1 (fun b => base ≤ b ∧ b < w1.heap.size ∧ v.ownBlock ≠ some b) e cs :=
  h.imp (fun b hb => ⟨Nat.le_trans hbase (hP b hb).1, (hP b hb).2, fun e => by have := (hG.1.lt b e).2; have := (hP b hb).1; omega⟩) (fun _ _ => rfl)
theorem one3 {t : Int} {b : ByteArray} {A : Option Addr} {n c : Nat} : ∀ u ∈ [Value.int .u8 t, .string b, .slice A n c], u.oneCell' = true := by
  intro u hu
  simp at hu
  rcases hu with rfl | rfl | rfl <;> rfl
theorem map_take {α β : Type} (f : α → β) (l : List α) : (l.map f).length = l.length ∧ ∀ i (h : i < l.length), (l.map f).take (i + 1) = (l.map f).take i ++ [f l[i]] :=
  ⟨List.length_map _, fun i h => by rw [← List.map_take, ← List.map_take, List.take_succ_eq_append_getElem h, List.map_append]; rfl⟩
theorem take_len {α : Type} {ks : List α} {q n : Nat} (h : ks.length = n) (hq : q ≤ n) (hn : n ≤ 1000) : (ks.take q).length < 1000000 := by rw [List.length_take]; omega
/-- What has been gathered is told. -/
theorem Gath_tell {w w' : World} {v : Value} {xs : List Value} {ks : List Be.El} {n : Nat} (hlen : ks.length = n) (hb : Below w.heap.size w w') (hG : Be.Gath w' w.heap.size v xs (ks.take n)) : NewKids w ks (.returned v) w' := by
  rw [List.take_of_length_le (by omega)] at hG
  obtain ⟨A, c, ds, rfl, hK⟩ := hG.shut
  exact ⟨A, c, ds, rfl, hb, hK⟩
theorem Gath_tell' {w w' : World} {v : Value} {xs : List Value} {D ks : List Be.El} (hD : D = ks) (hb : Below w.heap.size w w') (hG : Be.Gath w' w.heap.size v xs D) : NewKids w ks (.returned v) w' := by
  subst hD
  obtain ⟨A, c, ds, rfl, hK⟩ := hG.shut
  exact ⟨A, c, ds, rfl, hb, hK⟩
set_option maxHeartbeats 2000000 in
theorem eachS_any (A : Option Addr) (c : Nat) (l : List ByteArray) (w : World) (hl : l.length ≤ 1000) (hs : ∀ s ∈ l, s.size ≤ 281474976710656) (hA : Fi.StrsAt w (· < w.heap.size) A l) :
    Calls Tryz.prog 137 #[.slice A l.length c, .func (.func 133) #[] #[]] w (NewKids w (l.map (txt 4))) := by
  have HA := Lib.hid hA
  have HS := Lib.hid hs
  obtain ⟨ks, hks⟩ : ∃ ks, ks = l.map (txt 4) := ⟨_, rfl⟩
  have hmt := map_take (txt 4) l
  rw [← hks] at hmt ⊢
  have HM := Lib.hid hmt
  clear hA hs hks hmt
  go_enter Tryz.func137, Tryz.ntmps137
  go_wp2_with fail
  go_loopw [5, 10] (fun v i wr => ∃ (q : Nat) (xs : List Value), q ≤ l.length ∧ i = .int .i64 q ∧ Hid (Be.Gath wr w.heap.size v xs (ks.take q)) ∧ Below w.heap.size w wr) (fun v i wr => l.length - (intOf i).toNat)
  case atStart => exact ⟨0, [], Nat.zero_le _, rfl, Be.Gath.nil _ _, Below.refl _ _⟩
  case round =>
    obtain ⟨q, xs, hq, rfl, hG, hb⟩ := hrel
    have hsz := hb.size
    by_cases hlt : q < l.length
    · obtain ⟨ad, rfl, hp, hc⟩ := HA.out (by omega)
      have f0 := batA hb (by rw [block_of_add]; exact hp) (hc q hlt)
      have hsq := HS.out _ (List.getElem_mem hlt)
      have hdl := take_len HM.out.1 hq hl
      have hmt := Lib.hid (HM.out.2 q hlt)
      generalize l[q] = s at f0 hsq hmt
      clear hc
      go_wp2_with fail
      refine (text_any s wr hsq).mono ?_
      rintro e w1 ⟨rfl, hb1⟩
      have HB := Lib.hid (Blk.new w1 57 #[.int .u8 4, .string s, .slice none 0 0])
      have HG1 := Lib.hid ((hG.out.past hb1).alloc (.cells #[.int .u8 4, .string s, .slice none 0 0] 57))
      have hbw := hb.trans (hb1.mono hsz)
      have hz := hbw.size
      have hz2 : w.heap.size ≤ (w1.alloc (.cells #[.int .u8 4, .string s, .slice none 0 0] 57)).heap.size := by simp; omega
      clear hG hb hb1
      go_wp2_with (at_builtin; go_loud (refine wpList_pushE rfl _ _ rfl w.heap.size _ _ _ rfl HG1.out w1.heap.size rfl HB.out one3 (lies_leaf (by decide) hsq) hdl hz2 ?_))
      intro v' w2 hG2 hb2
      rw [← hmt.out] at hG2
      have HG2 := Lib.hid hG2
      have hb3 := (hbw.alloc hz (.cells #[.int .u8 4, .string s, .slice none 0 0] 57)).trans hb2
      clear hG2
      go_wp2_with fail
      refine ⟨⟨q + 1, _, by omega, by go_num, HG2, hb3⟩, by simp [intOf]; omega⟩
    · have hq2 : q = l.length := by omega
      subst hq2
      have HE := Lib.hid (Gath_tell HM.out.1 hb hG.out)
      clear hG
      go_wp2_with fail
      go_ret
      exact HE.out
set_option maxHeartbeats 2000000 in
theorem subEls_step {n i : Nat} {ks : List ByteArray} (h : i < ks.length) : subEls n 0 (ks.take (i + 1)) = subEls n 0 (ks.take i) ++ (if ks[i].size = 0 then [] else [txt (partTag i n) ks[i]]) := by
  have key : ∀ (a b : List ByteArray) (j : Nat), subEls n j (a ++ b) = subEls n j a ++ subEls n (j + a.length) b := by
    intro a
    induction a with
    | nil => intro b j; simp [subEls]
    | cons x a ih =>
      intro b j
      rw [List.cons_append, subEls, subEls, ih b (j + 1), List.length_cons, show j + 1 + a.length = j + (a.length + 1) by omega]
      split <;> rfl
  rw [List.take_succ_eq_append_getElem h, key, List.length_take, show 0 + min i ks.length = i by omega]
  congr 1
set_option maxHeartbeats 2000000 in
theorem subs_any (A : Option Addr) (c : Nat) (l : List ByteArray) (w : World) (hl : l.length ≤ 1000) (hs : ∀ s ∈ l, s.size ≤ 281474976710656) (hA : Fi.StrsAt w (· < w.heap.size) A l) :
    Calls Tryz.prog 153 #[.slice A l.length c] w (NewKids w (subEls l.length 0 l)) := by
  have HA := Lib.hid hA
  have HS := Lib.hid hs
  clear hA hs
  go_enter Tryz.func153, Tryz.ntmps153
  go_wp2_with fail
  go_loopw [3, 8] (fun v i wr => ∃ (q : Nat) (xs : List Value) (D : List Be.El), q ≤ l.length ∧ i = .int .i64 q ∧ Hid (D = subEls l.length 0 (l.take q)) ∧ Hid (Be.Gath wr w.heap.size v xs D) ∧ Below w.heap.size w wr) (fun v i wr => l.length - (intOf i).toNat)
  case atStart => exact ⟨0, [], [], Nat.zero_le _, rfl, by show _ = _; simp [subEls], Be.Gath.nil _ _, Below.refl _ _⟩
  case round =>
    obtain ⟨q, xs, D, hq, rfl, hD, hG, hb⟩ := hrel
    have hsz := hb.size
    by_cases hlt : q < l.length
    · obtain ⟨ad, rfl, hp, hc⟩ := HA.out (by omega)
      have f0 := batA hb (by rw [block_of_add]; exact hp) (hc q hlt)
      have hsq := HS.out _ (List.getElem_mem hlt)
      have hmt := subEls_step (n := l.length) hlt
      rw [← hD.out] at hmt
      have hdl : D.length < 1000000 := by rw [hD.out]; have := subEls_len l.length (l.take q) 0; rw [List.length_take] at this; omega
      generalize l[q] = s at f0 hsq hmt
      clear hc hD
      by_cases h0 : s.size = 0
      · rw [if_pos h0, List.append_nil] at hmt
        have HM := Lib.hid hmt.symm
        have q1 : s.toList = [] := by rw [no_of h0, ByteArray.toList_eq]
        have q0 : s.toList.isEmpty = true := by rw [q1]; rfl
        clear hmt h0
        go_wp2_with fail
        refine ⟨⟨q + 1, _, _, by omega, by go_num, HM, hG, hb⟩, by simp [intOf]; omega⟩
      · rw [if_neg h0] at hmt
        have HM := Lib.hid hmt
        have q0 : s.toList.isEmpty = false := by
          cases h : s.toList with
          | nil =>
            have h1 : s.size = 0 := by
              have : s.data.toList = [] := by simpa [ByteArray.toList_eq] using h
              show s.data.size = 0
              rw [← Array.length_toList, this]; rfl
            exact absurd h1 h0
          | cons x r => rfl
        have q1 : (s.toList != []) = true := by
          cases h : s.toList with
          | nil => rw [h] at q0; simp at q0
          | cons x r => rfl
        clear hmt h0
        have ht : partTag q l.length ≤ 255 := by rcases partTag_cases q l.length with h | h | h <;> rw [h] <;> decide
        have HP := Lib.hid (fun w => partTag_any q l.length w (by omega) (by omega))
        generalize partTag q l.length = t at HM ht HP
        go_wp2_with fail
        refine (HP.out _).mono ?_
        rintro e w0 ⟨rfl, rfl⟩
        go_wp2_with fail
        refine (Be.Text_any t s wr hsq).mono ?_
        rintro e w1 ⟨rfl, hb1⟩
        have HB := Lib.hid (Blk.new w1 57 #[.int .u8 t, .string s, .slice none 0 0])
        have HG1 := Lib.hid ((hG.out.past hb1).alloc (.cells #[.int .u8 t, .string s, .slice none 0 0] 57))
        have hbw := hb.trans (hb1.mono hsz)
        have hz := hbw.size
        have hz2 : w.heap.size ≤ (w1.alloc (.cells #[.int .u8 t, .string s, .slice none 0 0] 57)).heap.size := by simp; omega
        clear hG hb hb1
        go_wp2_with (at_builtin; go_loud (refine wpList_pushE rfl _ _ rfl w.heap.size _ _ _ rfl HG1.out w1.heap.size rfl HB.out one3 (lies_leaf ht hsq) hdl hz2 ?_))
        intro v' w2 hG2 hb2
        rw [← HM.out] at hG2
        have HG2 := Lib.hid hG2
        have hb3 := (hbw.alloc hz (.cells #[.int .u8 t, .string s, .slice none 0 0] 57)).trans hb2
        clear hG2
        go_wp2_with fail
        refine ⟨⟨q + 1, _, _, by omega, by go_num, rfl, HG2, hb3⟩, by simp [intOf]; omega⟩
    · have hq2 : q = l.length := by omega
      subst hq2
      have hD2 := hD.out
      rw [List.take_length] at hD2
      have HE := Lib.hid (Gath_tell' hD2 hb hG.out)
      clear hG hD hD2
      go_wp2_with fail
      go_ret
      exact HE.out
end Go.Proofs.YtconghaebebncaaGreatDoor.Ms
