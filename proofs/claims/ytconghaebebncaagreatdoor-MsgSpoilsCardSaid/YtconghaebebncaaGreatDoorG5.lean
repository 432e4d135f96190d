import Derived.Test.YtconghaebebncaaGreatDoorMsGet
import Derived.Test.YtconghaebebncaaGreatDoorMsEach
import Derived.Test.YtconghaebebncaaGreatDoorG2
import Derived.Laws.AppendOwnNone
/- What is made of each kid of an element: texts; the parts of a filter's value; Mods gathered one by one. -/
namespace Go.Proofs.YtconghaebebncaaGreatDoor.Ms
open Go.RowKit
set_option linter.unusedVariables false
set_option maxRecDepth 100000

/-- A row of texts, made anew. -/
def NewStrs (w : World) (l : List ByteArray) (r : Ending) (w' : World) : Prop :=
  ∃ (A : Option Addr) (c : Nat), r = .returned (.slice A l.length c) ∧ Below w.heap.size w w' ∧ l.length ≤ c ∧ Fi.StrsAt w' (fun b => w.heap.size ≤ b ∧ b < w'.heap.size) A l
theorem OwnS_shut {w : World} {base : Nat} {v : Value} {ps : List ByteArray} (h : OwnS w base v ps) :
    ∃ (A : Option Addr) (c : Nat), v = .slice A ps.length c ∧ ps.length ≤ c ∧ Fi.StrsAt w (fun b => base ≤ b ∧ b < w.heap.size) A ps := by
  have h' := h
  rcases h'.2 with ⟨rfl, h0⟩ | ⟨g, cap, cur, rfl, _, _, hc, _⟩
  · refine ⟨none, 0, by rw [h0], by omega, fun h1 => by omega⟩
  · refine ⟨_, _, rfl, hc, fun h0 => ?_⟩
    obtain ⟨g', cap', hv, hg, hlt⟩ := World.ownsRow.form h h0
    injection hv with hv1 hv2 hv3
    injection hv1 with hv1
    injection hv1 with hv1
    subst hv1
    refine ⟨_, rfl, ⟨hg, hlt⟩, fun i hi => ?_⟩
    have := World.ownsRow.cells h (g := g) rfl i (.string ps[i]) (by rw [List.getElem?_map, List.getElem?_eq_getElem hi]; rfl)
    exact this
/-- The kids of an element's cells, in a later world. -/
theorem kids_of {w : World} {e : Be.El} {t n c : Nat} {b : ByteArray} {A : Option Addr} (hL : Be.Lies w (· < w.heap.size) e [.int .u8 (t : Nat), .string b, .slice A n c]) :
    n = (kidsE e).length ∧ t = tagE e ∧ b = bodyE e ∧ t ≤ 255 ∧ ∃ ds, Be.KidsAt w (· < w.heap.size) A (kidsE e) ds := by
  obtain ⟨t', b', ks⟩ := e
  obtain ⟨A', c', ds, hcs, ht, _, hl, hK⟩ := hL.open_
  simp only [List.cons.injEq, and_true, Value.slice.injEq, Value.string.injEq, Value.int.injEq, true_and] at hcs
  obtain ⟨h1, rfl, rfl, rfl, rfl⟩ := hcs
  exact ⟨rfl, by show t = t'; omega, rfl, by omega, ds, hK⟩
set_option maxHeartbeats 2000000 in
theorem eachB_any (e : Be.El) (t : Nat) (b : ByteArray) (A : Option Addr) (n c : Nat) (w : World) (hfew : Few e) (hL : Be.Lies w (· < w.heap.size) e [.int .u8 (t : Nat), .string b, .slice A n c]) :
    Calls Tryz.prog 96 #[.agg #[.int .u8 (t : Nat), .string b, .slice A n c], .func (.func 97) #[] #[]] w (NewStrs w ((kidsE e).map bodyE)) := by
  obtain ⟨rfl, -, -, -, ds, hK⟩ := kids_of hL
  have hlen := hfew.len
  have hb0 := (Below.refl w.heap.size w).alloc (Nat.le_refl _) (.cells #[.int .u8 (t : Nat), .string b, .slice A (kidsE e).length c] 57)
  have hbW := Lib.hid hb0
  have HK := Lib.hid hK
  obtain ⟨l, hl⟩ : ∃ l, l = (kidsE e).map bodyE := ⟨_, rfl⟩
  have hmt := map_take bodyE (kidsE e)
  rw [← hl] at hmt ⊢
  have HM := Lib.hid hmt
  generalize kidsE e = ks at hlen HK HM hK hbW hb0 hl hmt hL ⊢
  clear hK hb0 hl hmt hL hfew
  go_enter Tryz.func96, Tryz.ntmps96
  go_wp2_with fail
  go_loopw [5, 11] (fun v i wr => ∃ (q : Nat), q ≤ ks.length ∧ i = .int .i64 q ∧ Hid (OwnS wr w.heap.size v (l.take q)) ∧ Below w.heap.size w wr) (fun v i wr => ks.length - (intOf i).toNat)
  case atStart => exact ⟨0, Nat.zero_le _, rfl, OwnS.nil _ _, hbW.out⟩
  case round =>
    obtain ⟨q, hq, rfl, hG, hb⟩ := hrel
    have hsz := hb.size
    by_cases hlt : q < ks.length
    · obtain ⟨ad, t1, b1, A1, n1, c1, rfl, hp, f0, f1, f2, hL⟩ := HK.out.kid5 hb hlt
      have hb1 := hb.alloc hsz (.cells #[.int .u8 (t1 : Nat), .string b1, .slice A1 n1 c1] 57)
      have HC := Lib.hid (body_any ks[q] t1 b1 A1 n1 c1 _ (hL.past ((Below.refl _ _).alloc (Nat.le_refl _) (.cells #[.int .u8 (t1 : Nat), .string b1, .slice A1 n1 c1] 57))))
      have HG := Lib.hid (hG.out.alloc (.cells #[.int .u8 (t1 : Nat), .string b1, .slice A1 n1 c1] 57))
      have hmt := Lib.hid (HM.out.2 q hlt)
      have hll := HM.out.1
      generalize bodyE ks[q] = s at HC hmt
      clear hL hG hb
      go_wp2_with fail
      refine HC.out.mono ?_
      rintro e w1 ⟨rfl, hb2⟩
      have hb3 := hb1.trans (hb2.mono hb1.size)
      have hz := hb3.size
      have HB := Lib.hid (Blk.new w1 9 #[.string s])
      have HG1 := Lib.hid ((HG.out.past hb2).alloc (.cells #[.string s] 9))
      have hz2 : w.heap.size ≤ (w1.alloc (.cells #[.string s] 9)).heap.size := by simp; omega
      have hdl : (l.take q).length ≤ 1099511627776 := by rw [List.length_take]; omega
      clear hb1 hb2 hll
      go_wp2_with (at_builtin; go_loud (refine wpList_pushW rfl _ _ rfl w.heap.size _ _ rfl HG1.out w1.heap.size s rfl HB.out hdl hz2 ?_))
      intro v' w2 hG2 hb4
      rw [← hmt.out] at hG2
      have HG2 := Lib.hid hG2
      have hb5 := (hb3.alloc hz (.cells #[.string s] 9)).trans hb4
      clear hG2
      go_wp2_with fail
      refine ⟨⟨q + 1, by omega, by go_num, HG2, hb5⟩, by simp [intOf]; omega⟩
    · have hq2 : q = ks.length := by omega
      subst hq2
      have hG1 := hG.out
      rw [List.take_of_length_le (by rw [HM.out.1]; omega)] at hG1
      obtain ⟨A', c', rfl, hc', hS⟩ := OwnS_shut hG1
      have HS := Lib.hid hS
      clear hG hG1 hS
      go_wp2_with fail
      go_ret
      exact ⟨_, _, rfl, hb, hc', HS.out⟩
end Go.Proofs.YtconghaebebncaaGreatDoor.Ms

/- The parts of a filter's value: the first one, those between, the last one. -/
namespace Go.Proofs.YtconghaebebncaaGreatDoor.Ms
open Go.RowKit
set_option linter.unusedVariables false
set_option maxRecDepth 100000

theorem ownS_one (w : World) (base : Nat) (s : ByteArray) (hb : base ≤ w.heap.size) : OwnS (w.alloc (.cells #[.string s] 9)) base (.slice (some ⟨w.heap.size, 0, none⟩) 1 1) [s] :=
  ⟨rfl, Or.inr ⟨w.heap.size, 1, #[.string s], rfl, hb, heap_alloc_new w _, Nat.le_refl _, by unfold maxLen; omega, rfl, rfl⟩⟩
/-- append(v, u...), both rows of texts of the call's own. -/
theorem wpList_appS {w : World} {ops : Array Oper} {rest : List Oper} {o : Oper} {a : Act} {Q : Exit → Act → World → Prop} (hgd : o.guard = none) (sl x : Operand)
    (ho : o.op = .call { callee := .builtin .append, args := #[sl, x], argTypes := #[22, 22] })
    (base : Nat) (v : Value) (ps : List ByteArray) (hs : a.eval sl = v) (hown : OwnS w base v ps) (base' : Nat) (u : Value) (qs : List ByteArray) (hx : a.eval x = u) (hq : OwnS w base' u qs)
    (hl : ps.length + qs.length ≤ 1099511627776) (hbase : base ≤ w.heap.size)
    (h : ∀ v' w', OwnS w' base v' (ps ++ qs) → Below base w w' → wpList Tryz.prog ops Q rest (a.put o.dst v') w') : wpList Tryz.prog ops Q (o :: rest) a w := by
  obtain ⟨i0, hi, hz0, hz1, hz2⟩ := infoP infoS
  have hq' := hq
  rcases hq'.2 with ⟨rfl, h0⟩ | ⟨g, cap, cur, rfl, _, _, hc, _⟩
  · have : qs = [] := List.length_eq_zero_iff.1 h0
    subst this
    refine wpList_append_own_none hgd sl x 22 ho base 9 i0 1 Tryz.underlying22 hi v _ _ hs hown hx (h v w ?_ (Below.refl _ _))
    rw [List.append_nil]
    exact hown
  · refine wpList_append_own w hgd sl x 22 ho base 9 i0 (.string ⟨#[]⟩) 1 16 Tryz.underlying22 hi hz0 hz1 hz2 rfl (by decide) v ps.length _ hs hown ⟨g, 0, none⟩ qs.length cap (qs.map Value.string) hx (by simp) (fun j u hj => ?_) (fun u hu => ?_) (by unfold maxLen; omega) (by omega) hbase (fun v' w' hown' hgr _ => h v' w' ?_ ?_)
    · by_cases h0 : 0 < qs.length
      · obtain ⟨g', cap', hv, hg, hlt⟩ := World.ownsRow.form hq h0
        injection hv with hv1 hv2 hv3
        injection hv1 with hv1
        injection hv1 with hv1
        subst hv1
        exact World.ownsRow.cells hq (g := g) rfl j u hj
      · have : qs = [] := List.length_eq_zero_iff.1 (by omega)
        subst this
        simp at hj
    · obtain ⟨s, _, rfl⟩ := List.mem_map.1 hu
      rfl
    · unfold OwnS
      rw [List.length_append, List.map_append]
      exact hown'
    · exact (Below.refl _ _).grown hgr hbase (fun k hk => (hown.lt k hk).1)
theorem rdSubs_at {x y : ByteArray} {l : List ByteArray} {ks : List Be.El} {q : Nat} (h : q < ks.length) :
    rdSubs x l y (ks.drop q) = if tagE ks[q] = 128 then rdSubs (bodyE ks[q]) l y (ks.drop (q + 1)) else if tagE ks[q] = 129 then rdSubs x (l ++ [bodyE ks[q]]) y (ks.drop (q + 1)) else if tagE ks[q] = 130 then rdSubs x l (bodyE ks[q]) (ks.drop (q + 1)) else rdSubs x l y (ks.drop (q + 1)) := by
  rw [List.drop_eq_getElem_cons h, rdSubs]
set_option maxHeartbeats 4000000 in
theorem readSubs_any (e : Be.El) (t : Nat) (b : ByteArray) (A : Option Addr) (n c : Nat) (w : World) (hfew : Few e) (hL : Be.Lies w (· < w.heap.size) e [.int .u8 (t : Nat), .string b, .slice A n c]) :
    Calls Tryz.prog 129 #[.agg #[.int .u8 (t : Nat), .string b, .slice A n c]] w (NewStrs w (rdSubs no [] no (kidsE e))) := by
  obtain ⟨rfl, -, -, -, ds, hK⟩ := kids_of hL
  have hlen := hfew.len
  have hb0 := (Below.refl w.heap.size w).alloc (Nat.le_refl _) (.cells #[.int .u8 (t : Nat), .string b, .slice A (kidsE e).length c] 57)
  have hbW := Lib.hid hb0
  have HK := Lib.hid hK
  obtain ⟨R, hR⟩ : ∃ R, R = rdSubs no [] no (kidsE e) := ⟨_, rfl⟩
  rw [← hR]
  have HR := Lib.hid hR
  generalize kidsE e = ks at hlen HK hK hbW hb0 hR HR hL ⊢
  clear hK hb0 hR hL hfew
  go_enter Tryz.func129, Tryz.ntmps129
  go_wp2_with fail
  go_loopw [3, 4, 5, 11] (fun x y v i wr => ∃ (q : Nat) (bx bl : ByteArray) (l : List ByteArray), q ≤ ks.length ∧ i = .int .i64 q ∧ x = .string bx ∧ y = .string bl ∧ l.length ≤ q ∧ Hid (R = rdSubs bx l bl (ks.drop q)) ∧ Hid (OwnS wr w.heap.size v l) ∧ Below w.heap.size w wr) (fun x y v i wr => ks.length - (intOf i).toNat)
  case atStart => exact ⟨0, no, no, [], Nat.zero_le _, rfl, rfl, rfl, Nat.le_refl _, HR.out, OwnS.nil _ _, hbW.out⟩
  case round =>
    obtain ⟨q, bx, bl, l, hq, rfl, rfl, rfl, hlq, hE, hG, hb⟩ := hrel
    have hsz := hb.size
    by_cases hlt : q < ks.length
    · obtain ⟨ad, t1, b1, A1, n1, c1, rfl, hp, f0, f1, f2, hL⟩ := HK.out.kid5 hb hlt
      have hb1 := hb.alloc hsz (.cells #[.int .u8 (t1 : Nat), .string b1, .slice A1 n1 c1] 57)
      have hE1 := hE.out
      rw [rdSubs_at hlt] at hE1
      obtain ⟨-, ht1, hb1', -⟩ := kids_of hL
      rw [← ht1, ← hb1'] at hE1
      have HG := Lib.hid (hG.out.alloc (.cells #[.int .u8 (t1 : Nat), .string b1, .slice A1 n1 c1] 57))
      clear hL hG hb ht1 hb1' hE
      by_cases h1 : t1 = 128
      · subst h1
        rw [if_pos rfl] at hE1
        have HE := Lib.hid hE1
        clear hE1
        go_wp2_with fail
        refine ⟨⟨q + 1, _, _, l, by omega, by go_num, rfl, rfl, by omega, HE, HG, hb1⟩, by simp [intOf]; omega⟩
      have k1 : ((t1 : Int) == 128) = false := by rw [beq_eq_false_iff_ne]; omega
      rw [if_neg h1] at hE1
      by_cases h2 : t1 = 129
      · subst h2
        rw [if_pos rfl] at hE1
        have HE := Lib.hid hE1
        have HB := Lib.hid (new2 wr #[.int .u8 (129 : Nat), .string b1, .slice A1 n1 c1] #[.string b1] 57 9)
        have HG1 := Lib.hid (HG.out.alloc (.cells #[.string b1] 9))
        have hz2 : w.heap.size ≤ ((wr.alloc (.cells #[.int .u8 (129 : Nat), .string b1, .slice A1 n1 c1] 57)).alloc (.cells #[.string b1] 9)).heap.size := by simp; omega
        have hdl : l.length ≤ 1099511627776 := by omega
        clear hE1
        go_wp2_with (at_builtin; go_loud (refine wpList_pushW rfl _ _ rfl w.heap.size _ _ rfl HG1.out _ b1 rfl HB.out hdl hz2 ?_))
        intro v' w2 hG2 hb4
        have HG2 := Lib.hid hG2
        have hb5 := (hb1.alloc hb1.size (.cells #[.string b1] 9)).trans hb4
        clear hG2
        go_wp2_with fail
        refine ⟨⟨q + 1, _, _, l ++ [b1], by omega, by go_num, rfl, rfl, by rw [List.length_append]; simp; omega, HE, HG2, hb5⟩, by simp [intOf]; omega⟩
      have k2 : ((t1 : Int) == 129) = false := by rw [beq_eq_false_iff_ne]; omega
      rw [if_neg h2] at hE1
      by_cases h3 : t1 = 130
      · subst h3
        rw [if_pos rfl] at hE1
        have HE := Lib.hid hE1
        clear hE1
        go_wp2_with fail
        refine ⟨⟨q + 1, _, _, l, by omega, by go_num, rfl, rfl, by omega, HE, HG, hb1⟩, by simp [intOf]; omega⟩
      have k3 : ((t1 : Int) == 130) = false := by rw [beq_eq_false_iff_ne]; omega
      rw [if_neg h3] at hE1
      have HE := Lib.hid hE1
      clear hE1 h1 h2 h3
      go_wp2_with fail
      refine ⟨⟨q + 1, _, _, l, by omega, by go_num, rfl, rfl, by omega, HE, HG, hb1⟩, by simp [intOf]; omega⟩
    · have hq2 : q = ks.length := by omega
      subst hq2
      have hE1 := hE.out
      rw [List.drop_length, rdSubs] at hE1
      have HE := Lib.hid hE1
      have HG := Lib.hid (hG.out.alloc (.cells #[.string bx] 9))
      have HO := Lib.hid (ownS_one wr w.heap.size bx hsz)
      have hb1 := hb.alloc hsz (.cells #[.string bx] 9)
      have hl1 : [bx].length + l.length ≤ 1099511627776 := by simp; omega
      have hsz1 := hb1.size
      clear hG hE hE1
      go_wp2_with (at_builtin; go_loud (refine wpList_appS rfl _ _ rfl w.heap.size _ _ rfl HO.out w.heap.size _ _ rfl HG.out hl1 hsz1 ?_))
      intro v' w2 hG2 hb4
      have hb5 := hb1.trans hb4
      have hsz2 := hb5.size
      have HB := Lib.hid (Blk.new w2 9 #[.string bl])
      have HG3 := Lib.hid ((show OwnS w2 w.heap.size v' ([bx] ++ l) from hG2).alloc (.cells #[.string bl] 9))
      have hz2 : w.heap.size ≤ (w2.alloc (.cells #[.string bl] 9)).heap.size := by simp; omega
      have hdl : ([bx] ++ l).length ≤ 1099511627776 := by simp; omega
      clear hG2
      go_wp2_with (at_builtin; go_loud (refine wpList_pushW rfl _ _ rfl w.heap.size _ _ rfl HG3.out _ bl rfl HB.out hdl hz2 ?_))
      intro v2 w3 hG4 hb6
      have hb7 := (hb5.alloc hsz2 (.cells #[.string bl] 9)).trans hb6
      obtain ⟨A', c', rfl, hc', hS⟩ := OwnS_shut hG4
      have HS := Lib.hid hS
      have HC := Lib.hid hc'
      clear hG4 hS
      go_wp2_with fail
      go_ret
      have hRl : R = [bx] ++ l ++ [bl] := HE.out
      rw [hRl]
      exact ⟨_, _, rfl, hb7, HC.out, HS.out⟩
end Go.Proofs.YtconghaebebncaaGreatDoor.Ms
