import Derived.Test.YtconghaebebncaaGreatDoorZT16
import Derived.Test.YtconghaebebncaaGreatDoorZT27
import Derived.Deep.WholeRow
namespace Go.Proofs.YtconghaebebncaaGreatDoor.Ms
open Go.RowKit
set_option linter.unusedVariables false
set_option maxRecDepth 100000
section
variable {w : World} {P : Nat → Prop} {m : Mg} {cs : Array Value}
theorem MAt.set_op (h : MAt w P m cs) (x : Int) : MAt w P { m with op := x } (cs.setIfInBounds 1 (.int .i64 x)) := by
 obtain ⟨x0, x1, x2, x3, x4, W, wc, M, mc, ds, rfl, hF, hW, hM, hT⟩ := h
 exact ⟨x0, x1, x2, x3, x4, W, wc, M, mc, ds, rfl, hF, hW, hM, hT⟩
theorem MAt.set_ref (h : MAt w P m cs) (x : Int) : MAt w P { m with ref := x } (cs.setIfInBounds 2 (.int .i64 x)) := by
 obtain ⟨x0, x1, x2, x3, x4, W, wc, M, mc, ds, rfl, hF, hW, hM, hT⟩ := h
 exact ⟨x0, x1, x2, x3, x4, W, wc, M, mc, ds, rfl, hF, hW, hM, hT⟩
theorem MAt.set_ver (h : MAt w P m cs) (x : Int) : MAt w P { m with ver := x } (cs.setIfInBounds 4 (.int .i64 x)) := by
 obtain ⟨x0, x1, x2, x3, x4, W, wc, M, mc, ds, rfl, hF, hW, hM, hT⟩ := h
 exact ⟨x0, x1, x2, x3, x4, W, wc, M, mc, ds, rfl, hF, hW, hM, hT⟩
theorem MAt.set_scope (h : MAt w P m cs) (x : Int) : MAt w P { m with scope := x } (cs.setIfInBounds 6 (.int .i64 x)) := by
 obtain ⟨x0, x1, x2, x3, x4, W, wc, M, mc, ds, rfl, hF, hW, hM, hT⟩ := h
 exact ⟨x0, x1, x2, x3, x4, W, wc, M, mc, ds, rfl, hF, hW, hM, hT⟩
theorem MAt.set_size (h : MAt w P m cs) (x : Int) : MAt w P { m with size := x } (cs.setIfInBounds 7 (.int .i64 x)) := by
 obtain ⟨x0, x1, x2, x3, x4, W, wc, M, mc, ds, rfl, hF, hW, hM, hT⟩ := h
 exact ⟨x0, x1, x2, x3, x4, W, wc, M, mc, ds, rfl, hF, hW, hM, hT⟩
theorem MAt.set_code (h : MAt w P m cs) (x : Int) : MAt w P { m with code := x } (cs.setIfInBounds 21 (.int .i64 x)) := by
 obtain ⟨x0, x1, x2, x3, x4, W, wc, M, mc, ds, rfl, hF, hW, hM, hT⟩ := h
 exact ⟨x0, x1, x2, x3, x4, W, wc, M, mc, ds, rfl, hF, hW, hM, hT⟩
theorem MAt.set_del (h : MAt w P m cs) (x : Bool) : MAt w P { m with del := x } (cs.setIfInBounds 16 (.bool x)) := by
 obtain ⟨x0, x1, x2, x3, x4, W, wc, M, mc, ds, rfl, hF, hW, hM, hT⟩ := h
 exact ⟨x0, x1, x2, x3, x4, W, wc, M, mc, ds, rfl, hF, hW, hM, hT⟩
theorem MAt.set_has (h : MAt w P m cs) (x : Bool) : MAt w P { m with has := x } (cs.setIfInBounds 17 (.bool x)) := by
 obtain ⟨x0, x1, x2, x3, x4, W, wc, M, mc, ds, rfl, hF, hW, hM, hT⟩ := h
 exact ⟨x0, x1, x2, x3, x4, W, wc, M, mc, ds, rfl, hF, hW, hM, hT⟩
theorem MAt.set_dn (h : MAt w P m cs) (x : ByteArray) (hx : x.size ≤ maxLen) : MAt w P { m with dn := x } (cs.setIfInBounds 3 (.string x)) := by
 obtain ⟨x0, x1, x2, x3, x4, W, wc, M, mc, ds, rfl, hF, hW, hM, hT⟩ := h
 exact ⟨x0, x1, x2, x3, x4, W, wc, M, mc, ds, rfl, hF, hW, hM, hx, hT.2.1, hT.2.2.1, hT.2.2.2.1, hT.2.2.2.2.1, hT.2.2.2.2.2.1, hT.2.2.2.2.2.2⟩
theorem MAt.set_pass (h : MAt w P m cs) (x : ByteArray) (hx : x.size ≤ maxLen) : MAt w P { m with pass := x } (cs.setIfInBounds 5 (.string x)) := by
 obtain ⟨x0, x1, x2, x3, x4, W, wc, M, mc, ds, rfl, hF, hW, hM, hT⟩ := h
 exact ⟨x0, x1, x2, x3, x4, W, wc, M, mc, ds, rfl, hF, hW, hM, hT.1, hx, hT.2.2.1, hT.2.2.2.1, hT.2.2.2.2.1, hT.2.2.2.2.2.1, hT.2.2.2.2.2.2⟩
theorem MAt.set_rdn (h : MAt w P m cs) (x : ByteArray) (hx : x.size ≤ maxLen) : MAt w P { m with rdn := x } (cs.setIfInBounds 15 (.string x)) := by
 obtain ⟨x0, x1, x2, x3, x4, W, wc, M, mc, ds, rfl, hF, hW, hM, hT⟩ := h
 exact ⟨x0, x1, x2, x3, x4, W, wc, M, mc, ds, rfl, hF, hW, hM, hT.1, hT.2.1, hx, hT.2.2.2.1, hT.2.2.2.2.1, hT.2.2.2.2.2.1, hT.2.2.2.2.2.2⟩
theorem MAt.set_sup (h : MAt w P m cs) (x : ByteArray) (hx : x.size ≤ maxLen) : MAt w P { m with sup := x } (cs.setIfInBounds 18 (.string x)) := by
 obtain ⟨x0, x1, x2, x3, x4, W, wc, M, mc, ds, rfl, hF, hW, hM, hT⟩ := h
 exact ⟨x0, x1, x2, x3, x4, W, wc, M, mc, ds, rfl, hF, hW, hM, hT.1, hT.2.1, hT.2.2.1, hx, hT.2.2.2.2.1, hT.2.2.2.2.2.1, hT.2.2.2.2.2.2⟩
theorem MAt.set_attr (h : MAt w P m cs) (x : ByteArray) (hx : x.size ≤ maxLen) : MAt w P { m with attr := x } (cs.setIfInBounds 19 (.string x)) := by
 obtain ⟨x0, x1, x2, x3, x4, W, wc, M, mc, ds, rfl, hF, hW, hM, hT⟩ := h
 exact ⟨x0, x1, x2, x3, x4, W, wc, M, mc, ds, rfl, hF, hW, hM, hT.1, hT.2.1, hT.2.2.1, hT.2.2.2.1, hx, hT.2.2.2.2.2.1, hT.2.2.2.2.2.2⟩
theorem MAt.set_value (h : MAt w P m cs) (x : ByteArray) (hx : x.size ≤ maxLen) : MAt w P { m with value := x } (cs.setIfInBounds 20 (.string x)) := by
 obtain ⟨x0, x1, x2, x3, x4, W, wc, M, mc, ds, rfl, hF, hW, hM, hT⟩ := h
 exact ⟨x0, x1, x2, x3, x4, W, wc, M, mc, ds, rfl, hF, hW, hM, hT.1, hT.2.1, hT.2.2.1, hT.2.2.2.1, hT.2.2.2.2.1, hx, hT.2.2.2.2.2.2⟩
theorem MAt.set_matched (h : MAt w P m cs) (x : ByteArray) (hx : x.size ≤ maxLen) : MAt w P { m with matched := x } (cs.setIfInBounds 22 (.string x)) := by
 obtain ⟨x0, x1, x2, x3, x4, W, wc, M, mc, ds, rfl, hF, hW, hM, hT⟩ := h
 exact ⟨x0, x1, x2, x3, x4, W, wc, M, mc, ds, rfl, hF, hW, hM, hT.1, hT.2.1, hT.2.2.1, hT.2.2.2.1, hT.2.2.2.2.1, hT.2.2.2.2.2.1, hx⟩
theorem MAt.set_wants (h : MAt w P m cs) (l : List ByteArray) (A : Option Addr) (c : Nat) (hA : Fi.StrsAt w P A l) (h1 : l.length ≤ maxLen) (h2 : l.length ≤ c) (h3 : ∀ s ∈ l, s.size ≤ maxLen) : MAt w P { m with wants := l } (cs.setIfInBounds 13 (.slice A l.length c)) := by
 obtain ⟨x0, x1, x2, x3, x4, W, wc, M, mc, ds, rfl, hF, hW, hM, hT⟩ := h
 exact ⟨x0, x1, x2, x3, x4, A, c, M, mc, ds, rfl, hF, ⟨hA, h1, h2, h3⟩, hM, hT⟩
theorem MAt.set_mods (h : MAt w P m cs) (l : List Mo) (A : Option Addr) (c : Nat) (dd : Nat → List Value) (hA : MosAt w P A l dd) (h1 : l.length ≤ maxLen) (h2 : l.length ≤ c) : MAt w P { m with mods := l } (cs.setIfInBounds 14 (.slice A l.length c)) := by
 obtain ⟨x0, x1, x2, x3, x4, W, wc, M, mc, ds, rfl, hF, hW, hM, hT⟩ := h
 exact ⟨x0, x1, x2, x3, x4, W, wc, A, c, dd, rfl, hF, hW, ⟨hA, h1, h2⟩, hT⟩
theorem MAt.set_fil (h : MAt w P m cs) (f : Fil) (y0 y1 y2 y3 y4 : Value) (hf : Fi.Lies w P f [y0, y1, y2, y3, y4]) :
  MAt w P { m with fil := f } (((((cs.setIfInBounds 8 y0).setIfInBounds 9 y1).setIfInBounds 10 y2).setIfInBounds 11 y3).setIfInBounds 12 y4) := by
 obtain ⟨x0, x1, x2, x3, x4, W, wc, M, mc, ds, rfl, hF, hW, hM, hT⟩ := h
 exact ⟨y0, y1, y2, y3, y4, W, wc, M, mc, ds, rfl, hf, hW, hM, hT⟩
end
theorem id_cells (x : Int) : ∃ (cs zs : Array Value), zs.size = 23 ∧ (∀ (w : World) (P : Nat → Prop), MAt w P { zero with id := x } cs) ∧ (∀ (w : World) (P : Nat → Prop), MAt w P zero zs) ∧
  zs = #[.int .i64 0, .int .i64 0, .int .i64 0, .string ⟨#[]⟩, .int .i64 0, .string ⟨#[]⟩, .int .i64 0, .int .i64 0, .int .i64 0, .string ⟨#[]⟩, .string ⟨#[]⟩, .slice none 0 0, .slice none 0 0, .slice none 0 0, .slice none 0 0, .string ⟨#[]⟩, .bool false, .bool false, .string ⟨#[]⟩, .string ⟨#[]⟩, .string ⟨#[]⟩, .int .i64 0, .string ⟨#[]⟩] ∧
  cs = #[.int .i64 x, .int .i64 0, .int .i64 0, .string ⟨#[]⟩, .int .i64 0, .string ⟨#[]⟩, .int .i64 0, .int .i64 0, .int .i64 0, .string ⟨#[]⟩, .string ⟨#[]⟩, .slice none 0 0, .slice none 0 0, .slice none 0 0, .slice none 0 0, .string ⟨#[]⟩, .bool false, .bool false, .string ⟨#[]⟩, .string ⟨#[]⟩, .string ⟨#[]⟩, .int .i64 0, .string ⟨#[]⟩] :=
 ⟨_, _, rfl,
  fun w P => ⟨_, _, _, _, _, none, 0, none, 0, fun _ => [], rfl, lies_noF w P, ⟨Fi.StrsAt.nil _ _ _, by simp [zero], by simp [zero], by simp [zero]⟩, ⟨MosAt.nil _ _ _ _, by simp [zero], by simp [zero]⟩, by refine ⟨?_, ?_, ?_, ?_, ?_, ?_, ?_⟩ <;> exact Nat.zero_le _⟩,
  fun w P => ⟨_, _, _, _, _, none, 0, none, 0, fun _ => [], rfl, lies_noF w P, ⟨Fi.StrsAt.nil _ _ _, by simp [zero], by simp [zero], by simp [zero]⟩, ⟨MosAt.nil _ _ _ _, by simp [zero], by simp [zero]⟩, by refine ⟨?_, ?_, ?_, ?_, ?_, ?_, ?_⟩ <;> exact Nat.zero_le _⟩, rfl, rfl⟩
theorem wpList_mark {P : Program} {w : World} {ops : Array Oper} {rest : List Oper} {o : Oper} {a : Act} {Q : Exit → Act → World → Prop} (q : Op) (hq : o.op = q) (h : wpList P ops Q (o :: rest) a w) : wpList P ops Q (o :: rest) a w := h
theorem wpList_gives {P : Program} {w : World} {ops : Array Oper} {rest : List Oper} {o : Oper} {a : Act} {Q : Exit → Act → World → Prop} (hgd : o.guard = none) (q : Op) (hq : o.op = q) (v : Value) (hrun : (execOp a.eval o).run P w = .ok (.value v) w) (h : wpList P ops Q rest (a.put o.dst v) w) : wpList P ops Q (o :: rest) a w :=
 wpList_plain hgd fun K hK => by
  unfold Oper.wp
  rw [hrun, Oper.upon_value]
  exact hK _ _ h
end Go.Proofs.YtconghaebebncaaGreatDoor.Ms
namespace Go.Proofs.YtconghaebebncaaGreatDoor.Ms
open Go.RowKit
set_option linter.unusedVariables false
set_option maxRecDepth 100000
attribute [local go_sem ↓] loadAtMsg
theorem kids_of {w : World} {e : Be.El} {t n c : Nat} {b : ByteArray} {A : Option Addr} (hL : Be.Lies w (· < w.heap.size) e [.int .u8 (t : Nat), .string b, .slice A n c]) :
  n = (kidsE e).length ∧ t = tagE e ∧ b = bodyE e ∧ t ≤ 255 ∧ ∃ ds, Be.KidsAt w (· < w.heap.size) A (kidsE e) ds := by
 obtain ⟨t', b', ks⟩ := e
 obtain ⟨A', c', ds, hcs, ht, _, hl, hK⟩ := hL.open_
 simp only [List.cons.injEq, and_true, Value.slice.injEq, Value.string.injEq, Value.int.injEq, true_and] at hcs
 obtain ⟨h1, rfl, rfl, rfl, rfl⟩ := hcs
 exact ⟨rfl, by show t = t'; omega, rfl, by omega, ds, hK⟩
def ToldN (w : World) (m : Mg) (r : Ending) (w' : World) : Prop := ∃ cs, r = .returned (.agg cs) ∧ Below w.heap.size w w' ∧ MAt w' (fun b => w.heap.size ≤ b ∧ b < w'.heap.size) m cs
set_option maxHeartbeats 4000000 in
theorem rm_o (e : Be.El) (t : Nat) (b : ByteArray) (A : Option Addr) (n c : Nat) (w : World) (hfew : Few e) (hG : Glob w) (O : Int) (hop : (opOf (tagE (kidE e 1))).1 = O) (h1 : O ≠ 1) (h3 : O ≠ 3) (h4 : O ≠ 4) (h5 : O ≠ 5) (h6 : O ≠ 6) (h7 : O ≠ 7) (h8 : O ≠ 8) (h9 : O ≠ 9) (h10 : O ≠ 10) (hL : Be.Lies w (· < w.heap.size) e [.int .u8 (t : Nat), .string b, .slice A n c]) :
  Calls Tryz.prog 71 #[.agg #[.int .u8 (t : Nat), .string b, .slice A n c]] w (ToldN w (rdMW e)) := by
 have hrd : rdMW e = { zero with id := numAt e 0, op := O, ref := (opOf (tagE (kidE e 1))).2 } := by
  unfold rdMW rdM; simp only [hop]; rw [if_neg h1, if_neg h3, if_neg h4, if_neg (by omega), if_neg h6, if_neg h7, if_neg h8, if_neg h9]
 rw [hrd]
 clear hrd
 have q1 : (O == 1) = false := by rw [beq_eq_false_iff_ne]; exact h1
 have q3 : (O == 3) = false := by rw [beq_eq_false_iff_ne]; exact h3
 have q4 : (O == 4) = false := by rw [beq_eq_false_iff_ne]; exact h4
 have q5 : (O == 5) = false := by rw [beq_eq_false_iff_ne]; exact h5
 have q6 : (O == 6) = false := by rw [beq_eq_false_iff_ne]; exact h6
 have q7 : (O == 7) = false := by rw [beq_eq_false_iff_ne]; exact h7
 have q8 : (O == 8) = false := by rw [beq_eq_false_iff_ne]; exact h8
 have q9 : (O == 9) = false := by rw [beq_eq_false_iff_ne]; exact h9
 have q10 : (O == 10) = false := by rw [beq_eq_false_iff_ne]; exact h10
 clear h1 h3 h4 h5 h6 h7 h8 h9 h10
 obtain ⟨ic, zs, hz, hMi, hM0, ez, ei⟩ := id_cells (numAt e 0)
 have hb0 := two_below w #[.int .u8 (t : Nat), .string b, .slice A n c] zs 57 28
 have BR := Lib.hid (new2 w #[.int .u8 (t : Nat), .string b, .slice A n c] zs 57 28)
 have BE := Lib.hid ((Blk.new w 57 #[.int .u8 (t : Nat), .string b, .slice A n c]).alloc (.cells zs 28))
 have HK := Lib.hid (kid_any e 1 t b A n c _ (hL.past hb0))
 have HN := Lib.hid (fun w1 hb => numberAt_any e 0 t b A n c w1 (hL.past hb))
 have hb := Lib.hid hb0
 have HG := Lib.hid hG
 have HO := Lib.hid (fun ht w1 hb => opOf_any (tagE (kidE e 1)) ht w1 (hG.past hb))
 rw [show opOf (tagE (kidE e 1)) = (O, (opOf (tagE (kidE e 1))).2) from Prod.ext hop rfl] at HO
 have HI := Lib.hid hMi
 have HEi := Lib.hid ei
 have HEz := Lib.hid ez
 clear hL hb0 hG hMi ei
 go_enter Tryz.func71, Tryz.ntmps71
 go_wp2_with fail
 rw [← ez]
 clear ez
 refine HK.out.mono ?_
 rintro r w1 ⟨t1, b1, A1, n1, c1, rfl, hb1, hL1⟩
 have hb2 := hb.out.trans (hb1.mono hb.out.size)
 obtain ⟨-, hto, hbo, hto2, -⟩ := kids_of hL1
 subst hto hbo
 have BE1 := (BE.out.past hb1).alloc (.cells #[.int .u8 (tagE (kidE e 1) : Nat), .string (bodyE (kidE e 1)), .slice A1 n1 c1] 57)
 have BO1 := Blk.new w1 57 #[.int .u8 (tagE (kidE e 1) : Nat), .string (bodyE (kidE e 1)), .slice A1 n1 c1]
 have hb3 := hb2.alloc hb2.size (.cells #[.int .u8 (tagE (kidE e 1) : Nat), .string (bodyE (kidE e 1)), .slice A1 n1 c1] 57)
 have BR1 := Lib.hid ((BR.out.past hb1).alloc (.cells #[.int .u8 (tagE (kidE e 1) : Nat), .string (bodyE (kidE e 1)), .slice A1 n1 c1] 57))
 have e0 := BE1.cell 0
 have e1 := BE1.cell 1
 have e2 := BE1.cell 2
 have HLo := Lib.hid ((hL1.past hb1).past ((Below.refl w1.heap.size w1).alloc (Nat.le_refl _) (.cells #[.int .u8 (tagE (kidE e 1) : Nat), .string (bodyE (kidE e 1)), .slice A1 n1 c1] 57)))
 have HBO := Lib.hid BO1
 have hs1 : w.heap.size + 2 ≤ w1.heap.size := by have := hb1.size; simp at this; omega
 have hO1 := Lib.hid (hb1.alloc hb1.size (.cells #[.int .u8 (tagE (kidE e 1) : Nat), .string (bodyE (kidE e 1)), .slice A1 n1 c1] 57))
 have HLk := Lib.hid hL1
 clear hL1 BE1 BO1 hb1 hb2 HK BE BR hb
 go_wp2_with fail
 refine (HN.out _ hb3).mono ?_
 rintro r w2 ⟨rfl, hb4⟩
 have hb5 := hb3.trans (hb4.mono hb3.size)
 have hs2 : w1.heap.size < w2.heap.size := by have := hb4.size; simp at this; omega
 have hbM := (Below.refl w2.heap.size w2).alloc (Nat.le_refl _) (.cells ic 28)
 have hb6 := hb5.alloc hb5.size (.cells ic 28)
 have BO2 := (HBO.out.past hb4).alloc (.cells ic 28)
 have HLo2 := Lib.hid ((HLo.out.past hb4).past hbM)
 have BR2 := Lib.hid ((BR1.out.past hb4).alloc (.cells ic 28))
 have BM2 := Lib.hid (Blk.new w2 28 ic)
 have o0 := BO2.cell 0
 have HBO2 := Lib.hid BO2
 have hO2 := Lib.hid ((hO1.out.trans (hb4.mono hO1.out.size)).alloc (hO1.out.trans (hb4.mono hO1.out.size)).size (.cells ic 28))
 clear hb4 hbM HBO HLo BR1 BO2 e0 e1 e2 hb3 hb5
 go_wp2_with (first | (refine wpList_gives rfl (.build 28 #[(0, .tmp 8)]) rfl (.agg ic) (by rw [HEi.out]; kernel_rfl) ?_) | (refine wpList_mark (.store 28 (.tmp 4) (.tmp 9)) rfl ?_; refine wpList_store_row rfl 28 _ _ rfl w2.heap.size ic rfl rfl 28 _ (heap_alloc_new w2 _) (by rw [infoM, (HI.out w2 (fun _ => True)).size]) ?_ (HI.out w2 (fun _ => True)).one ?_; exact Eq.trans rfl (HI.out w2 (fun _ => True)).size.symm; rw [World.setRow_alloc_new]))
 refine (HO.out hto2 _ hb6).mono ?_
 rintro r w3 ⟨rfl, hb7⟩
 have hb8 := hb6.trans (hb7.mono hb6.size)
 have BM3 := Lib.hid (BM2.out.past hb7)
 have BO3 := Lib.hid (HBO2.out.past hb7)
 have BR3 := Lib.hid (BR2.out.past hb7)
 have HLo3 := Lib.hid (HLo2.out.past hb7)
 have hO3 := Lib.hid (hO2.out.trans (hb7.mono hO2.out.size))
 have hs3 := BM3.out.lt
 have o0 := BO3.out.cell 0
 have o1 := BO3.out.cell 1
 have o2 := BO3.out.cell 2
 have HMI := Lib.hid (HI.out w3 (fun _ => False))
 have k1 : w3.cell? ⟨w2.heap.size, 1, none⟩ = some (.int .i64 0) := (BM3.out.cell 1).trans HMI.out.g1
 have k2 : w3.cell? ⟨w2.heap.size, 2, none⟩ = some (.int .i64 0) := (BM3.out.cell 2).trans HMI.out.g2
 have k3 : w3.cell? ⟨w2.heap.size, 3, none⟩ = some (.string no) := (BM3.out.cell 3).trans HMI.out.g3
 have z1 := BM3.out.frozen 1
 have z2 := BM3.out.frozen 2
 have z3 := BM3.out.frozen 3
 have n12 : w1.heap.size ≠ w2.heap.size := by omega
 have n21 : w2.heap.size ≠ w1.heap.size := by omega
 have n31 : w.heap.size + 1 ≠ w2.heap.size := by omega
 clear hb7 hb6 BM2 HBO2 BR2 HLo2 HO HN
 have BM9 := Lib.hid (show Blk ((w3.setCell ⟨w2.heap.size, 1, none⟩ (.int .i64 O)).setCell ⟨w2.heap.size, 2, none⟩ (.int .i64 (opOf (tagE (kidE e 1))).2)) w2.heap.size 28 ((ic.setIfInBounds 1 (.int .i64 O)).setIfInBounds 2 (.int .i64 (opOf (tagE (kidE e 1))).2)) from ((BM3.out.set_ 1 (.int .i64 O)).set_ 2 (.int .i64 (opOf (tagE (kidE e 1))).2)))
 have BR9 := Lib.hid (show Blk ((w3.setCell ⟨w2.heap.size, 1, none⟩ (.int .i64 O)).setCell ⟨w2.heap.size, 2, none⟩ (.int .i64 (opOf (tagE (kidE e 1))).2)) (w.heap.size + 1) 28 zs from ((BR3.out.far (p := ⟨w2.heap.size, 1, none⟩) n31 (.int .i64 O)).far (p := ⟨w2.heap.size, 2, none⟩) n31 (.int .i64 (opOf (tagE (kidE e 1))).2)))
 have hb9 := Lib.hid (show Below w.heap.size w ((w3.setCell ⟨w2.heap.size, 1, none⟩ (.int .i64 O)).setCell ⟨w2.heap.size, 2, none⟩ (.int .i64 (opOf (tagE (kidE e 1))).2)) from ((hb8.setCell (p := ⟨w2.heap.size, 1, none⟩) (by show _ ≤ w2.heap.size; omega) (.int .i64 O)).setCell (p := ⟨w2.heap.size, 2, none⟩) (by show _ ≤ w2.heap.size; omega) (.int .i64 (opOf (tagE (kidE e 1))).2)))
 have HM9 := Lib.hid (show MAt w3 (fun _ => False) { zero with id := numAt e 0, op := O, ref := (opOf (tagE (kidE e 1))).2 } ((ic.setIfInBounds 1 (.int .i64 O)).setIfInBounds 2 (.int .i64 (opOf (tagE (kidE e 1))).2)) from (MAt.set_ref (MAt.set_op HMI.out O) (opOf (tagE (kidE e 1))).2))
 generalize hcs : ((ic.setIfInBounds 1 (.int .i64 O)).setIfInBounds 2 (.int .i64 (opOf (tagE (kidE e 1))).2)) = cs9 at BM9 HM9
 go_wp2_with (first | (refine wpList_mark (.load 28 (.tmp 4)) rfl ?_; refine wpList_load_row rfl 28 _ rfl w2.heap.size rfl _ cs9 (0, 0) _ BM9.out Tryz.underlying28 rfl (by rw [infoM, HM9.out.size]) ?_) | (refine wpList_mark (.store 28 (.tmp 2) (.tmp 114)) rfl ?_; refine wpList_store_row rfl 28 _ _ rfl (w.heap.size + 1) cs9 rfl rfl 28 zs BR9.out (by rw [infoM, HM9.out.size]) (hz.trans HM9.out.size.symm) HM9.out.one ?_))
 refine bodyPost_ret (results_cell_row rfl _ _ (w.heap.size + 1) _ cs9 (0, 0) _ rfl (setRow_heap _ _ _ cs9 _ _ BR9.out) Tryz.underlying28 rfl (by rw [infoM, HM9.out.size])) rfl ⟨cs9, rfl, below_setRow hb9.out (by omega) cs9, HM9.out.imp (fun _ h => h.elim) (fun _ h => h.elim)⟩
def NoPart (e : Be.El) : Prop := (opOf (tagE (kidE e 1))).1 ≠ 1 ∧ (opOf (tagE (kidE e 1))).1 ≠ 3 ∧ (opOf (tagE (kidE e 1))).1 ≠ 4 ∧ (opOf (tagE (kidE e 1))).1 ≠ 5 ∧ (opOf (tagE (kidE e 1))).1 ≠ 6 ∧ (opOf (tagE (kidE e 1))).1 ≠ 7 ∧ (opOf (tagE (kidE e 1))).1 ≠ 8 ∧ (opOf (tagE (kidE e 1))).1 ≠ 9 ∧ (opOf (tagE (kidE e 1))).1 ≠ 10
theorem readMessage_any (e : Be.El) (t : Nat) (b : ByteArray) (A : Option Addr) (n c : Nat) (w : World) (hfew : Few e) (hno : NoPart e) (hG : Glob w) (hL : Be.Lies w (· < w.heap.size) e [.int .u8 (t : Nat), .string b, .slice A n c]) :
  Calls Tryz.prog 71 #[.agg #[.int .u8 (t : Nat), .string b, .slice A n c]] w (ToldN w (rdMW e)) := by
 obtain ⟨h1, h3, h4, h5, h6, h7, h8, h9, h10⟩ := hno
 exact rm_o e t b A n c w hfew hG _ rfl h1 h3 h4 h5 h6 h7 h8 h9 h10 hL
end Go.Proofs.YtconghaebebncaaGreatDoor.Ms
