/- What known answers. -/
import Derived.Test.YtconghaebebncaaGreatDoorMsDec
import Derived.Test.YtconghaebebncaaGreatDoorMsRSameM
import Derived.Test.YtconghaebebncaaGreatDoorMsFormed
namespace Go.Proofs.YtconghaebebncaaGreatDoor.Ms
open Go.RowKit
set_option linter.unusedVariables false
set_option maxRecDepth 100000
attribute [local go_sem ↓] loadAtMsg

/-- A whole message is loaded, under a guard that says yes. -/
theorem wpList_loadG {w : World} {ops : Array Oper} {rest : List Oper} {o : Oper} {a : Act} {Q : Exit → Act → World → Prop} (hw : Region.wanted o (yielded ops a.tmps) = true) (x : Operand) (ho : o.op = .load 28 x)
    (g : Nat) (hx : a.eval x = .pointer (some ⟨g, 0, none⟩)) (cs : Array Value) (B : Blk w g 28 cs) (hn : cs.size = 23) (hK : wpList Tryz.prog ops Q rest (a.put o.dst (.agg cs)) w) : wpList Tryz.prog ops Q (o :: rest) a w :=
  Pl.take (.agg cs) hw (run_loadRow ho hx B Tryz.underlying28 rfl (by rw [infoM, hn])) hK
theorem heap_newE {w : World} {o : Obj} {g : Nat} (h : w.heap.size = g) : (w.alloc o).heap[g]? = some o := by subst h; exact heap_alloc_new w o
theorem setRow_newE {w : World} {old cs : Array Value} {t : TypeId} {g : Nat} (h : w.heap.size = g) : (w.alloc (.cells old t)).setRow g cs = w.alloc (.cells cs t) := by subst h; exact World.setRow_alloc_new ..
/-- Encode at a message whose bytes are known. -/
theorem Encode_at {m : Mg} {s : List UInt8} {n : Nat} (h : encM m = (s, n)) (cs : Array Value) (w : World) (hG : Glob w) (hM : MAt w (· < w.heap.size) m cs) :
    Calls Tryz.prog 11 #[.agg cs] w fun r w' => r = .returned (.tuple #[.string ⟨s.toArray⟩, .int .i64 n]) ∧ Below w.heap.size w w' := by
  have := Encode_any m cs w hG hM
  rw [h] at this
  exact this
/-- Decode at bytes whose message is known. -/
theorem Decode_at {s : ByteArray} {m : Mg} {n : Nat} (h : decM s.data.toList = (m, n)) (w : World) (hG : Glob w) (hs : s.size ≤ 1099511627776) :
    Calls Tryz.prog 17 #[.string s] w fun r w' => ∃ cs, r = .returned (.tuple #[.agg cs, .int .i64 n]) ∧ Below w.heap.size w w' ∧ MAt w' (· < w'.heap.size) m cs := by
  have := Decode_any s w hG hs
  rw [h] at this
  exact this.mono fun r w' ⟨cs, h1, h2, h3⟩ => ⟨cs, h1, h2, h3.imp (fun _ h => h.2) (fun _ _ => rfl)⟩
def m1 : Mg := { zero with id := 1, op := 2 }
theorem m1_is : isM m1 = true := by kernel_rfl
theorem m1_enc : encM m1 = ([48, 5, 2, 1, 1, 66, 0], 0) := by kernel_rfl
theorem m1_dec : decM (⟨#[48, 5, 2, 1, 1, 66, 0]⟩ : ByteArray).data.toList = (m1, 0) := dec_enc m1_enc
theorem zero_enc : encM zero = ([], 14) := by kernel_rfl
theorem no_dec : decM (⟨#[]⟩ : ByteArray).data.toList = (zero, 10) := by kernel_rfl
theorem few_dec : decM (⟨#[4, 0]⟩ : ByteArray).data.toList = (zero, 14) := by kernel_rfl
set_option maxHeartbeats 8000000 in
theorem known_any (w : World) (hG : Glob w) : Calls Tryz.prog 9 #[] w fun r w' => r = .returned (.bool true) ∧ Below w.heap.size w w' := by
  obtain ⟨ic, zs, hz, hMi, hM0, ez, ei⟩ := id_cells 1
  have hM1 : ∀ (w : World) (P : Nat → Prop), MAt w P m1 (ic.setIfInBounds 1 (.int .i64 2)) := fun w P => (hMi w P).set_op 2
  generalize hk : ic.setIfInBounds 1 (.int .i64 2) = kc at hM1
  have HEk := Lib.hid (hk.symm.trans (by rw [ei]))
  clear hk
  have HEz := Lib.hid ez
  have HM1 := Lib.hid hM1
  have HM0 := Lib.hid hM0
  have HG := Lib.hid hG
  have CE1 := Lib.hid (fun w => Encode_at m1_enc kc w)
  have CE0 := Lib.hid (fun w => Encode_at zero_enc zs w)
  have CD1 := Lib.hid (fun w hG => Decode_at m1_dec w hG (by decide))
  have CDN := Lib.hid (fun w hG => Decode_at no_dec w hG (by decide))
  have CDF := Lib.hid (fun w hG => Decode_at few_dec w hG (by decide))
  have CS0 := fun ca cb w ha hb => rSame_any m1 m1 ca cb w ha hb
  have CI0 := fun ca w ha => Is_any m1 ca w ha
  have CM0 := fun ca cb w ha hb => Same_any m1 m1 ca cb w ha hb
  simp only [eqM_self] at CS0 CM0
  simp only [m1_is] at CI0
  have CS := Lib.hid CS0
  have CI := Lib.hid CI0
  have CM := Lib.hid CM0
  clear CS0 CI0 CM0
  have Hb0 := Lib.hid (Below.refl w.heap.size w)
  clear hMi hM1 hM0 ez ei hG
  go_enter Tryz.func9, Tryz.ntmps9
  have HB1_1 := Lib.hid (Box.new (HM1.out w (· < w.heap.size)))
  have hbA2 := (Below.refl (w).heap.size (w)).alloc (Nat.le_refl _) (.cells kc 28)
  have Hb3 := Lib.hid (Hb0.out.trans (hbA2.mono Hb0.out.size))
  clear Hb0
  clear hbA2
  go_wp2_with (first | (refine wpList_gives rfl (.build 28 #[(0, .const (.int .i64 1)), (1, .const (.int .i64 2))]) rfl (.agg kc) (by rw [HEk.out]; kernel_rfl) ?_) | (refine wpList_mark (.store 28 (.tmp 1) (.tmp 12)) rfl ?_; refine wpList_store_row rfl 28 _ _ rfl (w).heap.size kc rfl rfl 28 _ (heap_alloc_new (w) _) (by rw [infoM, (HM1.out w (fun _ => True)).size]) ?_ (HM1.out w (fun _ => True)).one ?_; exact Eq.trans rfl (HM1.out w (fun _ => True)).size.symm; rw [World.setRow_alloc_new]) | (refine wpList_mark (.load 28 (.tmp 1)) rfl ?_; refine wpList_loadG (by rfl) _ rfl ((w).heap.size) rfl kc HB1_1.out.1 HB1_1.out.2.size ?_))
  refine (CE1.out _ (HG.out.past Hb3.out) HB1_1.out.2).mono ?_
  rintro r w1 ⟨rfl, hc1⟩
  have HB1_4 := Lib.hid (HB1_1.out.past hc1)
  clear HB1_1
  have Hb5 := Lib.hid (Hb3.out.trans (hc1.mono Hb3.out.size))
  clear Hb3
  clear hc1
  go_wp2_with fail
  refine (CD1.out _ (HG.out.past Hb5.out)).mono ?_
  rintro r w2 ⟨c4, rfl, hc2, hM4⟩
  have HB1_6 := Lib.hid (HB1_4.out.past hc2)
  clear HB1_4
  have Hb7 := Lib.hid (Hb5.out.trans (hc2.mono Hb5.out.size))
  clear Hb5
  clear hc2
  have hM4q := Lib.hid hM4
  have HB4_8 := Lib.hid (Box.new hM4)
  have hbA9 := (Below.refl (w2).heap.size (w2)).alloc (Nat.le_refl _) (.cells c4 28)
  have HB1_10 := Lib.hid (HB1_6.out.past hbA9)
  clear HB1_6
  have Hb11 := Lib.hid (Hb7.out.trans (hbA9.mono Hb7.out.size))
  clear Hb7
  clear hbA9
  clear hM4
  go_wp2_with (first | (refine wpList_mark (.store 28 (.tmp 4) (.tmp 21)) rfl ?_; refine wpList_store_row rfl 28 _ _ rfl (w2).heap.size c4 rfl rfl 28 _ (heap_alloc_new (w2) _) (by rw [infoM, hM4q.out.size]) ?_ hM4q.out.one ?_; exact Eq.trans rfl hM4q.out.size.symm; rw [World.setRow_alloc_new]) | (refine wpList_gives rfl (.build 28 #[]) rfl (.agg zs) (by rw [HEz.out]; kernel_rfl) ?_))
  refine (CE0.out _ (HG.out.past Hb11.out) (HM0.out _ _)).mono ?_
  rintro r w3 ⟨rfl, hc3⟩
  have HB1_12 := Lib.hid (HB1_10.out.past hc3)
  clear HB1_10
  have HB4_13 := Lib.hid (HB4_8.out.past hc3)
  clear HB4_8
  have Hb14 := Lib.hid (Hb11.out.trans (hc3.mono Hb11.out.size))
  clear Hb11
  clear hc3
  go_wp2_with fail
  refine (CDN.out _ (HG.out.past Hb14.out)).mono ?_
  rintro r w4 ⟨c8, rfl, hc4, hM8⟩
  have HB1_15 := Lib.hid (HB1_12.out.past hc4)
  clear HB1_12
  have HB4_16 := Lib.hid (HB4_13.out.past hc4)
  clear HB4_13
  have Hb17 := Lib.hid (Hb14.out.trans (hc4.mono Hb14.out.size))
  clear Hb14
  clear hc4
  have hM8q := Lib.hid hM8
  have HB8_18 := Lib.hid (Box.new hM8)
  have hbA19 := (Below.refl (w4).heap.size (w4)).alloc (Nat.le_refl _) (.cells c8 28)
  have HB1_20 := Lib.hid (HB1_15.out.past hbA19)
  clear HB1_15
  have HB4_21 := Lib.hid (HB4_16.out.past hbA19)
  clear HB4_16
  have Hb22 := Lib.hid (Hb17.out.trans (hbA19.mono Hb17.out.size))
  clear Hb17
  clear hbA19
  clear hM8
  go_wp2_with (first | (refine wpList_mark (.store 28 (.tmp 8) (.tmp 30)) rfl ?_; refine wpList_store_row rfl 28 _ _ rfl (w4).heap.size c8 rfl rfl 28 _ (heap_alloc_new (w4) _) (by rw [infoM, hM8q.out.size]) ?_ hM8q.out.one ?_; exact Eq.trans rfl hM8q.out.size.symm; rw [World.setRow_alloc_new]))
  refine (CDF.out _ (HG.out.past Hb22.out)).mono ?_
  rintro r w5 ⟨c10, rfl, hc5, hM10⟩
  have HB1_23 := Lib.hid (HB1_20.out.past hc5)
  clear HB1_20
  have HB4_24 := Lib.hid (HB4_21.out.past hc5)
  clear HB4_21
  have HB8_25 := Lib.hid (HB8_18.out.past hc5)
  clear HB8_18
  have Hb26 := Lib.hid (Hb22.out.trans (hc5.mono Hb22.out.size))
  clear Hb22
  clear hc5
  have hM10q := Lib.hid hM10
  have HB10_27 := Lib.hid (Box.new hM10)
  have hbA28 := (Below.refl (w5).heap.size (w5)).alloc (Nat.le_refl _) (.cells c10 28)
  have HB1_29 := Lib.hid (HB1_23.out.past hbA28)
  clear HB1_23
  have HB4_30 := Lib.hid (HB4_24.out.past hbA28)
  clear HB4_24
  have HB8_31 := Lib.hid (HB8_25.out.past hbA28)
  clear HB8_25
  have Hb32 := Lib.hid (Hb26.out.trans (hbA28.mono Hb26.out.size))
  clear Hb26
  clear hbA28
  clear hM10
  go_wp2_with (first | (refine wpList_mark (.store 28 (.tmp 10) (.tmp 34)) rfl ?_; refine wpList_store_row rfl 28 _ _ rfl (w5).heap.size c10 rfl rfl 28 _ (heap_alloc_new (w5) _) (by rw [infoM, hM10q.out.size]) ?_ hM10q.out.one ?_; exact Eq.trans rfl hM10q.out.size.symm; rw [World.setRow_alloc_new]) | (refine wpList_mark (.load 28 (.tmp 1)) rfl ?_; refine wpList_loadG (by rfl) _ rfl ((w).heap.size) rfl kc HB1_29.out.1 HB1_29.out.2.size ?_) | (refine wpList_mark (.load 28 (.tmp 4)) rfl ?_; refine wpList_loadG (by rfl) _ rfl ((w2).heap.size) rfl c4 HB4_30.out.1 HB4_30.out.2.size ?_))
  refine (CS.out _ _ _ HB1_29.out.2 HB4_30.out.2).mono ?_
  rintro r w6 ⟨rfl, hc6⟩
  have HB1_33 := Lib.hid (HB1_29.out.past hc6)
  clear HB1_29
  have HB4_34 := Lib.hid (HB4_30.out.past hc6)
  clear HB4_30
  have HB8_35 := Lib.hid (HB8_31.out.past hc6)
  clear HB8_31
  have HB10_36 := Lib.hid (HB10_27.out.past hc6)
  clear HB10_27
  have Hb37 := Lib.hid (Hb32.out.trans (hc6.mono Hb32.out.size))
  clear Hb32
  clear hc6
  go_wp2_with (first | (refine wpList_mark (.load 28 (.tmp 1)) rfl ?_; refine wpList_loadG (by rfl) _ rfl ((w).heap.size) rfl kc HB1_33.out.1 HB1_33.out.2.size ?_))
  refine (CI.out _ _ HB1_33.out.2).mono ?_
  rintro r w7 ⟨rfl, hc7⟩
  have HB1_38 := Lib.hid (HB1_33.out.past hc7)
  clear HB1_33
  have HB4_39 := Lib.hid (HB4_34.out.past hc7)
  clear HB4_34
  have HB8_40 := Lib.hid (HB8_35.out.past hc7)
  clear HB8_35
  have HB10_41 := Lib.hid (HB10_36.out.past hc7)
  clear HB10_36
  have Hb42 := Lib.hid (Hb37.out.trans (hc7.mono Hb37.out.size))
  clear Hb37
  clear hc7
  go_wp2_with (first | (refine wpList_mark (.load 28 (.tmp 1)) rfl ?_; refine wpList_loadG (by rfl) _ rfl ((w).heap.size) rfl kc HB1_38.out.1 HB1_38.out.2.size ?_) | (refine wpList_mark (.load 28 (.tmp 4)) rfl ?_; refine wpList_loadG (by rfl) _ rfl ((w2).heap.size) rfl c4 HB4_39.out.1 HB4_39.out.2.size ?_))
  refine (CM.out _ _ _ HB1_38.out.2 HB4_39.out.2).mono ?_
  rintro r w8 ⟨rfl, hc8⟩
  have HB1_43 := Lib.hid (HB1_38.out.past hc8)
  clear HB1_38
  have HB4_44 := Lib.hid (HB4_39.out.past hc8)
  clear HB4_39
  have HB8_45 := Lib.hid (HB8_40.out.past hc8)
  clear HB8_40
  have HB10_46 := Lib.hid (HB10_41.out.past hc8)
  clear HB10_41
  have Hb47 := Lib.hid (Hb42.out.trans (hc8.mono Hb42.out.size))
  clear Hb42
  clear hc8
  go_wp2_with fail
  go_ret
  exact ⟨rfl, Hb47.out⟩
end Go.Proofs.YtconghaebebncaaGreatDoor.Ms
