/- MsResults: the walk. -/
import Derived.Test.YtconghaebebncaaGreatDoorMsKnown
import Derived.Test.YtconghaebebncaaGreatDoorMsLaw
namespace Go.Proofs.YtconghaebebncaaGreatDoor.Ms
open Go.RowKit
set_option linter.unusedVariables false
set_option maxRecDepth 100000
attribute [local go_sem ↓] loadAtMsg

def SevenA : Array Value := #[.int .i64 1, .int .i64 3, .int .i64 4, .int .i64 5, .int .i64 6, .int .i64 7, .int .i64 8]
theorem seven_at {q : Nat} (h : q < 7) : SevenA[q]? = some (.int .i64 (opN q)) := by
  rcases (by omega : q = 0 ∨ q = 1 ∨ q = 2 ∨ q = 3 ∨ q = 4 ∨ q = 5 ∨ q = 6) with rfl | rfl | rfl | rfl | rfl | rfl | rfl <;> rfl
set_option maxHeartbeats 8000000 in
theorem walk_MsgResults (of : Int) (h0 : (Lit.int .u8 of).wf = true) (code : Int) (h1 : (Lit.int .u8 code).wf = true) (other : Int) (h2 : (Lit.int .u8 other).wf = true) (s : ByteArray) (hs : s.size ≤ maxLen) (id : Int) (h4 : (Lit.int .u16 id).wf = true) (w : World) (hG : Glob w) :
    Calls Tryz.prog 7 #[.int .u8 of, .int .u8 code, .int .u8 other, .string s, .int .u16 id] w fun r w' => r = .returned (.bool true) ∧ Below w.heap.size w w' := by
  obtain ⟨o0, o1⟩ := wf8 h0
  obtain ⟨c0, c1⟩ := wf8 h1
  obtain ⟨p0, p1⟩ := wf8 h2
  obtain ⟨i0, i1⟩ := wf16 h4
  have HK := Lib.hid (known_any w hG)
  have HG := Lib.hid hG
  clear h0 h1 h2 h4 hG
  unfold maxLen at hs
  by_cases hl : 400 < (s.size : Int)
  · go_enter Tryz.func7, Tryz.ntmps7
    go_wp2_with fail
    refine HK.out.mono ?_
    rintro r w1 ⟨rfl, hb1⟩
    go_wp2_with fail
    go_ret
    exact ⟨rfl, hb1⟩
  have hl' : (s.size : Int) ≤ 400 := by omega
  obtain ⟨q, hq, hq7⟩ : ∃ q : Nat, of % 7 = (q : Int) ∧ q < 7 := ⟨(of % 7).toNat, by omega, by omega⟩
  obtain ⟨q2, hq2, hq27⟩ : ∃ q : Nat, other % 7 = (q : Int) ∧ q < 7 := ⟨(other % 7).toNat, by omega, by omega⟩
  obtain ⟨c, hc, hc0, hc1⟩ : ∃ c : Int, code % 128 = c ∧ 0 ≤ c ∧ c ≤ 127 := ⟨code % 128, rfl, by omega, by omega⟩
  obtain ⟨kc, ek, hMk⟩ := res_cells id (opN q) c s (by unfold maxLen; omega)
  have hM2 : ∀ (w : World) (P : Nat → Prop), MAt w P (resM id (opN q2) c s) (kc.setIfInBounds 2 (.int .i64 (opN q2))) := fun w P => (hMk w P).set_ref (opN q2)
  have he1 := res_enc i0 i1 (opN_range hq7) hc0 hc1 (by omega : s.size ≤ 400)
  have he2 := res_enc i0 i1 (opN_range hq27) hc0 hc1 (by omega : s.size ≤ 400)
  have hd1 := dec_enc he1
  have hln := res_len (ref := opN q) i0 i1 hc0 hc1 (by omega : s.size ≤ 400)
  have hinj := enc_inj he1 he2
  have href : (resM id (opN q) c s).ref = opN q := rfl
  have hmm : resM id (opN q) c s = resM id (opN q2) c s ↔ q = q2 := ⟨fun h => opN_inj hq7 hq27 (congrArg Mg.ref h), fun h => by rw [h]⟩
  generalize resM id (opN q) c s = m at *
  generalize resM id (opN q2) c s = n at *
  generalize Be.enc (msgEl m) = S1 at *
  generalize Be.enc (msgEl n) = S2 at *
  have hS : S1 = S2 ↔ q = q2 := hinj.trans hmm
  have hz1 : (⟨S1.toArray⟩ : ByteArray).data.toList = S1 := by simp
  have hsz : (⟨S1.toArray⟩ : ByteArray).size ≤ 1099511627776 := by
    show S1.toArray.size ≤ _
    simp only [List.size_toArray]
    omega
  have hT : ((⟨S1.toArray⟩ : ByteArray).toList == (⟨S2.toArray⟩ : ByteArray).toList) = decide (q = q2) := by
    rw [Fi.toList_eq]
    refine decide_eq_decide.2 (Iff.trans ⟨fun h => ?_, fun h => by rw [h]⟩ hS)
    have h2 : (⟨S1.toArray⟩ : ByteArray).data.toList = (⟨S2.toArray⟩ : ByteArray).data.toList := by rw [h]
    simpa using h2
  have hQ : ((q : Int) == (q2 : Int)) = decide (q = q2) := by
    show decide _ = _
    exact decide_eq_decide.2 (by omega)
  generalize decide (q = q2) = bb at hT hQ
  have HEk := Lib.hid ek
  have HMk := Lib.hid hMk
  have HMn := Lib.hid hM2
  have CE1 := Lib.hid (fun w => Encode_at he1 kc w)
  have CE2 := Lib.hid (fun cs w => Encode_at he2 cs w)
  have CD := Lib.hid (fun w hG => Decode_at (s := ⟨S1.toArray⟩) (m := m) (n := 0) (by rw [hz1]; exact hd1) w hG hsz)
  generalize (⟨S1.toArray⟩ : ByteArray) = T1 at CE1 CD hT
  generalize (⟨S2.toArray⟩ : ByteArray) = T2 at CE2 hT
  have CS0 := fun ca cb w ha hb => rSame_any m m ca cb w ha hb
  simp only [eqM_self] at CS0
  have CS := Lib.hid CS0
  have hr7 := opN_range hq7
  have hr27 := opN_range hq27
  clear ek hMk hM2 he1 he2 hd1 hinj hmm hS hz1 hsz hln CS0
  go_enter Tryz.func7, Tryz.ntmps7
  go_wp2_with fail
  refine HK.out.mono ?_
  rintro r w1 ⟨rfl, hb1⟩
  have BA := Blk.new w1 44 #[.int .i64 1, .int .i64 3, .int .i64 4, .int .i64 5, .int .i64 6, .int .i64 7, .int .i64 8]
  have a1 : (w1.alloc (.cells #[.int .i64 1, .int .i64 3, .int .i64 4, .int .i64 5, .int .i64 6, .int .i64 7, .int .i64 8] 44)).cell? ⟨w1.heap.size, q, none⟩ = some (.int .i64 (opN q)) := (BA.cell q).trans (seven_at hq7)
  have BA3 := (BA.alloc (.cells kc 28)).alloc (.cells kc 28)
  have a2 : (((w1.alloc (.cells #[.int .i64 1, .int .i64 3, .int .i64 4, .int .i64 5, .int .i64 6, .int .i64 7, .int .i64 8] 44)).alloc (.cells kc 28)).alloc (.cells kc 28)).cell? ⟨w1.heap.size, q2, none⟩ = some (.int .i64 (opN q2)) := (BA3.cell q2).trans (seven_at hq27)
  have B12 := new2 w1 #[.int .i64 1, .int .i64 3, .int .i64 4, .int .i64 5, .int .i64 6, .int .i64 7, .int .i64 8] kc 44 28
  have B13 := new3 w1 #[.int .i64 1, .int .i64 3, .int .i64 4, .int .i64 5, .int .i64 6, .int .i64 7, .int .i64 8] kc kc 44 28 28
  have hg2 : (w1.alloc (.cells #[.int .i64 1, .int .i64 3, .int .i64 4, .int .i64 5, .int .i64 6, .int .i64 7, .int .i64 8] 44)).heap.size = w1.heap.size + 1 := by simp
  have hg3 : ((w1.alloc (.cells #[.int .i64 1, .int .i64 3, .int .i64 4, .int .i64 5, .int .i64 6, .int .i64 7, .int .i64 8] 44)).alloc (.cells kc 28)).heap.size = w1.heap.size + 2 := by simp
  have z2 := B13.frozen 2
  have z1 : (((w1.alloc (.cells #[.int .i64 1, .int .i64 3, .int .i64 4, .int .i64 5, .int .i64 6, .int .i64 7, .int .i64 8] 44)).alloc (.cells kc 28)).alloc (.cells kc 28)).cell? ⟨w1.heap.size + 2, 2, none⟩ = some (.int .i64 (opN q)) := (B13.cell 2).trans ((HMk.out w (fun _ => True)).g2.trans (by rw [href]))
  generalize hx1 : opN q = x1 at *
  generalize hx2 : opN q2 = x2 at *
  have hbW := three_below w1 #[.int .i64 1, .int .i64 3, .int .i64 4, .int .i64 5, .int .i64 6, .int .i64 7, .int .i64 8] kc (kc.setIfInBounds 2 (.int .i64 x2)) 44 28 28
  have B124 : Blk (((w1.alloc (.cells #[.int .i64 1, .int .i64 3, .int .i64 4, .int .i64 5, .int .i64 6, .int .i64 7, .int .i64 8] 44)).alloc (.cells kc 28)).alloc (.cells (kc.setIfInBounds 2 (.int .i64 x2)) 28)) (w1.heap.size + 1) 28 kc := B12.alloc _
  have B134 : Blk (((w1.alloc (.cells #[.int .i64 1, .int .i64 3, .int .i64 4, .int .i64 5, .int .i64 6, .int .i64 7, .int .i64 8] 44)).alloc (.cells kc 28)).alloc (.cells (kc.setIfInBounds 2 (.int .i64 x2)) 28)) (w1.heap.size + 2) 28 (kc.setIfInBounds 2 (.int .i64 x2)) := new3 w1 #[.int .i64 1, .int .i64 3, .int .i64 4, .int .i64 5, .int .i64 6, .int .i64 7, .int .i64 8] kc (kc.setIfInBounds 2 (.int .i64 x2)) 44 28 28
  have Hb4 := Lib.hid (hb1.trans (Below.mono (B' := w.heap.size) hbW hb1.size))
  have HB12 := Lib.hid (show Box (((w1.alloc (.cells #[.int .i64 1, .int .i64 3, .int .i64 4, .int .i64 5, .int .i64 6, .int .i64 7, .int .i64 8] 44)).alloc (.cells kc 28)).alloc (.cells (kc.setIfInBounds 2 (.int .i64 x2)) 28)) (w1.heap.size + 1) m kc from ⟨B124, HMk.out _ _⟩)
  have HB13 := Lib.hid (show Box (((w1.alloc (.cells #[.int .i64 1, .int .i64 3, .int .i64 4, .int .i64 5, .int .i64 6, .int .i64 7, .int .i64 8] 44)).alloc (.cells kc 28)).alloc (.cells (kc.setIfInBounds 2 (.int .i64 x2)) 28)) (w1.heap.size + 2) n (kc.setIfInBounds 2 (.int .i64 x2)) from ⟨B134, HMn.out _ _⟩)
  have HB2 := Lib.hid B12
  have Hhg2 := Lib.hid hg2
  have Hhg3 := Lib.hid hg3
  have Hx := Lib.hid (And.intro hx1 hx2)
  clear BA BA3 B12 B13 hbW hg2 hg3 B124 B134 hb1 hx1 hx2 href
  go_wp2_with (first | (refine wpList_gives rfl (.build 28 #[(0, .tmp 27), (1, .const (.int .i64 9)), (2, .tmp 31), (17, .tmp 34), (18, .tmp 35)]) rfl (.agg kc) (by rw [HEk.out]; kernel_rfl) ?_) | (refine wpList_mark (.store 28 (.tmp 12) (.tmp 36)) rfl ?_; refine wpList_store_row rfl 28 _ _ rfl (w1.heap.size + 1) kc rfl rfl 28 _ (heap_newE Hhg2.out) (by rw [infoM, (HMk.out w (fun _ => True)).size]) ?_ (HMk.out w (fun _ => True)).one ?_; exact Eq.trans rfl (HMk.out w (fun _ => True)).size.symm; rw [setRow_newE Hhg2.out]) | (refine wpList_mark (.store 28 (.tmp 13) (.tmp 37)) rfl ?_; refine wpList_store_row rfl 28 _ _ rfl (w1.heap.size + 2) kc rfl rfl 28 _ (heap_newE Hhg3.out) (by rw [infoM, (HMk.out w (fun _ => True)).size]) ?_ (HMk.out w (fun _ => True)).one ?_; exact Eq.trans rfl (HMk.out w (fun _ => True)).size.symm; rw [setRow_newE Hhg3.out]) | (refine wpList_mark (.load 28 (.tmp 12)) rfl ?_; refine wpList_loadG (by rfl) _ rfl (w1.heap.size + 1) rfl kc HB2.out (HMk.out w (fun _ => True)).size ?_) | (refine wpList_mark (.load 28 (.tmp 12)) rfl ?_; refine wpList_loadG (by rfl) _ rfl (w1.heap.size + 1) rfl kc HB12.out.1 HB12.out.2.size ?_))
  refine (CE1.out _ (HG.out.past Hb4.out) HB12.out.2).mono ?_
  rintro r w5 ⟨rfl, hc1⟩
  have HB12_1 := Lib.hid (HB12.out.past hc1)
  clear HB12
  have HB13_2 := Lib.hid (HB13.out.past hc1)
  clear HB13
  have Hb3 := Lib.hid (Hb4.out.trans (hc1.mono Hb4.out.size))
  clear Hb4
  clear hc1
  go_wp2_with (first | (refine wpList_mark (.load 28 (.tmp 13)) rfl ?_; refine wpList_loadG (by rfl) _ rfl (w1.heap.size + 2) rfl (kc.setIfInBounds 2 (.int .i64 x2)) HB13_2.out.1 HB13_2.out.2.size ?_))
  refine (CE2.out _ _ (HG.out.past Hb3.out) HB13_2.out.2).mono ?_
  rintro r w6 ⟨rfl, hc2⟩
  have HB12_4 := Lib.hid (HB12_1.out.past hc2)
  clear HB12_1
  have HB13_5 := Lib.hid (HB13_2.out.past hc2)
  clear HB13_2
  have Hb6 := Lib.hid (Hb3.out.trans (hc2.mono Hb3.out.size))
  clear Hb3
  clear hc2
  go_wp2_with fail
  refine (CD.out _ (HG.out.past Hb6.out)).mono ?_
  rintro r w7 ⟨c18, rfl, hc3, hM18⟩
  have HB12_7 := Lib.hid (HB12_4.out.past hc3)
  clear HB12_4
  have HB13_8 := Lib.hid (HB13_5.out.past hc3)
  clear HB13_5
  have Hb9 := Lib.hid (Hb6.out.trans (hc3.mono Hb6.out.size))
  clear Hb6
  clear hc3
  have hM18q := Lib.hid hM18
  have HB18_10 := Lib.hid (Box.new hM18)
  have hbA11 := (Below.refl (w7).heap.size (w7)).alloc (Nat.le_refl _) (.cells c18 28)
  have HB12_12 := Lib.hid (HB12_7.out.past hbA11)
  clear HB12_7
  have HB13_13 := Lib.hid (HB13_8.out.past hbA11)
  clear HB13_8
  have Hb14 := Lib.hid (Hb9.out.trans (hbA11.mono Hb9.out.size))
  clear Hb9
  clear hbA11
  clear hM18
  go_wp2_with (first | (refine wpList_mark (.store 28 (.tmp 18) (.tmp 56)) rfl ?_; refine wpList_store_row rfl 28 _ _ rfl (w7).heap.size c18 rfl rfl 28 _ (heap_alloc_new (w7) _) (by rw [infoM, hM18q.out.size]) ?_ hM18q.out.one ?_; exact Eq.trans rfl hM18q.out.size.symm; rw [World.setRow_alloc_new]) | (refine wpList_mark (.load 28 (.tmp 18)) rfl ?_; refine wpList_loadG (by rfl) _ rfl ((w7).heap.size) rfl c18 HB18_10.out.1 HB18_10.out.2.size ?_) | (refine wpList_mark (.load 28 (.tmp 12)) rfl ?_; refine wpList_loadG (by rfl) _ rfl (w1.heap.size + 1) rfl kc HB12_12.out.1 HB12_12.out.2.size ?_))
  refine (CS.out _ _ _ HB18_10.out.2 HB12_12.out.2).mono ?_
  rintro r w8 ⟨rfl, hc4⟩
  have HB12_15 := Lib.hid (HB12_12.out.past hc4)
  clear HB12_12
  have HB13_16 := Lib.hid (HB13_13.out.past hc4)
  clear HB13_13
  have HB18_17 := Lib.hid (HB18_10.out.past hc4)
  clear HB18_10
  have Hb18 := Lib.hid (Hb14.out.trans (hc4.mono Hb14.out.size))
  clear Hb14
  clear hc4
  cases bb <;>
  (go_wp2_with fail
   go_ret
   exact ⟨rfl, Hb18.out⟩)
end Go.Proofs.YtconghaebebncaaGreatDoor.Ms
