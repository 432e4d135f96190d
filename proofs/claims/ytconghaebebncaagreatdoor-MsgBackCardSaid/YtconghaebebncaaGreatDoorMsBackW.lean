/- MsgBack: the walk. -/
import Derived.Test.YtconghaebebncaaGreatDoorMsKnown
import Derived.Test.YtconghaebebncaaGreatDoorMsLaw
import Derived.Test.YtconghaebebncaaGreatDoorMsFew
namespace Go.Proofs.YtconghaebebncaaGreatDoor.Ms
open Go.RowKit
set_option linter.unusedVariables false
set_option maxRecDepth 100000
attribute [local go_sem ↓] loadAtMsg

theorem str_eqT {S T : List UInt8} : ((⟨S.toArray⟩ : ByteArray).toList == (⟨T.toArray⟩ : ByteArray).toList) = decide (S = T) := by
  rw [Fi.toList_eq]
  refine decide_eq_decide.2 ⟨fun h => ?_, fun h => by rw [h]⟩
  have h2 : (⟨S.toArray⟩ : ByteArray).data.toList = (⟨T.toArray⟩ : ByteArray).data.toList := by rw [h]
  simpa using h2
set_option maxHeartbeats 8000000 in
theorem walk_MsgBack (w : World) (m : Mg) (cm : Array Value) (ha : MAt w (· < w.heap.size) m cm) (n : Mg) (cn : Array Value) (hb : MAt w (· < w.heap.size) n cn) (hG : Glob w) :
    Calls Tryz.prog 4 #[.agg cm, .agg cn] w fun r w' => r = .returned (.bool true) ∧ Below w.heap.size w w' := by
  obtain ⟨T1, T2, T3⟩ := Two.new ha hb
  have HB2 := Lib.hid T1
  have HB3 := Lib.hid T2
  have Hb0 := Lib.hid T3
  have HG := Lib.hid hG
  clear T1 T2 T3 hG ha hb
  have HK := Lib.hid (fun w hG => known_any w hG)
  have HF := Lib.hid (fun m cs w h => fewMsg_any m cs w h)
  cases hE : encM m with
  | mk S E =>
  by_cases hE0 : E = 0
  · subst hE0
    have hln := encM_len hE
    have hsz : (⟨S.toArray⟩ : ByteArray).size ≤ 1099511627776 := by
      show S.toArray.size ≤ _
      simp only [List.size_toArray]
      omega
    have CE1 := Lib.hid (fun cs w => Encode_at hE cs w)
    have CD := Lib.hid (fun w hG => Decode_at (s := ⟨S.toArray⟩) (m := m) (n := 0) (by rw [show (⟨S.toArray⟩ : ByteArray).data.toList = S by simp]; exact dec_enc hE) w hG hsz)
    have CS0 := fun ca cb w ha hb => rSame_any m m ca cb w ha hb
    simp only [eqM_self] at CS0
    have CS := Lib.hid CS0
    have CM := Lib.hid (fun ca cb w ha hb => rSame_any m n ca cb w ha hb)
    cases hF' : encM n with
    | mk T F =>
    have CE2 := Lib.hid (fun cs w => Encode_at hF' cs w)
    have hT : F = 0 → ((⟨S.toArray⟩ : ByteArray).toList == (⟨T.toArray⟩ : ByteArray).toList) = eqM m n := by
      rintro rfl
      rw [str_eqT, Bool.eq_iff_iff, decide_eq_true_eq, eqM_eq]
      exact enc_inj hE hF'
    have HT := Lib.hid hT
    generalize (⟨S.toArray⟩ : ByteArray) = S1 at CE1 CD HT
    generalize (⟨T.toArray⟩ : ByteArray) = T1 at CE2 HT
    clear CS0 hT hE hF' hln hsz
    go_enter Tryz.func4, Tryz.ntmps4
    go_wp2_with fail
    refine (HK.out _ (HG.out.past Hb0.out)).mono ?_
    rintro r w1 ⟨rfl, hk1⟩
    have HB2_1 := Lib.hid (HB2.out.past hk1)
    clear HB2
    have HB3_2 := Lib.hid (HB3.out.past hk1)
    clear HB3
    have Hb3 := Lib.hid (Hb0.out.trans (hk1.mono Hb0.out.size))
    clear Hb0
    clear hk1
    go_wp2_with (first | (refine wpList_mark (.load 28 (.tmp 2)) rfl ?_; refine wpList_loadG (by rfl) _ rfl (w.heap.size) rfl cm HB2_1.out.1 HB2_1.out.2.size ?_))
    refine (HF.out m cm _ HB2_1.out.2).mono ?_
    rintro r w2 ⟨⟨b1, rfl⟩, hk2⟩
    have HB2_4 := Lib.hid (HB2_1.out.past hk2)
    clear HB2_1
    have HB3_5 := Lib.hid (HB3_2.out.past hk2)
    clear HB3_2
    have Hb6 := Lib.hid (Hb3.out.trans (hk2.mono Hb3.out.size))
    clear Hb3
    clear hk2
    cases b1 with
    | false =>
      go_wp2_with fail
      go_ret
      exact ⟨rfl, Hb6.out⟩
    | true =>
      go_wp2_with (first | (refine wpList_mark (.load 28 (.tmp 3)) rfl ?_; refine wpList_loadG (by rfl) _ rfl (w.heap.size + 1) rfl cn HB3_5.out.1 HB3_5.out.2.size ?_))
      refine (HF.out n cn _ HB3_5.out.2).mono ?_
      rintro r w3 ⟨⟨b2, rfl⟩, hk3⟩
      have HB2_7 := Lib.hid (HB2_4.out.past hk3)
      clear HB2_4
      have HB3_8 := Lib.hid (HB3_5.out.past hk3)
      clear HB3_5
      have Hb9 := Lib.hid (Hb6.out.trans (hk3.mono Hb6.out.size))
      clear Hb6
      clear hk3
      cases b2 with
      | false =>
        go_wp2_with fail
        go_ret
        exact ⟨rfl, Hb9.out⟩
      | true =>
        go_wp2_with (first | (refine wpList_mark (.load 28 (.tmp 2)) rfl ?_; refine wpList_loadG (by rfl) _ rfl (w.heap.size) rfl cm HB2_7.out.1 HB2_7.out.2.size ?_))
        refine (CE1.out cm _ (HG.out.past Hb9.out) HB2_7.out.2).mono ?_
        rintro r w4 ⟨rfl, hk4⟩
        have HB2_10 := Lib.hid (HB2_7.out.past hk4)
        clear HB2_7
        have HB3_11 := Lib.hid (HB3_8.out.past hk4)
        clear HB3_8
        have Hb12 := Lib.hid (Hb9.out.trans (hk4.mono Hb9.out.size))
        clear Hb9
        clear hk4
        go_wp2_with (first | (refine wpList_mark (.load 28 (.tmp 3)) rfl ?_; refine wpList_loadG (by rfl) _ rfl (w.heap.size + 1) rfl cn HB3_11.out.1 HB3_11.out.2.size ?_))
        refine (CE2.out cn _ (HG.out.past Hb12.out) HB3_11.out.2).mono ?_
        rintro r w5 ⟨rfl, hk5⟩
        have HB2_13 := Lib.hid (HB2_10.out.past hk5)
        clear HB2_10
        have HB3_14 := Lib.hid (HB3_11.out.past hk5)
        clear HB3_11
        have Hb15 := Lib.hid (Hb12.out.trans (hk5.mono Hb12.out.size))
        clear Hb12
        clear hk5
        go_wp2_with fail
        refine (CD.out _ (HG.out.past Hb15.out)).mono ?_
        rintro r w6 ⟨c9, rfl, hk6, hM9⟩
        have HB2_16 := Lib.hid (HB2_13.out.past hk6)
        clear HB2_13
        have HB3_17 := Lib.hid (HB3_14.out.past hk6)
        clear HB3_14
        have Hb18 := Lib.hid (Hb15.out.trans (hk6.mono Hb15.out.size))
        clear Hb15
        clear hk6
        have hM9q := Lib.hid hM9
        have HB9_19 := Lib.hid (Box.new hM9)
        have hbA20 := (Below.refl (w6).heap.size (w6)).alloc (Nat.le_refl _) (.cells c9 28)
        have HB2_21 := Lib.hid (HB2_16.out.past hbA20)
        clear HB2_16
        have HB3_22 := Lib.hid (HB3_17.out.past hbA20)
        clear HB3_17
        have Hb23 := Lib.hid (Hb18.out.trans (hbA20.mono Hb18.out.size))
        clear Hb18
        clear hbA20
        clear hM9
        go_wp2_with (first | (refine wpList_mark (.store 28 (.tmp 9) (.tmp 38)) rfl ?_; refine wpList_store_row rfl 28 _ _ rfl (w6).heap.size c9 rfl rfl 28 _ (heap_alloc_new (w6) _) (by rw [infoM, hM9q.out.size]) ?_ hM9q.out.one ?_; exact Eq.trans rfl hM9q.out.size.symm; rw [World.setRow_alloc_new]) | (refine wpList_mark (.load 28 (.tmp 2)) rfl ?_; refine wpList_loadG (by rfl) _ rfl (w.heap.size) rfl cm HB2_21.out.1 HB2_21.out.2.size ?_) | (refine wpList_mark (.load 28 (.tmp 9)) rfl ?_; refine wpList_loadG (by rfl) _ rfl ((w6).heap.size) rfl c9 HB9_19.out.1 HB9_19.out.2.size ?_))
        refine (CS.out _ _ _ HB2_21.out.2 HB9_19.out.2).mono ?_
        rintro r w7 ⟨rfl, hk7⟩
        have HB2_24 := Lib.hid (HB2_21.out.past hk7)
        clear HB2_21
        have HB3_25 := Lib.hid (HB3_22.out.past hk7)
        clear HB3_22
        have HB9_26 := Lib.hid (HB9_19.out.past hk7)
        clear HB9_19
        have Hb27 := Lib.hid (Hb23.out.trans (hk7.mono Hb23.out.size))
        clear Hb23
        clear hk7
        by_cases hF0 : F = 0
        · have hT2 := HT.out hF0
          subst hF0
          generalize eqM m n = bb at hT2 CM
          go_wp2_with (first | (refine wpList_mark (.load 28 (.tmp 2)) rfl ?_; refine wpList_loadG (by rfl) _ rfl (w.heap.size) rfl cm HB2_24.out.1 HB2_24.out.2.size ?_) | (refine wpList_mark (.load 28 (.tmp 3)) rfl ?_; refine wpList_loadG (by rfl) _ rfl (w.heap.size + 1) rfl cn HB3_25.out.1 HB3_25.out.2.size ?_))
          refine (CM.out _ _ _ HB2_24.out.2 HB3_25.out.2).mono ?_
          rintro r w8 ⟨rfl, hk8⟩
          have HB2_28 := Lib.hid (HB2_24.out.past hk8)
          clear HB2_24
          have HB3_29 := Lib.hid (HB3_25.out.past hk8)
          clear HB3_25
          have HB9_30 := Lib.hid (HB9_26.out.past hk8)
          clear HB9_26
          have Hb31 := Lib.hid (Hb27.out.trans (hk8.mono Hb27.out.size))
          clear Hb27
          clear hk8
          cases bb <;>
          (go_wp2_with fail
           go_ret
           exact ⟨rfl, Hb31.out⟩)
        · have hF1 : ((F : Int) != 0) = true := by rw [bne_iff_ne]; omega
          have hF2 : ((F : Int) == 0) = false := by rw [beq_eq_false_iff_ne]; omega
          clear hF0
          go_wp2_with fail
          go_ret
          exact ⟨rfl, Hb27.out⟩
  · have hS : S = [] := by have := encM_bad (m := m) (by rw [hE]; exact hE0); rw [hE] at this; exact this
    subst hS
    have CE1 := Lib.hid (fun cs w => Encode_at hE cs w)
    have hE1 : ((E : Int) != 0) = true := by rw [bne_iff_ne]; omega
    clear hE hE0
    go_enter Tryz.func4, Tryz.ntmps4
    go_wp2_with fail
    refine (HK.out _ (HG.out.past Hb0.out)).mono ?_
    rintro r w1 ⟨rfl, hk1⟩
    have HB2_1 := Lib.hid (HB2.out.past hk1)
    clear HB2
    have HB3_2 := Lib.hid (HB3.out.past hk1)
    clear HB3
    have Hb3 := Lib.hid (Hb0.out.trans (hk1.mono Hb0.out.size))
    clear Hb0
    clear hk1
    go_wp2_with (first | (refine wpList_mark (.load 28 (.tmp 2)) rfl ?_; refine wpList_loadG (by rfl) _ rfl (w.heap.size) rfl cm HB2_1.out.1 HB2_1.out.2.size ?_))
    refine (HF.out m cm _ HB2_1.out.2).mono ?_
    rintro r w2 ⟨⟨b1, rfl⟩, hk2⟩
    have HB2_4 := Lib.hid (HB2_1.out.past hk2)
    clear HB2_1
    have HB3_5 := Lib.hid (HB3_2.out.past hk2)
    clear HB3_2
    have Hb6 := Lib.hid (Hb3.out.trans (hk2.mono Hb3.out.size))
    clear Hb3
    clear hk2
    cases b1 with
    | false =>
      go_wp2_with fail
      go_ret
      exact ⟨rfl, Hb6.out⟩
    | true =>
      go_wp2_with (first | (refine wpList_mark (.load 28 (.tmp 3)) rfl ?_; refine wpList_loadG (by rfl) _ rfl (w.heap.size + 1) rfl cn HB3_5.out.1 HB3_5.out.2.size ?_))
      refine (HF.out n cn _ HB3_5.out.2).mono ?_
      rintro r w3 ⟨⟨b2, rfl⟩, hk3⟩
      have HB2_7 := Lib.hid (HB2_4.out.past hk3)
      clear HB2_4
      have HB3_8 := Lib.hid (HB3_5.out.past hk3)
      clear HB3_5
      have Hb9 := Lib.hid (Hb6.out.trans (hk3.mono Hb6.out.size))
      clear Hb6
      clear hk3
      cases b2 with
      | false =>
        go_wp2_with fail
        go_ret
        exact ⟨rfl, Hb9.out⟩
      | true =>
        go_wp2_with (first | (refine wpList_mark (.load 28 (.tmp 2)) rfl ?_; refine wpList_loadG (by rfl) _ rfl (w.heap.size) rfl cm HB2_7.out.1 HB2_7.out.2.size ?_))
        refine (CE1.out cm _ (HG.out.past Hb9.out) HB2_7.out.2).mono ?_
        rintro r w4 ⟨rfl, hk4⟩
        have HB2_10 := Lib.hid (HB2_7.out.past hk4)
        clear HB2_7
        have HB3_11 := Lib.hid (HB3_8.out.past hk4)
        clear HB3_8
        have Hb12 := Lib.hid (Hb9.out.trans (hk4.mono Hb9.out.size))
        clear Hb9
        clear hk4
        go_wp2_with fail
        go_ret
        exact ⟨rfl, Hb12.out⟩
end Go.Proofs.YtconghaebebncaaGreatDoor.Ms
