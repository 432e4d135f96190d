/- MsgSpoils: the walk. -/
import Derived.Test.YtconghaebebncaaGreatDoorMsKnown
import Derived.Test.YtconghaebebncaaGreatDoorMsLaw
import Derived.Test.YtconghaebebncaaGreatDoorMsFew
namespace Go.Proofs.YtconghaebebncaaGreatDoor.Ms
open Go.RowKit
set_option linter.unusedVariables false
set_option maxRecDepth 100000
attribute [local go_sem ↓] loadAtMsg

set_option maxHeartbeats 16000000 in
theorem spoils_some (w : World) (m : Mg) (cm : Array Value) (ha : MAt w (· < w.heap.size) m cm) (x : Int) (hx0 : 0 ≤ x) (hx1 : x ≤ 255) (hI : isM m = true) (hG : Glob w) :
    Calls Tryz.prog 6 #[.agg cm, .int .u8 x] w fun r w' => r = .returned (.bool true) ∧ Below w.heap.size w w' := by
  have Hr := Lib.hid (isM_ranges hI)
  have hg := ha
  have CJ0 := fun cs w h => Is_any m cs w h
  rw [hI] at CJ0
  have CJ := Lib.hid CJ0
  have HI := Lib.hid hI
  have HB2 := Lib.hid (Box.new ha)
  have Hb0 := Lib.hid ((Below.refl w.heap.size w).alloc (Nat.le_refl _) (.cells cm 28))
  have HG := Lib.hid hG
  have HK := Lib.hid (fun w hG => known_any w hG)
  have HF := Lib.hid (fun m cs w h => fewMsg_any m cs w h)
  have Hha := Lib.hid ha
  clear CJ0 hG ha hI hg
  go_enter Tryz.func6, Tryz.ntmps6
  go_wp2_with fail
  refine (HK.out _ (HG.out.past Hb0.out)).mono ?_
  rintro r w1 ⟨rfl, hk1⟩
  have HB2_1 := Lib.hid (HB2.out.past hk1)
  clear HB2
  have Hb2 := Lib.hid (Hb0.out.trans (hk1.mono Hb0.out.size))
  clear Hb0
  clear hk1
  go_wp2_with (first | (refine wpList_mark (.load 28 (.tmp 2)) rfl ?_; refine wpList_loadG (by rfl) _ rfl (w.heap.size) rfl cm HB2_1.out.1 HB2_1.out.2.size ?_))
  refine (HF.out m cm _ HB2_1.out.2).mono ?_
  rintro r w2 ⟨⟨b1, rfl⟩, hk2⟩
  have HB2_3 := Lib.hid (HB2_1.out.past hk2)
  clear HB2_1
  have Hb4 := Lib.hid (Hb2.out.trans (hk2.mono Hb2.out.size))
  clear Hb2
  clear hk2
  cases b1 with
  | false =>
    go_wp2_with fail
    go_ret
    exact ⟨rfl, Hb4.out⟩
  | true =>
    go_wp2_with (first | (refine wpList_mark (.load 28 (.tmp 2)) rfl ?_; refine wpList_loadG (by rfl) _ rfl (w.heap.size) rfl cm HB2_3.out.1 HB2_3.out.2.size ?_))
    refine (CJ.out cm _ HB2_3.out.2).mono ?_
    rintro r w3 ⟨rfl, hk3⟩
    have HB2_5 := Lib.hid (HB2_3.out.past hk3)
    clear HB2_3
    have Hb6 := Lib.hid (Hb4.out.trans (hk3.mono Hb4.out.size))
    clear Hb4
    clear hk3
    have hq2 := HB2_5
    have HMm := Lib.hid hq2.out.2
    have HB5 := Lib.hid (Blk.new w3 28 cm)
    rcases (by omega : x % 6 = 0 ∨ x % 6 = 1 ∨ x % 6 = 2 ∨ x % 6 = 3 ∨ x % 6 = 4 ∨ x % 6 = 5) with hx | hx | hx | hx | hx | hx
    · obtain ⟨⟨v0, v1⟩, ⟨s0, s1⟩, ⟨c0, c1⟩, z0⟩ := Hr.out
      have hn : isM ({ m with id := -1 }) = false := by
        cases h : isM ({ m with id := -1 }) with
        | false => rfl
        | true =>
          exfalso
          have h2 := isM_ranges h
          have h3 := isM_op h
          have h4 := (isM_open h).1
          simp only at h2 h3 h4
          omega
      have hne : eqM m ({ m with id := -1 }) = false := by
        cases h : eqM m ({ m with id := -1 }) with
        | false => rfl
        | true =>
          rw [← (eqM_eq _ _).1 h, HI.out] at hn
          cases hn
      have HL := Lib.hid (fun (w' : World) (P : Nat → Prop) (h : MAt w' P m cm) => show MAt w' P ({ m with id := -1 }) (cm.setIfInBounds 0 (.int .i64 (-1))) from MAt.set_id h (-1))
      have CE := Lib.hid (fun cs w => Encode_at (encM_bad2 hn) cs w)
      have CI0 := fun cs w h => Is_any ({ m with id := -1 }) cs w h
      have CS0 := fun ca cb w ha hb => Same_any m ({ m with id := -1 }) ca cb w ha hb
      rw [hn] at CI0
      rw [hne] at CS0
      have CI := Lib.hid CI0
      have CS := Lib.hid CS0
      generalize { m with id := -1 } = n at CE CI CS HL
      clear hn hne CI0 CS0
      have z1 : (w3.alloc (.cells cm 28)).cell? ⟨w3.heap.size, 0, none⟩ = some (.int .i64 m.id) := (HB5.out.cell 0).trans Hha.out.g0
      have z2 := HB5.out.frozen 0
      have HB5_7 := Lib.hid (Box.new (HL.out _ _ HMm.out))
      have hbA8 := (Below.refl (w3).heap.size (w3)).alloc (Nat.le_refl _) (.cells (cm.setIfInBounds 0 (.int .i64 (-1))) 28)
      have HB2_9 := Lib.hid (HB2_5.out.past hbA8)
      clear HB2_5
      have Hb10 := Lib.hid (Hb6.out.trans (hbA8.mono Hb6.out.size))
      clear Hb6
      clear hbA8
      go_wp2_with (first | (refine wpList_mark (.store 28 (.tmp 5) (.tmp 18)) rfl ?_; refine wpList_store_row rfl 28 _ _ rfl (w3).heap.size cm rfl rfl 28 _ (heap_alloc_new (w3) _) (by rw [infoM, HMm.out.size]) ?_ HMm.out.one ?_; exact Eq.trans rfl HMm.out.size.symm; rw [World.setRow_alloc_new]) | (refine wpList_mark (.load 28 (.tmp 2)) rfl ?_; refine wpList_loadG (by rfl) _ rfl (w.heap.size) rfl cm hq2.out.1 hq2.out.2.size ?_) | (refine wpList_mark (.load 28 (.tmp 2)) rfl ?_; refine wpList_loadG (by rfl) _ rfl (w.heap.size) rfl cm HB2_9.out.1 HB2_9.out.2.size ?_) | (refine wpList_mark (.load 28 (.tmp 5)) rfl ?_; refine wpList_loadG (by rfl) _ rfl ((w3).heap.size) rfl (cm.setIfInBounds 0 (.int .i64 (-1))) HB5_7.out.1 HB5_7.out.2.size ?_))
      refine (CE.out _ _ (HG.out.past Hb10.out) HB5_7.out.2).mono ?_
      rintro r w4 ⟨rfl, hk4⟩
      have HB2_11 := Lib.hid (HB2_9.out.past hk4)
      clear HB2_9
      have HB5_12 := Lib.hid (HB5_7.out.past hk4)
      clear HB5_7
      have Hb13 := Lib.hid (Hb10.out.trans (hk4.mono Hb10.out.size))
      clear Hb10
      clear hk4
      go_wp2_with (first | (refine wpList_mark (.load 28 (.tmp 5)) rfl ?_; refine wpList_loadG (by rfl) _ rfl ((w3).heap.size) rfl (cm.setIfInBounds 0 (.int .i64 (-1))) HB5_12.out.1 HB5_12.out.2.size ?_))
      refine (CI.out _ _ HB5_12.out.2).mono ?_
      rintro r w5 ⟨rfl, hk5⟩
      have HB2_14 := Lib.hid (HB2_11.out.past hk5)
      clear HB2_11
      have HB5_15 := Lib.hid (HB5_12.out.past hk5)
      clear HB5_12
      have Hb16 := Lib.hid (Hb13.out.trans (hk5.mono Hb13.out.size))
      clear Hb13
      clear hk5
      go_wp2_with (first | (refine wpList_mark (.load 28 (.tmp 2)) rfl ?_; refine wpList_loadG (by rfl) _ rfl (w.heap.size) rfl cm HB2_14.out.1 HB2_14.out.2.size ?_) | (refine wpList_mark (.load 28 (.tmp 5)) rfl ?_; refine wpList_loadG (by rfl) _ rfl ((w3).heap.size) rfl (cm.setIfInBounds 0 (.int .i64 (-1))) HB5_15.out.1 HB5_15.out.2.size ?_))
      refine (CS.out _ _ _ HB2_14.out.2 HB5_15.out.2).mono ?_
      rintro r w6 ⟨rfl, hk6⟩
      have HB2_17 := Lib.hid (HB2_14.out.past hk6)
      clear HB2_14
      have HB5_18 := Lib.hid (HB5_15.out.past hk6)
      clear HB5_15
      have Hb19 := Lib.hid (Hb16.out.trans (hk6.mono Hb16.out.size))
      clear Hb16
      clear hk6
      go_wp2_with (first | (refine wpList_mark (.load 28 (.tmp 2)) rfl ?_; refine wpList_loadG (by rfl) _ rfl (w.heap.size) rfl cm HB2_17.out.1 HB2_17.out.2.size ?_))
      refine (CJ.out cm _ HB2_17.out.2).mono ?_
      rintro r w7 ⟨rfl, hk7⟩
      have HB2_20 := Lib.hid (HB2_17.out.past hk7)
      clear HB2_17
      have HB5_21 := Lib.hid (HB5_18.out.past hk7)
      clear HB5_18
      have Hb22 := Lib.hid (Hb19.out.trans (hk7.mono Hb19.out.size))
      clear Hb19
      clear hk7
      go_wp2_with fail
      go_ret
      exact ⟨rfl, Hb22.out⟩
    · obtain ⟨⟨v0, v1⟩, ⟨s0, s1⟩, ⟨c0, c1⟩, z0⟩ := Hr.out
      have hn : isM ({ m with op := 11 }) = false := by
        cases h : isM ({ m with op := 11 }) with
        | false => rfl
        | true =>
          exfalso
          have h2 := isM_ranges h
          have h3 := isM_op h
          have h4 := (isM_open h).1
          simp only at h2 h3 h4
          omega
      have hne : eqM m ({ m with op := 11 }) = false := by
        cases h : eqM m ({ m with op := 11 }) with
        | false => rfl
        | true =>
          rw [← (eqM_eq _ _).1 h, HI.out] at hn
          cases hn
      have HL := Lib.hid (fun (w' : World) (P : Nat → Prop) (h : MAt w' P m cm) => show MAt w' P ({ m with op := 11 }) (cm.setIfInBounds 1 (.int .i64 11)) from MAt.set_op h 11)
      have CE := Lib.hid (fun cs w => Encode_at (encM_bad2 hn) cs w)
      have CI0 := fun cs w h => Is_any ({ m with op := 11 }) cs w h
      have CS0 := fun ca cb w ha hb => Same_any m ({ m with op := 11 }) ca cb w ha hb
      rw [hn] at CI0
      rw [hne] at CS0
      have CI := Lib.hid CI0
      have CS := Lib.hid CS0
      generalize { m with op := 11 } = n at CE CI CS HL
      clear hn hne CI0 CS0
      have z1 : (w3.alloc (.cells cm 28)).cell? ⟨w3.heap.size, 1, none⟩ = some (.int .i64 m.op) := (HB5.out.cell 1).trans Hha.out.g1
      have z2 := HB5.out.frozen 1
      have HB5_7 := Lib.hid (Box.new (HL.out _ _ HMm.out))
      have hbA8 := (Below.refl (w3).heap.size (w3)).alloc (Nat.le_refl _) (.cells (cm.setIfInBounds 1 (.int .i64 11)) 28)
      have HB2_9 := Lib.hid (HB2_5.out.past hbA8)
      clear HB2_5
      have Hb10 := Lib.hid (Hb6.out.trans (hbA8.mono Hb6.out.size))
      clear Hb6
      clear hbA8
      go_wp2_with (first | (refine wpList_mark (.store 28 (.tmp 5) (.tmp 18)) rfl ?_; refine wpList_store_row rfl 28 _ _ rfl (w3).heap.size cm rfl rfl 28 _ (heap_alloc_new (w3) _) (by rw [infoM, HMm.out.size]) ?_ HMm.out.one ?_; exact Eq.trans rfl HMm.out.size.symm; rw [World.setRow_alloc_new]) | (refine wpList_mark (.load 28 (.tmp 2)) rfl ?_; refine wpList_loadG (by rfl) _ rfl (w.heap.size) rfl cm hq2.out.1 hq2.out.2.size ?_) | (refine wpList_mark (.load 28 (.tmp 2)) rfl ?_; refine wpList_loadG (by rfl) _ rfl (w.heap.size) rfl cm HB2_9.out.1 HB2_9.out.2.size ?_) | (refine wpList_mark (.load 28 (.tmp 5)) rfl ?_; refine wpList_loadG (by rfl) _ rfl ((w3).heap.size) rfl (cm.setIfInBounds 1 (.int .i64 11)) HB5_7.out.1 HB5_7.out.2.size ?_))
      refine (CE.out _ _ (HG.out.past Hb10.out) HB5_7.out.2).mono ?_
      rintro r w4 ⟨rfl, hk4⟩
      have HB2_11 := Lib.hid (HB2_9.out.past hk4)
      clear HB2_9
      have HB5_12 := Lib.hid (HB5_7.out.past hk4)
      clear HB5_7
      have Hb13 := Lib.hid (Hb10.out.trans (hk4.mono Hb10.out.size))
      clear Hb10
      clear hk4
      go_wp2_with (first | (refine wpList_mark (.load 28 (.tmp 5)) rfl ?_; refine wpList_loadG (by rfl) _ rfl ((w3).heap.size) rfl (cm.setIfInBounds 1 (.int .i64 11)) HB5_12.out.1 HB5_12.out.2.size ?_))
      refine (CI.out _ _ HB5_12.out.2).mono ?_
      rintro r w5 ⟨rfl, hk5⟩
      have HB2_14 := Lib.hid (HB2_11.out.past hk5)
      clear HB2_11
      have HB5_15 := Lib.hid (HB5_12.out.past hk5)
      clear HB5_12
      have Hb16 := Lib.hid (Hb13.out.trans (hk5.mono Hb13.out.size))
      clear Hb13
      clear hk5
      go_wp2_with (first | (refine wpList_mark (.load 28 (.tmp 2)) rfl ?_; refine wpList_loadG (by rfl) _ rfl (w.heap.size) rfl cm HB2_14.out.1 HB2_14.out.2.size ?_) | (refine wpList_mark (.load 28 (.tmp 5)) rfl ?_; refine wpList_loadG (by rfl) _ rfl ((w3).heap.size) rfl (cm.setIfInBounds 1 (.int .i64 11)) HB5_15.out.1 HB5_15.out.2.size ?_))
      refine (CS.out _ _ _ HB2_14.out.2 HB5_15.out.2).mono ?_
      rintro r w6 ⟨rfl, hk6⟩
      have HB2_17 := Lib.hid (HB2_14.out.past hk6)
      clear HB2_14
      have HB5_18 := Lib.hid (HB5_15.out.past hk6)
      clear HB5_15
      have Hb19 := Lib.hid (Hb16.out.trans (hk6.mono Hb16.out.size))
      clear Hb16
      clear hk6
      go_wp2_with (first | (refine wpList_mark (.load 28 (.tmp 2)) rfl ?_; refine wpList_loadG (by rfl) _ rfl (w.heap.size) rfl cm HB2_17.out.1 HB2_17.out.2.size ?_))
      refine (CJ.out cm _ HB2_17.out.2).mono ?_
      rintro r w7 ⟨rfl, hk7⟩
      have HB2_20 := Lib.hid (HB2_17.out.past hk7)
      clear HB2_17
      have HB5_21 := Lib.hid (HB5_18.out.past hk7)
      clear HB5_18
      have Hb22 := Lib.hid (Hb19.out.trans (hk7.mono Hb19.out.size))
      clear Hb19
      clear hk7
      go_wp2_with fail
      go_ret
      exact ⟨rfl, Hb22.out⟩
    · obtain ⟨⟨v0, v1⟩, ⟨s0, s1⟩, ⟨c0, c1⟩, z0⟩ := Hr.out
      have hn : isM ({ m with ver := m.ver + 128 }) = false := by
        cases h : isM ({ m with ver := m.ver + 128 }) with
        | false => rfl
        | true =>
          exfalso
          have h2 := isM_ranges h
          have h3 := isM_op h
          have h4 := (isM_open h).1
          simp only at h2 h3 h4
          omega
      have hne : eqM m ({ m with ver := m.ver + 128 }) = false := by
        cases h : eqM m ({ m with ver := m.ver + 128 }) with
        | false => rfl
        | true =>
          rw [← (eqM_eq _ _).1 h, HI.out] at hn
          cases hn
      have HL := Lib.hid (fun (w' : World) (P : Nat → Prop) (h : MAt w' P m cm) => show MAt w' P ({ m with ver := m.ver + 128 }) (cm.setIfInBounds 4 (.int .i64 (m.ver + 128))) from MAt.set_ver h (m.ver + 128))
      have CE := Lib.hid (fun cs w => Encode_at (encM_bad2 hn) cs w)
      have CI0 := fun cs w h => Is_any ({ m with ver := m.ver + 128 }) cs w h
      have CS0 := fun ca cb w ha hb => Same_any m ({ m with ver := m.ver + 128 }) ca cb w ha hb
      rw [hn] at CI0
      rw [hne] at CS0
      have CI := Lib.hid CI0
      have CS := Lib.hid CS0
      generalize { m with ver := m.ver + 128 } = n at CE CI CS HL
      clear hn hne CI0 CS0
      have z1 : (w3.alloc (.cells cm 28)).cell? ⟨w3.heap.size, 4, none⟩ = some (.int .i64 m.ver) := (HB5.out.cell 4).trans Hha.out.g4
      have z2 := HB5.out.frozen 4
      have HB5_7 := Lib.hid (Box.new (HL.out _ _ HMm.out))
      have hbA8 := (Below.refl (w3).heap.size (w3)).alloc (Nat.le_refl _) (.cells (cm.setIfInBounds 4 (.int .i64 (m.ver + 128))) 28)
      have HB2_9 := Lib.hid (HB2_5.out.past hbA8)
      clear HB2_5
      have Hb10 := Lib.hid (Hb6.out.trans (hbA8.mono Hb6.out.size))
      clear Hb6
      clear hbA8
      go_wp2_with (first | (refine wpList_mark (.store 28 (.tmp 5) (.tmp 18)) rfl ?_; refine wpList_store_row rfl 28 _ _ rfl (w3).heap.size cm rfl rfl 28 _ (heap_alloc_new (w3) _) (by rw [infoM, HMm.out.size]) ?_ HMm.out.one ?_; exact Eq.trans rfl HMm.out.size.symm; rw [World.setRow_alloc_new]) | (refine wpList_mark (.load 28 (.tmp 2)) rfl ?_; refine wpList_loadG (by rfl) _ rfl (w.heap.size) rfl cm hq2.out.1 hq2.out.2.size ?_) | (refine wpList_mark (.load 28 (.tmp 2)) rfl ?_; refine wpList_loadG (by rfl) _ rfl (w.heap.size) rfl cm HB2_9.out.1 HB2_9.out.2.size ?_) | (refine wpList_mark (.load 28 (.tmp 5)) rfl ?_; refine wpList_loadG (by rfl) _ rfl ((w3).heap.size) rfl (cm.setIfInBounds 4 (.int .i64 (m.ver + 128))) HB5_7.out.1 HB5_7.out.2.size ?_))
      refine (CE.out _ _ (HG.out.past Hb10.out) HB5_7.out.2).mono ?_
      rintro r w4 ⟨rfl, hk4⟩
      have HB2_11 := Lib.hid (HB2_9.out.past hk4)
      clear HB2_9
      have HB5_12 := Lib.hid (HB5_7.out.past hk4)
      clear HB5_7
      have Hb13 := Lib.hid (Hb10.out.trans (hk4.mono Hb10.out.size))
      clear Hb10
      clear hk4
      go_wp2_with (first | (refine wpList_mark (.load 28 (.tmp 5)) rfl ?_; refine wpList_loadG (by rfl) _ rfl ((w3).heap.size) rfl (cm.setIfInBounds 4 (.int .i64 (m.ver + 128))) HB5_12.out.1 HB5_12.out.2.size ?_))
      refine (CI.out _ _ HB5_12.out.2).mono ?_
      rintro r w5 ⟨rfl, hk5⟩
      have HB2_14 := Lib.hid (HB2_11.out.past hk5)
      clear HB2_11
      have HB5_15 := Lib.hid (HB5_12.out.past hk5)
      clear HB5_12
      have Hb16 := Lib.hid (Hb13.out.trans (hk5.mono Hb13.out.size))
      clear Hb13
      clear hk5
      go_wp2_with (first | (refine wpList_mark (.load 28 (.tmp 2)) rfl ?_; refine wpList_loadG (by rfl) _ rfl (w.heap.size) rfl cm HB2_14.out.1 HB2_14.out.2.size ?_) | (refine wpList_mark (.load 28 (.tmp 5)) rfl ?_; refine wpList_loadG (by rfl) _ rfl ((w3).heap.size) rfl (cm.setIfInBounds 4 (.int .i64 (m.ver + 128))) HB5_15.out.1 HB5_15.out.2.size ?_))
      refine (CS.out _ _ _ HB2_14.out.2 HB5_15.out.2).mono ?_
      rintro r w6 ⟨rfl, hk6⟩
      have HB2_17 := Lib.hid (HB2_14.out.past hk6)
      clear HB2_14
      have HB5_18 := Lib.hid (HB5_15.out.past hk6)
      clear HB5_15
      have Hb19 := Lib.hid (Hb16.out.trans (hk6.mono Hb16.out.size))
      clear Hb16
      clear hk6
      go_wp2_with (first | (refine wpList_mark (.load 28 (.tmp 2)) rfl ?_; refine wpList_loadG (by rfl) _ rfl (w.heap.size) rfl cm HB2_17.out.1 HB2_17.out.2.size ?_))
      refine (CJ.out cm _ HB2_17.out.2).mono ?_
      rintro r w7 ⟨rfl, hk7⟩
      have HB2_20 := Lib.hid (HB2_17.out.past hk7)
      clear HB2_17
      have HB5_21 := Lib.hid (HB5_18.out.past hk7)
      clear HB5_18
      have Hb22 := Lib.hid (Hb19.out.trans (hk7.mono Hb19.out.size))
      clear Hb19
      clear hk7
      go_wp2_with fail
      go_ret
      exact ⟨rfl, Hb22.out⟩
    · obtain ⟨⟨v0, v1⟩, ⟨s0, s1⟩, ⟨c0, c1⟩, z0⟩ := Hr.out
      have hn : isM ({ m with scope := 3 }) = false := by
        cases h : isM ({ m with scope := 3 }) with
        | false => rfl
        | true =>
          exfalso
          have h2 := isM_ranges h
          have h3 := isM_op h
          have h4 := (isM_open h).1
          simp only at h2 h3 h4
          omega
      have hne : eqM m ({ m with scope := 3 }) = false := by
        cases h : eqM m ({ m with scope := 3 }) with
        | false => rfl
        | true =>
          rw [← (eqM_eq _ _).1 h, HI.out] at hn
          cases hn
      have HL := Lib.hid (fun (w' : World) (P : Nat → Prop) (h : MAt w' P m cm) => show MAt w' P ({ m with scope := 3 }) (cm.setIfInBounds 6 (.int .i64 3)) from MAt.set_scope h 3)
      have CE := Lib.hid (fun cs w => Encode_at (encM_bad2 hn) cs w)
      have CI0 := fun cs w h => Is_any ({ m with scope := 3 }) cs w h
      have CS0 := fun ca cb w ha hb => Same_any m ({ m with scope := 3 }) ca cb w ha hb
      rw [hn] at CI0
      rw [hne] at CS0
      have CI := Lib.hid CI0
      have CS := Lib.hid CS0
      generalize { m with scope := 3 } = n at CE CI CS HL
      clear hn hne CI0 CS0
      have z1 : (w3.alloc (.cells cm 28)).cell? ⟨w3.heap.size, 6, none⟩ = some (.int .i64 m.scope) := (HB5.out.cell 6).trans Hha.out.g6
      have z2 := HB5.out.frozen 6
      have HB5_7 := Lib.hid (Box.new (HL.out _ _ HMm.out))
      have hbA8 := (Below.refl (w3).heap.size (w3)).alloc (Nat.le_refl _) (.cells (cm.setIfInBounds 6 (.int .i64 3)) 28)
      have HB2_9 := Lib.hid (HB2_5.out.past hbA8)
      clear HB2_5
      have Hb10 := Lib.hid (Hb6.out.trans (hbA8.mono Hb6.out.size))
      clear Hb6
      clear hbA8
      go_wp2_with (first | (refine wpList_mark (.store 28 (.tmp 5) (.tmp 18)) rfl ?_; refine wpList_store_row rfl 28 _ _ rfl (w3).heap.size cm rfl rfl 28 _ (heap_alloc_new (w3) _) (by rw [infoM, HMm.out.size]) ?_ HMm.out.one ?_; exact Eq.trans rfl HMm.out.size.symm; rw [World.setRow_alloc_new]) | (refine wpList_mark (.load 28 (.tmp 2)) rfl ?_; refine wpList_loadG (by rfl) _ rfl (w.heap.size) rfl cm hq2.out.1 hq2.out.2.size ?_) | (refine wpList_mark (.load 28 (.tmp 2)) rfl ?_; refine wpList_loadG (by rfl) _ rfl (w.heap.size) rfl cm HB2_9.out.1 HB2_9.out.2.size ?_) | (refine wpList_mark (.load 28 (.tmp 5)) rfl ?_; refine wpList_loadG (by rfl) _ rfl ((w3).heap.size) rfl (cm.setIfInBounds 6 (.int .i64 3)) HB5_7.out.1 HB5_7.out.2.size ?_))
      refine (CE.out _ _ (HG.out.past Hb10.out) HB5_7.out.2).mono ?_
      rintro r w4 ⟨rfl, hk4⟩
      have HB2_11 := Lib.hid (HB2_9.out.past hk4)
      clear HB2_9
      have HB5_12 := Lib.hid (HB5_7.out.past hk4)
      clear HB5_7
      have Hb13 := Lib.hid (Hb10.out.trans (hk4.mono Hb10.out.size))
      clear Hb10
      clear hk4
      go_wp2_with (first | (refine wpList_mark (.load 28 (.tmp 5)) rfl ?_; refine wpList_loadG (by rfl) _ rfl ((w3).heap.size) rfl (cm.setIfInBounds 6 (.int .i64 3)) HB5_12.out.1 HB5_12.out.2.size ?_))
      refine (CI.out _ _ HB5_12.out.2).mono ?_
      rintro r w5 ⟨rfl, hk5⟩
      have HB2_14 := Lib.hid (HB2_11.out.past hk5)
      clear HB2_11
      have HB5_15 := Lib.hid (HB5_12.out.past hk5)
      clear HB5_12
      have Hb16 := Lib.hid (Hb13.out.trans (hk5.mono Hb13.out.size))
      clear Hb13
      clear hk5
      go_wp2_with (first | (refine wpList_mark (.load 28 (.tmp 2)) rfl ?_; refine wpList_loadG (by rfl) _ rfl (w.heap.size) rfl cm HB2_14.out.1 HB2_14.out.2.size ?_) | (refine wpList_mark (.load 28 (.tmp 5)) rfl ?_; refine wpList_loadG (by rfl) _ rfl ((w3).heap.size) rfl (cm.setIfInBounds 6 (.int .i64 3)) HB5_15.out.1 HB5_15.out.2.size ?_))
      refine (CS.out _ _ _ HB2_14.out.2 HB5_15.out.2).mono ?_
      rintro r w6 ⟨rfl, hk6⟩
      have HB2_17 := Lib.hid (HB2_14.out.past hk6)
      clear HB2_14
      have HB5_18 := Lib.hid (HB5_15.out.past hk6)
      clear HB5_15
      have Hb19 := Lib.hid (Hb16.out.trans (hk6.mono Hb16.out.size))
      clear Hb16
      clear hk6
      go_wp2_with (first | (refine wpList_mark (.load 28 (.tmp 2)) rfl ?_; refine wpList_loadG (by rfl) _ rfl (w.heap.size) rfl cm HB2_17.out.1 HB2_17.out.2.size ?_))
      refine (CJ.out cm _ HB2_17.out.2).mono ?_
      rintro r w7 ⟨rfl, hk7⟩
      have HB2_20 := Lib.hid (HB2_17.out.past hk7)
      clear HB2_17
      have HB5_21 := Lib.hid (HB5_18.out.past hk7)
      clear HB5_18
      have Hb22 := Lib.hid (Hb19.out.trans (hk7.mono Hb19.out.size))
      clear Hb19
      clear hk7
      go_wp2_with fail
      go_ret
      exact ⟨rfl, Hb22.out⟩
    · obtain ⟨⟨v0, v1⟩, ⟨s0, s1⟩, ⟨c0, c1⟩, z0⟩ := Hr.out
      have hn : isM ({ m with code := m.code + 128 }) = false := by
        cases h : isM ({ m with code := m.code + 128 }) with
        | false => rfl
        | true =>
          exfalso
          have h2 := isM_ranges h
          have h3 := isM_op h
          have h4 := (isM_open h).1
          simp only at h2 h3 h4
          omega
      have hne : eqM m ({ m with code := m.code + 128 }) = false := by
        cases h : eqM m ({ m with code := m.code + 128 }) with
        | false => rfl
        | true =>
          rw [← (eqM_eq _ _).1 h, HI.out] at hn
          cases hn
      have HL := Lib.hid (fun (w' : World) (P : Nat → Prop) (h : MAt w' P m cm) => show MAt w' P ({ m with code := m.code + 128 }) (cm.setIfInBounds 21 (.int .i64 (m.code + 128))) from MAt.set_code h (m.code + 128))
      have CE := Lib.hid (fun cs w => Encode_at (encM_bad2 hn) cs w)
      have CI0 := fun cs w h => Is_any ({ m with code := m.code + 128 }) cs w h
      have CS0 := fun ca cb w ha hb => Same_any m ({ m with code := m.code + 128 }) ca cb w ha hb
      rw [hn] at CI0
      rw [hne] at CS0
      have CI := Lib.hid CI0
      have CS := Lib.hid CS0
      generalize { m with code := m.code + 128 } = n at CE CI CS HL
      clear hn hne CI0 CS0
      have z1 : (w3.alloc (.cells cm 28)).cell? ⟨w3.heap.size, 21, none⟩ = some (.int .i64 m.code) := (HB5.out.cell 21).trans Hha.out.g21
      have z2 := HB5.out.frozen 21
      have HB5_7 := Lib.hid (Box.new (HL.out _ _ HMm.out))
      have hbA8 := (Below.refl (w3).heap.size (w3)).alloc (Nat.le_refl _) (.cells (cm.setIfInBounds 21 (.int .i64 (m.code + 128))) 28)
      have HB2_9 := Lib.hid (HB2_5.out.past hbA8)
      clear HB2_5
      have Hb10 := Lib.hid (Hb6.out.trans (hbA8.mono Hb6.out.size))
      clear Hb6
      clear hbA8
      go_wp2_with (first | (refine wpList_mark (.store 28 (.tmp 5) (.tmp 18)) rfl ?_; refine wpList_store_row rfl 28 _ _ rfl (w3).heap.size cm rfl rfl 28 _ (heap_alloc_new (w3) _) (by rw [infoM, HMm.out.size]) ?_ HMm.out.one ?_; exact Eq.trans rfl HMm.out.size.symm; rw [World.setRow_alloc_new]) | (refine wpList_mark (.load 28 (.tmp 2)) rfl ?_; refine wpList_loadG (by rfl) _ rfl (w.heap.size) rfl cm hq2.out.1 hq2.out.2.size ?_) | (refine wpList_mark (.load 28 (.tmp 2)) rfl ?_; refine wpList_loadG (by rfl) _ rfl (w.heap.size) rfl cm HB2_9.out.1 HB2_9.out.2.size ?_) | (refine wpList_mark (.load 28 (.tmp 5)) rfl ?_; refine wpList_loadG (by rfl) _ rfl ((w3).heap.size) rfl (cm.setIfInBounds 21 (.int .i64 (m.code + 128))) HB5_7.out.1 HB5_7.out.2.size ?_))
      refine (CE.out _ _ (HG.out.past Hb10.out) HB5_7.out.2).mono ?_
      rintro r w4 ⟨rfl, hk4⟩
      have HB2_11 := Lib.hid (HB2_9.out.past hk4)
      clear HB2_9
      have HB5_12 := Lib.hid (HB5_7.out.past hk4)
      clear HB5_7
      have Hb13 := Lib.hid (Hb10.out.trans (hk4.mono Hb10.out.size))
      clear Hb10
      clear hk4
      go_wp2_with (first | (refine wpList_mark (.load 28 (.tmp 5)) rfl ?_; refine wpList_loadG (by rfl) _ rfl ((w3).heap.size) rfl (cm.setIfInBounds 21 (.int .i64 (m.code + 128))) HB5_12.out.1 HB5_12.out.2.size ?_))
      refine (CI.out _ _ HB5_12.out.2).mono ?_
      rintro r w5 ⟨rfl, hk5⟩
      have HB2_14 := Lib.hid (HB2_11.out.past hk5)
      clear HB2_11
      have HB5_15 := Lib.hid (HB5_12.out.past hk5)
      clear HB5_12
      have Hb16 := Lib.hid (Hb13.out.trans (hk5.mono Hb13.out.size))
      clear Hb13
      clear hk5
      go_wp2_with (first | (refine wpList_mark (.load 28 (.tmp 2)) rfl ?_; refine wpList_loadG (by rfl) _ rfl (w.heap.size) rfl cm HB2_14.out.1 HB2_14.out.2.size ?_) | (refine wpList_mark (.load 28 (.tmp 5)) rfl ?_; refine wpList_loadG (by rfl) _ rfl ((w3).heap.size) rfl (cm.setIfInBounds 21 (.int .i64 (m.code + 128))) HB5_15.out.1 HB5_15.out.2.size ?_))
      refine (CS.out _ _ _ HB2_14.out.2 HB5_15.out.2).mono ?_
      rintro r w6 ⟨rfl, hk6⟩
      have HB2_17 := Lib.hid (HB2_14.out.past hk6)
      clear HB2_14
      have HB5_18 := Lib.hid (HB5_15.out.past hk6)
      clear HB5_15
      have Hb19 := Lib.hid (Hb16.out.trans (hk6.mono Hb16.out.size))
      clear Hb16
      clear hk6
      go_wp2_with (first | (refine wpList_mark (.load 28 (.tmp 2)) rfl ?_; refine wpList_loadG (by rfl) _ rfl (w.heap.size) rfl cm HB2_17.out.1 HB2_17.out.2.size ?_))
      refine (CJ.out cm _ HB2_17.out.2).mono ?_
      rintro r w7 ⟨rfl, hk7⟩
      have HB2_20 := Lib.hid (HB2_17.out.past hk7)
      clear HB2_17
      have HB5_21 := Lib.hid (HB5_18.out.past hk7)
      clear HB5_18
      have Hb22 := Lib.hid (Hb19.out.trans (hk7.mono Hb19.out.size))
      clear Hb19
      clear hk7
      go_wp2_with fail
      go_ret
      exact ⟨rfl, Hb22.out⟩
    · obtain ⟨⟨v0, v1⟩, ⟨s0, s1⟩, ⟨c0, c1⟩, z0⟩ := Hr.out
      have hn : isM ({ m with size := -1 }) = false := by
        cases h : isM ({ m with size := -1 }) with
        | false => rfl
        | true =>
          exfalso
          have h2 := isM_ranges h
          have h3 := isM_op h
          have h4 := (isM_open h).1
          simp only at h2 h3 h4
          omega
      have hne : eqM m ({ m with size := -1 }) = false := by
        cases h : eqM m ({ m with size := -1 }) with
        | false => rfl
        | true =>
          rw [← (eqM_eq _ _).1 h, HI.out] at hn
          cases hn
      have HL := Lib.hid (fun (w' : World) (P : Nat → Prop) (h : MAt w' P m cm) => show MAt w' P ({ m with size := -1 }) (cm.setIfInBounds 7 (.int .i64 (-1))) from MAt.set_size h (-1))
      have CE := Lib.hid (fun cs w => Encode_at (encM_bad2 hn) cs w)
      have CI0 := fun cs w h => Is_any ({ m with size := -1 }) cs w h
      have CS0 := fun ca cb w ha hb => Same_any m ({ m with size := -1 }) ca cb w ha hb
      rw [hn] at CI0
      rw [hne] at CS0
      have CI := Lib.hid CI0
      have CS := Lib.hid CS0
      generalize { m with size := -1 } = n at CE CI CS HL
      clear hn hne CI0 CS0
      have z1 : (w3.alloc (.cells cm 28)).cell? ⟨w3.heap.size, 7, none⟩ = some (.int .i64 m.size) := (HB5.out.cell 7).trans Hha.out.g7
      have z2 := HB5.out.frozen 7
      have HB5_7 := Lib.hid (Box.new (HL.out _ _ HMm.out))
      have hbA8 := (Below.refl (w3).heap.size (w3)).alloc (Nat.le_refl _) (.cells (cm.setIfInBounds 7 (.int .i64 (-1))) 28)
      have HB2_9 := Lib.hid (HB2_5.out.past hbA8)
      clear HB2_5
      have Hb10 := Lib.hid (Hb6.out.trans (hbA8.mono Hb6.out.size))
      clear Hb6
      clear hbA8
      go_wp2_with (first | (refine wpList_mark (.store 28 (.tmp 5) (.tmp 18)) rfl ?_; refine wpList_store_row rfl 28 _ _ rfl (w3).heap.size cm rfl rfl 28 _ (heap_alloc_new (w3) _) (by rw [infoM, HMm.out.size]) ?_ HMm.out.one ?_; exact Eq.trans rfl HMm.out.size.symm; rw [World.setRow_alloc_new]) | (refine wpList_mark (.load 28 (.tmp 2)) rfl ?_; refine wpList_loadG (by rfl) _ rfl (w.heap.size) rfl cm hq2.out.1 hq2.out.2.size ?_) | (refine wpList_mark (.load 28 (.tmp 2)) rfl ?_; refine wpList_loadG (by rfl) _ rfl (w.heap.size) rfl cm HB2_9.out.1 HB2_9.out.2.size ?_) | (refine wpList_mark (.load 28 (.tmp 5)) rfl ?_; refine wpList_loadG (by rfl) _ rfl ((w3).heap.size) rfl (cm.setIfInBounds 7 (.int .i64 (-1))) HB5_7.out.1 HB5_7.out.2.size ?_))
      refine (CE.out _ _ (HG.out.past Hb10.out) HB5_7.out.2).mono ?_
      rintro r w4 ⟨rfl, hk4⟩
      have HB2_11 := Lib.hid (HB2_9.out.past hk4)
      clear HB2_9
      have HB5_12 := Lib.hid (HB5_7.out.past hk4)
      clear HB5_7
      have Hb13 := Lib.hid (Hb10.out.trans (hk4.mono Hb10.out.size))
      clear Hb10
      clear hk4
      go_wp2_with (first | (refine wpList_mark (.load 28 (.tmp 5)) rfl ?_; refine wpList_loadG (by rfl) _ rfl ((w3).heap.size) rfl (cm.setIfInBounds 7 (.int .i64 (-1))) HB5_12.out.1 HB5_12.out.2.size ?_))
      refine (CI.out _ _ HB5_12.out.2).mono ?_
      rintro r w5 ⟨rfl, hk5⟩
      have HB2_14 := Lib.hid (HB2_11.out.past hk5)
      clear HB2_11
      have HB5_15 := Lib.hid (HB5_12.out.past hk5)
      clear HB5_12
      have Hb16 := Lib.hid (Hb13.out.trans (hk5.mono Hb13.out.size))
      clear Hb13
      clear hk5
      go_wp2_with (first | (refine wpList_mark (.load 28 (.tmp 2)) rfl ?_; refine wpList_loadG (by rfl) _ rfl (w.heap.size) rfl cm HB2_14.out.1 HB2_14.out.2.size ?_) | (refine wpList_mark (.load 28 (.tmp 5)) rfl ?_; refine wpList_loadG (by rfl) _ rfl ((w3).heap.size) rfl (cm.setIfInBounds 7 (.int .i64 (-1))) HB5_15.out.1 HB5_15.out.2.size ?_))
      refine (CS.out _ _ _ HB2_14.out.2 HB5_15.out.2).mono ?_
      rintro r w6 ⟨rfl, hk6⟩
      have HB2_17 := Lib.hid (HB2_14.out.past hk6)
      clear HB2_14
      have HB5_18 := Lib.hid (HB5_15.out.past hk6)
      clear HB5_15
      have Hb19 := Lib.hid (Hb16.out.trans (hk6.mono Hb16.out.size))
      clear Hb16
      clear hk6
      go_wp2_with (first | (refine wpList_mark (.load 28 (.tmp 2)) rfl ?_; refine wpList_loadG (by rfl) _ rfl (w.heap.size) rfl cm HB2_17.out.1 HB2_17.out.2.size ?_))
      refine (CJ.out cm _ HB2_17.out.2).mono ?_
      rintro r w7 ⟨rfl, hk7⟩
      have HB2_20 := Lib.hid (HB2_17.out.past hk7)
      clear HB2_17
      have HB5_21 := Lib.hid (HB5_18.out.past hk7)
      clear HB5_18
      have Hb22 := Lib.hid (Hb19.out.trans (hk7.mono Hb19.out.size))
      clear Hb19
      clear hk7
      go_wp2_with fail
      go_ret
      exact ⟨rfl, Hb22.out⟩
set_option maxHeartbeats 8000000 in
theorem spoils_none (w : World) (m : Mg) (cm : Array Value) (ha : MAt w (· < w.heap.size) m cm) (x : Int) (hI : isM m = false) (hG : Glob w) :
    Calls Tryz.prog 6 #[.agg cm, .int .u8 x] w fun r w' => r = .returned (.bool true) ∧ Below w.heap.size w w' := by
  have CJ0 := fun cs w h => Is_any m cs w h
  rw [hI] at CJ0
  have CJ := Lib.hid CJ0
  have HB2 := Lib.hid (Box.new ha)
  have Hb0 := Lib.hid ((Below.refl w.heap.size w).alloc (Nat.le_refl _) (.cells cm 28))
  have HG := Lib.hid hG
  have HK := Lib.hid (fun w hG => known_any w hG)
  have HF := Lib.hid (fun m cs w h => fewMsg_any m cs w h)
  clear CJ0 hG ha hI
  go_enter Tryz.func6, Tryz.ntmps6
  go_wp2_with fail
  refine (HK.out _ (HG.out.past Hb0.out)).mono ?_
  rintro r w1 ⟨rfl, hk1⟩
  have HB2_1 := Lib.hid (HB2.out.past hk1)
  clear HB2
  have Hb2 := Lib.hid (Hb0.out.trans (hk1.mono Hb0.out.size))
  clear Hb0
  clear hk1
  go_wp2_with (first | (refine wpList_mark (.load 28 (.tmp 2)) rfl ?_; refine wpList_loadG (by rfl) _ rfl (w.heap.size) rfl cm HB2_1.out.1 HB2_1.out.2.size ?_))
  refine (HF.out m cm _ HB2_1.out.2).mono ?_
  rintro r w2 ⟨⟨b1, rfl⟩, hk2⟩
  have HB2_3 := Lib.hid (HB2_1.out.past hk2)
  clear HB2_1
  have Hb4 := Lib.hid (Hb2.out.trans (hk2.mono Hb2.out.size))
  clear Hb2
  clear hk2
  cases b1 with
  | false =>
    go_wp2_with fail
    go_ret
    exact ⟨rfl, Hb4.out⟩
  | true =>
    go_wp2_with (first | (refine wpList_mark (.load 28 (.tmp 2)) rfl ?_; refine wpList_loadG (by rfl) _ rfl (w.heap.size) rfl cm HB2_3.out.1 HB2_3.out.2.size ?_))
    refine (CJ.out cm _ HB2_3.out.2).mono ?_
    rintro r w3 ⟨rfl, hk3⟩
    have HB2_5 := Lib.hid (HB2_3.out.past hk3)
    clear HB2_3
    have Hb6 := Lib.hid (Hb4.out.trans (hk3.mono Hb4.out.size))
    clear Hb4
    clear hk3
    go_wp2_with fail
    go_ret
    exact ⟨rfl, Hb6.out⟩
theorem walk_MsgSpoils (w : World) (m : Mg) (cm : Array Value) (ha : MAt w (· < w.heap.size) m cm) (x : Int) (hx : (Lit.int .u8 x).wf = true) (hG : Glob w) :
    Calls Tryz.prog 6 #[.agg cm, .int .u8 x] w fun r w' => r = .returned (.bool true) ∧ Below w.heap.size w w' := by
  obtain ⟨x0, x1⟩ := wf8 hx
  cases hI : isM m with
  | false => exact spoils_none w m cm ha x hI hG
  | true => exact spoils_some w m cm ha x x0 x1 hI hG
end Go.Proofs.YtconghaebebncaaGreatDoor.Ms
