/- MsgSearches: the walk. -/
import Derived.Test.YtconghaebebncaaGreatDoorMsKnown
import Derived.Test.YtconghaebebncaaGreatDoorMsSea
namespace Go.Proofs.YtconghaebebncaaGreatDoor.Ms
open Go.RowKit
set_option linter.unusedVariables false
set_option maxRecDepth 100000
attribute [local go_sem ↓] loadAtMsg

set_option maxHeartbeats 8000000 in
theorem walk_MsgSearches (w : World) (base : ByteArray) (hb : base.size ≤ maxLen) (scope : Int) (hsc : (Lit.int .u8 scope).wf = true) (size : Int) (hsz : (Lit.int .u16 size).wf = true)
    (l : List ByteArray) (A : Option Addr) (c : Nat) (hlc : l.length ≤ c) (hl : l.length ≤ maxLen) (hls : ∀ s ∈ l, s.size ≤ maxLen) (hA : Fi.StrsAt w (· < w.heap.size) A l) (v : ByteArray) (hv : v.size ≤ maxLen) (hG : Glob w) :
    Calls Tryz.prog 8 #[.string base, .int .u8 scope, .int .u16 size, .slice A l.length c, .string v] w fun r w' => r = .returned (.bool true) ∧ Below w.heap.size w w' := by
  obtain ⟨s0, s1⟩ := wf8 hsc
  obtain ⟨z0, z1⟩ := wf16 hsz
  have HK := Lib.hid (known_any w hG)
  have HG := Lib.hid hG
  have HA := Lib.hid hA
  have HLS := Lib.hid hls
  clear hsc hsz hG hA hls
  unfold maxLen at hb hl hv
  rcases (by omega : 400 < (base.size : Int) ∨ ((base.size : Int) ≤ 400 ∧ 12 < (l.length : Int)) ∨ ((base.size : Int) ≤ 400 ∧ (l.length : Int) ≤ 12 ∧ 60 < (v.size : Int)) ∨ ((base.size : Int) ≤ 400 ∧ (l.length : Int) ≤ 12 ∧ (v.size : Int) ≤ 60)) with q0 | ⟨q0, q1⟩ | ⟨q0, q1, q2⟩ | ⟨q0, q1, q2⟩
  · go_enter Tryz.func8, Tryz.ntmps8
    go_wp2_with fail
    refine HK.out.mono ?_
    rintro r w1 ⟨rfl, hb1⟩
    go_wp2_with fail
    go_ret
    exact ⟨rfl, hb1⟩
  · go_enter Tryz.func8, Tryz.ntmps8
    go_wp2_with fail
    refine HK.out.mono ?_
    rintro r w1 ⟨rfl, hb1⟩
    go_wp2_with fail
    go_ret
    exact ⟨rfl, hb1⟩
  · go_enter Tryz.func8, Tryz.ntmps8
    go_wp2_with fail
    refine HK.out.mono ?_
    rintro r w1 ⟨rfl, hb1⟩
    go_wp2_with fail
    go_ret
    exact ⟨rfl, hb1⟩
  obtain ⟨s3, hs3, hs30, hs31⟩ : ∃ s3 : Int, scope % 3 = s3 ∧ 0 ≤ s3 ∧ s3 ≤ 2 := ⟨scope % 3, rfl, by omega, by omega⟩
  go_enter Tryz.func8, Tryz.ntmps8
  go_wp2_with fail
  refine HK.out.mono ?_
  rintro r w1 ⟨rfl, hb1⟩
  have Hb1 := Lib.hid hb1
  have HA1 := Lib.hid (HA.out.imp (w' := w1) (P' := (· < w1.heap.size)) (fun _ h => Nat.lt_of_lt_of_le h hb1.size) (fun p hp => hb1.cell hp))
  clear hb1 HA HK
  go_wp2_with fail
  go_loopw [11] (fun i wr => ∃ q : Nat, q ≤ l.length ∧ i = .int .i64 q ∧ Hid (∀ s ∈ l.take q, s.size ≤ 100) ∧ wr = w1) (fun i wr => l.length - (intOf i).toNat)
  case atStart => exact ⟨0, Nat.zero_le _, rfl, (by show ∀ s ∈ l.take 0, _; simp), rfl⟩
  case round =>
    obtain ⟨q, hq, rfl, hT, rfl⟩ := hrel
    by_cases hlt : q < l.length
    · obtain ⟨ad, rfl, hp, hcc⟩ := HA1.out (by omega)
      have f0 := hcc q hlt
      have hst : l.take (q + 1) = l.take q ++ [l[q]] := by simp
      generalize l[q] = s at f0 hst
      have HST := Lib.hid hst
      clear hcc hst
      by_cases h100 : 100 < (s.size : Int)
      · go_wp2_with fail
        go_ret
        exact ⟨rfl, Hb1.out⟩
      · have h100' : (s.size : Int) ≤ 100 := by omega
        clear h100
        go_wp2_with fail
        refine ⟨⟨q + 1, by omega, by go_num, ?_, trivial⟩, by simp [intOf]; omega⟩
        show ∀ x ∈ l.take (q + 1), _
        rw [HST.out]
        intro x hx
        rcases List.mem_append.1 hx with hx | hx
        · exact hT.out x hx
        · obtain rfl := List.mem_singleton.1 hx
          omega
    · obtain rfl : q = l.length := by omega
      have hall : ∀ s ∈ l, s.size ≤ 100 := by have := hT.out; rwa [List.take_length] at this
      have he1 := sea_enc (base := base) (size := size) (v := v) (wants := l) (by omega) hs30 hs31 z0 z1 (by omega) (by omega) hall
      have hi1 := sea_is (base := base) (size := size) (v := v) (wants := l) (by omega) hs30 hs31 z0 z1 (by omega) (by omega) hall
      obtain ⟨kc, ek, hMk⟩ := sea_cells base s3 size v l A c wr.heap.size (by unfold maxLen; omega) (by unfold maxLen; omega) (by unfold maxLen; omega) hlc HLS.out
      have hln := encM_len he1
      have hfil : (seaM base s3 size v l).fil = seaF v := rfl
      generalize seaM base s3 size v l = m at he1 hi1 hMk hln hfil
      generalize Be.enc (msgEl m) = S at he1 hln
      have hszS : (⟨S.toArray⟩ : ByteArray).size ≤ 1099511627776 := by
        show S.toArray.size ≤ _
        simp only [List.size_toArray]
        omega
      have CE1 := Lib.hid (fun cs w => Encode_at he1 cs w)
      have CD := Lib.hid (fun w hG => Decode_at (s := ⟨S.toArray⟩) (m := m) (n := 0) (by rw [show (⟨S.toArray⟩ : ByteArray).data.toList = S by simp]; exact dec_enc he1) w hG hszS)
      generalize (⟨S.toArray⟩ : ByteArray) = S1 at CE1 CD
      have CS0 := fun ca cb w ha hb => rSame_any m m ca cb w ha hb
      simp only [eqM_self] at CS0
      have CS := Lib.hid CS0
      have CI0 := fun cs w h => Is_any m cs w h
      rw [hi1] at CI0
      have CI := Lib.hid CI0
      have Hfil := Lib.hid hfil
      have HEk := Lib.hid ek
      have BL := ((Blk.new wr 25 #[.int .i64 4, .string ⟨#[99, 110]⟩, .string v, .slice none 0 0, .slice none 0 0]).alloc (.cells #[.int .i64 3, .string ⟨#[]⟩, .string ⟨#[]⟩, .slice none 0 0, .slice (some ⟨wr.heap.size, 0, none⟩) 1 1] 25)).alloc (.cells kc 28)
      have B13 := new3 wr #[.int .i64 4, .string ⟨#[99, 110]⟩, .string v, .slice none 0 0, .slice none 0 0] #[.int .i64 3, .string ⟨#[]⟩, .string ⟨#[]⟩, .slice none 0 0, .slice (some ⟨wr.heap.size, 0, none⟩) 1 1] kc 25 25 28
      have hbW := three_below wr #[.int .i64 4, .string ⟨#[99, 110]⟩, .string v, .slice none 0 0, .slice none 0 0] #[.int .i64 3, .string ⟨#[]⟩, .string ⟨#[]⟩, .slice none 0 0, .slice (some ⟨wr.heap.size, 0, none⟩) 1 1] kc 25 25 28
      have hMc := hMk (((wr.alloc (.cells #[.int .i64 4, .string ⟨#[99, 110]⟩, .string v, .slice none 0 0, .slice none 0 0] 25)).alloc (.cells #[.int .i64 3, .string ⟨#[]⟩, .string ⟨#[]⟩, .slice none 0 0, .slice (some ⟨wr.heap.size, 0, none⟩) 1 1] 25)).alloc (.cells kc 28)) (sea_fil (by unfold maxLen; omega) BL) (HA1.out.imp (fun _ h => Nat.lt_of_lt_of_le h hbW.size) (fun p hp => hbW.cell hp))
      have Hhg := Lib.hid (show ((wr.alloc (.cells #[.int .i64 4, .string ⟨#[99, 110]⟩, .string v, .slice none 0 0, .slice none 0 0] 25)).alloc (.cells #[.int .i64 3, .string ⟨#[]⟩, .string ⟨#[]⟩, .slice none 0 0, .slice (some ⟨wr.heap.size, 0, none⟩) 1 1] 25)).heap.size = wr.heap.size + 2 by simp)
      have HMc := Lib.hid hMc
      have HB13 := Lib.hid (show Box (((wr.alloc (.cells #[.int .i64 4, .string ⟨#[99, 110]⟩, .string v, .slice none 0 0, .slice none 0 0] 25)).alloc (.cells #[.int .i64 3, .string ⟨#[]⟩, .string ⟨#[]⟩, .slice none 0 0, .slice (some ⟨wr.heap.size, 0, none⟩) 1 1] 25)).alloc (.cells kc 28)) (wr.heap.size + 2) m kc from ⟨B13, hMc⟩)
      have HbS := Lib.hid (Hb1.out.trans (Below.mono (B' := w.heap.size) hbW Hb1.out.size))
      have hvv : (v.toList == v.toList) = true := by rw [Fi.toList_eq]; simp
      clear BL B13 hbW hMc ek hMk he1 hi1 hln hszS CS0 CI0 hfil hall hT hlt
      go_wp2_with (first | (refine wpList_gives rfl (.build 28 #[(0, .const (.int .i64 7)), (1, .const (.int .i64 3)), (3, .tmp 49), (6, .tmp 52), (7, .tmp 54), (8, .tmp 55), (9, .tmp 56)]) rfl (.agg kc) (by rw [HEk.out]; kernel_rfl) ?_) | (refine wpList_mark (.store 28 (.tmp 13) (.tmp 57)) rfl ?_; refine wpList_store_row rfl 28 _ _ rfl (wr.heap.size + 2) kc rfl rfl 28 _ (heap_newE Hhg.out) (by rw [infoM, HMc.out.size]) ?_ HMc.out.one ?_; exact Eq.trans rfl HMc.out.size.symm; rw [setRow_newE Hhg.out]) | (refine wpList_mark (.load 28 (.tmp 13)) rfl ?_; refine wpList_loadG (by rfl) _ rfl (wr.heap.size + 2) rfl kc HB13.out.1 HB13.out.2.size ?_))
      refine (CE1.out _ _ (HG.out.past HbS.out) HB13.out.2).mono ?_
      rintro r w2 ⟨rfl, hk1⟩
      have HB13_1 := Lib.hid (HB13.out.past hk1)
      clear HB13
      have Hb2 := Lib.hid (HbS.out.trans (hk1.mono HbS.out.size))
      clear HbS
      clear hk1
      go_wp2_with fail
      refine (CD.out _ (HG.out.past Hb2.out)).mono ?_
      rintro r w3 ⟨c16, rfl, hk2, hM16⟩
      have HB13_3 := Lib.hid (HB13_1.out.past hk2)
      clear HB13_1
      have Hb4 := Lib.hid (Hb2.out.trans (hk2.mono Hb2.out.size))
      clear Hb2
      clear hk2
      have hM16q := Lib.hid hM16
      have HB16_5 := Lib.hid (Box.new hM16)
      have hbA6 := (Below.refl (w3).heap.size (w3)).alloc (Nat.le_refl _) (.cells c16 28)
      have HB13_7 := Lib.hid (HB13_3.out.past hbA6)
      clear HB13_3
      have Hb8 := Lib.hid (Hb4.out.trans (hbA6.mono Hb4.out.size))
      clear Hb4
      clear hbA6
      clear hM16
      go_wp2_with (first | (refine wpList_mark (.store 28 (.tmp 16) (.tmp 66)) rfl ?_; refine wpList_store_row rfl 28 _ _ rfl (w3).heap.size c16 rfl rfl 28 _ (heap_alloc_new (w3) _) (by rw [infoM, hM16q.out.size]) ?_ hM16q.out.one ?_; exact Eq.trans rfl hM16q.out.size.symm; rw [World.setRow_alloc_new]) | (refine wpList_mark (.load 28 (.tmp 16)) rfl ?_; refine wpList_loadG (by rfl) _ rfl ((w3).heap.size) rfl c16 HB16_5.out.1 HB16_5.out.2.size ?_) | (refine wpList_mark (.load 28 (.tmp 13)) rfl ?_; refine wpList_loadG (by rfl) _ rfl (wr.heap.size + 2) rfl kc HB13_7.out.1 HB13_7.out.2.size ?_))
      refine (CS.out _ _ _ HB16_5.out.2 HB13_7.out.2).mono ?_
      rintro r w4 ⟨rfl, hk3⟩
      have HB13_9 := Lib.hid (HB13_7.out.past hk3)
      clear HB13_7
      have HB16_10 := Lib.hid (HB16_5.out.past hk3)
      clear HB16_5
      have Hb11 := Lib.hid (Hb8.out.trans (hk3.mono Hb8.out.size))
      clear Hb8
      clear hk3
      obtain ⟨x0, x1, x2, x3, x4, hF, e0, e1, e2, e3, e4⟩ := HB16_10.out.loadF
      rw [Hfil.out] at hF
      obtain ⟨T0, tc, A2, c2, ds2, hcs2, _, _, _, _, _, _, _, _, hK2⟩ := Fi.Lies.open_ (show Fi.Lies w4 (· < w4.heap.size) (.mk 3 no no [] [leafF v]) _ from hF)
      simp only [List.cons.injEq, and_true] at hcs2
      obtain ⟨rfl, rfl, rfl, rfl, rfl⟩ := hcs2
      obtain ⟨ad, k', a', v', T', m', d', Q, n', e', rfl, hp, f0, f1, f2, f3, f4, hLk⟩ := hK2.kid (Below.refl _ _) (i := 0) (by simp)
      obtain ⟨T3, tc3, A3, c3, ds3, hcs3, _⟩ := Fi.Lies.open_ (show Fi.Lies w4 (· < w4.heap.size) (.mk 4 cnB v [] []) _ from hLk)
      simp only [List.cons.injEq, and_true, Value.int.injEq, Value.string.injEq, Value.slice.injEq, true_and] at hcs3
      obtain ⟨-, -, hv3, _⟩ := hcs3
      rw [Nat.zero_mul, hv3] at f2
      have f2' : w4.cell? ⟨ad.block, ad.off + 2, none⟩ = some (.string v) := f2
      have e4' : w4.cell? ⟨w3.heap.size, 12, none⟩ = some (.slice (some ad) 1 c2) := e4
      clear f0 f1 f2 f3 f4 e0 e1 e2 e3 e4 hLk hK2 hF
      go_wp2_with (first | (refine wpList_mark (.load 28 (.tmp 13)) rfl ?_; refine wpList_loadG (by rfl) _ rfl (wr.heap.size + 2) rfl kc HB13_9.out.1 HB13_9.out.2.size ?_))
      refine (CI.out _ _ HB13_9.out.2).mono ?_
      rintro r w5 ⟨rfl, hk4⟩
      have HB13_12 := Lib.hid (HB13_9.out.past hk4)
      clear HB13_9
      have HB16_13 := Lib.hid (HB16_10.out.past hk4)
      clear HB16_10
      have Hb14 := Lib.hid (Hb11.out.trans (hk4.mono Hb11.out.size))
      clear Hb11
      clear hk4
      go_wp2_with fail
      go_ret
      exact ⟨rfl, Hb14.out⟩
end Go.Proofs.YtconghaebebncaaGreatDoor.Ms
