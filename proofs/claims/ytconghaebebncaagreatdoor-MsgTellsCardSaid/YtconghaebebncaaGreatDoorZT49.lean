import Derived.Test.YtconghaebebncaaGreatDoorZT15
import Derived.Test.YtconghaebebncaaGreatDoorZT4
import Derived.Test.YtconghaebebncaaGreatDoorZT39
import Derived.Test.YtconghaebebncaaGreatDoorZT48
namespace Go.Proofs.YtconghaebebncaaGreatDoor.Ms
open Go.RowKit
set_option linter.unusedVariables false
set_option maxRecDepth 100000
def AFlag (w : World) (r : Ending) (w' : World) : Prop := (∃ b, r = .returned (.bool b)) ∧ Below w.heap.size w w'
set_option maxHeartbeats 8000000 in
theorem fewMsg_any (m : Mg) (cs : Array Value) (w : World) (h : MAt w (· < w.heap.size) m cs) : Calls Tryz.prog 10 #[.agg cs] w (AFlag w) := by
 have hb0 := (Below.refl w.heap.size w).alloc (Nat.le_refl _) (.cells cs 28)
 have B := Box.new h
 obtain ⟨W, wc, eW, hW, lW, _, _⟩ := h.gW
 obtain ⟨Mo', mc, dd, eM, hM, lM, _⟩ := h.gM
 obtain ⟨x0, x1, x2, x3, x4, hF, e0, e1, e2, e3, e4⟩ := B.loadF
 obtain ⟨k, a, v, S, n1, n2, A, n3, n4, hcs⟩ := hF.form
 simp only [List.cons.injEq, and_true] at hcs
 obtain ⟨rfl, rfl, rfl, rfl, rfl⟩ := hcs
 have HF := Lib.hid (Fi.few_any m.fil 13 0 _ _ _ _ _ _ (by show _ = _; omega) (by omega) (by omega) hF)
 have c3 : (w.alloc (.cells cs 28)).cell? ⟨w.heap.size, 3, none⟩ = some (.string m.dn) := (B.1.cell 3).trans h.g3
 have c5 : (w.alloc (.cells cs 28)).cell? ⟨w.heap.size, 5, none⟩ = some (.string m.pass) := (B.1.cell 5).trans h.g5
 have c15 : (w.alloc (.cells cs 28)).cell? ⟨w.heap.size, 15, none⟩ = some (.string m.rdn) := (B.1.cell 15).trans h.g15
 have c18 : (w.alloc (.cells cs 28)).cell? ⟨w.heap.size, 18, none⟩ = some (.string m.sup) := (B.1.cell 18).trans h.g18
 have c19 : (w.alloc (.cells cs 28)).cell? ⟨w.heap.size, 19, none⟩ = some (.string m.attr) := (B.1.cell 19).trans h.g19
 have c20 : (w.alloc (.cells cs 28)).cell? ⟨w.heap.size, 20, none⟩ = some (.string m.value) := (B.1.cell 20).trans h.g20
 have c22 : (w.alloc (.cells cs 28)).cell? ⟨w.heap.size, 22, none⟩ = some (.string m.matched) := (B.1.cell 22).trans h.g22
 have c13 : (w.alloc (.cells cs 28)).cell? ⟨w.heap.size, 13, none⟩ = some (.slice W m.wants.length wc) := (B.1.cell 13).trans eW
 have c14 : (w.alloc (.cells cs 28)).cell? ⟨w.heap.size, 14, none⟩ = some (.slice Mo' m.mods.length mc) := (B.1.cell 14).trans eM
 have HW := Lib.hid hW
 have HM := Lib.hid hM
 have Hb := Lib.hid hb0
 unfold maxLen at lW lM
 clear hb0 hW hM h hF B eW eM
 rcases (by omega : (500 < (m.dn.size : Int)) ∨ ((m.dn.size : Int) ≤ 500 ∧ 500 < (m.pass.size : Int)) ∨ ((m.dn.size : Int) ≤ 500 ∧ (m.pass.size : Int) ≤ 500 ∧ 500 < (m.rdn.size : Int)) ∨ ((m.dn.size : Int) ≤ 500 ∧ (m.pass.size : Int) ≤ 500 ∧ (m.rdn.size : Int) ≤ 500 ∧ 500 < (m.sup.size : Int)) ∨ ((m.dn.size : Int) ≤ 500 ∧ (m.pass.size : Int) ≤ 500 ∧ (m.rdn.size : Int) ≤ 500 ∧ (m.sup.size : Int) ≤ 500 ∧ 500 < (m.attr.size : Int)) ∨ ((m.dn.size : Int) ≤ 500 ∧ (m.pass.size : Int) ≤ 500 ∧ (m.rdn.size : Int) ≤ 500 ∧ (m.sup.size : Int) ≤ 500 ∧ (m.attr.size : Int) ≤ 500 ∧ 500 < (m.value.size : Int)) ∨ ((m.dn.size : Int) ≤ 500 ∧ (m.pass.size : Int) ≤ 500 ∧ (m.rdn.size : Int) ≤ 500 ∧ (m.sup.size : Int) ≤ 500 ∧ (m.attr.size : Int) ≤ 500 ∧ (m.value.size : Int) ≤ 500 ∧ 500 < (m.matched.size : Int)) ∨ ((m.dn.size : Int) ≤ 500 ∧ (m.pass.size : Int) ≤ 500 ∧ (m.rdn.size : Int) ≤ 500 ∧ (m.sup.size : Int) ≤ 500 ∧ (m.attr.size : Int) ≤ 500 ∧ (m.value.size : Int) ≤ 500 ∧ (m.matched.size : Int) ≤ 500 ∧ 14 < (m.wants.length : Int)) ∨ ((m.dn.size : Int) ≤ 500 ∧ (m.pass.size : Int) ≤ 500 ∧ (m.rdn.size : Int) ≤ 500 ∧ (m.sup.size : Int) ≤ 500 ∧ (m.attr.size : Int) ≤ 500 ∧ (m.value.size : Int) ≤ 500 ∧ (m.matched.size : Int) ≤ 500 ∧ (m.wants.length : Int) ≤ 14)) with q0 | ⟨q0, q1⟩ | ⟨q0, q1, q2⟩ | ⟨q0, q1, q2, q3⟩ | ⟨q0, q1, q2, q3, q4⟩ | ⟨q0, q1, q2, q3, q4, q5⟩ | ⟨q0, q1, q2, q3, q4, q5, q6⟩ | ⟨q0, q1, q2, q3, q4, q5, q6, q7⟩ | ⟨q0, q1, q2, q3, q4, q5, q6, q7⟩
 ·clear c13 c14 e0 e1 e2 e3 e4
  go_enter Tryz.func10, Tryz.ntmps10
  go_wp2_with fail
  go_ret
  exact ⟨⟨_, rfl⟩, Hb.out⟩
 ·clear c13 c14 e0 e1 e2 e3 e4
  go_enter Tryz.func10, Tryz.ntmps10
  go_wp2_with fail
  go_ret
  exact ⟨⟨_, rfl⟩, Hb.out⟩
 ·clear c13 c14 e0 e1 e2 e3 e4
  go_enter Tryz.func10, Tryz.ntmps10
  go_wp2_with fail
  go_ret
  exact ⟨⟨_, rfl⟩, Hb.out⟩
 ·clear c13 c14 e0 e1 e2 e3 e4
  go_enter Tryz.func10, Tryz.ntmps10
  go_wp2_with fail
  go_ret
  exact ⟨⟨_, rfl⟩, Hb.out⟩
 ·clear c13 c14 e0 e1 e2 e3 e4
  go_enter Tryz.func10, Tryz.ntmps10
  go_wp2_with fail
  go_ret
  exact ⟨⟨_, rfl⟩, Hb.out⟩
 ·clear c13 c14 e0 e1 e2 e3 e4
  go_enter Tryz.func10, Tryz.ntmps10
  go_wp2_with fail
  go_ret
  exact ⟨⟨_, rfl⟩, Hb.out⟩
 ·clear c13 c14 e0 e1 e2 e3 e4
  go_enter Tryz.func10, Tryz.ntmps10
  go_wp2_with fail
  go_ret
  exact ⟨⟨_, rfl⟩, Hb.out⟩
 ·clear c14 e0 e1 e2 e3 e4
  go_enter Tryz.func10, Tryz.ntmps10
  go_wp2_with fail
  go_ret
  exact ⟨⟨_, rfl⟩, Hb.out⟩
 ·go_enter Tryz.func10, Tryz.ntmps10
  go_wp2_with fail
  clear c3 c5 c15 c18 c19 c20 c22 q0 q1 q2 q3 q4 q5 q6 q7
  go_loopw [3] (fun i wr => ∃ q : Nat, q ≤ m.wants.length ∧ i = .int .i64 q ∧ wr = w.alloc (.cells cs 28)) (fun i wr => m.wants.length - (intOf i).toNat)
  case atStart => exact ⟨0, Nat.zero_le _, rfl, rfl⟩
  case round =>
   obtain ⟨q, hq, rfl, rfl⟩ := hrel
   by_cases hlt : q < m.wants.length
   ·obtain ⟨ad, rfl, hp, hc⟩ := HW.out (by omega)
    have f0 := batA Hb.out (by rw [block_of_add]; exact hp) (hc q hlt)
    generalize m.wants[q] = s at f0
    clear hc e0 e1 e2 e3 e4 c14
    by_cases h500 : 500 < (s.size : Int)
    ·go_wp2_with fail
     go_ret
     exact ⟨⟨_, rfl⟩, Hb.out⟩
    ·have h500' : (s.size : Int) ≤ 500 := by omega
     clear h500
     go_wp2_with fail
     exact ⟨⟨q + 1, by omega, by go_num, trivial⟩, by simp [intOf]; omega⟩
   ·obtain rfl : q = m.wants.length := by omega
    go_wp2_with fail
    clear c13
    go_loopw [4] (fun i wr => ∃ q : Nat, q ≤ m.mods.length ∧ i = .int .i64 q ∧ wr = w.alloc (.cells cs 28)) (fun i wr => m.mods.length - (intOf i).toNat)
    case atStart => exact ⟨0, Nat.zero_le _, rfl, rfl⟩
    case round =>
     clear hlt hq
     obtain ⟨q, hq, rfl, rfl⟩ := hrel
     by_cases hlt : q < m.mods.length
     ·obtain ⟨ad, V, vc, rfl, hp, f0, f1, f2, hL⟩ := HM.out.kid Hb.out hlt
      obtain ⟨V1, vc1, ev, _, lv, _, hV, _⟩ := hL
      simp only [List.cons.injEq, Value.slice.injEq, true_and, and_true] at ev
      obtain ⟨rfl, rfl⟩ := ev
      generalize m.mods[q] = d at f0 f1 f2 hV lv
      obtain ⟨dk, da, dv⟩ := d
      simp only at f0 f1 f2 hV lv
      unfold maxLen at lv
      have HV := Lib.hid hV
      clear f0 hV e0 e1 e2 e3 e4
      rcases (by omega : (500 < (da.size : Int)) ∨ ((da.size : Int) ≤ 500 ∧ 14 < (dv.length : Int)) ∨ ((da.size : Int) ≤ 500 ∧ (dv.length : Int) ≤ 14)) with h1 | ⟨h1, h2⟩ | ⟨h1, h2⟩
      ·go_wp2_with fail
       go_ret
       exact ⟨⟨_, rfl⟩, Hb.out⟩
      ·go_wp2_with fail
       go_ret
       exact ⟨⟨_, rfl⟩, Hb.out⟩
      ·go_wp2_with fail
       go_loopw [5] (fun i wr => ∃ p : Nat, p ≤ dv.length ∧ i = .int .i64 p ∧ wr = w.alloc (.cells cs 28)) (fun i wr => dv.length - (intOf i).toNat)
       case atStart => exact ⟨0, Nat.zero_le _, rfl, rfl⟩
       case round =>
        obtain ⟨p, hp2, rfl, rfl⟩ := hrel
        by_cases hlt2 : p < dv.length
        ·obtain ⟨ad2, rfl, hp3, hc3⟩ := HV.out (by omega)
         have g0 := hc3 p hlt2
         generalize dv[p] = s at g0
         clear hc3
         by_cases h500 : 500 < (s.size : Int)
         ·go_wp2_with fail
          go_ret
          exact ⟨⟨_, rfl⟩, Hb.out⟩
         ·have h500' : (s.size : Int) ≤ 500 := by omega
          clear h500
          go_wp2_with fail
          exact ⟨⟨p + 1, by omega, by go_num, trivial⟩, by simp [intOf]; omega⟩
        ·obtain rfl : p = dv.length := by omega
         go_wp2_with fail
         exact ⟨⟨q + 1, by omega, by go_num, trivial⟩, by simp [intOf]; omega⟩
     ·obtain rfl : q = m.mods.length := by omega
      by_cases h14 : (m.mods.length : Int) ≤ 14
      ·go_wp2_with fail
       refine HF.out.mono ?_
       rintro r w1 ⟨rfl, hb1⟩
       generalize Fi.few 13 m.fil = t
       go_wp2_with fail
       go_ret
       exact ⟨⟨_, rfl⟩, Hb.out.trans (hb1.mono Hb.out.size)⟩
      ·have h14' : 14 < (m.mods.length : Int) := by omega
       clear h14
       go_wp2_with fail
       go_ret
       exact ⟨⟨_, rfl⟩, Hb.out⟩
end Go.Proofs.YtconghaebebncaaGreatDoor.Ms
namespace Go.Proofs.YtconghaebebncaaGreatDoor.Ms
open Go.RowKit
set_option linter.unusedVariables false
set_option maxRecDepth 100000
attribute [local go_sem ↓] loadAtMsg
set_option maxHeartbeats 8000000 in
theorem walk_MsgTells (w : World) (m : Mg) (cm : Array Value) (ha : MAt w (· < w.heap.size) m cm) (n : Mg) (cn : Array Value) (hb : MAt w (· < w.heap.size) n cn) (hG : Glob w) :
  Calls Tryz.prog 3 #[.agg cm, .agg cn] w fun r w' => r = .returned (.bool true) ∧ Below w.heap.size w w' := by
 obtain ⟨T1, T2, T3⟩ := Two.new ha hb
 have HB2 := Lib.hid T1
 have HB3 := Lib.hid T2
 have Hb0 := Lib.hid T3
 have HG := Lib.hid hG
 clear T1 T2 T3 hG ha hb
 have HK := Lib.hid (fun w hG => known_any w hG)
 have HF := Lib.hid (fun m cs w h => fewMsg_any m cs w h)
 have CI := Lib.hid (fun w h => Is_any m cm w h)
 have CR := Lib.hid (fun w h => rIs_any m cm w h)
 have CS := Lib.hid (fun w ha hb => Same_any m n cm cn w ha hb)
 have CT := Lib.hid (fun w ha hb => rSame_any m n cm cn w ha hb)
 cases hE : encM m with
 | mk S E =>
 have CE := Lib.hid (fun w hG h => Encode_at hE cm w hG h)
 have CQ0 := fun w h => rEncode_any m cm w h
 rw [hE] at CQ0
 have CQ := Lib.hid CQ0
 generalize (⟨S.toArray⟩ : ByteArray) = X at CE CQ
 generalize ((E : Nat) : Int) = y at CE CQ
 generalize isM m = b1 at CI CR
 generalize eqM m n = b2 at CS CT
 have z1 : (b1 == b1) = true := beq_self_eq_true _
 have z2 : (b2 == b2) = true := beq_self_eq_true _
 have z3 : (X.toList == X.toList) = true := beq_self_eq_true _
 have z4 : (y == y) = true := beq_self_eq_true _
 clear CQ0 hE
 go_enter Tryz.func3, Tryz.ntmps3
 go_wp2_with fail
 refine (HK.out _ (HG.out.past Hb0.out)).mono ?_
 rintro r w1 ⟨rfl, hk1⟩
 have HB2_1 := Lib.hid (HB2.out.past hk1)
 clear HB2
 have HB3_2 := Lib.hid (HB3.out.past hk1)
 clear HB3
 have Hb3 := Lib.hid (Hb0.out.trans (hk1.mono Hb0.out.size))
 clear Hb0
 clear hk1
 go_wp2_with (first | (refine wpList_mark (.load 28 (.tmp 2)) rfl ?_; refine wpList_loadG (by rfl) _ rfl (w.heap.size) rfl cm HB2_1.out.1 HB2_1.out.2.size ?_))
 refine (HF.out m cm _ HB2_1.out.2).mono ?_
 rintro r w2 ⟨⟨f1, rfl⟩, hk2⟩
 have HB2_4 := Lib.hid (HB2_1.out.past hk2)
 clear HB2_1
 have HB3_5 := Lib.hid (HB3_2.out.past hk2)
 clear HB3_2
 have Hb6 := Lib.hid (Hb3.out.trans (hk2.mono Hb3.out.size))
 clear Hb3
 clear hk2
 cases f1 with
 | false =>
  go_wp2_with fail
  go_ret
  exact ⟨rfl, Hb6.out⟩
 | true =>
  go_wp2_with (first | (refine wpList_mark (.load 28 (.tmp 3)) rfl ?_; refine wpList_loadG (by rfl) _ rfl (w.heap.size + 1) rfl cn HB3_5.out.1 HB3_5.out.2.size ?_))
  refine (HF.out n cn _ HB3_5.out.2).mono ?_
  rintro r w3 ⟨⟨f2, rfl⟩, hk3⟩
  have HB2_7 := Lib.hid (HB2_4.out.past hk3)
  clear HB2_4
  have HB3_8 := Lib.hid (HB3_5.out.past hk3)
  clear HB3_5
  have Hb9 := Lib.hid (Hb6.out.trans (hk3.mono Hb6.out.size))
  clear Hb6
  clear hk3
  cases f2 with
  | false =>
   go_wp2_with fail
   go_ret
   exact ⟨rfl, Hb9.out⟩
  | true =>
   go_wp2_with (first | (refine wpList_mark (.load 28 (.tmp 2)) rfl ?_; refine wpList_loadG (by rfl) _ rfl (w.heap.size) rfl cm HB2_7.out.1 HB2_7.out.2.size ?_))
   refine (CE.out _ (HG.out.past Hb9.out) HB2_7.out.2).mono ?_
   rintro r w4 ⟨rfl, hk4⟩
   have HB2_10 := Lib.hid (HB2_7.out.past hk4)
   clear HB2_7
   have HB3_11 := Lib.hid (HB3_8.out.past hk4)
   clear HB3_8
   have Hb12 := Lib.hid (Hb9.out.trans (hk4.mono Hb9.out.size))
   clear Hb9
   clear hk4
   go_wp2_with (first | (refine wpList_mark (.load 28 (.tmp 2)) rfl ?_; refine wpList_loadG (by rfl) _ rfl (w.heap.size) rfl cm HB2_10.out.1 HB2_10.out.2.size ?_))
   refine (CQ.out _ HB2_10.out.2).mono ?_
   rintro r w5 ⟨rfl, hk5⟩
   have HB2_13 := Lib.hid (HB2_10.out.past hk5)
   clear HB2_10
   have HB3_14 := Lib.hid (HB3_11.out.past hk5)
   clear HB3_11
   have Hb15 := Lib.hid (Hb12.out.trans (hk5.mono Hb12.out.size))
   clear Hb12
   clear hk5
   go_wp2_with fail
   have T5 : Two w w.heap.size (w.heap.size + 1) m cm n cn w5 := ⟨HB2_13.out, HB3_14.out, Hb15.out⟩
   refine wp_region_noPanic ?_
   refine wp_region_held_drew (S := Two w w.heap.size (w.heap.size + 1) m cm n cn) (by kernel_rfl) T5.drew (fun hH0 => ?_)
   refine Rg.take 0 (.agg cm) rfl (by kernel_rfl) (by kernel_rfl) (by kernel_rfl) (fun _ _ _ h => h) (by kernel_rfl) (fun w' h' => run_loadM rfl rfl h'.1) hH0 ?_
   refine Rg.take 2 (.agg cm) rfl (by kernel_rfl) (by kernel_rfl) (by kernel_rfl) (fun _ _ _ h => h) (by kernel_rfl) (fun w' h' => run_loadM rfl rfl h'.1) hH0 ?_
   refine Rg.call 1 rfl (by kernel_rfl) (by kernel_rfl) 13 #[.agg cm] (by kernel_rfl) (CI.out _ hH0.1.2) ?_
   rintro _ w6 ⟨rfl, hk6⟩
   have hH1 := hH0.past hk6
   refine ⟨_, rfl, hH1, ?_⟩
   refine Rg.call 3 rfl (by kernel_rfl) (by kernel_rfl) 14 #[.agg cm] (by kernel_rfl) (CR.out _ hH1.1.2) ?_
   rintro _ w7 ⟨rfl, hk7⟩
   have hH2 := hH1.past hk7
   refine ⟨_, rfl, hH2, ?_⟩
   refine Rg.take 4 (.bool true) rfl (by kernel_rfl) (by kernel_rfl) (by kernel_rfl) (fun _ _ _ h => h) (by kernel_rfl) (fun w' _ => Eq.trans (b := .ok (.value (.bool (b1 == b1))) w') (by kernel_rfl) (by rw [z1])) hH2 ?_
   refine Rg.frame ⟨#[.agg cm, .agg cn, pt w.heap.size 0, pt (w.heap.size + 1) 0, Bf, Sg X, Iq y, Sg X, Iq y, Bt, Bf, .agg cm, Bt, Bf, Bf, .agg cn, Bt, Bf, Bf, .tuple #[Sg X, Iq y], .agg cm, .tuple #[Sg X, Iq y], Sg X, Iq y, .tuple #[Sg X, Iq y], .agg cm, .tuple #[Sg X, Iq y], Sg X, Iq y, .agg cm, .bool b1, .agg cm, .bool b1, Bt, ud, ud, ud, ud, ud, ud, ud, ud, ud, ud, ud, ud, ud, ud, ud, ud, ud, ud, ud], []⟩ (by kernel_rfl) ?_
   refine Rg.idle (by kernel_rfl) (fun _ _ _ _ _ h => h) [5] _ _ ⟨#[.agg cm, .agg cn, pt w.heap.size 0, pt (w.heap.size + 1) 0, Bf, Sg X, Iq y, Sg X, Iq y, Bt, Bf, .agg cm, Bt, Bf, Bf, .agg cn, Bt, Bf, Bf, .tuple #[Sg X, Iq y], .agg cm, .tuple #[Sg X, Iq y], Sg X, Iq y, .tuple #[Sg X, Iq y], .agg cm, .tuple #[Sg X, Iq y], Sg X, Iq y, .agg cm, .bool b1, .agg cm, .bool b1, Bt, Bt, ud, ud, ud, ud, ud, ud, ud, ud, ud, ud, ud, ud, ud, ud, ud, ud, ud, ud], []⟩ 19 (by kernel_rfl) (by kernel_rfl) hH2 ?_
   refine Rg.take 6 (.string X) rfl (by kernel_rfl) (by kernel_rfl) (by kernel_rfl) (fun _ _ _ h => h) (by kernel_rfl) (fun _ _ => by kernel_rfl) hH2 ?_
   refine Rg.take 7 (.string X) rfl (by kernel_rfl) (by kernel_rfl) (by kernel_rfl) (fun _ _ _ h => h) (by kernel_rfl) (fun _ _ => by kernel_rfl) hH2 ?_
   refine Rg.take 8 (.bool true) rfl (by kernel_rfl) (by kernel_rfl) (by kernel_rfl) (fun _ _ _ h => h) (by kernel_rfl) (fun w' _ => Eq.trans (b := .ok (.value (.bool (X.toList == X.toList))) w') (by kernel_rfl) (by rw [z3])) hH2 ?_
   refine Rg.idle (by kernel_rfl) (fun _ _ _ _ _ h => h) [9, 10] _ _ ⟨#[.agg cm, .agg cn, pt w.heap.size 0, pt (w.heap.size + 1) 0, Bf, Sg X, Iq y, Sg X, Iq y, Bt, Bf, .agg cm, Bt, Bf, Bf, .agg cn, Bt, Bf, Bf, .tuple #[Sg X, Iq y], .agg cm, .tuple #[Sg X, Iq y], Sg X, Iq y, .tuple #[Sg X, Iq y], .agg cm, .tuple #[Sg X, Iq y], Sg X, Iq y, .agg cm, .bool b1, .agg cm, .bool b1, Bt, Bt, Sg X, Sg X, Bt, Bt, Bt, ud, ud, ud, ud, ud, ud, ud, ud, ud, ud, ud, ud, ud], []⟩ 14 (by kernel_rfl) (by kernel_rfl) hH2 ?_
   refine Rg.take 11 (.int .i64 y) rfl (by kernel_rfl) (by kernel_rfl) (by kernel_rfl) (fun _ _ _ h => h) (by kernel_rfl) (fun _ _ => by kernel_rfl) hH2 ?_
   refine Rg.take 12 (.int .i64 y) rfl (by kernel_rfl) (by kernel_rfl) (by kernel_rfl) (fun _ _ _ h => h) (by kernel_rfl) (fun _ _ => by kernel_rfl) hH2 ?_
   refine Rg.frame ⟨#[.agg cm, .agg cn, pt w.heap.size 0, pt (w.heap.size + 1) 0, Bf, Sg X, Iq y, Sg X, Iq y, Bt, Bf, .agg cm, Bt, Bf, Bf, .agg cn, Bt, Bf, Bf, .tuple #[Sg X, Iq y], .agg cm, .tuple #[Sg X, Iq y], Sg X, Iq y, .tuple #[Sg X, Iq y], .agg cm, .tuple #[Sg X, Iq y], Sg X, Iq y, .agg cm, .bool b1, .agg cm, .bool b1, Bt, Bt, Sg X, Sg X, Bt, Bt, Bt, Iq y, Iq y, ud, ud, ud, ud, ud, ud, ud, ud, ud, ud, ud], []⟩ (by kernel_rfl) ?_
   refine Rg.take 13 (.bool true) rfl (by kernel_rfl) (by kernel_rfl) (by kernel_rfl) (fun _ _ _ h => h) (by kernel_rfl) (fun w' _ => Eq.trans (b := .ok (.value (.bool (y == y))) w') (by kernel_rfl) (by rw [z4])) hH2 ?_
   refine Rg.idle (by kernel_rfl) (fun _ _ _ _ _ h => h) [14, 15] _ _ ⟨#[.agg cm, .agg cn, pt w.heap.size 0, pt (w.heap.size + 1) 0, Bf, Sg X, Iq y, Sg X, Iq y, Bt, Bf, .agg cm, Bt, Bf, Bf, .agg cn, Bt, Bf, Bf, .tuple #[Sg X, Iq y], .agg cm, .tuple #[Sg X, Iq y], Sg X, Iq y, .tuple #[Sg X, Iq y], .agg cm, .tuple #[Sg X, Iq y], Sg X, Iq y, .agg cm, .bool b1, .agg cm, .bool b1, Bt, Bt, Sg X, Sg X, Bt, Bt, Bt, Iq y, Iq y, Bt, Bt, Bt, ud, ud, ud, ud, ud, ud, ud, ud], []⟩ 9 (by kernel_rfl) (by kernel_rfl) hH2 ?_
   refine Rg.take 16 (.agg cm) rfl (by kernel_rfl) (by kernel_rfl) (by kernel_rfl) (fun _ _ _ h => h) (by kernel_rfl) (fun w' h' => run_loadM rfl rfl h'.1) hH2 ?_
   refine Rg.take 17 (.agg cn) rfl (by kernel_rfl) (by kernel_rfl) (by kernel_rfl) (fun _ _ _ h => h) (by kernel_rfl) (fun w' h' => run_loadM rfl rfl h'.2.1) hH2 ?_
   refine Rg.take 19 (.agg cm) rfl (by kernel_rfl) (by kernel_rfl) (by kernel_rfl) (fun _ _ _ h => h) (by kernel_rfl) (fun w' h' => run_loadM rfl rfl h'.1) hH2 ?_
   refine Rg.take 20 (.agg cn) rfl (by kernel_rfl) (by kernel_rfl) (by kernel_rfl) (fun _ _ _ h => h) (by kernel_rfl) (fun w' h' => run_loadM rfl rfl h'.2.1) hH2 ?_
   refine Rg.frame ⟨#[.agg cm, .agg cn, pt w.heap.size 0, pt (w.heap.size + 1) 0, Bf, Sg X, Iq y, Sg X, Iq y, Bt, Bf, .agg cm, Bt, Bf, Bf, .agg cn, Bt, Bf, Bf, .tuple #[Sg X, Iq y], .agg cm, .tuple #[Sg X, Iq y], Sg X, Iq y, .tuple #[Sg X, Iq y], .agg cm, .tuple #[Sg X, Iq y], Sg X, Iq y, .agg cm, .bool b1, .agg cm, .bool b1, Bt, Bt, Sg X, Sg X, Bt, Bt, Bt, Iq y, Iq y, Bt, Bt, Bt, .agg cm, .agg cn, ud, .agg cm, .agg cn, ud, ud, ud], []⟩ (by kernel_rfl) ?_
   refine Rg.call 18 rfl (by kernel_rfl) (by kernel_rfl) 15 #[.agg cm, .agg cn] (by kernel_rfl) (CS.out _ hH2.1.2 hH2.2.1.2) ?_
   rintro _ w8 ⟨rfl, hk8⟩
   have hH3 := hH2.past hk8
   refine ⟨_, rfl, hH3, ?_⟩
   refine Rg.call 21 rfl (by kernel_rfl) (by kernel_rfl) 16 #[.agg cm, .agg cn] (by kernel_rfl) (CT.out _ hH3.1.2 hH3.2.1.2) ?_
   rintro _ w9 ⟨rfl, hk9⟩
   have hH4 := hH3.past hk9
   refine ⟨_, rfl, hH4, ?_⟩
   refine Rg.take 22 (.bool true) rfl (by kernel_rfl) (by kernel_rfl) (by kernel_rfl) (fun _ _ _ h => h) (by kernel_rfl) (fun w' _ => Eq.trans (b := .ok (.value (.bool (b2 == b2))) w') (by kernel_rfl) (by rw [z2])) hH4 ?_
   refine Rg.idle (by kernel_rfl) (fun _ _ _ _ _ h => h) [23, 24] _ _ ⟨#[.agg cm, .agg cn, pt w.heap.size 0, pt (w.heap.size + 1) 0, Bt, Sg X, Iq y, Sg X, Iq y, Bt, Bf, .agg cm, Bt, Bf, Bf, .agg cn, Bt, Bf, Bf, .tuple #[Sg X, Iq y], .agg cm, .tuple #[Sg X, Iq y], Sg X, Iq y, .tuple #[Sg X, Iq y], .agg cm, .tuple #[Sg X, Iq y], Sg X, Iq y, .agg cm, .bool b1, .agg cm, .bool b1, Bt, Bt, Sg X, Sg X, Bt, Bt, Bt, Iq y, Iq y, Bt, Bt, Bt, .agg cm, .agg cn, .bool b2, .agg cm, .agg cn, .bool b2, Bt, Bt], []⟩ 0 (by kernel_rfl) (by kernel_rfl) hH4 ?_
   refine Rg.frame { tmps := #[.agg cm, .agg cn, .pointer (some ⟨w.heap.size, 0, none⟩), .pointer (some ⟨w.heap.size + 1, 0, none⟩), .bool true, .string X, .int .i64 y, .string X, .int .i64 y, .bool true, .bool false, .agg cm, .bool true, .bool false, .bool false, .agg cn, .bool true, .bool false, .bool false, .tuple #[.string X, .int .i64 y], .agg cm, .tuple #[.string X, .int .i64 y], .string X, .int .i64 y, .tuple #[.string X, .int .i64 y], .agg cm, .tuple #[.string X, .int .i64 y], .string X, .int .i64 y, .agg cm, .bool b1, .agg cm, .bool b1, .bool true, .bool true, .string X, .string X, .bool true, .bool true, .bool true, .int .i64 y, .int .i64 y, .bool true, .bool true, .bool true, .agg cm, .agg cn, .bool b2, .agg cm, .agg cn, .bool b2, .bool true, .bool true], defers := [] } (by kernel_rfl) ?_
   refine wpAnyH_done (by kernel_rfl) ?_ _
   refine NoPanic.normal ?_
   have hbe := hH4.2.2
   go_wp2_with fail
   go_ret
   exact ⟨rfl, hbe⟩
end Go.Proofs.YtconghaebebncaaGreatDoor.Ms
