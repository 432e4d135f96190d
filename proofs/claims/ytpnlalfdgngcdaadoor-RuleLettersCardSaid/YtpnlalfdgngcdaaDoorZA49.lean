import Derived.Test.YtpnlalfdgngcdaaDoorZA48
import Derived.Test.YtpnlalfdgngcdaaDoorZA31
set_option linter.unusedVariables false
set_option maxRecDepth 100000
namespace Go.Proofs.YtpnlalfdgngcdaaDoor.Ru
open Go.RowKit
theorem wf_u8 {a : Int} (h : (Lit.int .u8 a).wf = true) : 0 ≤ a ∧ a ≤ 255:=by simpa [Lit.wf, IntKind.min, IntKind.max, IntKind.signed, IntKind.bits] using h
set_option maxHeartbeats 8000000 in
theorem letters_go (m a b : Int) (d sb : Bool) (x y : Nat) (w : World) (hm : 0 ≤ m ∧ m ≤ 255) (ha : 0 ≤ a ∧ a ≤ 255) (hb : 0 ≤ b ∧ b ≤ 255) (hx : a % 6 = x) (hy : b % 6 = y) (hx6 : x < 6) (hy6 : y < 6) :
  Calls Tryd.prog 5 #[.int .u8 m, .int .u8 a, .int .u8 b, .bool d, .bool sb] w fun r w'=>r = .returned (.bool true) ∧ Below w.heap.size w w':=by
 have CK:=Lib.hid known_any
 have CI:=Lib.hid is_any
 have CP:=Lib.hid print_any
 have CR:=Lib.hid parse_any
 have CS:=Lib.hid same_any
 obtain ⟨hm0, hm1⟩:=hm
 go_enter Tryd.func5, Tryd.ntmps5
 go_wp2_with fail
 refine (CK.out _).mono ?_
 rintro e w1 ⟨rfl, hb1⟩
 go_wp2_with fail
 go_loopw [12, 13] (fun s i wr=>∃ (k : Nat) (q : ByteArray), k ≤ 6 ∧ i = .int .i64 k ∧ s = .string q ∧ Hid (skips (letters.take k) (Nm.bs q) = []) ∧ q.size ≤ k ∧ Below w.heap.size w wr) (fun s i wr=>6 - (intOf i).toNat)
 case atStart=>exact ⟨0, ⟨#[]⟩, Nat.zero_le _, rfl, rfl, rfl, Nat.le_refl 0, hb1⟩
 case round =>
  obtain ⟨k, q, hk, rfl, rfl, hE, hq, hb⟩:=hrel
  by_cases hlt : k < 6
  ·have n1 : ¬ (9223372036854775807 < q.size + 1):=by omega
   have h1 : (k : Int) + 1 ≤ 6:=by omega
   have hlt2 : k < letters.length:=hlt
   have e1 : Nm.bs ((⟨#[114, 115, 99, 119, 97, 100]⟩ : ByteArray).extract k (k + 1)) = [letters[k]'hlt2]:=by
    rw [show (⟨#[114, 115, 99, 119, 97, 100]⟩ : ByteArray).extract k (k + 1) = Nm.mk (seg letters k (k + 1)) from ext_seg _ _ _, seg_one letters k k hlt2 (Nat.le_refl _), seg_self]
    rfl
   have e2 : ((⟨#[114, 115, 99, 119, 97, 100]⟩ : ByteArray).extract k (k + 1)).size = 1:=by
    have:=congrArg List.length e1
    exact this
   have E1:=Lib.hid e1
   have E2:=Lib.hid e2
   clear e1
   go_wp2_with fail
   all_goals first
    |(refine ⟨⟨k + 1, q, by omega, by go_num, rfl, let_pass hlt2 hE.out, by omega, hb⟩, by simp [intOf]; omega⟩; done)
    |(refine ⟨⟨k + 1, _, by omega, by go_num, rfl, ?_, ?_, hb⟩, by simp [intOf]; omega⟩
      ·show _ = _
       rw [bs_app, E1.out]
       exact let_put hlt2 hE.out
      ·rw [ByteArray.size_append, E2.out]; omega)
  ·have hk6 : k = 6:=by omega
   have hE2 : skips letters (Nm.bs q) = []:=by
    have:=hE.out
    rw [hk6] at this
    exact this
   have hR:=isR_self d sb q hE2
   have hf : Fit q ⟨#[115, 101, 108, 102]⟩ []:=⟨by omega, by decide, by simp, fun a ha=>by simp at ha⟩
   clear hE hE2 hk6 hk
   by_cases h0 : q.size = 0
   ·have hq0 : q = ⟨#[]⟩:=by
     rw [bs_inj]
     exact nilD_of q h0
    subst hq0
    have hR : isR ⟨d, ⟨#[]⟩, sb, ⟨#[115, 101, 108, 102]⟩, []⟩ = false:=hR
    have C1 : Hid (∀ w, Calls Tryd.prog 12 #[.agg #[.bool d, .string ⟨#[]⟩, .bool sb, .string ⟨#[115, 101, 108, 102]⟩, .slice none 0 0]] w fun e w'=>e = .returned (.bool false) ∧ Below w.heap.size w w'):=fun w=>by
     have h:=CI.out d ⟨#[]⟩ sb ⟨#[115, 101, 108, 102]⟩ [] none 0 w (StrsAt.nil _ _ _) hf
     rw [hR] at h
     exact h
    have C2 : Hid (∀ w, Calls Tryd.prog 13 #[.agg #[.bool d, .string ⟨#[]⟩, .bool sb, .string ⟨#[115, 101, 108, 102]⟩, .slice none 0 0]] w fun e w'=>e = .returned (.string ⟨#[]⟩) ∧ Below w.heap.size w w'):=fun w=>by
     have h:=CP.out d ⟨#[]⟩ sb ⟨#[115, 101, 108, 102]⟩ [] none 0 w (StrsAt.nil _ _ _) hf (by simp)
     rw [hR, if_neg (by decide)] at h
     exact h
    have HB:=Lib.hid (Blk.new wr 24 #[.bool d, .string ⟨#[]⟩, .bool sb, .string ⟨#[115, 101, 108, 102]⟩, .slice none 0 0])
    have hb2:=hb.alloc hb.size (.cells #[.bool d, .string ⟨#[]⟩, .bool sb, .string ⟨#[115, 101, 108, 102]⟩, .slice none 0 0] 24)
    clear hR hf CI CP CR CS CK h0
    go_wp2_with fail
    refine (C1.out _).mono ?_
    rintro e w2 ⟨rfl, hb3⟩
    have HB2:=Lib.hid (HB.out.past hb3)
    have hb4:=hb2.trans (hb3.mono hb2.size)
    obtain ⟨a0, a1, a2, a3, a4⟩:=rules5 HB2.out
    clear hb2 hb3
    go_wp2_with fail
    refine (C2.out _).mono ?_
    rintro e w3 ⟨rfl, hb5⟩
    go_wp2_with fail
    go_ret
    exact ⟨rfl, hb4.trans (hb5.mono hb4.size)⟩
   ·have hne:=isE_of q (by omega)
    have hR : isR ⟨d, q, sb, ⟨#[115, 101, 108, 102]⟩, []⟩ = true:=by
     rw [hR]
     cases hb : Nm.bs q with
     | nil=>exact absurd (by have:=size_eq q; rw [show q.data.toList = [] from hb] at this; exact this.symm) h0
     | cons x r=>rfl
    obtain ⟨Y, hY⟩ : ∃ Y, Y = Nm.mk (pr ⟨d, q, sb, ⟨#[115, 101, 108, 102]⟩, []⟩):=⟨_, rfl⟩
    have hYz : Y.size ≤ 1000000000:=by
     have h5:=(pr_len hR).2
     have h6 : Y.size = (pr ⟨d, q, sb, ⟨#[115, 101, 108, 102]⟩, []⟩).length:=by rw [hY]; show (pr _).toArray.size = _; simp
     have h7 : (Rul.mk d q sb ⟨#[115, 101, 108, 102]⟩ []).who.size = 4:=rfl
     omega
    have hYp : parse (Nm.bs Y) = some ⟨d, q, sb, ⟨#[115, 101, 108, 102]⟩, []⟩:=by rw [hY]; exact parse_pr hR
    have C1 : Hid (∀ w, Calls Tryd.prog 12 #[.agg #[.bool d, .string q, .bool sb, .string ⟨#[115, 101, 108, 102]⟩, .slice none 0 0]] w fun e w'=>e = .returned (.bool true) ∧ Below w.heap.size w w'):=fun w=>by
     have h:=CI.out d q sb ⟨#[115, 101, 108, 102]⟩ [] none 0 w (StrsAt.nil _ _ _) hf
     rw [hR] at h
     exact h
    have C2 : Hid (∀ w, Calls Tryd.prog 13 #[.agg #[.bool d, .string q, .bool sb, .string ⟨#[115, 101, 108, 102]⟩, .slice none 0 0]] w fun e w'=>e = .returned (.string Y) ∧ Below w.heap.size w w'):=fun w=>by
     have h:=CP.out d q sb ⟨#[115, 101, 108, 102]⟩ [] none 0 w (StrsAt.nil _ _ _) hf (by simp)
     rw [if_pos hR, ← hY] at h
     exact h
    have C3 : Hid (∀ w, Calls Tryd.prog 10 #[.string Y] w fun e w'=>∃ A c, e = .returned (.tuple #[.agg #[.bool d, .string q, .bool sb, .string ⟨#[115, 101, 108, 102]⟩, .slice A 0 c], .int .i64 0]) ∧ Below w.heap.size w w'):=fun w=>by
     have h:=CR.out Y w hYz
     rw [hYp] at h
     exact h.mono fun e w' ⟨A, c, h1, _, _, h2⟩=>⟨A, c, h1, h2⟩
    have C4 : Hid (∀ A c w, Calls Tryd.prog 14 #[.agg #[.bool d, .string q, .bool sb, .string ⟨#[115, 101, 108, 102]⟩, .slice A 0 c], .agg #[.bool d, .string q, .bool sb, .string ⟨#[115, 101, 108, 102]⟩, .slice none 0 0]] w fun e w'=>e = .returned (.bool true) ∧ Below w.heap.size w w'):=fun A c w=>by
     have h:=CS.out d q sb ⟨#[115, 101, 108, 102]⟩ [] A c d q sb ⟨#[115, 101, 108, 102]⟩ [] none 0 w (StrsAt.nil _ _ _) (StrsAt.nil _ _ _) (by decide) (by decide)
     rw [sameR_self] at h
     exact h
    have hx1 : x < letters.length:=hx6
    have hy1 : y < letters.length:=hy6
    have e1 : ∀ k (hk : k < letters.length), Nm.bs ((⟨#[114, 115, 99, 119, 97, 100]⟩ : ByteArray).extract k (k + 1)) = [letters[k]'hk]:=fun k hk=>by
     rw [show (⟨#[114, 115, 99, 119, 97, 100]⟩ : ByteArray).extract k (k + 1) = Nm.mk (seg letters k (k + 1)) from ext_seg _ _ _, seg_one letters k k hk (Nat.le_refl _), seg_self]
     rfl
    obtain ⟨P, hP⟩ : ∃ P, P = (⟨#[114, 115, 99, 119, 97, 100]⟩ : ByteArray).extract x (x + 1):=⟨_, rfl⟩
    obtain ⟨Q, hQ⟩ : ∃ Q, Q = (⟨#[114, 115, 99, 119, 97, 100]⟩ : ByteArray).extract y (y + 1):=⟨_, rfl⟩
    have hPb:=e1 x hx1
    have hQb:=e1 y hy1
    have hP2:=hP.symm
    have hQ2:=hQ.symm
    rw [← hP] at hPb
    rw [← hQ] at hQb
    have hPs : P.size = 1:=congrArg List.length hPb
    have hQs : Q.size = 1:=congrArg List.length hQb
    have C5 : Hid (∀ w, Calls Tryd.prog 12 #[.agg #[.bool false, .string (P ++ Q), .bool false, .string ⟨#[97, 110, 121]⟩, .slice none 0 0]] w fun e w'=>e = .returned (.bool (decide (x < y))) ∧ Below w.heap.size w w'):=fun w=>by
     have h:=CI.out false (P ++ Q) false ⟨#[97, 110, 121]⟩ [] none 0 w (StrsAt.nil _ _ _) ⟨by rw [ByteArray.size_append]; omega, by decide, by simp, fun a ha=>by simp at ha⟩
     rw [isR_any, bs_app, hPb, hQb, show [letters[x]] ++ [letters[y]] = [letters[x]'hx1, letters[y]'hy1] from rfl, two_of hx1 hy1] at h
     exact h
    have HB:=Lib.hid (Blk.new wr 24 #[.bool d, .string q, .bool sb, .string ⟨#[115, 101, 108, 102]⟩, .slice none 0 0])
    have hb2:=hb.alloc hb.size (.cells #[.bool d, .string q, .bool sb, .string ⟨#[115, 101, 108, 102]⟩, .slice none 0 0] 24)
    have n2 : ¬ (9223372036854775807 < P.size + Q.size):=by omega
    have u1 : (x : Int) + 1 ≤ 6:=by omega
    have u2 : (y : Int) + 1 ≤ 6:=by omega
    have u3 : (x : Int) ≤ (x : Int) + 1:=by omega
    have u4 : (y : Int) ≤ (y : Int) + 1:=by omega
    clear hR hf CI CP CR CS CK h0 hY hYz hYp e1 hP hQ hPb hQb
    go_wp2_with fail
    refine (C1.out _).mono ?_
    rintro e w2 ⟨rfl, hb3⟩
    have HB2:=Lib.hid (HB.out.past hb3)
    have hb4:=hb2.trans (hb3.mono hb2.size)
    obtain ⟨a0, a1, a2, a3, a4⟩:=rules5 HB2.out
    clear hb2 hb3
    go_wp2_with fail
    refine (C2.out _).mono ?_
    rintro e w3 ⟨rfl, hb5⟩
    have HB3:=Lib.hid (HB2.out.past hb5)
    have hb6:=hb4.trans (hb5.mono hb4.size)
    clear hb4 hb5 a0 a1 a2 a3 a4
    go_wp2_with fail
    refine (C3.out _).mono ?_
    rintro e w4 ⟨A, c, rfl, hb7⟩
    have HB4:=Lib.hid ((HB3.out.past hb7).alloc (.cells #[.bool d, .string q, .bool sb, .string ⟨#[115, 101, 108, 102]⟩, .slice A 0 c] 24))
    have HX4:=Lib.hid (Blk.new w4 24 #[.bool d, .string q, .bool sb, .string ⟨#[115, 101, 108, 102]⟩, .slice A 0 c])
    have hb8:=hb6.trans (hb7.mono hb6.size)
    have hb9:=hb8.alloc hb8.size (.cells #[.bool d, .string q, .bool sb, .string ⟨#[115, 101, 108, 102]⟩, .slice A 0 c] 24)
    clear hb6 hb7 hb8
    go_wp2_with fail
    go_region
    have hb10:=(hb9.alloc hb9.size (.cells #[.bool false, .string (P ++ Q), .bool false, .string ⟨#[97, 110, 121]⟩, .slice none 0 0] 24)).drew
    have HB5:=Lib.hid (HB4.out.alloc (.cells #[.bool false, .string (P ++ Q), .bool false, .string ⟨#[97, 110, 121]⟩, .slice none 0 0] 24)).drew
    have HX5:=Lib.hid (HX4.out.alloc (.cells #[.bool false, .string (P ++ Q), .bool false, .string ⟨#[97, 110, 121]⟩, .slice none 0 0] 24)).drew
    have hy5:=(Blk.newd (w4.alloc (.cells #[.bool d, .string q, .bool sb, .string ⟨#[115, 101, 108, 102]⟩, .slice A 0 c] 24)) 24 #[.bool false, .string (P ++ Q), .bool false, .string ⟨#[97, 110, 121]⟩, .slice none 0 0])
    rw [show (w4.alloc (.cells #[.bool d, .string q, .bool sb, .string ⟨#[115, 101, 108, 102]⟩, .slice A 0 c] 24)).heap.size = w4.heap.size + 1 by simp] at hy5
    have HY5:=Lib.hid hy5
    clear hy5
    obtain ⟨a0, a1, a2, a3, a4⟩:=rules5 HB5.out
    obtain ⟨b0, b1, b2, b3, b4⟩:=rules5 HX5.out
    clear hb9
    go_wp2_with fail
    refine (C4.out A c _).mono ?_
    rintro e w6 ⟨rfl, hb11⟩
    obtain ⟨c0, c1, c2, c3, c4⟩:=rules5 (HY5.out.past hb11)
    go_wp2_with fail
    refine (C5.out _).mono ?_
    rintro e w7 ⟨rfl, hb12⟩
    have hb13:=(hb10.trans (hb11.mono hb10.size)).trans (hb12.mono (Nat.le_trans hb10.size hb11.size))
    go_wp2_with fail
    go_ret
    exact ⟨rfl, hb13⟩
theorem walk_RuleLetters (m : Int) (hm : (Lit.int .u8 m).wf = true) (a : Int) (ha : (Lit.int .u8 a).wf = true) (b : Int) (hb : (Lit.int .u8 b).wf = true) (d sb : Bool) (w : World) :
  Calls Tryd.prog 5 #[.int .u8 m, .int .u8 a, .int .u8 b, .bool d, .bool sb] w fun r w'=>r = .returned (.bool true) ∧ Below w.heap.size w w':=by
 have h1:=wf_u8 ha
 have h2:=wf_u8 hb
 exact letters_go m a b d sb (a % 6).toNat (b % 6).toNat w (wf_u8 hm) h1 h2 (by omega) (by omega) (by omega) (by omega)
end Go.Proofs.YtpnlalfdgngcdaaDoor.Ru
