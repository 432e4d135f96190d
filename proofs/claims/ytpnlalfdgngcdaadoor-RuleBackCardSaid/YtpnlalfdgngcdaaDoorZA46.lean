import Derived.Test.YtpnlalfdgngcdaaDoorZA12
import Derived.Test.YtpnlalfdgngcdaaDoorZA28
import Derived.Test.YtpnlalfdgngcdaaDoorZA31
import Derived.Test.YtpnlalfdgngcdaaDoorZA43
set_option linter.unusedVariables false
set_option maxRecDepth 100000
namespace Go.Proofs.YtpnlalfdgngcdaaDoor.Ru
open Go.RowKit
theorem wf_u8b {a : Int} (h : (Lit.int .u8 a).wf = true) : 0 ≤ a ∧ a ≤ 255:=by simpa [Lit.wf, IntKind.min, IntKind.max, IntKind.signed, IntKind.bits] using h
set_option maxHeartbeats 8000000 in
theorem back_go (d : Bool) (R : ByteArray) (sb : Bool) (W : ByteArray) (l : List ByteArray) (A : Option Addr) (c : Nat) (a : Int) (k : Nat) (w : World) (hr : RuIn w ⟨d, R, sb, W, l⟩ A c) (ha : 0 ≤ a ∧ a ≤ 255) (hk : a % 6 = k) (hk6 : k < 6) :
  Calls Tryd.prog 4 #[.agg #[.bool d, .string R, .bool sb, .string W, .slice A l.length c], .int .u8 a] w fun r w'=>r = .returned (.bool true) ∧ Below w.heap.size w w':=by
 obtain ⟨zr, zw, hcap, hlen, hea, hstr⟩:=hr
 have hcap : l.length ≤ c:=hcap
 have CK:=Lib.hid known_any
 have hb0 : Below w.heap.size w (w.alloc (.cells #[.bool d, .string R, .bool sb, .string W, .slice A l.length c] 24)):=(Below.refl _ _).alloc (Nat.le_refl _) _
 have HB:=Lib.hid (Blk.new w 24 #[.bool d, .string R, .bool sb, .string W, .slice A l.length c])
 have HS:=Lib.hid (hstr.past hb0)
 have HF:=Lib.hid (fun w h=>few_any d R sb W l A c w h hlen zr zw hea)
 obtain ⟨fe, hfe⟩ : ∃ fe, fe = fewR R W l:=⟨_, rfl⟩
 rw [← hfe] at HF
 have HFE:=Lib.hid hfe
 have CI:=Lib.hid (fun w h hf=>is_any d R sb W l A c w h hf)
 obtain ⟨ie, hie⟩ : ∃ ie, ie = isR ⟨d, R, sb, W, l⟩:=⟨_, rfl⟩
 rw [← hie] at CI
 have HIE:=Lib.hid hie
 have CP:=Lib.hid (fun w h hf=>print_any d R sb W l A c w h hf hcap)
 have CR:=Lib.hid parse_any
 have CS:=Lib.hid rsame_any
 obtain ⟨hk0, hk1⟩:=ha
 have hcapH:=Lib.hid hcap
 clear zr zw hcap hlen hea hstr hfe hie
 go_enter Tryd.func4, Tryd.ntmps4
 go_wp2_with fail
 refine (CK.out _).mono ?_
 rintro e w1 ⟨rfl, hb1⟩
 have HB1:=Lib.hid (HB.out.past hb1)
 have HS1:=Lib.hid (HS.out.past hb1)
 have hbw1:=hb0.trans (hb1.mono hb0.size)
 obtain ⟨a0, a1, a2, a3, a4⟩:=rules5 HB1.out
 clear hb1 hb0 HB HS
 go_wp2_with fail
 refine (HF.out _ HS1.out).mono ?_
 rintro e w2 ⟨rfl, hb2⟩
 have HB2:=Lib.hid (HB1.out.past hb2)
 have HS2:=Lib.hid (HS1.out.past hb2)
 have hbw2:=hbw1.trans (hb2.mono hbw1.size)
 clear a0 a1 a2 a3 a4
 obtain ⟨a0, a1, a2, a3, a4⟩:=rules5 HB2.out
 clear hb2 hbw1 HB1 HS1 HF
 cases fe with
 | false =>
  go_wp2_with fail
  go_ret
  exact ⟨rfl, hbw2⟩
 | true =>
  obtain ⟨hfit, hw200⟩:=fewR_fit HFE.out.symm
  have HFit:=Lib.hid hfit
  clear hfit HFE
  go_wp2_with fail
  refine (CI.out _ HS2.out HFit.out).mono ?_
  rintro e w3 ⟨rfl, hb3⟩
  have HB3:=Lib.hid (HB2.out.past hb3)
  have HS3:=Lib.hid (HS2.out.past hb3)
  have hbw3:=hbw2.trans (hb3.mono hbw2.size)
  clear a0 a1 a2 a3 a4
  obtain ⟨a0, a1, a2, a3, a4⟩:=rules5 HB3.out
  clear hb3 hbw2 HB2 HS2 CI
  cases ie with
  | false =>
   go_wp2_with fail
   go_ret
   exact ⟨rfl, hbw3⟩
  | true =>
   have hi : isR ⟨d, R, sb, W, l⟩ = true:=HIE.out.symm
   have C1:=fun w h=>CP.out w h HFit.out
   rw [if_pos hi] at C1
   obtain ⟨Y, hY⟩ : ∃ Y, Y = Nm.mk (pr ⟨d, R, sb, W, l⟩):=⟨_, rfl⟩
   rw [← hY] at C1
   have HC1:=Lib.hid C1
   have hYl : (Nm.bs Y).length = Y.size:=rfl
   have hYb : Nm.bs Y = pr ⟨d, R, sb, W, l⟩:=by rw [hY]
   obtain ⟨hY12, hYm⟩:=pr_len hi
   have hY12 : 12 ≤ Y.size:=by rw [← hYl, hYb]; exact hY12
   have hYm : Y.size ≤ 500:=by
    rw [← hYl, hYb]
    have : (Rul.mk d R sb W l).who.size = W.size:=rfl
    omega
   have C2 : Hid (∀ w, Calls Tryd.prog 10 #[.string Y] w fun e w'=>∃ A c, e = .returned (.tuple #[.agg #[.bool d, .string R, .bool sb, .string W, .slice A l.length c], .int .i64 0]) ∧ l.length ≤ c ∧ StrsAt w' (fun b=>w.heap.size ≤ b ∧ b < w'.heap.size) A l ∧ Below w.heap.size w w'):=fun w=>by
    have h:=CR.out Y w (by omega)
    rw [hYb, parse_pr hi] at h
    exact h
   have CZ : ∀ (s : ByteArray), s.size ≤ 2000 → parse (Nm.bs s) = none → ∀ w, Calls Tryd.prog 10 #[.string s] w fun e w'=>e = .returned (.tuple #[.agg #[.bool false, .string ⟨#[]⟩, .bool false, .string ⟨#[]⟩, .slice none 0 0], .int .i64 20]) ∧ Below w.heap.size w w':=fun s hs hp w=>by
    have h:=CR.out s w (by omega)
    rw [hp] at h
    exact h
   obtain ⟨P, hP⟩ : ∃ P, P = Y.extract 0 k:=⟨_, rfl⟩
   obtain ⟨Q, hQ⟩ : ∃ Q, Q = Y.extract k Y.size:=⟨_, rfl⟩
   obtain ⟨V, hV⟩ : ∃ V, V = Y.extract 5 Y.size:=⟨_, rfl⟩
   have hPb : Nm.bs P = (Nm.bs Y).take k:=by rw [hP, ext_take]
   have hQb : Nm.bs Q = (Nm.bs Y).drop k:=by rw [hQ, ext_drop]
   have hVb : Nm.bs V = (Nm.bs Y).drop 5:=by rw [hV, ext_drop]
   have hPs : P.size ≤ Y.size:=by
    have:=congrArg List.length hPb
    rw [List.length_take] at this
    have h9 : (Nm.bs P).length = P.size:=rfl
    omega
   have hQs : Q.size ≤ Y.size:=by
    have:=congrArg List.length hQb
    rw [List.length_drop] at this
    have h9 : (Nm.bs Q).length = Q.size:=rfl
    omega
   have hVs : V.size ≤ Y.size:=by
    have:=congrArg List.length hVb
    rw [List.length_drop] at this
    have h9 : (Nm.bs V).length = V.size:=rfl
    omega
   have C4 : Hid (∀ w, Calls Tryd.prog 10 #[.string (P ++ ⟨#[32]⟩ ++ Q)] w fun e w'=>e = .returned (.tuple #[.agg #[.bool false, .string ⟨#[]⟩, .bool false, .string ⟨#[]⟩, .slice none 0 0], .int .i64 20]) ∧ Below w.heap.size w w'):=CZ _ (by
     rw [ByteArray.size_append, ByteArray.size_append]
     have : (⟨#[32]⟩ : ByteArray).size = 1:=rfl
     omega) (by
     rw [bs_app, bs_app, hPb, hQb, hYb, show (Nm.bs (⟨#[32]⟩ : ByteArray)) = [32] from rfl, List.append_assoc]
     exact back_blank hi k hk6)
   have C5 : Hid (∀ w, Calls Tryd.prog 10 #[.string V] w fun e w'=>e = .returned (.tuple #[.agg #[.bool false, .string ⟨#[]⟩, .bool false, .string ⟨#[]⟩, .slice none 0 0], .int .i64 20]) ∧ Below w.heap.size w w'):=CZ _ (by omega) (by rw [hVb, hYb]; exact back_cut hi)
   have C6 : Hid (∀ w, Calls Tryd.prog 10 #[.string ⟨#[]⟩] w fun e w'=>e = .returned (.tuple #[.agg #[.bool false, .string ⟨#[]⟩, .bool false, .string ⟨#[]⟩, .slice none 0 0], .int .i64 20]) ∧ Below w.heap.size w w'):=CZ _ (by decide) back_nil
   have C3 : Hid (∀ A' c' w, StrsAt w (· < w.heap.size) A' l → StrsAt w (· < w.heap.size) A l → Calls Tryd.prog 15 #[.agg #[.bool d, .string R, .bool sb, .string W, .slice A' l.length c'], .agg #[.bool d, .string R, .bool sb, .string W, .slice A l.length c]] w fun e w'=>e = .returned (.bool true) ∧ Below w.heap.size w w'):=fun A' c' w h1 h2=>by
    have hn : l.length ≤ maxLen:=by have:=HFit.out.n; unfold maxLen; omega
    have h:=CS.out d R sb W l A' c' d R sb W l A c w h1 h2 hn hn
    rw [sameR_self] at h
    exact h
   have hX1:=hP.symm
   have hX2:=hQ.symm
   have hX3:=hV.symm
   have n1 : ¬ (9223372036854775807 < P.size + 1):=by omega
   have n2 : ¬ (9223372036854775807 < P.size + 1 + Q.size):=by omega
   have u1 : (k : Int) ≤ Y.size:=by omega
   have u2 : (5 : Int) ≤ Y.size:=by omega
   have u3 : ¬ ((Y.size : Int) < 12):=by omega
   clear hi C1 hY hYl hYb CZ hP hQ hV hPb hQb hVb CP CR CS HIE hw200
   go_wp2_with fail
   refine (HC1.out _ HS3.out).mono ?_
   rintro e w4 ⟨rfl, hb4⟩
   have HB4:=Lib.hid (HB3.out.past hb4)
   have HS4:=Lib.hid (HS3.out.past hb4)
   have hbw4:=hbw3.trans (hb4.mono hbw3.size)
   clear a0 a1 a2 a3 a4 hb4 hbw3 HB3 HS3
   go_wp2_with fail
   refine (C2.out _).mono ?_
   rintro e w5 ⟨A2, c2, rfl, hc2, hS5, hb5⟩
   have HB5:=Lib.hid ((HB4.out.past hb5).alloc (.cells #[.bool d, .string R, .bool sb, .string W, .slice A2 l.length c2] 24))
   have HX5:=Lib.hid (Blk.new w5 24 #[.bool d, .string R, .bool sb, .string W, .slice A2 l.length c2])
   have HS5:=Lib.hid ((HS4.out.past hb5).alloc (.cells #[.bool d, .string R, .bool sb, .string W, .slice A2 l.length c2] 24))
   have HT5:=Lib.hid ((hS5.imp (P':=fun b=>b < w5.heap.size) (fun b hb=>hb.2) (fun _ _=>rfl)).alloc (.cells #[.bool d, .string R, .bool sb, .string W, .slice A2 l.length c2] 24))
   have hbw5:=(hbw4.trans (hb5.mono hbw4.size)).alloc (Nat.le_trans hbw4.size hb5.size) (.cells #[.bool d, .string R, .bool sb, .string W, .slice A2 l.length c2] 24)
   obtain ⟨a0, a1, a2, a3, a4⟩:=rules5 HB5.out
   obtain ⟨b0, b1, b2, b3, b4⟩:=rules5 HX5.out
   clear hb5 hbw4 HB4 HS4 hS5
   go_wp2_with fail
   refine (C3.out A2 c2 _ HT5.out HS5.out).mono ?_
   rintro e w6 ⟨rfl, hb6⟩
   have hbw6:=hbw5.trans (hb6.mono hbw5.size)
   clear hbw5 hb6 a0 a1 a2 a3 a4 b0 b1 b2 b3 b4
   go_wp2_with fail
   go_region_with (first | (go_at_call 10; refine (C4.out _).mono ?_; rintro e w7 ⟨rfl, hb7⟩; (try (have BX:=(Blk.newd w6 24 #[.bool false, .string ⟨#[]⟩, .bool false, .string ⟨#[]⟩, .slice none 0 0]).past hb7; obtain ⟨y0, y1, y2, y3, y4⟩:=rules5 BX; obtain ⟨z0, z1, z2, z3, z4⟩:=frozen5 BX; clear BX))))
   all_goals
    first
     | have hB:=(hbw6.drew.trans (hb7.mono hbw6.size)).alloc (Nat.le_trans hbw6.size hb7.size) (.cells #[.bool false, .string ⟨#[]⟩, .bool false, .string ⟨#[]⟩, .slice none 0 0] 24)
     | have hB:=below5 (((hbw6.alloc hbw6.size (.cells #[.bool false, .string ⟨#[]⟩, .bool false, .string ⟨#[]⟩, .slice none 0 0] 24)).drew).trans (hb7.mono (Nat.le_trans hbw6.size (by simp)))) (g:=w6.heap.size) hbw6.size (.bool false) (.string ⟨#[]⟩) (.bool false) (.string ⟨#[]⟩) (.slice none 0 0)
    try clear y0 y1 y2 y3 y4 z0 z1 z2 z3 z4
    go_wp2_with fail
    refine (C5.out _).mono ?_
    rintro e w8 ⟨rfl, hb8⟩
    have hB8:=hB.trans (hb8.mono hB.size)
    go_wp2_with fail
    refine (C6.out _).mono ?_
    rintro e w9 ⟨rfl, hb9⟩
    have hB9:=(hB8.alloc hB8.size (.cells #[.bool false, .string ⟨#[]⟩, .bool false, .string ⟨#[]⟩, .slice none 0 0] 24)).trans (hb9.mono (Nat.le_trans hB8.size (by simp)))
    go_wp2_with fail
    go_ret
    exact ⟨rfl, hB9.alloc hB9.size _⟩
theorem walk_RuleBack (w : World) (r : Rul) (A : Option Addr) (c : Nat) (hr : RuIn w r A c) (a : Int) (ha : (Lit.int .u8 a).wf = true) :
  Calls Tryd.prog 4 #[.agg #[.bool r.deny, .string r.rights, .bool r.sub, .string r.who, .slice A r.attrs.length c], .int .u8 a] w fun r w'=>r = .returned (.bool true) ∧ Below w.heap.size w w':=by
 obtain ⟨d, R, sb, W, l⟩:=r
 have h1:=wf_u8b ha
 exact back_go d R sb W l A c a (a % 6).toNat w hr h1 (by omega) (by omega)
end Go.Proofs.YtpnlalfdgngcdaaDoor.Ru
