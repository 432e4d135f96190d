import Derived.Test.YtpnlalfdgngcdaaDoorZA30
set_option linter.unusedVariables false
set_option maxRecDepth 100000
namespace Go.Proofs.YtpnlalfdgngcdaaDoor.Ru
open Go.RowKit
def K1 : ByteArray:=⟨#[103, 114, 97, 110, 116, 32, 114, 115, 32, 115, 117, 98, 32, 99, 110, 44, 115, 110, 32, 100, 110, 58, 99, 110, 61, 97, 32, 98]⟩
def r1 : Rul:=⟨false, ⟨#[114, 115]⟩, true, ⟨#[100, 110, 58, 99, 110, 61, 97, 32, 98]⟩, [⟨#[99, 110]⟩, ⟨#[115, 110]⟩]⟩
theorem isR_r1 : isR r1 = true:=by kernel_rfl
theorem pr_r1 : Nm.mk (pr r1) = K1:=by kernel_rfl
theorem parse_K1 : parse (Nm.bs K1) = some r1:=by rw [← pr_r1]; exact parse_pr isR_r1
theorem parse_K2 : parse (Nm.bs (⟨#[103, 114, 97, 110, 116, 32, 115, 114, 32, 115, 117, 98, 32, 42, 32, 97, 110, 121]⟩ : ByteArray)) = none:=by kernel_rfl
theorem isR_zero : isR ⟨false, ⟨#[]⟩, false, ⟨#[]⟩, []⟩ = false:=by kernel_rfl
theorem fit_r1 : Fit ⟨#[114, 115]⟩ ⟨#[100, 110, 58, 99, 110, 61, 97, 32, 98]⟩ [⟨#[99, 110]⟩, ⟨#[115, 110]⟩]:=⟨by decide, by decide, by decide, by decide⟩
theorem fit_zero : Fit ⟨#[]⟩ ⟨#[]⟩ []:=⟨by decide, by decide, by decide, by simp⟩
set_option maxHeartbeats 4000000 in
theorem known_any (w : World) : Calls Tryd.prog 6 #[] w fun e w'=>e = .returned (.bool true) ∧ Below w.heap.size w w':=by
 have C1 : Hid (∀ w, Calls Tryd.prog 10 #[.string ⟨#[103, 114, 97, 110, 116, 32, 114, 115, 32, 115, 117, 98, 32, 99, 110, 44, 115, 110, 32, 100, 110, 58, 99, 110, 61, 97, 32, 98]⟩] w fun e w'=>∃ A c, e = .returned (.tuple #[.agg #[.bool false, .string ⟨#[114, 115]⟩, .bool true, .string ⟨#[100, 110, 58, 99, 110, 61, 97, 32, 98]⟩, .slice A 2 c], .int .i64 0]) ∧ 2 ≤ c ∧ StrsAt w' (fun b=>w.heap.size ≤ b ∧ b < w'.heap.size) A [⟨#[99, 110]⟩, ⟨#[115, 110]⟩] ∧ Below w.heap.size w w'):=fun w=>by
  have h:=parse_any K1 w (by decide)
  rw [parse_K1] at h
  exact h
 have C2 : Hid (∀ w, Calls Tryd.prog 10 #[.string ⟨#[103, 114, 97, 110, 116, 32, 115, 114, 32, 115, 117, 98, 32, 42, 32, 97, 110, 121]⟩] w fun e w'=>e = .returned (.tuple #[.agg #[.bool false, .string ⟨#[]⟩, .bool false, .string ⟨#[]⟩, .slice none 0 0], .int .i64 20]) ∧ Below w.heap.size w w'):=fun w=>by
  have h:=parse_any ⟨#[103, 114, 97, 110, 116, 32, 115, 114, 32, 115, 117, 98, 32, 42, 32, 97, 110, 121]⟩ w (by decide)
  rw [parse_K2] at h
  exact h
 have C3 : Hid (∀ A c w, 2 ≤ c → StrsAt w (· < w.heap.size) A [⟨#[99, 110]⟩, ⟨#[115, 110]⟩] → Calls Tryd.prog 13 #[.agg #[.bool false, .string ⟨#[114, 115]⟩, .bool true, .string ⟨#[100, 110, 58, 99, 110, 61, 97, 32, 98]⟩, .slice A 2 c]] w fun e w'=>e = .returned (.string ⟨#[103, 114, 97, 110, 116, 32, 114, 115, 32, 115, 117, 98, 32, 99, 110, 44, 115, 110, 32, 100, 110, 58, 99, 110, 61, 97, 32, 98]⟩) ∧ Below w.heap.size w w'):=fun A c w hc h=>by
  have h:=print_any false ⟨#[114, 115]⟩ true ⟨#[100, 110, 58, 99, 110, 61, 97, 32, 98]⟩ [⟨#[99, 110]⟩, ⟨#[115, 110]⟩] A c w h fit_r1 hc
  rw [if_pos (show isR ⟨false, ⟨#[114, 115]⟩, true, ⟨#[100, 110, 58, 99, 110, 61, 97, 32, 98]⟩, [⟨#[99, 110]⟩, ⟨#[115, 110]⟩]⟩ = true from isR_r1), show Nm.mk (pr ⟨false, ⟨#[114, 115]⟩, true, ⟨#[100, 110, 58, 99, 110, 61, 97, 32, 98]⟩, [⟨#[99, 110]⟩, ⟨#[115, 110]⟩]⟩) = K1 from pr_r1] at h
  exact h
 have C4 : Hid (∀ A c w, StrsAt w (· < w.heap.size) A [⟨#[99, 110]⟩, ⟨#[115, 110]⟩] → Calls Tryd.prog 12 #[.agg #[.bool false, .string ⟨#[114, 115]⟩, .bool true, .string ⟨#[100, 110, 58, 99, 110, 61, 97, 32, 98]⟩, .slice A 2 c]] w fun e w'=>e = .returned (.bool true) ∧ Below w.heap.size w w'):=fun A c w h=>by
  have h:=is_any false ⟨#[114, 115]⟩ true ⟨#[100, 110, 58, 99, 110, 61, 97, 32, 98]⟩ [⟨#[99, 110]⟩, ⟨#[115, 110]⟩] A c w h fit_r1
  rw [show isR ⟨false, ⟨#[114, 115]⟩, true, ⟨#[100, 110, 58, 99, 110, 61, 97, 32, 98]⟩, [⟨#[99, 110]⟩, ⟨#[115, 110]⟩]⟩ = true from isR_r1] at h
  exact h
 have C5 : Hid (∀ w, Calls Tryd.prog 12 #[.agg #[.bool false, .string ⟨#[]⟩, .bool false, .string ⟨#[]⟩, .slice none 0 0]] w fun e w'=>e = .returned (.bool false) ∧ Below w.heap.size w w'):=fun w=>by
  have h:=is_any false ⟨#[]⟩ false ⟨#[]⟩ [] none 0 w (StrsAt.nil _ _ _) fit_zero
  rw [isR_zero] at h
  exact h
 have C6 : Hid (∀ A c w, StrsAt w (· < w.heap.size) A [⟨#[99, 110]⟩, ⟨#[115, 110]⟩] → Calls Tryd.prog 14 #[.agg #[.bool false, .string ⟨#[114, 115]⟩, .bool true, .string ⟨#[100, 110, 58, 99, 110, 61, 97, 32, 98]⟩, .slice A 2 c], .agg #[.bool false, .string ⟨#[114, 115]⟩, .bool true, .string ⟨#[100, 110, 58, 99, 110, 61, 97, 32, 98]⟩, .slice A 2 c]] w fun e w'=>e = .returned (.bool true) ∧ Below w.heap.size w w'):=fun A c w h=>by
  have h:=same_any false ⟨#[114, 115]⟩ true ⟨#[100, 110, 58, 99, 110, 61, 97, 32, 98]⟩ [⟨#[99, 110]⟩, ⟨#[115, 110]⟩] A c false ⟨#[114, 115]⟩ true ⟨#[100, 110, 58, 99, 110, 61, 97, 32, 98]⟩ [⟨#[99, 110]⟩, ⟨#[115, 110]⟩] A c w h h (by decide) (by decide)
  rw [sameR_self] at h
  exact h
 go_enter Tryd.func6, Tryd.ntmps6
 go_wp2_with fail
 refine (C1.out _).mono ?_
 rintro e w1 ⟨A, c, rfl, hc, hS, hb1⟩
 have HS1:=Lib.hid (hS.imp (P':=fun b=>b < w1.heap.size) (fun b hb=>hb.2) (fun _ _=>rfl))
 have HB:=Lib.hid (Blk.new w1 24 #[.bool false, .string ⟨#[114, 115]⟩, .bool true, .string ⟨#[100, 110, 58, 99, 110, 61, 97, 32, 98]⟩, .slice A 2 c])
 have HC:=Lib.hid hc
 have hb2:=hb1.alloc hb1.size (.cells #[.bool false, .string ⟨#[114, 115]⟩, .bool true, .string ⟨#[100, 110, 58, 99, 110, 61, 97, 32, 98]⟩, .slice A 2 c] 24)
 have HS2:=Lib.hid (HS1.out.alloc (.cells #[.bool false, .string ⟨#[114, 115]⟩, .bool true, .string ⟨#[100, 110, 58, 99, 110, 61, 97, 32, 98]⟩, .slice A 2 c] 24))
 clear hS hb1 hc
 go_wp2_with fail
 refine (C2.out _).mono ?_
 rintro e w3 ⟨rfl, hb3⟩
 have HB3:=Lib.hid ((HB.out.past hb3).alloc (.cells #[.bool false, .string ⟨#[]⟩, .bool false, .string ⟨#[]⟩, .slice none 0 0] 24))
 have hb4:=(hb2.trans (hb3.mono hb2.size)).alloc (Nat.le_trans hb2.size hb3.size) (.cells #[.bool false, .string ⟨#[]⟩, .bool false, .string ⟨#[]⟩, .slice none 0 0] 24)
 have HS4:=Lib.hid ((HS2.out.past hb3).alloc (.cells #[.bool false, .string ⟨#[]⟩, .bool false, .string ⟨#[]⟩, .slice none 0 0] 24))
 obtain ⟨a0, a1, a2, a3, a4⟩:=rules5 HB3.out
 clear hb2 hb3
 go_wp2_with fail
 refine (C3.out A c _ HC.out HS4.out).mono ?_
 rintro e w5 ⟨rfl, hb5⟩
 have HB5:=Lib.hid (HB3.out.past hb5)
 have hb6:=hb4.trans (hb5.mono hb4.size)
 have HS5:=Lib.hid (HS4.out.past hb5)
 clear a0 a1 a2 a3 a4 hb4 hb5
 obtain ⟨a0, a1, a2, a3, a4⟩:=rules5 HB5.out
 go_wp2_with fail
 refine (C4.out A c _ HS5.out).mono ?_
 rintro e w6 ⟨rfl, hb7⟩
 have HB6:=Lib.hid (HB5.out.past hb7)
 have hb8:=hb6.trans (hb7.mono hb6.size)
 have HS6:=Lib.hid (HS5.out.past hb7)
 clear a0 a1 a2 a3 a4 hb6 hb7
 obtain ⟨a0, a1, a2, a3, a4⟩:=rules5 HB6.out
 go_wp2_with fail
 refine (C5.out _).mono ?_
 rintro e w7 ⟨rfl, hb9⟩
 have HB7:=Lib.hid (HB6.out.past hb9)
 have hb10:=hb8.trans (hb9.mono hb8.size)
 have HS7:=Lib.hid (HS6.out.past hb9)
 clear a0 a1 a2 a3 a4 hb8 hb9
 obtain ⟨a0, a1, a2, a3, a4⟩:=rules5 HB7.out
 go_wp2_with fail
 refine (C6.out A c _ HS7.out).mono ?_
 rintro e w8 ⟨rfl, hb11⟩
 have hb12:=hb10.trans (hb11.mono hb10.size)
 go_wp2_with fail
 go_ret
 exact ⟨rfl, hb12⟩
end Go.Proofs.YtpnlalfdgngcdaaDoor.Ru
