import Derived.Test.YtpnlalfdgngcdaaDoorZA9
set_option linter.unusedVariables false
set_option maxRecDepth 100000
namespace Go.Proofs.YtpnlalfdgngcdaaDoor.Ru
open Go.RowKit
theorem trim_skip (c : UInt8) (l : List UInt8) : Lib.trimPrefix l [c] = skip c l:=by
 unfold Lib.trimPrefix Lib.hasPrefix
 cases l with
 | nil=>rfl
 | cons b r =>
  rw [skip]
  show (if ((c == b) && List.isPrefixOf [] r) = true then _ else _) = _
  have h1 : List.isPrefixOf [] r = true:=by cases r <;> rfl
  rw [h1, Bool.and_true]
  by_cases h : b = c
  ·rw [if_pos h, if_pos (by rw [h]; exact beq_self_eq_true c)]; rfl
  ·rw [if_neg h, if_neg (by rw [beq_iff_eq]; exact fun e=>h e.symm)]
set_option maxHeartbeats 400000 in
theorem skip_any (c : UInt8) (hc : c ∈ letters) (s : ByteArray) (w : World) :
  Calls Tryd.prog 36 #[.string s, .int .i32 c.toNat] w fun e w'=>e = .returned (.string (Nm.mk (skip c (Nm.bs s)))) ∧ w = w':=by
 have hT:=(Tryd.strings_TrimPrefix s ⟨#[c]⟩ w)
 rw [show (⟨#[c]⟩ : ByteArray).data.toList = [c] from rfl, trim_skip] at hT
 have HT:=Lib.hid hT
 clear hT
 rcases lett hc with rfl | rfl | rfl | rfl | rfl | rfl
 all_goals
  go_enter Tryd.func36, Tryd.ntmps36
  go_wp2_with fail
  refine HT.out.mono ?_
  rintro e w1 ⟨rfl, rfl⟩
  go_wp2_with fail
  go_ret
  exact ⟨rfl, rfl⟩
theorem isE_mk (l : List UInt8) : (Nm.mk l).toList.isEmpty = l.isEmpty:=by
 rw [isE]
 show decide (l.toArray.size = 0) = _
 cases l <;> rfl
theorem skip_on {c b : UInt8} (h : ¬ b = c) (r : List UInt8) : skip c (b :: r) = b :: r:=by rw [skip, if_neg h]
theorem rights_in (c : UInt8) (r : List UInt8) : isRights (c :: r) = (skip 100 (skip 97 (skip 119 (skip 99 (skip 115 (skip 114 (c :: r))))))).isEmpty:=rfl
set_option maxHeartbeats 2000000 in
theorem areRights_any (s : ByteArray) (w : World) :
  Calls Tryd.prog 22 #[.string s] w fun e w'=>e = .returned (.bool (isRights (Nm.bs s))) ∧ w = w':=by
 by_cases h0 : s.size = 0
 ·have h1:=nil_of s h0
  have h2:=nilD_of s h0
  go_enter Tryd.func22, Tryd.ntmps22
  go_wp2_with fail
  go_ret
  exact ⟨ret_bool (by rw [show Nm.bs s = [] from h2]; rfl), rfl⟩
 have hnE:=isE_of s (by omega)
 have hlt : 0 < s.size:=by omega
 have hbs : Nm.bs s = s[0] :: (Nm.bs s).drop 1:=drop_at (s:=s) (k:=0) hlt
 have HR:=rights_in s[0] ((Nm.bs s).drop 1)
 rw [← hbs] at HR
 have C0 : Hid (∀ (s : ByteArray) (w : World), Calls Tryd.prog 36 #[.string s, .int .i32 114] w fun e w'=>e = .returned (.string (Nm.mk (skip 114 (Nm.bs s)))) ∧ w = w'):=fun s w=>skip_any 114 (by decide) s w
 have C1 : Hid (∀ (s : ByteArray) (w : World), Calls Tryd.prog 36 #[.string s, .int .i32 115] w fun e w'=>e = .returned (.string (Nm.mk (skip 115 (Nm.bs s)))) ∧ w = w'):=fun s w=>skip_any 115 (by decide) s w
 have C2 : Hid (∀ (s : ByteArray) (w : World), Calls Tryd.prog 36 #[.string s, .int .i32 99] w fun e w'=>e = .returned (.string (Nm.mk (skip 99 (Nm.bs s)))) ∧ w = w'):=fun s w=>skip_any 99 (by decide) s w
 have C3 : Hid (∀ (s : ByteArray) (w : World), Calls Tryd.prog 36 #[.string s, .int .i32 119] w fun e w'=>e = .returned (.string (Nm.mk (skip 119 (Nm.bs s)))) ∧ w = w'):=fun s w=>skip_any 119 (by decide) s w
 have C4 : Hid (∀ (s : ByteArray) (w : World), Calls Tryd.prog 36 #[.string s, .int .i32 97] w fun e w'=>e = .returned (.string (Nm.mk (skip 97 (Nm.bs s)))) ∧ w = w'):=fun s w=>skip_any 97 (by decide) s w
 have C5 : Hid (∀ (s : ByteArray) (w : World), Calls Tryd.prog 36 #[.string s, .int .i32 100] w fun e w'=>e = .returned (.string (Nm.mk (skip 100 (Nm.bs s)))) ∧ w = w'):=fun s w=>skip_any 100 (by decide) s w
 have nat_ne : ∀ {b c : UInt8}, ¬ b.toNat = c.toNat → ((b.toNat : Int) == (c.toNat : Int)) = false:=fun h=>by rw [beq_eq_false_iff_ne]; omega
 have nat_eq : ∀ {b c : UInt8}, b.toNat = c.toNat → ((b.toNat : Int) == (c.toNat : Int)) = true:=fun h=>by rw [beq_iff_eq]; omega
 have u_ne : ∀ {b c : UInt8}, ¬ b.toNat = c.toNat → ¬ b = c:=fun h e=>h (by rw [e])
 have u_eq : ∀ {b c : UInt8}, b.toNat = c.toNat → b = c:=fun h=>UInt8.toNat_inj.1 h
 by_cases g0 : s[0].toNat = (114 : UInt8).toNat
 ·skip
  have k0 : ((s[0].toNat : Int) == 114) = true:=nat_eq g0
  have e0 : s[0] = 114:=u_eq g0
  have HR : Hid (isRights (Nm.bs s) = (skip 100 (skip 97 (skip 119 (skip 99 (skip 115 (skip 114 (Nm.bs s))))))).isEmpty):=by
   show _ = _
   rw [HR, hbs]
  clear nat_ne nat_eq u_ne u_eq hbs e0 g0
  go_enter Tryd.func22, Tryd.ntmps22
  go_wp2_with fail
  refine (C0.out _ _).mono ?_
  rintro e w1 ⟨rfl, rfl⟩
  generalize hx0 : Nm.mk (skip 114 (Nm.bs s)) = x0
  have X0:=Lib.hid hx0
  clear hx0
  go_wp2_with fail
  refine (C1.out _ _).mono ?_
  rintro e w1 ⟨rfl, rfl⟩
  generalize hx1 : Nm.mk (skip 115 (Nm.bs x0)) = x1
  have X1:=Lib.hid hx1
  clear hx1
  go_wp2_with fail
  refine (C2.out _ _).mono ?_
  rintro e w1 ⟨rfl, rfl⟩
  generalize hx2 : Nm.mk (skip 99 (Nm.bs x1)) = x2
  have X2:=Lib.hid hx2
  clear hx2
  go_wp2_with fail
  refine (C3.out _ _).mono ?_
  rintro e w1 ⟨rfl, rfl⟩
  generalize hx3 : Nm.mk (skip 119 (Nm.bs x2)) = x3
  have X3:=Lib.hid hx3
  clear hx3
  go_wp2_with fail
  refine (C4.out _ _).mono ?_
  rintro e w1 ⟨rfl, rfl⟩
  generalize hx4 : Nm.mk (skip 97 (Nm.bs x3)) = x4
  have X4:=Lib.hid hx4
  clear hx4
  go_wp2_with fail
  refine (C5.out _ _).mono ?_
  rintro e w1 ⟨rfl, rfl⟩
  generalize hx5 : Nm.mk (skip 100 (Nm.bs x4)) = x5
  have X5:=Lib.hid hx5
  clear hx5
  go_wp2_with fail
  go_ret
  exact ⟨ret_bool (by rw [HR.out, ← X5.out, ← X4.out, ← X3.out, ← X2.out, ← X1.out, ← X0.out, isE_mk]), rfl⟩
 have n0 : ((s[0].toNat : Int) == 114) = false:=nat_ne g0
 by_cases g1 : s[0].toNat = (115 : UInt8).toNat
 ·skip
  have k1 : ((s[0].toNat : Int) == 115) = true:=nat_eq g1
  have e0 : s[0] = 115:=u_eq g1
  have HR : Hid (isRights (Nm.bs s) = (skip 100 (skip 97 (skip 119 (skip 99 (skip 115 (Nm.bs s)))))).isEmpty):=by
   show _ = _
   rw [HR, hbs, skip_on (c:=114) (u_ne g0)]
  clear nat_ne nat_eq u_ne u_eq hbs e0 g0 g1
  go_enter Tryd.func22, Tryd.ntmps22
  go_wp2_with fail
  refine (C1.out _ _).mono ?_
  rintro e w1 ⟨rfl, rfl⟩
  generalize hx1 : Nm.mk (skip 115 (Nm.bs s)) = x1
  have X1:=Lib.hid hx1
  clear hx1
  go_wp2_with fail
  refine (C2.out _ _).mono ?_
  rintro e w1 ⟨rfl, rfl⟩
  generalize hx2 : Nm.mk (skip 99 (Nm.bs x1)) = x2
  have X2:=Lib.hid hx2
  clear hx2
  go_wp2_with fail
  refine (C3.out _ _).mono ?_
  rintro e w1 ⟨rfl, rfl⟩
  generalize hx3 : Nm.mk (skip 119 (Nm.bs x2)) = x3
  have X3:=Lib.hid hx3
  clear hx3
  go_wp2_with fail
  refine (C4.out _ _).mono ?_
  rintro e w1 ⟨rfl, rfl⟩
  generalize hx4 : Nm.mk (skip 97 (Nm.bs x3)) = x4
  have X4:=Lib.hid hx4
  clear hx4
  go_wp2_with fail
  refine (C5.out _ _).mono ?_
  rintro e w1 ⟨rfl, rfl⟩
  generalize hx5 : Nm.mk (skip 100 (Nm.bs x4)) = x5
  have X5:=Lib.hid hx5
  clear hx5
  go_wp2_with fail
  go_ret
  exact ⟨ret_bool (by rw [HR.out, ← X5.out, ← X4.out, ← X3.out, ← X2.out, ← X1.out, isE_mk]), rfl⟩
 have n1 : ((s[0].toNat : Int) == 115) = false:=nat_ne g1
 by_cases g2 : s[0].toNat = (99 : UInt8).toNat
 ·skip
  have k2 : ((s[0].toNat : Int) == 99) = true:=nat_eq g2
  have e0 : s[0] = 99:=u_eq g2
  have HR : Hid (isRights (Nm.bs s) = (skip 100 (skip 97 (skip 119 (skip 99 (Nm.bs s))))).isEmpty):=by
   show _ = _
   rw [HR, hbs, skip_on (c:=114) (u_ne g0), skip_on (c:=115) (u_ne g1)]
  clear nat_ne nat_eq u_ne u_eq hbs e0 g0 g1 g2
  go_enter Tryd.func22, Tryd.ntmps22
  go_wp2_with fail
  refine (C2.out _ _).mono ?_
  rintro e w1 ⟨rfl, rfl⟩
  generalize hx2 : Nm.mk (skip 99 (Nm.bs s)) = x2
  have X2:=Lib.hid hx2
  clear hx2
  go_wp2_with fail
  refine (C3.out _ _).mono ?_
  rintro e w1 ⟨rfl, rfl⟩
  generalize hx3 : Nm.mk (skip 119 (Nm.bs x2)) = x3
  have X3:=Lib.hid hx3
  clear hx3
  go_wp2_with fail
  refine (C4.out _ _).mono ?_
  rintro e w1 ⟨rfl, rfl⟩
  generalize hx4 : Nm.mk (skip 97 (Nm.bs x3)) = x4
  have X4:=Lib.hid hx4
  clear hx4
  go_wp2_with fail
  refine (C5.out _ _).mono ?_
  rintro e w1 ⟨rfl, rfl⟩
  generalize hx5 : Nm.mk (skip 100 (Nm.bs x4)) = x5
  have X5:=Lib.hid hx5
  clear hx5
  go_wp2_with fail
  go_ret
  exact ⟨ret_bool (by rw [HR.out, ← X5.out, ← X4.out, ← X3.out, ← X2.out, isE_mk]), rfl⟩
 have n2 : ((s[0].toNat : Int) == 99) = false:=nat_ne g2
 by_cases g3 : s[0].toNat = (119 : UInt8).toNat
 ·skip
  have k3 : ((s[0].toNat : Int) == 119) = true:=nat_eq g3
  have e0 : s[0] = 119:=u_eq g3
  have HR : Hid (isRights (Nm.bs s) = (skip 100 (skip 97 (skip 119 (Nm.bs s)))).isEmpty):=by
   show _ = _
   rw [HR, hbs, skip_on (c:=114) (u_ne g0), skip_on (c:=115) (u_ne g1), skip_on (c:=99) (u_ne g2)]
  clear nat_ne nat_eq u_ne u_eq hbs e0 g0 g1 g2 g3
  go_enter Tryd.func22, Tryd.ntmps22
  go_wp2_with fail
  refine (C3.out _ _).mono ?_
  rintro e w1 ⟨rfl, rfl⟩
  generalize hx3 : Nm.mk (skip 119 (Nm.bs s)) = x3
  have X3:=Lib.hid hx3
  clear hx3
  go_wp2_with fail
  refine (C4.out _ _).mono ?_
  rintro e w1 ⟨rfl, rfl⟩
  generalize hx4 : Nm.mk (skip 97 (Nm.bs x3)) = x4
  have X4:=Lib.hid hx4
  clear hx4
  go_wp2_with fail
  refine (C5.out _ _).mono ?_
  rintro e w1 ⟨rfl, rfl⟩
  generalize hx5 : Nm.mk (skip 100 (Nm.bs x4)) = x5
  have X5:=Lib.hid hx5
  clear hx5
  go_wp2_with fail
  go_ret
  exact ⟨ret_bool (by rw [HR.out, ← X5.out, ← X4.out, ← X3.out, isE_mk]), rfl⟩
 have n3 : ((s[0].toNat : Int) == 119) = false:=nat_ne g3
 by_cases g4 : s[0].toNat = (97 : UInt8).toNat
 ·skip
  have k4 : ((s[0].toNat : Int) == 97) = true:=nat_eq g4
  have e0 : s[0] = 97:=u_eq g4
  have HR : Hid (isRights (Nm.bs s) = (skip 100 (skip 97 (Nm.bs s))).isEmpty):=by
   show _ = _
   rw [HR, hbs, skip_on (c:=114) (u_ne g0), skip_on (c:=115) (u_ne g1), skip_on (c:=99) (u_ne g2), skip_on (c:=119) (u_ne g3)]
  clear nat_ne nat_eq u_ne u_eq hbs e0 g0 g1 g2 g3 g4
  go_enter Tryd.func22, Tryd.ntmps22
  go_wp2_with fail
  refine (C4.out _ _).mono ?_
  rintro e w1 ⟨rfl, rfl⟩
  generalize hx4 : Nm.mk (skip 97 (Nm.bs s)) = x4
  have X4:=Lib.hid hx4
  clear hx4
  go_wp2_with fail
  refine (C5.out _ _).mono ?_
  rintro e w1 ⟨rfl, rfl⟩
  generalize hx5 : Nm.mk (skip 100 (Nm.bs x4)) = x5
  have X5:=Lib.hid hx5
  clear hx5
  go_wp2_with fail
  go_ret
  exact ⟨ret_bool (by rw [HR.out, ← X5.out, ← X4.out, isE_mk]), rfl⟩
 have n4 : ((s[0].toNat : Int) == 97) = false:=nat_ne g4
 by_cases g5 : s[0].toNat = (100 : UInt8).toNat
 ·skip
  have k5 : ((s[0].toNat : Int) == 100) = true:=nat_eq g5
  have e0 : s[0] = 100:=u_eq g5
  have HR : Hid (isRights (Nm.bs s) = (skip 100 (Nm.bs s)).isEmpty):=by
   show _ = _
   rw [HR, hbs, skip_on (c:=114) (u_ne g0), skip_on (c:=115) (u_ne g1), skip_on (c:=99) (u_ne g2), skip_on (c:=119) (u_ne g3), skip_on (c:=97) (u_ne g4)]
  clear nat_ne nat_eq u_ne u_eq hbs e0 g0 g1 g2 g3 g4 g5
  go_enter Tryd.func22, Tryd.ntmps22
  go_wp2_with fail
  refine (C5.out _ _).mono ?_
  rintro e w1 ⟨rfl, rfl⟩
  generalize hx5 : Nm.mk (skip 100 (Nm.bs s)) = x5
  have X5:=Lib.hid hx5
  clear hx5
  go_wp2_with fail
  go_ret
  exact ⟨ret_bool (by rw [HR.out, ← X5.out, isE_mk]), rfl⟩
 have n5 : ((s[0].toNat : Int) == 100) = false:=nat_ne g5
 have HR : Hid (isRights (Nm.bs s) = false):=by
  show _ = _
  rw [HR, hbs, skip_on (c:=114) (u_ne g0), skip_on (c:=115) (u_ne g1), skip_on (c:=99) (u_ne g2), skip_on (c:=119) (u_ne g3), skip_on (c:=97) (u_ne g4), skip_on (c:=100) (u_ne g5)]
  rfl
 clear nat_ne nat_eq u_ne u_eq hbs g0 g1 g2 g3 g4 g5
 go_enter Tryd.func22, Tryd.ntmps22
 go_wp2_with fail
 go_ret
 exact ⟨ret_bool HR.out.symm, rfl⟩
end Go.Proofs.YtpnlalfdgngcdaaDoor.Ru
