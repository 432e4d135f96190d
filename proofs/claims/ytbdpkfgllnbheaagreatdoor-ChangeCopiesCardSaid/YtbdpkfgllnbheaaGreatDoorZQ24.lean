import Derived.Test.YtbdpkfgllnbheaaGreatDoorZQ23
set_option linter.unusedVariables false
set_option maxRecDepth 100000
namespace Go.Proofs.YtbdpkfgllnbheaaGreatDoor
open Go.RowKit
def TAt (w : World) (g : Nat) (l : List Sc.Ty) : Prop:=∀ k (h : k < l.length), w.cell? ⟨g, k * 3, none⟩ = some (.string l[k].1) ∧ w.cell? ⟨g, k * 3 + 1, none⟩ = some (.int .i64 l[k].2.1) ∧ w.cell? ⟨g, k * 3 + 2, none⟩ = some (.bool l[k].2.2)
theorem TAt.past {w w' : World} {g B : Nat} {l : List Sc.Ty} (h : TAt w g l) (hg : g < B) (hb : Below B w w') : TAt w' g l:=fun k hk =>
 ⟨bat hb hg (h k hk).1, bat hb hg (h k hk).2.1, bat hb hg (h k hk).2.2⟩
theorem TAt.lt {w : World} {g : Nat} {l : List Sc.Ty} (h : TAt w g l) (h0 : 0 < l.length) : g < w.heap.size:=cell_lt (h 0 h0).1
def tabL : List Value:=Sc.tab.flatMap fun t=>[.string t.1, .int .i64 t.2.1, .bool t.2.2]
theorem tabL_at : ∀ k (h : k < Sc.tab.length), tabL[k * 3]? = some (.string Sc.tab[k].1) ∧ tabL[k * 3 + 1]? = some (.int .i64 Sc.tab[k].2.1) ∧ tabL[k * 3 + 2]? = some (.bool Sc.tab[k].2.2):=fun k h=>by
 have h' : k < 15:=h
 have : k = 0 ∨ k = 1 ∨ k = 2 ∨ k = 3 ∨ k = 4 ∨ k = 5 ∨ k = 6 ∨ k = 7 ∨ k = 8 ∨ k = 9 ∨ k = 10 ∨ k = 11 ∨ k = 12 ∨ k = 13 ∨ k = 14:=by omega
 rcases this with rfl | rfl | rfl | rfl | rfl | rfl | rfl | rfl | rfl | rfl | rfl | rfl | rfl | rfl | rfl
 all_goals exact ⟨rfl, rfl, rfl⟩
theorem TAt.of_blk {w : World} {g : Nat} (h : Blk w g 85 tabL.toArray) : TAt w g Sc.tab:=fun k hk=>by
 obtain ⟨h1, h2, h3⟩:=tabL_at k hk
 refine ⟨?_, ?_, ?_⟩
 ·rw [h.cell, List.getElem?_toArray, h1]
 ·rw [h.cell, List.getElem?_toArray, h2]
 ·rw [h.cell, List.getElem?_toArray, h3]
set_option maxHeartbeats 1000000 in
theorem all_any (w : World) :
  Calls Tryz.prog 93 #[] w fun e w'=>e = .returned (.slice (some ⟨w.heap.size, 0, none⟩) 15 15) ∧ TAt w' w.heap.size Sc.tab ∧ Below w.heap.size w w':=by
 go_enter Tryz.func93, Tryz.ntmps93
 go_wp2_with fail
 go_ret
 exact ⟨rfl, TAt.of_blk (Blk.new _ _ _), (Below.refl _ _).alloc (Nat.le_refl _) _⟩
set_option maxHeartbeats 1000000 in
theorem rall_any (w : World) :
  Calls Tryz.prog 99 #[] w fun e w'=>e = .returned (.slice (some ⟨w.heap.size, 0, none⟩) 15 15) ∧ TAt w' w.heap.size Sc.tab ∧ Below w.heap.size w w':=by
 go_enter Tryz.func99, Tryz.ntmps99
 go_wp2_with fail
 go_ret
 exact ⟨rfl, TAt.of_blk (Blk.new _ _ _), (Below.refl _ _).alloc (Nat.le_refl _) _⟩
end Go.Proofs.YtbdpkfgllnbheaaGreatDoor
namespace Go.Proofs.YtbdpkfgllnbheaaGreatDoor
open Go.RowKit
def findV : Option Sc.Ty → Value
 | none=>.tuple #[.agg #[.string ⟨#[]⟩, .int .i64 0, .bool false], .bool false]
 | some t=>.tuple #[.agg #[.string t.1, .int .i64 t.2.1, .bool t.2.2], .bool true]
theorem Blk.set3 {w : World} {g : Nat} {t : TypeId} {x y z x' y' z' : Value} (h : Blk w g t #[x, y, z]) : Blk (((w.setCell ⟨g, 0, none⟩ x').setCell ⟨g, 1, none⟩ y').setCell ⟨g, 2, none⟩ z') g t #[x', y', z']:=((h.set_ 0 x').set_ 1 y').set_ 2 z'
theorem below3 {w w' : World} {B g : Nat} (h : Below B w w') (hg : B ≤ g) (x y z : Value) : Below B w (((w'.setCell ⟨g, 0, none⟩ x).setCell ⟨g, 1, none⟩ y).setCell ⟨g, 2, none⟩ z) :=
 ((h.setCell (p:=⟨g, 0, none⟩) hg x).setCell (p:=⟨g, 1, none⟩) hg y).setCell (p:=⟨g, 2, none⟩) hg z
theorem res_ty {fn : Func} {p u : Tmp} (h : fn.results = #[.cell p 85, .tmp u]) (tmps : Array Value) (w : World) (g : Nat) (x y z v : Value) (hp : tmps.getD p undef = .pointer (some ⟨g, 0, none⟩)) (hv : tmps.getD u undef = v) (hB : Blk w g 85 #[x, y, z]) :
  (results fn tmps).run Tryz.prog w = .ok (.tuple #[.agg #[x, y, z], v]) w:=by
 rw [results_cell_tmp h, hp, hv]
 have e:=run_loadVar_row (P:=Tryz.prog) w g 85 85 #[x, y, z] (0, 0) _ hB Tryz.underlying85 rfl (by kernel_rfl)
 show (((loadVar 85 ⟨g, 0, none⟩).run Tryz.prog w).andThen fun v1 w₂=>Result.ok (Value.tuple #[v1, v]) w₂) = _
 rw [e]
 rfl
set_option maxHeartbeats 2000000 in
theorem find_any (s : ByteArray) (w : World) (hs : s.size ≤ 1099511627776) :
  Calls Tryz.prog 57 #[.string s] w fun e w'=>e = .returned (findV (Sc.find (Nm.bs s))) ∧ Below w.heap.size w w':=by
 have CL:=Lib.hid (fun w=>lower_any s w hs)
 have CA:=Lib.hid all_any
 obtain ⟨X, hX⟩ : ∃ X, X = Nm.mk (Nm.lower (Nm.bs s)):=⟨_, rfl⟩
 rw [← hX] at CL
 obtain ⟨R, hR⟩ : ∃ R, R = Sc.find (Nm.bs s):=⟨_, rfl⟩
 rw [← hR]
 have H0 : Hid (R = Sc.look X (Sc.tab.drop 0)):=by
  show _ = _
  rw [hR, hX]; rfl
 clear hR hX
 go_enter Tryz.func57, Tryz.ntmps57
 go_wp2_with fail
 refine (CL.out _).mono ?_
 rintro r w1 ⟨rfl, hb1⟩
 go_wp2_with fail
 refine (CA.out _).mono ?_
 rintro r w2 ⟨rfl, hT, hb2⟩
 have hs1:=hb1.size
 have hs2:=hb2.size
 have B0 : Blk w2 w.heap.size 85 #[.string ⟨#[]⟩, .int .i64 0, .bool false]:=((Blk.new w _ _).past hb1).past (hb2.mono (Nat.le_refl _))
 have hbw : Below w.heap.size w w2:=((Below.refl _ _).alloc (Nat.le_refl _) _).trans ((hb1.mono (by simp)).trans (hb2.mono (by simp at hs1; omega)))
 have hg : w.heap.size < w1.heap.size:=by simp at hs1; omega
 obtain ⟨gt, hgt⟩ : ∃ gt, gt = w1.heap.size:=⟨_, rfl⟩
 rw [← hgt] at hT hg ⊢
 have hgl:=hT.lt (by decide)
 clear hgt hb1 hb2 hs1 hs2
 go_wp2_with fail
 go_loopw [10] (fun i wr=>∃ k : Nat, k ≤ 15 ∧ i = .int .i64 k ∧ Hid (R = Sc.look X (Sc.tab.drop k)) ∧ Blk wr w.heap.size 85 #[.string ⟨#[]⟩, .int .i64 0, .bool false] ∧ TAt wr gt Sc.tab ∧ gt < wr.heap.size ∧ Below w.heap.size w wr) (fun i wr=>15 - (intOf i).toNat)
 case atStart=>exact ⟨0, by omega, rfl, H0, B0, hT, hgl, hbw⟩
 case round =>
  obtain ⟨k, hk, rfl, hE, hB, hT, hgl, hbw⟩:=hrel
  by_cases hlt : k < 15
  ·have hk3 : k < Sc.tab.length:=hlt
   obtain ⟨c0, c1, c2⟩:=hT k hk3
   have hD:=hE.out
   rw [Sc.look_step hk3] at hD
   obtain ⟨⟨n, sy, sg⟩, hn⟩ : ∃ q : Sc.Ty, q = Sc.tab[k]:=⟨_, rfl⟩
   rw [← hn] at hD c0 c1 c2
   have HD:=Lib.hid hD
   have B1:=hB.alloc (.cells #[.string n, .int .i64 sy, .bool sg] 85)
   have b0 : (wr.alloc (.cells #[.string n, .int .i64 sy, .bool sg] 85)).cell? ⟨w.heap.size, 0, none⟩ = some (.string ⟨#[]⟩):=B1.cell 0
   have b1 : (wr.alloc (.cells #[.string n, .int .i64 sy, .bool sg] 85)).cell? ⟨w.heap.size, 1, none⟩ = some (.int .i64 0):=B1.cell 1
   have b2 : (wr.alloc (.cells #[.string n, .int .i64 sy, .bool sg] 85)).cell? ⟨w.heap.size, 2, none⟩ = some (.bool false):=B1.cell 2
   have f0:=B1.frozen 0
   have f1:=B1.frozen 1
   have f2:=B1.frozen 2
   have hw2:=hbw.alloc hbw.size (.cells #[.string n, .int .i64 sy, .bool sg] 85)
   have HT:=Lib.hid (hT.past (Nat.lt_of_lt_of_le hgl (Nat.le_refl _)) ((Below.refl wr.heap.size wr).alloc (Nat.le_refl _) (.cells #[.string n, .int .i64 sy, .bool sg] 85)))
   clear hD hE hn H0 hT CA CL B0 hB
   by_cases he : n = X
   ·have hq : (n.toList == X.toList) = true:=by rw [toList_inj', decide_eq_true he]
    have HR:=Lib.hid (show R = some (n, sy, sg) by rw [HD.out, if_pos he])
    clear he HD HT
    go_wp2_with fail
    refine bodyPost_ret (res_ty rfl _ _ w.heap.size _ _ _ _ rfl rfl B1.set3) rfl ⟨?_, below3 hw2 (Nat.le_refl _) _ _ _⟩
    rw [HR.out]
    rfl
   ·have hq : (n.toList == X.toList) = false:=by rw [toList_inj', decide_eq_false he]
    have HR:=Lib.hid (show R = Sc.look X (Sc.tab.drop (k + 1)) by rw [HD.out, if_neg he])
    clear he HD
    go_wp2_with fail
    refine ⟨⟨k + 1, by omega, by go_num, HR, B1, HT.out, by simp; omega, hw2⟩, by simp [intOf]; omega⟩
  ·have hk2 : k = 15:=by omega
   have HR:=Lib.hid (show R = none by rw [hE.out, hk2]; rfl)
   have b0 : wr.cell? ⟨w.heap.size, 0, none⟩ = some (.string ⟨#[]⟩):=hB.cell 0
   have b1 : wr.cell? ⟨w.heap.size, 1, none⟩ = some (.int .i64 0):=hB.cell 1
   have b2 : wr.cell? ⟨w.heap.size, 2, none⟩ = some (.bool false):=hB.cell 2
   have f0:=hB.frozen 0
   have f1:=hB.frozen 1
   have f2:=hB.frozen 2
   clear hE hT CA CL H0
   go_wp2_with fail
   refine bodyPost_ret (res_ty rfl _ _ w.heap.size _ _ _ _ rfl rfl hB.set3) rfl ⟨?_, below3 hbw (Nat.le_refl _) _ _ _⟩
   rw [HR.out]
   rfl
end Go.Proofs.YtbdpkfgllnbheaaGreatDoor
namespace Go.Proofs.YtbdpkfgllnbheaaGreatDoor
open Go.RowKit
theorem parseD_err (s : ByteArray) (w : World) (hs : s.size ≤ 1000000000) (B : Bool) (h : (Nm.dnm (Nm.bs s)).isSome = B) :
  Calls Tryz.prog 129 #[.string s] w fun r w'=>∃ A l c, r = .returned (.tuple #[.slice A l c, .int .i64 (if B then 0 else 15)]) ∧ Below w.heap.size w w':=by
 refine (parseD_any s w hs).mono fun e w' hp=>?_
 cases hd : Nm.dnm (Nm.bs s) with
 | none =>
  rw [hd] at h hp
  obtain ⟨rfl, hb⟩:=hp
  subst h
  exact ⟨none, 0, 0, rfl, hb⟩
 | some d =>
  rw [hd] at h hp
  obtain ⟨A, c, rfl, _, _, hb⟩:=hp
  subst h
  exact ⟨A, _, c, rfl, hb⟩
theorem trimb_any (s : ByteArray) (w : World) (hs : s.size ≤ 1000000000) :
  Calls Tryz.prog 126 #[.string s, .string ⟨#[32]⟩] w fun e w'=>e = .returned (.string (Nm.mk (Lib.trimB (Nm.bs s) 32))) ∧ Below w.heap.size w w' :=
 (Tryz.strings_Trim_one s 32 (by decide) w (by omega)).mono fun e w' h=>by
  obtain ⟨h1, h2⟩:=h
  refine ⟨h1, ?_⟩
  rcases h2 with rfl | rfl
  ·exact Below.refl _ _
  ·exact (Below.refl _ _).drew
set_option maxHeartbeats 2000000 in
theorem fits_any (sy : Nat) (v : ByteArray) (w : World) (hv : v.size ≤ 1000000000) :
  Calls Tryz.prog 95 #[.int .i64 sy, .string v] w fun e w'=>e = .returned (.bool (Sc.fits sy (Nm.bs v))) ∧ Below w.heap.size w w':=by
 have CT:=Lib.hid (fun w=>trimb_any v w hv)
 have CW:=fun w=>within_pr v w hv
 have CI:=fun w=>isInt_any v w
 have CP:=Lib.hid (fun w=>parseD_err v w hv)
 obtain ⟨R, hR⟩ : ∃ R, R = Sc.fits sy (Nm.bs v):=⟨_, rfl⟩
 rw [← hR]
 obtain ⟨Q, hQ⟩ : ∃ Q, Q = (Nm.bs v).all Sc.prC:=⟨_, rfl⟩
 obtain ⟨I, hI⟩ : ∃ I, I = Sc.isInt (Nm.bs v):=⟨_, rfl⟩
 obtain ⟨T, hT⟩ : ∃ T, T = Nm.mk (Lib.trimB (Nm.bs v) 32):=⟨_, rfl⟩
 rw [← hT] at CT
 rw [← hQ] at CW
 rw [← hI] at CI
 have CW:=Lib.hid CW
 have CI:=Lib.hid CI
 have hE : T.toList.isEmpty = !(Nm.bs v).any (fun c=>decide (c.toNat ≠ 32)):=by
  rw [ByteArray.toList_eq, hT]
  exact Sc.trim_nil (Nm.bs v)
 by_cases h1 : sy = 1
 ·subst h1
  have hR1 : R = ((Nm.bs v).any (fun c=>decide (c.toNat ≠ 32)) && Q):=by rw [hR, hQ]; rfl
  cases hA : (Nm.bs v).any (fun c=>decide (c.toNat ≠ 32))
  ·rw [hA] at hE hR1
   have HF:=Lib.hid (show R = false from hR1)
   simp only [Bool.not_false] at hE
   clear hR hQ hI hT hR1 hA
   go_enter Tryz.func95, Tryz.ntmps95
   go_wp2_with fail
   refine (CT.out _).mono ?_
   rintro r w1 ⟨rfl, hb1⟩
   go_wp2_with fail
   go_ret
   exact ⟨ret_bool HF.out.symm, hb1⟩
  ·rw [hA] at hE hR1
   have HF:=Lib.hid (show R = Q by rw [hR1]; rfl)
   simp only [Bool.not_true] at hE
   clear hR hQ hI hT hR1 hA
   go_enter Tryz.func95, Tryz.ntmps95
   go_wp2_with fail
   refine (CT.out _).mono ?_
   rintro r w1 ⟨rfl, hb1⟩
   go_wp2_with fail
   refine (CW.out _).mono ?_
   rintro r w2 ⟨rfl, rfl⟩
   go_wp2_with fail
   go_ret
   exact ⟨ret_bool HF.out.symm, hb1⟩
 by_cases h2 : sy = 2
 ·subst h2
  have HF:=Lib.hid (show R = Q by rw [hR, hQ]; rfl)
  clear hR hQ hI hT hE h1
  go_enter Tryz.func95, Tryz.ntmps95
  go_wp2_with fail
  refine (CW.out _).mono ?_
  rintro r w2 ⟨rfl, rfl⟩
  go_wp2_with fail
  go_ret
  exact ⟨ret_bool HF.out.symm, Below.refl _ _⟩
 by_cases h3 : sy = 3
 ·subst h3
  have HF:=Lib.hid (show R = I by rw [hR, hI]; rfl)
  clear hR hQ hI hT hE h1 h2
  go_enter Tryz.func95, Tryz.ntmps95
  go_wp2_with fail
  refine (CI.out _).mono ?_
  rintro r w2 ⟨rfl, rfl⟩
  go_wp2_with fail
  go_ret
  exact ⟨ret_bool HF.out.symm, Below.refl _ _⟩
 by_cases h5 : sy = 5
 ·subst h5
  obtain ⟨B, hB⟩ : ∃ B, (Nm.dnm (Nm.bs v)).isSome = B:=⟨_, rfl⟩
  have HF:=Lib.hid (show R = B by rw [hR, ← hB]; rfl)
  have CB:=Lib.hid (fun w=>CP.out w B hB)
  clear hR hQ hI hT hE h1 h2 h3 hB
  cases B
  ·have HF:=Lib.hid (show R = false from HF.out)
   have CB2 : Hid (∀ w, Calls Tryz.prog 129 #[.string v] w fun r w'=>∃ A l c, r = .returned (.tuple #[.slice A l c, .int .i64 15]) ∧ Below w.heap.size w w'):=CB.out
   clear CB
   go_enter Tryz.func95, Tryz.ntmps95
   go_wp2_with fail
   refine (CB2.out _).mono ?_
   rintro r w2 ⟨A, l, c, rfl, hb2⟩
   go_wp2_with fail
   go_ret
   exact ⟨ret_bool HF.out.symm, hb2⟩
  ·have HF:=Lib.hid (show R = true from HF.out)
   have CB2 : Hid (∀ w, Calls Tryz.prog 129 #[.string v] w fun r w'=>∃ A l c, r = .returned (.tuple #[.slice A l c, .int .i64 0]) ∧ Below w.heap.size w w'):=CB.out
   clear CB
   go_enter Tryz.func95, Tryz.ntmps95
   go_wp2_with fail
   refine (CB2.out _).mono ?_
   rintro r w2 ⟨A, l, c, rfl, hb2⟩
   go_wp2_with fail
   go_ret
   exact ⟨ret_bool HF.out.symm, hb2⟩
 ·have HF:=Lib.hid (show R = true by rw [hR, Sc.fits, if_neg h1, if_neg h2, if_neg h3, if_neg h5])
  have e1 : ((sy : Int) == 1) = false:=by rw [beq_eq_false_iff_ne]; omega
  have e2 : ((sy : Int) == 2) = false:=by rw [beq_eq_false_iff_ne]; omega
  have e3 : ((sy : Int) == 3) = false:=by rw [beq_eq_false_iff_ne]; omega
  have e5 : ((sy : Int) == 5) = false:=by rw [beq_eq_false_iff_ne]; omega
  clear hR hQ hI hT hE h1 h2 h3 h5
  go_enter Tryz.func95, Tryz.ntmps95
  go_wp2_with fail
  go_ret
  exact ⟨ret_bool HF.out.symm, Below.refl _ _⟩
theorem tab_nat : ∀ (x : ByteArray) (l : List Sc.Ty) (t : Sc.Ty), Sc.look x l = some t → t ∈ l
 | x, [], t, h=>by cases h
 | x, u :: r, t, h=>by
  rw [Sc.look] at h
  split at h
  ·injection h with h; rw [h]; exact List.mem_cons_self ..
  ·exact List.mem_cons_of_mem _ (tab_nat x r t h)
theorem check_some {n v : List UInt8} {t : Sc.Ty} (h : Sc.find n = some t) : Sc.check n v = if v = [] ∨ 60 < v.length ∨ Sc.fits t.2.1 v = false then 17 else 0:=by
 unfold Sc.check
 rw [h]
theorem check_none {n v : List UInt8} (h : Sc.find n = none) : Sc.check n v = 16:=by
 unfold Sc.check
 rw [h]
set_option maxHeartbeats 2000000 in
theorem check_any (n v : ByteArray) (w : World) (hn : n.size ≤ 1099511627776) :
  Calls Tryz.prog 60 #[.string n, .string v] w fun e w'=>e = .returned (.int .i64 (Sc.check (Nm.bs n) (Nm.bs v) : Nat)) ∧ Below w.heap.size w w':=by
 have CF:=Lib.hid (fun w=>find_any n w hn)
 obtain ⟨R, hR⟩ : ∃ R, R = Sc.check (Nm.bs n) (Nm.bs v):=⟨_, rfl⟩
 rw [← hR]
 cases hf : Sc.find (Nm.bs n) with
 | none =>
  rw [hf] at CF
  have HF:=Lib.hid (show (R : Int) = 16 by rw [hR, check_none hf]; rfl)
  have C2 : Hid (∀ w, Calls Tryz.prog 57 #[.string n] w fun e w'=>e = .returned (.tuple #[.agg #[.string ⟨#[]⟩, .int .i64 0, .bool false], .bool false]) ∧ Below w.heap.size w w'):=CF.out
  clear hR hf CF
  go_enter Tryz.func60, Tryz.ntmps60
  go_wp2_with fail
  refine (C2.out _).mono ?_
  rintro r w1 ⟨rfl, hb1⟩
  go_wp2_with fail
  go_ret
  exact ⟨ret_int HF.out.symm, hb1.alloc hb1.size _⟩
 | some t =>
  rw [hf] at CF
  obtain ⟨x, sy, sg⟩:=t
  have hR2 : R = if Nm.bs v = [] ∨ 60 < (Nm.bs v).length ∨ Sc.fits sy (Nm.bs v) = false then 17 else 0:=by rw [hR, check_some hf]
  have C2 : Hid (∀ w, Calls Tryz.prog 57 #[.string n] w fun e w'=>e = .returned (.tuple #[.agg #[.string x, .int .i64 sy, .bool sg], .bool true]) ∧ Below w.heap.size w w'):=CF.out
  clear hR hf CF
  rw [size_eq] at hR2
  by_cases h0 : v.size = 0
  ·have h1:=nil_of v h0
   have HF:=Lib.hid (show (R : Int) = 17 by rw [hR2, if_pos (Or.inl (nilD_of v h0))]; rfl)
   clear hR2 h0
   go_enter Tryz.func60, Tryz.ntmps60
   go_wp2_with fail
   refine (C2.out _).mono ?_
   rintro r w1 ⟨rfl, hb1⟩
   go_wp2_with fail
   go_ret
   exact ⟨ret_int HF.out.symm, hb1.alloc hb1.size _⟩
  have h1:=isE_of v (by omega)
  by_cases h60 : 60 < (v.size : Int)
  ·have HF:=Lib.hid (show (R : Int) = 17 by rw [hR2, if_pos (Or.inr (Or.inl (by omega)))]; rfl)
   clear hR2 h0
   go_enter Tryz.func60, Tryz.ntmps60
   go_wp2_with fail
   refine (C2.out _).mono ?_
   rintro r w1 ⟨rfl, hb1⟩
   go_wp2_with fail
   go_ret
   exact ⟨ret_int HF.out.symm, hb1.alloc hb1.size _⟩
  have h60' : (v.size : Int) ≤ 60:=by omega
  have hne : Nm.bs v ≠ []:=by
   intro e
   have:=size_eq v
   rw [show v.data.toList = [] from e] at this
   simp at this
   omega
  have CV:=fun w=>fits_any sy v w (by omega)
  cases hq : Sc.fits sy (Nm.bs v)
  ·rw [hq] at CV hR2
   have CV:=Lib.hid CV
   have HF:=Lib.hid (show (R : Int) = 17 by rw [hR2, if_pos (Or.inr (Or.inr rfl))]; rfl)
   clear hR2 h0 hne h60 hq
   go_enter Tryz.func60, Tryz.ntmps60
   go_wp2_with fail
   refine (C2.out _).mono ?_
   rintro r w1 ⟨rfl, hb1⟩
   have hs1:=hb1.size
   go_wp2_with fail
   refine (CV.out _).mono ?_
   rintro r w2 ⟨rfl, hb2⟩
   go_wp2_with fail
   go_ret
   exact ⟨ret_int HF.out.symm, (hb1.alloc hs1 _).trans (hb2.mono (by simp; omega))⟩
  ·rw [hq] at CV hR2
   have CV:=Lib.hid CV
   have HF:=Lib.hid (show (R : Int) = 0 by rw [hR2, if_neg (by rintro (h | h | h); exact hne h; omega; cases h)]; rfl)
   clear hR2 h0 hne h60 hq
   go_enter Tryz.func60, Tryz.ntmps60
   go_wp2_with fail
   refine (C2.out _).mono ?_
   rintro r w1 ⟨rfl, hb1⟩
   have hs1:=hb1.size
   go_wp2_with fail
   refine (CV.out _).mono ?_
   rintro r w2 ⟨rfl, hb2⟩
   go_wp2_with fail
   go_ret
   exact ⟨ret_int HF.out.symm, (hb1.alloc hs1 _).trans (hb2.mono (by simp; omega))⟩
end Go.Proofs.YtbdpkfgllnbheaaGreatDoor
namespace Go.Proofs.YtbdpkfgllnbheaaGreatDoor.Ch
open Go.RowKit
theorem tab_le : ∀ t ∈ Sc.tab, t.1.size ≤ 12:=by
 have h : (Sc.tab.all fun t=>decide (t.1.size ≤ 12)) = true:=by kernel_rfl
 intro t ht
 exact of_decide_eq_true (List.all_eq_true.1 h t ht)
theorem find_le {n : List UInt8} {t : Sc.Ty} (h : Sc.find n = some t) : t.1.size ≤ 12:=tab_le t (tab_nat _ _ _ h)
theorem check_le {n v : List UInt8} (h : Sc.check n v = 0) : v.length ≤ 60:=by
 unfold Sc.check at h
 cases hf : Sc.find n with
 | none=>rw [hf] at h; simp at h
 | some t =>
  rw [hf] at h
  simp only at h
  split at h
  ·cases h
  ·rename_i h1; simp only [not_or] at h1; omega
theorem mo_ok {d : Mo} (h : noMo d = false) : (1 ≤ d.kind ∧ d.kind ≤ 3) ∧ d.attr.size ≤ 12 ∧ d.vals.length ≤ 12 ∧ ∀ v ∈ d.vals, v.size ≤ 60:=by
 unfold noMo at h
 rw [Bool.or_eq_false_iff, decide_eq_false_iff_not] at h
 obtain ⟨h1, h2⟩:=h
 cases hf : Sc.find (Nm.bs d.attr) with
 | none=>rw [hf] at h2; cases h2
 | some t =>
  rw [hf] at h2
  simp only [Bool.or_eq_false_iff, decide_eq_false_iff_not] at h2
  obtain ⟨h3, h4⟩:=h2
  have h5 : t.1 = d.attr:=by
   by_cases h : t.1 = d.attr
   ·exact h
   ·exact absurd (Or.inl h) h3
  refine ⟨by omega, h5 ▸ find_le hf, by omega, fun v hv=>?_⟩
  unfold noVals at h4
  have h6:=List.any_eq_false.1 h4 v hv
  simp only [decide_eq_true_eq, Decidable.not_not] at h6
  exact check_le h6
theorem g_open {c : Cg} (h : isG c = true) : isCn c.csn = true ∧ zCn c.csn = false ∧ isCn c.id = true ∧ isCn c.par = true ∧ formed c = true ∧ c.mods.length ≤ 8 ∧ ∀ d ∈ c.mods, noMo d = false:=by
 unfold isG at h
 simp only [Bool.and_eq_true, Bool.not_eq_true', decide_eq_true_eq, List.any_eq_false] at h
 obtain ⟨⟨h1, h2, h3, h4⟩, h5, h6, h7⟩:=h
 exact ⟨h1, h2, h3, h4, h5, h6, fun d hd=>by simpa using h7 d hd⟩
theorem formed_kind {c : Cg} (h : formed c = true) : 1 ≤ c.kind ∧ c.kind ≤ 4:=by
 unfold formed at h
 split at h
 ·omega
 ·split at h
  ·omega
  ·split at h
   ·omega
   ·split at h
    ·omega
    ·cases h
theorem cn_ok {c : Cn} (h : isCn c = true) : Cs.I64 c.t ∧ Cs.I64 c.s ∧ Cs.I64 c.r:=by
 have:=Cs.isC_true h
 unfold Cs.I64
 omega
theorem cnTxt_le {c : Cn} (h : isCn c = true) : (cnTxt c).size ≤ 62:=by
 obtain ⟨h1, h2, h3⟩:=cn_ok h
 have l1:=Cs.itoa_len c.t h1.1 h1.2
 have l2:=Cs.itoa_len c.s h2.1 h2.2
 have l3:=Cs.itoa_len c.r h3.1 h3.2
 show (Cs.text c.t c.s c.r).length ≤ 62
 unfold Cs.text
 simp only [List.length_append, List.length_cons]
 omega
theorem rdnTxt_le (r : List Nm.Ava) : (rdnTxt r).size ≤ 792:=by
 unfold rdnTxt
 show (if Nm.isRdn r then Nm.prRdn r else []).length ≤ 792
 cases h : Nm.isRdn r
 ·simp
 ·have:=Nm.prRdn_le h
  simpa using this
theorem good_num {t : Nat} {n : Int} (h0 : -9223372036854775808 ≤ n) (h1 : n ≤ 9223372036854775807) (d : Nat) : good (d + 1) (num t n):=by
 refine good_leaf (t:=t) (b:=strOfNums (Be.intB n)) ?_ d
 rw [strOfNums_size, Be.intB_len]
 have:=Be.few_8 n h0 h1
 omega
theorem good_vals {d : Mo} (h : noMo d = false) : ∀ e ∈ d.vals.map (txt 4), good 1 e:=fun e he=>by
 obtain ⟨v, hv, rfl⟩:=List.mem_map.1 he
 exact good_leaf (by have:=(mo_ok h).2.2.2 v hv; omega) 0
theorem good_three {d : Mo} (h : noMo d = false) : ∀ e ∈ [num 2 d.kind, txt 4 d.attr, lst 48 (d.vals.map (txt 4))], good 2 e:=fun e he=>by
 obtain ⟨h1, h2, h3, h4⟩:=mo_ok h
 simp only [List.mem_cons, List.not_mem_nil, or_false] at he
 rcases he with rfl | rfl | rfl
 ·exact good_num (by omega) (by omega) 1
 ·exact good_leaf (by omega) 1
 ·exact good_lst (by rw [List.length_map]; omega) (good_vals h)
theorem good_mod {d : Mo} (h : noMo d = false) : good 3 (modEl d):=good_lst (by simp) (good_three h)
theorem good_mods {l : List Mo} (h : ∀ d ∈ l, noMo d = false) : ∀ e ∈ l.map modEl, good 3 e:=fun e he=>by
 obtain ⟨d, hd, rfl⟩:=List.mem_map.1 he
 exact good_mod (h d hd)
theorem good_seven {c : Cg} (h : isG c = true) : ∀ e ∈ [num 2 c.kind, txt 4 (cnTxt c.csn), txt 4 (cnTxt c.id), txt 4 (cnTxt c.par), txt 4 (rdnTxt c.rdn), txt 1 (boolB c.del), lst 48 (c.mods.map modEl)], good 4 e:=fun e he=>by
 obtain ⟨h1, _, h2, h3, h4, h5, h6⟩:=g_open h
 have hk:=formed_kind h4
 simp only [List.mem_cons, List.not_mem_nil, or_false] at he
 rcases he with rfl | rfl | rfl | rfl | rfl | rfl | rfl
 ·exact good_num (by omega) (by omega) 3
 ·exact good_leaf (by have:=cnTxt_le h1; omega) 3
 ·exact good_leaf (by have:=cnTxt_le h2; omega) 3
 ·exact good_leaf (by have:=cnTxt_le h3; omega) 3
 ·exact good_leaf (by have:=rdnTxt_le c.rdn; omega) 3
 ·exact good_leaf (by cases c.del <;> decide) 3
 ·exact good_lst (by rw [List.length_map]; omega) (good_mods h6)
theorem good_ch {c : Cg} (h : isG c = true) : good 5 (chEl c):=good_lst (by simp) (good_seven h)
end Go.Proofs.YtbdpkfgllnbheaaGreatDoor.Ch
namespace Go.Proofs.YtbdpkfgllnbheaaGreatDoor
open Go.RowKit
set_option maxHeartbeats 2000000 in
theorem rfind_any (s : ByteArray) (w : World) (hs : s.size ≤ 1099511627776) :
  Calls Tryz.prog 63 #[.string s] w fun e w'=>e = .returned (findV (Sc.find (Nm.bs s))) ∧ Below w.heap.size w w':=by
 have CL:=Lib.hid (fun w=>rlower_any s w hs)
 have CA:=Lib.hid rall_any
 obtain ⟨X, hX⟩ : ∃ X, X = Nm.mk (Nm.lower (Nm.bs s)):=⟨_, rfl⟩
 rw [← hX] at CL
 obtain ⟨R, hR⟩ : ∃ R, R = Sc.find (Nm.bs s):=⟨_, rfl⟩
 rw [← hR]
 have H0 : Hid (R = Sc.look X (Sc.tab.drop 0)):=by
  show _ = _
  rw [hR, hX]; rfl
 clear hR hX
 go_enter Tryz.func63, Tryz.ntmps63
 go_wp2_with fail
 refine (CA.out _).mono ?_
 rintro r w2 ⟨rfl, hT, hb2⟩
 have hs2:=hb2.size
 have B0 : Blk w2 w.heap.size 85 #[.string ⟨#[]⟩, .int .i64 0, .bool false]:=(Blk.new w _ _).past hb2
 have hbw : Below w.heap.size w w2:=((Below.refl _ _).alloc (Nat.le_refl _) _).trans (hb2.mono (by simp))
 have hg : w.heap.size < (w.alloc (.cells #[.string ⟨#[]⟩, .int .i64 0, .bool false] 85)).heap.size:=by simp
 obtain ⟨gt, hgt⟩ : ∃ gt, gt = (w.alloc (.cells #[.string ⟨#[]⟩, .int .i64 0, .bool false] 85)).heap.size:=⟨_, rfl⟩
 rw [← hgt] at hT hg ⊢
 have hgl:=hT.lt (by decide)
 clear hgt hb2 hs2
 go_wp2_with fail
 go_loopw [5] (fun i wr=>∃ k : Nat, k ≤ 15 ∧ i = .int .i64 k ∧ Hid (R = Sc.look X (Sc.tab.drop k)) ∧ Blk wr w.heap.size 85 #[.string ⟨#[]⟩, .int .i64 0, .bool false] ∧ TAt wr gt Sc.tab ∧ gt < wr.heap.size ∧ Below w.heap.size w wr) (fun i wr=>15 - (intOf i).toNat)
 case atStart=>exact ⟨0, by omega, rfl, H0, B0, hT, hgl, hbw⟩
 case round =>
  obtain ⟨k, hk, rfl, hE, hB, hT, hgl, hbw⟩:=hrel
  by_cases hlt : k < 15
  ·have hk3 : k < Sc.tab.length:=hlt
   obtain ⟨c0, c1, c2⟩:=hT k hk3
   have hD:=hE.out
   rw [Sc.look_step hk3] at hD
   obtain ⟨⟨n, sy, sg⟩, hn⟩ : ∃ q : Sc.Ty, q = Sc.tab[k]:=⟨_, rfl⟩
   rw [← hn] at hD c0 c1 c2
   have HD:=Lib.hid hD
   have HT:=Lib.hid hT
   have HC1:=Lib.hid c1
   have HC2:=Lib.hid c2
   have c0d : wr.drew.cell? ⟨gt, k * 3, none⟩ = some (.string n):=c0
   have HB:=Lib.hid hB
   clear hD hE hn H0 hT CA B0 hB c1 c2 c0
   have hgld : gt < wr.drew.heap.size:=hgl
   have hcase : n = X ∨ n ≠ X:=Classical.em _
   rcases hcase with he | he
   ·have hq : (n.toList == X.toList) = true:=by rw [toList_inj', decide_eq_true he]
    have HR:=Lib.hid (show R = some (n, sy, sg) by rw [HD.out, if_pos he])
    clear he HD
    go_wp2_with fail
    go_region_held3 (fun w'=>w'.cell? ⟨gt, k * 3, none⟩ = some (.string n)) (first | go_keep | exact bat hb1 hgld c0d) (first | (go_at_call 100; refine (CL.out _).mono ?_; rintro e w1 ⟨rfl, hb1⟩))
    have hbx:=hbw.drew.trans (hb1.mono hbw.size)
    have B1:=HB.out.drew.past hb1
    have a0 : w1.cell? ⟨gt, k * 3, none⟩ = some (.string n):=bat hb1 hgld c0d
    have a1 : w1.cell? ⟨gt, k * 3 + 1, none⟩ = some (.int .i64 sy):=bat hb1 hgld HC1.out
    have a2 : w1.cell? ⟨gt, k * 3 + 2, none⟩ = some (.bool sg):=bat hb1 hgld HC2.out
    have b0 : w1.cell? ⟨w.heap.size, 0, none⟩ = some (.string ⟨#[]⟩):=B1.cell 0
    have b1 : w1.cell? ⟨w.heap.size, 1, none⟩ = some (.int .i64 0):=B1.cell 1
    have b2 : w1.cell? ⟨w.heap.size, 2, none⟩ = some (.bool false):=B1.cell 2
    have f0:=B1.frozen 0
    have f1:=B1.frozen 1
    have f2:=B1.frozen 2
    clear HC1 HC2 HB HT CL c0d
    go_wp2_with fail
    refine bodyPost_ret (res_ty rfl _ _ w.heap.size _ _ _ _ rfl rfl B1.set3) rfl ⟨?_, below3 hbx (Nat.le_refl _) _ _ _⟩
    rw [HR.out]
    rfl
   ·have hq : (n.toList == X.toList) = false:=by rw [toList_inj', decide_eq_false he]
    have HR:=Lib.hid (show R = Sc.look X (Sc.tab.drop (k + 1)) by rw [HD.out, if_neg he])
    clear he HD
    go_wp2_with fail
    go_region_held3 (fun w'=>w'.cell? ⟨gt, k * 3, none⟩ = some (.string n)) (first | go_keep | exact bat hb1 hgld c0d) (first | (go_at_call 100; refine (CL.out _).mono ?_; rintro e w1 ⟨rfl, hb1⟩))
    have hbx:=hbw.drew.trans (hb1.mono hbw.size)
    have B1:=HB.out.drew.past hb1
    have hz:=hb1.size
    have HT1:=Lib.hid (TAt.past (w:=wr.drew) HT.out hgld hb1)
    clear HC1 HC2 HB HT CL c0d
    go_wp2_with fail
    refine ⟨⟨k + 1, by omega, by go_num, HR, B1, HT1.out, by omega, hbx⟩, by simp [intOf]; omega⟩
  ·have hk2 : k = 15:=by omega
   have HR:=Lib.hid (show R = none by rw [hE.out, hk2]; rfl)
   have b0 : wr.cell? ⟨w.heap.size, 0, none⟩ = some (.string ⟨#[]⟩):=hB.cell 0
   have b1 : wr.cell? ⟨w.heap.size, 1, none⟩ = some (.int .i64 0):=hB.cell 1
   have b2 : wr.cell? ⟨w.heap.size, 2, none⟩ = some (.bool false):=hB.cell 2
   have f0:=hB.frozen 0
   have f1:=hB.frozen 1
   have f2:=hB.frozen 2
   clear hE hT CA CL H0
   go_wp2_with fail
   refine bodyPost_ret (res_ty rfl _ _ w.heap.size _ _ _ _ rfl rfl hB.set3) rfl ⟨?_, below3 hbw (Nat.le_refl _) _ _ _⟩
   rw [HR.out]
   rfl
end Go.Proofs.YtbdpkfgllnbheaaGreatDoor
