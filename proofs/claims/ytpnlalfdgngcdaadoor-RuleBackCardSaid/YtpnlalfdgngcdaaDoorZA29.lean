import Derived.Test.YtpnlalfdgngcdaaDoorZA27
set_option linter.unusedVariables false
set_option maxRecDepth 100000
namespace Go.Proofs.YtpnlalfdgngcdaaDoor.Ru
open Go.RowKit
theorem res_rule {fn : Func} {p : Tmp} (h : fn.results = #[.cell p 24]) (tmps : Array Value) (w : World) (g : Nat) (x0 x1 x2 x3 x4 : Value) (hp : tmps.getD p undef = .pointer (some ⟨g, 0, none⟩)) (hB : Blk w g 24 #[x0, x1, x2, x3, x4]) :
  (results fn tmps).run Tryd.prog w = .ok (.agg #[x0, x1, x2, x3, x4]) w :=
 results_cell_row h tmps w g _ _ _ _ hp hB Tryd.underlying24 rfl (by kernel_rfl)
theorem frozen5 {w : World} {g : Nat} {t : TypeId} {cs : Array Value} (h : Blk w g t cs) : w.frozen? ⟨g, 0, none⟩ = false ∧ w.frozen? ⟨g, 1, none⟩ = false ∧ w.frozen? ⟨g, 2, none⟩ = false ∧ w.frozen? ⟨g, 3, none⟩ = false ∧ w.frozen? ⟨g, 4, none⟩ = false :=
 ⟨h.frozen 0, h.frozen 1, h.frozen 2, h.frozen 3, h.frozen 4⟩
theorem set5 {w : World} {g : Nat} {t : TypeId} {x0 x1 x2 x3 x4 : Value} (h : Blk w g t #[x0, x1, x2, x3, x4]) {y0 y1 y2 y3 y4 : Value} :
  Blk (((((w.setCell ⟨g, 0, none⟩ y0).setCell ⟨g, 1, none⟩ y1).setCell ⟨g, 2, none⟩ y2).setCell ⟨g, 3, none⟩ y3).setCell ⟨g, 4, none⟩ y4) g t #[y0, y1, y2, y3, y4] :=
 ((((h.set_ 0 y0).set_ 1 y1).set_ 2 y2).set_ 3 y3).set_ 4 y4
theorem below5 {B : Nat} {w w' : World} (h : Below B w w') {g : Nat} (hg : B ≤ g) (y0 y1 y2 y3 y4 : Value) :
  Below B w (((((w'.setCell ⟨g, 0, none⟩ y0).setCell ⟨g, 1, none⟩ y1).setCell ⟨g, 2, none⟩ y2).setCell ⟨g, 3, none⟩ y3).setCell ⟨g, 4, none⟩ y4) :=
 ((((h.setCell (p:=⟨g, 0, none⟩) hg y0).setCell (p:=⟨g, 1, none⟩) hg y1).setCell (p:=⟨g, 2, none⟩) hg y2).setCell (p:=⟨g, 3, none⟩) hg y3).setCell (p:=⟨g, 4, none⟩) hg y4
theorem cell_far {w : World} {g i b o : Nat} {u v : Value} (h : b ≠ g) (hc : w.cell? ⟨b, o, none⟩ = some v) : (w.setCell ⟨g, i, none⟩ u).cell? ⟨b, o, none⟩ = some v:=by
 rw [World.cell?_setCell_other _ _ _ _ (fun e=>h (congrArg Addr.block e.symm))]
 exact hc
theorem far1 {w : World} {g i : Nat} {u : Value} {p : Addr} (h : p.block ≠ g) : (w.setCell ⟨g, i, none⟩ u).cell? p = w.cell? p :=
 World.cell?_setCell_other _ _ _ _ (fun e=>h (congrArg Addr.block e.symm))
theorem far5 {w : World} {g : Nat} {y0 y1 y2 y3 y4 : Value} {p : Addr} (h : p.block ≠ g) : (((((w.setCell ⟨g, 0, none⟩ y0).setCell ⟨g, 1, none⟩ y1).setCell ⟨g, 2, none⟩ y2).setCell ⟨g, 3, none⟩ y3).setCell ⟨g, 4, none⟩ y4).cell? p = w.cell? p:=by
 rw [far1 h, far1 h, far1 h, far1 h, far1 h]
theorem size5 (w : World) (g : Nat) (y0 y1 y2 y3 y4 : Value) : (((((w.setCell ⟨g, 0, none⟩ y0).setCell ⟨g, 1, none⟩ y1).setCell ⟨g, 2, none⟩ y2).setCell ⟨g, 3, none⟩ y3).setCell ⟨g, 4, none⟩ y4).heap.size = w.heap.size:=by simp [World.setCell]
def ReadPost (B : Nat) (w : World) (e : Ending) (w' : World) : Option (List UInt8 × List UInt8 × List UInt8 × List UInt8 × List UInt8) → Prop
 | none=>e = .returned (.agg #[.bool false, .string ⟨#[]⟩, .bool false, .string ⟨#[]⟩, .slice none 0 0]) ∧ Below B w w'
 | some (v, r, h, t, q)=>∃ A c, e = .returned (.agg #[.bool (decide (v = verb true)), .string (Nm.mk r), .bool (decide (h = reach true)), .string (Nm.mk q), .slice A (attrsN 14 t).length c]) ∧ (attrsN 14 t).length ≤ c ∧ StrsAt w' (fun b=>B ≤ b ∧ b < w'.heap.size) A (attrsN 14 t) ∧ Below B w w'
set_option maxHeartbeats 4000000 in
theorem read_any (s : ByteArray) (w : World) (hs : s.size ≤ 1000000000) :
  Calls Tryd.prog 19 #[.string s] w fun e w'=>ReadPost w.heap.size w e w' (words (Nm.bs s)):=by
 have CC:=Lib.hid (fun w=>clone_any s w (by omega))
 have CS : Hid (∀ w : World, Calls Tryd.prog 33 #[.string s, .string ⟨#[32]⟩, .int .i64 5] w fun e w'=>∃ A k, e = .returned (.slice A (split 32 4 (Nm.bs s)).length k) ∧ (split 32 4 (Nm.bs s)).length ≤ k ∧ StrsAt w' (fun b=>w.heap.size ≤ b ∧ b < w'.heap.size) A ((split 32 4 (Nm.bs s)).map Nm.mk) ∧ Below w.heap.size w w'):=fun w=>splitN_any s 32 4 w hs (by omega) (by omega)
 rcases split_words (Nm.bs s) with ⟨h1, h2⟩ | ⟨v, r, h, t, q, h1, h2⟩
 ·rw [h1]
  generalize split 32 4 (Nm.bs s) = L at CS h2
  have HL:=Lib.hid h2
  have h3 : (L.length : Int) < 5:=by omega
  clear h1 h2
  go_enter Tryd.func19, Tryd.ntmps19
  go_wp2_with fail
  refine (CC.out _).mono ?_
  rintro e w1 ⟨rfl, hb1⟩
  have B1:=(Blk.new w 24 #[.bool false, .string ⟨#[]⟩, .bool false, .string ⟨#[]⟩, .slice none 0 0]).past hb1
  have hbw1 : Below w.heap.size w w1:=((Below.refl _ _).alloc (Nat.le_refl _) _).trans (hb1.mono (by simp))
  have HB1:=Lib.hid B1
  clear B1 hb1
  go_wp2_with fail
  refine (CS.out _).mono ?_
  rintro e w2 ⟨A, k, rfl, _, _, hb2⟩
  have B2:=HB1.out.past hb2
  have hbw2:=hbw1.trans (hb2.mono hbw1.size)
  obtain ⟨a0, a1, a2, a3, a4⟩:=rules5 B2
  obtain ⟨f0, f1, f2, f3, f4⟩:=frozen5 B2
  clear hb2 hbw1
  go_wp2_with fail
  exact bodyPost_ret (res_rule rfl _ _ w.heap.size _ _ _ _ _ rfl (set5 B2)) rfl ⟨rfl, below5 hbw2 (Nat.le_refl _) _ _ _ _ _⟩
 ·rw [h1]
  rw [h2] at CS
  have CS : Hid (∀ w : World, Calls Tryd.prog 33 #[.string s, .string ⟨#[32]⟩, .int .i64 5] w fun e w'=>∃ b o k, e = .returned (.slice (some ⟨b, o, none⟩) 5 k) ∧ (w.heap.size ≤ b ∧ b < w'.heap.size) ∧
    (w'.cell? ⟨b, o, none⟩ = some (.string (Nm.mk v)) ∧ w'.cell? ⟨b, o + 1, none⟩ = some (.string (Nm.mk r)) ∧ w'.cell? ⟨b, o + 2, none⟩ = some (.string (Nm.mk h)) ∧ w'.cell? ⟨b, o + 3, none⟩ = some (.string (Nm.mk t)) ∧ w'.cell? ⟨b, o + 4, none⟩ = some (.string (Nm.mk q))) ∧ Below w.heap.size w w'):=fun w=>by
   refine (CS.out w).mono ?_
   rintro e w' ⟨A, k, rfl, _, hS, hb⟩
   obtain ⟨b, o, rfl, hp, hc⟩:=hS (by simp)
   exact ⟨b, o, k, rfl, hp, ⟨hc 0 (by simp), hc 1 (by simp), hc 2 (by simp), hc 3 (by simp), hc 4 (by simp)⟩, hb⟩
  have hwl:=words_len h1
  have hbl : (Nm.bs s).length = s.size:=rfl
  have hE1:=eq_const (Nm.mk v) (verb true)
  have hE2:=eq_const (Nm.mk h) (reach true)
  have hE3 : ((Nm.mk t).toList == [42]) = decide (t = [42]):=eq_const (Nm.mk t) [42]
  have htz : (Nm.mk t).size ≤ 1000000000:=by
   show t.toArray.size ≤ _
   simp
   omega
  have CT : Hid (∀ w : World, Calls Tryd.prog 33 #[.string (Nm.mk t), .string ⟨#[44]⟩, .int .i64 15] w fun e w'=>∃ A k, e = .returned (.slice A (split 44 14 t).length k) ∧ (split 44 14 t).length ≤ k ∧ StrsAt w' (fun b=>w.heap.size ≤ b ∧ b < w'.heap.size) A ((split 44 14 t).map Nm.mk) ∧ Below w.heap.size w w'):=fun w=>splitN_any (Nm.mk t) 44 14 w htz (by omega) (by omega)
  have HN : Hid (attrsN 14 t = if t = [42] then [] else (split 44 14 t).map Nm.mk):=rfl
  have HT : Hid ((attrsN 14 t).length = if t = [42] then 0 else (split 44 14 t).length):=by
   show _ = _
   rw [HN.out]
   split <;> simp
  have HE1 : Hid (((Nm.mk v).toList == [100, 101, 110, 121]) = decide (v = verb true)):=hE1
  have HE2 : Hid (((Nm.mk h).toList == [115, 117, 98]) = decide (h = reach true)):=hE2
  obtain ⟨x0, hx0⟩ : ∃ x, x = Nm.mk v:=⟨_, rfl⟩
  obtain ⟨x1, hx1⟩ : ∃ x, x = Nm.mk r:=⟨_, rfl⟩
  obtain ⟨x2, hx2⟩ : ∃ x, x = Nm.mk h:=⟨_, rfl⟩
  obtain ⟨x3, hx3⟩ : ∃ x, x = Nm.mk t:=⟨_, rfl⟩
  obtain ⟨x4, hx4⟩ : ∃ x, x = Nm.mk q:=⟨_, rfl⟩
  have HX1:=Lib.hid hx1
  have HX4:=Lib.hid hx4
  rw [← hx0, ← hx1, ← hx2, ← hx3, ← hx4] at CS
  rw [← hx0] at HE1
  rw [← hx2] at HE2
  rw [← hx3] at CT hE3
  have CA:=Lib.hid all_any
  clear hwl hbl hE1 hE2 htz h1 h2 hx0 hx1 hx2 hx3 hx4
  by_cases ht : t = [42]
  ·have hE3 : (x3.toList == [42]) = true:=by rw [hE3]; exact decide_eq_true ht
   rw [if_pos ht] at HN HT
   go_enter Tryd.func19, Tryd.ntmps19
   go_wp2_with fail
   refine (CC.out _).mono ?_
   rintro e w1 ⟨rfl, hb1⟩
   have B1:=(Blk.new w 24 #[.bool false, .string ⟨#[]⟩, .bool false, .string ⟨#[]⟩, .slice none 0 0]).past hb1
   have hbw1 : Below w.heap.size w w1:=((Below.refl _ _).alloc (Nat.le_refl _) _).trans (hb1.mono (by simp))
   have HB1:=Lib.hid B1
   clear B1 hb1
   go_wp2_with fail
   refine (CS.out _).mono ?_
   rintro e w2 ⟨b, o, k, rfl, ⟨hp1, hp2⟩, ⟨c0, c1, c2, c3, c4⟩, hb2⟩
   have HB2:=Lib.hid (HB1.out.past hb2)
   have hbw2:=hbw1.trans (hb2.mono hbw1.size)
   clear hb2 hbw1
   have d0 : w2.drew.cell? ⟨b, o, none⟩ = some (.string x0):=c0
   have d1 : w2.drew.cell? ⟨b, o + 1, none⟩ = some (.string x1):=c1
   have d2 : w2.drew.cell? ⟨b, o + 2, none⟩ = some (.string x2):=c2
   have d4 : w2.drew.cell? ⟨b, o + 4, none⟩ = some (.string x4):=c4
   have C3:=Lib.hid c3
   clear c3
   go_wp2_with fail
   go_region
   generalize (x0.toList == [100, 101, 110, 121]) = D0 at HE1 ⊢
   generalize (x2.toList == [115, 117, 98]) = D2 at HE2 ⊢
   have B4 : Blk (w2.alloc (.cells #[.bool D0, .string x1, .bool D2, .string x4, .slice none 0 0] 24)).drew w2.heap.size 24 #[.bool D0, .string x1, .bool D2, .string x4, .slice none 0 0]:=Blk.newd _ _ _
   have BR : Blk (w2.alloc (.cells #[.bool D0, .string x1, .bool D2, .string x4, .slice none 0 0] 24)).drew w.heap.size 24 #[.bool false, .string ⟨#[]⟩, .bool false, .string ⟨#[]⟩, .slice none 0 0]:=(HB2.out.alloc _).drew
   have hb4 : Below w.heap.size w (w2.alloc (.cells #[.bool D0, .string x1, .bool D2, .string x4, .slice none 0 0] 24)).drew:=(hbw2.alloc hbw2.size _).drew
   have d3 : (w2.alloc (.cells #[.bool D0, .string x1, .bool D2, .string x4, .slice none 0 0] 24)).drew.cell? ⟨b, o + 3, none⟩ = some (.string x3):=bat ((Below.refl _ _).alloc (Nat.le_refl _) _).drew hp2 C3.out
   have hz4 : (w2.alloc (.cells #[.bool D0, .string x1, .bool D2, .string x4, .slice none 0 0] 24)).drew.heap.size = w2.heap.size + 1:=by simp
   have hzz:=HB2.out.lt
   generalize (w2.alloc (.cells #[.bool D0, .string x1, .bool D2, .string x4, .slice none 0 0] 24)).drew = w4 at B4 BR hb4 d3 hz4 ⊢
   generalize w2.heap.size = g4 at B4 hz4 hp2 hzz ⊢
   have HB4:=Lib.hid B4
   have HBR:=Lib.hid BR
   obtain ⟨a0, a1, a2, a3, a4⟩:=rules5 B4
   obtain ⟨r0, r1, r2, r3, r4⟩:=rules5 BR
   obtain ⟨f0, f1, f2, f3, f4⟩:=frozen5 BR
   clear B4 BR C3 d0 d1 d2 d4 c0 c1 c2 c4 HB2 hbw2 CC CS CT CA
   go_wp2_with fail
   refine bodyPost_ret (res_rule rfl _ _ w.heap.size _ _ _ _ _ rfl (set5 HBR.out)) rfl ⟨none, 0, ?_, ?_, ?_, below5 hb4 (Nat.le_refl _) _ _ _ _ _⟩
   ·rw [HE1.out, HE2.out, HX1.out, HX4.out, HT.out]
   ·rw [HT.out]; exact Nat.le_refl _
   ·rw [HN.out]; exact StrsAt.nil _ _ _
  ·have hE3 : (x3.toList == [42]) = false:=by rw [hE3]; exact decide_eq_false ht
   rw [if_neg ht] at HN HT
   go_enter Tryd.func19, Tryd.ntmps19
   go_wp2_with fail
   refine (CC.out _).mono ?_
   rintro e w1 ⟨rfl, hb1⟩
   have B1:=(Blk.new w 24 #[.bool false, .string ⟨#[]⟩, .bool false, .string ⟨#[]⟩, .slice none 0 0]).past hb1
   have hbw1 : Below w.heap.size w w1:=((Below.refl _ _).alloc (Nat.le_refl _) _).trans (hb1.mono (by simp))
   have HB1:=Lib.hid B1
   clear B1 hb1
   go_wp2_with fail
   refine (CS.out _).mono ?_
   rintro e w2 ⟨b, o, k, rfl, ⟨hp1, hp2⟩, ⟨c0, c1, c2, c3, c4⟩, hb2⟩
   have HB2:=Lib.hid (HB1.out.past hb2)
   have hbw2:=hbw1.trans (hb2.mono hbw1.size)
   clear hb2 hbw1
   have d0 : w2.drew.cell? ⟨b, o, none⟩ = some (.string x0):=c0
   have d1 : w2.drew.cell? ⟨b, o + 1, none⟩ = some (.string x1):=c1
   have d2 : w2.drew.cell? ⟨b, o + 2, none⟩ = some (.string x2):=c2
   have d4 : w2.drew.cell? ⟨b, o + 4, none⟩ = some (.string x4):=c4
   have C3:=Lib.hid c3
   clear c3
   go_wp2_with fail
   go_region
   generalize (x0.toList == [100, 101, 110, 121]) = D0 at HE1 ⊢
   generalize (x2.toList == [115, 117, 98]) = D2 at HE2 ⊢
   have B4 : Blk (w2.alloc (.cells #[.bool D0, .string x1, .bool D2, .string x4, .slice none 0 0] 24)).drew w2.heap.size 24 #[.bool D0, .string x1, .bool D2, .string x4, .slice none 0 0]:=Blk.newd _ _ _
   have BR : Blk (w2.alloc (.cells #[.bool D0, .string x1, .bool D2, .string x4, .slice none 0 0] 24)).drew w.heap.size 24 #[.bool false, .string ⟨#[]⟩, .bool false, .string ⟨#[]⟩, .slice none 0 0]:=(HB2.out.alloc _).drew
   have hb4 : Below w.heap.size w (w2.alloc (.cells #[.bool D0, .string x1, .bool D2, .string x4, .slice none 0 0] 24)).drew:=(hbw2.alloc hbw2.size _).drew
   have d3 : (w2.alloc (.cells #[.bool D0, .string x1, .bool D2, .string x4, .slice none 0 0] 24)).drew.cell? ⟨b, o + 3, none⟩ = some (.string x3):=bat ((Below.refl _ _).alloc (Nat.le_refl _) _).drew hp2 C3.out
   have hz4 : (w2.alloc (.cells #[.bool D0, .string x1, .bool D2, .string x4, .slice none 0 0] 24)).drew.heap.size = w2.heap.size + 1:=by simp
   have hzz:=HB2.out.lt
   generalize (w2.alloc (.cells #[.bool D0, .string x1, .bool D2, .string x4, .slice none 0 0] 24)).drew = w4 at B4 BR hb4 d3 hz4 ⊢
   generalize w2.heap.size = g4 at B4 hz4 hp2 hzz ⊢
   have hbg : b ≠ g4:=by omega
   have hb4z : b < w4.heap.size:=by omega
   have hg4z : g4 < w4.heap.size:=by omega
   have HB4:=Lib.hid B4
   have HBR:=Lib.hid BR
   clear B4 BR C3 d0 d1 d2 d4 c0 c1 c2 c4 HB2 hbw2 CC CS
   go_wp2_with fail
   have d3d : w4.drew.cell? ⟨b, o + 3, none⟩ = some (.string x3):=d3
   go_region_held3 (fun w'=>w'.cell? ⟨b, o + 3, none⟩ = some (.string x3)) (first | exact d3d | exact k3 | exact k4 | exact cell_far hbg k4) (first | (go_at_call 35; refine (CA.out _).mono ?_; rintro e w5 ⟨rfl, _, hb5⟩; have k3 : w5.cell? ⟨b, o + 3, none⟩ = some (.string x3):=bat hb5 hb4z d3d) | (go_at_call 33; refine (CT.out _).mono ?_; rintro e w6 ⟨A, k, rfl, hk, hS, hb6⟩; have k4 : w6.cell? ⟨b, o + 3, none⟩ = some (.string x3):=bat hb6 (Nat.lt_of_lt_of_le hb4z hb5.size) k3; have B6:=(HB4.out.drew.past hb5).past hb6; have y4:=B6.cell 4; have z4:=B6.frozen 4))
   have hs5:=hb5.size
   have hs6:=hb6.size
   have hs5' : w4.heap.size ≤ w5.heap.size:=hs5
   have hwg : w.heap.size ≠ g4:=by omega
   have B7 : Blk (w6.setCell ⟨g4, 4, none⟩ (.slice A (split 44 14 t).length k)) g4 24 #[.bool D0, .string x1, .bool D2, .string x4, .slice A (split 44 14 t).length k]:=B6.set_ 4 _
   have BR7 : Blk (w6.setCell ⟨g4, 4, none⟩ (.slice A (split 44 14 t).length k)) w.heap.size 24 #[.bool false, .string ⟨#[]⟩, .bool false, .string ⟨#[]⟩, .slice none 0 0]:=((HBR.out.drew.past hb5).past hb6).far (p:=⟨g4, 4, none⟩) hwg _
   have hb7 : Below w.heap.size w (w6.setCell ⟨g4, 4, none⟩ (.slice A (split 44 14 t).length k)):=((hb4.drew.trans (hb5.mono (Nat.le_trans hb4.size (Nat.le_refl _)))).trans (hb6.mono (by omega))).setCell (p:=⟨g4, 4, none⟩) (by show w.heap.size ≤ g4; omega) _
   have HS7 : Hid (StrsAt (w6.setCell ⟨g4, 4, none⟩ (.slice A (split 44 14 t).length k)) (fun b=>w5.heap.size ≤ b ∧ b < w6.heap.size) A ((split 44 14 t).map Nm.mk)):=hS.imp (fun _ h=>h) (fun p hp=>far1 (by omega))
   have hz7 : (w6.setCell ⟨g4, 4, none⟩ (.slice A (split 44 14 t).length k)).heap.size = w6.heap.size:=by simp [World.setCell]
   generalize (w6.setCell ⟨g4, 4, none⟩ (.slice A (split 44 14 t).length k)) = w7 at B7 BR7 hb7 HS7 hz7 ⊢
   obtain ⟨a0, a1, a2, a3, a4⟩:=rules5 B7
   obtain ⟨r0, r1, r2, r3, r4⟩:=rules5 BR7
   obtain ⟨f0, f1, f2, f3, f4⟩:=frozen5 BR7
   have HBR7:=Lib.hid BR7
   clear B7 BR7 B6 y4 z4 k3 k4 hS d3 d3d hb5 hb6 hb4 HB4 HBR CT CA
   go_wp2_with fail
   refine bodyPost_ret (res_rule rfl _ _ w.heap.size _ _ _ _ _ rfl (set5 HBR7.out)) rfl ⟨A, k, ?_, ?_, ?_, below5 hb7 (Nat.le_refl _) _ _ _ _ _⟩
   ·rw [HE1.out, HE2.out, HX1.out, HX4.out, HT.out]
   ·rw [HT.out]; exact hk
   ·rw [HN.out]
    exact HS7.out.imp (fun b hb=>⟨by omega, by rw [size5]; omega⟩) (fun p hp=>far5 (by have:=hp.1; omega))
end Go.Proofs.YtpnlalfdgngcdaaDoor.Ru
