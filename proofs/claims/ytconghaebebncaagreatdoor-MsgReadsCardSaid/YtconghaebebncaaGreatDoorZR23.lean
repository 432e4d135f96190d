import Derived.Test.YtconghaebebncaaGreatDoorZR17
import Derived.Maps.AppendAt
import Derived.Deep.AppendLies
import Derived.Laws.ResultCell
set_option linter.unusedVariables false
set_option maxRecDepth 100000
namespace Go.Proofs.YtconghaebebncaaGreatDoor.Be
open Go.RowKit
def ReadPost (a : Nat) (w : World) : Res → Ending → World → Prop
 | .bad p x, r, w'=>r = .returned (.tuple #[.agg #[.int .u8 0, .string ⟨#[]⟩, .slice none 0 0], .int .i64 0, .int .i64 p, .int .i64 x]) ∧ Below w.heap.size w w'
 | .ok e n, r, w'=>∃ x y z, r = .returned (.tuple #[.agg #[x, y, z], .int .i64 (a + n : Nat), .int .i64 0, .int .i64 0]) ∧ Below w.heap.size w w' ∧ Lies w' (fun b=>w.heap.size ≤ b ∧ b < w'.heap.size) e [x, y, z]
theorem res_readAt (W : World) (g : Nat) (x y z n p e : Value) (tmps : Array Value) (h6 : tmps.getD 6 undef = .pointer (some ⟨g, 0, none⟩)) (h7 : tmps.getD 7 undef = n) (h8 : tmps.getD 8 undef = p) (h9 : tmps.getD 9 undef = e)
  (B : Blk W g 57 #[x, y, z]) : (results Tryz.f90 tmps).run Tryz.prog W = .ok (.tuple #[.agg #[x, y, z], n, p, e]) W:=by
 have q0 : W.cell? ⟨g, 0, none⟩ = some x:=B.cell 0
 have q1 : W.cell? ⟨g, 1, none⟩ = some y:=B.cell 1
 have q2 : W.cell? ⟨g, 2, none⟩ = some z:=B.cell 2
 rw [Array.getD_eq_getD_getElem?] at h6 h7 h8 h9
 simp [results, Tryz.results90, go_sem, h6, h7, h8, h9, q0, q1, q2]
set_option maxHeartbeats 1000000 in
theorem read_deep (s : ByteArray) (a : Nat) (d : Int) (w : World) (hd : 20 < d) :
  Calls Tryz.prog 90 #[.string s, .int .i64 a, .int .i64 d] w fun r w'=>r = .returned (.tuple #[.agg #[.int .u8 0, .string ⟨#[]⟩, .slice none 0 0], .int .i64 0, .int .i64 a, .int .i64 12]) ∧ Below w.heap.size w w':=by
 go_enter Tryz.func90, Tryz.ntmps90
 go_wp2_with fail
 refine bodyPost_ret (v:=.tuple #[.agg #[.int .u8 0, .string ⟨#[]⟩, .slice none 0 0], .int .i64 0, .int .i64 a, .int .i64 12]) (by simp [results, Tryz.results90, go_sem]) rfl ⟨rfl, (Below.refl _ _).alloc (Nat.le_refl _) _⟩
set_option maxHeartbeats 1000000 in
theorem read_err (s : ByteArray) (a : Nat) (d : Int) (w : World) (hd : d ≤ 20) (h n x : Nat) (hs : s.size ≤ 1099511627776) (ha : a ≤ s.size)
  (C : ∀ w, Calls Tryz.prog 123 #[.string (s.extract a s.size)] w fun e w'=>e = .returned (.tuple #[.int .i64 h, .int .i64 n, .int .i64 x]) ∧ Below w.heap.size w w')
  (hx0 : ((x : Int) == 0) = false) (hx1 : ((x : Int) == 10) = false) (hx2 : ((x : Int) != 0) = true) :
  Calls Tryz.prog 90 #[.string s, .int .i64 a, .int .i64 d] w fun r w'=>r = .returned (.tuple #[.agg #[.int .u8 0, .string ⟨#[]⟩, .slice none 0 0], .int .i64 0, .int .i64 a, .int .i64 x]) ∧ Below w.heap.size w w':=by
 have HC:=Lib.hid C
 clear C
 go_enter Tryz.func90, Tryz.ntmps90
 go_wp2_with fail
 refine (HC.out _).mono ?_
 rintro r w1 ⟨rfl, hb1⟩
 have B1:=(Blk.new w 57 #[.int .u8 0, .string ⟨#[]⟩, .slice none 0 0]).past hb1
 have c0 : w1.cell? ⟨w.heap.size, 0, none⟩ = some (.int .u8 0):=B1.cell 0
 have c1 : w1.cell? ⟨w.heap.size, 1, none⟩ = some (.string ⟨#[]⟩):=B1.cell 1
 have c2 : w1.cell? ⟨w.heap.size, 2, none⟩ = some (.slice none 0 0):=B1.cell 2
 have g0:=B1.frozen 0
 have g1:=B1.frozen 1
 have g2:=B1.frozen 2
 go_wp2_with fail
 have BB:=B1.set3 (x':=.int .u8 0) (y':=.string ⟨#[]⟩) (z':=.slice none 0 0)
 refine bodyPost_ret (res_readAt _ w.heap.size _ _ _ _ _ _ _ rfl rfl rfl rfl BB) rfl ⟨rfl, ?_⟩
 exact ((((((Below.refl _ _).alloc (Nat.le_refl _) _).trans (hb1.mono (by simp))).setCell (p:=⟨w.heap.size, 0, none⟩) (Nat.le_refl _) _).setCell (p:=⟨w.heap.size, 1, none⟩) (Nat.le_refl _) _).setCell (p:=⟨w.heap.size, 2, none⟩) (Nat.le_refl _) _)
set_option maxHeartbeats 1000000 in
theorem read_short (s : ByteArray) (a : Nat) (d : Int) (w : World) (hd : d ≤ 20) (h n : Nat) (hs : s.size ≤ 1099511627776) (ha : a ≤ s.size)
  (C : ∀ w, Calls Tryz.prog 123 #[.string (s.extract a s.size)] w fun e w'=>e = .returned (.tuple #[.int .i64 h, .int .i64 n, .int .i64 10]) ∧ Below w.heap.size w w')
  (hd1 : d ≤ 1) :
  Calls Tryz.prog 90 #[.string s, .int .i64 a, .int .i64 d] w fun r w'=>r = .returned (.tuple #[.agg #[.int .u8 0, .string ⟨#[]⟩, .slice none 0 0], .int .i64 0, .int .i64 a, .int .i64 10]) ∧ Below w.heap.size w w':=by
 have HC:=Lib.hid C
 clear C
 go_enter Tryz.func90, Tryz.ntmps90
 go_wp2_with fail
 refine (HC.out _).mono ?_
 rintro r w1 ⟨rfl, hb1⟩
 have B1:=(Blk.new w 57 #[.int .u8 0, .string ⟨#[]⟩, .slice none 0 0]).past hb1
 have c0 : w1.cell? ⟨w.heap.size, 0, none⟩ = some (.int .u8 0):=B1.cell 0
 have c1 : w1.cell? ⟨w.heap.size, 1, none⟩ = some (.string ⟨#[]⟩):=B1.cell 1
 have c2 : w1.cell? ⟨w.heap.size, 2, none⟩ = some (.slice none 0 0):=B1.cell 2
 have g0:=B1.frozen 0
 have g1:=B1.frozen 1
 have g2:=B1.frozen 2
 go_wp2_with fail
 have BB:=B1.set3 (x':=.int .u8 0) (y':=.string ⟨#[]⟩) (z':=.slice none 0 0)
 refine bodyPost_ret (res_readAt _ w.heap.size _ _ _ _ _ _ _ rfl rfl rfl rfl BB) rfl ⟨rfl, ?_⟩
 exact ((((((Below.refl _ _).alloc (Nat.le_refl _) _).trans (hb1.mono (by simp))).setCell (p:=⟨w.heap.size, 0, none⟩) (Nat.le_refl _) _).setCell (p:=⟨w.heap.size, 1, none⟩) (Nat.le_refl _) _).setCell (p:=⟨w.heap.size, 2, none⟩) (Nat.le_refl _) _)
set_option maxHeartbeats 1000000 in
theorem read_length (s : ByteArray) (a : Nat) (d : Int) (w : World) (hd : d ≤ 20) (h n : Nat) (hs : s.size ≤ 1099511627776) (ha : a ≤ s.size)
  (C : ∀ w, Calls Tryz.prog 123 #[.string (s.extract a s.size)] w fun e w'=>e = .returned (.tuple #[.int .i64 h, .int .i64 n, .int .i64 10]) ∧ Below w.heap.size w w')
  (hd1 : 1 < d) :
  Calls Tryz.prog 90 #[.string s, .int .i64 a, .int .i64 d] w fun r w'=>r = .returned (.tuple #[.agg #[.int .u8 0, .string ⟨#[]⟩, .slice none 0 0], .int .i64 0, .int .i64 a, .int .i64 11]) ∧ Below w.heap.size w w':=by
 have HC:=Lib.hid C
 clear C
 go_enter Tryz.func90, Tryz.ntmps90
 go_wp2_with fail
 refine (HC.out _).mono ?_
 rintro r w1 ⟨rfl, hb1⟩
 have B1:=(Blk.new w 57 #[.int .u8 0, .string ⟨#[]⟩, .slice none 0 0]).past hb1
 have c0 : w1.cell? ⟨w.heap.size, 0, none⟩ = some (.int .u8 0):=B1.cell 0
 have c1 : w1.cell? ⟨w.heap.size, 1, none⟩ = some (.string ⟨#[]⟩):=B1.cell 1
 have c2 : w1.cell? ⟨w.heap.size, 2, none⟩ = some (.slice none 0 0):=B1.cell 2
 have g0:=B1.frozen 0
 have g1:=B1.frozen 1
 have g2:=B1.frozen 2
 go_wp2_with fail
 have BB:=B1.set3 (x':=.int .u8 0) (y':=.string ⟨#[]⟩) (z':=.slice none 0 0)
 refine bodyPost_ret (res_readAt _ w.heap.size _ _ _ _ _ _ _ rfl rfl rfl rfl BB) rfl ⟨rfl, ?_⟩
 exact ((((((Below.refl _ _).alloc (Nat.le_refl _) _).trans (hb1.mono (by simp))).setCell (p:=⟨w.heap.size, 0, none⟩) (Nat.le_refl _) _).setCell (p:=⟨w.heap.size, 1, none⟩) (Nat.le_refl _) _).setCell (p:=⟨w.heap.size, 2, none⟩) (Nat.le_refl _) _)
set_option maxHeartbeats 1000000 in
theorem read_past (s : ByteArray) (a : Nat) (d : Int) (w : World) (hd : d ≤ 20) (h n : Nat) (hs : s.size ≤ 1099511627776) (ha : a ≤ s.size)
  (C : ∀ w, Calls Tryz.prog 123 #[.string (s.extract a s.size)] w fun e w'=>e = .returned (.tuple #[.int .i64 h, .int .i64 n, .int .i64 0]) ∧ Below w.heap.size w w')
  (hd1 : d ≤ 1) (hh : (h : Int) ≤ s.size - a) (hn : (s.size : Int) - a - h < n) :
  Calls Tryz.prog 90 #[.string s, .int .i64 a, .int .i64 d] w fun r w'=>r = .returned (.tuple #[.agg #[.int .u8 0, .string ⟨#[]⟩, .slice none 0 0], .int .i64 0, .int .i64 a, .int .i64 10]) ∧ Below w.heap.size w w':=by
 have HC:=Lib.hid C
 clear C
 go_enter Tryz.func90, Tryz.ntmps90
 go_wp2_with fail
 refine (HC.out _).mono ?_
 rintro r w1 ⟨rfl, hb1⟩
 have B1:=(Blk.new w 57 #[.int .u8 0, .string ⟨#[]⟩, .slice none 0 0]).past hb1
 have c0 : w1.cell? ⟨w.heap.size, 0, none⟩ = some (.int .u8 0):=B1.cell 0
 have c1 : w1.cell? ⟨w.heap.size, 1, none⟩ = some (.string ⟨#[]⟩):=B1.cell 1
 have c2 : w1.cell? ⟨w.heap.size, 2, none⟩ = some (.slice none 0 0):=B1.cell 2
 have g0:=B1.frozen 0
 have g1:=B1.frozen 1
 have g2:=B1.frozen 2
 go_wp2_with fail
 have BB:=B1.set3 (x':=.int .u8 0) (y':=.string ⟨#[]⟩) (z':=.slice none 0 0)
 refine bodyPost_ret (res_readAt _ w.heap.size _ _ _ _ _ _ _ rfl rfl rfl rfl BB) rfl ⟨rfl, ?_⟩
 exact ((((((Below.refl _ _).alloc (Nat.le_refl _) _).trans (hb1.mono (by simp))).setCell (p:=⟨w.heap.size, 0, none⟩) (Nat.le_refl _) _).setCell (p:=⟨w.heap.size, 1, none⟩) (Nat.le_refl _) _).setCell (p:=⟨w.heap.size, 2, none⟩) (Nat.le_refl _) _)
set_option maxHeartbeats 1000000 in
theorem read_past2 (s : ByteArray) (a : Nat) (d : Int) (w : World) (hd : d ≤ 20) (h n : Nat) (hs : s.size ≤ 1099511627776) (ha : a ≤ s.size)
  (C : ∀ w, Calls Tryz.prog 123 #[.string (s.extract a s.size)] w fun e w'=>e = .returned (.tuple #[.int .i64 h, .int .i64 n, .int .i64 0]) ∧ Below w.heap.size w w')
  (hd1 : 1 < d) (hh : (h : Int) ≤ s.size - a) (hn : (s.size : Int) - a - h < n) :
  Calls Tryz.prog 90 #[.string s, .int .i64 a, .int .i64 d] w fun r w'=>r = .returned (.tuple #[.agg #[.int .u8 0, .string ⟨#[]⟩, .slice none 0 0], .int .i64 0, .int .i64 a, .int .i64 11]) ∧ Below w.heap.size w w':=by
 have HC:=Lib.hid C
 clear C
 go_enter Tryz.func90, Tryz.ntmps90
 go_wp2_with fail
 refine (HC.out _).mono ?_
 rintro r w1 ⟨rfl, hb1⟩
 have B1:=(Blk.new w 57 #[.int .u8 0, .string ⟨#[]⟩, .slice none 0 0]).past hb1
 have c0 : w1.cell? ⟨w.heap.size, 0, none⟩ = some (.int .u8 0):=B1.cell 0
 have c1 : w1.cell? ⟨w.heap.size, 1, none⟩ = some (.string ⟨#[]⟩):=B1.cell 1
 have c2 : w1.cell? ⟨w.heap.size, 2, none⟩ = some (.slice none 0 0):=B1.cell 2
 have g0:=B1.frozen 0
 have g1:=B1.frozen 1
 have g2:=B1.frozen 2
 go_wp2_with fail
 have BB:=B1.set3 (x':=.int .u8 0) (y':=.string ⟨#[]⟩) (z':=.slice none 0 0)
 refine bodyPost_ret (res_readAt _ w.heap.size _ _ _ _ _ _ _ rfl rfl rfl rfl BB) rfl ⟨rfl, ?_⟩
 exact ((((((Below.refl _ _).alloc (Nat.le_refl _) _).trans (hb1.mono (by simp))).setCell (p:=⟨w.heap.size, 0, none⟩) (Nat.le_refl _) _).setCell (p:=⟨w.heap.size, 1, none⟩) (Nat.le_refl _) _).setCell (p:=⟨w.heap.size, 2, none⟩) (Nat.le_refl _) _)
set_option maxHeartbeats 1000000 in
theorem read_prim (s : ByteArray) (a : Nat) (d : Int) (w : World) (hd : d ≤ 20) (h n : Nat) (hs : s.size ≤ 1099511627776) (ha : a < s.size) (hh : 2 ≤ h) (hn : (h : Int) + n ≤ s.size - a)
  (C : ∀ w, Calls Tryz.prog 123 #[.string (s.extract a s.size)] w fun e w'=>e = .returned (.tuple #[.int .i64 h, .int .i64 n, .int .i64 0]) ∧ Below w.heap.size w w')
  (ht : s[a].toNat / 32 % 2 = 0) :
  Calls Tryz.prog 90 #[.string s, .int .i64 a, .int .i64 d] w fun r w' =>
   r = .returned (.tuple #[.agg #[.int .u8 s[a].toNat, .string (s.extract (a + h) (a + h + n)), .slice none 0 0], .int .i64 ((a : Int) + h + n), .int .i64 0, .int .i64 0]) ∧ Below w.heap.size w w':=by
 have HC:=Lib.hid C
 have HT:=Lib.hid ht
 have hsx : (s.extract (a + h) (a + h + n)).size ≤ 281474976710656:=by
  rw [ByteArray.size_extract]; omega
 have Hsx:=Lib.hid hsx
 clear C ht hsx
 go_enter Tryz.func90, Tryz.ntmps90
 go_wp2_with fail
 refine (HC.out _).mono ?_
 rintro r w1 ⟨rfl, hb1⟩
 have B1:=(Blk.new w 57 #[.int .u8 0, .string ⟨#[]⟩, .slice none 0 0]).past hb1
 have hs1:=hb1.size
 have hb1':=((Below.refl w.heap.size w).alloc (Nat.le_refl _) (.cells #[.int .u8 0, .string ⟨#[]⟩, .slice none 0 0] 57)).trans (hb1.mono (by simp))
 clear hb1
 go_wp2_with fail
 refine (isCons_false _ _ (by have:=u8_lt s[a]; omega) HT.out).mono ?_
 rintro r w2 ⟨rfl, rfl⟩
 go_wp2_with fail
 refine (clone_any _ _ Hsx.out).mono ?_
 rintro r w3 ⟨rfl, hb3⟩
 have hs3:=hb3.size
 have B3:=(Blk.new w1 57 #[.int .u8 s[a].toNat, .string ⟨#[]⟩, .slice none 0 0]).past hb3
 have B1':=(B1.alloc (.cells #[.int .u8 s[a].toNat, .string ⟨#[]⟩, .slice none 0 0] 57)).past hb3
 have hb3':=(hb1'.alloc (by simp at hs1; omega) (.cells #[.int .u8 s[a].toNat, .string ⟨#[]⟩, .slice none 0 0] 57)).trans (hb3.mono (by simp at hs1 ⊢; omega))
 have c0 : w3.cell? ⟨w.heap.size, 0, none⟩ = some (.int .u8 0):=B1'.cell 0
 have c1 : w3.cell? ⟨w.heap.size, 1, none⟩ = some (.string ⟨#[]⟩):=B1'.cell 1
 have c2 : w3.cell? ⟨w.heap.size, 2, none⟩ = some (.slice none 0 0):=B1'.cell 2
 have g0:=B1'.frozen 0
 have g1:=B1'.frozen 1
 have g2:=B1'.frozen 2
 have d0 : w3.cell? ⟨w1.heap.size, 0, none⟩ = some (.int .u8 s[a].toNat):=B3.cell 0
 have d1 : w3.cell? ⟨w1.heap.size, 1, none⟩ = some (.string ⟨#[]⟩):=B3.cell 1
 have d2 : w3.cell? ⟨w1.heap.size, 2, none⟩ = some (.slice none 0 0):=B3.cell 2
 have k1:=B3.frozen 1
 have hne : w.heap.size ≠ w1.heap.size:=by simp at hs1; omega
 have hne' : w1.heap.size ≠ w.heap.size:=hne.symm
 clear hb3
 go_wp2_with fail
 refine bodyPost_ret (res_readAt _ w.heap.size _ _ _ _ _ _ _ rfl rfl rfl rfl ((B1'.far hne _).set3)) rfl ⟨rfl, ?_⟩
 exact (((hb3'.setCell (p:=⟨w1.heap.size, 1, none⟩) (by simp at hs1; show w.heap.size ≤ w1.heap.size; omega) _).setCell (p:=⟨w.heap.size, 0, none⟩) (Nat.le_refl _) _).setCell (p:=⟨w.heap.size, 1, none⟩) (Nat.le_refl _) _).setCell (p:=⟨w.heap.size, 2, none⟩) (Nat.le_refl _) _
def Gath (w : World) (base : Nat) (v : Value) (xs : List Value) (done : List El) : Prop :=
 w.ownsRow base 57 3 v done.length xs ∧
 ∀ i (h : i < done.length), ∃ x y z, xs[i * 3]? = some x ∧ xs[i * 3 + 1]? = some y ∧ xs[i * 3 + 2]? = some z ∧ Lies w (fun b=>base ≤ b ∧ b < w.heap.size ∧ v.ownBlock ≠ some b) done[i] [x, y, z]
theorem Gath.nil (w : World) (base : Nat) : Gath w base (.slice none 0 0) [] []:=⟨World.ownsRow_nil _ _ _ _, fun i h=>absurd h (by simp)⟩
theorem Gath.past {w w' : World} {base : Nat} {v : Value} {xs : List Value} {done : List El} (h : Gath w base v xs done) (hb : Below w.heap.size w w') : Gath w' base v xs done:=by
 refine ⟨own_past h.1 hb, fun i hi=>?_⟩
 obtain ⟨x, y, z, h0, h1, h2, hl⟩:=h.2 i hi
 exact ⟨x, y, z, h0, h1, h2, hl.imp (fun b hb'=>⟨hb'.1, Nat.lt_of_lt_of_le hb'.2.1 hb.size, hb'.2.2⟩) (fun p hp=>hb.cell hp.2.1)⟩
theorem Gath.alloc {w : World} {base : Nat} {v : Value} {xs : List Value} {done : List El} (h : Gath w base v xs done) (o : Obj) : Gath (w.alloc o) base v xs done:=h.past ((Below.refl _ _).alloc (Nat.le_refl _) o)
theorem Gath.set_ {w : World} {base : Nat} {v : Value} {xs : List Value} {done : List El} (h : Gath w base v xs done) {p : Addr} (hp : p.block < base) (u : Value) : Gath (w.setCell p u) base v xs done:=by
 refine ⟨ownsRow_setCell_below h.1 hp u, fun i hi=>?_⟩
 obtain ⟨x, y, z, h0, h1, h2, hl⟩:=h.2 i hi
 exact ⟨x, y, z, h0, h1, h2, hl.imp (fun b hb'=>⟨hb'.1, by simpa [World.setCell] using hb'.2.1, hb'.2.2⟩) (fun q hq=>World.cell?_setCell_other w p q u (fun e=>by subst e; have:=hq.1; omega))⟩
theorem Gath.step {w w' : World} {base : Nat} {v v' : Value} {xs : List Value} {done : List El} {e : El} {x y z : Value} (h : Gath w base v xs done)
  (hl : Lies w (fun b=>base ≤ b ∧ b < w.heap.size ∧ v.ownBlock ≠ some b) e [x, y, z]) (hown : w'.ownsRow base 57 3 v' (done.length + 1) (xs ++ [x, y, z]))
  (hg : w.grownBy w' v.ownBlock) (hat : v'.ownBlock = v.ownBlock ∨ v'.ownBlock = some w.heap.size) : Gath w' base v' (xs ++ [x, y, z]) (done ++ [e]):=by
 have hxl : xs.length = done.length * 3:=h.1.1
 have keep : ∀ {e : El} {cs : List Value}, Lies w (fun b=>base ≤ b ∧ b < w.heap.size ∧ v.ownBlock ≠ some b) e cs → Lies w' (fun b=>base ≤ b ∧ b < w'.heap.size ∧ v'.ownBlock ≠ some b) e cs:=by
  intro e cs hl
  refine hl.imp (fun b hb=>⟨hb.1, Nat.lt_of_lt_of_le hb.2.1 hg.size, ?_⟩) (fun p hp=>World.cell?_of_block (hg.block p.block hp.2.1 (fun e=>hp.2.2 e.symm)))
  rcases hat with h' | h'
  ·rw [h']; exact hb.2.2
  ·rw [h']; intro h''; injection h'' with h''; have:=hb.2.1; omega
 refine ⟨by simpa using hown, fun i hi=>?_⟩
 rw [List.length_append, List.length_singleton] at hi
 by_cases hlt : i < done.length
 ·obtain ⟨x', y', z', h0, h1, h2, hl'⟩:=h.2 i hlt
  have g0:=(List.getElem?_eq_some_iff.1 h0).1
  have g1:=(List.getElem?_eq_some_iff.1 h1).1
  have g2:=(List.getElem?_eq_some_iff.1 h2).1
  refine ⟨x', y', z', by rw [List.getElem?_append_left g0]; exact h0, by rw [List.getElem?_append_left g1]; exact h1, by rw [List.getElem?_append_left g2]; exact h2, ?_⟩
  rw [List.getElem_append_left hlt]
  exact keep hl'
 ·have hi' : i = done.length:=by omega
  subst hi'
  refine ⟨x, y, z, ?_, ?_, ?_, ?_⟩
  ·rw [List.getElem?_append_right (by omega), hxl, Nat.sub_self]; rfl
  ·rw [List.getElem?_append_right (by omega), hxl, show done.length * 3 + 1 - done.length * 3 = 1 by omega]; rfl
  ·rw [List.getElem?_append_right (by omega), hxl, show done.length * 3 + 2 - done.length * 3 = 2 by omega]; rfl
  ·rw [List.getElem_append_right (Nat.le_refl _)]
   simpa using keep hl
theorem Gath.shut {w : World} {base : Nat} {v : Value} {xs : List Value} {done : List El} (h : Gath w base v xs done) :
  ∃ (A : Option Addr) (c : Nat) (ds : Nat → List Value), v = .slice A done.length c ∧ KidsAt w (fun b=>base ≤ b ∧ b < w.heap.size) A done ds:=by
 have hxl : xs.length = done.length * 3:=h.1.1
 have hform : ∃ (A : Option Addr) (c : Nat), v = .slice A done.length c:=by
  rcases h.1.2 with ⟨rfl, h0⟩ | ⟨g, cap, cur, rfl, _⟩
  ·exact ⟨none, 0, by rw [h0]⟩
  ·exact ⟨_, _, rfl⟩
 obtain ⟨A, c, rfl⟩:=hform
 refine ⟨A, c, fun i=>(xs.drop (i * 3)).take 3, rfl, fun i hi=>?_, fun h0=>?_, fun i hi=>?_⟩
 ·rw [List.length_take, List.length_drop]; omega
 ·obtain ⟨g, cap, hv, hg, hlt⟩:=World.ownsRow.form h.1 h0
  have hA : A = some ⟨g, 0, none⟩:=by injection hv
  subst hA
  refine ⟨_, rfl, ⟨hg, hlt⟩, fun i hi j u hu=>?_⟩
  refine World.ownsRow.cells h.1 (g:=g) rfl (i * 3 + j) u ?_
  by_cases hj : j < 3
  ·rw [List.getElem?_take_of_lt hj, List.getElem?_drop] at hu
   exact hu
  ·rw [List.getElem?_eq_none (by rw [List.length_take]; omega)] at hu
   cases hu
 ·obtain ⟨x, y, z, h0, h1, h2, hl⟩:=h.2 i hi
  have hd : (xs.drop (i * 3)).take 3 = [x, y, z]:=by
   have g2:=(List.getElem?_eq_some_iff.1 h2).1
   apply List.ext_getElem?
   intro j
   match j with
   | 0=>simpa [List.getElem?_drop] using h0
   | 1=>simpa [List.getElem?_drop] using h1
   | 2=>simpa [List.getElem?_drop] using h2
   | j + 3=>rw [List.getElem?_eq_none (by rw [List.length_take]; omega)]; rfl
  simp only [hd]
  exact hl.imp (fun b hb=>⟨hb.1, hb.2.1⟩) (fun _ _=>rfl)
theorem infoEl : (Tryz.prog.info? 57).map (fun i=>(i.zero, i.size, i.bytes)) = some (some (.agg #[.int .u8 0, .string ⟨#[]⟩, .slice none 0 0]), 3, 48):=by kernel_rfl
end Go.Proofs.YtconghaebebncaaGreatDoor.Be
