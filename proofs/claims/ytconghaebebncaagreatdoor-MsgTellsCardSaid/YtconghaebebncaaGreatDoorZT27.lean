import Derived.Test.YtconghaebebncaaGreatDoorZT19
import Derived.Test.YtconghaebebncaaGreatDoorZT18
import Derived.Test.YtconghaebebncaaGreatDoorZT17
import Derived.Test.YtconghaebebncaaGreatDoorZT26
import Derived.Test.YtconghaebebncaaGreatDoorZT25
import Derived.Test.YtconghaebebncaaGreatDoorZT6
namespace Go.Proofs.YtconghaebebncaaGreatDoor.Ms
open _root_.Go.Proofs.YtconghaebebncaaGreatDoor.Nm _root_.Go.Proofs.YtconghaebebncaaGreatDoor.Be
set_option linter.unusedVariables false
set_option maxRecDepth 100000
theorem no_of {s : ByteArray} (h : s.size = 0) : s = no := by
 obtain ⟨d⟩ := s
 have : d = #[] := Array.eq_empty_of_size_eq_zero h
 rw [this]
end Go.Proofs.YtconghaebebncaaGreatDoor.Ms
namespace Go.Proofs.YtconghaebebncaaGreatDoor.Ms
open Go.RowKit
set_option linter.unusedVariables false
set_option maxRecDepth 100000
theorem asWorld_below (w : World) (g : Nat) (t : Addr) (n : Int) (hg : g ≤ t.block) (ht : t.block < w.heap.size) (hgw : g ≤ w.heap.size) : Below g w (asWorld w t n) := by
 have h0 := (((((Below.refl g w).alloc hgw (.cells #[.pointer (some t)] 84)).alloc (by simp; omega) (.cells #[.pointer (some ⟨4, 84, none⟩), .pointer (some ⟨w.heap.size, 0, none⟩), .int .u64 150] 113)).alloc (by simp; omega) (.cells #[.pointer (some ⟨4, 84, none⟩), .pointer (some ⟨w.heap.size, 0, none⟩), .int .u64 150] 113)).alloc (by simp; omega) (.cells #[.int .i64 n] 31))
 exact h0.setCell hg _
theorem asWorld_cell (w : World) (g : Nat) (t : TypeId) (n : Int) (c : Value) : Blk (asWorld (w.alloc (.cells #[c] t)) ⟨w.heap.size, 0, none⟩ n) w.heap.size t #[.int .i64 n] := by
 have B := Blk.new w t #[c]
 have B1 := ((((B.alloc (.cells #[.pointer (some ⟨w.heap.size, 0, none⟩)] 84)).alloc (.cells #[.pointer (some ⟨4, 84, none⟩), .pointer (some ⟨(w.alloc (.cells #[c] t)).heap.size, 0, none⟩), .int .u64 150] 113)).alloc (.cells #[.pointer (some ⟨4, 84, none⟩), .pointer (some ⟨(w.alloc (.cells #[c] t)).heap.size, 0, none⟩), .int .u64 150] 113)).alloc (.cells #[.int .i64 n] 31))
 exact B1.set_ 0 (.int .i64 n)
def Told' (w : World) (n : Int) (r : Ending) (w' : World) : Prop := r = .returned (.int .i64 n) ∧ Below w.heap.size w w'
theorem number_nil (w : World) : Calls Tryz.prog 21 #[.nilIface] w (Told' w 0) := by
 have hb := Lib.hid ((Below.refl w.heap.size w).alloc (Nat.le_refl _) (.cells #[.int .i64 0] 31))
 have HA := Lib.hid (fun x w => as_nil x w)
 go_enter Tryz.func21, Tryz.ntmps21
 go_wp2_with fail
 refine (HA.out _ _).mono ?_
 rintro e w1 ⟨rfl, rfl⟩
 go_wp2_with fail
 go_ret
 exact ⟨rfl, hb.out⟩
theorem number_num (n : Int) (w : World) (hG : Glob w) : Calls Tryz.prog 21 #[.iface 31 (.int .i64 n)] w (Told' w n) := by
 have B := Blk.new w 31 #[.int .i64 0]
 have hb0 := (Below.refl w.heap.size w).alloc (Nat.le_refl _) (.cells #[.int .i64 0] 31)
 have hb := Lib.hid hb0
 have HA := Lib.hid (as_num n ⟨w.heap.size, 0, none⟩ _ _ (hG.past hb0) (B.cell 0) (B.frozen 0))
 have HB := Lib.hid (asWorld_cell w w.heap.size 31 n (.int .i64 0))
 have HL := Lib.hid (asWorld_below (w.alloc (.cells #[.int .i64 0] 31)) w.heap.size ⟨w.heap.size, 0, none⟩ n (Nat.le_refl _) (by simp) (by simp))
 clear B hb0 hG
 go_enter Tryz.func21, Tryz.ntmps21
 go_wp2_with fail
 refine HA.out.mono ?_
 rintro e w1 ⟨rfl, rfl⟩
 have c := HB.out.cell 0
 go_wp2_with fail
 go_ret
 exact ⟨rfl, hb.out.trans HL.out⟩
theorem number_fault (pb : Nat) (n : Int) (w : World) (hG : Glob w) (h0 : w.cell? ⟨pb, 0, none⟩ = some (.iface 31 (.int .i64 n))) : Calls Tryz.prog 21 #[.iface 101 (.pointer (some ⟨pb, 0, none⟩))] w (Told' w n) := by
 have B := Blk.new w 31 #[.int .i64 0]
 have hb0 := (Below.refl w.heap.size w).alloc (Nat.le_refl _) (.cells #[.int .i64 0] 31)
 have hb := Lib.hid hb0
 have h1 : (w.alloc (.cells #[.int .i64 0] 31)).cell? ⟨pb, 0, none⟩ = some (.iface 31 (.int .i64 n)) := by rw [World.cell?_alloc_lt _ _ ⟨pb, 0, none⟩ (cell_lt h0)]; exact h0
 have HA := Lib.hid (as_fault pb n ⟨w.heap.size, 0, none⟩ _ _ (hG.past hb0) h1 (B.cell 0) (B.frozen 0))
 have HB := Lib.hid (asWorld_cell w w.heap.size 31 n (.int .i64 0))
 have HL := Lib.hid (asWorld_below (w.alloc (.cells #[.int .i64 0] 31)) w.heap.size ⟨w.heap.size, 0, none⟩ n (Nat.le_refl _) (by simp) (by simp))
 clear B hb0 hG h1
 go_enter Tryz.func21, Tryz.ntmps21
 go_wp2_with fail
 refine HA.out.mono ?_
 rintro e w1 ⟨rfl, rfl⟩
 have c := HB.out.cell 0
 go_wp2_with fail
 go_ret
 exact ⟨rfl, hb.out.trans HL.out⟩
end Go.Proofs.YtconghaebebncaaGreatDoor.Ms
namespace Go.Proofs.YtconghaebebncaaGreatDoor.Ms
open Go.RowKit
set_option linter.unusedVariables false
set_option maxRecDepth 100000
def Few (e : Be.El) : Prop := ∃ d, Be.fitS 10000 10000 d e = true
theorem few_noE : Few noE := ⟨1, by kernel_rfl⟩
theorem Few.open_ {t : Nat} {b : ByteArray} {ks : List Be.El} (h : Few (.mk t b ks)) : ks.length ≤ 10000 ∧ b.size ≤ 10000 ∧ ∀ k ∈ ks, Few k := by
 obtain ⟨d, h⟩ := h
 cases d with
 | zero => exact absurd h (by simp [Be.fitS])
 | succ d =>
  simp only [Be.fitS, Bool.and_eq_true, decide_eq_true_eq, List.all_eq_true] at h
  exact ⟨h.1, h.2.1, fun k hk => ⟨d, h.2.2 k hk⟩⟩
theorem Few.len {e : Be.El} (h : Few e) : (kidsE e).length ≤ 10000 := by cases e; exact h.open_.1
theorem Few.body {e : Be.El} (h : Few e) : (bodyE e).size ≤ 10000 := by cases e; exact h.open_.2.1
theorem Few.kid {e : Be.El} (h : Few e) (i : Nat) : Few (kidE e i) := by
 cases e with
 | mk t b ks =>
  show Few (ks.getD i noE)
  rw [List.getD_eq_getElem?_getD]
  by_cases hi : i < ks.length
  ·rw [List.getElem?_eq_getElem hi]; exact h.open_.2.2 _ (List.getElem_mem hi)
  ·rw [List.getElem?_eq_none (by omega)]; exact few_noE
def KidV (w : World) (e : Be.El) (r : Ending) (w' : World) : Prop :=
 ∃ (t : Nat) (b : ByteArray) (A : Option Addr) (n c : Nat), r = .returned (.agg #[.int .u8 (t : Nat), .string b, .slice A n c]) ∧ Below w.heap.size w w' ∧ Be.Lies w (· < w.heap.size) e [.int .u8 (t : Nat), .string b, .slice A n c]
theorem lies_noE (w : World) (P : Nat → Prop) : Be.Lies w P noE [.int .u8 (0 : Nat), .string ⟨#[]⟩, .slice none 0 0] := Be.Lies.leaf (by decide) (by decide)
theorem Lies_cells {w : World} {P : Nat → Prop} {e : Be.El} {cs : List Value} (h : Be.Lies w P e cs) : ∃ (A : Option Addr) (c : Nat), cs = [.int .u8 (tagE e : Nat), .string (bodyE e), .slice A (kidsE e).length c] := by
 cases e
 obtain ⟨A, c, ds, hcs, _⟩ := h.open_
 exact ⟨A, c, hcs⟩
theorem two_below (w : World) (a b : Array Value) (s t : TypeId) : Below w.heap.size w ((w.alloc (.cells a s)).alloc (.cells b t)) :=
 ((Below.refl w.heap.size w).alloc (Nat.le_refl _) (.cells a s)).alloc (by simp) (.cells b t)
theorem new2 (w : World) (a b : Array Value) (s t : TypeId) : Blk ((w.alloc (.cells a s)).alloc (.cells b t)) (w.heap.size + 1) t b := by
 have B := Blk.new (w.alloc (.cells a s)) t b
 rwa [show (w.alloc (.cells a s)).heap.size = w.heap.size + 1 by simp] at B
set_option maxHeartbeats 2000000 in
theorem kid_any (e : Be.El) (i : Nat) (t : Nat) (b : ByteArray) (A : Option Addr) (n c : Nat) (w : World) (hL : Be.Lies w (· < w.heap.size) e [.int .u8 (t : Nat), .string b, .slice A n c]) :
  Calls Tryz.prog 91 #[.agg #[.int .u8 (t : Nat), .string b, .slice A n c], .int .i64 i] w (KidV w (kidE e i)) := by
 obtain ⟨t', b', ks⟩ := e
 obtain ⟨A', c', ds, hcs, _, _, hl, hK⟩ := hL.open_
 simp only [List.cons.injEq, and_true, Value.slice.injEq] at hcs
 obtain ⟨-, -, rfl, rfl, rfl⟩ := hcs
 have hb0 := ((Below.refl w.heap.size w).alloc (Nat.le_refl _) (.cells #[.int .u8 (t : Nat), .string b, .slice A ks.length c] 57)).alloc (by simp) (.cells #[.int .u8 0, .string ⟨#[]⟩, .slice none 0 0] 57)
 have hz : (w.alloc (.cells #[.int .u8 (t : Nat), .string b, .slice A ks.length c] 57)).heap.size = w.heap.size + 1 := by simp
 have B1 := Blk.new (w.alloc (.cells #[.int .u8 (t : Nat), .string b, .slice A ks.length c] 57)) 57 #[.int .u8 0, .string ⟨#[]⟩, .slice none 0 0]
 rw [hz] at B1
 have g0 := B1.frozen 0
 have g1 := B1.frozen 1
 have g2 := B1.frozen 2
 have c0 := B1.cell 0
 have c1 := B1.cell 1
 have c2 := B1.cell 2
 have HB := Lib.hid B1
 have hb := Lib.hid hb0
 by_cases hi : i < ks.length
 ·obtain ⟨ad, t1, b1, A1, n1, c1', rfl, hp, f0, f1, f2, hL1⟩ := hK.kid5 hb0 hi
  have hE : kidE (.mk t' b' ks) i = ks[i] := by
   show ks.getD i noE = _
   rw [List.getD_eq_getElem?_getD, List.getElem?_eq_getElem hi]; rfl
  rw [hE]
  have hL2 : Be.Lies w (· < w.heap.size) ks[i] [.int .u8 (t1 : Nat), .string b1, .slice A1 n1 c1'] := by
   obtain ⟨h3, hA, hk⟩ := hK
   obtain ⟨ad', e', hp', hc⟩ := hA (by omega)
   cases e'
   have hx := hk i hi
   have e0 : ds i = [.int .u8 (t1 : Nat), .string b1, .slice A1 n1 c1'] := by
    match hd : ds i, h3 i hi with
    | [x, y, z], _ =>
     have q0 := (hb0.cell (by rw [block_of_add]; exact hp')).trans (hc i hi 0 x (by rw [hd]; rfl))
     have q1 := (hb0.cell (by rw [block_of_add]; exact hp')).trans (hc i hi 1 y (by rw [hd]; rfl))
     have q2 := (hb0.cell (by rw [block_of_add]; exact hp')).trans (hc i hi 2 z (by rw [hd]; rfl))
     rw [Be.add_one_two _ _ _ (by omega)] at q1 q2
     rw [Nat.add_zero] at q0
     rw [f0] at q0; rw [f1] at q1; rw [f2] at q2
     injection q0 with q0; injection q1 with q1; injection q2 with q2
     rw [q0, q1, q2]
   rw [e0] at hx
   exact hx
  have HL := Lib.hid hL2
  have hi1 : (i : Int) < ks.length := by omega
  have hi2 : (0 : Int) ≤ i := by omega
  clear hL1 hL2 hK hL hE hb0
  go_enter Tryz.func91, Tryz.ntmps91
  go_wp2_with fail
  exact bodyPost_ret (Be.res_el rfl _ _ (w.heap.size + 1) _ _ _ rfl (new2 w _ _ _ _)) rfl ⟨_, _, _, _, _, rfl, two_below w _ _ _ _, HL.out⟩
 ·have hE : kidE (.mk t' b' ks) i = noE := by
   show ks.getD i noE = _
   rw [List.getD_eq_getElem?_getD, List.getElem?_eq_none (by omega)]; rfl
  rw [hE]
  have hi1 : ¬ (i : Int) < ks.length := by omega
  clear hK hL hE hb0
  go_enter Tryz.func91, Tryz.ntmps91
  go_wp2_with fail
  exact bodyPost_ret (Be.res_el rfl _ _ (w.heap.size + 1) _ _ _ rfl (new2 w _ _ _ _)) rfl ⟨0, _, _, _, _, rfl, two_below w _ _ _ _, lies_noE _ _⟩
theorem fieldB (x y z : Value) (w : World) : (Instr.field 57 (.agg #[x, y, z]) 1).run Tryz.prog w = .ok y w := by kernel_rfl
def TextV (w : World) (s : ByteArray) (r : Ending) (w' : World) : Prop := r = .returned (.string s) ∧ Below w.heap.size w w'
set_option maxHeartbeats 2000000 in
theorem textAt_any (e : Be.El) (i : Nat) (t : Nat) (b : ByteArray) (A : Option Addr) (n c : Nat) (w : World) (hL : Be.Lies w (· < w.heap.size) e [.int .u8 (t : Nat), .string b, .slice A n c]) :
  Calls Tryz.prog 94 #[.agg #[.int .u8 (t : Nat), .string b, .slice A n c], .int .i64 i] w (TextV w (textAt e i)) := by
 have hb0 := (Below.refl w.heap.size w).alloc (Nat.le_refl _) (.cells #[.int .u8 (t : Nat), .string b, .slice A n c] 57)
 have HK := Lib.hid (kid_any e i t b A n c _ (hL.past hb0))
 have hb := Lib.hid hb0
 obtain ⟨s, hs⟩ : ∃ s, s = textAt e i := ⟨_, rfl⟩
 rw [← hs]
 have HS := Lib.hid hs
 clear hL hb0 hs
 go_enter Tryz.func94, Tryz.ntmps94
 go_wp2_with fail
 refine HK.out.mono ?_
 rintro r w1 ⟨t1, b1, A1, n1, c1, rfl, hb1, hL1⟩
 have hs1 : s = b1 := by
  obtain ⟨A', c', hcs⟩ := Lies_cells hL1
  simp only [List.cons.injEq, and_true, Value.string.injEq] at hcs
  rw [HS.out, hcs.2.1]; rfl
 have HS1 := Lib.hid hs1
 have hb2 := hb.out.trans (hb1.mono hb.out.size)
 clear hs1 hL1
 have hfB := fieldB
 go_wp2_with fail
 go_ret
 exact ⟨by rw [HS1.out]; rfl, hb2⟩
set_option maxHeartbeats 2000000 in
theorem numberAt_any (e : Be.El) (i : Nat) (t : Nat) (b : ByteArray) (A : Option Addr) (n c : Nat) (w : World) (hL : Be.Lies w (· < w.heap.size) e [.int .u8 (t : Nat), .string b, .slice A n c]) :
  Calls Tryz.prog 92 #[.agg #[.int .u8 (t : Nat), .string b, .slice A n c], .int .i64 i] w (Told' w (numAt e i)) := by
 have hb0 := (Below.refl w.heap.size w).alloc (Nat.le_refl _) (.cells #[.int .u8 (t : Nat), .string b, .slice A n c] 57)
 have HK := Lib.hid (textAt_any e i t b A n c _ (hL.past hb0))
 have HR := Lib.hid (fun w => Be.ReadInt_any (textAt e i) w)
 have hn : numAt e i = (Be.rdI (textAt e i).data.toList).getD 0 := rfl
 generalize numAt e i = m at hn ⊢
 generalize textAt e i = s at HK HR hn
 unfold Be.rdV at HR
 rw [← hn] at HR
 have hb := Lib.hid hb0
 clear hL hb0 hn
 go_enter Tryz.func92, Tryz.ntmps92
 go_wp2_with fail
 refine HK.out.mono ?_
 rintro r w1 ⟨rfl, hb1⟩
 have hb2 := hb.out.trans (hb1.mono hb.out.size)
 go_wp2_with fail
 refine (HR.out _).mono ?_
 rintro r w2 ⟨rfl, hb3⟩
 have hb4 := hb2.trans (hb3.mono hb2.size)
 go_wp2_with fail
 go_ret
 exact ⟨rfl, hb4⟩
end Go.Proofs.YtconghaebebncaaGreatDoor.Ms
namespace Go.Proofs.YtconghaebebncaaGreatDoor.Ms
set_option linter.unusedVariables false
set_option maxRecDepth 100000
def rdMW (e : Be.El) : Mg := rdM e
def decMW (s : List UInt8) : Mg × Nat := match Be.rd 20 s 0 with
 | .bad _ x => (zero, x)
 | .ok e _ => if (encM (rdMW e)).1 = s then (rdMW e, 0) else (zero, 14)
theorem decMW_eq (s : List UInt8) : decMW s = decM s := by
 unfold decMW decM rdMW
 cases hr : Be.rd 20 s 0 with
 | bad p x => rfl
 | ok e n => rfl
theorem fits_kids {f : Nat} (ih : ∀ l a e n, Be.rd f l a = .ok e n → Be.fitS 4000 4000 (f + 1) e = true) : ∀ (N : Nat) (l : List UInt8) (a : Nat) (ks : List Be.El), Be.rdKids (Be.rd f) N l a = .ok ks → ks.length ≤ N ∧ ∀ k ∈ ks, Be.fitS 4000 4000 (f + 1) k = true
 | 0, l, a, ks, h => by
  simp only [Be.rdKids, Be.RK.ok.injEq] at h
  subst h
  exact ⟨by simp, by simp⟩
 | N + 1, l, a, ks, h => by
  rw [Be.rdKids] at h
  split at h
  ·injection h with h; subst h; exact ⟨by simp, by simp⟩
  ·split at h
   ·cases h
   ·rename_i e n he
    split at h
    ·cases h
    ·rename_i es hes
     injection h with h
     subst h
     obtain ⟨h1, h2⟩ := fits_kids ih N _ _ _ hes
     refine ⟨by simp; omega, fun k hk => ?_⟩
     rcases List.mem_cons.1 hk with rfl | hk
     ·exact ih _ _ _ _ he
     ·exact h2 k hk
theorem rd_fits : ∀ (f : Nat) (l : List UInt8) (a : Nat) (e : Be.El) (n : Nat), Be.rd f l a = .ok e n → Be.fitS 4000 4000 (f + 1) e = true
 | 0, l, a, e, n, h => by simp [Be.rd] at h
 | f + 1, l, a, e, n, h => by
  simp only [Be.rd] at h
  split at h
  ·cases h
  ·rename_i hq
   have hq0 : (Be.rdHead (decide (f + 1 < 20)) l).2.2 = 0 := by simpa using hq
   have hok := Be.rdHead_ok (inner := decide (f + 1 < 20)) (l := l) (h := (Be.rdHead (decide (f + 1 < 20)) l).1) (n := (Be.rdHead (decide (f + 1 < 20)) l).2.1) (by rw [← hq0])
   have hb := Be.hd_ok hok.1
   split at h
   ·injection h with h1 h2
    subst h1
    simp only [Be.fitS, Bool.and_eq_true, decide_eq_true_eq, List.all_nil, and_true]
    refine ⟨by simp, ?_⟩
    show ((l.drop _).take _).length ≤ 4000
    rw [List.length_take]
    omega
   ·split at h
    ·cases h
    ·rename_i ks hks
     injection h with h1 h2
     subst h1
     obtain ⟨h3, h4⟩ := fits_kids (fun l a e n => rd_fits f l a e n) _ _ _ _ hks
     simp only [Be.fitS, Bool.and_eq_true, decide_eq_true_eq, List.all_eq_true]
     exact ⟨by omega, by decide, h4⟩
theorem rd_few {s : List UInt8} {a : Nat} {e : Be.El} {n : Nat} (h : Be.rd 20 s a = .ok e n) : Few e := ⟨21, Be.fitS_more (by decide) (by decide) (Nat.le_refl _) (rd_fits 20 s a e n h)⟩
end Go.Proofs.YtconghaebebncaaGreatDoor.Ms
