/- The other functions of value, and the reference's beside them. -/
import Derived.Test.YtconghaebebncaaGreatDoorVAnew
import Derived.Test.YtconghaebebncaaGreatDoorVInt
import Derived.Test.YtconghaebebncaaGreatDoorVRInt
namespace Go.Proofs.YtconghaebebncaaGreatDoor.Be
open Go.RowKit
set_option linter.unusedVariables false
set_option maxRecDepth 100000

/-- A flag's byte. -/
def boolB (b : Bool) : ByteArray := if b then ⟨#[255]⟩ else ⟨#[0]⟩
set_option maxHeartbeats 400000 in
theorem Bool_any (b : Bool) (w : World) : Calls Tryz.prog 150 #[.bool b] w fun e w' => e = .returned (.string (boolB b)) ∧ w = w' := by
  cases b
  all_goals (
    go_enter Tryz.func150, Tryz.ntmps150
    go_wp2_with fail
    go_ret
    exact ⟨rfl, rfl⟩)
set_option maxHeartbeats 400000 in
theorem RBool_any (b : Bool) (w : World) : Calls Tryz.prog 83 #[.bool b] w fun e w' => e = .returned (.string (boolB b)) ∧ w = w' := by
  cases b
  all_goals (
    go_enter Tryz.func83, Tryz.ntmps83
    go_wp2_with fail
    go_ret
    exact ⟨rfl, rfl⟩)
/-- P2.1: what a flag's bytes say. -/
def rdB (l : List UInt8) : Bool × Bool := (decide (l.length = 1) && decide (l ≠ [0]), decide (l.length = 1))
set_option maxHeartbeats 400000 in
theorem ReadBool_any (s : ByteArray) (w : World) : Calls Tryz.prog 130 #[.string s] w fun e w' => e = .returned (.tuple #[.bool (rdB s.data.toList).1, .bool (rdB s.data.toList).2]) ∧ w = w' := by
  have hl : s.data.toList.length = s.size := rfl
  by_cases h1 : s.size = 1
  · have q1 : ((s.size : Int) != 1) = false := by rw [bne_eq_false_iff_eq]; omega
    have hr : Hid (rdB s.data.toList = (!s.toList == [0], true)) := by
      unfold rdB; simp only [Go.Lib.toList_data]; show _ = _; rw [hl]; simp [h1]
      rw [Bool.eq_iff_iff]; simp
    clear hl h1
    go_enter Tryz.func130, Tryz.ntmps130
    go_wp2_with fail
    go_ret2
    rw [hr.out]
    exact ⟨rfl, rfl⟩
  · have q1 : ((s.size : Int) != 1) = true := by rw [bne_iff_ne]; omega
    have hr : Hid (rdB s.data.toList = (false, false)) := by unfold rdB; show _ = _; rw [hl]; simp [h1]
    clear hl h1
    go_enter Tryz.func130, Tryz.ntmps130
    go_wp2_with fail
    go_ret2
    rw [hr.out]
    exact ⟨rfl, rfl⟩
/-- A lone result of three cells in a block of its own. -/
theorem res_el {fn : Func} {p : Tmp} (h : fn.results = #[.cell p 57]) (tmps : Array Value) (w : World) (g : Nat) (x y z : Value) (hp : tmps.getD p undef = .pointer (some ⟨g, 0, none⟩)) (hB : Blk w g 57 #[x, y, z]) :
    (results fn tmps).run Tryz.prog w = .ok (.agg #[x, y, z]) w :=
  results_cell_row h tmps w g _ _ _ _ hp hB Tryz.underlying57 rfl (by kernel_rfl)
set_option maxHeartbeats 400000 in
theorem Text_any (t : Int) (s : ByteArray) (w : World) (hs : s.size ≤ 281474976710656) :
    Calls Tryz.prog 106 #[.int .u8 t, .string s] w fun e w' => e = .returned (.agg #[.int .u8 t, .string s, .slice none 0 0]) ∧ Below w.heap.size w w' := by
  go_enter Tryz.func106, Tryz.ntmps106
  go_wp2_with fail
  refine (clone_any _ _ hs).mono ?_
  rintro e w1 ⟨rfl, hb1⟩
  have B1 := (Blk.new w 57 #[.int .u8 0, .string ⟨#[]⟩, .slice none 0 0]).past hb1
  have c0 : w1.cell? ⟨w.heap.size, 0, none⟩ = some (.int .u8 0) := B1.cell 0
  have c1 : w1.cell? ⟨w.heap.size, 1, none⟩ = some (.string ⟨#[]⟩) := B1.cell 1
  have c2 : w1.cell? ⟨w.heap.size, 2, none⟩ = some (.slice none 0 0) := B1.cell 2
  have g0 := B1.frozen 0
  have g1 := B1.frozen 1
  have g2 := B1.frozen 2
  go_wp2_with fail
  exact bodyPost_ret (res_el rfl _ _ w.heap.size _ _ _ rfl B1.set3) rfl ⟨rfl, ((((((Below.refl w.heap.size w).alloc (Nat.le_refl _) _).trans (hb1.mono (by simp))).setCell (p := ⟨w.heap.size, 0, none⟩) (Nat.le_refl _) _).setCell (p := ⟨w.heap.size, 1, none⟩) (Nat.le_refl _) _).setCell (p := ⟨w.heap.size, 2, none⟩) (Nat.le_refl _) _)⟩
set_option maxHeartbeats 400000 in
theorem RText_any (t : Int) (s : ByteArray) (w : World) :
    Calls Tryz.prog 53 #[.int .u8 t, .string s] w fun e w' => e = .returned (.agg #[.int .u8 t, .string s, .slice none 0 0]) ∧ Below w.heap.size w w' := by
  go_enter Tryz.func53, Tryz.ntmps53
  go_wp2_with fail
  exact bodyPost_ret (res_el rfl _ _ w.heap.size _ _ _ rfl (Blk.new w _ _)) rfl ⟨rfl, (Below.refl _ _).alloc (Nat.le_refl _) _⟩
set_option maxHeartbeats 400000 in
theorem Number_any (t n : Int) (w : World) (h0 : -9223372036854775808 ≤ n) (h1 : n ≤ 9223372036854775807) :
    Calls Tryz.prog 104 #[.int .u8 t, .int .i64 n] w fun e w' => e = .returned (.agg #[.int .u8 t, .string (strOfNums (intB n)), .slice none 0 0]) ∧ Below w.heap.size w w' := by
  have HI := Lib.hid (fun w => Int_any n w h0 h1)
  go_enter Tryz.func104, Tryz.ntmps104
  go_wp2_with fail
  refine (HI.out _).mono ?_
  rintro e w1 ⟨rfl, hb1⟩
  have B1 := (Blk.new w 57 #[.int .u8 0, .string ⟨#[]⟩, .slice none 0 0]).past hb1
  have c0 : w1.cell? ⟨w.heap.size, 0, none⟩ = some (.int .u8 0) := B1.cell 0
  have c1 : w1.cell? ⟨w.heap.size, 1, none⟩ = some (.string ⟨#[]⟩) := B1.cell 1
  have c2 : w1.cell? ⟨w.heap.size, 2, none⟩ = some (.slice none 0 0) := B1.cell 2
  have g0 := B1.frozen 0
  have g1 := B1.frozen 1
  have g2 := B1.frozen 2
  go_wp2_with fail
  exact bodyPost_ret (res_el rfl _ _ w.heap.size _ _ _ rfl B1.set3) rfl ⟨rfl, ((((((Below.refl w.heap.size w).alloc (Nat.le_refl _) _).trans (hb1.mono (by simp))).setCell (p := ⟨w.heap.size, 0, none⟩) (Nat.le_refl _) _).setCell (p := ⟨w.heap.size, 1, none⟩) (Nat.le_refl _) _).setCell (p := ⟨w.heap.size, 2, none⟩) (Nat.le_refl _) _)⟩
set_option maxHeartbeats 400000 in
theorem RNumber_any (t n : Int) (w : World) (h0 : -9223372036854775808 ≤ n) (h1 : n ≤ 9223372036854775807) :
    Calls Tryz.prog 51 #[.int .u8 t, .int .i64 n] w fun e w' => e = .returned (.agg #[.int .u8 t, .string (strOfNums (intB n)), .slice none 0 0]) ∧ Below w.heap.size w w' := by
  have HI := Lib.hid (fun w => RInt_any n w h0 h1)
  go_enter Tryz.func51, Tryz.ntmps51
  go_wp2_with fail
  refine (HI.out _).mono ?_
  rintro e w1 ⟨rfl, hb1⟩
  have B1 := (Blk.new w 57 #[.int .u8 0, .string ⟨#[]⟩, .slice none 0 0]).past hb1
  have c0 : w1.cell? ⟨w.heap.size, 0, none⟩ = some (.int .u8 0) := B1.cell 0
  have c1 : w1.cell? ⟨w.heap.size, 1, none⟩ = some (.string ⟨#[]⟩) := B1.cell 1
  have c2 : w1.cell? ⟨w.heap.size, 2, none⟩ = some (.slice none 0 0) := B1.cell 2
  have g0 := B1.frozen 0
  have g1 := B1.frozen 1
  have g2 := B1.frozen 2
  go_wp2_with fail
  exact bodyPost_ret (res_el rfl _ _ w.heap.size _ _ _ rfl B1.set3) rfl ⟨rfl, ((((((Below.refl w.heap.size w).alloc (Nat.le_refl _) _).trans (hb1.mono (by simp))).setCell (p := ⟨w.heap.size, 0, none⟩) (Nat.le_refl _) _).setCell (p := ⟨w.heap.size, 1, none⟩) (Nat.le_refl _) _).setCell (p := ⟨w.heap.size, 2, none⟩) (Nat.le_refl _) _)⟩
set_option maxHeartbeats 400000 in
theorem RList_any (t : Int) (A : Option Addr) (n c : Nat) (w : World) :
    Calls Tryz.prog 22 #[.int .u8 t, .slice A n c] w fun e w' => e = .returned (.agg #[.int .u8 t, .string ⟨#[]⟩, .slice A n c]) ∧ Below w.heap.size w w' := by
  go_enter Tryz.func22, Tryz.ntmps22
  go_wp2_with fail
  exact bodyPost_ret (res_el rfl _ _ w.heap.size _ _ _ rfl (Blk.new w _ _)) rfl ⟨rfl, (Below.refl _ _).alloc (Nat.le_refl _) _⟩
set_option maxHeartbeats 400000 in
theorem List_any (t : Nat) (ht : t ≤ 255) (ks : List El) (K L d : Nat) (A : Option Addr) (c : Nat) (ds : Nat → List Value) (w : World) (hl : ks.length ≤ K) (hK6 : K ≤ 1000000) (hL6 : L ≤ 281474976710656) (hF : ∀ i (h : i < ks.length), fitS K L d ks[i] = true)
    (hK : KidsAt w (· < w.heap.size) A ks ds) :
    Calls Tryz.prog 103 #[.int .u8 t, .slice A ks.length c] w fun e w' => ∃ x y z, e = .returned (.agg #[x, y, z]) ∧ Below w.heap.size w w' ∧ Lies w' (fun b => w.heap.size ≤ b ∧ b < w'.heap.size) (.mk t ⟨#[]⟩ ks) [x, y, z] := by
  have H := Lib.hid (anew_any d ks K L A c ds)
  have HK := Lib.hid (fun o => hK.past ((Below.refl w.heap.size w).alloc (Nat.le_refl _) o))
  have HF := Lib.hid hF
  clear hK hF
  go_enter Tryz.func103, Tryz.ntmps103
  go_wp2_with fail
  refine (H.out _ hl hK6 hL6 HF.out (HK.out _)).mono ?_
  rintro e w1 ⟨A', c', ds', rfl, hb1, hK1⟩
  have B1 := (Blk.new w 57 #[.int .u8 0, .string ⟨#[]⟩, .slice none 0 0]).past hb1
  have c0 : w1.cell? ⟨w.heap.size, 0, none⟩ = some (.int .u8 0) := B1.cell 0
  have c1 : w1.cell? ⟨w.heap.size, 1, none⟩ = some (.string ⟨#[]⟩) := B1.cell 1
  have c2 : w1.cell? ⟨w.heap.size, 2, none⟩ = some (.slice none 0 0) := B1.cell 2
  have g0 := B1.frozen 0
  have g1 := B1.frozen 1
  have g2 := B1.frozen 2
  have HK1 := Lib.hid hK1
  clear hK1
  go_wp2_with fail
  refine bodyPost_ret (res_el rfl _ _ w.heap.size _ _ _ rfl B1.set3) rfl ⟨_, _, _, rfl, ((((((Below.refl w.heap.size w).alloc (Nat.le_refl _) _).trans (hb1.mono (by simp))).setCell (p := ⟨w.heap.size, 0, none⟩) (Nat.le_refl _) _).setCell (p := ⟨w.heap.size, 1, none⟩) (Nat.le_refl _) _).setCell (p := ⟨w.heap.size, 2, none⟩) (Nat.le_refl _) _), ?_⟩
  refine Lies.shut ht (by decide) (by unfold maxLen; omega) (HK1.out.imp (fun b hb' => ⟨?_, by have := hb'.2; simp [World.setCell]; omega⟩) (fun p hp => ?_))
  · have := hb'.1; simp at this; omega
  · have hpb : p.block ≠ w.heap.size := by have := hp.1; simp at this; omega
    rw [World.cell?_setCell_other _ _ _ _ (fun e => hpb (by rw [← e])), World.cell?_setCell_other _ _ _ _ (fun e => hpb (by rw [← e])), World.cell?_setCell_other _ _ _ _ (fun e => hpb (by rw [← e]))]
end Go.Proofs.YtconghaebebncaaGreatDoor.Be
