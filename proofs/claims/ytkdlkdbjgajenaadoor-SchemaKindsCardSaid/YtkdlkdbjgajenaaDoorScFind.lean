/- What Find answers. -/
import Derived.Test.YtkdlkdbjgajenaaDoorScAll
import Derived.Test.YtkdlkdbjgajenaaDoorNLow
import Derived.Laws.ResultCell
namespace Go.Proofs.YtkdlkdbjgajenaaDoor
open Go.RowKit
set_option linter.unusedVariables false
set_option maxRecDepth 100000

/-- What a search answers: the type, and that there is one; or none. -/
def findV : Option Sc.Ty → Value
  | none => .tuple #[.agg #[.string ⟨#[]⟩, .int .i64 0, .bool false], .bool false]
  | some t => .tuple #[.agg #[.string t.1, .int .i64 t.2.1, .bool t.2.2], .bool true]
theorem Blk.set3 {w : World} {g : Nat} {t : TypeId} {x y z x' y' z' : Value} (h : Blk w g t #[x, y, z]) : Blk (((w.setCell ⟨g, 0, none⟩ x').setCell ⟨g, 1, none⟩ y').setCell ⟨g, 2, none⟩ z') g t #[x', y', z'] := ((h.set_ 0 x').set_ 1 y').set_ 2 z'
theorem below3 {w w' : World} {B g : Nat} (h : Below B w w') (hg : B ≤ g) (x y z : Value) : Below B w (((w'.setCell ⟨g, 0, none⟩ x).setCell ⟨g, 1, none⟩ y).setCell ⟨g, 2, none⟩ z) :=
  ((h.setCell (p := ⟨g, 0, none⟩) hg x).setCell (p := ⟨g, 1, none⟩) hg y).setCell (p := ⟨g, 2, none⟩) hg z
/-- Two results, of which the first stands in a block of three cells. -/
theorem res_ty {fn : Func} {p u : Tmp} (h : fn.results = #[.cell p 24, .tmp u]) (tmps : Array Value) (w : World) (g : Nat) (x y z v : Value) (hp : tmps.getD p undef = .pointer (some ⟨g, 0, none⟩)) (hv : tmps.getD u undef = v) (hB : Blk w g 24 #[x, y, z]) :
    (results fn tmps).run Tryd.prog w = .ok (.tuple #[.agg #[x, y, z], v]) w := by
  rw [results_cell_tmp h, hp, hv]
  have e := run_loadVar_row (P := Tryd.prog) w g 24 24 #[x, y, z] (0, 0) _ hB Tryd.underlying24 rfl (by kernel_rfl)
  show (((loadVar 24 ⟨g, 0, none⟩).run Tryd.prog w).andThen fun v1 w₂ => Result.ok (Value.tuple #[v1, v]) w₂) = _
  rw [e]
  rfl
set_option maxHeartbeats 2000000 in
theorem find_any (s : ByteArray) (w : World) (hs : s.size ≤ 1099511627776) :
    Calls Tryd.prog 7 #[.string s] w fun e w' => e = .returned (findV (Sc.find (Nm.bs s))) ∧ Below w.heap.size w w' := by
  have CL := Lib.hid (fun w => lower_any s w hs)
  have CA := Lib.hid all_any
  obtain ⟨X, hX⟩ : ∃ X, X = Nm.mk (Nm.lower (Nm.bs s)) := ⟨_, rfl⟩
  rw [← hX] at CL
  obtain ⟨R, hR⟩ : ∃ R, R = Sc.find (Nm.bs s) := ⟨_, rfl⟩
  rw [← hR]
  have H0 : Hid (R = Sc.look X (Sc.tab.drop 0)) := by
    show _ = _
    rw [hR, hX]; rfl
  clear hR hX
  go_enter Tryd.func7, Tryd.ntmps7
  go_wp2_with fail
  refine (CL.out _).mono ?_
  rintro r w1 ⟨rfl, hb1⟩
  go_wp2_with fail
  refine (CA.out _).mono ?_
  rintro r w2 ⟨rfl, hT, hb2⟩
  have hs1 := hb1.size
  have hs2 := hb2.size
  have B0 : Blk w2 w.heap.size 24 #[.string ⟨#[]⟩, .int .i64 0, .bool false] := ((Blk.new w _ _).past hb1).past (hb2.mono (Nat.le_refl _))
  have hbw : Below w.heap.size w w2 := ((Below.refl _ _).alloc (Nat.le_refl _) _).trans ((hb1.mono (by simp)).trans (hb2.mono (by simp at hs1; omega)))
  have hg : w.heap.size < w1.heap.size := by simp at hs1; omega
  obtain ⟨gt, hgt⟩ : ∃ gt, gt = w1.heap.size := ⟨_, rfl⟩
  rw [← hgt] at hT hg ⊢
  have hgl := hT.lt (by decide)
  clear hgt hb1 hb2 hs1 hs2
  go_wp2_with fail
  go_loopw [10] (fun i wr => ∃ k : Nat, k ≤ 15 ∧ i = .int .i64 k ∧ Hid (R = Sc.look X (Sc.tab.drop k)) ∧ Blk wr w.heap.size 24 #[.string ⟨#[]⟩, .int .i64 0, .bool false] ∧ TAt wr gt Sc.tab ∧ gt < wr.heap.size ∧ Below w.heap.size w wr) (fun i wr => 15 - (intOf i).toNat)
  case atStart => exact ⟨0, by omega, rfl, H0, B0, hT, hgl, hbw⟩
  case round =>
    obtain ⟨k, hk, rfl, hE, hB, hT, hgl, hbw⟩ := hrel
    by_cases hlt : k < 15
    · have hk3 : k < Sc.tab.length := hlt
      obtain ⟨c0, c1, c2⟩ := hT k hk3
      have hD := hE.out
      rw [Sc.look_step hk3] at hD
      obtain ⟨⟨n, sy, sg⟩, hn⟩ : ∃ q : Sc.Ty, q = Sc.tab[k] := ⟨_, rfl⟩
      rw [← hn] at hD c0 c1 c2
      have HD := Lib.hid hD
      have B1 := hB.alloc (.cells #[.string n, .int .i64 sy, .bool sg] 24)
      have b0 : (wr.alloc (.cells #[.string n, .int .i64 sy, .bool sg] 24)).cell? ⟨w.heap.size, 0, none⟩ = some (.string ⟨#[]⟩) := B1.cell 0
      have b1 : (wr.alloc (.cells #[.string n, .int .i64 sy, .bool sg] 24)).cell? ⟨w.heap.size, 1, none⟩ = some (.int .i64 0) := B1.cell 1
      have b2 : (wr.alloc (.cells #[.string n, .int .i64 sy, .bool sg] 24)).cell? ⟨w.heap.size, 2, none⟩ = some (.bool false) := B1.cell 2
      have f0 := B1.frozen 0
      have f1 := B1.frozen 1
      have f2 := B1.frozen 2
      have hw2 := hbw.alloc hbw.size (.cells #[.string n, .int .i64 sy, .bool sg] 24)
      have HT := Lib.hid (hT.past (Nat.lt_of_lt_of_le hgl (Nat.le_refl _)) ((Below.refl wr.heap.size wr).alloc (Nat.le_refl _) (.cells #[.string n, .int .i64 sy, .bool sg] 24)))
      clear hD hE hn H0 hT CA CL B0 hB
      by_cases he : n = X
      · have hq : (n.toList == X.toList) = true := by rw [toList_inj', decide_eq_true he]
        have HR := Lib.hid (show R = some (n, sy, sg) by rw [HD.out, if_pos he])
        clear he HD HT
        go_wp2_with fail
        refine bodyPost_ret (res_ty rfl _ _ w.heap.size _ _ _ _ rfl rfl B1.set3) rfl ⟨?_, below3 hw2 (Nat.le_refl _) _ _ _⟩
        rw [HR.out]
        rfl
      · have hq : (n.toList == X.toList) = false := by rw [toList_inj', decide_eq_false he]
        have HR := Lib.hid (show R = Sc.look X (Sc.tab.drop (k + 1)) by rw [HD.out, if_neg he])
        clear he HD
        go_wp2_with fail
        refine ⟨⟨k + 1, by omega, by go_num, HR, B1, HT.out, by simp; omega, hw2⟩, by simp [intOf]; omega⟩
    · have hk2 : k = 15 := by omega
      have HR := Lib.hid (show R = none by rw [hE.out, hk2]; rfl)
      have b0 : wr.cell? ⟨w.heap.size, 0, none⟩ = some (.string ⟨#[]⟩) := hB.cell 0
      have b1 : wr.cell? ⟨w.heap.size, 1, none⟩ = some (.int .i64 0) := hB.cell 1
      have b2 : wr.cell? ⟨w.heap.size, 2, none⟩ = some (.bool false) := hB.cell 2
      have f0 := hB.frozen 0
      have f1 := hB.frozen 1
      have f2 := hB.frozen 2
      clear hE hT CA CL H0
      go_wp2_with fail
      refine bodyPost_ret (res_ty rfl _ _ w.heap.size _ _ _ _ rfl rfl hB.set3) rfl ⟨?_, below3 hbw (Nat.le_refl _) _ _ _⟩
      rw [HR.out]
      rfl
end Go.Proofs.YtkdlkdbjgajenaaDoor
