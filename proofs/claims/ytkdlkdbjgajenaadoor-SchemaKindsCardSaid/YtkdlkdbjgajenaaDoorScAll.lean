/- What All answers, the reference's beside the program's: the table in new memory. -/
import Derived.Test.YtkdlkdbjgajenaaDoorScInt
import Derived.Test.YtkdlkdbjgajenaaDoorNMem
import Derived.Deep.RegionHeld3
namespace Go.Proofs.YtkdlkdbjgajenaaDoor
open Go.RowKit
set_option linter.unusedVariables false
set_option maxRecDepth 100000

/-- The types l lie one behind the other in block g, from its head on. -/
def TAt (w : World) (g : Nat) (l : List Sc.Ty) : Prop := ∀ k (h : k < l.length), w.cell? ⟨g, k * 3, none⟩ = some (.string l[k].1) ∧ w.cell? ⟨g, k * 3 + 1, none⟩ = some (.int .i64 l[k].2.1) ∧ w.cell? ⟨g, k * 3 + 2, none⟩ = some (.bool l[k].2.2)
theorem TAt.past {w w' : World} {g B : Nat} {l : List Sc.Ty} (h : TAt w g l) (hg : g < B) (hb : Below B w w') : TAt w' g l := fun k hk =>
  ⟨bat hb hg (h k hk).1, bat hb hg (h k hk).2.1, bat hb hg (h k hk).2.2⟩
theorem TAt.lt {w : World} {g : Nat} {l : List Sc.Ty} (h : TAt w g l) (h0 : 0 < l.length) : g < w.heap.size := cell_lt (h 0 h0).1
def tabL : List Value := Sc.tab.flatMap fun t => [.string t.1, .int .i64 t.2.1, .bool t.2.2]
theorem tabL_at : ∀ k (h : k < Sc.tab.length), tabL[k * 3]? = some (.string Sc.tab[k].1) ∧ tabL[k * 3 + 1]? = some (.int .i64 Sc.tab[k].2.1) ∧ tabL[k * 3 + 2]? = some (.bool Sc.tab[k].2.2) := fun k h => by
  have h' : k < 15 := h
  have : k = 0 ∨ k = 1 ∨ k = 2 ∨ k = 3 ∨ k = 4 ∨ k = 5 ∨ k = 6 ∨ k = 7 ∨ k = 8 ∨ k = 9 ∨ k = 10 ∨ k = 11 ∨ k = 12 ∨ k = 13 ∨ k = 14 := by omega
  rcases this with rfl | rfl | rfl | rfl | rfl | rfl | rfl | rfl | rfl | rfl | rfl | rfl | rfl | rfl | rfl
  all_goals exact ⟨rfl, rfl, rfl⟩
theorem TAt.of_blk {w : World} {g : Nat} (h : Blk w g 24 tabL.toArray) : TAt w g Sc.tab := fun k hk => by
  obtain ⟨h1, h2, h3⟩ := tabL_at k hk
  refine ⟨?_, ?_, ?_⟩
  · rw [h.cell, List.getElem?_toArray, h1]
  · rw [h.cell, List.getElem?_toArray, h2]
  · rw [h.cell, List.getElem?_toArray, h3]
set_option maxHeartbeats 1000000 in
theorem all_any (w : World) :
    Calls Tryd.prog 13 #[] w fun e w' => e = .returned (.slice (some ⟨w.heap.size, 0, none⟩) 15 15) ∧ TAt w' w.heap.size Sc.tab ∧ Below w.heap.size w w' := by
  go_enter Tryd.func13, Tryd.ntmps13
  go_wp2_with fail
  go_ret
  exact ⟨rfl, TAt.of_blk (Blk.new _ _ _), (Below.refl _ _).alloc (Nat.le_refl _) _⟩
set_option maxHeartbeats 1000000 in
theorem rall_any (w : World) :
    Calls Tryd.prog 14 #[] w fun e w' => e = .returned (.slice (some ⟨w.heap.size, 0, none⟩) 15 15) ∧ TAt w' w.heap.size Sc.tab ∧ Below w.heap.size w w' := by
  go_enter Tryd.func14, Tryd.ntmps14
  go_wp2_with fail
  go_ret
  exact ⟨rfl, TAt.of_blk (Blk.new _ _ _), (Below.refl _ _).alloc (Nat.le_refl _) _⟩
end Go.Proofs.YtkdlkdbjgajenaaDoor
