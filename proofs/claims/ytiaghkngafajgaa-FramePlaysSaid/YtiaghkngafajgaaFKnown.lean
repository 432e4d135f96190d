/- 'known' of layer 3 answers true. -/
import Derived.Test.YtiaghkngafajgaaNext
import Derived.KernelRfl
namespace Go.Proofs.Ytiaghkngafajgaa
open Go.RowKit
set_option linter.unusedVariables false
set_option maxRecDepth 100000

theorem fk1 : fd [] [4, 1] = ([4, 1], 0) := by kernel_rfl
theorem fk2 : nx [4, 1] = ([], 10, [4, 1]) := by kernel_rfl
theorem fk3 : fd [4, 1] [97, 5] = ([4, 1, 97, 5], 0) := by kernel_rfl
theorem fk4 : nx [4, 1, 97, 5] = ([4, 1, 97], 0, [5]) := by kernel_rfl

/-- What a walk goes on with: its own memory alone was touched. -/
theorem Kept.own {S : Nat → Prop} {B : Nat} {a w w' : World} (h : Kept S w w') (hb : Below B a w) (hB : B ≤ w.heap.size) (hS : ∀ k, S k → B ≤ k) : Below B a w' := hb.trans (h.below hB hS)
theorem Two.ge {B p g k : Nat} (h : Two p g k) (hp : B ≤ p) (hg : B ≤ g) : B ≤ k := by
  rcases h with rfl | rfl
  · exact hp
  · exact hg

/-- Behind a Feed: its own memory lies from B on, as it did. -/
theorem fed_own {B p g g' : Nat} {a w w' : World} (hb : Below B a w) (hp : B ≤ p) (hg : B ≤ g) (hB : B ≤ w.heap.size) (hg' : g' = g ∨ w.heap.size ≤ g' ∧ g' < w'.heap.size) (k : Kept (Two p g) w w') : Below B a w' ∧ B ≤ g' ∧ B ≤ w'.heap.size := by
  have := k.size
  exact ⟨k.own hb hB (fun i h => h.ge hp hg), by omega, by omega⟩
theorem nxt_own {B p g : Nat} {a w w' : World} (hb : Below B a w) (hp : B ≤ p) (hg : B ≤ g) (hB : B ≤ w.heap.size) (k : Kept (Two p g) w w') : Below B a w' ∧ B ≤ w'.heap.size := by
  have := k.size
  exact ⟨k.own hb hB (fun i h => h.ge hp hg), by omega⟩

set_option maxHeartbeats 4000000 in
theorem fknown_any (w : World) : Calls Try.prog 6 #[] w fun r w' => r = .returned (.bool true) ∧ Below w.heap.size w w' := by
  have C0 := Lib.hid New_any
  have C1 := Lib.hid (fun p g w h => fk1 ▸ Feed_any p g [] ⟨#[4, 1]⟩ w h (by decide))
  have C2 := Lib.hid (fun p g w h => (show nxV [4, 1] = Value.tuple #[.string ⟨#[]⟩, .int .i64 10] from by unfold nxV; rw [fk2]; rfl) ▸ fk2 ▸ Next_any p g [4, 1] w h)
  have C3 := Lib.hid (fun p g w h => fk3 ▸ Feed_any p g [4, 1] ⟨#[97, 5]⟩ w h (by decide))
  have C4 := Lib.hid (fun p g w h => (show nxV [4, 1, 97, 5] = Value.tuple #[.string ⟨#[4, 1, 97]⟩, .int .i64 0] from by unfold nxV; rw [fk4]; rfl) ▸ fk4 ▸ Next_any p g [4, 1, 97, 5] w h)
  have C5 := Lib.hid (fun p g w h => Left_any p g [5] w h)
  go_enter Try.func6, Try.ntmps6
  go_wp2_with fail
  refine (C0.out _).mono ?_
  rintro r w1 ⟨rfl, h1, hb1, hs1⟩
  go_wp2_with fail
  refine (C1.out _ _ _ h1).mono ?_
  rintro r w2 ⟨rfl, g2, hg2, h2, k2⟩
  obtain ⟨b2, hge2, s2⟩ := fed_own hb1 (Nat.le_refl _) (Nat.le_refl _) (by omega) hg2 k2
  clear k2 hg2 h1 hb1 hs1 C0 C1
  go_wp2_with fail
  refine (C2.out _ _ _ h2).mono ?_
  rintro r w3 ⟨rfl, h3, k3⟩
  obtain ⟨b3, s3⟩ := nxt_own b2 (Nat.le_refl _) hge2 s2 k3
  clear k3 h2 b2 s2 C2
  go_wp2_with fail
  refine (C3.out _ _ _ h3).mono ?_
  rintro r w4 ⟨rfl, g4, hg4, h4, k4⟩
  obtain ⟨b4, hge4, s4⟩ := fed_own b3 (Nat.le_refl _) hge2 s3 hg4 k4
  clear k4 hg4 h3 b3 s3 C3 hge2
  go_wp2_with fail
  refine (C4.out _ _ _ h4).mono ?_
  rintro r w5 ⟨rfl, h5, k5⟩
  obtain ⟨b5, s5⟩ := nxt_own b4 (Nat.le_refl _) hge4 s4 k5
  clear k5 h4 b4 s4 C4
  go_wp2_with fail
  refine (C5.out _ _ _ h5).mono ?_
  rintro r w6 ⟨rfl, rfl⟩
  go_wp2_with fail
  go_ret
  exact ⟨rfl, b5⟩
end Go.Proofs.Ytiaghkngafajgaa
