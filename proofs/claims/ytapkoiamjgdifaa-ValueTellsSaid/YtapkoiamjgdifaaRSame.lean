/- The reference's Same answers whether two elements are alike in all parts. -/
import Derived.Test.YtapkoiamjgdifaaSame
import Derived.Test.YtapkoiamjgdifaaEl
import Derived.Deep.RegionHeld3
import Derived.Deep.LoopGhost
import Derived.Lib.Hide
namespace Go.Proofs.Ytapkoiamjgdifaa
open Go.RowKit
set_option linter.unusedVariables false
set_option maxRecDepth 100000

def SaidRSame (e : El) : Prop := ∀ (f : El) (x y z x' y' z' : Value) (w : World), Lies w (· < w.heap.size) e [x, y, z] → Lies w (· < w.heap.size) f [x', y', z'] →
    Calls Try.prog 18 #[.agg #[x, y, z], .agg #[x', y', z']] w fun r w' => r = .returned (.bool (eqEl e f)) ∧ Below w.heap.size w w'

set_option maxHeartbeats 1000000 in
theorem rsame_step (t : Nat) (b : ByteArray) (ks : List El) (ih : ∀ k ∈ ks, SaidRSame k) (ks' : List El) (A A' : Option Addr) (c c' : Nat) (ds ds' : Nat → List Value) (w : World)
    (hK : KidsAt w (· < w.heap.size) A ks ds) (hK' : KidsAt w (· < w.heap.size) A' ks' ds')
    (hl : ks.length ≤ maxLen) (heq : ks.length = ks'.length) :
    Calls Try.prog 18 #[.agg #[.int .u8 t, .string b, .slice A ks.length c], .agg #[.int .u8 t, .string b, .slice A' ks.length c']] w
      fun r w' => r = .returned (.bool (eqEls ks ks')) ∧ Below w.heap.size w w' := by
  unfold maxLen at hl
  have Ih := Lib.hid ih
  have Heq := Lib.hid heq
  clear ih heq
  go_enter Try.func18, Try.ntmps18
  go_wp2_with fail
  go_loopw [5] (fun i wr => ∃ k : Nat, k ≤ ks.length ∧ i = .int .i64 k ∧ Hid (eqEls ks ks' = eqEls (ks.drop k) (ks'.drop k)) ∧ wr.cell? ⟨w.heap.size, 2, none⟩ = some (.slice A ks.length c) ∧
      wr.cell? ⟨w.heap.size + 1, 2, none⟩ = some (.slice A' ks.length c') ∧ Below w.heap.size w wr ∧ w.heap.size + 2 ≤ wr.heap.size) (fun i wr => ks.length - (intOf i).toNat)
  case atStart => exact ⟨0, Nat.zero_le _, rfl, rfl, by simp, by simp, ((Below.refl _ _).alloc (Nat.le_refl _) _).alloc (by simp) _, by simp⟩
  case round =>
    obtain ⟨k, hk, rfl, hE, hc1, hc2, hb, hsz⟩ := hrel
    by_cases hlt : k < ks.length
    · obtain ⟨ad, x, y, z, rfl, hp, f0, f1, f2, hL⟩ := hK.kid hb hlt
      obtain ⟨ad', x', y', z', rfl, hp', f0', f1', f2', hL'⟩ := hK'.kid hb (i := k) (by have := Heq.out; omega)
      have q : (ad.add (k * 3)).block < wr.heap.size := by rw [block_of_add]; omega
      have q' : (ad'.add (k * 3)).block < wr.heap.size := by rw [block_of_add]; omega
      go_wp2_with fail
      go_region_held3 (fun w' => w'.cell? (ad.add (k * 3)) = some x ∧ w'.cell? ⟨(ad.add (k * 3)).block, (ad.add (k * 3)).off + 1, none⟩ = some y ∧ w'.cell? ⟨(ad.add (k * 3)).block, (ad.add (k * 3)).off + 2, none⟩ = some z ∧
          w'.cell? (ad'.add (k * 3)) = some x' ∧ w'.cell? ⟨(ad'.add (k * 3)).block, (ad'.add (k * 3)).off + 1, none⟩ = some y' ∧ w'.cell? ⟨(ad'.add (k * 3)).block, (ad'.add (k * 3)).off + 2, none⟩ = some z' ∧
          w'.cell? ⟨w.heap.size, 2, none⟩ = some (.slice (some ad) ks.length c) ∧ w'.cell? ⟨w.heap.size + 1, 2, none⟩ = some (.slice (some ad') ks.length c')) (first | go_keep | exact ⟨batA hb1 q f0, bat hb1 q f1, bat hb1 q f2, batA hb1 q' f0', bat hb1 q' f1', bat hb1 q' f2', bat hb1 (by show w.heap.size < wr.heap.size; omega) hc1, bat hb1 (by show w.heap.size + 1 < wr.heap.size; omega) hc2⟩) (first | (go_at_call 18; refine (Ih.out _ (List.getElem_mem hlt) _ _ _ _ _ _ _ _ hL.drew hL'.drew).mono ?_; rintro e w1 ⟨rfl, hb1⟩))
      go_wp2_with fail
      · have hE2 := eqEls_drop hlt (l' := ks') (by have := Heq.out; omega)
        have hx : eqEl ks[k] (ks'[k]'(by have := Heq.out; omega)) = false := by
          have h0 : (!eqEl ks[k] (ks'[k]'(by have := Heq.out; omega))) = true := by assumption
          simpa using h0
        go_ret
        refine ⟨ret_bool ?_, hb.trans (Below.mono (B' := w.heap.size) ((Below.refl _ _).drew.trans hb1) (by show w.heap.size ≤ wr.heap.size; omega))⟩
        rw [hE.out, hE2, hx]; rfl
      · have hs : wr.heap.size ≤ w1.heap.size := hb1.size
        have hE2 := eqEls_drop hlt (l' := ks') (by have := Heq.out; omega)
        have hx : eqEl ks[k] (ks'[k]'(by have := Heq.out; omega)) = true := by
          have h0 : (!eqEl ks[k] (ks'[k]'(by have := Heq.out; omega))) = false := by assumption
          simpa using h0
        go_roundw
        case rel =>
          refine ⟨k + 1, by omega, by go_num, ?_, bat hb1 (by show w.heap.size < wr.heap.size; omega) hc1, bat hb1 (by show w.heap.size + 1 < wr.heap.size; omega) hc2,
            hb.trans (Below.mono (B' := w.heap.size) ((Below.refl _ _).drew.trans hb1) (by show w.heap.size ≤ wr.heap.size; omega)), by omega⟩
          show _ = _
          rw [hE.out, hE2, hx]; rfl
        case measure => simp [intOf]; omega
    · go_wp2_with fail
      go_ret
      refine ⟨ret_bool ?_, hb⟩
      have : k = ks.length := by omega
      rw [hE.out, this]
      have h2 := Heq.out
      rw [List.drop_length, h2, List.drop_length]; rfl

theorem rsame_any (e : El) : SaidRSame e := by
  refine El.ind ?_ e
  intro t b ks ih f x y z x' y' z' w hL hL'
  obtain ⟨t', b', ks'⟩ := f
  obtain ⟨A, c, ds, hcs, ht, hb, hl, hK⟩ := hL.open_
  obtain ⟨A', c', ds', hcs', ht', hb', hl', hK'⟩ := hL'.open_
  simp only [List.cons.injEq, and_true] at hcs hcs'
  obtain ⟨rfl, rfl, rfl⟩ := hcs
  obtain ⟨rfl, rfl, rfl⟩ := hcs'
  by_cases h1 : t = t'
  · subst h1
    by_cases h2 : b = b'
    · subst h2
      by_cases h3 : ks.length = ks'.length
      · rw [← h3]
        refine (rsame_step t b ks ih ks' A A' c c' ds ds' w hK hK' hl h3).mono ?_
        rintro e w' ⟨rfl, h⟩
        exact ⟨by simp [eqEl], h⟩
      · have hr : eqEl (.mk t b ks) (.mk t b ks') = false := by simp [eqEl, eqEls_len h3]
        have h4 : ((ks.length : Int) != ks'.length) = true := by rw [bne_iff_ne]; omega
        have Hr := Lib.hid hr
        clear hr h3 ih
        go_enter Try.func18, Try.ntmps18
        go_wp2_with fail
        go_ret
        rw [Hr.out]
        exact ⟨rfl, ((Below.refl _ _).alloc (Nat.le_refl _) _).alloc (by simp) _⟩
    · have hr : eqEl (.mk t b ks) (.mk t b' ks') = false := by simp [eqEl, h2]
      have h4 : (b.toList != b'.toList) = true := by simp [bne, toList_ne h2]
      have h5 : (b.toList == b'.toList) = false := toList_ne h2
      have Hr := Lib.hid hr
      clear hr h2 ih
      go_enter Try.func18, Try.ntmps18
      go_wp2_with fail
      go_ret
      rw [Hr.out]
      exact ⟨rfl, ((Below.refl _ _).alloc (Nat.le_refl _) _).alloc (by simp) _⟩
  · have hr : eqEl (.mk t b ks) (.mk t' b' ks') = false := by simp [eqEl, h1]
    have h4 : ((t : Int) != t') = true := by rw [bne_iff_ne]; omega
    have Hr := Lib.hid hr
    clear hr h1 ih
    go_enter Try.func18, Try.ntmps18
    go_wp2_with fail
    go_ret
    rw [Hr.out]
    exact ⟨rfl, ((Below.refl _ _).alloc (Nat.le_refl _) _).alloc (by simp) _⟩
end Go.Proofs.Ytapkoiamjgdifaa
