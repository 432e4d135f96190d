/- The reference's Right and Deep answer the plain functions formed, dep. -/
import Derived.Test.YtiaghkngafajgaaRHead
import Derived.Test.YtiaghkngafajgaaBase
namespace Go.Proofs.Ytiaghkngafajgaa
open Go.RowKit
set_option linter.unusedVariables false
set_option maxRecDepth 100000

theorem ne_nil_of (b : ByteArray) (h : b.size ≠ 0) : (b.toList != []) = true := by
  rw [bne_iff_ne]
  intro h1
  have h5 : b.data.toList = [] := by simpa [ByteArray.toList_eq] using h1
  have : b.data.toList.length = b.size := rfl
  rw [h5] at this
  exact h (by simpa using this.symm)
theorem nil_of (b : ByteArray) (h : b.size = 0) : b.toList = [] := by
  have : b.data.toList = [] := List.eq_nil_of_length_eq_zero h
  simpa [ByteArray.toList_eq] using this
def SaidRight (e : El) : Prop := ∀ (x y z : Value) (w : World), Lies w (· < w.heap.size) e [x, y, z] →
    Calls Try.prog 19 #[.agg #[x, y, z]] w fun r w' => r = .returned (.bool (formed e)) ∧ Below w.heap.size w w'

section
variable (t : Nat) (ht : t ≤ 255) (b : ByteArray) (A : Option Addr) (n c : Nat) (w : World)
include ht
set_option maxHeartbeats 1000000 in
theorem right_31 (h1 : ((t : Int) % 32 == 31) = true) :
    Calls Try.prog 19 #[.agg #[.int .u8 t, .string b, .slice A n c]] w fun r w' => r = .returned (.bool false) ∧ Below w.heap.size w w' := by
  go_enter Try.func19, Try.ntmps19
  go_wp2_with fail
  go_ret
  exact ⟨rfl, (Below.refl _ _).alloc (Nat.le_refl _) _⟩
set_option maxHeartbeats 1000000 in
theorem right_body (h1 : ((t : Int) % 32 == 31) = false) (h2 : (bits .and .u8 (t : Int) 32 == 0) = false) (h3 : (b.toList != []) = true) (h4 : b.toList.isEmpty = false) :
    Calls Try.prog 19 #[.agg #[.int .u8 t, .string b, .slice A n c]] w fun r w' => r = .returned (.bool false) ∧ Below w.heap.size w w' := by
  have h2' : (bits .and .u8 (t : Int) 32 != 0) = true := by simp [bne, h2]
  go_enter Try.func19, Try.ntmps19
  go_wp2_with fail
  go_ret
  exact ⟨rfl, (Below.refl _ _).alloc (Nat.le_refl _) _⟩
set_option maxHeartbeats 1000000 in
theorem right_kids (h1 : ((t : Int) % 32 == 31) = false) (h2 : (bits .and .u8 (t : Int) 32 == 0) = true) (h3 : 0 < (n : Int)) :
    Calls Try.prog 19 #[.agg #[.int .u8 t, .string b, .slice A n c]] w fun r w' => r = .returned (.bool false) ∧ Below w.heap.size w w' := by
  have h2' : (bits .and .u8 (t : Int) 32 != 0) = false := by simp [bne, h2]
  go_enter Try.func19, Try.ntmps19
  go_wp2_with fail
  go_ret
  exact ⟨rfl, (Below.refl _ _).alloc (Nat.le_refl _) _⟩
set_option maxHeartbeats 1000000 in
theorem right_prim (h1 : ((t : Int) % 32 == 31) = false) (h2 : (bits .and .u8 (t : Int) 32 == 0) = true) :
    Calls Try.prog 19 #[.agg #[.int .u8 t, .string b, .slice A 0 c]] w fun r w' => r = .returned (.bool true) ∧ Below w.heap.size w w' := by
  have h2' : (bits .and .u8 (t : Int) 32 != 0) = false := by simp [bne, h2]
  go_enter Try.func19, Try.ntmps19
  go_wp2_with fail
  go_loopw [3] (fun i wr => i = .int .i64 0 ∧ Blk wr w.heap.size 41 #[.int .u8 t, .string b, .slice A 0 c] ∧ Below w.heap.size w wr) (fun i wr => 0)
  case atStart => exact ⟨rfl, Blk.new w _ _, (Below.refl _ _).alloc (Nat.le_refl _) _⟩
  case round =>
    obtain ⟨rfl, B, hb⟩ := hrel
    have c2 : wr.cell? ⟨w.heap.size, 2, none⟩ = some (.slice A 0 c) := B.cell 2
    go_wp2_with fail
    go_ret
    exact ⟨rfl, hb⟩
set_option maxHeartbeats 1000000 in
theorem right_step (ks : List El) (ih : ∀ k ∈ ks, SaidRight k) (ds : Nat → List Value) (hK : KidsAt w (· < w.heap.size) A ks ds) (hl : ks.length ≤ 2 ^ 63 - 1)
    (h1 : ((t : Int) % 32 == 31) = false) (h2 : (bits .and .u8 (t : Int) 32 == 0) = false) (h3 : b.toList = []) :
    Calls Try.prog 19 #[.agg #[.int .u8 t, .string b, .slice A ks.length c]] w fun r w' => r = .returned (.bool (formeds ks)) ∧ Below w.heap.size w w' := by
  have h2' : (bits .and .u8 (t : Int) 32 != 0) = true := by simp [bne, h2]
  have h4 : (b.toList != []) = false := by simp [h3]
  have Ih := Lib.hid ih
  clear ih
  go_enter Try.func19, Try.ntmps19
  go_wp2_with fail
  go_loopw [3] (fun i wr => ∃ k : Nat, k ≤ ks.length ∧ i = .int .i64 k ∧ Hid (formeds ks = formeds (ks.drop k)) ∧ Blk wr w.heap.size 41 #[.int .u8 t, .string b, .slice A ks.length c] ∧ Below w.heap.size w wr) (fun i wr => ks.length - (intOf i).toNat)
  case atStart => exact ⟨0, Nat.zero_le _, rfl, rfl, Blk.new w _ _, (Below.refl _ _).alloc (Nat.le_refl _) _⟩
  case round =>
    obtain ⟨k, hk, rfl, hE, B, hb⟩ := hrel
    have c2 : wr.cell? ⟨w.heap.size, 2, none⟩ = some (.slice A ks.length c) := B.cell 2
    by_cases hlt : k < ks.length
    · obtain ⟨ad, t', b', A', n', c', rfl, hp, f0, f1, f2, hL⟩ := hK.kid5 hb hlt
      have hs := hb.size
      have hD := Lib.hid (formeds_drop hlt)
      have H := Ih.out _ (List.getElem_mem hlt) _ _ _ _ hL
      go_wp2_with fail
      refine H.mono ?_
      rintro e w1 ⟨rfl, hb1⟩
      clear H
      have hb2 := hb.trans (hb1.mono hs)
      have B2 := B.past hb1
      go_wp2_with fail
      · have hx : formed ks[k] = false := by
          have h0 : (!formed ks[k]) = true := by assumption
          simpa using h0
        go_ret
        refine ⟨ret_bool ?_, hb2⟩
        rw [hE.out, hD.out, hx]; rfl
      · have hx : formed ks[k] = true := by
          have h0 : (!formed ks[k]) = false := by assumption
          simpa using h0
        go_roundw
        case rel =>
          refine ⟨k + 1, by omega, by go_num, ?_, B2, hb2⟩
          show _ = _
          rw [hE.out, hD.out, hx]; rfl
        case measure => simp [intOf]; omega
    · go_wp2_with fail
      go_ret
      refine ⟨ret_bool ?_, hb⟩
      have : k = ks.length := by omega
      rw [hE.out, this, List.drop_length]; rfl
end

theorem right_any (e : El) : SaidRight e := by
  refine El.ind ?_ e
  intro t b ks ih x y z w hL
  obtain ⟨A, c, ds, hcs, ht, hb, hl, hK⟩ := hL.open_
  simp only [List.cons.injEq, and_true] at hcs
  obtain ⟨rfl, rfl, rfl⟩ := hcs
  unfold maxLen at hl
  by_cases h1 : t % 32 = 31
  · have hr : formed (.mk t b ks) = false := by simp [formed, h1]
    rw [hr]
    exact right_31 t ht b A _ c w (by rw [beq_iff_eq]; omega)
  have h1' : ((t : Int) % 32 == 31) = false := beq_eq_false_iff_ne.2 (by omega)
  by_cases h2 : t / 32 % 2 = 0
  · by_cases h3 : ks.length = 0
    · have hr : formed (.mk t b ks) = true := by simp [formed, h1, h2, h3]
      rw [hr, h3]
      exact right_prim t ht b A c w h1' (and32_eq0 t ht h2)
    · have hr : formed (.mk t b ks) = false := by simp [formed, h1, h2, h3]
      rw [hr]
      exact right_kids t ht b A _ c w h1' (and32_eq0 t ht h2) (by omega)
  have h2' : t / 32 % 2 = 1 := by omega
  by_cases h3 : b.size = 0
  · have hr : formed (.mk t b ks) = formeds ks := by simp [formed, h1, h2, h3]
    rw [hr]
    exact right_step t ht b A c w ks ih ds hK hl h1' (and32_ne0 t ht h2') (nil_of b h3)
  · have hr : formed (.mk t b ks) = false := by simp [formed, h1, h2, h3]
    rw [hr]
    have h5 := ne_nil_of b h3
    exact right_body t ht b A _ c w h1' (and32_ne0 t ht h2') h5 (by cases h : b.toList with | nil => rw [h] at h5; simp at h5 | cons a l => rfl)

/-- The greatest of what is found and the depths of so many first kids. -/
theorem deps_take {l : List El} {i : Nat} (h : i < l.length) : deps (l.take (i + 1)) = max (deps (l.take i)) (dep l[i]) := by
  have key : ∀ (a b : List El), deps (a ++ b) = max (deps a) (deps b) := by
    intro a b
    induction a with
    | nil => simp [deps]
    | cons x a ih => simp only [deps, List.cons_append, ih]; omega
  rw [List.take_succ_eq_append_getElem h, key]
  simp [deps]
def SaidRDeep (e : El) : Prop := ∀ (K L d : Nat) (x y z : Value) (w : World), fitS K L d e = true → d ≤ 10000 → Lies w (· < w.heap.size) e [x, y, z] →
    Calls Try.prog 20 #[.agg #[x, y, z]] w fun r w' => r = .returned (.int .i64 (dep e : Nat)) ∧ Below w.heap.size w w'
theorem dep_fit {K L : Nat} : ∀ {d : Nat} {e : El}, fitS K L d e = true → dep e ≤ d
  | 0, e, h => (fitS_zero h).elim
  | d + 1, .mk t b ks, h => by
    obtain ⟨_, _, hk⟩ := fitS_open h
    have key : ∀ l : List El, (∀ k ∈ l, dep k ≤ d) → deps l ≤ d := by
      intro l
      induction l with
      | nil => intro _; simp [deps]
      | cons k l ihl =>
        intro hl
        have h1 := hl k (by simp)
        have h2 := ihl (fun x hx => hl x (by simp [hx]))
        rw [deps]; omega
    have := key ks (fun k hkm => by
      obtain ⟨i, hi, rfl⟩ := List.getElem_of_mem hkm
      exact dep_fit (hk i hi))
    rw [dep]; omega

set_option maxHeartbeats 1000000 in
theorem rdeep_any (e : El) : SaidRDeep e := by
  refine El.ind ?_ e
  intro t b ks ih K L d x y z w hF hd hL
  obtain ⟨A, c, ds, hcs, ht, hb, hl, hK⟩ := hL.open_
  simp only [List.cons.injEq, and_true] at hcs
  obtain ⟨rfl, rfl, rfl⟩ := hcs
  unfold maxLen at hl
  obtain ⟨d, rfl⟩ : ∃ d', d = d' + 1 := by
    cases d with
    | zero => exact (fitS_zero hF).elim
    | succ d => exact ⟨d, rfl⟩
  have hD := dep_fit hF
  obtain ⟨_, _, hkF⟩ := fitS_open hF
  have hdp : ∀ i (hi : i < ks.length), dep ks[i] ≤ d := fun i hi => dep_fit (hkF i hi)
  have hdt : ∀ i, deps (ks.take i) ≤ d := by
    intro i
    have key : ∀ l : List El, (∀ k ∈ l, dep k ≤ d) → deps l ≤ d := by
      intro l
      induction l with
      | nil => intro _; simp [deps]
      | cons k l ihl =>
        intro hl
        have h1 := hl k (by simp)
        have h2 := ihl (fun x hx => hl x (by simp [hx]))
        rw [deps]; omega
    refine key _ (fun k hk => ?_)
    obtain ⟨j, hj, rfl⟩ := List.getElem_of_mem (List.mem_of_mem_take hk)
    exact hdp j hj
  have Ih := Lib.hid ih
  have HF := Lib.hid hkF
  have HP := Lib.hid hdp
  have HT := Lib.hid hdt
  clear ih hL hD hkF hdp hdt hF
  go_enter Try.func20, Try.ntmps20
  go_wp2_with fail
  go_loopw [3, 4] (fun n i wr => ∃ (k m : Nat), k ≤ ks.length ∧ i = .int .i64 k ∧ n = .int .i64 m ∧ Hid (m = deps (ks.take k)) ∧ Blk wr w.heap.size 41 #[.int .u8 t, .string b, .slice A ks.length c] ∧ Below w.heap.size w wr) (fun n i wr => ks.length - (intOf i).toNat)
  case atStart => exact ⟨0, 0, Nat.zero_le _, rfl, rfl, rfl, Blk.new w _ _, (Below.refl _ _).alloc (Nat.le_refl _) _⟩
  case round =>
    obtain ⟨k, m, hk, rfl, rfl, hE, B, hb⟩ := hrel
    have c2 : wr.cell? ⟨w.heap.size, 2, none⟩ = some (.slice A ks.length c) := B.cell 2
    have hm : m ≤ d := by rw [hE.out]; exact HT.out k
    by_cases hlt : k < ks.length
    · obtain ⟨ad, t', b', A', n', c', rfl, hp, f0, f1, f2, hL⟩ := hK.kid5 hb hlt
      have hs := hb.size
      have hD := Lib.hid (deps_take hlt)
      have hq := HP.out k hlt
      have H := Ih.out _ (List.getElem_mem hlt) K L d _ _ _ _ (HF.out k hlt) (by omega) hL
      obtain ⟨q, hqe⟩ : ∃ q, q = dep ks[k] := ⟨_, rfl⟩
      rw [← hqe] at H hq
      have Hq := Lib.hid hqe
      clear hqe
      go_wp2_with fail
      refine H.mono ?_
      rintro e w1 ⟨rfl, hb1⟩
      clear H
      have hb2 := hb.trans (hb1.mono hs)
      have B2 := B.past hb1
      go_wp2_with fail
      go_roundw
      case rel =>
        refine ⟨k + 1, max m q, by omega, by go_num, ?_, ?_, B2, hb2⟩
        · congr 1; omega
        · show _ = _
          rw [hD.out, ← hE.out, ← Hq.out]
      case measure => simp [intOf]; omega
    · go_wp2_with fail
      go_ret
      refine ⟨?_, hb⟩
      have : k = ks.length := by omega
      have h2 := hE.out
      rw [this, List.take_length] at h2
      rw [dep, h2]
      go_num
end Go.Proofs.Ytiaghkngafajgaa
