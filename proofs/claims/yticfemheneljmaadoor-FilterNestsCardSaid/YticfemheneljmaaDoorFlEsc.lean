/- What appendValue, sign answer; the reference's escaped. -/
import Derived.Test.YticfemheneljmaaDoorFlBack
import Derived.Test.YticfemheneljmaaDoorFlMem
import Derived.Test.YticfemheneljmaaDoorNHexS
import Derived.Test.YticfemheneljmaaDoorNType
import Derived.Deep.RegionHeld3
import Derived.Deep.RegionWith
import Derived.Deep.LoopGhost
namespace Go.Proofs.YticfemheneljmaaDoor.Fi
open Go.RowKit
set_option linter.unusedVariables false
set_option maxRecDepth 100000

theorem mark_all : (List.range 256).all (fun n => decide (Lib.indexByte [42, 40, 41, 92] n.toUInt8 = if n = 42 then 0 else if n = 40 then 1 else if n = 41 then 2 else if n = 92 then 3 else -1)) = true := by kernel_rfl
theorem mark_of (c : UInt8) : Lib.indexByte [42, 40, 41, 92] c = if c.toNat = 42 then 0 else if c.toNat = 40 then 1 else if c.toNat = 41 then 2 else if c.toNat = 92 then 3 else -1 := by
  have h := of_decide_eq_true (List.all_eq_true.1 mark_all c.toNat (by simp [u8_lt c]))
  simpa using h
theorem mark_odd {c : UInt8} (h1 : 32 ≤ c.toNat) (h2 : c.toNat ≤ 126) : (0 ≤ Lib.indexByte [42, 40, 41, 92] c) ↔ odd c = true := by
  rw [mark_of]
  unfold odd
  rw [decide_eq_true_eq]
  repeat' split
  all_goals omega
theorem esc_step (s : ByteArray) (k : Nat) (h : k < s.size) : esc ((Nm.bs s).drop k) = escC s[k] ++ esc ((Nm.bs s).drop (k + 1)) := by
  have h1 := drop_at h
  show esc (s.data.toList.drop k) = _
  rw [h1, esc_cons]
/-- How a byte is told: as it is, or by its digits, and why. -/
theorem escC_cases (c : UInt8) : (escC c = [92, Nm.hexc (c.toNat / 16), Nm.hexc (c.toNat % 16)] ∧ ((c.toNat : Int) < 32 ∨ 32 ≤ (c.toNat : Int) ∧ 126 < (c.toNat : Int) ∨ 32 ≤ (c.toNat : Int) ∧ (c.toNat : Int) ≤ 126 ∧ 0 ≤ Lib.indexByte [42, 40, 41, 92] c)) ∨
    (escC c = [c] ∧ 32 ≤ (c.toNat : Int) ∧ (c.toNat : Int) ≤ 126 ∧ Lib.indexByte [42, 40, 41, 92] c < 0) := by
  unfold escC
  by_cases h1 : c.toNat < 32
  · exact Or.inl ⟨by rw [if_pos (by unfold odd; rw [decide_eq_true_eq]; omega)], Or.inl (by omega)⟩
  by_cases h2 : 126 < c.toNat
  · exact Or.inl ⟨by rw [if_pos (by unfold odd; rw [decide_eq_true_eq]; omega)], Or.inr (Or.inl (by omega))⟩
  have hm := mark_odd (c := c) (by omega) (by omega)
  by_cases h3 : odd c = true
  · exact Or.inl ⟨by rw [if_pos h3], Or.inr (Or.inr ⟨by omega, by omega, hm.2 h3⟩)⟩
  · exact Or.inr ⟨by rw [if_neg h3], by omega, by omega, by have : ¬ _ := fun h => h3 (hm.1 h); omega⟩
/-- What holds no bytes is as it was. -/
def Tid (w w' : World) : Prop := w.heap.size ≤ w'.heap.size ∧ ∀ (k : Nat) (cs : Array Value) (t : TypeId) (f : Nat × Nat), w.heap[k]? = some (Obj.cells cs t f) → t ≠ 5 → w'.heap[k]? = some (Obj.cells cs t f)
theorem Tid.refl (w : World) : Tid w w := ⟨Nat.le_refl _, fun _ _ _ _ h _ => h⟩
theorem Tid.trans {w w1 w2 : World} (h : Tid w w1) (h' : Tid w1 w2) : Tid w w2 := ⟨Nat.le_trans h.1 h'.1, fun k cs t f hk ht => h'.2 k cs t f (h.2 k cs t f hk ht) ht⟩
theorem Tid.below {w w' : World} (h : Below w.heap.size w w') : Tid w w' := by
  refine ⟨h.size, fun k cs t f hk ht => ?_⟩
  have hlt : k < w.heap.size := by
    rcases Nat.lt_or_ge k w.heap.size with h' | h'
    · exact h'
    · rw [Array.getElem?_eq_none h'] at hk; cases hk
  rw [h.block k hlt, hk]
theorem Tid.alloc {w w' : World} (h : Tid w w') (o : Obj) : Tid w (w'.alloc o) := h.trans (Tid.below ((Below.refl _ _).alloc (Nat.le_refl _) o))
theorem Tid.drew {w w' : World} (h : Tid w w') : Tid w w'.drew := h
theorem Tid.grown {w w' : World} {base : Nat} {v : Value} {l : List UInt8} (ho : Own w base v l) (hg : w.grownBy w' v.ownBlock) : Tid w w' := by
  refine ⟨hg.size, fun k cs t f hk ht => ?_⟩
  have hlt : k < w.heap.size := by
    rcases Nat.lt_or_ge k w.heap.size with h' | h'
    · exact h'
    · rw [Array.getElem?_eq_none h'] at hk; cases hk
  rw [hg.block k hlt ?_, hk]
  rcases ho.2 with ⟨rfl, _⟩ | ⟨g', cap', cur, rfl, _, hh, _⟩
  · simp [Value.ownBlock]
  · intro e
    simp only [Value.ownBlock, Option.some.injEq] at e
    subst e
    rw [hk] at hh
    simp only [Option.some.injEq, Obj.cells.injEq] at hh
    exact ht hh.2.1
theorem Tid.blk {w w' : World} (h : Tid w w') {g : Nat} {t : TypeId} {cs : Array Value} (hB : Blk w g t cs) (ht : t ≠ 5) : Blk w' g t cs := h.2 g cs t _ hB ht
set_option maxHeartbeats 2000000 in
theorem appV_any (base : Nat) (v : Value) (l : List UInt8) (s : ByteArray) (w : World) (h : Own w base v l) (hl : l.length ≤ 100000000) (hs : s.size ≤ 100000000) (hb : base ≤ w.heap.size) :
    Calls Tryd.prog 36 #[v, .string s] w fun e w' => ∃ v', e = .returned v' ∧ Own w' base v' (l ++ esc (Nm.bs s)) ∧ Below base w w' ∧ Tid w w' := by
  have CI : ∀ (c : UInt8) (w : World), Calls Tryd.prog 44 #[.string ⟨#[42, 40, 41, 92]⟩, .int .u8 c.toNat] w fun e w' => e = .returned (.int .i64 (Lib.indexByte [42, 40, 41, 92] c)) ∧ w' = w := fun c w => by
    have := Tryd.strings_IndexByte ⟨#[42, 40, 41, 92]⟩ (c.toNat : Int) w
    have e : (c.toNat : Int).toNat.toUInt8 = c := by simp
    rw [e] at this
    exact this
  have C := Lib.hid CI
  clear CI
  go_enter Tryd.func36, Tryd.ntmps36
  go_wp2_with fail
  go_loopw [0, 9] (fun b i wr => ∃ (k : Nat) (l1 : List UInt8), k ≤ s.size ∧ i = .int .i64 k ∧ Own wr base b l1 ∧ Hid (l ++ esc (Nm.bs s) = l1 ++ esc ((Nm.bs s).drop k)) ∧ l1.length ≤ 100000000 + 3 * k ∧ Below base w wr ∧ Tid w wr) (fun b i wr => s.size - (intOf i).toNat)
  case atStart => exact ⟨0, l, Nat.zero_le _, rfl, h, rfl, by omega, Below.refl _ _, Tid.refl _⟩
  case round =>
    obtain ⟨k, l1, hk, rfl, hO, hE, hl1, hb1, hi1⟩ := hrel
    have hs1 := hb1.size
    obtain ⟨A1, n1, c1, rfl⟩ := hO.form3
    by_cases hlt : k < s.size
    · have hE2 := hE.out
      rw [esc_step s k hlt, ← List.append_assoc] at hE2
      obtain ⟨c, hc⟩ : ∃ c, c = s[k] := ⟨_, rfl⟩
      have hcr : ∀ h, s[k]'h = c := fun _ => hc.symm
      have h256 := u8_lt c
      rw [← hc] at hE2
      have hcases := escC_cases c
      have D := C.out c
      have HO := Lib.hid hO
      clear hE hc C hO
      rcases hcases with ⟨he, hc4⟩ | ⟨he, h1, h2, h3⟩
      · rw [he] at hE2
        have HE := Lib.hid hE2
        have g0 : 0 ≤ (c.toNat : Int) / 16 := by omega
        have g1 : (c.toNat : Int) / 16 < 16 := by omega
        have g2 : (c.toNat : Int) % 16 < 16 := by omega
        have g3 : 0 ≤ (c.toNat : Int) % 16 := by omega
        have g4 : bits .and .u8 (c.toNat : Int) 15 = (c.toNat : Int) % 16 := and15 c
        have q1 := hexS_hi c
        have q2 := hexS_lo c
        unfold hexS at q1 q2
        obtain ⟨x, hx⟩ : ∃ x, x = Nm.hexc (c.toNat / 16) := ⟨_, rfl⟩
        obtain ⟨y, hy⟩ : ∃ y, y = Nm.hexc (c.toNat % 16) := ⟨_, rfl⟩
        rw [← hx] at q1 HE
        rw [← hy] at q2 HE
        have B0 := Lib.hid (Blk.newd wr 5 #[.int .u8 92, .int .u8 x.toNat, .int .u8 y.toNat])
        have K1 := Lib.hid (show Below base w (wr.alloc (.cells #[.int .u8 92, .int .u8 x.toNat, .int .u8 y.toNat] 5)).drew from (hb1.alloc (by omega) _).drew)
        generalize Lib.indexByte [42, 40, 41, 92] c = M at D hc4
        have HD := Lib.hid D
        clear hx hy hE2 D he
        rcases hc4 with h1 | ⟨h1, h2⟩ | ⟨h1, h2, h3⟩
        · go_wp2_with fail
          go_region_law (refine step_push rfl (.tmp 26) (.tmp 33) rfl base (.slice A1 n1 c1) l1 (by simp [Act.eval]) (HO.out.alloc _) wr.heap.size 3 3 [92, x, y] (by simp [Act.eval]) rfl B0.out (by simp; omega) (by show base ≤ (wr.alloc _).heap.size; simp; omega) ?_; intro v1 w1 hown hb2 hg2)
          all_goals
            have hi2 := (hi1.alloc (.cells #[.int .u8 92, .int .u8 x.toNat, .int .u8 y.toNat] 5)).trans (Tid.grown (w := (World.alloc _ (.cells #[.int .u8 92, .int .u8 x.toNat, .int .u8 y.toNat] 5)).drew) (HO.out.alloc _) hg2)
            clear hg2
            obtain ⟨A2, n2, c2, rfl⟩ := hown.form3
            have HO2 := Lib.hid hown
            clear hown
            go_wp2_with fail
            go_roundw
            case rel => exact ⟨k + 1, _, by omega, by go_num, HO2.out, HE.out, by rw [List.length_append]; simp; omega, K1.out.trans hb2, hi2⟩
            case measure => simp [intOf]; omega
        · go_wp2_with fail
          go_region_law (refine step_push rfl (.tmp 26) (.tmp 33) rfl base (.slice A1 n1 c1) l1 (by simp [Act.eval]) (HO.out.alloc _) wr.heap.size 3 3 [92, x, y] (by simp [Act.eval]) rfl B0.out (by simp; omega) (by show base ≤ (wr.alloc _).heap.size; simp; omega) ?_; intro v1 w1 hown hb2 hg2)
          all_goals
            have hi2 := (hi1.alloc (.cells #[.int .u8 92, .int .u8 x.toNat, .int .u8 y.toNat] 5)).trans (Tid.grown (w := (World.alloc _ (.cells #[.int .u8 92, .int .u8 x.toNat, .int .u8 y.toNat] 5)).drew) (HO.out.alloc _) hg2)
            clear hg2
            obtain ⟨A2, n2, c2, rfl⟩ := hown.form3
            have HO2 := Lib.hid hown
            clear hown
            go_wp2_with fail
            go_roundw
            case rel => exact ⟨k + 1, _, by omega, by go_num, HO2.out, HE.out, by rw [List.length_append]; simp; omega, K1.out.trans hb2, hi2⟩
            case measure => simp [intOf]; omega
        · go_wp2_with fail
          refine (HD.out _).mono ?_
          rintro r w2 ⟨rfl, rfl⟩
          go_wp2_with fail
          go_region_law (refine step_push rfl (.tmp 26) (.tmp 33) rfl base (.slice A1 n1 c1) l1 (by simp [Act.eval]) (HO.out.alloc _) w2.heap.size 3 3 [92, x, y] (by simp [Act.eval]) rfl B0.out (by simp; omega) (by show base ≤ (w2.alloc _).heap.size; simp; omega) ?_; intro v1 w1 hown hb2 hg2)
          all_goals
            have hi2 := (hi1.alloc (.cells #[.int .u8 92, .int .u8 x.toNat, .int .u8 y.toNat] 5)).trans (Tid.grown (w := (World.alloc _ (.cells #[.int .u8 92, .int .u8 x.toNat, .int .u8 y.toNat] 5)).drew) (HO.out.alloc _) hg2)
            clear hg2
            obtain ⟨A2, n2, c2, rfl⟩ := hown.form3
            have HO2 := Lib.hid hown
            clear hown
            go_wp2_with fail
            go_roundw
            case rel => exact ⟨k + 1, _, by omega, by go_num, HO2.out, HE.out, by rw [List.length_append]; simp; omega, K1.out.trans hb2, hi2⟩
            case measure => simp [intOf]; omega
      · rw [he] at hE2
        have HE := Lib.hid hE2
        have B0 := Lib.hid (Blk.new wr 5 #[.int .u8 c.toNat])
        have K1 := Lib.hid (show Below base w (wr.alloc (.cells #[.int .u8 c.toNat] 5)) from hb1.alloc (by omega) _)
        generalize Lib.indexByte [42, 40, 41, 92] c = M at D h3
        have HD := Lib.hid D
        clear hE2 D he
        go_wp2_with fail
        refine (HD.out _).mono ?_
        rintro r w2 ⟨rfl, rfl⟩
        go_wp2_with (at_builtin; go_loud (refine wpList_push rfl _ _ rfl base (.slice A1 n1 c1) l1 rfl (HO.out.alloc _) w2.heap.size 1 1 [c] rfl rfl B0.out (by simp; omega) (by simp; omega) ?_))
        intro v1 w1 hown hb2 hg2
        have hi2 := (hi1.alloc (.cells #[.int .u8 c.toNat] 5)).trans (Tid.grown (HO.out.alloc _) hg2)
        clear hg2
        obtain ⟨A2, n2, c2, rfl⟩ := hown.form3
        have HO2 := Lib.hid hown
        clear hown
        go_wp2_with fail
        go_roundw
        case rel => exact ⟨k + 1, _, by omega, by go_num, HO2.out, HE.out, by rw [List.length_append]; simp; omega, K1.out.trans hb2, hi2⟩
        case measure => simp [intOf]; omega
    · have hk2 : k = s.size := by omega
      have hE2 := hE.out
      rw [hk2, ← size_eq, List.drop_length, show esc [] = [] from rfl, List.append_nil] at hE2
      have HE := Lib.hid hE2
      clear hE hE2 hk2
      go_wp2_with fail
      go_ret
      exact ⟨_, rfl, by rw [HE.out]; exact hO, hb1, hi1⟩
end Go.Proofs.YticfemheneljmaaDoor.Fi
