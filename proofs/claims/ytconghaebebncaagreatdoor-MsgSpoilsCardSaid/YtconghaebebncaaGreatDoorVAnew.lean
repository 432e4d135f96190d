/- value's anew copies elements at all depths: what it answers is the same trees, in new memory. -/
import Derived.Test.YtconghaebebncaaGreatDoorG12
import Derived.Test.YtconghaebebncaaGreatDoorBuild
import Derived.Deep.RegionHeld3
import Derived.Deep.RegionWith
import Derived.Laws.MakeOwn
import Derived.Laws.Entries
import Derived.Deep.Slices
namespace Go.Proofs.YtconghaebebncaaGreatDoor.Be
open Go.RowKit
set_option linter.unusedVariables false
set_option maxRecDepth 100000

theorem infoElV : (Tryz.prog.info? 57).map (fun i => (i.zero, i.size, i.bytes)) = some (some (.agg #[.int .u8 0, .string ⟨#[]⟩, .slice none 0 0]), 3, 48) := by kernel_rfl
/-- make of a row of elements. -/
theorem make_els (n : Nat) (hn : n ≤ 1000000) (w : World) :
    (Instr.makeSlice 55 (.int .i64 (n : Int)) (.int .i64 (n : Int))).run Tryz.prog w = .ok (.slice (some ⟨w.heap.size, 0, none⟩) n n) (w.alloc (.cells (madeCells #[.int .u8 0, .string ⟨#[]⟩, .slice none 0 0] (n * 3)) 57)) := by
  obtain ⟨i0, hi, hz0, hz1, hz2⟩ := info_parts infoElV
  have hr := run_make (P := Tryz.prog) w 55 57 i0 _ Tryz.underlying55 hi hz0 .i64 .i64 n n (by omega) (by omega) (by rw [hz2]; omega) (by omega)
  simp only [Int.toNat_natCast, hz1] at hr
  exact hr

/-- The first elements lie in the row's cells, what hangs on them in blocks behind F. -/
def Copied (w : World) (F : Nat) (cur : Array Value) (done : List El) : Prop :=
  ∀ i (h : i < done.length), ∃ x y z, cur[i * 3]? = some x ∧ cur[i * 3 + 1]? = some y ∧ cur[i * 3 + 2]? = some z ∧ Lies w (fun b => F < b ∧ b < w.heap.size) done[i] [x, y, z]
theorem Copied.past {w w' : World} {F : Nat} {cur : Array Value} {done : List El} (h : Copied w F cur done) (hb : Below w.heap.size w w') : Copied w' F cur done := by
  intro i hi
  obtain ⟨x, y, z, h0, h1, h2, hl⟩ := h i hi
  exact ⟨x, y, z, h0, h1, h2, hl.imp (fun b hb' => ⟨hb'.1, Nat.lt_of_lt_of_le hb'.2 hb.size⟩) (fun p hp => hb.cell hp.2)⟩
theorem size_setCell (w : World) (p : Addr) (u : Value) : (w.setCell p u).heap.size = w.heap.size := by simp [World.setCell]
theorem Copied.set_ {w : World} {F : Nat} {cur : Array Value} {done : List El} (h : Copied w F cur done) {p : Addr} (hp : p.block = F) (u : Value) : Copied (w.setCell p u) F cur done := by
  intro i hi
  obtain ⟨x, y, z, h0, h1, h2, hl⟩ := h i hi
  refine ⟨x, y, z, h0, h1, h2, hl.imp (fun b hb' => ⟨hb'.1, by rw [size_setCell]; exact hb'.2⟩) (fun q hq => ?_)⟩
  exact World.cell?_setCell_other w p q u (fun e => by subst e; have := hq.1; omega)
theorem Copied.step {w : World} {F : Nat} {cur : Array Value} {done : List El} {e : El} {x y z : Value} (h : Copied w F cur done) (hs : done.length * 3 + 2 < cur.size) (hl : Lies w (fun b => F < b ∧ b < w.heap.size) e [x, y, z]) :
    Copied w F (((cur.setIfInBounds (done.length * 3) x).setIfInBounds (done.length * 3 + 1) y).setIfInBounds (done.length * 3 + 2) z) (done ++ [e]) := by
  intro i hi
  by_cases hlt : i < done.length
  · obtain ⟨x', y', z', h0, h1, h2, hl'⟩ := h i hlt
    refine ⟨x', y', z', ?_, ?_, ?_, ?_⟩
    · rw [Array.getElem?_setIfInBounds_ne (by omega), Array.getElem?_setIfInBounds_ne (by omega), Array.getElem?_setIfInBounds_ne (by omega)]; exact h0
    · rw [Array.getElem?_setIfInBounds_ne (by omega), Array.getElem?_setIfInBounds_ne (by omega), Array.getElem?_setIfInBounds_ne (by omega)]; exact h1
    · rw [Array.getElem?_setIfInBounds_ne (by omega), Array.getElem?_setIfInBounds_ne (by omega), Array.getElem?_setIfInBounds_ne (by omega)]; exact h2
    · rw [List.getElem_append_left hlt]; exact hl'
  · have hi2 : i = done.length := by simp at hi; omega
    subst hi2
    refine ⟨x, y, z, ?_, ?_, ?_, ?_⟩
    · rw [Array.getElem?_setIfInBounds_ne (by omega), Array.getElem?_setIfInBounds_ne (by omega), Array.getElem?_setIfInBounds_self_of_lt (by omega)]
    · rw [Array.getElem?_setIfInBounds_ne (by omega), Array.getElem?_setIfInBounds_self_of_lt (by simp; omega)]
    · rw [Array.getElem?_setIfInBounds_self_of_lt (by simp; omega)]
    · simpa using hl
theorem Copied.kids {w : World} {F : Nat} {cur : Array Value} {ks : List El} (h : Copied w F cur ks) (hB : Blk w F 57 cur) (base : Nat) (hb : base ≤ F) :
    ∃ ds, KidsAt w (fun b => base ≤ b ∧ b < w.heap.size) (some ⟨F, 0, none⟩) ks ds := by
  have one : ∀ i, i < ks.length → ∃ q : List Value, q.length = 3 ∧ (∀ j u, q[j]? = some u → w.cell? ((⟨F, 0, none⟩ : Addr).add (i * 3 + j)) = some u) ∧ ∀ h : i < ks.length, Lies w (fun b => base ≤ b ∧ b < w.heap.size) ks[i] q := by
    intro i hi
    obtain ⟨x, y, z, h0, h1, h2, hl⟩ := h i hi
    refine ⟨[x, y, z], rfl, fun j u hu => ?_, fun _ => hl.imp (fun b hb' => ⟨by omega, hb'.2⟩) (fun _ _ => rfl)⟩
    have e : (⟨F, 0, none⟩ : Addr).add (i * 3 + j) = ⟨F, i * 3 + j, none⟩ := by
      unfold Addr.add
      split
      · rename_i h; rw [h]
      · simp
    rw [e, hB.cell]
    match j, hu with
    | 0, hu => simp at hu; subst hu; exact h0
    | 1, hu => simp at hu; subst hu; exact h1
    | 2, hu => simp at hu; subst hu; exact h2
    | j + 3, hu => simp at hu
  obtain ⟨q, hq⟩ := Go.Deep.choose_lt one
  exact ⟨q, fun i hi => (hq i hi).1, fun h0 => ⟨_, rfl, ⟨hb, hB.lt⟩, fun i hi => (hq i hi).2.1⟩, fun i hi => (hq i hi).2.2 hi⟩

def SaidAnew (d : Nat) : Prop := ∀ (ks : List El) (K L : Nat) (A : Option Addr) (c : Nat) (ds : Nat → List Value) (w : World), ks.length ≤ K → K ≤ 1000000 → L ≤ 281474976710656 → (∀ i (h : i < ks.length), fitS K L d ks[i] = true) →
    KidsAt w (· < w.heap.size) A ks ds →
    Calls Tryz.prog 131 #[.slice A ks.length c] w fun r w' => ∃ (A' : Option Addr) (c' : Nat) (ds' : Nat → List Value), r = .returned (.slice A' ks.length c') ∧ Below w.heap.size w w' ∧ KidsAt w' (fun b => w.heap.size ≤ b ∧ b < w'.heap.size) A' ks ds'

set_option maxHeartbeats 1000000 in
theorem anew_nil (c : Nat) (A : Option Addr) (w : World) :
    Calls Tryz.prog 131 #[.slice A 0 c] w fun r w' => r = .returned (.slice none 0 0) ∧ Below w.heap.size w w' := by
  go_enter Tryz.func131, Tryz.ntmps131
  go_wp2_with fail
  go_ret
  exact ⟨rfl, Below.refl _ _⟩

set_option maxHeartbeats 1000000 in
theorem anew_step (d : Nat) (ih : SaidAnew d) (ks : List El) (K L : Nat) (A : Option Addr) (c : Nat) (ds : Nat → List Value) (w : World) (hl : ks.length ≤ K) (hK6 : K ≤ 1000000) (hL6 : L ≤ 281474976710656) (hF : ∀ i (h : i < ks.length), fitS K L (d + 1) ks[i] = true)
    (hK : KidsAt w (· < w.heap.size) A ks ds) (h0 : 0 < ks.length) :
    Calls Tryz.prog 131 #[.slice A ks.length c] w fun r w' => ∃ (A' : Option Addr) (c' : Nat) (ds' : Nat → List Value), r = .returned (.slice A' ks.length c') ∧ Below w.heap.size w w' ∧ KidsAt w' (fun b => w.heap.size ≤ b ∧ b < w'.heap.size) A' ks ds' := by
  have hz : ((ks.length : Int) == 0) = false := beq_eq_false_iff_ne.2 (by omega)
  have hmk := fun w => make_els ks.length (by omega) w
  have Ih := Lib.hid ih
  clear ih
  go_enter Tryz.func131, Tryz.ntmps131
  go_wp2_with fail
  go_loopw [14] (fun i wr => ∃ (k : Nat) (cur : Array Value), k ≤ ks.length ∧ i = .int .i64 k ∧ Blk wr w.heap.size 57 cur ∧ cur.size = ks.length * 3 ∧ Hid (Copied wr w.heap.size cur (ks.take k)) ∧ Below w.heap.size w wr) (fun i wr => ks.length - (intOf i).toNat)
  case atStart => exact ⟨0, _, Nat.zero_le _, rfl, Blk.new w _ _, by rw [size_madeCells], fun i hi => by simp at hi, (Below.refl _ _).alloc (Nat.le_refl _) _⟩
  case round =>
    obtain ⟨k, cur, hk, rfl, B, hcs, hC, hb⟩ := hrel
    have hs := hb.size
    have hBl := B.lt
    by_cases hlt : k < ks.length
    · obtain ⟨ad, t', b', A', n', c', rfl, hp, f0, f1, f2, hL⟩ := hK.kid5 hb hlt
      have hFk := hF k hlt
      obtain ⟨t0, b0, kk, hek⟩ : ∃ t0 b0 kk, ks[k] = .mk t0 b0 kk := by
        cases h : ks[k] with
        | mk t0 b0 kk => exact ⟨t0, b0, kk, rfl⟩
      rw [hek] at hL hFk
      obtain ⟨A2, c2, ds2, hcs2, ht2, hb2, hl2, hK2⟩ := hL.open_
      simp only [List.cons.injEq, and_true, Value.int.injEq, Value.string.injEq, Value.slice.injEq] at hcs2
      obtain ⟨⟨_, ht'⟩, rfl, rfl, rfl, rfl⟩ := hcs2
      have ht' : t' = t0 := by omega
      subst ht'
      obtain ⟨hkK, hbL, hkF⟩ := fitS_open hFk
      obtain ⟨u0, u1, u2, hu0, hu1, hu2⟩ : ∃ u0 u1 u2, cur[k * 3]? = some u0 ∧ cur[k * 3 + 1]? = some u1 ∧ cur[k * 3 + 2]? = some u2 :=
        ⟨_, _, _, Array.getElem?_eq_getElem (by omega), Array.getElem?_eq_getElem (by omega), Array.getElem?_eq_getElem (by omega)⟩
      have BE := Blk.new wr 57 #[.int .u8 t', .string b', .slice A' kk.length c']
      have BF := B.alloc (.cells #[.int .u8 t', .string b', .slice A' kk.length c'] 57)
      have HkF := Lib.hid hkF
      have HBF : Hid (∀ w1 w2, Below (wr.alloc (.cells #[.int .u8 t', .string b', .slice A' kk.length c'] 57)).heap.size (wr.alloc (.cells #[.int .u8 t', .string b', .slice A' kk.length c'] 57)).drew w1 → Below w1.heap.size w1 w2 →
          Blk w2 w.heap.size 57 cur ∧ w2.cell? ⟨w.heap.size, k * 3, none⟩ = some u0 ∧ w2.cell? ⟨w.heap.size, k * 3 + 1, none⟩ = some u1 ∧ w2.cell? ⟨w.heap.size, k * 3 + 2, none⟩ = some u2 ∧
          w2.frozen? ⟨w.heap.size, k * 3, none⟩ = false ∧ w2.frozen? ⟨w.heap.size, k * 3 + 1, none⟩ = false ∧ w2.frozen? ⟨w.heap.size, k * 3 + 2, none⟩ = false) := fun w1 w2 h1 h2 => by
        have hX : Blk w2 w.heap.size 57 cur := (BF.drew.past h1).past h2
        exact ⟨hX, (hX.cell _).trans hu0, (hX.cell _).trans hu1, (hX.cell _).trans hu2, hX.frozen _, hX.frozen _, hX.frozen _⟩
      have HKK : Hid (∀ w1, Below (wr.alloc (.cells #[.int .u8 t', .string b', .slice A' kk.length c'] 57)).heap.size (wr.alloc (.cells #[.int .u8 t', .string b', .slice A' kk.length c'] 57)).drew w1 → KidsAt w1 (· < w1.heap.size) A' kk ds2) := fun w1 h =>
        hK2.past ((((Below.refl wr.heap.size wr).alloc (Nat.le_refl _) _).drew).trans (h.mono (by simp)))
      have hne : wr.heap.size ≠ w.heap.size := by omega
      clear hkF hFk hL hF
      go_wp2_with fail
      go_region_held3 (fun w' => w'.cell? ⟨wr.heap.size, 0, none⟩ = some (.int .u8 t') ∧ w'.cell? ⟨wr.heap.size, 1, none⟩ = some (.string b') ∧ w'.cell? ⟨wr.heap.size, 2, none⟩ = some (.slice A' kk.length c')) (first | go_keep | exact ⟨BE.cell 0, BE.cell 1, BE.cell 2⟩ | exact ⟨(BE.drew.past hb1).cell 0, (BE.drew.past hb1).cell 1, (BE.drew.past hb1).cell 2⟩ | exact ⟨((BE.drew.past hb1).past hb2').cell 0, ((BE.drew.past hb1).past hb2').cell 1, ((BE.drew.past hb1).past hb2').cell 2⟩ | exact ⟨((((BE2.far hne _).far hne _).far hne _)).cell 0, ((((BE2.far hne _).far hne _).far hne _)).cell 1, ((((BE2.far hne _).far hne _).far hne _)).cell 2⟩) (first | (go_at_call 125; refine (clone_any _ _ (by omega)).mono ?_; rintro e w1 ⟨rfl, hb1⟩) | (go_at_call 131; refine (Ih.out kk K L _ _ ds2 _ hkK hK6 hL6 HkF.out (HKK.out _ hb1)).mono ?_; rintro e w2 ⟨A3, c3, ds3, rfl, hb2', hK3⟩; have hBX := HBF.out _ _ hb1 hb2'; have BE2 := (BE.drew.past hb1).past hb2'; have q0 := hBX.2.1; have q1 := hBX.2.2.1; have q2 := hBX.2.2.2.1; have z0 := hBX.2.2.2.2.1; have z1 := hBX.2.2.2.2.2.1; have z2 := hBX.2.2.2.2.2.2))
      have hX1 : Below wr.heap.size wr w2 := ((((Below.refl wr.heap.size wr).alloc (Nat.le_refl _) _).drew).trans (hb1.mono (by simp))).trans (hb2'.mono (by have := hb1.size; simp at this; omega))
      have hs1 : wr.heap.size < w1.heap.size := by have := hb1.size; simp at this; omega
      have hs2 := hb2'.size
      have hCk := Copied.step ((hC.out).past hX1) (e := .mk t' b' kk) (x := .int .u8 t') (y := .string b') (z := .slice A3 kk.length c3) (by rw [List.length_take]; omega)
        (Lies.shut (c := c3) ht2 hb2 hl2 (hK3.imp (fun b hb => ⟨by omega, hb.2⟩) (fun _ _ => rfl)))
      have hlen : (ks.take k).length = k := by rw [List.length_take]; omega
      rw [hlen, ← hek, ← List.take_succ_eq_append_getElem hlt] at hCk
      have HCk := Lib.hid (((hCk.set_ (p := ⟨w.heap.size, k * 3, none⟩) rfl (.int .u8 t')).set_ (p := ⟨w.heap.size, k * 3 + 1, none⟩) rfl (.string b')).set_ (p := ⟨w.heap.size, k * 3 + 2, none⟩) rfl (.slice A3 kk.length c3))
      have B3 := ((hBX.1.set_ (k * 3) (.int .u8 t')).set_ (k * 3 + 1) (.string b')).set_ (k * 3 + 2) (.slice A3 kk.length c3)
      have hb3 := (((hb.trans (hX1.mono hs)).setCell (p := ⟨w.heap.size, k * 3, none⟩) (Nat.le_refl _) (.int .u8 t')).setCell (p := ⟨w.heap.size, k * 3 + 1, none⟩) (Nat.le_refl _) (.string b')).setCell (p := ⟨w.heap.size, k * 3 + 2, none⟩) (Nat.le_refl _) (.slice A3 kk.length c3)
      clear hCk hBX BE BF BE2 HBF HKK hK2 hK3 hX1 q0 q1 q2 z0 z1 z2
      go_wp2_with fail
      go_roundw
      case rel => exact ⟨k + 1, _, by omega, by go_num, B3, by simp [hcs], HCk.out, hb3⟩
      case measure => simp [intOf]; omega
    · have hke : k = ks.length := by omega
      subst hke
      rw [List.take_length] at hC
      go_wp2_with fail
      go_ret
      obtain ⟨ds', hds⟩ := hC.out.kids B w.heap.size (Nat.le_refl _)
      exact ⟨_, _, ds', rfl, hb, hds⟩

theorem anew_any : ∀ d : Nat, SaidAnew d
  | 0 => by
    intro ks K L A c ds w hl hK6 hL6 hF hK
    have h0 : ks = [] := by
      cases ks with
      | nil => rfl
      | cons k ks => exact (fitS_zero (hF 0 (by simp))).elim
    subst h0
    refine (anew_nil c A w).mono ?_
    rintro r w' ⟨rfl, hb⟩
    exact ⟨none, 0, fun _ => [], rfl, hb, fun i h => absurd h (by simp), fun h => absurd h (by simp), fun i h => absurd h (by simp)⟩
  | d + 1 => by
    intro ks K L A c ds w hl hK6 hL6 hF hK
    by_cases h0 : 0 < ks.length
    · exact anew_step d (anew_any d) ks K L A c ds w hl hK6 hL6 hF hK h0
    · have h0 : ks = [] := List.eq_nil_of_length_eq_zero (by omega)
      subst h0
      refine (anew_nil c A w).mono ?_
      rintro r w' ⟨rfl, hb⟩
      exact ⟨none, 0, fun _ => [], rfl, hb, fun i h => absurd h (by simp), fun h => absurd h (by simp), fun i h => absurd h (by simp)⟩
end Go.Proofs.YtconghaebebncaaGreatDoor.Be
