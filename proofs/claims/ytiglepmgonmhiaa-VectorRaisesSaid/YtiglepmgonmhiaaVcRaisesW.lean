/- VectorRaises: the walk. -/
import Derived.Test.YtiglepmgonmhiaaVcForms
import Derived.Test.YtiglepmgonmhiaaVcRun2
import Derived.Deep.Cut
namespace Go.Proofs.Ytiglepmgonmhiaa.Cs
open Go.RowKit
set_option linter.unusedVariables false
set_option maxRecDepth 100000

/-- What the statement's own top makes of a number. -/
theorem isV3 {L : List Nm} (h : isV L = true) (hl : L.length = 3) : ∃ a0 a1 a2 : Nm, L = [a0, a1, a2] ∧ a0.r = 0 ∧ a1.r = 1 ∧ a2.r = 2 := by
  match L, hl with
  | [a0, a1, a2], _ =>
    have h2 := (isV_true h).2
    exact ⟨a0, a1, a2, rfl, (h2 0 (by simp)).1, (h2 1 (by simp)).1, (h2 2 (by simp)).1⟩
theorem f_new3 (w : World) : Calls Try.prog 8 #[.int .i64 3] w fun e w' => ∃ A' c', e = .returned (.slice A' (newV 3).length c') ∧ VecIn w' A' (newV 3) ∧ Below w.heap.size w w' ∧ (newV 3).length ≤ c' := by
  refine (New_any 3 w).mono fun e w' ⟨v, h1, h2, h3⟩ => ?_
  obtain ⟨A, c, h4, h5⟩ := h2.form
  rw [h4] at h2
  exact ⟨A, c, by rw [h1, h4], h5, h3, h2.cap⟩
/-- It has no place, or is no number: nothing is raised. -/
theorem raise_bad {L : List Nm} (h : Vn 3 L) {x : Nm} (hx : x.t < 0 ∨ 1099511627776 < x.t ∨ x.s < 0 ∨ 65535 < x.s ∨ x.r < 0 ∨ 2 < x.r) : raise L x = L := by
  unfold raise fits
  rw [cnt_of h.1, if_neg]
  intro h9
  rw [Bool.and_eq_true] at h9
  have h1 := isC_true (show isC x.t x.s x.r = true from h9.1)
  have h2 := of_decide_eq_true h9.2
  rw [h.2] at h2
  omega
theorem raise_k {L : List Nm} (h : Vn 3 L) {x : Nm} (k : Nat) (hk : x.r = k) (hk3 : k < L.length) (hx : 0 ≤ x.t ∧ x.t ≤ 1099511627776 ∧ 0 ≤ x.s ∧ x.s ≤ 65535) : raise L x = L.set k (if le x L[k] then L[k] else x) := by
  have h3 := h.2
  obtain ⟨t, s, r⟩ := x
  have hk' : r = k := hk
  subst hk'
  have hx' : 0 ≤ t ∧ t ≤ 1099511627776 ∧ 0 ≤ s ∧ s ≤ 65535 := hx
  have e := cnt_of h.1
  have := raise_yes (l := L) (t := t) (s := s) (k := k) (decide_eq_true (by show 0 ≤ t ∧ t ≤ 1099511627776 ∧ 0 ≤ s ∧ s ≤ 65535 ∧ 0 ≤ (k : Int) ∧ (k : Int) < 6; omega)) (by rw [e]; exact hk3)
  rw [this]
  simp only [e]
  rw [later_eq (h.rep hk3)]
theorem VecIn.set3 {w : World} {A : Option Addr} {l : List Nm} (h : VecIn w A l) {g : Nat} (hne : ∀ ad, A = some ad → ad.block ≠ g) (i j k : Nat) (u v t : Value) : VecIn (((w.setCell ⟨g, i, none⟩ u).setCell ⟨g, j, none⟩ v).setCell ⟨g, k, none⟩ t) A l := by
  intro h0
  obtain ⟨ad, e, hp, hc⟩ := h h0
  have hn := hne ad e
  refine ⟨ad, e, by simpa [World.setCell] using hp, fun i' hi j' u' hu => ?_⟩
  have e : ∀ (w : World) (q : Addr) (j : Nat) (u : Value), q.block ≠ g → (w.setCell ⟨g, j, none⟩ u).cell? q = w.cell? q := fun w q j u hq => World.cell?_setCell_other w _ _ u (fun e => hq (by rw [← e]))
  have hb : (ad.add (i' * 3 + j')).block ≠ g := by rw [block_of_add]; exact hn
  rw [e _ _ _ _ hb, e _ _ _ _ hb, e _ _ _ _ hb]
  exact hc i' hi j' u' hu
theorem VecIn.two {w : World} {A : Option Addr} {l : List Nm} (h : VecIn w A l) (X Y : Obj) : VecIn ((w.alloc X).alloc Y) A l :=
  (h.past ((Below.refl _ _).alloc (Nat.le_refl _) X)).past ((Below.refl _ _).alloc (Nat.le_refl _) Y)
theorem below_two {w0 w : World} (h : Below w0.heap.size w0 w) (X Y : Obj) : Below w0.heap.size w0 ((w.alloc X).alloc Y) :=
  (h.alloc h.size X).alloc (by have := h.size; simp; omega) Y
theorem below_set3 {B g : Nat} {w0 w : World} (h : Below B w0 w) (hg : B ≤ g) (i j k : Nat) (u v t : Value) : Below B w0 (((w.setCell ⟨g, i, none⟩ u).setCell ⟨g, j, none⟩ v).setCell ⟨g, k, none⟩ t) :=
  ((h.setCell (p := ⟨g, i, none⟩) hg _).setCell (p := ⟨g, j, none⟩) hg _).setCell (p := ⟨g, k, none⟩) hg _
theorem top_set {w : World} {g : Nat} {ty : TypeId} {l : List Nm} (h : Blk w g ty (flat l).toArray) (k : Nat) (hk : k < l.length) (x : Nm) : Blk (((w.setCell ⟨g, k * 3, none⟩ (.int .i64 x.t)).setCell ⟨g, k * 3 + 1, none⟩ (.int .i64 x.s)).setCell ⟨g, k * 3 + 2, none⟩ (.int .i64 x.r)) g ty (flat (l.set k x)).toArray := by
  have := ((h.set_ (k * 3) (.int .i64 x.t)).set_ (k * 3 + 1) (.int .i64 x.s)).set_ (k * 3 + 2) (.int .i64 x.r)
  have e := flat_set l [] k hk x
  simp only [List.append_nil] at e
  rw [e] at this
  exact this
/-- The least of the first p, of none the first. -/
def mm (L : List Nm) (p : Nat) : Nm := acc L (if p = 0 then 1 else p)
theorem mm_zero {L : List Nm} (h : 0 < L.length) : mm L 0 = L[0] := by
  unfold mm
  rw [if_pos rfl, acc_one, at_eq h]
theorem acc_r {L : List Nm} (h : Vn 3 L) (p : Nat) (h1 : 1 ≤ p) (hp : p ≤ L.length) : (acc L p).r < p := by
  induction p with
  | zero => omega
  | succ p ih =>
    by_cases h0 : p = 0
    · subst h0
      rw [acc_one, at_eq (by omega), h.rep (by omega)]
      decide
    · have := ih (by omega) (by omega)
      rw [acc_step (by omega) (by omega)]
      unfold earlier
      split
      · rw [h.rep (by omega)]; omega
      · omega
theorem earlier_by {z y : Nm} (h : z.r < y.r) : earlier z y = if y.t < z.t ∨ y.t = z.t ∧ y.s < z.s then y else z := by
  unfold earlier
  have : y.cmp z < 0 ↔ (y.t < z.t ∨ y.t = z.t ∧ y.s < z.s) := by
    unfold Nm.cmp cmpC cmp1
    constructor
    · intro h9
      split at h9 <;> split at h9 <;> (try split at h9) <;> (try split at h9) <;> omega
    · intro h9
      split <;> split <;> (try split) <;> (try split) <;> omega
  by_cases h9 : y.cmp z < 0
  · rw [if_pos h9, if_pos (this.1 h9)]
  · rw [if_neg h9, if_neg (fun h8 => h9 (this.2 h8))]
theorem mm_step {L : List Nm} (h : Vn 3 L) {p : Nat} (hp : p < L.length) : mm L (p + 1) = if L[p].t < (mm L p).t ∨ L[p].t = (mm L p).t ∧ L[p].s < (mm L p).s then L[p] else mm L p := by
  by_cases h0 : p = 0
  · subst h0
    rw [mm_zero hp]
    unfold mm
    rw [if_neg (by decide), acc_one, at_eq hp, if_neg (by omega)]
  · have e : mm L p = acc L p := by unfold mm; rw [if_neg h0]
    have e2 : mm L (p + 1) = acc L (p + 1) := by unfold mm; rw [if_neg (by omega)]
    rw [e, e2, acc_step (by omega) hp, earlier_by (by rw [h.rep hp]; exact acc_r h p (by omega) (by omega))]
theorem mm_all {L : List Nm} (h : Vn 3 L) : mm L 3 = least L := by
  have e := cnt_of h.1
  have := acc_all (v := L) (by rw [e, h.2]; decide)
  rw [e, h.2] at this
  unfold mm
  rw [if_neg (by decide), this]
theorem r_cov {p : Bool} (A : Option Addr) (c : Nat) (la : List Nm) (ct cs cr : Int) (h : p = covers la ⟨ct, cs, cr⟩) (w : World) (hA : VecIn w A la) : Calls Try.prog 20 #[.slice A la.length c, cv ct cs cr] w fun e w' => e = .returned (.bool p) ∧ Below w.heap.size w w' := by
  have := Covers_any A c la ct cs cr w hA
  rw [← h] at this
  exact this
theorem r_least {m : Nm} (A : Option Addr) (c : Nat) (la : List Nm) (hc : la.length ≤ c) (h : m = least la) (w : World) (hA : VecIn w A la) : Calls Try.prog 22 #[.slice A la.length c] w fun e w' => e = .returned m.v ∧ Below w.heap.size w w' := by
  have := Least_any A c la w hA hc
  rw [← h] at this
  exact this
theorem cov_k {L : List Nm} (h : Vn 3 L) {t s : Int} {k : Nat} (hk : k < L.length) : covers L ⟨t, s, k⟩ = decide (t < L[k].t ∨ t = L[k].t ∧ s ≤ L[k].s) := by
  have e := cnt_of h.1
  have hk' : k < (cnt L).length := by rw [e]; exact hk
  rw [covers_at hk']
  have e2 : (cnt L)[k] = L[k] := by simp only [e]
  rw [e2]
  have hr := h.rep hk
  have : (Nm.mk t s k).cmp L[k] ≤ 0 ↔ (t < L[k].t ∨ t = L[k].t ∧ s ≤ L[k].s) := by
    show cmpC t s (k : Int) L[k].t L[k].s L[k].r ≤ 0 ↔ _
    unfold cmpC cmp1
    rw [hr]
    constructor
    · intro h9
      split at h9 <;> split at h9 <;> (try split at h9) <;> (try split at h9) <;> omega
    · intro h9
      split <;> split <;> (try split) <;> (try split) <;> omega
  exact decide_eq_decide.2 this
theorem raise_len {L : List Nm} {n : Nat} (h : Vn n L) (x : Nm) : (raise L x).length = n := (raise_vn h x).2
set_option maxHeartbeats 4000000 in
theorem walk_VectorRaises (w : World) (A : Option Addr) (ca : Nat) (l : List Nm) (hA : VecIn w A l) (hca : l.length ≤ ca) (ct cs cr : Int) :
    Calls Try.prog 5 #[.slice A l.length ca, cv ct cs cr] w fun r w' => r = .returned (.bool true) ∧ Below w.heap.size w w' := by
  have HK := Lib.hid known_any
  have HN := Lib.hid f_new3
  have BX := Blk.new w 25 (gc ct cs cr)
  have hb0 := (Below.refl w.heap.size w).alloc (Nat.le_refl _) (.cells (gc ct cs cr) 25)
  have HA := Lib.hid (hA.past ((Below.refl _ _).alloc (Nat.le_refl _) (.cells (gc ct cs cr) 25)))
  clear hA hca
  by_cases hla : (30 : Int) < l.length
  · go_enter Try.func5, Try.ntmps5
    go_wp2_with fail
    refine (HK.out _).mono ?_
    rintro e w1 ⟨rfl, hb1⟩
    have Hb := Lib.hid (hb0.trans (hb1.mono hb0.size))
    clear hb1 hb0 HA BX
    go_wp2_with fail
    go_ret
    exact ⟨rfl, Hb.out⟩
  have hla2 : (l.length : Int) ≤ 30 := by omega
  clear hla
  go_enter Try.func5, Try.ntmps5
  go_wp2_with fail
  refine (HK.out _).mono ?_
  rintro e w1 ⟨rfl, hb1⟩
  have HA1 := Lib.hid (HA.out.past hb1)
  have BX1 := Lib.hid (BX.past hb1)
  have Hb1 := Lib.hid (hb0.trans (hb1.mono hb0.size))
  have Hs1 := Lib.hid (show w.heap.size < w1.heap.size by have := hb1.size; simp at this; omega)
  clear hb1 hb0 HA BX HK
  go_wp2_with fail
  refine (HN.out _).mono ?_
  rintro e w2 ⟨V, vc, rfl, hV, hb, hvc⟩
  have Hvc := Lib.hid hvc
  have HA2 := Lib.hid (HA1.out.past hb)
  have BX2 := Lib.hid (BX1.out.past hb)
  have HV2 := Lib.hid hV
  have Hb2 := Lib.hid (Hb1.out.trans (hb.mono Hb1.out.size))
  have Hs2 := Lib.hid (Nat.lt_of_lt_of_le Hs1.out hb.size)
  clear hb HA1 BX1 hV Hb1 Hs1 HN hvc
  go_wp2_with fail
  obtain ⟨gT, hgT⟩ : ∃ gT, gT = w2.heap.size := ⟨_, rfl⟩
  have BT := Blk.new w2 37 (flat (begun 3 0)).toArray
  have hbT := (Below.refl w2.heap.size w2).alloc (Nat.le_refl _) (.cells (flat (begun 3 0)).toArray 37)
  rw [← hgT] at BT
  rw [← hgT]
  have HgT := Lib.hid hgT
  clear hgT
  go_loopw [7] (fun i wr => ∃ (q : Nat), q ≤ 3 ∧ i = .int .i64 (q : Int) ∧ Hid (Blk wr gT 37 (flat (begun 3 q)).toArray) ∧ Hid (Below w2.heap.size w2 wr)) (fun i wr => 3 - (intOf i).toNat)
  case atStart => exact ⟨0, by omega, rfl, BT, hbT⟩
  case round =>
    clear BT hbT
    obtain ⟨q, hq, rfl, hB, hb⟩ := hrel
    by_cases hlt : q < 3
    · have hlt2 : (q : Int) < 3 := by omega
      have B := hB.out
      obtain ⟨u, hu⟩ : ∃ u : Value, (flat (begun 3 q))[q * 3 + 2]? = some u := ⟨_, (flat_at (begun 3 q) q (by rw [begun_len]; exact hlt)).2.2⟩
      have c2 : wr.cell? ⟨gT, q * 3 + 2, none⟩ = some u := by rw [B.cell]; simpa using hu
      have f2 := B.frozen (q * 3 + 2)
      have HB := Lib.hid (begun_step 3 q (by decide) hlt ▸ B.set_ (q * 3 + 2) (.int .i64 (q : Int)))
      have Hb := Lib.hid (hb.out.setCell (p := ⟨gT, q * 3 + 2, none⟩) (by show w2.heap.size ≤ gT; have := HgT.out; omega) (.int .i64 (q : Int)))
      clear hu B hB hb
      go_wp2_with fail
      go_roundw
      case rel => exact ⟨q + 1, by omega, by go_num, HB, Hb⟩
      case measure => simp [intOf]; omega
    have hge : (3 : Int) ≤ q := by omega
    rw [show q = 3 by omega, begun_all' 3 3 (by decide)] at hB
    generalize q = q0 at *
    have HL0 := Lib.hid (show Vn 3 (newV 3) from ⟨by kernel_rfl, by kernel_rfl⟩)
    clear hlt
    have HV3 := Lib.hid (HV2.out.past hb.out)
    have HF0 := Lib.hid (show ∀ ad, V = some ad → ad.block ≠ gT from fun ad h => by
      obtain ⟨ad', e', h', -⟩ := HV2.out (by decide)
      rw [h] at e'
      injection e' with e'
      subst e'
      have := HgT.out
      omega)
    have HRA := Lib.hid Raise_any
    go_wp2_with fail
    go_loopw [5, 8] (fun v i wr => ∃ (q : Nat) (L : List Nm) (VV : Option Addr) (vv : Nat), q ≤ l.length ∧ i = .int .i64 (q : Int) ∧ v = .slice VV L.length vv ∧ Hid (Vn 3 L) ∧ Hid (VecIn wr VV L) ∧ Hid (∀ ad, VV = some ad → ad.block ≠ gT) ∧ Hid (Blk wr gT 37 (flat L).toArray) ∧ Hid (Below w2.heap.size w2 wr) ∧ Hid (L.length ≤ vv)) (fun v i wr => l.length - (intOf i).toNat)
    case atStart => exact ⟨0, newV 3, V, vc, by omega, rfl, rfl, HL0, HV3, HF0, hB, hb, Hvc⟩
    case round =>
      clear HL0 HV3 HF0 hB hb Hvc HV2
      obtain ⟨q, L, VV, vv, hq, rfl, rfl, HL, HV, HF, HB, Hb, Hvv⟩ := hrel
      by_cases hlt : q < l.length
      · have hlt2 : (q : Int) < l.length := by omega
        obtain ⟨ad, rfl, hp, f0, f1, f2⟩ := (HA2.out.past Hb.out).cells hlt
        obtain ⟨x, hx⟩ : ∃ x, Hid (x = l[q]) := ⟨l[q], rfl⟩
        rw [← hx.out] at f0 f1 f2
        have HFF := Lib.hid (show ∀ w', Below wr.heap.size wr w' → w'.cell? (ad.add (q * 3)) = some (.int .i64 x.t) ∧ w'.cell? ⟨(ad.add (q * 3)).block, (ad.add (q * 3)).off + 1, none⟩ = some (.int .i64 x.s) ∧ w'.cell? ⟨(ad.add (q * 3)).block, (ad.add (q * 3)).off + 2, none⟩ = some (.int .i64 x.r) from fun w' h =>
          ⟨(h.cell (by rw [block_of_add]; exact hp)).trans f0, (h.cell (p := ⟨(ad.add (q * 3)).block, _, none⟩) (by show (ad.add (q * 3)).block < _; rw [block_of_add]; exact hp)).trans f1, (h.cell (p := ⟨(ad.add (q * 3)).block, _, none⟩) (by show (ad.add (q * 3)).block < _; rw [block_of_add]; exact hp)).trans f2⟩)
        obtain ⟨RL, hRL⟩ : ∃ RL, Hid (RL = raise L x) := ⟨_, rfl⟩
        have CR := HRA.out VV vv L x.t x.s x.r
        rw [show raise L ⟨x.t, x.s, x.r⟩ = RL from hRL.out.symm] at CR
        have HCR := Lib.hid CR
        clear CR
        go_wp2_with fail
        refine (HCR.out _ HV.out).mono ?_
        rintro e w4 ⟨V4, v4, rfl, hV4, hb4, hc4, hf4⟩
        obtain ⟨g0, g1, g2⟩ := HFF.out _ hb4
        have HB4 := Lib.hid (HB.out.past hb4)
        have Hb4 := Lib.hid (Hb.out.trans (hb4.mono Hb.out.size))
        have hgl := HB.out.lt
        have HF4 := Lib.hid (show ∀ ad, V4 = some ad → ad.block ≠ gT from fun ad h => by have := hf4 ad h; omega)
        have HV4 := Lib.hid hV4
        have HC4 := Lib.hid hc4
        clear f0 f1 f2 HFF HB Hb hV4 hc4 hf4 hb4 HV HF Hvv HCR
        have HRL := Lib.hid (show Vn 3 RL by rw [hRL.out]; exact raise_vn HL.out x)
        have hal := (Below.refl w4.heap.size w4).alloc (Nat.le_refl _) (.cells (gc x.t x.s x.r) 25)
        have HB5 := Lib.hid (HB4.out.past hal)
        have Hb5 := Lib.hid (Hb4.out.trans (hal.mono Hb4.out.size))
        have HV5 := Lib.hid (HV4.out.past hal)
        have BXX := Blk.new w4 25 (gc x.t x.s x.r)
        have hbad : (x.t < 0) ∨ (0 ≤ x.t ∧ 1099511627776 < x.t) ∨ (0 ≤ x.t ∧ x.t ≤ 1099511627776 ∧ x.s < 0) ∨ (0 ≤ x.t ∧ x.t ≤ 1099511627776 ∧ 0 ≤ x.s ∧ 65535 < x.s) ∨ (0 ≤ x.t ∧ x.t ≤ 1099511627776 ∧ 0 ≤ x.s ∧ x.s ≤ 65535 ∧ x.r < 0) ∨ (0 ≤ x.t ∧ x.t ≤ 1099511627776 ∧ 0 ≤ x.s ∧ x.s ≤ 65535 ∧ 0 ≤ x.r ∧ 2 < x.r) ∨ (0 ≤ x.t ∧ x.t ≤ 1099511627776 ∧ 0 ≤ x.s ∧ x.s ≤ 65535 ∧ 0 ≤ x.r ∧ x.r ≤ 2) := by omega
        have hq30 : (q : Int) < 30 := by omega
        clear hal
        rcases hbad with b1 | ⟨b1, b2⟩ | ⟨b1, b2, b3⟩ | ⟨b1, b2, b3, b4⟩ | ⟨b1, b2, b3, b4, b5⟩ | ⟨b1, b2, b3, b4, b5, b6⟩ | ⟨b1, b2, b3, b4, b5, b6⟩
        rotate_right
        focus
          have hgl4 : gT < w4.heap.size := by have := HB4.out.lt; exact this
          have Hge := Lib.hid (show w2.heap.size ≤ gT by have := HgT.out; omega)
          clear HV5 Hb5 HB5 BXX
          obtain ⟨k, hk⟩ : ∃ k : Nat, x.r = k := ⟨x.r.toNat, by omega⟩
          have hk3 : k < L.length := by rw [HL.out.2]; omega
          have hk4 : (k : Int) < 3 := by omega
          have hk5 : k < 3 := by omega
          obtain ⟨y, hy⟩ : ∃ y, Hid (y = L[k]) := ⟨L[k], rfl⟩
          have hr := hRL.out.trans (raise_k HL.out (x := x) k hk hk3 ⟨b1, b2, b3, b4⟩)
          rw [← hy.out] at hr
          have hset : L.set k y = L := by rw [hy.out]; exact List.set_getElem_self hk3
          obtain ⟨c0, c1, c2⟩ := flat_at L k hk3
          rw [← hy.out] at c0 c1 c2
          have c0 : w4.cell? ⟨gT, k * 3, none⟩ = some (.int .i64 y.t) := by rw [HB4.out.cell]; simpa using c0
          have c1 : w4.cell? ⟨gT, k * 3 + 1, none⟩ = some (.int .i64 y.s) := by rw [HB4.out.cell]; simpa using c1
          have c2 : w4.cell? ⟨gT, k * 3 + 2, none⟩ = some (.int .i64 y.r) := by rw [HB4.out.cell]; simpa using c2
          have z0 : w4.frozen? ⟨gT, k * 3, none⟩ = false := HB4.out.frozen _
          have z1 : w4.frozen? ⟨gT, k * 3 + 1, none⟩ = false := HB4.out.frozen _
          have z2 : w4.frozen? ⟨gT, k * 3 + 2, none⟩ = false := HB4.out.frozen _
          have hS := top_set HB4.out k hk3 x
          rw [hk] at hS
          have hcs : (y.t < x.t ∧ ¬ le x y) ∨ (x.t < y.t ∧ le x y) ∨ (y.t = x.t ∧ y.s < x.s ∧ ¬ le x y) ∨ (y.t = x.t ∧ x.s ≤ y.s ∧ le x y) := by unfold le; omega
          have HS := Lib.hid hS
          clear hS
          rcases hcs with ⟨hc, hle⟩ | ⟨hc, hle⟩ | ⟨hc, hc2, hle⟩ | ⟨hc, hc2, hle⟩
          focus
            rw [if_neg hle] at hr
            have Hr := Lib.hid hr
            clear hr hle hset
            go_wp2_with fail
            refine ⟨⟨q + 1, RL, V4, v4, ?_, ?_, rfl, HRL, ?_, HF4, ?_, ?_, HC4⟩, ?_⟩
            · omega
            · go_num
            · exact (HV4.out.set3 HF4.out _ _ _ _ _ _).two _ _
            · show Blk _ _ _ _
              rw [Hr.out]
              exact (HS.out.alloc _).alloc _
            · show Below _ _ _
              exact below_two (below_set3 Hb4.out Hge.out _ _ _ _ _ _) _ _
            · simp [intOf]; omega
          focus
            rw [if_pos hle, hset] at hr
            have Hr := Lib.hid hr
            clear hr hle hset
            go_wp2_with fail
            refine ⟨⟨q + 1, RL, V4, v4, ?_, ?_, rfl, HRL, ?_, HF4, ?_, ?_, HC4⟩, ?_⟩
            · omega
            · go_num
            · exact HV4.out.two _ _
            · show Blk _ _ _ _
              rw [Hr.out]
              exact (HB4.out.alloc _).alloc _
            · show Below _ _ _
              exact below_two Hb4.out _ _
            · simp [intOf]; omega
          focus
            rw [if_neg hle] at hr
            have Hr := Lib.hid hr
            clear hr hle hset
            go_wp2_with fail
            refine ⟨⟨q + 1, RL, V4, v4, ?_, ?_, rfl, HRL, ?_, HF4, ?_, ?_, HC4⟩, ?_⟩
            · omega
            · go_num
            · exact (HV4.out.set3 HF4.out _ _ _ _ _ _).two _ _
            · show Blk _ _ _ _
              rw [Hr.out]
              exact (HS.out.alloc _).alloc _
            · show Below _ _ _
              exact below_two (below_set3 Hb4.out Hge.out _ _ _ _ _ _) _ _
            · simp [intOf]; omega
          focus
            rw [if_pos hle, hset] at hr
            have Hr := Lib.hid hr
            clear hr hle hset
            go_wp2_with fail
            refine ⟨⟨q + 1, RL, V4, v4, ?_, ?_, rfl, HRL, ?_, HF4, ?_, ?_, HC4⟩, ?_⟩
            · omega
            · go_num
            · exact HV4.out.two _ _
            · show Blk _ _ _ _
              rw [Hr.out]
              exact (HB4.out.alloc _).alloc _
            · show Below _ _ _
              exact below_two Hb4.out _ _
            · simp [intOf]; omega
        all_goals
          clear HV4 HB4 Hb4
          have HE := Lib.hid (show RL = L from hRL.out.trans (raise_bad HL.out (x := x) (by omega)))
          go_wp2_with fail
          go_roundw
          case rel => exact ⟨q + 1, RL, V4, v4, by omega, by go_num, rfl, HRL, HV5, HF4, by show Blk _ _ _ _; rw [HE.out]; exact HB5.out, Hb5, HC4⟩
          case measure => simp [intOf]; omega
      · have HLn := Lib.hid HL.out.2
        have hL3 : ((L.length : Int) != 3) = false := by have := HLn.out; simp [this]
        have h30 : 0 < L.length := by rw [HLn.out]; decide
        have hql : (l.length : Int) ≤ q := by omega
        obtain ⟨a0, ha0⟩ : ∃ a0, Hid (a0 = L[0]) := ⟨L[0], rfl⟩
        obtain ⟨c0, c1, c2⟩ := flat_at L 0 h30
        rw [← ha0.out] at c0 c1 c2
        have c0 : wr.cell? ⟨gT, 0, none⟩ = some (.int .i64 a0.t) := by rw [HB.out.cell]; simpa using c0
        have c1 : wr.cell? ⟨gT, 1, none⟩ = some (.int .i64 a0.s) := by rw [HB.out.cell]; simpa using c1
        have c2 : wr.cell? ⟨gT, 2, none⟩ = some (.int .i64 a0.r) := by rw [HB.out.cell]; simpa using c2
        obtain ⟨gL, hgL⟩ : ∃ gL, gL = wr.heap.size := ⟨_, rfl⟩
        have hal := (Below.refl wr.heap.size wr).alloc (Nat.le_refl _) (.cells (gc a0.t a0.s a0.r) 25)
        have BL := Blk.new wr 25 (gc a0.t a0.s a0.r)
        rw [← hgL] at BL
        have HgL := Lib.hid hgL
        have hm0 : mm L 0 = a0 := by rw [ha0.out]; exact mm_zero h30
        have Hm0 := Lib.hid hm0
        clear hm0
        go_wp2_with fail
        rw [← hgL]
        clear hgL c0 c1 c2
        go_loopw [12] (fun i wx => ∃ (p : Nat), p ≤ 3 ∧ i = .int .i64 (p : Int) ∧ Hid (Blk wx gL 25 (gc (mm L p).t (mm L p).s (mm L p).r)) ∧ Hid (Below wr.heap.size wr wx)) (fun i wx => 3 - (intOf i).toNat)
        case atStart => exact ⟨0, by omega, rfl, by show Blk _ _ _ _; rw [Hm0.out]; exact BL, hal⟩
        case round =>
          obtain ⟨p, hp3, rfl, hBm, hbm⟩ := hrel
          by_cases hpt : p < 3
          · have hpt2 : (p : Int) < 3 := by omega
            have hpl : p < L.length := by rw [HLn.out]; exact hpt
            have hpl2 : (p : Int) < L.length := by omega
            obtain ⟨vd, rfl, hvd, v0, v1, v2⟩ := (HV.out.past hbm.out).cells hpl
            have BT := HB.out.past hbm.out
            obtain ⟨t0, t1, t2⟩ := flat_at L p hpl
            obtain ⟨y, hy⟩ : ∃ y, Hid (y = L[p]) := ⟨L[p], rfl⟩
            have hst := mm_step HL.out hpl
            rw [← hy.out] at v0 v1 v2 t0 t1 t2 hst
            have t0 : wr.cell? ⟨gT, p * 3, none⟩ = some (.int .i64 y.t) := by rw [BT.cell]; simpa using t0
            have t1 : wr.cell? ⟨gT, p * 3 + 1, none⟩ = some (.int .i64 y.s) := by rw [BT.cell]; simpa using t1
            have t2 : wr.cell? ⟨gT, p * 3 + 2, none⟩ = some (.int .i64 y.r) := by rw [BT.cell]; simpa using t2
            obtain ⟨z, hz⟩ : ∃ z, Hid (z = mm L p) := ⟨_, rfl⟩
            have BZ := hBm.out
            rw [← hz.out] at BZ hst
            obtain ⟨z0, z1, z2, y0, y1, y2⟩ := box3 BZ
            have HbM := Lib.hid hbm.out
            have hcs : (y.t < z.t ∧ (y.t < z.t ∨ y.t = z.t ∧ y.s < z.s)) ∨ (z.t < y.t ∧ ¬ (y.t < z.t ∨ y.t = z.t ∧ y.s < z.s)) ∨ (z.t = y.t ∧ y.s < z.s ∧ (y.t < z.t ∨ y.t = z.t ∧ y.s < z.s)) ∨ (z.t = y.t ∧ z.s ≤ y.s ∧ ¬ (y.t < z.t ∨ y.t = z.t ∧ y.s < z.s)) := by omega
            clear BT hBm hbm
            go_wp2_with fail
            go_region
            go_wp2_with fail
            rcases hcs with ⟨g1, hC⟩ | ⟨g1, hC⟩ | ⟨g1, g2, hC⟩ | ⟨g1, g2, hC⟩
            focus
              have HN := Lib.hid (hst.trans (if_pos hC))
              clear hst hC
              go_wp2_with fail
              refine wp_region_noPanic ?_
              refine wp_region_held_drew (S := fun w' => (w'.cell? ⟨gT, p * 3, none⟩ = some (.int .i64 y.t) ∧ w'.cell? ⟨gT, p * 3 + 1, none⟩ = some (.int .i64 y.s)) ∧ Blk w' gL 25 (gc z.t z.s z.r)) (by kernel_rfl) ⟨⟨t0, t1⟩, BZ.drew.drew⟩ (fun hHeld => ?_)
              refine Rg.idleP [0] [(116, .int .i64 (p : Int))] 24 (by kernel_rfl) (fun _ _ _ _ _ h => h) (by kernel_rfl) (by kernel_rfl) hHeld ?_
              refine Rg.frame _ (by simp only [Rg.puts, Rg.pu, List.set]; rfl) ?_
              refine Rg.tk 1 117 (.pointer (some ⟨gT, p * 3, none⟩)) rfl (by kernel_rfl) (fun _ _ _ h => h) (fun _ _ => run_idxA rfl rfl rfl hpt) hHeld ?_
              refine Rg.tk 2 118 (.pointer (some ⟨gT, p * 3, none⟩)) rfl (by kernel_rfl) (fun _ _ _ h => h) (fun _ _ => by kernel_rfl) hHeld ?_
              refine Rg.tk 3 119 (.int .i64 y.t) rfl (by kernel_rfl) (fun _ _ _ h => h) (fun w' h => run_cell rfl rfl (by kernel_rfl) h.1.1) hHeld ?_
              refine Rg.frame _ (by simp only [Rg.pu, List.set]; rfl) ?_
              refine Rg.tk 4 120 (.pointer (some ⟨gL, 0, none⟩)) rfl (by kernel_rfl) (fun _ _ _ h => h) (fun _ _ => by kernel_rfl) hHeld ?_
              refine Rg.tk 5 121 (.int .i64 z.t) rfl (by kernel_rfl) (fun _ _ _ h => h) (fun w' h => run_cell rfl rfl (by kernel_rfl) (h.2.cell 0)) hHeld ?_
              refine Rg.tk 6 122 (.bool true) rfl (by kernel_rfl) (fun _ _ _ h => h) (fun _ _ => run_lss_t rfl rfl rfl (by omega)) hHeld ?_
              refine Rg.frame _ (by simp only [Rg.pu, List.set]; rfl) ?_
              refine Rg.idleP [7, 8, 9, 10, 11, 12, 13, 14, 15, 16, 17, 18, 19, 20, 21, 22, 23, 24] [(123, .bool true), (124, undef), (125, undef), (126, undef), (127, undef), (128, undef), (129, undef), (130, undef), (131, undef), (132, undef), (133, undef), (134, undef), (135, undef), (136, undef), (137, undef), (138, undef), (139, undef), (140, .bool true)] 0 (by kernel_rfl) (fun _ _ _ _ _ h => h) (by kernel_rfl) (by kernel_rfl) hHeld ?_
              refine Rg.frame _ (by simp only [Rg.puts, Rg.pu, List.set]; rfl) ?_
              refine wpAnyH_done (by kernel_rfl) ?_ _
              refine NoPanic.normal ?_
              clear g1
              go_wp2_with fail
              refine ⟨⟨p + 1, by omega, by go_num, ?_, ?_⟩, by simp [intOf]; omega⟩
              · show Blk _ _ _ _
                rw [HN.out]
                exact (BZ.drew.drew.set3 _ _ _)
              · show Below _ _ _
                exact below3 HbM.out.drew.drew (by have := HgL.out; omega) _ _ _
            focus
              have HN := Lib.hid (hst.trans (if_neg hC))
              clear hst hC
              go_wp2_with fail
              refine wp_region_noPanic ?_
              refine wp_region_held_drew (S := fun w' => (w'.cell? ⟨gT, p * 3, none⟩ = some (.int .i64 y.t) ∧ w'.cell? ⟨gT, p * 3 + 1, none⟩ = some (.int .i64 y.s)) ∧ Blk w' gL 25 (gc z.t z.s z.r)) (by kernel_rfl) ⟨⟨t0, t1⟩, BZ.drew.drew⟩ (fun hHeld => ?_)
              refine Rg.idleP [0] [(116, .int .i64 (p : Int))] 24 (by kernel_rfl) (fun _ _ _ _ _ h => h) (by kernel_rfl) (by kernel_rfl) hHeld ?_
              refine Rg.frame _ (by simp only [Rg.puts, Rg.pu, List.set]; rfl) ?_
              refine Rg.tk 1 117 (.pointer (some ⟨gT, p * 3, none⟩)) rfl (by kernel_rfl) (fun _ _ _ h => h) (fun _ _ => run_idxA rfl rfl rfl hpt) hHeld ?_
              refine Rg.tk 2 118 (.pointer (some ⟨gT, p * 3, none⟩)) rfl (by kernel_rfl) (fun _ _ _ h => h) (fun _ _ => by kernel_rfl) hHeld ?_
              refine Rg.tk 3 119 (.int .i64 y.t) rfl (by kernel_rfl) (fun _ _ _ h => h) (fun w' h => run_cell rfl rfl (by kernel_rfl) h.1.1) hHeld ?_
              refine Rg.frame _ (by simp only [Rg.pu, List.set]; rfl) ?_
              refine Rg.tk 4 120 (.pointer (some ⟨gL, 0, none⟩)) rfl (by kernel_rfl) (fun _ _ _ h => h) (fun _ _ => by kernel_rfl) hHeld ?_
              refine Rg.tk 5 121 (.int .i64 z.t) rfl (by kernel_rfl) (fun _ _ _ h => h) (fun w' h => run_cell rfl rfl (by kernel_rfl) (h.2.cell 0)) hHeld ?_
              refine Rg.tk 6 122 (.bool false) rfl (by kernel_rfl) (fun _ _ _ h => h) (fun _ _ => run_lss_f rfl rfl rfl (by omega)) hHeld ?_
              refine Rg.frame _ (by simp only [Rg.pu, List.set]; rfl) ?_
              refine Rg.idleP [7, 8] [(123, .bool false), (124, .int .i64 (p : Int))] 16 (by kernel_rfl) (fun _ _ _ _ _ h => h) (by kernel_rfl) (by kernel_rfl) hHeld ?_
              refine Rg.frame _ (by simp only [Rg.puts, Rg.pu, List.set]; rfl) ?_
              refine Rg.tk 9 125 (.pointer (some ⟨gT, p * 3, none⟩)) rfl (by kernel_rfl) (fun _ _ _ h => h) (fun _ _ => run_idxA rfl rfl rfl hpt) hHeld ?_
              refine Rg.tk 10 126 (.pointer (some ⟨gT, p * 3, none⟩)) rfl (by kernel_rfl) (fun _ _ _ h => h) (fun _ _ => by kernel_rfl) hHeld ?_
              refine Rg.tk 11 127 (.int .i64 y.t) rfl (by kernel_rfl) (fun _ _ _ h => h) (fun w' h => run_cell rfl rfl (by kernel_rfl) h.1.1) hHeld ?_
              refine Rg.frame _ (by simp only [Rg.pu, List.set]; rfl) ?_
              refine Rg.tk 12 128 (.pointer (some ⟨gL, 0, none⟩)) rfl (by kernel_rfl) (fun _ _ _ h => h) (fun _ _ => by kernel_rfl) hHeld ?_
              refine Rg.tk 13 129 (.int .i64 z.t) rfl (by kernel_rfl) (fun _ _ _ h => h) (fun w' h => run_cell rfl rfl (by kernel_rfl) (h.2.cell 0)) hHeld ?_
              refine Rg.tk 14 130 (.bool false) rfl (by kernel_rfl) (fun _ _ _ h => h) (fun _ _ => run_eqi_f rfl rfl rfl (by omega)) hHeld ?_
              refine Rg.frame _ (by simp only [Rg.pu, List.set]; rfl) ?_
              refine Rg.idleP [15, 16, 17, 18, 19, 20, 21, 22, 23, 24] [(131, .bool false), (132, undef), (133, undef), (134, undef), (135, undef), (136, undef), (137, undef), (138, undef), (139, .bool false), (140, .bool false)] 0 (by kernel_rfl) (fun _ _ _ _ _ h => h) (by kernel_rfl) (by kernel_rfl) hHeld ?_
              refine Rg.frame _ (by simp only [Rg.puts, Rg.pu, List.set]; rfl) ?_
              refine wpAnyH_done (by kernel_rfl) ?_ _
              refine NoPanic.normal ?_
              clear g1
              go_wp2_with fail
              refine ⟨⟨p + 1, by omega, by go_num, ?_, ?_⟩, by simp [intOf]; omega⟩
              · show Blk _ _ _ _
                rw [HN.out]
                exact BZ.drew.drew
              · show Below _ _ _
                exact HbM.out.drew.drew
            focus
              have HN := Lib.hid (hst.trans (if_pos hC))
              clear hst hC
              go_wp2_with fail
              refine wp_region_noPanic ?_
              refine wp_region_held_drew (S := fun w' => (w'.cell? ⟨gT, p * 3, none⟩ = some (.int .i64 y.t) ∧ w'.cell? ⟨gT, p * 3 + 1, none⟩ = some (.int .i64 y.s)) ∧ Blk w' gL 25 (gc z.t z.s z.r)) (by kernel_rfl) ⟨⟨t0, t1⟩, BZ.drew.drew⟩ (fun hHeld => ?_)
              refine Rg.idleP [0] [(116, .int .i64 (p : Int))] 24 (by kernel_rfl) (fun _ _ _ _ _ h => h) (by kernel_rfl) (by kernel_rfl) hHeld ?_
              refine Rg.frame _ (by simp only [Rg.puts, Rg.pu, List.set]; rfl) ?_
              refine Rg.tk 1 117 (.pointer (some ⟨gT, p * 3, none⟩)) rfl (by kernel_rfl) (fun _ _ _ h => h) (fun _ _ => run_idxA rfl rfl rfl hpt) hHeld ?_
              refine Rg.tk 2 118 (.pointer (some ⟨gT, p * 3, none⟩)) rfl (by kernel_rfl) (fun _ _ _ h => h) (fun _ _ => by kernel_rfl) hHeld ?_
              refine Rg.tk 3 119 (.int .i64 y.t) rfl (by kernel_rfl) (fun _ _ _ h => h) (fun w' h => run_cell rfl rfl (by kernel_rfl) h.1.1) hHeld ?_
              refine Rg.frame _ (by simp only [Rg.pu, List.set]; rfl) ?_
              refine Rg.tk 4 120 (.pointer (some ⟨gL, 0, none⟩)) rfl (by kernel_rfl) (fun _ _ _ h => h) (fun _ _ => by kernel_rfl) hHeld ?_
              refine Rg.tk 5 121 (.int .i64 z.t) rfl (by kernel_rfl) (fun _ _ _ h => h) (fun w' h => run_cell rfl rfl (by kernel_rfl) (h.2.cell 0)) hHeld ?_
              refine Rg.tk 6 122 (.bool false) rfl (by kernel_rfl) (fun _ _ _ h => h) (fun _ _ => run_lss_f rfl rfl rfl (by omega)) hHeld ?_
              refine Rg.frame _ (by simp only [Rg.pu, List.set]; rfl) ?_
              refine Rg.idleP [7, 8] [(123, .bool false), (124, .int .i64 (p : Int))] 16 (by kernel_rfl) (fun _ _ _ _ _ h => h) (by kernel_rfl) (by kernel_rfl) hHeld ?_
              refine Rg.frame _ (by simp only [Rg.puts, Rg.pu, List.set]; rfl) ?_
              refine Rg.tk 9 125 (.pointer (some ⟨gT, p * 3, none⟩)) rfl (by kernel_rfl) (fun _ _ _ h => h) (fun _ _ => run_idxA rfl rfl rfl hpt) hHeld ?_
              refine Rg.tk 10 126 (.pointer (some ⟨gT, p * 3, none⟩)) rfl (by kernel_rfl) (fun _ _ _ h => h) (fun _ _ => by kernel_rfl) hHeld ?_
              refine Rg.tk 11 127 (.int .i64 y.t) rfl (by kernel_rfl) (fun _ _ _ h => h) (fun w' h => run_cell rfl rfl (by kernel_rfl) h.1.1) hHeld ?_
              refine Rg.frame _ (by simp only [Rg.pu, List.set]; rfl) ?_
              refine Rg.tk 12 128 (.pointer (some ⟨gL, 0, none⟩)) rfl (by kernel_rfl) (fun _ _ _ h => h) (fun _ _ => by kernel_rfl) hHeld ?_
              refine Rg.tk 13 129 (.int .i64 z.t) rfl (by kernel_rfl) (fun _ _ _ h => h) (fun w' h => run_cell rfl rfl (by kernel_rfl) (h.2.cell 0)) hHeld ?_
              refine Rg.tk 14 130 (.bool true) rfl (by kernel_rfl) (fun _ _ _ h => h) (fun _ _ => run_eqi_t rfl rfl rfl (by omega)) hHeld ?_
              refine Rg.frame _ (by simp only [Rg.pu, List.set]; rfl) ?_
              refine Rg.idleP [15, 16] [(131, .bool true), (132, .int .i64 (p : Int))] 8 (by kernel_rfl) (fun _ _ _ _ _ h => h) (by kernel_rfl) (by kernel_rfl) hHeld ?_
              refine Rg.frame _ (by simp only [Rg.puts, Rg.pu, List.set]; rfl) ?_
              refine Rg.tk 17 133 (.pointer (some ⟨gT, p * 3, none⟩)) rfl (by kernel_rfl) (fun _ _ _ h => h) (fun _ _ => run_idxA rfl rfl rfl hpt) hHeld ?_
              refine Rg.tk 18 134 (.pointer (some ⟨gT, p * 3 + 1, none⟩)) rfl (by kernel_rfl) (fun _ _ _ h => h) (fun _ _ => by kernel_rfl) hHeld ?_
              refine Rg.tk 19 135 (.int .i64 y.s) rfl (by kernel_rfl) (fun _ _ _ h => h) (fun w' h => run_cell rfl rfl (by kernel_rfl) h.1.2) hHeld ?_
              refine Rg.frame _ (by simp only [Rg.pu, List.set]; rfl) ?_
              refine Rg.tk 20 136 (.pointer (some ⟨gL, 1, none⟩)) rfl (by kernel_rfl) (fun _ _ _ h => h) (fun _ _ => by kernel_rfl) hHeld ?_
              refine Rg.tk 21 137 (.int .i64 z.s) rfl (by kernel_rfl) (fun _ _ _ h => h) (fun w' h => run_cell rfl rfl (by kernel_rfl) (h.2.cell 1)) hHeld ?_
              refine Rg.tk 22 138 (.bool true) rfl (by kernel_rfl) (fun _ _ _ h => h) (fun _ _ => run_lss_t rfl rfl rfl (by omega)) hHeld ?_
              refine Rg.frame _ (by simp only [Rg.pu, List.set]; rfl) ?_
              refine Rg.idleP [23, 24] [(139, .bool true), (140, .bool true)] 0 (by kernel_rfl) (fun _ _ _ _ _ h => h) (by kernel_rfl) (by kernel_rfl) hHeld ?_
              refine Rg.frame _ (by simp only [Rg.puts, Rg.pu, List.set]; rfl) ?_
              refine wpAnyH_done (by kernel_rfl) ?_ _
              refine NoPanic.normal ?_
              clear g1 g2
              go_wp2_with fail
              refine ⟨⟨p + 1, by omega, by go_num, ?_, ?_⟩, by simp [intOf]; omega⟩
              · show Blk _ _ _ _
                rw [HN.out]
                exact (BZ.drew.drew.set3 _ _ _)
              · show Below _ _ _
                exact below3 HbM.out.drew.drew (by have := HgL.out; omega) _ _ _
            focus
              have HN := Lib.hid (hst.trans (if_neg hC))
              clear hst hC
              go_wp2_with fail
              refine wp_region_noPanic ?_
              refine wp_region_held_drew (S := fun w' => (w'.cell? ⟨gT, p * 3, none⟩ = some (.int .i64 y.t) ∧ w'.cell? ⟨gT, p * 3 + 1, none⟩ = some (.int .i64 y.s)) ∧ Blk w' gL 25 (gc z.t z.s z.r)) (by kernel_rfl) ⟨⟨t0, t1⟩, BZ.drew.drew⟩ (fun hHeld => ?_)
              refine Rg.idleP [0] [(116, .int .i64 (p : Int))] 24 (by kernel_rfl) (fun _ _ _ _ _ h => h) (by kernel_rfl) (by kernel_rfl) hHeld ?_
              refine Rg.frame _ (by simp only [Rg.puts, Rg.pu, List.set]; rfl) ?_
              refine Rg.tk 1 117 (.pointer (some ⟨gT, p * 3, none⟩)) rfl (by kernel_rfl) (fun _ _ _ h => h) (fun _ _ => run_idxA rfl rfl rfl hpt) hHeld ?_
              refine Rg.tk 2 118 (.pointer (some ⟨gT, p * 3, none⟩)) rfl (by kernel_rfl) (fun _ _ _ h => h) (fun _ _ => by kernel_rfl) hHeld ?_
              refine Rg.tk 3 119 (.int .i64 y.t) rfl (by kernel_rfl) (fun _ _ _ h => h) (fun w' h => run_cell rfl rfl (by kernel_rfl) h.1.1) hHeld ?_
              refine Rg.frame _ (by simp only [Rg.pu, List.set]; rfl) ?_
              refine Rg.tk 4 120 (.pointer (some ⟨gL, 0, none⟩)) rfl (by kernel_rfl) (fun _ _ _ h => h) (fun _ _ => by kernel_rfl) hHeld ?_
              refine Rg.tk 5 121 (.int .i64 z.t) rfl (by kernel_rfl) (fun _ _ _ h => h) (fun w' h => run_cell rfl rfl (by kernel_rfl) (h.2.cell 0)) hHeld ?_
              refine Rg.tk 6 122 (.bool false) rfl (by kernel_rfl) (fun _ _ _ h => h) (fun _ _ => run_lss_f rfl rfl rfl (by omega)) hHeld ?_
              refine Rg.frame _ (by simp only [Rg.pu, List.set]; rfl) ?_
              refine Rg.idleP [7, 8] [(123, .bool false), (124, .int .i64 (p : Int))] 16 (by kernel_rfl) (fun _ _ _ _ _ h => h) (by kernel_rfl) (by kernel_rfl) hHeld ?_
              refine Rg.frame _ (by simp only [Rg.puts, Rg.pu, List.set]; rfl) ?_
              refine Rg.tk 9 125 (.pointer (some ⟨gT, p * 3, none⟩)) rfl (by kernel_rfl) (fun _ _ _ h => h) (fun _ _ => run_idxA rfl rfl rfl hpt) hHeld ?_
              refine Rg.tk 10 126 (.pointer (some ⟨gT, p * 3, none⟩)) rfl (by kernel_rfl) (fun _ _ _ h => h) (fun _ _ => by kernel_rfl) hHeld ?_
              refine Rg.tk 11 127 (.int .i64 y.t) rfl (by kernel_rfl) (fun _ _ _ h => h) (fun w' h => run_cell rfl rfl (by kernel_rfl) h.1.1) hHeld ?_
              refine Rg.frame _ (by simp only [Rg.pu, List.set]; rfl) ?_
              refine Rg.tk 12 128 (.pointer (some ⟨gL, 0, none⟩)) rfl (by kernel_rfl) (fun _ _ _ h => h) (fun _ _ => by kernel_rfl) hHeld ?_
              refine Rg.tk 13 129 (.int .i64 z.t) rfl (by kernel_rfl) (fun _ _ _ h => h) (fun w' h => run_cell rfl rfl (by kernel_rfl) (h.2.cell 0)) hHeld ?_
              refine Rg.tk 14 130 (.bool true) rfl (by kernel_rfl) (fun _ _ _ h => h) (fun _ _ => run_eqi_t rfl rfl rfl (by omega)) hHeld ?_
              refine Rg.frame _ (by simp only [Rg.pu, List.set]; rfl) ?_
              refine Rg.idleP [15, 16] [(131, .bool true), (132, .int .i64 (p : Int))] 8 (by kernel_rfl) (fun _ _ _ _ _ h => h) (by kernel_rfl) (by kernel_rfl) hHeld ?_
              refine Rg.frame _ (by simp only [Rg.puts, Rg.pu, List.set]; rfl) ?_
              refine Rg.tk 17 133 (.pointer (some ⟨gT, p * 3, none⟩)) rfl (by kernel_rfl) (fun _ _ _ h => h) (fun _ _ => run_idxA rfl rfl rfl hpt) hHeld ?_
              refine Rg.tk 18 134 (.pointer (some ⟨gT, p * 3 + 1, none⟩)) rfl (by kernel_rfl) (fun _ _ _ h => h) (fun _ _ => by kernel_rfl) hHeld ?_
              refine Rg.tk 19 135 (.int .i64 y.s) rfl (by kernel_rfl) (fun _ _ _ h => h) (fun w' h => run_cell rfl rfl (by kernel_rfl) h.1.2) hHeld ?_
              refine Rg.frame _ (by simp only [Rg.pu, List.set]; rfl) ?_
              refine Rg.tk 20 136 (.pointer (some ⟨gL, 1, none⟩)) rfl (by kernel_rfl) (fun _ _ _ h => h) (fun _ _ => by kernel_rfl) hHeld ?_
              refine Rg.tk 21 137 (.int .i64 z.s) rfl (by kernel_rfl) (fun _ _ _ h => h) (fun w' h => run_cell rfl rfl (by kernel_rfl) (h.2.cell 1)) hHeld ?_
              refine Rg.tk 22 138 (.bool false) rfl (by kernel_rfl) (fun _ _ _ h => h) (fun _ _ => run_lss_f rfl rfl rfl (by omega)) hHeld ?_
              refine Rg.frame _ (by simp only [Rg.pu, List.set]; rfl) ?_
              refine Rg.idleP [23, 24] [(139, .bool false), (140, .bool false)] 0 (by kernel_rfl) (fun _ _ _ _ _ h => h) (by kernel_rfl) (by kernel_rfl) hHeld ?_
              refine Rg.frame _ (by simp only [Rg.puts, Rg.pu, List.set]; rfl) ?_
              refine wpAnyH_done (by kernel_rfl) ?_ _
              refine NoPanic.normal ?_
              clear g1 g2
              go_wp2_with fail
              refine ⟨⟨p + 1, by omega, by go_num, ?_, ?_⟩, by simp [intOf]; omega⟩
              · show Blk _ _ _ _
                rw [HN.out]
                exact BZ.drew.drew
              · show Below _ _ _
                exact HbM.out.drew.drew
          · have hpt2 : (3 : Int) ≤ p := by omega
            have hBm2 := hBm.out
            rw [show p = 3 by omega, mm_all HL.out] at hBm2
            generalize p = p0 at *
            obtain ⟨m, hm⟩ : ∃ m, Hid (m = least L) := ⟨_, rfl⟩
            rw [← hm.out] at hBm2
            have BM := Lib.hid hBm2
            have HV1 := Lib.hid (HV.out.past hbm.out)
            have BX3 := Lib.hid ((BX2.out.past Hb.out).past hbm.out)
            have BT := Lib.hid (HB.out.past hbm.out)
            have Hb3 := Lib.hid ((Hb2.out.trans (Hb.out.mono Hb2.out.size)).trans (hbm.out.mono (Hb2.out.trans (Hb.out.mono Hb2.out.size)).size))
            clear hBm hBm2 hbm hal BL Hm0 HgL
            obtain ⟨K, hK⟩ : ∃ K : Bool, Hid (K = covers L ⟨ct, cs, cr⟩) := ⟨_, rfl⟩
            go_upto_region 30 with fail
            go_cut [13] from 144 (fun s wx => s = .bool K ∧ Hid (Blk wx w.heap.size 25 (gc ct cs cr)) ∧ Hid (Blk wx gL 25 (gc m.t m.s m.r)) ∧ Hid (VecIn wx VV L) ∧ Hid (Below w.heap.size w wx))
            case first =>
              have hcc : cr < 0 ∨ (0 ≤ cr ∧ 3 ≤ cr) ∨ (0 ≤ cr ∧ cr < 3) := by omega
              rcases hcc with h1 | ⟨h1, h2⟩ | ⟨h1, h2⟩
              focus
                have HK := Lib.hid (hK.out.trans (covers_neg (c := ⟨ct, cs, cr⟩) h1))
                clear hK
                go_wp2_with fail
                refine wp_region_noPanic ?_
                refine wp_region_held_drew (S := fun w' => Blk w' w.heap.size 25 (gc ct cs cr)) (by kernel_rfl) BX3.out.drew (fun hHeld => ?_)
                refine Rg.tk 0 144 (.pointer (some ⟨w.heap.size, 2, none⟩)) rfl (by kernel_rfl) (fun _ _ _ h => h) (fun _ _ => by kernel_rfl) hHeld ?_
                refine Rg.tk 1 145 (.int .i64 cr) rfl (by kernel_rfl) (fun _ _ _ h => h) (fun w' h => run_cell rfl rfl (by kernel_rfl) (h.cell 2)) hHeld ?_
                refine Rg.tk 2 146 (.bool false) rfl (by kernel_rfl) (fun _ _ _ h => h) (fun _ _ => run_geq_f rfl rfl rfl (by omega)) hHeld ?_
                refine Rg.frame _ (by simp only [Rg.pu, List.set]; rfl) ?_
                refine Rg.idleP [3, 4, 5, 6, 7, 8, 9, 10, 11, 12, 13, 14, 15, 16, 17, 18, 19, 20, 21, 22, 23, 24, 25, 26, 27, 28, 29, 30, 31, 32, 33, 34, 35, 36, 37, 38, 39, 40, 41, 42, 43, 44] [(13, .bool false), (147, .bool false), (151, .bool false), (152, .bool false), (187, .bool false)] 0 (by kernel_rfl) (fun _ _ _ _ _ h => h) (by kernel_rfl) (by kernel_rfl) hHeld ?_
                refine Rg.frame _ (by simp only [Rg.puts, Rg.pu, List.set]; rfl) ?_
                refine wpAnyH_done (by kernel_rfl) ?_ _
                refine NoPanic.normal ?_
                go_wp2_with fail
                go_meet
                exact ⟨by rw [HK.out], BX3.out.drew, BM.out.drew, HV1.out.past (Below.refl _ _).drew, Hb3.out.drew⟩
              focus
                have HK := Lib.hid (hK.out.trans (covers_far (c := ⟨ct, cs, cr⟩) (by rw [cnt_of HL.out.1, HL.out.2]; exact h2)))
                clear hK
                go_wp2_with fail
                refine wp_region_noPanic ?_
                refine wp_region_held_drew (S := fun w' => Blk w' w.heap.size 25 (gc ct cs cr)) (by kernel_rfl) BX3.out.drew (fun hHeld => ?_)
                refine Rg.tk 0 144 (.pointer (some ⟨w.heap.size, 2, none⟩)) rfl (by kernel_rfl) (fun _ _ _ h => h) (fun _ _ => by kernel_rfl) hHeld ?_
                refine Rg.tk 1 145 (.int .i64 cr) rfl (by kernel_rfl) (fun _ _ _ h => h) (fun w' h => run_cell rfl rfl (by kernel_rfl) (h.cell 2)) hHeld ?_
                refine Rg.tk 2 146 (.bool true) rfl (by kernel_rfl) (fun _ _ _ h => h) (fun _ _ => run_geq_t rfl rfl rfl (by omega)) hHeld ?_
                refine Rg.frame _ (by simp only [Rg.pu, List.set]; rfl) ?_
                refine Rg.idleP [3] [(147, .bool true)] 41 (by kernel_rfl) (fun _ _ _ _ _ h => h) (by kernel_rfl) (by kernel_rfl) hHeld ?_
                refine Rg.frame _ (by simp only [Rg.puts, Rg.pu, List.set]; rfl) ?_
                refine Rg.tk 4 148 (.pointer (some ⟨w.heap.size, 2, none⟩)) rfl (by kernel_rfl) (fun _ _ _ h => h) (fun _ _ => by kernel_rfl) hHeld ?_
                refine Rg.tk 5 149 (.int .i64 cr) rfl (by kernel_rfl) (fun _ _ _ h => h) (fun w' h => run_cell rfl rfl (by kernel_rfl) (h.cell 2)) hHeld ?_
                refine Rg.tk 6 150 (.bool false) rfl (by kernel_rfl) (fun _ _ _ h => h) (fun _ _ => run_lss_f rfl rfl rfl (by omega)) hHeld ?_
                refine Rg.frame _ (by simp only [Rg.pu, List.set]; rfl) ?_
                refine Rg.idleP [7, 8, 9, 10, 11, 12, 13, 14, 15, 16, 17, 18, 19, 20, 21, 22, 23, 24, 25, 26, 27, 28, 29, 30, 31, 32, 33, 34, 35, 36, 37, 38, 39, 40, 41, 42, 43, 44] [(13, .bool false), (151, .bool false), (152, .bool false), (187, .bool false)] 0 (by kernel_rfl) (fun _ _ _ _ _ h => h) (by kernel_rfl) (by kernel_rfl) hHeld ?_
                refine Rg.frame _ (by simp only [Rg.puts, Rg.pu, List.set]; rfl) ?_
                refine wpAnyH_done (by kernel_rfl) ?_ _
                refine NoPanic.normal ?_
                go_wp2_with fail
                go_meet
                exact ⟨by rw [HK.out], BX3.out.drew, BM.out.drew, HV1.out.past (Below.refl _ _).drew, Hb3.out.drew⟩
              obtain ⟨k, rfl⟩ : ∃ k : Nat, cr = (k : Int) := ⟨cr.toNat, by omega⟩
              have hk5 : k < 3 := by omega
              have hkl : k < L.length := by rw [HL.out.2]; exact hk5
              have hK2 := hK.out.trans (cov_k HL.out hkl)
              obtain ⟨x, hx⟩ : ∃ x, Hid (x = L[k]) := ⟨L[k], rfl⟩
              obtain ⟨t0, t1, t2⟩ := flat_at L k hkl
              rw [← hx.out] at hK2 t0 t1
              have t0 : wr.cell? ⟨gT, k * 3, none⟩ = some (.int .i64 x.t) := by rw [BT.out.cell]; simpa using t0
              have t1 : wr.cell? ⟨gT, k * 3 + 1, none⟩ = some (.int .i64 x.s) := by rw [BT.out.cell]; simpa using t1
              clear hK t2
              have hcs : (ct < x.t) ∨ (x.t < ct) ∨ (ct = x.t ∧ cs ≤ x.s) ∨ (ct = x.t ∧ x.s < cs) := by omega
              rcases hcs with g1 | g1 | ⟨g1, g2⟩ | ⟨g1, g2⟩
              focus
                have HK := Lib.hid (hK2.trans (decide_eq_true (by omega)))
                clear hK2
                go_wp2_with fail
                refine wp_region_noPanic ?_
                refine wp_region_held_drew (S := fun w' => Blk w' w.heap.size 25 (gc ct cs (k : Int)) ∧ w'.cell? ⟨gT, k * 3, none⟩ = some (.int .i64 x.t) ∧ w'.cell? ⟨gT, k * 3 + 1, none⟩ = some (.int .i64 x.s)) (by kernel_rfl) ⟨BX3.out.drew, t0, t1⟩ (fun hHeld => ?_)
                refine Rg.tk 0 144 (.pointer (some ⟨w.heap.size, 2, none⟩)) rfl (by kernel_rfl) (fun _ _ _ h => h) (fun _ _ => by kernel_rfl) hHeld ?_
                refine Rg.tk 1 145 (.int .i64 (k : Int)) rfl (by kernel_rfl) (fun _ _ _ h => h) (fun w' h => run_cell rfl rfl (by kernel_rfl) (h.1.cell 2)) hHeld ?_
                refine Rg.tk 2 146 (.bool true) rfl (by kernel_rfl) (fun _ _ _ h => h) (fun _ _ => run_geq_t rfl rfl rfl (by omega)) hHeld ?_
                refine Rg.frame _ (by simp only [Rg.pu, List.set]; rfl) ?_
                refine Rg.idleP [3] [(147, .bool true)] 41 (by kernel_rfl) (fun _ _ _ _ _ h => h) (by kernel_rfl) (by kernel_rfl) hHeld ?_
                refine Rg.frame _ (by simp only [Rg.puts, Rg.pu, List.set]; rfl) ?_
                refine Rg.tk 4 148 (.pointer (some ⟨w.heap.size, 2, none⟩)) rfl (by kernel_rfl) (fun _ _ _ h => h) (fun _ _ => by kernel_rfl) hHeld ?_
                refine Rg.tk 5 149 (.int .i64 (k : Int)) rfl (by kernel_rfl) (fun _ _ _ h => h) (fun w' h => run_cell rfl rfl (by kernel_rfl) (h.1.cell 2)) hHeld ?_
                refine Rg.tk 6 150 (.bool true) rfl (by kernel_rfl) (fun _ _ _ h => h) (fun _ _ => run_lss_t rfl rfl rfl (by omega)) hHeld ?_
                refine Rg.frame _ (by simp only [Rg.pu, List.set]; rfl) ?_
                refine Rg.idleP [7, 8] [(151, .bool true), (152, .bool true)] 36 (by kernel_rfl) (fun _ _ _ _ _ h => h) (by kernel_rfl) (by kernel_rfl) hHeld ?_
                refine Rg.frame _ (by simp only [Rg.puts, Rg.pu, List.set]; rfl) ?_
                refine Rg.tk 9 153 (.pointer (some ⟨w.heap.size, 0, none⟩)) rfl (by kernel_rfl) (fun _ _ _ h => h) (fun _ _ => by kernel_rfl) hHeld ?_
                refine Rg.tk 10 154 (.int .i64 ct) rfl (by kernel_rfl) (fun _ _ _ h => h) (fun w' h => run_cell rfl rfl (by kernel_rfl) (h.1.cell 0)) hHeld ?_
                refine Rg.tk 11 155 (.pointer (some ⟨w.heap.size, 2, none⟩)) rfl (by kernel_rfl) (fun _ _ _ h => h) (fun _ _ => by kernel_rfl) hHeld ?_
                refine Rg.frame _ (by simp only [Rg.pu, List.set]; rfl) ?_
                refine Rg.tk 12 156 (.int .i64 (k : Int)) rfl (by kernel_rfl) (fun _ _ _ h => h) (fun w' h => run_cell rfl rfl (by kernel_rfl) (h.1.cell 2)) hHeld ?_
                refine Rg.tk 13 157 (.int .i64 (k : Int)) rfl (by kernel_rfl) (fun _ _ _ h => h) (fun _ _ => run_min rfl rfl rfl (by omega)) hHeld ?_
                refine Rg.tk 14 158 (.int .i64 (k : Int)) rfl (by kernel_rfl) (fun _ _ _ h => h) (fun _ _ => run_max rfl rfl rfl (by omega)) hHeld ?_
                refine Rg.frame _ (by simp only [Rg.pu, List.set]; rfl) ?_
                refine Rg.tk 15 159 (.pointer (some ⟨gT, k * 3, none⟩)) rfl (by kernel_rfl) (fun _ _ _ h => h) (fun _ _ => run_idxA rfl rfl rfl hk5) hHeld ?_
                refine Rg.tk 16 160 (.pointer (some ⟨gT, k * 3, none⟩)) rfl (by kernel_rfl) (fun _ _ _ h => h) (fun _ _ => by kernel_rfl) hHeld ?_
                refine Rg.tk 17 161 (.int .i64 x.t) rfl (by kernel_rfl) (fun _ _ _ h => h) (fun w' h => run_cell rfl rfl (by kernel_rfl) h.2.1) hHeld ?_
                refine Rg.frame _ (by simp only [Rg.pu, List.set]; rfl) ?_
                refine Rg.tk 18 162 (.bool true) rfl (by kernel_rfl) (fun _ _ _ h => h) (fun _ _ => run_lss_t rfl rfl rfl (by omega)) hHeld ?_
                refine Rg.idleP [19, 20, 21, 22, 23, 24, 25, 26, 27, 28, 29, 30, 31, 32, 33, 34, 35, 36, 37, 38, 39, 40, 41, 42, 43, 44] [(13, .bool true), (163, .bool true), (186, .bool true), (187, .bool true)] 0 (by kernel_rfl) (fun _ _ _ _ _ h => h) (by kernel_rfl) (by kernel_rfl) hHeld ?_
                refine Rg.frame _ (by simp only [Rg.puts, Rg.pu, List.set]; rfl) ?_
                refine wpAnyH_done (by kernel_rfl) ?_ _
                refine NoPanic.normal ?_
                go_wp2_with fail
                go_meet
                exact ⟨by rw [HK.out], BX3.out.drew, BM.out.drew, HV1.out.past (Below.refl _ _).drew, Hb3.out.drew⟩
              focus
                have HK := Lib.hid (hK2.trans (decide_eq_false (by omega)))
                clear hK2
                go_wp2_with fail
                refine wp_region_noPanic ?_
                refine wp_region_held_drew (S := fun w' => Blk w' w.heap.size 25 (gc ct cs (k : Int)) ∧ w'.cell? ⟨gT, k * 3, none⟩ = some (.int .i64 x.t) ∧ w'.cell? ⟨gT, k * 3 + 1, none⟩ = some (.int .i64 x.s)) (by kernel_rfl) ⟨BX3.out.drew, t0, t1⟩ (fun hHeld => ?_)
                refine Rg.tk 0 144 (.pointer (some ⟨w.heap.size, 2, none⟩)) rfl (by kernel_rfl) (fun _ _ _ h => h) (fun _ _ => by kernel_rfl) hHeld ?_
                refine Rg.tk 1 145 (.int .i64 (k : Int)) rfl (by kernel_rfl) (fun _ _ _ h => h) (fun w' h => run_cell rfl rfl (by kernel_rfl) (h.1.cell 2)) hHeld ?_
                refine Rg.tk 2 146 (.bool true) rfl (by kernel_rfl) (fun _ _ _ h => h) (fun _ _ => run_geq_t rfl rfl rfl (by omega)) hHeld ?_
                refine Rg.frame _ (by simp only [Rg.pu, List.set]; rfl) ?_
                refine Rg.idleP [3] [(147, .bool true)] 41 (by kernel_rfl) (fun _ _ _ _ _ h => h) (by kernel_rfl) (by kernel_rfl) hHeld ?_
                refine Rg.frame _ (by simp only [Rg.puts, Rg.pu, List.set]; rfl) ?_
                refine Rg.tk 4 148 (.pointer (some ⟨w.heap.size, 2, none⟩)) rfl (by kernel_rfl) (fun _ _ _ h => h) (fun _ _ => by kernel_rfl) hHeld ?_
                refine Rg.tk 5 149 (.int .i64 (k : Int)) rfl (by kernel_rfl) (fun _ _ _ h => h) (fun w' h => run_cell rfl rfl (by kernel_rfl) (h.1.cell 2)) hHeld ?_
                refine Rg.tk 6 150 (.bool true) rfl (by kernel_rfl) (fun _ _ _ h => h) (fun _ _ => run_lss_t rfl rfl rfl (by omega)) hHeld ?_
                refine Rg.frame _ (by simp only [Rg.pu, List.set]; rfl) ?_
                refine Rg.idleP [7, 8] [(151, .bool true), (152, .bool true)] 36 (by kernel_rfl) (fun _ _ _ _ _ h => h) (by kernel_rfl) (by kernel_rfl) hHeld ?_
                refine Rg.frame _ (by simp only [Rg.puts, Rg.pu, List.set]; rfl) ?_
                refine Rg.tk 9 153 (.pointer (some ⟨w.heap.size, 0, none⟩)) rfl (by kernel_rfl) (fun _ _ _ h => h) (fun _ _ => by kernel_rfl) hHeld ?_
                refine Rg.tk 10 154 (.int .i64 ct) rfl (by kernel_rfl) (fun _ _ _ h => h) (fun w' h => run_cell rfl rfl (by kernel_rfl) (h.1.cell 0)) hHeld ?_
                refine Rg.tk 11 155 (.pointer (some ⟨w.heap.size, 2, none⟩)) rfl (by kernel_rfl) (fun _ _ _ h => h) (fun _ _ => by kernel_rfl) hHeld ?_
                refine Rg.frame _ (by simp only [Rg.pu, List.set]; rfl) ?_
                refine Rg.tk 12 156 (.int .i64 (k : Int)) rfl (by kernel_rfl) (fun _ _ _ h => h) (fun w' h => run_cell rfl rfl (by kernel_rfl) (h.1.cell 2)) hHeld ?_
                refine Rg.tk 13 157 (.int .i64 (k : Int)) rfl (by kernel_rfl) (fun _ _ _ h => h) (fun _ _ => run_min rfl rfl rfl (by omega)) hHeld ?_
                refine Rg.tk 14 158 (.int .i64 (k : Int)) rfl (by kernel_rfl) (fun _ _ _ h => h) (fun _ _ => run_max rfl rfl rfl (by omega)) hHeld ?_
                refine Rg.frame _ (by simp only [Rg.pu, List.set]; rfl) ?_
                refine Rg.tk 15 159 (.pointer (some ⟨gT, k * 3, none⟩)) rfl (by kernel_rfl) (fun _ _ _ h => h) (fun _ _ => run_idxA rfl rfl rfl hk5) hHeld ?_
                refine Rg.tk 16 160 (.pointer (some ⟨gT, k * 3, none⟩)) rfl (by kernel_rfl) (fun _ _ _ h => h) (fun _ _ => by kernel_rfl) hHeld ?_
                refine Rg.tk 17 161 (.int .i64 x.t) rfl (by kernel_rfl) (fun _ _ _ h => h) (fun w' h => run_cell rfl rfl (by kernel_rfl) h.2.1) hHeld ?_
                refine Rg.frame _ (by simp only [Rg.pu, List.set]; rfl) ?_
                refine Rg.tk 18 162 (.bool false) rfl (by kernel_rfl) (fun _ _ _ h => h) (fun _ _ => run_lss_f rfl rfl rfl (by omega)) hHeld ?_
                refine Rg.idleP [19] [(163, .bool false)] 25 (by kernel_rfl) (fun _ _ _ _ _ h => h) (by kernel_rfl) (by kernel_rfl) hHeld ?_
                refine Rg.frame _ (by simp only [Rg.puts, Rg.pu, List.set]; rfl) ?_
                refine Rg.tk 20 164 (.pointer (some ⟨w.heap.size, 0, none⟩)) rfl (by kernel_rfl) (fun _ _ _ h => h) (fun _ _ => by kernel_rfl) hHeld ?_
                refine Rg.tk 21 165 (.int .i64 ct) rfl (by kernel_rfl) (fun _ _ _ h => h) (fun w' h => run_cell rfl rfl (by kernel_rfl) (h.1.cell 0)) hHeld ?_
                refine Rg.tk 22 166 (.pointer (some ⟨w.heap.size, 2, none⟩)) rfl (by kernel_rfl) (fun _ _ _ h => h) (fun _ _ => by kernel_rfl) hHeld ?_
                refine Rg.frame _ (by simp only [Rg.pu, List.set]; rfl) ?_
                refine Rg.tk 23 167 (.int .i64 (k : Int)) rfl (by kernel_rfl) (fun _ _ _ h => h) (fun w' h => run_cell rfl rfl (by kernel_rfl) (h.1.cell 2)) hHeld ?_
                refine Rg.tk 24 168 (.int .i64 (k : Int)) rfl (by kernel_rfl) (fun _ _ _ h => h) (fun _ _ => run_min rfl rfl rfl (by omega)) hHeld ?_
                refine Rg.tk 25 169 (.int .i64 (k : Int)) rfl (by kernel_rfl) (fun _ _ _ h => h) (fun _ _ => run_max rfl rfl rfl (by omega)) hHeld ?_
                refine Rg.frame _ (by simp only [Rg.pu, List.set]; rfl) ?_
                refine Rg.tk 26 170 (.pointer (some ⟨gT, k * 3, none⟩)) rfl (by kernel_rfl) (fun _ _ _ h => h) (fun _ _ => run_idxA rfl rfl rfl hk5) hHeld ?_
                refine Rg.tk 27 171 (.pointer (some ⟨gT, k * 3, none⟩)) rfl (by kernel_rfl) (fun _ _ _ h => h) (fun _ _ => by kernel_rfl) hHeld ?_
                refine Rg.tk 28 172 (.int .i64 x.t) rfl (by kernel_rfl) (fun _ _ _ h => h) (fun w' h => run_cell rfl rfl (by kernel_rfl) h.2.1) hHeld ?_
                refine Rg.frame _ (by simp only [Rg.pu, List.set]; rfl) ?_
                refine Rg.tk 29 173 (.bool false) rfl (by kernel_rfl) (fun _ _ _ h => h) (fun _ _ => run_eqi_f rfl rfl rfl (by omega)) hHeld ?_
                refine Rg.idleP [30, 31, 32, 33, 34, 35, 36, 37, 38, 39, 40, 41, 42, 43, 44] [(13, .bool false), (174, .bool false), (185, .bool false), (186, .bool false), (187, .bool false)] 0 (by kernel_rfl) (fun _ _ _ _ _ h => h) (by kernel_rfl) (by kernel_rfl) hHeld ?_
                refine Rg.frame _ (by simp only [Rg.puts, Rg.pu, List.set]; rfl) ?_
                refine wpAnyH_done (by kernel_rfl) ?_ _
                refine NoPanic.normal ?_
                go_wp2_with fail
                go_meet
                exact ⟨by rw [HK.out], BX3.out.drew, BM.out.drew, HV1.out.past (Below.refl _ _).drew, Hb3.out.drew⟩
              focus
                have HK := Lib.hid (hK2.trans (decide_eq_true (by omega)))
                clear hK2
                go_wp2_with fail
                refine wp_region_noPanic ?_
                refine wp_region_held_drew (S := fun w' => Blk w' w.heap.size 25 (gc ct cs (k : Int)) ∧ w'.cell? ⟨gT, k * 3, none⟩ = some (.int .i64 x.t) ∧ w'.cell? ⟨gT, k * 3 + 1, none⟩ = some (.int .i64 x.s)) (by kernel_rfl) ⟨BX3.out.drew, t0, t1⟩ (fun hHeld => ?_)
                refine Rg.tk 0 144 (.pointer (some ⟨w.heap.size, 2, none⟩)) rfl (by kernel_rfl) (fun _ _ _ h => h) (fun _ _ => by kernel_rfl) hHeld ?_
                refine Rg.tk 1 145 (.int .i64 (k : Int)) rfl (by kernel_rfl) (fun _ _ _ h => h) (fun w' h => run_cell rfl rfl (by kernel_rfl) (h.1.cell 2)) hHeld ?_
                refine Rg.tk 2 146 (.bool true) rfl (by kernel_rfl) (fun _ _ _ h => h) (fun _ _ => run_geq_t rfl rfl rfl (by omega)) hHeld ?_
                refine Rg.frame _ (by simp only [Rg.pu, List.set]; rfl) ?_
                refine Rg.idleP [3] [(147, .bool true)] 41 (by kernel_rfl) (fun _ _ _ _ _ h => h) (by kernel_rfl) (by kernel_rfl) hHeld ?_
                refine Rg.frame _ (by simp only [Rg.puts, Rg.pu, List.set]; rfl) ?_
                refine Rg.tk 4 148 (.pointer (some ⟨w.heap.size, 2, none⟩)) rfl (by kernel_rfl) (fun _ _ _ h => h) (fun _ _ => by kernel_rfl) hHeld ?_
                refine Rg.tk 5 149 (.int .i64 (k : Int)) rfl (by kernel_rfl) (fun _ _ _ h => h) (fun w' h => run_cell rfl rfl (by kernel_rfl) (h.1.cell 2)) hHeld ?_
                refine Rg.tk 6 150 (.bool true) rfl (by kernel_rfl) (fun _ _ _ h => h) (fun _ _ => run_lss_t rfl rfl rfl (by omega)) hHeld ?_
                refine Rg.frame _ (by simp only [Rg.pu, List.set]; rfl) ?_
                refine Rg.idleP [7, 8] [(151, .bool true), (152, .bool true)] 36 (by kernel_rfl) (fun _ _ _ _ _ h => h) (by kernel_rfl) (by kernel_rfl) hHeld ?_
                refine Rg.frame _ (by simp only [Rg.puts, Rg.pu, List.set]; rfl) ?_
                refine Rg.tk 9 153 (.pointer (some ⟨w.heap.size, 0, none⟩)) rfl (by kernel_rfl) (fun _ _ _ h => h) (fun _ _ => by kernel_rfl) hHeld ?_
                refine Rg.tk 10 154 (.int .i64 ct) rfl (by kernel_rfl) (fun _ _ _ h => h) (fun w' h => run_cell rfl rfl (by kernel_rfl) (h.1.cell 0)) hHeld ?_
                refine Rg.tk 11 155 (.pointer (some ⟨w.heap.size, 2, none⟩)) rfl (by kernel_rfl) (fun _ _ _ h => h) (fun _ _ => by kernel_rfl) hHeld ?_
                refine Rg.frame _ (by simp only [Rg.pu, List.set]; rfl) ?_
                refine Rg.tk 12 156 (.int .i64 (k : Int)) rfl (by kernel_rfl) (fun _ _ _ h => h) (fun w' h => run_cell rfl rfl (by kernel_rfl) (h.1.cell 2)) hHeld ?_
                refine Rg.tk 13 157 (.int .i64 (k : Int)) rfl (by kernel_rfl) (fun _ _ _ h => h) (fun _ _ => run_min rfl rfl rfl (by omega)) hHeld ?_
                refine Rg.tk 14 158 (.int .i64 (k : Int)) rfl (by kernel_rfl) (fun _ _ _ h => h) (fun _ _ => run_max rfl rfl rfl (by omega)) hHeld ?_
                refine Rg.frame _ (by simp only [Rg.pu, List.set]; rfl) ?_
                refine Rg.tk 15 159 (.pointer (some ⟨gT, k * 3, none⟩)) rfl (by kernel_rfl) (fun _ _ _ h => h) (fun _ _ => run_idxA rfl rfl rfl hk5) hHeld ?_
                refine Rg.tk 16 160 (.pointer (some ⟨gT, k * 3, none⟩)) rfl (by kernel_rfl) (fun _ _ _ h => h) (fun _ _ => by kernel_rfl) hHeld ?_
                refine Rg.tk 17 161 (.int .i64 x.t) rfl (by kernel_rfl) (fun _ _ _ h => h) (fun w' h => run_cell rfl rfl (by kernel_rfl) h.2.1) hHeld ?_
                refine Rg.frame _ (by simp only [Rg.pu, List.set]; rfl) ?_
                refine Rg.tk 18 162 (.bool false) rfl (by kernel_rfl) (fun _ _ _ h => h) (fun _ _ => run_lss_f rfl rfl rfl (by omega)) hHeld ?_
                refine Rg.idleP [19] [(163, .bool false)] 25 (by kernel_rfl) (fun _ _ _ _ _ h => h) (by kernel_rfl) (by kernel_rfl) hHeld ?_
                refine Rg.frame _ (by simp only [Rg.puts, Rg.pu, List.set]; rfl) ?_
                refine Rg.tk 20 164 (.pointer (some ⟨w.heap.size, 0, none⟩)) rfl (by kernel_rfl) (fun _ _ _ h => h) (fun _ _ => by kernel_rfl) hHeld ?_
                refine Rg.tk 21 165 (.int .i64 ct) rfl (by kernel_rfl) (fun _ _ _ h => h) (fun w' h => run_cell rfl rfl (by kernel_rfl) (h.1.cell 0)) hHeld ?_
                refine Rg.tk 22 166 (.pointer (some ⟨w.heap.size, 2, none⟩)) rfl (by kernel_rfl) (fun _ _ _ h => h) (fun _ _ => by kernel_rfl) hHeld ?_
                refine Rg.frame _ (by simp only [Rg.pu, List.set]; rfl) ?_
                refine Rg.tk 23 167 (.int .i64 (k : Int)) rfl (by kernel_rfl) (fun _ _ _ h => h) (fun w' h => run_cell rfl rfl (by kernel_rfl) (h.1.cell 2)) hHeld ?_
                refine Rg.tk 24 168 (.int .i64 (k : Int)) rfl (by kernel_rfl) (fun _ _ _ h => h) (fun _ _ => run_min rfl rfl rfl (by omega)) hHeld ?_
                refine Rg.tk 25 169 (.int .i64 (k : Int)) rfl (by kernel_rfl) (fun _ _ _ h => h) (fun _ _ => run_max rfl rfl rfl (by omega)) hHeld ?_
                refine Rg.frame _ (by simp only [Rg.pu, List.set]; rfl) ?_
                refine Rg.tk 26 170 (.pointer (some ⟨gT, k * 3, none⟩)) rfl (by kernel_rfl) (fun _ _ _ h => h) (fun _ _ => run_idxA rfl rfl rfl hk5) hHeld ?_
                refine Rg.tk 27 171 (.pointer (some ⟨gT, k * 3, none⟩)) rfl (by kernel_rfl) (fun _ _ _ h => h) (fun _ _ => by kernel_rfl) hHeld ?_
                refine Rg.tk 28 172 (.int .i64 x.t) rfl (by kernel_rfl) (fun _ _ _ h => h) (fun w' h => run_cell rfl rfl (by kernel_rfl) h.2.1) hHeld ?_
                refine Rg.frame _ (by simp only [Rg.pu, List.set]; rfl) ?_
                refine Rg.tk 29 173 (.bool true) rfl (by kernel_rfl) (fun _ _ _ h => h) (fun _ _ => run_eqi_t rfl rfl rfl (by omega)) hHeld ?_
                refine Rg.idleP [30] [(174, .bool true)] 14 (by kernel_rfl) (fun _ _ _ _ _ h => h) (by kernel_rfl) (by kernel_rfl) hHeld ?_
                refine Rg.frame _ (by simp only [Rg.puts, Rg.pu, List.set]; rfl) ?_
                refine Rg.tk 31 175 (.pointer (some ⟨w.heap.size, 1, none⟩)) rfl (by kernel_rfl) (fun _ _ _ h => h) (fun _ _ => by kernel_rfl) hHeld ?_
                refine Rg.tk 32 176 (.int .i64 cs) rfl (by kernel_rfl) (fun _ _ _ h => h) (fun w' h => run_cell rfl rfl (by kernel_rfl) (h.1.cell 1)) hHeld ?_
                refine Rg.tk 33 177 (.pointer (some ⟨w.heap.size, 2, none⟩)) rfl (by kernel_rfl) (fun _ _ _ h => h) (fun _ _ => by kernel_rfl) hHeld ?_
                refine Rg.frame _ (by simp only [Rg.pu, List.set]; rfl) ?_
                refine Rg.tk 34 178 (.int .i64 (k : Int)) rfl (by kernel_rfl) (fun _ _ _ h => h) (fun w' h => run_cell rfl rfl (by kernel_rfl) (h.1.cell 2)) hHeld ?_
                refine Rg.tk 35 179 (.int .i64 (k : Int)) rfl (by kernel_rfl) (fun _ _ _ h => h) (fun _ _ => run_min rfl rfl rfl (by omega)) hHeld ?_
                refine Rg.tk 36 180 (.int .i64 (k : Int)) rfl (by kernel_rfl) (fun _ _ _ h => h) (fun _ _ => run_max rfl rfl rfl (by omega)) hHeld ?_
                refine Rg.frame _ (by simp only [Rg.pu, List.set]; rfl) ?_
                refine Rg.tk 37 181 (.pointer (some ⟨gT, k * 3, none⟩)) rfl (by kernel_rfl) (fun _ _ _ h => h) (fun _ _ => run_idxA rfl rfl rfl hk5) hHeld ?_
                refine Rg.tk 38 182 (.pointer (some ⟨gT, k * 3 + 1, none⟩)) rfl (by kernel_rfl) (fun _ _ _ h => h) (fun _ _ => by kernel_rfl) hHeld ?_
                refine Rg.tk 39 183 (.int .i64 x.s) rfl (by kernel_rfl) (fun _ _ _ h => h) (fun w' h => run_cell rfl rfl (by kernel_rfl) h.2.2) hHeld ?_
                refine Rg.frame _ (by simp only [Rg.pu, List.set]; rfl) ?_
                refine Rg.tk 40 184 (.bool true) rfl (by kernel_rfl) (fun _ _ _ h => h) (fun _ _ => run_leq_t rfl rfl rfl (by omega)) hHeld ?_
                refine Rg.idleP [41, 42, 43, 44] [(13, .bool true), (185, .bool true), (186, .bool true), (187, .bool true)] 0 (by kernel_rfl) (fun _ _ _ _ _ h => h) (by kernel_rfl) (by kernel_rfl) hHeld ?_
                refine Rg.frame _ (by simp only [Rg.puts, Rg.pu, List.set]; rfl) ?_
                refine wpAnyH_done (by kernel_rfl) ?_ _
                refine NoPanic.normal ?_
                go_wp2_with fail
                go_meet
                exact ⟨by rw [HK.out], BX3.out.drew, BM.out.drew, HV1.out.past (Below.refl _ _).drew, Hb3.out.drew⟩
              focus
                have HK := Lib.hid (hK2.trans (decide_eq_false (by omega)))
                clear hK2
                go_wp2_with fail
                refine wp_region_noPanic ?_
                refine wp_region_held_drew (S := fun w' => Blk w' w.heap.size 25 (gc ct cs (k : Int)) ∧ w'.cell? ⟨gT, k * 3, none⟩ = some (.int .i64 x.t) ∧ w'.cell? ⟨gT, k * 3 + 1, none⟩ = some (.int .i64 x.s)) (by kernel_rfl) ⟨BX3.out.drew, t0, t1⟩ (fun hHeld => ?_)
                refine Rg.tk 0 144 (.pointer (some ⟨w.heap.size, 2, none⟩)) rfl (by kernel_rfl) (fun _ _ _ h => h) (fun _ _ => by kernel_rfl) hHeld ?_
                refine Rg.tk 1 145 (.int .i64 (k : Int)) rfl (by kernel_rfl) (fun _ _ _ h => h) (fun w' h => run_cell rfl rfl (by kernel_rfl) (h.1.cell 2)) hHeld ?_
                refine Rg.tk 2 146 (.bool true) rfl (by kernel_rfl) (fun _ _ _ h => h) (fun _ _ => run_geq_t rfl rfl rfl (by omega)) hHeld ?_
                refine Rg.frame _ (by simp only [Rg.pu, List.set]; rfl) ?_
                refine Rg.idleP [3] [(147, .bool true)] 41 (by kernel_rfl) (fun _ _ _ _ _ h => h) (by kernel_rfl) (by kernel_rfl) hHeld ?_
                refine Rg.frame _ (by simp only [Rg.puts, Rg.pu, List.set]; rfl) ?_
                refine Rg.tk 4 148 (.pointer (some ⟨w.heap.size, 2, none⟩)) rfl (by kernel_rfl) (fun _ _ _ h => h) (fun _ _ => by kernel_rfl) hHeld ?_
                refine Rg.tk 5 149 (.int .i64 (k : Int)) rfl (by kernel_rfl) (fun _ _ _ h => h) (fun w' h => run_cell rfl rfl (by kernel_rfl) (h.1.cell 2)) hHeld ?_
                refine Rg.tk 6 150 (.bool true) rfl (by kernel_rfl) (fun _ _ _ h => h) (fun _ _ => run_lss_t rfl rfl rfl (by omega)) hHeld ?_
                refine Rg.frame _ (by simp only [Rg.pu, List.set]; rfl) ?_
                refine Rg.idleP [7, 8] [(151, .bool true), (152, .bool true)] 36 (by kernel_rfl) (fun _ _ _ _ _ h => h) (by kernel_rfl) (by kernel_rfl) hHeld ?_
                refine Rg.frame _ (by simp only [Rg.puts, Rg.pu, List.set]; rfl) ?_
                refine Rg.tk 9 153 (.pointer (some ⟨w.heap.size, 0, none⟩)) rfl (by kernel_rfl) (fun _ _ _ h => h) (fun _ _ => by kernel_rfl) hHeld ?_
                refine Rg.tk 10 154 (.int .i64 ct) rfl (by kernel_rfl) (fun _ _ _ h => h) (fun w' h => run_cell rfl rfl (by kernel_rfl) (h.1.cell 0)) hHeld ?_
                refine Rg.tk 11 155 (.pointer (some ⟨w.heap.size, 2, none⟩)) rfl (by kernel_rfl) (fun _ _ _ h => h) (fun _ _ => by kernel_rfl) hHeld ?_
                refine Rg.frame _ (by simp only [Rg.pu, List.set]; rfl) ?_
                refine Rg.tk 12 156 (.int .i64 (k : Int)) rfl (by kernel_rfl) (fun _ _ _ h => h) (fun w' h => run_cell rfl rfl (by kernel_rfl) (h.1.cell 2)) hHeld ?_
                refine Rg.tk 13 157 (.int .i64 (k : Int)) rfl (by kernel_rfl) (fun _ _ _ h => h) (fun _ _ => run_min rfl rfl rfl (by omega)) hHeld ?_
                refine Rg.tk 14 158 (.int .i64 (k : Int)) rfl (by kernel_rfl) (fun _ _ _ h => h) (fun _ _ => run_max rfl rfl rfl (by omega)) hHeld ?_
                refine Rg.frame _ (by simp only [Rg.pu, List.set]; rfl) ?_
                refine Rg.tk 15 159 (.pointer (some ⟨gT, k * 3, none⟩)) rfl (by kernel_rfl) (fun _ _ _ h => h) (fun _ _ => run_idxA rfl rfl rfl hk5) hHeld ?_
                refine Rg.tk 16 160 (.pointer (some ⟨gT, k * 3, none⟩)) rfl (by kernel_rfl) (fun _ _ _ h => h) (fun _ _ => by kernel_rfl) hHeld ?_
                refine Rg.tk 17 161 (.int .i64 x.t) rfl (by kernel_rfl) (fun _ _ _ h => h) (fun w' h => run_cell rfl rfl (by kernel_rfl) h.2.1) hHeld ?_
                refine Rg.frame _ (by simp only [Rg.pu, List.set]; rfl) ?_
                refine Rg.tk 18 162 (.bool false) rfl (by kernel_rfl) (fun _ _ _ h => h) (fun _ _ => run_lss_f rfl rfl rfl (by omega)) hHeld ?_
                refine Rg.idleP [19] [(163, .bool false)] 25 (by kernel_rfl) (fun _ _ _ _ _ h => h) (by kernel_rfl) (by kernel_rfl) hHeld ?_
                refine Rg.frame _ (by simp only [Rg.puts, Rg.pu, List.set]; rfl) ?_
                refine Rg.tk 20 164 (.pointer (some ⟨w.heap.size, 0, none⟩)) rfl (by kernel_rfl) (fun _ _ _ h => h) (fun _ _ => by kernel_rfl) hHeld ?_
                refine Rg.tk 21 165 (.int .i64 ct) rfl (by kernel_rfl) (fun _ _ _ h => h) (fun w' h => run_cell rfl rfl (by kernel_rfl) (h.1.cell 0)) hHeld ?_
                refine Rg.tk 22 166 (.pointer (some ⟨w.heap.size, 2, none⟩)) rfl (by kernel_rfl) (fun _ _ _ h => h) (fun _ _ => by kernel_rfl) hHeld ?_
                refine Rg.frame _ (by simp only [Rg.pu, List.set]; rfl) ?_
                refine Rg.tk 23 167 (.int .i64 (k : Int)) rfl (by kernel_rfl) (fun _ _ _ h => h) (fun w' h => run_cell rfl rfl (by kernel_rfl) (h.1.cell 2)) hHeld ?_
                refine Rg.tk 24 168 (.int .i64 (k : Int)) rfl (by kernel_rfl) (fun _ _ _ h => h) (fun _ _ => run_min rfl rfl rfl (by omega)) hHeld ?_
                refine Rg.tk 25 169 (.int .i64 (k : Int)) rfl (by kernel_rfl) (fun _ _ _ h => h) (fun _ _ => run_max rfl rfl rfl (by omega)) hHeld ?_
                refine Rg.frame _ (by simp only [Rg.pu, List.set]; rfl) ?_
                refine Rg.tk 26 170 (.pointer (some ⟨gT, k * 3, none⟩)) rfl (by kernel_rfl) (fun _ _ _ h => h) (fun _ _ => run_idxA rfl rfl rfl hk5) hHeld ?_
                refine Rg.tk 27 171 (.pointer (some ⟨gT, k * 3, none⟩)) rfl (by kernel_rfl) (fun _ _ _ h => h) (fun _ _ => by kernel_rfl) hHeld ?_
                refine Rg.tk 28 172 (.int .i64 x.t) rfl (by kernel_rfl) (fun _ _ _ h => h) (fun w' h => run_cell rfl rfl (by kernel_rfl) h.2.1) hHeld ?_
                refine Rg.frame _ (by simp only [Rg.pu, List.set]; rfl) ?_
                refine Rg.tk 29 173 (.bool true) rfl (by kernel_rfl) (fun _ _ _ h => h) (fun _ _ => run_eqi_t rfl rfl rfl (by omega)) hHeld ?_
                refine Rg.idleP [30] [(174, .bool true)] 14 (by kernel_rfl) (fun _ _ _ _ _ h => h) (by kernel_rfl) (by kernel_rfl) hHeld ?_
                refine Rg.frame _ (by simp only [Rg.puts, Rg.pu, List.set]; rfl) ?_
                refine Rg.tk 31 175 (.pointer (some ⟨w.heap.size, 1, none⟩)) rfl (by kernel_rfl) (fun _ _ _ h => h) (fun _ _ => by kernel_rfl) hHeld ?_
                refine Rg.tk 32 176 (.int .i64 cs) rfl (by kernel_rfl) (fun _ _ _ h => h) (fun w' h => run_cell rfl rfl (by kernel_rfl) (h.1.cell 1)) hHeld ?_
                refine Rg.tk 33 177 (.pointer (some ⟨w.heap.size, 2, none⟩)) rfl (by kernel_rfl) (fun _ _ _ h => h) (fun _ _ => by kernel_rfl) hHeld ?_
                refine Rg.frame _ (by simp only [Rg.pu, List.set]; rfl) ?_
                refine Rg.tk 34 178 (.int .i64 (k : Int)) rfl (by kernel_rfl) (fun _ _ _ h => h) (fun w' h => run_cell rfl rfl (by kernel_rfl) (h.1.cell 2)) hHeld ?_
                refine Rg.tk 35 179 (.int .i64 (k : Int)) rfl (by kernel_rfl) (fun _ _ _ h => h) (fun _ _ => run_min rfl rfl rfl (by omega)) hHeld ?_
                refine Rg.tk 36 180 (.int .i64 (k : Int)) rfl (by kernel_rfl) (fun _ _ _ h => h) (fun _ _ => run_max rfl rfl rfl (by omega)) hHeld ?_
                refine Rg.frame _ (by simp only [Rg.pu, List.set]; rfl) ?_
                refine Rg.tk 37 181 (.pointer (some ⟨gT, k * 3, none⟩)) rfl (by kernel_rfl) (fun _ _ _ h => h) (fun _ _ => run_idxA rfl rfl rfl hk5) hHeld ?_
                refine Rg.tk 38 182 (.pointer (some ⟨gT, k * 3 + 1, none⟩)) rfl (by kernel_rfl) (fun _ _ _ h => h) (fun _ _ => by kernel_rfl) hHeld ?_
                refine Rg.tk 39 183 (.int .i64 x.s) rfl (by kernel_rfl) (fun _ _ _ h => h) (fun w' h => run_cell rfl rfl (by kernel_rfl) h.2.2) hHeld ?_
                refine Rg.frame _ (by simp only [Rg.pu, List.set]; rfl) ?_
                refine Rg.tk 40 184 (.bool false) rfl (by kernel_rfl) (fun _ _ _ h => h) (fun _ _ => run_leq_f rfl rfl rfl (by omega)) hHeld ?_
                refine Rg.idleP [41, 42, 43, 44] [(13, .bool false), (185, .bool false), (186, .bool false), (187, .bool false)] 0 (by kernel_rfl) (fun _ _ _ _ _ h => h) (by kernel_rfl) (by kernel_rfl) hHeld ?_
                refine Rg.frame _ (by simp only [Rg.puts, Rg.pu, List.set]; rfl) ?_
                refine wpAnyH_done (by kernel_rfl) ?_ _
                refine NoPanic.normal ?_
                go_wp2_with fail
                go_meet
                exact ⟨by rw [HK.out], BX3.out.drew, BM.out.drew, HV1.out.past (Below.refl _ _).drew, Hb3.out.drew⟩
            case rest =>
              obtain ⟨rfl, BX4, BM4, HV4, Hb4⟩ := hcut
              clear BX3 BM HV1 Hb3 BT
              go_wp2_with fail
              refine wp_region_noPanic ?_
              refine wp_region_held_drew (S := fun w' => Blk w' w.heap.size 25 (gc ct cs cr) ∧ Blk w' gL 25 (gc m.t m.s m.r) ∧ VecIn w' VV L) (by kernel_rfl) ⟨BX4.out.drew, BM4.out.drew, HV4.out.past (Below.refl _ _).drew⟩ (fun hHeld => ?_)
              refine Rg.idleP [0] [(188, .slice VV L.length vv)] 11 (by kernel_rfl) (fun _ _ _ _ _ h => h) (by kernel_rfl) (by kernel_rfl) hHeld ?_
              refine Rg.frame _ (by simp only [Rg.puts, Rg.pu, List.set]; rfl) ?_
              refine Rg.tk 1 189 (cv ct cs cr) rfl (by kernel_rfl) (fun _ _ _ h => h) (fun w' h => run_at3 (n := ⟨ct, cs, cr⟩) rfl rfl (box_at3 h.1)) hHeld ?_
              refine Rg.idleP [3] [(191, .bool K)] 9 (by kernel_rfl) (fun _ _ _ _ _ h => h) (by kernel_rfl) (by kernel_rfl) hHeld ?_
              refine Rg.frame _ (by simp only [Rg.puts, Rg.pu, List.set]; rfl) ?_
              refine Rg.cl 2 190 rfl (by kernel_rfl) 20 #[.slice VV L.length vv, cv ct cs cr] (by kernel_rfl) (r_cov VV vv L ct cs cr hK.out _ hHeld.2.2) ?_
              rintro _ v1 ⟨rfl, hv1⟩
              have hHeld1 := And.intro (hHeld.1.past hv1) (And.intro (hHeld.2.1.past hv1) (hHeld.2.2.past hv1))
              refine ⟨_, rfl, hHeld1, ?_⟩
              refine Rg.tk 4 192 (.bool true) rfl (by kernel_rfl) (fun _ _ _ h => h) (fun _ _ => run_same rfl rfl rfl) hHeld1 ?_
              refine Rg.idleP [5, 6] [(193, .bool true), (194, .slice VV L.length vv)] 5 (by kernel_rfl) (fun _ _ _ _ _ h => h) (by kernel_rfl) (by kernel_rfl) hHeld1 ?_
              refine Rg.frame _ (by simp only [Rg.puts, Rg.pu, List.set]; rfl) ?_
              refine Rg.tk 8 196 (m.v) rfl (by kernel_rfl) (fun _ _ _ h => h) (fun w' h => run_at3 (n := m) rfl rfl (box_at3 h.2.1)) hHeld1 ?_
              refine Rg.cl 7 195 rfl (by kernel_rfl) 22 #[.slice VV L.length vv] (by kernel_rfl) (r_least VV vv L Hvv.out hm.out _ hHeld1.2.2) ?_
              rintro _ v2 ⟨rfl, hv2⟩
              have hHeld2 := And.intro (hHeld1.1.past hv2) (And.intro (hHeld1.2.1.past hv2) (hHeld1.2.2.past hv2))
              refine ⟨_, rfl, hHeld2, ?_⟩
              refine Rg.tk 9 197 (.bool true) rfl (by kernel_rfl) (fun _ _ _ h => h) (fun _ _ => run_samev rfl rfl rfl) hHeld2 ?_
              refine Rg.frame _ (by simp only [Rg.pu, List.set]; rfl) ?_
              refine Rg.idleP [10, 11] [(4, .bool true), (198, .bool true)] 0 (by kernel_rfl) (fun _ _ _ _ _ h => h) (by kernel_rfl) (by kernel_rfl) hHeld2 ?_
              refine Rg.frame _ (by simp only [Rg.puts, Rg.pu, List.set]; rfl) ?_
              refine wpAnyH_done (by kernel_rfl) ?_ _
              refine NoPanic.normal ?_
              have Hy := Lib.hid ((Hb4.out.drew.trans (hv1.mono Hb4.out.drew.size)).trans (hv2.mono (Hb4.out.drew.trans (hv1.mono Hb4.out.drew.size)).size))
              go_wp2_with fail
              go_ret
              exact ⟨rfl, Hy.out⟩
end Go.Proofs.Ytiglepmgonmhiaa.Cs
