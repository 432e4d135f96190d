/- Two vectors joined, met, compared: the reference's ways. -/
import Derived.Test.YtiglepmgonmhiaaVcJoin
namespace Go.Proofs.Ytiglepmgonmhiaa.Cs
open Go.RowKit
set_option linter.unusedVariables false
set_option maxRecDepth 100000

theorem own_lt {w : World} {base : Nat} {v : Value} {l : List Nm} (h : OwnV w base v l) : ∀ k, v.ownBlock = some k → base ≤ k ∧ k < w.heap.size := fun k hk => h.lt k hk
/-- Two Owns, one behind the other: their rows are two. -/
theorem own_two {w w1 w2 : World} {b1 : Nat} {v1 v2 : Value} {l1 l2 : List Nm} (h1 : OwnV w1 b1 v1 l1) (h2 : OwnV w2 w1.heap.size v2 l2) {A : Option Addr} {c n : Nat} (hv : v2 = .slice A n c) : 0 < l2.length → ∀ ad, A = some ad → v1.ownBlock ≠ some ad.block := by
  intro _ ad hA he
  subst hA hv
  have k1 := (own_lt h1 _ he).2
  have k2 := (own_lt h2 ad.block rfl).1
  omega
set_option maxHeartbeats 1000000 in
theorem rJoin_any (A B : Option Addr) (c d : Nat) (la lb : List Nm) (w : World) (hA : VecIn w A la) (hB : VecIn w B lb) (hla : la.length ≤ 1000) (hlb : lb.length ≤ 1000) : Calls Try.prog 15 #[.slice A la.length c, .slice B lb.length d] w fun e w' => ∃ A' c', e = .returned (.slice A' (rover (cnt la) (cnt lb)).length c') ∧ VecIn w' A' (rover (cnt la) (cnt lb)) ∧ Below w.heap.size w w' := by
  have CO := Lib.hid Own_any
  have CL := Lib.hid greater_any
  have Hla := Lib.hid hla
  have Hlb := Lib.hid hlb
  have ha6 := cnt_len la
  have hb6 := cnt_len lb
  obtain ⟨J, hJ⟩ : ∃ J, Hid (rover (cnt la) (cnt lb) = J) := ⟨_, rfl⟩
  rw [hJ.out]
  have HA := Lib.hid hA
  have HB := Lib.hid hB
  clear hA hB hla hlb
  go_enter Try.func15, Try.ntmps15
  go_wp2_with fail
  refine (CO.out A c la _ HA.out Hla.out).mono ?_
  rintro e w1 ⟨V, rfl, hO1, hb1⟩
  have HB1 := Lib.hid (HB.out.past hb1)
  have HO1 := Lib.hid hO1
  have Hb1 := Lib.hid hb1
  clear hO1 hb1
  go_wp2_with fail
  refine (CO.out B d lb _ HB1.out Hlb.out).mono ?_
  rintro e w2 ⟨W, rfl, hO2, hb2⟩
  obtain ⟨BB, db, hWe, hVB⟩ := hO2.form
  have HN := Lib.hid (own_two (w := w) HO1.out hO2 hWe)
  subst hWe
  have HO := Lib.hid (HO1.out.past hb2)
  have HV := Lib.hid hVB
  have Hb := Lib.hid (Hb1.out.trans (hb2.mono Hb1.out.size))
  clear hVB hO2 HO1 hb2 Hb1 HB1 HA HB CO
  generalize cnt la = a at *
  generalize cnt lb = b at *
  go_wp2_with fail
  go_loopw [5, 7] (fun v i wr => ∃ (q : Nat), q ≤ b.length ∧ i = .int .i64 (q : Int) ∧ Hid (OwnV wr w.heap.size v (rfill a b q)) ∧ Hid (VecIn wr BB b) ∧ Hid (0 < b.length → ∀ ad, BB = some ad → v.ownBlock ≠ some ad.block) ∧ Hid (Below w.heap.size w wr)) (fun v i wr => b.length - (intOf i).toNat)
  case atStart => exact ⟨0, by omega, rfl, by show OwnV _ _ _ _; have := HO.out; unfold rfill; rw [List.take_zero, rover_nil]; exact this, HV.out, HN.out, Hb.out⟩
  case round =>
    obtain ⟨q, hq, rfl, hO, hV, hN, hb⟩ := hrel
    clear HO HV HN Hb
    have hlen := rfill_len a b q hq
    by_cases hlt : q < b.length
    · have hlt2 : (q : Int) < b.length := by omega
      have hq6 : (q : Int) < 6 := by omega
      obtain ⟨bd, rfl, hp2, hY⟩ := hV.out.at3 hlt
      have hne := hN.out (by omega) bd rfl
      obtain ⟨y, hy⟩ : ∃ y, Hid (y = b[q]) := ⟨b[q], rfl⟩
      rw [← hy.out] at hY
      have Hpb := Lib.hid (show (bd.add (q * 3)).block < wr.heap.size by rw [block_of_add]; exact hp2)
      by_cases hqa : q < a.length
      · obtain ⟨x, hx⟩ : ∃ x, Hid (x = a[q]) := ⟨a[q], rfl⟩
        obtain ⟨l0, hl0⟩ : ∃ z, Hid (z = later x y) := ⟨_, rfl⟩
        have CLx := CL.out x y
        rw [← hl0.out] at CLx
        have HC := Lib.hid CLx
        have hql : q < (rfill a b q).length := by omega
        have hql2 : (q : Int) < (rfill a b q).length := by omega
        obtain ⟨g, cap, tl, rfl, hg, hc1, hc2, hsz, hB⟩ := hO.out.blk (by omega)
        have hX := row_at3 hB hql
        rw [rfill_at hlt hqa hql, ← hx.out] at hX
        have HX := Lib.hid hX
        have HY := Lib.hid hY
        have HBk := Lib.hid hB
        have Hsz := Lib.hid hsz
        have Hc1 := Lib.hid hc1
        have Hc2 := Lib.hid hc2
        have Hlen := Lib.hid hlen
        have hnb0 : bd.block ≠ g := fun e => hne (by rw [e]; rfl)
        have hnb : (bd.add (q * 3)).block ≠ g := by rw [block_of_add]; exact hnb0
        have hset : (rfill a b q).set q l0 = rfill a b (q + 1) := by rw [rfill_set hlt hqa, hl0.out, hx.out, hy.out]
        have Hset := Lib.hid hset
        clear CLx hX hY hB hsz hc1 hc2 hO hlen hne hset
        go_wp2_with fail
        refine wp_region_noPanic ?_
        refine wp_region_held_drew (S := fun w' => At3 w' (bd.add (q * 3)) y) (by kernel_rfl) HY.out (fun hHeld => ?_)
        refine Rg.idleP [0, 1, 2, 3] [(22, .slice (some ⟨g, 0, none⟩) (rfill a b q).length cap), (23, .int .i64 (q : Int)), (24, .slice (some ⟨g, 0, none⟩) (rfill a b q).length cap), (25, .int .i64 (q : Int))] 9 (by kernel_rfl) (fun _ _ _ _ _ h => h) (by kernel_rfl) (by kernel_rfl) hHeld ?_
        refine Rg.frame _ (by simp only [Rg.puts, Rg.pu, List.set]; rfl) ?_
        refine Rg.tk 4 26 (.pointer (some ⟨g, q * 3, none⟩)) rfl (by kernel_rfl) (fun _ _ _ h => h) (fun _ _ => run_idx0 rfl rfl rfl hql) hHeld ?_
        refine Rg.idleP [6, 7] [(28, .slice (some bd) b.length db), (29, .int .i64 (q : Int))] 6 (by kernel_rfl) (fun _ _ _ _ _ h => h) (by kernel_rfl) (by kernel_rfl) hHeld ?_
        refine Rg.frame _ (by simp only [Rg.puts, Rg.pu, List.set]; rfl) ?_
        refine Rg.tk 8 30 (.pointer (some (bd.add (q * 3)))) rfl (by kernel_rfl) (fun _ _ _ h => h) (fun _ _ => run_idx rfl rfl rfl hlt) hHeld ?_
        refine Rg.tk 9 31 (y.v) rfl (by kernel_rfl) (fun _ _ _ h => h) (fun w' h => run_at3 (n := y) rfl rfl h) hHeld ?_
        refine Rg.rn 5 27 (x.v) _ rfl (by kernel_rfl) (run_at3 (n := x) rfl rfl HX.out) hHeld ?_
        refine Rg.frame _ (by simp only [Rg.pu, List.set]; rfl) ?_
        refine Rg.cl 10 32 rfl (by kernel_rfl) 31 #[x.v, y.v] (by kernel_rfl) (HC.out _) ?_
        rintro _ w4 ⟨rfl, hb4⟩
        have hHeld1 := hHeld.past Hpb.out hb4
        refine ⟨_, rfl, hHeld1, ?_⟩
        have B4 := HBk.out.drew.past hb4
        refine Rg.tk 11 33 (.pointer (some ⟨g, q * 3, none⟩)) rfl (by kernel_rfl) (fun _ _ _ h => h) (fun _ _ => run_idx0 rfl rfl rfl hql) hHeld1 ?_
        have hS9 := store3_at3 (k := q) (x := l0) hHeld1 hnb
        refine Rg.sk 12 _ rfl (by kernel_rfl) (run_store3 rfl rfl rfl B4 hql) hS9 ?_
        refine Rg.frame _ (by simp only [Rg.pu, List.set]; rfl) ?_
        refine wpAnyH_done (by kernel_rfl) ?_ _
        refine NoPanic.normal ?_
        have B5 := store3_blk B4 hql l0
        have hb5 := store3_below ((hb.out.drew).trans (hb4.mono hb.out.drew.size)) hg q l0
        have hO5 := OwnV.again (base := w.heap.size) (n := (rfill a b q).length) (by rw [List.length_set]) hg Hc1.out Hc2.out (by rw [set_flat_len]; exact Hsz.out) B5
        rw [Hset.out] at hO5
        have HO5 := Lib.hid hO5
        have HB5 := Lib.hid hb5
        have HV5 := Lib.hid ((hV.out.past (((Below.refl wr.heap.size wr).drew).trans hb4)).store3 (g := g) (k := q) (x := l0) (fun _ ad h9 => by injection h9 with h9; rw [← h9]; exact hnb0))
        have HN5 := Lib.hid (show 0 < b.length → ∀ ad, (some bd : Option Addr) = some ad → (Value.slice (some ⟨g, 0, none⟩) (rfill a b q).length cap).ownBlock ≠ some ad.block from hN.out)
        clear B5 hb5 hO5 B4 hS9 hHeld1 hHeld hb4 hV hN hb
        go_wp2_with fail
        go_roundw
        case rel => exact ⟨q + 1, by omega, by go_num, HO5, HV5, HN5, HB5⟩
        case measure => simp [intOf]; omega
      · have hlq : (rfill a b q).length = q := by omega
        obtain ⟨A9, c9, rfl, -⟩ := hO.out.form
        rw [hlq] at hO hN
        rw [hlq]
        have hpush := rfill_push hlt (show a.length ≤ q by omega)
        rw [← hy.out] at hpush
        have Hpush := Lib.hid hpush
        obtain ⟨f0, f1, f2⟩ := hY
        have BY := Lib.hid (Blk.new wr 25 (gc y.t y.s y.r))
        have hal := (Below.refl wr.heap.size wr).alloc (Nat.le_refl _) (.cells (gc y.t y.s y.r) 25)
        have HOA := Lib.hid (hO.out.past hal)
        have HVA := Lib.hid (hV.out.past hal)
        have HbA := Lib.hid (hb.out.alloc hb.out.size (.cells (gc y.t y.s y.r) 25))
        have HH := Lib.hid (show (rfill a b q).length ≤ 1000 by omega)
        have Hp2 := Lib.hid hp2
        clear hO hV hb hlen hpush hal hne hlq
        go_wp2_with (at_builtin; go_loud (refine wpList_pushAt rfl _ _ rfl w.heap.size _ (rfill a b q) rfl HOA.out wr.heap.size y rfl BY.out HH.out HbA.out.size ?_))
        intro v1 w4 hO4 hb4 hg4 hat
        rw [← Hpush.out] at hO4
        have HO5 := Lib.hid hO4
        have HB5 := Lib.hid (HbA.out.trans hb4)
        have HV5 := Lib.hid (HVA.out.grown hg4 (fun h0 ad h9 e9 => hN.out h0 ad h9 e9.symm))
        have HN5 := Lib.hid (show 0 < b.length → ∀ ad, (some bd : Option Addr) = some ad → v1.ownBlock ≠ some ad.block from fun h0 ad h9 => by
          rcases hat with h8 | h8
          · rw [h8]; exact hN.out h0 ad h9
          · rw [h8]
            injection h9 with h9
            subst h9
            intro e
            injection e with e
            have := Hp2.out
            have hz : (wr.alloc (.cells (gc y.t y.s y.r) 25)).heap.size = wr.heap.size + 1 := by simp
            omega)
        clear hO4 hb4 hg4 hat HOA HVA HbA BY f0 f1 f2
        go_wp2_with fail
        go_roundw
        case rel => exact ⟨q + 1, by omega, by go_num, HO5, HV5, HN5, HB5⟩
        case measure => simp [intOf]; omega
    · obtain rfl : q = b.length := by omega
      have hO9 := hO.out
      rw [rfill_all, hJ.out] at hO9
      obtain ⟨A9, c9, rfl, hV9⟩ := hO9.form
      have HV9 := Lib.hid hV9
      clear hV9 hO9 hO hV hN
      go_wp2_with fail
      go_ret
      exact ⟨_, _, rfl, HV9.out, hb.out⟩
end Go.Proofs.Ytiglepmgonmhiaa.Cs
