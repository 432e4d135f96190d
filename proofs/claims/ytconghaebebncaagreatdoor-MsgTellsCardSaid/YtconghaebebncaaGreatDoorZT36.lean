import Derived.Test.YtconghaebebncaaGreatDoorZT10
namespace Go.Proofs.YtconghaebebncaaGreatDoor.Ms
open Go.RowKit
set_option linter.unusedVariables false
set_option maxRecDepth 100000
def TwoMo (w0 : World) (p p2 : Addr) (k k2 : Int) (a a2 : ByteArray) (V V2 : Option Addr) (n n2 c c2 : Nat) (w : World) : Prop :=
 (w.cell? p = some (.int .i64 k) ∧ w.cell? ⟨p.block, p.off + 1, none⟩ = some (.string a) ∧ w.cell? ⟨p.block, p.off + 2, none⟩ = some (.slice V n c)) ∧
 (w.cell? p2 = some (.int .i64 k2) ∧ w.cell? ⟨p2.block, p2.off + 1, none⟩ = some (.string a2) ∧ w.cell? ⟨p2.block, p2.off + 2, none⟩ = some (.slice V2 n2 c2)) ∧ Below w0.heap.size w0 w
theorem TwoMo.past {w0 w w' : World} {p p2 : Addr} {k k2 : Int} {a a2 : ByteArray} {V V2 : Option Addr} {n n2 c c2 : Nat} (h : TwoMo w0 p p2 k k2 a a2 V V2 n n2 c c2 w) (hb : Below w.heap.size w w') : TwoMo w0 p p2 k k2 a a2 V V2 n n2 c c2 w' := by
 obtain ⟨⟨h1, h2, h3⟩, ⟨h4, h5, h6⟩, h7⟩ := h
 exact ⟨⟨(hb.cell (cell_lt h1)).trans h1, (hb.cell (cell_lt h2)).trans h2, (hb.cell (cell_lt h3)).trans h3⟩, ⟨(hb.cell (cell_lt h4)).trans h4, (hb.cell (cell_lt h5)).trans h5, (hb.cell (cell_lt h6)).trans h6⟩, h7.trans (hb.mono h7.size)⟩
theorem infoMo3 : ∃ i, Tryz.prog.info? 48 = some i ∧ i.size = 3 := by
 have h : (Tryz.prog.info? 48).map (·.size) = some 3 := by kernel_rfl
 cases hi : Tryz.prog.info? 48 with
 | none => rw [hi] at h; cases h
 | some i => rw [hi] at h; exact ⟨i, rfl, Option.some.inj h⟩
set_option maxHeartbeats 8000000 in
theorem rsameMo_any (l l' : List Mo) (A A' : Option Addr) (c c' : Nat) (ds ds' : Nat → List Value) (w : World) (hM : MosAt w (· < w.heap.size) A l ds) (hM' : MosAt w (· < w.heap.size) A' l' ds') (hl : l.length ≤ maxLen) (hl' : l'.length ≤ maxLen) :
  Calls Tryz.prog 44 #[.slice A l.length c, .slice A' l'.length c'] w fun r w' => r = .returned (.bool (eqMos l l')) ∧ Below w.heap.size w w' := by
 unfold maxLen at hl hl'
 by_cases hn : l.length = l'.length
 ·have HN := Lib.hid hn
  rw [← hn]
  clear hn hl'
  go_enter Tryz.func44, Tryz.ntmps44
  go_wp2_with fail
  go_loopw [5] (fun i wr => ∃ q : Nat, q ≤ l.length ∧ i = .int .i64 q ∧ Hid (eqMos l l' = eqMos (l.drop q) (l'.drop q)) ∧ Below w.heap.size w wr) (fun i wr => l.length - (intOf i).toNat)
  case atStart => exact ⟨0, Nat.zero_le _, rfl, rfl, Below.refl _ _⟩
  case round =>
   obtain ⟨q, hq, rfl, hE, hb⟩ := hrel
   by_cases hlt : q < l.length
   ·have hlt' : q < l'.length := by have := HN.out; omega
    obtain ⟨ad, V, vc, rfl, hp, f0, f1, f2, hL⟩ := hM.kid hb hlt
    obtain ⟨ad2, V2, vc2, rfl, hp2, g0, g1, g2, hL2⟩ := hM'.kid hb (i := q) hlt'
    have hE2 := hE.out
    rw [eqMos_drop hlt hlt'] at hE2
    have hr : eqMo l[q] l'[q] = (decide (l[q].kind = l'[q].kind) && (decide (l[q].attr = l'[q].attr) && decide (l[q].vals = l'[q].vals))) := rfl
    rw [hr] at hE2
    obtain ⟨Va, vca, ea, _, la, lc, hVa, _⟩ := hL
    obtain ⟨Vb, vcb, eb, _, lb, lcb, hVb, _⟩ := hL2
    simp only [List.cons.injEq, Value.slice.injEq, true_and, and_true] at ea eb
    obtain ⟨rfl, rfl⟩ := ea
    obtain ⟨rfl, rfl⟩ := eb
    generalize l[q] = d at f0 f1 f2 hE2 hVa la lc
    generalize l'[q] = d2 at g0 g1 g2 hE2 hVb lb lcb
    obtain ⟨k, t, v⟩ := d
    obtain ⟨k2, t2, v2⟩ := d2
    simp only at f0 f1 f2 g0 g1 g2 hE2 hVa la hVb lb
    have T0 : TwoMo w (ad.add (q * 3)) (ad2.add (q * 3)) k k2 t t2 V V2 v.length v2.length vc vc2 wr := ⟨⟨f0, f1, f2⟩, ⟨g0, g1, g2⟩, hb⟩
    have HA := Lib.hid (fun w1 (hb1 : Below wr.heap.size wr w1) => ralike_any v v2 V V2 vc vc2 w1 (hVa.imp (fun _ h => Nat.lt_of_lt_of_le h hb1.size) (fun p hp => hb1.cell hp)) (hVb.imp (fun _ h => Nat.lt_of_lt_of_le h hb1.size) (fun p hp => hb1.cell hp)) la)
    have hk : (k == k2) = decide (k = k2) := rfl
    have ht : (t.toList == t2.toList) = decide (t = t2) := Fi.toList_eq _ _
    generalize decide (k = k2) = e1 at hE2 hk
    generalize decide (t = t2) = e2 at hE2 ht
    generalize decide (v = v2) = e3 at hE2 HA
    have HE := Lib.hid hE2
    clear hE hE2 hr f0 f1 f2 g0 g1 g2 hVa hVb
    obtain ⟨ii, hi, hi3⟩ := infoMo3
    have hT := T0
    clear T0
    go_wp2_with fail
    have hB0 := (Below.refl wr.heap.size wr).drew
    refine wp_region_noPanic ?_
    refine wp_region_held_drew (S := TwoMo w (ad.add (q * 3)) (ad2.add (q * 3)) k k2 t t2 V V2 v.length v2.length vc vc2) (by kernel_rfl) (hT.past (Below.refl _ _).drew) (fun hH0 => ?_)
    refine Rg.take 0 (.slice (some ad) l.length c) rfl (by kernel_rfl) (by kernel_rfl) (by kernel_rfl) (fun _ _ _ h => h) (by kernel_rfl) (fun _ _ => by kernel_rfl) hH0 ?_
    refine Rg.take 1 (.int .i64 q) rfl (by kernel_rfl) (by kernel_rfl) (by kernel_rfl) (fun _ _ _ h => h) (by kernel_rfl) (fun _ _ => by kernel_rfl) hH0 ?_
    refine Rg.take 2 (.pointer (some (ad.add (q * 3)))) rfl (by kernel_rfl) (by kernel_rfl) (by kernel_rfl) (fun _ _ _ h => h) (by kernel_rfl) (fun w' _ => Pl.run_index (P := Tryz.prog) (k := 3) Tryz.underlying26 hi hi3 rfl rfl rfl hlt) hH0 ?_
    refine Rg.take 3 (.pointer (some (ad.add (q * 3)))) rfl (by kernel_rfl) (by kernel_rfl) (by kernel_rfl) (fun _ _ _ h => h) (by kernel_rfl) (fun _ _ => by kernel_rfl) hH0 ?_
    refine Rg.frame ⟨#[Sl (some ad) l.length c, Sl (some ad2) l.length c', ud, ud, u4, Iq q, Sl (some ad) l.length c, Iq l.length, Sl (some ad2) l.length c', Iq l.length, Bf, Iq q, Sl (some ad) l.length c, Iq l.length, Bt, u15, u16, Sl (some ad) l.length c, Iq q, .pointer (some (ad.add (q * 3))), .pointer (some (ad.add (q * 3))), u21, u22, u23, u24, u25, u26, u27, u28, u29, u30, u31, u32, u33, u34, u35, u36, u37, u38, u39, u40, u41, u42, u43, u44, u45, u46, u47, u48, u49, u50, u51, u52, u53, u54], []⟩ (by kernel_rfl) ?_
    refine Rg.take 4 (.int .i64 k) rfl (by kernel_rfl) (by kernel_rfl) (by kernel_rfl) (fun _ _ _ h => h) (by kernel_rfl) (fun w' h => run_cell rfl rfl (by kernel_rfl) h.1.1) hH0 ?_
    refine Rg.take 5 (.slice (some ad2) l.length c') rfl (by kernel_rfl) (by kernel_rfl) (by kernel_rfl) (fun _ _ _ h => h) (by kernel_rfl) (fun _ _ => by kernel_rfl) hH0 ?_
    refine Rg.take 6 (.int .i64 q) rfl (by kernel_rfl) (by kernel_rfl) (by kernel_rfl) (fun _ _ _ h => h) (by kernel_rfl) (fun _ _ => by kernel_rfl) hH0 ?_
    refine Rg.take 7 (.pointer (some (ad2.add (q * 3)))) rfl (by kernel_rfl) (by kernel_rfl) (by kernel_rfl) (fun _ _ _ h => h) (by kernel_rfl) (fun w' _ => Pl.run_index (P := Tryz.prog) (k := 3) Tryz.underlying26 hi hi3 rfl rfl rfl hlt) hH0 ?_
    refine Rg.frame ⟨#[Sl (some ad) l.length c, Sl (some ad2) l.length c', ud, ud, u4, Iq q, Sl (some ad) l.length c, Iq l.length, Sl (some ad2) l.length c', Iq l.length, Bf, Iq q, Sl (some ad) l.length c, Iq l.length, Bt, u15, u16, Sl (some ad) l.length c, Iq q, .pointer (some (ad.add (q * 3))), .pointer (some (ad.add (q * 3))), Iq k, Sl (some ad2) l.length c', Iq q, .pointer (some (ad2.add (q * 3))), u25, u26, u27, u28, u29, u30, u31, u32, u33, u34, u35, u36, u37, u38, u39, u40, u41, u42, u43, u44, u45, u46, u47, u48, u49, u50, u51, u52, u53, u54], []⟩ (by kernel_rfl) ?_
    refine Rg.take 8 (.pointer (some (ad2.add (q * 3)))) rfl (by kernel_rfl) (by kernel_rfl) (by kernel_rfl) (fun _ _ _ h => h) (by kernel_rfl) (fun _ _ => by kernel_rfl) hH0 ?_
    refine Rg.take 9 (.int .i64 k2) rfl (by kernel_rfl) (by kernel_rfl) (by kernel_rfl) (fun _ _ _ h => h) (by kernel_rfl) (fun w' h => run_cell rfl rfl (by kernel_rfl) h.2.1.1) hH0 ?_
    refine Rg.take 10 (.bool (!e1)) rfl (by kernel_rfl) (by kernel_rfl) (by kernel_rfl) (fun _ _ _ h => h) (by kernel_rfl) (fun _ _ => by rw [← hk]; kernel_rfl) hH0 ?_
    cases e1 with
    | false =>
     refine Rg.idle (by kernel_rfl) (fun _ _ _ _ _ h => h) [11, 12, 13, 14, 15, 16, 17, 18, 19, 20, 21, 22, 23, 24, 25, 26, 27, 28, 29, 30, 31, 32, 33, 34, 35, 36, 37] _ _ ⟨#[Sl (some ad) l.length c, Sl (some ad2) l.length c', ud, ud, u4, Iq q, Sl (some ad) l.length c, Iq l.length, Sl (some ad2) l.length c', Iq l.length, Bf, Iq q, Sl (some ad) l.length c, Iq l.length, Bt, u15, u16, Sl (some ad) l.length c, Iq q, .pointer (some (ad.add (q * 3))), .pointer (some (ad.add (q * 3))), Iq k, Sl (some ad2) l.length c', Iq q, .pointer (some (ad2.add (q * 3))), .pointer (some (ad2.add (q * 3))), Iq k2, Bt, Bt, ud, ud, ud, ud, ud, ud, ud, ud, ud, ud, ud, Bt, Bt, ud, ud, ud, ud, ud, ud, ud, ud, ud, ud, ud, ud, Bt], []⟩ 0 (by kernel_rfl) (by kernel_rfl) hH0 ?_
     refine Rg.frame { tmps := #[.slice (some ad) l.length c, .slice (some ad2) l.length c', undef, undef, u4, .int .i64 q, .slice (some ad) l.length c, .int .i64 l.length, .slice (some ad2) l.length c', .int .i64 l.length, .bool false, .int .i64 q, .slice (some ad) l.length c, .int .i64 l.length, .bool true, u15, u16, .slice (some ad) l.length c, .int .i64 q, .pointer (some (ad.add (q * 3))), .pointer (some (ad.add (q * 3))), .int .i64 k, .slice (some ad2) l.length c', .int .i64 q, .pointer (some (ad2.add (q * 3))), .pointer (some (ad2.add (q * 3))), .int .i64 k2, .bool true, .bool true, undef, undef, undef, undef, undef, undef, undef, undef, undef, undef, undef, .bool true, .bool true, undef, undef, undef, undef, undef, undef, undef, undef, undef, undef, undef, undef, .bool true], defers := [] } (by kernel_rfl) ?_
     refine wpAnyH_done (by kernel_rfl) ?_ _
     refine NoPanic.normal ?_
     go_wp2_with fail
     go_ret
     exact ⟨ret_bool HE.out.symm, hH0.2.2⟩
    | true =>
     refine Rg.idle (by kernel_rfl) (fun _ _ _ _ _ h => h) [11] _ _ ⟨#[Sl (some ad) l.length c, Sl (some ad2) l.length c', ud, ud, u4, Iq q, Sl (some ad) l.length c, Iq l.length, Sl (some ad2) l.length c', Iq l.length, Bf, Iq q, Sl (some ad) l.length c, Iq l.length, Bt, u15, u16, Sl (some ad) l.length c, Iq q, .pointer (some (ad.add (q * 3))), .pointer (some (ad.add (q * 3))), Iq k, Sl (some ad2) l.length c', Iq q, .pointer (some (ad2.add (q * 3))), .pointer (some (ad2.add (q * 3))), Iq k2, Bf, Bf, u29, u30, u31, u32, u33, u34, u35, u36, u37, u38, u39, u40, u41, u42, u43, u44, u45, u46, u47, u48, u49, u50, u51, u52, u53, u54], []⟩ 26 (by kernel_rfl) (by kernel_rfl) hH0 ?_
     refine Rg.take 12 (.slice (some ad) l.length c) rfl (by kernel_rfl) (by kernel_rfl) (by kernel_rfl) (fun _ _ _ h => h) (by kernel_rfl) (fun _ _ => by kernel_rfl) hH0 ?_
     refine Rg.frame ⟨#[Sl (some ad) l.length c, Sl (some ad2) l.length c', ud, ud, u4, Iq q, Sl (some ad) l.length c, Iq l.length, Sl (some ad2) l.length c', Iq l.length, Bf, Iq q, Sl (some ad) l.length c, Iq l.length, Bt, u15, u16, Sl (some ad) l.length c, Iq q, .pointer (some (ad.add (q * 3))), .pointer (some (ad.add (q * 3))), Iq k, Sl (some ad2) l.length c', Iq q, .pointer (some (ad2.add (q * 3))), .pointer (some (ad2.add (q * 3))), Iq k2, Bf, Bf, Sl (some ad) l.length c, u30, u31, u32, u33, u34, u35, u36, u37, u38, u39, u40, u41, u42, u43, u44, u45, u46, u47, u48, u49, u50, u51, u52, u53, u54], []⟩ (by kernel_rfl) ?_
     refine Rg.take 13 (.int .i64 q) rfl (by kernel_rfl) (by kernel_rfl) (by kernel_rfl) (fun _ _ _ h => h) (by kernel_rfl) (fun _ _ => by kernel_rfl) hH0 ?_
     refine Rg.take 14 (.pointer (some (ad.add (q * 3)))) rfl (by kernel_rfl) (by kernel_rfl) (by kernel_rfl) (fun _ _ _ h => h) (by kernel_rfl) (fun w' _ => Pl.run_index (P := Tryz.prog) (k := 3) Tryz.underlying26 hi hi3 rfl rfl rfl hlt) hH0 ?_
     refine Rg.take 15 (.pointer (some ⟨(ad.add (q * 3)).block, (ad.add (q * 3)).off + 1, none⟩)) rfl (by kernel_rfl) (by kernel_rfl) (by kernel_rfl) (fun _ _ _ h => h) (by kernel_rfl) (fun _ _ => by kernel_rfl) hH0 ?_
     refine Rg.take 16 (.string t) rfl (by kernel_rfl) (by kernel_rfl) (by kernel_rfl) (fun _ _ _ h => h) (by kernel_rfl) (fun w' h => run_cell rfl rfl (by kernel_rfl) h.1.2.1) hH0 ?_
     refine Rg.frame ⟨#[Sl (some ad) l.length c, Sl (some ad2) l.length c', ud, ud, u4, Iq q, Sl (some ad) l.length c, Iq l.length, Sl (some ad2) l.length c', Iq l.length, Bf, Iq q, Sl (some ad) l.length c, Iq l.length, Bt, u15, u16, Sl (some ad) l.length c, Iq q, .pointer (some (ad.add (q * 3))), .pointer (some (ad.add (q * 3))), Iq k, Sl (some ad2) l.length c', Iq q, .pointer (some (ad2.add (q * 3))), .pointer (some (ad2.add (q * 3))), Iq k2, Bf, Bf, Sl (some ad) l.length c, Iq q, .pointer (some (ad.add (q * 3))), .pointer (some ⟨(ad.add (q * 3)).block, (ad.add (q * 3)).off + 1, none⟩), Sg t, u34, u35, u36, u37, u38, u39, u40, u41, u42, u43, u44, u45, u46, u47, u48, u49, u50, u51, u52, u53, u54], []⟩ (by kernel_rfl) ?_
     refine Rg.take 17 (.slice (some ad2) l.length c') rfl (by kernel_rfl) (by kernel_rfl) (by kernel_rfl) (fun _ _ _ h => h) (by kernel_rfl) (fun _ _ => by kernel_rfl) hH0 ?_
     refine Rg.take 18 (.int .i64 q) rfl (by kernel_rfl) (by kernel_rfl) (by kernel_rfl) (fun _ _ _ h => h) (by kernel_rfl) (fun _ _ => by kernel_rfl) hH0 ?_
     refine Rg.take 19 (.pointer (some (ad2.add (q * 3)))) rfl (by kernel_rfl) (by kernel_rfl) (by kernel_rfl) (fun _ _ _ h => h) (by kernel_rfl) (fun w' _ => Pl.run_index (P := Tryz.prog) (k := 3) Tryz.underlying26 hi hi3 rfl rfl rfl hlt) hH0 ?_
     refine Rg.take 20 (.pointer (some ⟨(ad2.add (q * 3)).block, (ad2.add (q * 3)).off + 1, none⟩)) rfl (by kernel_rfl) (by kernel_rfl) (by kernel_rfl) (fun _ _ _ h => h) (by kernel_rfl) (fun _ _ => by kernel_rfl) hH0 ?_
     refine Rg.frame ⟨#[Sl (some ad) l.length c, Sl (some ad2) l.length c', ud, ud, u4, Iq q, Sl (some ad) l.length c, Iq l.length, Sl (some ad2) l.length c', Iq l.length, Bf, Iq q, Sl (some ad) l.length c, Iq l.length, Bt, u15, u16, Sl (some ad) l.length c, Iq q, .pointer (some (ad.add (q * 3))), .pointer (some (ad.add (q * 3))), Iq k, Sl (some ad2) l.length c', Iq q, .pointer (some (ad2.add (q * 3))), .pointer (some (ad2.add (q * 3))), Iq k2, Bf, Bf, Sl (some ad) l.length c, Iq q, .pointer (some (ad.add (q * 3))), .pointer (some ⟨(ad.add (q * 3)).block, (ad.add (q * 3)).off + 1, none⟩), Sg t, Sl (some ad2) l.length c', Iq q, .pointer (some (ad2.add (q * 3))), .pointer (some ⟨(ad2.add (q * 3)).block, (ad2.add (q * 3)).off + 1, none⟩), u38, u39, u40, u41, u42, u43, u44, u45, u46, u47, u48, u49, u50, u51, u52, u53, u54], []⟩ (by kernel_rfl) ?_
     refine Rg.take 21 (.string t2) rfl (by kernel_rfl) (by kernel_rfl) (by kernel_rfl) (fun _ _ _ h => h) (by kernel_rfl) (fun w' h => run_cell rfl rfl (by kernel_rfl) h.2.1.2.1) hH0 ?_
     refine Rg.take 22 (.bool (!e2)) rfl (by kernel_rfl) (by kernel_rfl) (by kernel_rfl) (fun _ _ _ h => h) (by kernel_rfl) (fun _ _ => by rw [← ht]; kernel_rfl) hH0 ?_
     cases e2 with
     | false =>
      refine Rg.idle (by kernel_rfl) (fun _ _ _ _ _ h => h) [23, 24, 25, 26, 27, 28, 29, 30, 31, 32, 33, 34, 35, 36, 37] _ _ ⟨#[Sl (some ad) l.length c, Sl (some ad2) l.length c', ud, ud, u4, Iq q, Sl (some ad) l.length c, Iq l.length, Sl (some ad2) l.length c', Iq l.length, Bf, Iq q, Sl (some ad) l.length c, Iq l.length, Bt, u15, u16, Sl (some ad) l.length c, Iq q, .pointer (some (ad.add (q * 3))), .pointer (some (ad.add (q * 3))), Iq k, Sl (some ad2) l.length c', Iq q, .pointer (some (ad2.add (q * 3))), .pointer (some (ad2.add (q * 3))), Iq k2, Bf, Bf, Sl (some ad) l.length c, Iq q, .pointer (some (ad.add (q * 3))), .pointer (some ⟨(ad.add (q * 3)).block, (ad.add (q * 3)).off + 1, none⟩), Sg t, Sl (some ad2) l.length c', Iq q, .pointer (some (ad2.add (q * 3))), .pointer (some ⟨(ad2.add (q * 3)).block, (ad2.add (q * 3)).off + 1, none⟩), Sg t2, Bt, Bt, Bt, ud, ud, ud, ud, ud, ud, ud, ud, ud, ud, ud, ud, Bt], []⟩ 0 (by kernel_rfl) (by kernel_rfl) hH0 ?_
      refine Rg.frame { tmps := #[.slice (some ad) l.length c, .slice (some ad2) l.length c', undef, undef, u4, .int .i64 q, .slice (some ad) l.length c, .int .i64 l.length, .slice (some ad2) l.length c', .int .i64 l.length, .bool false, .int .i64 q, .slice (some ad) l.length c, .int .i64 l.length, .bool true, u15, u16, .slice (some ad) l.length c, .int .i64 q, .pointer (some (ad.add (q * 3))), .pointer (some (ad.add (q * 3))), .int .i64 k, .slice (some ad2) l.length c', .int .i64 q, .pointer (some (ad2.add (q * 3))), .pointer (some (ad2.add (q * 3))), .int .i64 k2, .bool false, .bool false, .slice (some ad) l.length c, .int .i64 q, .pointer (some (ad.add (q * 3))), .pointer (some ⟨(ad.add (q * 3)).block, (ad.add (q * 3)).off + 1, none⟩), .string t, .slice (some ad2) l.length c', .int .i64 q, .pointer (some (ad2.add (q * 3))), .pointer (some ⟨(ad2.add (q * 3)).block, (ad2.add (q * 3)).off + 1, none⟩), .string t2, .bool true, .bool true, .bool true, undef, undef, undef, undef, undef, undef, undef, undef, undef, undef, undef, undef, .bool true], defers := [] } (by kernel_rfl) ?_
      refine wpAnyH_done (by kernel_rfl) ?_ _
      refine NoPanic.normal ?_
      go_wp2_with fail
      go_ret
      exact ⟨ret_bool HE.out.symm, hH0.2.2⟩
     | true =>
      refine Rg.idle (by kernel_rfl) (fun _ _ _ _ _ h => h) [23, 24] _ _ ⟨#[Sl (some ad) l.length c, Sl (some ad2) l.length c', ud, ud, u4, Iq q, Sl (some ad) l.length c, Iq l.length, Sl (some ad2) l.length c', Iq l.length, Bf, Iq q, Sl (some ad) l.length c, Iq l.length, Bt, u15, u16, Sl (some ad) l.length c, Iq q, .pointer (some (ad.add (q * 3))), .pointer (some (ad.add (q * 3))), Iq k, Sl (some ad2) l.length c', Iq q, .pointer (some (ad2.add (q * 3))), .pointer (some (ad2.add (q * 3))), Iq k2, Bf, Bf, Sl (some ad) l.length c, Iq q, .pointer (some (ad.add (q * 3))), .pointer (some ⟨(ad.add (q * 3)).block, (ad.add (q * 3)).off + 1, none⟩), Sg t, Sl (some ad2) l.length c', Iq q, .pointer (some (ad2.add (q * 3))), .pointer (some ⟨(ad2.add (q * 3)).block, (ad2.add (q * 3)).off + 1, none⟩), Sg t2, Bf, Bf, Bf, u42, u43, u44, u45, u46, u47, u48, u49, u50, u51, u52, u53, u54], []⟩ 13 (by kernel_rfl) (by kernel_rfl) hH0 ?_
      refine Rg.take 25 (.slice (some ad) l.length c) rfl (by kernel_rfl) (by kernel_rfl) (by kernel_rfl) (fun _ _ _ h => h) (by kernel_rfl) (fun _ _ => by kernel_rfl) hH0 ?_
      refine Rg.take 26 (.int .i64 q) rfl (by kernel_rfl) (by kernel_rfl) (by kernel_rfl) (fun _ _ _ h => h) (by kernel_rfl) (fun _ _ => by kernel_rfl) hH0 ?_
      refine Rg.frame ⟨#[Sl (some ad) l.length c, Sl (some ad2) l.length c', ud, ud, u4, Iq q, Sl (some ad) l.length c, Iq l.length, Sl (some ad2) l.length c', Iq l.length, Bf, Iq q, Sl (some ad) l.length c, Iq l.length, Bt, u15, u16, Sl (some ad) l.length c, Iq q, .pointer (some (ad.add (q * 3))), .pointer (some (ad.add (q * 3))), Iq k, Sl (some ad2) l.length c', Iq q, .pointer (some (ad2.add (q * 3))), .pointer (some (ad2.add (q * 3))), Iq k2, Bf, Bf, Sl (some ad) l.length c, Iq q, .pointer (some (ad.add (q * 3))), .pointer (some ⟨(ad.add (q * 3)).block, (ad.add (q * 3)).off + 1, none⟩), Sg t, Sl (some ad2) l.length c', Iq q, .pointer (some (ad2.add (q * 3))), .pointer (some ⟨(ad2.add (q * 3)).block, (ad2.add (q * 3)).off + 1, none⟩), Sg t2, Bf, Bf, Bf, Sl (some ad) l.length c, Iq q, u44, u45, u46, u47, u48, u49, u50, u51, u52, u53, u54], []⟩ (by kernel_rfl) ?_
      refine Rg.take 27 (.pointer (some (ad.add (q * 3)))) rfl (by kernel_rfl) (by kernel_rfl) (by kernel_rfl) (fun _ _ _ h => h) (by kernel_rfl) (fun w' _ => Pl.run_index (P := Tryz.prog) (k := 3) Tryz.underlying26 hi hi3 rfl rfl rfl hlt) hH0 ?_
      refine Rg.take 28 (.pointer (some ⟨(ad.add (q * 3)).block, (ad.add (q * 3)).off + 2, none⟩)) rfl (by kernel_rfl) (by kernel_rfl) (by kernel_rfl) (fun _ _ _ h => h) (by kernel_rfl) (fun _ _ => by kernel_rfl) hH0 ?_
      refine Rg.take 29 (.slice V v.length vc) rfl (by kernel_rfl) (by kernel_rfl) (by kernel_rfl) (fun _ _ _ h => h) (by kernel_rfl) (fun w' h => run_cell rfl rfl (by kernel_rfl) h.1.2.2) hH0 ?_
      refine Rg.take 30 (.slice (some ad2) l.length c') rfl (by kernel_rfl) (by kernel_rfl) (by kernel_rfl) (fun _ _ _ h => h) (by kernel_rfl) (fun _ _ => by kernel_rfl) hH0 ?_
      refine Rg.frame ⟨#[Sl (some ad) l.length c, Sl (some ad2) l.length c', ud, ud, u4, Iq q, Sl (some ad) l.length c, Iq l.length, Sl (some ad2) l.length c', Iq l.length, Bf, Iq q, Sl (some ad) l.length c, Iq l.length, Bt, u15, u16, Sl (some ad) l.length c, Iq q, .pointer (some (ad.add (q * 3))), .pointer (some (ad.add (q * 3))), Iq k, Sl (some ad2) l.length c', Iq q, .pointer (some (ad2.add (q * 3))), .pointer (some (ad2.add (q * 3))), Iq k2, Bf, Bf, Sl (some ad) l.length c, Iq q, .pointer (some (ad.add (q * 3))), .pointer (some ⟨(ad.add (q * 3)).block, (ad.add (q * 3)).off + 1, none⟩), Sg t, Sl (some ad2) l.length c', Iq q, .pointer (some (ad2.add (q * 3))), .pointer (some ⟨(ad2.add (q * 3)).block, (ad2.add (q * 3)).off + 1, none⟩), Sg t2, Bf, Bf, Bf, Sl (some ad) l.length c, Iq q, .pointer (some (ad.add (q * 3))), .pointer (some ⟨(ad.add (q * 3)).block, (ad.add (q * 3)).off + 2, none⟩), Sl V v.length vc, Sl (some ad2) l.length c', u48, u49, u50, u51, u52, u53, u54], []⟩ (by kernel_rfl) ?_
      refine Rg.take 31 (.int .i64 q) rfl (by kernel_rfl) (by kernel_rfl) (by kernel_rfl) (fun _ _ _ h => h) (by kernel_rfl) (fun _ _ => by kernel_rfl) hH0 ?_
      refine Rg.take 32 (.pointer (some (ad2.add (q * 3)))) rfl (by kernel_rfl) (by kernel_rfl) (by kernel_rfl) (fun _ _ _ h => h) (by kernel_rfl) (fun w' _ => Pl.run_index (P := Tryz.prog) (k := 3) Tryz.underlying26 hi hi3 rfl rfl rfl hlt) hH0 ?_
      refine Rg.take 33 (.pointer (some ⟨(ad2.add (q * 3)).block, (ad2.add (q * 3)).off + 2, none⟩)) rfl (by kernel_rfl) (by kernel_rfl) (by kernel_rfl) (fun _ _ _ h => h) (by kernel_rfl) (fun _ _ => by kernel_rfl) hH0 ?_
      refine Rg.take 34 (.slice V2 v2.length vc2) rfl (by kernel_rfl) (by kernel_rfl) (by kernel_rfl) (fun _ _ _ h => h) (by kernel_rfl) (fun w' h => run_cell rfl rfl (by kernel_rfl) h.2.1.2.2) hH0 ?_
      refine Rg.frame ⟨#[Sl (some ad) l.length c, Sl (some ad2) l.length c', ud, ud, u4, Iq q, Sl (some ad) l.length c, Iq l.length, Sl (some ad2) l.length c', Iq l.length, Bf, Iq q, Sl (some ad) l.length c, Iq l.length, Bt, u15, u16, Sl (some ad) l.length c, Iq q, .pointer (some (ad.add (q * 3))), .pointer (some (ad.add (q * 3))), Iq k, Sl (some ad2) l.length c', Iq q, .pointer (some (ad2.add (q * 3))), .pointer (some (ad2.add (q * 3))), Iq k2, Bf, Bf, Sl (some ad) l.length c, Iq q, .pointer (some (ad.add (q * 3))), .pointer (some ⟨(ad.add (q * 3)).block, (ad.add (q * 3)).off + 1, none⟩), Sg t, Sl (some ad2) l.length c', Iq q, .pointer (some (ad2.add (q * 3))), .pointer (some ⟨(ad2.add (q * 3)).block, (ad2.add (q * 3)).off + 1, none⟩), Sg t2, Bf, Bf, Bf, Sl (some ad) l.length c, Iq q, .pointer (some (ad.add (q * 3))), .pointer (some ⟨(ad.add (q * 3)).block, (ad.add (q * 3)).off + 2, none⟩), Sl V v.length vc, Sl (some ad2) l.length c', Iq q, .pointer (some (ad2.add (q * 3))), .pointer (some ⟨(ad2.add (q * 3)).block, (ad2.add (q * 3)).off + 2, none⟩), Sl V2 v2.length vc2, u52, u53, u54], []⟩ (by kernel_rfl) ?_
      refine Rg.call 35 rfl (by kernel_rfl) (by kernel_rfl) 43 #[.slice V v.length vc, .slice V2 v2.length vc2] (by kernel_rfl) (HA.out _ hB0) ?_
      rintro _ w1 ⟨rfl, hb1⟩
      have hH1 := hH0.past hb1
      refine ⟨_, rfl, hH1, ?_⟩
      cases e3 with
      | false =>
       refine Rg.take 36 (.bool true) rfl (by kernel_rfl) (by kernel_rfl) (by kernel_rfl) (fun _ _ _ h => h) (by kernel_rfl) (fun _ _ => by kernel_rfl) hH1 ?_
       refine Rg.idle (by kernel_rfl) (fun _ _ _ _ _ h => h) [37] _ _ ⟨#[Sl (some ad) l.length c, Sl (some ad2) l.length c', ud, ud, u4, Iq q, Sl (some ad) l.length c, Iq l.length, Sl (some ad2) l.length c', Iq l.length, Bf, Iq q, Sl (some ad) l.length c, Iq l.length, Bt, u15, u16, Sl (some ad) l.length c, Iq q, .pointer (some (ad.add (q * 3))), .pointer (some (ad.add (q * 3))), Iq k, Sl (some ad2) l.length c', Iq q, .pointer (some (ad2.add (q * 3))), .pointer (some (ad2.add (q * 3))), Iq k2, Bf, Bf, Sl (some ad) l.length c, Iq q, .pointer (some (ad.add (q * 3))), .pointer (some ⟨(ad.add (q * 3)).block, (ad.add (q * 3)).off + 1, none⟩), Sg t, Sl (some ad2) l.length c', Iq q, .pointer (some (ad2.add (q * 3))), .pointer (some ⟨(ad2.add (q * 3)).block, (ad2.add (q * 3)).off + 1, none⟩), Sg t2, Bf, Bf, Bf, Sl (some ad) l.length c, Iq q, .pointer (some (ad.add (q * 3))), .pointer (some ⟨(ad.add (q * 3)).block, (ad.add (q * 3)).off + 2, none⟩), Sl V v.length vc, Sl (some ad2) l.length c', Iq q, .pointer (some (ad2.add (q * 3))), .pointer (some ⟨(ad2.add (q * 3)).block, (ad2.add (q * 3)).off + 2, none⟩), Sl V2 v2.length vc2, Bf, Bt, Bt], []⟩ 0 (by kernel_rfl) (by kernel_rfl) hH1 ?_
       refine Rg.frame { tmps := #[.slice (some ad) l.length c, .slice (some ad2) l.length c', undef, undef, u4, .int .i64 q, .slice (some ad) l.length c, .int .i64 l.length, .slice (some ad2) l.length c', .int .i64 l.length, .bool false, .int .i64 q, .slice (some ad) l.length c, .int .i64 l.length, .bool true, u15, u16, .slice (some ad) l.length c, .int .i64 q, .pointer (some (ad.add (q * 3))), .pointer (some (ad.add (q * 3))), .int .i64 k, .slice (some ad2) l.length c', .int .i64 q, .pointer (some (ad2.add (q * 3))), .pointer (some (ad2.add (q * 3))), .int .i64 k2, .bool false, .bool false, .slice (some ad) l.length c, .int .i64 q, .pointer (some (ad.add (q * 3))), .pointer (some ⟨(ad.add (q * 3)).block, (ad.add (q * 3)).off + 1, none⟩), .string t, .slice (some ad2) l.length c', .int .i64 q, .pointer (some (ad2.add (q * 3))), .pointer (some ⟨(ad2.add (q * 3)).block, (ad2.add (q * 3)).off + 1, none⟩), .string t2, .bool false, .bool false, .bool false, .slice (some ad) l.length c, .int .i64 q, .pointer (some (ad.add (q * 3))), .pointer (some ⟨(ad.add (q * 3)).block, (ad.add (q * 3)).off + 2, none⟩), .slice V v.length vc, .slice (some ad2) l.length c', .int .i64 q, .pointer (some (ad2.add (q * 3))), .pointer (some ⟨(ad2.add (q * 3)).block, (ad2.add (q * 3)).off + 2, none⟩), .slice V2 v2.length vc2, .bool false, .bool true, .bool true], defers := [] } (by kernel_rfl) ?_
       refine wpAnyH_done (by kernel_rfl) ?_ _
       refine NoPanic.normal ?_
       go_wp2_with fail
       go_ret
       exact ⟨ret_bool HE.out.symm, hH1.2.2⟩
      | true =>
       refine Rg.take 36 (.bool false) rfl (by kernel_rfl) (by kernel_rfl) (by kernel_rfl) (fun _ _ _ h => h) (by kernel_rfl) (fun _ _ => by kernel_rfl) hH1 ?_
       refine Rg.idle (by kernel_rfl) (fun _ _ _ _ _ h => h) [37] _ _ ⟨#[Sl (some ad) l.length c, Sl (some ad2) l.length c', ud, ud, u4, Iq q, Sl (some ad) l.length c, Iq l.length, Sl (some ad2) l.length c', Iq l.length, Bf, Iq q, Sl (some ad) l.length c, Iq l.length, Bt, u15, u16, Sl (some ad) l.length c, Iq q, .pointer (some (ad.add (q * 3))), .pointer (some (ad.add (q * 3))), Iq k, Sl (some ad2) l.length c', Iq q, .pointer (some (ad2.add (q * 3))), .pointer (some (ad2.add (q * 3))), Iq k2, Bf, Bf, Sl (some ad) l.length c, Iq q, .pointer (some (ad.add (q * 3))), .pointer (some ⟨(ad.add (q * 3)).block, (ad.add (q * 3)).off + 1, none⟩), Sg t, Sl (some ad2) l.length c', Iq q, .pointer (some (ad2.add (q * 3))), .pointer (some ⟨(ad2.add (q * 3)).block, (ad2.add (q * 3)).off + 1, none⟩), Sg t2, Bf, Bf, Bf, Sl (some ad) l.length c, Iq q, .pointer (some (ad.add (q * 3))), .pointer (some ⟨(ad.add (q * 3)).block, (ad.add (q * 3)).off + 2, none⟩), Sl V v.length vc, Sl (some ad2) l.length c', Iq q, .pointer (some (ad2.add (q * 3))), .pointer (some ⟨(ad2.add (q * 3)).block, (ad2.add (q * 3)).off + 2, none⟩), Sl V2 v2.length vc2, Bt, Bf, Bf], []⟩ 0 (by kernel_rfl) (by kernel_rfl) hH1 ?_
       refine Rg.frame { tmps := #[.slice (some ad) l.length c, .slice (some ad2) l.length c', undef, undef, u4, .int .i64 q, .slice (some ad) l.length c, .int .i64 l.length, .slice (some ad2) l.length c', .int .i64 l.length, .bool false, .int .i64 q, .slice (some ad) l.length c, .int .i64 l.length, .bool true, u15, u16, .slice (some ad) l.length c, .int .i64 q, .pointer (some (ad.add (q * 3))), .pointer (some (ad.add (q * 3))), .int .i64 k, .slice (some ad2) l.length c', .int .i64 q, .pointer (some (ad2.add (q * 3))), .pointer (some (ad2.add (q * 3))), .int .i64 k2, .bool false, .bool false, .slice (some ad) l.length c, .int .i64 q, .pointer (some (ad.add (q * 3))), .pointer (some ⟨(ad.add (q * 3)).block, (ad.add (q * 3)).off + 1, none⟩), .string t, .slice (some ad2) l.length c', .int .i64 q, .pointer (some (ad2.add (q * 3))), .pointer (some ⟨(ad2.add (q * 3)).block, (ad2.add (q * 3)).off + 1, none⟩), .string t2, .bool false, .bool false, .bool false, .slice (some ad) l.length c, .int .i64 q, .pointer (some (ad.add (q * 3))), .pointer (some ⟨(ad.add (q * 3)).block, (ad.add (q * 3)).off + 2, none⟩), .slice V v.length vc, .slice (some ad2) l.length c', .int .i64 q, .pointer (some (ad2.add (q * 3))), .pointer (some ⟨(ad2.add (q * 3)).block, (ad2.add (q * 3)).off + 2, none⟩), .slice V2 v2.length vc2, .bool true, .bool false, .bool false], defers := [] } (by kernel_rfl) ?_
       refine wpAnyH_done (by kernel_rfl) ?_ _
       refine NoPanic.normal ?_
       go_wp2_with fail
       exact ⟨⟨q + 1, by omega, by go_num, HE.out, hH1.2.2⟩, by simp [intOf]; omega⟩
   ·have hE2 := hE.out
    rw [List.drop_eq_nil_of_le (by omega), List.drop_eq_nil_of_le (by have := HN.out; omega), eqMos] at hE2
    have HE := Lib.hid hE2
    clear hE hE2
    go_wp2_with fail
    go_ret
    exact ⟨ret_bool HE.out.symm, hb⟩
 ·have hr := Lib.hid (eqMos_len hn)
  have h1 : ((l.length : Int) != l'.length) = true := by rw [bne_iff_ne]; omega
  clear hn
  go_enter Tryz.func44, Tryz.ntmps44
  go_wp2_with fail
  go_ret
  exact ⟨ret_bool hr.out.symm, Below.refl _ _⟩
end Go.Proofs.YtconghaebebncaaGreatDoor.Ms
