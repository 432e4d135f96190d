/- FramePlays: the walk. -/
import Derived.Test.YtiaghkngafajgaaCopy
import Derived.Test.YtiaghkngafajgaaLists
import Derived.Deep.RegionHeld3
import Derived.Deep.LoopGhost
namespace Go.Proofs.Ytiaghkngafajgaa
open Go.RowKit
set_option linter.unusedVariables false
set_option maxRecDepth 100000

theorem Cut.drew {w : World} {p g : Nat} {l : List UInt8} (h : Cut w p g l) : Cut w.drew p g l := ⟨h.box, h.room, h.lt2⟩
theorem Ref.drew {w : World} {q : Nat} {l : List UInt8} (h : Ref w q l) : Ref w.drew q l := h
theorem Kept.undrew {S : Nat → Prop} {w w' : World} (h : Kept S w.drew w') : Kept S w w' := ⟨h.os, h.tape, h.output, h.size, h.block⟩
theorem Cut.ref {w w' : World} {p g q : Nat} {l : List UInt8} (h : Cut w p g l) (k : Kept (· = q) w w') (hp : p ≠ q) (hg : g ≠ q) : Cut w' p g l := h.kept k hp hg
theorem two_not {p g q : Nat} (hp : q ≠ p) (hg : q ≠ g) : ¬ Two p g q := fun h => h.elim hp hg

set_option maxHeartbeats 1000000 in
theorem plays_many (A : Option Addr) (c n : Nat) (B : Option Addr) (m d : Nat) (w : World) (hl : 40 < (n : Int)) :
    Calls Try.prog 3 #[.slice A n c, .slice B m d] w fun r w' => r = .returned (.bool true) ∧ Below w.heap.size w w' := by
  go_enter Try.func3, Try.ntmps3
  go_wp2_with fail
  refine (fknown_any _).mono ?_
  rintro r w1 ⟨rfl, hb1⟩
  go_wp2_with fail
  go_ret
  exact ⟨rfl, hb1⟩

set_option maxHeartbeats 4000000 in
theorem plays_few (A : Option Addr) (c : Nat) (ss : List ByteArray) (B : Option Addr) (d : Nat) (xs : List Int) (w : World) (hl : (ss.length : Int) ≤ 40) (hS : StrsAt w A ss) (hz : ∀ s ∈ ss, s.size ≤ maxLen) (hX : NumsAt w B xs) (hm : xs.length ≤ maxLen) :
    Calls Try.prog 3 #[.slice A ss.length c, .slice B xs.length d] w fun r w' => r = .returned (.bool true) ∧ Below w.heap.size w w' := by
  have CN := Lib.hid New_any
  go_enter Try.func3, Try.ntmps3
  go_wp2_with fail
  refine (fknown_any _).mono ?_
  rintro r w1 ⟨rfl, hb1⟩
  go_wp2_with fail
  refine (CN.out _).mono ?_
  rintro r w2 ⟨rfl, h2, hb2, hs2⟩
  have hb12 := hb1.trans (hb2.mono hb1.size)
  have sz1 := hb1.size
  go_wp2_with fail
  have hq0 : Ref (w2.alloc (.cells #[.string ⟨#[]⟩] 29)) (w1.heap.size + 1) [] := ⟨_, by rw [← hs2]; exact Blk.new w2 _ _, rfl⟩
  have hp0 : Cut (w2.alloc (.cells #[.string ⟨#[]⟩] 29)) w1.heap.size w1.heap.size [] := h2.past ((Below.refl _ _).alloc (Nat.le_refl _) _)
  have hb0 := hb12.alloc hb12.size (.cells #[.string ⟨#[]⟩] 29)
  obtain ⟨p, hp⟩ : ∃ p, p = w1.heap.size := ⟨_, rfl⟩
  rw [← hp] at hq0 hp0 sz1 ⊢
  clear h2 hb2 hs2 hb12 hb1 CN hp
  go_loopw [7] (fun i wr => ∃ (k g : Nat) (L : List UInt8), k ≤ ss.length ∧ i = .int .i64 k ∧ Cut wr p g L ∧ Ref wr (p + 1) L ∧ Below w.heap.size w wr ∧ w.heap.size ≤ g ∧ g ≠ p + 1) (fun i wr => ss.length - (intOf i).toNat)
  case atStart => exact ⟨0, p, [], Nat.zero_le _, rfl, hp0, hq0, hb0, sz1, by omega⟩
  case round =>
    obtain ⟨k, g, L, hk, rfl, hC, hR, hb, hg, hgq⟩ := hrel
    by_cases hlt : k < ss.length
    · obtain ⟨ad, rfl, hpd, u0⟩ := hS.kid hb hlt
      have hsz := hz _ (List.getElem_mem hlt)
      have Hu : Hid (∀ w', Below w.heap.size w w' → w'.cell? (ad.add k) = some (.string ss[k])) := fun w' hb' => hS.at_ hb' hlt
      generalize ss[k] = s at u0 hsz Hu
      by_cases h6 : 6000 < (s.size : Int)
      · go_wp2_with fail
        go_ret
        exact ⟨rfl, hb⟩
      · have h6' : (s.size : Int) ≤ 6000 := by omega
        clear h6
        go_wp2_with fail
        refine (Copy_any p g L _ hC).mono ?_
        rintro r w3 ⟨p2, g2, rfl, hp2, hg2, hD, hb3⟩
        have Hb3 := hb.trans (hb3.mono hb.size)
        have u3 := Hu.out _ Hb3
        have hC3 := hC.past hb3
        have hR3 : Ref w3 (p + 1) L := hR.kept (Kept.of_below (fun _ => False) hb3) (fun h => h)
        obtain ⟨L4, e4, hfd⟩ : ∃ L4 e4, fd L s.data.toList = (L4, e4) := ⟨_, _, rfl⟩
        have hrm := hC.room
        have HF : Hid (Calls Try.prog 9 #[.pointer (some ⟨p, 0, none⟩), .string s] w3.drew fun e w' => e = .returned (.int .i64 e4) ∧ ∃ g', (g' = g ∨ w3.heap.size ≤ g' ∧ g' < w'.heap.size) ∧ Cut w' p g' L4 ∧ Kept (Two p g) w3.drew w') := by
          have := Feed_any p g L s w3.drew hC3.drew hsz
          rw [hfd] at this
          exact this
        have HR : Hid (∀ wF, Ref wF (p + 1) L → Calls Try.prog 10 #[.pointer (some ⟨p + 1, 0, none⟩), .string s] wF fun e w' => e = .returned (.int .i64 e4) ∧ Ref w' (p + 1) L4 ∧ Kept (· = p + 1) wF w') := fun wF h => by
          have := RFeed_any (p + 1) L s wF h hrm (by omega)
          rw [hfd] at this
          exact this
        have l1 := hC.lt
        have l2 := hC.lt2
        have l3 := hR.lt
        have l4 := hD.lt
        have l5 := hD.lt2
        have l6 := hb3.size
        have l7 := hb.size
        have l8 := Hb3.size
        clear hfd hC hR
        go_wp2_with fail
        go_region_held3 (fun w' => w'.cell? (ad.add k) = some (.string s)) (first | go_keep | exact Hu.out _ bZ | exact Hu.out _ bF) (first | (go_at_call 9; refine HF.out.mono ?_; rintro r wF ⟨rfl, g4, hg4, hCF, kF⟩; have hRF := hR3.drew.kept kF (two_not (by omega) (by omega)); have hDF := hD.drew.kept kF (fun h => by rcases h with h | h <;> omega) (fun h => by rcases h with h | h <;> omega); have bF := kF.own Hb3.drew (by exact l8) (fun i h => h.ge sz1 hg)) | (go_at_call 10; refine (HR.out _ hRF).mono ?_; rintro r wZ ⟨rfl, hRZ, kZ⟩; have bZ := kZ.own bF (by have := kF.size; exact Nat.le_trans l8 this) (fun i h => by omega)))
        have l9 : w3.heap.size ≤ wF.heap.size := kF.size
        have hgq4 : g4 ≠ p + 1 := by omega
        have hg4' : w.heap.size ≤ g4 := by omega
        have hCZ := hCF.ref kZ (by omega) hgq4
        have hDZ := hDF.ref kZ (by omega) (by omega)
        have n1 : p ≠ p2 := by omega
        have n2 : p ≠ g2 := by omega
        have n3 : g4 ≠ p2 := by omega
        have n4 : g4 ≠ g2 := by omega
        have n5 : p + 1 ≠ p2 := by omega
        have n6 : p + 1 ≠ g2 := by omega
        have n7 : w.heap.size ≤ p2 := by omega
        have n8 : w.heap.size ≤ g2 := by omega
        have n9 : w.heap.size ≤ wZ.heap.size := bZ.size
        clear l1 l2 l3 l4 l5 l6 l7 l8 l9 HF HR hRF hDF hCF kF bF kZ hg4 hD hC3 hR3 hb3 hb Hb3 u3 u0 hrm
        go_wp2_with fail
        refine (Feed_any p2 g2 L ⟨#[120]⟩ wZ hDZ (by decide)).mono ?_
        rintro r w5 ⟨rfl, g5, hg5, hD5, k5⟩
        have hC5 := hCZ.kept k5 (two_not n1 n2) (two_not n3 n4)
        have hR5 := hRZ.kept k5 (two_not n5 n6)
        have b5 := k5.own bZ n9 (fun i h => h.ge n7 n8)
        clear hCZ hRZ bZ k5 hDZ hD5 hg5 n1 n2 n3 n4 n5 n6 n7 n8 n9
        generalize (fd L (⟨#[120]⟩ : ByteArray).data.toList).2 = e5
        by_cases hi : k < xs.length
        · obtain ⟨bd, rfl, hbd, ux, x0, x1⟩ := hX.kid b5 hi
          generalize xs[k] = x at ux x0 x1
          go_wp2_with fail
          obtain ⟨nn, hnn⟩ : ∃ nn, nn = x % 4 := ⟨_, rfl⟩
          rw [← hnn]
          have nn0 : 0 ≤ nn := by omega
          have nn1 : nn ≤ 3 := by omega
          clear hnn ux
          go_loopw [10] (fun j wz => ∃ (jj : Nat) (M : List UInt8), j = .int .i64 jj ∧ (jj : Int) ≤ nn ∧ Cut wz p g4 M ∧ Ref wz (p + 1) M ∧ Below w.heap.size w wz) (fun j wz => 4 - (intOf j).toNat)
          case atStart => exact ⟨0, L4, rfl, by omega, hC5, hR5, b5⟩
          case round =>
            obtain ⟨jj, M, rfl, hj, hC6, hR6, b6⟩ := hrel
            by_cases hjl : (jj : Int) < nn
            · obtain ⟨m1, v1, M1, hnx⟩ : ∃ a b c, nx M = (a, b, c) := ⟨_, _, _, rfl⟩
              have hrm := hC6.room
              have HN : Hid (Calls Try.prog 11 #[.pointer (some ⟨p, 0, none⟩)] wr fun e w' => e = .returned (.tuple #[.string ⟨m1.toArray⟩, .int .i64 v1]) ∧ Cut w' p g4 M1 ∧ Kept (Two p g4) wr w') := by
                have := Next_any p g4 M wr hC6
                unfold nxV at this
                rw [hnx] at this
                exact this
              have HM : Hid (∀ wF, Ref wF (p + 1) M → Calls Try.prog 12 #[.pointer (some ⟨p + 1, 0, none⟩)] wF fun e w' => e = .returned (.tuple #[.string ⟨m1.toArray⟩, .int .i64 v1]) ∧ Ref w' (p + 1) M1 ∧ Kept (· = p + 1) wF w') := fun wF h => by
                have := RNext_any (p + 1) M wF h hrm
                unfold nxV at this
                rw [hnx] at this
                exact this
              have z6 := b6.size
              clear hnx hC6 hrm hC5 hR5
              go_wp2_with fail
              refine HN.out.mono ?_
              rintro r w7 ⟨rfl, hC7, k7⟩
              have hR7 := hR6.kept k7 (two_not (by omega) (by omega))
              have b7 := k7.own b6 z6 (fun i h => h.ge sz1 hg4')
              have z7 := b7.size
              clear HN k7 hR6 b6
              go_wp2_with fail
              refine (HM.out _ hR7).mono ?_
              rintro r w8 ⟨rfl, hR8, k8⟩
              have hC8 := hC7.ref k8 (by omega) hgq4
              have b8 := k8.own b7 z7 (fun i h => by omega)
              obtain ⟨sr, hBr, hsr⟩ := hR8
              have c8 : w8.cell? ⟨p + 1, 0, none⟩ = some (.string sr) := hBr.cell 0
              have hsz8 : (sr.size : Int) = M1.length := by
                have : sr.data.toList.length = sr.size := rfl
                rw [hsr] at this
                omega
              clear HM k8 hR7 hC7 b7
              go_wp2_with fail
              go_region_held3 (fun w' => w'.cell? ⟨p + 1, 0, none⟩ = some (.string sr)) (first | go_keep) (first | (go_at_call 13; refine (Left_any p g4 M1 _ hC8.drew).mono ?_; rintro r w9 ⟨rfl, rfl⟩))
              all_goals go_wp2_with fail
              all_goals go_roundw
              case rel => exact ⟨jj + 1, M1, by go_num, by omega, hC8.drew, ⟨sr, hBr.drew, hsr⟩, b8.drew⟩
              case measure => simp [intOf]; omega
            · go_wp2_with fail
              go_roundw
              case rel => exact ⟨k + 1, g4, M, by omega, by go_num, hC6, hR6, b6, hg4', hgq4⟩
              case measure => simp [intOf]; omega
        · go_wp2_with fail
          go_loopw [10] (fun j wz => ∃ (jj : Nat) (M : List UInt8), j = .int .i64 jj ∧ (jj : Int) ≤ 1 ∧ Cut wz p g4 M ∧ Ref wz (p + 1) M ∧ Below w.heap.size w wz) (fun j wz => 4 - (intOf j).toNat)
          case atStart => exact ⟨0, L4, rfl, by omega, hC5, hR5, b5⟩
          case round =>
            obtain ⟨jj, M, rfl, hj, hC6, hR6, b6⟩ := hrel
            by_cases hjl : (jj : Int) < 1
            · obtain ⟨m1, v1, M1, hnx⟩ : ∃ a b c, nx M = (a, b, c) := ⟨_, _, _, rfl⟩
              have hrm := hC6.room
              have HN : Hid (Calls Try.prog 11 #[.pointer (some ⟨p, 0, none⟩)] wr fun e w' => e = .returned (.tuple #[.string ⟨m1.toArray⟩, .int .i64 v1]) ∧ Cut w' p g4 M1 ∧ Kept (Two p g4) wr w') := by
                have := Next_any p g4 M wr hC6
                unfold nxV at this
                rw [hnx] at this
                exact this
              have HM : Hid (∀ wF, Ref wF (p + 1) M → Calls Try.prog 12 #[.pointer (some ⟨p + 1, 0, none⟩)] wF fun e w' => e = .returned (.tuple #[.string ⟨m1.toArray⟩, .int .i64 v1]) ∧ Ref w' (p + 1) M1 ∧ Kept (· = p + 1) wF w') := fun wF h => by
                have := RNext_any (p + 1) M wF h hrm
                unfold nxV at this
                rw [hnx] at this
                exact this
              have z6 := b6.size
              clear hnx hC6 hrm hC5 hR5
              go_wp2_with fail
              refine HN.out.mono ?_
              rintro r w7 ⟨rfl, hC7, k7⟩
              have hR7 := hR6.kept k7 (two_not (by omega) (by omega))
              have b7 := k7.own b6 z6 (fun i h => h.ge sz1 hg4')
              have z7 := b7.size
              clear HN k7 hR6 b6
              go_wp2_with fail
              refine (HM.out _ hR7).mono ?_
              rintro r w8 ⟨rfl, hR8, k8⟩
              have hC8 := hC7.ref k8 (by omega) hgq4
              have b8 := k8.own b7 z7 (fun i h => by omega)
              obtain ⟨sr, hBr, hsr⟩ := hR8
              have c8 : w8.cell? ⟨p + 1, 0, none⟩ = some (.string sr) := hBr.cell 0
              have hsz8 : (sr.size : Int) = M1.length := by
                have : sr.data.toList.length = sr.size := rfl
                rw [hsr] at this
                omega
              clear HM k8 hR7 hC7 b7
              go_wp2_with fail
              go_region_held3 (fun w' => w'.cell? ⟨p + 1, 0, none⟩ = some (.string sr)) (first | go_keep) (first | (go_at_call 13; refine (Left_any p g4 M1 _ hC8.drew).mono ?_; rintro r w9 ⟨rfl, rfl⟩))
              all_goals go_wp2_with fail
              all_goals go_roundw
              case rel => exact ⟨jj + 1, M1, by go_num, by omega, hC8.drew, ⟨sr, hBr.drew, hsr⟩, b8.drew⟩
              case measure => simp [intOf]; omega
            · go_wp2_with fail
              go_roundw
              case rel => exact ⟨k + 1, g4, M, by omega, by go_num, hC6, hR6, b6, hg4', hgq4⟩
              case measure => simp [intOf]; omega
    · have hk2 : k = ss.length := by omega
      obtain ⟨sr, hBr, hsr⟩ := hR
      have c8 : wr.cell? ⟨p + 1, 0, none⟩ = some (.string sr) := hBr.cell 0
      have hsz8 : (sr.size : Int) = L.length := by
        have : sr.data.toList.length = sr.size := rfl
        rw [hsr] at this
        omega
      go_wp2_with fail
      go_region_held3 (fun w' => w'.cell? ⟨p + 1, 0, none⟩ = some (.string sr)) (first | go_keep) (first | (go_at_call 13; refine (Left_any p g L _ hC.drew).mono ?_; rintro r w9 ⟨rfl, rfl⟩))
      all_goals go_wp2_with fail
      all_goals go_ret
      all_goals exact ⟨ret_bool (by simp), hb.drew⟩

theorem walk_FramePlays (w : World) (A : Option Addr) (len cap : Nat) (ss : List ByteArray) (h : StrsIn w A len ss) (B : Option Addr) (len2 cap2 : Nat) (xs : List Int) (h2 : NumsIn w B len2 xs) (hm : len2 ≤ maxLen) :
    Calls Try.prog 3 #[.slice A len cap, .slice B len2 cap2] w fun r w' => r = .returned (.bool true) ∧ Below w.heap.size w w' := by
  obtain ⟨rfl, hS, hz⟩ := h
  obtain ⟨rfl, hX⟩ := h2
  by_cases hl : 40 < (ss.length : Int)
  · exact plays_many A cap ss.length B xs.length cap2 w hl
  · exact plays_few A cap ss B cap2 xs w (by omega) hS hz hX hm
end Go.Proofs.Ytiaghkngafajgaa
