/- What PrintRDN and Print answer. -/
import Derived.Test.YtfgcmljlamodbaaNIs
import Derived.Test.YtfgcmljlamodbaaNVal
import Derived.Test.YtfgcmljlamodbaaNPrSpec
namespace Go.Proofs.Ytfgcmljlamodbaa
open Go.RowKit
set_option linter.unusedVariables false
set_option maxRecDepth 100000

theorem bs_mk (l : List UInt8) : Nm.bs (Nm.mk l) = l := rfl
def prRdnV (r : List Nm.Ava) : List UInt8 := if Nm.isRdn r then Nm.prRdn r else []
def prDnV (d : List (List Nm.Ava)) : List UInt8 := if Nm.isDn d then Nm.prDn d else []
set_option maxHeartbeats 1000000 in
theorem prRdn_any (r : List Nm.Ava) (A : Option Addr) (c : Nat) (w : World) (hr : RAt w (· < w.heap.size) A r) (hl : r.length ≤ maxLen) (hcap : r.length ≤ c) :
    Calls Try.prog 24 #[.slice A r.length c] w fun e w' => e = .returned (.string (Nm.mk (prRdnV r))) ∧ Below w.heap.size w w' := by
  have CI := isRdn_any r A c w hr hl hcap
  unfold maxLen at hl
  by_cases h0 : Nm.isRdn r = false
  · have hF := Lib.hid (show prRdnV r = [] by unfold prRdnV; rw [h0]; rfl)
    rw [h0] at CI
    have HC := Lib.hid CI
    clear CI
    go_enter Try.func24, Try.ntmps24
    go_wp2_with fail
    refine HC.out.mono ?_
    rintro e w1 ⟨rfl, hb1⟩
    go_wp2_with fail
    go_ret
    exact ⟨by rw [hF.out]; rfl, hb1⟩
  have h1 : Nm.isRdn r = true := by simpa using h0
  obtain ⟨l1, l4, hok⟩ := Nm.isRdn_all h1
  have hF := Lib.hid (show prRdnV r = Nm.prRdn r by unfold prRdnV; rw [h1]; rfl)
  rw [h1] at CI
  have HC := Lib.hid CI
  have HOK := Lib.hid hok
  have CV := Lib.hid appV_any
  clear CI h0 h1 hok
  go_enter Try.func24, Try.ntmps24
  go_wp2_with fail
  refine HC.out.mono ?_
  rintro e w1 ⟨rfl, hb1⟩
  have hr1 := hr.past hb1
  clear hr
  go_wp2_with fail
  go_loopw [3, 11] (fun b i wr => ∃ k : Nat, k ≤ r.length ∧ i = .int .i64 k ∧ Own wr w1.heap.size b (Nm.prRdn (r.take k)) ∧ Below w1.heap.size w1 wr) (fun b i wr => r.length - (intOf i).toNat)
  case atStart => exact ⟨0, Nat.zero_le _, rfl, Own.nil _ _, Below.refl _ _⟩
  case round =>
    obtain ⟨k, hk, rfl, hO, hb2⟩ := hrel
    have hs := hb2.size
    by_cases hlt : k < r.length
    · obtain ⟨ad, rfl, hp, f0, f1⟩ := hr1.kid hb2 hlt
      have hle := Nm.prRdn_take_le HOK.out k hk
      have hok := HOK.out r[k] (List.getElem_mem hlt)
      have hle2 := Nm.okAva_le hok
      have hst := Nm.prRdn_step hlt
      obtain ⟨x, hx⟩ : ∃ x, x = r[k].1 := ⟨_, rfl⟩
      obtain ⟨y, hy⟩ : ∃ y, y = r[k].2 := ⟨_, rfl⟩
      have hpa : Nm.prAva r[k] = Nm.bs x ++ 61 :: Nm.escV true (Nm.bs y) := by rw [hx, hy]; rfl
      rw [hpa] at hst
      rw [← hx, ← hy] at hle2
      rw [← hx] at f0
      rw [← hy] at f1
      obtain ⟨hx16, _, _, hy60⟩ := hle2
      have HST := Lib.hid hst
      obtain ⟨L, hL⟩ : ∃ L, L = Nm.prRdn (r.take k) := ⟨_, rfl⟩
      rw [← hL] at hle hO HST
      have bx := Blk.new wr 47 #[.string x, .string y]
      have hO2 := hO.alloc (.cells #[.string x, .string y] 47)
      have hbw := hb2.alloc hs (.cells #[.string x, .string y] 47)
      clear hst hpa hx hy hok hL
      have B43 : Hid (∀ w : World, Blk (w.alloc (.cells #[.int .u8 43] 5)) w.heap.size 5 (Lib.byteCells [43]).toArray) := fun w => Blk.new w _ _
      have B61 : Hid (∀ w : World, Blk (w.alloc (.cells #[.int .u8 61] 5)) w.heap.size 5 (Lib.byteCells [61]).toArray) := fun w => Blk.new w _ _
      have HB2 := Lib.hid hbw
      clear hbw hb2
      have h0k : (¬ 0 < k ∧ Hid ((if k = 0 then [] else L ++ [43]) = L)) ∨ (0 < k ∧ Hid ((if k = 0 then [] else L ++ [43]) = L ++ [43])) := by
        by_cases h : k = 0
        · refine Or.inl ⟨by omega, ?_⟩
          show _ = _
          have : L.length = 0 := by omega
          rw [if_pos h, List.eq_nil_of_length_eq_zero this]
        · exact Or.inr ⟨by omega, by show _ = _; rw [if_neg h]⟩
      rcases h0k with ⟨hk0, hif⟩ | ⟨hk0, hif⟩
      focus
        have q0 : (wr.alloc (.cells #[.string x, .string y] 47)).cell? ⟨wr.heap.size, 0, none⟩ = some (.string x) := bx.cell 0
        rw [hif.out] at HST
        go_wp2_with (at_builtin; go_loud (refine wpList_pushS rfl _ _ rfl w1.heap.size u3 L rfl hO2 x rfl (by omega) (by simp; omega) ?_))
        intro v2 w2 hO3 hb3 hg3
        have bx3 := bx.grown hg3 (hO2.ne bx (by decide))
        have hb4 := HB2.out.trans hb3
        obtain ⟨M, hM⟩ : ∃ M, M = L := ⟨_, rfl⟩
        rw [← hM] at HST hO3 hle
        clear hM
        have hle : M.length ≤ 198 * k + 1 := by omega
      rotate_left
      focus
        have hbP0 := HB2.out.alloc (by simp; omega) (.cells #[.int .u8 43] 5)
        have B43 := B43.out (wr.alloc (.cells #[.string x, .string y] 47))
        rw [show (wr.alloc (.cells #[.string x, .string y] 47)).heap.size = wr.heap.size + 1 by simp] at B43
        rw [hif.out] at HST
        go_wp2_with (at_builtin; go_loud (refine wpList_push rfl _ _ rfl w1.heap.size u3 L rfl (hO2.alloc _) (wr.heap.size + 1) 1 1 [43] rfl rfl B43 (by simp; omega) (by simp; omega) ?_))
        intro vP wP hOP hbP hgP
        have bxP := (bx.alloc (.cells #[.int .u8 43] 5)).grown hgP ((hO2.alloc (.cells #[.int .u8 43] 5)).ne (bx.alloc (.cells #[.int .u8 43] 5)) (by decide))
        have q0 : wP.cell? ⟨wr.heap.size, 0, none⟩ = some (.string x) := bxP.cell 0
        have hbP1 := hbP0.trans hbP
        have hsP := hbP1.size
        obtain ⟨M, hM⟩ : ∃ M, M = L ++ [43] := ⟨_, rfl⟩
        have hle2 : M.length ≤ 198 * k + 1 := by rw [hM, List.length_append, List.length_singleton]; omega
        rw [← hM] at HST hOP
        clear hM hle hbP0 hbP B43
        go_wp2_with (at_builtin; go_loud (refine wpList_pushS rfl _ _ rfl w1.heap.size vP M rfl hOP x rfl (by omega) (by omega) ?_))
        intro v2 w2 hO3 hb3 hg3
        have bx3 := bxP.grown hg3 (hOP.ne bxP (by decide))
        have hb4 := hbP1.trans hb3
        have hle : M.length ≤ 198 * k + 1 := hle2
      rotate_left
      all_goals
        have hs4 := hb4.size
        have B61 := B61.out w2
        have hl4 : (M ++ Nm.bs x).length ≤ 198 * k + 17 := by rw [List.length_append, size_eq]; omega
        clear hO hO2 bx HB2 q0
        go_wp2_with (at_builtin; go_loud (refine wpList_push rfl _ _ rfl w1.heap.size v2 (M ++ Nm.bs x) rfl (hO3.alloc _) w2.heap.size 1 1 [61] rfl rfl B61 (by simp only [List.length_singleton]; omega) (by simp; omega) ?_))
        intro v5 w5 hO5 hb5 hg5
        have bx5 := (bx3.alloc (.cells #[.int .u8 61] 5)).grown hg5 ((hO3.alloc (.cells #[.int .u8 61] 5)).ne (bx3.alloc (.cells #[.int .u8 61] 5)) (by decide))
        have q1 : w5.cell? ⟨wr.heap.size, 1, none⟩ = some (.string y) := bx5.cell 1
        have hb6 := (hb4.alloc hs4 _).trans hb5
        have hs6 := hb6.size
        clear hO3 hb3 hg3 bx3 hb4 B61 hb5 hg5
        go_wp2_with fail
        refine (CV.out w1.heap.size v5 _ y w5 hO5 (by simp only [List.length_append, List.length_singleton] at hl4 ⊢; omega) (by omega) (by omega)).mono ?_
        rintro e w7 ⟨v7, rfl, hO7, hb7⟩
        have hb8 := hb6.trans hb7
        obtain ⟨A7, n7, c7, rfl⟩ := hO7.form3
        have HO7 := Lib.hid hO7
        clear hO7 hO5 hb7 hb6 bx5 q1
        go_wp2_with fail
        go_roundw
        case rel =>
          refine ⟨k + 1, by omega, by go_num, ?_, hb8⟩
          rw [HST.out]
          have := HO7.out
          simp only [List.append_assoc, List.singleton_append] at this
          exact this
        case measure => simp [intOf]; omega
    · have hk2 : k = r.length := by omega
      rw [hk2, List.take_length] at hO
      have E := hO.string
      clear hk2
      go_wp2_with fail
      go_ret
      exact ⟨by rw [hF.out]; rfl, hb1.trans (hb2.mono hb1.size)⟩
theorem prRdnV_of {r : List Nm.Ava} (h : Nm.isRdn r = true) : prRdnV r = Nm.prRdn r := by unfold prRdnV; rw [h]; rfl
set_option maxHeartbeats 1000000 in
theorem prDn_any (d : List (List Nm.Ava)) (A : Option Addr) (c : Nat) (w : World) (hd : DAt w (· < w.heap.size) A d) (hl : d.length ≤ maxLen) (hk : ∀ r ∈ d, r.length ≤ maxLen) :
    Calls Try.prog 23 #[.slice A d.length c] w fun e w' => e = .returned (.string (Nm.mk (prDnV d))) ∧ Below w.heap.size w w' := by
  have CI := isDn_any d A c w hd hl hk
  unfold maxLen at hl
  by_cases h0 : Nm.isDn d = false
  · have hF := Lib.hid (show prDnV d = [] by unfold prDnV; rw [h0]; rfl)
    rw [h0] at CI
    have HC := Lib.hid CI
    clear CI
    go_enter Try.func23, Try.ntmps23
    go_wp2_with fail
    refine HC.out.mono ?_
    rintro e w1 ⟨rfl, hb1⟩
    go_wp2_with fail
    go_ret
    exact ⟨by rw [hF.out]; rfl, hb1⟩
  have h1 : Nm.isDn d = true := by simpa using h0
  obtain ⟨l8, hok⟩ := Nm.isDn_all h1
  have hF := Lib.hid (show prDnV d = Nm.prDn d by unfold prDnV; rw [h1]; rfl)
  rw [h1] at CI
  have HC := Lib.hid CI
  have HOK := Lib.hid hok
  have CP := Lib.hid prRdn_any
  have HK := Lib.hid (fun (k : Nat) (h : k < d.length) => hk d[k] (List.getElem_mem h))
  clear CI h0 h1 hok hk
  go_enter Try.func23, Try.ntmps23
  go_wp2_with fail
  refine HC.out.mono ?_
  rintro e w1 ⟨rfl, hb1⟩
  have hd1 := hd.past hb1
  clear hd
  go_wp2_with fail
  go_loopw [3, 11] (fun b i wr => ∃ k : Nat, k ≤ d.length ∧ i = .int .i64 k ∧ Own wr w1.heap.size b (Nm.prDn (d.take k)) ∧ Below w1.heap.size w1 wr) (fun b i wr => d.length - (intOf i).toNat)
  case atStart => exact ⟨0, Nat.zero_le _, rfl, Own.nil _ _, Below.refl _ _⟩
  case round =>
    obtain ⟨k, hk, rfl, hO, hb2⟩ := hrel
    have hs := hb2.size
    by_cases hlt : k < d.length
    · obtain ⟨ad, A', c', rfl, hp, g0, hc', hR⟩ := hd1.kid (Below.refl _ _) hlt
      have f0 := batA hb2 (by rw [block_of_add]; exact hp) g0
      have hle := Nm.prDn_take_le HOK.out k hk
      have hok := HOK.out d[k] (List.getElem_mem hlt)
      have hle2 := Nm.prRdn_le hok
      have hst := Nm.prDn_step hlt
      have hpv := prRdnV_of hok
      have HCP := fun w (h : RAt w (· < w.heap.size) A' d[k]) => CP.out d[k] A' c' w h (HK.out k hlt) hc'
      rw [hpv] at HCP
      obtain ⟨m, hm⟩ : ∃ m, m = d[k].length := ⟨_, rfl⟩
      rw [← hm] at f0 g0 HCP
      obtain ⟨r, hr⟩ : ∃ r, r = d[k] := ⟨_, rfl⟩
      rw [← hr] at HCP hst hle2 hR
      obtain ⟨x, hx⟩ : ∃ x : ByteArray, x = Nm.mk (Nm.prRdn r) := ⟨_, rfl⟩
      have hxb : Nm.prRdn r = Nm.bs x := by rw [hx]
      have hxs : x.size ≤ 792 := by rw [← size_eq]; show (Nm.bs x).length ≤ 792; rw [← hxb]; exact hle2
      rw [← hx] at HCP
      rw [hxb] at hst
      have HST := Lib.hid hst
      have HP := Lib.hid HCP
      have HR := Lib.hid hR
      obtain ⟨L, hL⟩ : ∃ L, L = Nm.prDn (d.take k) := ⟨_, rfl⟩
      rw [← hL] at hle hO HST
      have HB2 := Lib.hid hb2
      clear hst hpv hok hm hr hx hxb hL hle2 HCP hR hc' hb2 g0
      have h0k : (¬ 0 < k ∧ Hid ((if k = 0 then [] else L ++ [44]) = L)) ∨ (0 < k ∧ Hid ((if k = 0 then [] else L ++ [44]) = L ++ [44])) := by
        by_cases h : k = 0
        · refine Or.inl ⟨by omega, ?_⟩
          show _ = _
          have : L.length = 0 := by omega
          rw [if_pos h, List.eq_nil_of_length_eq_zero this]
        · exact Or.inr ⟨by omega, by show _ = _; rw [if_neg h]⟩
      rcases h0k with ⟨hk0, hif⟩ | ⟨hk0, hif⟩
      focus
        rw [hif.out] at HST
        go_wp2_with fail
        refine (HP.out _ (HR.out.past HB2.out)).mono ?_
        rintro e w2 ⟨rfl, hb3⟩
        have hb4 := HB2.out.trans (hb3.mono hs)
        have hO2 := hO.past hb3
        obtain ⟨M, hM⟩ : ∃ M, M = L := ⟨_, rfl⟩
        rw [← hM] at HST hO2 hle
        have hle3 : M.length ≤ 793 * k + 1 := by omega
        obtain ⟨v2, hv2⟩ : ∃ v2, v2 = u3 := ⟨_, rfl⟩
        rw [← hv2] at hO2 ⊢
        clear hM hv2
      rotate_left
      focus
        rw [hif.out] at HST
        have B44 : Blk (wr.alloc (.cells #[.int .u8 44] 5)) wr.heap.size 5 (Lib.byteCells [44]).toArray := Blk.new wr _ _
        go_wp2_with (at_builtin; go_loud (refine wpList_push rfl _ _ rfl w1.heap.size u3 L rfl (hO.alloc _) wr.heap.size 1 1 [44] rfl rfl B44 (by simp; omega) (by simp; omega) ?_))
        intro v2 wP hOP hbP hgP
        have hbP2 := (HB2.out.alloc hs (.cells #[.int .u8 44] 5)).trans hbP
        have hsP := hbP2.size
        go_wp2_with fail
        refine (HP.out _ (HR.out.past hbP2)).mono ?_
        rintro e w2 ⟨rfl, hb3⟩
        have hb4 := hbP2.trans (hb3.mono hsP)
        have hO2 := hOP.past hb3
        obtain ⟨M, hM⟩ : ∃ M, M = L ++ [44] := ⟨_, rfl⟩
        have hle3 : M.length ≤ 793 * k + 1 := by rw [hM, List.length_append, List.length_singleton]; omega
        rw [← hM] at HST hO2
        clear hM hOP hbP hgP B44
      rotate_left
      all_goals
        have hs4 := hb4.size
        clear hO hb3 HP HR
        go_wp2_with (at_builtin; go_loud (refine wpList_pushS rfl _ _ rfl w1.heap.size v2 M rfl hO2 x rfl (by omega) (by omega) ?_))
        intro v5 w5 hO5 hb5 hg5
        have hb6 := hb4.trans hb5
        obtain ⟨A7, n7, c7, rfl⟩ := hO5.form3
        have HO5 := Lib.hid hO5
        clear hO5 hb5 hg5
        go_wp2_with fail
        go_roundw
        case rel =>
          refine ⟨k + 1, by omega, by go_num, ?_, hb6⟩
          rw [HST.out]
          exact HO5.out
        case measure => simp [intOf]; omega
    · have hk2 : k = d.length := by omega
      rw [hk2, List.take_length] at hO
      have E := hO.string
      clear hk2
      go_wp2_with fail
      go_ret
      exact ⟨by rw [hF.out]; rfl, hb1.trans (hb2.mono hb1.size)⟩
end Go.Proofs.Ytfgcmljlamodbaa
