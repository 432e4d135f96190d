/- What Parse answers. -/
import Derived.Test.YtkdlkdbjgajenaaDoorNParseR
namespace Go.Proofs.YtkdlkdbjgajenaaDoor
open Go.RowKit
set_option linter.unusedVariables false
set_option maxRecDepth 100000

/-- Behind a call that answers a name: in new memory, or none. -/
def DnPost (B : Nat) (w : World) : Option (List (List Nm.Ava)) → Ending → World → Prop
  | none, e, w' => e = .returned (.tuple #[.slice none 0 0, .int .i64 15]) ∧ Below B w w'
  | some d, e, w' => ∃ A c, e = .returned (.tuple #[.slice A d.length c, .int .i64 0]) ∧ d.length ≤ c ∧ DAt w' (fun b => B ≤ b ∧ b < w'.heap.size) A d ∧ Below B w w'
set_option maxHeartbeats 2000000 in
theorem parseD_any (s : ByteArray) (w : World) (hs : s.size ≤ 1000000000) :
    Calls Tryd.prog 23 #[.string s] w (DnPost w.heap.size w (Nm.dnm (Nm.bs s))) := by
  have CC : Hid (∀ (t : ByteArray) (w : World), t.size ≤ 1000000000 → Calls Tryd.prog 35 #[.string t, .int .u8 44] w fun e w' => e = .returned (cutV t 44) ∧ Below w.heap.size w w') := fun t w h => cut_any t 44 w h
  have CR := Lib.hid parseR_any
  obtain ⟨R, hR⟩ : ∃ R, R = Nm.dnm (Nm.bs s) := ⟨_, rfl⟩
  by_cases h0 : s.size = 0
  · have h1 := nil_of s h0
    have h2 := Lib.hid (show R = some [] by rw [hR, show Nm.bs s = [] from nilD_of s h0]; rfl)
    rw [← hR]
    clear hR h0
    go_enter Tryd.func23, Tryd.ntmps23
    go_wp2_with fail
    refine wp_loop_rounds 1 ?_
    rw [rounds_succ]
    go_wp2_with fail
    go_ret2
    rw [h2.out]
    exact ⟨none, 0, rfl, Nat.le_refl _, DAt.nil _ _ _, Below.refl _ _⟩
  have hne : Nm.bs s ≠ [] := by
    intro h
    have := size_eq s
    rw [show s.data.toList = [] from h] at this
    simp at this
    omega
  have H0 := Lib.hid (Nm.dnD_dnm (Nm.bs s) hne)
  have hnE := isE_of s (by omega)
  rw [← hR] at H0 ⊢
  clear hR h0 hne
  go_enter Tryd.func23, Tryd.ntmps23
  go_wp2_with fail
  go_loopw [0, 4, 5] (fun tv rv mv wr => ∃ (t : ByteArray) (done : List (List Nm.Ava)) (m : Bool), tv = .string t ∧ mv = .bool m ∧ t.size ≤ s.size ∧ OwnD wr w.heap.size rv done ∧ Hid (Nm.dnD done (if m then Nm.cuts 44 (Nm.bs t) else []) = R) ∧ done.length ≤ 8 ∧ Below w.heap.size w wr) (fun tv rv mv wr => txtLeft tv mv)
  case atStart => exact ⟨s, [], true, rfl, rfl, Nat.le_refl _, OwnD.nil _ _, H0, by simp, Below.refl _ _⟩
  case round =>
    obtain ⟨t, done, m, rfl, rfl, hts, hO, hE, hd8, hb⟩ := hrel
    have hsz := hb.size
    cases m with
    | false =>
      obtain ⟨A, c, rfl, hc, hA⟩ := hO.dn
      have HR := Lib.hid (show some done = R from hE.out)
      have hA2 := Lib.hid hA
      clear hE hA hO
      go_wp2_with fail
      go_ret2
      rw [← HR.out]
      exact ⟨A, c, rfl, hc, hA2.out, hb⟩
    | true =>
      obtain ⟨p, q, m', hcv, hcs, hps, hqs, hlt⟩ := cut_form t 44
      have C1 := CC.out t wr (by omega)
      have C2 := fun w => CR.out p w (by omega)
      rw [hcv] at C1
      have hE2 := hE.out
      rw [if_pos rfl, hcs] at hE2
      have HE := Lib.hid hE2
      have HC1 := Lib.hid C1
      have hLT := Lib.hid hlt
      obtain ⟨A0, c0, rfl⟩ := hO.form3
      obtain ⟨n0, hn0⟩ : ∃ n0, n0 = done.length := ⟨_, rfl⟩
      rw [← hn0] at hO
      have HN0 := Lib.hid hn0
      rw [← hn0] at hd8 ⊢
      have HO := Lib.hid hO
      clear hcv hcs hE hE2 C1 hlt hO hn0
      cases hr : Nm.rdn (Nm.bs p) with
      | none =>
        rw [hr] at C2
        have HC2 := Lib.hid C2
        have HR := Lib.hid (show R = none by
          have h1 := HE.out
          rw [Nm.dnD, hr] at h1
          exact h1.symm)
        clear C2 hr HE
        go_wp2_with fail
        refine HC1.out.mono ?_
        rintro e w1 ⟨rfl, hb1⟩
        have hb2 := hb.trans (hb1.mono hsz)
        have hs2 := hb2.size
        clear hb1 hb HC1
        go_wp2_with fail
        refine (HC2.out _).mono ?_
        rintro e w2 ⟨rfl, hb3⟩
        go_wp2_with fail
        go_ret2
        rw [HR.out]
        exact ⟨rfl, hb2.trans (hb3.mono hs2)⟩
      | some r =>
        rw [hr] at C2
        have HC2 := Lib.hid C2
        have hE3 : (if done.length = 8 then none else Nm.dnD (done ++ [r]) (if m' = true then Nm.cuts 44 (Nm.bs q) else [])) = R := by
          have h1 := HE.out
          rw [Nm.dnD, hr] at h1
          exact h1
        rw [← HN0.out] at hE3
        clear C2 hr HE
        by_cases h8 : n0 = 8
        · have HR := Lib.hid (show R = none by rw [if_pos h8] at hE3; exact hE3.symm)
          have h8i : (n0 : Int) = 8 := by omega
          clear hE3 h8
          go_wp2_with fail
          refine HC1.out.mono ?_
          rintro e w1 ⟨rfl, hb1⟩
          have hb2 := hb.trans (hb1.mono hsz)
          have hs2 := hb2.size
          clear hb1 hb HC1
          go_wp2_with fail
          refine (HC2.out _).mono ?_
          rintro e w2 ⟨A, c, rfl, hc, hA, hb3⟩
          have hA := Lib.hid hA
          go_wp2_with fail
          go_ret2
          rw [HR.out]
          exact ⟨rfl, hb2.trans (hb3.mono hs2)⟩
        · rw [if_neg h8] at hE3
          have HE := Lib.hid hE3
          have h8i : ((n0 : Int) == 8) = false := by rw [beq_eq_false_iff_ne]; omega
          clear hE3
          go_wp2_with fail
          refine HC1.out.mono ?_
          rintro e w1 ⟨rfl, hb1⟩
          have hb2 := hb.trans (hb1.mono hsz)
          have hs2 := hb2.size
          have HO1 := Lib.hid (HO.out.past hb1)
          clear hb1 hb HC1 HO
          go_wp2_with fail
          refine (HC2.out _).mono ?_
          rintro e w2 ⟨A, c, rfl, hc, hA, hb3⟩
          have HO2 := Lib.hid (HO1.out.past hb3)
          have hb4 := hb2.trans (hb3.mono hs2)
          have hs4 := hb4.size
          have HA : Hid (RAt w2 (fun b => w.heap.size ≤ b ∧ b < w2.heap.size ∧ (Value.slice A0 n0 c0).ownBlock ≠ some b) A r) := hA.imp (fun b h => ⟨by omega, h.2, fun e => by have := HO1.out.lt _ e; omega⟩) (fun _ _ => rfl)
          obtain ⟨n, hn⟩ : ∃ n, n = r.length := ⟨_, rfl⟩
          have HN := Lib.hid hn
          rw [← hn] at hc ⊢
          have B1 : Blk (w2.alloc (.cells #[.slice A n c] 53)) w2.heap.size 53 #[.slice A n c] := Blk.new w2 _ _
          have HA3 := Lib.hid (HA.out.imp (w' := w2.alloc (.cells #[.slice A n c] 53)) (P' := fun b => w.heap.size ≤ b ∧ b < (w2.alloc (.cells #[.slice A n c] 53)).heap.size ∧ (Value.slice A0 n0 c0).ownBlock ≠ some b) (fun b h => ⟨h.1, by simp; omega, h.2.2⟩) (fun p hp => World.cell?_alloc_lt _ _ _ hp.2.1))
          clear hA hb3 hn HO1 HC2
          go_wp2_with (at_builtin; go_loud (refine wpList_pushD rfl _ _ rfl w.heap.size _ done rfl (HO2.out.alloc _) w2.heap.size A r n c rfl B1 HN.out (by rw [← HN.out]; exact hc) HA3.out (by rw [← HN0.out]; omega) (by simp; omega) ?_))
          intro v3 w3 hO3 hb5
          have hb6 := (hb4.alloc hs4 (.cells #[.slice A n c] 53)).trans hb5
          obtain ⟨A3, c3, rfl⟩ := hO3.form3
          have hl3 : (done ++ [r]).length = n0 + 1 := by rw [List.length_append, List.length_singleton, ← HN0.out]
          rw [hl3] at hO3 ⊢
          have HO3 := Lib.hid hO3
          have HL3 := Lib.hid hl3
          clear hO3 hb5 hl3 B1
          go_wp2_with fail
          go_roundw
          case rel =>
            exact ⟨q, done ++ [r], m', rfl, rfl, by omega, HO3.out, HE.out, by rw [HL3.out]; omega, hb6⟩
          case measure =>
            cases m' with
            | false => show 0 < t.size + 1; omega
            | true => show q.size + 1 < t.size + 1; have h1 := hLT.out rfl; omega
end Go.Proofs.YtkdlkdbjgajenaaDoor
