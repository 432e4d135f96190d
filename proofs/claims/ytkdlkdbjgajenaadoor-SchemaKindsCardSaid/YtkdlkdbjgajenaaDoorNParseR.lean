/- What ParseRDN answers. -/
import Derived.Test.YtkdlkdbjgajenaaDoorNRdEq
import Derived.Test.YtkdlkdbjgajenaaDoorNOwnA
import Derived.Test.YtkdlkdbjgajenaaDoorNIs
namespace Go.Proofs.YtkdlkdbjgajenaaDoor
open Go.RowKit
set_option linter.unusedVariables false
set_option maxRecDepth 100000

/-- Behind a call that answers a part: in new memory, or none. -/
def RdnPost (B : Nat) (w : World) : Option (List Nm.Ava) → Ending → World → Prop
  | none, e, w' => e = .returned (.tuple #[.slice none 0 0, .int .i64 15]) ∧ Below B w w'
  | some r, e, w' => ∃ A c, e = .returned (.tuple #[.slice A r.length c, .int .i64 0]) ∧ r.length ≤ c ∧ RAt w' (fun b => B ≤ b ∧ b < w'.heap.size) A r ∧ Below B w w'
theorem pos_lt {sep : UInt8} : ∀ {l : List UInt8} {i : Nat}, Nm.pos sep l = some i → i < l.length
  | [], i, h => by cases h
  | [c], i, h => by
    rw [pos_cons] at h
    split at h
    · cases h
    · split at h
      · injection h with h; simp; omega
      · cases h
  | c :: d :: r, i, h => by
    rw [pos_cons] at h
    split at h
    · cases hr : Nm.pos sep r with
      | none => simp only [hr] at h; cases h
      | some j =>
        simp only [hr, Option.map_some, Option.some.injEq] at h
        have := pos_lt hr
        simp; omega
    · split at h
      · injection h with h; simp; omega
      · cases hr : Nm.pos sep (d :: r) with
        | none => rw [hr] at h; cases h
        | some j =>
          rw [hr] at h
          simp only [Option.map_some, Option.some.injEq] at h
          have := pos_lt hr
          simp only [List.length_cons] at this ⊢
          omega
/-- What cut answers, and what is left to be cut. -/
theorem cut_form (t : ByteArray) (sep : UInt8) : ∃ p q m, cutV t sep = .tuple #[.string p, .string q, .bool m] ∧ Nm.cuts sep (Nm.bs t) = Nm.bs p :: (if m then Nm.cuts sep (Nm.bs q) else []) ∧ p.size ≤ t.size ∧ q.size ≤ t.size ∧ (m = true → q.size < t.size) := by
  have hc := Nm.cuts_pos sep (Nm.bs t)
  unfold cutV
  cases hp : Nm.pos sep (Nm.bs t) with
  | none =>
    rw [hp] at hc
    exact ⟨t, ⟨#[]⟩, false, rfl, hc, Nat.le_refl _, Nat.zero_le _, fun h => by cases h⟩
  | some i =>
    rw [hp] at hc
    have hi : i < t.size := by
      exact pos_lt hp
    refine ⟨_, _, true, rfl, ?_, ?_, ?_, fun _ => ?_⟩
    · rw [ext_to, ext_from]; exact hc
    all_goals
      rw [ByteArray.size_extract]
      omega
/-- What readAVA answers. -/
theorem ava_form (l : List UInt8) : ∃ x y ok, avaV l = .tuple #[.agg #[.string x, .string y], .bool ok] ∧ dnAva l = if ok then some (x, y) else none := by
  unfold avaV
  cases h : dnAva l with
  | none => exact ⟨_, _, false, rfl, rfl⟩
  | some a => exact ⟨_, _, true, rfl, rfl⟩
/-- How much text is left. -/
def txtLeft : Value → Value → Nat
  | .string t, .bool true => t.size + 1
  | _, _ => 0
set_option maxHeartbeats 2000000 in
theorem parseR_any (s : ByteArray) (w : World) (hs : s.size ≤ 1000000000) :
    Calls Tryd.prog 36 #[.string s] w (RdnPost w.heap.size w (Nm.rdn (Nm.bs s))) := by
  have H0 := Lib.hid (Nm.rdnD_rdn (Nm.bs s))
  have CC : Hid (∀ (t : ByteArray) (w : World), t.size ≤ 1000000000 → Calls Tryd.prog 35 #[.string t, .int .u8 43] w fun e w' => e = .returned (cutV t 43) ∧ Below w.heap.size w w') := fun t w h => cut_any t 43 w h
  have CA := Lib.hid readAva_any
  have CI := Lib.hid isRdn_any
  obtain ⟨R, hR⟩ : ∃ R, R = Nm.rdn (Nm.bs s) := ⟨_, rfl⟩
  rw [← hR] at H0 ⊢
  clear hR
  go_enter Tryd.func36, Tryd.ntmps36
  go_wp2_with fail
  go_loopw [0, 4, 5] (fun tv rv mv wr => ∃ (t : ByteArray) (done : List Nm.Ava) (m : Bool), tv = .string t ∧ mv = .bool m ∧ t.size ≤ s.size ∧ OwnA wr w.heap.size rv done ∧ Hid (Nm.rdnD done (if m then Nm.cuts 43 (Nm.bs t) else []) = R) ∧ done.length + txtLeft tv mv ≤ s.size + 1 ∧ Below w.heap.size w wr) (fun tv rv mv wr => txtLeft tv mv)
  case atStart => exact ⟨s, [], true, rfl, rfl, Nat.le_refl _, OwnA.nil _ _, H0, by show [].length + (s.size + 1) ≤ _; simp, Below.refl _ _⟩
  case round =>
    obtain ⟨t, done, m, rfl, rfl, hts, hO, hE, hdl, hb⟩ := hrel
    have hsz := hb.size
    cases m with
    | false =>
      obtain ⟨A, c, rfl, hc, hA⟩ := hO.rdn
      have HR := Lib.hid (show some done = R from hE.out)
      have hA2 := Lib.hid hA
      clear hE hA hO
      go_wp2_with fail
      go_ret2
      rw [← HR.out]
      exact ⟨A, c, rfl, hc, hA2.out, hb⟩
    | true =>
      obtain ⟨p, q, m', hcv, hcs, hps, hqs, hlt⟩ := cut_form t 43
      obtain ⟨x, y, ok, hav, hda⟩ := ava_form (Nm.bs p)
      have C1 := CC.out t wr (by omega)
      have C2 := fun w => CA.out p w (by omega)
      rw [hcv] at C1
      rw [hav] at C2
      have hE2 := hE.out
      rw [if_pos rfl, hcs] at hE2
      have HE := Lib.hid hE2
      have HD := Lib.hid hda
      have HC1 := Lib.hid C1
      have HC2 := Lib.hid C2
      have hLT := Lib.hid hlt
      clear hcv hcs hav hda hE hE2 C1 C2 hlt
      go_wp2_with fail
      refine HC1.out.mono ?_
      rintro e w1 ⟨rfl, hb1⟩
      have hO1 := hO.past hb1
      have hb2 := hb.trans (hb1.mono hsz)
      have hs2 := hb2.size
      clear hO hb1 hb HC1
      go_wp2_with fail
      refine (HC2.out _).mono ?_
      rintro e w2 ⟨rfl, hb1⟩
      have hO2 := hO1.past hb1
      have hb3 := hb2.trans (hb1.mono hs2)
      have hs3 := hb3.size
      clear hO1 hb1 hb2 HC2
      have B1 : Blk ((w2.alloc (.cells #[.string x, .string y] 71)).alloc (.cells #[.string x, .string y] 71)) (w2.heap.size + 1) 71 #[.string x, .string y] := by
        have := Blk.new (w2.alloc (.cells #[.string x, .string y] 71)) 71 #[.string x, .string y]
        rwa [show (w2.alloc (.cells #[.string x, .string y] 71)).heap.size = w2.heap.size + 1 by simp] at this
      have hb4 := (hb3.alloc hs3 (.cells #[.string x, .string y] 71)).alloc (by simp; omega) (.cells #[.string x, .string y] 71)
      have hd9 : done.length ≤ 1000000001 := by omega
      go_wp2_with (at_builtin; go_loud (refine wpList_pushA rfl _ _ rfl w.heap.size u4 done rfl ((hO2.alloc _).alloc _) (w2.heap.size + 1) x y rfl B1 (by omega) (by simp; omega) ?_))
      intro v3 w3 hO3 hb5 hg3
      have hb6 := hb4.trans hb5
      have hs6 := hb6.size
      clear hO2 B1 hb5 hg3 hb4 hb3
      cases ok with
      | false =>
        have HR := Lib.hid (show R = none by
          have h1 := HE.out
          have h2 := HD.out
          rw [Nm.rdnD, h2] at h1
          exact h1.symm)
        go_wp2_with fail
        go_ret2
        rw [HR.out]
        exact ⟨rfl, hb6⟩
      | true =>
        obtain ⟨A, c, rfl, hc, hA⟩ := hO3.rdn
        have CI1 := CI.out (done ++ [(x, y)]) A c w3 (hA.imp (fun b h => h.2) (fun _ _ => rfl)) (by rw [List.length_append, List.length_singleton]; unfold maxLen; omega) hc
        have hE3 : (if Nm.isRdn (done ++ [(x, y)]) = true then Nm.rdnD (done ++ [(x, y)]) (if m' = true then Nm.cuts 43 (Nm.bs q) else []) else none) = R := by
          have h1 := HE.out
          have h2 := HD.out
          rw [Nm.rdnD, h2] at h1
          exact h1
        obtain ⟨n, hn⟩ : ∃ n, n = (done ++ [(x, y)]).length := ⟨_, rfl⟩
        have HN := Lib.hid hn
        rw [← hn] at hO3 CI1 ⊢
        have HO3 := Lib.hid hO3
        clear hn hc hA hO3 HE HD
        cases hi : Nm.isRdn (done ++ [(x, y)]) with
        | false =>
          rw [hi] at CI1 hE3
          have HR := Lib.hid (show R = none from hE3.symm)
          have HC := Lib.hid CI1
          clear hE3 CI1 hi
          go_wp2_with fail
          refine HC.out.mono ?_
          rintro e w4 ⟨rfl, hb7⟩
          go_wp2_with fail
          go_ret2
          rw [HR.out]
          exact ⟨rfl, hb6.trans (hb7.mono hs6)⟩
        | true =>
          rw [hi] at CI1 hE3
          have HE4 := Lib.hid (show Nm.rdnD (done ++ [(x, y)]) (if m' = true then Nm.cuts 43 (Nm.bs q) else []) = R from hE3)
          have HC := Lib.hid CI1
          clear hE3 CI1 hi
          go_wp2_with fail
          refine HC.out.mono ?_
          rintro e w4 ⟨rfl, hb7⟩
          have HO4 := Lib.hid (HO3.out.past hb7)
          have hb8 := hb6.trans (hb7.mono hs6)
          clear HO3 hb7 hb6 HC
          go_wp2_with fail
          go_roundw
          case rel =>
            refine ⟨q, done ++ [(x, y)], m', rfl, rfl, by omega, HO4.out, HE4.out, ?_, hb8⟩
            rw [List.length_append, List.length_singleton]
            cases m' with
            | false => show done.length + 1 + 0 ≤ _; have : txtLeft (.string t) (.bool true) = t.size + 1 := rfl; omega
            | true =>
              have h1 := hLT.out rfl
              show done.length + 1 + (q.size + 1) ≤ _
              have : txtLeft (.string t) (.bool true) = t.size + 1 := rfl
              omega
          case measure =>
            cases m' with
            | false => show 0 < t.size + 1; omega
            | true => show q.size + 1 < t.size + 1; have h1 := hLT.out rfl; omega
end Go.Proofs.YtkdlkdbjgajenaaDoor
