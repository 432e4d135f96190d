import Derived.Test.YtpnlalfdgngcdaaDoorZA41
import Derived.Test.YtpnlalfdgngcdaaDoorZA32
import Derived.Test.YtpnlalfdgngcdaaDoorZA40
import Derived.Test.YtpnlalfdgngcdaaDoorZA30
import Derived.Deep.Cut
set_option linter.unusedVariables false
set_option maxRecDepth 100000
namespace Go.Proofs.YtpnlalfdgngcdaaDoor.Ru
open Go.RowKit
theorem OwnS.strs {w : World} {base : Nat} {v : Value} {ps : List ByteArray} (h : OwnS w base v ps) : ∃ A c, v = .slice A ps.length c ∧ ps.length ≤ c ∧ StrsAt w (fun b=>base ≤ b ∧ b < w.heap.size) A ps:=by
 have h9:=h
 rcases h.2 with ⟨rfl, h0⟩ | ⟨g, cap, cur, rfl, hg, hh, hc, hm, hs, ht⟩
 ·exact ⟨none, 0, by rw [h0], by omega, fun h1=>by omega⟩
 ·refine ⟨_, _, rfl, hc, fun h1=>⟨g, 0, rfl, ⟨hg, ?_⟩, fun i hi=>?_⟩⟩
  ·rcases Nat.lt_or_ge g w.heap.size with h' | h'
   ·exact h'
   ·simp [Array.getElem?_eq_none h'] at hh
  ·rw [Nat.zero_add]
   exact own_cell h9 _ _ (by rw [List.getElem?_map, List.getElem?_eq_getElem hi]; rfl)
def wV (x : List UInt8) : List UInt8:=match cutAt 32 x with
 | none=>[]
 | some (a, _)=>a
def wA (x : List UInt8) : List UInt8:=match cutAt 32 x with
 | none=>[]
 | some (_, b)=>b
def wF (x : List UInt8) : Bool:=(cutAt 32 x).isSome
theorem wordV_of (x : List UInt8) : wordV (cutAt 32 x) = .tuple #[.string (Nm.mk (wV x)), .string (Nm.mk (wA x)), .bool (wF x)]:=by
 unfold wV wA wF
 cases cutAt 32 x with
 | none=>rfl
 | some p=>rfl
theorem wLen (x : List UInt8) : (wV x).length ≤ x.length ∧ (wA x).length ≤ x.length:=by
 unfold wV wA
 cases h : cutAt 32 x with
 | none=>simp
 | some p =>
  obtain ⟨a, b⟩:=p
  have:=cutAt_len h
  show a.length ≤ _ ∧ b.length ≤ _
  omega
theorem words_of (s : List UInt8) : words s = if wF s && (wF (wA s) && (wF (wA (wA s)) && wF (wA (wA (wA s))))) then some (wV s, wV (wA s), wV (wA (wA s)), wV (wA (wA (wA s))), wA (wA (wA (wA s)))) else none:=by
 unfold words
 cases h1 : cutAt 32 s with
 | none=>rw [show wF s = false by unfold wF; rw [h1]; rfl]; rfl
 | some p =>
  obtain ⟨v, a⟩:=p
  have e1 : wF s = true:=by unfold wF; rw [h1]; rfl
  have e2 : wV s = v:=by unfold wV; rw [h1]
  have e3 : wA s = a:=by unfold wA; rw [h1]
  rw [e1, e2, e3]
  show (match cutAt 32 a with | none=>none | some (r, b)=>_) = _
  cases h2 : cutAt 32 a with
  | none=>rw [show wF a = false by unfold wF; rw [h2]; rfl]; rfl
  | some p =>
   obtain ⟨r, b⟩:=p
   have e1 : wF a = true:=by unfold wF; rw [h2]; rfl
   have e2 : wV a = r:=by unfold wV; rw [h2]
   have e3 : wA a = b:=by unfold wA; rw [h2]
   rw [e1, e2, e3]
   show (match cutAt 32 b with | none=>none | some (r, b)=>_) = _
   cases h3 : cutAt 32 b with
   | none=>rw [show wF b = false by unfold wF; rw [h3]; rfl]; rfl
   | some p =>
    obtain ⟨h, c⟩:=p
    have e1 : wF b = true:=by unfold wF; rw [h3]; rfl
    have e2 : wV b = h:=by unfold wV; rw [h3]
    have e3 : wA b = c:=by unfold wA; rw [h3]
    rw [e1, e2, e3]
    show (match cutAt 32 c with | none=>none | some (r, b)=>_) = _
    cases h4 : cutAt 32 c with
    | none=>rw [show wF c = false by unfold wF; rw [h4]; rfl]; rfl
    | some p =>
     obtain ⟨t, q⟩:=p
     have e1 : wF c = true:=by unfold wF; rw [h4]; rfl
     have e2 : wV c = t:=by unfold wV; rw [h4]
     have e3 : wA c = q:=by unfold wA; rw [h4]
     rw [e1, e2, e3]
     rfl
def fV (x : ByteArray) : ByteArray:=Nm.mk (wV (Nm.bs x))
def fA (x : ByteArray) : ByteArray:=Nm.mk (wA (Nm.bs x))
def fF (x : ByteArray) : Bool:=wF (Nm.bs x)
theorem wordf_any (x : ByteArray) (w : World) (hs : x.size ≤ 1000000000) :
  Calls Tryd.prog 20 #[.string x] w fun e w'=>e = .returned (.tuple #[.string (fV x), .string (fA x), .bool (fF x)]) ∧ Below w.heap.size w w' :=
 (word_any x w hs).mono fun e w' ⟨h1, h2⟩=>⟨by rw [h1, wordV_of]; rfl, h2⟩
theorem fLen (x : ByteArray) : (fV x).size ≤ x.size ∧ (fA x).size ≤ x.size:=by
 have h:=wLen (Nm.bs x)
 have e : (Nm.bs x).length = x.size:=rfl
 show (wV (Nm.bs x)).toArray.size ≤ _ ∧ (wA (Nm.bs x)).toArray.size ≤ _
 simp only [List.size_toArray]
 omega
theorem parse_f (s : ByteArray) (n : Nat) (hn : 14 ≤ n) : parse (Nm.bs s) = if fF s && (fF (fA s) && (fF (fA (fA s)) && fF (fA (fA (fA s))))) then
  keep (Nm.bs s) ⟨decide (Nm.bs (fV s) = verb true), fV (fA s), decide (Nm.bs (fV (fA (fA s))) = reach true), fA (fA (fA (fA s))), attrsN n (Nm.bs (fV (fA (fA (fA s)))))⟩ else none:=by
 have hw:=words_of (Nm.bs s)
 show _ = if wF (Nm.bs s) && (wF (wA (Nm.bs s)) && (wF (wA (wA (Nm.bs s))) && wF (wA (wA (wA (Nm.bs s)))))) then _ else none
 cases hc : (wF (Nm.bs s) && (wF (wA (Nm.bs s)) && (wF (wA (wA (Nm.bs s))) && wF (wA (wA (wA (Nm.bs s))))))) with
 | false =>
  rw [hc] at hw
  rw [if_neg (by decide)]
  exact parse_none hw
 | true =>
  rw [hc] at hw
  rw [if_pos rfl]
  exact parse_words hw n hn
def RParsePost (B : Nat) (w : World) (e : Ending) (w' : World) : Option Rul → Prop
 | none=>e = .returned (.tuple #[.agg #[.bool false, .string ⟨#[]⟩, .bool false, .string ⟨#[]⟩, .slice none 0 0], .bool false]) ∧ Below B w w'
 | some r=>∃ A c, e = .returned (.tuple #[.agg #[.bool r.deny, .string r.rights, .bool r.sub, .string r.who, .slice A r.attrs.length c], .bool true]) ∧ r.attrs.length ≤ c ∧ StrsAt w' (fun b=>B ≤ b ∧ b < w'.heap.size) A r.attrs ∧ Below B w w'
set_option maxHeartbeats 16000000 in
theorem rparse_any (s : ByteArray) (w : World) (hs : s.size ≤ 100000000) :
    Calls Tryd.prog 11 #[.string s] w fun e w' => RParsePost w.heap.size w e w' (parse (Nm.bs s)) := by
  have CW := Lib.hid wordf_any
  have CI := Lib.hid rIs_any
  have CP := Lib.hid rprint_any
  have CS := Lib.hid rsplit_any
  have hp := parse_f s ((fV (fA (fA (fA s)))).size + 14) (by omega)
  obtain ⟨l1, l2⟩ := fLen s
  obtain ⟨l3, l4⟩ := fLen (fA s)
  obtain ⟨l5, l6⟩ := fLen (fA (fA s))
  obtain ⟨l7, l8⟩ := fLen (fA (fA (fA s)))
  have C1 := CW.out s
  have C2 := CW.out (fA s)
  have C3 := CW.out (fA (fA s))
  have C4 := CW.out (fA (fA (fA s)))
  generalize fV (fA (fA (fA s))) = v4 at *
  generalize fF (fA (fA (fA s))) = f4 at *
  generalize fA (fA (fA (fA s))) = a4 at *
  generalize fV (fA (fA s)) = v3 at *
  generalize fF (fA (fA s)) = f3 at *
  generalize fA (fA (fA s)) = a3 at *
  generalize fV (fA s) = v2 at *
  generalize fF (fA s) = f2 at *
  generalize fA (fA s) = a2 at *
  generalize fV s = v1 at *
  generalize fF s = f1 at *
  generalize fA s = a1 at *
  have D1 := Lib.hid (fun w => C1 w (by omega))
  have D2 := Lib.hid (fun w => C2 w (by omega))
  have D3 := Lib.hid (fun w => C3 w (by omega))
  have D4 := Lib.hid (fun w => C4 w (by omega))
  have hv2 : v2.size ≤ 1000000000 := by omega
  have hv4 : v4.size ≤ 1000000000 := by omega
  have ha4 : a4.size ≤ 1000000000 := by omega
  have HE1 : Hid ((v1.toList == [100, 101, 110, 121]) = decide (Nm.bs v1 = verb true)) := eq_const v1 _
  have HE2 : Hid ((v3.toList == [115, 117, 98]) = decide (Nm.bs v3 = reach true)) := eq_const v3 _
  rw [← HE1.out, ← HE2.out] at hp
  obtain ⟨X, hX⟩ : ∃ X, X = parse (Nm.bs s) := ⟨_, rfl⟩
  rw [← hX] at hp ⊢
  have HX := Lib.hid hp
  have hAE := attrsN_each (v4.size + 14) (Nm.bs v4)
  have HN : Hid (attrsN (v4.size + 14) (Nm.bs v4) = if Nm.bs v4 = [42] then [] else (split 44 (v4.size + 14) (Nm.bs v4)).map Nm.mk) := rfl
  have hv4l : (Nm.bs v4).length = v4.size := rfl
  have HF : Hid (Fit v2 a4 (attrsN (v4.size + 14) (Nm.bs v4))) := ⟨hv2, ha4, by have := hAE.1; have := hAE.2; by_cases h42 : Nm.bs v4 = [42]
                                                                                · rw [HN.out, if_pos h42]; simp
                                                                                · rw [HN.out, if_neg h42, List.length_map]; have := split_most (c := 44) (v4.size + 14) (Nm.bs v4); omega, fun a ha => by have := hAE.2 a ha; omega⟩
  have C5 := Lib.hid (fun w => CS.out v4 w hv4 (v4.size + 14) (by omega))
  clear hp l1 l2 l3 l4 l5 l6 l7 l8 C1 C2 C3 C4 hX CW CS hAE hv4l
  go_enter Tryd.func11, Tryd.ntmps11
  go_wp2_with fail
  refine (D1.out _).mono ?_
  rintro e w1 ⟨rfl, hb1⟩
  have B1 := (Blk.new w 24 #[.bool false, .string ⟨#[]⟩, .bool false, .string ⟨#[]⟩, .slice none 0 0]).past hb1
  have hbw1 : Below w.heap.size w w1 := ((Below.refl _ _).alloc (Nat.le_refl _) _).trans (hb1.mono (by simp))
  have HB1 := Lib.hid B1
  clear B1 hb1 D1
  go_wp2_with fail
  refine (D2.out _).mono ?_
  rintro e w2 ⟨rfl, hb2⟩
  have HB2 := Lib.hid (HB1.out.past hb2)
  have hbw2 := hbw1.trans (hb2.mono hbw1.size)
  clear hb2 hbw1 HB1 D2
  go_wp2_with fail
  refine (D3.out _).mono ?_
  rintro e w3 ⟨rfl, hb3⟩
  have HB3 := Lib.hid (HB2.out.past hb3)
  have hbw3 := hbw2.trans (hb3.mono hbw2.size)
  clear hb3 hbw2 HB2 D3
  go_wp2_with fail
  refine (D4.out _).mono ?_
  rintro e w4 ⟨rfl, hb4⟩
  have HB4 := Lib.hid (HB3.out.past hb4)
  have hbw4 := hbw3.trans (hb4.mono hbw3.size)
  clear hb4 hbw3 HB3 D4
  have HBR := Lib.hid (HB4.out.alloc (.cells #[.bool (v1.toList == [100, 101, 110, 121]), .string v2, .bool (v3.toList == [115, 117, 98]), .string a4, .slice none 0 0] 24))
  have HBX := Lib.hid (Blk.new w4 24 #[.bool (v1.toList == [100, 101, 110, 121]), .string v2, .bool (v3.toList == [115, 117, 98]), .string a4, .slice none 0 0])
  have hbw5 := hbw4.alloc hbw4.size (.cells #[.bool (v1.toList == [100, 101, 110, 121]), .string v2, .bool (v3.toList == [115, 117, 98]), .string a4, .slice none 0 0] 24)
  have hlt4 : w.heap.size < w4.heap.size := HB4.out.lt
  have q4 := eq_const v4 [42]
  go_upto_region 6 with fail
  generalize (v1.toList == [100, 101, 110, 121]) = D at HE1 HX HBR HBX hbw5 ⊢
  generalize (v3.toList == [115, 117, 98]) = E at HE2 HX HBR HBX hbw5 ⊢
  by_cases h42 : Nm.bs v4 = [42]
  · rw [decide_eq_true h42] at q4
    rw [if_pos h42] at HN
    have hS : StrsAt (w4.alloc (.cells #[.bool D, .string v2, .bool E, .string a4, .slice none 0 0] 24)) (fun b => w4.heap.size < b ∧ b < (w4.alloc (.cells #[.bool D, .string v2, .bool E, .string a4, .slice none 0 0] 24)).heap.size) (none : Option Addr) [] := StrsAt.nil _ _ _
    generalize attrsN (v4.size + 14) (Nm.bs v4) = l at HF HX HN
    have hl0 : l = [] := HN.out
    subst hl0
    have HC : Hid (([] : List ByteArray).length ≤ 0) := Nat.le_refl _
    clear h42 HN HE1 HE2 HB4 hbw4 C5 hv4
    go_upto_region 8 with fail
    have BR6 := HBR.out
    have BX6 := HBX.out
    have hz6 : (w4.alloc (.cells #[.bool D, .string v2, .bool E, .string a4, .slice none 0 0] 24)).heap.size = w4.heap.size + 1 := by simp
    generalize (w4.alloc (.cells #[.bool D, .string v2, .bool E, .string a4, .slice none 0 0] 24)) = w6 at BR6 BX6 hbw5 hS hz6 ⊢
    generalize w4.heap.size = g4 at BX6 hS hz6 hlt4 ⊢
    have hg6 : g4 < w6.heap.size := by omega
    clear HBR HBX hz6
    have BX6 : Blk w6 g4 24 #[.bool D, .string v2, .bool E, .string a4, .slice none ([] : List ByteArray).length 0] := BX6
    have HBX6 := Lib.hid BX6
    have HBR6 := Lib.hid BR6
    have HS6 := Lib.hid hS
    have hgood : good (Nm.bs s) ⟨D, v2, E, a4, []⟩ = (isR ⟨D, v2, E, a4, []⟩ && decide (pr ⟨D, v2, E, a4, []⟩ = Nm.bs s)) := rfl
    have hkeep : keep (Nm.bs s) ⟨D, v2, E, a4, []⟩ = if good (Nm.bs s) ⟨D, v2, E, a4, []⟩ then some ⟨D, v2, E, a4, []⟩ else none := rfl
    obtain ⟨r0, r1, r2, r3, r4⟩ := rules5 BR6
    obtain ⟨f0, k1, k2, k3, k4⟩ := frozen5 BR6
    obtain ⟨x0, x1, x2, x3, x4⟩ := rules5 BX6
    cases hf : (f1 && (f2 && (f3 && f4))) with
    | false =>
      have HK : Hid (X = none) := by
        show _ = _
        rw [HX.out, hf, if_neg (by decide)]
      clear hgood hkeep HX BX6 BR6 hS CI CP
      cases f1 <;> cases f2 <;> cases f3 <;> cases f4 <;> first | (cases hf; done) | skip
      all_goals
        go_wp2_with fail
        refine bodyPost_ret (res_two rfl _ _ w.heap.size _ _ _ _ _ _ rfl rfl (set5 HBR6.out)) rfl ?_
        rw [HK.out]
        exact ⟨rfl, below5 hbw5 (Nat.le_refl _) _ _ _ _ _⟩
    | true =>
      have HX2 : Hid (X = keep (Nm.bs s) ⟨D, v2, E, a4, []⟩) := by
        show _ = _
        rw [HX.out, hf, if_pos rfl]
      simp only [Bool.and_eq_true] at hf
      obtain ⟨rfl, rfl, rfl, rfl⟩ := hf
      have CI1 := CI.out D v2 E a4 [] none 0 w6 (hS.imp (fun b hb => hb.2) (fun _ _ => rfl)) HF.out
      cases hi : isR ⟨D, v2, E, a4, []⟩ with
      | false =>
        rw [hi] at CI1 hgood
        rw [hgood] at hkeep
        have HK := Lib.hid (HX2.out.trans hkeep)
        have HI := Lib.hid CI1
        clear CI1 hgood hkeep hi HX HX2 BX6 BR6 hS CI CP
        go_wp2_with fail
        refine HI.out.mono ?_
        rintro e w7 ⟨rfl, hb7⟩
        have BR7 := HBR6.out.past hb7
        have hb8 := hbw5.trans (hb7.mono hbw5.size)
        clear r0 r1 r2 r3 r4 f0 k1 k2 k3 k4 x0 x1 x2 x3 x4
        obtain ⟨r0, r1, r2, r3, r4⟩ := rules5 BR7
        obtain ⟨f0, k1, k2, k3, k4⟩ := frozen5 BR7
        have HBR7 := Lib.hid BR7
        clear BR7 hb7
        go_wp2_with fail
        refine bodyPost_ret (res_two rfl _ _ w.heap.size _ _ _ _ _ _ rfl rfl (set5 HBR7.out)) rfl ?_
        rw [HK.out]
        exact ⟨rfl, below5 hb8 (Nat.le_refl _) _ _ _ _ _⟩
      | true =>
        have CP1 := fun w2 h2 => CP.out D v2 E a4 [] none 0 w2 h2 HF.out.w hi
        have hxs : ((Nm.mk (pr ⟨D, v2, E, a4, []⟩)).toList == s.toList) = decide (pr ⟨D, v2, E, a4, []⟩ = Nm.bs s) := by
          rw [toList_eq, Bool.eq_iff_iff, decide_eq_true_eq, decide_eq_true_eq, bs_inj]
        rw [hi] at CI1 hgood
        have HP := Lib.hid CP1
        have HI := Lib.hid CI1
        have HQ := Lib.hid hxs
        obtain ⟨Y, hY⟩ : ∃ Y, Y = Nm.mk (pr ⟨D, v2, E, a4, []⟩) := ⟨_, rfl⟩
        rw [← hY] at HP HQ
        have hg2 : good (Nm.bs s) ⟨D, v2, E, a4, []⟩ = decide (pr ⟨D, v2, E, a4, []⟩ = Nm.bs s) := by rw [hgood, Bool.true_and]
        rw [hg2] at hkeep
        generalize decide (pr ⟨D, v2, E, a4, []⟩ = Nm.bs s) = t at HQ hkeep
        have HK0 := Lib.hid hkeep
        clear CI1 CP1 hgood hkeep hi hY hg2 hxs HX BX6 BR6 hS CI CP
        go_wp2_with fail
        refine HI.out.mono ?_
        rintro e w7 ⟨rfl, hb7⟩
        have B7 := HBX6.out.past hb7
        have HB7 := Lib.hid B7
        have HBR7 := Lib.hid (HBR6.out.past hb7)
        have hb8 := hbw5.trans (hb7.mono hbw5.size)
        have HS7 := Lib.hid (HS6.out.imp (w' := w7) (P' := fun b => g4 < b ∧ b < w7.heap.size) (fun b hb => ⟨hb.1, Nat.lt_of_lt_of_le hb.2 hb7.size⟩) (fun p hp => hb7.cell hp.2))
        clear r0 r1 r2 r3 r4 f0 k1 k2 k3 k4 x0 x1 x2 x3 x4
        obtain ⟨x0, x1, x2, x3, x4⟩ := rules5 B7
        clear B7 hb7 HS6
        cases t with
        | false =>
          have HK := Lib.hid (HX2.out.trans HK0.out)
          go_wp2_with fail
          refine (HP.out w7 (HS7.out.imp (fun b hb => hb.2) (fun _ _ => rfl))).mono ?_
          rintro e w8 ⟨rfl, hb9⟩
          have BR8 := HBR7.out.past hb9
          have hb10 := hb8.trans (hb9.mono hb8.size)
          clear x0 x1 x2 x3 x4
          obtain ⟨r0, r1, r2, r3, r4⟩ := rules5 BR8
          obtain ⟨f0, k1, k2, k3, k4⟩ := frozen5 BR8
          have HBR8 := Lib.hid BR8
          have hq : (Y.toList == s.toList) = false := HQ.out
          clear BR8 hb9 hb8
          go_wp2_with fail
          refine bodyPost_ret (res_two rfl _ _ w.heap.size _ _ _ _ _ _ rfl rfl (set5 HBR8.out)) rfl ?_
          rw [HK.out]
          exact ⟨rfl, below5 hb10 (Nat.le_refl _) _ _ _ _ _⟩
        | true =>
          have HK := Lib.hid (HX2.out.trans HK0.out)
          go_wp2_with fail
          refine (HP.out w7 (HS7.out.imp (fun b hb => hb.2) (fun _ _ => rfl))).mono ?_
          rintro e w8 ⟨rfl, hb9⟩
          have BR8 := HBR7.out.past hb9
          have B8 := HB7.out.past hb9
          have hb10 := hb8.trans (hb9.mono hb8.size)
          have HS8 := Lib.hid (HS7.out.imp (w' := w8) (P' := fun b => g4 < b ∧ b < w8.heap.size) (fun b hb => ⟨hb.1, Nat.lt_of_lt_of_le hb.2 hb9.size⟩) (fun p hp => hb9.cell hp.2))
          clear x0 x1 x2 x3 x4
          obtain ⟨x0, x1, x2, x3, x4⟩ := rules5 B8
          obtain ⟨r0, r1, r2, r3, r4⟩ := rules5 BR8
          obtain ⟨f0, k1, k2, k3, k4⟩ := frozen5 BR8
          have HBR8 := Lib.hid BR8
          have hq : (Y.toList == s.toList) = true := HQ.out
          clear BR8 B8 hb9 hb8
          go_wp2_with fail
          refine bodyPost_ret (res_two rfl _ _ w.heap.size _ _ _ _ _ _ rfl rfl (set5 HBR8.out)) rfl ?_
          rw [HK.out]
          exact ⟨none, 0, rfl, HC.out, HS8.out.imp (fun b hb => ⟨by omega, by rw [size5]; exact hb.2⟩) (fun p hp => far5 (by have := hp.1; omega)), below5 hb10 (Nat.le_refl _) _ _ _ _ _⟩
  · rw [decide_eq_false h42] at q4
    rw [if_neg h42] at HN
    have HL : Hid ((split 44 (v4.size + 14) (Nm.bs v4)).map Nm.mk = attrsN (v4.size + 14) (Nm.bs v4)) := HN.out.symm
    generalize attrsN (v4.size + 14) (Nm.bs v4) = l at HF HX HN HL
    clear h42 HN HE1 HE2 HB4 hbw4 hv4
    go_wp2_with fail
    refine (C5.out _).mono ?_
    rintro e w5 ⟨v, rfl, hO, hb5⟩
    rw [HL.out] at hO
    obtain ⟨A, c, rfl, hc, hS⟩ := OwnS.strs hO
    have hz5 := hb5.size
    have hz6 : (w4.alloc (.cells #[.bool D, .string v2, .bool E, .string a4, .slice none 0 0] 24)).heap.size = w4.heap.size + 1 := by simp
    rw [hz6] at hz5
    have BX5 := HBX.out.past hb5
    have BR5 := HBR.out.past hb5
    have hb6 := hbw5.trans (hb5.mono hbw5.size)
    have hS5 : StrsAt w5 (fun b => w4.heap.size < b ∧ b < w5.heap.size) A l := hS.imp (fun b hb => ⟨by have := hb.1; simp at this; omega, hb.2⟩) (fun _ _ => rfl)
    have HC := Lib.hid hc
    have y4 := BX5.cell 4
    have y4 : w5.cell? ⟨w4.heap.size, 4, none⟩ = some (.slice none 0 0) := y4
    have z4 : w5.frozen? ⟨w4.heap.size, 4, none⟩ = false := BX5.frozen 4
    have HBX5 := Lib.hid BX5
    have HBR5 := Lib.hid BR5
    have HS5 := Lib.hid hS5
    clear C5 HBX HBR hbw5 hb5 hO hS hS5 BX5 BR5 hc hz6
    go_upto_region 8 with fail
    have BX6 : Blk (w5.setCell ⟨w4.heap.size, 4, none⟩ (.slice A l.length c)) w4.heap.size 24 #[.bool D, .string v2, .bool E, .string a4, .slice A l.length c] := HBX5.out.set_ 4 _
    have BR6 : Blk (w5.setCell ⟨w4.heap.size, 4, none⟩ (.slice A l.length c)) w.heap.size 24 #[.bool false, .string ⟨#[]⟩, .bool false, .string ⟨#[]⟩, .slice none 0 0] := HBR5.out.far (p := ⟨w4.heap.size, 4, none⟩) (by show w.heap.size ≠ w4.heap.size; omega) _
    have hbw5 : Below w.heap.size w (w5.setCell ⟨w4.heap.size, 4, none⟩ (.slice A l.length c)) := hb6.setCell (p := ⟨w4.heap.size, 4, none⟩) (by show w.heap.size ≤ w4.heap.size; omega) _
    have hS : StrsAt (w5.setCell ⟨w4.heap.size, 4, none⟩ (.slice A l.length c)) (fun b => w4.heap.size < b ∧ b < w5.heap.size) A l := HS5.out.imp (fun _ h => h) (fun p hp => far1 (by have := hp.1; omega))
    have hz6 : (w5.setCell ⟨w4.heap.size, 4, none⟩ (.slice A l.length c)).heap.size = w5.heap.size := by simp [World.setCell]
    generalize (w5.setCell ⟨w4.heap.size, 4, none⟩ (.slice A l.length c)) = w6 at BR6 BX6 hbw5 hS hz6 ⊢
    rw [← hz6] at hS hz5
    generalize w4.heap.size = g4 at BX6 hS hlt4 hz5 ⊢
    have hg6 : g4 < w6.heap.size := by omega
    clear HBX5 HBR5 HS5 y4 z4 hb6 hz5 hz6
    have HBX6 := Lib.hid BX6
    have HBR6 := Lib.hid BR6
    have HS6 := Lib.hid hS
    have hgood : good (Nm.bs s) ⟨D, v2, E, a4, l⟩ = (isR ⟨D, v2, E, a4, l⟩ && decide (pr ⟨D, v2, E, a4, l⟩ = Nm.bs s)) := rfl
    have hkeep : keep (Nm.bs s) ⟨D, v2, E, a4, l⟩ = if good (Nm.bs s) ⟨D, v2, E, a4, l⟩ then some ⟨D, v2, E, a4, l⟩ else none := rfl
    obtain ⟨r0, r1, r2, r3, r4⟩ := rules5 BR6
    obtain ⟨f0, k1, k2, k3, k4⟩ := frozen5 BR6
    obtain ⟨x0, x1, x2, x3, x4⟩ := rules5 BX6
    cases hf : (f1 && (f2 && (f3 && f4))) with
    | false =>
      have HK : Hid (X = none) := by
        show _ = _
        rw [HX.out, hf, if_neg (by decide)]
      clear hgood hkeep HX BX6 BR6 hS CI CP
      cases f1 <;> cases f2 <;> cases f3 <;> cases f4 <;> first | (cases hf; done) | skip
      all_goals
        go_wp2_with fail
        refine bodyPost_ret (res_two rfl _ _ w.heap.size _ _ _ _ _ _ rfl rfl (set5 HBR6.out)) rfl ?_
        rw [HK.out]
        exact ⟨rfl, below5 hbw5 (Nat.le_refl _) _ _ _ _ _⟩
    | true =>
      have HX2 : Hid (X = keep (Nm.bs s) ⟨D, v2, E, a4, l⟩) := by
        show _ = _
        rw [HX.out, hf, if_pos rfl]
      simp only [Bool.and_eq_true] at hf
      obtain ⟨rfl, rfl, rfl, rfl⟩ := hf
      have CI1 := CI.out D v2 E a4 l A c w6 (hS.imp (fun b hb => hb.2) (fun _ _ => rfl)) HF.out
      cases hi : isR ⟨D, v2, E, a4, l⟩ with
      | false =>
        rw [hi] at CI1 hgood
        rw [hgood] at hkeep
        have HK := Lib.hid (HX2.out.trans hkeep)
        have HI := Lib.hid CI1
        clear CI1 hgood hkeep hi HX HX2 BX6 BR6 hS CI CP
        go_wp2_with fail
        refine HI.out.mono ?_
        rintro e w7 ⟨rfl, hb7⟩
        have BR7 := HBR6.out.past hb7
        have hb8 := hbw5.trans (hb7.mono hbw5.size)
        clear r0 r1 r2 r3 r4 f0 k1 k2 k3 k4 x0 x1 x2 x3 x4
        obtain ⟨r0, r1, r2, r3, r4⟩ := rules5 BR7
        obtain ⟨f0, k1, k2, k3, k4⟩ := frozen5 BR7
        have HBR7 := Lib.hid BR7
        clear BR7 hb7
        go_wp2_with fail
        refine bodyPost_ret (res_two rfl _ _ w.heap.size _ _ _ _ _ _ rfl rfl (set5 HBR7.out)) rfl ?_
        rw [HK.out]
        exact ⟨rfl, below5 hb8 (Nat.le_refl _) _ _ _ _ _⟩
      | true =>
        have CP1 := fun w2 h2 => CP.out D v2 E a4 l A c w2 h2 HF.out.w hi
        have hxs : ((Nm.mk (pr ⟨D, v2, E, a4, l⟩)).toList == s.toList) = decide (pr ⟨D, v2, E, a4, l⟩ = Nm.bs s) := by
          rw [toList_eq, Bool.eq_iff_iff, decide_eq_true_eq, decide_eq_true_eq, bs_inj]
        rw [hi] at CI1 hgood
        have HP := Lib.hid CP1
        have HI := Lib.hid CI1
        have HQ := Lib.hid hxs
        obtain ⟨Y, hY⟩ : ∃ Y, Y = Nm.mk (pr ⟨D, v2, E, a4, l⟩) := ⟨_, rfl⟩
        rw [← hY] at HP HQ
        have hg2 : good (Nm.bs s) ⟨D, v2, E, a4, l⟩ = decide (pr ⟨D, v2, E, a4, l⟩ = Nm.bs s) := by rw [hgood, Bool.true_and]
        rw [hg2] at hkeep
        generalize decide (pr ⟨D, v2, E, a4, l⟩ = Nm.bs s) = t at HQ hkeep
        have HK0 := Lib.hid hkeep
        clear CI1 CP1 hgood hkeep hi hY hg2 hxs HX BX6 BR6 hS CI CP
        go_wp2_with fail
        refine HI.out.mono ?_
        rintro e w7 ⟨rfl, hb7⟩
        have B7 := HBX6.out.past hb7
        have HB7 := Lib.hid B7
        have HBR7 := Lib.hid (HBR6.out.past hb7)
        have hb8 := hbw5.trans (hb7.mono hbw5.size)
        have HS7 := Lib.hid (HS6.out.imp (w' := w7) (P' := fun b => g4 < b ∧ b < w7.heap.size) (fun b hb => ⟨hb.1, Nat.lt_of_lt_of_le hb.2 hb7.size⟩) (fun p hp => hb7.cell hp.2))
        clear r0 r1 r2 r3 r4 f0 k1 k2 k3 k4 x0 x1 x2 x3 x4
        obtain ⟨x0, x1, x2, x3, x4⟩ := rules5 B7
        clear B7 hb7 HS6
        cases t with
        | false =>
          have HK := Lib.hid (HX2.out.trans HK0.out)
          go_wp2_with fail
          refine (HP.out w7 (HS7.out.imp (fun b hb => hb.2) (fun _ _ => rfl))).mono ?_
          rintro e w8 ⟨rfl, hb9⟩
          have BR8 := HBR7.out.past hb9
          have hb10 := hb8.trans (hb9.mono hb8.size)
          clear x0 x1 x2 x3 x4
          obtain ⟨r0, r1, r2, r3, r4⟩ := rules5 BR8
          obtain ⟨f0, k1, k2, k3, k4⟩ := frozen5 BR8
          have HBR8 := Lib.hid BR8
          have hq : (Y.toList == s.toList) = false := HQ.out
          clear BR8 hb9 hb8
          go_wp2_with fail
          refine bodyPost_ret (res_two rfl _ _ w.heap.size _ _ _ _ _ _ rfl rfl (set5 HBR8.out)) rfl ?_
          rw [HK.out]
          exact ⟨rfl, below5 hb10 (Nat.le_refl _) _ _ _ _ _⟩
        | true =>
          have HK := Lib.hid (HX2.out.trans HK0.out)
          go_wp2_with fail
          refine (HP.out w7 (HS7.out.imp (fun b hb => hb.2) (fun _ _ => rfl))).mono ?_
          rintro e w8 ⟨rfl, hb9⟩
          have BR8 := HBR7.out.past hb9
          have B8 := HB7.out.past hb9
          have hb10 := hb8.trans (hb9.mono hb8.size)
          have HS8 := Lib.hid (HS7.out.imp (w' := w8) (P' := fun b => g4 < b ∧ b < w8.heap.size) (fun b hb => ⟨hb.1, Nat.lt_of_lt_of_le hb.2 hb9.size⟩) (fun p hp => hb9.cell hp.2))
          clear x0 x1 x2 x3 x4
          obtain ⟨x0, x1, x2, x3, x4⟩ := rules5 B8
          obtain ⟨r0, r1, r2, r3, r4⟩ := rules5 BR8
          obtain ⟨f0, k1, k2, k3, k4⟩ := frozen5 BR8
          have HBR8 := Lib.hid BR8
          have hq : (Y.toList == s.toList) = true := HQ.out
          clear BR8 B8 hb9 hb8
          go_wp2_with fail
          refine bodyPost_ret (res_two rfl _ _ w.heap.size _ _ _ _ _ _ rfl rfl (set5 HBR8.out)) rfl ?_
          rw [HK.out]
          exact ⟨A, c, rfl, HC.out, HS8.out.imp (fun b hb => ⟨by omega, by rw [size5]; exact hb.2⟩) (fun p hp => far5 (by have := hp.1; omega)), below5 hb10 (Nat.le_refl _) _ _ _ _ _⟩
end Go.Proofs.YtpnlalfdgngcdaaDoor.Ru
