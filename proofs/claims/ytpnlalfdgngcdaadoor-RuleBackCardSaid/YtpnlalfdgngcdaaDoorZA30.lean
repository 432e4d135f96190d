import Derived.Test.YtpnlalfdgngcdaaDoorZA29
set_option linter.unusedVariables false
set_option maxRecDepth 100000
namespace Go.Proofs.YtpnlalfdgngcdaaDoor.Ru
open Go.RowKit
theorem res_two {fn : Func} {p u : Tmp} (h : fn.results = #[.cell p 24, .tmp u]) (tmps : Array Value) (w : World) (g : Nat) (x0 x1 x2 x3 x4 v : Value) (hp : tmps.getD p undef = .pointer (some ⟨g, 0, none⟩)) (hv : tmps.getD u undef = v) (hB : Blk w g 24 #[x0, x1, x2, x3, x4]) :
  (results fn tmps).run Tryd.prog w = .ok (.tuple #[.agg #[x0, x1, x2, x3, x4], v]) w:=by
 rw [results_cell_tmp h, hp, hv]
 have e:=run_loadVar_row (P:=Tryd.prog) w g 24 24 #[x0, x1, x2, x3, x4] (0, 0) _ hB Tryd.underlying24 rfl (by kernel_rfl)
 show (((loadVar 24 ⟨g, 0, none⟩).run Tryd.prog w).andThen fun v1 w₂=>Result.ok (Value.tuple #[v1, v]) w₂) = _
 rw [e]
 rfl
theorem attrsN_each (n : Nat) (t : List UInt8) : (attrsN n t).length ≤ n + 1 ∧ ∀ a ∈ attrsN n t, a.size ≤ t.length:=by
 unfold attrsN
 split
 ·exact ⟨by simp, fun a ha=>by simp at ha⟩
 ·refine ⟨by rw [List.length_map]; exact (split_len n t).2, fun a ha=>?_⟩
  obtain ⟨x, hx, rfl⟩:=List.mem_map.1 ha
  exact split_each n t x hx
theorem read_one (s : ByteArray) (w : World) (hs : s.size ≤ 1000000000) :
  Calls Tryd.prog 19 #[.string s] w fun e w'=>∃ d R sb W l A c, e = .returned (.agg #[.bool d, .string R, .bool sb, .string W, .slice A l.length c]) ∧ l.length ≤ c ∧ StrsAt w' (fun b=>w.heap.size ≤ b ∧ b < w'.heap.size) A l ∧ Below w.heap.size w w' ∧ Fit R W l ∧ parse (Nm.bs s) = keep (Nm.bs s) ⟨d, R, sb, W, l⟩:=by
 refine (read_any s w hs).mono fun e w' hp=>?_
 have hbl : (Nm.bs s).length = s.size:=rfl
 cases hw : words (Nm.bs s) with
 | none =>
  rw [hw] at hp
  obtain ⟨rfl, hb⟩:=hp
  refine ⟨false, ⟨#[]⟩, false, ⟨#[]⟩, [], none, 0, rfl, Nat.le_refl _, StrsAt.nil _ _ _, hb, ⟨by decide, by decide, by simp, fun a ha=>by simp at ha⟩, ?_⟩
  rw [parse_none hw, keep_bad (by rfl)]
 | some p =>
  obtain ⟨v, r, h, t, q⟩:=p
  rw [hw] at hp
  obtain ⟨A, c, rfl, hc, hS, hb⟩:=hp
  have hl:=words_len hw
  have ha:=attrsN_each 14 t
  exact ⟨_, _, _, _, _, A, c, rfl, hc, hS, hb, ⟨by show r.toArray.size ≤ _; simp; omega, by show q.toArray.size ≤ _; simp; omega, by omega, fun a h=>by have:=ha.2 a h; omega⟩, parse_words hw 14 (by omega)⟩
def ParsePost (B : Nat) (w : World) (e : Ending) (w' : World) : Option Rul → Prop
 | none=>e = .returned (.tuple #[.agg #[.bool false, .string ⟨#[]⟩, .bool false, .string ⟨#[]⟩, .slice none 0 0], .int .i64 20]) ∧ Below B w w'
 | some r=>∃ A c, e = .returned (.tuple #[.agg #[.bool r.deny, .string r.rights, .bool r.sub, .string r.who, .slice A r.attrs.length c], .int .i64 0]) ∧ r.attrs.length ≤ c ∧ StrsAt w' (fun b=>B ≤ b ∧ b < w'.heap.size) A r.attrs ∧ Below B w w'
set_option maxHeartbeats 4000000 in
theorem parse_any (s : ByteArray) (w : World) (hs : s.size ≤ 1000000000) :
  Calls Tryd.prog 10 #[.string s] w fun e w'=>ParsePost w.heap.size w e w' (parse (Nm.bs s)):=by
 have CR:=Lib.hid (fun w=>read_one s w hs)
 have CI:=Lib.hid is_any
 have CP:=Lib.hid print_any
 obtain ⟨X, hX⟩ : ∃ X, X = parse (Nm.bs s):=⟨_, rfl⟩
 rw [← hX]
 have HX:=Lib.hid hX
 clear hX
 go_enter Tryd.func10, Tryd.ntmps10
 go_wp2_with fail
 refine (CR.out _).mono ?_
 rintro e w1 ⟨d, R, sb, W, l, A, c, rfl, hc, hS, hb1, hf, hk⟩
 have HX2:=Lib.hid (HX.out.trans hk)
 have B1:=(Blk.new w 24 #[.bool false, .string ⟨#[]⟩, .bool false, .string ⟨#[]⟩, .slice none 0 0]).past hb1
 have hbw1 : Below w.heap.size w w1:=((Below.refl _ _).alloc (Nat.le_refl _) _).trans (hb1.mono (by simp))
 have hz1:=B1.lt
 have HS1:=Lib.hid (hS.imp (P':=fun b=>w.heap.size < b ∧ b < w1.heap.size) (fun b hb=>⟨by have:=hb.1; simp at this; omega, hb.2⟩) (fun _ _=>rfl))
 have HC:=Lib.hid hc
 have HF:=Lib.hid hf
 have HBR:=Lib.hid (B1.alloc (.cells #[.bool d, .string R, .bool sb, .string W, .slice A l.length c] 24))
 have HB:=Lib.hid (Blk.new w1 24 #[.bool d, .string R, .bool sb, .string W, .slice A l.length c])
 have hbw2:=hbw1.alloc hbw1.size (.cells #[.bool d, .string R, .bool sb, .string W, .slice A l.length c] 24)
 have HS2:=Lib.hid (HS1.out.imp (w':=w1.alloc (.cells #[.bool d, .string R, .bool sb, .string W, .slice A l.length c] 24)) (P':=fun b=>b < (w1.alloc (.cells #[.bool d, .string R, .bool sb, .string W, .slice A l.length c] 24)).heap.size) (fun b hb=>by simp; omega) (fun p hp=>Below.cell ((Below.refl w1.heap.size w1).alloc (Nat.le_refl _) _) hp.2))
 have hxs : ((Nm.mk (pr ⟨d, R, sb, W, l⟩)).toList == s.toList) = decide (pr ⟨d, R, sb, W, l⟩ = Nm.bs s):=by
  rw [toList_eq, Bool.eq_iff_iff, decide_eq_true_eq, decide_eq_true_eq, bs_inj]
 have HQ:=Lib.hid hxs
 have hgood : good (Nm.bs s) ⟨d, R, sb, W, l⟩ = (isR ⟨d, R, sb, W, l⟩ && decide (pr ⟨d, R, sb, W, l⟩ = Nm.bs s)):=rfl
 have hkeep : keep (Nm.bs s) ⟨d, R, sb, W, l⟩ = if good (Nm.bs s) ⟨d, R, sb, W, l⟩ then some ⟨d, R, sb, W, l⟩ else none:=rfl
 clear hc hf hk hS hb1 hbw1 B1 HX CR hxs
 have CI1:=CI.out d R sb W l A c _ HS2.out HF.out
 cases hi : isR ⟨d, R, sb, W, l⟩ with
 | false =>
  rw [hi] at CI1 hgood
  rw [hgood] at hkeep
  have HK:=Lib.hid (HX2.out.trans hkeep)
  have HI:=Lib.hid CI1
  clear CI1 hgood hkeep hi
  go_wp2_with fail
  refine HI.out.mono ?_
  rintro e w2 ⟨rfl, hb2⟩
  have BR2:=HBR.out.past hb2
  have hb3:=hbw2.trans (hb2.mono hbw2.size)
  obtain ⟨r0, r1, r2, r3, r4⟩:=rules5 BR2
  obtain ⟨f0, f1, f2, f3, f4⟩:=frozen5 BR2
  have HBR2:=Lib.hid BR2
  clear BR2 hb2 hbw2
  go_wp2_with fail
  refine bodyPost_ret (res_two rfl _ _ w.heap.size _ _ _ _ _ _ rfl rfl (set5 HBR2.out)) rfl ?_
  rw [HK.out]
  exact ⟨rfl, below5 hb3 (Nat.le_refl _) _ _ _ _ _⟩
 | true =>
  have CP1:=fun w2 h2=>CP.out d R sb W l A c w2 h2 HF.out HC.out
  rw [hi] at CI1 hgood CP1
  rw [if_pos rfl] at CP1
  have HP:=Lib.hid CP1
  have HI:=Lib.hid CI1
  obtain ⟨Y, hY⟩ : ∃ Y, Y = Nm.mk (pr ⟨d, R, sb, W, l⟩):=⟨_, rfl⟩
  rw [← hY] at HP HQ
  have hg2 : good (Nm.bs s) ⟨d, R, sb, W, l⟩ = decide (pr ⟨d, R, sb, W, l⟩ = Nm.bs s):=by rw [hgood, Bool.true_and]
  rw [hg2] at hkeep
  generalize decide (pr ⟨d, R, sb, W, l⟩ = Nm.bs s) = t at HQ hkeep
  have HK0:=Lib.hid hkeep
  clear CI1 CP1 hgood hkeep hi CI CP hY hg2
  go_wp2_with fail
  refine HI.out.mono ?_
  rintro e w2 ⟨rfl, hb2⟩
  have B2:=HB.out.past hb2
  obtain ⟨a0, a1, a2, a3, a4⟩:=rules5 B2
  have HB2:=Lib.hid B2
  have HBR2:=Lib.hid (HBR.out.past hb2)
  have hb3:=hbw2.trans (hb2.mono hbw2.size)
  have HS3:=Lib.hid (HS2.out.imp (P':=(· < w2.heap.size)) (fun b hb=>Nat.lt_of_lt_of_le hb hb2.size) (fun p hp=>hb2.cell hp))
  have HS4:=Lib.hid ((HS1.out.imp (w':=w1.alloc (.cells #[.bool d, .string R, .bool sb, .string W, .slice A l.length c] 24)) (P':=fun b=>w.heap.size < b ∧ b < w1.heap.size) (fun _ h=>h) (fun p hp=>Below.cell ((Below.refl w1.heap.size w1).alloc (Nat.le_refl _) _) hp.2)).imp (w':=w2) (P':=fun b=>w.heap.size < b ∧ b < w1.heap.size) (fun _ h=>h) (fun p hp=>hb2.cell (by have:=hp.2; simp; omega)))
  have hs2:=hb2.size
  have hs21 : w1.heap.size < w2.heap.size:=by simp at hs2; omega
  clear B2 hb2 hbw2 hs2
  cases t with
  | false =>
   have HK:=Lib.hid (HX2.out.trans HK0.out)
   go_wp2_with fail
   refine (HP.out w2 HS3.out).mono ?_
   rintro e w3 ⟨rfl, hb4⟩
   have BR3:=HBR2.out.past hb4
   have hb5:=hb3.trans (hb4.mono hb3.size)
   obtain ⟨r0, r1, r2, r3, r4⟩:=rules5 BR3
   obtain ⟨f0, f1, f2, f3, f4⟩:=frozen5 BR3
   have HBR3:=Lib.hid BR3
   have hq : (Y.toList == s.toList) = false:=HQ.out
   clear BR3 hb4 hb3 a0 a1 a2 a3 a4
   go_wp2_with fail
   refine bodyPost_ret (res_two rfl _ _ w.heap.size _ _ _ _ _ _ rfl rfl (set5 HBR3.out)) rfl ?_
   rw [HK.out]
   exact ⟨rfl, below5 hb5 (Nat.le_refl _) _ _ _ _ _⟩
  | true =>
   have HK:=Lib.hid (HX2.out.trans HK0.out)
   go_wp2_with fail
   refine (HP.out w2 HS3.out).mono ?_
   rintro e w3 ⟨rfl, hb4⟩
   have BR3:=HBR2.out.past hb4
   have B3:=HB2.out.past hb4
   have hb5:=hb3.trans (hb4.mono hb3.size)
   have HS5:=Lib.hid (HS4.out.imp (w':=w3) (P':=fun b=>w.heap.size < b ∧ b < w3.heap.size) (fun b h=>⟨h.1, by have:=h.2; have:=hb4.size; omega⟩) (fun p hp=>hb4.cell (by have:=hp.2; omega)))
   clear a0 a1 a2 a3 a4
   obtain ⟨a0, a1, a2, a3, a4⟩:=rules5 B3
   obtain ⟨r0, r1, r2, r3, r4⟩:=rules5 BR3
   obtain ⟨f0, f1, f2, f3, f4⟩:=frozen5 BR3
   have HBR3:=Lib.hid BR3
   have hq : (Y.toList == s.toList) = true:=HQ.out
   clear BR3 B3 hb4 hb3
   go_wp2_with fail
   refine bodyPost_ret (res_two rfl _ _ w.heap.size _ _ _ _ _ _ rfl rfl (set5 HBR3.out)) rfl ?_
   rw [HK.out]
   exact ⟨A, c, rfl, HC.out, HS5.out.imp (fun b hb=>⟨by omega, by rw [size5]; exact hb.2⟩) (fun p hp=>far5 (by have:=hp.1; omega)), below5 hb5 (Nat.le_refl _) _ _ _ _ _⟩
end Go.Proofs.YtpnlalfdgngcdaaDoor.Ru
