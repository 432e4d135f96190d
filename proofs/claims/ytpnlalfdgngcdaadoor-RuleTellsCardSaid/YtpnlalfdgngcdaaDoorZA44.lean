import Derived.Test.YtpnlalfdgngcdaaDoorZA12
import Derived.Test.YtpnlalfdgngcdaaDoorZA28
import Derived.Test.YtpnlalfdgngcdaaDoorZA31
import Derived.Test.YtpnlalfdgngcdaaDoorZA43
import Derived.Test.YtpnlalfdgngcdaaDoorZA42
import Derived.Test.YtpnlalfdgngcdaaDoorZA13
set_option linter.unusedVariables false
set_option maxRecDepth 100000
namespace Go.Proofs.YtpnlalfdgngcdaaDoor.Ru
open Go.RowKit
def got (X : Option Rul) : Rul:=X.getD ⟨false, ⟨#[]⟩, false, ⟨#[]⟩, []⟩
def errZ (b : Bool) : Int:=if b then 0 else 20
theorem got_few (s : List UInt8) : (got (parse s)).attrs.length ≤ 15:=by
 cases h : parse s with
 | none=>exact Nat.zero_le _
 | some r=>exact ok_few (isR_of (parse_some h).1).2.2
theorem parse_got (s : ByteArray) (w : World) (hs : s.size ≤ 1000000000) :
  Calls Tryd.prog 10 #[.string s] w fun e w'=>∃ A c, e = .returned (.tuple #[.agg #[.bool (got (parse (Nm.bs s))).deny, .string (got (parse (Nm.bs s))).rights, .bool (got (parse (Nm.bs s))).sub, .string (got (parse (Nm.bs s))).who, .slice A (got (parse (Nm.bs s))).attrs.length c], .int .i64 (errZ (parse (Nm.bs s)).isSome)]) ∧ StrsAt w' (· < w'.heap.size) A (got (parse (Nm.bs s))).attrs ∧ Below w.heap.size w w':=by
 refine (parse_any s w hs).mono fun e w' hp=>?_
 cases h : parse (Nm.bs s) with
 | none =>
  rw [h] at hp
  obtain ⟨rfl, hb⟩:=hp
  exact ⟨none, 0, rfl, StrsAt.nil _ _ _, hb⟩
 | some r =>
  rw [h] at hp
  obtain ⟨A, c, rfl, _, hS, hb⟩:=hp
  exact ⟨A, c, rfl, hS.imp (fun b hb=>hb.2) (fun _ _=>rfl), hb⟩
theorem rparse_got (s : ByteArray) (w : World) (hs : s.size ≤ 100000000) :
  Calls Tryd.prog 11 #[.string s] w fun e w'=>∃ A c, e = .returned (.tuple #[.agg #[.bool (got (parse (Nm.bs s))).deny, .string (got (parse (Nm.bs s))).rights, .bool (got (parse (Nm.bs s))).sub, .string (got (parse (Nm.bs s))).who, .slice A (got (parse (Nm.bs s))).attrs.length c], .bool (parse (Nm.bs s)).isSome]) ∧ StrsAt w' (· < w'.heap.size) A (got (parse (Nm.bs s))).attrs ∧ Below w.heap.size w w':=by
 refine (rparse_any s w hs).mono fun e w' hp=>?_
 cases h : parse (Nm.bs s) with
 | none =>
  rw [h] at hp
  obtain ⟨rfl, hb⟩:=hp
  exact ⟨none, 0, rfl, StrsAt.nil _ _ _, hb⟩
 | some r =>
  rw [h] at hp
  obtain ⟨A, c, rfl, _, hS, hb⟩:=hp
  exact ⟨A, c, rfl, hS.imp (fun b hb=>hb.2) (fun _ _=>rfl), hb⟩
theorem run_loadRow {P : Program} {ev : Operand → Value} {o : Oper} {x : Operand} {w : World} {g : Nat} {t ty : TypeId} {cs : Array Value} {d : TypeDesc} (ho : o.op = .load ty x) (hx : ev x = .pointer (some ⟨g, 0, none⟩)) (h : Blk w g t cs)
  (hu : P.underlying ty = some d) (hd : (match d with | .struct _ | .array _ _=>true | _=>false) = true) (hi : (P.info? ty).map (·.size) = some cs.size) : (execOp ev o).run P w = .ok (.value (.agg cs)) w:=by
 unfold execOp
 simp only [ho, hx, Instr.loadAt, Instr.sureAddr, Sem.run_bind, Sem.run_pure, Result.andThen_ok, run_loadVar_row w g t ty cs (0, 0) d h hu hd hi]
theorem run_eqs {P : Program} {ev : Operand → Value} {o : Oper} {x y : Operand} {t u : TypeId} {a : ByteArray} {w : World} (ho : o.op = .binOp .eql t x y u) (hx : ev x = .string a) (hy : ev y = .string a) : (execOp ev o).run P w = .ok (.value (.bool true)) w:=by
 unfold execOp
 simp [ho, hx, hy, eqGuard, binOp, Op.stringOp, go_sem]
def Hold (w0 : World) (b1 b2 : Nat) (x0 x1 x2 x3 x4 y0 y1 y2 y3 y4 : Value) (A : Option Addr) (l : List ByteArray) (A' : Option Addr) (l' : List ByteArray) (w : World) : Prop :=
 Blk w b1 24 #[x0, x1, x2, x3, x4] ∧ Blk w b2 24 #[y0, y1, y2, y3, y4] ∧ StrsAt w (· < w.heap.size) A l ∧ StrsAt w (· < w.heap.size) A' l' ∧ Below w0.heap.size w0 w
theorem Hold.past {w0 : World} {b1 b2 : Nat} {x0 x1 x2 x3 x4 y0 y1 y2 y3 y4 : Value} {A : Option Addr} {l : List ByteArray} {A' : Option Addr} {l' : List ByteArray} {w w' : World} (h : Hold w0 b1 b2 x0 x1 x2 x3 x4 y0 y1 y2 y3 y4 A l A' l' w) (hb : Below w.heap.size w w') :
  Hold w0 b1 b2 x0 x1 x2 x3 x4 y0 y1 y2 y3 y4 A l A' l' w':=⟨h.1.past hb, h.2.1.past hb, h.2.2.1.past hb, h.2.2.2.1.past hb, h.2.2.2.2.trans (hb.mono h.2.2.2.2.size)⟩
theorem Hold.cells {w0 : World} {b1 b2 : Nat} {x0 x1 x2 x3 x4 y0 y1 y2 y3 y4 : Value} {A : Option Addr} {l : List ByteArray} {A' : Option Addr} {l' : List ByteArray} {w : World} (h : Hold w0 b1 b2 x0 x1 x2 x3 x4 y0 y1 y2 y3 y4 A l A' l' w) :
  w.cell? ⟨b1, 0, none⟩ = some x0 ∧ w.cell? ⟨b1, 1, none⟩ = some x1 ∧ w.cell? ⟨b1, 2, none⟩ = some x2 ∧ w.cell? ⟨b1, 3, none⟩ = some x3 ∧ w.cell? ⟨b1, 4, none⟩ = some x4 ∧ w.cell? ⟨b2, 0, none⟩ = some y0 ∧ w.cell? ⟨b2, 1, none⟩ = some y1 ∧ w.cell? ⟨b2, 2, none⟩ = some y2 ∧ w.cell? ⟨b2, 3, none⟩ = some y3 ∧ w.cell? ⟨b2, 4, none⟩ = some y4:=by
 obtain ⟨p0, p1, p2, p3, p4⟩:=rules5 h.1
 obtain ⟨q0, q1, q2, q3, q4⟩:=rules5 h.2.1
 exact ⟨p0, p1, p2, p3, p4, q0, q1, q2, q3, q4⟩
theorem twenty {w0 w1 : World} {b1 b2 b3 b4 : Nat} {x0 x1 x2 x3 x4 y0 y1 y2 y3 y4 u0 u1 u2 u3 u4 v0 v1 v2 v3 v4 : Value} {A : Option Addr} {l : List ByteArray} {A' : Option Addr} {l' : List ByteArray} {A3 : Option Addr} {l3 : List ByteArray} {A4 : Option Addr} {l4 : List ByteArray} {w : World}
  (h : Hold w0 b1 b2 x0 x1 x2 x3 x4 y0 y1 y2 y3 y4 A l A' l' w) (h' : Hold w1 b3 b4 u0 u1 u2 u3 u4 v0 v1 v2 v3 v4 A3 l3 A4 l4 w) :
  (w.cell? ⟨b1, 0, none⟩ = some x0 ∧ w.cell? ⟨b1, 1, none⟩ = some x1 ∧ w.cell? ⟨b1, 2, none⟩ = some x2 ∧ w.cell? ⟨b1, 3, none⟩ = some x3 ∧ w.cell? ⟨b1, 4, none⟩ = some x4 ∧ w.cell? ⟨b2, 0, none⟩ = some y0 ∧ w.cell? ⟨b2, 1, none⟩ = some y1 ∧ w.cell? ⟨b2, 2, none⟩ = some y2 ∧ w.cell? ⟨b2, 3, none⟩ = some y3 ∧ w.cell? ⟨b2, 4, none⟩ = some y4 ∧
  w.cell? ⟨b3, 0, none⟩ = some u0 ∧ w.cell? ⟨b3, 1, none⟩ = some u1 ∧ w.cell? ⟨b3, 2, none⟩ = some u2 ∧ w.cell? ⟨b3, 3, none⟩ = some u3 ∧ w.cell? ⟨b3, 4, none⟩ = some u4 ∧ w.cell? ⟨b4, 0, none⟩ = some v0 ∧ w.cell? ⟨b4, 1, none⟩ = some v1 ∧ w.cell? ⟨b4, 2, none⟩ = some v2 ∧ w.cell? ⟨b4, 3, none⟩ = some v3 ∧ w.cell? ⟨b4, 4, none⟩ = some v4):=by
 obtain ⟨p0, p1, p2, p3, p4, q0, q1, q2, q3, q4⟩:=h.cells
 obtain ⟨r0, r1, r2, r3, r4, s0, s1, s2, s3, s4⟩:=h'.cells
 exact ⟨p0, p1, p2, p3, p4, q0, q1, q2, q3, q4, r0, r1, r2, r3, r4, s0, s1, s2, s3, s4⟩
set_option maxHeartbeats 16000000 in
theorem tells_go (d : Bool) (R : ByteArray) (sb : Bool) (W : ByteArray) (l : List ByteArray) (A : Option Addr) (c : Nat) (d' : Bool) (R' : ByteArray) (sb' : Bool) (W' : ByteArray) (l' : List ByteArray) (A' : Option Addr) (c' : Nat) (s : ByteArray) (w : World)
  (hr : RuIn w ⟨d, R, sb, W, l⟩ A c) (hq : RuIn w ⟨d', R', sb', W', l'⟩ A' c') :
  Calls Tryd.prog 3 #[.agg #[.bool d, .string R, .bool sb, .string W, .slice A l.length c], .agg #[.bool d', .string R', .bool sb', .string W', .slice A' l'.length c'], .string s] w fun r w'=>r = .returned (.bool true) ∧ Below w.heap.size w w':=by
 obtain ⟨zr, zw, hcap, hlen, hea, hstr⟩:=hr
 obtain ⟨zr', zw', hcap', hlen', hea', hstr'⟩:=hq
 have hcap : l.length ≤ c:=hcap
 have CK:=Lib.hid known_any
 have hb0 : Below w.heap.size w ((w.alloc (.cells #[.bool d, .string R, .bool sb, .string W, .slice A l.length c] 24)).alloc (.cells #[.bool d', .string R', .bool sb', .string W', .slice A' l'.length c'] 24)):=((Below.refl _ _).alloc (Nat.le_refl _) _).alloc (by simp) _
 have F1:=Blk.new (w.alloc (.cells #[.bool d, .string R, .bool sb, .string W, .slice A l.length c] 24)) 24 #[.bool d', .string R', .bool sb', .string W', .slice A' l'.length c']
 rw [show (w.alloc (.cells #[.bool d, .string R, .bool sb, .string W, .slice A l.length c] 24)).heap.size = w.heap.size + 1 by simp] at F1
 have H0 : Hid (Hold w w.heap.size (w.heap.size + 1) (.bool d) (.string R) (.bool sb) (.string W) (.slice A l.length c) (.bool d') (.string R') (.bool sb') (.string W') (.slice A' l'.length c') A l A' l' ((w.alloc (.cells #[.bool d, .string R, .bool sb, .string W, .slice A l.length c] 24)).alloc (.cells #[.bool d', .string R', .bool sb', .string W', .slice A' l'.length c'] 24))) :=
  ⟨(Blk.new w _ _).alloc _, F1, hstr.past hb0, hstr'.past hb0, hb0⟩
 have HF:=Lib.hid (fun w h=>few_any d R sb W l A c w h hlen zr zw hea)
 have HG:=Lib.hid (fun w h=>few_any d' R' sb' W' l' A' c' w h hlen' zr' zw' hea')
 obtain ⟨fe, hfe⟩ : ∃ fe, fe = fewR R W l:=⟨_, rfl⟩
 obtain ⟨ge, hge⟩ : ∃ ge, ge = fewR R' W' l':=⟨_, rfl⟩
 rw [← hfe] at HF
 rw [← hge] at HG
 have HFE:=Lib.hid hfe
 have HGE:=Lib.hid hge
 have CI:=Lib.hid (fun w h hf=>is_any d R sb W l A c w h hf)
 have CJ:=Lib.hid (fun w h hf=>rIs_any d R sb W l A c w h hf)
 obtain ⟨ie, hie⟩ : ∃ ie, ie = isR ⟨d, R, sb, W, l⟩:=⟨_, rfl⟩
 rw [← hie] at CI CJ
 have HIE:=Lib.hid hie
 have CP:=Lib.hid (fun w h hf=>print_any d R sb W l A c w h hf hcap)
 rw [← hie] at CP
 have CQ:=Lib.hid (fun w h hw hi=>rprint_any d R sb W l A c w h hw hi)
 have CS:=Lib.hid (fun w h h'=>same_any d R sb W l A c d' R' sb' W' l' A' c' w h h' hlen hlen')
 have CT:=Lib.hid (fun w h h'=>rsame_any d R sb W l A c d' R' sb' W' l' A' c' w h h' hlen hlen')
 generalize sameR ⟨d, R, sb, W, l⟩ ⟨d', R', sb', W', l'⟩ = se at CS CT
 have CV:=Lib.hid rsame_any
 clear zr zw hcap hlen hea hstr zr' zw' hcap' hlen' hea' hstr' hfe hge hie F1 hb0
 go_enter Tryd.func3, Tryd.ntmps3
 go_wp2_with fail
 refine (CK.out _).mono ?_
 rintro e w1 ⟨rfl, hb⟩
 have H1:=Lib.hid (H0.out.past hb)
 obtain ⟨a0, a1, a2, a3, a4, b0, b1, b2, b3, b4⟩:=Hold.cells H1.out
 clear hb H0 CK
 go_wp2_with fail
 refine (HF.out _ H1.out.2.2.1).mono ?_
 rintro e w2 ⟨rfl, hb⟩
 have H2:=Lib.hid (H1.out.past hb)
 clear a0 a1 a2 a3 a4 b0 b1 b2 b3 b4
 obtain ⟨a0, a1, a2, a3, a4, b0, b1, b2, b3, b4⟩:=Hold.cells H2.out
 clear hb H1 HF
 cases fe with
 | false =>
  go_wp2_with fail
  go_ret
  exact ⟨rfl, H2.out.2.2.2.2⟩
 | true =>
  obtain ⟨hfit, hw200⟩:=fewR_fit HFE.out.symm
  have HFit:=Lib.hid hfit
  clear hfit HFE
  go_wp2_with fail
  refine (HG.out _ H2.out.2.2.2.1).mono ?_
  rintro e w3 ⟨rfl, hb⟩
  have H3:=Lib.hid (H2.out.past hb)
  clear a0 a1 a2 a3 a4 b0 b1 b2 b3 b4
  obtain ⟨a0, a1, a2, a3, a4, b0, b1, b2, b3, b4⟩:=Hold.cells H3.out
  clear hb H2 HG
  cases ge with
  | false =>
   go_wp2_with fail
   go_ret
   exact ⟨rfl, H3.out.2.2.2.2⟩
  | true =>
   by_cases hs : 200 < (s.size : Int)
   ·go_wp2_with fail
    go_ret
    exact ⟨rfl, H3.out.2.2.2.2⟩
   have hs' : (s.size : Int) ≤ 200:=by omega
   have HG3:=got_few (Nm.bs s)
   have C6:=fun w=>parse_got s w (by omega)
   have C7:=fun w=>rparse_got s w (by omega)
   generalize got (parse (Nm.bs s)) = x at C6 C7 HG3
   obtain ⟨d3, R3, s3, W3, l3⟩:=x
   have C6 : ∀ w, Calls Tryd.prog 10 #[.string s] w fun e w'=>∃ A3 c3, e = .returned (.tuple #[.agg #[.bool d3, .string R3, .bool s3, .string W3, .slice A3 l3.length c3], .int .i64 (errZ (parse (Nm.bs s)).isSome)]) ∧ StrsAt w' (· < w'.heap.size) A3 l3 ∧ Below w.heap.size w w':=C6
   have C7 : ∀ w, Calls Tryd.prog 11 #[.string s] w fun e w'=>∃ A4 c4, e = .returned (.tuple #[.agg #[.bool d3, .string R3, .bool s3, .string W3, .slice A4 l3.length c4], .bool (parse (Nm.bs s)).isSome]) ∧ StrsAt w' (· < w'.heap.size) A4 l3 ∧ Below w.heap.size w w':=C7
   have HL3 : Hid (l3.length ≤ maxLen):=by show l3.length ≤ maxLen; have : l3.length ≤ 15:=HG3; unfold maxLen; omega
   have C8 : Hid (∀ A3 c3 A4 c4 w, StrsAt w (· < w.heap.size) A3 l3 → StrsAt w (· < w.heap.size) A4 l3 → Calls Tryd.prog 15 #[.agg #[.bool d3, .string R3, .bool s3, .string W3, .slice A3 l3.length c3], .agg #[.bool d3, .string R3, .bool s3, .string W3, .slice A4 l3.length c4]] w fun e w'=>e = .returned (.bool true) ∧ Below w.heap.size w w'):=fun A3 c3 A4 c4 w h h'=>by
    have h:=CV.out d3 R3 s3 W3 l3 A3 c3 d3 R3 s3 W3 l3 A4 c4 w h h' HL3.out HL3.out
    rw [sameR_self] at h
    exact h
   have HE : Hid ((errZ (parse (Nm.bs s)).isSome = 0 ∧ (parse (Nm.bs s)).isSome = true) ∨ (errZ (parse (Nm.bs s)).isSome = 20 ∧ (parse (Nm.bs s)).isSome = false)):=by
    show _ ∨ _
    cases (parse (Nm.bs s)).isSome
    ·exact Or.inr ⟨rfl, rfl⟩
    ·exact Or.inl ⟨rfl, rfl⟩
   generalize errZ (parse (Nm.bs s)).isSome = e3 at C6 HE
   generalize (parse (Nm.bs s)).isSome = pe at C7 HE
   have HC6:=Lib.hid C6
   have HC7:=Lib.hid C7
   clear C6 C7 HG3 CV hs HGE
   go_wp2_with fail
   refine (CJ.out _ H3.out.2.2.1 HFit.out).mono ?_
   rintro e w4 ⟨rfl, hb⟩
   have H4:=Lib.hid (H3.out.past hb)
   clear a0 a1 a2 a3 a4 b0 b1 b2 b3 b4
   obtain ⟨a0, a1, a2, a3, a4, b0, b1, b2, b3, b4⟩:=Hold.cells H4.out
   clear hb H3
   obtain ⟨P, hP⟩ : ∃ P, P = (if ie = true then Nm.mk (pr ⟨d, R, sb, W, l⟩) else ⟨#[]⟩):=⟨_, rfl⟩
   rw [← hP] at CP
   cases ie with
   | false =>
    have hP0 : P = ⟨#[]⟩:=by rw [hP, if_neg (by decide)]
    subst hP0
    clear hP
    go_wp2_with fail
    refine (HC6.out _).mono ?_
    rintro e w6 ⟨A3, c3, rfl, hS3, hb⟩
    have hb6:=hb.alloc hb.size (.cells #[.bool d3, .string R3, .bool s3, .string W3, .slice A3 l3.length c3] 24)
    have H6:=Lib.hid ((H4.out.past hb).past ((Below.refl _ _).alloc (Nat.le_refl _) (.cells #[.bool d3, .string R3, .bool s3, .string W3, .slice A3 l3.length c3] 24)))
    have HX6:=Lib.hid (Blk.new w6 24 #[.bool d3, .string R3, .bool s3, .string W3, .slice A3 l3.length c3])
    have HS6:=Lib.hid (hS3.alloc (.cells #[.bool d3, .string R3, .bool s3, .string W3, .slice A3 l3.length c3] 24))
    clear a0 a1 a2 a3 a4 b0 b1 b2 b3 b4 hb hS3 H4 HC6 hb6
    go_wp2_with fail
    refine (HC7.out _).mono ?_
    rintro e w7 ⟨A4, c4, rfl, hS4, hb⟩
    have H7:=Lib.hid ((H6.out.past hb).past ((Below.refl _ _).alloc (Nat.le_refl _) (.cells #[.bool d3, .string R3, .bool s3, .string W3, .slice A4 l3.length c4] 24)))
    have K7 : Hid (Hold (w7.alloc (.cells #[.bool d3, .string R3, .bool s3, .string W3, .slice A4 l3.length c4] 24)) w6.heap.size w7.heap.size (.bool d3) (.string R3) (.bool s3) (.string W3) (.slice A3 l3.length c3) (.bool d3) (.string R3) (.bool s3) (.string W3) (.slice A4 l3.length c4) A3 l3 A4 l3 (w7.alloc (.cells #[.bool d3, .string R3, .bool s3, .string W3, .slice A4 l3.length c4] 24))) :=
     ⟨(HX6.out.past hb).alloc _, Blk.new _ _ _, (HS6.out.past hb).alloc _, hS4.alloc _, Below.refl _ _⟩
    clear hb hS4 HX6 HS6 H6 HC7
    have twn:=twenty H7.out K7.out
    obtain ⟨a0, a1, a2, a3, a4, b0, b1, b2, b3, b4, x0, x1, x2, x3, x4, y0, y1, y2, y3, y4⟩:=twn
    rcases HE.out with ⟨he3, hpe⟩ | ⟨he3, hpe⟩
    ·subst he3 hpe
     clear HE
     go_upto_region 10 with fail
     clear a0 a1 a2 a3 a4 b0 b1 b2 b3 b4 x0 x1 x2 x3 x4 y0 y1 y2 y3 y4
     generalize w7.alloc (.cells #[.bool d3, .string R3, .bool s3, .string W3, .slice A4 l3.length c4] 24) = w8 at H7 K7 ⊢
     generalize w6.heap.size = g3 at K7 ⊢
     generalize w7.heap.size = g4 at K7 ⊢
     refine wp_region_noPanic ?_
     refine wp_region_held_drew (S:=fun w'=>Hold w w.heap.size (w.heap.size + 1) (.bool d) (.string R) (.bool sb) (.string W) (.slice A l.length c) (.bool d') (.string R') (.bool sb') (.string W') (.slice A' l'.length c') A l A' l' w' ∧ Hold w8 g3 g4 (.bool d3) (.string R3) (.bool s3) (.string W3) (.slice A3 l3.length c3) (.bool d3) (.string R3) (.bool s3) (.string W3) (.slice A4 l3.length c4) A3 l3 A4 l3 w') (by kernel_rfl) ⟨H7.out.past (Below.refl _ _).drew, K7.out.past (Below.refl _ _).drew⟩ (fun hHeld=>?_)
     refine Rg.tk 0 41 (.agg #[.bool d, .string R, .bool sb, .string W, .slice A l.length c]) rfl (by kernel_rfl) (fun _ _ _ h=>h) (fun w' h=>run_loadRow rfl rfl h.1.1 Tryd.underlying24 rfl (by kernel_rfl)) hHeld ?_
     refine Rg.tk 2 43 (.agg #[.bool d, .string R, .bool sb, .string W, .slice A l.length c]) rfl (by kernel_rfl) (fun _ _ _ h=>h) (fun w' h=>run_loadRow rfl rfl h.1.1 Tryd.underlying24 rfl (by kernel_rfl)) hHeld ?_
     refine Rg.cl 1 42 rfl (by kernel_rfl) 12 #[.agg #[.bool d, .string R, .bool sb, .string W, .slice A l.length c]] (by kernel_rfl) (CI.out _ hHeld.1.2.2.1 HFit.out) ?_
     rintro _ v1 ⟨rfl, hv1⟩
     have hHeld1:=And.intro (hHeld.1.past hv1) (hHeld.2.past hv1)
     refine ⟨_, rfl, hHeld1, ?_⟩
     refine Rg.frame _ (by simp only [Rg.pu, List.set]; rfl) ?_
     refine Rg.cl 3 44 rfl (by kernel_rfl) 8 #[.agg #[.bool d, .string R, .bool sb, .string W, .slice A l.length c]] (by kernel_rfl) (CJ.out _ hHeld1.1.2.2.1 HFit.out) ?_
     rintro _ v2 ⟨rfl, hv2⟩
     have hHeld2:=And.intro (hHeld1.1.past hv2) (hHeld1.2.past hv2)
     refine ⟨_, rfl, hHeld2, ?_⟩
     refine Rg.tk 4 45 (.bool true) rfl (by kernel_rfl) (fun _ _ _ h=>h) (fun _ _=>by kernel_rfl) hHeld2 ?_
     refine Rg.idleP [5] [(46, .bool true)] 34 (by kernel_rfl) (fun _ _ _ _ _ h=>h) (by kernel_rfl) (by kernel_rfl) hHeld2 ?_
     refine Rg.frame _ (by simp only [Rg.puts, Rg.pu, List.set]; rfl) ?_
     refine Rg.tk 6 47 (.agg #[.bool d, .string R, .bool sb, .string W, .slice A l.length c]) rfl (by kernel_rfl) (fun _ _ _ h=>h) (fun w' h=>run_loadRow rfl rfl h.1.1 Tryd.underlying24 rfl (by kernel_rfl)) hHeld2 ?_
     refine Rg.idleP [8] [(49, .string ⟨#[]⟩)] 32 (by kernel_rfl) (fun _ _ _ _ _ h=>h) (by kernel_rfl) (by kernel_rfl) hHeld2 ?_
     refine Rg.frame _ (by simp only [Rg.puts, Rg.pu, List.set]; rfl) ?_
     refine Rg.cl 7 48 rfl (by kernel_rfl) 13 #[.agg #[.bool d, .string R, .bool sb, .string W, .slice A l.length c]] (by kernel_rfl) (CP.out _ hHeld2.1.2.2.1 HFit.out) ?_
     rintro _ v3 ⟨rfl, hv3⟩
     have hHeld3:=And.intro (hHeld2.1.past hv3) (hHeld2.2.past hv3)
     refine ⟨_, rfl, hHeld3, ?_⟩
     refine Rg.tk 9 50 (.bool true) rfl (by kernel_rfl) (fun _ _ _ h=>h) (fun _ _=>run_eqs rfl rfl rfl) hHeld3 ?_
     refine Rg.idleP [10, 11] [(51, .bool true), (52, .bool true)] 28 (by kernel_rfl) (fun _ _ _ _ _ h=>h) (by kernel_rfl) (by kernel_rfl) hHeld3 ?_
     refine Rg.frame _ (by simp only [Rg.puts, Rg.pu, List.set]; rfl) ?_
     refine Rg.tk 12 53 (.agg #[.bool d, .string R, .bool sb, .string W, .slice A l.length c]) rfl (by kernel_rfl) (fun _ _ _ h=>h) (fun w' h=>run_loadRow rfl rfl h.1.1 Tryd.underlying24 rfl (by kernel_rfl)) hHeld3 ?_
     refine Rg.tk 13 54 (.agg #[.bool d', .string R', .bool sb', .string W', .slice A' l'.length c']) rfl (by kernel_rfl) (fun _ _ _ h=>h) (fun w' h=>run_loadRow rfl rfl h.1.2.1 Tryd.underlying24 rfl (by kernel_rfl)) hHeld3 ?_
     refine Rg.tk 15 56 (.agg #[.bool d, .string R, .bool sb, .string W, .slice A l.length c]) rfl (by kernel_rfl) (fun _ _ _ h=>h) (fun w' h=>run_loadRow rfl rfl h.1.1 Tryd.underlying24 rfl (by kernel_rfl)) hHeld3 ?_
     refine Rg.frame _ (by simp only [Rg.pu, List.set]; rfl) ?_
     refine Rg.tk 16 57 (.agg #[.bool d', .string R', .bool sb', .string W', .slice A' l'.length c']) rfl (by kernel_rfl) (fun _ _ _ h=>h) (fun w' h=>run_loadRow rfl rfl h.1.2.1 Tryd.underlying24 rfl (by kernel_rfl)) hHeld3 ?_
     refine Rg.cl 14 55 rfl (by kernel_rfl) 14 #[.agg #[.bool d, .string R, .bool sb, .string W, .slice A l.length c], .agg #[.bool d', .string R', .bool sb', .string W', .slice A' l'.length c']] (by kernel_rfl) (CS.out _ hHeld3.1.2.2.1 hHeld3.1.2.2.2.1) ?_
     rintro _ v4 ⟨rfl, hv4⟩
     have hHeld4:=And.intro (hHeld3.1.past hv4) (hHeld3.2.past hv4)
     refine ⟨_, rfl, hHeld4, ?_⟩
     refine Rg.cl 17 58 rfl (by kernel_rfl) 15 #[.agg #[.bool d, .string R, .bool sb, .string W, .slice A l.length c], .agg #[.bool d', .string R', .bool sb', .string W', .slice A' l'.length c']] (by kernel_rfl) (CT.out _ hHeld4.1.2.2.1 hHeld4.1.2.2.2.1) ?_
     rintro _ v5 ⟨rfl, hv5⟩
     have hHeld5:=And.intro (hHeld4.1.past hv5) (hHeld4.2.past hv5)
     refine ⟨_, rfl, hHeld5, ?_⟩
     refine Rg.frame _ (by simp only [Rg.pu, List.set]; rfl) ?_
     refine Rg.tk 18 59 (.bool true) rfl (by kernel_rfl) (fun _ _ _ h=>h) (fun _ _=>by cases se <;> kernel_rfl) hHeld5 ?_
     refine Rg.idleP [19, 20, 21] [(60, .bool true), (61, .bool true), (62, .int .i64 0)] 18 (by kernel_rfl) (fun _ _ _ _ _ h=>h) (by kernel_rfl) (by kernel_rfl) hHeld5 ?_
     refine Rg.frame _ (by simp only [Rg.puts, Rg.pu, List.set]; rfl) ?_
     refine Rg.tk 22 63 (.bool true) rfl (by kernel_rfl) (fun _ _ _ h=>h) (fun _ _=>by kernel_rfl) hHeld5 ?_
     refine Rg.idleP [23] [(64, .bool true)] 16 (by kernel_rfl) (fun _ _ _ _ _ h=>h) (by kernel_rfl) (by kernel_rfl) hHeld5 ?_
     refine Rg.frame _ (by simp only [Rg.puts, Rg.pu, List.set]; rfl) ?_
     refine Rg.tk 24 65 (.bool true) rfl (by kernel_rfl) (fun _ _ _ h=>h) (fun _ _=>by kernel_rfl) hHeld5 ?_
     refine Rg.idleP [25, 26, 27] [(66, .bool true), (67, .bool true), (68, .int .i64 0)] 12 (by kernel_rfl) (fun _ _ _ _ _ h=>h) (by kernel_rfl) (by kernel_rfl) hHeld5 ?_
     refine Rg.frame _ (by simp only [Rg.puts, Rg.pu, List.set]; rfl) ?_
     refine Rg.tk 28 69 (.bool true) rfl (by kernel_rfl) (fun _ _ _ h=>h) (fun _ _=>by kernel_rfl) hHeld5 ?_
     refine Rg.idleP [29, 30, 31, 32, 33, 34] [(70, .bool true), (73, .bool true), (74, .bool true), (75, .bool true)] 5 (by kernel_rfl) (fun _ _ _ _ _ h=>h) (by kernel_rfl) (by kernel_rfl) hHeld5 ?_
     refine Rg.frame _ (by simp only [Rg.puts, Rg.pu, List.set]; rfl) ?_
     refine Rg.tk 35 76 (.agg #[.bool d3, .string R3, .bool s3, .string W3, .slice A3 l3.length c3]) rfl (by kernel_rfl) (fun _ _ _ h=>h) (fun w' h=>run_loadRow rfl rfl h.2.1 Tryd.underlying24 rfl (by kernel_rfl)) hHeld5 ?_
     refine Rg.tk 36 77 (.agg #[.bool d3, .string R3, .bool s3, .string W3, .slice A4 l3.length c4]) rfl (by kernel_rfl) (fun _ _ _ h=>h) (fun w' h=>run_loadRow rfl rfl h.2.2.1 Tryd.underlying24 rfl (by kernel_rfl)) hHeld5 ?_
     refine Rg.cl 37 78 rfl (by kernel_rfl) 15 #[.agg #[.bool d3, .string R3, .bool s3, .string W3, .slice A3 l3.length c3], .agg #[.bool d3, .string R3, .bool s3, .string W3, .slice A4 l3.length c4]] (by kernel_rfl) (C8.out A3 c3 A4 c4 _ hHeld5.2.2.2.1 hHeld5.2.2.2.2.1) ?_
     rintro _ v6 ⟨rfl, hv6⟩
     have hHeld6:=And.intro (hHeld5.1.past hv6) (hHeld5.2.past hv6)
     refine ⟨_, rfl, hHeld6, ?_⟩
     refine Rg.frame _ (by simp only [Rg.pu, List.set]; rfl) ?_
     refine Rg.idleP [38, 39] [(6, .bool true), (79, .bool true)] 0 (by kernel_rfl) (fun _ _ _ _ _ h=>h) (by kernel_rfl) (by kernel_rfl) hHeld6 ?_
     refine Rg.frame _ (by simp only [Rg.puts, Rg.pu, List.set]; rfl) ?_
     refine wpAnyH_done (by kernel_rfl) ?_ _
     refine NoPanic.normal ?_
     go_wp2_with fail
     go_ret
     exact ⟨rfl, hHeld6.1.2.2.2.2⟩
    ·subst he3 hpe
     clear HE
     go_upto_region 10 with fail
     clear a0 a1 a2 a3 a4 b0 b1 b2 b3 b4 x0 x1 x2 x3 x4 y0 y1 y2 y3 y4
     generalize w7.alloc (.cells #[.bool d3, .string R3, .bool s3, .string W3, .slice A4 l3.length c4] 24) = w8 at H7 K7 ⊢
     generalize w6.heap.size = g3 at K7 ⊢
     generalize w7.heap.size = g4 at K7 ⊢
     refine wp_region_noPanic ?_
     refine wp_region_held_drew (S:=fun w'=>Hold w w.heap.size (w.heap.size + 1) (.bool d) (.string R) (.bool sb) (.string W) (.slice A l.length c) (.bool d') (.string R') (.bool sb') (.string W') (.slice A' l'.length c') A l A' l' w' ∧ Hold w8 g3 g4 (.bool d3) (.string R3) (.bool s3) (.string W3) (.slice A3 l3.length c3) (.bool d3) (.string R3) (.bool s3) (.string W3) (.slice A4 l3.length c4) A3 l3 A4 l3 w') (by kernel_rfl) ⟨H7.out.past (Below.refl _ _).drew, K7.out.past (Below.refl _ _).drew⟩ (fun hHeld=>?_)
     refine Rg.tk 0 41 (.agg #[.bool d, .string R, .bool sb, .string W, .slice A l.length c]) rfl (by kernel_rfl) (fun _ _ _ h=>h) (fun w' h=>run_loadRow rfl rfl h.1.1 Tryd.underlying24 rfl (by kernel_rfl)) hHeld ?_
     refine Rg.tk 2 43 (.agg #[.bool d, .string R, .bool sb, .string W, .slice A l.length c]) rfl (by kernel_rfl) (fun _ _ _ h=>h) (fun w' h=>run_loadRow rfl rfl h.1.1 Tryd.underlying24 rfl (by kernel_rfl)) hHeld ?_
     refine Rg.cl 1 42 rfl (by kernel_rfl) 12 #[.agg #[.bool d, .string R, .bool sb, .string W, .slice A l.length c]] (by kernel_rfl) (CI.out _ hHeld.1.2.2.1 HFit.out) ?_
     rintro _ v1 ⟨rfl, hv1⟩
     have hHeld1:=And.intro (hHeld.1.past hv1) (hHeld.2.past hv1)
     refine ⟨_, rfl, hHeld1, ?_⟩
     refine Rg.frame _ (by simp only [Rg.pu, List.set]; rfl) ?_
     refine Rg.cl 3 44 rfl (by kernel_rfl) 8 #[.agg #[.bool d, .string R, .bool sb, .string W, .slice A l.length c]] (by kernel_rfl) (CJ.out _ hHeld1.1.2.2.1 HFit.out) ?_
     rintro _ v2 ⟨rfl, hv2⟩
     have hHeld2:=And.intro (hHeld1.1.past hv2) (hHeld1.2.past hv2)
     refine ⟨_, rfl, hHeld2, ?_⟩
     refine Rg.tk 4 45 (.bool true) rfl (by kernel_rfl) (fun _ _ _ h=>h) (fun _ _=>by kernel_rfl) hHeld2 ?_
     refine Rg.idleP [5] [(46, .bool true)] 34 (by kernel_rfl) (fun _ _ _ _ _ h=>h) (by kernel_rfl) (by kernel_rfl) hHeld2 ?_
     refine Rg.frame _ (by simp only [Rg.puts, Rg.pu, List.set]; rfl) ?_
     refine Rg.tk 6 47 (.agg #[.bool d, .string R, .bool sb, .string W, .slice A l.length c]) rfl (by kernel_rfl) (fun _ _ _ h=>h) (fun w' h=>run_loadRow rfl rfl h.1.1 Tryd.underlying24 rfl (by kernel_rfl)) hHeld2 ?_
     refine Rg.idleP [8] [(49, .string ⟨#[]⟩)] 32 (by kernel_rfl) (fun _ _ _ _ _ h=>h) (by kernel_rfl) (by kernel_rfl) hHeld2 ?_
     refine Rg.frame _ (by simp only [Rg.puts, Rg.pu, List.set]; rfl) ?_
     refine Rg.cl 7 48 rfl (by kernel_rfl) 13 #[.agg #[.bool d, .string R, .bool sb, .string W, .slice A l.length c]] (by kernel_rfl) (CP.out _ hHeld2.1.2.2.1 HFit.out) ?_
     rintro _ v3 ⟨rfl, hv3⟩
     have hHeld3:=And.intro (hHeld2.1.past hv3) (hHeld2.2.past hv3)
     refine ⟨_, rfl, hHeld3, ?_⟩
     refine Rg.tk 9 50 (.bool true) rfl (by kernel_rfl) (fun _ _ _ h=>h) (fun _ _=>run_eqs rfl rfl rfl) hHeld3 ?_
     refine Rg.idleP [10, 11] [(51, .bool true), (52, .bool true)] 28 (by kernel_rfl) (fun _ _ _ _ _ h=>h) (by kernel_rfl) (by kernel_rfl) hHeld3 ?_
     refine Rg.frame _ (by simp only [Rg.puts, Rg.pu, List.set]; rfl) ?_
     refine Rg.tk 12 53 (.agg #[.bool d, .string R, .bool sb, .string W, .slice A l.length c]) rfl (by kernel_rfl) (fun _ _ _ h=>h) (fun w' h=>run_loadRow rfl rfl h.1.1 Tryd.underlying24 rfl (by kernel_rfl)) hHeld3 ?_
     refine Rg.tk 13 54 (.agg #[.bool d', .string R', .bool sb', .string W', .slice A' l'.length c']) rfl (by kernel_rfl) (fun _ _ _ h=>h) (fun w' h=>run_loadRow rfl rfl h.1.2.1 Tryd.underlying24 rfl (by kernel_rfl)) hHeld3 ?_
     refine Rg.tk 15 56 (.agg #[.bool d, .string R, .bool sb, .string W, .slice A l.length c]) rfl (by kernel_rfl) (fun _ _ _ h=>h) (fun w' h=>run_loadRow rfl rfl h.1.1 Tryd.underlying24 rfl (by kernel_rfl)) hHeld3 ?_
     refine Rg.frame _ (by simp only [Rg.pu, List.set]; rfl) ?_
     refine Rg.tk 16 57 (.agg #[.bool d', .string R', .bool sb', .string W', .slice A' l'.length c']) rfl (by kernel_rfl) (fun _ _ _ h=>h) (fun w' h=>run_loadRow rfl rfl h.1.2.1 Tryd.underlying24 rfl (by kernel_rfl)) hHeld3 ?_
     refine Rg.cl 14 55 rfl (by kernel_rfl) 14 #[.agg #[.bool d, .string R, .bool sb, .string W, .slice A l.length c], .agg #[.bool d', .string R', .bool sb', .string W', .slice A' l'.length c']] (by kernel_rfl) (CS.out _ hHeld3.1.2.2.1 hHeld3.1.2.2.2.1) ?_
     rintro _ v4 ⟨rfl, hv4⟩
     have hHeld4:=And.intro (hHeld3.1.past hv4) (hHeld3.2.past hv4)
     refine ⟨_, rfl, hHeld4, ?_⟩
     refine Rg.cl 17 58 rfl (by kernel_rfl) 15 #[.agg #[.bool d, .string R, .bool sb, .string W, .slice A l.length c], .agg #[.bool d', .string R', .bool sb', .string W', .slice A' l'.length c']] (by kernel_rfl) (CT.out _ hHeld4.1.2.2.1 hHeld4.1.2.2.2.1) ?_
     rintro _ v5 ⟨rfl, hv5⟩
     have hHeld5:=And.intro (hHeld4.1.past hv5) (hHeld4.2.past hv5)
     refine ⟨_, rfl, hHeld5, ?_⟩
     refine Rg.frame _ (by simp only [Rg.pu, List.set]; rfl) ?_
     refine Rg.tk 18 59 (.bool true) rfl (by kernel_rfl) (fun _ _ _ h=>h) (fun _ _=>by cases se <;> kernel_rfl) hHeld5 ?_
     refine Rg.idleP [19, 20, 21] [(60, .bool true), (61, .bool true), (62, .int .i64 20)] 18 (by kernel_rfl) (fun _ _ _ _ _ h=>h) (by kernel_rfl) (by kernel_rfl) hHeld5 ?_
     refine Rg.frame _ (by simp only [Rg.puts, Rg.pu, List.set]; rfl) ?_
     refine Rg.tk 22 63 (.bool false) rfl (by kernel_rfl) (fun _ _ _ h=>h) (fun _ _=>by kernel_rfl) hHeld5 ?_
     refine Rg.idleP [23] [(64, .bool false)] 16 (by kernel_rfl) (fun _ _ _ _ _ h=>h) (by kernel_rfl) (by kernel_rfl) hHeld5 ?_
     refine Rg.frame _ (by simp only [Rg.puts, Rg.pu, List.set]; rfl) ?_
     refine Rg.tk 24 65 (.bool true) rfl (by kernel_rfl) (fun _ _ _ h=>h) (fun _ _=>by kernel_rfl) hHeld5 ?_
     refine Rg.idleP [25, 26, 27] [(66, .bool true), (67, .bool true), (68, .int .i64 20)] 12 (by kernel_rfl) (fun _ _ _ _ _ h=>h) (by kernel_rfl) (by kernel_rfl) hHeld5 ?_
     refine Rg.frame _ (by simp only [Rg.puts, Rg.pu, List.set]; rfl) ?_
     refine Rg.tk 28 69 (.bool false) rfl (by kernel_rfl) (fun _ _ _ h=>h) (fun _ _=>by kernel_rfl) hHeld5 ?_
     refine Rg.idleP [29, 30] [(70, .bool false), (71, .int .i64 20)] 9 (by kernel_rfl) (fun _ _ _ _ _ h=>h) (by kernel_rfl) (by kernel_rfl) hHeld5 ?_
     refine Rg.frame _ (by simp only [Rg.puts, Rg.pu, List.set]; rfl) ?_
     refine Rg.tk 31 72 (.bool true) rfl (by kernel_rfl) (fun _ _ _ h=>h) (fun _ _=>by kernel_rfl) hHeld5 ?_
     refine Rg.idleP [32, 33, 34] [(73, .bool true), (74, .bool true), (75, .bool true)] 5 (by kernel_rfl) (fun _ _ _ _ _ h=>h) (by kernel_rfl) (by kernel_rfl) hHeld5 ?_
     refine Rg.frame _ (by simp only [Rg.puts, Rg.pu, List.set]; rfl) ?_
     refine Rg.tk 35 76 (.agg #[.bool d3, .string R3, .bool s3, .string W3, .slice A3 l3.length c3]) rfl (by kernel_rfl) (fun _ _ _ h=>h) (fun w' h=>run_loadRow rfl rfl h.2.1 Tryd.underlying24 rfl (by kernel_rfl)) hHeld5 ?_
     refine Rg.tk 36 77 (.agg #[.bool d3, .string R3, .bool s3, .string W3, .slice A4 l3.length c4]) rfl (by kernel_rfl) (fun _ _ _ h=>h) (fun w' h=>run_loadRow rfl rfl h.2.2.1 Tryd.underlying24 rfl (by kernel_rfl)) hHeld5 ?_
     refine Rg.cl 37 78 rfl (by kernel_rfl) 15 #[.agg #[.bool d3, .string R3, .bool s3, .string W3, .slice A3 l3.length c3], .agg #[.bool d3, .string R3, .bool s3, .string W3, .slice A4 l3.length c4]] (by kernel_rfl) (C8.out A3 c3 A4 c4 _ hHeld5.2.2.2.1 hHeld5.2.2.2.2.1) ?_
     rintro _ v6 ⟨rfl, hv6⟩
     have hHeld6:=And.intro (hHeld5.1.past hv6) (hHeld5.2.past hv6)
     refine ⟨_, rfl, hHeld6, ?_⟩
     refine Rg.frame _ (by simp only [Rg.pu, List.set]; rfl) ?_
     refine Rg.idleP [38, 39] [(6, .bool true), (79, .bool true)] 0 (by kernel_rfl) (fun _ _ _ _ _ h=>h) (by kernel_rfl) (by kernel_rfl) hHeld6 ?_
     refine Rg.frame _ (by simp only [Rg.puts, Rg.pu, List.set]; rfl) ?_
     refine wpAnyH_done (by kernel_rfl) ?_ _
     refine NoPanic.normal ?_
     go_wp2_with fail
     go_ret
     exact ⟨rfl, hHeld6.1.2.2.2.2⟩
   | true =>
    have CQ1:=fun w h=>CQ.out w h HFit.out.w HIE.out.symm
    rw [if_pos rfl] at hP
    rw [← hP] at CQ1
    have HQ:=Lib.hid CQ1
    clear hP CQ1
    go_wp2_with fail
    refine (HQ.out _ H4.out.2.2.1).mono ?_
    rintro e w5 ⟨rfl, hb⟩
    have H5:=Lib.hid (H4.out.past hb)
    clear a0 a1 a2 a3 a4 b0 b1 b2 b3 b4
    obtain ⟨a0, a1, a2, a3, a4, b0, b1, b2, b3, b4⟩:=Hold.cells H5.out
    clear hb H4
    go_wp2_with fail
    refine (HC6.out _).mono ?_
    rintro e w6 ⟨A3, c3, rfl, hS3, hb⟩
    have hb6:=hb.alloc hb.size (.cells #[.bool d3, .string R3, .bool s3, .string W3, .slice A3 l3.length c3] 24)
    have H6:=Lib.hid ((H5.out.past hb).past ((Below.refl _ _).alloc (Nat.le_refl _) (.cells #[.bool d3, .string R3, .bool s3, .string W3, .slice A3 l3.length c3] 24)))
    have HX6:=Lib.hid (Blk.new w6 24 #[.bool d3, .string R3, .bool s3, .string W3, .slice A3 l3.length c3])
    have HS6:=Lib.hid (hS3.alloc (.cells #[.bool d3, .string R3, .bool s3, .string W3, .slice A3 l3.length c3] 24))
    clear a0 a1 a2 a3 a4 b0 b1 b2 b3 b4 hb hS3 H5 HC6 hb6
    go_wp2_with fail
    refine (HC7.out _).mono ?_
    rintro e w7 ⟨A4, c4, rfl, hS4, hb⟩
    have H7:=Lib.hid ((H6.out.past hb).past ((Below.refl _ _).alloc (Nat.le_refl _) (.cells #[.bool d3, .string R3, .bool s3, .string W3, .slice A4 l3.length c4] 24)))
    have K7 : Hid (Hold (w7.alloc (.cells #[.bool d3, .string R3, .bool s3, .string W3, .slice A4 l3.length c4] 24)) w6.heap.size w7.heap.size (.bool d3) (.string R3) (.bool s3) (.string W3) (.slice A3 l3.length c3) (.bool d3) (.string R3) (.bool s3) (.string W3) (.slice A4 l3.length c4) A3 l3 A4 l3 (w7.alloc (.cells #[.bool d3, .string R3, .bool s3, .string W3, .slice A4 l3.length c4] 24))) :=
     ⟨(HX6.out.past hb).alloc _, Blk.new _ _ _, (HS6.out.past hb).alloc _, hS4.alloc _, Below.refl _ _⟩
    clear hb hS4 HX6 HS6 H6 HC7
    have twn:=twenty H7.out K7.out
    obtain ⟨a0, a1, a2, a3, a4, b0, b1, b2, b3, b4, x0, x1, x2, x3, x4, y0, y1, y2, y3, y4⟩:=twn
    rcases HE.out with ⟨he3, hpe⟩ | ⟨he3, hpe⟩
    ·subst he3 hpe
     clear HE
     go_upto_region 10 with fail
     clear a0 a1 a2 a3 a4 b0 b1 b2 b3 b4 x0 x1 x2 x3 x4 y0 y1 y2 y3 y4
     generalize w7.alloc (.cells #[.bool d3, .string R3, .bool s3, .string W3, .slice A4 l3.length c4] 24) = w8 at H7 K7 ⊢
     generalize w6.heap.size = g3 at K7 ⊢
     generalize w7.heap.size = g4 at K7 ⊢
     refine wp_region_noPanic ?_
     refine wp_region_held_drew (S:=fun w'=>Hold w w.heap.size (w.heap.size + 1) (.bool d) (.string R) (.bool sb) (.string W) (.slice A l.length c) (.bool d') (.string R') (.bool sb') (.string W') (.slice A' l'.length c') A l A' l' w' ∧ Hold w8 g3 g4 (.bool d3) (.string R3) (.bool s3) (.string W3) (.slice A3 l3.length c3) (.bool d3) (.string R3) (.bool s3) (.string W3) (.slice A4 l3.length c4) A3 l3 A4 l3 w') (by kernel_rfl) ⟨H7.out.past (Below.refl _ _).drew, K7.out.past (Below.refl _ _).drew⟩ (fun hHeld=>?_)
     refine Rg.tk 0 41 (.agg #[.bool d, .string R, .bool sb, .string W, .slice A l.length c]) rfl (by kernel_rfl) (fun _ _ _ h=>h) (fun w' h=>run_loadRow rfl rfl h.1.1 Tryd.underlying24 rfl (by kernel_rfl)) hHeld ?_
     refine Rg.tk 2 43 (.agg #[.bool d, .string R, .bool sb, .string W, .slice A l.length c]) rfl (by kernel_rfl) (fun _ _ _ h=>h) (fun w' h=>run_loadRow rfl rfl h.1.1 Tryd.underlying24 rfl (by kernel_rfl)) hHeld ?_
     refine Rg.cl 1 42 rfl (by kernel_rfl) 12 #[.agg #[.bool d, .string R, .bool sb, .string W, .slice A l.length c]] (by kernel_rfl) (CI.out _ hHeld.1.2.2.1 HFit.out) ?_
     rintro _ v1 ⟨rfl, hv1⟩
     have hHeld1:=And.intro (hHeld.1.past hv1) (hHeld.2.past hv1)
     refine ⟨_, rfl, hHeld1, ?_⟩
     refine Rg.frame _ (by simp only [Rg.pu, List.set]; rfl) ?_
     refine Rg.cl 3 44 rfl (by kernel_rfl) 8 #[.agg #[.bool d, .string R, .bool sb, .string W, .slice A l.length c]] (by kernel_rfl) (CJ.out _ hHeld1.1.2.2.1 HFit.out) ?_
     rintro _ v2 ⟨rfl, hv2⟩
     have hHeld2:=And.intro (hHeld1.1.past hv2) (hHeld1.2.past hv2)
     refine ⟨_, rfl, hHeld2, ?_⟩
     refine Rg.tk 4 45 (.bool true) rfl (by kernel_rfl) (fun _ _ _ h=>h) (fun _ _=>by kernel_rfl) hHeld2 ?_
     refine Rg.idleP [5] [(46, .bool true)] 34 (by kernel_rfl) (fun _ _ _ _ _ h=>h) (by kernel_rfl) (by kernel_rfl) hHeld2 ?_
     refine Rg.frame _ (by simp only [Rg.puts, Rg.pu, List.set]; rfl) ?_
     refine Rg.tk 6 47 (.agg #[.bool d, .string R, .bool sb, .string W, .slice A l.length c]) rfl (by kernel_rfl) (fun _ _ _ h=>h) (fun w' h=>run_loadRow rfl rfl h.1.1 Tryd.underlying24 rfl (by kernel_rfl)) hHeld2 ?_
     refine Rg.idleP [8] [(49, .string P)] 32 (by kernel_rfl) (fun _ _ _ _ _ h=>h) (by kernel_rfl) (by kernel_rfl) hHeld2 ?_
     refine Rg.frame _ (by simp only [Rg.puts, Rg.pu, List.set]; rfl) ?_
     refine Rg.cl 7 48 rfl (by kernel_rfl) 13 #[.agg #[.bool d, .string R, .bool sb, .string W, .slice A l.length c]] (by kernel_rfl) (CP.out _ hHeld2.1.2.2.1 HFit.out) ?_
     rintro _ v3 ⟨rfl, hv3⟩
     have hHeld3:=And.intro (hHeld2.1.past hv3) (hHeld2.2.past hv3)
     refine ⟨_, rfl, hHeld3, ?_⟩
     refine Rg.tk 9 50 (.bool true) rfl (by kernel_rfl) (fun _ _ _ h=>h) (fun _ _=>run_eqs rfl rfl rfl) hHeld3 ?_
     refine Rg.idleP [10, 11] [(51, .bool true), (52, .bool true)] 28 (by kernel_rfl) (fun _ _ _ _ _ h=>h) (by kernel_rfl) (by kernel_rfl) hHeld3 ?_
     refine Rg.frame _ (by simp only [Rg.puts, Rg.pu, List.set]; rfl) ?_
     refine Rg.tk 12 53 (.agg #[.bool d, .string R, .bool sb, .string W, .slice A l.length c]) rfl (by kernel_rfl) (fun _ _ _ h=>h) (fun w' h=>run_loadRow rfl rfl h.1.1 Tryd.underlying24 rfl (by kernel_rfl)) hHeld3 ?_
     refine Rg.tk 13 54 (.agg #[.bool d', .string R', .bool sb', .string W', .slice A' l'.length c']) rfl (by kernel_rfl) (fun _ _ _ h=>h) (fun w' h=>run_loadRow rfl rfl h.1.2.1 Tryd.underlying24 rfl (by kernel_rfl)) hHeld3 ?_
     refine Rg.tk 15 56 (.agg #[.bool d, .string R, .bool sb, .string W, .slice A l.length c]) rfl (by kernel_rfl) (fun _ _ _ h=>h) (fun w' h=>run_loadRow rfl rfl h.1.1 Tryd.underlying24 rfl (by kernel_rfl)) hHeld3 ?_
     refine Rg.frame _ (by simp only [Rg.pu, List.set]; rfl) ?_
     refine Rg.tk 16 57 (.agg #[.bool d', .string R', .bool sb', .string W', .slice A' l'.length c']) rfl (by kernel_rfl) (fun _ _ _ h=>h) (fun w' h=>run_loadRow rfl rfl h.1.2.1 Tryd.underlying24 rfl (by kernel_rfl)) hHeld3 ?_
     refine Rg.cl 14 55 rfl (by kernel_rfl) 14 #[.agg #[.bool d, .string R, .bool sb, .string W, .slice A l.length c], .agg #[.bool d', .string R', .bool sb', .string W', .slice A' l'.length c']] (by kernel_rfl) (CS.out _ hHeld3.1.2.2.1 hHeld3.1.2.2.2.1) ?_
     rintro _ v4 ⟨rfl, hv4⟩
     have hHeld4:=And.intro (hHeld3.1.past hv4) (hHeld3.2.past hv4)
     refine ⟨_, rfl, hHeld4, ?_⟩
     refine Rg.cl 17 58 rfl (by kernel_rfl) 15 #[.agg #[.bool d, .string R, .bool sb, .string W, .slice A l.length c], .agg #[.bool d', .string R', .bool sb', .string W', .slice A' l'.length c']] (by kernel_rfl) (CT.out _ hHeld4.1.2.2.1 hHeld4.1.2.2.2.1) ?_
     rintro _ v5 ⟨rfl, hv5⟩
     have hHeld5:=And.intro (hHeld4.1.past hv5) (hHeld4.2.past hv5)
     refine ⟨_, rfl, hHeld5, ?_⟩
     refine Rg.frame _ (by simp only [Rg.pu, List.set]; rfl) ?_
     refine Rg.tk 18 59 (.bool true) rfl (by kernel_rfl) (fun _ _ _ h=>h) (fun _ _=>by cases se <;> kernel_rfl) hHeld5 ?_
     refine Rg.idleP [19, 20, 21] [(60, .bool true), (61, .bool true), (62, .int .i64 0)] 18 (by kernel_rfl) (fun _ _ _ _ _ h=>h) (by kernel_rfl) (by kernel_rfl) hHeld5 ?_
     refine Rg.frame _ (by simp only [Rg.puts, Rg.pu, List.set]; rfl) ?_
     refine Rg.tk 22 63 (.bool true) rfl (by kernel_rfl) (fun _ _ _ h=>h) (fun _ _=>by kernel_rfl) hHeld5 ?_
     refine Rg.idleP [23] [(64, .bool true)] 16 (by kernel_rfl) (fun _ _ _ _ _ h=>h) (by kernel_rfl) (by kernel_rfl) hHeld5 ?_
     refine Rg.frame _ (by simp only [Rg.puts, Rg.pu, List.set]; rfl) ?_
     refine Rg.tk 24 65 (.bool true) rfl (by kernel_rfl) (fun _ _ _ h=>h) (fun _ _=>by kernel_rfl) hHeld5 ?_
     refine Rg.idleP [25, 26, 27] [(66, .bool true), (67, .bool true), (68, .int .i64 0)] 12 (by kernel_rfl) (fun _ _ _ _ _ h=>h) (by kernel_rfl) (by kernel_rfl) hHeld5 ?_
     refine Rg.frame _ (by simp only [Rg.puts, Rg.pu, List.set]; rfl) ?_
     refine Rg.tk 28 69 (.bool true) rfl (by kernel_rfl) (fun _ _ _ h=>h) (fun _ _=>by kernel_rfl) hHeld5 ?_
     refine Rg.idleP [29, 30, 31, 32, 33, 34] [(70, .bool true), (73, .bool true), (74, .bool true), (75, .bool true)] 5 (by kernel_rfl) (fun _ _ _ _ _ h=>h) (by kernel_rfl) (by kernel_rfl) hHeld5 ?_
     refine Rg.frame _ (by simp only [Rg.puts, Rg.pu, List.set]; rfl) ?_
     refine Rg.tk 35 76 (.agg #[.bool d3, .string R3, .bool s3, .string W3, .slice A3 l3.length c3]) rfl (by kernel_rfl) (fun _ _ _ h=>h) (fun w' h=>run_loadRow rfl rfl h.2.1 Tryd.underlying24 rfl (by kernel_rfl)) hHeld5 ?_
     refine Rg.tk 36 77 (.agg #[.bool d3, .string R3, .bool s3, .string W3, .slice A4 l3.length c4]) rfl (by kernel_rfl) (fun _ _ _ h=>h) (fun w' h=>run_loadRow rfl rfl h.2.2.1 Tryd.underlying24 rfl (by kernel_rfl)) hHeld5 ?_
     refine Rg.cl 37 78 rfl (by kernel_rfl) 15 #[.agg #[.bool d3, .string R3, .bool s3, .string W3, .slice A3 l3.length c3], .agg #[.bool d3, .string R3, .bool s3, .string W3, .slice A4 l3.length c4]] (by kernel_rfl) (C8.out A3 c3 A4 c4 _ hHeld5.2.2.2.1 hHeld5.2.2.2.2.1) ?_
     rintro _ v6 ⟨rfl, hv6⟩
     have hHeld6:=And.intro (hHeld5.1.past hv6) (hHeld5.2.past hv6)
     refine ⟨_, rfl, hHeld6, ?_⟩
     refine Rg.frame _ (by simp only [Rg.pu, List.set]; rfl) ?_
     refine Rg.idleP [38, 39] [(6, .bool true), (79, .bool true)] 0 (by kernel_rfl) (fun _ _ _ _ _ h=>h) (by kernel_rfl) (by kernel_rfl) hHeld6 ?_
     refine Rg.frame _ (by simp only [Rg.puts, Rg.pu, List.set]; rfl) ?_
     refine wpAnyH_done (by kernel_rfl) ?_ _
     refine NoPanic.normal ?_
     go_wp2_with fail
     go_ret
     exact ⟨rfl, hHeld6.1.2.2.2.2⟩
    ·subst he3 hpe
     clear HE
     go_upto_region 10 with fail
     clear a0 a1 a2 a3 a4 b0 b1 b2 b3 b4 x0 x1 x2 x3 x4 y0 y1 y2 y3 y4
     generalize w7.alloc (.cells #[.bool d3, .string R3, .bool s3, .string W3, .slice A4 l3.length c4] 24) = w8 at H7 K7 ⊢
     generalize w6.heap.size = g3 at K7 ⊢
     generalize w7.heap.size = g4 at K7 ⊢
     refine wp_region_noPanic ?_
     refine wp_region_held_drew (S:=fun w'=>Hold w w.heap.size (w.heap.size + 1) (.bool d) (.string R) (.bool sb) (.string W) (.slice A l.length c) (.bool d') (.string R') (.bool sb') (.string W') (.slice A' l'.length c') A l A' l' w' ∧ Hold w8 g3 g4 (.bool d3) (.string R3) (.bool s3) (.string W3) (.slice A3 l3.length c3) (.bool d3) (.string R3) (.bool s3) (.string W3) (.slice A4 l3.length c4) A3 l3 A4 l3 w') (by kernel_rfl) ⟨H7.out.past (Below.refl _ _).drew, K7.out.past (Below.refl _ _).drew⟩ (fun hHeld=>?_)
     refine Rg.tk 0 41 (.agg #[.bool d, .string R, .bool sb, .string W, .slice A l.length c]) rfl (by kernel_rfl) (fun _ _ _ h=>h) (fun w' h=>run_loadRow rfl rfl h.1.1 Tryd.underlying24 rfl (by kernel_rfl)) hHeld ?_
     refine Rg.tk 2 43 (.agg #[.bool d, .string R, .bool sb, .string W, .slice A l.length c]) rfl (by kernel_rfl) (fun _ _ _ h=>h) (fun w' h=>run_loadRow rfl rfl h.1.1 Tryd.underlying24 rfl (by kernel_rfl)) hHeld ?_
     refine Rg.cl 1 42 rfl (by kernel_rfl) 12 #[.agg #[.bool d, .string R, .bool sb, .string W, .slice A l.length c]] (by kernel_rfl) (CI.out _ hHeld.1.2.2.1 HFit.out) ?_
     rintro _ v1 ⟨rfl, hv1⟩
     have hHeld1:=And.intro (hHeld.1.past hv1) (hHeld.2.past hv1)
     refine ⟨_, rfl, hHeld1, ?_⟩
     refine Rg.frame _ (by simp only [Rg.pu, List.set]; rfl) ?_
     refine Rg.cl 3 44 rfl (by kernel_rfl) 8 #[.agg #[.bool d, .string R, .bool sb, .string W, .slice A l.length c]] (by kernel_rfl) (CJ.out _ hHeld1.1.2.2.1 HFit.out) ?_
     rintro _ v2 ⟨rfl, hv2⟩
     have hHeld2:=And.intro (hHeld1.1.past hv2) (hHeld1.2.past hv2)
     refine ⟨_, rfl, hHeld2, ?_⟩
     refine Rg.tk 4 45 (.bool true) rfl (by kernel_rfl) (fun _ _ _ h=>h) (fun _ _=>by kernel_rfl) hHeld2 ?_
     refine Rg.idleP [5] [(46, .bool true)] 34 (by kernel_rfl) (fun _ _ _ _ _ h=>h) (by kernel_rfl) (by kernel_rfl) hHeld2 ?_
     refine Rg.frame _ (by simp only [Rg.puts, Rg.pu, List.set]; rfl) ?_
     refine Rg.tk 6 47 (.agg #[.bool d, .string R, .bool sb, .string W, .slice A l.length c]) rfl (by kernel_rfl) (fun _ _ _ h=>h) (fun w' h=>run_loadRow rfl rfl h.1.1 Tryd.underlying24 rfl (by kernel_rfl)) hHeld2 ?_
     refine Rg.idleP [8] [(49, .string P)] 32 (by kernel_rfl) (fun _ _ _ _ _ h=>h) (by kernel_rfl) (by kernel_rfl) hHeld2 ?_
     refine Rg.frame _ (by simp only [Rg.puts, Rg.pu, List.set]; rfl) ?_
     refine Rg.cl 7 48 rfl (by kernel_rfl) 13 #[.agg #[.bool d, .string R, .bool sb, .string W, .slice A l.length c]] (by kernel_rfl) (CP.out _ hHeld2.1.2.2.1 HFit.out) ?_
     rintro _ v3 ⟨rfl, hv3⟩
     have hHeld3:=And.intro (hHeld2.1.past hv3) (hHeld2.2.past hv3)
     refine ⟨_, rfl, hHeld3, ?_⟩
     refine Rg.tk 9 50 (.bool true) rfl (by kernel_rfl) (fun _ _ _ h=>h) (fun _ _=>run_eqs rfl rfl rfl) hHeld3 ?_
     refine Rg.idleP [10, 11] [(51, .bool true), (52, .bool true)] 28 (by kernel_rfl) (fun _ _ _ _ _ h=>h) (by kernel_rfl) (by kernel_rfl) hHeld3 ?_
     refine Rg.frame _ (by simp only [Rg.puts, Rg.pu, List.set]; rfl) ?_
     refine Rg.tk 12 53 (.agg #[.bool d, .string R, .bool sb, .string W, .slice A l.length c]) rfl (by kernel_rfl) (fun _ _ _ h=>h) (fun w' h=>run_loadRow rfl rfl h.1.1 Tryd.underlying24 rfl (by kernel_rfl)) hHeld3 ?_
     refine Rg.tk 13 54 (.agg #[.bool d', .string R', .bool sb', .string W', .slice A' l'.length c']) rfl (by kernel_rfl) (fun _ _ _ h=>h) (fun w' h=>run_loadRow rfl rfl h.1.2.1 Tryd.underlying24 rfl (by kernel_rfl)) hHeld3 ?_
     refine Rg.tk 15 56 (.agg #[.bool d, .string R, .bool sb, .string W, .slice A l.length c]) rfl (by kernel_rfl) (fun _ _ _ h=>h) (fun w' h=>run_loadRow rfl rfl h.1.1 Tryd.underlying24 rfl (by kernel_rfl)) hHeld3 ?_
     refine Rg.frame _ (by simp only [Rg.pu, List.set]; rfl) ?_
     refine Rg.tk 16 57 (.agg #[.bool d', .string R', .bool sb', .string W', .slice A' l'.length c']) rfl (by kernel_rfl) (fun _ _ _ h=>h) (fun w' h=>run_loadRow rfl rfl h.1.2.1 Tryd.underlying24 rfl (by kernel_rfl)) hHeld3 ?_
     refine Rg.cl 14 55 rfl (by kernel_rfl) 14 #[.agg #[.bool d, .string R, .bool sb, .string W, .slice A l.length c], .agg #[.bool d', .string R', .bool sb', .string W', .slice A' l'.length c']] (by kernel_rfl) (CS.out _ hHeld3.1.2.2.1 hHeld3.1.2.2.2.1) ?_
     rintro _ v4 ⟨rfl, hv4⟩
     have hHeld4:=And.intro (hHeld3.1.past hv4) (hHeld3.2.past hv4)
     refine ⟨_, rfl, hHeld4, ?_⟩
     refine Rg.cl 17 58 rfl (by kernel_rfl) 15 #[.agg #[.bool d, .string R, .bool sb, .string W, .slice A l.length c], .agg #[.bool d', .string R', .bool sb', .string W', .slice A' l'.length c']] (by kernel_rfl) (CT.out _ hHeld4.1.2.2.1 hHeld4.1.2.2.2.1) ?_
     rintro _ v5 ⟨rfl, hv5⟩
     have hHeld5:=And.intro (hHeld4.1.past hv5) (hHeld4.2.past hv5)
     refine ⟨_, rfl, hHeld5, ?_⟩
     refine Rg.frame _ (by simp only [Rg.pu, List.set]; rfl) ?_
     refine Rg.tk 18 59 (.bool true) rfl (by kernel_rfl) (fun _ _ _ h=>h) (fun _ _=>by cases se <;> kernel_rfl) hHeld5 ?_
     refine Rg.idleP [19, 20, 21] [(60, .bool true), (61, .bool true), (62, .int .i64 20)] 18 (by kernel_rfl) (fun _ _ _ _ _ h=>h) (by kernel_rfl) (by kernel_rfl) hHeld5 ?_
     refine Rg.frame _ (by simp only [Rg.puts, Rg.pu, List.set]; rfl) ?_
     refine Rg.tk 22 63 (.bool false) rfl (by kernel_rfl) (fun _ _ _ h=>h) (fun _ _=>by kernel_rfl) hHeld5 ?_
     refine Rg.idleP [23] [(64, .bool false)] 16 (by kernel_rfl) (fun _ _ _ _ _ h=>h) (by kernel_rfl) (by kernel_rfl) hHeld5 ?_
     refine Rg.frame _ (by simp only [Rg.puts, Rg.pu, List.set]; rfl) ?_
     refine Rg.tk 24 65 (.bool true) rfl (by kernel_rfl) (fun _ _ _ h=>h) (fun _ _=>by kernel_rfl) hHeld5 ?_
     refine Rg.idleP [25, 26, 27] [(66, .bool true), (67, .bool true), (68, .int .i64 20)] 12 (by kernel_rfl) (fun _ _ _ _ _ h=>h) (by kernel_rfl) (by kernel_rfl) hHeld5 ?_
     refine Rg.frame _ (by simp only [Rg.puts, Rg.pu, List.set]; rfl) ?_
     refine Rg.tk 28 69 (.bool false) rfl (by kernel_rfl) (fun _ _ _ h=>h) (fun _ _=>by kernel_rfl) hHeld5 ?_
     refine Rg.idleP [29, 30] [(70, .bool false), (71, .int .i64 20)] 9 (by kernel_rfl) (fun _ _ _ _ _ h=>h) (by kernel_rfl) (by kernel_rfl) hHeld5 ?_
     refine Rg.frame _ (by simp only [Rg.puts, Rg.pu, List.set]; rfl) ?_
     refine Rg.tk 31 72 (.bool true) rfl (by kernel_rfl) (fun _ _ _ h=>h) (fun _ _=>by kernel_rfl) hHeld5 ?_
     refine Rg.idleP [32, 33, 34] [(73, .bool true), (74, .bool true), (75, .bool true)] 5 (by kernel_rfl) (fun _ _ _ _ _ h=>h) (by kernel_rfl) (by kernel_rfl) hHeld5 ?_
     refine Rg.frame _ (by simp only [Rg.puts, Rg.pu, List.set]; rfl) ?_
     refine Rg.tk 35 76 (.agg #[.bool d3, .string R3, .bool s3, .string W3, .slice A3 l3.length c3]) rfl (by kernel_rfl) (fun _ _ _ h=>h) (fun w' h=>run_loadRow rfl rfl h.2.1 Tryd.underlying24 rfl (by kernel_rfl)) hHeld5 ?_
     refine Rg.tk 36 77 (.agg #[.bool d3, .string R3, .bool s3, .string W3, .slice A4 l3.length c4]) rfl (by kernel_rfl) (fun _ _ _ h=>h) (fun w' h=>run_loadRow rfl rfl h.2.2.1 Tryd.underlying24 rfl (by kernel_rfl)) hHeld5 ?_
     refine Rg.cl 37 78 rfl (by kernel_rfl) 15 #[.agg #[.bool d3, .string R3, .bool s3, .string W3, .slice A3 l3.length c3], .agg #[.bool d3, .string R3, .bool s3, .string W3, .slice A4 l3.length c4]] (by kernel_rfl) (C8.out A3 c3 A4 c4 _ hHeld5.2.2.2.1 hHeld5.2.2.2.2.1) ?_
     rintro _ v6 ⟨rfl, hv6⟩
     have hHeld6:=And.intro (hHeld5.1.past hv6) (hHeld5.2.past hv6)
     refine ⟨_, rfl, hHeld6, ?_⟩
     refine Rg.frame _ (by simp only [Rg.pu, List.set]; rfl) ?_
     refine Rg.idleP [38, 39] [(6, .bool true), (79, .bool true)] 0 (by kernel_rfl) (fun _ _ _ _ _ h=>h) (by kernel_rfl) (by kernel_rfl) hHeld6 ?_
     refine Rg.frame _ (by simp only [Rg.puts, Rg.pu, List.set]; rfl) ?_
     refine wpAnyH_done (by kernel_rfl) ?_ _
     refine NoPanic.normal ?_
     go_wp2_with fail
     go_ret
     exact ⟨rfl, hHeld6.1.2.2.2.2⟩
theorem walk_RuleTells (w : World) (r : Rul) (A : Option Addr) (c : Nat) (hr : RuIn w r A c) (q : Rul) (A' : Option Addr) (c' : Nat) (hq : RuIn w q A' c') (s : ByteArray) (hs : s.size ≤ maxLen) :
  Calls Tryd.prog 3 #[.agg #[.bool r.deny, .string r.rights, .bool r.sub, .string r.who, .slice A r.attrs.length c], .agg #[.bool q.deny, .string q.rights, .bool q.sub, .string q.who, .slice A' q.attrs.length c'], .string s] w fun r w'=>r = .returned (.bool true) ∧ Below w.heap.size w w':=by
 obtain ⟨d, R, sb, W, l⟩:=r
 obtain ⟨d', R', sb', W', l'⟩:=q
 exact tells_go d R sb W l A c d' R' sb' W' l' A' c' s w hr hq
end Go.Proofs.YtpnlalfdgngcdaaDoor.Ru
