/- SchemaKinds: the walk. -/
import Derived.Test.YtkdlkdbjgajenaaDoorScKindSp
import Derived.Test.YtkdlkdbjgajenaaDoorScKnown
import Derived.Test.YtkdlkdbjgajenaaDoorNConv
namespace Go.Proofs.YtkdlkdbjgajenaaDoor
open Go.RowKit
set_option linter.unusedVariables false
set_option maxRecDepth 100000

theorem wf_u8 {n : Int} (h : (Lit.int .u8 n).wf = true) : 0 ≤ n ∧ n ≤ 255 := by
  simpa [Lit.wf, IntKind.min, IntKind.max, IntKind.signed, IntKind.bits] using h
theorem wf_u16 {n : Int} (h : (Lit.int .u16 n).wf = true) : 0 ≤ n ∧ n ≤ 65535 := by
  simpa [Lit.wf, IntKind.min, IntKind.max, IntKind.signed, IntKind.bits] using h
/-- A call of Check whose answer is known. -/
theorem check_of (n v : ByteArray) (k : Int) (hn : n.size ≤ 1099511627776) (h : ((Sc.check (Nm.bs n) (Nm.bs v) : Nat) : Int) = k) (w : World) :
    Calls Tryd.prog 9 #[.string n, .string v] w fun e w' => e = .returned (.int .i64 k) ∧ Below w.heap.size w w' := by
  have := check_any n v w hn
  rw [h] at this
  exact this
/-- The four kinds of bytes. -/
theorem one_cases (c : UInt8) (a b : Int) (ha : ((Sc.check [109, 97, 105, 108] [c] : Nat) : Int) = a) (hb : ((Sc.check [99, 110] [c] : Nat) : Int) = b) : (c.toNat : Int) < 32 ∧ a = 17 ∧ b = 17 ∨ (32 ≤ (c.toNat : Int) ∧ 126 < (c.toNat : Int)) ∧ a = 17 ∧ b = 17 ∨
    (32 ≤ (c.toNat : Int) ∧ (c.toNat : Int) ≤ 126 ∧ (c.toNat : Int) ≤ 32) ∧ a = 0 ∧ b = 17 ∨ (32 ≤ (c.toNat : Int) ∧ (c.toNat : Int) ≤ 126 ∧ (c.toNat : Int) ≠ 32) ∧ a = 0 ∧ b = 0 := by
  obtain ⟨h1, h2, _⟩ := Sc.one_of c
  rw [h1] at ha
  rw [h2] at hb
  rw [← ha, ← hb]
  by_cases a : c.toNat < 32
  · exact Or.inl ⟨by omega, by rw [if_neg (by omega)]; rfl, by rw [if_neg (by omega)]; rfl⟩
  · by_cases b : 126 < c.toNat
    · exact Or.inr (Or.inl ⟨by omega, by rw [if_neg (by omega)]; rfl, by rw [if_neg (by omega)]; rfl⟩)
    · by_cases d : c.toNat = 32
      · exact Or.inr (Or.inr (Or.inl ⟨by omega, by rw [if_pos (by omega)]; rfl, by rw [if_neg (by omega)]; rfl⟩))
      · exact Or.inr (Or.inr (Or.inr ⟨by omega, by rw [if_pos (by omega)]; rfl, by rw [if_pos (by omega)]; rfl⟩))
theorem bs_mk (l : List UInt8) : Nm.bs (Nm.mk l) = l := rfl
set_option maxHeartbeats 8000000 in
theorem kinds_go (c : UInt8) (N : Nat) (hN : N ≤ 65535) (w : World) :
    Calls Tryd.prog 5 #[.int .u8 c.toNat, .int .u16 N] w fun r w' => r = .returned (.bool true) ∧ Below w.heap.size w w' := by
  have CK := Lib.hid sknown_any
  have h256 := u8_lt c
  have CV := Lib.hid conv_blk
  obtain ⟨Z, hZ⟩ : ∃ Z, Z = Nm.mk [c] := ⟨_, rfl⟩
  have hZb : Nm.bs Z = [c] := by rw [hZ]
  have HZ := Lib.hid hZ
  clear hZ
  have hu := (Sc.one_of c).2.2
  have CU := Lib.hid (check_of ⟨#[117, 115, 101, 114, 112, 97, 115, 115, 119, 111, 114, 100]⟩ Z 0 (by decide) (by rw [hZb]; exact congrArg Int.ofNat hu))
  obtain ⟨a, ha⟩ : ∃ a : Int, ((Sc.check [109, 97, 105, 108] [c] : Nat) : Int) = a := ⟨_, rfl⟩
  obtain ⟨b, hb⟩ : ∃ b : Int, ((Sc.check [99, 110] [c] : Nat) : Int) = b := ⟨_, rfl⟩
  have CM := Lib.hid (check_of ⟨#[109, 97, 105, 108]⟩ Z a (by decide) (by rw [hZb]; exact ha))
  have CN := Lib.hid (check_of ⟨#[99, 110]⟩ Z b (by decide) (by rw [hZb]; exact hb))
  have hcase := one_cases c a b ha hb
  clear ha hb
  go_enter Tryd.func5, Tryd.ntmps5
  go_wp2_with fail
  refine (CK.out _).mono ?_
  rintro r w0 ⟨rfl, hb0⟩
  have hs0 := hb0.size
  have X0 : (convert 35 9 (.slice (some ⟨w0.heap.size, 0, none⟩) 1 1)).run Tryd.prog (w0.alloc (.cells #[.int .u8 (c.toNat : Int)] 5)) = .ok (.string Z) (w0.alloc (.cells #[.int .u8 (c.toNat : Int)] 5)) := by
    rw [HZ.out]
    exact CV.out _ w0.heap.size 1 [c] rfl (Blk.new w0 _ _)
  have ha0 := hb0.alloc hs0 (.cells #[.int .u8 (c.toNat : Int)] 5)
  have hz0 := ha0.size
  clear hb0 hs0 hu
  rcases hcase with ⟨h1, rfl, rfl⟩ | ⟨⟨h1, h2⟩, rfl, rfl⟩ | ⟨⟨h1, h2, h3⟩, rfl, rfl⟩ | ⟨⟨h1, h2, h3⟩, rfl, rfl⟩
  all_goals
    go_wp2_with fail
    refine (CM.out _).mono ?_
    rintro r w1 ⟨rfl, hb1⟩
    have ha1 := ha0.trans (hb1.mono hz0)
    have hz1 := ha1.size
    clear hb1
    try have hne : ((c.toNat : Int) != 32) = true := by simp; omega
    try have hne : ((c.toNat : Int) != 32) = false := by simp; omega
    go_wp2_with fail
    refine (CN.out _).mono ?_
    rintro r w2 ⟨rfl, hb2⟩
    have ha2 := ha1.trans (hb2.mono hz1)
    have hz2 := ha2.size
    clear hb2
    go_wp2_with fail
    refine (CU.out _).mono ?_
    rintro r w3 ⟨rfl, hb3⟩
    have ha3 := ha2.trans (hb3.mono hz2)
    have hz3 := ha3.size
    clear hb3
    clear CM CN CU X0 HZ hZb ha0 ha1 ha2 hz0 hz1 hz2
    try clear hne
    go_wp2_with fail
    go_loopw [7, 8] (fun dv kv wr => ∃ (j f : Nat) (D : ByteArray), kv = .int .i64 j ∧ dv = .string D ∧ 1 ≤ f ∧ j < 100000 ∧ D.size + f = 5 ∧ Hid (j < 10 ^ f) ∧ Hid (Sc.digs f j ++ Nm.bs D = Sc.digs 5 N) ∧ Below w.heap.size w wr) (fun dv kv wr => (intOf kv).toNat)
    case atStart => exact ⟨N, 5, ⟨#[]⟩, rfl, rfl, by omega, by omega, rfl, by show N < 10 ^ 5; omega, by show _ = _; exact List.append_nil _, ha3⟩
    case round =>
      obtain ⟨j, f, D, rfl, rfl, hf, hj, hDf, hjf, hE, hb⟩ := hrel
      have hs := hb.size
      obtain ⟨x, hx⟩ : ∃ x, x = Sc.dig1 j := ⟨_, rfl⟩
      have hxn : 48 + (j : Int) % 10 = (x.toNat : Int) := by rw [hx, Sc.dig1_nat]; omega
      have hx256 := u8_lt x
      obtain ⟨Z, hZ⟩ : ∃ Z, Z = Nm.mk [x] := ⟨_, rfl⟩
      have zZ : Z.size = 1 := by rw [hZ]; rfl
      have X0 : (convert 35 9 (.slice (some ⟨wr.heap.size, 0, none⟩) 1 1)).run Tryd.prog (wr.alloc (.cells #[.int .u8 (x.toNat : Int)] 5)) = .ok (.string Z) (wr.alloc (.cells #[.int .u8 (x.toNat : Int)] 5)) := by
        rw [hZ]
        exact CV.out _ wr.heap.size 1 [x] rfl (Blk.new wr _ _)
      have hb2 := hb.alloc hs (.cells #[.int .u8 (x.toNat : Int)] 5)
      have hD5 : ¬ (9223372036854775807 < 1 + D.size) := by omega
      have hcat : Nm.bs (Z ++ D) = x :: Nm.bs D := by rw [bs_app, hZ]; rfl
      have hsz : (Z ++ D).size = 1 + D.size := by rw [ByteArray.size_append, zZ]
      have HX := Lib.hid hx
      have HCAT := Lib.hid hcat
      have HSZ := Lib.hid hsz
      have HZ := Lib.hid zZ
      clear hx hZ hcat hsz hb
      by_cases h10 : (j : Int) < 10
      · obtain ⟨E, hED⟩ : ∃ E, Z ++ D = E := ⟨_, rfl⟩
        have hEb : Nm.bs E = Sc.digs 5 N := by
          rw [← hED, HCAT.out, HX.out, ← hE.out]
          obtain ⟨f', rfl⟩ : ∃ f', f = f' + 1 := ⟨f - 1, by omega⟩
          rw [Sc.digs, if_pos (by omega)]
          rfl
        have hEs : E.size ≤ 5 := by rw [← hED, HSZ.out]; omega
        have hnum : Sc.Num N (Nm.bs E) := by rw [hEb]; exact Sc.num_digs N (by omega)
        obtain ⟨b, hb9⟩ : ∃ b : Int, b = if N = 0 then 17 else 0 := ⟨_, rfl⟩
        have K1 := Lib.hid (check_of ⟨#[117, 105, 100, 110, 117, 109, 98, 101, 114]⟩ E 0 (by decide) (congrArg Int.ofNat hnum.k1))
        have K2 := Lib.hid (check_of ⟨#[117, 105, 100, 110, 117, 109, 98, 101, 114]⟩ ((⟨#[45]⟩ : ByteArray) ++ E) b (by decide) (by
          rw [bs_app, hb9]
          refine (congrArg Int.ofNat hnum.k2).trans ?_
          split <;> rfl))
        have K3 := Lib.hid (check_of ⟨#[117, 105, 100, 110, 117, 109, 98, 101, 114]⟩ ((⟨#[48]⟩ : ByteArray) ++ E) 17 (by decide) (by
          rw [bs_app]
          exact congrArg Int.ofNat hnum.k3))
        have K4 := Lib.hid (check_of ⟨#[109, 101, 109, 98, 101, 114]⟩ ((⟨#[99, 110, 61]⟩ : ByteArray) ++ E) 0 (by decide) (by
          rw [bs_app]
          exact congrArg Int.ofNat hnum.k4))
        have K5 := Lib.hid (check_of ⟨#[109, 101, 109, 98, 101, 114]⟩ E 17 (by decide) (congrArg Int.ofNat hnum.k5))
        have K6 := Lib.hid (check_of ⟨#[99, 110]⟩ ⟨#[]⟩ 17 (by decide) (congrArg Int.ofNat Sc.k6))
        have hcase2 : b = 17 ∧ ((N : Int) != 0) = false ∨ b = 0 ∧ ((N : Int) != 0) = true := by
          by_cases h0 : N = 0
          · exact Or.inl ⟨by rw [hb9, if_pos h0], by rw [h0]; rfl⟩
          · exact Or.inr ⟨by rw [hb9, if_neg h0], by simp; omega⟩
        have s1 : ¬ (9223372036854775807 < 1 + E.size) := by omega
        have s3 : ¬ (9223372036854775807 < 3 + E.size) := by omega
        have hsz2 := hb2.size
        clear hEb hnum hb9 HCAT HX HSZ HZ hE hjf hDf hf hj hEs ha3 hz3 CV CK
        rcases hcase2 with ⟨rfl, hn0⟩ | ⟨rfl, hn0⟩
        all_goals
          go_wp2_with fail
          refine (K1.out _).mono ?_
          rintro r y1 ⟨rfl, g1⟩
          have l1 := hb2.trans (g1.mono hsz2)
          have z1 := l1.size
          clear g1 K1
          go_wp2_with fail
          refine (K2.out _).mono ?_
          rintro r y2 ⟨rfl, g2⟩
          have l2 := l1.trans (g2.mono z1)
          have z2 := l2.size
          clear g2 K2
          go_wp2_with fail
          refine (K3.out _).mono ?_
          rintro r y3 ⟨rfl, g3⟩
          have l3 := l2.trans (g3.mono z2)
          have z3 := l3.size
          clear g3 K3
          go_wp2_with fail
          refine (K4.out _).mono ?_
          rintro r y4 ⟨rfl, g4⟩
          have l4 := l3.trans (g4.mono z3)
          have z4 := l4.size
          clear g4 K4
          go_wp2_with fail
          refine (K5.out _).mono ?_
          rintro r y5 ⟨rfl, g5⟩
          have l5 := l4.trans (g5.mono z4)
          have z5 := l5.size
          clear g5 K5
          go_wp2_with fail
          refine (K6.out _).mono ?_
          rintro r y6 ⟨rfl, g6⟩
          have l6 := l5.trans (g6.mono z5)
          clear g6 K6
          go_wp2_with fail
          go_ret
          exact ⟨rfl, l6⟩
      · have h10' : 10 ≤ (j : Int) := by omega
        clear h10
        obtain ⟨f', hf'⟩ : ∃ f', f = f' + 1 := ⟨f - 1, by omega⟩
        have HJ : Hid (j / 10 < 10 ^ f') := by
          show _ < _
          have h := hjf.out
          rw [hf', Nat.pow_succ] at h
          exact Nat.div_lt_of_lt_mul (by omega)
        have hf1 : 1 ≤ f' := by
          rcases Nat.eq_zero_or_pos f' with h0 | h0
          · have h := HJ.out
            rw [h0] at h
            simp at h
            omega
          · exact h0
        have HE : Hid (Sc.digs f' (j / 10) ++ Nm.bs (Z ++ D) = Sc.digs 5 N) := by
          show _ = _
          rw [HCAT.out, HX.out, ← hE.out, hf']
          conv => rhs; rw [Sc.digs, if_neg (by omega)]
          rw [List.append_assoc]
          rfl
        have HS2 := Lib.hid (show (Z ++ D).size + f' = 5 by rw [HSZ.out]; omega)
        clear HCAT HX HSZ hE hjf hDf hf' hf
        go_wp2_with fail
        refine ⟨⟨j / 10, f', _, by go_num, rfl, hf1, by omega, HS2.out, HJ, HE, hb2⟩, by simp [intOf]; omega⟩
theorem walk_SchemaKinds (c : Int) (hc : (Lit.int .u8 c).wf = true) (n : Int) (hn : (Lit.int .u16 n).wf = true) (w : World) :
    Calls Tryd.prog 5 #[.int .u8 c, .int .u16 n] w fun r w' => r = .returned (.bool true) ∧ Below w.heap.size w w' := by
  have h1 := wf_u8 hc
  have h2 := wf_u16 hn
  have h := kinds_go c.toNat.toUInt8 n.toNat (by omega) w
  have e1 : ((c.toNat.toUInt8).toNat : Int) = c := by rw [UInt8.toNat_ofNat']; omega
  have e2 : ((n.toNat : Nat) : Int) = n := by omega
  rw [e1, e2] at h
  exact h
end Go.Proofs.YtkdlkdbjgajenaaDoor
