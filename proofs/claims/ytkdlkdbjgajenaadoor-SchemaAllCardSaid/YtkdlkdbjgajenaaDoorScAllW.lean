/- SchemaAll: the walk. -/
import Derived.Test.YtkdlkdbjgajenaaDoorScKnown
import Derived.Test.YtkdlkdbjgajenaaDoorScRCheck
namespace Go.Proofs.YtkdlkdbjgajenaaDoor
open Go.RowKit
set_option linter.unusedVariables false
set_option maxRecDepth 100000

theorem tab_ok : ∀ t ∈ Sc.tab, t.1.size ≤ 12 ∧ Nm.lower (Nm.bs t.1) = Nm.bs t.1 ∧ Sc.look t.1 Sc.tab = some t := by
  have h : (Sc.tab.all fun t => decide (t.1.size ≤ 12) && (decide (Nm.lower (Nm.bs t.1) = Nm.bs t.1) && decide (Sc.look t.1 Sc.tab = some t))) = true := by kernel_rfl
  intro t ht
  have h1 := List.all_eq_true.1 h t ht
  rw [Bool.and_eq_true, Bool.and_eq_true, decide_eq_true_eq, decide_eq_true_eq, decide_eq_true_eq] at h1
  exact h1
set_option maxHeartbeats 4000000 in
theorem all_go (wh : Int) (hwh : 0 ≤ wh ∧ wh ≤ 255) (up : Int) (hup : 0 ≤ up ∧ up ≤ 65535) (v : ByteArray) (hv : v.size ≤ maxLen) (w : World) :
    Calls Tryd.prog 4 #[.int .u8 wh, .int .u16 up, .string v] w fun r w' => r = .returned (.bool true) ∧ Below w.heap.size w w' := by
  have CK := Lib.hid sknown_any
  obtain ⟨hw0, hw1⟩ := hwh
  obtain ⟨hu0, hu1⟩ := hup
  by_cases h100 : 100 < (v.size : Int)
  · go_enter Tryd.func4, Tryd.ntmps4
    go_wp2_with fail
    refine (CK.out _).mono ?_
    rintro r w1 ⟨rfl, hb1⟩
    go_wp2_with fail
    go_ret
    exact ⟨rfl, hb1⟩
  have h100' : (v.size : Int) ≤ 100 := by omega
  have CA := Lib.hid all_any
  have CB := Lib.hid rall_any
  clear h100
  go_enter Tryd.func4, Tryd.ntmps4
  go_wp2_with fail
  refine (CK.out _).mono ?_
  rintro r w0 ⟨rfl, hb0⟩
  have hs0 := hb0.size
  go_wp2_with fail
  refine (CA.out _).mono ?_
  rintro r w1 ⟨rfl, hT, hb1⟩
  have ha1 := hb0.trans (hb1.mono hs0)
  have hs1 := ha1.size
  have hl1 := hT.lt (by decide)
  go_wp2_with fail
  refine (CB.out _).mono ?_
  rintro r w2 ⟨rfl, hU, hb2⟩
  have ha2 := ha1.trans (hb2.mono hs1)
  have hs2 := hb2.size
  have hl2 := hU.lt (by decide)
  have hT := hT.past hl1 hb2
  obtain ⟨g, hg⟩ : ∃ g, g = w0.heap.size := ⟨_, rfl⟩
  obtain ⟨m, hm⟩ : ∃ m, m = w1.heap.size := ⟨_, rfl⟩
  rw [← hg] at hT ⊢
  rw [← hm] at hU hl2 ⊢
  have hgl : g < w2.heap.size := by omega
  clear hb0 hb1 hb2 hs0 hs1 hs2 hl1 hg hm
  go_wp2_with fail
  go_loopw [9] (fun i wr => ∃ k : Nat, k ≤ 15 ∧ i = .int .i64 k ∧ TAt wr g Sc.tab ∧ TAt wr m Sc.tab ∧ g < wr.heap.size ∧ m < wr.heap.size ∧ Below w.heap.size w wr) (fun i wr => 15 - (intOf i).toNat)
  case atStart => exact ⟨0, by omega, rfl, hT, hU, hgl, hl2, ha2⟩
  case round =>
    obtain ⟨k, hk, rfl, hT, hU, hgl, hml, hbw⟩ := hrel
    by_cases hlt : k < 15
    · have hk3 : k < Sc.tab.length := hlt
      obtain ⟨c0, c1, c2⟩ := hT k hk3
      obtain ⟨d0, d1, d2⟩ := hU k hk3
      obtain ⟨⟨x, sy, sg⟩, hn⟩ : ∃ q : Sc.Ty, q = Sc.tab[k] := ⟨_, rfl⟩
      rw [← hn] at c0 c1 c2 d0 d1 d2
      have c0d : wr.drew.cell? ⟨g, k * 3, none⟩ = some (.string x) := c0
      have c1d : wr.drew.cell? ⟨g, k * 3 + 1, none⟩ = some (.int .i64 sy) := c1
      have c2d : wr.drew.cell? ⟨g, k * 3 + 2, none⟩ = some (.bool sg) := c2
      have d0d : wr.drew.cell? ⟨m, k * 3, none⟩ = some (.string x) := d0
      have d1d : wr.drew.cell? ⟨m, k * 3 + 1, none⟩ = some (.int .i64 sy) := d1
      have d2d : wr.drew.cell? ⟨m, k * 3 + 2, none⟩ = some (.bool sg) := d2
      have HT := Lib.hid hT
      have HU := Lib.hid hU
      clear hT hU c0 c1 c2 d0 d1 d2 hn
      go_wp2_with fail
      go_region
      go_wp2_with fail
      refine ⟨⟨k + 1, by omega, by go_num, HT.out, HU.out, hgl, hml, hbw.drew⟩, by simp [intOf]; omega⟩
    · have hk2 : k = 15 := by omega
      obtain ⟨q, hq⟩ : ∃ q : Nat, wh % 15 = (q : Int) := ⟨(wh % 15).toNat, by omega⟩
      have hq15 : q < 15 := by omega
      obtain ⟨c0, c1, c2⟩ := hU q hq15
      obtain ⟨⟨x, sy, sg⟩, hn⟩ : ∃ z : Sc.Ty, z = Sc.tab[q] := ⟨_, rfl⟩
      rw [← hn] at c0 c1 c2
      have htab := tab_ok (x, sy, sg) (by rw [hn]; exact List.getElem_mem _)
      obtain ⟨hx12, hlow, hlook⟩ := htab
      have hx12 : x.size ≤ 12 := hx12
      have hlow : Nm.lower (Nm.bs x) = Nm.bs x := hlow
      have HLook := Lib.hid hlook
      obtain ⟨cap, w3, hc3, hR3, hb3, hz3⟩ := row_of_string x (wr.alloc (.cells #[.string x, .int .i64 sy, .bool sg] 24))
      have B3 := (Blk.new wr 24 #[.string x, .int .i64 sy, .bool sg]).past hb3
      have hbw3 := (hbw.alloc hbw.size (.cells #[.string x, .int .i64 sy, .bool sg] 24)).trans (hb3.mono (by have := hbw.size; simp; omega))
      obtain ⟨gb, hgb⟩ : ∃ gb, gb = (wr.alloc (.cells #[.string x, .int .i64 sy, .bool sg] 24)).heap.size := ⟨_, rfl⟩
      rw [← hgb] at hc3 hR3
      have hgb2 : wr.heap.size < gb := by rw [hgb]; simp
      have hbl : w.heap.size ≤ gb := by have := hbw.size; omega
      obtain ⟨gt, hgt⟩ : ∃ gt, gt = wr.heap.size := ⟨_, rfl⟩
      have HL0 := Lib.hid hlow
      clear hT hU hn hb3 hz3 hlow hlook hlt hgb
      go_wp2_with fail
      rw [← hgt] at B3 hgb2 ⊢
      have hwgt : w.heap.size ≤ gt := by have := hbw.size; omega
      clear hgt hbw hc3 c0 c1 c2 hgl hml
      go_loopw [12] (fun i wy => ∃ (k : Nat) (L : List UInt8), k ≤ x.size ∧ i = .int .i64 k ∧ Row wy gb L ∧ L.length = x.size ∧ Hid (Nm.lower L = Nm.bs x) ∧ Blk wy gt 24 #[.string x, .int .i64 sy, .bool sg] ∧ Below w.heap.size w wy) (fun i wy => x.size - (intOf i).toNat)
      case atStart => exact ⟨0, Nm.bs x, Nat.zero_le _, rfl, hR3, rfl, HL0, B3, hbw3⟩
      case round =>
        obtain ⟨k, L, hk, rfl, hR, hLx, hL, hB, hb⟩ := hrel
        by_cases hlt : k < x.size
        · have hkL : k < L.length := by omega
          have c0 := hR.cell (List.getElem?_eq_getElem hkL)
          have f0 : wr.frozen? ⟨gb, k, none⟩ = false := hR.frozen hkL
          obtain ⟨c, hc⟩ : ∃ c, c = L[k] := ⟨_, rfl⟩
          rw [← hc] at c0
          have h256 := u8_lt c
          have HE : Hid (∀ d : UInt8, Nm.sm d = Nm.sm c → Nm.lower (L.set k d) = Nm.bs x) := fun d hd => by
            rw [← hL.out]
            unfold Nm.lower
            rw [List.map_set, hd, hc, ← List.getElem_map (f := Nm.sm) (h := by simpa using hkL), List.set_getElem_self]
          have HS := Lib.hid (fun d => hR.set_ k d)
          clear hc
          have hcase : (c.toNat : Int) < 97 ∨ 97 ≤ (c.toNat : Int) ∧ 122 < (c.toNat : Int) ∨ 97 ≤ (c.toNat : Int) ∧ (c.toNat : Int) ≤ 122 := by omega
          rcases hcase with h3 | ⟨h3, h4⟩ | ⟨h3, h4⟩
          · clear HE HS
            go_wp2_with fail
            all_goals exact ⟨⟨k + 1, L, by omega, by go_num, hR, hLx, hL, hB, hb⟩, by simp [intOf]; omega⟩
          · clear HE HS
            go_wp2_with fail
            all_goals exact ⟨⟨k + 1, L, by omega, by go_num, hR, hLx, hL, hB, hb⟩, by simp [intOf]; omega⟩
          · obtain ⟨d, hd⟩ : ∃ d : UInt8, d = c - 32 := ⟨_, rfl⟩
            have hdn : d.toNat = c.toNat - 32 := by
              rw [hd, UInt8.toNat_sub]
              show (256 - 32 + c.toNat) % 256 = _
              omega
            have HD := Lib.hid (show (c.toNat : Int) - 32 = (d.toNat : Int) by omega)
            have hsm : Nm.sm d = Nm.sm c := UInt8.toNat_inj.1 (by rw [sm_nat, sm_nat, if_pos (by omega), if_neg (by omega)]; omega)
            have HX := Lib.hid (HE.out d hsm)
            clear HE hd hdn hsm
            go_wp2_with fail
            all_goals first
              | exact ⟨⟨k + 1, L, by omega, by go_num, hR, hLx, hL, hB, hb⟩, by simp [intOf]; omega⟩
              | (refine ⟨⟨k + 1, L.set k d, by omega, by go_num, ?_, by rw [List.length_set]; exact hLx, HX, hB.far (by show gt ≠ gb; omega) _, hb.setCell (p := ⟨gb, k, none⟩) hbl _⟩, by simp [intOf]; omega⟩
                 rw [HD.out]
                 exact HS.out d)
        · have hk2 : k = x.size := by omega
          have E := row_string (cap := cap) hR
          rw [hLx] at E
          obtain ⟨Y, hY⟩ : ∃ Y, Y = Nm.mk L := ⟨_, rfl⟩
          rw [← hY] at E
          have hYl : Nm.lower (Nm.bs Y) = Nm.bs x := by rw [hY]; exact hL.out
          have hYs : Y.size = x.size := by rw [hY]; exact hLx
          have hfind : Sc.find (Nm.bs Y) = some (x, sy, sg) := by
            unfold Sc.find
            rw [hYl, mk_bs]
            exact HLook.out
          have hfx : Sc.find (Nm.bs x) = some (x, sy, sg) := by
            unfold Sc.find
            rw [hlow, mk_bs]
            exact HLook.out
          have hchk : Sc.check (Nm.bs Y) (Nm.bs v) = Sc.check (Nm.bs x) (Nm.bs v) := by
            rw [check_some hfind, check_some hfx]
          have CF : Hid (∀ w, Calls Tryd.prog 7 #[.string Y] w fun e w' => e = .returned (.tuple #[.agg #[.string x, .int .i64 sy, .bool sg], .bool true]) ∧ Below w.heap.size w w') := fun w => by
            have := find_any Y w (by omega)
            rw [hfind] at this
            exact this
          obtain ⟨K, hK⟩ : ∃ K, K = Sc.check (Nm.bs x) (Nm.bs v) := ⟨_, rfl⟩
          have CC : Hid (∀ w, Calls Tryd.prog 9 #[.string Y, .string v] w fun e w' => e = .returned (.int .i64 K) ∧ Below w.heap.size w w') := fun w => by
            have := check_any Y v w (by omega)
            rw [hchk, ← hK] at this
            exact this
          have CD : Hid (∀ w, Calls Tryd.prog 10 #[.string x, .string v] w fun e w' => e = .returned (.int .i64 K) ∧ Below w.heap.size w w') := fun w => by
            have := rcheck_any x v w (by omega)
            rw [← hK] at this
            exact this
          have HY := Lib.hid hY
          clear hYl hYs hfind hfx hchk hK hL HLook HL0 hY
          go_wp2_with fail
          refine (CF.out _).mono ?_
          rintro r w5 ⟨rfl, hb5⟩
          have hz5 := hb5.size
          have hbz := hb.size
          have hb6 := (hb.trans (hb5.mono hbz)).alloc (Nat.le_trans hbz hz5) (.cells #[.string x, .int .i64 sy, .bool sg] 24)
          have BU := Blk.new w5 24 #[.string x, .int .i64 sy, .bool sg]
          have BT := (hB.past hb5).alloc (.cells #[.string x, .int .i64 sy, .bool sg] 24)
          have hR6 := (hR.past hb5).past ((Below.refl w5.heap.size w5).alloc (Nat.le_refl _) (.cells #[.string x, .int .i64 sy, .bool sg] 24))
          have HC : Hid (∀ w', Row w' gb L → (convert 35 9 (.slice (some ⟨gb, 0, none⟩) x.size cap)).run Tryd.prog w' = .ok (.string Y) w') := fun w' h => by
            have e := row_string (cap := cap) h
            rw [hLx, ← HY.out] at e
            exact e
          have RRd := hR6.drew
          have BUd := BU.drew
          have BTd := BT.drew
          have u0 := BU.cell 0
          have u1 := BU.cell 1
          have u2 := BU.cell 2
          have t0 := BT.cell 0
          have t1 := BT.cell 1
          have t2 := BT.cell 2
          have hb6d := hb6.drew
          have hz6 := hb6.size
          clear E hR hR6 hB hb hb5 HY CF
          go_wp2_with fail
          go_region_held3 (fun w' => w'.cell? ⟨w5.heap.size, 0, none⟩ = some (.string x) ∧ w'.cell? ⟨w5.heap.size, 1, none⟩ = some (.int .i64 sy) ∧ w'.cell? ⟨w5.heap.size, 2, none⟩ = some (.bool sg) ∧ w'.cell? ⟨gt, 0, none⟩ = some (.string x) ∧ w'.cell? ⟨gt, 1, none⟩ = some (.int .i64 sy) ∧ w'.cell? ⟨gt, 2, none⟩ = some (.bool sg) ∧ (convert 35 9 (.slice (some ⟨gb, 0, none⟩) x.size cap)).run Tryd.prog w' = .ok (.string Y) w') (first | exact ⟨BUd.cell 0, BUd.cell 1, BUd.cell 2, BTd.cell 0, BTd.cell 1, BTd.cell 2, HC.out _ RRd⟩ | exact ⟨BU8.cell 0, BU8.cell 1, BU8.cell 2, BT8.cell 0, BT8.cell 1, BT8.cell 2, HC.out _ RR8⟩ | exact ⟨BU9.cell 0, BU9.cell 1, BU9.cell 2, BT9.cell 0, BT9.cell 1, BT9.cell 2, HC.out _ RR9⟩) (first | (go_at_call 9; refine (CC.out _).mono ?_; rintro e w8 ⟨rfl, hb8⟩; have BU8 := BUd.past hb8; have BT8 := BTd.past hb8; have RR8 := RRd.past hb8; have hb8w := hb6d.trans (hb8.mono hz6); have hz8 := hb8w.size) | (go_at_call 10; refine (CD.out _).mono ?_; rintro e w9 ⟨rfl, hb9⟩; have BU9 := BU8.past hb9; have BT9 := BT8.past hb9; have RR9 := RR8.past hb9; have hb9w := hb8w.trans (hb9.mono hz8)))
          clear CC CD HC BU BT BUd BTd
          go_wp2_with fail
          go_ret
          exact ⟨rfl, hb9w⟩
theorem wf_u8 {n : Int} (h : (Lit.int .u8 n).wf = true) : 0 ≤ n ∧ n ≤ 255 := by
  simpa [Lit.wf, IntKind.min, IntKind.max, IntKind.signed, IntKind.bits] using h
theorem wf_u16 {n : Int} (h : (Lit.int .u16 n).wf = true) : 0 ≤ n ∧ n ≤ 65535 := by
  simpa [Lit.wf, IntKind.min, IntKind.max, IntKind.signed, IntKind.bits] using h
theorem walk_SchemaAll (wh : Int) (hwh : (Lit.int .u8 wh).wf = true) (up : Int) (hup : (Lit.int .u16 up).wf = true) (v : ByteArray) (hv : v.size ≤ maxLen) (w : World) :
    Calls Tryd.prog 4 #[.int .u8 wh, .int .u16 up, .string v] w fun r w' => r = .returned (.bool true) ∧ Below w.heap.size w w' :=
  all_go wh (wf_u8 hwh) up (wf_u16 hup) v hv w
end Go.Proofs.YtkdlkdbjgajenaaDoor
