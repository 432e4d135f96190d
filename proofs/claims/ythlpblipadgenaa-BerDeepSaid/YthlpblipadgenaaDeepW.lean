/- BerDeep: the walk. -/
import Derived.Test.YthlpblipadgenaaKnown
import Derived.Test.YthlpblipadgenaaNest
namespace Go.Proofs.Ythlpblipadgenaa
open Go.RowKit
set_option linter.unusedVariables false
set_option maxRecDepth 100000

theorem nest_tags (b : ByteArray) : ∀ i, tags (nest b i) = true
  | 0 => by simp [nest, tags, tagss]
  | i + 1 => by
    have h := nest_tags b i
    simp [nest, tags, tagss, h]
theorem lies_wrap (wr : World) (g t : Nat) (q : ByteArray) (A : Option Addr) (n c : Nat) (e : El) (hgl : g < wr.heap.size) (L : Lies wr (fun k => k < wr.heap.size ∧ k ≠ g) e [.int .u8 t, .string q, .slice A n c]) :
    Lies ((((wr.setCell ⟨g, 0, none⟩ (.int .u8 48)).setCell ⟨g, 1, none⟩ (.string ⟨#[]⟩)).setCell ⟨g, 2, none⟩ (.slice (some ⟨wr.heap.size, 0, none⟩) 1 1)).alloc (.cells #[.int .u8 t, .string q, .slice A n c] 25))
      (fun k => k < ((((wr.setCell ⟨g, 0, none⟩ (.int .u8 48)).setCell ⟨g, 1, none⟩ (.string ⟨#[]⟩)).setCell ⟨g, 2, none⟩ (.slice (some ⟨wr.heap.size, 0, none⟩) 1 1)).alloc (.cells #[.int .u8 t, .string q, .slice A n c] 25)).heap.size ∧ k ≠ g)
      (.mk 48 ⟨#[]⟩ [e]) [.int .u8 48, .string ⟨#[]⟩, .slice (some ⟨wr.heap.size, 0, none⟩) 1 1] := by
  have hW : ∀ p : Addr, p.block < wr.heap.size ∧ p.block ≠ g → (((wr.setCell ⟨g, 0, none⟩ (.int .u8 48)).setCell ⟨g, 1, none⟩ (.string ⟨#[]⟩)).setCell ⟨g, 2, none⟩ (.slice (some ⟨wr.heap.size, 0, none⟩) 1 1)).cell? p = wr.cell? p := by
    intro p hp
    have hne : ∀ i, p ≠ ⟨g, i, none⟩ := fun i e => hp.2 (by rw [e])
    rw [World.cell?_setCell_other _ _ _ _ (hne 2).symm, World.cell?_setCell_other _ _ _ _ (hne 1).symm, World.cell?_setCell_other _ _ _ _ (hne 0).symm]
  have hsz : (((wr.setCell ⟨g, 0, none⟩ (.int .u8 48)).setCell ⟨g, 1, none⟩ (.string ⟨#[]⟩)).setCell ⟨g, 2, none⟩ (.slice (some ⟨wr.heap.size, 0, none⟩) 1 1)).heap.size = wr.heap.size := by simp [World.setCell]
  generalize (((wr.setCell ⟨g, 0, none⟩ (.int .u8 48)).setCell ⟨g, 1, none⟩ (.string ⟨#[]⟩)).setCell ⟨g, 2, none⟩ (.slice (some ⟨wr.heap.size, 0, none⟩) 1 1)) = W2 at hW hsz
  have B := Blk.new W2 25 #[.int .u8 t, .string q, .slice A n c]
  have hb := (Below.refl W2.heap.size W2).alloc (Nat.le_refl _) (.cells #[.int .u8 t, .string q, .slice A n c] 25)
  have hs2 : (W2.alloc (.cells #[.int .u8 t, .string q, .slice A n c] 25)).heap.size = W2.heap.size + 1 := by simp
  rw [hsz] at B hs2 hb
  generalize W2.alloc (.cells #[.int .u8 t, .string q, .slice A n c] 25) = W3 at *
  refine Lies.shut (ks := [e]) (A := some ⟨wr.heap.size, 0, none⟩) (c := 1) (ds := fun _ => [.int .u8 t, .string q, .slice A n c]) (by decide) (by decide) (by unfold maxLen; simp) ⟨fun i h => rfl, fun _ => ⟨_, rfl, ⟨by show wr.heap.size < _; omega, by show wr.heap.size ≠ g; omega⟩, ?_⟩, ?_⟩
  · intro i hi j u hu
    obtain rfl : i = 0 := by simpa using hi
    have hA : (⟨wr.heap.size, 0, none⟩ : Addr).add (0 * 3 + j) = ⟨wr.heap.size, j, none⟩ := by
      unfold Addr.add
      split
      · next h => simp at h; rw [h]
      · simp
    rw [hA, B.cell j]
    rw [← hu]
    simp
  · intro i hi
    obtain rfl : i = 0 := by simpa using hi
    refine L.imp (fun k hk => ⟨by omega, hk.2⟩) (fun p hp => ?_)
    rw [hb.cell hp.1, hW p hp]

set_option maxHeartbeats 4000000 in
theorem deep_long (n : Int) (b : ByteArray) (w : World) (hn0 : 0 ≤ n) (hn1 : n ≤ 255) (hb : 60 < (b.size : Int)) :
    Calls Try.prog 7 #[.int .u8 n, .string b] w fun r w' => r = .returned (.bool true) ∧ Below w.heap.size w w' := by
  go_enter Try.func7, Try.ntmps7
  go_wp2_with fail
  refine (known_any _).mono ?_
  rintro r w1 ⟨rfl, hb1⟩
  go_wp2_with fail
  go_ret
  exact ⟨rfl, hb1⟩
set_option maxHeartbeats 4000000 in
theorem deep_short (n : Int) (b : ByteArray) (w : World) (hn0 : 0 ≤ n) (hn1 : n ≤ 255) (hb : (b.size : Int) ≤ 60) :
    Calls Try.prog 7 #[.int .u8 n, .string b] w fun r w' => r = .returned (.bool true) ∧ Below w.heap.size w w' := by
  have CB0 := Lib.hid (fun w h => rbytes_any (nest b 0) 1 60 1 (.int .u8 4) (.string b) (.slice none 0 0) w (nest_fit b (by omega) 0) (by omega) (by omega) h)
  rw [rbV_ok (by have := nest_len b (by omega) 0 (by omega); omega)] at CB0
  go_enter Try.func7, Try.ntmps7
  go_wp2_with fail
  refine (known_any _).mono ?_
  rintro r w1 ⟨rfl, hb1⟩
  have h1 := hb1
  have s1 := hb1.size
  clear hb1
  go_wp2_with fail
  have L1 : Lies (w1.alloc (.cells #[.int .u8 4, .string b, .slice none 0 0] 25)) (· < (w1.alloc (.cells #[.int .u8 4, .string b, .slice none 0 0] 25)).heap.size) (nest b 0) [.int .u8 4, .string b, .slice none 0 0] := Lies.leaf (by decide) (by unfold maxLen; omega)
  have B1 := Blk.new w1 25 #[.int .u8 4, .string b, .slice none 0 0]
  have h2 := h1.alloc s1 (.cells #[.int .u8 4, .string b, .slice none 0 0] 25)
  refine (CB0.out _ L1).mono ?_
  rintro r w2 ⟨rfl, hb2⟩
  have B2 := B1.past hb2
  have s2 : w1.heap.size + 1 ≤ w2.heap.size := by have := hb2.size; simpa using this
  have h3 := h2.trans (hb2.mono (by simp; omega))
  go_wp2_with fail
  have hg : w.heap.size ≤ w1.heap.size := s1
  obtain ⟨g, hgd⟩ : ∃ g, g = w1.heap.size := ⟨_, rfl⟩
  rw [← hgd] at B2 hg s2 ⊢
  have L2 : Lies w2 (fun x => x < w2.heap.size ∧ x ≠ g) (nest b 0) [.int .u8 4, .string b, .slice none 0 0] := Lies.leaf (by decide) (by unfold maxLen; omega)
  clear hb2 h1 h2 B1 L1 CB0 hgd s1
  go_loopw [7, 9] (fun s i wr => ∃ (m t : Nat) (q : ByteArray) (A : Option Addr) (n' c : Nat), (m : Int) + 1 ≤ n % 4 + 18 ∧ i = .int .i64 ((m : Int) + 1) ∧ s = .string ⟨(enc (nest b m)).toArray⟩ ∧
      Blk wr g 25 #[.int .u8 t, .string q, .slice A n' c] ∧ Lies wr (fun x => x < wr.heap.size ∧ x ≠ g) (nest b m) [.int .u8 t, .string q, .slice A n' c] ∧ Below w.heap.size w wr) (fun s i wr => 30 - (intOf i).toNat)
  case atStart => exact ⟨0, 4, b, none, 0, 0, by omega, rfl, rfl, B2, L2, h3⟩
  case round =>
    obtain ⟨m, t, q, A, n', c, hm, rfl, rfl, B, L, hb0⟩ := hrel
    have hgl := B.lt
    by_cases hlt : (m : Int) + 1 < n % 4 + 18
    · have CB := Lib.hid (fun w h => rbytes_any (nest b (m + 1)) 1 60 (m + 2) (.int .u8 48) (.string ⟨#[]⟩) (.slice (some ⟨wr.heap.size, 0, none⟩) 1 1) w (nest_fit b (by omega) (m + 1)) (by omega) (by omega) h)
      rw [rbV_ok (by have := nest_len b (by omega) (m + 1) (by omega); omega)] at CB
      have c0 : wr.cell? ⟨g, 0, none⟩ = some (.int .u8 t) := B.cell 0
      have c1 : wr.cell? ⟨g, 1, none⟩ = some (.string q) := B.cell 1
      have c2 : wr.cell? ⟨g, 2, none⟩ = some (.slice A n' c) := B.cell 2
      have g0 := B.frozen 0
      have g1 := B.frozen 1
      have g2 := B.frozen 2
      have hne : g ≠ wr.heap.size := by omega
      have hne' : wr.heap.size ≠ g := by omega
      have lt1 : n % 4 < 4 := by omega
      go_wp2_with fail
      have LW := lies_wrap wr g t q A n' c (nest b m) hgl L
      have BW := (B.set3 (x' := .int .u8 48) (y' := .string ⟨#[]⟩) (z' := .slice (some ⟨wr.heap.size, 0, none⟩) 1 1)).alloc (.cells #[.int .u8 t, .string q, .slice A n' c] 25)
      have hbW := (((hb0.setCell (p := ⟨g, 0, none⟩) hg (.int .u8 48)).setCell (p := ⟨g, 1, none⟩) hg (.string ⟨#[]⟩)).setCell (p := ⟨g, 2, none⟩) hg (.slice (some ⟨wr.heap.size, 0, none⟩) 1 1)).alloc (by simp [World.setCell]; omega) (.cells #[.int .u8 t, .string q, .slice A n' c] 25)
      have hsW : wr.heap.size ≤ ((((wr.setCell ⟨g, 0, none⟩ (.int .u8 48)).setCell ⟨g, 1, none⟩ (.string ⟨#[]⟩)).setCell ⟨g, 2, none⟩ (.slice (some ⟨wr.heap.size, 0, none⟩) 1 1)).alloc (.cells #[.int .u8 t, .string q, .slice A n' c] 25)).heap.size := by simp [World.setCell]
      refine (CB.out _ (LW.imp (fun k hk => hk.1) (fun _ _ => rfl))).mono ?_
      rintro r w3 ⟨rfl, hb3⟩
      have B3 := BW.past hb3
      have L3 : Lies w3 (fun x => x < w3.heap.size ∧ x ≠ g) (nest b (m + 1)) _ := LW.imp (fun k hk => ⟨Nat.lt_of_lt_of_le hk.1 hb3.size, hk.2⟩) (fun p hp => hb3.cell hp.1)
      have h4 := hbW.trans (hb3.mono (by omega))
      clear hb3 BW LW hbW
      go_wp2_with fail
      go_roundw
      case rel => exact ⟨m + 1, 48, ⟨#[]⟩, _, 1, 1, by omega, by go_num, rfl, B3, L3, h4⟩
      case measure => simp [intOf]; omega
    · have hm17 : (m : Int) + 1 = n % 4 + 18 := by omega
      have hdl : (⟨(enc (nest b m)).toArray⟩ : ByteArray).data.toList = enc (nest b m) := rfl
      have hm20 : m ≤ 20 := by omega
      have hsz : (⟨(enc (nest b m)).toArray⟩ : ByteArray).size ≤ 1099511627776 := by
        have h1 := enc_len (nest b m)
        have h2 := more_le (bodyLen (nest b m))
        have h3 := nest_len b (by omega) m hm20
        show (enc (nest b m)).toArray.size ≤ _
        simp; omega
      have c0 : wr.cell? ⟨g, 0, none⟩ = some (.int .u8 t) := B.cell 0
      have c1 : wr.cell? ⟨g, 1, none⟩ = some (.string q) := B.cell 1
      have c2 : wr.cell? ⟨g, 2, none⟩ = some (.slice A n' c) := B.cell 2
      have hF := nest_fit b (by omega) m
      have L0 := L.imp (P' := (· < wr.heap.size)) (fun k hk => hk.1) (fun _ _ => rfl)
      have hs := hb0.size
      by_cases hk : n % 4 = 3
      · have hm3 : m = 20 := by omega
        have hE : errV (nest b m) = 12 := by rw [hm3]; exact nest_err20 b
        have CW : Hid (∀ w, Lies w (· < w.heap.size) (nest b m) [.int .u8 t, .string q, .slice A n' c] → Calls Try.prog 17 #[.agg #[.int .u8 t, .string q, .slice A n' c]] w fun r w' => r = .returned (.tuple #[.string ⟨#[]⟩, .int .i64 12]) ∧ Below w.heap.size w w') := fun w h => by
          refine (Write_any 1 60 (m + 1) (nest b m) _ _ _ w (by omega) (by omega) hF h).mono ?_
          rintro r w' ⟨rfl, hb⟩
          exact ⟨by unfold wrV; rw [wr_err, wr_bytes, hE]; rfl, hb⟩
        have CI : Hid (∀ w, Lies w (· < w.heap.size) (nest b m) [.int .u8 t, .string q, .slice A n' c] → Calls Try.prog 19 #[.agg #[.int .u8 t, .string q, .slice A n' c]] w fun r w' => r = .returned (.bool false) ∧ Below w.heap.size w w') := fun w h => by
          refine (Is_any 1 60 (m + 1) (nest b m) _ _ _ w (by omega) (by omega) hF h).mono ?_
          rintro r w' ⟨rfl, hb⟩
          exact ⟨ret_bool (by simp [hE]), hb⟩
        have CR : Hid (∀ w, Calls Try.prog 11 #[.string ⟨(enc (nest b m)).toArray⟩] w (ReadPost 0 w (.bad 40 12))) := fun w => by
          have := Read_any ⟨(enc (nest b m)).toArray⟩ w hsz
          rw [hdl, hm3, nest_bad b (by omega) 20 0 (by omega)] at this
          rw [hm3]
          exact this
        generalize (⟨(enc (nest b m)).toArray⟩ : ByteArray) = S at CR hsz ⊢
        clear hE hm20 hm3 hF hdl
        go_wp2_with fail
        refine (CW.out _ L0).mono ?_
        rintro r w3 ⟨rfl, hb3⟩
        have L3 := L0.past hb3
        have B3 := B.past hb3
        have s3 := hb3.size
        have h5 := hb0.trans (hb3.mono hs)
        clear hb3 L0 L c0 c1 c2
        go_wp2_with fail
        refine (CR.out _).mono ?_
        rintro r w4 ⟨rfl, hb4⟩
        have L4 := (L3.past hb4).alloc (.cells #[.int .u8 0, .string ⟨#[]⟩, .slice none 0 0] 25)
        have B4 := (B3.past hb4).alloc (.cells #[.int .u8 0, .string ⟨#[]⟩, .slice none 0 0] 25)
        have s4 := hb4.size
        have h6 := (h5.trans (hb4.mono (by omega))).alloc (by omega) (.cells #[.int .u8 0, .string ⟨#[]⟩, .slice none 0 0] 25)
        have c0 : (w4.alloc (.cells #[.int .u8 0, .string ⟨#[]⟩, .slice none 0 0] 25)).cell? ⟨g, 0, none⟩ = some (.int .u8 t) := B4.cell 0
        have c1 : (w4.alloc (.cells #[.int .u8 0, .string ⟨#[]⟩, .slice none 0 0] 25)).cell? ⟨g, 1, none⟩ = some (.string q) := B4.cell 1
        have c2 : (w4.alloc (.cells #[.int .u8 0, .string ⟨#[]⟩, .slice none 0 0] 25)).cell? ⟨g, 2, none⟩ = some (.slice A n' c) := B4.cell 2
        clear hb4 L3 B3 h5
        go_wp2_with fail
        refine (CI.out _ L4).mono ?_
        rintro r w5 ⟨rfl, hb5⟩
        go_wp2_with fail
        go_ret
        exact ⟨rfl, h6.trans (hb5.mono (by simp; omega))⟩
      · have hm3 : m ≤ 19 := by omega
        have hm3' : (m : Int) ≤ 19 := by omega
        have hE : errV (nest b m) = 0 := nest_err b (by omega) m hm3
        have CW : Hid (∀ w, Lies w (· < w.heap.size) (nest b m) [.int .u8 t, .string q, .slice A n' c] → Calls Try.prog 17 #[.agg #[.int .u8 t, .string q, .slice A n' c]] w fun r w' => r = .returned (.tuple #[.string ⟨(enc (nest b m)).toArray⟩, .int .i64 0]) ∧ Below w.heap.size w w') := fun w h => by
          refine (Write_any 1 60 (m + 1) (nest b m) _ _ _ w (by omega) (by omega) hF h).mono ?_
          rintro r w' ⟨rfl, hb⟩
          exact ⟨by unfold wrV; rw [wr_err, wr_bytes, hE]; rfl, hb⟩
        have CI : Hid (∀ w, Lies w (· < w.heap.size) (nest b m) [.int .u8 t, .string q, .slice A n' c] → Calls Try.prog 19 #[.agg #[.int .u8 t, .string q, .slice A n' c]] w fun r w' => r = .returned (.bool true) ∧ Below w.heap.size w w') := fun w h => by
          refine (Is_any 1 60 (m + 1) (nest b m) _ _ _ w (by omega) (by omega) hF h).mono ?_
          rintro r w' ⟨rfl, hb⟩
          exact ⟨ret_bool (by simp [hE]), hb⟩
        have CR : Hid (∀ w, Calls Try.prog 11 #[.string ⟨(enc (nest b m)).toArray⟩] w (ReadPost 0 w (.ok (nest b m) (enc (nest b m)).length))) := fun w => by
          have := Read_any ⟨(enc (nest b m)).toArray⟩ w hsz
          have hbk := back_any (nest b m) (nest_formed b m) (nest_tags b m) (by have := nest_len b (by omega) m hm20; omega) 20 (by rw [nest_dep]; omega) [] 0
          rw [List.append_nil] at hbk
          rw [hdl, hbk] at this
          exact this
        generalize (⟨(enc (nest b m)).toArray⟩ : ByteArray) = S at CR CW hsz ⊢
        generalize (enc (nest b m)).length = len at CR
        clear hE hm20 hm3 hF hdl
        go_wp2_with fail
        refine (CW.out _ L0).mono ?_
        rintro r w3 ⟨rfl, hb3⟩
        have L3 := L0.past hb3
        have B3 := B.past hb3
        have s3 := hb3.size
        have h5 := hb0.trans (hb3.mono hs)
        clear hb3 L0 L c0 c1 c2
        go_wp2_with fail
        refine (CR.out _).mono ?_
        rintro r w4 ⟨x, y, z, rfl, hb4, hl4⟩
        obtain ⟨t4, q4, A4, n4, c4, hx⟩ := hl4.form
        simp only [List.cons.injEq, and_true] at hx
        obtain ⟨rfl, rfl, rfl⟩ := hx
        clear hl4
        have L4 := (L3.past hb4).alloc (.cells #[.int .u8 t4, .string q4, .slice A4 n4 c4] 25)
        have B4 := (B3.past hb4).alloc (.cells #[.int .u8 t4, .string q4, .slice A4 n4 c4] 25)
        have s4 := hb4.size
        have h6 := (h5.trans (hb4.mono (by omega))).alloc (by omega) (.cells #[.int .u8 t4, .string q4, .slice A4 n4 c4] 25)
        have c0 : (w4.alloc (.cells #[.int .u8 t4, .string q4, .slice A4 n4 c4] 25)).cell? ⟨g, 0, none⟩ = some (.int .u8 t) := B4.cell 0
        have c1 : (w4.alloc (.cells #[.int .u8 t4, .string q4, .slice A4 n4 c4] 25)).cell? ⟨g, 1, none⟩ = some (.string q) := B4.cell 1
        have c2 : (w4.alloc (.cells #[.int .u8 t4, .string q4, .slice A4 n4 c4] 25)).cell? ⟨g, 2, none⟩ = some (.slice A n' c) := B4.cell 2
        clear hb4 L3 B3 h5
        go_wp2_with fail
        refine (CI.out _ L4).mono ?_
        rintro r w5 ⟨rfl, hb5⟩
        go_wp2_with fail
        go_ret
        exact ⟨rfl, h6.trans (hb5.mono (by simp; omega))⟩

theorem walk_BerDeep (n : Int) (hn : (Lit.int .u8 n).wf = true) (b : ByteArray) (hb : b.size ≤ maxLen) (w : World) :
    Calls Try.prog 7 #[.int .u8 n, .string b] w fun r w' => r = .returned (.bool true) ∧ Below w.heap.size w w' := by
  obtain ⟨hn0, hn1⟩ := wf_u8 hn
  by_cases h : 60 < (b.size : Int)
  · exact deep_long n b w hn0 hn1 h
  · exact deep_short n b w hn0 hn1 (by omega)
end Go.Proofs.Ythlpblipadgenaa
