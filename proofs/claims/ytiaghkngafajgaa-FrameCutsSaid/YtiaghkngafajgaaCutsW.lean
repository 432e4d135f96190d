/- FrameCuts: the walk. -/
import Derived.Test.YtiaghkngafajgaaFKnown
import Derived.Test.YtiaghkngafajgaaLists
import Derived.Test.YtiaghkngafajgaaEls
import Derived.Test.YtiaghkngafajgaaMsg
import Derived.Test.YtiaghkngafajgaaRWrite
import Derived.Maps.AppendAt
namespace Go.Proofs.Ytiaghkngafajgaa
open Go.RowKit
set_option linter.unusedVariables false
set_option maxRecDepth 100000

theorem bits33 : ∀ t : Fin 256, 0 ≤ bits .andNot .u8 (t.val : Int) 33 ∧ bits .andNot .u8 (t.val : Int) 33 ≤ 255 ∧ bits .andNot .u8 (t.val : Int) 33 % 32 ≠ 31 ∧ bits .andNot .u8 (t.val : Int) 33 / 32 % 2 = 0 := by decide +kernel
theorem not33 (t : Nat) (ht : t ≤ 255) : ∃ u : Nat, bits .andNot .u8 (t : Int) 33 = u ∧ u ≤ 255 ∧ u % 32 ≠ 31 ∧ u / 32 % 2 = 0 := by
  obtain ⟨h0, h1, h2, h3⟩ := bits33 ⟨t, by omega⟩
  exact ⟨(bits .andNot .u8 (t : Int) 33).toNat, by simp only [] at h0; omega, by simp only [] at h0 h1; omega, by simp only [] at h0 h2; omega, by simp only [] at h0 h3; omega⟩

set_option maxHeartbeats 1000000 in
theorem cuts_many (A : Option Addr) (c n : Nat) (B : Option Addr) (m d : Nat) (w : World) (hl : 8 < (n : Int)) :
    Calls Try.prog 4 #[.slice A n c, .slice B m d] w fun r w' => r = .returned (.bool true) ∧ Below w.heap.size w w' := by
  go_enter Try.func4, Try.ntmps4
  go_wp2_with fail
  refine (fknown_any _).mono ?_
  rintro r w1 ⟨rfl, hb1⟩
  go_wp2_with fail
  go_ret
  exact ⟨rfl, hb1⟩

theorem infoS : (Try.prog.info? 9).map (fun i => (i.zero, i.size, i.bytes)) = some (some (.string ⟨#[]⟩), 1, 16) := by kernel_rfl
/-- The bytes of a leaf. -/
def leafB (u : Nat) (b : ByteArray) : List UInt8 := encHead u b.size ++ b.data.toList
theorem leafB_mess (u : Nat) (b : ByteArray) (hu : u ≤ 255) (h31 : u % 32 ≠ 31) (hb : b.size ≤ 300) : Mess (leafB u b) := leaf_mess u b.data.toList hu h31 hb
theorem leafB_len (u : Nat) (b : ByteArray) (hb : b.size ≤ 300) : (leafB u b).length ≤ 304 := by
  have e : b.data.toList.length = b.size := rfl
  have := more_le b.size
  rw [leafB, List.length_append, encHead_len, e]
  omega
theorem write_leaf (u : Nat) (b : ByteArray) (w : World) (hu : u ≤ 255) (h31 : u % 32 ≠ 31) (h32 : u / 32 % 2 = 0) (hb : b.size ≤ 300) :
    Calls Try.prog 14 #[.agg #[.int .u8 u, .string b, .slice none 0 0]] w fun r w' => r = .returned (.tuple #[.string ⟨(leafB u b).toArray⟩, .int .i64 0]) ∧ Below w.heap.size w w' := by
  have hF : fitS 10 400 3 (.mk u b []) = true := by simp [fitS]; omega
  have hW : wr (.mk u b []) = (leafB u b, 0) := by
    have h1 : formed (.mk u b []) = true := by simp [formed, h31, h32]
    have h2 : ¬ 20 < dep (.mk u b []) := by simp [dep, deps]
    have h3 : ¬ 4000 < bodyLen (.mk u b []) := by simp [bodyLen, encs]; omega
    unfold wr
    rw [if_neg (by rw [h1]; decide), if_neg h2, if_neg h3]
    simp [enc, encs, leafB]
  have := rWrite_any 10 400 3 (.mk u b []) _ _ _ w (by omega) (by omega) (by omega) hF (Lies.leaf hu (by unfold maxLen; omega))
  unfold wrV at this
  rw [hW] at this
  exact this

/-- Texts as values of strings. -/
def strV (m : List UInt8) : Value := .string ⟨m.toArray⟩

theorem two_far {p g q : Nat} (hp : q ≠ p) (hg : q ≠ g) : ¬ Two p g q := fun h => h.elim hp hg
theorem Kept.own_row {S : Nat → Prop} {w w' : World} {base : Nat} {e : TypeId} {size : Nat} {v : Value} {n : Nat} {xs : List Value} (k : Kept S w w') (h : w.ownsRow base e size v n xs) (hS : ∀ g, v.ownBlock = some g → ¬ S g) : w'.ownsRow base e size v n xs := by
  obtain ⟨h1, h2⟩ := h
  refine ⟨h1, ?_⟩
  rcases h2 with h2 | ⟨g, cap, cur, hv, hg, hh, r⟩
  · exact Or.inl h2
  · have hlt : g < w.heap.size := by
      rcases Nat.lt_or_ge g w.heap.size with h' | h'
      · exact h'
      · simp [Array.getElem?_eq_none h'] at hh
    exact Or.inr ⟨g, cap, cur, hv, hg, (k.block g hlt (hS g (by rw [hv]; rfl))).trans hh, r⟩
theorem own_str {w : World} {base : Nat} {A : Option Addr} {n c : Nat} {ws : List (List UInt8)} (h : w.ownsRow base 9 1 (.slice A n c) ws.length (ws.map strV)) {j : Nat} (hj : j < ws.length) :
    ∃ g, A = some ⟨g, 0, none⟩ ∧ n = ws.length ∧ w.cell? ⟨g, j, none⟩ = some (.string ⟨ws[j].toArray⟩) := by
  rcases h.2 with ⟨hv, h0⟩ | ⟨g, cap, cur, hv, hg, hh, hc, hm, hs, ht⟩
  · omega
  · injection hv with a1 a2 a3
    refine ⟨g, a1, a2, ?_⟩
    rw [cell_of_row w g j cur _ _ hh]
    have h1 : (cur.toList.take (ws.length * 1))[j]? = some (strV ws[j]) := by
      rw [ht, List.getElem?_map, List.getElem?_eq_getElem hj]
      rfl
    rw [List.getElem?_take_of_lt (by omega)] at h1
    simpa [strV] using h1

set_option maxHeartbeats 4000000 in
theorem cuts_few (A : Option Addr) (c : Nat) (ks : List El) (ds : Nat → List Value) (B : Option Addr) (d : Nat) (xs : List Int) (w : World) (hl : (ks.length : Int) ≤ 8) (hK : KidsAt w (· < w.heap.size) A ks ds) (hX : NumsAt w B xs) (hm : xs.length ≤ maxLen) :
    Calls Try.prog 4 #[.slice A ks.length c, .slice B xs.length d] w fun r w' => r = .returned (.bool true) ∧ Below w.heap.size w w' := by
  have CN := Lib.hid New_any
  go_enter Try.func4, Try.ntmps4
  go_wp2_with fail
  refine (fknown_any _).mono ?_
  rintro r w1 ⟨rfl, hb1⟩
  have sz1 := hb1.size
  go_wp2_with fail
  go_loopw [5, 6, 7] (fun wa al i wr => ∃ (ws : List (List UInt8)) (S : ByteArray), ws.length ≤ ks.length ∧ i = .int .i64 ws.length ∧ al = .string S ∧ S.data.toList = ws.flatten ∧ wr.ownsRow w.heap.size 9 1 wa ws.length (ws.map strV) ∧ (∀ m ∈ ws, Mess m ∧ m.length ≤ 304) ∧ Below w.heap.size w wr) (fun wa al i wr => ks.length - (intOf i).toNat)
  case atStart => exact ⟨[], ⟨#[]⟩, Nat.zero_le _, rfl, rfl, rfl, World.ownsRow_nil _ _ _ _, fun m hm => absurd hm (by simp), hb1⟩
  case round =>
    obtain ⟨ws, S, hk, rfl, rfl, hS, hown, hws, hb⟩ := hrel
    by_cases hlt : ws.length < ks.length
    · obtain ⟨ad, t, b, A', n', c', rfl, hp, f0, f1, f2, hL⟩ := hK.kid5 hb hlt
      obtain ⟨ht, hbm⟩ := hL.head
      obtain ⟨u, hu, hu1, hu2, hu3⟩ := not33 t ht
      by_cases h3 : 300 < (b.size : Int)
      · go_wp2_with fail
        go_ret
        exact ⟨rfl, hb.alloc hb.size _⟩
      · have h3' : (b.size : Int) ≤ 300 := by omega
        have HW := Lib.hid (fun w => write_leaf u b w hu1 hu2 hu3 (by omega))
        have hM := Lib.hid (leafB_mess u b hu1 hu2 (by omega))
        have hml := leafB_len u b (by omega)
        obtain ⟨i0, hi, hz0, hz1, hz2⟩ := info_parts infoS
        have hf : ∀ l : List (List UInt8), (∀ m ∈ l, Mess m ∧ m.length ≤ 304) → l.flatten.length ≤ 304 * l.length := by
          intro l
          induction l with
          | nil => intro _; simp
          | cons m l ih =>
            intro h
            have h1 := (h m (by simp)).2
            have h2 := ih (fun x hx => h x (by simp [hx]))
            rw [List.flatten_cons, List.length_append, List.length_cons]
            omega
        have hSl : S.size ≤ 304 * 8 := by
          have e : S.data.toList.length = S.size := rfl
          have := hf ws hws
          rw [hS] at e
          omega
        have hLl : (⟨(leafB u b).toArray⟩ : ByteArray).size ≤ 304 := by
          show (leafB u b).toArray.size ≤ 304
          rw [List.size_toArray]; exact hml
        generalize hm : leafB u b = m at HW hM hml hLl
        clear h3 hu1 hu2 hu3 hL hf
        go_wp2_with fail
        refine (HW.out _).mono ?_
        rintro r w3 ⟨rfl, hb3⟩
        have hown3 := own_past (own_alloc hown _) hb3
        have z3 := hb3.size
        have z0 := hb.size
        have hbw3 := (hb.alloc z0 (.cells #[.int .u8 u, .string b, .slice none 0 0] 41)).trans (hb3.mono (by simp; omega))
        have z4 := hbw3.size
        clear hown hb hb3 f0 f1 f2 HW ht hu
        go_wp2_with (at_builtin; go_loud (refine wpList_append_own _ rfl _ _ 22 rfl w.heap.size 9 i0 (.string ⟨#[]⟩) 1 16 Try.underlying22 hi hz0 hz1 hz2 rfl (by decide) u5 ws.length _ rfl (own_alloc hown3 _) ⟨w3.heap.size, 0, none⟩ 1 1 [strV m] rfl rfl ?n0 ?b0 ?c0 ?d0 ?e0 ?_))
        case n0 =>
          have := cell_one_new w3 (strV m) 9
          exact this
        case b0 => intro u hu; simp at hu; subst hu; rfl
        case c0 => unfold maxLen; omega
        case d0 => omega
        case e0 => simp; omega
        intro v1 w4 hown4 hg4 _
        have hbw4 := (hbw3.alloc z4 (.cells #[strV m] 9)).grown hg4 (by simp; omega) (fun k hk => (hown3.lt k hk).1)
        clear hown3 hg4 hbw3
        go_wp2_with fail
        go_roundw
        case rel =>
          refine ⟨ws ++ [m], S ++ ⟨m.toArray⟩, by simp; omega, by rw [List.length_append]; go_num, rfl, ?_, ?_, ?_, hbw4⟩
          · rw [ByteArray.data_append, Array.toList_append, hS, List.flatten_append]; simp
          · rw [List.length_append, List.map_append]; exact hown4
          · intro x hx
            rcases List.mem_append.1 hx with h | h
            · exact hws x h
            · simp at h; subst h; exact ⟨hM.out, hml⟩
        case measure => simp [intOf]; omega
    · have hke : ws.length = ks.length := by omega
      have hf : ∀ l : List (List UInt8), (∀ m ∈ l, Mess m ∧ m.length ≤ 304) → l.flatten.length ≤ 304 * l.length := by
        intro l
        induction l with
        | nil => intro _; simp
        | cons m l ih =>
          intro h
          have h1 := (h m (by simp)).2
          have h2 := ih (fun x hx => h x (by simp [hx]))
          rw [List.flatten_cons, List.length_append, List.length_cons]
          omega
      have hF := hf ws hws
      have hSs : S.size = ws.flatten.length := by rw [← hS]; rfl
      have hS8 : S.size ≤ 2432 := by omega
      have hM : ∀ m ∈ ws, Mess m := fun m h => (hws m h).1
      obtain ⟨Aw, nw, cw, rfl⟩ : ∃ A n c, u5 = .slice A n c := by
        rcases hown.2 with ⟨h, _⟩ | ⟨_, _, _, h, _⟩
        · exact ⟨_, _, _, h⟩
        · exact ⟨_, _, _, h⟩
      obtain rfl : nw = ws.length := by
        rcases hown.2 with ⟨h, h0⟩ | ⟨_, _, _, h, _⟩
        · injection h with a1 a2 a3; omega
        · injection h
      have hfar : ∀ g, (Value.slice Aw ws.length cw).ownBlock = some g → g < wr.heap.size := fun g h => (hown.lt g h).2
      have HS := Lib.hid hS
      have HSs := Lib.hid hSs
      have hw8 : ws.length ≤ 8 := by omega
      clear hf hws hF hK hS hSs hke hk
      go_wp2_with fail
      refine (CN.out _).mono ?_
      rintro r w2 ⟨rfl, h2, hb2, hs2⟩
      have hbw2 := hb.trans (hb2.mono hb.size)
      have sz2 := hb.size
      have hown2 := own_past hown hb2
      obtain ⟨p, hp⟩ : ∃ p, p = wr.heap.size := ⟨_, rfl⟩
      rw [← hp] at h2 sz2 hfar ⊢
      clear hb2 hs2 hb hown CN hp
      go_wp2_with fail
      go_loopw [12, 13, 14] (fun gt at' kk wz => ∃ (j r q g : Nat), gt = .int .i64 j ∧ at' = .int .i64 ((upto ws j + r : Nat) : Int) ∧ kk = .int .i64 q ∧ j ≤ ws.length ∧ upto ws j + r ≤ S.size ∧ q ≤ upto ws j + r ∧ Cut wz p g ((ws.drop j).flatten.take r) ∧ nx ((ws.drop j).flatten.take r) = ([], 10, (ws.drop j).flatten.take r) ∧ wz.ownsRow w.heap.size 9 1 (.slice Aw ws.length cw) ws.length (ws.map strV) ∧ Below w.heap.size w wz ∧ p ≤ g) (fun gt at' kk wz => S.size - (intOf at').toNat)
      case atStart =>
        refine ⟨0, 0, 0, p, rfl, ?_, rfl, Nat.zero_le _, ?_, Nat.zero_le _, ?_, ?_, hown2, hbw2, Nat.le_refl _⟩
        · simp [upto]
        · simp [upto]
        · simpa using h2
        · simp [nx, Sp.hd]
      case round =>
        obtain ⟨j, r, q, g, rfl, rfl, rfl, hj, hr, hq, hC, hx, hown, hb, hg⟩ := hrel
        obtain ⟨at0, hat⟩ : ∃ a, a = upto ws j + r := ⟨_, rfl⟩
        rw [← hat] at hr hq ⊢
        have Hat := Lib.hid hat
        have Hsum := Lib.hid (upto_rest ws j)
        clear hat
        by_cases hlt2 : (at0 : Int) < S.size
        · have hcases : ∃ N : Nat, 1 ≤ N ∧ at0 + N ≤ S.size ∧ ((xs.length ≤ q ∧ (S.size : Int) - at0 = N) ∨ (∃ (bd : Addr) (x : Int), B = some bd ∧ wr.cell? (bd.add q) = some (.int .u8 x) ∧ q < xs.length ∧ 0 ≤ x ∧ x ≤ 255 ∧ (((S.size : Int) - at0 = N ∧ (N : Int) ≤ x % 40 + 1) ∨ (x % 40 + 1 = N ∧ (N : Int) < S.size - at0)))) := by
            by_cases hq2 : q < xs.length
            · obtain ⟨bd, hB, hbd, ux, x0, x1⟩ := hX.kid hb hq2
              by_cases hmin : (S.size : Int) - at0 ≤ xs[q] % 40 + 1
              · exact ⟨S.size - at0, by omega, by omega, Or.inr ⟨bd, xs[q], hB, ux, hq2, x0, x1, Or.inl ⟨by omega, by omega⟩⟩⟩
              · exact ⟨(xs[q] % 40 + 1).toNat, by omega, by omega, Or.inr ⟨bd, xs[q], hB, ux, hq2, x0, x1, Or.inr ⟨by omega, by omega⟩⟩⟩
            · exact ⟨S.size - at0, by omega, by omega, Or.inl ⟨by omega, by omega⟩⟩
          obtain ⟨N, hN1, hN2, hN⟩ := hcases
          have hnat : at0 + N ≤ 2432 := by omega
          obtain ⟨P, hP⟩ : ∃ P : ByteArray, P = S.extract at0 (at0 + N) := ⟨_, rfl⟩
          have hPl : P.data.toList = (ws.flatten.drop (upto ws j + r)).take N := by rw [hP, Lib.extract_data, HS.out, ← Hat.out, Nat.add_sub_cancel_left]
          have hfd : fd ((ws.drop j).flatten.take r) P.data.toList = ((ws.drop j).flatten.take (r + N), 0) := by
            rw [hPl]
            unfold fd
            rw [held_more, if_neg (by rw [List.length_take, List.length_take]; have := Hat.out; omega)]
          have HF : Hid (∀ wz, Cut wz p g ((ws.drop j).flatten.take r) → Calls Try.prog 9 #[.pointer (some ⟨p, 0, none⟩), .string (S.extract at0 (at0 + N))] wz fun e w' => e = .returned (.int .i64 0) ∧ ∃ g', (g' = g ∨ wz.heap.size ≤ g' ∧ g' < w'.heap.size) ∧ Cut w' p g' ((ws.drop j).flatten.take (r + N)) ∧ Kept (Two p g) wz w') := fun wz h => by
            have := Feed_any p g _ P wz h (by
              have e : P.data.toList.length = P.size := rfl
              rw [hPl, List.length_take] at e
              unfold maxLen; omega)
            rw [hfd, hP] at this
            exact this
          clear hfd hPl hP hx
          rcases hN with ⟨hq2, hNe⟩ | ⟨bd, x, rfl, ux, hq2, x0, x1, ⟨hNe, hNc⟩ | ⟨hNe, hNc⟩⟩
          all_goals go_wp2_with fail
          all_goals
            refine (HF.out _ hC).mono ?_
            rintro r0 w5 ⟨rfl, g5, hg5, hC5, k5⟩
            have z5 := hC.lt
            have b5 := k5.own hb hb.size (fun i h => h.ge sz2 (by omega))
            have hown5 := k5.own_row hown (fun gw h => two_far (by have := hfar gw h; omega) (by have := hfar gw h; omega))
            have hg5' : p ≤ g5 := by omega
            clear k5 hg5 hown hC hb HF hNe
            try clear ux
            go_wp2_with fail
            go_loopw [12] (fun gt wz => ∃ (i k : Nat), gt = .int .i64 i ∧ i ≤ ws.length ∧ Hid (upto ws i + k = at0 + N) ∧ Cut wz p g5 ((ws.drop i).flatten.take k) ∧ wz.ownsRow w.heap.size 9 1 (.slice Aw ws.length cw) ws.length (ws.map strV) ∧ Below w.heap.size w wz) (fun gt wz => ws.length - (intOf gt).toNat)
            case atStart => exact ⟨j, r + N, rfl, hj, (by have := Hat.out; show _ = _; omega), hC5, hown5, b5⟩
            case round =>
              obtain ⟨i, k, rfl, hi, Hik, hC6, hown6, b6⟩ := hrel
              have hk : k ≤ (ws.drop i).flatten.length := by
                have h1 := upto_rest ws i
                have h2 := HSs.out
                have h3 := Hik.out
                omega
              rcases next_of (ws.drop i) (fun m h => hM m (List.mem_of_mem_drop h)) k hk with ⟨m, vs, hd, hmk, hnx, hkl⟩ | ⟨hnx, hend⟩
              · obtain ⟨hi2, hm2, hvs, hup⟩ := drop_parts hd
                have HN : Hid (Calls Try.prog 11 #[.pointer (some ⟨p, 0, none⟩)] wr fun e w' => e = .returned (.tuple #[.string ⟨m.toArray⟩, .int .i64 0]) ∧ Cut w' p g5 ((ws.drop (i + 1)).flatten.take (k - m.length)) ∧ Kept (Two p g5) wr w') := by
                  have := Next_any p g5 _ wr hC6
                  unfold nxV at this
                  rw [hnx, hvs] at this
                  exact this
                have Hup := Lib.hid hup
                have Hm2 := Lib.hid hm2
                clear hnx hd hvs hup hm2 hC5 hown5 b5
                go_wp2_with fail
                refine HN.out.mono ?_
                rintro r0 w7 ⟨rfl, hC7, k7⟩
                have b7 := k7.own b6 b6.size (fun i h => h.ge sz2 (by omega))
                have hown7 := k7.own_row hown6 (fun gw h => two_far (by have := hfar gw h; omega) (by have := hfar gw h; omega))
                obtain ⟨gw, rfl, _, c7⟩ := own_str hown7 hi2
                rw [Hm2.out] at c7
                clear HN k7 hown6 hC6 b6
                go_wp2_with fail
                go_roundw
                case rel => exact ⟨i + 1, k - m.length, by go_num, hi2, (by have h1 := Hup.out; have h2 := Hik.out; show _ = _; omega), hC7, hown7, b7⟩
                case measure => simp [intOf]; omega
              · have HN : Hid (Calls Try.prog 11 #[.pointer (some ⟨p, 0, none⟩)] wr fun e w' => e = .returned (.tuple #[.string ⟨#[]⟩, .int .i64 10]) ∧ Cut w' p g5 ((ws.drop i).flatten.take k) ∧ Kept (Two p g5) wr w') := by
                  have := Next_any p g5 _ wr hC6
                  unfold nxV at this
                  rw [hnx] at this
                  exact this
                have Hnx := Lib.hid hnx
                clear hnx hend hC5 hown5 b5
                go_wp2_with fail
                refine HN.out.mono ?_
                rintro r0 w7 ⟨rfl, hC7, k7⟩
                have b7 := k7.own b6 b6.size (fun i h => h.ge sz2 (by omega))
                have hown7 := k7.own_row hown6 (fun gw h => two_far (by have := hfar gw h; omega) (by have := hfar gw h; omega))
                clear HN k7 hown6 hC6 b6
                go_wp2_with fail
                go_roundw
                case rel => exact ⟨i, k, q + 1, g5, rfl, by rw [Hik.out]; go_num, by go_num, hi, by rw [Hik.out]; omega, by rw [Hik.out]; omega, hC7, Hnx.out, hown7, b7, hg5'⟩
                case measure => simp [intOf]; omega
        · have hend : j = ws.length ∧ (ws.drop j).flatten.take r = [] := by
            have h1 := HSs.out
            have h2 := Hat.out
            have h3 := Hsum.out
            have hrl : r = (ws.drop j).flatten.length := by omega
            rcases next_of (ws.drop j) (fun m h => hM m (List.mem_of_mem_drop h)) r (by omega) with ⟨m, vs, hd, hmk, hnx, hkl⟩ | ⟨hnx, he⟩
            · rw [hx] at hnx
              simp at hnx
            · have h4 := he hrl
              have h5 : ws.length ≤ j := by
                rcases Nat.lt_or_ge j ws.length with h' | h'
                · rw [List.drop_eq_getElem_cons h'] at h4; cases h4
                · exact h'
              exact ⟨by omega, by rw [h4]; simp⟩
          obtain ⟨rfl, hnil⟩ := hend
          rw [hnil] at hC
          clear hx hnil
          go_wp2_with fail
          refine (Left_any p g [] _ hC).mono ?_
          rintro r0 w5 ⟨rfl, rfl⟩
          go_wp2_with fail
          go_ret
          exact ⟨rfl, hb⟩

theorem walk_FrameCuts (w : World) (A : Option Addr) (len cap : Nat) (ks : List El) (h : ElsIn w A len ks) (B : Option Addr) (len2 cap2 : Nat) (xs : List Int) (h2 : NumsIn w B len2 xs) (hm : len2 ≤ maxLen) :
    Calls Try.prog 4 #[.slice A len cap, .slice B len2 cap2] w fun r w' => r = .returned (.bool true) ∧ Below w.heap.size w w' := by
  obtain ⟨rfl, ds, hK⟩ := h
  obtain ⟨rfl, hX⟩ := h2
  by_cases hl : 8 < (ks.length : Int)
  · exact cuts_many A cap ks.length B xs.length cap2 w hl
  · exact cuts_few A cap ks ds B cap2 xs w (by omega) hK hX hm
end Go.Proofs.Ytiaghkngafajgaa
