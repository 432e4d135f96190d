/- What SplitN, digit, readValue answer. -/
import Derived.Test.YticfemheneljmaaDoorFlLib
import Derived.Test.YticfemheneljmaaDoorFlForm
import Derived.Shelf.Strings.Split
import Derived.Deep.RegionWith
namespace Go.Proofs.YticfemheneljmaaDoor.Fi
open Go.RowKit
set_option linter.unusedVariables false
set_option maxRecDepth 100000

theorem split_more : ∀ (k : Nat) (l : List UInt8), l.length ≤ k → split (k + 1) l = split k l
  | 0, l, h => by
    have : l = [] := List.eq_nil_of_length_eq_zero (by omega)
    subst this
    rfl
  | k + 1, l, h => by
    by_cases hc : 42 ∈ l
    · have hp : (past 42 l).length ≤ k := by
        rcases place 42 l with ⟨h1, _⟩ | ⟨_, i, h1, _, _, h2⟩
        · exact absurd hc h1
        · rw [h2, List.length_drop]; omega
      rw [split, if_pos hc, split_more k _ hp]
      conv => rhs; rw [split, if_pos hc]
    · rw [split, if_neg hc, split, if_neg hc]
theorem split_min (l : List UInt8) (k : Nat) (h : l.length ≤ k) : split k l = split l.length l := by
  induction k with
  | zero => rw [show l.length = 0 by omega]
  | succ k ih =>
    by_cases hk : l.length ≤ k
    · rw [split_more k l hk, ih hk]
    · rw [show l.length = k + 1 by omega]
theorem splitB_of : ∀ (k : Nat) (s : ByteArray), Lib.splitB ⟨#[42]⟩ 0 k s = (split k (Nm.bs s)).map Nm.mk
  | 0, s => rfl
  | k + 1, s => by
    have hi : Lib.indexB s ⟨#[42]⟩ = Lib.indexByte (Nm.bs s) 42 := Lib.index_one s.data.toList 42
    rcases place 42 (Nm.bs s) with ⟨h1, h2, _⟩ | ⟨h1, i, h2, h3, h4, h5⟩
    · rw [Lib.splitB_miss _ _ _ _ (by rw [hi, h2]), split, if_neg h1]; rfl
    · rw [Lib.splitB_hit _ _ _ _ i (by rw [hi, h3]), splitB_of k, split, if_pos h1, List.map_cons, h4, h5, Nat.add_zero, ext_to]
      show _ :: (split k (Nm.bs (s.extract (i + 1) s.size))).map Nm.mk = _
      rw [ext_from]
theorem split_len : ∀ (k : Nat) (l : List UInt8), (split k l).length ≤ k + 1
  | 0, l => by simp [split]
  | k + 1, l => by
    rw [split]
    split
    · have := split_len k (past 42 l); simp; omega
    · simp
theorem split_each : ∀ (k : Nat) (l : List UInt8), ∀ x ∈ split k l, x.length ≤ l.length
  | 0, l, x, h => by rw [split] at h; simp at h; rw [h]; exact Nat.le_refl _
  | k + 1, l, x, h => by
    rw [split] at h
    split at h
    · rcases List.mem_cons.1 h with rfl | h
      · exact upto_len 42 l
      · exact Nat.le_trans (split_each k _ x h) (past_len 42 l)
    · simp at h; rw [h]; exact Nat.le_refl _
theorem infoStr : (Tryd.prog.info? 9).map (fun i => (i.zero, i.size, i.bytes)) = some (some (.string ByteArray.empty), 1, 16) := by kernel_rfl
theorem split_any (s : ByteArray) (w : World) (hs : s.size ≤ 1000000000) :
    Calls Tryd.prog 52 #[.string s, .string ⟨#[42]⟩, .int .i64 21] w fun e w' => ∃ A c, e = .returned (.slice A (split 20 (Nm.bs s)).length c) ∧ StrsAt w' (fun b => w.heap.size ≤ b ∧ b < w'.heap.size) A ((split 20 (Nm.bs s)).map Nm.mk) ∧ Below w.heap.size w w' := by
  have hl : (Nm.bs s).length = s.size := rfl
  have hsp : Lib.splitB ⟨#[42]⟩ 0 (min 21 (s.size + 1) - 1) s = (split 20 (Nm.bs s)).map Nm.mk := by
    rw [splitB_of]
    congr 1
    by_cases h : s.size ≤ 20
    · rw [show min 21 (s.size + 1) - 1 = s.size by omega, split_min (Nm.bs s) 20 (by omega)]
      rfl
    · rw [show min 21 (s.size + 1) - 1 = 20 by omega]
  have CG := Any.strings_genSplit_core Tryd.lays221 infoStr s ⟨#[42]⟩ 0 21 (min 21 (s.size + 1)) w (by omega) (by decide) (Nat.zero_le _)
    (fun x c hx => (Tryd.strings_Index_one x 42 _).mono fun e w' ⟨h1, h2⟩ => ⟨by rw [h1, show Lib.indexB x ⟨#[42]⟩ = Lib.indexByte x.data.toList 42 from Lib.index_one x.data.toList 42], h2⟩)
    ((Tryd.strings_Count_one s 42 w).mono fun e w' ⟨h1, h2⟩ => ⟨by rw [h1]; show _ = Ending.returned (Value.int .i64 ((Lib.count s.data.toList [42] : Nat) : Int)); rw [Lib.count_one]; rfl, h2⟩)
    (by decide) (by decide) (by rw [if_neg (by decide)]; omega)
  rw [hsp, List.length_map] at CG
  have hN : (split 20 (Nm.bs s)).length ≤ min 21 (s.size + 1) := by
    rw [← List.length_map (f := Nm.mk), ← hsp]
    have := Lib.splitB_length_le ⟨#[42]⟩ 0 (min 21 (s.size + 1) - 1) s
    omega
  have HG := Lib.hid CG
  have HQ : Hid (∀ w', w' = w.alloc (.cells (Lib.cellsOf ((split 20 (Nm.bs s)).map Nm.mk) (min 21 (s.size + 1))) 9) → StrsAt w' (fun b => w.heap.size ≤ b ∧ b < w'.heap.size) (some ⟨w.heap.size, 0, none⟩) ((split 20 (Nm.bs s)).map Nm.mk) ∧ Below w.heap.size w w') := by
    rintro w' rfl
    refine ⟨fun h0 => ⟨⟨w.heap.size, 0, none⟩, rfl, ⟨Nat.le_refl _, by simp⟩, fun i hi => ?_⟩, (Below.refl _ _).alloc (Nat.le_refl _) _⟩
    rw [Addr.add_lit, Nat.zero_add, (Blk.new w 9 _).cell i]
    unfold Lib.cellsOf
    rw [List.getElem?_toArray, List.getElem?_append_left (by simpa using hi), List.getElem?_map, List.getElem?_eq_getElem hi]
    rfl
  clear CG hN hsp hl
  generalize (split 20 (Nm.bs s)).length = n at HG
  generalize ((split 20 (Nm.bs s)).map Nm.mk) = ps at HG HQ
  go_enter Tryd.func52, Tryd.ntmps52
  go_wp2_with fail
  refine HG.out.mono ?_
  rintro e w' ⟨rfl, hw⟩
  have HW := Lib.hid hw
  clear hw
  go_wp2_with fail
  go_ret
  exact ⟨_, _, rfl, HQ.out _ HW.out⟩
theorem dgI_all : (List.range 256).all (fun n => decide ((Lib.indexByte [48, 49, 50, 51, 52, 53, 54, 55, 56, 57, 97, 98, 99, 100, 101, 102] n.toUInt8 = -1 ∧ dg n.toUInt8 = 255) ∨ (Lib.indexByte [48, 49, 50, 51, 52, 53, 54, 55, 56, 57, 97, 98, 99, 100, 101, 102] n.toUInt8 = (dg n.toUInt8).toNat ∧ (dg n.toUInt8).toNat < 16))) = true := by kernel_rfl
theorem dgI_of (c : UInt8) : (Lib.indexByte [48, 49, 50, 51, 52, 53, 54, 55, 56, 57, 97, 98, 99, 100, 101, 102] c = -1 ∧ dg c = 255) ∨ (Lib.indexByte [48, 49, 50, 51, 52, 53, 54, 55, 56, 57, 97, 98, 99, 100, 101, 102] c = (dg c).toNat ∧ (dg c).toNat < 16) := by
  have h := of_decide_eq_true (List.all_eq_true.1 dgI_all c.toNat (by simp [u8_lt c]))
  simpa using h
set_option maxHeartbeats 400000 in
theorem digit_any (c : UInt8) (w : World) : Calls Tryd.prog 67 #[.int .u8 c.toNat] w fun e w' => e = .returned (.int .u8 (dg c).toNat) ∧ w = w' := by
  have CI : ∀ (w : World), Calls Tryd.prog 44 #[.string ⟨#[48, 49, 50, 51, 52, 53, 54, 55, 56, 57, 97, 98, 99, 100, 101, 102]⟩, .int .u8 c.toNat] w fun e w' => e = .returned (.int .i64 (Lib.indexByte [48, 49, 50, 51, 52, 53, 54, 55, 56, 57, 97, 98, 99, 100, 101, 102] c)) ∧ w' = w := fun w => by
    have := Tryd.strings_IndexByte ⟨#[48, 49, 50, 51, 52, 53, 54, 55, 56, 57, 97, 98, 99, 100, 101, 102]⟩ (c.toNat : Int) w
    have e : (c.toNat : Int).toNat.toUInt8 = c := by simp
    rw [e] at this
    exact this
  rcases dgI_of c with ⟨h1, h2⟩ | ⟨h1, h2⟩
  · rw [h1] at CI
    rw [h2]
    have HC := Lib.hid CI
    clear CI h1 h2
    go_enter Tryd.func67, Tryd.ntmps67
    go_wp2_with fail
    refine (HC.out _).mono ?_
    rintro e w1 ⟨rfl, rfl⟩
    go_wp2_with fail
    go_ret
    exact ⟨rfl, rfl⟩
  · rw [h1] at CI
    generalize (dg c).toNat = d at CI h2 ⊢
    have HC := Lib.hid CI
    clear CI h1
    go_enter Tryd.func67, Tryd.ntmps67
    go_wp2_with fail
    refine (HC.out _).mono ?_
    rintro e w1 ⟨rfl, rfl⟩
    go_wp2_with fail
    go_ret
    refine ⟨ret_int ?_, rfl⟩
    omega

theorem or_all : (List.range 256).all (fun n => ([0,1,2,3,4,5,6,7,8,9,10,11,12,13,14,15,255] : List Nat).all fun y => decide (bits .or .u8 (((n * 16 : Nat) : Int) % 256) (y : Int) = (((n.toUInt8 <<< 4) ||| y.toUInt8).toNat : Int))) = true := by kernel_rfl
theorem dg_in (c : UInt8) : (dg c).toNat ∈ ([0,1,2,3,4,5,6,7,8,9,10,11,12,13,14,15,255] : List Nat) := by
  rcases dgI_of c with ⟨_, h⟩ | ⟨_, h⟩
  · rw [h]; decide
  · simp only [List.mem_cons, List.not_mem_nil, or_false]
    omega
theorem or_of (a b : UInt8) : bits .or .u8 (((dg a).toNat : Int) * 16 % 256) ((dg b).toNat : Int) = ((byte a b).toNat : Int) := by
  have h := List.all_eq_true.1 or_all (dg a).toNat (by simp [u8_lt (dg a)])
  have h2 := of_decide_eq_true (List.all_eq_true.1 h (dg b).toNat (dg_in b))
  have e : ∀ x : UInt8, x.toNat.toUInt8 = x := fun x => by simp
  rw [e, e] at h2
  have e3 : (((dg a).toNat * 16 : Nat) : Int) = ((dg a).toNat : Int) * 16 := by omega
  rw [e3] at h2
  exact h2
theorem rv_three (m : Nat) (s : ByteArray) (k : Nat) (h : k + 2 < s.size) (hc : s[k] = 92) : rv (m + 1) ((Nm.bs s).drop k) = byte s[k + 1] s[k + 2] :: rv m ((Nm.bs s).drop (k + 3)) := by
  have h1 := drop_at (s := s) (k := k) (by omega)
  have h2 := drop_at (s := s) (k := k + 1) (by omega)
  have h3 := drop_at (s := s) (k := k + 2) (by omega)
  show rv (m + 1) (s.data.toList.drop k) = _
  rw [h1, h2, h3, hc, rv_two]
theorem rv_end (m : Nat) (s : ByteArray) (k : Nat) (h : k < s.size) (hs : s.size ≤ k + 2) (hc : s[k] = 92) : rv (m + 1) ((Nm.bs s).drop k) = 92 :: rv m ((Nm.bs s).drop (k + 1)) := by
  have h1 := drop_at (s := s) (k := k) h
  show rv (m + 1) (s.data.toList.drop k) = 92 :: rv m (s.data.toList.drop (k + 1))
  rw [h1, hc]
  by_cases h2 : k + 1 < s.size
  · have h3 := drop_at (s := s) (k := k + 1) h2
    have h4 : s.data.toList.drop (k + 2) = [] := List.drop_eq_nil_of_le (by rw [size_eq]; omega)
    rw [h3, h4]; rfl
  · have h4 : s.data.toList.drop (k + 1) = [] := List.drop_eq_nil_of_le (by rw [size_eq]; omega)
    rw [h4]; rfl
theorem rv_on (m : Nat) (s : ByteArray) (k : Nat) (h : k < s.size) (hc : s[k] ≠ 92) : rv (m + 1) ((Nm.bs s).drop k) = s[k] :: rv m ((Nm.bs s).drop (k + 1)) := by
  have h1 := drop_at (s := s) (k := k) h
  show rv (m + 1) (s.data.toList.drop k) = s[k] :: rv m (s.data.toList.drop (k + 1))
  rw [h1, rv_one _ _ _ hc]
set_option maxHeartbeats 2000000 in
theorem readV_any (s : ByteArray) (w : World) (hs : s.size ≤ 1000000000) :
    Calls Tryd.prog 51 #[.string s] w fun e w' => e = .returned (.string (Nm.mk (rv 61 (Nm.bs s)))) ∧ Below w.heap.size w w' := by
  have C := Lib.hid digit_any
  have B1 : Hid (∀ (c : UInt8) (w : World), Blk (w.alloc (.cells #[.int .u8 (c.toNat : Int)] 5)) w.heap.size 5 (Lib.byteCells [c]).toArray) := fun c w => Blk.new w _ _
  go_enter Tryd.func51, Tryd.ntmps51
  go_wp2_with fail
  go_loopw [3, 4] (fun b i wr => ∃ (k : Nat) (l : List UInt8), k ≤ s.size ∧ i = .int .i64 k ∧ Own wr w.heap.size b l ∧ Hid (rv 61 (Nm.bs s) = l ++ rv (61 - l.length) ((Nm.bs s).drop k)) ∧ l.length ≤ 61 ∧ Below w.heap.size w wr) (fun b i wr => s.size - (intOf i).toNat)
  case atStart => exact ⟨0, [], Nat.zero_le _, rfl, Own.nil _ _, rfl, by simp, Below.refl _ _⟩
  case round =>
    obtain ⟨k, l, hk, rfl, hO, hE, hl, hb⟩ := hrel
    have hs1 := hb.size
    obtain ⟨A, n, hv⟩ := hO.form
    subst hv
    by_cases hlt : k < s.size
    · have hltz : (k : Int) < s.size := by omega
      by_cases h60 : (l.length : Int) ≤ 60
      · obtain ⟨m, hm⟩ : ∃ m, 61 - l.length = m + 1 := ⟨60 - l.length, by omega⟩
        have hm2 : m = 61 - (l.length + 1) := by omega
        have hE2 := hE.out
        rw [hm] at hE2
        have r1 := rv_on m s k hlt
        have r2 := rv_end m s k hlt
        have r3 := rv_three m s k
        obtain ⟨c, hc⟩ : ∃ c, c = s[k] := ⟨_, rfl⟩
        have hcr : ∀ h, s[k]'h = c := fun _ => hc.symm
        have h256 := u8_lt c
        rw [← hc] at r1 r2
        have HO := Lib.hid hO
        have HM := Lib.hid hm2
        by_cases h92 : c = 92
        · have hn1 : 92 ≤ (c.toNat : Int) := by rw [h92]; decide
          have hn2 : (c.toNat : Int) ≤ 92 := by rw [h92]; decide
          by_cases h2 : k + 2 < s.size
          · have h2z : (k : Int) + 2 < s.size := by omega
            have r3 := r3 h2 (by rw [← hc]; exact h92)
            rw [r3] at hE2
            have D1 := C.out s[k + 1]
            have D2 := C.out s[k + 2]
            obtain ⟨x, hx⟩ : ∃ x, x = s[k + 1] := ⟨_, rfl⟩
            obtain ⟨y, hy⟩ : ∃ y, y = s[k + 2] := ⟨_, rfl⟩
            have hxr : ∀ h, s[k + 1]'h = x := fun _ => hx.symm
            have hyr : ∀ h, s[k + 2]'h = y := fun _ => hy.symm
            rw [← hx] at D1
            rw [← hy] at D2
            rw [← hx, ← hy] at hE2
            have horr := or_of x y
            have HD1 := Lib.hid D1
            have HD2 := Lib.hid D2
            have HE := Lib.hid hE2
            have hdx := u8_lt (dg x)
            have hdy := u8_lt (dg y)
            have g1 : (k : Int) + 1 < s.size := by omega
            have g2 : (0 : Int) ≤ (k : Int) + 1 := by omega
            have g3 : (0 : Int) ≤ (k : Int) + 2 := by omega
            have z1 : IntKind.i64.wrap ((k : Int) + 1) = (k : Int) + 1 := by rw [IntKind.wrap_i64]; omega
            have z2 : IntKind.i64.wrap ((k : Int) + 2) = (k : Int) + 2 := by rw [IntKind.wrap_i64]; omega
            have e1 : ((k : Int) + 1).toNat = k + 1 := by omega
            have e2 : ((k : Int) + 2).toNat = k + 2 := by omega
            clear hE hE2 r1 r2 r3 hc hx hy D1 D2 hO hm hm2 h92
            obtain ⟨z, hz⟩ : ∃ z, z = byte x y := ⟨_, rfl⟩
            rw [← hz] at horr HE
            clear hz
            have horr2 : bits .or .u8 (IntKind.u8.wrap (((dg x).toNat : Int) * 16)) ((dg y).toNat : Int) = (z.toNat : Int) := by rw [IntKind.wrap_u8]; exact horr
            go_wp2_with fail
            go_region_held3 (fun w' => True) (trivial) (first | (go_at_call 67; refine (HD1.out _).mono ?_; rintro e9 w9 ⟨rfl, rfl⟩) | (go_at_call 67; refine (HD2.out _).mono ?_; rintro e9 w9 ⟨rfl, rfl⟩))
            all_goals
              go_wp2_with (at_builtin; go_loud (refine wpList_push rfl _ _ rfl w.heap.size (.slice A l.length n) l rfl (HO.out.alloc _).drew wr.heap.size 1 1 [z] rfl rfl (Blk.drew (B1.out z wr)) (by simp; omega) (by simp; omega) ?_))
              intro v1 w1 hown hb2 hg2
              have hb3 := ((hb.alloc hs1 (.cells #[.int .u8 z.toNat] 5)).drew).trans hb2
              obtain ⟨A2, n2, c2, rfl⟩ := hown.form3
              have HO2 := Lib.hid hown
              clear hown hb2 hg2
              go_wp2_with fail
              go_roundw
              case rel =>
                refine ⟨k + 3, l ++ [z], by omega, by go_num, HO2.out, ?_, by simp; omega, hb3⟩
                show _ = _
                rw [List.length_append, List.length_singleton, ← HM.out, HE.out]
                simp
              case measure => simp [intOf]; omega
          · have hE3 := hE2
            rw [r2 (by omega) (by exact h92)] at hE3
            have HE := Lib.hid hE3
            have h2z : (s.size : Int) ≤ (k : Int) + 2 := by omega
            have hb0 := hb.alloc hs1 (.cells #[.int .u8 92] 5)
            clear hE hE2 hE3 r1 r2 r3 hc hO hm hm2 h92 h2
            go_wp2_with (at_builtin; go_loud (refine wpList_push rfl _ _ rfl w.heap.size (.slice A l.length n) l rfl (HO.out.alloc _) wr.heap.size 1 1 [92] rfl rfl (B1.out 92 wr) (by simp; omega) (by simp; omega) ?_))
            intro v1 w1 hown hb2 hg2
            have hb3 := hb0.trans hb2
            obtain ⟨A2, n2, c2, rfl⟩ := hown.form3
            have HO2 := Lib.hid hown
            clear hown hb2 hg2
            go_wp2_with fail
            go_roundw
            case rel =>
              refine ⟨k + 1, l ++ [92], by omega, by go_num, HO2.out, ?_, by simp; omega, hb3⟩
              show _ = _
              rw [List.length_append, List.length_singleton, ← HM.out, HE.out]
              simp
            case measure => simp [intOf]; omega
        · have hE3 := hE2
          rw [r1 h92] at hE3
          have HE := Lib.hid hE3
          have hn : ((c.toNat : Int) == 92) = false := by
            rw [beq_eq_false_iff_ne]
            intro e
            exact h92 (u8_nat (show c.toNat = 92 by omega))
          have hb0 := hb.alloc hs1 (.cells #[.int .u8 c.toNat] 5)
          clear hE hE2 hE3 r1 r2 r3 hc hO hm hm2 h92
          go_wp2_with (at_builtin; go_loud (refine wpList_push rfl _ _ rfl w.heap.size (.slice A l.length n) l rfl (HO.out.alloc _) wr.heap.size 1 1 [c] rfl rfl (B1.out c wr) (by simp; omega) (by simp; omega) ?_))
          intro v1 w1 hown hb2 hg2
          have hb3 := hb0.trans hb2
          obtain ⟨A2, n2, c2, rfl⟩ := hown.form3
          have HO2 := Lib.hid hown
          clear hown hb2 hg2
          go_wp2_with fail
          go_roundw
          case rel =>
            refine ⟨k + 1, l ++ [c], by omega, by go_num, HO2.out, ?_, by simp; omega, hb3⟩
            show _ = _
            rw [List.length_append, List.length_singleton, ← HM.out, HE.out]
            simp
          case measure => simp [intOf]; omega
      · have hE2 := hE.out
        rw [show 61 - l.length = 0 by omega, rv, List.append_nil] at hE2
        have HE := Lib.hid hE2
        have hV := Lib.hid hO.string
        have h60' : 60 < (l.length : Int) := by omega
        clear hE hE2 h60
        go_wp2_with fail
        rw [hV.out]
        simp only [Result.andThen]
        rw [Oper.upon_value]
        go_wp2_with fail
        go_ret
        refine ⟨?_, hb⟩
        rw [HE.out]; rfl
    · have hE2 := hE.out
      rw [List.drop_eq_nil_of_le (by show s.size ≤ k; omega)] at hE2
      have hE3 : rv 61 (Nm.bs s) = l := by
        rw [hE2]
        cases 61 - l.length <;> simp [rv]
      have HE := Lib.hid hE3
      have hV := Lib.hid hO.string
      clear hE hE2 hE3
      go_wp2_with fail
      rw [hV.out]
      simp only [Result.andThen]
      rw [Oper.upon_value]
      go_wp2_with fail
      go_ret
      refine ⟨?_, hb⟩
      rw [HE.out]; rfl
end Go.Proofs.YticfemheneljmaaDoor.Fi
