/- BerRows: the walk. -/
import Derived.Test.YtapkoiamjgdifaaKnown
import Derived.Test.YtapkoiamjgdifaaRRead
import Derived.Test.YtapkoiamjgdifaaBackSpec
import Derived.Test.YtapkoiamjgdifaaLenW
import Derived.Deep.AppendLies
import Derived.Maps.AppendAt
namespace Go.Proofs.Ytapkoiamjgdifaa
open Go.RowKit
set_option linter.unusedVariables false
set_option maxRecDepth 100000

/-- The strings ss lie one behind the other from A on. -/
def StrsAt (w : World) (A : Option Addr) (ss : List ByteArray) : Prop :=
  0 < ss.length → ∃ ad, A = some ad ∧ ad.block < w.heap.size ∧ ∀ i (h : i < ss.length), w.cell? (ad.add i) = some (.string ss[i])
theorem StrsAt.kid {w wr : World} {A : Option Addr} {ss : List ByteArray} (h : StrsAt w A ss) (hb : Below w.heap.size w wr) {i : Nat} (hi : i < ss.length) :
    ∃ ad, A = some ad ∧ ad.block < w.heap.size ∧ wr.cell? (ad.add i) = some (.string ss[i]) := by
  obtain ⟨ad, e, hp, hc⟩ := h (by omega)
  exact ⟨ad, e, hp, batA hb (by rw [block_of_add]; exact hp) (hc i hi)⟩
/-- The elements of the strings. -/
def leaves (t : Nat) (ss : List ByteArray) : List El := ss.map fun s => .mk t s []
def lenSum : List ByteArray → Nat
  | [] => 0
  | s :: ss => (2 + s.size) + lenSum ss

theorem StrsAt.at_ {w wr : World} {ad : Addr} {ss : List ByteArray} (h : StrsAt w (some ad) ss) (hb : Below w.heap.size w wr) {i : Nat} (hi : i < ss.length) : wr.cell? (ad.add i) = some (.string ss[i]) := by
  obtain ⟨ad', e, hp, hc⟩ := h.kid hb hi
  injection e with e
  rw [e]; exact hc
theorem Gath.drew {w : World} {base : Nat} {v : Value} {xs : List Value} {done : List El} (h : Gath w base v xs done) : Gath w.drew base v xs done := by
  refine ⟨h.1, fun i hi => ?_⟩
  obtain ⟨x, y, z, h0, h1, h2, hl⟩ := h.2 i hi
  exact ⟨x, y, z, h0, h1, h2, hl.drew⟩
theorem leaves_take {t : Nat} {ss : List ByteArray} {i : Nat} (h : i < ss.length) : leaves t (ss.take (i + 1)) = leaves t (ss.take i) ++ [.mk t ss[i] []] := by
  rw [List.take_succ_eq_append_getElem h, leaves, leaves, List.map_append]; rfl
theorem lenSum_app : ∀ a b : List ByteArray, lenSum (a ++ b) = lenSum a + lenSum b
  | [], b => by simp [lenSum]
  | x :: a, b => by rw [List.cons_append, lenSum, lenSum, lenSum_app a b]; omega
theorem lenSum_take {ss : List ByteArray} {i : Nat} (h : i < ss.length) : lenSum (ss.take (i + 1)) = lenSum (ss.take i) + (2 + ss[i].size) := by
  rw [List.take_succ_eq_append_getElem h, lenSum_app]; rfl

theorem leaves_formeds {t : Nat} (h31 : t % 32 ≠ 31) (h32 : t / 32 % 2 = 0) : ∀ ss : List ByteArray, formeds (leaves t ss) = true
  | [] => by simp [leaves, formeds]
  | s :: ss => by
    have ih := leaves_formeds h31 h32 ss
    rw [leaves] at ih
    simp [leaves, formeds, formed, h31, h32, ih]
theorem leaves_deps (t : Nat) : ∀ ss : List ByteArray, deps (leaves t ss) ≤ 1
  | [] => by simp [leaves, deps]
  | s :: ss => by
    have ih := leaves_deps t ss
    rw [leaves] at ih
    simp only [leaves, List.map_cons, deps, dep]; omega
theorem leaves_tagss {t : Nat} (h : t ≤ 255) : ∀ ss : List ByteArray, tagss (leaves t ss) = true
  | [] => by simp [leaves, tagss]
  | s :: ss => by
    have ih := leaves_tagss h ss
    rw [leaves] at ih
    simp [leaves, tagss, tags, h, ih]
theorem leaves_encs (t : Nat) : ∀ ss : List ByteArray, (∀ s ∈ ss, s.size ≤ 60) → (encs (leaves t ss)).length = lenSum ss
  | [], _ => by simp [leaves, encs, lenSum]
  | s :: ss, h => by
    have ih := leaves_encs t ss (fun x hx => h x (by simp [hx]))
    have hs := h s (by simp)
    rw [leaves] at ih
    have h1 := enc_len (.mk t s [])
    have h2 : bodyLen (.mk t s []) = s.size := by simp [bodyLen, encs]
    have h3 : more s.size = 0 := by unfold more; rw [if_pos (by omega)]
    rw [h2, h3] at h1
    simp only [leaves, List.map_cons, encs, List.length_append, lenSum, h1, ih]
theorem lenSum_le : ∀ ss : List ByteArray, (∀ s ∈ ss, s.size ≤ 60) → lenSum ss ≤ 62 * ss.length
  | [], _ => by simp [lenSum]
  | s :: ss, h => by
    have ih := lenSum_le ss (fun x hx => h x (by simp [hx]))
    have hs := h s (by simp)
    rw [lenSum, List.length_cons]; omega
theorem rows_ok (t : Nat) (ss : List ByteArray) (ht : t ≤ 255) (h31 : t % 32 ≠ 31) (h32 : t / 32 % 2 = 0) (hl : (ss.length : Int) ≤ 12) (h60 : ∀ s ∈ ss, s.size ≤ 60) :
    fitS 12 60 2 (.mk 49 ⟨#[]⟩ (leaves t ss)) = true ∧ errV (.mk 49 ⟨#[]⟩ (leaves t ss)) = 0 ∧ bodyLen (.mk 49 ⟨#[]⟩ (leaves t ss)) = lenSum ss ∧
      wr (.mk 49 ⟨#[]⟩ (leaves t ss)) = (enc (.mk 49 ⟨#[]⟩ (leaves t ss)), 0) ∧ rd 20 (enc (.mk 49 ⟨#[]⟩ (leaves t ss))) 0 = .ok (.mk 49 ⟨#[]⟩ (leaves t ss)) (enc (.mk 49 ⟨#[]⟩ (leaves t ss))).length := by
  have h0 : (⟨#[]⟩ : ByteArray).size = 0 := rfl
  have hf : formed (.mk 49 ⟨#[]⟩ (leaves t ss)) = true := by simp [formed, h0, leaves_formeds h31 h32]
  have hd : dep (.mk 49 ⟨#[]⟩ (leaves t ss)) ≤ 2 := by have := leaves_deps t ss; rw [dep]; omega
  have hb : bodyLen (.mk 49 ⟨#[]⟩ (leaves t ss)) = lenSum ss := by rw [bodyLen, leaves_encs t ss h60, h0]; omega
  have hle := lenSum_le ss h60
  have htg : tags (.mk 49 ⟨#[]⟩ (leaves t ss)) = true := by simp [tags, leaves_tagss ht]
  refine ⟨?_, ?_, hb, ?_, ?_⟩
  · simp only [fitS, h0, Bool.and_eq_true, decide_eq_true_eq, List.all_eq_true]
    refine ⟨by simp [leaves]; omega, by omega, fun e he => ?_⟩
    obtain ⟨s, hs, rfl⟩ := List.mem_map.1 he
    have := h60 s hs
    simp [fitS, this]
  · unfold errV; rw [if_neg (by simp [hf]), if_neg (by omega), if_neg (by omega)]
  · unfold wr; rw [if_neg (by simp [hf]), if_neg (by omega), if_neg (by omega)]
  · have := back_any _ hf htg (by omega) 20 (by omega) [] 0
    rwa [List.append_nil] at this

set_option maxHeartbeats 4000000 in
theorem rows_many (A : Option Addr) (c : Nat) (ss : List ByteArray) (tg : Int) (w : World) (hl : 12 < (ss.length : Int)) :
    Calls Try.prog 8 #[.slice A ss.length c, .int .u8 tg] w fun r w' => r = .returned (.bool true) ∧ Below w.heap.size w w' := by
  go_enter Try.func8, Try.ntmps8
  go_wp2_with fail
  refine (known_any _).mono ?_
  rintro r w1 ⟨rfl, hb1⟩
  go_wp2_with fail
  go_ret
  exact ⟨rfl, hb1⟩
set_option maxHeartbeats 4000000 in
theorem rows_few (A : Option Addr) (c : Nat) (ss : List ByteArray) (tg : Int) (w : World) (ht0 : 0 ≤ tg) (ht1 : tg ≤ 255) (hS : StrsAt w A ss) (hl : (ss.length : Int) ≤ 12) :
    Calls Try.prog 8 #[.slice A ss.length c, .int .u8 tg] w fun r w' => r = .returned (.bool true) ∧ Below w.heap.size w w' := by
  obtain ⟨i0, hi, hz0, hz1, hz2⟩ := info_parts infoEl
  obtain ⟨t, ht, ht255, ht31, ht32⟩ := tag_even tg ht0 ht1
  have HT := Lib.hid ht
  go_enter Try.func8, Try.ntmps8
  go_wp2_with fail
  refine (known_any _).mono ?_
  rintro r w1 ⟨rfl, hb1⟩
  have hs1 := hb1.size
  have E1 := Blk.new w1 25 #[.int .u8 49, .string ⟨#[]⟩, .slice none 0 0]
  have hbE := hb1.alloc hs1 (.cells #[.int .u8 49, .string ⟨#[]⟩, .slice none 0 0] 25)
  clear hb1
  go_wp2_with fail
  go_loopw [7, 8] (fun n i wr => ∃ (k : Nat) (m : Nat) (v : Value) (xs : List Value), k ≤ ss.length ∧ i = .int .i64 k ∧ n = .int .i64 m ∧ Hid (m = lenSum (ss.take k)) ∧ m ≤ 62 * k ∧
      Blk wr w1.heap.size 25 #[.int .u8 49, .string ⟨#[]⟩, v] ∧ Hid (Gath wr (w1.heap.size + 1) v xs (leaves t (ss.take k))) ∧ Hid (∀ s ∈ ss.take k, s.size ≤ 60) ∧ Below w.heap.size w wr ∧ w1.heap.size + 1 ≤ wr.heap.size) (fun n i wr => ss.length - (intOf i).toNat)
  case atStart =>
    exact ⟨0, 0, .slice none 0 0, [], Nat.zero_le _, rfl, rfl, rfl, by omega, E1, Gath.nil _ _, fun s hs => by simp at hs, hbE, by simp⟩
  case round =>
    obtain ⟨k, m, v, xs, hk, rfl, rfl, hm0, hm62, BE, hG, h60, hb, hsz⟩ := hrel
    have e2 : wr.cell? ⟨w1.heap.size, 2, none⟩ = some v := BE.cell 2
    by_cases hlt : k < ss.length
    · obtain ⟨ad, rfl, hp, f0⟩ := hS.kid hb hlt
      by_cases hlong : 60 < (ss[k].size : Int)
      · generalize ss[k] = sk at f0 hlong
        go_wp2_with fail
        go_ret
        exact ⟨rfl, hb⟩
      · have hl60 : (ss[k].size : Int) ≤ 60 := by omega
        obtain ⟨sk, hsk⟩ : ∃ sk, sk = ss[k] := ⟨_, rfl⟩
        rw [← hsk] at f0 hl60 hlong
        have HSK := Lib.hid hsk
        clear hsk
        have e2a : (wr.alloc (.cells #[.int .u8 t, .string sk, .slice none 0 0] 25)).cell? ⟨w1.heap.size, 2, none⟩ = some v := (BE.alloc _).cell 2
        have hTL : (leaves t (ss.take k)).length = k := by simp [leaves]; omega
        have hown := (hG.out.alloc (.cells #[.int .u8 t, .string sk, .slice none 0 0] 25)).1
        rw [hTL] at hown
        have hown := (show (wr.alloc (.cells #[.int .u8 t, .string sk, .slice none 0 0] 25)).drew.ownsRow (w1.heap.size + 1) 25 3 v k xs from hown)
        have hnews := three_new wr (.int .u8 t) (.string sk) (.slice none 0 0) 25 wr.heap.size rfl
        have hnews := (show ∀ (j : Nat) (u : Value), [.int .u8 t, .string sk, .slice none 0 0][j]? = some u → (wr.alloc (.cells #[.int .u8 t, .string sk, .slice none 0 0] 25)).drew.cell? ((⟨wr.heap.size, 0, none⟩ : Addr).add j) = some u from hnews)
        have hone : ∀ u ∈ [Value.int .u8 t, .string sk, .slice none 0 0], u.oneCell' = true := by
          intro u hu; simp at hu; rcases hu with rfl | rfl | rfl <;> rfl
        have h63 : k + 1 ≤ maxLen := by unfold maxLen; omega
        have hby : (k + 1) * 48 ≤ 140737488355328 := by omega
        have hbase : w1.heap.size + 1 ≤ (wr.alloc (.cells #[.int .u8 t, .string sk, .slice none 0 0] 25)).drew.heap.size := by show _ ≤ (wr.alloc (.cells #[.int .u8 t, .string sk, .slice none 0 0] 25)).heap.size; simp; omega
        have hH : (wr.alloc (.cells #[.int .u8 t, .string sk, .slice none 0 0] 25)).drew.heap.size = wr.heap.size + 1 := by show (wr.alloc (.cells #[.int .u8 t, .string sk, .slice none 0 0] 25)).heap.size = _; simp
        have hne1 : ∀ q, v.ownBlock = some q → w1.heap.size + 1 ≤ q := fun q hq => (hG.out.1.lt _ hq).1
        have BA : Blk (wr.alloc (.cells #[.int .u8 t, .string sk, .slice none 0 0] 25)).drew w1.heap.size 25 #[.int .u8 49, .string ⟨#[]⟩, v] := BE.alloc _
        have Hown := Lib.hid hown
        have Hnews := Lib.hid hnews
        have Hone := Lib.hid hone
        clear hown hnews hone
        go_wp2_with fail
        go_region_law (refine step_append_lies _ rfl (.tmp 39) (.tmp 46) 23 rfl (w1.heap.size + 1) 25 i0 (.agg #[.int .u8 0, .string ⟨#[]⟩, .slice none 0 0]) 3 48 Try.underlying23 hi hz0 hz1 hz2 rfl (by decide) v k xs (by simp [Act.eval]) Hown.out ⟨wr.heap.size, 0, none⟩ 1 1 [.int .u8 t, .string sk, .slice none 0 0] (by simp [Act.eval]) rfl Hnews.out Hone.out (by decide) h63 hby hbase (wr.heap.size + 1) hH ?_; intro g3 cap3 w3 hown3 hg3 hat3 hlt3; have BE4 := BA.grown hg3 (fun e => Nat.lt_irrefl _ (hne1 _ e.symm)); have k2 : w3.cell? ⟨w1.heap.size, 2, none⟩ = some v := BE4.cell 2; have kf := BE4.frozen 2)
        all_goals (
          have hb4 := ((hb.alloc (by omega) (.cells #[.int .u8 t, .string sk, .slice none 0 0] 25)).drew).grown hg3 (by rw [hH]; omega) (fun q hq => by have := hne1 _ hq; omega)
          have hb5 := hb4.setCell (p := ⟨w1.heap.size, 2, none⟩) hs1 (.slice (some ⟨g3, 0, none⟩) (k + 1) cap3)
          have f5 := hS.at_ hb5 hlt
          rw [← HSK.out] at f5
          have hl4 : Lies (wr.alloc (.cells #[.int .u8 t, .string sk, .slice none 0 0] 25)).drew (fun b => w1.heap.size + 1 ≤ b ∧ b < (wr.alloc (.cells #[.int .u8 t, .string sk, .slice none 0 0] 25)).drew.heap.size ∧ v.ownBlock ≠ some b) (.mk t sk []) [.int .u8 t, .string sk, .slice none 0 0] := Lies.leaf ht255 (by unfold maxLen; omega)
          have hG0 := (hG.out.alloc (.cells #[.int .u8 t, .string sk, .slice none 0 0] 25)).drew
          have hG4 := Gath.step hG0 hl4 (by rw [hTL]; exact hown3) hg3 (by rw [hH]; exact hat3.elim (fun h => Or.inl h.symm) (fun h => Or.inr (congrArg some h)))
          have HG5 := Lib.hid (hG4.set_ (p := ⟨w1.heap.size, 2, none⟩) (by show w1.heap.size < w1.heap.size + 1; omega) (.slice (some ⟨g3, 0, none⟩) (k + 1) cap3))
          have BE5 := BE4.set_ 2 (.slice (some ⟨g3, 0, none⟩) (k + 1) cap3)
          have hs5 : w1.heap.size + 1 ≤ (w3.setCell ⟨w1.heap.size, 2, none⟩ (.slice (some ⟨g3, 0, none⟩) (k + 1) cap3)).heap.size := by have := hg3.size; rw [hH] at this; simp [World.setCell]; omega
          clear hG4 hG0 hl4 hown3 hat3 hb4 k2 kf BE4 hg3 e2 e2a BA
          go_wp2_with fail
          go_roundw
          case rel =>
            refine ⟨k + 1, m + 2 + sk.size, _, xs ++ [.int .u8 t, .string sk, .slice none 0 0], by omega, by go_num, by go_num, ?_, by omega, BE5, ?_, ?_, hb5, hs5⟩
            · show _ = _
              rw [lenSum_take hlt, ← hm0.out, ← HSK.out]; omega
            · show Gath _ _ _ _ _
              rw [leaves_take hlt, ← HSK.out]; exact HG5.out
            · intro x hx
              rw [List.take_succ_eq_append_getElem hlt, ← HSK.out] at hx
              rcases List.mem_append.1 hx with hx | hx
              · exact h60.out x hx
              · simp at hx; rw [hx]; omega
          case measure => simp [intOf]; omega)
    · have hke : k = ss.length := by omega
      subst hke
      rw [List.take_length] at hm0 hG h60
      have hml : m ≤ 744 := by omega
      have hE := rows_ok t ss ht255 ht31 ht32 hl h60.out
      rw [← hm0.out] at hE
      obtain ⟨hF, hErr, hbl, hwr, hrd⟩ := hE
      obtain ⟨A', c', ds, hv, hK⟩ := hG.out.shut
      have hll : (leaves t ss).length = ss.length := by simp [leaves]
      rw [hll] at hv
      subst hv
      have L0 : Lies wr (· < wr.heap.size) (.mk 49 ⟨#[]⟩ (leaves t ss)) [.int .u8 49, .string ⟨#[]⟩, .slice A' ss.length c'] := by
        have := Lies.shut (w := wr) (P := (· < wr.heap.size)) (t := 49) (b := ⟨#[]⟩) (c := c') (by decide) (by decide) (by rw [hll]; unfold maxLen; omega) (hK.imp (fun b hb => by omega) (fun _ _ => rfl))
        rw [hll] at this
        exact this
      generalize hEE : El.mk 49 ⟨#[]⟩ (leaves t ss) = EE at *
      obtain ⟨S, hSd⟩ : ∃ S : ByteArray, S = ⟨(enc EE).toArray⟩ := ⟨_, rfl⟩
      have hSs : S.size = m + 2 + more m := by
        have := enc_len EE
        rw [hbl] at this
        rw [hSd]
        show (enc EE).toArray.size = _
        simp; omega
      have CW : Hid (∀ w, Lies w (· < w.heap.size) EE [.int .u8 49, .string ⟨#[]⟩, .slice A' ss.length c'] → Calls Try.prog 20 #[.agg #[.int .u8 49, .string ⟨#[]⟩, .slice A' ss.length c']] w fun r w' => r = .returned (.tuple #[.string S, .int .i64 0]) ∧ Below w.heap.size w w') := fun w h => by
        refine (Write_any 12 60 2 EE _ _ _ w (by omega) (by omega) hF h).mono ?_
        rintro r w' ⟨rfl, hb⟩
        exact ⟨by unfold wrV; rw [hwr, hSd]; rfl, hb⟩
      have CR : Hid (∀ w, Calls Try.prog 14 #[.string S] w (ReadPost 0 w (.ok EE S.size))) := fun w => by
        have h1 := Read_any S w (by have := more_le m; omega)
        have h2 : S.data.toList = enc EE := by rw [hSd]
        have h3 : S.size = (enc EE).length := by rw [hSd]; rfl
        rw [h2, hrd, ← h3] at h1
        exact h1
      have b0 : wr.cell? ⟨w1.heap.size, 0, none⟩ = some (.int .u8 49) := BE.cell 0
      have b1 : wr.cell? ⟨w1.heap.size, 1, none⟩ = some (.string ⟨#[]⟩) := BE.cell 1
      have b2 : wr.cell? ⟨w1.heap.size, 2, none⟩ = some (.slice A' ss.length c') := BE.cell 2
      have hEE2 := Lib.hid hEE
      have H60 := Lib.hid h60.out
      have hS2 : (S.size : Int) = m + 2 + more m := by omega
      have hcase : ((m : Int) < 128 ∧ (S.size : Int) = m + 2) ∨ ((128 : Int) ≤ m ∧ (m : Int) < 256 ∧ (S.size : Int) = m + 3) ∨ ((256 : Int) ≤ m ∧ (S.size : Int) = m + 4) := by
        rw [hS2]; unfold more
        by_cases q1 : m < 128
        · left; rw [if_pos q1]; omega
        · by_cases q2 : m < 256
          · right; left; rw [if_neg q1, if_pos q2]; omega
          · right; right; rw [if_neg q1, if_neg q2]; omega
      clear hSd hSs hS2 hF hErr hbl hwr hrd hEE h60 hG hK
      have hbw := hb
      have hszw : w.heap.size ≤ wr.heap.size := hb.size
      rcases hcase with ⟨q1, q2⟩ | ⟨q1, q2, q3⟩ | ⟨q1, q2⟩
      · go_wp2_with fail
        refine (CW.out _ L0).mono ?_
        rintro r w3 ⟨rfl, hb3⟩
        go_wp2_with fail
        refine (CR.out _).mono ?_
        rintro r w4 ⟨x, y, z, rfl, hb4, hl4⟩
        rw [← hEE2.out] at hl4
        obtain ⟨A4, c4, ds4, hx, _, _, _, hK4⟩ := hl4.open_
        rw [hll] at hx
        simp only [List.cons.injEq, and_true] at hx
        obtain ⟨rfl, rfl, rfl⟩ := hx
        have s3 : wr.heap.size ≤ w3.heap.size := hb3.size
        have s4 : w3.heap.size ≤ w4.heap.size := hb4.size
        have h7 := (hbw.trans (hb3.mono hszw)).trans (hb4.mono (by omega))
        have hK4' := hK4.imp (P' := (· < w4.heap.size)) (fun b h => h.2) (fun _ _ => rfl)
        have F4 := Blk.new w4 25 #[.int .u8 49, .string ⟨#[]⟩, .slice A4 ss.length c4]
        have h8 := h7.alloc (by omega) (.cells #[.int .u8 49, .string ⟨#[]⟩, .slice A4 ss.length c4] 25)
        have h9 := (Below.refl w4.heap.size w4).alloc (Nat.le_refl _) (.cells #[.int .u8 49, .string ⟨#[]⟩, .slice A4 ss.length c4] 25)
        clear hb3 hb4 h7 hl4 hK4 b0 b1 b2 L0 CW CR hbw hb
        have e1 : ((S.size : Int) != (m : Int) + 2) = false := by rw [bne_eq_false_iff_eq]; omega
        have e2 : ((ss.length : Int) != (ss.length : Int)) = false := by simp
        go_wp2_with fail
        go_loopw [16] (fun i wz => ∃ k : Nat, k ≤ ss.length ∧ i = .int .i64 k ∧ Blk wz w4.heap.size 25 #[.int .u8 49, .string ⟨#[]⟩, .slice A4 ss.length c4] ∧ Below w.heap.size w wz ∧ Below w4.heap.size w4 wz) (fun i wz => ss.length - (intOf i).toNat)
        case atStart => exact ⟨0, Nat.zero_le _, rfl, F4, h8, h9⟩
        case round =>
          obtain ⟨k, hk, rfl, F, g8, g9⟩ := hrel
          have p2 : wr.cell? ⟨w4.heap.size, 2, none⟩ = some (.slice A4 ss.length c4) := F.cell 2
          by_cases hlt : k < ss.length
          · obtain ⟨ad, rfl, hp, u0⟩ := hS.kid g8 hlt
            obtain ⟨ad4, x, y, z, rfl, hp4, f0, f1, f2, hLk⟩ := hK4'.kid g9 (i := k) (by rw [hll]; exact hlt)
            have hek : (leaves t ss)[k]'(by rw [hll]; exact hlt) = .mk t ss[k] [] := by simp [leaves]
            rw [hek] at hLk
            obtain ⟨A5, c5, ds5, hx, _, _, _, _⟩ := hLk.open_
            simp only [List.cons.injEq, and_true] at hx
            obtain ⟨rfl, rfl, rfl⟩ := hx
            clear hLk hek
            generalize ss[k] = sk at u0 f1
            go_wp2_with fail
            go_region
            all_goals (go_wp2_with fail)
            go_roundw
            case rel => exact ⟨k + 1, by omega, by go_num, F.drew, g8.drew, g9.drew⟩
            case measure => simp [intOf]; omega
          · go_wp2_with fail
            go_ret
            exact ⟨rfl, g8⟩
      · go_wp2_with fail
        refine (CW.out _ L0).mono ?_
        rintro r w3 ⟨rfl, hb3⟩
        go_wp2_with fail
        refine (CR.out _).mono ?_
        rintro r w4 ⟨x, y, z, rfl, hb4, hl4⟩
        rw [← hEE2.out] at hl4
        obtain ⟨A4, c4, ds4, hx, _, _, _, hK4⟩ := hl4.open_
        rw [hll] at hx
        simp only [List.cons.injEq, and_true] at hx
        obtain ⟨rfl, rfl, rfl⟩ := hx
        have s3 : wr.heap.size ≤ w3.heap.size := hb3.size
        have s4 : w3.heap.size ≤ w4.heap.size := hb4.size
        have h7 := (hbw.trans (hb3.mono hszw)).trans (hb4.mono (by omega))
        have hK4' := hK4.imp (P' := (· < w4.heap.size)) (fun b h => h.2) (fun _ _ => rfl)
        have F4 := Blk.new w4 25 #[.int .u8 49, .string ⟨#[]⟩, .slice A4 ss.length c4]
        have h8 := h7.alloc (by omega) (.cells #[.int .u8 49, .string ⟨#[]⟩, .slice A4 ss.length c4] 25)
        have h9 := (Below.refl w4.heap.size w4).alloc (Nat.le_refl _) (.cells #[.int .u8 49, .string ⟨#[]⟩, .slice A4 ss.length c4] 25)
        clear hb3 hb4 h7 hl4 hK4 b0 b1 b2 L0 CW CR hbw hb
        have e1 : ((S.size : Int) != (m : Int) + 3) = false := by rw [bne_eq_false_iff_eq]; omega
        have e2 : ((ss.length : Int) != (ss.length : Int)) = false := by simp
        go_wp2_with fail
        go_loopw [16] (fun i wz => ∃ k : Nat, k ≤ ss.length ∧ i = .int .i64 k ∧ Blk wz w4.heap.size 25 #[.int .u8 49, .string ⟨#[]⟩, .slice A4 ss.length c4] ∧ Below w.heap.size w wz ∧ Below w4.heap.size w4 wz) (fun i wz => ss.length - (intOf i).toNat)
        case atStart => exact ⟨0, Nat.zero_le _, rfl, F4, h8, h9⟩
        case round =>
          obtain ⟨k, hk, rfl, F, g8, g9⟩ := hrel
          have p2 : wr.cell? ⟨w4.heap.size, 2, none⟩ = some (.slice A4 ss.length c4) := F.cell 2
          by_cases hlt : k < ss.length
          · obtain ⟨ad, rfl, hp, u0⟩ := hS.kid g8 hlt
            obtain ⟨ad4, x, y, z, rfl, hp4, f0, f1, f2, hLk⟩ := hK4'.kid g9 (i := k) (by rw [hll]; exact hlt)
            have hek : (leaves t ss)[k]'(by rw [hll]; exact hlt) = .mk t ss[k] [] := by simp [leaves]
            rw [hek] at hLk
            obtain ⟨A5, c5, ds5, hx, _, _, _, _⟩ := hLk.open_
            simp only [List.cons.injEq, and_true] at hx
            obtain ⟨rfl, rfl, rfl⟩ := hx
            clear hLk hek
            generalize ss[k] = sk at u0 f1
            go_wp2_with fail
            go_region
            all_goals (go_wp2_with fail)
            go_roundw
            case rel => exact ⟨k + 1, by omega, by go_num, F.drew, g8.drew, g9.drew⟩
            case measure => simp [intOf]; omega
          · go_wp2_with fail
            go_ret
            exact ⟨rfl, g8⟩
      · go_wp2_with fail
        refine (CW.out _ L0).mono ?_
        rintro r w3 ⟨rfl, hb3⟩
        go_wp2_with fail
        refine (CR.out _).mono ?_
        rintro r w4 ⟨x, y, z, rfl, hb4, hl4⟩
        rw [← hEE2.out] at hl4
        obtain ⟨A4, c4, ds4, hx, _, _, _, hK4⟩ := hl4.open_
        rw [hll] at hx
        simp only [List.cons.injEq, and_true] at hx
        obtain ⟨rfl, rfl, rfl⟩ := hx
        have s3 : wr.heap.size ≤ w3.heap.size := hb3.size
        have s4 : w3.heap.size ≤ w4.heap.size := hb4.size
        have h7 := (hbw.trans (hb3.mono hszw)).trans (hb4.mono (by omega))
        have hK4' := hK4.imp (P' := (· < w4.heap.size)) (fun b h => h.2) (fun _ _ => rfl)
        have F4 := Blk.new w4 25 #[.int .u8 49, .string ⟨#[]⟩, .slice A4 ss.length c4]
        have h8 := h7.alloc (by omega) (.cells #[.int .u8 49, .string ⟨#[]⟩, .slice A4 ss.length c4] 25)
        have h9 := (Below.refl w4.heap.size w4).alloc (Nat.le_refl _) (.cells #[.int .u8 49, .string ⟨#[]⟩, .slice A4 ss.length c4] 25)
        clear hb3 hb4 h7 hl4 hK4 b0 b1 b2 L0 CW CR hbw hb
        have e1 : ((S.size : Int) != (m : Int) + 4) = false := by rw [bne_eq_false_iff_eq]; omega
        have e2 : ((ss.length : Int) != (ss.length : Int)) = false := by simp
        go_wp2_with fail
        go_loopw [16] (fun i wz => ∃ k : Nat, k ≤ ss.length ∧ i = .int .i64 k ∧ Blk wz w4.heap.size 25 #[.int .u8 49, .string ⟨#[]⟩, .slice A4 ss.length c4] ∧ Below w.heap.size w wz ∧ Below w4.heap.size w4 wz) (fun i wz => ss.length - (intOf i).toNat)
        case atStart => exact ⟨0, Nat.zero_le _, rfl, F4, h8, h9⟩
        case round =>
          obtain ⟨k, hk, rfl, F, g8, g9⟩ := hrel
          have p2 : wr.cell? ⟨w4.heap.size, 2, none⟩ = some (.slice A4 ss.length c4) := F.cell 2
          by_cases hlt : k < ss.length
          · obtain ⟨ad, rfl, hp, u0⟩ := hS.kid g8 hlt
            obtain ⟨ad4, x, y, z, rfl, hp4, f0, f1, f2, hLk⟩ := hK4'.kid g9 (i := k) (by rw [hll]; exact hlt)
            have hek : (leaves t ss)[k]'(by rw [hll]; exact hlt) = .mk t ss[k] [] := by simp [leaves]
            rw [hek] at hLk
            obtain ⟨A5, c5, ds5, hx, _, _, _, _⟩ := hLk.open_
            simp only [List.cons.injEq, and_true] at hx
            obtain ⟨rfl, rfl, rfl⟩ := hx
            clear hLk hek
            generalize ss[k] = sk at u0 f1
            go_wp2_with fail
            go_region
            all_goals (go_wp2_with fail)
            go_roundw
            case rel => exact ⟨k + 1, by omega, by go_num, F.drew, g8.drew, g9.drew⟩
            case measure => simp [intOf]; omega
          · go_wp2_with fail
            go_ret
            exact ⟨rfl, g8⟩
end Go.Proofs.Ytapkoiamjgdifaa
