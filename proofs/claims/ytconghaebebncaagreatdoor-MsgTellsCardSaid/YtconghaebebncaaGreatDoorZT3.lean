import Derived.Test.YtconghaebebncaaGreatDoorZT2
import Derived.Deep.LoopGhost
import Derived.Test.YtconghaebebncaaGreatDoorProg
import Derived.ProofKit
import Derived.Deep.Strs
import Derived.Lib.SmallJoins
namespace Go.Proofs.YtconghaebebncaaGreatDoor
open Go.RowKit
set_option linter.unusedVariables false
set_option maxRecDepth 100000
def tyR : Bool → List UInt8 → Bool
 | _, [] => true
 | f, c :: r => (if f then Nm.smallC c else Nm.typeC c) && tyR false r
theorem tyR_all (l : List UInt8) : tyR false l = l.all Nm.typeC := by
 induction l with
 | nil => rfl
 | cons c r ih => simp [tyR, ih]
theorem isType_tyR (l : List UInt8) : Nm.isType l = (decide (l.length ≤ 16) && (!l.isEmpty && tyR true l)) := by
 unfold Nm.isType
 cases l with
 | nil => rfl
 | cons c r => simp [tyR, tyR_all]
theorem size_eq (s : ByteArray) : s.data.toList.length = s.size := rfl
theorem drop_at {s : ByteArray} {k : Nat} (h : k < s.size) : s.data.toList.drop k = s[k] :: s.data.toList.drop (k + 1) := List.drop_eq_getElem_cons (show k < s.data.toList.length from h)
theorem isE (s : ByteArray) : s.toList.isEmpty = decide (s.size = 0) := by
 rw [Bool.eq_iff_iff]
 simp only [List.isEmpty_iff, decide_eq_true_eq]
 rw [ByteArray.toList_eq]
 constructor
 ·intro h; rw [← size_eq, h]; rfl
 ·intro h; exact List.eq_nil_of_length_eq_zero h
theorem nil_of (s : ByteArray) (h : s.size = 0) : s.toList = [] := by
 have := isE s
 simpa [h] using this
theorem nilD_of (s : ByteArray) (h : s.size = 0) : s.data.toList = [] := List.eq_nil_of_length_eq_zero h
theorem isE_of (s : ByteArray) (h : 0 < s.size) : s.toList.isEmpty = false := by
 rw [isE]
 simp only [decide_eq_false_iff_not]; omega
theorem tyC_not (k : Nat) (c : UInt8) (h : ¬ (97 ≤ c.toNat ∧ c.toNat ≤ 122 ∨ k ≠ 0 ∧ (48 ≤ c.toNat ∧ c.toNat ≤ 57 ∨ c.toNat = 45))) : (if decide (k = 0) = true then Nm.smallC c else Nm.typeC c) = false := by
 unfold Nm.smallC Nm.typeC
 split
 ·simp_all
 ·have : k ≠ 0 := by simpa using ‹¬ decide (k = 0) = true›
  rw [decide_eq_false_iff_not]
  omega
theorem tyC_is (k : Nat) (c : UInt8) (h : 97 ≤ c.toNat ∧ c.toNat ≤ 122 ∨ k ≠ 0 ∧ (48 ≤ c.toNat ∧ c.toNat ≤ 57 ∨ c.toNat = 45)) : (if decide (k = 0) = true then Nm.smallC c else Nm.typeC c) = true := by
 unfold Nm.smallC Nm.typeC
 split
 ·have : k = 0 := by simpa using ‹decide (k = 0) = true›
  rw [decide_eq_true_eq]
  omega
 ·rw [decide_eq_true_eq]
  omega
theorem isED_of (s : ByteArray) (h : 0 < s.size) : s.data.toList.isEmpty = false := by
 have := isE_of s h
 simpa [ByteArray.toList_eq] using this
set_option maxHeartbeats 400000 in
theorem isType_any (s : ByteArray) (w : World) :
  Calls Tryz.prog 120 #[.string s] w fun e w' => e = .returned (.bool (Nm.isType s.data.toList)) ∧ w = w' := by
 have hT := Lib.hid (isType_tyR s.data.toList)
 by_cases h0 : s.size = 0
 ·have h1 := nil_of s h0
  have h2 := Lib.hid (nilD_of s h0)
  clear h0
  go_enter Tryz.func120, Tryz.ntmps120
  go_wp2_with fail
  go_ret
  refine ⟨ret_bool ?_, rfl⟩
  rw [hT.out, h2.out]; rfl
 have h1 := isE_of s (by omega)
 have h3 := Lib.hid (isED_of s (by omega))
 by_cases h2 : 16 < (s.size : Int)
 ·clear h0
  go_enter Tryz.func120, Tryz.ntmps120
  go_wp2_with fail
  go_ret
  refine ⟨ret_bool ?_, rfl⟩
  rw [hT.out, size_eq, decide_eq_false (by omega)]; rfl
 have h2' : (s.size : Int) ≤ 16 := by omega
 have hR := Lib.hid (show Nm.isType s.data.toList = tyR (decide (0 = 0)) (s.data.toList.drop 0) by
  rw [hT.out, h3.out, size_eq, decide_eq_true (by omega)]; rfl)
 clear hT h0 h2 h3
 go_enter Tryz.func120, Tryz.ntmps120
 go_wp2_with fail
 go_loopw [14] (fun i wr => ∃ k : Nat, k ≤ s.size ∧ i = .int .i64 k ∧ Hid (Nm.isType s.data.toList = tyR (decide (k = 0)) (s.data.toList.drop k)) ∧ w = wr) (fun i wr => s.size - (intOf i).toNat)
 case atStart => exact ⟨0, Nat.zero_le _, rfl, hR, rfl⟩
 case round =>
  obtain ⟨k, hk, rfl, hE, rfl⟩ := hrel
  by_cases hlt : k < s.size
  ·have hD := hE.out
   rw [drop_at hlt, tyR] at hD
   have HD := Lib.hid hD
   have hc := u8_lt s[k]
   clear hE hD hR
   go_wp2_with fail
   all_goals first
    |(go_ret
      refine ⟨ret_bool ?_, rfl⟩
      rw [HD.out]
      clear HD
      simp only [beq_iff_eq, beq_eq_false_iff_ne, ne_eq] at *
      rw [tyC_not _ _ (by omega)]
      rfl)
    |(refine ⟨⟨k + 1, by omega, by go_num, ?_, trivial⟩, by simp [intOf]; omega⟩
      show _ = _
      rw [HD.out]
      clear HD
      simp only [beq_iff_eq, beq_eq_false_iff_ne, ne_eq] at *
      rw [tyC_is _ _ (by omega)]
      rfl)
  ·go_wp2_with fail
   go_ret
   refine ⟨ret_bool ?_, rfl⟩
   have : k = s.size := by omega
   rw [hE.out, this, ← size_eq, List.drop_length]
   rfl
theorem isType_all (s : ByteArray) (h : 0 < s.size) : Nm.isType s.data.toList = (decide (s.size ≤ 16) && (Nm.smallC s[0] && s.data.toList.all Nm.typeC)) := by
 have h1 := drop_at (s := s) (k := 0) h
 rw [List.drop_zero] at h1
 have h2 : Nm.smallC s[0] = (Nm.smallC s[0] && Nm.typeC s[0]) := by
  unfold Nm.smallC Nm.typeC
  rw [Bool.eq_iff_iff]
  simp only [Bool.and_eq_true, decide_eq_true_eq]
  omega
 rw [isType_tyR, size_eq, h1]
 simp only [tyR, List.isEmpty_cons, Bool.not_false, Bool.true_and, if_true, List.all_cons, ← Bool.and_assoc]
 rw [tyR_all]
 rw [Bool.and_assoc (decide (s.size ≤ 16)) (Nm.smallC s[0]) (Nm.typeC s[0]), ← h2]
set_option maxHeartbeats 400000 in
theorem rIsType_any (s : ByteArray) (w : World) :
  Calls Tryz.prog 88 #[.string s] w fun e w' => e = .returned (.bool (Nm.isType s.data.toList)) ∧ w = w' := by
 by_cases h0 : s.size = 0
 ·have h2 := Lib.hid (show Nm.isType s.data.toList = false by rw [nilD_of s h0]; rfl)
  have h0' : (s.size : Int) < 1 := by omega
  clear h0
  go_enter Tryz.func88, Tryz.ntmps88
  go_wp2_with fail
  go_ret
  refine ⟨ret_bool ?_, rfl⟩
  rw [h2.out]
 have hT := isType_all s (by omega)
 by_cases h2 : 16 < (s.size : Int)
 ·have h3 := Lib.hid (show Nm.isType s.data.toList = false by rw [hT, decide_eq_false (by omega)]; rfl)
  have h0' : 1 ≤ (s.size : Int) := by omega
  clear h0 hT
  go_enter Tryz.func88, Tryz.ntmps88
  go_wp2_with fail
  go_ret
  refine ⟨ret_bool ?_, rfl⟩
  rw [h3.out]
 have h2' : (s.size : Int) ≤ 16 := by omega
 have h0' : 1 ≤ (s.size : Int) := by omega
 have h0s : 0 < s.size := by omega
 rw [decide_eq_true (by omega), Bool.true_and] at hT
 have hc := u8_lt s[0]
 by_cases h4 : Nm.smallC s[0] = false
 ·have h3 := Lib.hid (show Nm.isType s.data.toList = false by rw [hT, h4]; rfl)
  have h5 : (s[0].toNat : Int) < 97 ∨ 97 ≤ (s[0].toNat : Int) ∧ 122 < (s[0].toNat : Int) := by unfold Nm.smallC at h4; rw [decide_eq_false_iff_not] at h4; omega
  clear h0 hT h2 h4
  rcases h5 with h5 | ⟨h5, h6⟩
  all_goals
   go_enter Tryz.func88, Tryz.ntmps88
   go_wp2_with fail
   go_ret
   refine ⟨ret_bool ?_, rfl⟩
   rw [h3.out]
 ·have h4' : Nm.smallC s[0] = true := by simpa using h4
  have h5 : 97 ≤ (s[0].toNat : Int) ∧ (s[0].toNat : Int) ≤ 122 := by unfold Nm.smallC at h4'; rw [decide_eq_true_eq] at h4'; omega
  obtain ⟨h5, h6⟩ := h5
  rw [h4', Bool.true_and] at hT
  have hR := Lib.hid (show Nm.isType s.data.toList = (s.data.toList.drop 0).all Nm.typeC from hT)
  clear h0 hT h2 h4 h4'
  go_enter Tryz.func88, Tryz.ntmps88
  go_wp2_with fail
  go_loopw [3] (fun i wr => ∃ k : Nat, k ≤ s.size ∧ i = .int .i64 k ∧ Hid (Nm.isType s.data.toList = (s.data.toList.drop k).all Nm.typeC) ∧ w = wr) (fun i wr => s.size - (intOf i).toNat)
  case atStart => exact ⟨0, Nat.zero_le _, rfl, hR, rfl⟩
  case round =>
   obtain ⟨k, hk, rfl, hE, rfl⟩ := hrel
   by_cases hlt : k < s.size
   ·have hD := hE.out
    rw [drop_at hlt, List.all_cons] at hD
    have HD := Lib.hid hD
    have hc := u8_lt s[k]
    clear hE hD hR
    go_wp2_with fail
    all_goals first
     |(go_ret
       refine ⟨ret_bool ?_, rfl⟩
       rw [HD.out]
       clear HD
       simp only [bne_iff_ne, ne_eq] at *
       rw [show Nm.typeC s[k] = false by unfold Nm.typeC; rw [decide_eq_false_iff_not]; omega]
       rfl)
     |(refine ⟨⟨k + 1, by omega, by go_num, ?_, trivial⟩, by simp [intOf]; omega⟩
       show _ = _
       rw [HD.out]
       clear HD
       try simp only [bne_eq_false_iff_eq] at *
       rw [show Nm.typeC s[k] = true by unfold Nm.typeC; rw [decide_eq_true_eq]; omega]
       rfl)
   ·go_wp2_with fail
    go_ret
    refine ⟨ret_bool ?_, rfl⟩
    have : k = s.size := by omega
    rw [hE.out, this, ← size_eq, List.drop_length]
    rfl
end Go.Proofs.YtconghaebebncaaGreatDoor
namespace Go.Proofs.YtconghaebebncaaGreatDoor
open Go.RowKit
set_option linter.unusedVariables false
set_option maxRecDepth 100000
end Go.Proofs.YtconghaebebncaaGreatDoor
namespace Go.Proofs.YtconghaebebncaaGreatDoor.Fi
open Go.RowKit
set_option linter.unusedVariables false
set_option maxRecDepth 100000
def StrsAt (w : World) (P : Nat → Prop) (A : Option Addr) (ss : List ByteArray) : Prop :=
 0 < ss.length → ∃ ad, A = some ad ∧ P ad.block ∧ ∀ i (h : i < ss.length), w.cell? (ad.add i) = some (.string ss[i])
theorem StrsAt.imp {w w' : World} {P P' : Nat → Prop} {A : Option Addr} {ss : List ByteArray} (h : StrsAt w P A ss) (hP : ∀ b, P b → P' b) (hw : ∀ p : Addr, P p.block → w'.cell? p = w.cell? p) : StrsAt w' P' A ss := by
 intro h0
 obtain ⟨ad, e, hp, hc⟩ := h h0
 exact ⟨ad, e, hP _ hp, fun i hi => (hw _ (by rw [block_of_add]; exact hp)).trans (hc i hi)⟩
theorem StrsAt.nil (w : World) (P : Nat → Prop) (A : Option Addr) : StrsAt w P A [] := fun h => absurd h (by simp)
theorem StrsAt.past {w w' : World} {A : Option Addr} {ss : List ByteArray} (h : StrsAt w (· < w.heap.size) A ss) (hb : Below w.heap.size w w') : StrsAt w' (· < w'.heap.size) A ss :=
 h.imp (fun _ h => Nat.lt_of_lt_of_le h hb.size) (fun p hp => hb.cell hp)
inductive Lies (w : World) (P : Nat → Prop) : Fil → List Value → Prop
 | mk (k : Int) (a v : ByteArray) (ss : List ByteArray) (ks : List Fil) (S : Option Addr) (sc : Nat) (A : Option Addr) (c : Nat) (cs : Nat → List Value)
   (ha : a.size ≤ maxLen) (hv : v.size ≤ maxLen) (hsl : ss.length ≤ maxLen) (hsc : ss.length ≤ sc) (hs : StrsAt w P S ss) (hss : ∀ s ∈ ss, s.size ≤ maxLen)
   (hl : ks.length ≤ maxLen) (hcl : ks.length ≤ c) (h5 : ∀ i, i < ks.length → (cs i).length = 5)
   (hA : 0 < ks.length → ∃ ad, A = some ad ∧ P ad.block ∧ ∀ i, i < ks.length → ∀ j u, (cs i)[j]? = some u → w.cell? (ad.add (i * 5 + j)) = some u)
   (hk : ∀ i (h : i < ks.length), Lies w P ks[i] (cs i)) :
   Lies w P (.mk k a v ss ks) [.int .i64 k, .string a, .string v, .slice S ss.length sc, .slice A ks.length c]
theorem Lies.imp {w w' : World} {P P' : Nat → Prop} {f : Fil} {cs : List Value} (h : Lies w P f cs) (hP : ∀ b, P b → P' b) (hw : ∀ p : Addr, P p.block → w'.cell? p = w.cell? p) : Lies w' P' f cs := by
 induction h with
 | mk k a v ss ks S sc A c cs ha hv hsl hsc hs hss hl hcl h5 hA hk ih =>
  refine .mk k a v ss ks S sc A c cs ha hv hsl hsc (hs.imp hP hw) hss hl hcl h5 (fun h0 => ?_) ih
  obtain ⟨ad, e, hp, hc⟩ := hA h0
  exact ⟨ad, e, hP _ hp, fun i hi j u hu => (hw _ (by rw [block_of_add]; exact hp)).trans (hc i hi j u hu)⟩
theorem Lies.kept {w w' : World} {B : Nat} {f : Fil} {cs : List Value} (h : Lies w (· < B) f cs) (hb : Below B w w') : Lies w' (· < B) f cs :=
 h.imp (fun _ h => h) (fun p hp => hb.cell hp)
theorem Lies.drew {w : World} {P : Nat → Prop} {f : Fil} {cs : List Value} (h : Lies w P f cs) : Lies w.drew P f cs := h.imp (fun _ h => h) (fun _ _ => rfl)
theorem Lies.past {w w' : World} {f : Fil} {cs : List Value} (h : Lies w (· < w.heap.size) f cs) (hb : Below w.heap.size w w') : Lies w' (· < w'.heap.size) f cs :=
 h.imp (fun _ h => Nat.lt_of_lt_of_le h hb.size) (fun p hp => hb.cell hp)
theorem Lies.alloc {w : World} {f : Fil} {cs : List Value} (h : Lies w (· < w.heap.size) f cs) (o : Obj) : Lies (w.alloc o) (· < (w.alloc o).heap.size) f cs := h.past ((Below.refl _ _).alloc (Nat.le_refl _) o)
def KidsAt (w : World) (P : Nat → Prop) (A : Option Addr) (ks : List Fil) (ds : Nat → List Value) : Prop :=
 (∀ i, i < ks.length → (ds i).length = 5) ∧
 (0 < ks.length → ∃ ad, A = some ad ∧ P ad.block ∧ ∀ i, i < ks.length → ∀ j u, (ds i)[j]? = some u → w.cell? (ad.add (i * 5 + j)) = some u) ∧
 ∀ i (h : i < ks.length), Lies w P ks[i] (ds i)
theorem KidsAt.imp {w w' : World} {P P' : Nat → Prop} {A : Option Addr} {ks : List Fil} {ds : Nat → List Value} (h : KidsAt w P A ks ds) (hP : ∀ b, P b → P' b) (hw : ∀ p : Addr, P p.block → w'.cell? p = w.cell? p) :
  KidsAt w' P' A ks ds := by
 refine ⟨h.1, fun h0 => ?_, fun i hi => (h.2.2 i hi).imp hP hw⟩
 obtain ⟨ad, e, hp, hc⟩ := h.2.1 h0
 exact ⟨ad, e, hP _ hp, fun i hi j u hu => (hw _ (by rw [block_of_add]; exact hp)).trans (hc i hi j u hu)⟩
theorem KidsAt.past {w w' : World} {A : Option Addr} {ks : List Fil} {ds : Nat → List Value} (h : KidsAt w (· < w.heap.size) A ks ds) (hb : Below w.heap.size w w') : KidsAt w' (· < w'.heap.size) A ks ds :=
 h.imp (fun _ h => Nat.lt_of_lt_of_le h hb.size) (fun p hp => hb.cell hp)
theorem KidsAt.nil (w : World) (P : Nat → Prop) (A : Option Addr) (ds : Nat → List Value) : KidsAt w P A [] ds :=
 ⟨fun i h => absurd h (by simp), fun h => absurd h (by simp), fun i h => absurd h (by simp)⟩
theorem Lies.open_ {w : World} {P : Nat → Prop} {k : Int} {a v : ByteArray} {ss : List ByteArray} {ks : List Fil} {cs : List Value} (h : Lies w P (.mk k a v ss ks) cs) :
  ∃ (S : Option Addr) (sc : Nat) (A : Option Addr) (c : Nat) (ds : Nat → List Value), cs = [.int .i64 k, .string a, .string v, .slice S ss.length sc, .slice A ks.length c] ∧ a.size ≤ maxLen ∧ v.size ≤ maxLen ∧ ss.length ≤ maxLen ∧ ss.length ≤ sc ∧ StrsAt w P S ss ∧ (∀ s ∈ ss, s.size ≤ maxLen) ∧
   ks.length ≤ maxLen ∧ ks.length ≤ c ∧ KidsAt w P A ks ds := by
 cases h with
 | mk k a v ss ks S sc A c cs ha hv hsl hsc hs hss hl hcl h5 hA hk => exact ⟨S, sc, A, c, cs, rfl, ha, hv, hsl, hsc, hs, hss, hl, hcl, h5, hA, hk⟩
theorem Lies.shut {w : World} {P : Nat → Prop} {k : Int} {a v : ByteArray} {ss : List ByteArray} {ks : List Fil} {S : Option Addr} {sc : Nat} {A : Option Addr} {c : Nat} {ds : Nat → List Value}
  (ha : a.size ≤ maxLen) (hv : v.size ≤ maxLen) (hsl : ss.length ≤ maxLen) (hsc : ss.length ≤ sc) (hs : StrsAt w P S ss) (hss : ∀ s ∈ ss, s.size ≤ maxLen) (hl : ks.length ≤ maxLen) (hcl : ks.length ≤ c) (h : KidsAt w P A ks ds) :
  Lies w P (.mk k a v ss ks) [.int .i64 k, .string a, .string v, .slice S ss.length sc, .slice A ks.length c] := .mk k a v ss ks S sc A c ds ha hv hsl hsc hs hss hl hcl h.1 h.2.1 h.2.2
theorem add_next (a : Addr) (n i : Nat) (hi : 0 < i) : a.add (n + i) = ⟨(a.add n).block, (a.add n).off + i, none⟩ := by
 rw [← add_of_add]
 show Addr.add _ i = _
 unfold Addr.add
 rw [if_neg (by omega)]
theorem Lies.form {w : World} {P : Nat → Prop} {f : Fil} {cs : List Value} (h : Lies w P f cs) : ∃ (k : Int) (a v : ByteArray) (S : Option Addr) (m d : Nat) (A : Option Addr) (n c : Nat), cs = [.int .i64 k, .string a, .string v, .slice S m d, .slice A n c] := by
 cases h with
 | mk k a v ss ks S sc A c cs ha hv hsl hsc hs hss hl hcl h5 hA hk => exact ⟨_, _, _, _, _, _, _, _, _, rfl⟩
theorem KidsAt.kid {w wr : World} {ks : List Fil} {A : Option Addr} {ds : Nat → List Value} (hK : KidsAt w (· < w.heap.size) A ks ds) (hb : Below w.heap.size w wr)
  {i : Nat} (h : i < ks.length) : ∃ (ad : Addr) (k : Int) (a v : ByteArray) (S : Option Addr) (m d : Nat) (A' : Option Addr) (n c : Nat), A = some ad ∧ ad.block < w.heap.size ∧ wr.cell? (ad.add (i * 5)) = some (.int .i64 k) ∧
   wr.cell? ⟨(ad.add (i * 5)).block, (ad.add (i * 5)).off + 1, none⟩ = some (.string a) ∧
   wr.cell? ⟨(ad.add (i * 5)).block, (ad.add (i * 5)).off + 2, none⟩ = some (.string v) ∧
   wr.cell? ⟨(ad.add (i * 5)).block, (ad.add (i * 5)).off + 3, none⟩ = some (.slice S m d) ∧
   wr.cell? ⟨(ad.add (i * 5)).block, (ad.add (i * 5)).off + 4, none⟩ = some (.slice A' n c) ∧ Lies wr (· < wr.heap.size) ks[i] [.int .i64 k, .string a, .string v, .slice S m d, .slice A' n c] := by
 obtain ⟨h5, hA, hk⟩ := hK
 obtain ⟨ad, e, hp, hc⟩ := hA (by omega)
 have hx := hk i h
 obtain ⟨k, a, v, S, m, d, A', n, c, hd⟩ := hx.form
 have hcc : ∀ j u, (ds i)[j]? = some u → wr.cell? (ad.add (i * 5 + j)) = some u := fun j u hu => (hb.cell (by rw [block_of_add]; exact hp)).trans (hc i h j u hu)
 rw [hd] at hcc hx
 have h0 := hcc 0 _ rfl
 have h1 := hcc 1 _ rfl
 have h2 := hcc 2 _ rfl
 have h3 := hcc 3 _ rfl
 have h4 := hcc 4 _ rfl
 rw [add_next _ _ _ (by omega)] at h1 h2 h3 h4
 exact ⟨ad, k, a, v, S, m, d, A', n, c, e, hp, h0, h1, h2, h3, h4, hx.past hb⟩
end Go.Proofs.YtconghaebebncaaGreatDoor.Fi
namespace Go.Proofs.YtconghaebebncaaGreatDoor.Fi
open Go.ChangeShapes Go.WideShapes Go.RowKit Go.Deep
set_option linter.unusedVariables false
set_option maxRecDepth 100000
theorem cellsF : Tryz.prog.cellsOf 25 = 5 := by kernel_rfl
theorem cellsI : Tryz.prog.cellsOf 3 = 1 := by kernel_rfl
theorem cellsSt : Tryz.prog.cellsOf 9 = 1 := by kernel_rfl
theorem cellsSs : Tryz.prog.cellsOf 22 = 1 := by kernel_rfl
theorem cellsKs : Tryz.prog.cellsOf 23 = 1 := by kernel_rfl
theorem strs_of_trod {H : Type} {enc : TypeId × Value → H} {w : World} {base : Nat} {spare : Nat → Bool} {held : Bool} {fuel : Nat} {cs : List Value} {x : DataW H × List MemPlace}
  (h : DataW.trod enc Tryz.prog w base spare held fuel 22 cs = some x) : ∃ (ss : List ByteArray) (S : Option Addr) (c : Nat), cs = [.slice S ss.length c] ∧ ss.length ≤ c ∧ ss.length ≤ maxLen ∧ (∀ s ∈ ss, s.size ≤ maxLen) ∧ StrsAt w (· < w.heap.size) S ss := by
 rcases DataW.trod_slice Tryz.underlying22 h with ⟨hc, _⟩ | ⟨ad, len, cap, elems, rest, m, hm, hc, _, _, hlc, hcm, hel, hev, _, _⟩
 ·exact ⟨[], none, 0, hc, Nat.le_refl _, Nat.zero_le _, fun s hs => by simp at hs, StrsAt.nil _ _ _⟩
 ·have one : ∀ i, i < len → ∃ a : ByteArray, a.size ≤ maxLen ∧ w.cell? (ad.add i) = some (.string a) := by
   intro i hi
   have h1 := hev i hi
   rw [cellsSt] at h1
   have h2 : elems[i]? = some (elems[i]'(by omega)) := List.getElem?_eq_getElem (by omega)
   rw [h2, Option.bind_eq_some_iff] at h1
   obtain ⟨cs', hcs', hof⟩ := h1
   obtain ⟨_, hl', hcell⟩ := World.cells?_some hcs'
   obtain ⟨s, rfl, _, hsz⟩ := DataW.trod_string Tryz.underlying9 hof
   have e0 := hcell 0 (by simp)
   rw [Go.Deep.add_add, Nat.mul_one] at e0
   exact ⟨s, hsz, e0⟩
  have : Inhabited ByteArray := ⟨⟨#[]⟩⟩
  obtain ⟨q, hq⟩ := choose_lt one
  have hkl : ((List.range len).map q).length = len := by simp
  refine ⟨(List.range len).map q, some ad, cap, by rw [hkl]; exact hc, by rw [hkl]; exact hlc, by rw [hkl]; omega, fun s hs => ?_, fun h0 => ⟨ad, rfl, ?_, fun i hi => ?_⟩⟩
  ·obtain ⟨i, hi, rfl⟩ := List.mem_map.1 hs
   exact (hq i (List.mem_range.1 hi)).1
  ·rw [hkl] at h0
   have := cell_lt (hq 0 h0).2
   rwa [block_of_add] at this
  ·rw [hkl] at hi
   simpa using (hq i hi).2
theorem fil_of_trod {H : Type} {enc : TypeId × Value → H} {w : World} {base : Nat} {spare : Nat → Bool} {held : Bool} : ∀ (N fuel : Nat), fuel ≤ N → ∀ (cs : List Value) (x : DataW H × List MemPlace),
  DataW.trod enc Tryz.prog w base spare held fuel 25 cs = some x → ∃ (f : Fil), Lies w (· < w.heap.size) f cs := by
 intro N
 induction N with
 | zero =>
  intro fuel hf cs x h
  obtain rfl : fuel = 0 := by omega
  simp [DataW.trod] at h
 | succ N ih =>
  intro fuel hf cs x h
  obtain ⟨xs, n, rfl, _, hl, hlen, hg⟩ := DataW.trod_struct Tryz.underlying25 h
  rw [cellsF] at hl
  match cs, hl with
  | [c0, c1, c2, c3, c4], _ =>
   have g0 := hg 0 _ rfl
   have g1 := hg 1 _ rfl
   have g2 := hg 2 _ rfl
   have g3 := hg 3 _ rfl
   have g4 := hg 4 _ rfl
   have l5 : xs.length = 5 := hlen
   match xs, l5 with
   | [y0, y1, y2, y3, y4], _ =>
   have g0' : DataW.trod enc Tryz.prog w base spare held n 3 [c0] = some y0 := by simpa [cellsI] using g0
   have g1' : DataW.trod enc Tryz.prog w base spare held n 9 [c1] = some y1 := by simpa [cellsI, cellsSt] using g1
   have g2' : DataW.trod enc Tryz.prog w base spare held n 9 [c2] = some y2 := by simpa [cellsI, cellsSt] using g2
   have g3' : DataW.trod enc Tryz.prog w base spare held n 22 [c3] = some y3 := by simpa [cellsI, cellsSt, cellsSs] using g3
   have g4' : DataW.trod enc Tryz.prog w base spare held n 23 [c4] = some y4 := by simpa [cellsI, cellsSt, cellsSs, cellsKs] using g4
   obtain ⟨a, ha, _, _⟩ := DataW.trod_int Tryz.underlying3 g0'
   obtain ⟨s, hs, _, hsz⟩ := DataW.trod_string Tryz.underlying9 g1'
   obtain ⟨v, hv, _, hvz⟩ := DataW.trod_string Tryz.underlying9 g2'
   obtain ⟨ss, S, sc, hss, hsc, hsl, hsz2, hsa⟩ := strs_of_trod g3'
   simp only [List.cons.injEq, and_true] at ha hs hv hss
   subst ha hs hv hss
   rcases DataW.trod_slice Tryz.underlying23 g4' with ⟨hc, _⟩ | ⟨ad, len, cap, elems, rest, m, hm, hc, _, _, hlc, hcm, hel, hev, _, _⟩
   ·simp only [List.cons.injEq, and_true] at hc
    subst hc
    exact ⟨.mk a s v ss [], Lies.shut (ks := []) (A := none) (c := 0) (ds := fun _ => []) hsz hvz hsl hsc hsa hsz2 (by simp) (by simp) (KidsAt.nil _ _ _ _)⟩
   ·simp only [List.cons.injEq, and_true] at hc
    subst hc
    have one : ∀ i, i < len → ∃ (q : Fil × List Value), q.2.length = 5 ∧ (∀ j u, q.2[j]? = some u → w.cell? (ad.add (i * 5 + j)) = some u) ∧ Lies w (· < w.heap.size) q.1 q.2 := by
     intro i hi
     have h1 := hev i hi
     rw [cellsF] at h1
     have h2 : elems[i]? = some (elems[i]'(by omega)) := List.getElem?_eq_getElem (by omega)
     rw [h2, Option.bind_eq_some_iff] at h1
     obtain ⟨cs', hcs', hof⟩ := h1
     obtain ⟨_, hl', hcell⟩ := World.cells?_some hcs'
     obtain ⟨f, hlies⟩ := ih m (by omega) cs' _ hof
     refine ⟨(f, cs'), hl', fun j u hu => ?_, hlies⟩
     have hj : j < 5 := by
      have h9 : j < cs'.length := (List.getElem?_eq_some_iff.1 hu).1
      omega
     have := hcell j hj
     rw [Go.Deep.add_add] at this
     rw [this]
     exact hu
    have : Inhabited (Fil × List Value) := ⟨(.mk 0 ⟨#[]⟩ ⟨#[]⟩ [] [], [])⟩
    obtain ⟨q, hq⟩ := choose_lt one
    have hkl : ((List.range len).map fun i => (q i).1).length = len := by simp
    refine ⟨.mk a s v ss ((List.range len).map fun i => (q i).1), ?_⟩
    have key := Lies.shut (w := w) (P := (· < w.heap.size)) (k := a) (a := s) (v := v) (ss := ss) (ks := (List.range len).map fun i => (q i).1) (A := some ad) (c := cap) (ds := fun i => (q i).2) hsz hvz hsl hsc hsa hsz2 (by rw [hkl]; omega) (by rw [hkl]; exact hlc) (by
     refine ⟨fun i hi => (hq i (by rw [hkl] at hi; exact hi)).1, fun h0 => ⟨ad, rfl, ?_, fun i hi => (hq i (by rw [hkl] at hi; exact hi)).2.1⟩, fun i hi => ?_⟩
     ·have h0' : 0 < len := by rw [hkl] at h0; exact h0
      have hz := hq 0 h0'
      have hl0 : (q 0).2.length = 5 := hz.1
      have := hz.2.1 0 ((q 0).2[0]'(by omega)) (List.getElem?_eq_getElem (by omega))
      have hb := cell_lt this
      rwa [block_of_add] at hb
     ·have hi' : i < len := by rw [hkl] at hi; exact hi
      have := (hq i hi').2.2
      simpa using this)
    rw [hkl] at key
    exact key
end Go.Proofs.YtconghaebebncaaGreatDoor.Fi
