/- The document's ways of meeting and comparing are the program's; what VectorLattice asks. -/
import Derived.Test.YtiglepmgonmhiaaVcLat
import Derived.Test.YtiglepmgonmhiaaVcRMeet
namespace Go.Proofs.Ytiglepmgonmhiaa.Cs
set_option linter.unusedVariables false

theorem less_earlier {a b : Nm} (h : a.r = b.r) : less a b = earlier a b := by
  rw [earlier_eq h]
  unfold less
  by_cases h9 : le a b
  · rw [if_pos h9, if_pos ((cmp_le h).2 h9)]
  · rw [if_neg h9, if_neg (fun h8 => h9 ((cmp_le h).1 h8))]
theorem rmeet_meet (a b : List Nm) : rmeet (cnt a) (cnt b) = meet a b := by
  unfold rmeet meet
  refine List.ext_getElem (by simp) fun i h1 h2 => ?_
  rw [List.getElem_zipWith, List.getElem_zipWith]
  exact less_earlier (alike_cnt a b i (by simp at h1; omega) (by simp at h1; omega))
theorem isV_over {a b : List Nm} (ha : isV a = true) (hb : isV b = true) : isV (over a b) = true := by
  obtain ⟨a1, a2⟩ := isV_true ha
  obtain ⟨b1, b2⟩ := isV_true hb
  refine isV_of (by rw [over_len]; exact a1) fun i hi => ?_
  have hi' : i < a.length := by rw [over_len] at hi; exact hi
  rw [over_get a b i hi' hi]
  by_cases h : i < b.length
  · rw [if_pos h, at_eq h]
    have hr : a[i].r = b[i].r := by rw [(a2 i hi').1, (b2 i h).1]
    exact ⟨by rw [later_r hr]; exact (a2 i hi').1, later_is (a2 i hi').2 (b2 i h).2⟩
  · rw [if_neg h]
    exact a2 i hi'
theorem isV_join (a b : List Nm) : isV (join a b) = true := by
  unfold join
  split
  · exact isV_over (cnt_is a) (cnt_is b)
  · exact isV_over (cnt_is b) (cnt_is a)
theorem later_self {a b : Nm} (h : a.r = b.r) (h9 : later a b = a) : le b a := by
  rw [later_eq h] at h9
  by_cases h8 : le b a
  · exact h8
  · rw [if_neg h8] at h9
    subst h9
    exact le_refl _
theorem leq_leqB (a b : List Nm) : leq a b = leqB (cnt a) (cnt b) := by
  unfold leq
  rw [cnt_of (isV_join a b)]
  have hal := alike_cnt a b
  unfold join
  generalize cnt a = A at *
  generalize cnt b = B at *
  by_cases h : B.length < A.length
  · rw [if_pos h, leqB_long h]
    refine decide_eq_false fun e => ?_
    have := congrArg List.length e
    rw [over_len] at this
    omega
  · rw [if_neg h]
    by_cases h9 : ∀ i (h1 : i < A.length) (h2 : i < B.length), le A[i] B[i]
    · rw [leqB_yes (by omega) (fun j h1 h2 => (cmp_le (hal j h1 h2)).2 (h9 j h1 h2))]
      refine decide_eq_true (List.ext_getElem (over_len B A) fun i h1 h2 => ?_)
      rw [over_get B A i h2 h1]
      by_cases h8 : i < A.length
      · rw [if_pos h8, at_eq h8]
        exact later_absorb (hal i h8 h2).symm (h9 i h8 h2)
      · rw [if_neg h8]
    · have : ∃ i, ∃ (h1 : i < A.length), ∃ (h2 : i < B.length), ¬ le A[i] B[i] := by
        refine Classical.byContradiction fun h8 => h9 fun i h1 h2 => Classical.byContradiction fun h7 => h8 ⟨i, h1, h2, h7⟩
      obtain ⟨i, h1, h2, h7⟩ := this
      rw [leqB_no h1 h2 (by rcases Int.lt_or_le 0 (A[i].cmp B[i]) with h6 | h6; exact h6; exact absurd ((cmp_le (hal i h1 h2)).1 h6) h7)]
      refine decide_eq_false fun e => h7 ?_
      have ho : i < (over B A).length := by rw [over_len]; exact h2
      have h5 := over_get B A i h2 ho
      rw [if_pos h1, at_eq h1] at h5
      have h4 : (over B A)[i] = B[i] := by simp only [e]
      rw [h4] at h5
      exact later_self (hal i h1 h2).symm h5.symm

/-! ### Vectors of as many places -/
/-- A vector of n places. -/
def Vn (n : Nat) (l : List Nm) : Prop := isV l = true ∧ l.length = n
theorem Vn.rep {n : Nat} {l : List Nm} (h : Vn n l) {i : Nat} (hi : i < l.length) : l[i].r = i := ((isV_true h.1).2 i hi).1
theorem Vn.is {n : Nat} {l : List Nm} (h : Vn n l) {i : Nat} (hi : i < l.length) : l[i].is = true := ((isV_true h.1).2 i hi).2
theorem Vn.alike {n : Nat} {a b : List Nm} (ha : Vn n a) (hb : Vn n b) {i : Nat} (h1 : i < a.length) (h2 : i < b.length) : a[i].r = b[i].r := by rw [ha.rep h1, hb.rep h2]
theorem leq_iff {n : Nat} {a b : List Nm} (ha : Vn n a) (hb : Vn n b) : leq a b = true ↔ ∀ i (h1 : i < a.length) (h2 : i < b.length), le a[i] b[i] := by
  rw [leq_leqB, cnt_of ha.1, cnt_of hb.1]
  constructor
  · intro h i h1 h2
    unfold leqB at h
    rw [Bool.and_eq_true] at h
    have := of_decide_eq_true h.2 i h1
    rw [at_eq h2] at this
    exact (cmp_le (ha.alike hb h1 h2)).1 this
  · intro h
    exact leqB_yes (by rw [ha.2, hb.2]; exact Nat.le_refl _) fun j h1 h2 => (cmp_le (ha.alike hb h1 h2)).2 (h j h1 h2)
theorem join_vn {n : Nat} {a b : List Nm} (ha : Vn n a) (hb : Vn n b) : Vn n (join a b) := by
  refine ⟨isV_join a b, ?_⟩
  unfold join
  rw [cnt_of ha.1, cnt_of hb.1, if_neg (by rw [ha.2, hb.2]; omega), over_len, hb.2]
theorem join_get {n : Nat} {a b : List Nm} (ha : Vn n a) (hb : Vn n b) {i : Nat} (h1 : i < a.length) (h2 : i < b.length) (h : i < (join a b).length) : (join a b)[i] = later a[i] b[i] := by
  have e : join a b = over b a := by
    unfold join
    rw [cnt_of ha.1, cnt_of hb.1, if_neg (by rw [ha.2, hb.2]; omega)]
  simp only [e]
  rw [over_get b a i h2 (by rw [over_len]; exact h2), if_pos h1, at_eq h1, later_comm (hb.alike ha h2 h1)]
theorem meet_vn {n : Nat} {a b : List Nm} (ha : Vn n a) (hb : Vn n b) : Vn n (meet a b) := by
  unfold meet
  rw [cnt_of ha.1, cnt_of hb.1]
  have hl : (List.zipWith earlier a b).length = n := by simp [ha.2, hb.2]
  refine ⟨isV_of (by rw [hl, ← ha.2]; exact (isV_true ha.1).1) fun i hi => ?_, hl⟩
  have h1 : i < a.length := by rw [ha.2, ← hl]; exact hi
  have h2 : i < b.length := by rw [hb.2, ← hl]; exact hi
  rw [List.getElem_zipWith]
  exact ⟨by rw [earlier_r (ha.alike hb h1 h2)]; exact ha.rep h1, earlier_is (ha.is h1) (hb.is h2)⟩
theorem meet_get {n : Nat} {a b : List Nm} (ha : Vn n a) (hb : Vn n b) {i : Nat} (h1 : i < a.length) (h2 : i < b.length) (h : i < (meet a b).length) : (meet a b)[i] = earlier a[i] b[i] := by
  unfold meet at h ⊢
  simp only [cnt_of ha.1, cnt_of hb.1]
  rw [List.getElem_zipWith]
theorem vn_ext {n : Nat} {a b : List Nm} (ha : Vn n a) (hb : Vn n b) (h : ∀ i (h1 : i < a.length) (h2 : i < b.length), a[i] = b[i]) : a = b := List.ext_getElem (by rw [ha.2, hb.2]) h
section
variable {n : Nat} {a b c : List Nm} (ha : Vn n a) (hb : Vn n b) (hc : Vn n c)
theorem lat1 (ha : Vn n a) (hb : Vn n b) : leq a (join a b) = true := (leq_iff ha (join_vn ha hb)).2 fun i h1 h2 => by
  have h3 : i < b.length := by rw [hb.2, ← ha.2]; exact h1
  rw [join_get ha hb h1 h3 h2]
  exact le_later1 (ha.alike hb h1 h3)
theorem lat2 (ha : Vn n a) (hb : Vn n b) : leq b (join a b) = true := (leq_iff hb (join_vn ha hb)).2 fun i h1 h2 => by
  have h3 : i < a.length := by rw [ha.2, ← hb.2]; exact h1
  rw [join_get ha hb h3 h1 h2]
  exact le_later2 (ha.alike hb h3 h1)
theorem lat3 (ha : Vn n a) (hb : Vn n b) : leq (meet a b) a = true := (leq_iff (meet_vn ha hb) ha).2 fun i h1 h2 => by
  have h3 : i < b.length := by rw [hb.2, ← ha.2]; exact h2
  rw [meet_get ha hb h2 h3 h1]
  exact earlier_le1 (ha.alike hb h2 h3)
theorem lat4 (ha : Vn n a) (hb : Vn n b) : leq (meet a b) b = true := (leq_iff (meet_vn ha hb) hb).2 fun i h1 h2 => by
  have h3 : i < a.length := by rw [ha.2, ← hb.2]; exact h2
  rw [meet_get ha hb h3 h2 h1]
  exact earlier_le2 (ha.alike hb h3 h2)
theorem lat5 (ha : Vn n a) (hb : Vn n b) (hc : Vn n c) (h1 : leq a c = true) (h2 : leq b c = true) : leq (join a b) c = true := (leq_iff (join_vn ha hb) hc).2 fun i h3 h4 => by
  have h5 : i < a.length := by rw [ha.2, ← hc.2]; exact h4
  have h6 : i < b.length := by rw [hb.2, ← hc.2]; exact h4
  rw [join_get ha hb h5 h6 h3]
  exact later_le ((leq_iff ha hc).1 h1 i h5 h4) ((leq_iff hb hc).1 h2 i h6 h4)
theorem lat6 (ha : Vn n a) (hb : Vn n b) (hc : Vn n c) (h1 : leq c a = true) (h2 : leq c b = true) : leq c (meet a b) = true := (leq_iff hc (meet_vn ha hb)).2 fun i h3 h4 => by
  have h5 : i < a.length := by rw [ha.2, ← hc.2]; exact h3
  have h6 : i < b.length := by rw [hb.2, ← hc.2]; exact h3
  rw [meet_get ha hb h5 h6 h4]
  exact le_earlier ((leq_iff hc ha).1 h1 i h3 h5) ((leq_iff hc hb).1 h2 i h3 h6)
theorem lat7 (ha : Vn n a) (hb : Vn n b) (hc : Vn n c) : join (join a b) c = join a (join b c) :=
  vn_ext (join_vn (join_vn ha hb) hc) (join_vn ha (join_vn hb hc)) fun i h1 h2 => by
    have l1 := (join_vn (join_vn ha hb) hc).2
    have k1 : i < a.length := by rw [ha.2, ← l1]; exact h1
    have k2 : i < b.length := by rw [hb.2, ← l1]; exact h1
    have k3 : i < c.length := by rw [hc.2, ← l1]; exact h1
    have k4 : i < (join a b).length := by rw [(join_vn ha hb).2, ← l1]; exact h1
    have k5 : i < (join b c).length := by rw [(join_vn hb hc).2, ← l1]; exact h1
    rw [join_get (join_vn ha hb) hc k4 k3 h1, join_get ha (join_vn hb hc) k1 k5 h2, join_get ha hb k1 k2 k4, join_get hb hc k2 k3 k5]
    exact later_assoc (ha.alike hb k1 k2) (hb.alike hc k2 k3)
theorem lat8 (ha : Vn n a) (hb : Vn n b) : join a b = join b a :=
  vn_ext (join_vn ha hb) (join_vn hb ha) fun i h1 h2 => by
    have k1 : i < a.length := by rw [ha.2, ← (join_vn ha hb).2]; exact h1
    have k2 : i < b.length := by rw [hb.2, ← (join_vn ha hb).2]; exact h1
    rw [join_get ha hb k1 k2 h1, join_get hb ha k2 k1 h2]
    exact later_comm (ha.alike hb k1 k2)
theorem lat9 (ha : Vn n a) (hb : Vn n b) : join a (meet a b) = a :=
  vn_ext (join_vn ha (meet_vn ha hb)) ha fun i h1 h2 => by
    have k2 : i < b.length := by rw [hb.2, ← ha.2]; exact h2
    have k3 : i < (meet a b).length := by rw [(meet_vn ha hb).2, ← ha.2]; exact h2
    rw [join_get ha (meet_vn ha hb) h2 k3 h1, meet_get ha hb h2 k2 k3]
    exact later_absorb (by rw [earlier_r (ha.alike hb h2 k2)]) (earlier_le1 (ha.alike hb h2 k2))
theorem covers_vn {n : Nat} {v : List Nm} {d : Nm} (hv : Vn n v) : covers v d = true ↔ ∃ k : Nat, d.r = k ∧ ∃ h : k < v.length, le d v[k] := by
  unfold covers
  rw [cnt_of hv.1, Bool.and_eq_true, Bool.and_eq_true, decide_eq_true_iff, decide_eq_true_iff, decide_eq_true_iff]
  constructor
  · rintro ⟨h1, h2, h3⟩
    refine ⟨d.r.toNat, by omega, by omega, ?_⟩
    rw [at_eq (by omega)] at h3
    exact (cmp_le (by rw [hv.rep (by omega)]; omega)).1 h3
  · rintro ⟨k, h1, h2, h3⟩
    refine ⟨by omega, by omega, ?_⟩
    have e : d.r.toNat = k := by omega
    rw [e, at_eq h2]
    exact (cmp_le (by rw [hv.rep h2, h1])).2 h3
theorem lat10 (ha : Vn n a) (hb : Vn n b) (d : Nm) : covers (join a b) d = (covers a d || covers b d) := by
  rw [Bool.eq_iff_iff, Bool.or_eq_true, covers_vn (join_vn ha hb), covers_vn ha, covers_vn hb]
  constructor
  · rintro ⟨k, h1, h2, h3⟩
    have k1 : k < a.length := by rw [ha.2, ← (join_vn ha hb).2]; exact h2
    have k2 : k < b.length := by rw [hb.2, ← (join_vn ha hb).2]; exact h2
    rw [join_get ha hb k1 k2 h2, le_later_iff (ha.alike hb k1 k2)] at h3
    rcases h3 with h3 | h3
    · exact .inl ⟨k, h1, k1, h3⟩
    · exact .inr ⟨k, h1, k2, h3⟩
  · intro h
    rcases h with ⟨k, h1, h2, h3⟩ | ⟨k, h1, h2, h3⟩
    · have k2 : k < b.length := by rw [hb.2, ← ha.2]; exact h2
      have k3 : k < (join a b).length := by rw [(join_vn ha hb).2, ← ha.2]; exact h2
      exact ⟨k, h1, k3, by rw [join_get ha hb h2 k2 k3, le_later_iff (ha.alike hb h2 k2)]; exact .inl h3⟩
    · have k2 : k < a.length := by rw [ha.2, ← hb.2]; exact h2
      have k3 : k < (join a b).length := by rw [(join_vn ha hb).2, ← hb.2]; exact h2
      exact ⟨k, h1, k3, by rw [join_get ha hb k2 h2 k3, le_later_iff (ha.alike hb k2 h2)]; exact .inr h3⟩
theorem lat11 (ha : Vn n a) (hb : Vn n b) (d : Nm) : covers (meet a b) d = (covers a d && covers b d) := by
  rw [Bool.eq_iff_iff, Bool.and_eq_true, covers_vn (meet_vn ha hb), covers_vn ha, covers_vn hb]
  constructor
  · rintro ⟨k, h1, h2, h3⟩
    have k1 : k < a.length := by rw [ha.2, ← (meet_vn ha hb).2]; exact h2
    have k2 : k < b.length := by rw [hb.2, ← (meet_vn ha hb).2]; exact h2
    rw [meet_get ha hb k1 k2 h2, le_earlier_iff (ha.alike hb k1 k2)] at h3
    exact ⟨⟨k, h1, k1, h3.1⟩, ⟨k, h1, k2, h3.2⟩⟩
  · rintro ⟨⟨k, h1, h2, h3⟩, ⟨k', h1', h2', h3'⟩⟩
    have e : k = k' := by omega
    subst e
    have k3 : k < (meet a b).length := by rw [(meet_vn ha hb).2, ← ha.2]; exact h2
    exact ⟨k, h1, k3, by rw [meet_get ha hb h2 h2' k3, le_earlier_iff (ha.alike hb h2 h2')]; exact ⟨h3, h3'⟩⟩
theorem raise_vn (ha : Vn n a) (d : Nm) : Vn n (raise a d) := by
  unfold raise fits
  rw [cnt_of ha.1]
  split
  · rename_i h
    rw [Bool.and_eq_true] at h
    have hd := isC_true (show isC d.t d.s d.r = true from h.1)
    have hlt := of_decide_eq_true h.2
    have hk : d.r.toNat < a.length := by omega
    refine ⟨isV_of (by rw [List.length_set]; exact (isV_true ha.1).1) fun i hi => ?_, by rw [List.length_set]; exact ha.2⟩
    have hi' : i < a.length := by rw [List.length_set] at hi; exact hi
    rw [List.getElem_set]
    split
    · rename_i e
      subst e
      rw [at_eq hk]
      have hr : a[d.r.toNat].r = d.r := by rw [ha.rep hk]; omega
      exact ⟨by rw [later_r hr]; exact ha.rep hk, later_is (ha.is hk) h.1⟩
    · exact ⟨ha.rep hi', ha.is hi'⟩
  · exact ha
theorem lat12 (ha : Vn n a) (d : Nm) : leq a (raise a d) = true := (leq_iff ha (raise_vn ha d)).2 fun i h1 h2 => by
  unfold raise fits at h2 ⊢
  simp only [cnt_of ha.1] at h2 ⊢
  by_cases h : (d.is && decide (d.r < (a.length : Int))) = true
  · simp only [if_pos h] at h2 ⊢
    rw [Bool.and_eq_true] at h
    have hd := isC_true (show isC d.t d.s d.r = true from h.1)
    have hlt := of_decide_eq_true h.2
    have hk : d.r.toNat < a.length := by omega
    rw [List.getElem_set]
    split
    · rename_i e
      subst e
      rw [at_eq hk]
      exact le_later1 (by rw [ha.rep hk]; omega)
    · exact le_refl _
  · simp only [if_neg h]
    exact le_refl _
end
end Go.Proofs.Ytiglepmgonmhiaa.Cs
