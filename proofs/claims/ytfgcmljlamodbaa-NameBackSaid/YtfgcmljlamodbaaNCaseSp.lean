/- Types of any case, values of letters: how they are read and printed. Plain facts. -/
import Derived.Test.YtfgcmljlamodbaaNRdEq
import Derived.Test.YtfgcmljlamodbaaNPr
namespace Go.Proofs.Ytfgcmljlamodbaa
set_option linter.unusedVariables false
namespace Nm

/-- A byte that stands for itself in a value, wherever it is. -/
def plainC (c : UInt8) : Bool := decide (32 < c.toNat ∧ c.toNat ≤ 126) && (!special c && decide (c.toNat ≠ 35 ∧ c.toNat ≠ 61))
theorem plainC_ne {c : UInt8} (h : plainC c = true) : c ≠ 92 ∧ c ≠ 43 ∧ c ≠ 44 ∧ c ≠ 61 := by
  refine ⟨?_, ?_, ?_, ?_⟩
  all_goals
    intro e
    subst e
    revert h
    decide
theorem plainC_un {c : UInt8} (h : plainC c = true) (f : Bool) (r : List UInt8) : unB special f (c :: r) = some (c, 1) := by
  have h2 := (plainC_ne h).1
  unfold plainC at h
  rw [Bool.and_eq_true, Bool.and_eq_true, decide_eq_true_eq, decide_eq_true_eq, Bool.not_eq_true'] at h
  obtain ⟨h3, h4, h5⟩ := h
  rw [unB_cons, if_neg h2, h4, decide_eq_false (p := c.toNat = 35 ∨ c.toNat = 32) (by omega), decide_eq_false (p := c.toNat = 32) (by omega)]
  simp
theorem unVal_plain : ∀ (f : Bool) (l : List UInt8), (∀ c ∈ l, plainC c = true) → unVal special f l = some l
  | f, [], _ => rfl
  | f, c :: r, h => by
    rw [unVal_step (plainC_un (h c (by simp)) f r)]
    show (unVal special false r).map (c :: ·) = _
    rw [unVal_plain false r (fun d hd => h d (by simp [hd]))]
    rfl
theorem escB_plain {c : UInt8} (h : plainC c = true) (f t : Bool) : escB f t c = [c] := by
  unfold plainC at h
  rw [Bool.and_eq_true, Bool.and_eq_true, decide_eq_true_eq, decide_eq_true_eq, Bool.not_eq_true'] at h
  obtain ⟨h3, h4, h5⟩ := h
  unfold escB
  rw [if_neg (by omega), h4, decide_eq_false (p := c.toNat = 35 ∨ c.toNat = 32) (by omega), decide_eq_false (p := c.toNat = 32) (by omega)]
  simp
theorem escV_plain : ∀ (f : Bool) (l : List UInt8), (∀ c ∈ l, plainC c = true) → escV f l = l
  | f, [], _ => rfl
  | f, c :: r, h => by
    rw [escV, escB_plain (h c (by simp)), escV_plain false r (fun d hd => h d (by simp [hd]))]
    rfl
theorem eqAt_plain : ∀ (q r : List UInt8), (∀ c ∈ q, c ≠ 61) → eqAt (q ++ 61 :: r) = some q.length
  | [], r, _ => rfl
  | c :: q, r, h => by
    show eqAt (c :: (q ++ 61 :: r)) = _
    rw [eqAt, if_neg (h c (by simp)), eqAt_plain q r (fun d hd => h d (by simp [hd]))]
    rfl
theorem ava_plain {q v v' : List UInt8} (hq : ∀ c ∈ q, c ≠ 61) (hv : unVal special true v = some v') : ava (q ++ 61 :: v) = some (mk (lower q), mk v') := by
  have h1 := eqAt_plain q v hq
  have h2 : (q ++ 61 :: v).drop (q.length + 1) = v := by
    rw [← List.drop_drop, List.drop_left]; rfl
  have h3 : (q ++ 61 :: v).take q.length = q := List.take_left
  have := ava_mk h1 (v := v') (by rw [h2]; exact hv)
  rw [h3] at this
  exact this
theorem cuts_one {sep : UInt8} {l : List UInt8} (h : ∀ c ∈ l, c ≠ 92 ∧ c ≠ sep) : cuts sep l = [l] := by
  have := pos_plain sep l [] h
  rw [List.append_nil] at this
  rw [cuts_pos, this]; rfl
theorem cuts_two {sep : UInt8} {l r : List UInt8} (h : ∀ c ∈ l, c ≠ 92 ∧ c ≠ sep) (hs : sep ≠ 92) : cuts sep (l ++ sep :: r) = l :: cuts sep r := by
  have h1 := pos_plain sep l (sep :: r) h
  rw [pos_cons, if_neg hs, if_pos rfl] at h1
  have h2 : pos sep (l ++ sep :: r) = some l.length := by rw [h1]; simp
  rw [cuts_pos, h2]
  simp only
  rw [List.take_left, ← List.drop_drop, List.drop_left]
  rfl
theorem rdn_of {l : List UInt8} {r : List Ava} (h : avas (cuts 43 l) = some r) : rdn l = if isRdn r then some r else none := by
  unfold rdn
  rw [h]; rfl
theorem dnm_of {l : List UInt8} {d : List (List Ava)} (hl : l ≠ []) (h : rdns (cuts 44 l) = some d) : dnm l = if isDn d then some d else none := by
  unfold dnm
  rw [if_neg hl, h]; rfl
/-- The statement's texts: t is a type in small letters, b the same in any case, v a value. -/
structure Cases (t b v : List UInt8) : Prop where of ::
  low : lower b = t
  lowt : lower t = t
  typ : isType t = true
  plt : ∀ c ∈ t, plainC c = true
  plb : ∀ c ∈ b, plainC c = true
  plv : ∀ c ∈ v, plainC c = true
  ln : 1 ≤ v.length ∧ v.length ≤ 60
theorem Cases.ok {t b v : List UInt8} (h : Cases t b v) : okAva (mk t, mk v) = true := by
  unfold okAva
  have e1 : isType (bs (mk t)) = true := h.typ
  have e2 : (mk v).size = v.length := rfl
  rw [e1, e2, decide_eq_true h.ln]
  rfl
theorem plain_text {q v : List UInt8} (hq : ∀ c ∈ q, plainC c = true) (hv : ∀ c ∈ v, plainC c = true) : ∀ c ∈ q ++ 61 :: v, c ≠ 92 ∧ c ≠ 43 ∧ c ≠ 44 := fun c hc => by
  rcases List.mem_append.1 hc with hc | hc
  · exact ⟨(plainC_ne (hq c hc)).1, (plainC_ne (hq c hc)).2.1, (plainC_ne (hq c hc)).2.2.1⟩
  · rcases List.mem_cons.1 hc with rfl | hc
    · decide
    · exact ⟨(plainC_ne (hv c hc)).1, (plainC_ne (hv c hc)).2.1, (plainC_ne (hv c hc)).2.2.1⟩
theorem Cases.avab {t b v : List UInt8} (h : Cases t b v) : ava (b ++ 61 :: v) = some (mk t, mk v) := by
  have := ava_plain (q := b) (fun c hc => (plainC_ne (h.plb c hc)).2.2.2) (unVal_plain true v h.plv)
  rwa [h.low] at this
theorem Cases.avat {t b v : List UInt8} (h : Cases t b v) : ava (t ++ 61 :: v) = some (mk t, mk v) := by
  have := ava_plain (q := t) (fun c hc => (plainC_ne (h.plt c hc)).2.2.2) (unVal_plain true v h.plv)
  rwa [h.lowt] at this
theorem Cases.one {t b v : List UInt8} (h : Cases t b v) : isRdn [(mk t, mk v)] = true := by
  unfold isRdn
  rw [okFrom, h.ok]
  rfl
theorem Cases.rdnb {t b v : List UInt8} (h : Cases t b v) : rdn (b ++ 61 :: v) = some [(mk t, mk v)] := by
  have hp := plain_text h.plb h.plv
  rw [rdn_of (r := [(mk t, mk v)]) (by rw [cuts_one (fun c hc => ⟨(hp c hc).1, (hp c hc).2.1⟩), avas_cons, h.avab]; rfl), if_pos h.one]
theorem Cases.rdnt {t b v : List UInt8} (h : Cases t b v) : rdn (t ++ 61 :: v) = some [(mk t, mk v)] := by
  have hp := plain_text h.plt h.plv
  rw [rdn_of (r := [(mk t, mk v)]) (by rw [cuts_one (fun c hc => ⟨(hp c hc).1, (hp c hc).2.1⟩), avas_cons, h.avat]; rfl), if_pos h.one]
/-- The first text: one part. -/
theorem Cases.d1 {t b v : List UInt8} (h : Cases t b v) : dnm (b ++ 61 :: v) = some [[(mk t, mk v)]] := by
  have hp := plain_text h.plb h.plv
  rw [dnm_of (d := [[(mk t, mk v)]]) (by simp) (by rw [cuts_one (fun c hc => ⟨(hp c hc).1, (hp c hc).2.2⟩), rdns_cons, h.rdnb]; rfl), if_pos (by unfold isDn; simp [h.one])]
/-- The second one: two parts. -/
theorem Cases.d2 {t b v : List UInt8} (h : Cases t b v) : dnm ((t ++ 61 :: v) ++ 44 :: (b ++ 61 :: v)) = some [[(mk t, mk v)], [(mk t, mk v)]] := by
  have hp := plain_text h.plb h.plv
  have hq := plain_text h.plt h.plv
  rw [dnm_of (d := [[(mk t, mk v)], [(mk t, mk v)]]) (by simp) (by
    rw [cuts_two (fun c hc => ⟨(hq c hc).1, (hq c hc).2.2⟩) (by decide), cuts_one (fun c hc => ⟨(hp c hc).1, (hp c hc).2.2⟩), rdns_cons, h.rdnt, rdns_cons, h.rdnb]; rfl), if_pos (by unfold isDn; simp [h.one])]
/-- The third one: one type twice. -/
theorem Cases.d3 {t b v : List UInt8} (h : Cases t b v) : dnm ((t ++ 61 :: v) ++ 43 :: (b ++ 61 :: v)) = none := by
  have hp := plain_text h.plb h.plv
  have hq := plain_text h.plt h.plv
  have hr : rdn ((t ++ 61 :: v) ++ 43 :: (b ++ 61 :: v)) = none := by
    rw [rdn_of (r := [(mk t, mk v), (mk t, mk v)]) (by
      rw [cuts_two (fun c hc => ⟨(hq c hc).1, (hq c hc).2.1⟩) (by decide), cuts_one (fun c hc => ⟨(hp c hc).1, (hp c hc).2.1⟩), avas_cons, h.avat, avas_cons, h.avab]; rfl)]
    have : isRdn [(mk t, mk v), (mk t, mk v)] = false := by
      unfold isRdn
      rw [okFrom, okFrom]
      simp
    rw [this]; rfl
  have hc : cuts 44 ((t ++ 61 :: v) ++ 43 :: (b ++ 61 :: v)) = [(t ++ 61 :: v) ++ 43 :: (b ++ 61 :: v)] := cuts_one (fun c hc => by
    rcases List.mem_append.1 hc with hc | hc
    · exact ⟨(hq c hc).1, (hq c hc).2.2⟩
    · rcases List.mem_cons.1 hc with rfl | hc
      · decide
      · exact ⟨(hp c hc).1, (hp c hc).2.2⟩)
  unfold dnm
  rw [if_neg (by simp), hc, rdns_cons, hr]
  rfl
theorem Cases.pr {t b v : List UInt8} (h : Cases t b v) : prDnV [[(mk t, mk v)]] = t ++ 61 :: v := by
  unfold prDnV
  rw [if_pos (by unfold isDn; simp [h.one])]
  show t ++ 61 :: escV true v = _
  rw [escV_plain true v h.plv]
theorem lower_all : (List.range 26).all (fun m => decide (sm (65 + m).toUInt8 = (97 + m).toUInt8 ∧ sm (97 + m).toUInt8 = (97 + m).toUInt8 ∧ smallC (97 + m).toUInt8 = true ∧ smallC (65 + m).toUInt8 = false ∧ plainC (97 + m).toUInt8 = true ∧ plainC (65 + m).toUInt8 = true)) = true := by kernel_rfl
theorem digit_all : (List.range 10).all (fun n => decide (sm (48 + n).toUInt8 = (48 + n).toUInt8 ∧ typeC (48 + n).toUInt8 = true ∧ plainC (48 + n).toUInt8 = true)) = true := by kernel_rfl
theorem cases_of (m n p : Nat) (hm : m < 26) (hn : n < 10) (hp : p < 26) : Cases [(97 + m).toUInt8, (48 + n).toUInt8, 45] [(65 + m).toUInt8, (48 + n).toUInt8, 45] [(65 + p).toUInt8, (97 + p).toUInt8] ∧ isType [(65 + m).toUInt8, (48 + n).toUInt8, 45] = false := by
  have h1 := of_decide_eq_true (List.all_eq_true.1 lower_all m (by simp [hm]))
  have h2 := of_decide_eq_true (List.all_eq_true.1 lower_all p (by simp [hp]))
  have h3 := of_decide_eq_true (List.all_eq_true.1 digit_all n (by simp [hn]))
  obtain ⟨a1, a2, a3, a4, a5, a6⟩ := h1
  obtain ⟨_, _, _, _, b5, b6⟩ := h2
  obtain ⟨c1, c2, c3⟩ := h3
  refine ⟨⟨?_, ?_, ?_, ?_, ?_, ?_, by simp⟩, ?_⟩
  · show [sm (65 + m).toUInt8, sm (48 + n).toUInt8, sm 45] = _
    rw [a1, c1]; rfl
  · show [sm (97 + m).toUInt8, sm (48 + n).toUInt8, sm 45] = _
    rw [a2, c1]; rfl
  · show (decide (3 ≤ 16) && (smallC (97 + m).toUInt8 && (typeC (48 + n).toUInt8 && (typeC 45 && true)))) = true
    rw [a3, c2]; rfl
  · intro c hc
    simp only [List.mem_cons, List.not_mem_nil, or_false] at hc
    rcases hc with rfl | rfl | rfl
    · exact a5
    · exact c3
    · decide
  · intro c hc
    simp only [List.mem_cons, List.not_mem_nil, or_false] at hc
    rcases hc with rfl | rfl | rfl
    · exact a6
    · exact c3
    · decide
  · intro c hc
    simp only [List.mem_cons, List.not_mem_nil, or_false] at hc
    rcases hc with rfl | rfl
    · exact b6
    · exact b5
  · show (decide (3 ≤ 16) && (smallC (65 + m).toUInt8 && (typeC (48 + n).toUInt8 && (typeC 45 && true)))) = false
    rw [a4]; rfl
end Nm
end Go.Proofs.Ytfgcmljlamodbaa
