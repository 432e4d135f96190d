/- What is printed is read: plain. -/
import Derived.Test.YticfemheneljmaaDoorFlSpec
import Derived.KernelRfl
namespace Go.Proofs.YticfemheneljmaaDoor
set_option linter.unusedVariables false
set_option maxRecDepth 100000
namespace Fi
open Nm

theorem upto_at {c : UInt8} {x r : List UInt8} (h : c ∉ x) : upto c (x ++ c :: r) = x := by
  induction x with
  | nil => simp [upto]
  | cons b x ih =>
    simp only [List.mem_cons, not_or] at h
    rw [List.cons_append, upto, if_neg (fun e => h.1 e.symm), ih h.2]
theorem past_at {c : UInt8} {x r : List UInt8} (h : c ∉ x) : past c (x ++ c :: r) = r := by
  induction x with
  | nil => simp [past]
  | cons b x ih =>
    simp only [List.mem_cons, not_or] at h
    rw [List.cons_append, past, if_neg (fun e => h.1 e.symm), ih h.2]
theorem u8_nat {c d : UInt8} (h : c.toNat = d.toNat) : c = d := UInt8.toNat_inj.1 h
theorem type_mem {l : List UInt8} (h : isType l = true) {c : UInt8} (hc : c ∈ l) : 97 ≤ c.toNat ∧ c.toNat ≤ 122 ∨ 48 ≤ c.toNat ∧ c.toNat ≤ 57 ∨ c.toNat = 45 := by
  unfold isType at h
  cases l with
  | nil => cases hc
  | cons b r =>
    simp only [Bool.and_eq_true] at h
    rcases List.mem_cons.1 hc with rfl | hc
    · have := h.2.1
      unfold smallC at this
      rw [decide_eq_true_eq] at this
      omega
    · have := List.all_eq_true.1 h.2.2 c hc
      unfold typeC at this
      rw [decide_eq_true_eq] at this
      omega
theorem type_head {l : List UInt8} (h : isType l = true) : ∃ c r, l = c :: r ∧ 97 ≤ c.toNat ∧ c.toNat ≤ 122 ∧ l.length ≤ 16 := by
  unfold isType at h
  cases l with
  | nil => simp at h
  | cons b r =>
    simp only [Bool.and_eq_true, decide_eq_true_eq] at h
    have := h.2.1
    unfold smallC at this
    rw [decide_eq_true_eq] at this
    exact ⟨b, r, rfl, this.1, this.2, h.1⟩
theorem hexc_all : (List.range 16).all (fun n => decide (48 ≤ (hexc n).toNat ∧ (hexc n).toNat ≤ 57 ∨ 97 ≤ (hexc n).toNat ∧ (hexc n).toNat ≤ 102)) = true := by kernel_rfl
theorem hexc_of {n : Nat} (h : n < 16) : 48 ≤ (hexc n).toNat ∧ (hexc n).toNat ≤ 57 ∨ 97 ≤ (hexc n).toNat ∧ (hexc n).toNat ≤ 102 := by
  have := List.all_eq_true.1 hexc_all n (by simp [h])
  exact of_decide_eq_true this
theorem byte_all : (List.range 256).all (fun n => decide (byte (hexc (n / 16)) (hexc (n % 16)) = n.toUInt8)) = true := by kernel_rfl
theorem byte_of (c : UInt8) : byte (hexc (c.toNat / 16)) (hexc (c.toNat % 16)) = c := by
  have := List.all_eq_true.1 byte_all c.toNat (by simp [c.toNat_lt])
  have h := of_decide_eq_true this
  simpa using h
/-- No byte of a value's text is a bracket or a star. -/
theorem escC_mem {c b : UInt8} (h : b ∈ escC c) : b.toNat ≠ 40 ∧ b.toNat ≠ 41 ∧ b.toNat ≠ 42 := by
  unfold escC at h
  have h256 := c.toNat_lt
  split at h
  · have h1 := hexc_of (n := c.toNat / 16) (by omega)
    have h2 := hexc_of (n := c.toNat % 16) (by omega)
    simp only [List.mem_cons, List.not_mem_nil, or_false] at h
    rcases h with rfl | rfl | rfl
    · decide
    · omega
    · omega
  · rename_i ho
    have ho : odd c = false := by simpa using ho
    unfold odd at ho
    rw [decide_eq_false_iff_not] at ho
    simp only [List.mem_cons, List.not_mem_nil, or_false] at h
    subst h
    omega
theorem esc_mem {l : List UInt8} {b : UInt8} (h : b ∈ esc l) : b.toNat ≠ 40 ∧ b.toNat ≠ 41 ∧ b.toNat ≠ 42 := by
  unfold esc at h
  obtain ⟨c, _, hc⟩ := List.mem_flatMap.1 h
  exact escC_mem hc
theorem esc_no (l : List UInt8) : (42 : UInt8) ∉ esc l ∧ (41 : UInt8) ∉ esc l := ⟨fun h => (esc_mem h).2.2 rfl, fun h => (esc_mem h).2.1 rfl⟩
theorem esc_cons (c : UInt8) (l : List UInt8) : esc (c :: l) = escC c ++ esc l := by unfold esc; rw [List.flatMap_cons]
theorem escC_len (c : UInt8) : 1 ≤ (escC c).length ∧ (escC c).length ≤ 3 := by unfold escC; split <;> simp
theorem esc_len : ∀ l : List UInt8, l.length ≤ (esc l).length ∧ (esc l).length ≤ 3 * l.length
  | [] => by simp [esc]
  | c :: l => by
    have h1 := escC_len c
    have h2 := esc_len l
    rw [esc_cons, List.length_append, List.length_cons]
    omega
theorem rv_two (m : Nat) (a b : UInt8) (t : List UInt8) : rv (m + 1) (92 :: a :: b :: t) = byte a b :: rv m t := by simp [rv]
theorem rv_one (m : Nat) (c : UInt8) (r : List UInt8) (h : c ≠ 92) : rv (m + 1) (c :: r) = c :: rv m r := by
  rw [rv.eq_def]
  simp only
  rw [if_neg h]
theorem rv_esc : ∀ (l : List UInt8) (n : Nat), l.length ≤ n → rv n (esc l) = l
  | [], n, h => by cases n <;> simp [esc, rv]
  | c :: l, n, h => by
    obtain ⟨m, rfl⟩ : ∃ m, n = m + 1 := ⟨n - 1, by simp at h; omega⟩
    have ih := rv_esc l m (by simpa using h)
    rw [esc_cons]
    unfold escC
    split
    · show rv (m + 1) (92 :: hexc (c.toNat / 16) :: hexc (c.toNat % 16) :: esc l) = _
      rw [rv_two, byte_of, ih]
    · rename_i ho
      have ho : odd c = false := by simpa using ho
      unfold odd at ho
      rw [decide_eq_false_iff_not] at ho
      show rv (m + 1) (c :: esc l) = _
      rw [rv_one _ _ _ (by intro e; subst e; exact ho (by decide)), ih]
theorem split_parts : ∀ (ss : List ByteArray) (s : ByteArray) (n : Nat), ss.length ≤ n → split n (parts (s :: ss)) = (s :: ss).map (fun x => esc (bs x))
  | [], s, n, h => by
    show split n (esc (bs s) ++ []) = _
    rw [List.append_nil]
    cases n with
    | zero => rfl
    | succ n => rw [split, if_neg (esc_no _).1]; rfl
  | t :: ss, s, n, h => by
    obtain ⟨m, rfl⟩ : ∃ m, n = m + 1 := ⟨n - 1, by simp at h; omega⟩
    have ih := split_parts ss t m (by simpa using h)
    show split (m + 1) (esc (bs s) ++ 42 :: (esc (bs t) ++ stars ss)) = _
    rw [split, if_pos (by simp), upto_at (esc_no _).1, past_at (esc_no _).1]
    show _ :: split m (parts (t :: ss)) = _
    rw [ih]; rfl
theorem stars_mem : ∀ {ss : List ByteArray} {b : UInt8}, b ∈ stars ss → b.toNat ≠ 40 ∧ b.toNat ≠ 41
  | [], b, h => by cases h
  | s :: r, b, h => by
    rw [stars] at h
    rcases List.mem_cons.1 h with rfl | h
    · decide
    · rcases List.mem_append.1 h with h | h
      · have := esc_mem h; omega
      · exact stars_mem h
theorem parts_mem {ss : List ByteArray} {b : UInt8} (h : b ∈ parts ss) : b.toNat ≠ 40 ∧ b.toNat ≠ 41 := by
  cases ss with
  | nil => cases h
  | cons s r =>
    rcases List.mem_append.1 h with h | h
    · have := esc_mem h; omega
    · exact stars_mem h
theorem stars_len : ∀ ss : List ByteArray, ss.length ≤ (stars ss).length ∧ (ss.any (fun s => decide (s.size ≠ 0)) = true → ss.length + 1 ≤ (stars ss).length)
  | [] => by simp [stars]
  | s :: r => by
    obtain ⟨h1, h2⟩ := stars_len r
    have h3 := (esc_len (bs s)).1
    have h4 : (bs s).length = s.size := rfl
    rw [stars, List.length_cons, List.length_cons, List.length_append, List.any_cons]
    refine ⟨by omega, fun h => ?_⟩
    rw [Bool.or_eq_true] at h
    rcases h with h | h
    · rw [decide_eq_true_eq] at h; omega
    · have := h2 h; omega
theorem parts_two {ss : List ByteArray} (h : subsOk ss = true) : parts ss ≠ [42] ∧ 42 ∈ parts ss := by
  unfold subsOk at h
  simp only [Bool.and_eq_true, decide_eq_true_eq] at h
  obtain ⟨⟨h1, h2⟩, h3, h4, h5⟩ := h
  match ss, h1 with
  | s :: t :: r, _ =>
    constructor
    · intro e
      have hl : (parts (s :: t :: r)).length = 1 := by rw [e]; rfl
      have h6 := stars_len (t :: r)
      have h7 := (esc_len (bs s)).1
      have h8 : (bs s).length = s.size := rfl
      rw [parts, List.length_append] at hl
      rw [List.any_cons, Bool.or_eq_true] at h5
      simp only [List.length_cons] at h6
      rcases h5 with h5 | h5
      · rw [decide_eq_true_eq] at h5; omega
      · have := h6.2 h5; omega
    · rw [parts, stars]; simp
theorem last_snoc (x : List UInt8) (c : UInt8) : last (x ++ [c]) = c.toNat := by unfold last; simp
theorem last_type {x : List UInt8} (h : isType x = true) : last x ≠ 62 ∧ last x ≠ 60 := by
  obtain ⟨c, r, hx, _⟩ := type_head h
  unfold last
  cases hl : x.getLast? with
  | none => exact ⟨by decide, by decide⟩
  | some b =>
    have := type_mem h (List.mem_of_getLast? hl)
    show b.toNat ≠ 62 ∧ b.toNat ≠ 60
    exact ⟨by omega, by omega⟩
theorem trim_keep {x : List UInt8} (h : isType x = true) : trim x = x := by
  unfold trim
  have : x.reverse.dropWhile ([60, 62].contains ·) = x.reverse := by
    cases hr : x.reverse with
    | nil => rfl
    | cons b r =>
      have hb : b ∈ x := by rw [← List.mem_reverse, hr]; simp
      have := type_mem h hb
      rw [List.dropWhile_cons, if_neg]
      simp only [List.contains_cons, List.contains_nil, Bool.or_false, Bool.or_eq_true, beq_iff_eq, not_or]
      exact ⟨fun e => by subst e; revert this; decide, fun e => by subst e; revert this; decide⟩
  rw [this, List.reverse_reverse]
theorem trim_snoc {x : List UInt8} {c : UInt8} (h : isType x = true) (hc : c = 60 ∨ c = 62) : trim (x ++ [c]) = x := by
  have hk := trim_keep h
  unfold trim at hk ⊢
  rw [List.reverse_append, List.reverse_singleton, List.singleton_append, List.dropWhile_cons, if_pos (by rcases hc with rfl | rfl <;> rfl)]
  exact hk
theorem mk_of (b : ByteArray) : mk (bs b) = b := rfl
theorem size0 {b : ByteArray} (h : b.size = 0) : b = mk [] := by
  have : bs b = [] := List.eq_nil_of_length_eq_zero h
  rw [← mk_of b, this]
theorem type_no {x : List UInt8} (h : isType x = true) : (61 : UInt8) ∉ x ∧ (41 : UInt8) ∉ x := by
  constructor
  · intro e; have := type_mem h e; revert this; decide
  · intro e; have := type_mem h e; revert this; decide
theorem map_rv (ss : List ByteArray) (h : ss.all (fun s => decide (s.size ≤ 60)) = true) : (ss.map (fun x => esc (bs x))).map (fun l => mk (rv 61 l)) = ss := by
  rw [List.map_map]
  conv => rhs; rw [← List.map_id ss]
  apply List.map_congr_left
  intro s hs
  have := of_decide_eq_true (List.all_eq_true.1 h s hs)
  show mk (rv 61 (esc (bs s))) = s
  have hl : (bs s).length = s.size := rfl
  rw [rv_esc _ _ (by omega)]
/-- An item's text is read as it is. -/
theorem item_pr {k : Int} {a v : ByteArray} {ss : List ByteArray} (hk : hasK k = false) (h : frm (.mk k a v ss []) = true) :
    item (bs a ++ (sign k ++ (parts ss ++ (esc (bs v) ++ (if k = 7 then [42] else []))))) = .mk k a v ss [] := by
  rw [frm, hk] at h
  simp only [Bool.false_eq_true, if_false, Bool.and_eq_true, decide_eq_true_eq] at h
  obtain ⟨⟨k1, k2⟩, hT, _, hR⟩ := h
  have hno := type_no hT
  have hl := last_type hT
  unfold item
  have hv0 : v.size = 0 → esc (bs v) = [] := fun h => by rw [show bs v = [] from List.eq_nil_of_length_eq_zero h]; rfl
  have hs0 : ss.length = 0 → ss = [] := fun h => List.eq_nil_of_length_eq_zero h
  have hvl : (bs v).length = v.size := rfl
  rcases (show k = 4 ∨ k = 5 ∨ k = 6 ∨ k = 7 ∨ k = 8 by omega) with rfl | rfl | rfl | rfl | rfl
  · simp only [Int.reduceEq, if_false, Bool.and_eq_true, decide_eq_true_eq] at hR
    obtain ⟨h1, h2⟩ := hR
    obtain rfl := hs0 h2
    have e : bs a ++ (sign 4 ++ (parts [] ++ (esc (bs v) ++ (if (4 : Int) = 7 then [42] else [])))) = bs a ++ 61 :: esc (bs v) := by simp [sign, parts]
    rw [e, upto_at hno.1, past_at hno.1]
    have hkd : kindOf (bs a) (esc (bs v)) = 4 := by
      unfold kindOf
      rw [if_neg hl.1, if_neg hl.2, if_neg (by intro e; have := (esc_no (bs v)).1; rw [e] at this; simp at this), if_neg (esc_no _).1]
    rw [hkd]
    unfold itemOf
    rw [trim_keep hT, if_neg (by omega), if_neg (by omega), rv_esc _ _ (by omega)]
  · simp only [Int.reduceEq, if_false, Bool.and_eq_true, decide_eq_true_eq] at hR
    obtain ⟨h1, h2⟩ := hR
    obtain rfl := hs0 h2
    have e : bs a ++ (sign 5 ++ (parts [] ++ (esc (bs v) ++ (if (5 : Int) = 7 then [42] else [])))) = (bs a ++ [62]) ++ 61 :: esc (bs v) := by simp [sign, parts]
    have hno2 : (61 : UInt8) ∉ bs a ++ [62] := by
      rw [List.mem_append, not_or]
      exact ⟨hno.1, by decide⟩
    rw [e, upto_at hno2, past_at hno2]
    have hkd : kindOf (bs a ++ [62]) (esc (bs v)) = 5 := by unfold kindOf; rw [last_snoc]; rfl
    rw [hkd]
    unfold itemOf
    rw [trim_snoc hT (Or.inr rfl), if_neg (by omega), if_neg (by omega), rv_esc _ _ (by omega)]
  · simp only [Int.reduceEq, if_false, Bool.and_eq_true, decide_eq_true_eq] at hR
    obtain ⟨h1, h2⟩ := hR
    obtain rfl := hs0 h2
    have e : bs a ++ (sign 6 ++ (parts [] ++ (esc (bs v) ++ (if (6 : Int) = 7 then [42] else [])))) = (bs a ++ [60]) ++ 61 :: esc (bs v) := by simp [sign, parts]
    have hno2 : (61 : UInt8) ∉ bs a ++ [60] := by
      rw [List.mem_append, not_or]
      exact ⟨hno.1, by decide⟩
    rw [e, upto_at hno2, past_at hno2]
    have hkd : kindOf (bs a ++ [60]) (esc (bs v)) = 6 := by unfold kindOf; rw [last_snoc]; rfl
    rw [hkd]
    unfold itemOf
    rw [trim_snoc hT (Or.inl rfl), if_neg (by omega), if_neg (by omega), rv_esc _ _ (by omega)]
  · simp only [if_true, Bool.and_eq_true, decide_eq_true_eq] at hR
    obtain ⟨h1, h2⟩ := hR
    obtain rfl := hs0 h2
    have e : bs a ++ (sign 7 ++ (parts [] ++ (esc (bs v) ++ (if (7 : Int) = 7 then [42] else [])))) = bs a ++ 61 :: [42] := by rw [hv0 h1]; simp [sign, parts]
    rw [e, upto_at hno.1, past_at hno.1]
    have hkd : kindOf (bs a) [42] = 7 := by
      unfold kindOf
      rw [if_neg hl.1, if_neg hl.2, if_pos rfl]
    rw [hkd]
    unfold itemOf
    rw [trim_keep hT, if_pos (Or.inl rfl), if_neg (by omega), ← size0 h1]
  · simp only [Int.reduceEq, if_true, if_false, Bool.and_eq_true, decide_eq_true_eq] at hR
    obtain ⟨h1, h2⟩ := hR
    have e : bs a ++ (sign 8 ++ (parts ss ++ (esc (bs v) ++ (if (8 : Int) = 7 then [42] else [])))) = bs a ++ 61 :: parts ss := by rw [hv0 h1]; simp [sign]
    rw [e, upto_at hno.1, past_at hno.1]
    have hkd : kindOf (bs a) (parts ss) = 8 := by
      unfold kindOf
      rw [if_neg hl.1, if_neg hl.2, if_neg (parts_two h2).1, if_pos (parts_two h2).2]
    rw [hkd]
    unfold itemOf
    have h3 := h2
    unfold subsOk at h3
    simp only [Bool.and_eq_true, decide_eq_true_eq] at h3
    obtain ⟨⟨q1, q2⟩, q3, q4, q5⟩ := h3
    match ss, q1 with
    | s :: r, _ =>
      rw [trim_keep hT, if_pos (Or.inr rfl), if_pos rfl, split_parts r s 20 (by simp at q2; omega), map_rv _ q4, ← size0 h1]
/-- An item's text has no bracket. -/
theorem item_no {k : Int} {a v : ByteArray} {ss : List ByteArray} (hT : isType (bs a) = true) : (41 : UInt8) ∉ bs a ++ (sign k ++ (parts ss ++ (esc (bs v) ++ (if k = 7 then [42] else [])))) := by
  intro h
  rcases List.mem_append.1 h with h | h
  · exact (type_no hT).2 h
  rcases List.mem_append.1 h with h | h
  · unfold sign at h
    repeat' split at h
    all_goals revert h; decide
  rcases List.mem_append.1 h with h | h
  · exact (parts_mem h).2 rfl
  rcases List.mem_append.1 h with h | h
  · exact (esc_no _).2 h
  split at h
  · revert h; decide
  · cases h
theorem pr_head (f : Fil) : ∃ t, pr f = 40 :: t := by
  obtain ⟨k, a, v, ss, ks⟩ := f
  exact ⟨_, rfl⟩
theorem lp_pr (rd : Nat → List UInt8 → Option (Fil × List UInt8)) (k : Int) (m : Nat) (r : List UInt8) : ∀ (rest : List Fil) (j : Nat) (done : List Fil), rest.length < j → 1 + tots done + tots rest ≤ m →
    (∀ f ∈ rest, ∀ m' r', tot f ≤ m' → m' + 1 ≤ m → rd m' (pr f ++ r') = some (f, r')) → lp rd k m j done (prs rest ++ 41 :: r) = some (.mk k (mk []) (mk []) [] (done ++ rest), r)
  | [], j, done, hj, hm, h => by
    obtain ⟨i, rfl⟩ : ∃ i, j = i + 1 := ⟨j - 1, by omega⟩
    rw [prs, List.nil_append, lp, if_pos (show (41 :: r).head? = some 41 from rfl), List.append_nil]; rfl
  | f :: rest, j, done, hj, hm, h => by
    obtain ⟨i, rfl⟩ : ∃ i, j = i + 1 := ⟨j - 1, by omega⟩
    rw [tots] at hm
    obtain ⟨t, ht⟩ := pr_head f
    rw [prs, List.append_assoc, lp, if_neg (by rw [ht]; simp), h f (by simp) _ _ (by omega) (by omega)]
    simp only
    rw [lp_pr rd k m r rest i (done ++ [f]) (by simp at hj; omega) (by rw [tots_app, tots, tots]; omega) (fun g hg => h g (by simp [hg])), List.append_assoc]
    rfl
theorem frms_mem {l : List Fil} (h : frms l = true) {f : Fil} (hf : f ∈ l) : frm f = true := by
  rw [frms_all] at h
  exact List.all_eq_true.1 h f hf
theorem tots_mem {l : List Fil} {f : Fil} (hf : f ∈ l) : tot f ≤ tots l := by
  induction l with
  | nil => cases hf
  | cons g r ih =>
    rw [tots]
    rcases List.mem_cons.1 hf with rfl | hf
    · omega
    · have := ih hf; omega
theorem rd_pr (f : Fil) : frm f = true → ∀ (n m : Nat) (r : List UInt8), tot f ≤ m → m ≤ n → rd n m (pr f ++ r) = some (f, r) := by
  refine ind (p := fun f => frm f = true → ∀ (n m : Nat) (r : List UInt8), tot f ≤ m → m ≤ n → rd n m (pr f ++ r) = some (f, r)) ?_ f
  intro k a v ss ks ih hf n m r hm hn
  have hp := tot_pos (.mk k a v ss ks)
  obtain ⟨n, rfl⟩ : ∃ i, n = i + 1 := ⟨n - 1, by omega⟩
  cases hk : hasK k with
  | true =>
    have hf2 := hf
    rw [frm, hk] at hf2
    simp only [if_true, Bool.and_eq_true, decide_eq_true_eq] at hf2
    obtain ⟨h3, ha, hv, hs, hks⟩ := hf2
    rw [tot, hk] at hm
    simp only [if_true] at hm
    have hss : ss = [] := List.eq_nil_of_length_eq_zero hs
    have ea := size0 ha
    have ev := size0 hv
    subst hss
    have hL : ∀ r', lp (rd n) k m m [] (prs ks ++ 41 :: r') = some (.mk k a v [] ks, r') := fun r' => by
      rw [lp_pr (rd n) k m r' ks m [] (by have := tots_len ks; omega) (by rw [tots]; omega) (fun f hf m' r'' h1 h2 => ih f hf (frms_mem hks hf) n m' r'' h1 (by omega)), List.nil_append]
      rw [show Fil.mk k (mk []) (mk []) [] ks = Fil.mk k a v [] ks by rw [ea, ev]]
    have hk7 : k ≠ 7 := by unfold hasK at hk; rw [decide_eq_true_eq] at hk; omega
    have e : pr (.mk k a v [] ks) ++ r = 40 :: (sign k ++ (prs ks ++ 41 :: r)) := by
      rw [pr, if_neg hk7, show bs a = [] from List.eq_nil_of_length_eq_zero ha, show bs v = [] from List.eq_nil_of_length_eq_zero hv]
      simp [parts, esc]
    rw [e, rd, if_neg (by simp; omega)]
    unfold hasK at hk
    rw [decide_eq_true_eq] at hk
    rcases (show k = 1 ∨ k = 2 ∨ k = 3 by omega) with rfl | rfl | rfl
    · exact hL r
    · exact hL r
    · exact hL r
  | false =>
    have hf2 := hf
    rw [frm, hk] at hf2
    simp only [Bool.false_eq_true, if_false, Bool.and_eq_true, decide_eq_true_eq] at hf2
    obtain ⟨hkk, hT, hks, _⟩ := hf2
    have hks0 : ks = [] := List.eq_nil_of_length_eq_zero hks
    subst hks0
    have e : pr (.mk k a v ss []) ++ r = 40 :: ((bs a ++ (sign k ++ (parts ss ++ (esc (bs v) ++ (if k = 7 then [42] else []))))) ++ 41 :: r) := by
      rw [pr, prs]
      simp
    obtain ⟨c, q, hc, h97, h122, _⟩ := type_head hT
    rw [e, rd, if_neg (by rw [tot] at hp hm; simp; split at hm <;> omega)]
    have hh : ∀ d : UInt8, (d.toNat < 97) → (List.tail (40 :: ((bs a ++ (sign k ++ (parts ss ++ (esc (bs v) ++ (if k = 7 then [42] else []))))) ++ 41 :: r))).head? ≠ some d := by
      intro d hd
      rw [List.tail_cons, hc]
      simp only [List.cons_append, List.head?_cons, ne_eq, Option.some.injEq]
      intro e; subst e; omega
    rw [if_neg (hh 38 (by decide)), if_neg (by
      intro h
      rw [List.tail_cons, hc] at h
      simp only [List.cons_append, List.head?_cons, Option.some.injEq] at h
      subst h; revert h122; decide), if_neg (hh 33 (by decide)), List.tail_cons, upto_at (item_no hT), past_at (item_no hT), item_pr hk hf]

theorem isF_frm {f : Fil} (h : isF f = true) : frm f = true ∧ tot f ≤ 20 := by
  unfold isF at h
  simp only [Bool.and_eq_true, decide_eq_true_eq] at h
  exact ⟨h.2, h.1⟩
theorem print_of {f : Fil} (h : isF f = true) : print f = pr f := by unfold print; rw [if_pos h]
theorem parse_pr {f : Fil} (h : isF f = true) : parse (pr f) = some f := by
  obtain ⟨h1, h2⟩ := isF_frm h
  have := rd_pr f h1 20 20 [] h2 (Nat.le_refl _)
  rw [List.append_nil] at this
  unfold parse
  rw [this]
  simp only
  rw [if_pos (print_of h)]
/-- What is read is a filter that is printed so. -/
theorem parse_some {s : List UInt8} {f : Fil} (h : parse s = some f) : isF f = true ∧ pr f = s := by
  unfold parse at h
  cases hr : rd 20 20 s with
  | none => rw [hr] at h; cases h
  | some q =>
    obtain ⟨g, r⟩ := q
    rw [hr] at h
    simp only at h
    split at h
    · rename_i hp
      injection h with h
      subst h
      cases hi : isF g with
      | true => rw [print_of hi] at hp; exact ⟨rfl, hp⟩
      | false =>
        unfold print at hp
        rw [hi] at hp
        simp only [Bool.false_eq_true, if_false] at hp
        subst hp
        rw [rd, if_pos (Or.inl (by simp))] at hr
        cases hr
    · cases h
/-- Of two filters' texts none is the other's with something behind it. -/
theorem pr_cut {f g : Fil} {r : List UInt8} (hf : isF f = true) (hg : isF g = true) (h : pr f = pr g ++ r) : r = [] := by
  have h1 := rd_pr f (isF_frm hf).1 20 20 [] (isF_frm hf).2 (Nat.le_refl _)
  have h2 := rd_pr g (isF_frm hg).1 20 20 r (isF_frm hg).2 (Nat.le_refl _)
  rw [List.append_nil, h, h2] at h1
  injection h1 with h1
  injection h1 with h1 h2
theorem parse_more {f : Fil} {r : List UInt8} (hf : isF f = true) (hr : r ≠ []) : parse (pr f ++ r) = none := by
  cases hp : parse (pr f ++ r) with
  | none => rfl
  | some g =>
    obtain ⟨h1, h2⟩ := parse_some hp
    exact absurd (pr_cut h1 hf h2) hr
theorem parse_less {f : Fil} {x r : List UInt8} (hf : isF f = true) (h : pr f = x ++ r) (hr : r ≠ []) : parse x = none := by
  cases hp : parse x with
  | none => rfl
  | some g =>
    obtain ⟨h1, h2⟩ := parse_some hp
    rw [← h2] at h
    exact absurd (pr_cut hf h1 h) hr
end Fi
end Go.Proofs.YticfemheneljmaaDoor
