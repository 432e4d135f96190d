/- What is printed is read: plain facts about names and their texts. -/
import Derived.Test.YtfgcmljlamodbaaNCaseSp
namespace Go.Proofs.Ytfgcmljlamodbaa
set_option linter.unusedVariables false
set_option maxRecDepth 100000
namespace Nm

/-- x cuts nothing, whatever is behind it. -/
def Flat (sep : UInt8) (x : List UInt8) : Prop := ∀ r, cuts sep (x ++ r) = cons1 x (cuts sep r)
theorem flat_nil (sep : UInt8) : Flat sep [] := fun r => (cons1_nil (cuts_ne sep r)).symm
theorem flat_app {sep : UInt8} {x y : List UInt8} (hx : Flat sep x) (hy : Flat sep y) : Flat sep (x ++ y) := fun r => by
  rw [List.append_assoc, hx, hy, cons1_cons1]
theorem flat_one {sep c : UInt8} (h1 : c ≠ 92) (h2 : c ≠ sep) : Flat sep [c] := fun r => by
  show cuts sep (c :: r) = _
  rw [cuts_cons, if_neg h1, if_neg h2]
theorem flat_esc (sep d : UInt8) : Flat sep [92, d] := fun r => by
  show cuts sep (92 :: d :: r) = _
  rw [cuts_cons, if_pos rfl]
theorem flat_cons {sep c : UInt8} {x : List UInt8} (h1 : c ≠ 92) (h2 : c ≠ sep) (hx : Flat sep x) : Flat sep (c :: x) := flat_app (flat_one h1 h2) hx
theorem flat_all {sep : UInt8} : ∀ {x : List UInt8}, (∀ c ∈ x, c ≠ 92 ∧ c ≠ sep) → Flat sep x
  | [], _ => flat_nil sep
  | c :: r, h => flat_cons (h c (by simp)).1 (h c (by simp)).2 (flat_all (fun d hd => h d (by simp [hd])))
theorem flat_whole {sep : UInt8} {x : List UInt8} (h : Flat sep x) : cuts sep x = [x] := by
  have := h []
  rw [List.append_nil] at this
  rw [this]
  show cons1 x [[]] = [x]
  simp [cons1]
theorem cuts_join (sep : UInt8) (hs : sep ≠ 92) : ∀ (l : List (List UInt8)), l ≠ [] → (∀ x ∈ l, Flat sep x) → cuts sep (join sep l) = l
  | [], h, _ => absurd rfl h
  | [x], _, h => flat_whole (h x (by simp))
  | x :: y :: r, _, h => by
    rw [join, h x (by simp), cuts_cons, if_neg hs, if_pos rfl, cuts_join sep hs (y :: r) (by simp) (fun z hz => h z (by simp [hz]))]
    simp [cons1]
theorem flat_join {sep s : UInt8} (h1 : s ≠ 92) (h2 : s ≠ sep) : ∀ (l : List (List UInt8)), (∀ x ∈ l, Flat sep x) → Flat sep (join s l)
  | [], _ => flat_nil sep
  | [x], h => h x (by simp)
  | x :: y :: r, h => by
    rw [join]
    exact flat_app (h x (by simp)) (flat_cons h1 h2 (flat_join h1 h2 (y :: r) (fun z hz => h z (by simp [hz]))))
theorem join_app (sep : UInt8) (l m : List (List UInt8)) (hl : l ≠ []) (hm : m ≠ []) : join sep (l ++ m) = join sep l ++ sep :: join sep m := by
  induction l with
  | nil => exact absurd rfl hl
  | cons x r ih =>
    cases r with
    | nil =>
      cases m with
      | nil => exact absurd rfl hm
      | cons y q => rfl
    | cons y q =>
      show join sep (x :: y :: (q ++ m)) = _
      rw [join, join]
      have := ih (by simp)
      rw [show y :: (q ++ m) = (y :: q) ++ m from rfl, this]
      simp
/-- The hexadecimal digits, small and large. -/
def hexU (n : Nat) : UInt8 := if n < 10 then (48 + n).toUInt8 else (55 + n).toUInt8
theorem hex_all : (List.range 16).all (fun n => decide (dig (hexc n) = some n ∧ dig (hexU n) = some n ∧ (hexc n ≠ 92 ∧ hexc n ≠ 43 ∧ hexc n ≠ 44) ∧ (hexU n ≠ 92 ∧ hexU n ≠ 43 ∧ hexU n ≠ 44))) = true := by kernel_rfl
theorem hex_of {n : Nat} (h : n < 16) : dig (hexc n) = some n ∧ dig (hexU n) = some n ∧ (hexc n ≠ 92 ∧ hexc n ≠ 43 ∧ hexc n ≠ 44) ∧ (hexU n ≠ 92 ∧ hexU n ≠ 43 ∧ hexU n ≠ 44) :=
  of_decide_eq_true (List.all_eq_true.1 hex_all n (by simp [h]))
theorem flat_hex {sep a b : UInt8} (h1 : b ≠ 92) (h2 : b ≠ sep) : Flat sep [92, a, b] := flat_app (flat_esc sep a) (flat_one h1 h2)
theorem unB_hex (f : Bool) {a b : UInt8} {x y : Nat} (ha : dig a = some x) (hb : dig b = some y) (r : List UInt8) : unB special f (92 :: a :: b :: r) = some ((16 * x + y).toUInt8, 3) := by
  rw [unB_cons, if_pos rfl]
  show (if escOk a then some (a, 2) else match dig a, dig b with
      | some h, some l => some ((16 * h + l).toUInt8, 3)
      | _, _ => none) = _
  rw [dig_notOk ha, ha, hb]
  rfl
theorem special_ok {c : UInt8} (h : special c = true) : escOk c = true := by
  unfold escOk; rw [h]; rfl
theorem escB_ne (f t : Bool) (c : UInt8) : escB f t c ≠ [] := by
  unfold escB
  split
  · simp
  · split
    · simp
    · simp
theorem unB_ok (f : Bool) {c : UInt8} (h : escOk c = true) (r : List UInt8) : unB special f (92 :: c :: r) = some (c, 2) := by
  rw [unB_cons, if_pos rfl]
  show (if escOk c then some (c, 2) else _) = _
  rw [h]; rfl
theorem byte_parts (c : UInt8) : (16 * (c.toNat / 16) + c.toNat % 16).toUInt8 = c := by
  have h := c.toNat_lt
  refine UInt8.toNat.inj ?_
  rw [UInt8.toNat_ofNat']
  omega
/-- One byte's text is read as that byte. -/
theorem unB_escB (f t : Bool) (c : UInt8) (r : List UInt8) (hr : t = false → r ≠ []) : unB special f (escB f t c ++ r) = some (c, (escB f t c).length) := by
  have hlt := c.toNat_lt
  unfold escB
  split
  · rename_i h
    have h1 := (hex_of (n := c.toNat / 16) (by omega)).1
    have h2 := (hex_of (n := c.toNat % 16) (by omega)).1
    show unB special f (92 :: hexc (c.toNat / 16) :: hexc (c.toNat % 16) :: r) = _
    rw [unB_hex f h1 h2, byte_parts]; rfl
  · rename_i hc
    split
    · rename_i h
      have hok : escOk c = true := by
        unfold escOk
        rw [Bool.or_eq_true, Bool.or_eq_true, Bool.and_eq_true, Bool.and_eq_true, decide_eq_true_eq, decide_eq_true_eq] at h
        rw [Bool.or_eq_true, decide_eq_true_eq]
        rcases h with (h | ⟨_, h⟩) | ⟨_, h⟩
        · exact Or.inl h
        · exact Or.inr (by omega)
        · exact Or.inr (by omega)
      exact unB_ok f hok r
    · rename_i h
      have h9 : (special c || f && decide (c.toNat = 35 ∨ c.toNat = 32) || t && decide (c.toNat = 32)) = false := by simpa using h
      rw [Bool.or_eq_false_iff, Bool.or_eq_false_iff] at h9
      obtain ⟨⟨a1, a2⟩, a3⟩ := h9
      have h92 : c ≠ 92 := by
        intro e
        subst e
        revert a1
        decide
      show unB special f (c :: r) = _
      rw [unB_cons, if_neg h92, a1, a2]
      have a4 : (r.isEmpty && decide (c.toNat = 32)) = false := by
        cases t with
        | true => 
          have : decide (c.toNat = 32) = false := by simpa using a3
          rw [this, Bool.and_false]
        | false =>
          have h0 := hr rfl
          cases r with
          | nil => exact absurd rfl h0
          | cons _ _ => rfl
      rw [a4]; rfl
theorem escV_ne {f : Bool} {l : List UInt8} (h : l ≠ []) : escV f l ≠ [] := by
  cases l with
  | nil => exact absurd rfl h
  | cons c r =>
    rw [escV]
    have := escB_ne f r.isEmpty c
    intro e
    exact this (List.append_eq_nil_iff.1 e).1
theorem unVal_escV : ∀ (f : Bool) (l : List UInt8), unVal special f (escV f l) = some l
  | f, [] => rfl
  | f, c :: r => by
    rw [escV, unVal_step (unB_escB f r.isEmpty c (escV false r) (fun h => escV_ne (fun e => by rw [e] at h; cases h))), List.drop_left, unVal_escV false r]
    rfl
theorem escB_flat {sep : UInt8} (hs : sep = 43 ∨ sep = 44) (f t : Bool) (c : UInt8) : Flat sep (escB f t c) := by
  have hlt := c.toNat_lt
  unfold escB
  split
  · have h2 := (hex_of (n := c.toNat % 16) (by omega)).2.2.1
    refine flat_hex h2.1 ?_
    rcases hs with rfl | rfl
    · exact h2.2.1
    · exact h2.2.2
  · split
    · exact flat_esc sep c
    · rename_i h
      have a1 : special c = false := by
        cases h9 : special c with
        | false => rfl
        | true => exact absurd (by rw [h9]; rfl) h
      refine flat_one ?_ ?_
      · intro e
        subst e
        revert a1
        decide
      · intro e
        subst e
        rcases hs with rfl | rfl
        · revert a1
          decide
        · revert a1
          decide
theorem escV_flat {sep : UInt8} (hs : sep = 43 ∨ sep = 44) : ∀ (f : Bool) (l : List UInt8), Flat sep (escV f l)
  | f, [] => flat_nil sep
  | f, c :: r => flat_app (escB_flat hs f r.isEmpty c) (escV_flat hs false r)
theorem okAva_type {a : Ava} (h : okAva a = true) : isType (bs a.1) = true := by
  unfold okAva at h
  exact (Bool.and_eq_true _ _ ▸ h).1
theorem prAva_flat {sep : UInt8} (hs : sep = 43 ∨ sep = 44) {a : Ava} (h : okAva a = true) : Flat sep (prAva a) := by
  have ht := isType_mem (okAva_type h)
  refine flat_app (flat_all (fun c hc => ?_)) (flat_cons (by decide) ?_ (escV_flat hs true _))
  · have := typeC_ne (ht c hc)
    rcases hs with rfl | rfl
    · exact ⟨this.1, this.2.1⟩
    · exact ⟨this.1, this.2.2.1⟩
  · rcases hs with rfl | rfl <;> decide
theorem sm_type {c : UInt8} (h : typeC c = true) : sm c = c := by
  unfold typeC at h
  rw [decide_eq_true_eq] at h
  unfold sm
  rw [if_neg (by omega)]
theorem lower_type {l : List UInt8} (h : ∀ c ∈ l, typeC c = true) : lower l = l := by
  unfold lower
  exact (List.map_congr_left (fun c hc => sm_type (h c hc))).trans (List.map_id' l)
theorem mk_bs (b : ByteArray) : mk (bs b) = b := rfl
theorem ava_prAva {a : Ava} (h : okAva a = true) : ava (prAva a) = some a := by
  have ht := isType_mem (okAva_type h)
  unfold prAva
  rw [ava_plain (fun c hc => (typeC_ne (ht c hc)).2.2.2) (unVal_escV true _), lower_type ht]
theorem avas_map : ∀ (r : List Ava), (∀ a ∈ r, okAva a = true) → avas (r.map prAva) = some r
  | [], _ => rfl
  | a :: r, h => by
    rw [List.map_cons, avas_cons, ava_prAva (h a (by simp)), avas_map r (fun b hb => h b (by simp [hb]))]
theorem rdn_prRdn {r : List Ava} (h : isRdn r = true) : rdn (prRdn r) = some r := by
  obtain ⟨h1, h4, ho⟩ := isRdn_all h
  have hne : r.map prAva ≠ [] := by
    intro e
    have := congrArg List.length e
    rw [List.length_map] at this
    simp at this
    subst this
    simp at h1
  rw [rdn_of (r := r) (by
    unfold prRdn
    rw [cuts_join 43 (by decide) _ hne (fun x hx => by
      obtain ⟨a, ha, rfl⟩ := List.mem_map.1 hx
      exact prAva_flat (Or.inl rfl) (ho a ha)), avas_map r ho]), if_pos h]
theorem prRdn_flat {r : List Ava} (h : isRdn r = true) : Flat 44 (prRdn r) := by
  obtain ⟨h1, h4, ho⟩ := isRdn_all h
  exact flat_join (by decide) (by decide) _ (fun x hx => by
    obtain ⟨a, ha, rfl⟩ := List.mem_map.1 hx
    exact prAva_flat (Or.inr rfl) (ho a ha))
theorem rdns_map : ∀ (d : List (List Ava)), (∀ r ∈ d, isRdn r = true) → rdns (d.map prRdn) = some d
  | [], _ => rfl
  | r :: d, h => by
    rw [List.map_cons, rdns_cons, rdn_prRdn (h r (by simp)), rdns_map d (fun b hb => h b (by simp [hb]))]
theorem prAva_ne (a : Ava) : prAva a ≠ [] := by unfold prAva; simp
theorem prRdn_ne {r : List Ava} (h : isRdn r = true) : prRdn r ≠ [] := by
  obtain ⟨h1, h4, ho⟩ := isRdn_all h
  match r with
  | [a] => exact prAva_ne a
  | a :: b :: q =>
    show prAva a ++ 43 :: _ ≠ []
    simp
theorem prDn_ne {d : List (List Ava)} (h : ∀ r ∈ d, isRdn r = true) (hd : d ≠ []) : prDn d ≠ [] := by
  match d with
  | [] => exact absurd rfl hd
  | [r] => exact prRdn_ne (h r (by simp))
  | a :: b :: q =>
    show prRdn a ++ 44 :: _ ≠ []
    simp
/-- The text of parts is read as those parts, if they aren't too many. -/
theorem dnm_parts {d : List (List Ava)} (h : ∀ r ∈ d, isRdn r = true) (hd : d ≠ []) : dnm (prDn d) = if d.length ≤ 8 then some d else none := by
  have hne : d.map prRdn ≠ [] := by
    intro e
    exact hd (List.map_eq_nil_iff.1 e)
  rw [dnm_of (d := d) (prDn_ne h hd) (by
    unfold prDn
    rw [cuts_join 44 (by decide) _ hne (fun x hx => by
      obtain ⟨r, hr, rfl⟩ := List.mem_map.1 hx
      exact prRdn_flat (h r hr)), rdns_map d h])]
  unfold isDn
  rw [List.all_eq_true.2 h, Bool.and_true]
  simp
theorem dnm_prDn {d : List (List Ava)} (h : isDn d = true) : dnm (prDn d) = some d := by
  obtain ⟨h8, ho⟩ := isDn_all h
  by_cases hd : d = []
  · subst hd; rfl
  · rw [dnm_parts ho hd, if_pos h8]
theorem prDn_nil {d : List (List Ava)} (h : isDn d = true) : prDn d = [] ↔ d = [] := by
  constructor
  · intro e
    refine Classical.byContradiction fun hd => prDn_ne (isDn_all h).2 hd e
  · intro e
    subst e; rfl
/-- Two names behind one another. -/
theorem dnm_two {d e : List (List Ava)} (hd : isDn d = true) (he : isDn e = true) (h1 : d ≠ []) (h2 : e ≠ []) : dnm (prDn d ++ 44 :: prDn e) = if d.length + e.length ≤ 8 then some (d ++ e) else none := by
  have : prDn d ++ 44 :: prDn e = prDn (d ++ e) := by
    unfold prDn
    rw [List.map_append, join_app 44 _ _ (by simpa using h1) (by simpa using h2)]
  rw [this, dnm_parts (fun r hr => by
    rcases List.mem_append.1 hr with hr | hr
    · exact (isDn_all hd).2 r hr
    · exact (isDn_all he).2 r hr) (by simp [h1]), List.length_append]
/-- A value of three bytes, each as its two digits. -/
def hex3 (a b c : UInt8) : List UInt8 := [92, hexU (a.toNat / 16), hexc (a.toNat % 16), 92, hexU (b.toNat / 16), hexc (b.toNat % 16), 92, hexU (c.toNat / 16), hexc (c.toNat % 16)]
theorem hex_byte (f : Bool) (a : UInt8) (r : List UInt8) : unVal special f (92 :: hexU (a.toNat / 16) :: hexc (a.toNat % 16) :: r) = (unVal special false r).map (a :: ·) := by
  have hlt := a.toNat_lt
  have h1 := (hex_of (n := a.toNat / 16) (by omega)).2.1
  have h2 := (hex_of (n := a.toNat % 16) (by omega)).1
  rw [unVal_step (unB_hex f h1 h2 r), byte_parts]
  rfl
theorem hex3_val (a b c : UInt8) : unVal special true (hex3 a b c) = some [a, b, c] := by
  unfold hex3
  rw [hex_byte, hex_byte, hex_byte]
  rfl
theorem hex3_flat {sep : UInt8} (hs : sep = 43 ∨ sep = 44) (a b c : UInt8) : Flat sep (hex3 a b c) := by
  have one : ∀ x : UInt8, Flat sep [92, hexU (x.toNat / 16), hexc (x.toNat % 16)] := fun x => by
    have hlt := x.toNat_lt
    have h2 := (hex_of (n := x.toNat % 16) (by omega)).2.2.1
    refine flat_hex h2.1 ?_
    rcases hs with rfl | rfl
    · exact h2.2.1
    · exact h2.2.2
  exact flat_app (one a) (flat_app (one b) (one c))
/-- cn=v, v of three bytes. -/
def cn3 (a b c : UInt8) : List (List Ava) := [[(mk [99, 110], mk [a, b, c])]]
theorem cn3_ok (a b c : UInt8) : isDn (cn3 a b c) = true := by
  have h1 : okAva (mk [99, 110], mk [a, b, c]) = true := by
    unfold okAva
    have e1 : isType (bs (mk [99, 110])) = true := by decide
    have e2 : (mk [a, b, c]).size = 3 := rfl
    rw [e1, e2]; rfl
  have h2 : isRdn [(mk [99, 110], mk [a, b, c])] = true := by
    unfold isRdn
    rw [okFrom, h1]
    rfl
  unfold isDn cn3
  simp [h2]
theorem cn3_back (a b c : UInt8) : dnm (prDn (cn3 a b c)) = some (cn3 a b c) := dnm_prDn (cn3_ok a b c)
theorem cn3_hex (a b c : UInt8) : dnm ([99, 110, 61] ++ hex3 a b c) = some (cn3 a b c) := by
  have hr : isRdn [(mk [99, 110], mk [a, b, c])] = true := (isDn_all (cn3_ok a b c)).2 _ (by simp [cn3])
  have f : ∀ sep : UInt8, sep = 43 ∨ sep = 44 → Flat sep ([99, 110, 61] ++ hex3 a b c) := fun sep hs =>
    flat_app (flat_all (fun x hx => by
      simp only [List.mem_cons, List.not_mem_nil, or_false] at hx
      rcases hs with rfl | rfl <;> rcases hx with rfl | rfl | rfl <;> decide)) (hex3_flat hs a b c)
  have ha : ava ([99, 110, 61] ++ hex3 a b c) = some (mk [99, 110], mk [a, b, c]) :=
    ava_plain (q := [99, 110]) (by decide) (hex3_val a b c)
  have h1 : rdn ([99, 110, 61] ++ hex3 a b c) = some [(mk [99, 110], mk [a, b, c])] := by
    rw [rdn_of (r := [(mk [99, 110], mk [a, b, c])]) (by rw [flat_whole (f 43 (Or.inl rfl)), avas_cons, ha]; rfl), if_pos hr]
  rw [dnm_of (d := cn3 a b c) (by simp) (by rw [flat_whole (f 44 (Or.inr rfl)), rdns_cons, h1]; rfl), if_pos (cn3_ok a b c)]
end Nm
end Go.Proofs.Ytfgcmljlamodbaa
