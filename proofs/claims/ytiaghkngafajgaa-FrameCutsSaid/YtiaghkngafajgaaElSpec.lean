/- Plain functions on elements: whether they are formed, how deep, how long, their bytes. -/
import Derived.Test.YtiaghkngafajgaaEl
namespace Go.Proofs.Ytiaghkngafajgaa
set_option linter.unusedVariables false

mutual
def formed : El → Bool
  | .mk t b ks => if t % 32 = 31 then false else if t / 32 % 2 = 0 then decide (ks.length = 0) else if b.size ≠ 0 then false else formeds ks
def formeds : List El → Bool
  | [] => true
  | k :: ks => formed k && formeds ks
end
mutual
def dep : El → Nat
  | .mk _ _ ks => deps ks + 1
def deps : List El → Nat
  | [] => 0
  | k :: ks => max (dep k) (deps ks)
end
def anyD (d : Nat) : List El → Bool
  | [] => false
  | k :: ks => decide (d < dep k) || anyD d ks
def more (n : Nat) : Nat := if n < 128 then 0 else if n < 256 then 1 else 2
mutual
def tsz : El → Nat
  | .mk _ b ks => tszs b.size ks
def tszs : Nat → List El → Nat
  | n, [] => n
  | n, k :: ks => if 4000 < n then n else tszs (n + (2 + more (tsz k) + tsz k)) ks
end
def encHead (t n : Nat) : List UInt8 :=
  if n < 128 then [t.toUInt8, n.toUInt8] else if n < 256 then [t.toUInt8, 129, n.toUInt8] else [t.toUInt8, 130, (n / 256).toUInt8, n.toUInt8]
mutual
def enc : El → List UInt8
  | .mk t b ks => encHead t (b.size + (encs ks).length) ++ (b.data.toList ++ encs ks)
def encs : List El → List UInt8
  | [] => []
  | k :: ks => enc k ++ encs ks
end
def bodyLen : El → Nat
  | .mk _ b ks => b.size + (encs ks).length
/-- P1.3: the bytes, the error. -/
def wr (e : El) : List UInt8 × Nat := if formed e = false then ([], 14) else if 20 < dep e then ([], 12) else if 4000 < bodyLen e then ([], 13) else (enc e, 0)
/-- No deeper than d, no more kids than K in a row, no body longer than L. -/
def fitS (K L : Nat) : Nat → El → Bool
  | 0, _ => false
  | d + 1, .mk t b ks => decide (ks.length ≤ K) && (decide (b.size ≤ L) && ks.all (fitS K L d))

theorem formeds_drop {l : List El} {i : Nat} (h : i < l.length) : formeds (l.drop i) = (formed l[i] && formeds (l.drop (i + 1))) := by
  rw [List.drop_eq_getElem_cons h, formeds]
theorem anyD_drop {d : Nat} {l : List El} {i : Nat} (h : i < l.length) : anyD d (l.drop i) = (decide (d < dep l[i]) || anyD d (l.drop (i + 1))) := by
  rw [List.drop_eq_getElem_cons h, anyD]
theorem tszs_drop {n : Nat} {l : List El} {i : Nat} (h : i < l.length) : tszs n (l.drop i) = if 4000 < n then n else tszs (n + (2 + more (tsz l[i]) + tsz l[i])) (l.drop (i + 1)) := by
  rw [List.drop_eq_getElem_cons h, tszs]
theorem encs_take {l : List El} {i : Nat} (h : i < l.length) : encs (l.take (i + 1)) = encs (l.take i) ++ enc l[i] := by
  have key : ∀ (a b : List El), encs (a ++ b) = encs a ++ encs b := by
    intro a b
    induction a with
    | nil => simp [encs]
    | cons x a ih => simp [encs, ih]
  rw [List.take_succ_eq_append_getElem h, key]
  simp [encs]
theorem encs_app : ∀ (a b : List El), encs (a ++ b) = encs a ++ encs b
  | [], b => by simp [encs]
  | x :: a, b => by simp [encs, encs_app a b]
theorem encs_take_le (l : List El) (i : Nat) : (encs (l.take i)).length ≤ (encs l).length := by
  have h := congrArg (fun x => (encs x).length) (List.take_append_drop i l)
  simp only [encs_app, List.length_append] at h
  omega
theorem anyD_deps (d : Nat) : ∀ l : List El, anyD d l = decide (d < deps l)
  | [] => by simp [anyD, deps]
  | k :: l => by
    rw [anyD, anyD_deps d l, deps]
    rw [Bool.eq_iff_iff]; simp; omega
theorem encHead_len (t n : Nat) : (encHead t n).length = 2 + more n := by
  unfold encHead more
  split
  · rfl
  · split <;> rfl
theorem enc_len (e : El) : (enc e).length = 2 + more (bodyLen e) + bodyLen e := by
  cases e with
  | mk t b ks =>
    rw [enc, List.length_append, encHead_len, bodyLen, List.length_append]
    have : b.data.toList.length = b.size := rfl
    omega
/-- The length that is reckoned, with its stop, is the true one where that is no greater than MaxSize; else it is above. -/
theorem tsz_body (e : El) : (bodyLen e ≤ 4000 → tsz e = bodyLen e) ∧ (4000 < bodyLen e → 4000 < tsz e) := by
  refine El.ind (p := fun e => (bodyLen e ≤ 4000 → tsz e = bodyLen e) ∧ (4000 < bodyLen e → 4000 < tsz e)) ?_ e
  intro t b ks ih
  have key : ∀ (l : List El) (n : Nat), (∀ k ∈ l, (bodyLen k ≤ 4000 → tsz k = bodyLen k) ∧ (4000 < bodyLen k → 4000 < tsz k)) →
      (n + (encs l).length ≤ 4000 → tszs n l = n + (encs l).length) ∧ (4000 < n + (encs l).length → 4000 < tszs n l) := by
    intro l
    induction l with
    | nil => intro n _; simp [tszs, encs]
    | cons k l ihl =>
      intro n hl
      have hk := hl k (by simp)
      have hr := fun m => ihl m (fun x hx => hl x (by simp [hx]))
      have he := enc_len k
      rw [tszs, encs, List.length_append]
      by_cases h1 : 4000 < n
      · rw [if_pos h1]; exact ⟨fun h => by omega, fun _ => h1⟩
      · rw [if_neg h1]
        by_cases h2 : bodyLen k ≤ 4000
        · rw [hk.1 h2]
          have h3 := hr (n + (2 + more (bodyLen k) + bodyLen k))
          exact ⟨fun h => by rw [h3.1 (by omega)]; omega, fun h => h3.2 (by omega)⟩
        · have h3 := hk.2 (by omega)
          refine ⟨fun h => by omega, fun _ => ?_⟩
          have h4 := hr (n + (2 + more (tsz k) + tsz k))
          by_cases h5 : n + (2 + more (tsz k) + tsz k) + (encs l).length ≤ 4000
          · omega
          · exact h4.2 (by omega)
  have := key ks b.size ih
  simp only [bodyLen, tsz]
  exact this
theorem more_le (n : Nat) : more n ≤ 2 := by
  unfold more
  split
  · omega
  · split <;> omega
theorem fitS_open {K L d t : Nat} {b : ByteArray} {ks : List El} (h : fitS K L (d + 1) (.mk t b ks) = true) : ks.length ≤ K ∧ b.size ≤ L ∧ ∀ i (hi : i < ks.length), fitS K L d ks[i] = true := by
  simp only [fitS, Bool.and_eq_true, decide_eq_true_eq, List.all_eq_true] at h
  exact ⟨h.1, h.2.1, fun i hi => h.2.2 _ (List.getElem_mem hi)⟩
theorem fitS_zero {K L : Nat} {e : El} (h : fitS K L 0 e = true) : False := by simp [fitS] at h
theorem fitS_more {K L K' L' : Nat} (hK : K ≤ K') (hL : L ≤ L') : ∀ {d d' : Nat} (_ : d ≤ d') {e : El}, fitS K L d e = true → fitS K' L' d' e = true
  | 0, _, _, e, h => absurd h (by simp [fitS])
  | d + 1, 0, hd, e, h => absurd hd (by omega)
  | d + 1, d' + 1, hd, .mk t b ks, h => by
    simp only [fitS, Bool.and_eq_true, decide_eq_true_eq, List.all_eq_true] at h ⊢
    exact ⟨by omega, by omega, fun k hk => fitS_more hK hL (d := d) (by omega) (h.2.2 k hk)⟩
theorem tsz_bound {K L : Nat} : ∀ {d : Nat} {e : El}, fitS K L d e = true → tsz e ≤ L + 4004 * d
  | 0, e, h => (fitS_zero h).elim
  | d + 1, .mk t b ks, h => by
    obtain ⟨_, hb, hk⟩ := fitS_open h
    have key : ∀ (l : List El) (n : Nat), (∀ k ∈ l, tsz k ≤ L + 4004 * d) → n ≤ L + 4004 * (d + 1) → tszs n l ≤ L + 4004 * (d + 1) := by
      intro l
      induction l with
      | nil => intro n _ h; simpa [tszs] using h
      | cons k l ihl =>
        intro n hl hn
        rw [tszs]
        by_cases h1 : 4000 < n
        · rw [if_pos h1]; exact hn
        · rw [if_neg h1]
          have := hl k (by simp)
          have hm := more_le (tsz k)
          exact ihl _ (fun x hx => hl x (by simp [hx])) (by omega)
    rw [tsz]
    refine key ks b.size (fun k hkm => ?_) (by omega)
    obtain ⟨i, hi, rfl⟩ := List.getElem_of_mem hkm
    exact tsz_bound (hk i hi)
end Go.Proofs.Ytiaghkngafajgaa
