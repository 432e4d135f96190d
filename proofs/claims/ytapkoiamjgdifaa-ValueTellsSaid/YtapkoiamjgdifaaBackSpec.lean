/- What is written is read: on the plain functions. -/
import Derived.Test.YtapkoiamjgdifaaRdSpec
namespace Go.Proofs.Ytapkoiamjgdifaa
set_option linter.unusedVariables false

mutual
def tags : El → Bool
  | .mk t _ ks => decide (t ≤ 255) && tagss ks
def tagss : List El → Bool
  | [] => true
  | k :: ks => tags k && tagss ks
end
theorem tagss_of : ∀ {l : List El}, (∀ k ∈ l, tags k = true) → tagss l = true
  | [], _ => by simp [tagss]
  | k :: l, h => by simp [tagss, h k (by simp), tagss_of (l := l) (fun x hx => h x (by simp [hx]))]
theorem Lies.tags {w : World} {P : Nat → Prop} {e : El} {cs : List Value} (h : Lies w P e cs) : tags e = true := by
  induction h with
  | mk tag body kids A c cs ht hb hl h3 hA hk ih =>
    rw [Proofs.Ytapkoiamjgdifaa.tags]
    simp only [Bool.and_eq_true, decide_eq_true_eq]
    refine ⟨ht, tagss_of fun k hkm => ?_⟩
    obtain ⟨i, hi, rfl⟩ := List.getElem_of_mem hkm
    exact ih i hi

theorem u8n (n : Nat) (h : n < 256) : n.toUInt8.toNat = n := by
  show n % 256 = n
  omega
theorem hd_encHead (t n : Nat) (r : List UInt8) (ht : t ≤ 255) (h31 : t % 32 ≠ 31) (hn : n ≤ 4000) : Sp.hd (encHead t n ++ r) = (2 + more n, n, 0) := by
  have e0 := u8n t (by omega)
  unfold encHead more
  by_cases h1 : n < 128
  · rw [if_pos h1, if_pos h1]
    simp only [List.cons_append, List.nil_append, Sp.hd, e0, u8n n (by omega)]
    rw [if_neg h31, if_pos h1]
  · rw [if_neg h1, if_neg h1]
    by_cases h2 : n < 256
    · rw [if_pos h2, if_pos h2]
      simp only [List.cons_append, List.nil_append, Sp.hd, e0]
      rw [if_neg h31, if_neg (by decide), if_neg (by decide), if_neg (by simp)]
      have e1 : Sp.num ((n.toUInt8 :: r).take ((129 : UInt8).toNat - 128)) = n := by
        show Sp.num ((n.toUInt8 :: r).take 1) = n
        simp only [List.take, Sp.num, List.foldl, u8n n h2]; omega
      rw [e1, if_neg (by omega)]
      rfl
    · rw [if_neg h2, if_neg h2]
      simp only [List.cons_append, List.nil_append, Sp.hd, e0]
      rw [if_neg h31, if_neg (by decide), if_neg (by decide), if_neg (by simp)]
      have e1 : Sp.num (((n / 256).toUInt8 :: n.toUInt8 :: r).take ((130 : UInt8).toNat - 128)) = n := by
        show Sp.num (((n / 256).toUInt8 :: n.toUInt8 :: r).take 2) = n
        have e2 : n.toUInt8.toNat = n % 256 := rfl
        simp only [List.take, Sp.num, List.foldl, u8n (n / 256) (by omega), e2]; omega
      rw [e1, if_neg (by omega)]
      rfl
/-- Cut off ahead of its end the head is short of bytes, or it is whole and the body isn't. -/
theorem hd_cut (t n : Nat) (r : List UInt8) (k : Nat) (ht : t ≤ 255) (h31 : t % 32 ≠ 31) (hn : n ≤ 4000) :
    Sp.hd ((encHead t n ++ r).take k) = (0, 0, 10) ∨ Sp.hd ((encHead t n ++ r).take k) = (2 + more n, n, 0) := by
  by_cases hk : k < 2 + more n
  · left
    have e0 := u8n t (by omega)
    rw [List.take_append_of_le_length (by rw [encHead_len]; omega)]
    unfold more at hk
    unfold encHead
    by_cases h1 : n < 128
    · rw [if_pos h1] at hk ⊢
      match k, hk with
      | 0, _ => simp [Sp.hd]
      | 1, _ => simp [Sp.hd, e0, h31]
      | k + 2, hk => omega
    · rw [if_neg h1] at hk ⊢
      by_cases h2 : n < 256
      · rw [if_pos h2] at hk ⊢
        match k, hk with
        | 0, _ => simp [Sp.hd]
        | 1, _ => simp [Sp.hd, e0, h31]
        | 2, _ => simp [Sp.hd, e0, h31]
        | k + 3, hk => omega
      · rw [if_neg h2] at hk ⊢
        match k, hk with
        | 0, _ => simp [Sp.hd]
        | 1, _ => simp [Sp.hd, e0, h31]
        | 2, _ => simp [Sp.hd, e0, h31]
        | 3, _ => simp [Sp.hd, e0, h31]
        | k + 4, hk => omega
  · right
    have : (encHead t n ++ r).take k = encHead t n ++ r.take (k - (2 + more n)) := by
      rw [List.take_append, encHead_len, List.take_of_length_le (by rw [encHead_len]; omega)]
    rw [this]
    exact hd_encHead t n _ ht h31 hn

theorem empty_of (b : ByteArray) (h : b.size = 0) : b = ⟨#[]⟩ := by
  cases b with
  | mk d =>
    congr 1
    exact Array.eq_empty_of_size_eq_zero h
theorem bytes_eta (b : ByteArray) : (⟨b.data.toList.toArray⟩ : ByteArray) = b := by cases b; simp
theorem bodyLen_kid {t : Nat} {b : ByteArray} {ks : List El} {k : El} (hk : k ∈ ks) : bodyLen k ≤ bodyLen (.mk t b ks) := by
  obtain ⟨i, hi, rfl⟩ := List.getElem_of_mem hk
  have h1 := encs_take hi
  have h2 := encs_take_le ks (i + 1)
  rw [h1, List.length_append] at h2
  have h3 := enc_len ks[i]
  have h4 : bodyLen (.mk t b ks) = b.size + (encs ks).length := rfl
  omega
theorem deps_kid : ∀ {ks : List El} {k : El}, k ∈ ks → dep k ≤ deps ks
  | [], _, h => by cases h
  | x :: ks, k, h => by
    rw [deps]
    rcases List.mem_cons.1 h with rfl | h
    · exact Nat.le_max_left _ _
    · exact Nat.le_trans (deps_kid h) (Nat.le_max_right _ _)
theorem formeds_kid : ∀ {ks : List El} {k : El}, formeds ks = true → k ∈ ks → formed k = true
  | [], _, _, h => by cases h
  | x :: ks, k, hf, h => by
    rw [formeds, Bool.and_eq_true] at hf
    rcases List.mem_cons.1 h with rfl | h
    · exact hf.1
    · exact formeds_kid hf.2 h
theorem tagss_kid : ∀ {ks : List El} {k : El}, tagss ks = true → k ∈ ks → tags k = true
  | [], _, _, h => by cases h
  | x :: ks, k, hf, h => by
    rw [tagss, Bool.and_eq_true] at hf
    rcases List.mem_cons.1 h with rfl | h
    · exact hf.1
    · exact tagss_kid hf.2 h
theorem enc_ge2 (e : El) : 2 ≤ (enc e).length := by rw [enc_len]; omega

def Back (e : El) : Prop := formed e = true → tags e = true → bodyLen e ≤ 4000 → ∀ f, dep e ≤ f → ∀ (tail : List UInt8) (a : Nat), rd f (enc e ++ tail) a = .ok e (enc e).length
theorem kids_back (f : Nat) : ∀ (ks : List El) (N a : Nat), (∀ k ∈ ks, ∀ (tail : List UInt8) (a : Nat), rd f (enc k ++ tail) a = .ok k (enc k).length) → (encs ks).length ≤ N → rdKids (rd f) N (encs ks) a = .ok ks
  | [], N, a, _, _ => by cases N <;> simp [rdKids, encs]
  | k :: ks, N, a, hk, hN => by
    have h2 := enc_ge2 k
    rw [encs, List.length_append] at hN
    cases N with
    | zero => omega
    | succ N =>
      rw [rdKids, encs, if_neg (by rw [List.length_append]; omega), hk k (by simp)]
      simp only []
      rw [List.drop_left, kids_back f ks N _ (fun x hx => hk x (by simp [hx])) (by omega)]
theorem back_any (e : El) : Back e := by
  refine El.ind ?_ e
  intro t b ks ih hf htg hB f hd tail a
  cases f with
  | zero => simp [dep] at hd
  | succ f =>
  have ht : t ≤ 255 := by rw [tags] at htg; simp at htg; exact htg.1
  have htk : tagss ks = true := by rw [tags] at htg; simp at htg; exact htg.2
  have h31 : t % 32 ≠ 31 := by
    intro h; rw [formed, if_pos h] at hf; cases hf
  rw [formed, if_neg h31] at hf
  have hn : b.size + (encs ks).length ≤ 4000 := hB
  have hbl : (b.data.toList ++ encs ks).length = b.size + (encs ks).length := by rw [List.length_append]; rfl
  have hq : rdHead (decide (f + 1 < 20)) (enc (.mk t b ks) ++ tail) = (2 + more (b.size + (encs ks).length), b.size + (encs ks).length, 0) := by
    rw [enc, List.append_assoc]
    refine rdHead_fit (hd_encHead t _ _ ht h31 hn) ?_
    rw [List.length_append, encHead_len, List.length_append, hbl]; omega
  have hhd : ((enc (.mk t b ks) ++ tail).headD 0).toNat = t := by
    rw [enc]
    unfold encHead
    split
    · exact u8n t (by omega)
    · split <;> exact u8n t (by omega)
  have hdrop : (enc (.mk t b ks) ++ tail).drop (2 + more (b.size + (encs ks).length)) = (b.data.toList ++ encs ks) ++ tail := by
    rw [enc, List.append_assoc, ← encHead_len t, List.drop_left]
  have hlen : (enc (.mk t b ks)).length = 2 + more (b.size + (encs ks).length) + (b.size + (encs ks).length) := enc_len (.mk t b ks)
  have htake : ((b.data.toList ++ encs ks) ++ tail).take (b.size + (encs ks).length) = b.data.toList ++ encs ks := by rw [← hbl, List.take_left]
  simp only [rd, hq, hhd, hdrop, htake]
  rw [if_neg (by simp), hlen]
  by_cases h2 : t / 32 % 2 = 0
  · rw [if_pos h2] at hf ⊢
    have hks : ks = [] := List.eq_nil_of_length_eq_zero (by simpa using hf)
    subst hks
    simp only [encs, List.append_nil, bytes_eta]
  · rw [if_neg h2] at hf ⊢
    by_cases h3 : b.size = 0
    · have hb := empty_of b h3
      subst hb
      rw [if_neg (by simpa using h3)] at hf
      have e1 : (⟨#[]⟩ : ByteArray).data.toList ++ encs ks = encs ks := by simp
      rw [e1, kids_back f ks _ _ (fun k hk => ih k hk (formeds_kid hf hk) (tagss_kid htk hk) (Nat.le_trans (bodyLen_kid (t := t) (b := ⟨#[]⟩) hk) hB) f (by
        have := deps_kid hk
        rw [dep] at hd
        omega)) (by show _ ≤ 0 + (encs ks).length; omega)]
    · rw [if_pos h3] at hf; cases hf
/-- Cut off: short of bytes. -/
theorem back_cut (e : El) (hf : formed e = true) (htg : tags e = true) (hB : bodyLen e ≤ 4000) (k a : Nat) (hk : k < (enc e).length) : rd 20 ((enc e).take k) a = .bad a 10 := by
  obtain ⟨t, b, ks⟩ := e
  have ht : t ≤ 255 := by rw [tags] at htg; simp at htg; exact htg.1
  have h31 : t % 32 ≠ 31 := by
    intro h; rw [formed, if_pos h] at hf; cases hf
  have hn : b.size + (encs ks).length ≤ 4000 := hB
  have hlen : (enc (.mk t b ks)).length = 2 + more (b.size + (encs ks).length) + (b.size + (encs ks).length) := enc_len (.mk t b ks)
  have hq : (rdHead (decide (19 + 1 < 20)) ((enc (.mk t b ks)).take k)).2.2 = 10 := by
    rcases hd_cut t (b.size + (encs ks).length) (b.data.toList ++ encs ks) k ht h31 hn with h | h
    · rw [enc, rdHead_short h]; rfl
    · rw [enc, rdHead_past h (by
        have : ((encHead t (b.size + (encs ks).length) ++ (b.data.toList ++ encs ks)).take k).length ≤ k := List.length_take_le _ _
        rw [hlen] at hk
        omega)]; rfl
  show rd (19 + 1) _ _ = _
  simp only [rd]
  rw [if_pos (by rw [hq]; decide), hq]
end Go.Proofs.Ytapkoiamjgdifaa
