import Derived.Test.YtconghaebebncaaGreatDoorZT8
namespace Go.Proofs.YtconghaebebncaaGreatDoor.Ms
open _root_.Go.Proofs.YtconghaebebncaaGreatDoor.Nm _root_.Go.Proofs.YtconghaebebncaaGreatDoor.Be
set_option linter.unusedVariables false
set_option maxRecDepth 100000
theorem fil_open {f : Fil} (h : Fi.isF f = true) : Fi.frm f = true ∧ Fi.tot f ≤ 20 := by
 unfold Fi.isF at h
 rw [Bool.and_eq_true, decide_eq_true_eq] at h
 exact ⟨h.2, h.1⟩
theorem within_open {n a b : Int} : within n a b = true ↔ a ≤ n ∧ n ≤ b := by unfold within; exact decide_eq_true_iff
theorem short_open {l : List ByteArray} : areShort l = true ↔ ∀ s ∈ l, s.size ≤ 400 := by
 unfold areShort isLong
 simp only [Bool.not_eq_true', List.any_eq_false, decide_eq_true_eq, Nat.not_lt]
theorem list_open {l : List ByteArray} : isList l = true ↔ l.length ≤ 12 ∧ ∀ s ∈ l, s.size ≤ 400 := by
 unfold isList
 rw [Bool.and_eq_true, decide_eq_true_eq, short_open]
def okMo (d : Mo) : Prop := 1 ≤ d.kind ∧ d.kind ≤ 3 ∧ d.attr.size ≤ 400 ∧ d.vals.length ≤ 12 ∧ ∀ s ∈ d.vals, s.size ≤ 400
theorem noMod_open {d : Mo} : noMod d = false ↔ okMo d := by
 unfold noMod okMo
 simp only [Bool.or_eq_false_iff, Bool.not_eq_false', within_open, list_open, isLong, decide_eq_false_iff_not, Nat.not_lt, and_assoc]
theorem mods_open {l : List Mo} : (!l.any noMod) = true ↔ ∀ d ∈ l, okMo d := by
 simp only [Bool.not_eq_true', List.any_eq_false, Bool.not_eq_true, noMod_open]
theorem takes_open {l : List Mo} : (!l.any takes) = true ↔ ∀ d ∈ l, d.kind = 1 := by
 simp only [Bool.not_eq_true', List.any_eq_false, takes, decide_eq_true_eq, Classical.not_not]
theorem isM_open {m : Mg} (h : isM m = true) : 0 ≤ m.id ∧ m.id ≤ 2147483647 ∧ foreign m = zero ∧ formed m = true ∧ (m.dn.size ≤ 400 ∧ m.pass.size ≤ 400 ∧ m.rdn.size ≤ 400 ∧ m.sup.size ≤ 400 ∧ m.attr.size ≤ 400 ∧ m.value.size ≤ 400 ∧ m.matched.size ≤ 400) := by
 unfold isM at h
 simp only [Bool.and_eq_true, eqM_eq, within_open, short_open, textsM, List.mem_cons, List.not_mem_nil, or_false, forall_eq_or_imp, forall_eq] at h
 exact ⟨h.1.1, h.1.2, h.2.1, h.2.2.1, h.2.2.2⟩
theorem isM_op {m : Mg} (h : isM m = true) : 1 ≤ m.op ∧ m.op ≤ 10 := by
 rw [← isR_isM] at h
 unfold isR at h
 simp only [Bool.and_eq_true, within_open] at h
 exact h.1
theorem isM_ref {m : Mg} (h : isM m = true) (h9 : m.op ≠ 9) : m.ref = 0 := by
 have h1 := (isM_open h).2.2.1
 have h2 := congrArg Mg.ref h1
 unfold foreign zero at h2
 simp only [if_neg h9] at h2
 repeat' split at h2
 all_goals exact h2
theorem formed_bind {m : Mg} (h : m.op = 1) (hf : formed m = true) : 1 ≤ m.ver ∧ m.ver ≤ 127 := by
 unfold formed at hf
 rwa [if_pos h, within_open] at hf
theorem formed_search {m : Mg} (h : m.op = 3) (hf : formed m = true) : (0 ≤ m.scope ∧ m.scope ≤ 2) ∧ (0 ≤ m.size ∧ m.size ≤ 2147483647) ∧ Fi.isF m.fil = true ∧ (m.wants.length ≤ 12 ∧ ∀ s ∈ m.wants, s.size ≤ 400) := by
 unfold formed at hf
 rwa [if_neg (by omega), if_pos h, Bool.and_eq_true, Bool.and_eq_true, Bool.and_eq_true, within_open, within_open, list_open] at hf
theorem formed_mods {m : Mg} (h : m.op = 4 ∨ m.op = 5 ∨ m.op = 10) (hf : formed m = true) : m.mods.length ≤ 12 ∧ (∀ d ∈ m.mods, okMo d) ∧ (m.op ≠ 4 → ∀ d ∈ m.mods, d.kind = 1) := by
 unfold formed at hf
 rw [if_neg (by omega), if_neg (by omega)] at hf
 by_cases h4 : m.op = 4
 ·rw [if_neg (by omega), if_pos h4, Bool.and_eq_true, decide_eq_true_eq, mods_open] at hf
  exact ⟨hf.1, hf.2, fun h => absurd h4 h⟩
 ·rw [if_pos (by omega), Bool.and_eq_true, Bool.and_eq_true, decide_eq_true_eq, mods_open, takes_open] at hf
  exact ⟨hf.2.1, hf.2.2, fun _ => hf.1⟩
theorem formed_result {m : Mg} (h : m.op = 9) (hf : formed m = true) : (1 ≤ m.ref ∧ m.ref ≤ 8) ∧ m.ref ≠ 2 ∧ 0 ≤ m.code ∧ m.code ≤ 127 := by
 unfold formed at hf
 rwa [if_neg (by omega), if_neg (by omega), if_neg (by omega), if_neg (by omega), if_neg (by omega), if_pos h, Bool.and_eq_true, Bool.and_eq_true, within_open, decide_eq_true_eq, within_open] at hf
theorem good_texts {d t : Nat} {l : List ByteArray} (h : (t % 32 != 31 && (t / 32 % 2 == 1 && decide (t ≤ 255))) = true) (hl : l.length ≤ 12) (hs : ∀ s ∈ l, s.size ≤ 400) : good (d + 2) (lst t (l.map (txt 4))) ∧ (enc (lst t (l.map (txt 4)))).length ≤ 5000 := by
 have hm : ∀ e ∈ l.map (txt 4), good (d + 1) e ∧ (enc e).length ≤ 404 := fun e he => by
  obtain ⟨s, hs', rfl⟩ := List.mem_map.1 he
  have h1 := hs s hs'
  have h2 := len_txt 4 s
  exact ⟨good_txt (by decide) h1, by omega⟩
 refine ⟨good_lst h (by rw [List.length_map]; omega) (fun e he => (hm e he).1), ?_⟩
 have h1 := len_lst t (l.map (txt 4))
 have h2 := encs_all 404 (l.map (txt 4)) (fun e he => (hm e he).2)
 rw [List.length_map] at h2
 omega
theorem good_attr {d : Nat} {o : Mo} (h : okMo o) : good (d + 3) (attrEl o) ∧ (enc (attrEl o)).length ≤ 5500 := by
 obtain ⟨_, _, ha, hl, hs⟩ := h
 have h1 := good_texts (d := d) (t := 49) (by decide) hl hs
 have h2 := len_txt 4 o.attr
 refine ⟨good_lst (by decide) (by simp) (fun e he => ?_), ?_⟩
 ·simp only [List.mem_cons, List.not_mem_nil, or_false] at he
  rcases he with rfl | rfl
  ·exact good_txt (by decide) ha
  ·exact h1.1
 ·have h3 := len_lst 48 [txt 4 o.attr, lst 49 (o.vals.map (txt 4))]
  have h4 : (encs [txt 4 o.attr, lst 49 (o.vals.map (txt 4))]).length = (enc (txt 4 o.attr)).length + (enc (lst 49 (o.vals.map (txt 4)))).length := by simp [encs]
  show (enc (lst 48 _)).length ≤ _
  omega
theorem good_mod {d : Nat} {o : Mo} (h : okMo o) : good (d + 4) (modEl o) ∧ (enc (modEl o)).length ≤ 6000 := by
 have h1 := good_attr (d := d) h
 obtain ⟨k1, k3, _⟩ := h
 have h2 := len_num 10 (o.kind - 1) (by omega) (by omega)
 refine ⟨good_lst (by decide) (by simp) (fun e he => ?_), ?_⟩
 ·simp only [List.mem_cons, List.not_mem_nil, or_false] at he
  rcases he with rfl | rfl
  ·exact good_num (by decide) (by omega) (by omega)
  ·exact h1.1
 ·have h3 := len_lst 48 [num 10 (o.kind - 1), attrEl o]
  have h4 : (encs [num 10 (o.kind - 1), attrEl o]).length = (enc (num 10 (o.kind - 1))).length + (enc (attrEl o)).length := by simp [encs]
  show (enc (lst 48 _)).length ≤ _
  omega
theorem flg_good {d : Nat} (b : Bool) : good (d + 1) (flg b) ∧ (enc (flg b)).length ≤ 5 := by
 have h1 : (boolB b).size = 1 := by cases b <;> rfl
 have h2 := len_txt 1 (boolB b)
 exact ⟨good_txt (t := 1) (b := boolB b) (by decide) (by omega), by show (enc (txt 1 (boolB b))).length ≤ 5; omega⟩
theorem parts_good {m : Mg} (h : isM m = true) : (∀ e ∈ parts m, good 25 e ∧ (enc e).length ≤ 100000) ∧ (parts m).length ≤ 8 := by
 obtain ⟨_, _, _, hf, t1, t2, t3, t4, t5, t6, t7⟩ := isM_open h
 have ho := isM_op h
 have gt : ∀ (t : Nat) (b : ByteArray), (t % 32 != 31 && (t / 32 % 2 == 0 && decide (t ≤ 255))) = true → b.size ≤ 400 → good 25 (txt t b) ∧ (enc (txt t b)).length ≤ 100000 := fun t b hb hs =>
  ⟨good_txt hb hs, by have := len_txt t b; omega⟩
 have gn : ∀ (t : Nat) (n : Int), (t % 32 != 31 && (t / 32 % 2 == 0 && decide (t ≤ 255))) = true → 0 ≤ n → n ≤ 2147483647 → good 25 (num t n) ∧ (enc (num t n)).length ≤ 100000 := fun t n hb h0 h1 =>
  ⟨good_num hb (by omega) (by omega), by have := len_num t n (by omega) (by omega); omega⟩
 have gf : ∀ b, good 25 (flg b) ∧ (enc (flg b)).length ≤ 100000 := fun b => ⟨(flg_good b).1, by have := (flg_good (d := 0) b).2; omega⟩
 unfold parts
 by_cases h1 : m.op = 1
 ·have := formed_bind h1 hf
  rw [if_pos h1]
  refine ⟨fun e he => ?_, by simp⟩
  simp only [List.mem_cons, List.not_mem_nil, or_false] at he
  rcases he with rfl | rfl | rfl
  ·exact gn _ _ (by decide) (by omega) (by omega)
  ·exact gt _ _ (by decide) t1
  ·exact gt _ _ (by decide) t2
 rw [if_neg h1]
 by_cases h3 : m.op = 3
 ·obtain ⟨q1, q2, q3, q4, q5⟩ := formed_search h3 hf
  obtain ⟨q6, q7⟩ := fil_open q3
  have q8 := good_fil m.fil q6 20 q7 (by omega)
  have q9 := good_texts (d := 23) (t := 48) (by decide) q4 q5
  rw [if_pos h3]
  refine ⟨fun e he => ?_, by simp⟩
  simp only [List.mem_cons, List.not_mem_nil, or_false] at he
  rcases he with rfl | rfl | rfl | rfl | rfl | rfl | rfl | rfl
  ·exact gt _ _ (by decide) t1
  ·exact gn _ _ (by decide) (by omega) (by omega)
  ·exact gn _ _ (by decide) (by omega) (by omega)
  ·exact gn _ _ (by decide) (by omega) (by omega)
  ·exact gn _ _ (by decide) (by omega) (by omega)
  ·exact gf _
  ·exact ⟨good_more (by omega) q8.1, by have := q8.2; omega⟩
  ·exact ⟨q9.1, by have := q9.2; omega⟩
 rw [if_neg h3]
 by_cases h4 : m.op = 4
 ·obtain ⟨q1, q2, _⟩ := formed_mods (Or.inl h4) hf
  rw [if_pos h4]
  refine ⟨fun e he => ?_, by simp⟩
  simp only [List.mem_cons, List.not_mem_nil, or_false] at he
  rcases he with rfl | rfl
  ·exact gt _ _ (by decide) t1
  ·have hm : ∀ e ∈ m.mods.map modEl, good 24 e ∧ (enc e).length ≤ 6000 := fun e he => by
    obtain ⟨o, ho, rfl⟩ := List.mem_map.1 he
    exact good_mod (d := 20) (q2 o ho)
   refine ⟨good_lst (by decide) (by rw [List.length_map]; omega) (fun e he => (hm e he).1), ?_⟩
   have l1 := len_lst 48 (m.mods.map modEl)
   have l2 := encs_all 6000 (m.mods.map modEl) (fun e he => (hm e he).2)
   rw [List.length_map] at l2
   omega
 rw [if_neg h4]
 by_cases h5 : m.op = 5 ∨ m.op = 10
 ·obtain ⟨q1, q2, _⟩ := formed_mods (Or.inr h5) hf
  rw [if_pos h5]
  refine ⟨fun e he => ?_, by simp⟩
  simp only [List.mem_cons, List.not_mem_nil, or_false] at he
  rcases he with rfl | rfl
  ·exact gt _ _ (by decide) t1
  ·have hm : ∀ e ∈ m.mods.map attrEl, good 24 e ∧ (enc e).length ≤ 5500 := fun e he => by
    obtain ⟨o, ho, rfl⟩ := List.mem_map.1 he
    exact good_attr (d := 21) (q2 o ho)
   refine ⟨good_lst (by decide) (by rw [List.length_map]; omega) (fun e he => (hm e he).1), ?_⟩
   have l1 := len_lst 48 (m.mods.map attrEl)
   have l2 := encs_all 5500 (m.mods.map attrEl) (fun e he => (hm e he).2)
   rw [List.length_map] at l2
   omega
 rw [if_neg h5]
 by_cases h7 : m.op = 7
 ·rw [if_pos h7]
  refine ⟨fun e he => ?_, by split <;> simp⟩
  simp only [List.mem_append, List.mem_cons, List.not_mem_nil, or_false] at he
  rcases he with (rfl | rfl | rfl) | he
  ·exact gt _ _ (by decide) t1
  ·exact gt _ _ (by decide) t3
  ·exact gf _
  ·split at he
   ·simp only [List.mem_cons, List.not_mem_nil, or_false] at he
    subst he
    exact gt _ _ (by decide) t4
   ·simp at he
 rw [if_neg h7]
 by_cases h8 : m.op = 8
 ·rw [if_pos h8]
  refine ⟨fun e he => ?_, by simp⟩
  simp only [List.mem_cons, List.not_mem_nil, or_false] at he
  rcases he with rfl | rfl
  ·exact gt _ _ (by decide) t1
  ·refine ⟨good_lst (by decide) (by simp) (fun e he => ?_), ?_⟩
   ·simp only [List.mem_cons, List.not_mem_nil, or_false] at he
    rcases he with rfl | rfl
    ·exact good_txt (by decide) t5
    ·exact good_txt (by decide) t6
   ·have l1 := len_lst 48 [txt 4 m.attr, txt 4 m.value]
    have l2 := len_txt 4 m.attr
    have l3 := len_txt 4 m.value
    have l4 : (encs [txt 4 m.attr, txt 4 m.value]).length = (enc (txt 4 m.attr)).length + (enc (txt 4 m.value)).length := by simp [encs]
    omega
 rw [if_neg h8]
 by_cases h9 : m.op = 9
 ·have := formed_result h9 hf
  refine ⟨fun e he => ?_, by simp⟩
  simp only [List.mem_cons, List.not_mem_nil, or_false] at he
  rcases he with rfl | rfl | rfl
  ·exact gn _ _ (by decide) (by omega) (by omega)
  ·exact gt _ _ (by decide) t7
  ·exact gt _ _ (by decide) (by decide)
 ·have hc : m.code = 0 := by
   have h2 := congrArg Mg.code (isM_open h).2.2.1
   unfold foreign zero at h2
   simp only [if_neg h9] at h2
   repeat' split at h2
   all_goals exact h2
  refine ⟨fun e he => ?_, by simp⟩
  simp only [List.mem_cons, List.not_mem_nil, or_false] at he
  rcases he with rfl | rfl | rfl
  ·exact gn _ _ (by decide) (by omega) (by omega)
  ·exact gt _ _ (by decide) t7
  ·exact gt _ _ (by decide) (by decide)
theorem opTag_more {m : Mg} (h : isM m = true) (h2 : m.op ≠ 2) (h6 : m.op ≠ 6) : (opTag m.op m.ref % 32 != 31 && (opTag m.op m.ref / 32 % 2 == 1 && decide (opTag m.op m.ref ≤ 255))) = true := by
 have ho := isM_op h
 by_cases h9 : m.op = 9
 ·obtain ⟨q1, q2, _⟩ := formed_result h9 (isM_open h).2.2.2.1
  have : m.ref = 1 ∨ m.ref = 3 ∨ m.ref = 4 ∨ m.ref = 5 ∨ m.ref = 6 ∨ m.ref = 7 ∨ m.ref = 8 := by omega
  rw [h9]
  rcases this with e | e | e | e | e | e | e <;> rw [e] <;> decide
 ·rw [isM_ref h h9]
  have : m.op = 1 ∨ m.op = 3 ∨ m.op = 4 ∨ m.op = 5 ∨ m.op = 7 ∨ m.op = 8 ∨ m.op = 10 := by omega
  rcases this with e | e | e | e | e | e | e <;> rw [e] <;> decide
theorem opTag_less {m : Mg} (h : isM m = true) (ho : m.op = 2 ∨ m.op = 6) : (opTag m.op m.ref % 32 != 31 && (opTag m.op m.ref / 32 % 2 == 0 && decide (opTag m.op m.ref ≤ 255))) = true := by
 rw [isM_ref h (by omega)]
 rcases ho with e | e <;> rw [e] <;> decide
theorem opTag_le {m : Mg} (h : isM m = true) : opTag m.op m.ref ≤ 255 := by
 by_cases ho : m.op = 2 ∨ m.op = 6
 ·have := opTag_less h ho
  simp only [Bool.and_eq_true, decide_eq_true_eq] at this
  exact this.2.2
 ·have := opTag_more h (by omega) (by omega)
  simp only [Bool.and_eq_true, decide_eq_true_eq] at this
  exact this.2.2
theorem op_good {m : Mg} (h : isM m = true) : good 26 (opEl m) ∧ (enc (opEl m)).length ≤ 900000 := by
 unfold opEl
 by_cases ho : m.op = 2 ∨ m.op = 6
 ·rw [if_pos ho]
  have h1 := (isM_open h).2.2.2.2.1
  have h2 := len_txt (opTag m.op m.ref) m.dn
  exact ⟨good_txt (opTag_less h ho) h1, by omega⟩
 ·rw [if_neg ho]
  obtain ⟨hp, hl⟩ := parts_good h
  refine ⟨good_lst (opTag_more h (by omega) (by omega)) (by omega) (fun e he => (hp e he).1), ?_⟩
  have l1 := len_lst (opTag m.op m.ref) (parts m)
  have l2 := encs_all 100000 (parts m) (fun e he => (hp e he).2)
  omega
theorem msg_good {m : Mg} (h : isM m = true) : good 27 (msgEl m) ∧ (enc (msgEl m)).length ≤ 1000000 := by
 obtain ⟨h0, h1, _⟩ := isM_open h
 have hp := op_good h
 refine ⟨good_lst (by decide) (by simp) (fun e he => ?_), ?_⟩
 ·simp only [List.mem_cons, List.not_mem_nil, or_false] at he
  rcases he with rfl | rfl
  ·exact good_num (by decide) (by omega) (by omega)
  ·exact hp.1
 ·have l1 := len_lst 48 [num 2 m.id, opEl m]
  have l2 := len_num 2 m.id (by omega) (by omega)
  have l4 : (encs [num 2 m.id, opEl m]).length = (enc (num 2 m.id)).length + (enc (opEl m)).length := by simp [encs]
  show (enc (lst 48 _)).length ≤ _
  omega
end Go.Proofs.YtconghaebebncaaGreatDoor.Ms
