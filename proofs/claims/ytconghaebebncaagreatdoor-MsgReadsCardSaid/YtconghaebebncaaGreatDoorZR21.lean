import Derived.Test.YtconghaebebncaaGreatDoorZR10
import Derived.Test.YtconghaebebncaaGreatDoorZR20
import Derived.Test.YtconghaebebncaaGreatDoorZR11
set_option linter.unusedVariables false
set_option maxRecDepth 100000
namespace Go.Proofs.YtconghaebebncaaGreatDoor.Ms
open _root_.Go.Proofs.YtconghaebebncaaGreatDoor.Nm _root_.Go.Proofs.YtconghaebebncaaGreatDoor.Be
theorem fil_open {f : Fil} (h : Fi.isF f = true) : Fi.frm f = true ∧ Fi.tot f ≤ 20:=by
 unfold Fi.isF at h
 rw [Bool.and_eq_true, decide_eq_true_eq] at h
 exact ⟨h.2, h.1⟩
theorem within_open {n a b : Int} : within n a b = true ↔ a ≤ n ∧ n ≤ b:=by unfold within; exact decide_eq_true_iff
theorem short_open {l : List ByteArray} : areShort l = true ↔ ∀ s ∈ l, s.size ≤ 400:=by
 unfold areShort isLong
 simp only [Bool.not_eq_true', List.any_eq_false, decide_eq_true_eq, Nat.not_lt]
theorem list_open {l : List ByteArray} : isList l = true ↔ l.length ≤ 12 ∧ ∀ s ∈ l, s.size ≤ 400:=by
 unfold isList
 rw [Bool.and_eq_true, decide_eq_true_eq, short_open]
def okMo (d : Mo) : Prop:=1 ≤ d.kind ∧ d.kind ≤ 3 ∧ d.attr.size ≤ 400 ∧ d.vals.length ≤ 12 ∧ ∀ s ∈ d.vals, s.size ≤ 400
theorem noMod_open {d : Mo} : noMod d = false ↔ okMo d:=by
 unfold noMod okMo
 simp only [Bool.or_eq_false_iff, Bool.not_eq_false', within_open, list_open, isLong, decide_eq_false_iff_not, Nat.not_lt, and_assoc]
theorem mods_open {l : List Mo} : (!l.any noMod) = true ↔ ∀ d ∈ l, okMo d:=by
 simp only [Bool.not_eq_true', List.any_eq_false, Bool.not_eq_true, noMod_open]
theorem takes_open {l : List Mo} : (!l.any takes) = true ↔ ∀ d ∈ l, d.kind = 1:=by
 simp only [Bool.not_eq_true', List.any_eq_false, takes, decide_eq_true_eq, Classical.not_not]
theorem isM_open {m : Mg} (h : isM m = true) : 0 ≤ m.id ∧ m.id ≤ 2147483647 ∧ foreign m = zero ∧ formed m = true ∧ (m.dn.size ≤ 400 ∧ m.pass.size ≤ 400 ∧ m.rdn.size ≤ 400 ∧ m.sup.size ≤ 400 ∧ m.attr.size ≤ 400 ∧ m.value.size ≤ 400 ∧ m.matched.size ≤ 400):=by
 unfold isM at h
 simp only [Bool.and_eq_true, eqM_eq, within_open, short_open, textsM, List.mem_cons, List.not_mem_nil, or_false, forall_eq_or_imp, forall_eq] at h
 exact ⟨h.1.1, h.1.2, h.2.1, h.2.2.1, h.2.2.2⟩
theorem isM_op {m : Mg} (h : isM m = true) : 1 ≤ m.op ∧ m.op ≤ 10:=by
 rw [← isR_isM] at h
 unfold isR at h
 simp only [Bool.and_eq_true, within_open] at h
 exact h.1
theorem isM_ref {m : Mg} (h : isM m = true) (h9 : m.op ≠ 9) : m.ref = 0:=by
 have h1:=(isM_open h).2.2.1
 have h2:=congrArg Mg.ref h1
 unfold foreign zero at h2
 simp only [if_neg h9] at h2
 repeat' split at h2
 all_goals exact h2
theorem formed_bind {m : Mg} (h : m.op = 1) (hf : formed m = true) : 1 ≤ m.ver ∧ m.ver ≤ 127:=by
 unfold formed at hf
 rwa [if_pos h, within_open] at hf
theorem formed_search {m : Mg} (h : m.op = 3) (hf : formed m = true) : (0 ≤ m.scope ∧ m.scope ≤ 2) ∧ (0 ≤ m.size ∧ m.size ≤ 2147483647) ∧ Fi.isF m.fil = true ∧ (m.wants.length ≤ 12 ∧ ∀ s ∈ m.wants, s.size ≤ 400):=by
 unfold formed at hf
 rwa [if_neg (by omega), if_pos h, Bool.and_eq_true, Bool.and_eq_true, Bool.and_eq_true, within_open, within_open, list_open] at hf
theorem formed_mods {m : Mg} (h : m.op = 4 ∨ m.op = 5 ∨ m.op = 10) (hf : formed m = true) : m.mods.length ≤ 12 ∧ (∀ d ∈ m.mods, okMo d) ∧ (m.op ≠ 4 → ∀ d ∈ m.mods, d.kind = 1):=by
 unfold formed at hf
 rw [if_neg (by omega), if_neg (by omega)] at hf
 by_cases h4 : m.op = 4
 ·rw [if_neg (by omega), if_pos h4, Bool.and_eq_true, decide_eq_true_eq, mods_open] at hf
  exact ⟨hf.1, hf.2, fun h=>absurd h4 h⟩
 ·rw [if_pos (by omega), Bool.and_eq_true, Bool.and_eq_true, decide_eq_true_eq, mods_open, takes_open] at hf
  exact ⟨hf.2.1, hf.2.2, fun _=>hf.1⟩
theorem formed_result {m : Mg} (h : m.op = 9) (hf : formed m = true) : (1 ≤ m.ref ∧ m.ref ≤ 8) ∧ m.ref ≠ 2 ∧ 0 ≤ m.code ∧ m.code ≤ 127:=by
 unfold formed at hf
 rwa [if_neg (by omega), if_neg (by omega), if_neg (by omega), if_neg (by omega), if_neg (by omega), if_pos h, Bool.and_eq_true, Bool.and_eq_true, within_open, decide_eq_true_eq, within_open] at hf
theorem good_texts {d t : Nat} {l : List ByteArray} (h : (t % 32 != 31 && (t / 32 % 2 == 1 && decide (t ≤ 255))) = true) (hl : l.length ≤ 12) (hs : ∀ s ∈ l, s.size ≤ 400) : good (d + 2) (lst t (l.map (txt 4))) ∧ (enc (lst t (l.map (txt 4)))).length ≤ 5000:=by
 have hm : ∀ e ∈ l.map (txt 4), good (d + 1) e ∧ (enc e).length ≤ 404:=fun e he=>by
  obtain ⟨s, hs', rfl⟩:=List.mem_map.1 he
  have h1:=hs s hs'
  have h2:=len_txt 4 s
  exact ⟨good_txt (by decide) h1, by omega⟩
 refine ⟨good_lst h (by rw [List.length_map]; omega) (fun e he=>(hm e he).1), ?_⟩
 have h1:=len_lst t (l.map (txt 4))
 have h2:=encs_all 404 (l.map (txt 4)) (fun e he=>(hm e he).2)
 rw [List.length_map] at h2
 omega
theorem good_attr {d : Nat} {o : Mo} (h : okMo o) : good (d + 3) (attrEl o) ∧ (enc (attrEl o)).length ≤ 5500:=by
 obtain ⟨_, _, ha, hl, hs⟩:=h
 have h1:=good_texts (d:=d) (t:=49) (by decide) hl hs
 have h2:=len_txt 4 o.attr
 refine ⟨good_lst (by decide) (by simp) (fun e he=>?_), ?_⟩
 ·simp only [List.mem_cons, List.not_mem_nil, or_false] at he
  rcases he with rfl | rfl
  ·exact good_txt (by decide) ha
  ·exact h1.1
 ·have h3:=len_lst 48 [txt 4 o.attr, lst 49 (o.vals.map (txt 4))]
  have h4 : (encs [txt 4 o.attr, lst 49 (o.vals.map (txt 4))]).length = (enc (txt 4 o.attr)).length + (enc (lst 49 (o.vals.map (txt 4)))).length:=by simp [encs]
  show (enc (lst 48 _)).length ≤ _
  omega
theorem good_mod {d : Nat} {o : Mo} (h : okMo o) : good (d + 4) (modEl o) ∧ (enc (modEl o)).length ≤ 6000:=by
 have h1:=good_attr (d:=d) h
 obtain ⟨k1, k3, _⟩:=h
 have h2:=len_num 10 (o.kind - 1) (by omega) (by omega)
 refine ⟨good_lst (by decide) (by simp) (fun e he=>?_), ?_⟩
 ·simp only [List.mem_cons, List.not_mem_nil, or_false] at he
  rcases he with rfl | rfl
  ·exact good_num (by decide) (by omega) (by omega)
  ·exact h1.1
 ·have h3:=len_lst 48 [num 10 (o.kind - 1), attrEl o]
  have h4 : (encs [num 10 (o.kind - 1), attrEl o]).length = (enc (num 10 (o.kind - 1))).length + (enc (attrEl o)).length:=by simp [encs]
  show (enc (lst 48 _)).length ≤ _
  omega
theorem flg_good {d : Nat} (b : Bool) : good (d + 1) (flg b) ∧ (enc (flg b)).length ≤ 5:=by
 have h1 : (boolB b).size = 1:=by cases b <;> rfl
 have h2:=len_txt 1 (boolB b)
 exact ⟨good_txt (t:=1) (b:=boolB b) (by decide) (by omega), by show (enc (txt 1 (boolB b))).length ≤ 5; omega⟩
theorem parts_good {m : Mg} (h : isM m = true) : (∀ e ∈ parts m, good 25 e ∧ (enc e).length ≤ 100000) ∧ (parts m).length ≤ 8:=by
 obtain ⟨_, _, _, hf, t1, t2, t3, t4, t5, t6, t7⟩:=isM_open h
 have ho:=isM_op h
 have gt : ∀ (t : Nat) (b : ByteArray), (t % 32 != 31 && (t / 32 % 2 == 0 && decide (t ≤ 255))) = true → b.size ≤ 400 → good 25 (txt t b) ∧ (enc (txt t b)).length ≤ 100000:=fun t b hb hs =>
  ⟨good_txt hb hs, by have:=len_txt t b; omega⟩
 have gn : ∀ (t : Nat) (n : Int), (t % 32 != 31 && (t / 32 % 2 == 0 && decide (t ≤ 255))) = true → 0 ≤ n → n ≤ 2147483647 → good 25 (num t n) ∧ (enc (num t n)).length ≤ 100000:=fun t n hb h0 h1 =>
  ⟨good_num hb (by omega) (by omega), by have:=len_num t n (by omega) (by omega); omega⟩
 have gf : ∀ b, good 25 (flg b) ∧ (enc (flg b)).length ≤ 100000:=fun b=>⟨(flg_good b).1, by have:=(flg_good (d:=0) b).2; omega⟩
 unfold parts
 by_cases h1 : m.op = 1
 ·have:=formed_bind h1 hf
  rw [if_pos h1]
  refine ⟨fun e he=>?_, by simp⟩
  simp only [List.mem_cons, List.not_mem_nil, or_false] at he
  rcases he with rfl | rfl | rfl
  ·exact gn _ _ (by decide) (by omega) (by omega)
  ·exact gt _ _ (by decide) t1
  ·exact gt _ _ (by decide) t2
 rw [if_neg h1]
 by_cases h3 : m.op = 3
 ·obtain ⟨q1, q2, q3, q4, q5⟩:=formed_search h3 hf
  obtain ⟨q6, q7⟩:=fil_open q3
  have q8:=good_fil m.fil q6 20 q7 (by omega)
  have q9:=good_texts (d:=23) (t:=48) (by decide) q4 q5
  rw [if_pos h3]
  refine ⟨fun e he=>?_, by simp⟩
  simp only [List.mem_cons, List.not_mem_nil, or_false] at he
  rcases he with rfl | rfl | rfl | rfl | rfl | rfl | rfl | rfl
  ·exact gt _ _ (by decide) t1
  ·exact gn _ _ (by decide) (by omega) (by omega)
  ·exact gn _ _ (by decide) (by omega) (by omega)
  ·exact gn _ _ (by decide) (by omega) (by omega)
  ·exact gn _ _ (by decide) (by omega) (by omega)
  ·exact gf _
  ·exact ⟨good_more (by omega) q8.1, by have:=q8.2; omega⟩
  ·exact ⟨q9.1, by have:=q9.2; omega⟩
 rw [if_neg h3]
 by_cases h4 : m.op = 4
 ·obtain ⟨q1, q2, _⟩:=formed_mods (Or.inl h4) hf
  rw [if_pos h4]
  refine ⟨fun e he=>?_, by simp⟩
  simp only [List.mem_cons, List.not_mem_nil, or_false] at he
  rcases he with rfl | rfl
  ·exact gt _ _ (by decide) t1
  ·have hm : ∀ e ∈ m.mods.map modEl, good 24 e ∧ (enc e).length ≤ 6000:=fun e he=>by
    obtain ⟨o, ho, rfl⟩:=List.mem_map.1 he
    exact good_mod (d:=20) (q2 o ho)
   refine ⟨good_lst (by decide) (by rw [List.length_map]; omega) (fun e he=>(hm e he).1), ?_⟩
   have l1:=len_lst 48 (m.mods.map modEl)
   have l2:=encs_all 6000 (m.mods.map modEl) (fun e he=>(hm e he).2)
   rw [List.length_map] at l2
   omega
 rw [if_neg h4]
 by_cases h5 : m.op = 5 ∨ m.op = 10
 ·obtain ⟨q1, q2, _⟩:=formed_mods (Or.inr h5) hf
  rw [if_pos h5]
  refine ⟨fun e he=>?_, by simp⟩
  simp only [List.mem_cons, List.not_mem_nil, or_false] at he
  rcases he with rfl | rfl
  ·exact gt _ _ (by decide) t1
  ·have hm : ∀ e ∈ m.mods.map attrEl, good 24 e ∧ (enc e).length ≤ 5500:=fun e he=>by
    obtain ⟨o, ho, rfl⟩:=List.mem_map.1 he
    exact good_attr (d:=21) (q2 o ho)
   refine ⟨good_lst (by decide) (by rw [List.length_map]; omega) (fun e he=>(hm e he).1), ?_⟩
   have l1:=len_lst 48 (m.mods.map attrEl)
   have l2:=encs_all 5500 (m.mods.map attrEl) (fun e he=>(hm e he).2)
   rw [List.length_map] at l2
   omega
 rw [if_neg h5]
 by_cases h7 : m.op = 7
 ·rw [if_pos h7]
  refine ⟨fun e he=>?_, by split <;> simp⟩
  simp only [List.mem_append, List.mem_cons, List.not_mem_nil, or_false] at he
  rcases he with (rfl | rfl | rfl) | he
  ·exact gt _ _ (by decide) t1
  ·exact gt _ _ (by decide) t3
  ·exact gf _
  ·split at he
   ·simp only [List.mem_cons, List.not_mem_nil, or_false] at he
    subst he
    exact gt _ _ (by decide) t4
   ·simp at he
 rw [if_neg h7]
 by_cases h8 : m.op = 8
 ·rw [if_pos h8]
  refine ⟨fun e he=>?_, by simp⟩
  simp only [List.mem_cons, List.not_mem_nil, or_false] at he
  rcases he with rfl | rfl
  ·exact gt _ _ (by decide) t1
  ·refine ⟨good_lst (by decide) (by simp) (fun e he=>?_), ?_⟩
   ·simp only [List.mem_cons, List.not_mem_nil, or_false] at he
    rcases he with rfl | rfl
    ·exact good_txt (by decide) t5
    ·exact good_txt (by decide) t6
   ·have l1:=len_lst 48 [txt 4 m.attr, txt 4 m.value]
    have l2:=len_txt 4 m.attr
    have l3:=len_txt 4 m.value
    have l4 : (encs [txt 4 m.attr, txt 4 m.value]).length = (enc (txt 4 m.attr)).length + (enc (txt 4 m.value)).length:=by simp [encs]
    omega
 rw [if_neg h8]
 by_cases h9 : m.op = 9
 ·have:=formed_result h9 hf
  refine ⟨fun e he=>?_, by simp⟩
  simp only [List.mem_cons, List.not_mem_nil, or_false] at he
  rcases he with rfl | rfl | rfl
  ·exact gn _ _ (by decide) (by omega) (by omega)
  ·exact gt _ _ (by decide) t7
  ·exact gt _ _ (by decide) (by decide)
 ·have hc : m.code = 0:=by
   have h2:=congrArg Mg.code (isM_open h).2.2.1
   unfold foreign zero at h2
   simp only [if_neg h9] at h2
   repeat' split at h2
   all_goals exact h2
  refine ⟨fun e he=>?_, by simp⟩
  simp only [List.mem_cons, List.not_mem_nil, or_false] at he
  rcases he with rfl | rfl | rfl
  ·exact gn _ _ (by decide) (by omega) (by omega)
  ·exact gt _ _ (by decide) t7
  ·exact gt _ _ (by decide) (by decide)
theorem opTag_more {m : Mg} (h : isM m = true) (h2 : m.op ≠ 2) (h6 : m.op ≠ 6) : (opTag m.op m.ref % 32 != 31 && (opTag m.op m.ref / 32 % 2 == 1 && decide (opTag m.op m.ref ≤ 255))) = true:=by
 have ho:=isM_op h
 by_cases h9 : m.op = 9
 ·obtain ⟨q1, q2, _⟩:=formed_result h9 (isM_open h).2.2.2.1
  have : m.ref = 1 ∨ m.ref = 3 ∨ m.ref = 4 ∨ m.ref = 5 ∨ m.ref = 6 ∨ m.ref = 7 ∨ m.ref = 8:=by omega
  rw [h9]
  rcases this with e | e | e | e | e | e | e <;> rw [e] <;> decide
 ·rw [isM_ref h h9]
  have : m.op = 1 ∨ m.op = 3 ∨ m.op = 4 ∨ m.op = 5 ∨ m.op = 7 ∨ m.op = 8 ∨ m.op = 10:=by omega
  rcases this with e | e | e | e | e | e | e <;> rw [e] <;> decide
theorem opTag_less {m : Mg} (h : isM m = true) (ho : m.op = 2 ∨ m.op = 6) : (opTag m.op m.ref % 32 != 31 && (opTag m.op m.ref / 32 % 2 == 0 && decide (opTag m.op m.ref ≤ 255))) = true:=by
 rw [isM_ref h (by omega)]
 rcases ho with e | e <;> rw [e] <;> decide
theorem opTag_le {m : Mg} (h : isM m = true) : opTag m.op m.ref ≤ 255:=by
 by_cases ho : m.op = 2 ∨ m.op = 6
 ·have:=opTag_less h ho
  simp only [Bool.and_eq_true, decide_eq_true_eq] at this
  exact this.2.2
 ·have:=opTag_more h (by omega) (by omega)
  simp only [Bool.and_eq_true, decide_eq_true_eq] at this
  exact this.2.2
theorem op_good {m : Mg} (h : isM m = true) : good 26 (opEl m) ∧ (enc (opEl m)).length ≤ 900000:=by
 unfold opEl
 by_cases ho : m.op = 2 ∨ m.op = 6
 ·rw [if_pos ho]
  have h1:=(isM_open h).2.2.2.2.1
  have h2:=len_txt (opTag m.op m.ref) m.dn
  exact ⟨good_txt (opTag_less h ho) h1, by omega⟩
 ·rw [if_neg ho]
  obtain ⟨hp, hl⟩:=parts_good h
  refine ⟨good_lst (opTag_more h (by omega) (by omega)) (by omega) (fun e he=>(hp e he).1), ?_⟩
  have l1:=len_lst (opTag m.op m.ref) (parts m)
  have l2:=encs_all 100000 (parts m) (fun e he=>(hp e he).2)
  omega
theorem msg_good {m : Mg} (h : isM m = true) : good 27 (msgEl m) ∧ (enc (msgEl m)).length ≤ 1000000:=by
 obtain ⟨h0, h1, _⟩:=isM_open h
 have hp:=op_good h
 refine ⟨good_lst (by decide) (by simp) (fun e he=>?_), ?_⟩
 ·simp only [List.mem_cons, List.not_mem_nil, or_false] at he
  rcases he with rfl | rfl
  ·exact good_num (by decide) (by omega) (by omega)
  ·exact hp.1
 ·have l1:=len_lst 48 [num 2 m.id, opEl m]
  have l2:=len_num 2 m.id (by omega) (by omega)
  have l4 : (encs [num 2 m.id, opEl m]).length = (enc (num 2 m.id)).length + (enc (opEl m)).length:=by simp [encs]
  show (enc (lst 48 _)).length ≤ _
  omega
end Go.Proofs.YtconghaebebncaaGreatDoor.Ms
namespace Go.Proofs.YtconghaebebncaaGreatDoor.Ms
open Go.RowKit
theorem below_el {w w1 : World} {o : Obj} {x y z : Value} (hb1 : Below (w.alloc o).heap.size (w.alloc o) w1) : Below w.heap.size w (((w1.setCell ⟨w.heap.size, 0, none⟩ x).setCell ⟨w.heap.size, 1, none⟩ y).setCell ⟨w.heap.size, 2, none⟩ z) :=
 ((((((Below.refl w.heap.size w).alloc (Nat.le_refl _) _).trans (hb1.mono (by simp))).setCell (p:=⟨w.heap.size, 0, none⟩) (Nat.le_refl _) _).setCell (p:=⟨w.heap.size, 1, none⟩) (Nat.le_refl _) _).setCell (p:=⟨w.heap.size, 2, none⟩) (Nat.le_refl _) _)
set_option maxHeartbeats 400000 in
theorem text_any (s : ByteArray) (w : World) (hs : s.size ≤ 281474976710656) :
  Calls Tryz.prog 133 #[.string s] w fun e w'=>e = .returned (.agg #[.int .u8 4, .string s, .slice none 0 0]) ∧ Below w.heap.size w w':=by
 go_enter Tryz.func133, Tryz.ntmps133
 go_wp2_with fail
 refine (Be.Text_any 4 s _ hs).mono ?_
 rintro e w1 ⟨rfl, hb1⟩
 have B1:=(Blk.new w 57 #[.int .u8 0, .string ⟨#[]⟩, .slice none 0 0]).past hb1
 have c0 : w1.cell? ⟨w.heap.size, 0, none⟩ = some (.int .u8 0):=B1.cell 0
 have c1 : w1.cell? ⟨w.heap.size, 1, none⟩ = some (.string ⟨#[]⟩):=B1.cell 1
 have c2 : w1.cell? ⟨w.heap.size, 2, none⟩ = some (.slice none 0 0):=B1.cell 2
 have g0:=B1.frozen 0
 have g1:=B1.frozen 1
 have g2:=B1.frozen 2
 go_wp2_with fail
 exact bodyPost_ret (Be.res_el rfl _ _ w.heap.size _ _ _ rfl (Be.Blk.set3 B1)) rfl ⟨rfl, below_el hb1⟩
set_option maxHeartbeats 400000 in
theorem integer_any (n : Int) (w : World) (h0 : -9223372036854775808 ≤ n) (h1 : n ≤ 9223372036854775807) :
  Calls Tryz.prog 74 #[.int .i64 n] w fun e w'=>e = .returned (.agg #[.int .u8 2, .string (strOfNums (Be.intB n)), .slice none 0 0]) ∧ Below w.heap.size w w':=by
 go_enter Tryz.func74, Tryz.ntmps74
 go_wp2_with fail
 refine (Be.Number_any 2 n _ h0 h1).mono ?_
 rintro e w1 ⟨rfl, hb1⟩
 have B1:=(Blk.new w 57 #[.int .u8 0, .string ⟨#[]⟩, .slice none 0 0]).past hb1
 have c0 : w1.cell? ⟨w.heap.size, 0, none⟩ = some (.int .u8 0):=B1.cell 0
 have c1 : w1.cell? ⟨w.heap.size, 1, none⟩ = some (.string ⟨#[]⟩):=B1.cell 1
 have c2 : w1.cell? ⟨w.heap.size, 2, none⟩ = some (.slice none 0 0):=B1.cell 2
 have g0:=B1.frozen 0
 have g1:=B1.frozen 1
 have g2:=B1.frozen 2
 go_wp2_with fail
 exact bodyPost_ret (Be.res_el rfl _ _ w.heap.size _ _ _ rfl (Be.Blk.set3 B1)) rfl ⟨rfl, below_el hb1⟩
set_option maxHeartbeats 400000 in
theorem enumerated_any (n : Int) (w : World) (h0 : -9223372036854775808 ≤ n) (h1 : n ≤ 9223372036854775807) :
  Calls Tryz.prog 134 #[.int .i64 n] w fun e w'=>e = .returned (.agg #[.int .u8 10, .string (strOfNums (Be.intB n)), .slice none 0 0]) ∧ Below w.heap.size w w':=by
 go_enter Tryz.func134, Tryz.ntmps134
 go_wp2_with fail
 refine (Be.Number_any 10 n _ h0 h1).mono ?_
 rintro e w1 ⟨rfl, hb1⟩
 have B1:=(Blk.new w 57 #[.int .u8 0, .string ⟨#[]⟩, .slice none 0 0]).past hb1
 have c0 : w1.cell? ⟨w.heap.size, 0, none⟩ = some (.int .u8 0):=B1.cell 0
 have c1 : w1.cell? ⟨w.heap.size, 1, none⟩ = some (.string ⟨#[]⟩):=B1.cell 1
 have c2 : w1.cell? ⟨w.heap.size, 2, none⟩ = some (.slice none 0 0):=B1.cell 2
 have g0:=B1.frozen 0
 have g1:=B1.frozen 1
 have g2:=B1.frozen 2
 go_wp2_with fail
 exact bodyPost_ret (Be.res_el rfl _ _ w.heap.size _ _ _ rfl (Be.Blk.set3 B1)) rfl ⟨rfl, below_el hb1⟩
theorem boolB_eq (b : Bool) : Be.boolB b = boolB b:=by cases b <;> rfl
set_option maxHeartbeats 400000 in
theorem flag_any (b : Bool) (w : World) :
  Calls Tryz.prog 135 #[.bool b] w fun e w'=>e = .returned (.agg #[.int .u8 1, .string (boolB b), .slice none 0 0]) ∧ Below w.heap.size w w':=by
 have hb : (boolB b).size ≤ 281474976710656:=by cases b <;> decide
 go_enter Tryz.func135, Tryz.ntmps135
 go_wp2_with fail
 refine (Be.Bool_any b _).mono ?_
 rintro e w0 ⟨rfl, rfl⟩
 rw [boolB_eq]
 go_wp2_with fail
 refine (Be.Text_any 1 (boolB b) _ hb).mono ?_
 rintro e w1 ⟨rfl, hb1⟩
 have B1:=(Blk.new w 57 #[.int .u8 0, .string ⟨#[]⟩, .slice none 0 0]).past hb1
 have c0 : w1.cell? ⟨w.heap.size, 0, none⟩ = some (.int .u8 0):=B1.cell 0
 have c1 : w1.cell? ⟨w.heap.size, 1, none⟩ = some (.string ⟨#[]⟩):=B1.cell 1
 have c2 : w1.cell? ⟨w.heap.size, 2, none⟩ = some (.slice none 0 0):=B1.cell 2
 have g0:=B1.frozen 0
 have g1:=B1.frozen 1
 have g2:=B1.frozen 2
 go_wp2_with fail
 exact bodyPost_ret (Be.res_el rfl _ _ w.heap.size _ _ _ rfl (Be.Blk.set3 B1)) rfl ⟨rfl, below_el hb1⟩
def NewLst (w : World) (t : Nat) (ks : List Be.El) (r : Ending) (w' : World) : Prop :=
 ∃ (A : Option Addr) (c : Nat) (ds : Nat → List Value), r = .returned (.agg #[.int .u8 (t : Nat), .string ⟨#[]⟩, .slice A ks.length c]) ∧ Below w.heap.size w w' ∧ Be.KidsAt w' (fun b=>w.heap.size ≤ b ∧ b < w'.heap.size) A ks ds
def NewEl (w : World) (e : Be.El) (r : Ending) (w' : World) : Prop :=
 ∃ (t : Nat) (b : ByteArray) (A : Option Addr) (n c : Nat), r = .returned (.agg #[.int .u8 (t : Nat), .string b, .slice A n c]) ∧ Below w.heap.size w w' ∧ Be.Lies w' (fun b=>w.heap.size ≤ b ∧ b < w'.heap.size) e [.int .u8 (t : Nat), .string b, .slice A n c]
theorem good_fits {ks : List Be.El} {d : Nat} (h : ∀ k ∈ ks, good d k) : ∀ i (hi : i < ks.length), Be.fitS 20 400 d ks[i] = true:=fun i hi=>(h _ (List.getElem_mem hi)).2.2
theorem list_any (t : Nat) (ht : t ≤ 255) (ks : List Be.El) (d : Nat) (A : Option Addr) (c : Nat) (ds : Nat → List Value) (w : World) (hl : ks.length ≤ 20) (hg : ∀ k ∈ ks, good d k) (hK : Be.KidsAt w (· < w.heap.size) A ks ds) :
  Calls Tryz.prog 103 #[.int .u8 (t : Nat), .slice A ks.length c] w (NewLst w t ks):=by
 refine (Be.List_any t ht ks 20 400 d A c ds w hl (by omega) (by omega) (good_fits hg) hK).mono ?_
 rintro r w' ⟨x, y, z, rfl, hb, hL⟩
 obtain ⟨A', c', ds', hcs, _, _, _, hK'⟩:=hL.open_
 simp only [List.cons.injEq, and_true] at hcs
 obtain ⟨rfl, rfl, rfl⟩:=hcs
 exact ⟨A', c', ds', rfl, hb, hK'⟩
theorem NewLst.el {w w' : World} {t : Nat} {ks : List Be.El} {r : Ending} (ht : t ≤ 255) (hl : ks.length ≤ 20) (h : NewLst w t ks r w') : NewEl w (lst t ks) r w':=by
 obtain ⟨A, c, ds, rfl, hb, hK⟩:=h
 exact ⟨t, _, A, ks.length, c, rfl, hb, Be.Lies.shut ht (by decide) (by unfold maxLen; omega) hK⟩
theorem fresh_set {w1 : World} {P P' : Nat → Prop} {g : Nat} {A : Option Addr} {ks : List Be.El} {ds : Nat → List Value} {x y z : Value} (h : Be.KidsAt w1 P A ks ds) (hP : ∀ b, P b → b ≠ g ∧ P' b) :
  Be.KidsAt (((w1.setCell ⟨g, 0, none⟩ x).setCell ⟨g, 1, none⟩ y).setCell ⟨g, 2, none⟩ z) P' A ks ds:=by
 refine h.imp (fun b hb=>(hP b hb).2) (fun p hp=>?_)
 have hpb:=(hP _ hp).1
 rw [World.cell?_setCell_other _ _ _ _ (fun e=>hpb (by rw [← e])), World.cell?_setCell_other _ _ _ _ (fun e=>hpb (by rw [← e])), World.cell?_setCell_other _ _ _ _ (fun e=>hpb (by rw [← e]))]
theorem fresh_setE {w1 : World} {P P' : Nat → Prop} {g : Nat} {e : Be.El} {cs : List Value} {x y z : Value} (h : Be.Lies w1 P e cs) (hP : ∀ b, P b → b ≠ g ∧ P' b) :
  Be.Lies (((w1.setCell ⟨g, 0, none⟩ x).setCell ⟨g, 1, none⟩ y).setCell ⟨g, 2, none⟩ z) P' e cs:=by
 refine h.imp (fun b hb=>(hP b hb).2) (fun p hp=>?_)
 have hpb:=(hP _ hp).1
 rw [World.cell?_setCell_other _ _ _ _ (fun e=>hpb (by rw [← e])), World.cell?_setCell_other _ _ _ _ (fun e=>hpb (by rw [← e])), World.cell?_setCell_other _ _ _ _ (fun e=>hpb (by rw [← e]))]
theorem new_lst {w w1 : World} {P : Nat → Prop} {t : Nat} {A : Option Addr} {ks : List Be.El} {ds : Nat → List Value} {c : Nat} (hb : Below w.heap.size w w1) (h : Be.KidsAt w1 P A ks ds) (hP : ∀ b, P b → w.heap.size < b ∧ b < w1.heap.size) :
  NewLst w t ks (.returned (.agg #[.int .u8 (t : Nat), .string ⟨#[]⟩, .slice A ks.length c])) (((w1.setCell ⟨w.heap.size, 0, none⟩ (.int .u8 (t : Nat))).setCell ⟨w.heap.size, 1, none⟩ (.string ⟨#[]⟩)).setCell ⟨w.heap.size, 2, none⟩ (.slice A ks.length c)):=by
 refine ⟨A, c, ds, rfl, ((hb.setCell (p:=⟨w.heap.size, 0, none⟩) (Nat.le_refl _) _).setCell (p:=⟨w.heap.size, 1, none⟩) (Nat.le_refl _) _).setCell (p:=⟨w.heap.size, 2, none⟩) (Nat.le_refl _) _, fresh_set h fun b hb'=>?_⟩
 have:=hP b hb'
 exact ⟨by omega, by omega, by simpa [World.setCell] using this.2⟩
theorem NewEl.lst {w w' : World} {t : Nat} {ks : List Be.El} {r : Ending} (h : NewLst w t ks r w') (ht : t ≤ 255) (hl : ks.length ≤ 20) : NewEl w (lst t ks) r w':=h.el ht hl
set_option maxHeartbeats 1000000 in
theorem seq_any (ks : List Be.El) (d : Nat) (A : Option Addr) (c : Nat) (ds : Nat → List Value) (w : World) (hl : ks.length ≤ 20) (hg : ∀ k ∈ ks, good d k) (hK : Be.KidsAt w (· < w.heap.size) A ks ds) :
  Calls Tryz.prog 73 #[.slice A ks.length c] w (NewLst w 48 ks):=by
 have HL:=Lib.hid (list_any 48 (by decide) ks d A c ds (w.alloc (.cells #[.int .u8 0, .string ⟨#[]⟩, .slice none 0 0] 57)) hl hg (hK.past ((Below.refl _ _).alloc (Nat.le_refl _) _)))
 clear hK hg
 go_enter Tryz.func73, Tryz.ntmps73
 go_wp2_with fail
 refine HL.out.mono ?_
 rintro e w1 ⟨A', c', ds', rfl, hb1, hK1⟩
 have B1:=(Blk.new w 57 #[.int .u8 0, .string ⟨#[]⟩, .slice none 0 0]).past hb1
 have c0 : w1.cell? ⟨w.heap.size, 0, none⟩ = some (.int .u8 0):=B1.cell 0
 have c1 : w1.cell? ⟨w.heap.size, 1, none⟩ = some (.string ⟨#[]⟩):=B1.cell 1
 have c2 : w1.cell? ⟨w.heap.size, 2, none⟩ = some (.slice none 0 0):=B1.cell 2
 have g0:=B1.frozen 0
 have g1:=B1.frozen 1
 have g2:=B1.frozen 2
 have HK1:=Lib.hid hK1
 clear hK1
 go_wp2_with fail
 exact bodyPost_ret (Be.res_el rfl _ _ w.heap.size _ _ _ rfl (Be.Blk.set3 B1)) rfl (new_lst (((Below.refl w.heap.size w).alloc (Nat.le_refl _) _).trans (hb1.mono (by simp))) HK1.out (fun b hb=>⟨by have:=hb.1; simp at this; omega, hb.2⟩))
theorem kids_lit {w : World} (es : List Be.El) (css : List (List Value)) (hlen : es.length = css.length) (h3 : ∀ cs ∈ css, cs.length = 3) (hL : ∀ i (h : i < es.length), Be.Lies w (· < w.heap.size) es[i] (css.getD i [])) :
  Be.KidsAt (w.alloc (.cells css.flatten.toArray 57)) (· < (w.alloc (.cells css.flatten.toArray 57)).heap.size) (some ⟨w.heap.size, 0, none⟩) es (fun i=>css.getD i []):=by
 have hb:=(Below.refl w.heap.size w).alloc (Nat.le_refl _) (.cells css.flatten.toArray 57)
 have hget : ∀ i, i < css.length → css.getD i [] ∈ css:=fun i hi=>by rw [List.getD_eq_getElem?_getD, List.getElem?_eq_getElem hi]; exact List.getElem_mem hi
 have hfl : ∀ (l : List (List Value)), (∀ cs ∈ l, cs.length = 3) → ∀ i j u, i < l.length → (l.getD i [])[j]? = some u → l.flatten[i * 3 + j]? = some u:=by
  intro l
  induction l with
  | nil=>intro _ i j u hi; exact absurd hi (by simp)
  | cons c l ih =>
   intro h i j u hi hj
   have hc:=h c (by simp)
   cases i with
   | zero =>
    have hjl : j < c.length:=(List.getElem?_eq_some_iff.1 hj).1
    rw [List.flatten_cons, List.getElem?_append_left (by omega)]
    simpa using hj
   | succ i =>
    rw [List.flatten_cons, List.getElem?_append_right (by omega), hc, show (i + 1) * 3 + j - 3 = i * 3 + j by omega]
    exact ih (fun cs hcs=>h cs (by simp [hcs])) i j u (by simpa using hi) (by simpa using hj)
 refine ⟨fun i hi=>h3 _ (hget i (by omega)), fun _=>⟨_, rfl, by simp, fun i hi j u hu=>?_⟩, fun i hi=>(hL i hi).past hb⟩
 rw [Addr.add_lit, Nat.zero_add, (Blk.new w 57 css.flatten.toArray).cell]
 simpa using hfl css h3 i j u (by omega) hu
theorem lies_leaf {w : World} {P : Nat → Prop} {t : Nat} {b : ByteArray} (ht : t ≤ 255) (hb : b.size ≤ 281474976710656) : Be.Lies w P (txt t b) [.int .u8 (t : Nat), .string b, .slice none 0 0]:=Be.Lies.leaf ht (by unfold maxLen; omega)
theorem num_size {n : Int} (h0 : -9223372036854775808 ≤ n) (h1 : n ≤ 9223372036854775807) : (strOfNums (Be.intB n)).size ≤ 281474976710656:=by
 rw [strOfNums_size, Be.intB_len]
 have:=Be.few_8 n h0 h1
 omega
theorem lies_num {w : World} {P : Nat → Prop} {t : Nat} {n : Int} (ht : t ≤ 255) (h0 : -9223372036854775808 ≤ n) (h1 : n ≤ 9223372036854775807) : Be.Lies w P (num t n) [.int .u8 (t : Nat), .string (strOfNums (Be.intB n)), .slice none 0 0] :=
 Be.Lies.leaf ht (by have:=num_size h0 h1; unfold maxLen; omega)
theorem lies_flg {w : World} {P : Nat → Prop} (b : Bool) : Be.Lies w P (flg b) [.int .u8 ((1 : Nat) : Int), .string (boolB b), .slice none 0 0]:=Be.Lies.leaf (by decide) (by cases b <;> decide)
def Fr (w0 : World) (g1 : Nat) (t1 : TypeId) (cs : Array Value) (g2 : Nat) (w : World) : Prop:=Blk w g1 t1 cs ∧ (∃ x y z, Blk w g2 57 #[x, y, z]) ∧ Below w0.heap.size w0 w
theorem Fr.past {w0 w w' : World} {g1 g2 : Nat} {t1 : TypeId} {cs : Array Value} (h : Fr w0 g1 t1 cs g2 w) (hb : Below w.heap.size w w') : Fr w0 g1 t1 cs g2 w':=by
 obtain ⟨h1, ⟨x, y, z, h2⟩, h3⟩:=h
 exact ⟨h1.past hb, ⟨x, y, z, h2.past hb⟩, h3.trans (hb.mono h3.size)⟩
theorem Fr.drew {w0 w : World} {g1 g2 : Nat} {t1 : TypeId} {cs : Array Value} (h : Fr w0 g1 t1 cs g2 w) : Fr w0 g1 t1 cs g2 w.drew:=h.past (Below.refl _ _).drew
theorem Fr.alloc {w0 w : World} {g1 g2 : Nat} {t1 : TypeId} {cs : Array Value} (h : Fr w0 g1 t1 cs g2 w) (o : Obj) : Fr w0 g1 t1 cs g2 (w.alloc o):=h.past ((Below.refl _ _).alloc (Nat.le_refl _) o)
theorem Fr.new (w : World) (t1 : TypeId) (cs : Array Value) (x y z : Value) : Fr w w.heap.size t1 cs (w.heap.size + 1) ((w.alloc (.cells cs t1)).alloc (.cells #[x, y, z] 57)):=by
 have F1:=Blk.new (w.alloc (.cells cs t1)) 57 #[x, y, z]
 rw [show (w.alloc (.cells cs t1)).heap.size = w.heap.size + 1 by simp] at F1
 exact ⟨(Blk.new w _ _).alloc _, ⟨x, y, z, F1⟩, ((Below.refl _ _).alloc (Nat.le_refl _) _).alloc (by simp) _⟩
theorem Fr.store {w0 w : World} {g1 g2 : Nat} {t1 : TypeId} {cs : Array Value} (h : Fr w0 g1 t1 cs g2 w) (hne : g1 ≠ g2) (hg : w0.heap.size ≤ g2) (x y z : Value) : Fr w0 g1 t1 cs g2 (w.setRow g2 #[x, y, z]):=by
 obtain ⟨h1, ⟨x', y', z', h2⟩, h3⟩:=h
 exact ⟨(setRow_other w g2 g1 _ hne).trans h1, ⟨x, y, z, setRow_heap w g2 _ _ _ _ h2⟩, below_setRow h3 hg _⟩
theorem infoE3 : (Tryz.prog.info? 57).map (·.size) = some 3:=by kernel_rfl
theorem run_storeE {w0 w : World} {g1 g2 : Nat} {t1 : TypeId} {cs : Array Value} {ev : Operand → Value} {o : Oper} {p q : Operand} {t b A n c} (h : Fr w0 g1 t1 cs g2 w) (ho : o.op = .store 57 p q) (hp : ev p = .pointer (some ⟨g2, 0, none⟩))
  (hq : ev q = .agg #[.int .u8 t, .string b, .slice A n c]) : (execOp ev o).run Tryz.prog w = .ok .skip (w.setRow g2 #[.int .u8 t, .string b, .slice A n c]):=by
 obtain ⟨_, ⟨x', y', z', h2⟩, _⟩:=h
 unfold execOp
 simp only [ho, hp, hq, Instr.storeAt, Instr.sureAddr, Sem.run_bind, Sem.run_pure, Result.andThen_ok, run_storeVar_row w g2 _ 57 #[x', y', z'] #[.int .u8 t, .string b, .slice A n c] h2 infoE3 rfl (by simp [Value.oneCell'])]
theorem new_row {w0 w1 : World} {P : Nat → Prop} {t : Nat} {A : Option Addr} {ks : List Be.El} {ds : Nat → List Value} {c g2 : Nat} (hb : Below w0.heap.size w0 (w1.setRow g2 #[.int .u8 (t : Nat), .string ⟨#[]⟩, .slice A ks.length c])) (h : Be.KidsAt w1 P A ks ds) (hP : ∀ b, P b → b ≠ g2 ∧ w0.heap.size ≤ b ∧ b < w1.heap.size) :
  NewLst w0 t ks (.returned (.agg #[.int .u8 (t : Nat), .string ⟨#[]⟩, .slice A ks.length c])) (w1.setRow g2 #[.int .u8 (t : Nat), .string ⟨#[]⟩, .slice A ks.length c]) :=
 ⟨A, c, ds, rfl, hb, h.imp (fun b hb'=>⟨(hP b hb').2.1, by rw [setRow_size]; exact (hP b hb').2.2⟩) (fun p hp=>cell_setRow_other _ _ _ _ (hP _ hp).1)⟩
end Go.Proofs.YtconghaebebncaaGreatDoor.Ms
