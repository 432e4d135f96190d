import Derived.Test.YtconghaebebncaaGreatDoorZT11
import Derived.Test.YtconghaebebncaaGreatDoorZT25
import Derived.Test.YtconghaebebncaaGreatDoorZT19
import Derived.Test.YtconghaebebncaaGreatDoorZT10
namespace Go.Proofs.YtconghaebebncaaGreatDoor.Ms
open Go.RowKit
set_option linter.unusedVariables false
set_option maxRecDepth 100000
theorem below_el {w w1 : World} {o : Obj} {x y z : Value} (hb1 : Below (w.alloc o).heap.size (w.alloc o) w1) : Below w.heap.size w (((w1.setCell ⟨w.heap.size, 0, none⟩ x).setCell ⟨w.heap.size, 1, none⟩ y).setCell ⟨w.heap.size, 2, none⟩ z) :=
 ((((((Below.refl w.heap.size w).alloc (Nat.le_refl _) _).trans (hb1.mono (by simp))).setCell (p := ⟨w.heap.size, 0, none⟩) (Nat.le_refl _) _).setCell (p := ⟨w.heap.size, 1, none⟩) (Nat.le_refl _) _).setCell (p := ⟨w.heap.size, 2, none⟩) (Nat.le_refl _) _)
set_option maxHeartbeats 400000 in
theorem text_any (s : ByteArray) (w : World) (hs : s.size ≤ 281474976710656) :
  Calls Tryz.prog 133 #[.string s] w fun e w' => e = .returned (.agg #[.int .u8 4, .string s, .slice none 0 0]) ∧ Below w.heap.size w w' := by
 go_enter Tryz.func133, Tryz.ntmps133
 go_wp2_with fail
 refine (Be.Text_any 4 s _ hs).mono ?_
 rintro e w1 ⟨rfl, hb1⟩
 have B1 := (Blk.new w 57 #[.int .u8 0, .string ⟨#[]⟩, .slice none 0 0]).past hb1
 have c0 : w1.cell? ⟨w.heap.size, 0, none⟩ = some (.int .u8 0) := B1.cell 0
 have c1 : w1.cell? ⟨w.heap.size, 1, none⟩ = some (.string ⟨#[]⟩) := B1.cell 1
 have c2 : w1.cell? ⟨w.heap.size, 2, none⟩ = some (.slice none 0 0) := B1.cell 2
 have g0 := B1.frozen 0
 have g1 := B1.frozen 1
 have g2 := B1.frozen 2
 go_wp2_with fail
 exact bodyPost_ret (Be.res_el rfl _ _ w.heap.size _ _ _ rfl (Be.Blk.set3 B1)) rfl ⟨rfl, below_el hb1⟩
set_option maxHeartbeats 400000 in
theorem integer_any (n : Int) (w : World) (h0 : -9223372036854775808 ≤ n) (h1 : n ≤ 9223372036854775807) :
  Calls Tryz.prog 74 #[.int .i64 n] w fun e w' => e = .returned (.agg #[.int .u8 2, .string (strOfNums (Be.intB n)), .slice none 0 0]) ∧ Below w.heap.size w w' := by
 go_enter Tryz.func74, Tryz.ntmps74
 go_wp2_with fail
 refine (Be.Number_any 2 n _ h0 h1).mono ?_
 rintro e w1 ⟨rfl, hb1⟩
 have B1 := (Blk.new w 57 #[.int .u8 0, .string ⟨#[]⟩, .slice none 0 0]).past hb1
 have c0 : w1.cell? ⟨w.heap.size, 0, none⟩ = some (.int .u8 0) := B1.cell 0
 have c1 : w1.cell? ⟨w.heap.size, 1, none⟩ = some (.string ⟨#[]⟩) := B1.cell 1
 have c2 : w1.cell? ⟨w.heap.size, 2, none⟩ = some (.slice none 0 0) := B1.cell 2
 have g0 := B1.frozen 0
 have g1 := B1.frozen 1
 have g2 := B1.frozen 2
 go_wp2_with fail
 exact bodyPost_ret (Be.res_el rfl _ _ w.heap.size _ _ _ rfl (Be.Blk.set3 B1)) rfl ⟨rfl, below_el hb1⟩
set_option maxHeartbeats 400000 in
theorem enumerated_any (n : Int) (w : World) (h0 : -9223372036854775808 ≤ n) (h1 : n ≤ 9223372036854775807) :
  Calls Tryz.prog 134 #[.int .i64 n] w fun e w' => e = .returned (.agg #[.int .u8 10, .string (strOfNums (Be.intB n)), .slice none 0 0]) ∧ Below w.heap.size w w' := by
 go_enter Tryz.func134, Tryz.ntmps134
 go_wp2_with fail
 refine (Be.Number_any 10 n _ h0 h1).mono ?_
 rintro e w1 ⟨rfl, hb1⟩
 have B1 := (Blk.new w 57 #[.int .u8 0, .string ⟨#[]⟩, .slice none 0 0]).past hb1
 have c0 : w1.cell? ⟨w.heap.size, 0, none⟩ = some (.int .u8 0) := B1.cell 0
 have c1 : w1.cell? ⟨w.heap.size, 1, none⟩ = some (.string ⟨#[]⟩) := B1.cell 1
 have c2 : w1.cell? ⟨w.heap.size, 2, none⟩ = some (.slice none 0 0) := B1.cell 2
 have g0 := B1.frozen 0
 have g1 := B1.frozen 1
 have g2 := B1.frozen 2
 go_wp2_with fail
 exact bodyPost_ret (Be.res_el rfl _ _ w.heap.size _ _ _ rfl (Be.Blk.set3 B1)) rfl ⟨rfl, below_el hb1⟩
theorem boolB_eq (b : Bool) : Be.boolB b = boolB b := by cases b <;> rfl
set_option maxHeartbeats 400000 in
theorem flag_any (b : Bool) (w : World) :
  Calls Tryz.prog 135 #[.bool b] w fun e w' => e = .returned (.agg #[.int .u8 1, .string (boolB b), .slice none 0 0]) ∧ Below w.heap.size w w' := by
 have hb : (boolB b).size ≤ 281474976710656 := by cases b <;> decide
 go_enter Tryz.func135, Tryz.ntmps135
 go_wp2_with fail
 refine (Be.Bool_any b _).mono ?_
 rintro e w0 ⟨rfl, rfl⟩
 rw [boolB_eq]
 go_wp2_with fail
 refine (Be.Text_any 1 (boolB b) _ hb).mono ?_
 rintro e w1 ⟨rfl, hb1⟩
 have B1 := (Blk.new w 57 #[.int .u8 0, .string ⟨#[]⟩, .slice none 0 0]).past hb1
 have c0 : w1.cell? ⟨w.heap.size, 0, none⟩ = some (.int .u8 0) := B1.cell 0
 have c1 : w1.cell? ⟨w.heap.size, 1, none⟩ = some (.string ⟨#[]⟩) := B1.cell 1
 have c2 : w1.cell? ⟨w.heap.size, 2, none⟩ = some (.slice none 0 0) := B1.cell 2
 have g0 := B1.frozen 0
 have g1 := B1.frozen 1
 have g2 := B1.frozen 2
 go_wp2_with fail
 exact bodyPost_ret (Be.res_el rfl _ _ w.heap.size _ _ _ rfl (Be.Blk.set3 B1)) rfl ⟨rfl, below_el hb1⟩
def NewLst (w : World) (t : Nat) (ks : List Be.El) (r : Ending) (w' : World) : Prop :=
 ∃ (A : Option Addr) (c : Nat) (ds : Nat → List Value), r = .returned (.agg #[.int .u8 (t : Nat), .string ⟨#[]⟩, .slice A ks.length c]) ∧ Below w.heap.size w w' ∧ Be.KidsAt w' (fun b => w.heap.size ≤ b ∧ b < w'.heap.size) A ks ds
def NewEl (w : World) (e : Be.El) (r : Ending) (w' : World) : Prop :=
 ∃ (t : Nat) (b : ByteArray) (A : Option Addr) (n c : Nat), r = .returned (.agg #[.int .u8 (t : Nat), .string b, .slice A n c]) ∧ Below w.heap.size w w' ∧ Be.Lies w' (fun b => w.heap.size ≤ b ∧ b < w'.heap.size) e [.int .u8 (t : Nat), .string b, .slice A n c]
theorem good_fits {ks : List Be.El} {d : Nat} (h : ∀ k ∈ ks, good d k) : ∀ i (hi : i < ks.length), Be.fitS 20 400 d ks[i] = true := fun i hi => (h _ (List.getElem_mem hi)).2.2
theorem list_any (t : Nat) (ht : t ≤ 255) (ks : List Be.El) (d : Nat) (A : Option Addr) (c : Nat) (ds : Nat → List Value) (w : World) (hl : ks.length ≤ 20) (hg : ∀ k ∈ ks, good d k) (hK : Be.KidsAt w (· < w.heap.size) A ks ds) :
  Calls Tryz.prog 103 #[.int .u8 (t : Nat), .slice A ks.length c] w (NewLst w t ks) := by
 refine (Be.List_any t ht ks 20 400 d A c ds w hl (by omega) (by omega) (good_fits hg) hK).mono ?_
 rintro r w' ⟨x, y, z, rfl, hb, hL⟩
 obtain ⟨A', c', ds', hcs, _, _, _, hK'⟩ := hL.open_
 simp only [List.cons.injEq, and_true] at hcs
 obtain ⟨rfl, rfl, rfl⟩ := hcs
 exact ⟨A', c', ds', rfl, hb, hK'⟩
theorem NewLst.el {w w' : World} {t : Nat} {ks : List Be.El} {r : Ending} (ht : t ≤ 255) (hl : ks.length ≤ 20) (h : NewLst w t ks r w') : NewEl w (lst t ks) r w' := by
 obtain ⟨A, c, ds, rfl, hb, hK⟩ := h
 exact ⟨t, _, A, ks.length, c, rfl, hb, Be.Lies.shut ht (by decide) (by unfold maxLen; omega) hK⟩
theorem fresh_set {w1 : World} {P P' : Nat → Prop} {g : Nat} {A : Option Addr} {ks : List Be.El} {ds : Nat → List Value} {x y z : Value} (h : Be.KidsAt w1 P A ks ds) (hP : ∀ b, P b → b ≠ g ∧ P' b) :
  Be.KidsAt (((w1.setCell ⟨g, 0, none⟩ x).setCell ⟨g, 1, none⟩ y).setCell ⟨g, 2, none⟩ z) P' A ks ds := by
 refine h.imp (fun b hb => (hP b hb).2) (fun p hp => ?_)
 have hpb := (hP _ hp).1
 rw [World.cell?_setCell_other _ _ _ _ (fun e => hpb (by rw [← e])), World.cell?_setCell_other _ _ _ _ (fun e => hpb (by rw [← e])), World.cell?_setCell_other _ _ _ _ (fun e => hpb (by rw [← e]))]
theorem fresh_setE {w1 : World} {P P' : Nat → Prop} {g : Nat} {e : Be.El} {cs : List Value} {x y z : Value} (h : Be.Lies w1 P e cs) (hP : ∀ b, P b → b ≠ g ∧ P' b) :
  Be.Lies (((w1.setCell ⟨g, 0, none⟩ x).setCell ⟨g, 1, none⟩ y).setCell ⟨g, 2, none⟩ z) P' e cs := by
 refine h.imp (fun b hb => (hP b hb).2) (fun p hp => ?_)
 have hpb := (hP _ hp).1
 rw [World.cell?_setCell_other _ _ _ _ (fun e => hpb (by rw [← e])), World.cell?_setCell_other _ _ _ _ (fun e => hpb (by rw [← e])), World.cell?_setCell_other _ _ _ _ (fun e => hpb (by rw [← e]))]
theorem new_lst {w w1 : World} {P : Nat → Prop} {t : Nat} {A : Option Addr} {ks : List Be.El} {ds : Nat → List Value} {c : Nat} (hb : Below w.heap.size w w1) (h : Be.KidsAt w1 P A ks ds) (hP : ∀ b, P b → w.heap.size < b ∧ b < w1.heap.size) :
  NewLst w t ks (.returned (.agg #[.int .u8 (t : Nat), .string ⟨#[]⟩, .slice A ks.length c])) (((w1.setCell ⟨w.heap.size, 0, none⟩ (.int .u8 (t : Nat))).setCell ⟨w.heap.size, 1, none⟩ (.string ⟨#[]⟩)).setCell ⟨w.heap.size, 2, none⟩ (.slice A ks.length c)) := by
 refine ⟨A, c, ds, rfl, ((hb.setCell (p := ⟨w.heap.size, 0, none⟩) (Nat.le_refl _) _).setCell (p := ⟨w.heap.size, 1, none⟩) (Nat.le_refl _) _).setCell (p := ⟨w.heap.size, 2, none⟩) (Nat.le_refl _) _, fresh_set h fun b hb' => ?_⟩
 have := hP b hb'
 exact ⟨by omega, by omega, by simpa [World.setCell] using this.2⟩
theorem NewEl.lst {w w' : World} {t : Nat} {ks : List Be.El} {r : Ending} (h : NewLst w t ks r w') (ht : t ≤ 255) (hl : ks.length ≤ 20) : NewEl w (lst t ks) r w' := h.el ht hl
set_option maxHeartbeats 1000000 in
theorem seq_any (ks : List Be.El) (d : Nat) (A : Option Addr) (c : Nat) (ds : Nat → List Value) (w : World) (hl : ks.length ≤ 20) (hg : ∀ k ∈ ks, good d k) (hK : Be.KidsAt w (· < w.heap.size) A ks ds) :
  Calls Tryz.prog 73 #[.slice A ks.length c] w (NewLst w 48 ks) := by
 have HL := Lib.hid (list_any 48 (by decide) ks d A c ds (w.alloc (.cells #[.int .u8 0, .string ⟨#[]⟩, .slice none 0 0] 57)) hl hg (hK.past ((Below.refl _ _).alloc (Nat.le_refl _) _)))
 clear hK hg
 go_enter Tryz.func73, Tryz.ntmps73
 go_wp2_with fail
 refine HL.out.mono ?_
 rintro e w1 ⟨A', c', ds', rfl, hb1, hK1⟩
 have B1 := (Blk.new w 57 #[.int .u8 0, .string ⟨#[]⟩, .slice none 0 0]).past hb1
 have c0 : w1.cell? ⟨w.heap.size, 0, none⟩ = some (.int .u8 0) := B1.cell 0
 have c1 : w1.cell? ⟨w.heap.size, 1, none⟩ = some (.string ⟨#[]⟩) := B1.cell 1
 have c2 : w1.cell? ⟨w.heap.size, 2, none⟩ = some (.slice none 0 0) := B1.cell 2
 have g0 := B1.frozen 0
 have g1 := B1.frozen 1
 have g2 := B1.frozen 2
 have HK1 := Lib.hid hK1
 clear hK1
 go_wp2_with fail
 exact bodyPost_ret (Be.res_el rfl _ _ w.heap.size _ _ _ rfl (Be.Blk.set3 B1)) rfl (new_lst (((Below.refl w.heap.size w).alloc (Nat.le_refl _) _).trans (hb1.mono (by simp))) HK1.out (fun b hb => ⟨by have := hb.1; simp at this; omega, hb.2⟩))
theorem kids_lit {w : World} (es : List Be.El) (css : List (List Value)) (hlen : es.length = css.length) (h3 : ∀ cs ∈ css, cs.length = 3) (hL : ∀ i (h : i < es.length), Be.Lies w (· < w.heap.size) es[i] (css.getD i [])) :
  Be.KidsAt (w.alloc (.cells css.flatten.toArray 57)) (· < (w.alloc (.cells css.flatten.toArray 57)).heap.size) (some ⟨w.heap.size, 0, none⟩) es (fun i => css.getD i []) := by
 have hb := (Below.refl w.heap.size w).alloc (Nat.le_refl _) (.cells css.flatten.toArray 57)
 have hget : ∀ i, i < css.length → css.getD i [] ∈ css := fun i hi => by rw [List.getD_eq_getElem?_getD, List.getElem?_eq_getElem hi]; exact List.getElem_mem hi
 have hfl : ∀ (l : List (List Value)), (∀ cs ∈ l, cs.length = 3) → ∀ i j u, i < l.length → (l.getD i [])[j]? = some u → l.flatten[i * 3 + j]? = some u := by
  intro l
  induction l with
  | nil => intro _ i j u hi; exact absurd hi (by simp)
  | cons c l ih =>
   intro h i j u hi hj
   have hc := h c (by simp)
   cases i with
   | zero =>
    have hjl : j < c.length := (List.getElem?_eq_some_iff.1 hj).1
    rw [List.flatten_cons, List.getElem?_append_left (by omega)]
    simpa using hj
   | succ i =>
    rw [List.flatten_cons, List.getElem?_append_right (by omega), hc, show (i + 1) * 3 + j - 3 = i * 3 + j by omega]
    exact ih (fun cs hcs => h cs (by simp [hcs])) i j u (by simpa using hi) (by simpa using hj)
 refine ⟨fun i hi => h3 _ (hget i (by omega)), fun _ => ⟨_, rfl, by simp, fun i hi j u hu => ?_⟩, fun i hi => (hL i hi).past hb⟩
 rw [Addr.add_lit, Nat.zero_add, (Blk.new w 57 css.flatten.toArray).cell]
 simpa using hfl css h3 i j u (by omega) hu
theorem lies_leaf {w : World} {P : Nat → Prop} {t : Nat} {b : ByteArray} (ht : t ≤ 255) (hb : b.size ≤ 281474976710656) : Be.Lies w P (txt t b) [.int .u8 (t : Nat), .string b, .slice none 0 0] := Be.Lies.leaf ht (by unfold maxLen; omega)
theorem num_size {n : Int} (h0 : -9223372036854775808 ≤ n) (h1 : n ≤ 9223372036854775807) : (strOfNums (Be.intB n)).size ≤ 281474976710656 := by
 rw [strOfNums_size, Be.intB_len]
 have := Be.few_8 n h0 h1
 omega
theorem lies_num {w : World} {P : Nat → Prop} {t : Nat} {n : Int} (ht : t ≤ 255) (h0 : -9223372036854775808 ≤ n) (h1 : n ≤ 9223372036854775807) : Be.Lies w P (num t n) [.int .u8 (t : Nat), .string (strOfNums (Be.intB n)), .slice none 0 0] :=
 Be.Lies.leaf ht (by have := num_size h0 h1; unfold maxLen; omega)
theorem lies_flg {w : World} {P : Nat → Prop} (b : Bool) : Be.Lies w P (flg b) [.int .u8 ((1 : Nat) : Int), .string (boolB b), .slice none 0 0] := Be.Lies.leaf (by decide) (by cases b <;> decide)
def Fr (w0 : World) (g1 : Nat) (t1 : TypeId) (cs : Array Value) (g2 : Nat) (w : World) : Prop := Blk w g1 t1 cs ∧ (∃ x y z, Blk w g2 57 #[x, y, z]) ∧ Below w0.heap.size w0 w
theorem Fr.past {w0 w w' : World} {g1 g2 : Nat} {t1 : TypeId} {cs : Array Value} (h : Fr w0 g1 t1 cs g2 w) (hb : Below w.heap.size w w') : Fr w0 g1 t1 cs g2 w' := by
 obtain ⟨h1, ⟨x, y, z, h2⟩, h3⟩ := h
 exact ⟨h1.past hb, ⟨x, y, z, h2.past hb⟩, h3.trans (hb.mono h3.size)⟩
theorem Fr.drew {w0 w : World} {g1 g2 : Nat} {t1 : TypeId} {cs : Array Value} (h : Fr w0 g1 t1 cs g2 w) : Fr w0 g1 t1 cs g2 w.drew := h.past (Below.refl _ _).drew
theorem Fr.alloc {w0 w : World} {g1 g2 : Nat} {t1 : TypeId} {cs : Array Value} (h : Fr w0 g1 t1 cs g2 w) (o : Obj) : Fr w0 g1 t1 cs g2 (w.alloc o) := h.past ((Below.refl _ _).alloc (Nat.le_refl _) o)
theorem Fr.new (w : World) (t1 : TypeId) (cs : Array Value) (x y z : Value) : Fr w w.heap.size t1 cs (w.heap.size + 1) ((w.alloc (.cells cs t1)).alloc (.cells #[x, y, z] 57)) := by
 have F1 := Blk.new (w.alloc (.cells cs t1)) 57 #[x, y, z]
 rw [show (w.alloc (.cells cs t1)).heap.size = w.heap.size + 1 by simp] at F1
 exact ⟨(Blk.new w _ _).alloc _, ⟨x, y, z, F1⟩, ((Below.refl _ _).alloc (Nat.le_refl _) _).alloc (by simp) _⟩
theorem Fr.store {w0 w : World} {g1 g2 : Nat} {t1 : TypeId} {cs : Array Value} (h : Fr w0 g1 t1 cs g2 w) (hne : g1 ≠ g2) (hg : w0.heap.size ≤ g2) (x y z : Value) : Fr w0 g1 t1 cs g2 (w.setRow g2 #[x, y, z]) := by
 obtain ⟨h1, ⟨x', y', z', h2⟩, h3⟩ := h
 exact ⟨(setRow_other w g2 g1 _ hne).trans h1, ⟨x, y, z, setRow_heap w g2 _ _ _ _ h2⟩, below_setRow h3 hg _⟩
theorem infoE3 : (Tryz.prog.info? 57).map (·.size) = some 3 := by kernel_rfl
theorem run_storeE {w0 w : World} {g1 g2 : Nat} {t1 : TypeId} {cs : Array Value} {ev : Operand → Value} {o : Oper} {p q : Operand} {t b A n c} (h : Fr w0 g1 t1 cs g2 w) (ho : o.op = .store 57 p q) (hp : ev p = .pointer (some ⟨g2, 0, none⟩))
  (hq : ev q = .agg #[.int .u8 t, .string b, .slice A n c]) : (execOp ev o).run Tryz.prog w = .ok .skip (w.setRow g2 #[.int .u8 t, .string b, .slice A n c]) := by
 obtain ⟨_, ⟨x', y', z', h2⟩, _⟩ := h
 unfold execOp
 simp only [ho, hp, hq, Instr.storeAt, Instr.sureAddr, Sem.run_bind, Sem.run_pure, Result.andThen_ok, run_storeVar_row w g2 _ 57 #[x', y', z'] #[.int .u8 t, .string b, .slice A n c] h2 infoE3 rfl (by simp [Value.oneCell'])]
theorem new_row {w0 w1 : World} {P : Nat → Prop} {t : Nat} {A : Option Addr} {ks : List Be.El} {ds : Nat → List Value} {c g2 : Nat} (hb : Below w0.heap.size w0 (w1.setRow g2 #[.int .u8 (t : Nat), .string ⟨#[]⟩, .slice A ks.length c])) (h : Be.KidsAt w1 P A ks ds) (hP : ∀ b, P b → b ≠ g2 ∧ w0.heap.size ≤ b ∧ b < w1.heap.size) :
  NewLst w0 t ks (.returned (.agg #[.int .u8 (t : Nat), .string ⟨#[]⟩, .slice A ks.length c])) (w1.setRow g2 #[.int .u8 (t : Nat), .string ⟨#[]⟩, .slice A ks.length c]) :=
 ⟨A, c, ds, rfl, hb, h.imp (fun b hb' => ⟨(hP b hb').2.1, by rw [setRow_size]; exact (hP b hb').2.2⟩) (fun p hp => cell_setRow_other _ _ _ _ (hP _ hp).1)⟩
end Go.Proofs.YtconghaebebncaaGreatDoor.Ms
