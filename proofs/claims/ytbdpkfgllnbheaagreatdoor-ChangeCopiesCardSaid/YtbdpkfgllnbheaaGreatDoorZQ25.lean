import Derived.Test.YtbdpkfgllnbheaaGreatDoorZQ24
set_option linter.unusedVariables false
set_option maxRecDepth 100000
namespace Go.Proofs.YtbdpkfgllnbheaaGreatDoor.Ch
open Go.RowKit
theorem Fx.other {w0 w : World} {g n : Nat} {s t : TypeId} {cs : Array Value} (h : Fx w0 w0.heap.size s cs (w0.heap.size + 1) t n w) (hg : w0.heap.size + 1 < g) (ds : Array Value) : Fx w0 w0.heap.size s cs (w0.heap.size + 1) t n (w.setRow g ds):=by
 obtain ⟨h1, ⟨ds', h0, h2⟩, h3⟩:=h
 exact ⟨(setRow_other w g _ _ (by omega)).trans h1, ⟨ds', h0, (setRow_other w g _ _ (by omega)).trans h2⟩, below_setRow h3 (by omega) _⟩
theorem run_storeArr {w : World} {g : Nat} {t : TypeId} {old ds : Array Value} {ev : Operand → Value} {o : Oper} {p q : Operand} (h : Blk w g t old) (hn : old.size = ds.size) (hi : (Tryz.prog.info? t).map (·.size) = some ds.size) (h1 : ds.all (·.oneCell') = true)
  (ho : o.op = .store t p q) (hp : ev p = .pointer (some ⟨g, 0, none⟩)) (hq : ev q = .agg ds) : (execOp ev o).run Tryz.prog w = .ok .skip (w.setRow g ds):=by
 unfold execOp
 simp only [ho, hp, hq, Instr.storeAt, Instr.sureAddr, Sem.run_bind, Sem.run_pure, Result.andThen_ok, run_storeVar_row w g _ t old ds h hi hn h1]
def KidsG (w : World) (g : Nat) (A : Option Addr) (ks : List Be.El) (dd : Nat → List Value) : Prop:=Be.KidsAt w (fun b=>b < w.heap.size ∧ b ≠ g) A ks dd
theorem KidsG.new {w1 : World} {B g : Nat} {A : Option Addr} {ks : List Be.El} {dd : Nat → List Value} (h : Be.KidsAt w1 (fun b=>B ≤ b ∧ b < w1.heap.size) A ks dd) (hg : g < B) : KidsG w1 g A ks dd:=h.imp (fun b hb=>⟨hb.2, by omega⟩) (fun _ _=>rfl)
theorem KidsG.newN {w1 : World} {B : Nat} {A : Option Addr} {ks : List Be.El} {dd : Nat → List Value} (h : Be.KidsAt w1 (fun b=>B ≤ b ∧ b < w1.heap.size) A ks dd) : KidsG w1 w1.heap.size A ks dd:=h.imp (fun b hb=>⟨hb.2, by omega⟩) (fun _ _=>rfl)
theorem KidsG.past {w w' : World} {g : Nat} {A : Option Addr} {ks : List Be.El} {dd : Nat → List Value} (h : KidsG w g A ks dd) (hb : Below w.heap.size w w') : KidsG w' g A ks dd:=Be.KidsAt.imp h (fun b hb'=>⟨Nat.lt_of_lt_of_le hb'.1 hb.size, hb'.2⟩) (fun p hp=>hb.cell hp.1)
theorem KidsG.allocN {w : World} {A : Option Addr} {ks : List Be.El} {dd : Nat → List Value} (h : KidsG w w.heap.size A ks dd) (o : Obj) : KidsG (w.alloc o) w.heap.size A ks dd:=h.past ((Below.refl _ _).alloc (Nat.le_refl _) o)
theorem KidsG.far {w : World} {g : Nat} {A : Option Addr} {ks : List Be.El} {dd : Nat → List Value} (h : KidsG w g A ks dd) (ds : Array Value) : KidsG (w.setRow g ds) g A ks dd:=Be.KidsAt.imp h (fun b hb=>by rw [setRow_size]; exact hb) (fun p hp=>cell_setRow_other _ _ _ _ hp.2)
theorem KidsG.old {w : World} {g : Nat} {A : Option Addr} {ks : List Be.El} {dd : Nat → List Value} (h : KidsG w g A ks dd) : Be.KidsAt w (· < w.heap.size) A ks dd:=Be.KidsAt.imp h (fun b hb=>hb.1) (fun _ _=>rfl)
theorem kids_arr {w : World} {g : Nat} (T : TypeId) (es : List Be.El) (css : List (List Value)) (hB : Blk w g T css.flatten.toArray) (hlen : es.length = css.length) (h3 : ∀ cs ∈ css, cs.length = 3) (hL : ∀ i (h : i < es.length), Be.Lies w (· < w.heap.size) es[i] (css.getD i [])) :
  Be.KidsAt w (· < w.heap.size) (some ⟨g, 0, none⟩) es (fun i=>css.getD i []):=by
 have hget : ∀ i, i < css.length → css.getD i [] ∈ css:=fun i hi=>by rw [List.getD_eq_getElem?_getD, List.getElem?_eq_getElem hi]; exact List.getElem_mem hi
 have hfl : ∀ (l : List (List Value)), (∀ cs ∈ l, cs.length = 3) → ∀ i j u, i < l.length → (l.getD i [])[j]? = some u → l.flatten[i * 3 + j]? = some u:=by
  intro l
  induction l with
  | nil=>intro _ i j u hi; exact absurd hi (by simp)
  | cons c l ih =>
   intro h i j u hi hj
   have hc:=h c (by simp)
   cases i with
   | zero =>
    have hjl : j < c.length:=(List.getElem?_eq_some_iff.1 hj).1
    rw [List.flatten_cons, List.getElem?_append_left (by omega)]
    simpa using hj
   | succ i =>
    rw [List.flatten_cons, List.getElem?_append_right (by omega), hc, show (i + 1) * 3 + j - 3 = i * 3 + j by omega]
    exact ih (fun cs hcs=>h cs (by simp [hcs])) i j u (by simpa using hi) (by simpa using hj)
 refine ⟨fun i hi=>h3 _ (hget i (by omega)), fun _=>⟨_, rfl, hB.lt, fun i hi j u hu=>?_⟩, hL⟩
 rw [Addr.add_lit, Nat.zero_add, hB.cell]
 simpa using hfl css h3 i j u (by omega) hu
theorem new_lstR {w w1 : World} {P : Nat → Prop} {t : Nat} {A : Option Addr} {ks : List Be.El} {ds : Nat → List Value} {c r : Nat} (hr : w.heap.size ≤ r) (hb : Below w.heap.size w w1) (h : Be.KidsAt w1 P A ks ds) (hP : ∀ b, P b → b ≠ r ∧ w.heap.size ≤ b ∧ b < w1.heap.size) :
  NewLst w t ks (.returned (.agg #[.int .u8 (t : Nat), .string ⟨#[]⟩, .slice A ks.length c])) (((w1.setCell ⟨r, 0, none⟩ (.int .u8 (t : Nat))).setCell ⟨r, 1, none⟩ (.string ⟨#[]⟩)).setCell ⟨r, 2, none⟩ (.slice A ks.length c)):=by
 refine ⟨A, c, ds, rfl, ((hb.setCell (p:=⟨r, 0, none⟩) hr _).setCell (p:=⟨r, 1, none⟩) hr _).setCell (p:=⟨r, 2, none⟩) hr _, fresh_set h fun b hb'=>?_⟩
 have:=hP b hb'
 exact ⟨this.1, this.2.1, by simpa [World.setCell] using this.2.2⟩
noncomputable def modOps : Array Oper:=(Tryz.f51.body.bind (Rg.regOps 1)).getD #[]
set_option maxHeartbeats 8000000 in
theorem mod_reg (d : Mo) (V : Option Addr) (vc : Nat) (w : World) (hk : 1 ≤ d.kind ∧ d.kind ≤ 3) (ha : d.attr.size ≤ 12) (hl : d.vals.length ≤ 12) (hvs : ∀ s ∈ d.vals, s.size ≤ 281474976710656) (hl1 : (d.vals.map (txt 4)).length ≤ 20) (hgv : ∀ e ∈ d.vals.map (txt 4), good 1 e) (h5 : StrsAt w (· < w.heap.size) V d.vals) {Q : Exit → Act → World → Prop} (hQ : ∀ c a a' w, Q (.panic c) a' w → Q (.panic c) a w)
  (REST : ∀ (W : World) (A1 : Option Addr) (c1 : Nat) (d1 : Nat → List Value) (A2 : Option Addr) (c2 : Nat) (d2 : Nat → List Value) (g : Nat), (Fx w w.heap.size 44 #[.int .i64 d.kind, .string d.attr, .slice V d.vals.length vc] (w.heap.size + 1) 53 3) W → Blk W g 120 #[.int .u8 2, .string (strOfNums (Be.intB d.kind)), .slice none 0 0, .int .u8 4, .string d.attr, .slice none 0 0, .int .u8 48, .string ⟨#[]⟩, .slice A2 (d.vals.map (txt 4)).length c2] → w.heap.size + 1 < g → KidsG W g A2 (d.vals.map (txt 4)) d2 → Q .normal (⟨#[(.agg #[.int .i64 d.kind, .string d.attr, .slice V d.vals.length vc]), (.pointer (some ⟨w.heap.size, 0, none⟩)), (.pointer (some ⟨w.heap.size + 1, 0, none⟩)), (.pointer (some ⟨g, 0, none⟩)), (.pointer (some ⟨w.heap.size, 0, none⟩)), (.int .i64 d.kind), (.agg #[.int .u8 2, .string (strOfNums (Be.intB d.kind)), .slice none 0 0]), (.pointer (some ⟨w.heap.size, 1, none⟩)), (.string d.attr), (.agg #[.int .u8 4, .string d.attr, .slice none 0 0]), (.pointer (some ⟨w.heap.size, 2, none⟩)), (.slice V d.vals.length vc), (.slice A1 (d.vals.map (txt 4)).length c1), (.agg #[.int .u8 48, .string ⟨#[]⟩, .slice A2 (d.vals.map (txt 4)).length c2]), (.agg #[.int .u8 2, .string (strOfNums (Be.intB d.kind)), .slice none 0 0, .int .u8 4, .string d.attr, .slice none 0 0, .int .u8 48, .string ⟨#[]⟩, .slice A2 (d.vals.map (txt 4)).length c2]), undef, undef], []⟩ : Act) W) (y : World) (hy : (Fx w w.heap.size 44 #[.int .i64 d.kind, .string d.attr, .slice V d.vals.length vc] (w.heap.size + 1) 53 3) y) :
  wpAnyH Tryz.prog .any modOps Q (Fx w w.heap.size 44 #[.int .i64 d.kind, .string d.attr, .slice V d.vals.length vc] (w.heap.size + 1) 53 3) 13 #[false, false, false, false, false, false, false, false, false, false, false, false, false] (⟨#[(.agg #[.int .i64 d.kind, .string d.attr, .slice V d.vals.length vc]), (.pointer (some ⟨w.heap.size, 0, none⟩)), (.pointer (some ⟨w.heap.size + 1, 0, none⟩)), undef, undef, undef, undef, undef, undef, undef, undef, undef, undef, undef, undef, undef, undef], []⟩ : Act) y:=by
 have EA : ∀ (W : World) (A1 : Option Addr) (c1 : Nat) (d1 : Nat → List Value) (A2 : Option Addr) (c2 : Nat) (d2 : Nat → List Value) (g : Nat), (Fx w w.heap.size 44 #[.int .i64 d.kind, .string d.attr, .slice V d.vals.length vc] (w.heap.size + 1) 53 3) W → Blk W g 120 #[.int .u8 0, .string ⟨#[]⟩, .slice none 0 0, .int .u8 0, .string ⟨#[]⟩, .slice none 0 0, .int .u8 0, .string ⟨#[]⟩, .slice none 0 0] → w.heap.size + 1 < g → KidsG W g A2 (d.vals.map (txt 4)) d2 → wpAnyH Tryz.prog .any modOps Q (Fx w w.heap.size 44 #[.int .i64 d.kind, .string d.attr, .slice V d.vals.length vc] (w.heap.size + 1) 53 3) 1 #[true, true, true, true, true, true, true, true, true, true, true, true, false] (⟨#[(.agg #[.int .i64 d.kind, .string d.attr, .slice V d.vals.length vc]), (.pointer (some ⟨w.heap.size, 0, none⟩)), (.pointer (some ⟨w.heap.size + 1, 0, none⟩)), (.pointer (some ⟨g, 0, none⟩)), (.pointer (some ⟨w.heap.size, 0, none⟩)), (.int .i64 d.kind), (.agg #[.int .u8 2, .string (strOfNums (Be.intB d.kind)), .slice none 0 0]), (.pointer (some ⟨w.heap.size, 1, none⟩)), (.string d.attr), (.agg #[.int .u8 4, .string d.attr, .slice none 0 0]), (.pointer (some ⟨w.heap.size, 2, none⟩)), (.slice V d.vals.length vc), (.slice A1 (d.vals.map (txt 4)).length c1), (.agg #[.int .u8 48, .string ⟨#[]⟩, .slice A2 (d.vals.map (txt 4)).length c2]), (.agg #[.int .u8 2, .string (strOfNums (Be.intB d.kind)), .slice none 0 0, .int .u8 4, .string d.attr, .slice none 0 0, .int .u8 48, .string ⟨#[]⟩, .slice A2 (d.vals.map (txt 4)).length c2]), undef, undef], []⟩ : Act) W:=by
  intro W A1 c1 d1 A2 c2 d2 g hS hg hgr hK2
  have hB:=hS.2.2.size
  have hS2 : (Fx w w.heap.size 44 #[.int .i64 d.kind, .string d.attr, .slice V d.vals.length vc] (w.heap.size + 1) 53 3) (W.setRow g #[.int .u8 2, .string (strOfNums (Be.intB d.kind)), .slice none 0 0, .int .u8 4, .string d.attr, .slice none 0 0, .int .u8 48, .string ⟨#[]⟩, .slice A2 (d.vals.map (txt 4)).length c2]):=hS.other hgr #[.int .u8 2, .string (strOfNums (Be.intB d.kind)), .slice none 0 0, .int .u8 4, .string d.attr, .slice none 0 0, .int .u8 48, .string ⟨#[]⟩, .slice A2 (d.vals.map (txt 4)).length c2]
  refine Rg.sk 12 (W.setRow g #[.int .u8 2, .string (strOfNums (Be.intB d.kind)), .slice none 0 0, .int .u8 4, .string d.attr, .slice none 0 0, .int .u8 48, .string ⟨#[]⟩, .slice A2 (d.vals.map (txt 4)).length c2]) rfl (by kernel_rfl) (run_storeArr (ds:=#[.int .u8 2, .string (strOfNums (Be.intB d.kind)), .slice none 0 0, .int .u8 4, .string d.attr, .slice none 0 0, .int .u8 48, .string ⟨#[]⟩, .slice A2 (d.vals.map (txt 4)).length c2]) hg rfl (by kernel_rfl) (by simp [Value.oneCell']) rfl rfl rfl) hS2 ?_
  refine wpAnyH_done (by kernel_rfl) ?_ _
  exact REST (W.setRow g #[.int .u8 2, .string (strOfNums (Be.intB d.kind)), .slice none 0 0, .int .u8 4, .string d.attr, .slice none 0 0, .int .u8 48, .string ⟨#[]⟩, .slice A2 (d.vals.map (txt 4)).length c2]) A1 c1 d1 A2 c2 d2 g hS2 (setRow_heap _ _ _ _ _ _ hg) hgr (hK2.far _)
 have A4 : ∀ (W : World) (A1 : Option Addr) (c1 : Nat) (d1 : Nat → List Value) (A2 : Option Addr) (c2 : Nat) (d2 : Nat → List Value) (g : Nat), (Fx w w.heap.size 44 #[.int .i64 d.kind, .string d.attr, .slice V d.vals.length vc] (w.heap.size + 1) 53 3) W → Blk W g 120 #[.int .u8 0, .string ⟨#[]⟩, .slice none 0 0, .int .u8 0, .string ⟨#[]⟩, .slice none 0 0, .int .u8 0, .string ⟨#[]⟩, .slice none 0 0] → w.heap.size + 1 < g → KidsG W g A2 (d.vals.map (txt 4)) d2 → wpAnyH Tryz.prog .any modOps Q (Fx w w.heap.size 44 #[.int .i64 d.kind, .string d.attr, .slice V d.vals.length vc] (w.heap.size + 1) 53 3) 2 #[true, true, true, true, true, true, true, true, true, true, false, true, false] (⟨#[(.agg #[.int .i64 d.kind, .string d.attr, .slice V d.vals.length vc]), (.pointer (some ⟨w.heap.size, 0, none⟩)), (.pointer (some ⟨w.heap.size + 1, 0, none⟩)), (.pointer (some ⟨g, 0, none⟩)), (.pointer (some ⟨w.heap.size, 0, none⟩)), (.int .i64 d.kind), (.agg #[.int .u8 2, .string (strOfNums (Be.intB d.kind)), .slice none 0 0]), (.pointer (some ⟨w.heap.size, 1, none⟩)), (.string d.attr), (.agg #[.int .u8 4, .string d.attr, .slice none 0 0]), (.pointer (some ⟨w.heap.size, 2, none⟩)), (.slice V d.vals.length vc), (.slice A1 (d.vals.map (txt 4)).length c1), (.agg #[.int .u8 48, .string ⟨#[]⟩, .slice A2 (d.vals.map (txt 4)).length c2]), undef, undef, undef], []⟩ : Act) W:=by
  intro W A1 c1 d1 A2 c2 d2 g hS hg hgr hK2
  refine Rg.tk 10 14 (.agg #[.int .u8 2, .string (strOfNums (Be.intB d.kind)), .slice none 0 0, .int .u8 4, .string d.attr, .slice none 0 0, .int .u8 48, .string ⟨#[]⟩, .slice A2 (d.vals.map (txt 4)).length c2]) rfl (by kernel_rfl) (fun _ _ _ h=>hQ _ _ _ _ h) (fun _ _=>by kernel_rfl) hS ?_
  exact Rg.st rfl (by kernel_rfl) (by kernel_rfl) (EA W A1 c1 d1 A2 c2 d2 g hS hg hgr hK2)
 have A3 : ∀ (W : World) (A1 : Option Addr) (c1 : Nat) (d1 : Nat → List Value) (g : Nat), (Fx w w.heap.size 44 #[.int .i64 d.kind, .string d.attr, .slice V d.vals.length vc] (w.heap.size + 1) 53 3) W → Blk W g 120 #[.int .u8 0, .string ⟨#[]⟩, .slice none 0 0, .int .u8 0, .string ⟨#[]⟩, .slice none 0 0, .int .u8 0, .string ⟨#[]⟩, .slice none 0 0] → w.heap.size + 1 < g → KidsG W g A1 (d.vals.map (txt 4)) d1 → wpAnyH Tryz.prog .any modOps Q (Fx w w.heap.size 44 #[.int .i64 d.kind, .string d.attr, .slice V d.vals.length vc] (w.heap.size + 1) 53 3) 3 #[true, true, true, true, true, true, true, true, true, false, false, true, false] (⟨#[(.agg #[.int .i64 d.kind, .string d.attr, .slice V d.vals.length vc]), (.pointer (some ⟨w.heap.size, 0, none⟩)), (.pointer (some ⟨w.heap.size + 1, 0, none⟩)), (.pointer (some ⟨g, 0, none⟩)), (.pointer (some ⟨w.heap.size, 0, none⟩)), (.int .i64 d.kind), (.agg #[.int .u8 2, .string (strOfNums (Be.intB d.kind)), .slice none 0 0]), (.pointer (some ⟨w.heap.size, 1, none⟩)), (.string d.attr), (.agg #[.int .u8 4, .string d.attr, .slice none 0 0]), (.pointer (some ⟨w.heap.size, 2, none⟩)), (.slice V d.vals.length vc), (.slice A1 (d.vals.map (txt 4)).length c1), undef, undef, undef, undef], []⟩ : Act) W:=by
  intro W A1 c1 d1 g hS hg hgr hK1
  refine Rg.cl 9 13 rfl (by kernel_rfl) 49 #[.slice A1 (d.vals.map (txt 4)).length c1] (by kernel_rfl) (seq_any (d.vals.map (txt 4)) 1 A1 c1 d1 _ hl1 hgv hK1.old) ?_
  rintro _ w1 ⟨A2, c2, d2, rfl, hb, hK⟩
  have hS1:=hS.past hb
  refine ⟨_, rfl, hS1, ?_⟩
  exact Rg.st rfl (by kernel_rfl) (by kernel_rfl) (A4 w1 A1 c1 d1 A2 c2 d2 g hS1 (hg.past hb) hgr (KidsG.new hK hg.lt))
 have A2 : ∀ (W : World) (g : Nat), (Fx w w.heap.size 44 #[.int .i64 d.kind, .string d.attr, .slice V d.vals.length vc] (w.heap.size + 1) 53 3) W → Blk W g 120 #[.int .u8 0, .string ⟨#[]⟩, .slice none 0 0, .int .u8 0, .string ⟨#[]⟩, .slice none 0 0, .int .u8 0, .string ⟨#[]⟩, .slice none 0 0] → w.heap.size + 1 < g → wpAnyH Tryz.prog .any modOps Q (Fx w w.heap.size 44 #[.int .i64 d.kind, .string d.attr, .slice V d.vals.length vc] (w.heap.size + 1) 53 3) 4 #[true, true, true, true, true, true, true, true, false, false, false, true, false] (⟨#[(.agg #[.int .i64 d.kind, .string d.attr, .slice V d.vals.length vc]), (.pointer (some ⟨w.heap.size, 0, none⟩)), (.pointer (some ⟨w.heap.size + 1, 0, none⟩)), (.pointer (some ⟨g, 0, none⟩)), (.pointer (some ⟨w.heap.size, 0, none⟩)), (.int .i64 d.kind), (.agg #[.int .u8 2, .string (strOfNums (Be.intB d.kind)), .slice none 0 0]), (.pointer (some ⟨w.heap.size, 1, none⟩)), (.string d.attr), (.agg #[.int .u8 4, .string d.attr, .slice none 0 0]), (.pointer (some ⟨w.heap.size, 2, none⟩)), (.slice V d.vals.length vc), undef, undef, undef, undef, undef], []⟩ : Act) W:=by
  intro W  g hS hg hgr 
  refine Rg.cl 8 12 rfl (by kernel_rfl) 88 #[.slice V d.vals.length vc, .func (.func 44) #[] #[]] (by kernel_rfl) (eachT_any V vc d.vals _ (by omega) hvs (h5.past hS.2.2)) ?_
  rintro _ w1 ⟨A1, c1, d1, rfl, hb, hK⟩
  have hS1:=hS.past hb
  refine ⟨_, rfl, hS1, ?_⟩
  exact Rg.st rfl (by kernel_rfl) (by kernel_rfl) (A3 w1 A1 c1 d1 g hS1 (hg.past hb) hgr (KidsG.new hK hg.lt))
 have A1 : ∀ (W : World) (g : Nat), (Fx w w.heap.size 44 #[.int .i64 d.kind, .string d.attr, .slice V d.vals.length vc] (w.heap.size + 1) 53 3) W → Blk W g 120 #[.int .u8 0, .string ⟨#[]⟩, .slice none 0 0, .int .u8 0, .string ⟨#[]⟩, .slice none 0 0, .int .u8 0, .string ⟨#[]⟩, .slice none 0 0] → w.heap.size + 1 < g → wpAnyH Tryz.prog .any modOps Q (Fx w w.heap.size 44 #[.int .i64 d.kind, .string d.attr, .slice V d.vals.length vc] (w.heap.size + 1) 53 3) 5 #[true, true, true, true, true, false, true, true, false, false, false, true, false] (⟨#[(.agg #[.int .i64 d.kind, .string d.attr, .slice V d.vals.length vc]), (.pointer (some ⟨w.heap.size, 0, none⟩)), (.pointer (some ⟨w.heap.size + 1, 0, none⟩)), (.pointer (some ⟨g, 0, none⟩)), (.pointer (some ⟨w.heap.size, 0, none⟩)), (.int .i64 d.kind), (.agg #[.int .u8 2, .string (strOfNums (Be.intB d.kind)), .slice none 0 0]), (.pointer (some ⟨w.heap.size, 1, none⟩)), (.string d.attr), undef, (.pointer (some ⟨w.heap.size, 2, none⟩)), (.slice V d.vals.length vc), undef, undef, undef, undef, undef], []⟩ : Act) W:=by
  intro W  g hS hg hgr 
  refine Rg.cl 5 9 rfl (by kernel_rfl) 44 #[.string d.attr] (by kernel_rfl) (text_any d.attr _ (by omega)) ?_
  rintro _ w1 ⟨rfl, hb⟩
  have hS1:=hS.past hb
  refine ⟨_, rfl, hS1, ?_⟩
  exact Rg.st rfl (by kernel_rfl) (by kernel_rfl) (A2 w1  g hS1 (hg.past hb) hgr )
 have A0 : ∀ (W : World) (g : Nat), (Fx w w.heap.size 44 #[.int .i64 d.kind, .string d.attr, .slice V d.vals.length vc] (w.heap.size + 1) 53 3) W → Blk W g 120 #[.int .u8 0, .string ⟨#[]⟩, .slice none 0 0, .int .u8 0, .string ⟨#[]⟩, .slice none 0 0, .int .u8 0, .string ⟨#[]⟩, .slice none 0 0] → w.heap.size + 1 < g → wpAnyH Tryz.prog .any modOps Q (Fx w w.heap.size 44 #[.int .i64 d.kind, .string d.attr, .slice V d.vals.length vc] (w.heap.size + 1) 53 3) 6 #[true, true, false, true, true, false, true, true, false, false, false, true, false] (⟨#[(.agg #[.int .i64 d.kind, .string d.attr, .slice V d.vals.length vc]), (.pointer (some ⟨w.heap.size, 0, none⟩)), (.pointer (some ⟨w.heap.size + 1, 0, none⟩)), (.pointer (some ⟨g, 0, none⟩)), (.pointer (some ⟨w.heap.size, 0, none⟩)), (.int .i64 d.kind), undef, (.pointer (some ⟨w.heap.size, 1, none⟩)), (.string d.attr), undef, (.pointer (some ⟨w.heap.size, 2, none⟩)), (.slice V d.vals.length vc), undef, undef, undef, undef, undef], []⟩ : Act) W:=by
  intro W  g hS hg hgr 
  refine Rg.cl 2 6 rfl (by kernel_rfl) 43 #[.int .i64 d.kind] (by kernel_rfl) (number_any d.kind _ (by omega) (by omega)) ?_
  rintro _ w1 ⟨rfl, hb⟩
  have hS1:=hS.past hb
  refine ⟨_, rfl, hS1, ?_⟩
  exact Rg.st rfl (by kernel_rfl) (by kernel_rfl) (A1 w1  g hS1 (hg.past hb) hgr )
 have N4 : ∀ (W : World) (A1 : Option Addr) (c1 : Nat) (d1 : Nat → List Value) (A2 : Option Addr) (c2 : Nat) (d2 : Nat → List Value), (Fx w w.heap.size 44 #[.int .i64 d.kind, .string d.attr, .slice V d.vals.length vc] (w.heap.size + 1) 53 3) W → KidsG W W.heap.size A2 (d.vals.map (txt 4)) d2 → wpAnyH Tryz.prog .any modOps Q (Fx w w.heap.size 44 #[.int .i64 d.kind, .string d.attr, .slice V d.vals.length vc] (w.heap.size + 1) 53 3) 3 #[true, true, true, true, true, true, true, true, true, true, false, false, false] (⟨#[(.agg #[.int .i64 d.kind, .string d.attr, .slice V d.vals.length vc]), (.pointer (some ⟨w.heap.size, 0, none⟩)), (.pointer (some ⟨w.heap.size + 1, 0, none⟩)), undef, (.pointer (some ⟨w.heap.size, 0, none⟩)), (.int .i64 d.kind), (.agg #[.int .u8 2, .string (strOfNums (Be.intB d.kind)), .slice none 0 0]), (.pointer (some ⟨w.heap.size, 1, none⟩)), (.string d.attr), (.agg #[.int .u8 4, .string d.attr, .slice none 0 0]), (.pointer (some ⟨w.heap.size, 2, none⟩)), (.slice V d.vals.length vc), (.slice A1 (d.vals.map (txt 4)).length c1), (.agg #[.int .u8 48, .string ⟨#[]⟩, .slice A2 (d.vals.map (txt 4)).length c2]), undef, undef, undef], []⟩ : Act) W:=by
  intro W A1 c1 d1 A2 c2 d2 hS hK2
  refine Rg.tk 10 14 (.agg #[.int .u8 2, .string (strOfNums (Be.intB d.kind)), .slice none 0 0, .int .u8 4, .string d.attr, .slice none 0 0, .int .u8 48, .string ⟨#[]⟩, .slice A2 (d.vals.map (txt 4)).length c2]) rfl (by kernel_rfl) (fun _ _ _ h=>hQ _ _ _ _ h) (fun _ _=>by kernel_rfl) hS ?_
  have hS2:=hS.alloc (.cells #[.int .u8 0, .string ⟨#[]⟩, .slice none 0 0, .int .u8 0, .string ⟨#[]⟩, .slice none 0 0, .int .u8 0, .string ⟨#[]⟩, .slice none 0 0] 120)
  have hlt:=hS.lt
  refine Rg.rn 11 3 (.pointer (some ⟨W.heap.size, 0, none⟩)) (W.alloc (.cells #[.int .u8 0, .string ⟨#[]⟩, .slice none 0 0, .int .u8 0, .string ⟨#[]⟩, .slice none 0 0, .int .u8 0, .string ⟨#[]⟩, .slice none 0 0] 120)) rfl (by kernel_rfl) (by kernel_rfl) hS2 ?_
  exact Rg.st rfl (by kernel_rfl) (by kernel_rfl) (EA _ A1 c1 d1 A2 c2 d2 W.heap.size hS2 (Blk.new W 120 #[.int .u8 0, .string ⟨#[]⟩, .slice none 0 0, .int .u8 0, .string ⟨#[]⟩, .slice none 0 0, .int .u8 0, .string ⟨#[]⟩, .slice none 0 0]) hlt (hK2.allocN _))
 have N3 : ∀ (W : World) (A1 : Option Addr) (c1 : Nat) (d1 : Nat → List Value), (Fx w w.heap.size 44 #[.int .i64 d.kind, .string d.attr, .slice V d.vals.length vc] (w.heap.size + 1) 53 3) W → KidsG W W.heap.size A1 (d.vals.map (txt 4)) d1 → wpAnyH Tryz.prog .any modOps Q (Fx w w.heap.size 44 #[.int .i64 d.kind, .string d.attr, .slice V d.vals.length vc] (w.heap.size + 1) 53 3) 4 #[true, true, true, true, true, true, true, true, true, false, false, false, false] (⟨#[(.agg #[.int .i64 d.kind, .string d.attr, .slice V d.vals.length vc]), (.pointer (some ⟨w.heap.size, 0, none⟩)), (.pointer (some ⟨w.heap.size + 1, 0, none⟩)), undef, (.pointer (some ⟨w.heap.size, 0, none⟩)), (.int .i64 d.kind), (.agg #[.int .u8 2, .string (strOfNums (Be.intB d.kind)), .slice none 0 0]), (.pointer (some ⟨w.heap.size, 1, none⟩)), (.string d.attr), (.agg #[.int .u8 4, .string d.attr, .slice none 0 0]), (.pointer (some ⟨w.heap.size, 2, none⟩)), (.slice V d.vals.length vc), (.slice A1 (d.vals.map (txt 4)).length c1), undef, undef, undef, undef], []⟩ : Act) W:=by
  intro W A1 c1 d1 hS hK1
  have hS2:=hS.alloc (.cells #[.int .u8 0, .string ⟨#[]⟩, .slice none 0 0, .int .u8 0, .string ⟨#[]⟩, .slice none 0 0, .int .u8 0, .string ⟨#[]⟩, .slice none 0 0] 120)
  have hlt:=hS.lt
  refine Rg.fk 9 11 13 3 rfl rfl (by kernel_rfl) 49 #[.slice A1 (d.vals.map (txt 4)).length c1] (by kernel_rfl) (.pointer (some ⟨W.heap.size, 0, none⟩)) (W.alloc (.cells #[.int .u8 0, .string ⟨#[]⟩, .slice none 0 0, .int .u8 0, .string ⟨#[]⟩, .slice none 0 0, .int .u8 0, .string ⟨#[]⟩, .slice none 0 0] 120)) (by kernel_rfl) hS2 ?_ (seq_any (d.vals.map (txt 4)) 1 A1 c1 d1 _ hl1 hgv hK1.old) ?_
  ·exact Rg.st rfl (by kernel_rfl) (by kernel_rfl) (A3 _ A1 c1 d1 W.heap.size hS2 (Blk.new W 120 #[.int .u8 0, .string ⟨#[]⟩, .slice none 0 0, .int .u8 0, .string ⟨#[]⟩, .slice none 0 0, .int .u8 0, .string ⟨#[]⟩, .slice none 0 0]) hlt (hK1.allocN _))
  ·rintro _ w1 ⟨A2, c2, d2, rfl, hb, hK⟩
   have hS1:=hS.past hb
   refine ⟨_, rfl, hS1, ?_⟩
   exact Rg.st rfl (by kernel_rfl) (by kernel_rfl) (N4 w1 A1 c1 d1 A2 c2 d2 hS1 (KidsG.newN hK))
 have N2 : ∀ (W : World), (Fx w w.heap.size 44 #[.int .i64 d.kind, .string d.attr, .slice V d.vals.length vc] (w.heap.size + 1) 53 3) W → wpAnyH Tryz.prog .any modOps Q (Fx w w.heap.size 44 #[.int .i64 d.kind, .string d.attr, .slice V d.vals.length vc] (w.heap.size + 1) 53 3) 5 #[true, true, true, true, true, true, true, true, false, false, false, false, false] (⟨#[(.agg #[.int .i64 d.kind, .string d.attr, .slice V d.vals.length vc]), (.pointer (some ⟨w.heap.size, 0, none⟩)), (.pointer (some ⟨w.heap.size + 1, 0, none⟩)), undef, (.pointer (some ⟨w.heap.size, 0, none⟩)), (.int .i64 d.kind), (.agg #[.int .u8 2, .string (strOfNums (Be.intB d.kind)), .slice none 0 0]), (.pointer (some ⟨w.heap.size, 1, none⟩)), (.string d.attr), (.agg #[.int .u8 4, .string d.attr, .slice none 0 0]), (.pointer (some ⟨w.heap.size, 2, none⟩)), (.slice V d.vals.length vc), undef, undef, undef, undef, undef], []⟩ : Act) W:=by
  intro W  hS 
  have hS2:=hS.alloc (.cells #[.int .u8 0, .string ⟨#[]⟩, .slice none 0 0, .int .u8 0, .string ⟨#[]⟩, .slice none 0 0, .int .u8 0, .string ⟨#[]⟩, .slice none 0 0] 120)
  have hlt:=hS.lt
  refine Rg.fk 8 11 12 3 rfl rfl (by kernel_rfl) 88 #[.slice V d.vals.length vc, .func (.func 44) #[] #[]] (by kernel_rfl) (.pointer (some ⟨W.heap.size, 0, none⟩)) (W.alloc (.cells #[.int .u8 0, .string ⟨#[]⟩, .slice none 0 0, .int .u8 0, .string ⟨#[]⟩, .slice none 0 0, .int .u8 0, .string ⟨#[]⟩, .slice none 0 0] 120)) (by kernel_rfl) hS2 ?_ (eachT_any V vc d.vals _ (by omega) hvs (h5.past hS.2.2)) ?_
  ·exact Rg.st rfl (by kernel_rfl) (by kernel_rfl) (A2 _  W.heap.size hS2 (Blk.new W 120 #[.int .u8 0, .string ⟨#[]⟩, .slice none 0 0, .int .u8 0, .string ⟨#[]⟩, .slice none 0 0, .int .u8 0, .string ⟨#[]⟩, .slice none 0 0]) hlt )
  ·rintro _ w1 ⟨A1, c1, d1, rfl, hb, hK⟩
   have hS1:=hS.past hb
   refine ⟨_, rfl, hS1, ?_⟩
   exact Rg.st rfl (by kernel_rfl) (by kernel_rfl) (N3 w1 A1 c1 d1 hS1 (KidsG.newN hK))
 have N1 : ∀ (W : World), (Fx w w.heap.size 44 #[.int .i64 d.kind, .string d.attr, .slice V d.vals.length vc] (w.heap.size + 1) 53 3) W → wpAnyH Tryz.prog .any modOps Q (Fx w w.heap.size 44 #[.int .i64 d.kind, .string d.attr, .slice V d.vals.length vc] (w.heap.size + 1) 53 3) 6 #[true, true, true, true, true, false, true, true, false, false, false, false, false] (⟨#[(.agg #[.int .i64 d.kind, .string d.attr, .slice V d.vals.length vc]), (.pointer (some ⟨w.heap.size, 0, none⟩)), (.pointer (some ⟨w.heap.size + 1, 0, none⟩)), undef, (.pointer (some ⟨w.heap.size, 0, none⟩)), (.int .i64 d.kind), (.agg #[.int .u8 2, .string (strOfNums (Be.intB d.kind)), .slice none 0 0]), (.pointer (some ⟨w.heap.size, 1, none⟩)), (.string d.attr), undef, (.pointer (some ⟨w.heap.size, 2, none⟩)), (.slice V d.vals.length vc), undef, undef, undef, undef, undef], []⟩ : Act) W:=by
  intro W  hS 
  have hS2:=hS.alloc (.cells #[.int .u8 0, .string ⟨#[]⟩, .slice none 0 0, .int .u8 0, .string ⟨#[]⟩, .slice none 0 0, .int .u8 0, .string ⟨#[]⟩, .slice none 0 0] 120)
  have hlt:=hS.lt
  refine Rg.fk 5 11 9 3 rfl rfl (by kernel_rfl) 44 #[.string d.attr] (by kernel_rfl) (.pointer (some ⟨W.heap.size, 0, none⟩)) (W.alloc (.cells #[.int .u8 0, .string ⟨#[]⟩, .slice none 0 0, .int .u8 0, .string ⟨#[]⟩, .slice none 0 0, .int .u8 0, .string ⟨#[]⟩, .slice none 0 0] 120)) (by kernel_rfl) hS2 ?_ (text_any d.attr _ (by omega)) ?_
  ·exact Rg.st rfl (by kernel_rfl) (by kernel_rfl) (A1 _  W.heap.size hS2 (Blk.new W 120 #[.int .u8 0, .string ⟨#[]⟩, .slice none 0 0, .int .u8 0, .string ⟨#[]⟩, .slice none 0 0, .int .u8 0, .string ⟨#[]⟩, .slice none 0 0]) hlt )
  ·rintro _ w1 ⟨rfl, hb⟩
   have hS1:=hS.past hb
   refine ⟨_, rfl, hS1, ?_⟩
   exact Rg.st rfl (by kernel_rfl) (by kernel_rfl) (N2 w1  hS1 )
 have N0 : ∀ (W : World), (Fx w w.heap.size 44 #[.int .i64 d.kind, .string d.attr, .slice V d.vals.length vc] (w.heap.size + 1) 53 3) W → wpAnyH Tryz.prog .any modOps Q (Fx w w.heap.size 44 #[.int .i64 d.kind, .string d.attr, .slice V d.vals.length vc] (w.heap.size + 1) 53 3) 7 #[true, true, false, true, true, false, true, true, false, false, false, false, false] (⟨#[(.agg #[.int .i64 d.kind, .string d.attr, .slice V d.vals.length vc]), (.pointer (some ⟨w.heap.size, 0, none⟩)), (.pointer (some ⟨w.heap.size + 1, 0, none⟩)), undef, (.pointer (some ⟨w.heap.size, 0, none⟩)), (.int .i64 d.kind), undef, (.pointer (some ⟨w.heap.size, 1, none⟩)), (.string d.attr), undef, (.pointer (some ⟨w.heap.size, 2, none⟩)), (.slice V d.vals.length vc), undef, undef, undef, undef, undef], []⟩ : Act) W:=by
  intro W  hS 
  have hS2:=hS.alloc (.cells #[.int .u8 0, .string ⟨#[]⟩, .slice none 0 0, .int .u8 0, .string ⟨#[]⟩, .slice none 0 0, .int .u8 0, .string ⟨#[]⟩, .slice none 0 0] 120)
  have hlt:=hS.lt
  refine Rg.fk 2 11 6 3 rfl rfl (by kernel_rfl) 43 #[.int .i64 d.kind] (by kernel_rfl) (.pointer (some ⟨W.heap.size, 0, none⟩)) (W.alloc (.cells #[.int .u8 0, .string ⟨#[]⟩, .slice none 0 0, .int .u8 0, .string ⟨#[]⟩, .slice none 0 0, .int .u8 0, .string ⟨#[]⟩, .slice none 0 0] 120)) (by kernel_rfl) hS2 ?_ (number_any d.kind _ (by omega) (by omega)) ?_
  ·exact Rg.st rfl (by kernel_rfl) (by kernel_rfl) (A0 _  W.heap.size hS2 (Blk.new W 120 #[.int .u8 0, .string ⟨#[]⟩, .slice none 0 0, .int .u8 0, .string ⟨#[]⟩, .slice none 0 0, .int .u8 0, .string ⟨#[]⟩, .slice none 0 0]) hlt )
  ·rintro _ w1 ⟨rfl, hb⟩
   have hS1:=hS.past hb
   refine ⟨_, rfl, hS1, ?_⟩
   exact Rg.st rfl (by kernel_rfl) (by kernel_rfl) (N1 w1  hS1 )
 refine Rg.tk 0 4 (.pointer (some ⟨w.heap.size, 0, none⟩)) rfl (by kernel_rfl) (fun _ _ _ h=>hQ _ _ _ _ h) (fun _ _=>by kernel_rfl) hy ?_
 refine Rg.tk 1 5 (.int .i64 d.kind) rfl (by kernel_rfl) (fun _ _ _ h=>hQ _ _ _ _ h) (fun w' h=>run_cell rfl rfl (by kernel_rfl) (h.1.cell 0)) hy ?_
 refine Rg.frame _ (by simp only [Rg.pu, List.set]; rfl) ?_
 refine Rg.tk 3 7 (.pointer (some ⟨w.heap.size, 1, none⟩)) rfl (by kernel_rfl) (fun _ _ _ h=>hQ _ _ _ _ h) (fun _ _=>by kernel_rfl) hy ?_
 refine Rg.tk 4 8 (.string d.attr) rfl (by kernel_rfl) (fun _ _ _ h=>hQ _ _ _ _ h) (fun w' h=>run_cell rfl rfl (by kernel_rfl) (h.1.cell 1)) hy ?_
 refine Rg.frame _ (by simp only [Rg.pu, List.set]; rfl) ?_
 refine Rg.tk 6 10 (.pointer (some ⟨w.heap.size, 2, none⟩)) rfl (by kernel_rfl) (fun _ _ _ h=>hQ _ _ _ _ h) (fun _ _=>by kernel_rfl) hy ?_
 refine Rg.tk 7 11 (.slice V d.vals.length vc) rfl (by kernel_rfl) (fun _ _ _ h=>hQ _ _ _ _ h) (fun w' h=>run_cell rfl rfl (by kernel_rfl) (h.1.cell 2)) hy ?_
 refine Rg.frame _ (by simp only [Rg.pu, List.set]; rfl) ?_
 exact Rg.st rfl (by kernel_rfl) (by kernel_rfl) (N0 y hy)
set_option maxHeartbeats 4000000 in
theorem modEl_any (d : Mo) (V : Option Addr) (vc : Nat) (w : World) (h : MoAt w (· < w.heap.size) d [.int .i64 d.kind, .string d.attr, .slice V d.vals.length vc]) (hok : noMo d = false) :
  Calls Tryz.prog 51 #[.agg #[.int .i64 d.kind, .string d.attr, .slice V d.vals.length vc]] w (NewEl w (modEl d)):=by
 obtain ⟨q1, q2, q3, q4⟩:=mo_ok hok
 have hgv:=good_vals hok
 have hg3:=good_three hok
 obtain ⟨V1, vc1, e, h2, h3, h4, h5, h6⟩:=h
 simp only [List.cons.injEq, Value.slice.injEq, true_and, and_true] at e
 obtain ⟨rfl, rfl⟩:=e
 have hl1 : (d.vals.map (txt 4)).length ≤ 20:=by rw [List.length_map]; omega
 have F0:=Fx.new w 44 #[.int .i64 d.kind, .string d.attr, .slice V d.vals.length vc] #[.int .u8 0, .string ⟨#[]⟩, .slice none 0 0] 53
 go_enter Tryz.func51, Tryz.ntmps51
 go_wp2_with fail
 refine wp_region_noPanic ?_
 refine wp_region_held_drew (S:=(Fx w w.heap.size 44 #[.int .i64 d.kind, .string d.attr, .slice V d.vals.length vc] (w.heap.size + 1) 53 3)) (by kernel_rfl) F0.drew (fun hH0=>?_)
 refine mod_reg d V vc w q1 q2 q3 (fun s hs=>by have:=q4 s hs; omega) hl1 hgv h5 (fun _ _ _ _ h=>h) (fun W A1 c1 d1 A2 c2 d2 g hS hg hgr hK2=>?_) _ hH0
 refine NoPanic.normal ?_
 have hSo:=hS
 obtain ⟨_, ⟨ds9, h9, hB9⟩, hb9⟩:=hS
 obtain ⟨x9, y9, z9, rfl⟩ : ∃ x y z, ds9 = #[x, y, z]:=by
  match ds9, h9 with
  | ⟨[x, y, z]⟩, _=>exact ⟨x, y, z, rfl⟩
 have hKK:=kids_arr (w:=W) 120 [num 2 d.kind, txt 4 d.attr, lst 48 (d.vals.map (txt 4))] [[.int .u8 2, .string (strOfNums (Be.intB d.kind)), .slice none 0 0], [.int .u8 4, .string d.attr, .slice none 0 0], [.int .u8 48, .string ⟨#[]⟩, .slice A2 (d.vals.map (txt 4)).length c2]] hg (by rfl) (by simp) (fun i hi=>by
  match i, hi with
  | 0, _=>exact lies_num (by decide) (by omega) (by omega)
  | 1, _=>exact lies_leaf (by decide) (by omega)
  | 2, _=>exact Be.Lies.shut (by decide) (by decide) (by unfold maxLen; omega) hK2.old)
 have HL:=Lib.hid (seq_any [num 2 d.kind, txt 4 d.attr, lst 48 (d.vals.map (txt 4))] 2 _ 3 _ W (by show 3 ≤ 20; omega) (hg3) hKK)
 have HB9:=Lib.hid hB9
 have Hb9:=Lib.hid hb9
 clear hKK hg hSo hB9 hb9 h9
 go_wp2_with fail
 refine HL.out.mono ?_
 rintro e w1 ⟨A9, c9, d9, rfl, hb1, hK9⟩
 have B1:=HB9.out.past hb1
 have c0:=B1.cell 0
 have c1':=B1.cell 1
 have c2':=B1.cell 2
 have g0:=B1.frozen 0
 have g1:=B1.frozen 1
 have g2:=B1.frozen 2
 have HK9:=Lib.hid hK9
 have hlt:=HB9.out.lt
 have hz9:=Hb9.out.size
 have hb2:=Hb9.out.trans (hb1.mono Hb9.out.size)
 clear hK9
 go_wp2_with fail
 exact bodyPost_ret (Be.res_el rfl _ _ (w.heap.size + 1) _ _ _ rfl (Be.Blk.set3 B1)) rfl (NewLst.el (by decide) (by show 3 ≤ 20; omega) (new_lstR (Nat.le_succ _) hb2 HK9.out (fun b hb=>⟨by have:=hb.1; omega, by have:=hb.1; omega, hb.2⟩)))
end Go.Proofs.YtbdpkfgllnbheaaGreatDoor.Ch
