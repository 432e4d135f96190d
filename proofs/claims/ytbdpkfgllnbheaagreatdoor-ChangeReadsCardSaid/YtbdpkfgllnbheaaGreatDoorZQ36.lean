import Derived.Test.YtbdpkfgllnbheaaGreatDoorZQ35
set_option linter.unusedVariables false
set_option maxRecDepth 100000
namespace Go.Proofs.YtbdpkfgllnbheaaGreatDoor.Ch
open Go.RowKit
theorem eq_drop {l l' : List ByteArray} {i : Nat} (h : i < l.length) (h' : i < l'.length) : decide (l.drop i = l'.drop i) = (decide (l[i] = l'[i]) && decide (l.drop (i + 1) = l'.drop (i + 1))):=by
 rw [List.drop_eq_getElem_cons h, List.drop_eq_getElem_cons h', Bool.eq_iff_iff]
 simp only [decide_eq_true_eq, Bool.and_eq_true, List.cons.injEq]
theorem bne_of {α : Type} [BEq α] {x y : α} {b : Bool} (h : (x == y) = b) : (x != y) = !b:=by unfold bne; rw [h]
def TwoB (W : World) (g6 g7 : Nat) (k k2 : Int) (t t2 : ByteArray) (V V2 : Option Addr) (n n2 c c2 : Nat) : Prop :=
 Blk W g6 44 #[.int .i64 k, .string t, .slice V n c] ∧ Blk W g7 44 #[.int .i64 k2, .string t2, .slice V2 n2 c2]
noncomputable def twoOps : Array Oper:=(Tryz.f13.body.bind (Rg.regOps 6)).getD #[]
theorem lit_of {w : World} {p : Addr} {v : Value} (h : w.cell? p = some v) : ∃ b o, p = ⟨b, o, none⟩:=by
 obtain ⟨b, o, sp⟩:=p
 have hs : sp = none:=by
  unfold World.cell? at h
  split at h
  ·cases sp with
   | none=>rfl
   | some x=>simp at h
  ·cases h
 exact ⟨b, o, by rw [hs]⟩
theorem infoO3' : (Tryz.prog.info? 44).map (·.size) = some 3:=by kernel_rfl
theorem run_loadMo {ev : Operand → Value} {o : Oper} {x : Operand} {w : World} {p : Addr} {x0 x1 x2 : Value} (ho : o.op = .load 44 x) (hx : ev x = .pointer (some p))
  (h0 : w.cell? p = some x0) (h1 : w.cell? ⟨p.block, p.off + 1, none⟩ = some x1) (h2 : w.cell? ⟨p.block, p.off + 2, none⟩ = some x2) :
  (execOp ev o).run Tryz.prog w = .ok (.value (.agg #[x0, x1, x2])) w:=by
 obtain ⟨b, k, rfl⟩:=lit_of h0
 have hr : w.rangeAt b k [x0, x1, x2]:=by
  intro j v hv
  match j with
  | 0=>injection hv with hv; subst hv; exact h0
  | 1=>injection hv with hv; subst hv; exact h1
  | 2=>injection hv with hv; subst hv; exact h2
  | j + 3=>cases hv
 have hl:=run_loadAt_mid w b k 44 _ _ hr Tryz.underlying44 rfl infoO3'
 unfold execOp
 simp only [ho, hx, Sem.run_bind, hl, Result.andThen_ok, Sem.run_pure]
theorem run_storeMo {w : World} {g : Nat} {old ds : Array Value} {ev : Operand → Value} {o : Oper} {p q : Operand} (h : Blk w g 44 old) (hn : old.size = 3) (hd : ds.size = 3) (h1 : ds.all (·.oneCell') = true)
  (ho : o.op = .store 44 p q) (hp : ev p = .pointer (some ⟨g, 0, none⟩)) (hq : ev q = .agg ds) : (execOp ev o).run Tryz.prog w = .ok .skip (w.setRow g ds):=by
 unfold execOp
 simp only [ho, hp, hq, Instr.storeAt, Instr.sureAddr, Sem.run_bind, Sem.run_pure, Result.andThen_ok, run_storeVar_row w g _ _ old ds h (by rw [infoO3', hd]) (by rw [hn, hd]) h1]
theorem infoMo3 : ∃ i, Tryz.prog.info? 44 = some i ∧ i.size = 3:=by
 have h:=infoO3'
 cases hi : Tryz.prog.info? 44 with
 | none=>rw [hi] at h; cases h
 | some i=>rw [hi] at h; exact ⟨i, rfl, Option.some.inj h⟩
set_option maxHeartbeats 8000000 in
theorem two_reg (wr : World) (g0 q n n2 mc mc' : Nat) (ad ad2 : Addr) (k k2 : Int) (t t2 : ByteArray) (V V2 : Option Addr) (vn vn2 vc vc2 : Nat) (hq : q < n) (hq2 : q < n2)
  (d12 : wr.cell? ⟨g0, 12, none⟩ = some (.slice (some ad) n mc)) (e12 : wr.cell? ⟨g0 + 1, 12, none⟩ = some (.slice (some ad2) n2 mc'))
  (f0 : wr.cell? (ad.add (q * 3)) = some (.int .i64 k)) (f1 : wr.cell? ⟨(ad.add (q * 3)).block, (ad.add (q * 3)).off + 1, none⟩ = some (.string t)) (f2 : wr.cell? ⟨(ad.add (q * 3)).block, (ad.add (q * 3)).off + 2, none⟩ = some (.slice V vn vc))
  (h0 : wr.cell? (ad2.add (q * 3)) = some (.int .i64 k2)) (h1 : wr.cell? ⟨(ad2.add (q * 3)).block, (ad2.add (q * 3)).off + 1, none⟩ = some (.string t2)) (h2 : wr.cell? ⟨(ad2.add (q * 3)).block, (ad2.add (q * 3)).off + 2, none⟩ = some (.slice V2 vn2 vc2))
  {Q : Exit → Act → World → Prop} (hQ : ∀ c a a' w, Q (.panic c) a' w → Q (.panic c) a w) {s0 s1 s4 s6 s7 s8 s9 s10 s11 s12 s13 s14 s15 s16 s17 s18 s19 s20 s21 s22 s23 s24 s25 s26 s27 s28 s29 s30 s31 s32 s33 s34 s35 s36 s37 s38 s39 s40 s41 s42 s43 s44 s45 s46 s47 s48 s49 s50 s51 s52 s53 s54 s55 s56 s57 s58 s59 s60 s61 s62 s63 s64 s65 s66 s67 s68 s69 s70 s71 s72 s73 s74 s75 s76 s77 s78 s79 s80 s81 s82 s83 s84 s85 s86 s87 s88 s89 s90 s91 s92 s93 s94 s95 s96 s97 s98 s99 s100 s101 s102 s103 s104 s105 s106 s107 s108 s109 s110 s111 s112 s113 s114 : Value}
  (REST : ∀ (W : World) (g6 g7 : Nat), Below wr.heap.size wr W → wr.heap.size ≤ g6 → wr.heap.size ≤ g7 → g6 ≠ g7 → TwoB W g6 g7 k k2 t t2 V V2 vn vn2 vc vc2 → Q .normal (⟨#[s0, s1, (.pointer (some ⟨g0, 0, none⟩)), (.pointer (some ⟨g0 + 1, 0, none⟩)), s4, (.int .i64 (q : Nat)), (.pointer (some ⟨g6, 0, none⟩)), (.pointer (some ⟨g7, 0, none⟩)), s8, s9, s10, s11, s12, s13, s14, s15, s16, s17, s18, s19, s20, s21, s22, s23, s24, s25, s26, s27, s28, s29, s30, s31, s32, s33, s34, s35, s36, s37, s38, s39, s40, s41, s42, s43, s44, s45, s46, s47, s48, s49, s50, s51, s52, s53, s54, s55, s56, s57, s58, s59, s60, s61, s62, s63, s64, s65, (.pointer (some ⟨g0, 12, none⟩)), (.slice (some ad) n mc), (.int .i64 (q : Nat)), (.pointer (some (ad.add (q * 3)))), (.agg #[.int .i64 k, .string t, .slice V vn vc]), (.pointer (some ⟨g0 + 1, 12, none⟩)), (.slice (some ad2) n2 mc'), (.int .i64 (q : Nat)), (.pointer (some (ad2.add (q * 3)))), (.agg #[.int .i64 k2, .string t2, .slice V2 vn2 vc2]), s76, s77, s78, s79, s80, s81, s82, s83, s84, s85, s86, s87, s88, s89, s90, s91, s92, s93, s94, s95, s96, s97, s98, s99, s100, s101, s102, s103, s104, s105, s106, s107, s108, s109, s110, s111, s112, s113, s114], []⟩ : Act) W) (y : World) (hy : Below wr.heap.size wr y) :
  wpAnyH Tryz.prog .any twoOps Q (Below wr.heap.size wr) 14 #[false, false, false, false, false, false, false, false, false, false, false, false, false, false] (⟨#[s0, s1, (.pointer (some ⟨g0, 0, none⟩)), (.pointer (some ⟨g0 + 1, 0, none⟩)), s4, (.int .i64 (q : Nat)), s6, s7, s8, s9, s10, s11, s12, s13, s14, s15, s16, s17, s18, s19, s20, s21, s22, s23, s24, s25, s26, s27, s28, s29, s30, s31, s32, s33, s34, s35, s36, s37, s38, s39, s40, s41, s42, s43, s44, s45, s46, s47, s48, s49, s50, s51, s52, s53, s54, s55, s56, s57, s58, s59, s60, s61, s62, s63, s64, s65, s66, s67, s68, s69, s70, s71, s72, s73, s74, s75, s76, s77, s78, s79, s80, s81, s82, s83, s84, s85, s86, s87, s88, s89, s90, s91, s92, s93, s94, s95, s96, s97, s98, s99, s100, s101, s102, s103, s104, s105, s106, s107, s108, s109, s110, s111, s112, s113, s114], []⟩ : Act) y:=by
 obtain ⟨ii, hi, hi3⟩:=infoMo3
 have ES : ∀ (W : World) (g6 g7 : Nat), Below wr.heap.size wr W → wr.heap.size ≤ g6 → wr.heap.size ≤ g7 → g6 ≠ g7 → Blk W g6 44 #[.int .i64 0, .string ⟨#[]⟩, .slice none 0 0] → Blk W g7 44 #[.int .i64 0, .string ⟨#[]⟩, .slice none 0 0] → wpAnyH Tryz.prog .any twoOps Q (Below wr.heap.size wr) 2 #[true, true, true, true, true, true, true, true, true, true, true, true, false, false] (⟨#[s0, s1, (.pointer (some ⟨g0, 0, none⟩)), (.pointer (some ⟨g0 + 1, 0, none⟩)), s4, (.int .i64 (q : Nat)), (.pointer (some ⟨g6, 0, none⟩)), (.pointer (some ⟨g7, 0, none⟩)), s8, s9, s10, s11, s12, s13, s14, s15, s16, s17, s18, s19, s20, s21, s22, s23, s24, s25, s26, s27, s28, s29, s30, s31, s32, s33, s34, s35, s36, s37, s38, s39, s40, s41, s42, s43, s44, s45, s46, s47, s48, s49, s50, s51, s52, s53, s54, s55, s56, s57, s58, s59, s60, s61, s62, s63, s64, s65, (.pointer (some ⟨g0, 12, none⟩)), (.slice (some ad) n mc), (.int .i64 (q : Nat)), (.pointer (some (ad.add (q * 3)))), (.agg #[.int .i64 k, .string t, .slice V vn vc]), (.pointer (some ⟨g0 + 1, 12, none⟩)), (.slice (some ad2) n2 mc'), (.int .i64 (q : Nat)), (.pointer (some (ad2.add (q * 3)))), (.agg #[.int .i64 k2, .string t2, .slice V2 vn2 vc2]), s76, s77, s78, s79, s80, s81, s82, s83, s84, s85, s86, s87, s88, s89, s90, s91, s92, s93, s94, s95, s96, s97, s98, s99, s100, s101, s102, s103, s104, s105, s106, s107, s108, s109, s110, s111, s112, s113, s114], []⟩ : Act) W:=by
  intro W g6 g7 hb h6 h7 hne B6 B7
  have hb1 : Below wr.heap.size wr (W.setRow g6 #[.int .i64 k, .string t, .slice V vn vc]):=below_setRow hb h6 _
  have hb2 : Below wr.heap.size wr (W.setRow g7 #[.int .i64 k2, .string t2, .slice V2 vn2 vc2]):=below_setRow hb h7 _
  have A1 : Blk (W.setRow g6 #[.int .i64 k, .string t, .slice V vn vc]) g6 44 #[.int .i64 k, .string t, .slice V vn vc]:=setRow_heap _ _ _ _ _ _ B6
  have A2 : Blk (W.setRow g6 #[.int .i64 k, .string t, .slice V vn vc]) g7 44 #[.int .i64 0, .string ⟨#[]⟩, .slice none 0 0]:=(setRow_other W g6 g7 _ (Ne.symm hne)).trans B7
  have C1 : Blk (W.setRow g7 #[.int .i64 k2, .string t2, .slice V2 vn2 vc2]) g7 44 #[.int .i64 k2, .string t2, .slice V2 vn2 vc2]:=setRow_heap _ _ _ _ _ _ B7
  have C2 : Blk (W.setRow g7 #[.int .i64 k2, .string t2, .slice V2 vn2 vc2]) g6 44 #[.int .i64 0, .string ⟨#[]⟩, .slice none 0 0]:=(setRow_other W g7 g6 _ hne).trans B6
  refine Rg.sk 12 (W.setRow g6 #[.int .i64 k, .string t, .slice V vn vc]) rfl (by kernel_rfl) (run_storeMo (ds:=#[.int .i64 k, .string t, .slice V vn vc]) B6 rfl rfl (by simp [Value.oneCell']) rfl rfl rfl) hb1 ?_
  refine Rg.sk 13 ((W.setRow g6 #[.int .i64 k, .string t, .slice V vn vc]).setRow g7 #[.int .i64 k2, .string t2, .slice V2 vn2 vc2]) rfl (by kernel_rfl) (run_storeMo (ds:=#[.int .i64 k2, .string t2, .slice V2 vn2 vc2]) A2 rfl rfl (by simp [Value.oneCell']) rfl rfl rfl) (below_setRow hb1 h7 _) ?_
  refine wpAnyH_done (by kernel_rfl) ?_ _
  exact REST _ g6 g7 (below_setRow hb1 h7 _) h6 h7 hne ⟨(setRow_other _ g7 g6 _ hne).trans A1, setRow_heap _ _ _ _ _ _ A2⟩
 refine Rg.tk 0 66 (.pointer (some ⟨g0, 12, none⟩)) rfl (by kernel_rfl) (fun _ _ _ h=>hQ _ _ _ _ h) (fun _ _=>by kernel_rfl) hy ?_
 refine Rg.tk 1 67 (.slice (some ad) n mc) rfl (by kernel_rfl) (fun _ _ _ h=>hQ _ _ _ _ h) (fun w' h=>run_cell rfl rfl (by kernel_rfl) (batA h (cell_lt d12) d12)) hy ?_
 refine Rg.frame _ (by simp only [Rg.pu, List.set]; rfl) ?_
 refine Rg.tk 2 68 (.int .i64 (q : Nat)) rfl (by kernel_rfl) (fun _ _ _ h=>hQ _ _ _ _ h) (fun _ _=>by kernel_rfl) hy ?_
 refine Rg.tk 3 69 (.pointer (some (ad.add (q * 3)))) rfl (by kernel_rfl) (fun _ _ _ h=>hQ _ _ _ _ h) (fun w' _=>Pl.run_index (P:=Tryz.prog) (k:=3) Tryz.underlying26 hi hi3 rfl rfl rfl hq) hy ?_
 refine Rg.frame _ (by simp only [Rg.pu, List.set]; rfl) ?_
 refine Rg.tk 4 70 (.agg #[.int .i64 k, .string t, .slice V vn vc]) rfl (by kernel_rfl) (fun _ _ _ h=>hQ _ _ _ _ h) (fun w' h=>run_loadMo rfl rfl (batA h (cell_lt f0) f0) (batA h (cell_lt f1) f1) (batA h (cell_lt f2) f2)) hy ?_
 refine Rg.tk 5 71 (.pointer (some ⟨g0 + 1, 12, none⟩)) rfl (by kernel_rfl) (fun _ _ _ h=>hQ _ _ _ _ h) (fun _ _=>by kernel_rfl) hy ?_
 refine Rg.frame _ (by simp only [Rg.pu, List.set]; rfl) ?_
 refine Rg.tk 6 72 (.slice (some ad2) n2 mc') rfl (by kernel_rfl) (fun _ _ _ h=>hQ _ _ _ _ h) (fun w' h=>run_cell rfl rfl (by kernel_rfl) (batA h (cell_lt e12) e12)) hy ?_
 refine Rg.tk 7 73 (.int .i64 (q : Nat)) rfl (by kernel_rfl) (fun _ _ _ h=>hQ _ _ _ _ h) (fun _ _=>by kernel_rfl) hy ?_
 refine Rg.frame _ (by simp only [Rg.pu, List.set]; rfl) ?_
 refine Rg.tk 8 74 (.pointer (some (ad2.add (q * 3)))) rfl (by kernel_rfl) (fun _ _ _ h=>hQ _ _ _ _ h) (fun w' _=>Pl.run_index (P:=Tryz.prog) (k:=3) Tryz.underlying26 hi hi3 rfl rfl rfl hq2) hy ?_
 refine Rg.tk 9 75 (.agg #[.int .i64 k2, .string t2, .slice V2 vn2 vc2]) rfl (by kernel_rfl) (fun _ _ _ h=>hQ _ _ _ _ h) (fun w' h=>run_loadMo rfl rfl (batA h (cell_lt h0) h0) (batA h (cell_lt h1) h1) (batA h (cell_lt h2) h2)) hy ?_
 refine Rg.frame _ (by simp only [Rg.pu, List.set]; rfl) ?_
 have hb1 : Below wr.heap.size wr (y.alloc (.cells #[.int .i64 0, .string ⟨#[]⟩, .slice none 0 0] 44)):=hy.alloc hy.size _
 have hb2 : Below wr.heap.size wr ((y.alloc (.cells #[.int .i64 0, .string ⟨#[]⟩, .slice none 0 0] 44)).alloc (.cells #[.int .i64 0, .string ⟨#[]⟩, .slice none 0 0] 44)):=hb1.alloc hb1.size _
 have hsz:=hy.size
 have B1:=(Blk.new y 44 #[.int .i64 0, .string ⟨#[]⟩, .slice none 0 0]).alloc (.cells #[.int .i64 0, .string ⟨#[]⟩, .slice none 0 0] 44)
 have B2:=Blk.new (y.alloc (.cells #[.int .i64 0, .string ⟨#[]⟩, .slice none 0 0] 44)) 44 #[.int .i64 0, .string ⟨#[]⟩, .slice none 0 0]
 have hz2 : (y.alloc (.cells #[.int .i64 0, .string ⟨#[]⟩, .slice none 0 0] 44)).heap.size = y.heap.size + 1:=by simp
 refine Rg.rn2 10 11 6 7 (.pointer (some ⟨y.heap.size, 0, none⟩)) (.pointer (some ⟨y.heap.size, 0, none⟩)) (y.alloc (.cells #[.int .i64 0, .string ⟨#[]⟩, .slice none 0 0] 44)) rfl rfl (by kernel_rfl) (by kernel_rfl) (by kernel_rfl) hb1 ?_ ?_
 ·refine Rg.rn 11 7 (.pointer (some ⟨(y.alloc (.cells #[.int .i64 0, .string ⟨#[]⟩, .slice none 0 0] 44)).heap.size, 0, none⟩)) ((y.alloc (.cells #[.int .i64 0, .string ⟨#[]⟩, .slice none 0 0] 44)).alloc (.cells #[.int .i64 0, .string ⟨#[]⟩, .slice none 0 0] 44)) rfl (by kernel_rfl) (by kernel_rfl) hb2 ?_
  exact Rg.st rfl (by kernel_rfl) (by kernel_rfl) (ES _ y.heap.size (y.alloc (.cells #[.int .i64 0, .string ⟨#[]⟩, .slice none 0 0] 44)).heap.size hb2 hsz (by rw [hz2]; omega) (by rw [hz2]; omega) B1 B2)
 ·refine Rg.rn 10 6 (.pointer (some ⟨(y.alloc (.cells #[.int .i64 0, .string ⟨#[]⟩, .slice none 0 0] 44)).heap.size, 0, none⟩)) ((y.alloc (.cells #[.int .i64 0, .string ⟨#[]⟩, .slice none 0 0] 44)).alloc (.cells #[.int .i64 0, .string ⟨#[]⟩, .slice none 0 0] 44)) rfl (by kernel_rfl) (by kernel_rfl) hb2 ?_
  exact Rg.st rfl (by kernel_rfl) (by kernel_rfl) (ES _ (y.alloc (.cells #[.int .i64 0, .string ⟨#[]⟩, .slice none 0 0] 44)).heap.size y.heap.size hb2 (by rw [hz2]; omega) hsz (by rw [hz2]; omega) B2 B1)
set_option maxHeartbeats 8000000 in
theorem rSame_ne (a b : Cg) (cs cs' : Array Value) (w : World) (h : GAt w (· < w.heap.size) a cs) (h' : GAt w (· < w.heap.size) b cs') (hall : ¬ (eqCn a.csn b.csn = true ∧ a.kind = b.kind ∧ eqCn a.id b.id = true ∧ eqCn a.par b.par = true ∧ a.del = b.del)) : Calls Tryz.prog 13 #[.agg cs, .agg cs'] w (Flag w (eqG a b)):=by
 obtain ⟨R, rc, M, mc, ds, rfl, ⟨hR, hl, hrc⟩, hM, hml, hmc⟩:=h
 obtain ⟨R', rc', M', mc', ds', rfl, ⟨hR', hl', hrc'⟩, hM', hml', hmc'⟩:=h'
 have hr : eqG a b = (eqCn a.csn b.csn && (decide (a.kind = b.kind) && (eqCn a.id b.id && (eqCn a.par b.par && (decide (a.del = b.del) && (decide (a.rdn = b.rdn) && eqMos a.mods b.mods)))))):=rfl
 have hb0 : Below w.heap.size w ((w.alloc (.cells (gcs a R rc M mc) 28)).alloc (.cells (gcs b R' rc' M' mc') 28)):=((Below.refl _ _).alloc (Nat.le_refl _) _).alloc (by simp) _
 have A0:=(Blk.new w 28 (gcs a R rc M mc)).alloc (.cells (gcs b R' rc' M' mc') 28)
 have B0:=new2 w (gcs a R rc M mc) (gcs b R' rc' M' mc') 28 28
 have HA:=Lib.hid A0
 have HB:=Lib.hid B0
 have Hb:=Lib.hid hb0
 have HE:=Lib.hid (sameR_any a.rdn b.rdn R R' rc rc' _ (hR.past hb0) (hR'.past hb0) hl)
 have HMA:=Lib.hid hM
 have HMB:=Lib.hid hM'
 unfold maxLen at hml hml'
 have a0:=A0.cell 0
 have b0':=B0.cell 0
 have a1:=A0.cell 1
 have b1':=B0.cell 1
 have a2:=A0.cell 2
 have b2':=B0.cell 2
 have a3:=A0.cell 3
 have b3':=B0.cell 3
 have a4:=A0.cell 4
 have b4':=B0.cell 4
 have a5:=A0.cell 5
 have b5':=B0.cell 5
 have a6:=A0.cell 6
 have b6':=B0.cell 6
 have a7:=A0.cell 7
 have b7':=B0.cell 7
 have a8:=A0.cell 8
 have b8':=B0.cell 8
 have a9:=A0.cell 9
 have b9':=B0.cell 9
 have a10:=A0.cell 10
 have b10':=B0.cell 10
 have a11 : ((w.alloc (.cells (gcs a R rc M mc) 28)).alloc (.cells (gcs b R' rc' M' mc') 28)).cell? ⟨w.heap.size, 11, none⟩ = some (.bool a.del):=A0.cell 11
 have b11' : ((w.alloc (.cells (gcs a R rc M mc) 28)).alloc (.cells (gcs b R' rc' M' mc') 28)).cell? ⟨w.heap.size + 1, 11, none⟩ = some (.bool b.del):=B0.cell 11
 clear hR hR' hM hM' hl hl' hrc hrc' hmc hmc' A0 B0 hb0
 cases p : eqCn a.csn b.csn
 focus
  rw [p] at hr
  have HR:=Lib.hid hr
  have hq:=cn_ne p
  clear hr p
  rcases hq with u1 | ⟨u1, u2⟩ | ⟨u1, u2, u3⟩
  all_goals
   go_enter Tryz.func13, Tryz.ntmps13
   go_wp2_with fail
   go_ret
   exact ⟨ret_bool HR.out.symm, Hb.out⟩
 obtain ⟨p1, p2, p3⟩:=cn_eq p
 rw [p] at hr
 have P_p:=Lib.hid p
 clear p
 by_cases k : a.kind = b.kind
 rotate_left
 focus
  have HR:=Lib.hid (show eqG a b = false by rw [hr, decide_eq_false k]; rfl)
  have k1 : (a.kind == b.kind) = false:=by rw [beq_eq_false_iff_ne]; exact k
  have k1n:=bne_of k1
  clear hr k
  go_enter Tryz.func13, Tryz.ntmps13
  go_wp2_with fail
  go_ret
  exact ⟨ret_bool HR.out.symm, Hb.out⟩
 have k1 : (a.kind == b.kind) = true:=by rw [beq_iff_eq]; exact k
 have k1n:=bne_of k1
 rw [decide_eq_true k] at hr
 have KH:=Lib.hid k
 clear k
 cases q : eqCn a.id b.id
 focus
  rw [q] at hr
  have HR:=Lib.hid hr
  have hq:=cn_ne q
  clear hr q
  rcases hq with u1 | ⟨u1, u2⟩ | ⟨u1, u2, u3⟩
  all_goals
   go_enter Tryz.func13, Tryz.ntmps13
   go_wp2_with fail
   go_ret
   exact ⟨ret_bool HR.out.symm, Hb.out⟩
 obtain ⟨q1, q2, q3⟩:=cn_eq q
 rw [q] at hr
 have P_q:=Lib.hid q
 clear q
 cases v : eqCn a.par b.par
 focus
  rw [v] at hr
  have HR:=Lib.hid hr
  have hq:=cn_ne v
  clear hr v
  rcases hq with u1 | ⟨u1, u2⟩ | ⟨u1, u2, u3⟩
  all_goals
   go_enter Tryz.func13, Tryz.ntmps13
   go_wp2_with fail
   go_ret
   exact ⟨ret_bool HR.out.symm, Hb.out⟩
 obtain ⟨v1, v2, v3⟩:=cn_eq v
 rw [v] at hr
 have P_v:=Lib.hid v
 clear v
 by_cases e : a.del = b.del
 rotate_left
 focus
  have HR:=Lib.hid (show eqG a b = false by rw [hr, decide_eq_false e]; rfl)
  have e1 : (a.del == b.del) = false:=by rw [beq_eq_false_iff_ne]; exact e
  have e1n:=bne_of e1
  clear hr e
  go_enter Tryz.func13, Tryz.ntmps13
  go_wp2_with fail
  go_ret
  exact ⟨ret_bool HR.out.symm, Hb.out⟩
 have e1 : (a.del == b.del) = true:=by rw [beq_iff_eq]; exact e
 exact absurd ⟨P_p.out, KH.out, P_q.out, P_v.out, by assumption⟩ hall
set_option maxHeartbeats 8000000 in
theorem rSame_len (a b : Cg) (cs cs' : Array Value) (w : World) (h : GAt w (· < w.heap.size) a cs) (h' : GAt w (· < w.heap.size) b cs') (hall : eqCn a.csn b.csn = true ∧ a.kind = b.kind ∧ eqCn a.id b.id = true ∧ eqCn a.par b.par = true ∧ a.del = b.del) (hlen : a.mods.length ≠ b.mods.length) : Calls Tryz.prog 13 #[.agg cs, .agg cs'] w (Flag w (eqG a b)):=by
 obtain ⟨R, rc, M, mc, ds, rfl, ⟨hR, hl, hrc⟩, hM, hml, hmc⟩:=h
 obtain ⟨R', rc', M', mc', ds', rfl, ⟨hR', hl', hrc'⟩, hM', hml', hmc'⟩:=h'
 have hr : eqG a b = (eqCn a.csn b.csn && (decide (a.kind = b.kind) && (eqCn a.id b.id && (eqCn a.par b.par && (decide (a.del = b.del) && (decide (a.rdn = b.rdn) && eqMos a.mods b.mods)))))):=rfl
 have hb0 : Below w.heap.size w ((w.alloc (.cells (gcs a R rc M mc) 28)).alloc (.cells (gcs b R' rc' M' mc') 28)):=((Below.refl _ _).alloc (Nat.le_refl _) _).alloc (by simp) _
 have A0:=(Blk.new w 28 (gcs a R rc M mc)).alloc (.cells (gcs b R' rc' M' mc') 28)
 have B0:=new2 w (gcs a R rc M mc) (gcs b R' rc' M' mc') 28 28
 have HA:=Lib.hid A0
 have HB:=Lib.hid B0
 have Hb:=Lib.hid hb0
 have HE:=Lib.hid (sameR_any a.rdn b.rdn R R' rc rc' _ (hR.past hb0) (hR'.past hb0) hl)
 have HMA:=Lib.hid hM
 have HMB:=Lib.hid hM'
 unfold maxLen at hml hml'
 have a0:=A0.cell 0
 have b0':=B0.cell 0
 have a1:=A0.cell 1
 have b1':=B0.cell 1
 have a2:=A0.cell 2
 have b2':=B0.cell 2
 have a3:=A0.cell 3
 have b3':=B0.cell 3
 have a4:=A0.cell 4
 have b4':=B0.cell 4
 have a5:=A0.cell 5
 have b5':=B0.cell 5
 have a6:=A0.cell 6
 have b6':=B0.cell 6
 have a7:=A0.cell 7
 have b7':=B0.cell 7
 have a8:=A0.cell 8
 have b8':=B0.cell 8
 have a9:=A0.cell 9
 have b9':=B0.cell 9
 have a10:=A0.cell 10
 have b10':=B0.cell 10
 have a11 : ((w.alloc (.cells (gcs a R rc M mc) 28)).alloc (.cells (gcs b R' rc' M' mc') 28)).cell? ⟨w.heap.size, 11, none⟩ = some (.bool a.del):=A0.cell 11
 have b11' : ((w.alloc (.cells (gcs a R rc M mc) 28)).alloc (.cells (gcs b R' rc' M' mc') 28)).cell? ⟨w.heap.size + 1, 11, none⟩ = some (.bool b.del):=B0.cell 11
 clear hR hR' hM hM' hl hl' hrc hrc' hmc hmc' A0 B0 hb0
 obtain ⟨p0, k, q0, v0, e⟩:=hall
 have k1 : (a.kind == b.kind) = true:=by rw [beq_iff_eq]; exact k
 have k1n:=bne_of k1
 have e1 : (a.del == b.del) = true:=by rw [beq_iff_eq]; exact e
 have e1n:=bne_of e1
 rw [p0, decide_eq_true k, q0, v0, decide_eq_true e] at hr
 obtain ⟨p1, p2, p3⟩:=cn_eq p0
 obtain ⟨q1, q2, q3⟩:=cn_eq q0
 obtain ⟨v1, v2, v3⟩:=cn_eq v0
 clear p0 k q0 v0 e
 generalize decide (a.rdn = b.rdn) = b1 at HE hr
 have hrn : eqG a b = false:=by rw [hr, eqMos_len hlen]; cases b1 <;> rfl
 have HR:=Lib.hid hrn
 have n1 : ((a.mods.length : Int) != b.mods.length) = true:=by rw [bne_iff_ne]; omega
 clear hr hrn hlen
 go_enter Tryz.func13, Tryz.ntmps13
 go_wp2_with fail
 refine HE.out.mono ?_
 rintro e w1 ⟨rfl, hb1⟩
 have hb2:=Hb.out.trans (hb1.mono Hb.out.size)
 have d12:=(HA.out.past hb1).cell 12
 have e12:=(HB.out.past hb1).cell 12
 clear a0 a1 a2 a3 a4 a5 a6 a7 a8 a9 a10 a11 b0' b1' b2' b3' b4' b5' b6' b7' b8' b9' b10' b11'
 cases b1
 all_goals
  go_wp2_with fail
  go_ret
  exact ⟨ret_bool HR.out.symm, hb2⟩
set_option maxHeartbeats 8000000 in
theorem rSame_eq (a b : Cg) (cs cs' : Array Value) (w : World) (h : GAt w (· < w.heap.size) a cs) (h' : GAt w (· < w.heap.size) b cs') (hall : eqCn a.csn b.csn = true ∧ a.kind = b.kind ∧ eqCn a.id b.id = true ∧ eqCn a.par b.par = true ∧ a.del = b.del) (hlen : a.mods.length = b.mods.length) : Calls Tryz.prog 13 #[.agg cs, .agg cs'] w (Flag w (eqG a b)):=by
 obtain ⟨R, rc, M, mc, ds, rfl, ⟨hR, hl, hrc⟩, hM, hml, hmc⟩:=h
 obtain ⟨R', rc', M', mc', ds', rfl, ⟨hR', hl', hrc'⟩, hM', hml', hmc'⟩:=h'
 have hr : eqG a b = (eqCn a.csn b.csn && (decide (a.kind = b.kind) && (eqCn a.id b.id && (eqCn a.par b.par && (decide (a.del = b.del) && (decide (a.rdn = b.rdn) && eqMos a.mods b.mods)))))):=rfl
 have hb0 : Below w.heap.size w ((w.alloc (.cells (gcs a R rc M mc) 28)).alloc (.cells (gcs b R' rc' M' mc') 28)):=((Below.refl _ _).alloc (Nat.le_refl _) _).alloc (by simp) _
 have A0:=(Blk.new w 28 (gcs a R rc M mc)).alloc (.cells (gcs b R' rc' M' mc') 28)
 have B0:=new2 w (gcs a R rc M mc) (gcs b R' rc' M' mc') 28 28
 have HA:=Lib.hid A0
 have HB:=Lib.hid B0
 have Hb:=Lib.hid hb0
 have HE:=Lib.hid (sameR_any a.rdn b.rdn R R' rc rc' _ (hR.past hb0) (hR'.past hb0) hl)
 have HMA:=Lib.hid hM
 have HMB:=Lib.hid hM'
 unfold maxLen at hml hml'
 have a0:=A0.cell 0
 have b0':=B0.cell 0
 have a1:=A0.cell 1
 have b1':=B0.cell 1
 have a2:=A0.cell 2
 have b2':=B0.cell 2
 have a3:=A0.cell 3
 have b3':=B0.cell 3
 have a4:=A0.cell 4
 have b4':=B0.cell 4
 have a5:=A0.cell 5
 have b5':=B0.cell 5
 have a6:=A0.cell 6
 have b6':=B0.cell 6
 have a7:=A0.cell 7
 have b7':=B0.cell 7
 have a8:=A0.cell 8
 have b8':=B0.cell 8
 have a9:=A0.cell 9
 have b9':=B0.cell 9
 have a10:=A0.cell 10
 have b10':=B0.cell 10
 have a11 : ((w.alloc (.cells (gcs a R rc M mc) 28)).alloc (.cells (gcs b R' rc' M' mc') 28)).cell? ⟨w.heap.size, 11, none⟩ = some (.bool a.del):=A0.cell 11
 have b11' : ((w.alloc (.cells (gcs a R rc M mc) 28)).alloc (.cells (gcs b R' rc' M' mc') 28)).cell? ⟨w.heap.size + 1, 11, none⟩ = some (.bool b.del):=B0.cell 11
 clear hR hR' hM hM' hl hl' hrc hrc' hmc hmc' A0 B0 hb0
 obtain ⟨p0, k, q0, v0, e⟩:=hall
 have k1 : (a.kind == b.kind) = true:=by rw [beq_iff_eq]; exact k
 have k1n:=bne_of k1
 have e1 : (a.del == b.del) = true:=by rw [beq_iff_eq]; exact e
 have e1n:=bne_of e1
 rw [p0, decide_eq_true k, q0, v0, decide_eq_true e] at hr
 obtain ⟨p1, p2, p3⟩:=cn_eq p0
 obtain ⟨q1, q2, q3⟩:=cn_eq q0
 obtain ⟨v1, v2, v3⟩:=cn_eq v0
 clear p0 k q0 v0 e
 generalize decide (a.rdn = b.rdn) = b1 at HE hr
 have n1 : ((a.mods.length : Int) != b.mods.length) = false:=by rw [bne_eq_false_iff_eq]; omega
 have HL:=Lib.hid hlen
 have HR:=Lib.hid hr
 clear hr hlen
 go_enter Tryz.func13, Tryz.ntmps13
 go_wp2_with fail
 refine HE.out.mono ?_
 rintro e w1 ⟨rfl, hb1⟩
 have hb2:=Hb.out.trans (hb1.mono Hb.out.size)
 have HA1:=Lib.hid (HA.out.past hb1)
 have HB1:=Lib.hid (HB.out.past hb1)
 have d12:=HA1.out.cell 12
 have e12:=HB1.out.cell 12
 clear a0 a1 a2 a3 a4 a5 a6 a7 a8 a9 a10 a11 b0' b1' b2' b3' b4' b5' b6' b7' b8' b9' b10' b11' p1 p2 p3 q1 q2 q3 v1 v2 v3 k1 k1n e1 e1n
 cases b1
 focus
  go_wp2_with fail
  go_ret
  exact ⟨ret_bool HR.out.symm, hb2⟩
 have HMA1:=Lib.hid (HMA.out.past hb2)
 have HMB1:=Lib.hid (HMB.out.past hb2)
 have Hb2:=Lib.hid hb2
 clear hb1 hb2 HMA HMB Hb HA HB HE
 go_wp2_with fail
 clear d12 e12
 generalize hG0 : w.heap.size = g0 at HA1 HB1 ⊢
 go_loopw [5] (fun i wr=>∃ q : Nat, q ≤ a.mods.length ∧ i = .int .i64 q ∧ Hid (eqMos a.mods b.mods = eqMos (a.mods.drop q) (b.mods.drop q)) ∧ Below w1.heap.size w1 wr) (fun i wr=>a.mods.length - (intOf i).toNat)
 case atStart=>exact ⟨0, Nat.zero_le _, rfl, rfl, Below.refl _ _⟩
 case round =>
  obtain ⟨q, hq, rfl, hE, hb⟩:=hrel
  have hs:=hb.size
  have HA2:=Lib.hid (HA1.out.past hb)
  have HB2:=Lib.hid (HB1.out.past hb)
  have d12:=HA2.out.cell 12
  have e12:=HB2.out.cell 12
  by_cases hlt : q < a.mods.length
  rotate_left
  focus
   obtain rfl : q = a.mods.length:=by omega
   have hE2:=hE.out
   rw [List.drop_length, List.drop_eq_nil_of_le (by have:=HL.out; omega)] at hE2
   have HE2:=Lib.hid (show eqG a b = true by rw [HR.out, hE2]; rfl)
   clear hE hE2
   go_wp2_with fail
   go_ret
   exact ⟨ret_bool HE2.out.symm, Hb2.out.trans (hb.mono Hb2.out.size)⟩
  have hlt' : q < b.mods.length:=by have:=HL.out; omega
  obtain ⟨ad, V, vc, rfl, hp, f0, f1, f2, hL⟩:=HMA1.out.kid hb hlt
  obtain ⟨ad2, V2, vc2, rfl, hp2, g0', g1', g2', hL2⟩:=HMB1.out.kid hb (i:=q) hlt'
  have hE2:=hE.out
  rw [eqMos_drop hlt hlt'] at hE2
  have hrM : eqMo a.mods[q] b.mods[q] = (decide (a.mods[q].kind = b.mods[q].kind) && (decide (a.mods[q].attr = b.mods[q].attr) && decide (a.mods[q].vals = b.mods[q].vals))):=rfl
  rw [hrM] at hE2
  obtain ⟨Va, vca, ea, _, la, lc, hVa, _⟩:=hL
  obtain ⟨Vb, vcb, eb, _, lb, lcb, hVb, _⟩:=hL2
  simp only [List.cons.injEq, Value.slice.injEq, true_and, and_true] at ea eb
  obtain ⟨rfl, rfl⟩:=ea
  obtain ⟨rfl, rfl⟩:=eb
  generalize a.mods[q] = x at f0 f1 f2 hE2 hVa la lc
  generalize b.mods[q] = y at g0' g1' g2' hE2 hVb lb lcb
  obtain ⟨k, t, v⟩:=x
  obtain ⟨k2, t2, v2⟩:=y
  simp only at f0 f1 f2 g0' g1' g2' hE2 hVa la hVb lb
  have hlt2 : (q : Int) < b.mods.length:=by omega
  unfold maxLen at la lb
  have HE2:=Lib.hid hE2
  have HVA:=Lib.hid hVa
  have HVB:=Lib.hid hVb
  clear hE hE2 hrM hVa hVb
  go_wp2_with fail
  refine wp_region_noPanic ?_
  refine wp_region_held_drew (S:=Below wr.heap.size wr) (by kernel_rfl) (Below.refl wr.heap.size wr).drew (fun hH0=>?_)
  refine two_reg wr g0 q a.mods.length b.mods.length mc mc' ad ad2 k k2 t t2 V V2 v.length v2.length vc vc2 hlt hlt' d12 e12 f0 f1 f2 g0' g1' g2' (fun _ _ _ _ h=>h) (fun W g6 g7 hbW h6 h7 hne hT=>?_) _ hH0
  refine NoPanic.normal ?_
  have hbq : Below w1.heap.size w1 W:=hb.trans (hbW.mono hs)
  have HB3:=Lib.hid (Hb2.out.trans (hbq.mono Hb2.out.size))
  have HBQ:=Lib.hid hbq
  have HVA1:=Lib.hid (HVA.out.past hbW)
  have HVB1:=Lib.hid (HVB.out.past hbW)
  have m0 : W.cell? ⟨g6, 0, none⟩ = some (.int .i64 k):=hT.1.cell 0
  have m1 : W.cell? ⟨g6, 1, none⟩ = some (.string t):=hT.1.cell 1
  have m2 : W.cell? ⟨g6, 2, none⟩ = some (.slice V v.length vc):=hT.1.cell 2
  have n0 : W.cell? ⟨g7, 0, none⟩ = some (.int .i64 k2):=hT.2.cell 0
  have n1' : W.cell? ⟨g7, 1, none⟩ = some (.string t2):=hT.2.cell 1
  have n2' : W.cell? ⟨g7, 2, none⟩ = some (.slice V2 v2.length vc2):=hT.2.cell 2
  clear hT f0 f1 f2 g0' g1' g2' d12 e12 hbW hb hbq HVA HVB HA2 HB2 hH0 h6 h7 hne hs
  clear wr
  by_cases hk : k = k2
  rotate_left
  focus
   have HZ:=Lib.hid (show eqG a b = false by rw [HR.out, HE2.out, decide_eq_false hk]; rfl)
   have k1 : (k != k2) = true:=by rw [bne_iff_ne]; exact hk
   clear hk
   go_wp2_with fail
   go_ret
   exact ⟨ret_bool HZ.out.symm, HB3.out⟩
  have k1 : (k != k2) = false:=by rw [bne_eq_false_iff_eq]; exact hk
  by_cases ht : t = t2
  rotate_left
  focus
   have HZ:=Lib.hid (show eqG a b = false by rw [HR.out, HE2.out, decide_eq_true hk, decide_eq_false ht]; rfl)
   have t1 : (t.toList == t2.toList) = false:=by rw [toList_eq, decide_eq_false ht]
   have t1n:=bne_of t1
   clear hk ht
   go_wp2_with fail
   go_ret
   exact ⟨ret_bool HZ.out.symm, HB3.out⟩
  have t1 : (t.toList == t2.toList) = true:=by rw [toList_eq, decide_eq_true ht]
  have t1n:=bne_of t1
  by_cases hlv : v.length = v2.length
  rotate_left
  focus
   have HZ:=Lib.hid (show eqG a b = false by rw [HR.out, HE2.out, decide_eq_true hk, decide_eq_true ht, decide_eq_false (p:=v = v2) (fun h=>hlv (by rw [h]))]; rfl)
   have l1 : ((v.length : Int) != v2.length) = true:=by rw [bne_iff_ne]; omega
   clear hk ht hlv
   go_wp2_with fail
   go_ret
   exact ⟨ret_bool HZ.out.symm, HB3.out⟩
  have l1 : ((v.length : Int) != v2.length) = false:=by rw [bne_eq_false_iff_eq]; omega
  have HE3:=Lib.hid (show eqMos a.mods b.mods = (decide (v = v2) && eqMos (List.drop (q + 1) a.mods) (List.drop (q + 1) b.mods)) by rw [HE2.out, decide_eq_true hk, decide_eq_true ht]; rfl)
  have HLV:=Lib.hid hlv
  clear hk ht hlv HE2
  have HM2:=Lib.hid m2
  have HN2:=Lib.hid n2'
  have hgm:=cell_lt m2
  have hgn:=cell_lt n2'
  go_wp2_with fail
  clear m0 m1 m2 n0 n1' n2' k1 t1 t1n l1
  go_loopw [8] (fun i wr=>∃ p : Nat, p ≤ v.length ∧ i = .int .i64 p ∧ Hid (decide (v = v2) = decide (v.drop p = v2.drop p)) ∧ Below W.heap.size W wr) (fun i wr=>v.length - (intOf i).toNat)
  case atStart=>exact ⟨0, Nat.zero_le _, rfl, rfl, Below.refl _ _⟩
  case round =>
   obtain ⟨p, hp9, rfl, hE9, hb9⟩:=hrel
   have hs9:=hb9.size
   have m2:=bat hb9 hgm HM2.out
   have n2':=bat hb9 hgn HN2.out
   by_cases hlt2 : p < v.length
   rotate_left
   focus
    have hE8:=hE9.out
    rw [List.drop_eq_nil_of_le (by omega), List.drop_eq_nil_of_le (by have:=HLV.out; omega), decide_eq_true (p:=([] : List ByteArray) = []) rfl] at hE8
    have HE4:=Lib.hid (show eqMos a.mods b.mods = eqMos (List.drop (q + 1) a.mods) (List.drop (q + 1) b.mods) by rw [HE3.out, hE8]; rfl)
    clear hE9 hE8
    go_wp2_with fail
    go_roundw
    case rel=>exact ⟨q + 1, by omega, by go_num, HE4.out, HBQ.out.trans (hb9.mono HBQ.out.size)⟩
    case measure=>simp [intOf]; omega
   have hlt3 : p < v2.length:=by have:=HLV.out; omega
   have hlt3i : (p : Int) < v2.length:=by omega
   obtain ⟨vd, rfl, hpv, hcv⟩:=HVA1.out (by omega)
   obtain ⟨vd2, rfl, hpv2, hcv2⟩:=HVB1.out (by omega)
   have f0:=batA hb9 (by rw [block_of_add]; exact hpv) (hcv p hlt2)
   have f1:=batA hb9 (by rw [block_of_add]; exact hpv2) (hcv2 p hlt3)
   have hE8:=hE9.out
   rw [eq_drop hlt2 hlt3] at hE8
   generalize v[p] = s at f0 hE8
   generalize v2[p] = s2 at f1 hE8
   have HE9:=Lib.hid hE8
   clear hE9 hE8 hcv hcv2
   by_cases hss : s = s2
   rotate_left
   focus
    have h5 : (s.toList == s2.toList) = false:=by rw [toList_eq, decide_eq_false hss]
    have h6:=bne_of h5
    have HZ:=Lib.hid (show eqG a b = false by rw [HR.out, HE3.out, HE9.out, decide_eq_false hss]; rfl)
    have hbz:=HB3.out.trans (hb9.mono HB3.out.size)
    clear hss
    go_wp2_with fail
    go_quiet (fail)
    all_goals
     go_wp2_with fail
     go_ret
     exact ⟨ret_bool HZ.out.symm, hbz.trans (drewN_below _ _ _)⟩
   have h5 : (s.toList == s2.toList) = true:=by rw [toList_eq, decide_eq_true hss]
   have h6:=bne_of h5
   have HF:=Lib.hid (show decide (v = v2) = decide (v.drop (p + 1) = v2.drop (p + 1)) by rw [HE9.out, decide_eq_true hss]; rfl)
   clear hss
   go_wp2_with fail
   go_quiet (fail)
   all_goals
    go_wp2_with fail
    refine ⟨⟨p + 1, by omega, by go_num, HF.out, hb9.trans (drewN_below _ _ _)⟩, by simp [intOf]; omega⟩
theorem rSame_any (a b : Cg) (cs cs' : Array Value) (w : World) (h : GAt w (· < w.heap.size) a cs) (h' : GAt w (· < w.heap.size) b cs') : Calls Tryz.prog 13 #[.agg cs, .agg cs'] w (Flag w (eqG a b)):=by
 by_cases hall : eqCn a.csn b.csn = true ∧ a.kind = b.kind ∧ eqCn a.id b.id = true ∧ eqCn a.par b.par = true ∧ a.del = b.del
 ·by_cases hlen : a.mods.length = b.mods.length
  ·exact rSame_eq a b cs cs' w h h' hall hlen
  ·exact rSame_len a b cs cs' w h h' hall hlen
 ·exact rSame_ne a b cs cs' w h h' hall
end Go.Proofs.YtbdpkfgllnbheaaGreatDoor.Ch
