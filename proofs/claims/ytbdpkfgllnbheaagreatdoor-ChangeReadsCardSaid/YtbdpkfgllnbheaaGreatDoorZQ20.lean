import Derived.Handy
import Derived.Test.YtbdpkfgllnbheaaGreatDoorZQ15
import Derived.Lib.AppendIntMem
import Derived.Test.YtbdpkfgllnbheaaGreatDoorRows
import Derived.Lib.LaidTab
import Derived.LaidLaws
import Derived.LaidMore
import Derived.Stop.Joined
import Derived.MakeChecks
set_option linter.unusedVariables false
set_option maxRecDepth 100000
namespace Go.Proofs.YtbdpkfgllnbheaaGreatDoor.Cs
open Go.RowKit
theorem is_any (t s r : Int) (w : World) : Calls Tryz.prog 21 #[cv t s r] w fun e w'=>e = .returned (.bool (isC t s r)) ∧ Below w.heap.size w w':=by
 go_enter Tryz.func21, Tryz.ntmps21
 go_wp2
 all_goals
  go_ret
  refine ⟨?_, (Below.refl _ _).alloc (Nat.le_refl _) _⟩
  first
  | exact ret_bool (decide_eq_decide.2 (by omega))
  | exact ret_bool (decide_eq_false (by omega)).symm
theorem ris_any (t s r : Int) (w : World) : Calls Tryz.prog 26 #[cv t s r] w fun e w'=>e = .returned (.bool (isC t s r)) ∧ Below w.heap.size w w':=by
 go_enter Tryz.func26, Tryz.ntmps26
 go_wp2
 all_goals
  go_ret
  refine ⟨?_, (Below.refl _ _).alloc (Nat.le_refl _) _⟩
  first
  | exact ret_bool (decide_eq_decide.2 (by omega))
  | exact ret_bool (decide_eq_false (by omega)).symm
theorem zero_any (t s r : Int) (w : World) : Calls Tryz.prog 22 #[cv t s r] w fun e w'=>e = .returned (.bool (decide (t = 0 ∧ s = 0 ∧ r = 0))) ∧ Below w.heap.size w w':=by
 go_enter Tryz.func22, Tryz.ntmps22
 go_wp2
 all_goals
  go_ret
  refine ⟨?_, (Below.refl _ _).alloc (Nat.le_refl _) _⟩
  first
  | exact ret_bool (decide_eq_true (by omega)).symm
  | exact ret_bool (decide_eq_false (by omega)).symm
theorem rzero_any (t s r : Int) (w : World) : Calls Tryz.prog 27 #[cv t s r] w fun e w'=>e = .returned (.bool (decide (t = 0 ∧ s = 0 ∧ r = 0))) ∧ Below w.heap.size w w':=by
 go_enter Tryz.func27, Tryz.ntmps27
 go_wp2
 all_goals
  go_ret
  refine ⟨?_, (Below.refl _ _).alloc (Nat.le_refl _) _⟩
  first
  | exact ret_bool (decide_eq_true (by omega)).symm
  | exact ret_bool (decide_eq_false (by omega)).symm
theorem isNaN64 (x : Int) (w : World) : Calls Tryz.prog 144 #[.int .i64 x] w fun e w'=>e = .returned (.bool false) ∧ w' = w:=by
 go_enter Tryz.func144, Tryz.ntmps144
 go_wp2
 go_ret
 simp
theorem isNaN (x : Int) (w : World) : Calls Tryz.prog 145 #[.int .i64 x] w fun e w'=>e = .returned (.bool false) ∧ w' = w:=by
 go_enter Tryz.func145, Tryz.ntmps145
 go_wp2
 go_ret
 simp
theorem compare64 (x y : Int) (w : World) : Calls Tryz.prog 123 #[.int .i64 x, .int .i64 y] w fun e w'=>e = .returned (.int .i64 (cmp1 x y)) ∧ w' = w:=by
 have C:=Lib.hid isNaN64
 go_enter Tryz.func123, Tryz.ntmps123
 go_wp2_with fail
 refine (C.out _ _).mono ?_
 rintro e w1 ⟨rfl, rfl⟩
 go_wp2_with fail
 refine (C.out _ _).mono ?_
 rintro e w2 ⟨rfl, rfl⟩
 go_wp2
 all_goals
  go_ret
  refine ⟨ret_int ?_, rfl⟩
  unfold cmp1
  first | rw [if_pos (by omega)] | rw [if_neg (by omega), if_pos (by omega)] | rw [if_neg (by omega), if_neg (by omega)]
theorem compare (x y : Int) (w : World) : Calls Tryz.prog 124 #[.int .i64 x, .int .i64 y] w fun e w'=>e = .returned (.int .i64 (cmp1 x y)) ∧ w' = w:=by
 have C:=Lib.hid isNaN
 go_enter Tryz.func124, Tryz.ntmps124
 go_wp2_with fail
 refine (C.out _ _).mono ?_
 rintro e w1 ⟨rfl, rfl⟩
 go_wp2_with fail
 refine (C.out _ _).mono ?_
 rintro e w2 ⟨rfl, rfl⟩
 go_wp2
 all_goals
  go_ret
  refine ⟨ret_int ?_, rfl⟩
  unfold cmp1
  first | rw [if_pos (by omega)] | rw [if_neg (by omega), if_pos (by omega)] | rw [if_neg (by omega), if_neg (by omega)]
def orV (x y z : Int) : Int:=if x ≠ 0 then x else if y ≠ 0 then y else z
set_option maxHeartbeats 1000000 in
theorem or_any (x y z : Int) (g : Nat) (w : World) (c0 : w.cell? ⟨g, 0, none⟩ = some (.int .i64 x)) (c1 : w.cell? ⟨g, 1, none⟩ = some (.int .i64 y)) (c2 : w.cell? ⟨g, 2, none⟩ = some (.int .i64 z)) : Calls Tryz.prog 122 #[.slice (some ⟨g, 0, none⟩) 3 3] w fun e w'=>e = .returned (.int .i64 (orV x y z)) ∧ w' = w:=by
 obtain ⟨V, hV⟩ : ∃ V, Hid (V = orV x y z):=⟨_, rfl⟩
 rw [← hV.out]
 go_enter Tryz.func122, Tryz.ntmps122
 go_wp2_with fail
 go_loop [8] (fun i=>∃ q : Nat, q ≤ 3 ∧ i = .int .i64 q ∧ Hid ((1 ≤ q → x = 0) ∧ (2 ≤ q → y = 0) ∧ (3 ≤ q → z = 0))) (fun i=>3 - (intOf i).toNat)
 case atStart=>exact ⟨0, by omega, rfl, by show _ ∧ _ ∧ _; refine ⟨?_, ?_, ?_⟩ <;> (intro; omega)⟩
 case round =>
  obtain ⟨q, hq, rfl, hh⟩:=hrel
  obtain rfl | rfl | rfl | rfl : q = 0 ∨ q = 1 ∨ q = 2 ∨ q = 3:=by omega
  all_goals
   go_wp2
   all_goals first
   |(go_ret
     have hh2:=hh.out
     refine ⟨ret_int ?_, rfl⟩
     rw [hV.out]
     unfold orV
     try simp only [bne_iff_ne, ne_eq] at *
     first | rw [if_pos (by omega)] | rw [if_neg (by omega), if_pos (by omega)] | (rw [if_neg (by omega), if_neg (by omega)] <;> omega))
   |(go_round
     case rel =>
      have hh2:=hh.out
      try simp only [bne_eq_false_iff_eq] at *
      first
      | exact ⟨1, by omega, rfl, by show _ ∧ _ ∧ _; refine ⟨?_, ?_, ?_⟩ <;> (intro; omega)⟩
      | exact ⟨2, by omega, rfl, by show _ ∧ _ ∧ _; refine ⟨?_, ?_, ?_⟩ <;> (intro; omega)⟩
      | exact ⟨3, by omega, rfl, by show _ ∧ _ ∧ _; refine ⟨?_, ?_, ?_⟩ <;> (intro; omega)⟩
     case measure=>simp [intOf])
theorem orV_cmp (t s r t2 s2 r2 : Int) : orV (cmp1 t t2) (cmp1 s s2) (cmp1 r r2) = cmpC t s r t2 s2 r2:=rfl
theorem cmp_any (t s r t2 s2 r2 : Int) (w : World) : Calls Tryz.prog 91 #[cv t s r, cv t2 s2 r2] w fun e w'=>e = .returned (.int .i64 (cmpC t s r t2 s2 r2)) ∧ Below w.heap.size w w':=by
 have C6:=Lib.hid compare64
 have C:=Lib.hid compare
 have CO:=Lib.hid or_any
 have HR:=Lib.hid (orV_cmp t s r t2 s2 r2)
 go_enter Tryz.func91, Tryz.ntmps91
 go_wp2_with fail
 have B0:=((Blk.new w 23 (gc t s r)).alloc (.cells (gc t2 s2 r2) 23)).drew
 have B1:=(Blk.new (w.alloc (.cells (gc t s r) 23)) 23 (gc t2 s2 r2)).drew
 have BV : Blk (((w.alloc (.cells (gc t s r) 23)).alloc (.cells (gc t2 s2 r2) 23)).alloc (.cells #[.int .i64 (cmp1 t t2), .int .i64 (cmp1 s s2), .int .i64 (cmp1 r r2)] 3)).drew (w.heap.size + 1 + 1) 3 #[.int .i64 (cmp1 t t2), .int .i64 (cmp1 s s2), .int .i64 (cmp1 r r2)]:=by
  have:=(Blk.new ((w.alloc (.cells (gc t s r) 23)).alloc (.cells (gc t2 s2 r2) 23)) 3 #[.int .i64 (cmp1 t t2), .int .i64 (cmp1 s s2), .int .i64 (cmp1 r r2)]).drew
  simpa using this
 go_region_held3 (fun w'=>w'.cell? ⟨w.heap.size, 0, none⟩ = some (.int .i64 t) ∧ w'.cell? ⟨w.heap.size, 1, none⟩ = some (.int .i64 s) ∧ w'.cell? ⟨w.heap.size, 2, none⟩ = some (.int .i64 r) ∧ w'.cell? ⟨w.heap.size + 1, 0, none⟩ = some (.int .i64 t2) ∧ w'.cell? ⟨w.heap.size + 1, 1, none⟩ = some (.int .i64 s2) ∧ w'.cell? ⟨w.heap.size + 1, 2, none⟩ = some (.int .i64 r2)) (first | go_keep | exact ⟨B0.cell 0, B0.cell 1, B0.cell 2, B1.cell 0, B1.cell 1, B1.cell 2⟩) (first | (go_at_call 123; refine (C6.out _ _ _).mono ?_; rintro e9 w9 ⟨rfl, rfl⟩) | (go_at_call 124; refine (C.out _ _ _).mono ?_; rintro e9 w9 ⟨rfl, rfl⟩) | (go_at_call 122; refine (CO.out (cmp1 t t2) (cmp1 s s2) (cmp1 r r2) _ _ (BV.cell 0) (BV.cell 1) (BV.cell 2)).mono ?_; rintro e9 w9 ⟨rfl, rfl⟩))
 all_goals
  go_wp2_with fail
  go_ret
  exact ⟨rfl, ((((Below.refl _ _).alloc (Nat.le_refl _) _).alloc (by simp) _).alloc (by simp; omega) _).drew⟩
theorem rcmp_any (t s r t2 s2 r2 : Int) (w : World) : Calls Tryz.prog 28 #[cv t s r, cv t2 s2 r2] w fun e w'=>e = .returned (.int .i64 (cmpC t s r t2 s2 r2)) ∧ Below w.heap.size w w':=by
 obtain ⟨V, hV⟩ : ∃ V, Hid (V = cmpC t s r t2 s2 r2):=⟨_, rfl⟩
 rw [← hV.out]
 go_enter Tryz.func28, Tryz.ntmps28
 go_wp2
 all_goals
  go_ret
  refine ⟨ret_int ?_, ((Below.refl _ _).alloc (Nat.le_refl _) _).alloc (by simp) _⟩
  rw [hV.out]
  unfold cmpC cmp1
  omega
end Go.Proofs.YtbdpkfgllnbheaaGreatDoor.Cs
namespace Go.Proofs.YtbdpkfgllnbheaaGreatDoor.Cs
open Go.RowKit
theorem Blk.set3 {w : World} {g : Nat} {ty : TypeId} {t s r : Int} (h : Blk w g ty (gc t s r)) (t2 s2 r2 : Int) : Blk (((w.setCell ⟨g, 0, none⟩ (.int .i64 t2)).setCell ⟨g, 1, none⟩ (.int .i64 s2)).setCell ⟨g, 2, none⟩ (.int .i64 r2)) g ty (gc t2 s2 r2):=by
 have:=((h.set_ 0 (.int .i64 t2)).set_ 1 (.int .i64 s2)).set_ 2 (.int .i64 r2)
 simpa using this
theorem res_cn {fn : Func} {p u : Tmp} (h : fn.results = #[.cell p 23, .tmp u]) (tmps : Array Value) (w : World) (g : Nat) (t s r : Int) (v : Value) (hp : tmps.getD p undef = .pointer (some ⟨g, 0, none⟩)) (hv : tmps.getD u undef = v) (hB : Blk w g 23 (gc t s r)) :
  (results fn tmps).run Tryz.prog w = .ok (.tuple #[cv t s r, v]) w:=by
 rw [results_cell_tmp h, hp, hv]
 have e:=run_loadVar_row (P:=Tryz.prog) w g 23 23 (gc t s r) (0, 0) _ hB Tryz.underlying23 rfl (by kernel_rfl)
 show (((loadVar 23 ⟨g, 0, none⟩).run Tryz.prog w).andThen fun v1 w₂=>Result.ok (Value.tuple #[v1, v]) w₂) = _
 rw [e]
 rfl
theorem box {w : World} {g : Nat} {ty : TypeId} {t s r : Int} (h : Blk w g ty (gc t s r)) : w.cell? ⟨g, 0, none⟩ = some (.int .i64 t) ∧ w.cell? ⟨g, 1, none⟩ = some (.int .i64 s) ∧ w.cell? ⟨g, 2, none⟩ = some (.int .i64 r) ∧ w.frozen? ⟨g, 0, none⟩ = false ∧ w.frozen? ⟨g, 1, none⟩ = false ∧ w.frozen? ⟨g, 2, none⟩ = false :=
 ⟨h.cell 0, h.cell 1, h.cell 2, h.frozen 0, h.frozen 1, h.frozen 2⟩
end Go.Proofs.YtbdpkfgllnbheaaGreatDoor.Cs
namespace Go.Proofs.YtbdpkfgllnbheaaGreatDoor.Cs
open Go.RowKit
section
variable {P : Program} {ev : Operand → Value} {o : Oper} {x y : Operand} {t u : TypeId} {a b : Int} {w : World}
theorem run_cell {p : Addr} {v : Value} (ho : o.op = .load t x) (hx : ev x = .pointer (some p)) (hagg : (isAgg t).run P w = .ok false w) (hc : w.cell? p = some v) :
  (execOp ev o).run P w = .ok (.value v) w:=by
 unfold execOp
 simp [ho, hx, Instr.loadAt, Instr.sureAddr, loadVar, hagg, hc, Result.andThen]
theorem run_loadRow {g : Nat} {ty : TypeId} {cs : Array Value} {d : TypeDesc} (ho : o.op = .load ty x) (hx : ev x = .pointer (some ⟨g, 0, none⟩)) (h : Blk w g t cs)
  (hu : P.underlying ty = some d) (hd : (match d with | .struct _ | .array _ _=>true | _=>false) = true) (hi : (P.info? ty).map (·.size) = some cs.size) : (execOp ev o).run P w = .ok (.value (.agg cs)) w:=by
 unfold execOp
 simp only [ho, hx, Instr.loadAt, Instr.sureAddr, Sem.run_bind, Sem.run_pure, Result.andThen_ok, run_loadVar_row w g t ty cs (0, 0) d h hu hd hi]
end
end Go.Proofs.YtbdpkfgllnbheaaGreatDoor.Cs
namespace Go.Proofs.YtbdpkfgllnbheaaGreatDoor.Cs
open Go.RowKit
structure Glob (w : World) : Prop where
 tab : Lib.TabIs Tryz.prog w "internal/strconv.uint64pow10" .u64 Lib.pow10Tab
 syn : ∃ t p, w.cell? ⟨6, 0, none⟩ = some (.iface t p)
 rng : ∃ t p, w.cell? ⟨7, 0, none⟩ = some (.iface t p)
theorem tabN : Tryz.prog.globalNamed "internal/strconv.uint64pow10" = some 0:=by kernel_rfl
theorem Glob.past {w w' : World} (h : Glob w) (hb : Below w.heap.size w w') : Glob w':=by
 obtain ⟨h1, ⟨t, p, h2⟩, ⟨u, q, h3⟩⟩:=h
 refine ⟨?_, ⟨t, p, (hb.cell (cell_lt h2)).trans h2⟩, ⟨u, q, (hb.cell (cell_lt h3)).trans h3⟩⟩
 have h4:=h1.cell tabN 0 (by decide)
 have h5:=cell_lt h4
 have h6 : w'.var? Tryz.prog "internal/strconv.uint64pow10" = w.var? Tryz.prog "internal/strconv.uint64pow10":=by
  unfold World.var?
  rw [tabN]
  simp only [Option.bind_some]
  rw [hb.block _ h5]
 exact h6.trans h1
theorem fmt_any (n : Int) (hn : I64 n) (w : World) (hG : Glob w) : Calls Tryz.prog 83 #[.int .i64 n, .int .i64 10] w fun e w'=>e = .returned (.string (mk (Lib.itoa n))) ∧ Below w.heap.size w w' :=
 (Tryz.strconv_FormatInt_10 n hn.1 hn.2 w hG.tab).mono fun e w' ⟨h1, k, os, h2⟩=>⟨h1, h2 ▸ Lib.below_grow _ w (Nat.le_refl _) k os⟩
theorem itoa_any (n : Int) (hn : I64 n) (w : World) (hG : Glob w) : Calls Tryz.prog 84 #[.int .i64 n] w fun e w'=>e = .returned (.string (mk (Lib.itoa n))) ∧ Below w.heap.size w w' :=
 (Tryz.strconv_Itoa n hn.1 hn.2 w hG.tab).mono fun e w' ⟨h1, k, os, h2⟩=>⟨h1, h2 ▸ Lib.below_grow _ w (Nat.le_refl _) k os⟩
theorem parseInt_any (s : ByteArray) (hs : s.size ≤ 1000000000) (w : World) (hG : Glob w) : Calls Tryz.prog 157 #[.string s, .int .i64 10, .int .i64 64] w fun e w'=>∃ x, e = .returned (.tuple #[.int .i64 (rd (bs s)), x]) ∧ Below w.heap.size w w':=by
 unfold rd
 cases h : Lib.parseIntB 64 (bs s)
 ·rename_i v
  exact (Any.strconv_ParseInt_10_at64_ok Tryz.laysC174 s (by omega) v h w).mono fun e w' ⟨h1, h2⟩=>⟨_, h1, by
   rcases h2 with rfl | ⟨t, rfl⟩
   ·exact Below.refl _ _
   ·exact Lib.bytesWorld_below _ _ _⟩
 ·obtain ⟨t, p, h2⟩:=hG.syn
  exact (Any.strconv_ParseInt_10_at64_syntax Tryz.laysC174 s (by omega) h _ w h2 (Or.inr ⟨t, p, rfl⟩)).mono fun e w' ⟨N, h3, _, _, h4⟩=>⟨_, h3, h4⟩
 ·obtain ⟨t, p, h2⟩:=hG.rng
  exact (Any.strconv_ParseInt_10_at64_range Tryz.laysC174 s (by omega) h _ w h2 (Or.inr ⟨t, p, rfl⟩)).mono fun e w' ⟨N, h3, _, _, h4⟩=>⟨_, h3, h4⟩
theorem number_any (s : ByteArray) (hs : s.size ≤ 1000000000) (w : World) (hG : Glob w) : Calls Tryz.prog 136 #[.string s] w fun e w'=>e = .returned (.int .i64 (rd (bs s))) ∧ Below w.heap.size w w':=by
 have C:=parseInt_any s hs w hG
 generalize rd (bs s) = n at C ⊢
 have C:=Lib.hid C
 go_enter Tryz.func136, Tryz.ntmps136
 go_wp2_with fail
 refine C.out.mono ?_
 rintro e w1 ⟨x, rfl, hb⟩
 go_wp2_with fail
 go_ret
 exact ⟨rfl, hb⟩
theorem mk_size (l : List UInt8) : (mk l).size = l.length:=by show l.toArray.size = _; simp
theorem text_mk (t s r : Int) : mk (Lib.itoa t) ++ ⟨#[46]⟩ ++ mk (Lib.itoa s) ++ ⟨#[46]⟩ ++ mk (Lib.itoa r) = mk (text t s r):=by
 apply bs_inj
 show (mk (Lib.itoa t) ++ ⟨#[46]⟩ ++ mk (Lib.itoa s) ++ ⟨#[46]⟩ ++ mk (Lib.itoa r)).data.toList = text t s r
 simp [text, ByteArray.data_append]
set_option maxHeartbeats 1000000 in
theorem Text_any (t s r : Int) (ht : I64 t) (hs : I64 s) (hr : I64 r) (w : World) (hG : Glob w) : Calls Tryz.prog 45 #[cv t s r] w fun e w'=>e = .returned (.string (mk (text t s r))) ∧ Below w.heap.size w w':=by
 have C1:=fmt_any t ht
 have C2:=itoa_any s hs
 have C3:=itoa_any r hr
 have l1:=itoa_len t ht.1 ht.2
 have l2:=itoa_len s hs.1 hs.2
 have l3:=itoa_len r hr.1 hr.2
 rw [← mk_size] at l1 l2 l3
 have HE:=text_mk t s r
 generalize mk (text t s r) = Z at HE ⊢
 generalize mk (Lib.itoa t) = A at *
 generalize mk (Lib.itoa s) = B at *
 generalize mk (Lib.itoa r) = D at *
 have C1:=Lib.hid C1
 have C2:=Lib.hid C2
 have C3:=Lib.hid C3
 have HE:=Lib.hid HE
 have a1 : ¬ (9223372036854775807 < A.size + 1):=by omega
 have a2 : ¬ (9223372036854775807 < A.size + 1 + B.size):=by omega
 have a3 : ¬ (9223372036854775807 < A.size + 1 + B.size + 1):=by omega
 have a4 : ¬ (9223372036854775807 < A.size + 1 + B.size + 1 + D.size):=by omega
 have B0:=(Blk.new w 23 (gc t s r)).drew
 have hb0:=((Below.refl w.heap.size w).alloc (Nat.le_refl _) (.cells (gc t s r) 23)).drew
 have G0:=hG.past hb0
 have hz0:=hb0.size
 clear hG ht hs hr
 go_enter Tryz.func45, Tryz.ntmps45
 go_wp2_with fail
 go_region_held3 (fun w'=>w'.cell? ⟨w.heap.size, 0, none⟩ = some (.int .i64 t) ∧ w'.cell? ⟨w.heap.size, 1, none⟩ = some (.int .i64 s) ∧ w'.cell? ⟨w.heap.size, 2, none⟩ = some (.int .i64 r)) (first | exact ⟨B0.cell 0, B0.cell 1, B0.cell 2⟩ | exact ⟨B3.cell 0, B3.cell 1, B3.cell 2⟩ | exact ⟨B2.cell 0, B2.cell 1, B2.cell 2⟩ | exact ⟨B1.cell 0, B1.cell 1, B1.cell 2⟩) (first | (go_at_call 83; refine (C1.out _ G0).mono ?_; rintro e9 w1 ⟨rfl, hb1⟩; have B1:=B0.past hb1; have G1:=G0.past hb1; have hc1:=hb0.trans (hb1.mono hz0); have hz1:=hc1.size) | (go_at_call 84; refine (C3.out _ G2).mono ?_; rintro e9 w3 ⟨rfl, hb3⟩; have B3:=B2.past hb3; have hc3:=hc2.trans (hb3.mono hz2)) | (go_at_call 84; refine (C2.out _ G1).mono ?_; rintro e9 w2 ⟨rfl, hb2⟩; have B2:=B1.past hb2; have G2:=G1.past hb2; have hc2:=hc1.trans (hb2.mono hz1); have hz2:=hc2.size))
 all_goals
  go_wp2_with fail
  go_ret
  refine ⟨?_, hc3⟩
  rw [← HE.out]
  rfl
end Go.Proofs.YtbdpkfgllnbheaaGreatDoor.Cs
namespace Go.Proofs.YtbdpkfgllnbheaaGreatDoor.Ch
open Go.ChangeShapes Go.WideShapes Go.RowKit
def laidL : List (String × DataW Unit):=[("math/bits.deBruijn32tab", Rows.laid_math_bits_deBruijn32tab), ("math/bits.deBruijn64tab", Rows.laid_math_bits_deBruijn64tab), ("internal/strconv.uint64pow10", Rows.laid_internal_strconv_uint64pow10), ("unicode/utf8.acceptRanges", Rows.laid_unicode_utf8_acceptRanges), ("strconv.ErrRange", Rows.laid_strconv_ErrRange), ("strconv.ErrSyntax", Rows.laid_strconv_ErrSyntax), ("unicode/utf8.first", Rows.laid_unicode_utf8_first)]
theorem powAt : (Rows.laid_internal_strconv_uint64pow10 : DataW Unit) = Lib.tabData .u64 Lib.pow10Tab:=by rfl
theorem rngN : Tryz.prog.globalNamed "strconv.ErrRange" = some 7:=by kernel_rfl
theorem synN : Tryz.prog.globalNamed "strconv.ErrSyntax" = some 6:=by kernel_rfl
theorem glob_of_laid {W : World} (h : laidMetH Tryz.prog laidL W) : Cs.Glob W:=by
 rw [MakeChecks.laidMetH_plain _ _ _ (by kernel_rfl)] at h
 obtain ⟨ps, ⟨_, _, _, _, _, _, _, _, _, _, ⟨_, _, _, _, _, _, _, _, _, _, ⟨g2, t2, cs2, f2, p2, q2, a1, a2, a3, a4, ⟨_, _, _, _, _, _, _, _, _, _, ⟨g3, t3, cs3, f3, p3, q3, b1, b2, b3, b4, ⟨g4, t4, cs4, f4, p4, q4, c1, c2, c3, c4, _⟩, _⟩, _⟩, _⟩, _⟩, _⟩, _⟩:=h
 refine ⟨?_, ?_, ?_⟩
 ·obtain rfl:=Option.some.inj (Cs.tabN.symm.trans a1)
  have ht : t2 = 196:=Option.some.inj (a2.symm.trans (by kernel_rfl))
  subst ht
  rw [powAt] at a4
  have e:=Lib.cells_of_tab Tryz.underlying196 Tryz.underlying176 (by kernel_rfl) (by kernel_rfl) a4
  unfold Lib.TabIs
  rw [a3, ← e]
 ·obtain rfl:=Option.some.inj (synN.symm.trans c1)
  have ht : t4 = 108:=Option.some.inj (c2.symm.trans (by kernel_rfl))
  subst ht
  obtain ⟨_, u, v, e, _, _⟩:=iface_of_trod Tryz.underlying108 c4
  refine ⟨u, v, ?_⟩
  have:=World.var?_cell synN c3 0
  rw [this, ← Array.getElem?_toList, e]
  rfl
 ·obtain rfl:=Option.some.inj (rngN.symm.trans b1)
  have ht : t3 = 108:=Option.some.inj (b2.symm.trans (by kernel_rfl))
  subst ht
  obtain ⟨_, u, v, e, _, _⟩:=iface_of_trod Tryz.underlying108 b4
  refine ⟨u, v, ?_⟩
  have:=World.var?_cell rngN b3 0
  rw [this, ← Array.getElem?_toList, e]
  rfl
end Go.Proofs.YtbdpkfgllnbheaaGreatDoor.Ch
namespace Go.Proofs.YtbdpkfgllnbheaaGreatDoor.Cs
open Go.RowKit
theorem place (c : UInt8) : ∀ l : List UInt8, (c ∉ l ∧ Lib.indexByte l c = -1 ∧ upto c l = l ∧ past c l = []) ∨ (c ∈ l ∧ ∃ i : Nat, i < l.length ∧ Lib.indexByte l c = i ∧ upto c l = l.take i ∧ past c l = l.drop (i + 1))
 | []=>Or.inl ⟨by simp, rfl, rfl, rfl⟩
 | b :: r=>by
  by_cases h : b = c
  ·refine Or.inr ⟨by simp [h], 0, by simp, ?_, ?_, ?_⟩
   ·rw [Lib.indexByte, if_pos (by rw [beq_iff_eq]; exact h)]; rfl
   ·rw [upto, if_pos h]; rfl
   ·rw [past, if_pos h]; rfl
  ·rcases place c r with ⟨h1, h2, h3, h4⟩ | ⟨h1, i, h2, h3, h4, h5⟩
   ·refine Or.inl ⟨by simp [h1]; exact fun e=>h e.symm, ?_, ?_, ?_⟩
    ·rw [Lib.indexByte, if_neg (by rw [beq_iff_eq]; exact h), h2]; rfl
    ·rw [upto, if_neg h, h3]
    ·rw [past, if_neg h, h4]
   ·refine Or.inr ⟨by simp [h1], i + 1, by simp; omega, ?_, ?_, ?_⟩
    ·rw [Lib.indexByte, if_neg (by rw [beq_iff_eq]; exact h), h3, if_neg (by rw [beq_iff_eq]; omega)]; omega
    ·rw [upto, if_neg h, h4]; rfl
    ·rw [past, if_neg h, h5]; rfl
theorem upto_len (c : UInt8) (l : List UInt8) : (upto c l).length ≤ l.length:=by
 rcases place c l with ⟨_, _, h, _⟩ | ⟨_, i, _, _, h, _⟩
 ·rw [h]; exact Nat.le_refl _
 ·rw [h, List.length_take]; omega
theorem past_len (c : UInt8) (l : List UInt8) : (past c l).length ≤ l.length:=by
 rcases place c l with ⟨_, _, _, h⟩ | ⟨_, i, _, _, _, h⟩
 ·rw [h]; simp
 ·rw [h, List.length_drop]; omega
def cutV (s : ByteArray) (c : UInt8) : Value:=.tuple #[.string (mk (upto c (bs s))), .string (mk (past c (bs s))), .bool (decide (c ∈ bs s))]
theorem ext_to (s : ByteArray) (i : Nat) : s.extract 0 i = mk ((bs s).take i):=by
 rw [← mk_bs (s.extract 0 i)]
 congr 1
 show (s.extract 0 i).data.toList = _
 rw [Lib.extract_data]
 simp
theorem ext_from (s : ByteArray) (i : Nat) : s.extract i s.size = mk ((bs s).drop i):=by
 rw [← mk_bs (s.extract i s.size)]
 congr 1
 exact Go.Lib.extract_to_end s i
set_option maxHeartbeats 1000000 in
theorem cut_any (s : ByteArray) (c : UInt8) (w : World) (hs : s.size ≤ 1000000000) :
  Calls Tryz.prog 135 #[.string s, .string ⟨#[c]⟩] w fun e w'=>e = .returned (cutV s c) ∧ Below w.heap.size w w':=by
 have C1 : Calls Tryz.prog 156 #[.string s, .string ⟨#[c]⟩] w fun e w'=>e = .returned (cutV s c) ∧ Below w.heap.size w w':=by
  have CI:=fun w=>Tryz.stringslite_Index_one s c w
  rcases place c (bs s) with ⟨h1, h2, h3, h4⟩ | ⟨h1, i, h2, h3, h4, h5⟩
  ·have HR:=Lib.hid (show cutV s c = .tuple #[.string s, .string ⟨#[]⟩, .bool false] by unfold cutV; rw [h3, h4, decide_eq_false h1])
   rw [show Lib.indexByte s.data.toList c = -1 from h2] at CI
   have HC:=Lib.hid CI
   clear CI h1 h2 h3 h4
   go_enter Tryz.func156, Tryz.ntmps156
   go_wp2_with fail
   refine (HC.out _).mono ?_
   rintro e w1 ⟨rfl, rfl⟩
   go_wp2_with fail
   go_ret3
   refine ⟨?_, Below.refl _ _⟩
   rw [HR.out]; rfl
  ·have hil : i < s.size:=h2
   have HR:=Lib.hid (show cutV s c = .tuple #[.string (s.extract 0 i), .string (s.extract (i + 1) s.size), .bool true] by unfold cutV; rw [h4, h5, decide_eq_true h1, ext_to, ext_from])
   rw [show Lib.indexByte s.data.toList c = i from h3] at CI
   have HC:=Lib.hid CI
   have h6 : (i : Int) + 1 ≤ s.size:=by omega
   have h7 : (i : Int) ≤ s.size:=by omega
   have h8 : (⟨#[c]⟩ : ByteArray).size = 1:=rfl
   clear CI h1 h2 h3 h4 h5
   go_enter Tryz.func156, Tryz.ntmps156
   go_wp2_with fail
   refine (HC.out _).mono ?_
   rintro e w1 ⟨rfl, rfl⟩
   go_wp2_with fail
   go_region
   all_goals
    go_wp2_with fail
    go_ret3
    refine ⟨?_, (Below.refl _ _).drew⟩
    rw [HR.out]; rfl
 unfold cutV at C1 ⊢
 generalize decide (c ∈ bs s) = t at C1 ⊢
 generalize mk (upto c (bs s)) = x at C1 ⊢
 generalize mk (past c (bs s)) = y at C1 ⊢
 have HC:=Lib.hid C1
 clear C1
 go_enter Tryz.func135, Tryz.ntmps135
 go_wp2_with fail
 refine HC.out.mono ?_
 rintro e w1 ⟨rfl, hb⟩
 go_wp2_with fail
 go_ret3
 exact ⟨rfl, hb⟩
theorem toList_bs (x : ByteArray) : x.toList = bs x:=ByteArray.toList_eq x
def parseV (l : List UInt8) : Value:=if isT l = true then .tuple #[cv (pT l) (pS l) (pR l), .int .i64 0] else .tuple #[cv 0 0 0, .int .i64 14]
set_option maxHeartbeats 2000000 in
theorem Parse_any (s : ByteArray) (hs : s.size ≤ 1000000000) (w : World) (hG : Glob w) : Calls Tryz.prog 106 #[.string s] w fun e w'=>e = .returned (parseV (bs s)) ∧ Below w.heap.size w w':=by
 have CC:=cut_any s 46
 have u1:=upto_len 46 (bs s)
 have u2:=past_len 46 (bs s)
 have u3:=upto_len 46 (past 46 (bs s))
 have u4:=past_len 46 (past 46 (bs s))
 have hsz : (bs s).length = s.size:=rfl
 have CD:=cut_any (mk (past 46 (bs s))) 46
 have N1:=number_any (mk (upto 46 (bs s))) (by rw [mk_size]; omega)
 have N2:=number_any (mk (upto 46 (past 46 (bs s)))) (by rw [mk_size]; omega)
 have N3:=number_any (mk (past 46 (past 46 (bs s)))) (by rw [mk_size]; omega)
 have z1 : (mk (past 46 (bs s))).size ≤ 1000000000:=by rw [mk_size]; omega
 unfold cutV at CC CD
 rw [bs_mk] at CD N1 N2 N3
 have e1 : rd (upto 46 (bs s)) = pT (bs s):=rfl
 have e2 : rd (upto 46 (past 46 (bs s))) = pS (bs s):=rfl
 have e3 : rd (past 46 (past 46 (bs s))) = pR (bs s):=rfl
 rw [e1] at N1
 rw [e2] at N2
 rw [e3] at N3
 have i1:=rd_int (upto 46 (bs s))
 have i2:=rd_int (upto 46 (past 46 (bs s)))
 have i3:=rd_int (past 46 (past 46 (bs s)))
 rw [e1] at i1
 rw [e2] at i2
 rw [e3] at i3
 have CI:=is_any (pT (bs s)) (pS (bs s)) (pR (bs s))
 have CT:=Text_any (pT (bs s)) (pS (bs s)) (pR (bs s)) i1 i2 i3
 obtain ⟨V, hV⟩ : ∃ V, V = parseV (bs s):=⟨_, rfl⟩
 rw [← hV]
 have hV2:=hV
 unfold parseV isT at hV2
 have hq : (decide (text (pT (bs s)) (pS (bs s)) (pR (bs s)) = bs s)) = ((mk (text (pT (bs s)) (pS (bs s)) (pR (bs s)))).toList == s.toList):=by
  rw [toList_bs, toList_bs, bs_mk]
  by_cases h9 : text (pT (bs s)) (pS (bs s)) (pR (bs s)) = bs s
  ·rw [decide_eq_true h9, h9, beq_self_eq_true]
  ·rw [decide_eq_false h9, beq_eq_false_iff_ne.2 h9]
 generalize mk (text (pT (bs s)) (pS (bs s)) (pR (bs s))) = ML at *
 generalize text (pT (bs s)) (pS (bs s)) (pR (bs s)) = L at *
 generalize isC (pT (bs s)) (pS (bs s)) (pR (bs s)) = I at *
 generalize pT (bs s) = t at *
 generalize pS (bs s) = c at *
 generalize pR (bs s) = r at *
 generalize mk (upto 46 (bs s)) = X1 at *
 generalize mk (upto 46 (past 46 (bs s))) = X2 at *
 generalize mk (past 46 (past 46 (bs s))) = X3 at *
 generalize mk (past 46 (bs s)) = X4 at *
 generalize decide ((46 : UInt8) ∈ bs s) = o1 at *
 generalize decide ((46 : UInt8) ∈ bs X4) = o2 at *
 obtain ⟨c1, c2⟩:=i2
 obtain ⟨r1, r2⟩:=i3
 clear u1 u2 u3 u4 e1 e2 e3 i1 hsz hV
 have CC:=Lib.hid (fun w=>CC w hs)
 have CD:=Lib.hid (fun w=>CD w z1)
 have N1:=Lib.hid N1
 have N2:=Lib.hid N2
 have N3:=Lib.hid N3
 have CI:=Lib.hid CI
 have CT:=Lib.hid CT
 have hV2:=Lib.hid hV2
 have hq:=Lib.hid hq
 have BR:=Blk.new w 23 (gc 0 0 0)
 have hb0:=(Below.refl w.heap.size w).alloc (Nat.le_refl _) (.cells (gc 0 0 0) 23)
 have G0:=hG.past hb0
 go_enter Tryz.func106, Tryz.ntmps106
 go_wp2_with fail
 refine (CC.out _).mono ?_
 rintro e w1 ⟨rfl, hb1⟩
 have hz0:=hb0.size
 have hc1:=hb0.trans (hb1.mono hz0)
 have BR1:=BR.past hb1
 have G1:=G0.past hb1
 have hz1:=hc1.size
 clear hb0 hb1 BR G0 hG hz0
 go_wp2_with fail
 refine (CD.out _).mono ?_
 rintro e w2 ⟨rfl, hb2⟩
 have hc2:=hc1.trans (hb2.mono hz1)
 have BR2:=BR1.past hb2
 have G2:=G1.past hb2
 have hz2:=hc2.size
 clear hc1 hb2 BR1 G1 hz1
 go_wp2_with fail
 refine (N1.out _ G2).mono ?_
 rintro e w3 ⟨rfl, hb3⟩
 have hc3:=hc2.trans (hb3.mono hz2)
 have BR3:=BR2.past hb3
 have G3:=G2.past hb3
 have hz3:=hc3.size
 clear hc2 hb3 BR2 G2 hz2
 go_wp2_with fail
 refine (N2.out _ G3).mono ?_
 rintro e w4 ⟨rfl, hb4⟩
 have hc4:=hc3.trans (hb4.mono hz3)
 have BR4:=BR3.past hb4
 have G4:=G3.past hb4
 have hz4:=hc4.size
 clear hc3 hb4 BR3 G3 hz3
 go_wp2_with fail
 refine (N3.out _ G4).mono ?_
 rintro e w5 ⟨rfl, hb5⟩
 have hc5:=hc4.trans (hb5.mono hz4)
 have BR5:=BR4.past hb5
 have G5:=G4.past hb5
 have hz5:=hc5.size
 clear hc4 hb5 BR4 G4 hz4
 have hVl : (I = false ∧ V = .tuple #[cv 0 0 0, .int .i64 14]) ∨ (I = true ∧ (ML.toList == s.toList) = false ∧ V = .tuple #[cv 0 0 0, .int .i64 14]) ∨ (I = true ∧ (ML.toList == s.toList) = true ∧ V = .tuple #[cv t c r, .int .i64 0]):=by
  have h1:=hV2.out
  rw [hq.out] at h1
  cases hI : I with
  | false=>exact Or.inl ⟨rfl, by rw [h1, hI]; rfl⟩
  | true=>cases hT : (ML.toList == s.toList) with
   | false=>exact Or.inr (Or.inl ⟨rfl, rfl, by rw [h1, hI, hT]; rfl⟩)
   | true=>exact Or.inr (Or.inr ⟨rfl, rfl, by rw [h1, hI, hT]; rfl⟩)
 clear hV2 hq
 rcases hVl with ⟨rfl, rfl⟩ | ⟨rfl, hT, rfl⟩ | ⟨rfl, hT, rfl⟩
 focus
  go_wp2_with fail
  refine (CI.out _).mono ?_
  rintro e w6 ⟨rfl, hb6⟩
  have hc6:=hc5.trans (((Below.refl _ _).alloc (Nat.le_refl _) _).trans (hb6.mono (by simp))|>.mono hz5)
  have BR6:=(BR5.alloc (.cells (gc t c r) 23)).past hb6
  have BC6:=(Blk.new w5 23 (gc t c r)).past hb6
  have G6:=(G5.past ((Below.refl _ _).alloc (Nat.le_refl _) (.cells (gc t c r) 23))).past hb6
  have hz6:=hc6.size
  have hlt:=BR5.lt
  have hne : w.heap.size ≠ w5.heap.size:=by omega
  have hne2 : w5.heap.size ≠ w.heap.size:=by omega
  obtain ⟨r0, r1, r2, s0, s1, s2⟩:=box BR6
  go_wp2_with fail
  refine bodyPost_ret (res_cn rfl _ _ w.heap.size 0 0 0 (.int .i64 14) rfl rfl (BR6.set3 0 0 0)) rfl ?_
  exact ⟨rfl, ((hc6.setCell (Nat.le_refl _) _).setCell (Nat.le_refl _) _).setCell (Nat.le_refl _) _⟩
 focus
  go_wp2_with fail
  refine (CI.out _).mono ?_
  rintro e w6 ⟨rfl, hb6⟩
  have hc6:=hc5.trans (((Below.refl _ _).alloc (Nat.le_refl _) _).trans (hb6.mono (by simp))|>.mono hz5)
  have BR6:=(BR5.alloc (.cells (gc t c r) 23)).past hb6
  have BC6:=(Blk.new w5 23 (gc t c r)).past hb6
  have G6:=(G5.past ((Below.refl _ _).alloc (Nat.le_refl _) (.cells (gc t c r) 23))).past hb6
  have hz6:=hc6.size
  have hlt:=BR5.lt
  have hne : w.heap.size ≠ w5.heap.size:=by omega
  have hne2 : w5.heap.size ≠ w.heap.size:=by omega
  obtain ⟨q0, q1, q2, p0, p1, p2⟩:=box BC6
  go_wp2_with fail
  refine (CT.out _ G6).mono ?_
  rintro e w7 ⟨rfl, hb7⟩
  have hc7:=hc6.trans (hb7.mono hz6)
  have BR7:=BR6.past hb7
  have BC7:=BC6.past hb7
  clear q0 q1 q2 p0 p1 p2
  obtain ⟨r0, r1, r2, s0, s1, s2⟩:=box BR7
  go_wp2_with fail
  refine bodyPost_ret (res_cn rfl _ _ w.heap.size 0 0 0 (.int .i64 14) rfl rfl (BR7.set3 0 0 0)) rfl ?_
  exact ⟨rfl, ((hc7.setCell (Nat.le_refl _) _).setCell (Nat.le_refl _) _).setCell (Nat.le_refl _) _⟩
 go_wp2_with fail
 refine (CI.out _).mono ?_
 rintro e w6 ⟨rfl, hb6⟩
 have hc6:=hc5.trans (((Below.refl _ _).alloc (Nat.le_refl _) _).trans (hb6.mono (by simp))|>.mono hz5)
 have BR6:=(BR5.alloc (.cells (gc t c r) 23)).past hb6
 have BC6:=(Blk.new w5 23 (gc t c r)).past hb6
 have G6:=(G5.past ((Below.refl _ _).alloc (Nat.le_refl _) (.cells (gc t c r) 23))).past hb6
 have hz6:=hc6.size
 have hlt:=BR5.lt
 have hne : w.heap.size ≠ w5.heap.size:=by omega
 have hne2 : w5.heap.size ≠ w.heap.size:=by omega
 obtain ⟨q0, q1, q2, p0, p1, p2⟩:=box BC6
 go_wp2_with fail
 refine (CT.out _ G6).mono ?_
 rintro e w7 ⟨rfl, hb7⟩
 have hc7:=hc6.trans (hb7.mono hz6)
 have BR7:=BR6.past hb7
 have BC7:=BC6.past hb7
 clear q0 q1 q2 p0 p1 p2
 obtain ⟨r0, r1, r2, s0, s1, s2⟩:=box BR7
 obtain ⟨q0, q1, q2, p0, p1, p2⟩:=box BC7
 go_wp2_with fail
 refine bodyPost_ret (res_cn rfl _ _ w.heap.size t c r (.int .i64 0) rfl rfl (BR7.set3 t c r)) rfl ?_
 exact ⟨rfl, ((hc7.setCell (Nat.le_refl _) _).setCell (Nat.le_refl _) _).setCell (Nat.le_refl _) _⟩
end Go.Proofs.YtbdpkfgllnbheaaGreatDoor.Cs
