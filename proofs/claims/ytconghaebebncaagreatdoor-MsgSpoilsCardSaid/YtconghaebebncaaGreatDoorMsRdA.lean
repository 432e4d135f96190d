/- An attribute, a change, read of an element. -/
import Derived.Test.YtconghaebebncaaGreatDoorG5
import Derived.Test.YtconghaebebncaaGreatDoorMsAttr
namespace Go.Proofs.YtconghaebebncaaGreatDoor.Ms
open Go.RowKit
set_option linter.unusedVariables false
set_option maxRecDepth 100000

/-- The box of what is read, that of what is told (so many cells), what lay there before. -/
def Fd (w0 : World) (g : Nat) (cs : Array Value) (r : Nat) (t : TypeId) (n : Nat) (w : World) : Prop := Blk w g 57 cs ∧ (∃ ds, ds.size = n ∧ Blk w r t ds) ∧ Below w0.heap.size w0 w
theorem Fd.past {w0 w w' : World} {g r n : Nat} {t : TypeId} {cs : Array Value} (h : Fd w0 g cs r t n w) (hb : Below w.heap.size w w') : Fd w0 g cs r t n w' := by
  obtain ⟨h1, ⟨ds, h0, h2⟩, h3⟩ := h
  exact ⟨h1.past hb, ⟨ds, h0, h2.past hb⟩, h3.trans (hb.mono h3.size)⟩
theorem Fd.drew {w0 w : World} {g r n : Nat} {t : TypeId} {cs : Array Value} (h : Fd w0 g cs r t n w) : Fd w0 g cs r t n w.drew := h.past (Below.refl _ _).drew
theorem Fd.new (w : World) (cs ds : Array Value) (t : TypeId) : Fd w w.heap.size cs (w.heap.size + 1) t ds.size ((w.alloc (.cells cs 57)).alloc (.cells ds t)) :=
  ⟨(Blk.new w _ _).alloc _, ⟨ds, rfl, new2 w cs ds _ t⟩, two_below w cs ds _ t⟩
theorem Fd.row {w0 w : World} {g r n : Nat} {t : TypeId} {cs : Array Value} (h : Fd w0 g cs r t n w) (hne : g ≠ r) (hg : w0.heap.size ≤ r) (ds : Array Value) (hn : ds.size = n) : Fd w0 g cs r t n (w.setRow r ds) := by
  obtain ⟨h1, ⟨ds', h0, h2⟩, h3⟩ := h
  exact ⟨(setRow_other w r g _ hne).trans h1, ⟨ds, hn, setRow_heap w r _ _ _ _ h2⟩, below_setRow h3 hg _⟩
theorem Fd.cell {w0 w : World} {g r n : Nat} {t : TypeId} {cs : Array Value} (h : Fd w0 g cs r t n w) (hne : g ≠ r) (hg : w0.heap.size ≤ r) (k : Nat) (v : Value) : Fd w0 g cs r t n (w.setCell ⟨r, k, none⟩ v) := by
  obtain ⟨h1, ⟨ds', h0, h2⟩, h3⟩ := h
  exact ⟨h1.far (p := ⟨r, k, none⟩) hne v, ⟨_, by rw [Array.size_setIfInBounds]; exact h0, h2.set_ k v⟩, h3.setCell hg _⟩
/-- What is told is stored whole. -/
theorem run_storeRow {w0 w : World} {g r n : Nat} {t : TypeId} {cs ds : Array Value} {ev : Operand → Value} {o : Oper} {p q : Operand} (h : Fd w0 g cs r t n w) (hn : ds.size = n) (hi : (Tryz.prog.info? t).map (·.size) = some n) (h1 : ds.all (·.oneCell') = true)
    (ho : o.op = .store t p q) (hp : ev p = .pointer (some ⟨r, 0, none⟩)) (hq : ev q = .agg ds) : (execOp ev o).run Tryz.prog w = .ok .skip (w.setRow r ds) := by
  obtain ⟨_, ⟨ds', h0, h2⟩, _⟩ := h
  unfold execOp
  simp only [ho, hp, hq, Instr.storeAt, Instr.sureAddr, Sem.run_bind, Sem.run_pure, Result.andThen_ok, run_storeVar_row w r _ t ds' ds h2 (by rw [hi, hn]) (by rw [h0, hn]) h1]
/-- A Mod, made anew. -/
def NewMo (w : World) (d : Mo) (r : Ending) (w' : World) : Prop :=
  ∃ (V : Option Addr) (vc : Nat), r = .returned (.agg #[.int .i64 d.kind, .string d.attr, .slice V d.vals.length vc]) ∧ Below w.heap.size w w' ∧ MoAt w' (fun b => w.heap.size ≤ b ∧ b < w'.heap.size) d [.int .i64 d.kind, .string d.attr, .slice V d.vals.length vc]
theorem few_bodies {e : Be.El} (h : Few e) : ((kidsE e).map bodyE).length ≤ maxLen ∧ ∀ s ∈ (kidsE e).map bodyE, s.size ≤ maxLen := by
  obtain ⟨t, b, ks⟩ := e
  have h0 := h.open_
  refine ⟨by rw [List.length_map]; show ks.length ≤ _; unfold maxLen; omega, fun s hs => ?_⟩
  obtain ⟨k, hk, rfl⟩ := List.mem_map.1 hs
  have := (h0.2.2 k hk).body
  unfold maxLen
  omega
set_option maxHeartbeats 4000000 in
theorem readAttr_any (e : Be.El) (t : Nat) (b : ByteArray) (A : Option Addr) (n c : Nat) (w : World) (hfew : Few e) (hL : Be.Lies w (· < w.heap.size) e [.int .u8 (t : Nat), .string b, .slice A n c]) :
    Calls Tryz.prog 100 #[.agg #[.int .u8 (t : Nat), .string b, .slice A n c]] w (NewMo w (rdAttr e)) := by
  have hf1 := hfew.kid 1
  have hz := few_bodies hf1
  have ht := hfew.text 0
  have F0 := Fd.new w #[.int .u8 (t : Nat), .string b, .slice A n c] #[.int .i64 0, .string ⟨#[]⟩, .slice none 0 0] 48
  go_enter Tryz.func100, Tryz.ntmps100
  go_wp2_with fail
  refine wp_region_noPanic ?_
  refine wp_region_held_drew (S := Fd w w.heap.size #[.int .u8 (t : Nat), .string b, .slice A n c] (w.heap.size + 1) 48 3) (by kernel_rfl) F0.drew (fun hH0 => ?_)
  refine Rg.take 0 (.agg #[.int .u8 (t : Nat), .string b, .slice A n c]) rfl (by kernel_rfl) (by kernel_rfl) (by kernel_rfl) (fun _ _ _ h => h) (by kernel_rfl) (fun w' h => run_loadRow rfl rfl h.1 Tryz.underlying57 rfl infoE3) hH0 ?_
  refine Rg.take 2 (.agg #[.int .u8 (t : Nat), .string b, .slice A n c]) rfl (by kernel_rfl) (by kernel_rfl) (by kernel_rfl) (fun _ _ _ h => h) (by kernel_rfl) (fun w' h => run_loadRow rfl rfl h.1 Tryz.underlying57 rfl infoE3) hH0 ?_
  refine Rg.call 1 rfl (by kernel_rfl) (by kernel_rfl) 94 #[.agg #[.int .u8 (t : Nat), .string b, .slice A n c], .int .i64 0] (by kernel_rfl) (textAt_any e 0 t b A n c _ (hL.past hH0.2.2)) ?_
  rintro _ w1 ⟨rfl, hb1⟩
  have hH1 := hH0.past hb1
  refine ⟨_, rfl, hH1, ?_⟩
  refine Rg.frame ⟨#[.agg #[.int .u8 (t : Nat), .string b, .slice A n c], pt w.heap.size 0, pt (w.heap.size + 1) 0, .agg #[.int .u8 (t : Nat), .string b, .slice A n c], .string (textAt e 0), .agg #[.int .u8 (t : Nat), .string b, .slice A n c], ud, ud, ud], []⟩ (by kernel_rfl) ?_
  refine Rg.call 3 rfl (by kernel_rfl) (by kernel_rfl) 91 #[.agg #[.int .u8 (t : Nat), .string b, .slice A n c], .int .i64 1] (by kernel_rfl) (kid_any e 1 t b A n c _ (hL.past hH1.2.2)) ?_
  rintro _ w2 ⟨t1, b1, A1, n1, c1, rfl, hb2, hL1⟩
  have hH2 := hH1.past hb2
  refine ⟨_, rfl, hH2, ?_⟩
  refine Rg.call 4 rfl (by kernel_rfl) (by kernel_rfl) 96 #[.agg #[.int .u8 (t1 : Nat), .string b1, .slice A1 n1 c1], .func (.func 97) #[] #[]] (by kernel_rfl) (eachB_any (kidE e 1) t1 b1 A1 n1 c1 _ hf1 (hL1.past hb2)) ?_
  rintro _ w3 ⟨V, vc, rfl, hb3, hvc, hV⟩
  have hH3 := hH2.past hb3
  refine ⟨_, rfl, hH3, ?_⟩
  refine Rg.take 5 (.agg #[.int .i64 1, .string (textAt e 0), .slice V ((kidsE (kidE e 1)).map bodyE).length vc]) rfl (by kernel_rfl) (by kernel_rfl) (by kernel_rfl) (fun _ _ _ h => h) (by kernel_rfl) (fun _ _ => by kernel_rfl) hH3 ?_
  refine Rg.frame ⟨#[.agg #[.int .u8 (t : Nat), .string b, .slice A n c], pt w.heap.size 0, pt (w.heap.size + 1) 0, .agg #[.int .u8 (t : Nat), .string b, .slice A n c], .string (textAt e 0), .agg #[.int .u8 (t : Nat), .string b, .slice A n c], .agg #[.int .u8 (t1 : Nat), .string b1, .slice A1 n1 c1], .slice V ((kidsE (kidE e 1)).map bodyE).length vc, .agg #[.int .i64 1, .string (textAt e 0), .slice V ((kidsE (kidE e 1)).map bodyE).length vc]], []⟩ (by kernel_rfl) ?_
  have hH4 := hH3.row (by omega) (by omega) #[.int .i64 1, .string (textAt e 0), .slice V ((kidsE (kidE e 1)).map bodyE).length vc] rfl
  refine Rg.skip 6 rfl (by kernel_rfl) (by kernel_rfl) _ (run_storeRow (ds := #[.int .i64 1, .string (textAt e 0), .slice V ((kidsE (kidE e 1)).map bodyE).length vc]) hH3 rfl infoO3 (by simp [Value.oneCell']) rfl rfl rfl) hH4 ?_
  refine Rg.frame { tmps := #[.agg #[.int .u8 (t : Nat), .string b, .slice A n c], .pointer (some ⟨w.heap.size, 0, none⟩), .pointer (some ⟨w.heap.size + 1, 0, none⟩), .agg #[.int .u8 (t : Nat), .string b, .slice A n c], .string (textAt e 0), .agg #[.int .u8 (t : Nat), .string b, .slice A n c], .agg #[.int .u8 (t1 : Nat), .string b1, .slice A1 n1 c1], .slice V ((kidsE (kidE e 1)).map bodyE).length vc, .agg #[.int .i64 1, .string (textAt e 0), .slice V ((kidsE (kidE e 1)).map bodyE).length vc]], defers := [] } (by kernel_rfl) ?_
  refine wpAnyH_done (by kernel_rfl) ?_ _
  refine NoPanic.normal ?_
  go_wp2_with fail
  obtain ⟨_, ⟨ds, _, hB2⟩, _⟩ := hH3
  refine bodyPost_ret (results_cell_row rfl _ _ (w.heap.size + 1) _ _ (0, 0) _ rfl (setRow_heap _ _ _ _ _ _ hB2) Tryz.underlying48 rfl infoO3) rfl ⟨V, vc, rfl, hH4.2.2, V, vc, rfl, by unfold maxLen; show (textAt e 0).size ≤ _; omega, hz.1, hvc, hV.imp (fun b hb => ?_) (fun p hp => cell_setRow_other _ _ _ _ ?_), hz.2⟩
  · have h1 := hH2.2.2.size
    rw [setRow_size]
    exact ⟨by omega, hb.2⟩
  · obtain ⟨_, ⟨_, _, hB⟩, _⟩ := hH2
    have := hB.lt
    have := hp.1
    omega
end Go.Proofs.YtconghaebebncaaGreatDoor.Ms
