/- What several texts share: rows of bytes made strings; the answers of Write. -/
import Derived.Test.YtconghaebebncaaGreatDoorHead
import Derived.Test.YtconghaebebncaaGreatDoorG1
import Derived.Deep.LoopGhost
import Derived.Laws.BytesArg
import Derived.Laws.Externs
import Derived.Lib.AppendStr
import Derived.Lib.Builder
import Derived.Lib.Hide
namespace Go.Proofs.YtconghaebebncaaGreatDoor.Be
open Go.RowKit
set_option linter.unusedVariables false
set_option maxRecDepth 100000

/-- A row of bytes that the call owns, made a string. -/
theorem conv_own (w : World) (base : Nat) (v : Value) (n : Nat) (xs : List Int) (h : w.ownsRow base 5 1 v n (xs.map (Value.int .u8))) (hn : n = xs.length) :
    (convert 40 9 v).run Tryz.prog w = .ok (.string (strOfNums xs)) w := by
  subst hn
  rcases h.2 with ⟨rfl, h0⟩ | ⟨g, cap, cur, rfl, hg, hh, hc, hm, hs, ht⟩
  · have : xs = [] := List.eq_nil_of_length_eq_zero h0
    subst this
    exact run_convert_bytes_nil (P := Tryz.prog) w 40 5 Tryz.underlying40 Tryz.underlying5 0 0 9 Tryz.underlying9
  · refine run_convert_bytes_arg (P := Tryz.prog) w 40 5 Tryz.underlying40 Tryz.underlying5 g 0 xs.length cap xs rfl (fun i hi => ?_) 9 Tryz.underlying9
    rw [Nat.zero_add, cell_of_row w g i cur _ _ hh]
    have h1 : (cur.toList.take (xs.length * 1))[i]? = some (.int .u8 (xs.getD i 0)) := by
      rw [ht, List.getElem?_map, List.getElem?_eq_getElem hi]
      simp [List.getD, List.getElem?_eq_getElem hi]
    rw [List.getElem?_take_of_lt (by omega)] at h1
    simpa using h1
theorem own_lit (w : World) (xs : List Int) (h : xs.length ≤ 1000) : (w.alloc (.cells (xs.map (Value.int .u8)).toArray 5)).ownsRow w.heap.size 5 1 (.slice (some ⟨w.heap.size, 0, none⟩) xs.length xs.length) xs.length (xs.map (Value.int .u8)) :=
  ⟨by simp, Or.inr ⟨w.heap.size, xs.length, (xs.map (Value.int .u8)).toArray, rfl, Nat.le_refl _, heap_alloc_new w _, Nat.le_refl _, by unfold maxLen; omega, by simp, List.take_of_length_le (by simp)⟩⟩
theorem conv_lit (w : World) (xs : List Int) (h : xs.length ≤ 1000) : (convert 40 9 (.slice (some ⟨w.heap.size, 0, none⟩) xs.length xs.length)).run Tryz.prog (w.alloc (.cells (xs.map (Value.int .u8)).toArray 5)) =
    .ok (.string (strOfNums xs)) (w.alloc (.cells (xs.map (Value.int .u8)).toArray 5)) := conv_own _ _ _ _ _ (own_lit w xs h) rfl
theorem size_list (b : ByteArray) (l : List UInt8) (h : b.data.toList = l) : b.size = l.length := by rw [← h]; rfl
theorem isCons_eq (t : Nat) (h : t ≤ 255) : (bits .and .u8 (t : Int) 32 != 0) = decide (t / 32 % 2 = 1) := by
  have h1 : bits .and .u8 (t : Int) 32 = ((t &&& 32 : Nat) : Int) := u8_and_nat t 32 (by omega) (by omega)
  have h2 : t &&& 32 = t / 32 % 2 * 32 := nat_bit 5 t
  rw [h1, h2, Bool.eq_iff_iff]
  simp
  omega
theorem and32_eq0 (t : Nat) (h : t ≤ 255) (h0 : t / 32 % 2 = 0) : (bits .and .u8 (t : Int) 32 == 0) = true := by
  have := isCons_eq t h
  rw [h0] at this
  simpa using this
theorem and32_ne0 (t : Nat) (h : t ≤ 255) (h0 : t / 32 % 2 = 1) : (bits .and .u8 (t : Int) 32 == 0) = false := by
  have := isCons_eq t h
  rw [h0] at this
  simpa using this
def errV (e : El) : Nat := if formed e = false then 14 else if 20 < dep e then 12 else if 4000 < bodyLen e then 13 else 0
theorem wr_err (e : El) : (wr e).2 = errV e := by
  unfold wr errV
  split
  · rfl
  · split
    · rfl
    · split <;> rfl
theorem wr_bytes (e : El) : (wr e).1 = if errV e = 0 then enc e else [] := by
  unfold wr errV
  split
  · simp
  · split
    · simp
    · split <;> simp
/-- What Write answers, as a value. -/
def wrV (e : El) : Value := .tuple #[.string ⟨(wr e).1.toArray⟩, .int .i64 (wr e).2]
theorem own_past {w w' : World} {base : Nat} {e : TypeId} {size : Nat} {v : Value} {n : Nat} {xs : List Value} (h : w.ownsRow base e size v n xs) (hb : Below w.heap.size w w') : w'.ownsRow base e size v n xs := by
  obtain ⟨h1, h2⟩ := h
  refine ⟨h1, ?_⟩
  rcases h2 with h2 | ⟨g, cap, cur, hv, hg, hh, r⟩
  · exact Or.inl h2
  · have hlt : g < w.heap.size := by
      rcases Nat.lt_or_ge g w.heap.size with h' | h'
      · exact h'
      · simp [Array.getElem?_eq_none h'] at hh
    exact Or.inr ⟨g, cap, cur, hv, hg, (hb.block g hlt).trans hh, r⟩
theorem own_alloc {w : World} {base : Nat} {e : TypeId} {size : Nat} {v : Value} {n : Nat} {xs : List Value} (h : w.ownsRow base e size v n xs) (o : Obj) : (w.alloc o).ownsRow base e size v n xs := own_past h ((Below.refl _ _).alloc (Nat.le_refl _) o)
theorem Lies.head {w : World} {P : Nat → Prop} {e : El} {t : Nat} {b : ByteArray} {z : Value} (h : Lies w P e [.int .u8 t, .string b, z]) : t ≤ 255 ∧ b.size ≤ maxLen := by
  obtain ⟨t', b', ks⟩ := e
  obtain ⟨A, c, ds, hcs, ht, hb, _, _⟩ := h.open_
  simp only [List.cons.injEq, Value.int.injEq, Value.string.injEq, true_and] at hcs
  obtain ⟨h1, h2, _⟩ := hcs
  have : t = t' := by omega
  subst this h2
  exact ⟨ht, hb⟩
end Go.Proofs.YtconghaebebncaaGreatDoor.Be
