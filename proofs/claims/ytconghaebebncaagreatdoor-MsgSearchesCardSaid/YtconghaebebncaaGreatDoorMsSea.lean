/- Searches by hand: plain facts. -/
import Derived.Test.YtconghaebebncaaGreatDoorMsLaw
namespace Go.Proofs.YtconghaebebncaaGreatDoor.Ms
open Be
set_option linter.unusedVariables false
set_option maxRecDepth 100000

abbrev cnB : ByteArray := ⟨#[99, 110]⟩
def leafF (v : ByteArray) : Fil := .mk 4 cnB v [] []
def seaF (v : ByteArray) : Fil := .mk 3 no no [] [leafF v]
def seaM (base : ByteArray) (scope size : Int) (v : ByteArray) (wants : List ByteArray) : Mg := { zero with id := 7, op := 3, dn := base, scope := scope, size := size, fil := seaF v, wants := wants }
theorem seaF_is {v : ByteArray} (hv : v.size ≤ 60) : Fi.isF (seaF v) = true := by
  have h1 : Fi.frm (leafF v) = (decide (v.size ≤ 60) && true) := rfl
  have h2 : Fi.isF (seaF v) = (true && (true && (true && (true && (true && (Fi.frm (leafF v) && true)))))) := rfl
  rw [h2, h1, decide_eq_true hv]
  rfl
theorem sea_is {base : ByteArray} {scope size : Int} {v : ByteArray} {wants : List ByteArray} (hb : base.size ≤ 400) (s0 : 0 ≤ scope) (s1 : scope ≤ 2) (z0 : 0 ≤ size) (z1 : size ≤ 65535) (hv : v.size ≤ 60) (hw : wants.length ≤ 12) (hws : ∀ s ∈ wants, s.size ≤ 100) :
    isM (seaM base scope size v wants) = true := by
  have hf : foreign (seaM base scope size v wants) = zero := rfl
  have hfo : formed (seaM base scope size v wants) = (within scope 0 2 && (within size 0 2147483647 && (Fi.isF (seaF v) && isList wants))) := rfl
  have ht : areShort (textsM (seaM base scope size v wants)) = true := by
    rw [short_open]
    intro x hx
    simp only [textsM, seaM, zero, List.mem_cons, List.not_mem_nil, or_false] at hx
    rcases hx with rfl | rfl | rfl | rfl | rfl | rfl | rfl <;> first | exact hb | decide
  have hl : isList wants = true := list_open.2 ⟨hw, fun s hs => by have := hws s hs; omega⟩
  unfold isM
  rw [hf, eqM_self, hfo, ht, hl, seaF_is hv]
  have h5 : within (seaM base scope size v wants).id 0 2147483647 = true := within_open.2 ⟨by show (0 : Int) ≤ 7; decide, by show (7 : Int) ≤ _; decide⟩
  rw [h5, within_open.2 ⟨s0, s1⟩, within_open.2 ⟨z0, by omega⟩]
  rfl
theorem deps_txt (t : Nat) : ∀ l : List ByteArray, deps (l.map (txt t)) ≤ 1
  | [] => by simp [deps]
  | s :: r => by
    have h := deps_txt t r
    have h2 : dep (txt t s) = 1 := rfl
    rw [List.map_cons, deps, h2]
    omega
theorem sea_len {base : ByteArray} {scope size : Int} {v : ByteArray} {wants : List ByteArray} (hb : base.size ≤ 400) (s0 : 0 ≤ scope) (s1 : scope ≤ 2) (z0 : 0 ≤ size) (z1 : size ≤ 65535) (hv : v.size ≤ 60) (hw : wants.length ≤ 12) (hws : ∀ s ∈ wants, s.size ≤ 100) :
    (enc (msgEl (seaM base scope size v wants))).length ≤ 4000 := by
  have e : msgEl (seaM base scope size v wants) = lst 48 [num 2 7, lst 99 [txt 4 base, num 10 scope, num 10 0, num 2 size, num 2 0, flg false, lst 162 [lst 163 [txt 4 cnB, txt 4 v]], lst 48 (wants.map (txt 4))]] := rfl
  rw [e]
  have l0 := len_lst 48 [num 2 7, lst 99 [txt 4 base, num 10 scope, num 10 0, num 2 size, num 2 0, flg false, lst 162 [lst 163 [txt 4 cnB, txt 4 v]], lst 48 (wants.map (txt 4))]]
  have l1 := len_lst 99 [txt 4 base, num 10 scope, num 10 0, num 2 size, num 2 0, flg false, lst 162 [lst 163 [txt 4 cnB, txt 4 v]], lst 48 (wants.map (txt 4))]
  have l2 := len_lst 162 [lst 163 [txt 4 cnB, txt 4 v]]
  have l3 := len_lst 163 [txt 4 cnB, txt 4 v]
  have l4 := len_lst 48 (wants.map (txt 4))
  have n1 := len_num 2 7 (by omega) (by omega)
  have n2 := len_num 10 scope (by omega) (by omega)
  have n3 := len_num 10 0 (by omega) (by omega)
  have n4 := len_num 2 size (by omega) (by omega)
  have n5 := len_num 2 0 (by omega) (by omega)
  have t1 := len_txt 4 base
  have t2 := len_txt 4 cnB
  have t3 := len_txt 4 v
  have f1 := (flg_good (d := 0) false).2
  have c1 : cnB.size = 2 := rfl
  have hall := encs_all 104 (wants.map (txt 4)) (fun k hk => by
    obtain ⟨s, hs, rfl⟩ := List.mem_map.1 hk
    have := hws s hs
    have := len_txt 4 s
    omega)
  rw [List.length_map] at hall
  have h12 : 104 * wants.length ≤ 104 * 12 := Nat.mul_le_mul_left _ hw
  simp only [encs, List.length_append, List.length_nil] at l0 l1 l2 l3
  omega
theorem sea_enc {base : ByteArray} {scope size : Int} {v : ByteArray} {wants : List ByteArray} (hb : base.size ≤ 400) (s0 : 0 ≤ scope) (s1 : scope ≤ 2) (z0 : 0 ≤ size) (z1 : size ≤ 65535) (hv : v.size ≤ 60) (hw : wants.length ≤ 12) (hws : ∀ s ∈ wants, s.size ≤ 100) :
    encM (seaM base scope size v wants) = (enc (msgEl (seaM base scope size v wants)), 0) :=
  enc_small (sea_is hb s0 s1 z0 z1 hv hw hws) (sea_len hb s0 s1 z0 z1 hv hw hws) (by
    have h := deps_txt 4 wants
    have e : dep (msgEl (seaM base scope size v wants)) = max 1 (max (max 1 (max 1 (max 1 (max 1 (max 1 (max 1 (max 3 (max (deps (wants.map (txt 4)) + 1) 0))))))) + 1) 0) + 1 := rfl
    rw [e]
    omega)
/-- A search's cells, out of its filter's and its Wants'. -/
theorem sea_cells (base : ByteArray) (scope size : Int) (v : ByteArray) (wants : List ByteArray) (A : Option Addr) (c : Nat) (g : Nat) (hb : base.size ≤ maxLen) (hv : v.size ≤ maxLen) (hl : wants.length ≤ maxLen) (hc : wants.length ≤ c) (hs : ∀ s ∈ wants, s.size ≤ maxLen) : ∃ cs : Array Value,
    cs = #[.int .i64 7, .int .i64 3, .int .i64 0, .string base, .int .i64 0, .string ⟨#[]⟩, .int .i64 scope, .int .i64 size, .int .i64 3, .string ⟨#[]⟩, .string ⟨#[]⟩, .slice none 0 0, .slice (some ⟨g, 0, none⟩) 1 1, .slice A wants.length c, .slice none 0 0, .string ⟨#[]⟩, .bool false, .bool false, .string ⟨#[]⟩, .string ⟨#[]⟩, .string ⟨#[]⟩, .int .i64 0, .string ⟨#[]⟩] ∧
    ∀ (w : World), Fi.Lies w (· < w.heap.size) (seaF v) [.int .i64 3, .string ⟨#[]⟩, .string ⟨#[]⟩, .slice none 0 0, .slice (some ⟨g, 0, none⟩) 1 1] → Fi.StrsAt w (· < w.heap.size) A wants → MAt w (· < w.heap.size) (seaM base scope size v wants) cs :=
  ⟨_, rfl, fun w hF hA => ⟨_, _, _, _, _, A, c, none, 0, fun _ => [], rfl, hF, ⟨hA, hl, hc, hs⟩, ⟨MosAt.nil _ _ _ _, by simp [seaM, zero], by simp [seaM, zero]⟩,
    by refine ⟨?_, ?_, ?_, ?_, ?_, ?_, ?_⟩ <;> first | exact hb | exact Nat.zero_le _⟩⟩
/-- The filter, its inner one in a block of its own. -/
theorem sea_fil {w : World} {g : Nat} {v : ByteArray} (hv : v.size ≤ maxLen) (B : Blk w g 25 #[.int .i64 4, .string cnB, .string v, .slice none 0 0, .slice none 0 0]) :
    Fi.Lies w (· < w.heap.size) (seaF v) [.int .i64 3, .string ⟨#[]⟩, .string ⟨#[]⟩, .slice none 0 0, .slice (some ⟨g, 0, none⟩) 1 1] := by
  have hleaf : Fi.Lies w (· < w.heap.size) (leafF v) [.int .i64 4, .string cnB, .string v, .slice none 0 0, .slice none 0 0] :=
    Fi.Lies.shut (ks := []) (ss := []) (S := none) (sc := 0) (A := none) (c := 0) (ds := fun _ => []) (by decide) hv (by simp) (by simp) (Fi.StrsAt.nil _ _ _) (by simp) (by simp) (by simp) (Fi.KidsAt.nil _ _ _ _)
  refine Fi.Lies.shut (ks := [leafF v]) (ss := []) (S := none) (sc := 0) (A := some ⟨g, 0, none⟩) (c := 1) (ds := fun _ => [.int .i64 4, .string cnB, .string v, .slice none 0 0, .slice none 0 0]) (by decide) (by decide) (by simp) (by simp) (Fi.StrsAt.nil _ _ _) (by simp) (by simp [maxLen]) (by simp) ?_
  refine ⟨fun i hi => rfl, fun h0 => ⟨_, rfl, B.lt, fun i hi j u hu => ?_⟩, fun i hi => ?_⟩
  · obtain rfl : i = 0 := by simpa using hi
    rw [Nat.zero_mul, Nat.zero_add]
    have h2 := B.cell j
    rw [show (⟨g, 0, none⟩ : Addr).add j = ⟨g, j, none⟩ by unfold Addr.add; split <;> simp_all]
    rw [h2, ← hu]
    simp
  · obtain rfl : i = 0 := by simpa using hi
    exact hleaf
end Go.Proofs.YtconghaebebncaaGreatDoor.Ms
