import Derived.Test.YtpnlalfdgngcdaaDoorZA17
import Derived.Test.YtpnlalfdgngcdaaDoorZA10
set_option linter.unusedVariables false
set_option maxRecDepth 100000
namespace Go.Proofs.YtpnlalfdgngcdaaDoor
open Go.RowKit
theorem index_eq (l : List UInt8) : Lib.indexByte l 61 = match Nm.eqAt l with
  | none=>-1
  | some i=>(i : Int):=by
 induction l with
 | nil=>rfl
 | cons c r ih =>
  rw [Lib.indexByte, Nm.eqAt]
  by_cases hc : c = 61
  ·rw [if_pos (by rw [hc]; rfl), if_pos hc]; rfl
  ·rw [if_neg (by rw [beq_iff_eq]; exact hc), if_neg hc, ih]
   cases Nm.eqAt r with
   | none=>rfl
   | some i =>
    simp only [Option.map_some]
    rw [if_neg (by rw [beq_iff_eq]; omega)]
    show (i : Int) + 1 = ((i + 1 : Nat) : Int)
    omega
theorem eqAt_lt {l : List UInt8} {i : Nat} (h : Nm.eqAt l = some i) : i < l.length:=by
 induction l generalizing i with
 | nil=>cases h
 | cons c r ih =>
  rw [Nm.eqAt] at h
  split at h
  ·injection h with h; simp; omega
  ·cases hr : Nm.eqAt r with
   | none=>rw [hr] at h; cases h
   | some j =>
    rw [hr] at h
    simp only [Option.map_some, Option.some.injEq] at h
    have:=ih hr
    simp; omega
def eqV (s : ByteArray) : Value:=match Nm.eqAt (Nm.bs s) with
 | none=>.tuple #[.string s, .string ⟨#[]⟩, .bool false]
 | some i=>.tuple #[.string (s.extract 0 i), .string (s.extract (i + 1) s.size), .bool true]
set_option maxHeartbeats 1000000 in
theorem scut_any (s : ByteArray) (w : World) (hs : s.size ≤ 1000000000) :
  Calls Tryd.prog 88 #[.string s, .string ⟨#[61]⟩] w fun e w'=>e = .returned (eqV s) ∧ Below w.heap.size w w':=by
 have CI:=fun w=>Tryd.stringslite_Index_one s 61 w
 have hi:=index_eq s.data.toList
 cases he : Nm.eqAt (Nm.bs s) with
 | none =>
  have HR:=Lib.hid (show eqV s = .tuple #[.string s, .string ⟨#[]⟩, .bool false] by unfold eqV; rw [he])
  rw [show Nm.eqAt s.data.toList = none from he] at hi
  rw [hi] at CI
  have HC:=Lib.hid CI
  clear CI hi he
  go_enter Tryd.func88, Tryd.ntmps88
  go_wp2_with fail
  refine (HC.out _).mono ?_
  rintro e w1 ⟨rfl, rfl⟩
  go_wp2_with fail
  go_ret3
  refine ⟨?_, Below.refl _ _⟩
  rw [HR.out]; rfl
 | some i =>
  have hil : i < s.size:=eqAt_lt he
  have HR:=Lib.hid (show eqV s = .tuple #[.string (s.extract 0 i), .string (s.extract (i + 1) s.size), .bool true] by unfold eqV; rw [he])
  rw [show Nm.eqAt s.data.toList = some i from he] at hi
  rw [hi] at CI
  have HC:=Lib.hid CI
  have h1 : (i : Int) + 1 ≤ s.size:=by omega
  have h2 : (i : Int) ≤ s.size:=by omega
  clear CI hi he
  go_enter Tryd.func88, Tryd.ntmps88
  go_wp2_with fail
  refine (HC.out _).mono ?_
  rintro e w1 ⟨rfl, rfl⟩
  go_wp2_with fail
  go_region
  all_goals
   go_wp2_with fail
   go_ret3
   refine ⟨?_, (Below.refl _ _).drew⟩
   rw [HR.out]; rfl
set_option maxHeartbeats 1000000 in
theorem strcut_any (s : ByteArray) (w : World) (hs : s.size ≤ 1000000000) :
  Calls Tryd.prog 77 #[.string s, .string ⟨#[61]⟩] w fun e w'=>e = .returned (eqV s) ∧ Below w.heap.size w w':=by
 have CI:=fun w=>scut_any s w hs
 obtain ⟨a, b, c, hp⟩ : ∃ a b c, eqV s = .tuple #[.string a, .string b, .bool c]:=by
  unfold eqV
  cases Nm.eqAt (Nm.bs s) with
  | none=>exact ⟨_, _, _, rfl⟩
  | some i=>exact ⟨_, _, _, rfl⟩
 rw [hp] at CI ⊢
 have HC:=Lib.hid CI
 clear CI hp
 go_enter Tryd.func77, Tryd.ntmps77
 go_wp2_with fail
 refine (HC.out _).mono ?_
 rintro e w1 ⟨rfl, hb⟩
 go_wp2_with fail
 go_ret3
 exact ⟨rfl, hb⟩
def dnAva (l : List UInt8) : Option Nm.Ava:=match Nm.eqAt l with
 | none=>some (Nm.mk (Nm.lower l), ⟨#[]⟩)
 | some i=>match valR (l.drop (i + 1)) with
  | none=>none
  | some v=>some (Nm.mk (Nm.lower (l.take i)), Nm.mk v)
def dnAttr (l : List UInt8) : ByteArray:=match Nm.eqAt l with
 | none=>Nm.mk (Nm.lower l)
 | some i=>Nm.mk (Nm.lower (l.take i))
def avaV (l : List UInt8) : Value:=match dnAva l with
 | none=>.tuple #[.agg #[.string (dnAttr l), .string ⟨#[]⟩], .bool false]
 | some a=>.tuple #[.agg #[.string a.1, .string a.2], .bool true]
theorem Blk.set2 {w : World} {g : Nat} {t : TypeId} {x y x' y' : Value} (h : Blk w g t #[x, y]) : Blk ((w.setCell ⟨g, 0, none⟩ x').setCell ⟨g, 1, none⟩ y') g t #[x', y']:=(h.set_ 0 x').set_ 1 y'
theorem res_ava (W : World) (g : Nat) (x y n : Value) (tmps : Array Value) (h6 : tmps.getD 2 undef = .pointer (some ⟨g, 0, none⟩)) (h7 : tmps.getD 3 undef = n)
  (B : Blk W g 83 #[x, y]) : (results Tryd.f67 tmps).run Tryd.prog W = .ok (.tuple #[.agg #[x, y], n]) W:=by
 have q0 : W.cell? ⟨g, 0, none⟩ = some x:=B.cell 0
 have q1 : W.cell? ⟨g, 1, none⟩ = some y:=B.cell 1
 rw [Array.getD_eq_getD_getElem?] at h6 h7
 simp [results, Tryd.results67, go_sem, h6, h7, q0, q1]
set_option maxHeartbeats 1000000 in
theorem readAva_go (s a b x y : ByteArray) (f t : Bool) (w : World) (hs : s.size ≤ 1000000000)
  (C1 : ∀ w, Calls Tryd.prog 77 #[.string s, .string ⟨#[61]⟩] w fun e w'=>e = .returned (.tuple #[.string a, .string b, .bool f]) ∧ Below w.heap.size w w')
  (C2 : ∀ w, Calls Tryd.prog 78 #[.string b] w fun e w'=>e = .returned (.tuple #[.string y, .bool t]) ∧ Below w.heap.size w w')
  (C3 : ∀ w, Calls Tryd.prog 55 #[.string a] w fun e w'=>e = .returned (.string x) ∧ Below w.heap.size w w') :
  Calls Tryd.prog 67 #[.string s] w fun e w'=>e = .returned (.tuple #[.agg #[.string x, .string y], .bool t]) ∧ Below w.heap.size w w':=by
 have H1:=Lib.hid C1
 have H2:=Lib.hid C2
 have H3:=Lib.hid C3
 clear C1 C2 C3
 go_enter Tryd.func67, Tryd.ntmps67
 go_wp2_with fail
 refine (H1.out _).mono ?_
 rintro e w1 ⟨rfl, hb1⟩
 go_wp2_with fail
 refine (H2.out _).mono ?_
 rintro e w2 ⟨rfl, hb2⟩
 have hs1:=hb1.size
 have hb3:=hb1.trans (hb2.mono hs1)
 clear hb1 hb2
 go_wp2_with fail
 refine (H3.out _).mono ?_
 rintro e w3 ⟨rfl, hb4⟩
 have hs3:=hb3.size
 have hb5:=hb3.trans (hb4.mono hs3)
 have B:=(Blk.new w 83 #[.string ⟨#[]⟩, .string ⟨#[]⟩]).past hb5
 have c0 : w3.cell? ⟨w.heap.size, 0, none⟩ = some (.string ⟨#[]⟩):=B.cell 0
 have c1 : w3.cell? ⟨w.heap.size, 1, none⟩ = some (.string ⟨#[]⟩):=B.cell 1
 have f0:=B.frozen 0
 have f1:=B.frozen 1
 have hb6:=((Below.refl w.heap.size w).alloc (Nat.le_refl _) (.cells #[.string ⟨#[]⟩, .string ⟨#[]⟩] 83)).trans (hb5.mono (by simp))
 clear hb4 hb3 hb5
 go_wp2_with fail
 exact bodyPost_ret (res_ava _ w.heap.size _ _ _ _ rfl rfl B.set2) rfl ⟨rfl, (hb6.setCell (p:=⟨w.heap.size, 0, none⟩) (Nat.le_refl _) _).setCell (p:=⟨w.heap.size, 1, none⟩) (Nat.le_refl _) _⟩
theorem ext_to (s : ByteArray) (i : Nat) : Nm.bs (s.extract 0 i) = (Nm.bs s).take i:=by
 show (s.extract 0 i).data.toList = _
 rw [Lib.extract_data]
 simp
theorem ext_from (s : ByteArray) (i : Nat) : Nm.bs (s.extract i s.size) = (Nm.bs s).drop i:=Go.Lib.extract_to_end s i
theorem readAva_any (s : ByteArray) (w : World) (hs : s.size ≤ 1000000000) :
  Calls Tryd.prog 67 #[.string s] w fun e w'=>e = .returned (avaV (Nm.bs s)) ∧ Below w.heap.size w w':=by
 have C1:=fun w=>strcut_any s w hs
 cases he : Nm.eqAt (Nm.bs s) with
 | none =>
  have h1 : eqV s = .tuple #[.string s, .string ⟨#[]⟩, .bool false]:=by unfold eqV; rw [he]
  rw [h1] at C1
  have h2 : avaV (Nm.bs s) = .tuple #[.agg #[.string (Nm.mk (Nm.lower (Nm.bs s))), .string ⟨#[]⟩], .bool true]:=by unfold avaV dnAva; rw [he]
  rw [h2]
  exact readAva_go s s ⟨#[]⟩ _ ⟨#[]⟩ false true w hs C1 (fun w=>readV_any ⟨#[]⟩ w (by decide)) (fun w=>lower_any s w (by omega))
 | some i =>
  have h1 : eqV s = .tuple #[.string (s.extract 0 i), .string (s.extract (i + 1) s.size), .bool true]:=by unfold eqV; rw [he]
  rw [h1] at C1
  have C2:=fun w=>readV_any (s.extract (i + 1) s.size) w (by rw [ByteArray.size_extract]; omega)
  have C3:=fun w=>lower_any (s.extract 0 i) w (by rw [ByteArray.size_extract]; omega)
  rw [ext_from] at C2
  rw [ext_to] at C3
  cases hv : valR ((Nm.bs s).drop (i + 1)) with
  | none =>
   have h2 : avaV (Nm.bs s) = .tuple #[.agg #[.string (Nm.mk (Nm.lower ((Nm.bs s).take i))), .string ⟨#[]⟩], .bool false]:=by unfold avaV dnAva dnAttr; simp only [he, hv]
   rw [h2]
   rw [hv] at C2
   exact readAva_go s _ _ _ _ true false w hs C1 C2 C3
  | some v =>
   have h2 : avaV (Nm.bs s) = .tuple #[.agg #[.string (Nm.mk (Nm.lower ((Nm.bs s).take i))), .string (Nm.mk v)], .bool true]:=by unfold avaV dnAva; simp only [he, hv]
   rw [h2]
   rw [hv] at C2
   exact readAva_go s _ _ _ _ true true w hs C1 C2 C3
end Go.Proofs.YtpnlalfdgngcdaaDoor
