/- FilterBytes: the walk. -/
import Derived.Test.YticfemheneljmaaDoorFlReads
import Derived.Test.YticfemheneljmaaDoorFlBackW
namespace Go.Proofs.YticfemheneljmaaDoor.Fi
open Go.RowKit
set_option linter.unusedVariables false
set_option maxRecDepth 100000

def fb (k : Int) (a b : UInt8) : Fil := .mk k (Nm.mk [115, 110]) (Nm.mk [a, b]) [] []
def fs (a b : UInt8) : Fil := .mk 8 (Nm.mk [115, 110]) (Nm.mk []) [Nm.mk [a, b], Nm.mk [b], Nm.mk []] []
theorem fb_is (a b : UInt8) : isF (fb 4 a b) = true ∧ isF (fb 5 a b) = true ∧ isF (fb 6 a b) = true := ⟨rfl, rfl, rfl⟩
theorem fs_is (a b : UInt8) : isF (fs a b) = true := rfl
theorem fb_lies (k : Int) (a b : UInt8) (w : World) (P : Nat → Prop) : Lies w P (fb k a b) [.int .i64 k, .string ⟨#[115, 110]⟩, .string (Nm.mk [a, b]), .slice none 0 0, .slice none 0 0] :=
  Lies.shut (ks := []) (A := none) (c := 0) (S := none) (sc := 0) (ss := []) (ds := fun _ => []) (by decide) (show 2 ≤ maxLen by decide) (by simp [maxLen]) (Nat.zero_le _) (StrsAt.nil _ _ _) (by simp) (by simp [maxLen]) (Nat.zero_le _) (KidsAt.nil _ _ _ _)
theorem fs_lies (a b : UInt8) (w : World) (g : Nat) (h : Blk w g 9 #[.string (Nm.mk [a, b]), .string (Nm.mk [b]), .string ⟨#[]⟩]) :
    Lies w (· < w.heap.size) (fs a b) [.int .i64 8, .string ⟨#[115, 110]⟩, .string ⟨#[]⟩, .slice (some ⟨g, 0, none⟩) 3 3, .slice none 0 0] := by
  refine Lies.shut (ks := []) (A := none) (c := 0) (S := some ⟨g, 0, none⟩) (sc := 3) (ss := [Nm.mk [a, b], Nm.mk [b], Nm.mk []]) (ds := fun _ => []) (by decide) (by decide) (by simp [maxLen]) (Nat.le_refl _) (fun _ => ⟨_, rfl, h.lt, fun i hi => ?_⟩) (fun s hs => ?_) (by simp [maxLen]) (Nat.zero_le _) (KidsAt.nil _ _ _ _)
  · rw [Addr.add_lit, Nat.zero_add, h.cell i]
    match i, hi with
    | 0, _ => rfl
    | 1, _ => rfl
    | 2, _ => rfl
  · simp only [List.mem_cons, List.not_mem_nil, or_false] at hs
    rcases hs with rfl | rfl | rfl
    · exact (show 2 ≤ maxLen by decide)
    · exact (show 1 ≤ maxLen by decide)
    · exact (show 0 ≤ maxLen by decide)
set_option maxHeartbeats 4000000 in
theorem fbytes0 (w : World) (a b : UInt8) (kd : Int) (k0 : 0 ≤ kd) (k1 : kd ≤ 255) (hk : kd % 4 = 0) :
    Calls Tryd.prog 7 #[.int .u8 a.toNat, .int .u8 b.toNat, .int .u8 kd] w fun r w' => r = .returned (.bool true) ∧ Below w.heap.size w w' := by
  have CK := Lib.hid known_any
  have CI := fun x0 x1 x2 x3 x4 w hL => Is_any (fb 4 a b) x0 x1 x2 x3 x4 w hL
  have CP := fun x0 x1 x2 x3 x4 w hL => Print_any (fb 4 a b) x0 x1 x2 x3 x4 w hL
  have hi : isF (fb 4 a b) = true := (fb_is a b).1
  obtain ⟨hf, htt⟩ := isF_frm hi
  have hpl := pr_len _ hf
  rw [hi] at CI
  rw [print_of hi] at CP
  obtain ⟨P, hP⟩ : ∃ P : ByteArray, P = Nm.mk (pr (fb 4 a b)) := ⟨_, rfl⟩
  have hPz : P.size ≤ 80000 := by rw [hP]; show (pr _).length ≤ _; omega
  have hPb : Nm.bs P = pr (fb 4 a b) := by rw [hP]
  rw [← hP] at CP
  have CA := fun w => parse_any P w (by omega)
  rw [hPb, parse_pr hi] at CA
  have CS := fun x0 x1 x2 x3 x4 y0 y1 y2 y3 y4 w hL hL' => rsame_any (fb 4 a b) (fb 4 a b) x0 x1 x2 x3 x4 y0 y1 y2 y3 y4 w hL hL'
  rw [eqF_self] at CS
  have HI := Lib.hid CI
  have HP := Lib.hid CP
  have HA := Lib.hid CA
  have HS := Lib.hid CS
  clear CI CP CA CS hi hP hf htt hpl hPb
  go_enter Tryd.func7, Tryd.ntmps7
  go_wp2_with fail
  refine (CK.out _).mono ?_
  rintro r w1 ⟨rfl, hb⟩
  have hc2 := conv_blk (w1.alloc (.cells #[.int .u8 (a.toNat : Int), .int .u8 (b.toNat : Int)] 5)) w1.heap.size 2 [a, b] rfl (Blk.new _ _ _)
  have hb1 := hb.alloc hb.size (.cells #[.int .u8 (a.toNat : Int), .int .u8 (b.toNat : Int)] 5)
  have hb2 := hb1.alloc hb1.size (.cells #[.int .i64 4, .string ⟨#[115, 110]⟩, .string (Nm.mk [a, b]), .slice none 0 0, .slice none 0 0] 25)
  have F := Blk.new (w1.alloc (.cells #[.int .u8 (a.toNat : Int), .int .u8 (b.toNat : Int)] 5)) 25 #[.int .i64 4, .string ⟨#[115, 110]⟩, .string (Nm.mk [a, b]), .slice none 0 0, .slice none 0 0]
  rw [show (w1.alloc (.cells #[.int .u8 (a.toNat : Int), .int .u8 (b.toNat : Int)] 5)).heap.size = w1.heap.size + 1 by simp] at F
  have H2 : Hid (One w (w1.heap.size + 1) (fb 4 a b) (.int .i64 4) (.string ⟨#[115, 110]⟩) (.string (Nm.mk [a, b])) (.slice none 0 0) (.slice none 0 0) _) := Lib.hid ⟨F, fb_lies _ _ _ _ _, hb2⟩
  clear hb hb1 hb2 F
  obtain ⟨p0, p1, p2, p3, p4⟩ := five H2.out.1
  go_wp2_with fail
  refine (HP.out _ _ _ _ _ _ H2.out.2.1).mono ?_
  rintro r w3 ⟨rfl, hb⟩
  have H3 := Lib.hid (H2.out.past hb)
  clear p0 p1 p2 p3 p4 hb
  obtain ⟨p0, p1, p2, p3, p4⟩ := five H3.out.1
  go_wp2_with fail
  refine (HA.out _).mono ?_
  rintro r w5 ⟨y0, y1, y2, y3, y4, rfl, hb, hLg⟩
  have H5 := Lib.hid (H3.out.past hb)
  have hLg5 := hLg.imp (w' := w5) (P' := (· < w5.heap.size)) (fun b h => h.2) (fun _ _ => rfl)
  obtain ⟨k', a', v', S', m', d', A', n', c', hcs⟩ := hLg.form
  simp only [List.cons.injEq, and_true] at hcs
  obtain ⟨rfl, rfl, rfl, rfl, rfl⟩ := hcs
  clear p0 p1 p2 p3 p4 hb hLg
  have HG5 := Lib.hid (One.new hLg5)
  have H6 := Lib.hid (H5.out.past ((Below.refl _ _).alloc (Nat.le_refl _) (.cells #[.int .i64 k', .string a', .string v', .slice S' m' d', .slice A' n' c'] 25)))
  obtain ⟨p0, p1, p2, p3, p4⟩ := five H6.out.1
  obtain ⟨q0, q1, q2, q3, q4⟩ := five HG5.out.1
  clear hLg5
  go_wp2_with fail
  refine (HI.out _ _ _ _ _ _ H6.out.2.1).mono ?_
  rintro r w7 ⟨rfl, hb⟩
  have H7 := Lib.hid (H6.out.past hb)
  have HG7 := Lib.hid (HG5.out.past hb)
  clear p0 p1 p2 p3 p4 q0 q1 q2 q3 q4 hb
  obtain ⟨p0, p1, p2, p3, p4⟩ := five H7.out.1
  obtain ⟨q0, q1, q2, q3, q4⟩ := five HG7.out.1
  go_wp2_with fail
  refine (HS.out _ _ _ _ _ _ _ _ _ _ _ H7.out.2.1 HG7.out.2.1).mono ?_
  rintro r w8 ⟨rfl, hb⟩
  have H8 := Lib.hid (H7.out.past hb)
  clear hb
  go_wp2_with fail
  go_ret
  exact ⟨rfl, H8.out.2.2⟩
set_option maxHeartbeats 4000000 in
theorem fbytes1 (w : World) (a b : UInt8) (kd : Int) (k0 : 0 ≤ kd) (k1 : kd ≤ 255) (hk : kd % 4 = 1) :
    Calls Tryd.prog 7 #[.int .u8 a.toNat, .int .u8 b.toNat, .int .u8 kd] w fun r w' => r = .returned (.bool true) ∧ Below w.heap.size w w' := by
  have CK := Lib.hid known_any
  have CI := fun x0 x1 x2 x3 x4 w hL => Is_any (fb 5 a b) x0 x1 x2 x3 x4 w hL
  have CP := fun x0 x1 x2 x3 x4 w hL => Print_any (fb 5 a b) x0 x1 x2 x3 x4 w hL
  have hi : isF (fb 5 a b) = true := (fb_is a b).2.1
  obtain ⟨hf, htt⟩ := isF_frm hi
  have hpl := pr_len _ hf
  rw [hi] at CI
  rw [print_of hi] at CP
  obtain ⟨P, hP⟩ : ∃ P : ByteArray, P = Nm.mk (pr (fb 5 a b)) := ⟨_, rfl⟩
  have hPz : P.size ≤ 80000 := by rw [hP]; show (pr _).length ≤ _; omega
  have hPb : Nm.bs P = pr (fb 5 a b) := by rw [hP]
  rw [← hP] at CP
  have CA := fun w => parse_any P w (by omega)
  rw [hPb, parse_pr hi] at CA
  have CS := fun x0 x1 x2 x3 x4 y0 y1 y2 y3 y4 w hL hL' => rsame_any (fb 5 a b) (fb 5 a b) x0 x1 x2 x3 x4 y0 y1 y2 y3 y4 w hL hL'
  rw [eqF_self] at CS
  have HI := Lib.hid CI
  have HP := Lib.hid CP
  have HA := Lib.hid CA
  have HS := Lib.hid CS
  clear CI CP CA CS hi hP hf htt hpl hPb
  go_enter Tryd.func7, Tryd.ntmps7
  go_wp2_with fail
  refine (CK.out _).mono ?_
  rintro r w1 ⟨rfl, hb⟩
  have hc2 := conv_blk (w1.alloc (.cells #[.int .u8 (a.toNat : Int), .int .u8 (b.toNat : Int)] 5)) w1.heap.size 2 [a, b] rfl (Blk.new _ _ _)
  have hb1 := hb.alloc hb.size (.cells #[.int .u8 (a.toNat : Int), .int .u8 (b.toNat : Int)] 5)
  have hb2 := hb1.alloc hb1.size (.cells #[.int .i64 5, .string ⟨#[115, 110]⟩, .string (Nm.mk [a, b]), .slice none 0 0, .slice none 0 0] 25)
  have F := Blk.new (w1.alloc (.cells #[.int .u8 (a.toNat : Int), .int .u8 (b.toNat : Int)] 5)) 25 #[.int .i64 5, .string ⟨#[115, 110]⟩, .string (Nm.mk [a, b]), .slice none 0 0, .slice none 0 0]
  rw [show (w1.alloc (.cells #[.int .u8 (a.toNat : Int), .int .u8 (b.toNat : Int)] 5)).heap.size = w1.heap.size + 1 by simp] at F
  have H2 : Hid (One w (w1.heap.size + 1) (fb 5 a b) (.int .i64 5) (.string ⟨#[115, 110]⟩) (.string (Nm.mk [a, b])) (.slice none 0 0) (.slice none 0 0) _) := Lib.hid ⟨F, fb_lies _ _ _ _ _, hb2⟩
  clear hb hb1 hb2 F
  obtain ⟨p0, p1, p2, p3, p4⟩ := five H2.out.1
  go_wp2_with fail
  refine (HP.out _ _ _ _ _ _ H2.out.2.1).mono ?_
  rintro r w3 ⟨rfl, hb⟩
  have H3 := Lib.hid (H2.out.past hb)
  clear p0 p1 p2 p3 p4 hb
  obtain ⟨p0, p1, p2, p3, p4⟩ := five H3.out.1
  go_wp2_with fail
  refine (HA.out _).mono ?_
  rintro r w5 ⟨y0, y1, y2, y3, y4, rfl, hb, hLg⟩
  have H5 := Lib.hid (H3.out.past hb)
  have hLg5 := hLg.imp (w' := w5) (P' := (· < w5.heap.size)) (fun b h => h.2) (fun _ _ => rfl)
  obtain ⟨k', a', v', S', m', d', A', n', c', hcs⟩ := hLg.form
  simp only [List.cons.injEq, and_true] at hcs
  obtain ⟨rfl, rfl, rfl, rfl, rfl⟩ := hcs
  clear p0 p1 p2 p3 p4 hb hLg
  have HG5 := Lib.hid (One.new hLg5)
  have H6 := Lib.hid (H5.out.past ((Below.refl _ _).alloc (Nat.le_refl _) (.cells #[.int .i64 k', .string a', .string v', .slice S' m' d', .slice A' n' c'] 25)))
  obtain ⟨p0, p1, p2, p3, p4⟩ := five H6.out.1
  obtain ⟨q0, q1, q2, q3, q4⟩ := five HG5.out.1
  clear hLg5
  go_wp2_with fail
  refine (HI.out _ _ _ _ _ _ H6.out.2.1).mono ?_
  rintro r w7 ⟨rfl, hb⟩
  have H7 := Lib.hid (H6.out.past hb)
  have HG7 := Lib.hid (HG5.out.past hb)
  clear p0 p1 p2 p3 p4 q0 q1 q2 q3 q4 hb
  obtain ⟨p0, p1, p2, p3, p4⟩ := five H7.out.1
  obtain ⟨q0, q1, q2, q3, q4⟩ := five HG7.out.1
  go_wp2_with fail
  refine (HS.out _ _ _ _ _ _ _ _ _ _ _ H7.out.2.1 HG7.out.2.1).mono ?_
  rintro r w8 ⟨rfl, hb⟩
  have H8 := Lib.hid (H7.out.past hb)
  clear hb
  go_wp2_with fail
  go_ret
  exact ⟨rfl, H8.out.2.2⟩
set_option maxHeartbeats 4000000 in
theorem fbytes2 (w : World) (a b : UInt8) (kd : Int) (k0 : 0 ≤ kd) (k1 : kd ≤ 255) (hk : kd % 4 = 2) :
    Calls Tryd.prog 7 #[.int .u8 a.toNat, .int .u8 b.toNat, .int .u8 kd] w fun r w' => r = .returned (.bool true) ∧ Below w.heap.size w w' := by
  have CK := Lib.hid known_any
  have CI := fun x0 x1 x2 x3 x4 w hL => Is_any (fb 6 a b) x0 x1 x2 x3 x4 w hL
  have CP := fun x0 x1 x2 x3 x4 w hL => Print_any (fb 6 a b) x0 x1 x2 x3 x4 w hL
  have hi : isF (fb 6 a b) = true := (fb_is a b).2.2
  obtain ⟨hf, htt⟩ := isF_frm hi
  have hpl := pr_len _ hf
  rw [hi] at CI
  rw [print_of hi] at CP
  obtain ⟨P, hP⟩ : ∃ P : ByteArray, P = Nm.mk (pr (fb 6 a b)) := ⟨_, rfl⟩
  have hPz : P.size ≤ 80000 := by rw [hP]; show (pr _).length ≤ _; omega
  have hPb : Nm.bs P = pr (fb 6 a b) := by rw [hP]
  rw [← hP] at CP
  have CA := fun w => parse_any P w (by omega)
  rw [hPb, parse_pr hi] at CA
  have CS := fun x0 x1 x2 x3 x4 y0 y1 y2 y3 y4 w hL hL' => rsame_any (fb 6 a b) (fb 6 a b) x0 x1 x2 x3 x4 y0 y1 y2 y3 y4 w hL hL'
  rw [eqF_self] at CS
  have HI := Lib.hid CI
  have HP := Lib.hid CP
  have HA := Lib.hid CA
  have HS := Lib.hid CS
  clear CI CP CA CS hi hP hf htt hpl hPb
  go_enter Tryd.func7, Tryd.ntmps7
  go_wp2_with fail
  refine (CK.out _).mono ?_
  rintro r w1 ⟨rfl, hb⟩
  have hc2 := conv_blk (w1.alloc (.cells #[.int .u8 (a.toNat : Int), .int .u8 (b.toNat : Int)] 5)) w1.heap.size 2 [a, b] rfl (Blk.new _ _ _)
  have hb1 := hb.alloc hb.size (.cells #[.int .u8 (a.toNat : Int), .int .u8 (b.toNat : Int)] 5)
  have hb2 := hb1.alloc hb1.size (.cells #[.int .i64 6, .string ⟨#[115, 110]⟩, .string (Nm.mk [a, b]), .slice none 0 0, .slice none 0 0] 25)
  have F := Blk.new (w1.alloc (.cells #[.int .u8 (a.toNat : Int), .int .u8 (b.toNat : Int)] 5)) 25 #[.int .i64 6, .string ⟨#[115, 110]⟩, .string (Nm.mk [a, b]), .slice none 0 0, .slice none 0 0]
  rw [show (w1.alloc (.cells #[.int .u8 (a.toNat : Int), .int .u8 (b.toNat : Int)] 5)).heap.size = w1.heap.size + 1 by simp] at F
  have H2 : Hid (One w (w1.heap.size + 1) (fb 6 a b) (.int .i64 6) (.string ⟨#[115, 110]⟩) (.string (Nm.mk [a, b])) (.slice none 0 0) (.slice none 0 0) _) := Lib.hid ⟨F, fb_lies _ _ _ _ _, hb2⟩
  clear hb hb1 hb2 F
  obtain ⟨p0, p1, p2, p3, p4⟩ := five H2.out.1
  go_wp2_with fail
  refine (HP.out _ _ _ _ _ _ H2.out.2.1).mono ?_
  rintro r w3 ⟨rfl, hb⟩
  have H3 := Lib.hid (H2.out.past hb)
  clear p0 p1 p2 p3 p4 hb
  obtain ⟨p0, p1, p2, p3, p4⟩ := five H3.out.1
  go_wp2_with fail
  refine (HA.out _).mono ?_
  rintro r w5 ⟨y0, y1, y2, y3, y4, rfl, hb, hLg⟩
  have H5 := Lib.hid (H3.out.past hb)
  have hLg5 := hLg.imp (w' := w5) (P' := (· < w5.heap.size)) (fun b h => h.2) (fun _ _ => rfl)
  obtain ⟨k', a', v', S', m', d', A', n', c', hcs⟩ := hLg.form
  simp only [List.cons.injEq, and_true] at hcs
  obtain ⟨rfl, rfl, rfl, rfl, rfl⟩ := hcs
  clear p0 p1 p2 p3 p4 hb hLg
  have HG5 := Lib.hid (One.new hLg5)
  have H6 := Lib.hid (H5.out.past ((Below.refl _ _).alloc (Nat.le_refl _) (.cells #[.int .i64 k', .string a', .string v', .slice S' m' d', .slice A' n' c'] 25)))
  obtain ⟨p0, p1, p2, p3, p4⟩ := five H6.out.1
  obtain ⟨q0, q1, q2, q3, q4⟩ := five HG5.out.1
  clear hLg5
  go_wp2_with fail
  refine (HI.out _ _ _ _ _ _ H6.out.2.1).mono ?_
  rintro r w7 ⟨rfl, hb⟩
  have H7 := Lib.hid (H6.out.past hb)
  have HG7 := Lib.hid (HG5.out.past hb)
  clear p0 p1 p2 p3 p4 q0 q1 q2 q3 q4 hb
  obtain ⟨p0, p1, p2, p3, p4⟩ := five H7.out.1
  obtain ⟨q0, q1, q2, q3, q4⟩ := five HG7.out.1
  go_wp2_with fail
  refine (HS.out _ _ _ _ _ _ _ _ _ _ _ H7.out.2.1 HG7.out.2.1).mono ?_
  rintro r w8 ⟨rfl, hb⟩
  have H8 := Lib.hid (H7.out.past hb)
  clear hb
  go_wp2_with fail
  go_ret
  exact ⟨rfl, H8.out.2.2⟩
set_option maxHeartbeats 4000000 in
theorem fbytes3 (w : World) (a b : UInt8) (kd : Int) (k0 : 0 ≤ kd) (k1 : kd ≤ 255) (hk : kd % 4 = 3) :
    Calls Tryd.prog 7 #[.int .u8 a.toNat, .int .u8 b.toNat, .int .u8 kd] w fun r w' => r = .returned (.bool true) ∧ Below w.heap.size w w' := by
  have CK := Lib.hid known_any
  have CI := fun x0 x1 x2 x3 x4 w hL => Is_any (fs a b) x0 x1 x2 x3 x4 w hL
  have CP := fun x0 x1 x2 x3 x4 w hL => Print_any (fs a b) x0 x1 x2 x3 x4 w hL
  have hi : isF (fs a b) = true := fs_is a b
  obtain ⟨hf, htt⟩ := isF_frm hi
  have hpl := pr_len _ hf
  rw [hi] at CI
  rw [print_of hi] at CP
  obtain ⟨P, hP⟩ : ∃ P : ByteArray, P = Nm.mk (pr (fs a b)) := ⟨_, rfl⟩
  have hPz : P.size ≤ 80000 := by rw [hP]; show (pr _).length ≤ _; omega
  have hPb : Nm.bs P = pr (fs a b) := by rw [hP]
  rw [← hP] at CP
  have CA := fun w => parse_any P w (by omega)
  rw [hPb, parse_pr hi] at CA
  have CS := fun x0 x1 x2 x3 x4 y0 y1 y2 y3 y4 w hL hL' => rsame_any (fs a b) (fs a b) x0 x1 x2 x3 x4 y0 y1 y2 y3 y4 w hL hL'
  rw [eqF_self] at CS
  have HI := Lib.hid CI
  have HP := Lib.hid CP
  have HA := Lib.hid CA
  have HS := Lib.hid CS
  clear CI CP CA CS hi hP hf htt hpl hPb
  go_enter Tryd.func7, Tryd.ntmps7
  go_wp2_with fail
  refine (CK.out _).mono ?_
  rintro r w1 ⟨rfl, hb⟩
  have hc2 := conv_blk (w1.alloc (.cells #[.int .u8 (a.toNat : Int), .int .u8 (b.toNat : Int)] 5)) w1.heap.size 2 [a, b] rfl (Blk.new _ _ _)
  have F4 := Blk.new ((w1.alloc (.cells #[.int .u8 (a.toNat : Int), .int .u8 (b.toNat : Int)] 5)).alloc (.cells #[.int .i64 4, .string ⟨#[115, 110]⟩, .string (Nm.mk [a, b]), .slice none 0 0, .slice none 0 0] 25)) 5 #[.int .u8 (b.toNat : Int)]
  rw [show ((w1.alloc (.cells #[.int .u8 (a.toNat : Int), .int .u8 (b.toNat : Int)] 5)).alloc (.cells #[.int .i64 4, .string ⟨#[115, 110]⟩, .string (Nm.mk [a, b]), .slice none 0 0, .slice none 0 0] 25)).heap.size = w1.heap.size + 1 + 1 by simp] at F4
  have hc3 := conv_blk _ (w1.heap.size + 1 + 1) 1 [b] rfl F4
  have W1 := hb.alloc hb.size (.cells #[.int .u8 (a.toNat : Int), .int .u8 (b.toNat : Int)] 5)
  have W2 := W1.alloc W1.size (.cells #[.int .i64 8, .string ⟨#[115, 110]⟩, .string ⟨#[]⟩, .slice (some ⟨w1.heap.size + 1 + 1 + 1, 0, none⟩) 3 3, .slice none 0 0] 25)
  have W3 := W2.alloc W2.size (.cells #[.int .u8 (b.toNat : Int)] 5)
  have W4 := W3.alloc W3.size (.cells #[.string (Nm.mk [a, b]), .string (Nm.mk [b]), .string ⟨#[]⟩] 9)
  have F := ((Blk.new (w1.alloc (.cells #[.int .u8 (a.toNat : Int), .int .u8 (b.toNat : Int)] 5)) 25 #[.int .i64 8, .string ⟨#[115, 110]⟩, .string ⟨#[]⟩, .slice (some ⟨w1.heap.size + 1 + 1 + 1, 0, none⟩) 3 3, .slice none 0 0]).alloc (.cells #[.int .u8 (b.toNat : Int)] 5)).alloc (.cells #[.string (Nm.mk [a, b]), .string (Nm.mk [b]), .string ⟨#[]⟩] 9)
  rw [show (w1.alloc (.cells #[.int .u8 (a.toNat : Int), .int .u8 (b.toNat : Int)] 5)).heap.size = w1.heap.size + 1 by simp] at F
  have G := Blk.new (((w1.alloc (.cells #[.int .u8 (a.toNat : Int), .int .u8 (b.toNat : Int)] 5)).alloc (.cells #[.int .i64 8, .string ⟨#[115, 110]⟩, .string ⟨#[]⟩, .slice (some ⟨w1.heap.size + 1 + 1 + 1, 0, none⟩) 3 3, .slice none 0 0] 25)).alloc (.cells #[.int .u8 (b.toNat : Int)] 5)) 9 #[.string (Nm.mk [a, b]), .string (Nm.mk [b]), .string ⟨#[]⟩]
  rw [show (((w1.alloc (.cells #[.int .u8 (a.toNat : Int), .int .u8 (b.toNat : Int)] 5)).alloc (.cells #[.int .i64 8, .string ⟨#[115, 110]⟩, .string ⟨#[]⟩, .slice (some ⟨w1.heap.size + 1 + 1 + 1, 0, none⟩) 3 3, .slice none 0 0] 25)).alloc (.cells #[.int .u8 (b.toNat : Int)] 5)).heap.size = w1.heap.size + 1 + 1 + 1 by simp] at G
  have H2 : Hid (One w (w1.heap.size + 1) (fs a b) (.int .i64 8) (.string ⟨#[115, 110]⟩) (.string ⟨#[]⟩) (.slice (some ⟨w1.heap.size + 1 + 1 + 1, 0, none⟩) 3 3) (.slice none 0 0) _) := Lib.hid ⟨F, fs_lies _ _ _ _ G, W4⟩
  clear hb W1 W2 W3 W4 F G F4
  obtain ⟨p0, p1, p2, p3, p4⟩ := five H2.out.1
  go_wp2_with fail
  refine (HP.out _ _ _ _ _ _ H2.out.2.1).mono ?_
  rintro r w3 ⟨rfl, hb⟩
  have H3 := Lib.hid (H2.out.past hb)
  clear p0 p1 p2 p3 p4 hb
  obtain ⟨p0, p1, p2, p3, p4⟩ := five H3.out.1
  go_wp2_with fail
  refine (HA.out _).mono ?_
  rintro r w5 ⟨y0, y1, y2, y3, y4, rfl, hb, hLg⟩
  have H5 := Lib.hid (H3.out.past hb)
  have hLg5 := hLg.imp (w' := w5) (P' := (· < w5.heap.size)) (fun b h => h.2) (fun _ _ => rfl)
  obtain ⟨k', a', v', S', m', d', A', n', c', hcs⟩ := hLg.form
  simp only [List.cons.injEq, and_true] at hcs
  obtain ⟨rfl, rfl, rfl, rfl, rfl⟩ := hcs
  clear p0 p1 p2 p3 p4 hb hLg
  have HG5 := Lib.hid (One.new hLg5)
  have H6 := Lib.hid (H5.out.past ((Below.refl _ _).alloc (Nat.le_refl _) (.cells #[.int .i64 k', .string a', .string v', .slice S' m' d', .slice A' n' c'] 25)))
  obtain ⟨p0, p1, p2, p3, p4⟩ := five H6.out.1
  obtain ⟨q0, q1, q2, q3, q4⟩ := five HG5.out.1
  clear hLg5
  go_wp2_with fail
  refine (HI.out _ _ _ _ _ _ H6.out.2.1).mono ?_
  rintro r w7 ⟨rfl, hb⟩
  have H7 := Lib.hid (H6.out.past hb)
  have HG7 := Lib.hid (HG5.out.past hb)
  clear p0 p1 p2 p3 p4 q0 q1 q2 q3 q4 hb
  obtain ⟨p0, p1, p2, p3, p4⟩ := five H7.out.1
  obtain ⟨q0, q1, q2, q3, q4⟩ := five HG7.out.1
  go_wp2_with fail
  refine (HS.out _ _ _ _ _ _ _ _ _ _ _ H7.out.2.1 HG7.out.2.1).mono ?_
  rintro r w8 ⟨rfl, hb⟩
  have H8 := Lib.hid (H7.out.past hb)
  clear hb
  go_wp2_with fail
  go_ret
  exact ⟨rfl, H8.out.2.2⟩
theorem walk_FilterBytes (a : Int) (ha : (Lit.int .u8 a).wf = true) (b : Int) (hb : (Lit.int .u8 b).wf = true) (c : Int) (hc : (Lit.int .u8 c).wf = true) (w : World) :
    Calls Tryd.prog 7 #[.int .u8 a, .int .u8 b, .int .u8 c] w fun r w' => r = .returned (.bool true) ∧ Below w.heap.size w w' := by
  obtain ⟨x, rfl⟩ := u8_of (a := a) (by simpa [Lit.wf, IntKind.min, IntKind.max, IntKind.signed, IntKind.bits] using ha)
  obtain ⟨y, rfl⟩ := u8_of (a := b) (by simpa [Lit.wf, IntKind.min, IntKind.max, IntKind.signed, IntKind.bits] using hb)
  have h2 : 0 ≤ c ∧ c ≤ 255 := by simpa [Lit.wf, IntKind.min, IntKind.max, IntKind.signed, IntKind.bits] using hc
  obtain h | h | h | h : c % 4 = 0 ∨ c % 4 = 1 ∨ c % 4 = 2 ∨ c % 4 = 3 := by omega
  · exact fbytes0 w x y c h2.1 h2.2 h
  · exact fbytes1 w x y c h2.1 h2.2 h
  · exact fbytes2 w x y c h2.1 h2.2 h
  · exact fbytes3 w x y c h2.1 h2.2 h
end Go.Proofs.YticfemheneljmaaDoor.Fi
