import Derived.Test.YtbnebpdpeegpbaaDoorZS10
set_option linter.unusedVariables false
set_option maxRecDepth 100000
namespace Go.Proofs.YtbnebpdpeegpbaaDoor.Cs
open Go.RowKit
theorem wf8 {n : Int} (h : (Lit.int .u8 n).wf = true) : 0 ≤ n ∧ n ≤ 255:=by
 simpa [Lit.wf, IntKind.min, IntKind.max, IntKind.signed, IntKind.bits] using h
theorem wf16 {n : Int} (h : (Lit.int .u16 n).wf = true) : 0 ≤ n ∧ n ≤ 65535:=by
 simpa [Lit.wf, IntKind.min, IntKind.max, IntKind.signed, IntKind.bits] using h
theorem spill_seen (at_ K : Int) (h0 : 0 ≤ at_) (h1 : at_ ≤ 1099511627776) (k0 : 0 ≤ K) : seen 0 0 at_ 65534 ((K + 1) % 6) = (at_, 65534):=by
 unfold seen
 rw [if_pos ⟨decide_eq_true (by omega), decide_eq_true (by omega)⟩]
theorem spill_one (at_ : Int) (h0 : 0 ≤ at_) : nxt at_ 65534 0 = (at_, 65535):=by unfold nxt; rw [if_pos h0, if_pos (by decide)]; rfl
theorem spill_two (at_ : Int) (h0 : 0 ≤ at_) : nxt at_ 65535 0 = (at_ + 1, 0):=by unfold nxt; rw [if_pos h0, if_neg (by decide)]
set_option maxHeartbeats 4000000 in
theorem walk_CsnSpills (rep : Int) (hr : (Lit.int .u8 rep).wf = true) (t : Int) (ht : (Lit.int .u16 t).wf = true) (last : Bool) (w : World) (hG : Glob w) :
  Calls Tryd.prog 6 #[.int .u8 rep, .int .u16 t, .bool last] w fun r w'=>r = .returned (.bool true) ∧ Below w.heap.size w w':=by
 obtain ⟨r0, r1⟩:=wf8 hr
 obtain ⟨t0, t1⟩:=wf16 ht
 obtain ⟨K, hK, k0, k5⟩ : ∃ K : Int, rep % 6 = K ∧ 0 ≤ K ∧ K ≤ 5:=⟨rep % 6, rfl, by omega, by omega⟩
 obtain ⟨J, hJ⟩ : ∃ J : Int, (K + 1) % 6 = J:=⟨_, rfl⟩
 have CN:=New_any K
 rw [show max 0 (min K 5) = K by omega] at CN
 have CN:=Lib.hid CN
 have HK:=Lib.hid (known_any w hG)
 have CL:=Lib.hid Last_any
 clear hr ht hG
 cases last
 case true =>
  have S1:=fun g=>Lib.hid (see_to g 0 0 K 1099511627776 65534 J 1099511627776 65534 (hJ ▸ spill_seen (1099511627776) K (by omega) (by omega) k0))
  have N1:=fun g=>Lib.hid (next_ok g 1099511627776 65534 K 0 1099511627776 65535 (by omega) (by omega) (by omega) (spill_one (1099511627776) (by omega)) (by omega))
  have N2:=fun g=>Lib.hid (next_bad g 1099511627776 65535 K 0 (1099511627776 + 1) 0 (by omega) (by omega) (by omega) (spill_two (1099511627776) (by omega)) (by omega))
  have HS1:=Lib.hid S1
  have HN1:=Lib.hid N1
  have HN2:=Lib.hid N2
  clear S1 N1 N2
  go_enter Tryd.func6, Tryd.ntmps6
  go_wp2_with fail
  refine HK.out.mono ?_
  rintro e w0 ⟨rfl, hw0⟩
  have hz0:=hw0.size
  go_wp2_with fail
  refine (CN.out _).mono ?_
  rintro e w1 ⟨rfl, BG0, hb0', -⟩
  have hb0:=hw0.trans (hb0'.mono hz0)
  have hgs : w.heap.size ≤ w0.heap.size:=hz0
  obtain ⟨g, hg⟩ : ∃ g, g = w0.heap.size:=⟨_, rfl⟩
  have Hg:=Lib.hid (show w.heap.size ≤ g by omega)
  rw [← hg] at BG0
  rw [← hg]
  have S1:=HS1.out g
  have N1:=HN1.out g
  have N2:=HN2.out g
  have CLg:=Lib.hid (CL.out g)
  clear hg hw0 hb0' HK CN hgs hz0 HS1 HN1 HN2
  go_wp2_with fail
  refine (S1.out _ BG0).mono ?_
  rintro e w2 ⟨rfl, ht, BGx⟩
  have hbx:=turned_below Hg.out hb0 ht
  clear ht BG0 hb0 S1
  have BG1:=BGx
  have hb1:=hbx
  clear BGx hbx
  go_wp2_with fail
  refine (N1.out _ BG1).mono ?_
  rintro e w3 ⟨rfl, ht, BGx⟩
  have hbx:=turned_below Hg.out hb1 ht
  clear ht BG1 hb1 N1
  have hz:=hbx.size
  have BG2:=BGx.alloc (.cells (gc (1099511627776) 65535 K) 23)
  have BA:=Blk.new w3 23 (gc (1099511627776) 65535 K)
  have BAn : w3.heap.size ≠ g:=Nat.ne_of_gt BGx.lt
  have hb2:=hbx.alloc hz (.cells (gc (1099511627776) 65535 K) 23)
  clear hbx BGx hz
  go_wp2_with fail
  refine (N2.out _ BG2).mono ?_
  rintro e w4 ⟨rfl, ht, BGx⟩
  have hbx:=turned_below Hg.out hb2 ht
  have BAx:=ht.blk BA BAn
  clear ht BG2 hb2 N2 BA
  have hz:=hbx.size
  have BG3:=BGx.alloc (.cells (gc 0 0 0) 23)
  have BA:=BAx.alloc (.cells (gc 0 0 0) 23)
  have BB:=Blk.new w4 23 (gc 0 0 0)
  have BBn : w4.heap.size ≠ g:=Nat.ne_of_gt BGx.lt
  have hb3:=hbx.alloc hz (.cells (gc 0 0 0) 23)
  clear hbx BGx hz BAx
  have a0 : (w4.alloc (.cells (gc 0 0 0) 23)).cell? ⟨w3.heap.size, 0, none⟩ = some (.int .i64 (1099511627776)):=BA.cell 0
  have a1 : (w4.alloc (.cells (gc 0 0 0) 23)).cell? ⟨w3.heap.size, 1, none⟩ = some (.int .i64 (65535)):=BA.cell 1
  have a2 : (w4.alloc (.cells (gc 0 0 0) 23)).cell? ⟨w3.heap.size, 2, none⟩ = some (.int .i64 (K)):=BA.cell 2
  have b0 : (w4.alloc (.cells (gc 0 0 0) 23)).cell? ⟨w4.heap.size, 0, none⟩ = some (.int .i64 (0)):=BB.cell 0
  have b1 : (w4.alloc (.cells (gc 0 0 0) 23)).cell? ⟨w4.heap.size, 1, none⟩ = some (.int .i64 (0)):=BB.cell 1
  have b2 : (w4.alloc (.cells (gc 0 0 0) 23)).cell? ⟨w4.heap.size, 2, none⟩ = some (.int .i64 (0)):=BB.cell 2
  go_wp2_with fail
  first | (go_region_held3 (fun w'=>w'.cell? ⟨w3.heap.size, 0, none⟩ = some (.int .i64 1099511627776) ∧ w'.cell? ⟨w3.heap.size, 1, none⟩ = some (.int .i64 65535) ∧ w'.cell? ⟨w3.heap.size, 2, none⟩ = some (.int .i64 K)) (first | exact ⟨BA.drew.cell 0, BA.drew.cell 1, BA.drew.cell 2⟩ | exact ⟨BA9.cell 0, BA9.cell 1, BA9.cell 2⟩) (first | (go_at_call 23; refine (CLg.out _ _ _ _ BG3.drew).mono ?_; rintro e9 w9 ⟨rfl, hb9⟩; have BA9:=BA.drew.past hb9; have hc9:=(hb3.drew).trans (hb9.mono hb3.drew.size)))) | fail
  go_wp2_with fail
  go_ret
  exact ⟨rfl, hc9⟩
 case false =>
  have S1:=fun g=>Lib.hid (see_to g 0 0 K t 65534 J t 65534 (hJ ▸ spill_seen (t) K (by omega) (by omega) k0))
  have N1:=fun g=>Lib.hid (next_ok g t 65534 K 0 t 65535 (by omega) (by omega) (by omega) (spill_one (t) (by omega)) (by omega))
  have N2:=fun g=>Lib.hid (next_ok g t 65535 K 0 (t + 1) 0 (by omega) (by omega) (by omega) (spill_two (t) (by omega)) (by omega))
  have HS1:=Lib.hid S1
  have HN1:=Lib.hid N1
  have HN2:=Lib.hid N2
  clear S1 N1 N2
  go_enter Tryd.func6, Tryd.ntmps6
  go_wp2_with fail
  refine HK.out.mono ?_
  rintro e w0 ⟨rfl, hw0⟩
  have hz0:=hw0.size
  go_wp2_with fail
  refine (CN.out _).mono ?_
  rintro e w1 ⟨rfl, BG0, hb0', -⟩
  have hb0:=hw0.trans (hb0'.mono hz0)
  have hgs : w.heap.size ≤ w0.heap.size:=hz0
  obtain ⟨g, hg⟩ : ∃ g, g = w0.heap.size:=⟨_, rfl⟩
  have Hg:=Lib.hid (show w.heap.size ≤ g by omega)
  rw [← hg] at BG0
  rw [← hg]
  have S1:=HS1.out g
  have N1:=HN1.out g
  have N2:=HN2.out g
  have CLg:=Lib.hid (CL.out g)
  clear hg hw0 hb0' HK CN hgs hz0 HS1 HN1 HN2
  go_wp2_with fail
  refine (S1.out _ BG0).mono ?_
  rintro e w2 ⟨rfl, ht, BGx⟩
  have hbx:=turned_below Hg.out hb0 ht
  clear ht BG0 hb0 S1
  have BG1:=BGx
  have hb1:=hbx
  clear BGx hbx
  go_wp2_with fail
  refine (N1.out _ BG1).mono ?_
  rintro e w3 ⟨rfl, ht, BGx⟩
  have hbx:=turned_below Hg.out hb1 ht
  clear ht BG1 hb1 N1
  have hz:=hbx.size
  have BG2:=BGx.alloc (.cells (gc (t) 65535 K) 23)
  have BA:=Blk.new w3 23 (gc (t) 65535 K)
  have BAn : w3.heap.size ≠ g:=Nat.ne_of_gt BGx.lt
  have hb2:=hbx.alloc hz (.cells (gc (t) 65535 K) 23)
  clear hbx BGx hz
  go_wp2_with fail
  refine (N2.out _ BG2).mono ?_
  rintro e w4 ⟨rfl, ht, BGx⟩
  have hbx:=turned_below Hg.out hb2 ht
  have BAx:=ht.blk BA BAn
  clear ht BG2 hb2 N2 BA
  have hz:=hbx.size
  have BG3:=BGx.alloc (.cells (gc (t + 1) 0 K) 23)
  have BA:=BAx.alloc (.cells (gc (t + 1) 0 K) 23)
  have BB:=Blk.new w4 23 (gc (t + 1) 0 K)
  have BBn : w4.heap.size ≠ g:=Nat.ne_of_gt BGx.lt
  have hb3:=hbx.alloc hz (.cells (gc (t + 1) 0 K) 23)
  clear hbx BGx hz BAx
  have a0 : (w4.alloc (.cells (gc (t + 1) 0 K) 23)).cell? ⟨w3.heap.size, 0, none⟩ = some (.int .i64 (t)):=BA.cell 0
  have a1 : (w4.alloc (.cells (gc (t + 1) 0 K) 23)).cell? ⟨w3.heap.size, 1, none⟩ = some (.int .i64 (65535)):=BA.cell 1
  have a2 : (w4.alloc (.cells (gc (t + 1) 0 K) 23)).cell? ⟨w3.heap.size, 2, none⟩ = some (.int .i64 (K)):=BA.cell 2
  have b0 : (w4.alloc (.cells (gc (t + 1) 0 K) 23)).cell? ⟨w4.heap.size, 0, none⟩ = some (.int .i64 (t + 1)):=BB.cell 0
  have b1 : (w4.alloc (.cells (gc (t + 1) 0 K) 23)).cell? ⟨w4.heap.size, 1, none⟩ = some (.int .i64 (0)):=BB.cell 1
  have b2 : (w4.alloc (.cells (gc (t + 1) 0 K) 23)).cell? ⟨w4.heap.size, 2, none⟩ = some (.int .i64 (K)):=BB.cell 2
  go_wp2_with fail
  go_ret
  exact ⟨rfl, hb3⟩
end Go.Proofs.YtbnebpdpeegpbaaDoor.Cs
